/-
  The program's chapter 4: PiecesOf and PieceAt, at every argument.
-/
import Derived.Test.YthabkkboodhbmaaI4
namespace Go.Proofs.Ythabkkboodhbmaa
open Go.RowKit

set_option maxRecDepth 100000 in
set_option maxHeartbeats 400000 in
theorem iPiecesOf_any (s : ByteArray) (w : World) :
    Calls Try.prog 23 #[.string s] w fun e w' => ∃ v, e = .returned (.tuple #[v, .bool (thingB s)]) ∧ Own w' w.heap.size v (piecesI s) ∧ Below w.heap.size w w' := by
  by_cases h : s.size ≤ 96
  · have hb : thingB s = true := by simpa [thingB] using h
    rw [hb, piecesI, if_pos hb]
    exact iPieces s w h
  · have hb : thingB s = false := by simpa [thingB] using h
    have HE : Hid (piecesI s = []) := by show _ = _; rw [piecesI, hb]; rfl
    have hlo : longOkB (s.size : Int) = false := inB_not (by omega)
    rw [hb]
    go_enter Try.func23, Try.ntmps23
    go_wp2_with (go_at_call 48; refine (iGoodLong _ _).mono ?_; rintro e w' ⟨rfl, rfl⟩)
    go_ret2
    exact ⟨_, rfl, by rw [HE.out]; exact Own.nil _ _, Below.refl _ _⟩

theorem pieceOk_iff (s : ByteArray) (k : Int) : pieceOkB s k = (decide (0 ≤ k) && decide (k < ((piecesI s).length : Int))) := by
  rw [pieceOkB]
  cases hb : thingB s
  · have HE : piecesI s = [] := by rw [piecesI, hb]; rfl
    rw [HE]
    cases h : decide (0 ≤ k)
    · simp
    · simp at h
      simp
      omega
  · have e : inB k 0 ((piecesI s).length - 1) = (decide (0 ≤ k) && decide (k ≤ ((piecesI s).length : Int) - 1)) := rfl
    rw [Bool.true_and, e]
    congr 1
    by_cases h : k < ((piecesI s).length : Int)
    · rw [decide_eq_true h, decide_eq_true (by omega)]
    · rw [decide_eq_false h, decide_eq_false (by omega)]

set_option maxRecDepth 100000 in
set_option maxHeartbeats 1000000 in
theorem iPieceAt_any (s : ByteArray) (k : Int) (w : World) :
    Calls Try.prog 33 #[.string s, .int .i64 k] w fun e w' => e = .returned (.tuple #[.int .i64 (pieceI s k), .bool (pieceOkB s k)]) ∧ Below w.heap.size w w' := by
  have hlen := piecesI_len s
  have HV : Hid (pieceI s k = if pieceOkB s k = true then (piecesI s).getD k.toNat 0 else 0) := rfl
  have HOk := Lib.hid (pieceOk_iff s k)
  have HP := Lib.hid (iPiecesOf_any s w)
  generalize piecesI s = zs at *
  go_enter Try.func33, Try.ntmps33
  go_wp2_with fail
  refine HP.out.mono ?_
  rintro e w1 ⟨v1, rfl, ho1, hb1⟩
  obtain ⟨A1, c1, rfl, hI1⟩ := ho1.form
  have HI1 := Lib.hid hI1
  clear ho1 hI1 HP
  by_cases h0 : 0 ≤ k
  · have hn0 : ¬ k < 0 := by omega
    by_cases hlt : k < (zs.length : Int)
    · have HE : Hid (pieceOkB s k = true) := by show _ = _; rw [HOk.out]; simp [h0, hlt]
      obtain ⟨n, rfl⟩ := Int.eq_ofNat_of_zero_le h0
      have hn : n < zs.length := by omega
      obtain ⟨b3, o3, rfl, hc3⟩ := HI1.out (by rintro rfl; simp at hn)
      have hcz := hc3 n hn
      have HV2 : Hid (pieceI s (n : Int) = zs.getD n 0) := by show _ = _; rw [HV.out, if_pos HE.out, Int.toNat_natCast]
      generalize zs.getD n 0 = z at *
      clear hc3
      go_wp2_with fail
      go_ret2
      exact ⟨tupJ HV2.out.symm HE.out.symm, hb1⟩
    · have HE : Hid (pieceOkB s k = false) := by show _ = _; rw [HOk.out]; simp [hlt]
      go_wp2_with fail
      go_ret2
      exact ⟨tupJ (by rw [HV.out, HE.out]; rfl) HE.out.symm, hb1⟩
  · have hn0 : k < 0 := by omega
    have HE : Hid (pieceOkB s k = false) := by show _ = _; rw [HOk.out]; simp [h0]
    go_wp2_with fail
    go_ret2
    exact ⟨tupJ (by rw [HV.out, HE.out]; rfl) HE.out.symm, hb1⟩
end Go.Proofs.Ythabkkboodhbmaa
