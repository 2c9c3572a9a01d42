/-
  The program's chapter 4: CutThing, at every argument.
-/
import Derived.Test.YthabkkboodhbmaaI8
namespace Go.Proofs.Ythabkkboodhbmaa
open Go.RowKit

set_option maxRecDepth 100000 in
set_option maxHeartbeats 1000000 in
theorem iCutThing_any (s : ByteArray) (w : World) :
    Calls Try.prog 13 #[.string s] w fun e w' => ∃ v L, e = .returned (.tuple #[v, .bool (thingB s)]) ∧ OwnB w' w.heap.size v L ∧ blks L = cutTI s ∧ Below w.heap.size w w' := by
  by_cases h : 1 ≤ s.size ∧ s.size ≤ 96
  · have hb : thingB s = true := by simpa [thingB] using h.2
    rw [hb, cutTI, if_pos hb]
    exact iCut s w h.2 h.1
  · have HBf : Hid (blocksI (s.size : Int) = 0) := by
      show _ = _
      rw [blocksI]
      split
      · rename_i hl
        have h2 : (s.size : Int) ≤ 96 := by have : 0 ≤ (s.size : Int) ∧ (s.size : Int) ≤ 96 := by simpa [longOkB, inB] using hl
                                            exact this.2
        rw [Int.toNat_natCast, show s.size = 0 by omega]; rfl
      · rfl
    have HC : Hid (cutTI s = []) := by
      show _ = _
      rw [cutTI]
      split
      · rename_i hl
        have h2 : s.size ≤ 96 := by simpa [thingB] using hl
        apply List.eq_nil_of_length_eq_zero
        rw [cutI_length, bsL_length, show s.size = 0 by omega]; rfl
      · rfl
    have HBk := Lib.hid (iBlocks_any (s.size : Int))
    rw [HBf.out] at HBk
    have hlen := piecesI_len s
    have HPc := Lib.hid (iPiecesOf_any s w)
    have HPt := Lib.hid (fun w => iPart_any ((piecesI s).length : Nat) 0 w)
    have hpno : partOkB ((piecesI s).length : Nat) 0 = false := by
      rw [partOkB, show inB (0 : Int) 1 ((piecesI s).length : Nat) = false from inB_not (by omega)]
      simp
    obtain ⟨e1, e2, e3, e4⟩ := partBad hpno
    rw [hpno, e1, e2, e3, e4] at HPt
    clear h hpno e1 e2 e3 e4
    generalize piecesI s = zs at *
    generalize thingB s = th at *
    generalize longOkB (s.size : Int) = lo at *
    go_enter Try.func13, Try.ntmps13
    go_wp2_with fail
    refine HPc.out.mono ?_
    rintro e w1 ⟨v1, rfl, ho1, hb1⟩
    obtain ⟨A1, c1, rfl, _⟩ := ho1.form
    have HB1 := Lib.hid hb1
    clear ho1 hb1 HPc
    go_wp2_with fail
    refine (HBk.out _).mono ?_
    rintro e w2 ⟨rfl, rfl⟩
    go_wp2_with fail
    refine (HPt.out _).mono ?_
    rintro e wp ⟨rfl, hbp1⟩
    have HB2 := Lib.hid (jMore HB1.out hbp1)
    clear HPt HBk hbp1 HB1
    go_wp2_with fail
    go_loopg [14, 42] 0 (fun _ v i wr => v = .slice none 0 0 ∧ i = .int .i64 0 ∧ wp = wr)
    case atStart => exact ⟨rfl, rfl, rfl⟩
    case round =>
      obtain ⟨rfl, rfl, rfl⟩ := hrel
      go_wp2_with fail
      go_ret2
      exact ⟨_, [], rfl, OwnB.nil _ _, HC.out.symm, HB2.out⟩
end Go.Proofs.Ythabkkboodhbmaa
