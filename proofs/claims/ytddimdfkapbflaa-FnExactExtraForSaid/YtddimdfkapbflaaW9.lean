/-
  The law of SumRows, walked: it returns true, and turns nothing that lay in memory.
-/
import Derived.Test.YtddimdfkapbflaaW8
namespace Go.Proofs.Ytddimdfkapbflaa
open Go.RowKit

def sumOkB (x : Int) (rs ks : List Int) : Bool := rowsB x rs && risB 0 rs.length ks
def sumI (x : Int) (rs ks : List Int) : Int := if sumOkB x rs ks = true then (sumL rs ks : Nat) else 0
theorem sumOk_true {x : Int} {rs ks : List Int} (h : sumOkB x rs ks = true) : rowsB x rs = true ∧ risB 0 rs.length ks = true := by simpa [sumOkB] using h
theorem sumOk_false {x : Int} {rs ks : List Int} (h : sumOkB x rs ks = false) : rowsB x rs = false ∨ (rowsB x rs = true ∧ risB 0 rs.length ks = false) := by
  cases ha : rowsB x rs
  · exact Or.inl rfl
  · exact Or.inr ⟨rfl, by simpa [sumOkB, ha] using h⟩
theorem rowsB_in {x : Int} {rs : List Int} (h : rowsB x rs = true) : rs.length ≤ 20 ∧ ∀ z ∈ rs, 0 ≤ z ∧ z < 65536 := by
  have h' : wideB x = true ∧ rs.length ≤ 20 ∧ ∀ z ∈ rs, goodB x z = true := by simpa [rowsB, allG] using h
  refine ⟨h'.2.1, fun z hz => ?_⟩
  obtain ⟨m, n, rfl, rfl, _, h2, h3⟩ := good_nat (h'.2.2 z hz)
  have := lt16 h2 h3
  omega

set_option maxRecDepth 100000 in
set_option maxHeartbeats 400000 in
theorem sSum (A B : Option Addr) (rs ks : List Int) (ca cb : Nat) (w : World) (ha : Ints w A rs) (hb : Ints w B ks) (hl2 : ks.length ≤ 1048576) (hrows : ∀ z ∈ rs, 0 ≤ z ∧ z < 65536) (hr : risB 0 rs.length ks = true) :
    Calls Try.prog 27 #[.slice A rs.length ca, .slice B ks.length cb] w fun e w' => e = .returned (.int .i64 (sumL rs ks : Nat)) ∧ w = w' := by
  have HIn := Lib.hid (risB_in hr)
  have HRows := Lib.hid hrows
  clear hr hrows
  go_enter Try.func27, Try.ntmps27
  go_wp2
  go_loop [5, 10] (fun a i => ∃ k : Nat, k ≤ ks.length ∧ i = .int .i64 k ∧ a = .int .i64 (sumL rs (ks.take k) : Nat)) (fun _ i => ks.length - (intOf i).toNat)
  case atStart => exact ⟨0, by omega, rfl, rfl⟩
  case round =>
    obtain ⟨k, hk, rfl, rfl⟩ := hrel
    have hsl : sumL rs (ks.take k) < 65536 := sumL_lt HRows.out
    by_cases hlt : k < ks.length
    · obtain ⟨b, o, rfl, hcs⟩ := hb (by rintro rfl; simp at hlt)
      have hz := hcs k hlt
      rw [show ks.getD k 0 = ks[k] by simp [List.getD, hlt]] at hz
      obtain ⟨hb1, hb2⟩ := HIn.out ks[k] (List.getElem_mem hlt)
      have hs := Lib.hid (sumL_snoc rs ks k hlt)
      clear hcs hb
      generalize ks[k] = z at *
      have hzl : z.toNat < rs.length := by omega
      obtain ⟨b2, o2, rfl, hcs2⟩ := ha (by rintro rfl; simp at hzl)
      have hy := hcs2 z.toNat hzl
      obtain ⟨hr1, hr2⟩ := HRows.out rs[z.toNat] (List.getElem_mem hzl)
      have hge : rs.getD z.toNat 0 = rs[z.toNat] := by simp [List.getD, hzl]
      rw [hge] at hy hs
      clear hcs2 ha hge
      generalize rs[z.toNat] = y at *
      obtain ⟨q, rfl⟩ := Int.eq_ofNat_of_zero_le hr1
      have hx := xor_i64 (sumL rs (ks.take k)) q (by omega) (by omega)
      go_wp2
      go_round
      case rel => exact ⟨k + 1, by omega, by go_num, by rw [hs.out]; simp⟩
      case measure => simp [intOf]; omega
    · obtain rfl : k = ks.length := by omega
      go_wp2
      go_ret
      exact ⟨rfl, rfl⟩
/-- One step more behind what is below. -/
theorem below_more {w a b : World} (h : Below w.heap.size w a) (k : Below a.heap.size a b) : Below w.heap.size w b := h.trans (k.mono h.size)

end Go.Proofs.Ytddimdfkapbflaa
