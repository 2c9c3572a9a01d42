/-
  What RowOf answers, in the program's text and in the model's.
-/
import Derived.Test.YtjifpedhncgieaaW5
import Derived.Test.YtjifpedhncgieaaMG
namespace Go.Proofs.Ytjifpedhncgieaa
open Go.RowKit

set_option maxRecDepth 100000 in
set_option maxHeartbeats 400000 in
theorem iRising (A : Option Addr) (zs : List Int) (ca : Nat) (c : Int) (w : World) (ha : Ints w A zs) (hl : zs.length ≤ 1048576) (hc : c ≤ 1048576) :
    Calls Try.prog 48 #[.slice A zs.length ca, .int .i64 c] w fun e w' => e = .returned (.bool (risB 0 c zs)) ∧ w = w' := by
  go_enter Try.func48, Try.ntmps48
  go_wp2
  go_loop [5, 10] (fun m i => ∃ (k : Nat) (l : Int), k ≤ zs.length ∧ i = .int .i64 k ∧ m = .int .i64 l ∧ 0 ≤ l ∧ l ≤ 1048576 ∧ risB l c (zs.drop k) = risB 0 c zs) (fun _ i => zs.length - (intOf i).toNat)
  case atStart => exact ⟨0, 0, by omega, rfl, rfl, by omega, by omega, by simp⟩
  case round =>
    obtain ⟨k, l, hk, rfl, rfl, h0, h1, hr⟩ := hrel
    have HR := Lib.hid hr
    clear hr
    by_cases hlt : k < zs.length
    · obtain ⟨b, o, rfl, hcs⟩ := ha (by rintro rfl; simp at hlt)
      have hz := hcs k hlt
      rw [show zs.getD k 0 = zs[k] by simp [List.getD, hlt]] at hz
      clear hcs ha
      have hno : zs[k] < l ∨ c ≤ zs[k] → risB l c (zs.drop k) = false := risB_no hlt
      have hyes : l ≤ zs[k] → zs[k] < c → risB l c (zs.drop k) = risB (zs[k] + 1) c (zs.drop (k + 1)) := risB_yes hlt
      have HN := Lib.hid hno
      have HY := Lib.hid hyes
      clear hno hyes
      generalize zs[k] = z at *
      by_cases hz1 : z < l
      · go_wp2
        go_ret
        exact ⟨ret_bool (by rw [← HR.out]; exact (HN.out (Or.inl hz1)).symm), rfl⟩
      · by_cases hz2 : c ≤ z
        · go_wp2
          go_ret
          exact ⟨ret_bool (by rw [← HR.out]; exact (HN.out (Or.inr hz2)).symm), rfl⟩
        · go_wp2
          go_round
          case rel => exact ⟨k + 1, z + 1, by omega, by go_num, rfl, by omega, by omega, by rw [← HY.out (by omega) (by omega), HR.out]⟩
          case measure => simp [intOf]; omega
    · obtain rfl : k = zs.length := by omega
      go_wp2
      go_ret
      exact ⟨ret_bool (by rw [← HR.out, risB_end]), rfl⟩

def rowOkB (x : Int) (zs : List Int) : Bool := wideB x && risB 0 x zs
theorem rowOk_true {x : Int} {zs : List Int} (h : rowOkB x zs = true) : ∃ m : Nat, x = m ∧ 1 ≤ m ∧ m ≤ 16 ∧ wideB x = true ∧ risB 0 x zs = true := by
  have h' : wideB x = true ∧ risB 0 x zs = true := by simpa [rowOkB] using h
  have h1 : 1 ≤ x ∧ x ≤ 16 := by simpa [wideB] using h'.1
  exact ⟨x.toNat, by omega, by omega, by omega, h'.1, h'.2⟩
theorem rowOk_false {x : Int} {zs : List Int} (h : rowOkB x zs = false) : wideB x = false ∨ (wideB x = true ∧ risB 0 x zs = false) := by
  cases ha : wideB x
  · exact Or.inl rfl
  · exact Or.inr ⟨rfl, by simpa [rowOkB, ha] using h⟩

end Go.Proofs.Ytjifpedhncgieaa
