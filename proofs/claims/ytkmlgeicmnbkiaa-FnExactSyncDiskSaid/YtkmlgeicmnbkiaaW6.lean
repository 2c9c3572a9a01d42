/-
  What RowOf answers, in the program's text and in the model's.
-/
import Derived.Test.YtkmlgeicmnbkiaaW5
import Derived.Test.YtkmlgeicmnbkiaaMG
namespace Go.Proofs.Ytkmlgeicmnbkiaa
open Go.RowKit

set_option maxRecDepth 100000 in
set_option maxHeartbeats 400000 in
theorem iRising (A : Option Addr) (zs : List Int) (ca : Nat) (c : Int) (w : World) (ha : Ints w A zs) (hl : zs.length ≤ 1048576) (hc : c ≤ 1048576) :
    Calls Try.prog 88 #[.slice A zs.length ca, .int .i64 c] w fun e w' => e = .returned (.bool (risB 0 c zs)) ∧ w = w' := by
  go_enter Try.func88, Try.ntmps88
  go_wp2
  go_loop [5, 10] (fun m i => ∃ (k : Nat) (l : Int), k ≤ zs.length ∧ i = .int .i64 k ∧ m = .int .i64 l ∧ 0 ≤ l ∧ l ≤ 1048576 ∧ risB l c (zs.drop k) = risB 0 c zs) (fun _ i => zs.length - (intOf i).toNat)
  case atStart => exact ⟨0, 0, by omega, rfl, rfl, by omega, by omega, by simp⟩
  case round =>
    obtain ⟨k, l, hk, rfl, rfl, h0, h1, hr⟩ := hrel
    have HR := Lib.hid hr
    clear hr
    by_cases hlt : k < zs.length
    · obtain ⟨b, o, rfl, hcs⟩ := ha (by rintro rfl; simp at hlt)
      have hz := hcs k hlt
      rw [show zs.getD k 0 = zs[k] by simp [List.getD, hlt]] at hz
      clear hcs ha
      have hno : zs[k] < l ∨ c ≤ zs[k] → risB l c (zs.drop k) = false := risB_no hlt
      have hyes : l ≤ zs[k] → zs[k] < c → risB l c (zs.drop k) = risB (zs[k] + 1) c (zs.drop (k + 1)) := risB_yes hlt
      have HN := Lib.hid hno
      have HY := Lib.hid hyes
      clear hno hyes
      generalize zs[k] = z at *
      by_cases hz1 : z < l
      · go_wp2
        go_ret
        exact ⟨ret_bool (by rw [← HR.out]; exact (HN.out (Or.inl hz1)).symm), rfl⟩
      · by_cases hz2 : c ≤ z
        · go_wp2
          go_ret
          exact ⟨ret_bool (by rw [← HR.out]; exact (HN.out (Or.inr hz2)).symm), rfl⟩
        · go_wp2
          go_round
          case rel => exact ⟨k + 1, z + 1, by omega, by go_num, rfl, by omega, by omega, by rw [← HY.out (by omega) (by omega), HR.out]⟩
          case measure => simp [intOf]; omega
    · obtain rfl : k = zs.length := by omega
      go_wp2
      go_ret
      exact ⟨ret_bool (by rw [← HR.out, risB_end]), rfl⟩

set_option maxRecDepth 100000 in
set_option maxHeartbeats 400000 in
theorem sRising (A : Option Addr) (zs : List Int) (ca : Nat) (c : Int) (w : World) (ha : Ints w A zs) (hl : zs.length ≤ 1048576) :
    Calls Try.prog 48 #[.slice A zs.length ca, .int .i64 0, .int .i64 (c - 1)] w fun e w' => e = .returned (.bool (risB 0 c zs)) ∧ w = w' := by
  go_enter Try.func48, Try.ntmps48
  go_wp2
  go_loop [11] (fun i => ∃ (k : Nat), k ≤ zs.length ∧ i = .int .i64 k ∧ 0 ≤ leastOf zs k ∧ risB (leastOf zs k) c (zs.drop k) = risB 0 c zs) (fun i => zs.length - (intOf i).toNat)
  case atStart => exact ⟨0, by omega, rfl, by simp [leastOf], by simp [leastOf]⟩
  case round =>
    obtain ⟨k, hk, rfl, h0, hr⟩ := hrel
    have HR := Lib.hid hr
    clear hr
    by_cases hlt : k < zs.length
    · obtain ⟨b, o, rfl, hcs⟩ := ha (by rintro rfl; simp at hlt)
      have hz := hcs k hlt
      rw [show zs.getD k 0 = zs[k] by simp [List.getD, hlt]] at hz
      have hno : zs[k] < leastOf zs k ∨ c ≤ zs[k] → risB (leastOf zs k) c (zs.drop k) = false := risB_no hlt
      have hyes : leastOf zs k ≤ zs[k] → zs[k] < c → risB (leastOf zs k) c (zs.drop k) = risB (zs[k] + 1) c (zs.drop (k + 1)) := risB_yes hlt
      have hnx : leastOf zs (k + 1) = zs[k] + 1 := by simp [leastOf, List.getD, hlt]
      have HX := Lib.hid hnx
      have HN := Lib.hid hno
      have HY := Lib.hid hyes
      clear hno hyes hnx
      generalize zs[k] = z at *
      cases hin : inB z 0 (c - 1)
      · have hout : z < 0 ∨ c - 1 < z := by
          apply Classical.byContradiction; intro h
          rw [inB_true (by omega) (by omega)] at hin; cases hin
        have HF : Hid (risB (leastOf zs k) c (zs.drop k) = false) := HN.out (by omega)
        clear hcs ha hout
        go_wp2_with (go_at_call 49; refine (l1In_any _ _ _ _).mono ?_; rintro e w' ⟨rfl, rfl⟩)
        go_ret
        exact ⟨ret_bool (by rw [← HR.out, HF.out]), rfl⟩
      · have hi : 0 ≤ z ∧ z ≤ c - 1 := by simpa [inB] using hin
        obtain ⟨hi1, hi2⟩ := hi
        rcases k with _ | j
        · have HG : Hid (risB (leastOf zs 0) c (zs.drop 0) = risB (z + 1) c (zs.drop (0 + 1))) := HY.out (by simpa [leastOf] using hi1) (by omega)
          rw [Nat.add_zero] at hz
          clear hcs ha HY HN
          go_wp2_with (go_at_call 49; refine (l1In_any _ _ _ _).mono ?_; rintro e w' ⟨rfl, rfl⟩)
          go_round
          case rel => exact ⟨1, by omega, by go_num, by rw [HX.out]; omega, by rw [HX.out, ← HG.out, HR.out]⟩
          case measure => simp [intOf]; omega
        · have hy := hcs j (by omega)
          have hlo : leastOf zs (j + 1) = zs.getD j 0 + 1 := rfl
          rw [hlo] at HN HY HR h0
          generalize zs.getD j 0 = y at *
          clear hcs ha hlo
          by_cases hyz : z ≤ y
          · have HF := Lib.hid (HN.out (Or.inl (by omega)))
            go_wp2_with (go_at_call 49; refine (l1In_any _ _ _ _).mono ?_; rintro e w' ⟨rfl, rfl⟩)
            go_ret
            exact ⟨ret_bool (by rw [← HR.out, HF.out]), rfl⟩
          · have HF := Lib.hid (HY.out (by omega) (by omega))
            go_wp2_with (go_at_call 49; refine (l1In_any _ _ _ _).mono ?_; rintro e w' ⟨rfl, rfl⟩)
            go_round
            case rel => exact ⟨j + 1 + 1, by omega, by go_num, by rw [HX.out]; omega, by rw [HX.out, ← HF.out, HR.out]⟩
            case measure => simp [intOf]; omega
    · obtain rfl : k = zs.length := by omega
      go_wp2
      go_ret
      exact ⟨ret_bool (by rw [← HR.out, risB_end]), rfl⟩

def rowOkB (x : Int) (zs : List Int) : Bool := wideB x && risB 0 x zs
theorem rowOk_true {x : Int} {zs : List Int} (h : rowOkB x zs = true) : ∃ m : Nat, x = m ∧ 1 ≤ m ∧ m ≤ 16 ∧ wideB x = true ∧ risB 0 x zs = true := by
  have h' : wideB x = true ∧ risB 0 x zs = true := by simpa [rowOkB] using h
  have h1 : 1 ≤ x ∧ x ≤ 16 := by simpa [wideB] using h'.1
  exact ⟨x.toNat, by omega, by omega, by omega, h'.1, h'.2⟩
theorem rowOk_false {x : Int} {zs : List Int} (h : rowOkB x zs = false) : wideB x = false ∨ (wideB x = true ∧ risB 0 x zs = false) := by
  cases ha : wideB x
  · exact Or.inl rfl
  · exact Or.inr ⟨rfl, by simpa [rowOkB, ha] using h⟩

end Go.Proofs.Ytkmlgeicmnbkiaa
