/-
  What SumRows answers, in the program's text and in the model's.
-/
import Derived.Test.YtipcdaiobfgkeaaW7
import Derived.Test.YtipcdaiobfgkeaaMG
namespace Go.Proofs.Ytipcdaiobfgkeaa
open Go.RowKit

def allG (x : Int) (zs : List Int) : Bool := zs.all (goodB x)
def rowsB (x : Int) (zs : List Int) : Bool := wideB x && (decide (zs.length ≤ 20) && allG x zs)
theorem rowsB_narrow {x : Int} {zs : List Int} (h : wideB x = false) : rowsB x zs = false := by simp [rowsB, h]
theorem rowsB_long {x : Int} {zs : List Int} (h : 20 < zs.length) : rowsB x zs = false := by
  rw [rowsB, decide_eq_false (by omega)]; simp
theorem rowsB_all {x : Int} {zs : List Int} (h : wideB x = true) (hl : zs.length ≤ 20) : rowsB x zs = allG x zs := by simp [rowsB, h, hl]

def allIn (zs : List Int) (hi : Int) : Bool := zs.all fun z => inB z 0 hi
set_option maxRecDepth 100000 in
set_option maxHeartbeats 400000 in
theorem sAll (A : Option Addr) (zs : List Int) (ca : Nat) (hi : Int) (w : World) (ha : Ints w A zs) (hl : zs.length ≤ 1048576) :
    Calls Try.prog 53 #[.slice A zs.length ca, .int .i64 0, .int .i64 hi] w fun e w' => e = .returned (.bool (allIn zs hi)) ∧ w = w' := by
  go_enter Try.func53, Try.ntmps53
  go_wp2
  go_loop [11] (fun i => ∃ k : Nat, k ≤ zs.length ∧ i = .int .i64 k ∧ allIn (zs.drop k) hi = allIn zs hi) (fun i => zs.length - (intOf i).toNat)
  case atStart => exact ⟨0, by omega, rfl, rfl⟩
  case round =>
    obtain ⟨k, hk, rfl, hr⟩ := hrel
    have HR := Lib.hid hr
    clear hr
    by_cases hlt : k < zs.length
    · obtain ⟨b, o, rfl, hcs⟩ := ha (by rintro rfl; simp at hlt)
      have hz := hcs k hlt
      rw [show zs.getD k 0 = zs[k] by simp [List.getD, hlt]] at hz
      have HN := Lib.hid (all_drop_no (f := fun z => inB z 0 hi) hlt)
      have HY := Lib.hid (all_drop_yes (f := fun z => inB z 0 hi) hlt)
      clear hcs ha
      generalize zs[k] = z at *
      cases hg : inB z 0 hi
      · have HF := Lib.hid (HN.out hg)
        go_wp2_with (go_at_call 47; refine (l1In_any _ _ _ _).mono ?_; rintro e w' ⟨rfl, rfl⟩)
        go_ret
        exact ⟨ret_bool (by rw [← HR.out]; exact HF.out.symm), rfl⟩
      · have HF := Lib.hid (HY.out hg)
        go_wp2_with (go_at_call 47; refine (l1In_any _ _ _ _).mono ?_; rintro e w' ⟨rfl, rfl⟩)
        go_round
        case rel => exact ⟨k + 1, by omega, by go_num, by rw [← HR.out]; exact HF.out.symm⟩
        case measure => simp [intOf]; omega
    · obtain rfl : k = zs.length := by omega
      go_wp2
      go_ret
      exact ⟨ret_bool (by rw [← HR.out]; exact all_drop_end.symm), rfl⟩

theorem allIn_good {x : Int} (zs : List Int) (h : wideB x = true) : allIn zs ((2 : Int) ^ x.toNat - 1) = allG x zs := by
  unfold allIn allG
  congr 1
  funext z
  rw [goodB_wide z h, inB]; congr 1; exact decide_eq_decide.2 (by omega)

end Go.Proofs.Ytipcdaiobfgkeaa
