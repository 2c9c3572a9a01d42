/-
  The model of chapter 5: l5Rows, l5Solve.
-/
import Derived.Test.YtkmlgeicmnbkiaaJL
import Derived.Test.YtkmlgeicmnbkiaaU4
namespace Go.Proofs.Ytkmlgeicmnbkiaa
open Go.RowKit

theorem rowN_snoc {P : List Nat} {t : Nat} (h : t < P.length) : rowN (P.take (t + 1)) = rowN (P.take t) ||| 2 ^ P[t] := by
  rw [List.take_succ_eq_append_getElem h, rowN, List.foldl_append]; rfl
theorem rowN_16 {n : Nat} {P : List Nat} (hn : n ≤ 8) (h : ∀ k ∈ P, k < n) (t : Nat) : rowN (P.take t) < 65536 :=
  Nat.lt_of_lt_of_le (rowN_lt (n := n) fun k hk => h k (List.mem_of_mem_take hk)) (Nat.le_trans (Nat.pow_le_pow_right (by decide) (show n ≤ 16 by omega)) (by decide))
theorem rows_snoc {n : Nat} {nos : List Nat} {k : Nat} (h : k < nos.length) : (nos.take (k + 1)).map (rowOfN n) = (nos.take k).map (rowOfN n) ++ [rowN (partsL nos[k] n)] := by
  rw [List.take_succ_eq_append_getElem h, List.map_append]; rfl

/-- The pieces that rows and sums give. -/
def solveL (n : Nat) (R Sm : List Nat) : List Nat := (List.range n).map fun k => sumN Sm (idxL (mkM R R.length (2 ^ k)) R.length)
theorem solve_snoc (R Sm : List Nat) (k : Nat) : solveL (k + 1) R Sm = solveL k R Sm ++ [sumN Sm (idxL (mkM R R.length (2 ^ k)) R.length)] := by simp [solveL, List.range_succ]
theorem solve_length (n : Nat) (R Sm : List Nat) : (solveL n R Sm).length = n := by simp [solveL]
theorem idxL_lt {m k : Nat} : ∀ x ∈ idxL m k, x < k := fun _ hx => List.mem_range.1 (List.mem_filter.1 hx).1
theorem idxL_len (m k : Nat) : (idxL m k).length ≤ k := Nat.le_trans (List.length_filter_le _ _) (by rw [List.length_range]; exact Nat.le_refl _)
theorem good5 {m n : Nat} (h1 : 1 ≤ m) (h2 : m ≤ 16) (hn : n < 2 ^ m) : goodB (m : Int) (n : Int) = true := by
  have hw : wideB (m : Int) = true := by simp [wideB]; omega
  have h3 : (n : Int) < ((2 ^ m : Nat) : Int) := by omega
  rw [goodB, hw, Int.toNat_natCast, show ((2 : Int) ^ m) = ((2 ^ m : Nat) : Int) by simp]
  simp only [Bool.true_and, Bool.and_eq_true, decide_eq_true_eq]
  omega
theorem rows_twoOk {n k : Nat} {R : List Nat} (hn1 : 1 ≤ n) (hn8 : n ≤ 8) (hk : k < n) (hl : R.length ≤ 20) (hR : ∀ r ∈ R, r < 2 ^ n) (hs : Sp R (2 ^ k)) : canI (n : Int) (zI R) ((2 ^ k : Nat) : Int) = true := by
  have hw : wideB (n : Int) = true := by simp [wideB]; omega
  have hg : goodB (n : Int) ((2 ^ k : Nat) : Int) = true := good5 hn1 (by omega) (Nat.pow_lt_pow_right (by omega) hk)
  have hr : rowsB (n : Int) (zI R) = true := by
    have hall : allG (n : Int) (zI R) = true := by
      rw [allG, List.all_eq_true]
      intro z hz
      obtain ⟨r, hr, rfl⟩ := List.mem_map.1 hz
      exact good5 hn1 (by omega) (hR r hr)
    rw [rowsB, hw, zI_length, hall]
    simp [hl]
  rw [canI, twoOkB, hr, hg, nL_zI, Int.toNat_natCast, (canB_iff R _).2 hs]; rfl

end Go.Proofs.Ytkmlgeicmnbkiaa
