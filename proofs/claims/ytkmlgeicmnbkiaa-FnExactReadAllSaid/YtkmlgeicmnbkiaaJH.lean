/-
  The model of chapter 5: l1Sum over pieces, l5Block, LetterFor.
-/
import Derived.Test.YtkmlgeicmnbkiaaJG
namespace Go.Proofs.Ytkmlgeicmnbkiaa
open Go.RowKit

theorem xorL_snoc (f : Nat → Nat) (P : List Nat) (p : Nat) : xorL f (P ++ [p]) = xorL f P ^^^ f p := by rw [xorL, List.foldl_append]; rfl
theorem sumN_lt {R K : List Nat} {b : Nat} (h : ∀ r ∈ R, r < 2 ^ b) : sumN R K < 2 ^ b := xorL_lt fun k _ => by
  rcases Nat.lt_or_ge k R.length with hk | hk
  · rw [show R.getD k 0 = R[k] by simp [List.getD, hk]]; exact h _ (List.getElem_mem hk)
  · rw [show R.getD k 0 = 0 by simp [List.getD, hk]]; exact Nat.two_pow_pos b
theorem sumN_snoc {R K : List Nat} {j : Nat} (hj : j < K.length) : sumN R (K.take (j + 1)) = sumN R (K.take j) ^^^ R.getD K[j] 0 := by
  rw [List.take_succ_eq_append_getElem hj, sumN, xorL_snoc]; rfl

def blkOkB (zs : List Int) : Bool := pcOkB zs.length && allIn zs 4294967295
def letOkB (zs : List Int) (no : Int) : Bool := blkOkB zs && noOkB no
def letNoI (zs : List Int) (no : Int) : Int := if letOkB zs no = true then no else 0
def letSumI (zs : List Int) (no : Int) : Int := if letOkB zs no = true then (sumN (zs.map Int.toNat) (partsL no.toNat zs.length) : Nat) else 0
theorem blk_nat {zs : List Int} (h : blkOkB zs = true) : ∃ B : List Nat, zs = zI B ∧ 1 ≤ B.length ∧ B.length ≤ 8 ∧ ∀ b ∈ B, b < 2 ^ 32 := by
  simp only [blkOkB, pcOkB, allIn, inB, Bool.and_eq_true, List.all_eq_true, decide_eq_true_eq] at h
  obtain ⟨⟨h1, h2⟩, h3⟩ := h
  have h6 : zI (zs.map Int.toNat) = zs := by
    unfold zI
    rw [List.map_map]
    conv => rhs; rw [← List.map_id zs]
    refine List.map_congr_left fun z hz => ?_
    have := h3 z hz
    simp; omega
  refine ⟨zs.map Int.toNat, h6.symm, by rw [List.length_map]; omega, by rw [List.length_map]; omega, fun b hb => ?_⟩
  obtain ⟨z, hz, rfl⟩ := List.mem_map.1 hb
  have := h3 z hz
  omega
theorem zI_toNat (P : List Nat) : (zI P).map Int.toNat = P := by
  unfold zI
  rw [List.map_map]
  conv => rhs; rw [← List.map_id P]
  exact List.map_congr_left fun z _ => by simp

/-- A letter as a value. -/
abbrev letV (x y : Int) : Value := .agg #[.int .i64 x, .int .i64 y]
theorem tupL {a b a' b' : Int} {c d : Bool} (h1 : a = a') (h2 : b = b') (k : c = d) : Ending.returned (.tuple #[letV a b, .bool c]) = .returned (.tuple #[letV a' b', .bool d]) := by rw [h1, h2, k]
theorem gAlloc (w : World) (o : Obj) : Below w.heap.size w (w.alloc o) := (Below.refl _ w).alloc (Nat.le_refl _) _

end Go.Proofs.Ytkmlgeicmnbkiaa
