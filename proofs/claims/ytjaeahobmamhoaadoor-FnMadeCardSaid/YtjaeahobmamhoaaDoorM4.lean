/-
  Plain mathematics of rows: the sum of some rows.
-/
import Derived.Test.YtjaeahobmamhoaaDoorM3
namespace Go.Proofs.YtjaeahobmamhoaaDoor

/-- The sum of the rows whose indexes are in ks. -/
def sumL (rs ks : List Int) : Nat := ks.foldl (fun a k => a ^^^ (rs.getD k.toNat 0).toNat) 0
theorem sumL_snoc (rs ks : List Int) (j : Nat) (hj : j < ks.length) : sumL rs (ks.take (j + 1)) = sumL rs (ks.take j) ^^^ (rs.getD (ks[j]).toNat 0).toNat := by
  rw [List.take_succ_eq_append_getElem hj, sumL, List.foldl_append]; rfl
theorem sumL_lt {rs ks : List Int} (h : ∀ z ∈ rs, 0 ≤ z ∧ z < 65536) : sumL rs ks < 65536 := by
  have hg : ∀ i : Nat, (rs.getD i 0).toNat < 2 ^ 16 := by
    intro i
    by_cases hi : i < rs.length
    · have := h rs[i] (List.getElem_mem hi)
      simp only [List.getD, List.getElem?_eq_getElem hi, Option.getD_some]; omega
    · simp [List.getD, hi]
  have key : ∀ (l : List Int) (a : Nat), a < 2 ^ 16 → l.foldl (fun a k => a ^^^ (rs.getD k.toNat 0).toNat) a < 2 ^ 16 := by
    intro l
    induction l with
    | nil => intro a ha; exact ha
    | cons k r ih => intro a ha; exact ih _ (Nat.xor_lt_two_pow ha (hg _))
  exact key ks 0 (by decide)
theorem all_drop_no {f : Int → Bool} {zs : List Int} {j : Nat} (hj : j < zs.length) (h : f zs[j] = false) : (zs.drop j).all f = false := by
  rw [List.drop_eq_getElem_cons hj, List.all_cons, h]; rfl
theorem all_drop_yes {f : Int → Bool} {zs : List Int} {j : Nat} (hj : j < zs.length) (h : f zs[j] = true) : (zs.drop j).all f = (zs.drop (j + 1)).all f := by
  rw [List.drop_eq_getElem_cons hj, List.all_cons, h, Bool.true_and]
theorem all_drop_end {f : Int → Bool} {zs : List Int} : (zs.drop zs.length).all f = true := by simp
end Go.Proofs.YtjaeahobmamhoaaDoor
