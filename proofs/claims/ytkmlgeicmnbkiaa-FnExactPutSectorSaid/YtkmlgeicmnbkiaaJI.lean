/-
  The model of chapter 5: slices of letters, GoodLetters.
-/
import Derived.Test.YtkmlgeicmnbkiaaJH
namespace Go.Proofs.Ytkmlgeicmnbkiaa
open Go.RowKit

/-- A slice of letters reads as ls. -/
def Lets (w : World) (A : Option Addr) (ls : List (Int × Int)) : Prop := ls ≠ [] → ∃ b o, A = some ⟨b, o, none⟩ ∧ ∀ j (h : j < ls.length), w.cell? ⟨b, o + j * 2, none⟩ = some (.int .i64 ls[j].1) ∧ w.cell? ⟨b, o + j * 2 + 1, none⟩ = some (.int .i64 ls[j].2)
theorem Lets.below {w w' : World} {A : Option Addr} {ls : List (Int × Int)} (h : Lets w A ls) (hb : Below w.heap.size w w') : Lets w' A ls := fun hne => by
  obtain ⟨b, o, e, hc⟩ := h hne
  refine ⟨b, o, e, fun j hj => ?_⟩
  obtain ⟨h1, h2⟩ := hc j hj
  exact ⟨(hb.cell (World.block_lt_of_cell? _ _ h1)).trans h1, (hb.cell (World.block_lt_of_cell? _ _ h2)).trans h2⟩
def pieceB5 (z : Int) : Bool := inB z 0 4294967295
def letB (x : Int × Int) : Bool := noOkB x.1 && pieceB5 x.2
/-- None of the letters has this number. -/
def newB (ls : List (Int × Int)) (n : Int) : Bool := ls.all fun y => !(y.1 == n)
def okTo (ls : List (Int × Int)) : Nat → Bool
  | 0 => true
  | k + 1 => okTo ls k && (letB (ls.getD k (0, 0)) && newB (ls.take k) (ls.getD k (0, 0)).1)
def goodLB (n : Int) (ls : List (Int × Int)) : Bool := okTo ls ls.length && (pcOkB n && decide (ls.length ≤ 40))
theorem okTo_no {ls : List (Int × Int)} {k : Nat} (h : okTo ls k = false) : ∀ {m : Nat}, k ≤ m → okTo ls m = false
  | 0, hm => by obtain rfl : k = 0 := by omega
                exact h
  | m + 1, hm => by
    by_cases e : k = m + 1
    · subst e; exact h
    · rw [okTo, okTo_no h (show k ≤ m by omega)]; rfl
theorem good_no {n : Int} {ls : List (Int × Int)} {k : Nat} (hk : k ≤ ls.length) (h : okTo ls k = false) : goodLB n ls = false := by rw [goodLB, okTo_no h hk]; rfl
theorem newB_no {ls : List (Int × Int)} {n : Int} {i k : Nat} (hk : k < ls.length) (hi : i < k) (h : (ls[i].1 == n) = true) : newB (ls.take k) n = false := by
  rw [newB, List.all_eq_false]
  refine ⟨ls[i], ?_, by simp [h]⟩
  have hl : i < (ls.take k).length := by rw [List.length_take]; omega
  have := List.getElem_mem hl
  rwa [List.getElem_take] at this
theorem newB_step {ls : List (Int × Int)} {n : Int} {i : Nat} (hi : i < ls.length) (h : newB (ls.take i) n = true) (h2 : (ls[i].1 == n) = false) : newB (ls.take (i + 1)) n = true := by
  rw [newB, List.take_succ_eq_append_getElem hi, List.all_append, ← newB, h]
  simp [h2]

end Go.Proofs.Ytkmlgeicmnbkiaa
