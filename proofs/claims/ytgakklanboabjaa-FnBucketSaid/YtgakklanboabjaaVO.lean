/-
  Laws of chapter 5, walked, whatever the program's own texts are: DegreeOf, PartsOf, EnoughOf, LetterFor, GoodLetters. Each takes the contract of the program's function as a premise; K is what that contract asks of the world, and what stays where nothing that lay is turned.
-/
import Derived.Test.YtgakklanboabjaaJW
namespace Go.Proofs.Ytgakklanboabjaa
open Go.RowKit

def Stays5 (K : World → Prop) : Prop := ∀ w w' : World, K w → Below w.heap.size w w' → K w'
theorem own_ints5 {w : World} {base : Nat} {A : Option Addr} {n c : Nat} {zs : List Int} (h : Own w base (.slice A n c) zs) : Ints w A zs := by
  obtain ⟨A', c', e, hI⟩ := h.form
  injection e with e1
  subst e1; exact hI
theorem apart5 {v u : Value} {s : Nat} (h : ∀ k, v.ownBlock = some k → k < s) (h' : ∀ k, u.ownBlock = some k → s ≤ k) : v.ownBlock = none ∨ v.ownBlock ≠ u.ownBlock := by
  cases hv : v.ownBlock with
  | none => exact Or.inl rfl
  | some k =>
    refine Or.inr fun e => ?_
    have h1 := h k hv
    have h2 := h' k e.symm
    omega

end Go.Proofs.Ytgakklanboabjaa
