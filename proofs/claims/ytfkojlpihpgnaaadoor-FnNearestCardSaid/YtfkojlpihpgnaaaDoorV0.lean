/-
  What the walks of chapter 2's laws share: slices of the call's own that lie apart.
-/
import Derived.Test.YtfkojlpihpgnaaaDoorU7
namespace Go.Proofs.YtfkojlpihpgnaaaDoor
open Go.RowKit

theorem Own.formC {w : World} {base : Nat} {v : Value} {zs : List Int} (h : Own w base v zs) : ∃ A c, v = .slice A zs.length c ∧ zs.length ≤ c ∧ Ints w A zs := by
  rcases h.2 with ⟨rfl, hn⟩ | ⟨g, cap, cur, rfl, hb, hg, hle, _⟩
  · obtain rfl : zs = [] := List.eq_nil_of_length_eq_zero hn
    exact ⟨none, 0, rfl, Nat.le_refl _, fun h => absurd rfl h⟩
  · obtain ⟨A, c, e, hI⟩ := h.form
    injection e with e1 e2 e3
    subst e1
    exact ⟨_, cap, rfl, hle, hI⟩
theorem Own.ints {w : World} {base : Nat} {A : Option Addr} {n c : Nat} {zs : List Int} (h : Own w base (.slice A n c) zs) : Ints w A zs := by
  obtain ⟨A', c', e, hI⟩ := h.form
  injection e with e1
  subst e1; exact hI
theorem Own.intsM {w : World} {base : Nat} {A : Option Addr} {n c : Nat} {k : Int} {m : Nat} (h : Own w base (.slice A n c) (marks k m)) : Ints w A (marks k m) := h.ints
/-- Slices of blocks below s and from s on lie apart. -/
theorem apart' {v u : Value} {s : Nat} (h : ∀ k, v.ownBlock = some k → k < s) (h' : ∀ k, u.ownBlock = some k → s ≤ k) : v.ownBlock = none ∨ v.ownBlock ≠ u.ownBlock := by
  cases hv : v.ownBlock with
  | none => exact Or.inl rfl
  | some k =>
    refine Or.inr fun e => ?_
    have h1 := h k hv
    have h2 := h' k e.symm
    omega
theorem apart {v u : Value} {s : Nat} (h : ∀ k, u.ownBlock = some k → k < s) (h' : ∀ k, v.ownBlock = some k → s ≤ k) : v.ownBlock = none ∨ v.ownBlock ≠ u.ownBlock := by
  cases hv : v.ownBlock with
  | none => exact Or.inl rfl
  | some k =>
    refine Or.inr fun e => ?_
    have h1 := h' k hv
    have h2 := h k e.symm
    omega
end Go.Proofs.YtfkojlpihpgnaaaDoor
