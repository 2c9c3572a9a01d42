/-
  The model of chapter 5: PeelOff, walked.
-/
import Derived.Test.YtkmlgeicmnbkiaaJK
namespace Go.Proofs.Ytkmlgeicmnbkiaa
open Go.RowKit

theorem results_tmp3 {fn : Func} {a b c : Tmp} (h : fn.results = #[.tmp a, .tmp b, .tmp c]) (tmps : Array Value) (P : Program) (w : World) :
    (results fn tmps).run P w = .ok (.tuple #[tmps.getD a undef, tmps.getD b undef, tmps.getD c undef]) w := by
  simp [results, h]
theorem cell_set_other (w : World) (a b : Addr) (v : Value) (h : b.block ≠ a.block) : (w.setCell a v).cell? b = w.cell? b := by
  have := heap_setCell_other w a b.block v h
  simp [World.cell?, this]
theorem frozen_set_other (w : World) (a b : Addr) (v : Value) (h : b.block ≠ a.block) : (w.setCell a v).frozen? b = w.frozen? b := by
  have := heap_setCell_other w a b.block v h
  simp [World.frozen?, this]
theorem peel1_none {n : Nat} {L : List (Nat × Nat)} {S : Know} (h : ∀ x ∈ L, stepS n S x = none) : peel1 n L S = none := by
  unfold peel1
  rw [List.findSome?_eq_none_iff]
  exact h
theorem peel1_some {n : Nat} {L : List (Nat × Nat)} {S S' : Know} {k : Nat} (hk : k < L.length) (h : ∀ x ∈ L.take k, stepS n S x = none) (h2 : stepS n S L[k] = some S') : peel1 n L S = some S' := by
  unfold peel1
  have e : L = L.take k ++ L[k] :: L.drop (k + 1) := by rw [List.getElem_cons_drop, List.take_append_drop]
  rw [e, List.findSome?_append, List.findSome?_eq_none_iff.2 h, Option.none_or, List.findSome?_cons]
  rw [h2]
theorem steps_more {n : Nat} {L : List (Nat × Nat)} {S : Know} {k : Nat} (hk : k < L.length) (h : ∀ x ∈ L.take k, stepS n S x = none) (h2 : stepS n S L[k] = none) : ∀ x ∈ L.take (k + 1), stepS n S x = none := fun x hx => by
  rw [List.take_succ_eq_append_getElem hk, List.mem_append, List.mem_singleton] at hx
  rcases hx with hx | rfl
  · exact h x hx
  · exact h2
theorem intL_at {L : List (Nat × Nat)} {k : Nat} (h : k < (intL L).length) : (intL L)[k] = (((L[k]'(by rw [intL_length] at h; exact h)).1 : Int), ((L[k]'(by rw [intL_length] at h; exact h)).2 : Int)) := by simp [intL]

theorem tupP {v u v' u' : Value} {c d : Bool} (h1 : v = v') (h2 : u = u') (k : c = d) : Ending.returned (.tuple #[v, u, .bool c]) = .returned (.tuple #[v', u', .bool d]) := by rw [h1, h2, k]
end Go.Proofs.Ytkmlgeicmnbkiaa
