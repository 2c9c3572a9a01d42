/-
  Drawn regions whose callees answer by value (they may make memory): walked once, in the order of the text, over the class of all worlds behind the one at hand.
-/
import Derived.Test.YtgakklanboabjaaRD
import Derived.Deep.Quiet
import Derived.BigQuiet
namespace Go.Proofs.Ytgakklanboabjaa
open Go.RowKit

/-- A world behind w. -/
structure OnU (w : World) where
  w' : World
  h : Below w.heap.size w w'
instance {w : World} : Inhabited (OnU w) := ⟨⟨w, Below.refl _ _⟩⟩
theorem wp_region_onU {P : Program} {id : Nat} {Q : Exit → Act → World → Prop} {a : Act} {w : World} {l : List Oper} (hm : P.follows .mixedOrders = true) (hB : Region.lexB .any l.toArray = true)
    (h : wpQuiet P l.toArray (fun w' => ∃ p : OnU w, w' = p.w') (fun a' => ∀ w', (∃ p : OnU w, w' = p.w') → Q .normal a' w') l a) : (Code.region id l.toArray true).wp P Q a w :=
  wp_region_quiet (C := fun w' => ∃ p : OnU w, w' = p.w') hm hB ⟨⟨w.drew, gDrew⟩, rfl⟩ (by simpa using h)
theorem onU_of {P : Program} {f : FuncId} {args : Array Value} {w : World} {p : OnU w} {v : Value} (h : Calls P f args p.w' fun e w' => e = .returned v ∧ Below p.w'.heap.size p.w' w') :
    Calls P f args p.w' fun e w'' => e = .returned v ∧ ∃ q : OnU w, w'' = q.w' := h.mono fun _ _ ⟨he, hb⟩ => ⟨he, ⟨_, below_more p.h hb⟩, rfl⟩
theorem onU_same {P : Program} {f : FuncId} {args : Array Value} {w : World} {p : OnU w} {v : Value} (h : Calls P f args p.w' fun e w' => e = .returned v ∧ p.w' = w') :
    Calls P f args p.w' fun e w'' => e = .returned v ∧ ∃ q : OnU w, w'' = q.w' := h.mono fun _ _ ⟨he, hb⟩ => ⟨he, p, hb.symm⟩
theorem onU_cell {w : World} {c : Addr} {v : Value} (h : w.cell? c = some v) (p : OnU w) : p.w'.cell? c = some v := (p.h.cell (World.block_lt_of_cell? _ _ h)).trans h
theorem cell_onU {w w2 : World} (hb : Below w.heap.size w w2) {c : Addr} {v : Value} (h : w.cell? c = some v) : w2.cell? c = some v := (hb.cell (World.block_lt_of_cell? _ _ h)).trans h
theorem block_onU {w w2 : World} (hb : Below w.heap.size w w2) {k : Nat} {o : Obj} (h : w.heap[k]? = some o) : w2.heap[k]? = some o := (hb.block _ (heap_lt h)).trans h
theorem wp_meet_U {P : Program} {c : Code} {Q : Exit → Act → World → Prop} {a : Act} {w : World} (R : World → Prop) (A : Act) (hreg : c.wp P (fun e a' w' => e = .normal ∧ a' = A ∧ R w') a w) (himp : ∀ w', R w' → Q .normal A w') : c.wp P Q a w :=
  Code.wp_mono (fun e a' w' ⟨h1, h2, h3⟩ => by rw [h1, h2]; exact himp _ h3) hreg
end Go.Proofs.Ytgakklanboabjaa
