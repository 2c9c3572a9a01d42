/-
  The model of chapter 11: StepGiver.
-/
import Derived.Test.YtgakklanboabjaaGW
namespace Go.Proofs.Ytgakklanboabjaa
open Go.RowKit

def sgOkB (n a s : Int) (zs : List Int) (k : Int) (p : Bool) : Bool := goodGB n a s zs && stOkB n s zs k p
def sgN (n a s : Int) (zs : List Int) (k : Int) (p : Bool) : Int := if sgOkB n a s zs k p = true then stN n a s zs k p else 0
def sgA (n a s : Int) (zs : List Int) (k : Int) (p : Bool) : Int := if sgOkB n a s zs k p = true then stA n a s zs k p else 0
def sgS (n a s : Int) (zs : List Int) (k : Int) (p : Bool) : Int := if sgOkB n a s zs k p = true then stS n a s zs k p else 0
def sgZ (n a s : Int) (zs : List Int) (k : Int) (p : Bool) : List Int := if sgOkB n a s zs k p = true then stZ n s zs k p else []
theorem sg_not {n a s : Int} {zs : List Int} {k : Int} {p : Bool} (h : sgOkB n a s zs k p = false) : sgN n a s zs k p = 0 ∧ sgA n a s zs k p = 0 ∧ sgS n a s zs k p = 0 ∧ sgZ n a s zs k p = [] ∧ sgOkB n a s zs k p = false := by
  simp [sgN, sgA, sgS, sgZ, h]
theorem sg_yes {n a s : Int} {zs : List Int} {k : Int} {p : Bool} (h : sgOkB n a s zs k p = true) : sgN n a s zs k p = stN n a s zs k p ∧ sgA n a s zs k p = stA n a s zs k p ∧ sgS n a s zs k p = stS n a s zs k p ∧ sgZ n a s zs k p = stZ n s zs k p ∧ sgOkB n a s zs k p = true := by
  simp [sgN, sgA, sgS, sgZ, h]
theorem wp_meet_gv {P : Program} {c : Code} {Q : Exit → Act → World → Prop} {a : Act} {w : World} (R : Nat → Option Addr → Nat → Option Addr → Nat → World → Prop) (A : Nat → Option Addr → Nat → Option Addr → Nat → Act)
    (hreg : c.wp P (fun e a' w' => e = .normal ∧ ∃ Y B1 c1 B2 c2, a' = A Y B1 c1 B2 c2 ∧ R Y B1 c1 B2 c2 w') a w) (himp : ∀ Y B1 c1 B2 c2 w', R Y B1 c1 B2 c2 w' → Q .normal (A Y B1 c1 B2 c2) w') : c.wp P Q a w :=
  Code.wp_mono (fun e a' w' ⟨h1, Y, B1, c1, B2, c2, h2, h3⟩ => by rw [h1, h2]; exact himp _ _ _ _ _ _ h3) hreg
theorem alloc_atD11 (w : World) (o : Obj) : (w.alloc o).drew.heap[w.heap.size]? = some o := (gDrew.block _ (by simp)).trans (heap_alloc_new _ _)
theorem size_atD11 (w : World) (o : Obj) : (w.alloc o).drew.heap.size = w.heap.size + 1 := World.heap_size_alloc9 w o
theorem own_ints {w : World} {base : Nat} {A : Option Addr} {n c : Nat} {zs : List Int} (h : Own w base (.slice A n c) zs) : Ints w A zs := by
  obtain ⟨A', c', e, hi⟩ := h.form
  injection e with e1
  subst e1; exact hi
theorem six11 {w w' : World} {X Y : Nat} {q0 q1 q2 q3 r0 r1 : Value} (hb : Below w.heap.size w w') (h : w.cell? ⟨X, 0, none⟩ = some q0 ∧ w.cell? ⟨X, 1, none⟩ = some q1 ∧ w.cell? ⟨X, 2, none⟩ = some q2 ∧ w.cell? ⟨X, 3, none⟩ = some q3 ∧ w.cell? ⟨Y, 0, none⟩ = some r0 ∧ w.cell? ⟨Y, 1, none⟩ = some r1) :
    w'.cell? ⟨X, 0, none⟩ = some q0 ∧ w'.cell? ⟨X, 1, none⟩ = some q1 ∧ w'.cell? ⟨X, 2, none⟩ = some q2 ∧ w'.cell? ⟨X, 3, none⟩ = some q3 ∧ w'.cell? ⟨Y, 0, none⟩ = some r0 ∧ w'.cell? ⟨Y, 1, none⟩ = some r1 := by
  have f : ∀ {a : Addr} {u : Value}, w.cell? a = some u → w'.cell? a = some u := fun {a u} h => (hb.cell (World.block_lt_of_cell? _ _ h)).trans h
  exact ⟨f h.1, f h.2.1, f h.2.2.1, f h.2.2.2.1, f h.2.2.2.2.1, f h.2.2.2.2.2⟩
theorem six_set11 {w : World} {X Y Z : Nat} {q0 q1 q2 q3 r0 r1 a0 a1 a2 a3 : Value} (h : w.cell? ⟨X, 0, none⟩ = some q0 ∧ w.cell? ⟨X, 1, none⟩ = some q1 ∧ w.cell? ⟨X, 2, none⟩ = some q2 ∧ w.cell? ⟨X, 3, none⟩ = some q3 ∧ w.cell? ⟨Y, 0, none⟩ = some r0 ∧ w.cell? ⟨Y, 1, none⟩ = some r1) (hn : X ≠ Z ∧ Y ≠ Z) :
    let w' := (((w.setCell ⟨Z, 0, none⟩ a0).setCell ⟨Z, 1, none⟩ a1).setCell ⟨Z, 2, none⟩ a2).setCell ⟨Z, 3, none⟩ a3
    w'.cell? ⟨X, 0, none⟩ = some q0 ∧ w'.cell? ⟨X, 1, none⟩ = some q1 ∧ w'.cell? ⟨X, 2, none⟩ = some q2 ∧ w'.cell? ⟨X, 3, none⟩ = some q3 ∧ w'.cell? ⟨Y, 0, none⟩ = some r0 ∧ w'.cell? ⟨Y, 1, none⟩ = some r1 := by
  have f : ∀ {a : Addr} {u : Value}, a.block ≠ Z → w.cell? a = some u → ((((w.setCell ⟨Z, 0, none⟩ a0).setCell ⟨Z, 1, none⟩ a1).setCell ⟨Z, 2, none⟩ a2).setCell ⟨Z, 3, none⟩ a3).cell? a = some u := fun {a u} hne h =>
    (cell_set_other _ ⟨Z, 3, none⟩ a a3 hne).trans ((cell_set_other _ ⟨Z, 2, none⟩ a a2 hne).trans ((cell_set_other _ ⟨Z, 1, none⟩ a a1 hne).trans ((cell_set_other _ ⟨Z, 0, none⟩ a a0 hne).trans h)))
  exact ⟨f hn.1 h.1, f hn.1 h.2.1, f hn.1 h.2.2.1, f hn.1 h.2.2.2.1, f hn.2 h.2.2.2.2.1, f hn.2 h.2.2.2.2.2⟩
theorem own_off {w : World} {base : Nat} {A : Option Addr} {c : Nat} {zs : List Int} (h : Own w base (.slice A zs.length c) zs) {Y : Nat} (p q r u : Value) (hne : ∀ g, (Value.slice A zs.length c).ownBlock = some g → g ≠ Y) :
    Own ((((w.setCell ⟨Y, 0, none⟩ p).setCell ⟨Y, 1, none⟩ q).setCell ⟨Y, 2, none⟩ r).setCell ⟨Y, 3, none⟩ u) base (.slice A zs.length c) zs := h.kept (gGv w Y p q r u) (by
    cases hv : (Value.slice A zs.length c).ownBlock with
    | none => exact Or.inl rfl
    | some g => exact Or.inr (by intro e; injection e with e; exact hne g hv e))
end Go.Proofs.Ytgakklanboabjaa
