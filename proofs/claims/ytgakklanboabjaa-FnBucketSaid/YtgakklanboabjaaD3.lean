/-
  The laws' draws of chapter 1 that make lists: some, rows, DrawRowOf, DrawSumRows, DrawBitsIn.
-/
import Derived.Test.YtgakklanboabjaaD2
namespace Go.Proofs.Ytgakklanboabjaa
open Go.RowKit

theorem grownBy_far {w a b : World} {B : Nat} {r : Option Nat} (h : w.grownBy a (some B)) (k : a.grownBy b r) (hr : ∀ g, r = some g → w.heap.size ≤ g) : w.grownBy b (some B) :=
  ⟨k.os.trans h.os, k.tape.trans h.tape, k.output.trans h.output, Nat.le_trans h.size k.size, fun i hi hne =>
    (k.block i (Nat.lt_of_lt_of_le hi h.size) (fun e => by have := hr i e.symm; omega)).trans (h.block i hi hne)⟩

theorem Own.cur {w w' : World} {base B : Nat} {v : Value} {zs : List Int} (h : Own w base v zs) (hB : B < base) (hg : w.grownBy w' (some B)) : Own w' base v zs :=
  h.kept hg (by
    cases hv : v.ownBlock with
    | none => exact Or.inl rfl
    | some g => right; intro e; injection e with e; have := (h.lt g hv).1; omega)
theorem Own.append' {w1 : World} {base : Nat} {v' : Value} {zs : List Int} {z : Int} (h : w1.ownsRow base 3 1 v' (zs.length + 1) (zs.map (Value.int .i64) ++ [.int .i64 z])) : Own w1 base v' (zs ++ [z]) := by
  unfold Own; simpa using h

/-- Behind 'l = append(l, z)' on a list of the call's own: what is owned, the cursor, the frame. -/
theorem appended {w wr w1 : World} {B k : Nat} {v v' : Value} {zs : List Int} {z : Int} {o : Obj} (hB : B < w.heap.size) (ho : Own wr w.heap.size v zs) (hc : Cur wr B k) (hg : w.grownBy wr (some B))
    (hown : w1.ownsRow w.heap.size 3 1 v' (zs.length + 1) (zs.map (Value.int .i64) ++ [.int .i64 z])) (hgrow : (wr.alloc o).grownBy w1 v.ownBlock) :
    Own w1 w.heap.size v' (zs ++ [z]) ∧ Cur w1 B k ∧ w.grownBy w1 (some B) := by
  have hlt : ∀ g, v.ownBlock = some g → w.heap.size ≤ g := fun g e => (ho.lt g e).1
  refine ⟨Own.append' hown, ?_, ?_⟩
  · exact (hc.grown (World.grownBy_alloc wr o none) (fun g e => by cases e)).grown hgrow (fun g e => by have := hlt g e; omega)
  · exact grownBy_far (grownBy_far hg (World.grownBy_alloc wr o none) (fun g e => by cases e)) hgrow hlt

/-- What a draw of a list leaves. -/
def Listed (B k m : Nat) (w : World) (e : Ending) (w' : World) : Prop := ∃ v zs, e = .returned v ∧ Own w' w.heap.size v zs ∧ zs.length ≤ m ∧ Cur w' B k ∧ w.grownBy w' (some B)

end Go.Proofs.Ytgakklanboabjaa
