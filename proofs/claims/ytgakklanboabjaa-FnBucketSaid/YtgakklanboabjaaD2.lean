/-
  The laws' draws of chapter 1: DrawGoodRow, DrawWeightOf, DrawBitsIn, DrawAddRows; the number of some bytes.
-/
import Derived.Test.YtgakklanboabjaaD1
namespace Go.Proofs.Ytgakklanboabjaa
open Go.RowKit

/-- A new cursor. -/
theorem Cur.new {w : World} {A : Option Addr} {zs : List Int} {c : Nat} (hb : Byts w w.heap.size A zs) (t : TypeId) :
    Cur (w.alloc (.cells #[.slice A zs.length c, .int .i64 0, .int .u64 0] t)) w.heap.size 0 := by
  have hc := fun j => cell_of_row (w.alloc (.cells #[.slice A zs.length c, .int .i64 0, .int .u64 0] t)) w.heap.size j _ t (0, 0) (heap_alloc_new w _)
  have hf := fun j => frozen_of_row (w.alloc (.cells #[.slice A zs.length c, .int .i64 0, .int .u64 0] t)) w.heap.size j _ t (heap_alloc_new w _)
  exact ⟨A, zs, c, 0, 0, hb.keep fun p hp => World.cell?_alloc_lt w _ p hp, by rw [hc]; rfl, by rw [hc]; rfl, by rw [hc]; rfl, hf 1, hf 2, Nat.le_refl _, by omega, by omega⟩

theorem below_of_grown {w w0 w' : World} {B : Nat} (hb : Below B w w0) (hB : B ≤ w0.heap.size) {g : Nat} (hg : w0.grownBy w' (some g)) (h : B ≤ g) : Below B w w' :=
  hb.grown hg hB (fun k e => by injection e with e; omega)

end Go.Proofs.Ytgakklanboabjaa
