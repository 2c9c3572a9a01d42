/-
  Steps and ladders in memory: what addSteps makes of two steps; a ladder's cells.
-/
import Derived.Test.YtgakklanboabjaaMG
import Derived.Test.YtgakklanboabjaaWA
namespace Go.Proofs.Ytgakklanboabjaa
open Go.RowKit

/-- A step as a value. -/
def stepV (p : Nat × Nat) : Value := .agg #[.int .i64 p.1, .int .i64 p.2]
def stepCells (p : Nat × Nat) : Array Value := #[.int .i64 p.1, .int .i64 p.2]
def ladList (L : Lad) : List Value := L.flatMap fun p => [Value.int .i64 p.1, Value.int .i64 p.2]
def ladCells (L : Lad) : Array Value := (ladList L).toArray

theorem ladList_length (L : Lad) : (ladList L).length = 2 * L.length := by
  induction L with
  | nil => rfl
  | cons p L ih => simp only [ladList, List.flatMap_cons, List.length_append, List.length_cons, List.length_nil] at ih ⊢; omega
theorem ladList_at (L : Lad) (k : Nat) (hk : k < L.length) : (ladList L)[2 * k]? = some (.int .i64 (lat L k).1) ∧ (ladList L)[2 * k + 1]? = some (.int .i64 (lat L k).2) := by
  induction L generalizing k with
  | nil => simp at hk
  | cons p L ih =>
    cases k with
    | zero => exact ⟨rfl, rfl⟩
    | succ k =>
      have := ih k (by simpa using hk)
      exact ⟨this.1, this.2⟩
theorem ladList_set (L : Lad) (k : Nat) (p : Nat × Nat) (hk : k < L.length) : ladList (L.set k p) = ((ladList L).set (2 * k) (.int .i64 p.1)).set (2 * k + 1) (.int .i64 p.2) := by
  induction L generalizing k with
  | nil => simp at hk
  | cons q L ih =>
    cases k with
    | zero => rfl
    | succ k =>
      have := ih k (by simpa using hk)
      show Value.int .i64 q.1 :: .int .i64 q.2 :: ladList (L.set k p) = _
      rw [this]; rfl
theorem ladCells_size {L : Lad} (h : L.length = 16) : (ladCells L).size = 32 := by
  simp [ladCells, ladList_length, h]
theorem ladCells_at (L : Lad) (k : Nat) (hk : k < L.length) : (ladCells L)[2 * k]? = some (.int .i64 (lat L k).1) ∧ (ladCells L)[2 * k + 1]? = some (.int .i64 (lat L k).2) := by
  simpa [ladCells] using ladList_at L k hk
theorem ladCells_one (L : Lad) : (ladCells L).all (·.oneCell') = true := by
  rw [Array.all_eq_true_iff_forall_mem]
  intro v hv
  have hv' : v ∈ ladList L := by simpa [ladCells] using hv
  obtain ⟨p, _, h⟩ := List.mem_flatMap.1 hv'
  simp at h
  rcases h with rfl | rfl <;> rfl

theorem below_setRow {B g : Nat} {w0 w : World} (hb : Below B w0 w) (hBg : B ≤ g) (cs : Array Value) : Below B w0 (w.setRow g cs) :=
  ⟨hb.os, hb.tape, hb.output, by simpa using hb.size, fun k hk => (setRow_other w g k cs (by omega)).trans (hb.block k hk)⟩
theorem stepCells_one (p : Nat × Nat) : (stepCells p).all (·.oneCell') = true := by
  rw [Array.all_eq_true_iff_forall_mem]
  intro v hv
  simp [stepCells] at hv
  rcases hv with rfl | rfl <;> rfl
end Go.Proofs.Ytgakklanboabjaa
