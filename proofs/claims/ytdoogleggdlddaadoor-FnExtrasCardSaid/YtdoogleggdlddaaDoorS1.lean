/-
  Steps and ladders in memory: what addSteps makes of two steps; a ladder's cells.
-/
import Derived.Test.YtdoogleggdlddaaDoorMG
import Derived.Test.YtdoogleggdlddaaDoorW8
namespace Go.Proofs.YtdoogleggdlddaaDoor
open Go.RowKit

/-- A step as a value. -/
def stepV (p : Nat × Nat) : Value := .agg #[.int .i64 p.1, .int .i64 p.2]
def stepCells (p : Nat × Nat) : Array Value := #[.int .i64 p.1, .int .i64 p.2]
def ladList (L : Lad) : List Value := L.flatMap fun p => [Value.int .i64 p.1, Value.int .i64 p.2]
def ladCells (L : Lad) : Array Value := (ladList L).toArray

theorem ladList_length (L : Lad) : (ladList L).length = 2 * L.length := by
  induction L with
  | nil => rfl
  | cons p L ih => simp only [ladList, List.flatMap_cons, List.length_append, List.length_cons, List.length_nil] at ih ⊢; omega
theorem ladList_at (L : Lad) (k : Nat) (hk : k < L.length) : (ladList L)[2 * k]? = some (.int .i64 (lat L k).1) ∧ (ladList L)[2 * k + 1]? = some (.int .i64 (lat L k).2) := by
  induction L generalizing k with
  | nil => simp at hk
  | cons p L ih =>
    cases k with
    | zero => exact ⟨rfl, rfl⟩
    | succ k =>
      have := ih k (by simpa using hk)
      exact ⟨this.1, this.2⟩
theorem ladList_set (L : Lad) (k : Nat) (p : Nat × Nat) (hk : k < L.length) : ladList (L.set k p) = ((ladList L).set (2 * k) (.int .i64 p.1)).set (2 * k + 1) (.int .i64 p.2) := by
  induction L generalizing k with
  | nil => simp at hk
  | cons q L ih =>
    cases k with
    | zero => rfl
    | succ k =>
      have := ih k (by simpa using hk)
      show Value.int .i64 q.1 :: .int .i64 q.2 :: ladList (L.set k p) = _
      rw [this]; rfl
theorem ladCells_size {L : Lad} (h : L.length = 16) : (ladCells L).size = 32 := by
  simp [ladCells, ladList_length, h]
theorem ladCells_at (L : Lad) (k : Nat) (hk : k < L.length) : (ladCells L)[2 * k]? = some (.int .i64 (lat L k).1) ∧ (ladCells L)[2 * k + 1]? = some (.int .i64 (lat L k).2) := by
  simpa [ladCells] using ladList_at L k hk
theorem ladCells_one (L : Lad) : (ladCells L).all (·.oneCell') = true := by
  rw [Array.all_eq_true_iff_forall_mem]
  intro v hv
  have hv' : v ∈ ladList L := by simpa [ladCells] using hv
  obtain ⟨p, _, h⟩ := List.mem_flatMap.1 hv'
  simp at h
  rcases h with rfl | rfl <;> rfl

theorem below_setRow {B g : Nat} {w0 w : World} (hb : Below B w0 w) (hBg : B ≤ g) (cs : Array Value) : Below B w0 (w.setRow g cs) :=
  ⟨hb.os, hb.tape, hb.output, by simpa using hb.size, fun k hk => (setRow_other w g k cs (by omega)).trans (hb.block k hk)⟩
theorem stepCells_one (p : Nat × Nat) : (stepCells p).all (·.oneCell') = true := by
  rw [Array.all_eq_true_iff_forall_mem]
  intro v hv
  simp [stepCells] at hv
  rcases hv with rfl | rfl <;> rfl
theorem infoStep : (Tryd.prog.info? 93).map (·.size) = some 2 := by kernel_rfl
theorem infoLad : (Tryd.prog.info? 95).map (·.size) = some 32 := by kernel_rfl

theorem ret_step {fn : Func} {p : Tmp} (h : fn.results = #[.cell p 93]) {R : Ending → World → Prop} {a : Act} {w : World} (g : Nat) (q : Nat × Nat) (hp : a.tmps.getD p undef = .pointer (some ⟨g, 0, none⟩))
    (hg : w.heap[g]? = some (.cells (stepCells q) 93 (0, 0))) (hd : a.defers = []) (hR : R (.returned (stepV q)) w) : bodyPost Tryd.prog fn R .ret a w :=
  bodyPost_ret (results_cell_row h _ _ g 93 (stepCells q) (0, 0) _ hp hg Tryd.underlying93 rfl infoStep) hd hR
theorem ret_lad {fn : Func} {p : Tmp} (h : fn.results = #[.cell p 95]) {R : Ending → World → Prop} {a : Act} {w : World} (g : Nat) (L : Lad) (hL : L.length = 16) (hp : a.tmps.getD p undef = .pointer (some ⟨g, 0, none⟩))
    (hg : w.heap[g]? = some (.cells (ladCells L) 95 (0, 0))) (hd : a.defers = []) (hR : R (.returned (.agg (ladCells L))) w) : bodyPost Tryd.prog fn R .ret a w :=
  bodyPost_ret (results_cell_row h _ _ g 95 (ladCells L) (0, 0) _ hp hg Tryd.underlying95 rfl (by rw [ladCells_size hL]; exact infoLad)) hd hR

set_option maxRecDepth 100000 in
set_option maxHeartbeats 400000 in
theorem addSteps_any (a b : Nat × Nat) (w : World) (h1 : a.1 < 2 ^ 62) (h2 : a.2 < 2 ^ 62) (h3 : b.1 < 2 ^ 62) (h4 : b.2 < 2 ^ 62) :
    Calls Tryd.prog 106 #[stepV a, stepV b] w fun e w' => e = .returned (stepV (addP a b)) ∧ Below w.heap.size w w' := by
  obtain ⟨a1, a2⟩ := a
  obtain ⟨b1, b2⟩ := b
  have hx1 := xor_i64 a1 b1 h1 h3
  have hx2 := xor_i64 a2 b2 h2 h4
  unfold stepV
  go_enter Tryd.func106, Tryd.ntmps106
  go_wp2_with fail
  refine ret_step rfl (w.heap.size + 1 + 1) (a1 ^^^ b1, a2 ^^^ b2) rfl ?_ rfl ⟨rfl, ?_⟩
  · rw [show w.heap.size + 1 + 1 = ((w.alloc (.cells #[.int .i64 a1, .int .i64 a2] 93)).alloc (.cells #[.int .i64 b1, .int .i64 b2] 93)).heap.size by simp]; exact heap_alloc_new _ _
  exact (((Below.refl _ w).alloc (Nat.le_refl _) _).alloc (by simp) _).alloc (by simp; omega) _

/-- The walk reads a ladder that is a value at an index. -/
theorem run_index_lad (L : Lad) (h : L.length = 16) (k : Nat) (hk : k < 16) (w : World) :
    (Instr.index 95 (.agg (ladCells L)) (.int .i64 k)).run Tryd.prog w = .ok (stepV (lat L k)) w := by
  obtain ⟨e1, e2⟩ := ladCells_at L k (by omega)
  have hs : (sizeOf 93).run Tryd.prog w = .ok 2 w := by kernel_rfl
  have hx : (ladCells L).extract (k * 2) (k * 2 + 2) = stepCells (lat L k) := by
    apply Array.ext_getElem?
    intro i
    rw [Array.getElem?_extract]
    have hsz := ladCells_size h
    rcases Nat.lt_or_ge i 2 with hi | hi
    · rw [if_pos (by omega)]
      rcases i with _ | i
      · rw [Nat.add_zero, Nat.mul_comm, e1]; rfl
      · obtain rfl : i = 0 := by omega
        rw [Nat.mul_comm k 2, e2]; rfl
    · rw [if_neg (by omega)]
      rcases i with _ | _ | i
      · omega
      · omega
      · rfl
  simp [Instr.index, run_underlying Tryd.underlying95, asIntOf, go_sem, hs, hx, hk]
  rfl
end Go.Proofs.YtdoogleggdlddaaDoor
