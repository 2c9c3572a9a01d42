/-
  What sumFor and nullRow read off a ladder.
-/
import Derived.Test.YtdoogleggdlddaaDoorS1
import Derived.Test.YtdoogleggdlddaaDoorMG
import Derived.Test.YtdoogleggdlddaaDoorW9
namespace Go.Proofs.YtdoogleggdlddaaDoor
open Go.RowKit

theorem bit_and {n k : Nat} (hn : n < 65536) (hk : k ≤ 16) (hb : n.testBit k = true) : (bits .and .i64 (n : Int) ((2 : Int) ^ k) != 0) = true := by
  rw [and_pow_i64 n k hn hk]
  have : n / 2 ^ k % 2 = 1 := by rw [Nat.testBit_eq_decide_div_mod_eq] at hb; simpa using hb
  have := and_pow_ne.2 this; simp; omega
theorem bit_and_no {n k : Nat} (hn : n < 65536) (hk : k ≤ 16) (hb : n.testBit k = false) : (bits .and .i64 (n : Int) ((2 : Int) ^ k) != 0) = false := by
  rw [and_pow_i64 n k hn hk]
  have h0 : n &&& 2 ^ k = 0 := Classical.byContradiction fun h => by
    have := and_pow_ne.1 h
    rw [Nat.testBit_eq_decide_div_mod_eq, this] at hb; cases hb
  rw [h0]; rfl

theorem heap_lt {w : World} {k : Nat} {o : Obj} (h : w.heap[k]? = some o) : k < w.heap.size := (Array.getElem?_eq_some_iff.1 h).1

set_option maxRecDepth 100000 in
set_option maxHeartbeats 1000000 in
theorem sumFor_any (L : Lad) (want : Nat) (w : World) (ht : Tab w) (hl : L.length = 16) (h1 : ∀ t, (lat L t).1 < 2 ^ 16) (h2 : ∀ t, (lat L t).2 < 2 ^ 60) (hw : want < 65536) :
    Calls Tryd.prog 97 #[.agg (ladCells L), .int .i64 want] w fun e w' => e = .returned (stepV (sumF L want 16)) ∧ Below w.heap.size w w' := by
  have hx := Lib.hid (fun k hk w => run_index_lad L hl k hk w)
  have HL := Lib.hid (fun k => sumF_lt h1 h2 want k)
  have H1 := Lib.hid h1
  have H2 := Lib.hid h2
  have HT := Lib.hid ht
  clear h1 h2 ht
  go_enter Tryd.func97, Tryd.ntmps97
  go_wp2_with (refine wpList_load_row rfl 95 _ rfl w.heap.size rfl 95 (ladCells L) (0, 0) _ (by rw [Below.heap_alloc _ _ _ (by simp; omega), Below.heap_alloc _ _ _ (by simp)]; exact heap_alloc_new _ _) Tryd.underlying95 rfl (by rw [ladCells_size hl]; exact infoLad) ?_)
  go_loopw [9] (fun i wr => ∃ k : Nat, k ≤ 16 ∧ i = .int .i64 k ∧ wr.heap[w.heap.size + 1 + 1]? = some (.cells (stepCells (sumF L want k)) 93 (0, 0)) ∧ wr.heap[w.heap.size + 1]? = some (.cells #[.int .i64 0, .int .i64 0] 93 (0, 0)) ∧ Below w.heap.size w wr) (fun i _ => 16 - (intOf i).toNat)
  case atStart =>
    refine ⟨0, by omega, rfl, ?_, ?_, ?_⟩
    · rw [show w.heap.size + 1 + 1 = ((w.alloc (.cells (ladCells L) 95)).alloc (.cells #[.int .i64 0, .int .i64 0] 93)).heap.size by simp]; exact heap_alloc_new _ _
    · rw [Below.heap_alloc _ _ _ (by simp)]
      rw [show w.heap.size + 1 = (w.alloc (.cells (ladCells L) 95)).heap.size by simp]; exact heap_alloc_new _ _
    · exact (((Below.refl _ w).alloc (Nat.le_refl _) _).alloc (by simp) _).alloc (by simp; omega) _
  case round =>
    obtain ⟨k, hk, rfl, hs, hr, hb⟩ := hrel
    have HB := Lib.hid hb
    have HS := Lib.hid hs
    have HR := Lib.hid hr
    have hlt2 := heap_lt hs
    clear hb hs hr
    by_cases hlt : k < 16
    · have hxk := fun w => hx.out k hlt w
      unfold stepV at hxk
      have hc0 := (HT.out.below HB.out) k (by omega)
      have hc := fun o => (World.cell?_alloc_lt wr o ⟨0, k, none⟩ (World.block_lt_of_cell? _ _ hc0)).trans hc0
      clear hc0
      obtain ⟨hl1, hl2⟩ := HL.out k
      have hl3 := H1.out k
      have hl4 := H2.out k
      have HF : Hid (sumF L want (k + 1) = if want.testBit k = true then addP (sumF L want k) (lat L k) else sumF L want k) := rfl
      generalize sumF L want k = p at *
      generalize lat L k = q at *
      have hi : (k : Int) < 16 := by omega
      cases hbit : want.testBit k
      · have hne := bit_and_no hw (by omega) hbit
        have HE : Hid (sumF L want (k + 1) = p) := by rw [hbit] at HF; exact HF.out
        clear hbit HF
        go_wp2_with fail
        go_roundw
        case rel => exact ⟨k + 1, by omega, by go_num, by rw [HE.out, Below.heap_alloc _ _ _ hlt2]; exact HS.out, by rw [Below.heap_alloc _ _ _ (by omega)]; exact HR.out, HB.out.alloc (by omega) _⟩
        case measure => simp [intOf]; omega
      · have hne := bit_and hw (by omega) hbit
        have HE : Hid (sumF L want (k + 1) = addP p q) := by rw [hbit] at HF; exact HF.out
        clear hbit HF
        go_wp2_with (refine wpList_load_row rfl 93 _ rfl (w.heap.size + 1 + 1) rfl 93 (stepCells p) (0, 0) _ (by rw [Below.heap_alloc _ _ _ hlt2]; exact HS.out) Tryd.underlying93 rfl infoStep ?_)
        refine (addSteps_any p q _ (by omega) (by omega) (by omega) (by omega)).mono ?_
        rintro e w2 ⟨rfl, hb2⟩
        have HS2 : Hid (w2.heap[w.heap.size + 1 + 1]? = some (.cells (stepCells p) 93 (0, 0))) := by
          show _ = _
          rw [hb2.block _ (by simp; omega), Below.heap_alloc _ _ _ hlt2]; exact HS.out
        have HR2 : Hid (w2.heap[w.heap.size + 1]? = some (.cells #[.int .i64 0, .int .i64 0] 93 (0, 0))) := by
          show _ = _
          rw [hb2.block _ (by simp; omega), Below.heap_alloc _ _ _ (by omega)]; exact HR.out
        have HB2 : Hid (Below w.heap.size w w2) := (HB.out.alloc (by omega) _).trans (hb2.mono (by simp; omega))
        clear hb2 HS HR HB
        go_wp2_with (refine wpList_store_row rfl 93 _ _ rfl (w.heap.size + 1 + 1) (stepCells (addP p q)) rfl rfl 93 (stepCells p) HS2.out infoStep rfl (stepCells_one _) ?_)
        go_roundw
        case rel => exact ⟨k + 1, by omega, by go_num, by rw [HE.out]; exact setRow_heap _ _ _ _ _ _ HS2.out, by rw [setRow_other _ _ _ _ (by omega)]; exact HR2.out, below_setRow HB2.out (by omega) _⟩
        case measure => simp [intOf]; omega
    · obtain rfl : k = 16 := by omega
      go_wp2_with (first
        | (refine wpList_load_row rfl 93 _ rfl (w.heap.size + 1 + 1) rfl 93 (stepCells (sumF L want 16)) (0, 0) _ HS.out Tryd.underlying93 rfl infoStep ?_)
        | (refine wpList_store_row rfl 93 _ _ rfl (w.heap.size + 1) (stepCells (sumF L want 16)) rfl rfl 93 #[.int .i64 0, .int .i64 0] HR.out infoStep rfl (stepCells_one _) ?_))
      refine ret_step rfl (w.heap.size + 1) (sumF L want 16) rfl ?_ rfl ⟨rfl, ?_⟩
      · exact setRow_heap _ _ _ _ _ _ HR.out
      · exact below_setRow HB.out (by omega) _

theorem or_pow_i64 (n k : Nat) (hn : n < 65536) (hk : k ≤ 16) : bits .or .i64 (n : Int) ((2 : Int) ^ k) = ((n ||| 2 ^ k : Nat) : Int) := by
  have h := two_pow_le k hk
  rw [show ((2 : Int) ^ k) = ((2 ^ k : Nat) : Int) by simp, or_i64 n _ (by omega) (by omega)]

end Go.Proofs.YtdoogleggdlddaaDoor
