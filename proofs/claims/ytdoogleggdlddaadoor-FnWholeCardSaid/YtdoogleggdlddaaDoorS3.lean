/-
  What reduced makes of a ladder.
-/
import Derived.Test.YtdoogleggdlddaaDoorS2
import Derived.Deep.LoopGhost
import Derived.Deep.RegionWith
namespace Go.Proofs.YtdoogleggdlddaaDoor
open Go.RowKit

def lad0 : Lad := List.replicate 16 (0, 0)

/-- A ladder lies in block B. -/
def LadAt (w : World) (B : Nat) (L : Lad) : Prop := w.heap[B]? = some (.cells (ladCells L) 95 (0, 0))
theorem LadAt.cell {w : World} {B : Nat} {L : Lad} (h : LadAt w B L) {k : Nat} (hk : k < L.length) :
    w.cell? ⟨B, k * 2, none⟩ = some (.int .i64 (lat L k).1) ∧ w.cell? ⟨B, k * 2 + 1, none⟩ = some (.int .i64 (lat L k).2) := by
  obtain ⟨e1, e2⟩ := ladCells_at L k hk
  rw [Nat.mul_comm k 2]
  exact ⟨(cell_of_row w B _ _ _ _ h).trans e1, (cell_of_row w B _ _ _ _ h).trans e2⟩
theorem LadAt.frozen {w : World} {B : Nat} {L : Lad} (h : LadAt w B L) (j : Nat) : w.frozen? ⟨B, j, none⟩ = false := frozen_of_row w B j _ _ h
theorem LadAt.below {w w' : World} {B : Nat} {L : Lad} (h : LadAt w B L) {n : Nat} (hb : Below n w w') (hn : B < n) : LadAt w' B L := (hb.block B hn).trans h
theorem LadAt.drewN {w : World} {B : Nat} {L : Lad} (h : LadAt w B L) (n : Nat) : LadAt (w.drewN n) B L := h
theorem LadAt.lt {w : World} {B : Nat} {L : Lad} (h : LadAt w B L) : B < w.heap.size := heap_lt h
theorem LadAt.set {w : World} {B : Nat} {L : Lad} (h : LadAt w B L) {k : Nat} (hk : k < L.length) (p : Nat × Nat) :
    LadAt ((w.setCell ⟨B, k * 2, none⟩ (.int .i64 p.1)).setCell ⟨B, k * 2 + 1, none⟩ (.int .i64 p.2)) B (L.set k p) := by
  have e1 := setCell_eq_setRow w B (k * 2) _ _ _ (.int .i64 (p.1 : Int)) h
  have h1 := setRow_heap w B _ ((ladCells L).setIfInBounds (k * 2) (.int .i64 p.1)) _ _ h
  rw [e1]
  have e2 := setCell_eq_setRow _ B (k * 2 + 1) _ _ _ (.int .i64 (p.2 : Int)) h1
  rw [e2]
  have h2 := setRow_heap _ B _ (((ladCells L).setIfInBounds (k * 2) (.int .i64 p.1)).setIfInBounds (k * 2 + 1) (.int .i64 p.2)) _ _ h1
  refine h2.trans ?_
  congr 2
  unfold ladCells
  rw [ladList_set L k p hk, Nat.mul_comm k 2]
  simp

theorem steps_small {rows : List Nat} {n : Nat} {L : Lad} (h : LadB rows n L) (hn : n ≤ 20) (t : Nat) : (lat L t).1 < 65536 ∧ (lat L t).2 < 1048576 :=
  ⟨h.small t, Nat.lt_of_lt_of_le (h.fits t).lt (Nat.le_trans (Nat.pow_le_pow_right (by decide) hn) (by decide))⟩

/-- addSteps beside a ladder that lies in memory. -/
theorem addSteps_by (a b : Nat × Nat) (W : World) (B : Nat) (L : Lad) (k : Nat) (hA : LadAt W B L) (hk : k < L.length) (h1 : a.1 < 65536) (h2 : a.2 < 1048576) (h3 : b.1 < 65536) (h4 : b.2 < 1048576) :
    Calls Tryd.prog 106 #[.agg #[.int .i64 a.1, .int .i64 a.2], .agg #[.int .i64 b.1, .int .i64 b.2]] W fun e w' =>
      e = .returned (.agg #[.int .i64 (addP a b).1, .int .i64 (addP a b).2]) ∧ Hid (Below W.heap.size W w' ∧ LadAt w' B L) ∧
        w'.cell? ⟨B, k * 2, none⟩ = some (.int .i64 (lat L k).1) ∧ w'.cell? ⟨B, k * 2 + 1, none⟩ = some (.int .i64 (lat L k).2) ∧ w'.frozen? ⟨B, k * 2, none⟩ = false ∧ w'.frozen? ⟨B, k * 2 + 1, none⟩ = false := by
  refine (addSteps_any a b W (by omega) (by omega) (by omega) (by omega)).mono ?_
  rintro e w' ⟨rfl, hb⟩
  have hA' : LadAt w' B L := hA.below hb hA.lt
  exact ⟨rfl, ⟨hb, hA'⟩, (hA'.cell hk).1, (hA'.cell hk).2, hA'.frozen _, hA'.frozen _⟩

set_option maxRecDepth 100000 in
set_option maxHeartbeats 4000000 in
theorem reduced_any (rows : List Nat) (n : Nat) (L : Lad) (w : World) (ht : Tab w) (hL : LadB rows n L) (hn : n ≤ 20) :
    Calls Tryd.prog 107 #[.agg (ladCells L)] w fun e w' => ∃ L', e = .returned (.agg (ladCells L')) ∧ RedI rows n L' 16 0 ∧ Below w.heap.size w w' := by
  have HT := Lib.hid ht
  have HL := Lib.hid hL
  clear ht hL
  go_enter Tryd.func107, Tryd.ntmps107
  go_wp2_with fail
  go_loopg [5] 16 (fun g i wr => ∃ (high : Nat) (L' : Lad), high + g = 16 ∧ i = .int .i64 high ∧ RedI rows n L' high 0 ∧ LadAt wr w.heap.size L' ∧ LadAt wr (w.heap.size + 1) lad0 ∧ Below w.heap.size w wr)
  case atStart =>
    refine ⟨0, L, by omega, rfl, redI_start HL.out, ?_, ?_, ?_⟩
    · exact (Below.heap_alloc _ _ _ (by simp)).trans (heap_alloc_new _ _)
    · unfold LadAt
      rw [show w.heap.size + 1 = (w.alloc (.cells (ladCells L) 95)).heap.size by simp]; exact heap_alloc_new _ _
    · exact ((Below.refl _ w).alloc (Nat.le_refl _) _).alloc (by simp) _
  case round =>
    obtain ⟨high, L1, hg, rfl, hR, hA, hZ, hB⟩ := hrel
    have HR := Lib.hid hR
    have HA := Lib.hid hA
    have HZ := Lib.hid hZ
    have HB := Lib.hid hB
    have hlen := hR.lad.len
    have hbz := hZ.lt
    clear hR hA hZ hB HL
    by_cases hlt : high < 16
    · have hi : (high : Int) < 16 := by omega
      have HGK : Hid (15 - high < gk ∧ high + 1 + (15 - high) = 16) := by show _ ∧ _; omega
      clear hg
      go_wp2_with fail
      go_loopg [9] high (fun g2 j wx => ∃ (low : Nat) (L' : Lad), low + g2 = high ∧ j = .int .i64 low ∧ RedI rows n L' high low ∧ LadAt wx w.heap.size L' ∧ LadAt wx (w.heap.size + 1) lad0 ∧ Below w.heap.size w wx)
      case atStart => exact ⟨0, L1, by omega, rfl, HR.out, HA.out, HZ.out, HB.out⟩
      case round =>
        obtain ⟨low, L2, hg2, rfl, hR2, hA2, hZ2, hB2⟩ := hrel
        have hlen2 := hR2.lad.len
        have HR2 := Lib.hid hR2
        have HA2 := Lib.hid hA2
        have HZ2 := Lib.hid hZ2
        have HB2 := Lib.hid hB2
        have hbz2 := hZ2.lt
        clear hR2 hA2 hZ2 hB2 HR HA HZ HB
        by_cases hlt2 : low < high
        · have hi2 : (low : Int) < (high : Int) := by omega
          have hi3 : (low : Int) < 17 := by omega
          have hi4 : (low : Int) < 16 := by omega
          have hc := (HT.out.below HB2.out) low (by omega)
          obtain ⟨hh1, hh2⟩ := HA2.out.cell (k := high) (by omega)
          obtain ⟨hw1, hw2⟩ := HA2.out.cell (k := low) (by omega)
          obtain ⟨hs1, hs2⟩ := steps_small HR2.out.lad hn high
          obtain ⟨hs3, hs4⟩ := steps_small HR2.out.lad hn low
          cases hbit : (lat L2 high).1.testBit low
          · have hne := bit_and_no hs1 (by omega) hbit
            have HN := Lib.hid (redI_keep HR2.out hbit)
            clear hbit
            go_wp2_with fail
            go_quiet (fail)
            go_wp2_with fail
            go_roundg (high - low - 1)
            case measure => omega
            case rel => exact ⟨low + 1, L2, by omega, by go_num, HN.out, HA2.out, HZ2.out, below_drewN HB2.out _⟩
          · have hne := bit_and hs1 (by omega) hbit
            have HN := Lib.hid (redI_add HR2.out hlt2 hlt hbit)
            clear hbit
            generalize lat L2 high = p at *
            generalize lat L2 low = q at *
            go_wp2_with fail
            go_quiet (fail)
            go_wp2_with fail
            go_region_with (go_at_call 106; refine (addSteps_by p q _ w.heap.size L2 high (HA2.out.drewN _) (by omega) hs1 hs2 hs3 hs4).mono ?_; rintro e w2 ⟨rfl, hb2, c1, c2, f1, f2⟩)
            all_goals
              go_wp2_with fail
              go_roundg (high - low - 1)
              case measure => omega
              case rel =>
                refine ⟨low + 1, L2.set high (addP p q), by omega, by go_num, HN.out, hb2.out.2.set (by omega) _, ?_, ?_⟩
                · have h1 := (HZ2.out.drewN _).below hb2.out.1 hbz2
                  exact (Below.heap_setCell _ _ _ _ (by simp)).trans ((Below.heap_setCell _ _ _ _ (by simp)).trans h1)
                · have h1 : Below w.heap.size w w2 := (below_drewN HB2.out _).trans (hb2.out.1.mono (by simp; omega))
                  exact (h1.setCell (p := ⟨w.heap.size, high * 2, none⟩) (Nat.le_refl _) _).setCell (p := ⟨w.heap.size, high * 2 + 1, none⟩) (Nat.le_refl _) _
        · obtain rfl : low = high := by omega
          have HN := Lib.hid (redI_next HR2.out)
          go_wp2_with fail
          go_roundg (15 - low)
          case measure => exact HGK.out.1
          case rel => exact ⟨low + 1, L2, HGK.out.2, by go_num, HN.out, HA2.out, HZ2.out, HB2.out⟩
    · obtain rfl : high = 16 := by omega
      go_wp2_with (first
        | (refine wpList_load_row rfl 95 _ rfl w.heap.size rfl 95 (ladCells L1) (0, 0) _ HA.out Tryd.underlying95 rfl (by rw [ladCells_size hlen]; exact infoLad) ?_)
        | (refine wpList_store_row rfl 95 _ _ rfl (w.heap.size + 1) (ladCells L1) rfl rfl 95 (ladCells lad0) HZ.out (by rw [ladCells_size hlen]; exact infoLad) (by rw [ladCells_size hlen]; rfl) (ladCells_one _) ?_))
      refine ret_lad rfl (w.heap.size + 1) L1 hlen rfl ?_ rfl ⟨L1, rfl, HR.out, ?_⟩
      · exact setRow_heap _ _ _ _ _ _ HZ.out
      · exact below_setRow HB.out (by omega) _
end Go.Proofs.YtdoogleggdlddaaDoor
