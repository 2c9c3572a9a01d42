/-
  GG: The draws of chapter 10.
  GI: The draws of chapter 10: a log on a disk; DrawSumOf, DrawAppend, DrawReadLog, DrawNextNo, DrawCrashLog.
  GN: The draws of chapter 10: DrawReadLog, DrawNextNo, DrawCrashLog, DrawAppend, DrawSumOf.
-/
import Derived.Test.YthbjcipdneminaaDoorGQ

/- GG -/
namespace Go.Proofs.YthbjcipdneminaaDoor
open Go.RowKit

/-- A text with up to two of its bytes spoilt. -/
structure Spo (w w' : World) (B k n : Nat) (s : ByteArray) : Prop where
  size : s.size ≤ n
  cur : Cur w' B k
  grown : w.grownBy w' (some B)
theorem rtI_size (r : Rec) : (rtI r).size ≤ 16 := by
  unfold rtI; split
  · exact Nat.le_of_eq (txR_size r)
  · exact Nat.zero_le _
end Go.Proofs.YthbjcipdneminaaDoor

/- GI -/
namespace Go.Proofs.YthbjcipdneminaaDoor
open Go.RowKit

/-- The orders of a region that draws meet in frames that differ in what was drawn alone. -/
theorem wp_meet_dk {P : Program} {c : Code} {Q : Exit → Act → World → Prop} {a : Act} {w : World} (R : Nat → Int → Int → Int → Option Addr → Nat → Option Addr → Nat → World → Prop) (A : Nat → Int → Int → Int → Option Addr → Nat → Option Addr → Nat → Act)
    (hreg : c.wp P (fun e a' w' => e = .normal ∧ ∃ Y x4 x5 x6 A7 ca7 E7 ce7, a' = A Y x4 x5 x6 A7 ca7 E7 ce7 ∧ R Y x4 x5 x6 A7 ca7 E7 ce7 w') a w) (himp : ∀ Y x4 x5 x6 A7 ca7 E7 ce7 w', R Y x4 x5 x6 A7 ca7 E7 ce7 w' → Q .normal (A Y x4 x5 x6 A7 ca7 E7 ce7) w') : c.wp P Q a w :=
  Code.wp_mono (fun e a' w' ⟨h1, Y, x4, x5, x6, A7, ca7, E7, ce7, h2, h3⟩ => by rw [h1, h2]; exact himp _ _ _ _ _ _ _ _ _ h3) hreg
theorem box_to {w w' : World} {X : Nat} {o : Obj} (hb : Below w.heap.size w w') (h : w.heap[X]? = some o) : w'.heap[X]? = some o := (hb.block _ (heap_lt h)).trans h
theorem box_by {w w' : World} {B X : Nat} {o : Obj} (hg : w.grownBy w' (some B)) (h : w.heap[X]? = some o) (hn : some X ≠ some B) : w'.heap[X]? = some o := (hg.block _ (heap_lt h) hn).trans h
theorem pick_le {x n : Int} (h : 0 ≤ x ∧ (x < n ∨ x = 0)) (hn : 0 ≤ n) : 0 ≤ x ∧ x ≤ n := ⟨h.1, by omega⟩
theorem ap_good {ss : List ByteArray} {ps : List (Int × ByteArray)} {r : Rec} (h : apOkB ss ps r = true) : goodDB (apS ss ps r) (apP ss ps r) = true := by
  simp only [apOkB, Bool.and_eq_true] at h
  rw [apS, if_pos h.1, apP, if_pos h.1]
  exact good_yes h.2
set_option maxRecDepth 100000 in
set_option maxHeartbeats 8000000 in
theorem logDisk10 (B k : Nat) (w : World) (hcur : Cur w B k) (hk : k ≤ 68719476736) :
    Calls Tryd.prog 38 #[.pointer (some ⟨B, 0, none⟩)] w fun e w' => ∃ v1 v2 ss ps, e = .returned (diskV v1 v2) ∧ OwnD w' w.heap.size v1 v2 ss ps ∧ ss.length = 12 ∧ ps.length ≤ 41 ∧ (∀ s ∈ ss, s.size ≤ 16) ∧ (∀ p ∈ ps, p.2.size ≤ 16) ∧ Cur w' B (k + 100) ∧ w.grownBy w' (some B) := by
  have hB := hcur.lt
  have hR : Hid ((w.alloc (.cells #[.slice none 0 0, .slice none 0 0] 26)).heap[w.heap.size]? = some (.cells #[.slice none 0 0, .slice none 0 0] 26 (0, 0))) := heap_alloc_new _ _
  have HC := Lib.hid (hcur.below (gAlloc w (.cells #[.slice none 0 0, .slice none 0 0] 26)))
  have HG := Lib.hid (World.grownBy_alloc w (.cells #[.slice none 0 0, .slice none 0 0] 26) (some B))
  clear hcur
  go_enter Tryd.func38, Tryd.ntmps38
  go_wp2_with fail
  refine (sNewDisk_E _).mono ?_
  rintro e w1 ⟨v1, v2, ss0, ps0, rfl, ho1, hgd0, hb1⟩
  obtain ⟨A1, B1, c1, d1, rfl, rfl, -⟩ := lies1 ho1
  have HGd := Lib.hid hgd0
  clear hgd0
  obtain ⟨w2, hw2⟩ : ∃ w2, w1.alloc (.cells #[.slice A1 ss0.length c1, .slice B1 ps0.length d1] 26) = w2 := ⟨_, rfl⟩
  have hb2 : Below w1.heap.size w1 w2 := by rw [← hw2]; exact gAlloc _ _
  have hD2 : w2.heap[w1.heap.size]? = some (.cells #[.slice A1 ss0.length c1, .slice B1 ps0.length d1] 26 (0, 0)) := by rw [← hw2]; exact heap_alloc_new _ _
  have hs1 := hb1.size
  rw [World.heap_size_alloc9] at hs1
  have HR2 : Hid (w2.heap[w.heap.size]? = some (.cells #[.slice none 0 0, .slice none 0 0] 26 (0, 0))) := (hb2.block _ (by omega)).trans ((hb1.block _ (by rw [World.heap_size_alloc9]; omega)).trans hR.out)
  have HI2 : Hid (Dk9 w2 B (w.heap.size + 1) w1.heap.size (k + 90 - 10 * 7) (.slice A1 ss0.length c1) (.slice B1 ps0.length d1) ss0 ps0) :=
    ⟨(ho1.below hb2).lower (by rw [World.heap_size_alloc9]; omega), HGd.out, (((HC.out.below hb1).below hb2).mono (show k ≤ k + 90 - 10 * 7 by omega)), fun g hg => Nat.ne_of_lt (ho1.sure.lt g hg).2, fun g hg => Nat.ne_of_lt (ho1.later.lt g hg).2⟩
  have HG2 : Hid (w.grownBy w2 (some B)) := grownBy_trans HG.out (gBelowR (below_more hb1 hb2) _)
  have HD2 := Lib.hid hD2
  have hDn : w.heap.size + 1 ≤ w1.heap.size := hs1
  clear ho1 hb1 hb2 hD2 HC HG hR hs1
  go_wp2_with fail
  go_loopg [4] 7 (fun gk i wr => ∃ v1 v2 ss ps, ∃ K : Nat, i = .int .i64 K ∧ K + gk = 8 ∧ 1 ≤ K ∧ Dk9 wr B (w.heap.size + 1) w1.heap.size (k + 90 - 10 * gk) v1 v2 ss ps ∧ wr.heap[w1.heap.size]? = some (.cells #[v1, v2] 26 (0, 0)) ∧ wr.heap[w.heap.size]? = some (.cells #[.slice none 0 0, .slice none 0 0] 26 (0, 0)) ∧ w.grownBy wr (some B))
  case atStart => exact ⟨_, _, _, _, 1, rfl, rfl, Nat.le_refl _, HI2.out, HD2.out, HR2.out, HG2.out⟩
  case round =>
    obtain ⟨v1, v2, ss, ps, K, rfl, hgk, hK1, hI, hD, hR, hG⟩ := hrel
    obtain ⟨A, E, ca, ce, rfl, rfl, -, -, hlA, hlE⟩ := lies1 hI.own
    have HRn := Lib.hid (show Rnd9 w wr B w.heap.size w1.heap.size (k + 90 - 10 * gk) (.slice A ss.length ca) (.slice E ps.length ce) ss ps from ⟨hI, hD, hR, hG⟩)
    have hKs : K ≤ 8 := by omega
    have HK := Lib.hid hgk
    have hgk7 : gk ≤ 7 := by omega
    clear hI hD hR hG HI2 HD2 HR2 HG2 hgk hw2
    go_wp2_with fail
    refine (pick_any B (k + 90 - 10 * gk) 8 _ HRn.out.dk.cur (by omega) (by omega)).mono ?_
    rintro e wc ⟨xc, rfl, hxc, hcc, hgc⟩
    have HRc := Lib.hid (rnd_cur HRn.out hgc hcc hB (by omega))
    have hxc7 : 0 ≤ xc ∧ xc ≤ 7 := ⟨hxc.1, by have := hxc.2; omega⟩
    clear hcc hgc HRn hxc
    have hDl := heap_lt HRc.out.old
    have hc0 : wc.cell? ⟨w1.heap.size, 0, none⟩ = some (.slice A ss.length ca) := cell_of_row _ _ 0 _ _ _ HRc.out.old
    have hc1 : wc.cell? ⟨w1.heap.size, 1, none⟩ = some (.slice E ps.length ce) := cell_of_row _ _ 1 _ _ _ HRc.out.old
    by_cases hle : (K : Int) ≤ xc
    · have HK7 : Hid (K ≤ 7 ∧ 1 ≤ gk) := by show _ ∧ _; have := HK.out; omega
      go_wp2_with fail
      have hnc : w1.heap.size ≠ wc.heap.size := by omega
      have hmc : wc.heap.size ≠ w1.heap.size := by omega
      have hNB : some w1.heap.size ≠ some B := by intro e; injection e with e; omega
      have hNc : some wc.heap.size ≠ some B := by intro e; injection e with e; omega
      have hNs : ∀ {n : Nat}, wc.heap.size ≤ n → some n ≠ some B := fun h => by intro e; injection e with e; omega
      have hk4 : k + 90 - 10 * gk + 2 ≤ 549755813888 := by omega
      have hk5 : k + 90 - 10 * gk + 2 + 2 ≤ 549755813888 := by omega
      have hk6 : k + 90 - 10 * gk + 2 + 2 + 2 ≤ 549755813888 := by omega
      have HAp : Hid (∀ w' no kd a b, wc.grownBy w' (some B) → Calls Tryd.prog 16 #[diskV (.slice A ss.length ca) (.slice E ps.length ce), .int .i64 no, .int .i64 kd, .int .i64 a, .int .i64 b] w' fun e w'' => ∃ A7 ca7 E7 ce7, e = .returned (.tuple #[diskV (.slice A7 (apS ss ps (no, kd, a, b)).length ca7) (.slice E7 (apP ss ps (no, kd, a, b)).length ce7), .bool (apOkB ss ps (no, kd, a, b))]) ∧ OwnD w'' w'.heap.size (.slice A7 (apS ss ps (no, kd, a, b)).length ca7) (.slice E7 (apP ss ps (no, kd, a, b)).length ce7) (apS ss ps (no, kd, a, b)) (apP ss ps (no, kd, a, b)) ∧ Below w'.heap.size w' w'') := fun w' no kd a b hg => (sAppend_any A E ss ps ca ce no kd a b w' (disk_in (OwnR.rd fSt_len (HRc.out.dk.own.sure.cur (show B < w.heap.size + 1 by omega) hg)) (OwnR.rd fPu_len (HRc.out.dk.own.later.cur (show B < w.heap.size + 1 by omega) hg)) HRc.out.dk.good) hlA hlE).mono fun e w'' ⟨v1, v2, he, ho, hb⟩ => by
        obtain ⟨A7, E7, ca7, ce7, rfl, rfl, -⟩ := lies1 ho
        exact ⟨A7, ca7, E7, ce7, he, ho, hb⟩
      apply wp_meet_dk (fun Y x4 x5 x6 A7 ca7 E7 ce7 w' => (0 ≤ x4 ∧ x4 ≤ 3) ∧ (0 ≤ x5 ∧ x5 ≤ 200) ∧ (0 ≤ x6 ∧ x6 ≤ 99) ∧ Mid9 w w' B w.heap.size w1.heap.size Y (k + 90 - 10 * gk + 2 + 2 + 2 + 2) (.slice A ss.length ca) (.slice E ps.length ce) (.slice A7 (apS ss ps ((K : Int), IntKind.i64.wrap (1 + x4), IntKind.i64.wrap (x5 * 30), x6)).length ca7) (.slice E7 (apP ss ps ((K : Int), IntKind.i64.wrap (1 + x4), IntKind.i64.wrap (x5 * 30), x6)).length ce7) ss ps (apS ss ps ((K : Int), IntKind.i64.wrap (1 + x4), IntKind.i64.wrap (x5 * 30), x6)) (apP ss ps ((K : Int), IntKind.i64.wrap (1 + x4), IntKind.i64.wrap (x5 * 30), x6)))
      case hreg =>
        go_region_held3 (fun w' => w'.cell? ⟨w1.heap.size, 0, none⟩ = some (.slice A ss.length ca) ∧ w'.cell? ⟨w1.heap.size, 1, none⟩ = some (.slice E ps.length ce)) (first | exact ⟨hc0, hc1⟩ | exact hq7 | exact hq6 | exact hq5 | exact hq4 | go_keep) (first
          | (go_at_call 16; refine (HAp.out _ _ _ _ _ (by first | exact ht6 | exact grownBy_trans ht6 (World.grownBy_alloc _ _ _))).mono ?_; rintro e w7 ⟨A7, ca7, E7, ce7, rfl, ho7, hb7⟩; have hq7 : w7.cell? ⟨w1.heap.size, 0, none⟩ = some (.slice A ss.length ca) ∧ w7.cell? ⟨w1.heap.size, 1, none⟩ = some (.slice E ps.length ce) := ⟨(hb7.cell (World.block_lt_of_cell? _ _ (by apply And.left; assumption))).trans (by apply And.left; assumption), (hb7.cell (World.block_lt_of_cell? _ _ (by apply And.right; assumption))).trans (by apply And.right; assumption)⟩; (try (have hbc_7 : w7.heap[wc.heap.size]? = some (.cells #[.slice none 0 0, .slice none 0 0] 26 (0, 0)) := box_to hb7 (box_by hg6 (box_by hg5 (box_by hg4 (alloc_atD _ _) hNc) hNc) hNc); have pc0 := cell_of_row w7 _ 0 _ _ _ hbc_7; have pc1 := cell_of_row w7 _ 1 _ _ _ hbc_7; have fc0 := frozen_of_row w7 _ 0 _ _ hbc_7; have fc1 := frozen_of_row w7 _ 1 _ _ hbc_7)); (try (have hb4_7 : w7.heap[w4.heap.size]? = some (.cells #[.slice none 0 0, .slice none 0 0] 26 (0, 0)) := box_to hb7 (box_by hg6 (box_by hg5 (heap_alloc_new _ _) (hNs ht4.size)) (hNs ht4.size)); have p40 := cell_of_row w7 _ 0 _ _ _ hb4_7; have p41 := cell_of_row w7 _ 1 _ _ _ hb4_7; have f40 := frozen_of_row w7 _ 0 _ _ hb4_7; have f41 := frozen_of_row w7 _ 1 _ _ hb4_7)); (try (have hb5_7 : w7.heap[w5.heap.size]? = some (.cells #[.slice none 0 0, .slice none 0 0] 26 (0, 0)) := box_to hb7 (box_by hg6 (heap_alloc_new _ _) (hNs ht5.size)); have p50 := cell_of_row w7 _ 0 _ _ _ hb5_7; have p51 := cell_of_row w7 _ 1 _ _ _ hb5_7; have f50 := frozen_of_row w7 _ 0 _ _ hb5_7; have f51 := frozen_of_row w7 _ 1 _ _ hb5_7)); (try (have hb6_7 : w7.heap[w6.heap.size]? = some (.cells #[.slice none 0 0, .slice none 0 0] 26 (0, 0)) := box_to hb7 (heap_alloc_new _ _); have p60 := cell_of_row w7 _ 0 _ _ _ hb6_7; have p61 := cell_of_row w7 _ 1 _ _ _ hb6_7; have f60 := frozen_of_row w7 _ 0 _ _ hb6_7; have f61 := frozen_of_row w7 _ 1 _ _ hb6_7)))
          | (go_at_call 39; have hpre := hc5; clear hpre; refine (pick_any B _ 99 _ (by first | exact hc5 | exact hc5.below (gAlloc _ _)) hk6 (by decide)).mono ?_; rintro e w6 ⟨x6, rfl, hx6, hc6, hg6⟩; obtain ⟨hy6, hz6⟩ := pick_le hx6 (by decide); have hq6 : w6.cell? ⟨w1.heap.size, 0, none⟩ = some (.slice A ss.length ca) ∧ w6.cell? ⟨w1.heap.size, 1, none⟩ = some (.slice E ps.length ce) := ⟨hg6.cell (by apply And.left; assumption) hNB, hg6.cell (by apply And.right; assumption) hNB⟩; have ht6 : wc.grownBy w6 (some B) := grownBy_trans ht5 (by first | exact hg6 | exact grownBy_trans (World.grownBy_alloc _ _ _) hg6); have hn6 := Nat.ne_of_lt (Nat.lt_of_lt_of_le hDl ht6.size); have hm6 := hn6.symm)
          | (go_at_call 39; have hpre := hc4; clear hpre; refine (pick_any B _ 200 _ (by first | exact hc4 | exact hc4.below (gAlloc _ _)) hk5 (by decide)).mono ?_; rintro e w5 ⟨x5, rfl, hx5, hc5, hg5⟩; obtain ⟨hy5, hz5⟩ := pick_le hx5 (by decide); have hq5 : w5.cell? ⟨w1.heap.size, 0, none⟩ = some (.slice A ss.length ca) ∧ w5.cell? ⟨w1.heap.size, 1, none⟩ = some (.slice E ps.length ce) := ⟨hg5.cell (by apply And.left; assumption) hNB, hg5.cell (by apply And.right; assumption) hNB⟩; have ht5 : wc.grownBy w5 (some B) := grownBy_trans ht4 (by first | exact hg5 | exact grownBy_trans (World.grownBy_alloc _ _ _) hg5); have hn5 := Nat.ne_of_lt (Nat.lt_of_lt_of_le hDl ht5.size); have hm5 := hn5.symm)
          | (go_at_call 39; refine (pick_any B _ 3 _ (by first | exact HRc.out.dk.cur.below gDrew | exact HRc.out.dk.cur.below (below_more (gAlloc _ _) gDrew)) hk4 (by decide)).mono ?_; rintro e w4 ⟨x4, rfl, hx4, hc4, hg4⟩; obtain ⟨hy4, hz4⟩ := pick_le hx4 (by decide); have hq4 : w4.cell? ⟨w1.heap.size, 0, none⟩ = some (.slice A ss.length ca) ∧ w4.cell? ⟨w1.heap.size, 1, none⟩ = some (.slice E ps.length ce) := ⟨hg4.cell (by apply And.left; assumption) hNB, hg4.cell (by apply And.right; assumption) hNB⟩; have ht4 : wc.grownBy w4 (some B) := grownBy_trans (gBelowR (by first | exact gDrew | exact below_more (gAlloc _ _) gDrew) _) hg4; have hn4 := Nat.ne_of_lt (Nat.lt_of_lt_of_le hDl ht4.size); have hm4 := hn4.symm))
        all_goals
          have ht7 : wc.grownBy w7 (some B) := grownBy_trans (show wc.grownBy _ (some B) by first | exact ht6 | exact grownBy_trans ht6 (World.grownBy_alloc _ _ _)) (gBelowR hb7 _)
          have hc7 : Cur w7 B (k + 90 - 10 * gk + 2 + 2 + 2 + 2) := by first | exact hc6.below hb7 | exact (hc6.below (gAlloc _ _)).below hb7
          have hl4 := ht4.size
          have hl5 := ht5.size
          have hl6 := ht6.size
          have hl7 := hb7.size
          (try simp only [World.heap_size_alloc9] at hl7)
          have hs4 := hg4.size
          have hs5 := hg5.size
          have hs6 := hg6.size
          (try simp only [World.heap_size_alloc9] at hs5)
          (try simp only [World.heap_size_alloc9] at hs6)
          (try have hs4' : wc.heap.size + 1 ≤ w4.heap.size := Nat.le_trans (Nat.le_of_eq (World.heap_size_alloc9 wc _).symm) hg4.size)
          have hO7 : w7.heap[w1.heap.size]? = some (.cells #[.slice A ss.length ca, .slice E ps.length ce] 26 (0, 0)) := (ht7.block _ hDl (by intro e; injection e with e; omega)).trans HRc.out.old
          have hR7 : w7.heap[w.heap.size]? = some (.cells #[.slice none 0 0, .slice none 0 0] 26 (0, 0)) := (ht7.block _ (heap_lt HRc.out.res) (by intro e; injection e with e; omega)).trans HRc.out.res
          have hw7 := HRc.out.dk.own.cur9 (show B < w.heap.size + 1 by omega) ht7
          have hg7 := grownBy_trans HRc.out.grown ht7
          have hoff1 : ∀ Z, wc.heap.size ≤ Z → ∀ g, (Value.slice A ss.length ca).ownBlock = some g → g ≠ Z := fun Z hZ g hg => by have := (HRc.out.dk.own.sure.lt g hg).2; omega
          have hoff2 : ∀ Z, wc.heap.size ≤ Z → ∀ g, (Value.slice E ps.length ce).ownBlock = some g → g ≠ Z := fun Z hZ g hg => by have := (HRc.out.dk.own.later.lt g hg).2; omega
          first
            | (have HM := mid_alloc9 hO7 hR7 hw7 (ho7.lower (by omega)) (by omega) hc7 hg7; obtain ⟨Y, hY⟩ : ∃ Y, w7.heap.size = Y := ⟨_, rfl⟩; rw [hY] at HM ⊢; exact ⟨rfl, Y, x4, x5, x6, A7, ca7, E7, ce7, rfl, ⟨hy4, hz4⟩, ⟨hy5, hz5⟩, ⟨hy6, hz6⟩, HM⟩)
            | (have HM := mid_put9 hbc_7 hO7 hR7 hw7 (hoff1 _ (by omega)) (hoff2 _ (by omega)) (ho7.lower (by (try simp only [World.heap_size_alloc9]); omega)) (by omega) (by omega) hB (Nat.le_refl _) hc7 hg7; obtain ⟨Y, hY⟩ : ∃ Y, wc.heap.size = Y := ⟨_, rfl⟩; rw [hY] at HM ⊢; exact ⟨rfl, Y, x4, x5, x6, A7, ca7, E7, ce7, rfl, ⟨hy4, hz4⟩, ⟨hy5, hz5⟩, ⟨hy6, hz6⟩, HM⟩)
            | (have HM := mid_put9 hb4_7 hO7 hR7 hw7 (hoff1 _ (by omega)) (hoff2 _ (by omega)) (ho7.lower (by (try simp only [World.heap_size_alloc9]); omega)) (by omega) (by omega) hB (Nat.le_refl _) hc7 hg7; obtain ⟨Y, hY⟩ : ∃ Y, w4.heap.size = Y := ⟨_, rfl⟩; rw [hY] at HM ⊢; exact ⟨rfl, Y, x4, x5, x6, A7, ca7, E7, ce7, rfl, ⟨hy4, hz4⟩, ⟨hy5, hz5⟩, ⟨hy6, hz6⟩, HM⟩)
            | (have HM := mid_put9 hb6_7 hO7 hR7 hw7 (hoff1 _ (by omega)) (hoff2 _ (by omega)) (ho7.lower (by (try simp only [World.heap_size_alloc9]); omega)) (by omega) (by omega) hB (Nat.le_refl _) hc7 hg7; obtain ⟨Y, hY⟩ : ∃ Y, w6.heap.size = Y := ⟨_, rfl⟩; rw [hY] at HM ⊢; exact ⟨rfl, Y, x4, x5, x6, A7, ca7, E7, ce7, rfl, ⟨hy4, hz4⟩, ⟨hy5, hz5⟩, ⟨hy6, hz6⟩, HM⟩)
            | (have HM := mid_put9 hb5_7 hO7 hR7 hw7 (hoff1 _ (by omega)) (hoff2 _ (by omega)) (ho7.lower (by (try simp only [World.heap_size_alloc9]); omega)) (by omega) (by omega) hB (Nat.le_refl _) hc7 hg7; obtain ⟨Y, hY⟩ : ∃ Y, w5.heap.size = Y := ⟨_, rfl⟩; rw [hY] at HM ⊢; exact ⟨rfl, Y, x4, x5, x6, A7, ca7, E7, ce7, rfl, ⟨hy4, hz4⟩, ⟨hy5, hz5⟩, ⟨hy6, hz6⟩, HM⟩)
      case himp =>
        rintro Y x4 x5 x6 A6 ca6 E6 ce6 wx ⟨hx4, hx5, hx6, hM⟩
        have HM := Lib.hid hM
        have HOa := Lib.hid HRc.out.dk.off1
        have HOb := Lib.hid HRc.out.dk.off2
        have HGa := Lib.hid HRc.out.dk.good
        have HGp : Hid (apOkB ss ps ((K : Int), IntKind.i64.wrap (1 + x4), IntKind.i64.wrap (x5 * 30), x6) = true → goodDB (apS ss ps ((K : Int), IntKind.i64.wrap (1 + x4), IntKind.i64.wrap (x5 * 30), x6)) (apP ss ps ((K : Int), IntKind.i64.wrap (1 + x4), IntKind.i64.wrap (x5 * 30), x6)) = true) := fun h => ap_good h
        have y0 := cell_of_row wx _ 0 _ _ _ hM.box
        have y1 := cell_of_row wx _ 1 _ _ _ hM.box
        have d0 := cell_of_row wx _ 0 _ _ _ hM.old
        have d1 := cell_of_row wx _ 1 _ _ _ hM.old
        have f0 := frozen_of_row wx _ 0 _ _ hM.old
        have f1 := frozen_of_row wx _ 1 _ _ hM.old
        have hYD := hM.ne
        clear hM HAp hx4 hx5 hx6
        generalize apS ss ps ((K : Int), IntKind.i64.wrap (1 + x4), IntKind.i64.wrap (x5 * 30), x6) = us at *
        generalize apP ss ps ((K : Int), IntKind.i64.wrap (1 + x4), IntKind.i64.wrap (x5 * 30), x6) = up at *
        cases hok : apOkB ss ps ((K : Int), IntKind.i64.wrap (1 + x4), IntKind.i64.wrap (x5 * 30), x6)
        · have HR8 := Lib.hid (mid_keep HM.out HGa.out HOa.out HOb.out)
          have HS8 := Lib.hid (sSync_E A E ss ps ca ce wx (OwnR.rd fSt_len HR8.out.dk.own.sure) (OwnR.rd fPu_len HR8.out.dk.own.later) HR8.out.dk.good (ownR_lies HR8.out.dk.own.sure))
          clear HM HOa HOb HGa HGp
          clear y0 y1 f0 f1
          go_wp2_with fail
          refine HS8.out.mono ?_
          rintro e w9 ⟨s1, s2, us9, up9, rfl, ho9, hgd9, hb9⟩
          obtain ⟨A9, E9, ca9, ce9, rfl, rfl, -⟩ := lies1 ho9
          have hs9 := hb9.size
          have hd9 := heap_lt HR8.out.old
          have HM9 := Lib.hid (mid_alloc9 ((hb9.block _ (heap_lt HR8.out.old)).trans HR8.out.old) ((hb9.block _ (heap_lt HR8.out.res)).trans HR8.out.res) (HR8.out.dk.own.below hb9) (ho9.lower hd9) (by omega) (HR8.out.dk.cur.below hb9) (grownBy_trans HR8.out.grown (gBelowR hb9 _)))
          have HG9 := Lib.hid hgd9
          have HO1 := Lib.hid HR8.out.dk.off1
          have HO2 := Lib.hid HR8.out.dk.off2
          have HGd8 := Lib.hid HR8.out.dk.good
          obtain ⟨wy, hwy⟩ : ∃ wy, w9.alloc (.cells #[.slice A9 us9.length ca9, .slice E9 up9.length ce9] 26) = wy := ⟨_, rfl⟩
          rw [hwy] at HM9
          clear hgd9 ho9 hb9 HS8 HR8 d0 d1
          go_wp2_with fail
          refine (one_any B _ 3 _ HM9.out.cur (by omega) (by omega)).mono ?_
          rintro e w10 ⟨b10, rfl, hc10, hg10⟩
          have HM10 := Lib.hid (mid_cur HM9.out hg10 hc10 hB (by omega) (by omega))
          have hb10 := heap_lt HM10.out.box
          have y0 : w10.cell? ⟨w9.heap.size, 0, none⟩ = some (.slice A9 us9.length ca9) := cell_of_row _ _ 0 _ _ _ HM10.out.box
          have y1 : w10.cell? ⟨w9.heap.size, 1, none⟩ = some (.slice E9 up9.length ce9) := cell_of_row _ _ 1 _ _ _ HM10.out.box
          have d0 : w10.cell? ⟨w1.heap.size, 0, none⟩ = some (.slice A ss.length ca) := cell_of_row _ _ 0 _ _ _ HM10.out.old
          have d1 : w10.cell? ⟨w1.heap.size, 1, none⟩ = some (.slice E ps.length ce) := cell_of_row _ _ 1 _ _ _ HM10.out.old
          have f0 := frozen_of_row w10 _ 0 _ _ HM10.out.old
          have f1 := frozen_of_row w10 _ 1 _ _ HM10.out.old
          have hdy : w1.heap.size ≠ w9.heap.size := by omega
          clear hwy hc10 hg10 HM9
          cases b10
          · have HF := Lib.hid (mid_keep HM10.out HGd8.out HO1.out HO2.out)
            go_wp2_with fail
            have hK7 := HK7.out
            go_roundg (gk - 1)
            case measure => omega
            case rel => exact ⟨_, _, _, _, K + 1, by go_num, by have := HK.out; omega, by omega, HF.out.dk.mono (by omega), HF.out.old, HF.out.res, HF.out.grown⟩
          · have HF := Lib.hid (mid_take HM10.out HG9.out hB (by omega) (Nat.le_refl _))
            go_wp2_with fail
            have hK7 := HK7.out
            go_roundg (gk - 1)
            case measure => omega
            case rel => exact ⟨_, _, _, _, K + 1, by go_num, by have := HK.out; omega, by omega, HF.out.dk.mono (by omega), HF.out.old, HF.out.res, HF.out.grown⟩
        · have HR8 := Lib.hid (mid_take HM.out (HGp.out hok) hB (by omega) (Nat.le_refl _))
          have HS8 := Lib.hid (sSync_E A6 E6 us up ca6 ce6 ((wx.setCell ⟨w1.heap.size, 0, none⟩ (.slice A6 us.length ca6)).setCell ⟨w1.heap.size, 1, none⟩ (.slice E6 up.length ce6)) (OwnR.rd fSt_len HR8.out.dk.own.sure) (OwnR.rd fPu_len HR8.out.dk.own.later) HR8.out.dk.good (ownR_lies HR8.out.dk.own.sure))
          clear HM HOa HOb HGa HGp
          go_wp2_with fail
          refine HS8.out.mono ?_
          rintro e w9 ⟨s1, s2, us9, up9, rfl, ho9, hgd9, hb9⟩
          obtain ⟨A9, E9, ca9, ce9, rfl, rfl, -⟩ := lies1 ho9
          have hs9 := hb9.size
          have hd9 := heap_lt HR8.out.old
          have HM9 := Lib.hid (mid_alloc9 ((hb9.block _ (heap_lt HR8.out.old)).trans HR8.out.old) ((hb9.block _ (heap_lt HR8.out.res)).trans HR8.out.res) (HR8.out.dk.own.below hb9) (ho9.lower hd9) (by omega) (HR8.out.dk.cur.below hb9) (grownBy_trans HR8.out.grown (gBelowR hb9 _)))
          have HG9 := Lib.hid hgd9
          have HO1 := Lib.hid HR8.out.dk.off1
          have HO2 := Lib.hid HR8.out.dk.off2
          have HGd8 := Lib.hid HR8.out.dk.good
          obtain ⟨wy, hwy⟩ : ∃ wy, w9.alloc (.cells #[.slice A9 us9.length ca9, .slice E9 up9.length ce9] 26) = wy := ⟨_, rfl⟩
          rw [hwy] at HM9
          clear hgd9 ho9 hb9 HS8 HR8 y0 y1 f0 f1 d0 d1
          go_wp2_with fail
          refine (one_any B _ 3 _ HM9.out.cur (by omega) (by omega)).mono ?_
          rintro e w10 ⟨b10, rfl, hc10, hg10⟩
          have HM10 := Lib.hid (mid_cur HM9.out hg10 hc10 hB (by omega) (by omega))
          have hb10 := heap_lt HM10.out.box
          have y0 : w10.cell? ⟨w9.heap.size, 0, none⟩ = some (.slice A9 us9.length ca9) := cell_of_row _ _ 0 _ _ _ HM10.out.box
          have y1 : w10.cell? ⟨w9.heap.size, 1, none⟩ = some (.slice E9 up9.length ce9) := cell_of_row _ _ 1 _ _ _ HM10.out.box
          have d0 : w10.cell? ⟨w1.heap.size, 0, none⟩ = some (.slice A6 us.length ca6) := cell_of_row _ _ 0 _ _ _ HM10.out.old
          have d1 : w10.cell? ⟨w1.heap.size, 1, none⟩ = some (.slice E6 up.length ce6) := cell_of_row _ _ 1 _ _ _ HM10.out.old
          have f0 := frozen_of_row w10 _ 0 _ _ HM10.out.old
          have f1 := frozen_of_row w10 _ 1 _ _ HM10.out.old
          have hdy : w1.heap.size ≠ w9.heap.size := by omega
          clear hwy hc10 hg10 HM9
          cases b10
          · have HF := Lib.hid (mid_keep HM10.out HGd8.out HO1.out HO2.out)
            go_wp2_with fail
            have hK7 := HK7.out
            go_roundg (gk - 1)
            case measure => omega
            case rel => exact ⟨_, _, _, _, K + 1, by go_num, by have := HK.out; omega, by omega, HF.out.dk.mono (by omega), HF.out.old, HF.out.res, HF.out.grown⟩
          · have HF := Lib.hid (mid_take HM10.out HG9.out hB (by omega) (Nat.le_refl _))
            go_wp2_with fail
            have hK7 := HK7.out
            go_roundg (gk - 1)
            case measure => omega
            case rel => exact ⟨_, _, _, _, K + 1, by go_num, by have := HK.out; omega, by omega, HF.out.dk.mono (by omega), HF.out.old, HF.out.res, HF.out.grown⟩
    · clear hc0 hc1 hlA hlE
      go_wp2_with fail
      refine (one_any B (k + 90 - 10 * gk + 2) 12 _ HRc.out.dk.cur (by omega) (by omega)).mono ?_
      rintro e w3 ⟨q, rfl, hc3, hg3⟩
      have HR3 := Lib.hid (rnd_cur HRc.out hg3 (hc3.mono (show k + 90 - 10 * gk + 2 + 2 ≤ k + 94 by omega)) hB (by omega))
      obtain ⟨hl1, hl2, hl3, hl4⟩ := good_len HRc.out.dk.good
      have HL3 : Hid (∀ s ∈ ss, s.size ≤ 16) := fun s hs => by have := hl3 s hs; omega
      have HL4 : Hid (∀ p ∈ ps, p.2.size ≤ 16) := fun p hp => by have := (hl4 p hp).2; omega
      have HL1 := Lib.hid hl1
      have d0 : w3.cell? ⟨w1.heap.size, 0, none⟩ = some (.slice A ss.length ca) := cell_of_row _ _ 0 _ _ _ HR3.out.old
      have d1 : w3.cell? ⟨w1.heap.size, 1, none⟩ = some (.slice E ps.length ce) := cell_of_row _ _ 1 _ _ _ HR3.out.old
      have x0 : w3.cell? ⟨w.heap.size, 0, none⟩ = some (.slice none 0 0) := cell_of_row _ _ 0 _ _ _ HR3.out.res
      have x1 : w3.cell? ⟨w.heap.size, 1, none⟩ = some (.slice none 0 0) := cell_of_row _ _ 1 _ _ _ HR3.out.res
      have fx0 := frozen_of_row w3 _ 0 _ _ HR3.out.res
      have fx1 := frozen_of_row w3 _ 1 _ _ HR3.out.res
      have hXD : w.heap.size ≠ w1.heap.size := by omega
      clear hc3 hg3 HRc hl1 hl3 hl4 HK hle
      cases q
      · go_wp2_with fail
        have hRF := HR3.out.res
        have hgo : (((w3).setCell ⟨w.heap.size, 0, none⟩ (Value.slice A ss.length ca)).setCell ⟨w.heap.size, 1, none⟩ (Value.slice E ps.length ce)).heap[w.heap.size]? = some (.cells #[Value.slice A ss.length ca, Value.slice E ps.length ce] 26 (0, 0)) := heap_setCell_same _ _ 1 _ _ _ (heap_setCell_same _ _ 0 _ _ _ hRF)
        have hx1 : ∀ g, (Value.slice A ss.length ca).ownBlock = some g → g ≠ w.heap.size := fun g hg => by have := ((HR3.out.dk.own).sure.lt g hg).1; omega
        have hx2 : ∀ g, (Value.slice E ps.length ce).ownBlock = some g → g ≠ w.heap.size := fun g hg => by have := ((HR3.out.dk.own).later.lt g hg).1; omega
        refine ret_dk rfl w.heap.size _ _ rfl hgo rfl ⟨_, _, _, _, rfl, (((HR3.out.dk.own).set9 hx1 hx2 _ _).set9 hx1 hx2 _ _).lower (by omega), ?_, ?_, ?_, ?_, ?_, grown_set9 (grown_set9 (HR3.out.grown) (Nat.le_refl _) _ _) (Nat.le_refl _) _ _⟩
        · exact HL1.out
        · omega
        · exact HL3.out
        · exact HL4.out
        · exact ((HR3.out.dk.cur.mono (by omega)).grown (gSet9 _ _ _ _) (fun g hg => by injection hg with hg; omega)).grown (gSet9 _ _ _ _) (fun g hg => by injection hg with hg; omega)
      · go_wp2_with fail
        have hss : 0 < ss.length := by rw [HL1.out]; decide
        have hss4 : 4 ≤ ss.length := by rw [HL1.out]; decide
        obtain ⟨gA, capA, eA, -, hbA⟩ := HR3.out.dk.own.sure.block hss
        injection eA with eA1 eA2 eA3
        subst eA1; subst eA3
        have hNB : some w1.heap.size ≠ some B := by intro e; injection e with e; omega
        have hNX : some w.heap.size ≠ some B := by intro e; injection e with e; omega
        have hk9 : k + 94 ≤ 549755813888 := by omega
        have hwB : B < w.heap.size + 1 := by omega
        have hDg : w1.heap.size ≠ gA := fun e => HR3.out.dk.off1 gA rfl e.symm
        clear hss
        go_region_held3 (fun w' => w'.cell? ⟨w1.heap.size, 0, none⟩ = some (.slice (some ⟨gA, 0, none⟩) ss.length ca)) (first | exact d0 | exact hq4 | exact (cell_set_other _ ⟨gA, j, none⟩ _ _ hDg).trans hq4 | go_keep) (first
          | (go_at_call 39; refine (pick_any B (k + 94) 4 _ (HR3.out.dk.cur.below gDrew) hk9 (by decide)).mono ?_; rintro e w4 ⟨x4, rfl, hx4, hc4, hg4⟩; obtain ⟨j, rfl⟩ := Int.eq_ofNat_of_zero_le hx4.1; have hj : j < ss.length := (by omega); have hji : (j : Int) < (ss.length : Int) := (by omega); have hq4 : w4.cell? ⟨w1.heap.size, 0, none⟩ = some (.slice (some ⟨gA, 0, none⟩) ss.length ca) := hg4.cell d0 hNB; have HO4 := Lib.hid (HR3.out.dk.own.sure.cur hwB (grownBy_trans (gBelowR gDrew _) hg4)); obtain ⟨sa, sf⟩ := ownSt_at HO4.out hj))
        all_goals
          have ht4 : w3.grownBy w4 (some B) := grownBy_trans (gBelowR gDrew _) hg4
          have HR4 := Lib.hid (rnd_cur HR3.out ht4 hc4 hB (by omega))
          have hP := ownSt_put HR4.out.dk.own.sure hj ⟨#[48, 49, 50, 51, 52, 53, 54, 55, 56, 57, 97, 98, 99, 100, 101, 102]⟩
          have hgD : gA ≠ w1.heap.size := HR4.out.dk.off1 gA rfl
          have hgX : gA ≠ w.heap.size := by omega
          have HP := Lib.hid hP.1
          have HE := Lib.hid (HR4.out.dk.own.later.kept hP.2 (gApart HR4.out.dk.own.apart))
          have HRF : Hid ((w4.setCell ⟨gA, j, none⟩ (.string ⟨#[48, 49, 50, 51, 52, 53, 54, 55, 56, 57, 97, 98, 99, 100, 101, 102]⟩)).heap[w.heap.size]? = some (.cells #[.slice none 0 0, .slice none 0 0] 26 (0, 0))) := (heap_setCell_other w4 ⟨gA, j, none⟩ w.heap.size _ (fun e => hgX e.symm)).trans HR4.out.res
          have HC4 := Lib.hid (HR4.out.dk.cur.grown hP.2 (fun g hg => by injection hg with hg; omega))
          have HS4 : Hid (∀ s ∈ ss.set j ⟨#[48, 49, 50, 51, 52, 53, 54, 55, 56, 57, 97, 98, 99, 100, 101, 102]⟩, s.size ≤ 16) := fun s hs => by
            rcases List.mem_or_eq_of_mem_set hs with hs | rfl
            · exact HL3.out s hs
            · decide
          have d0 : (w4.setCell ⟨gA, j, none⟩ (.string ⟨#[48, 49, 50, 51, 52, 53, 54, 55, 56, 57, 97, 98, 99, 100, 101, 102]⟩)).cell? ⟨w1.heap.size, 0, none⟩ = some (.slice (some ⟨gA, 0, none⟩) ss.length ca) := cell_of_row _ _ 0 _ _ _ ((heap_setCell_other w4 ⟨gA, j, none⟩ w1.heap.size _ (fun e => hgD e.symm)).trans HR4.out.old)
          have d1 : (w4.setCell ⟨gA, j, none⟩ (.string ⟨#[48, 49, 50, 51, 52, 53, 54, 55, 56, 57, 97, 98, 99, 100, 101, 102]⟩)).cell? ⟨w1.heap.size, 1, none⟩ = some (.slice E ps.length ce) := cell_of_row _ _ 1 _ _ _ ((heap_setCell_other w4 ⟨gA, j, none⟩ w1.heap.size _ (fun e => hgD e.symm)).trans HR4.out.old)
          have HG5 := Lib.hid (grown_set9 (Y := gA) HR4.out.grown (show w.heap.size ≤ gA by omega) j (.string ⟨#[48, 49, 50, 51, 52, 53, 54, 55, 56, 57, 97, 98, 99, 100, 101, 102]⟩))
          clear hP hq4 sa sf ht4 hc4 hg4 x0 x1 fx0 fx1
          generalize w4.setCell ⟨gA, j, none⟩ (.string ⟨#[48, 49, 50, 51, 52, 53, 54, 55, 56, 57, 97, 98, 99, 100, 101, 102]⟩) = w5 at *
          have x0 : w5.cell? ⟨w.heap.size, 0, none⟩ = some (.slice none 0 0) := cell_of_row _ _ 0 _ _ _ HRF.out
          have x1 : w5.cell? ⟨w.heap.size, 1, none⟩ = some (.slice none 0 0) := cell_of_row _ _ 1 _ _ _ HRF.out
          have fx0 := frozen_of_row w5 _ 0 _ _ HRF.out
          have fx1 := frozen_of_row w5 _ 1 _ _ HRF.out
          go_wp2_with fail
          have hRF := HRF.out
          have hOw : OwnD w5 (w.heap.size + 1) (.slice (some ⟨gA, 0, none⟩) ss.length ca) (.slice E ps.length ce) (ss.set j ⟨#[48, 49, 50, 51, 52, 53, 54, 55, 56, 57, 97, 98, 99, 100, 101, 102]⟩) ps := ⟨HP.out, HE.out, HR4.out.dk.own.apart⟩
          have hgo : ((w5.setCell ⟨w.heap.size, 0, none⟩ (Value.slice (some ⟨gA, 0, none⟩) ss.length ca)).setCell ⟨w.heap.size, 1, none⟩ (Value.slice E ps.length ce)).heap[w.heap.size]? = some (.cells #[Value.slice (some ⟨gA, 0, none⟩) ss.length ca, Value.slice E ps.length ce] 26 (0, 0)) := heap_setCell_same _ _ 1 _ _ _ (heap_setCell_same _ _ 0 _ _ _ hRF)
          have hx1 : ∀ g, (Value.slice (some ⟨gA, 0, none⟩) ss.length ca).ownBlock = some g → g ≠ w.heap.size := fun g hg => by have := ((hOw).sure.lt g hg).1; omega
          have hx2 : ∀ g, (Value.slice E ps.length ce).ownBlock = some g → g ≠ w.heap.size := fun g hg => by have := ((hOw).later.lt g hg).1; omega
          refine ret_dk rfl w.heap.size _ _ rfl hgo rfl ⟨_, _, _, _, rfl, (((hOw).set9 hx1 hx2 _ _).set9 hx1 hx2 _ _).lower (by omega), ?_, ?_, ?_, ?_, ?_, grown_set9 (grown_set9 HG5.out (Nat.le_refl _) _ _) (Nat.le_refl _) _ _⟩
          · rw [List.length_set]; exact HL1.out
          · omega
          · exact HS4.out
          · exact HL4.out
          · exact ((HC4.out.mono (by omega)).grown (gSet9 _ _ _ _) (fun g hg => by injection hg with hg; omega)).grown (gSet9 _ _ _ _) (fun g hg => by injection hg with hg; omega)
end Go.Proofs.YthbjcipdneminaaDoor

/- GN -/
namespace Go.Proofs.YthbjcipdneminaaDoor
open Go.RowKit

set_option maxRecDepth 100000 in
set_option maxHeartbeats 2000000 in
theorem drawReadLog10 (A : Option Addr) (zs : List Int) (c : Nat) (w : World) (hb : Byts w w.heap.size A zs) :
    Calls Tryd.prog 31 #[.slice A zs.length c] w fun e w' => ∃ v1 v2 ss ps, e = .returned (diskV v1 v2) ∧ Drew9 w w' v1 v2 ss ps := by
  obtain ⟨W, hW⟩ : ∃ W, w.alloc (.cells #[.slice none 0 0, .slice none 0 0] 26) = W := ⟨_, rfl⟩
  have hbW : Below w.heap.size w W := by rw [← hW]; exact gAlloc _ _
  have hsW : W.heap.size = w.heap.size + 1 := by rw [← hW]; simp
  have hRW : W.heap[w.heap.size]? = some (.cells #[.slice none 0 0, .slice none 0 0] 26 (0, 0)) := by rw [← hW]; exact heap_alloc_new _ _
  have HC := Lib.hid (Cur.new (c := c) (byts_on9 hb hbW) 66)
  have hbC := gAlloc W (.cells #[.slice A zs.length c, .int .i64 0, .int .u64 0] 66)
  have HB := Lib.hid (below_more hbW hbC)
  have HR := Lib.hid ((hbC.block _ (by omega)).trans hRW)
  clear hb hbW hbC hRW
  have HsW := Lib.hid hsW
  clear hsW
  go_enter Tryd.func31, Tryd.ntmps31
  go_wp2_with fail
  refine (logDisk10 W.heap.size 0 _ HC.out (by omega)).mono ?_
  rintro e w3 ⟨v1, v2, ss, ps, rfl, ho3, hl1, hl2, hz1, hz2, hc3, hg3⟩
  have hsW := HsW.out
  obtain ⟨A1, B1, c1, d1, rfl, rfl, -⟩ := lies1 ho3
  have hR3 : w3.heap[w.heap.size]? = some (.cells #[.slice none 0 0, .slice none 0 0] 26 (0, 0)) := (hg3.block _ (heap_lt HR.out) (by intro e; injection e with e; omega)).trans HR.out
  have x0 : w3.cell? ⟨w.heap.size, 0, none⟩ = some (.slice none 0 0) := cell_of_row _ _ 0 _ _ _ hR3
  have x1 : w3.cell? ⟨w.heap.size, 1, none⟩ = some (.slice none 0 0) := cell_of_row _ _ 1 _ _ _ hR3
  have f0 := frozen_of_row w3 _ 0 _ _ hR3
  have f1 := frozen_of_row w3 _ 1 _ _ hR3
  have HO := Lib.hid (ho3.lower (base' := w.heap.size + 1) (by rw [World.heap_size_alloc9]; omega))
  have HL := Lib.hid (⟨hl1, hl2, hz1, hz2⟩ : ss.length = 12 ∧ ps.length ≤ 41 ∧ (∀ s ∈ ss, s.size ≤ 16) ∧ ∀ p ∈ ps, p.2.size ≤ 16)
  have HR3 := Lib.hid hR3
  have HB3 := Lib.hid (HB.out.grown hg3 HB.out.size (fun k hk => by injection hk with hk; omega))
  clear ho3 hl1 hl2 hz1 hz2 hc3 hg3 hR3 hW hsW
  go_wp2_with fail
  have hgo : ((w3.setCell ⟨w.heap.size, 0, none⟩ (.slice A1 ss.length c1)).setCell ⟨w.heap.size, 1, none⟩ (.slice B1 ps.length d1)).heap[w.heap.size]? = some (.cells #[.slice A1 ss.length c1, .slice B1 ps.length d1] 26 (0, 0)) := heap_setCell_same _ _ 1 _ _ _ (heap_setCell_same _ _ 0 _ _ _ HR3.out)
  have hx1 : ∀ g, (Value.slice A1 ss.length c1).ownBlock = some g → g ≠ w.heap.size := fun g hg => by have := (HO.out.sure.lt g hg).1; omega
  have hx2 : ∀ g, (Value.slice B1 ps.length d1).ownBlock = some g → g ≠ w.heap.size := fun g hg => by have := (HO.out.later.lt g hg).1; omega
  obtain ⟨l1, l2, l3, l4⟩ := HL.out
  exact ret_dk rfl w.heap.size _ _ rfl hgo rfl ⟨_, _, _, _, rfl, ⟨((HO.out.set9 hx1 hx2 _ _).set9 hx1 hx2 _ _).lower (by omega), l1, l2, l3, l4, (HB3.out.setCell (Nat.le_refl _) _).setCell (Nat.le_refl _) _⟩⟩
set_option maxRecDepth 100000 in
set_option maxHeartbeats 2000000 in
theorem drawNextNo10 (A : Option Addr) (zs : List Int) (c : Nat) (w : World) (hb : Byts w w.heap.size A zs) :
    Calls Tryd.prog 7 #[.slice A zs.length c] w fun e w' => ∃ v1 v2 ss ps, e = .returned (diskV v1 v2) ∧ Drew9 w w' v1 v2 ss ps := by
  obtain ⟨W, hW⟩ : ∃ W, w.alloc (.cells #[.slice none 0 0, .slice none 0 0] 26) = W := ⟨_, rfl⟩
  have hbW : Below w.heap.size w W := by rw [← hW]; exact gAlloc _ _
  have hsW : W.heap.size = w.heap.size + 1 := by rw [← hW]; simp
  have hRW : W.heap[w.heap.size]? = some (.cells #[.slice none 0 0, .slice none 0 0] 26 (0, 0)) := by rw [← hW]; exact heap_alloc_new _ _
  have HD := Lib.hid (drawReadLog10 A zs c W (byts_on9 hb hbW))
  have HB := Lib.hid hbW
  have HR := Lib.hid hRW
  clear hb hbW hRW
  have HsW := Lib.hid hsW
  clear hsW
  go_enter Tryd.func7, Tryd.ntmps7
  go_wp2_with fail
  refine HD.out.mono ?_
  rintro e w3 ⟨v1, v2, ss, ps, rfl, hd⟩
  have hsW := HsW.out
  obtain ⟨A1, B1, c1, d1, rfl, rfl, -⟩ := lies1 hd.own
  have hR3 : w3.heap[w.heap.size]? = some (.cells #[.slice none 0 0, .slice none 0 0] 26 (0, 0)) := (hd.below.block _ (heap_lt HR.out)).trans HR.out
  have x0 : w3.cell? ⟨w.heap.size, 0, none⟩ = some (.slice none 0 0) := cell_of_row _ _ 0 _ _ _ hR3
  have x1 : w3.cell? ⟨w.heap.size, 1, none⟩ = some (.slice none 0 0) := cell_of_row _ _ 1 _ _ _ hR3
  have f0 := frozen_of_row w3 _ 0 _ _ hR3
  have f1 := frozen_of_row w3 _ 1 _ _ hR3
  have HD3 := Lib.hid hd
  have HO := Lib.hid (hd.own.lower (base' := w.heap.size + 1) (by omega))
  have HR3 := Lib.hid hR3
  have HB3 := Lib.hid (below_more HB.out hd.below)
  clear hd hR3 hW hsW
  go_wp2_with fail
  have hgo : ((w3.setCell ⟨w.heap.size, 0, none⟩ (.slice A1 ss.length c1)).setCell ⟨w.heap.size, 1, none⟩ (.slice B1 ps.length d1)).heap[w.heap.size]? = some (.cells #[.slice A1 ss.length c1, .slice B1 ps.length d1] 26 (0, 0)) := heap_setCell_same _ _ 1 _ _ _ (heap_setCell_same _ _ 0 _ _ _ HR3.out)
  have hx1 : ∀ g, (Value.slice A1 ss.length c1).ownBlock = some g → g ≠ w.heap.size := fun g hg => by have := (HO.out.sure.lt g hg).1; omega
  have hx2 : ∀ g, (Value.slice B1 ps.length d1).ownBlock = some g → g ≠ w.heap.size := fun g hg => by have := (HO.out.later.lt g hg).1; omega
  exact ret_dk rfl w.heap.size _ _ rfl hgo rfl ⟨_, _, _, _, rfl, ⟨((HO.out.set9 hx1 hx2 _ _).set9 hx1 hx2 _ _).lower (by omega), HD3.out.len, HD3.out.len2, HD3.out.size, HD3.out.size2, (HB3.out.setCell (Nat.le_refl _) _).setCell (Nat.le_refl _) _⟩⟩
theorem results_dk5 {fn : Func} {p u x y z : Tmp} {ty : TypeId} (h : fn.results = #[.cell p ty, .tmp u, .tmp x, .tmp y, .tmp z]) (tmps : Array Value) (P : Program) (w : World) :
    (results fn tmps).run P w =
      ((asAddr (tmps.getD p undef)).run P w).andThen fun a w₁ => ((loadVar ty a).run P w₁).andThen fun v w₂ => .ok (.tuple #[v, tmps.getD u undef, tmps.getD x undef, tmps.getD y undef, tmps.getD z undef]) w₂ := by
  simp only [results, h]
  simp [Sem.run_bind, Result.andThen]
theorem ret_dk5 {fn : Func} {p q r t s : Tmp} (h : fn.results = #[.cell p 26, .tmp q, .tmp r, .tmp t, .tmp s]) {R : Ending → World → Prop} {a : Act} {w : World} (g : Nat) (u v x y z l : Value) (hp : a.tmps.getD p undef = .pointer (some ⟨g, 0, none⟩)) (hu : a.tmps.getD q undef = x) (hr : a.tmps.getD r undef = y) (ht : a.tmps.getD t undef = z) (hs : a.tmps.getD s undef = l)
    (hg : w.heap[g]? = some (.cells #[u, v] 26 (0, 0))) (hd : a.defers = []) (hR : R (.returned (.tuple #[diskV u v, x, y, z, l])) w) : bodyPost Tryd.prog fn R .ret a w := by
  have hp' : a.tmps[p]?.getD undef = .pointer (some ⟨g, 0, none⟩) := by simpa using hp
  have hu' : a.tmps[q]?.getD undef = x := by simpa using hu
  have hr' : a.tmps[r]?.getD undef = y := by simpa using hr
  have ht' : a.tmps[t]?.getD undef = z := by simpa using ht
  have hs' : a.tmps[s]?.getD undef = l := by simpa using hs
  refine bodyPost_ret (v := .tuple #[diskV u v, x, y, z, l]) ?_ hd hR
  rw [results_dk5 h]
  simp [hp', hu', hr', ht', hs', asAddr, run_loadVar_row w g 26 26 #[u, v] (0, 0) _ hg Tryd.underlying26 rfl infoDk]
set_option maxRecDepth 100000 in
set_option maxHeartbeats 4000000 in
theorem drawAppend10 (A : Option Addr) (zs : List Int) (c : Nat) (w : World) (hb : Byts w w.heap.size A zs) :
    Calls Tryd.prog 15 #[.slice A zs.length c] w fun e w' => ∃ v1 v2 ss ps, ∃ no kd a b : Int, e = .returned (.tuple #[diskV v1 v2, .int .i64 no, .int .i64 kd, .int .i64 a, .int .i64 b]) ∧ Drew9 w w' v1 v2 ss ps := by
  obtain ⟨W, hW⟩ : ∃ W, w.alloc (.cells #[.slice none 0 0, .slice none 0 0] 26) = W := ⟨_, rfl⟩
  have hbW : Below w.heap.size w W := by rw [← hW]; exact gAlloc _ _
  have hsW : W.heap.size = w.heap.size + 1 := by rw [← hW]; simp
  have hRW : W.heap[w.heap.size]? = some (.cells #[.slice none 0 0, .slice none 0 0] 26 (0, 0)) := by rw [← hW]; exact heap_alloc_new _ _
  have HC := Lib.hid (Cur.new (c := c) (byts_on9 hb hbW) 66)
  have hbC := gAlloc W (.cells #[.slice A zs.length c, .int .i64 0, .int .u64 0] 66)
  have HB := Lib.hid (below_more hbW hbC)
  have HR := Lib.hid ((hbC.block _ (by omega)).trans hRW)
  clear hb hbW hbC hRW
  have HsW := Lib.hid hsW
  clear hsW
  go_enter Tryd.func15, Tryd.ntmps15
  go_wp2_with fail
  refine (logDisk10 W.heap.size 0 _ HC.out (by omega)).mono ?_
  rintro e w3 ⟨v1, v2, ss, ps, rfl, ho3, hl1, hl2, hz1, hz2, hc3, hg3⟩
  obtain ⟨A1, B1, c1, d1, rfl, rfl, -⟩ := lies1 ho3
  have HR3 := Lib.hid ((hg3.block _ (heap_lt HR.out) (by intro e; injection e with e; have := HsW.out; omega)).trans HR.out)
  have HO3 := Lib.hid (ho3.lower (base' := w.heap.size + 2) (by rw [World.heap_size_alloc9]; have := HsW.out; omega))
  have HL := Lib.hid (⟨hl1, hl2, hz1, hz2⟩ : ss.length = 12 ∧ ps.length ≤ 41 ∧ (∀ s ∈ ss, s.size ≤ 16) ∧ ∀ p ∈ ps, p.2.size ≤ 16)
  have HC3 := Lib.hid hc3
  have HB3 := Lib.hid (HB.out.grown hg3 HB.out.size (fun k hk => by injection hk with hk; have := HsW.out; omega))
  clear ho3 hl1 hl2 hz1 hz2 hc3 hg3 hW HC HB HR
  go_wp2_with fail
  refine (pick_any W.heap.size _ 14 _ HC3.out (by omega) (by omega)).mono ?_
  rintro e w4 ⟨no, rfl, -, hc4, hg4⟩
  have HC4 := Lib.hid hc4
  have HO4 := Lib.hid (HO3.out.cur9 (show W.heap.size < w.heap.size + 2 by have := HsW.out; omega) hg4)
  have HR4 := Lib.hid ((hg4.block _ (heap_lt HR3.out) (by intro e; injection e with e; have := HsW.out; omega)).trans HR3.out)
  have HB4 := Lib.hid (HB3.out.grown hg4 HB3.out.size (fun k hk => by injection hk with hk; have := HsW.out; omega))
  clear hc4 hg4 HC3 HO3 HR3 HB3
  go_wp2_with fail
  refine (pick_any W.heap.size _ 11 _ HC4.out (by omega) (by omega)).mono ?_
  rintro e w5 ⟨kd, rfl, -, hc5, hg5⟩
  have HC5 := Lib.hid hc5
  have HO5 := Lib.hid (HO4.out.cur9 (show W.heap.size < w.heap.size + 2 by have := HsW.out; omega) hg5)
  have HR5 := Lib.hid ((hg5.block _ (heap_lt HR4.out) (by intro e; injection e with e; have := HsW.out; omega)).trans HR4.out)
  have HB5 := Lib.hid (HB4.out.grown hg5 HB4.out.size (fun k hk => by injection hk with hk; have := HsW.out; omega))
  clear hc5 hg5 HC4 HO4 HR4 HB4
  have HLit := Lib.hid (lit_cells w5 [-1, 5, 9999, 10000] 3)
  have hbL := gAlloc w5 (.cells #[.int .i64 (-1), .int .i64 5, .int .i64 9999, .int .i64 10000] 3)
  have hne : w5.heap.size ≠ W.heap.size := Nat.ne_of_gt HC5.out.lt
  obtain ⟨w6, hw6⟩ : ∃ w6, w5.alloc (.cells #[.int .i64 (-1), .int .i64 5, .int .i64 9999, .int .i64 10000] 3) = w6 := ⟨_, rfl⟩
  rw [hw6] at hbL
  have HLit6 : Hid (∀ j, j < 4 → w6.cell? ⟨w5.heap.size, 0 + j, none⟩ = some (.int .i64 ([-1, 5, 9999, 10000].getD j 0))) := by rw [← hw6]; exact HLit.out
  have HC6 := Lib.hid (HC5.out.below hbL)
  have HO6 := Lib.hid (HO5.out.below hbL)
  have HR6 := Lib.hid ((hbL.block _ (heap_lt HR5.out)).trans HR5.out)
  have HB6 := Lib.hid (below_more HB5.out hbL)
  clear hbL HC5 HO5 HR5 HB5 HLit
  go_wp2_with fail
  refine (among_any W.heap.size _ w5.heap.size 0 4 [-1, 5, 9999, 10000] _ HC6.out (by omega) hne (by simp) (by simp) HLit6.out).mono ?_
  rintro e w7 ⟨a, rfl, -, hc7, hg7⟩
  have HC7 := Lib.hid hc7
  have HO7 := Lib.hid (HO6.out.cur9 (show W.heap.size < w.heap.size + 2 by have := HsW.out; omega) hg7)
  have HR7 := Lib.hid ((hg7.block _ (heap_lt HR6.out) (by intro e; injection e with e; have := HsW.out; omega)).trans HR6.out)
  have HB7 := Lib.hid (HB6.out.grown hg7 HB6.out.size (fun k hk => by injection hk with hk; have := HsW.out; omega))
  clear hc7 hg7 HC6 HO6 HR6 HB6 HLit6 hne hw6
  go_wp2_with fail
  refine (pick_any W.heap.size _ 99 _ HC7.out (by omega) (by omega)).mono ?_
  rintro e w8 ⟨b, rfl, -, hc8, hg8⟩
  have HC8 := Lib.hid hc8
  have HO8 := Lib.hid (HO7.out.cur9 (show W.heap.size < w.heap.size + 2 by have := HsW.out; omega) hg8)
  have HR8 := Lib.hid ((hg8.block _ (heap_lt HR7.out) (by intro e; injection e with e; have := HsW.out; omega)).trans HR7.out)
  have HB8 := Lib.hid (HB7.out.grown hg8 HB7.out.size (fun k hk => by injection hk with hk; have := HsW.out; omega))
  clear hc8 hg8 HC7 HO7 HR7 HB7
  have x0 : w8.cell? ⟨w.heap.size, 0, none⟩ = some (.slice none 0 0) := cell_of_row _ _ 0 _ _ _ HR8.out
  have x1 : w8.cell? ⟨w.heap.size, 1, none⟩ = some (.slice none 0 0) := cell_of_row _ _ 1 _ _ _ HR8.out
  have f0 := frozen_of_row w8 _ 0 _ _ HR8.out
  have f1 := frozen_of_row w8 _ 1 _ _ HR8.out
  go_wp2_with fail
  have hgo : ((w8.setCell ⟨w.heap.size, 0, none⟩ (.slice A1 ss.length c1)).setCell ⟨w.heap.size, 1, none⟩ (.slice B1 ps.length d1)).heap[w.heap.size]? = some (.cells #[.slice A1 ss.length c1, .slice B1 ps.length d1] 26 (0, 0)) := heap_setCell_same _ _ 1 _ _ _ (heap_setCell_same _ _ 0 _ _ _ HR8.out)
  have hx1 : ∀ g, (Value.slice A1 ss.length c1).ownBlock = some g → g ≠ w.heap.size := fun g hg => by have := (HO8.out.sure.lt g hg).1; omega
  have hx2 : ∀ g, (Value.slice B1 ps.length d1).ownBlock = some g → g ≠ w.heap.size := fun g hg => by have := (HO8.out.later.lt g hg).1; omega
  obtain ⟨l1, l2, l3, l4⟩ := HL.out
  exact ret_dk5 rfl w.heap.size _ _ _ _ _ _ rfl rfl rfl rfl rfl hgo rfl ⟨_, _, _, _, _, _, _, _, rfl, ⟨((HO8.out.set9 hx1 hx2 _ _).set9 hx1 hx2 _ _).lower (by omega), l1, l2, l3, l4, (HB8.out.setCell (Nat.le_refl _) _).setCell (Nat.le_refl _) _⟩⟩
/-- make([]byte, n), and its text wherever it stands still. -/
theorem make_by (n : Nat) (hn : n ≤ 1000) (W : World) : ∃ w', (Instr.makeSlice 22 (.int .i64 (n : Nat)) (.int .i64 (n : Nat))).run Tryd.prog W = .ok (.slice (some ⟨W.heap.size, 0, none⟩) n n) w' ∧ W.grownBy w' none ∧
    ∀ w'', w'.grownBy w'' none → (convert 22 9 (.slice (some ⟨W.heap.size, 0, none⟩) n n)).run Tryd.prog w'' = .ok (.string (strB (List.replicate n 0))) w'' := by
  obtain ⟨i1, hi1, hy0, hy1, hy2⟩ := info_parts byteInfo9
  obtain ⟨wM, hrun, r1, r2⟩ := run_make_full (P := Tryd.prog) W W.heap.size 22 5 i1 (.int .u8 0) 1 Tryd.underlying22 hi1 hy0 hy1 .i64 .i64 n (by rw [hy2]; omega) (by unfold maxLen; omega) (Nat.le_refl _)
  refine ⟨wM, hrun, r2, fun w'' hg => ?_⟩
  have r3 := World.ownsRow.kept r1 hg (Or.inr (by simp [Value.ownBlock]))
  have h := convB (w := w'') (g := W.heap.size) (cap := n) (T := List.replicate n 0) (fun i hi => by
    have := World.ownsRow.cellAt r3 i (by simp at hi; omega)
    rw [made_row _ _ rfl] at this
    have hi' : i < n := by simpa using hi
    rw [this, List.getElem?_replicate, if_pos hi', List.getElem_replicate]
    rfl)
  rw [List.length_replicate] at h
  exact h
set_option maxRecDepth 100000 in
set_option maxHeartbeats 4000000 in
theorem drawSumOf10 (A : Option Addr) (zs : List Int) (c : Nat) (w : World) (hb : Byts w w.heap.size A zs) :
    Calls Tryd.prog 17 #[.slice A zs.length c] w fun e w' => ∃ s : ByteArray, e = .returned (.string s) ∧ s.size ≤ 61 ∧ Below w.heap.size w w' := by
  obtain ⟨W, hW⟩ : ∃ W, w.alloc (.cells #[.slice A zs.length c, .int .i64 0, .int .u64 0] 66) = W := ⟨_, rfl⟩
  have HC := Lib.hid (Cur.new (c := c) hb 66)
  have HB := Lib.hid (gAlloc w (.cells #[.slice A zs.length c, .int .i64 0, .int .u64 0] 66))
  rw [hW] at HC HB
  clear hb
  obtain ⟨z60, hz60⟩ : ∃ z, strB (List.replicate 60 0) = z := ⟨_, rfl⟩
  obtain ⟨z61, hz61⟩ : ∃ z, strB (List.replicate 61 0) = z := ⟨_, rfl⟩
  have hs60 : z60.size ≤ 61 := by rw [← hz60, strB_size]; simp
  have hs61 : z61.size ≤ 61 := by rw [← hz61, strB_size]; simp
  obtain ⟨wa, ma, ga, ca⟩ := make_by 60 (by decide) W.drew
  obtain ⟨wab, mab, gab, cab⟩ := make_by 61 (by decide) wa
  obtain ⟨wb, mb, gb, cb⟩ := make_by 61 (by decide) W.drew
  obtain ⟨wba, mba, gba, cba⟩ := make_by 60 (by decide) wb
  have refl : ∀ v : World, v.grownBy v none := fun v => ⟨rfl, rfl, rfl, Nat.le_refl _, fun _ _ _ => rfl⟩
  have e1 : (convert 22 9 (.slice (some ⟨W.heap.size, 0, none⟩) 60 60)).run Tryd.prog wa = .ok (.string (strB (List.replicate 60 0))) wa := ca wa (refl wa)
  have e2 : (convert 22 9 (.slice (some ⟨W.heap.size, 0, none⟩) 60 60)).run Tryd.prog wab = .ok (.string (strB (List.replicate 60 0))) wab := ca wab gab
  have e3 : (convert 22 9 (.slice (some ⟨wa.heap.size, 0, none⟩) 61 61)).run Tryd.prog wab = .ok (.string (strB (List.replicate 61 0))) wab := cab wab (refl wab)
  have e4 : (convert 22 9 (.slice (some ⟨W.heap.size, 0, none⟩) 61 61)).run Tryd.prog wb = .ok (.string (strB (List.replicate 61 0))) wb := cb wb (refl wb)
  have e5 : (convert 22 9 (.slice (some ⟨W.heap.size, 0, none⟩) 61 61)).run Tryd.prog wba = .ok (.string (strB (List.replicate 61 0))) wba := cb wba gba
  have e6 : (convert 22 9 (.slice (some ⟨wb.heap.size, 0, none⟩) 60 60)).run Tryd.prog wba = .ok (.string (strB (List.replicate 60 0))) wba := cba wba (refl wba)
  rw [hz60] at e1 e2 e6
  rw [hz61] at e3 e4 e5
  have HBa := Lib.hid (below_more (below_more (gDrew (w := W)) (gBelow9 ga)) (gBelow9 gab))
  have HBb := Lib.hid (below_more (below_more (gDrew (w := W)) (gBelow9 gb)) (gBelow9 gba))
  have HOf : Hid (∀ w', Below W.heap.size W w' → Calls Tryd.prog 44 #[.pointer (some ⟨w.heap.size, 0, none⟩), .slice (some ⟨w'.heap.size, 0, none⟩) 5 5] (w'.alloc (.cells #[.string ⟨#[]⟩, .string ⟨#[97]⟩, .string ⟨#[115, 111, 109, 101, 32, 98, 121, 116, 101, 115]⟩, .string z60, .string z61] 9)) fun e w'' => ∃ s : ByteArray, e = .returned (.string s) ∧ s.size ≤ 61 ∧ Below w.heap.size w w'') := fun w' hb' => by
    have hc1 : Cur w' w.heap.size 0 := HC.out.below hb'
    have hcs : ∀ j (h : j < [(⟨#[]⟩ : ByteArray), ⟨#[97]⟩, ⟨#[115, 111, 109, 101, 32, 98, 121, 116, 101, 115]⟩, z60, z61].length), (w'.alloc (.cells #[.string ⟨#[]⟩, .string ⟨#[97]⟩, .string ⟨#[115, 111, 109, 101, 32, 98, 121, 116, 101, 115]⟩, .string z60, .string z61] 9)).cell? ⟨w'.heap.size, 0 + j, none⟩ = some (.string ([(⟨#[]⟩ : ByteArray), ⟨#[97]⟩, ⟨#[115, 111, 109, 101, 32, 98, 121, 116, 101, 115]⟩, z60, z61][j])) := fun j h => by
      rw [Nat.zero_add]
      refine cell_of_row _ _ j _ _ _ ((heap_alloc_new _ _).trans rfl) |>.trans ?_
      match j, h with
      | 0, _ => rfl
      | 1, _ => rfl
      | 2, _ => rfl
      | 3, _ => rfl
      | 4, _ => rfl
    refine (of_any w.heap.size 0 w'.heap.size 0 5 [(⟨#[]⟩ : ByteArray), ⟨#[97]⟩, ⟨#[115, 111, 109, 101, 32, 98, 121, 116, 101, 115]⟩, z60, z61] _ (hc1.below (gAlloc _ _)) (by omega) (Nat.ne_of_gt hc1.lt) (by simp) (by simp) hcs).mono ?_
    rintro e w'' ⟨s, rfl, hs, -, hg⟩
    refine ⟨s, rfl, ?_, (HB.out.trans ((below_more hb' (gAlloc w' _)).mono HB.out.size)).grown hg ?_ ?_⟩
    · simp only [List.mem_cons, List.not_mem_nil, or_false] at hs
      rcases hs with rfl | rfl | rfl | rfl | rfl
      · decide
      · decide
      · decide
      · exact hs60
      · exact hs61
    · have h1 := HB.out.size; have h2 := hb'.size; simp; omega
    · intro k hk; injection hk with hk; omega
  have ma' : (Instr.makeSlice 22 (.int .i64 60) (.int .i64 60)).run Tryd.prog W.drew = .ok (.slice (some ⟨W.drew.heap.size, 0, none⟩) 60 60) wa := ma
  have mab' : (Instr.makeSlice 22 (.int .i64 61) (.int .i64 61)).run Tryd.prog wa = .ok (.slice (some ⟨wa.heap.size, 0, none⟩) 61 61) wab := mab
  have mb' : (Instr.makeSlice 22 (.int .i64 61) (.int .i64 61)).run Tryd.prog W.drew = .ok (.slice (some ⟨W.drew.heap.size, 0, none⟩) 61 61) wb := mb
  have mba' : (Instr.makeSlice 22 (.int .i64 60) (.int .i64 60)).run Tryd.prog wb = .ok (.slice (some ⟨wb.heap.size, 0, none⟩) 60 60) wba := mba
  clear ca cab cb cba refl ga gab gb gba hz60 hz61 hs60 hs61 ma mab mb mba
  go_enter Tryd.func17, Tryd.ntmps17
  go_wp2_with fail
  go_region_law (first | (go_simp; refine (HOf.out _ (by first | exact HBa.out | exact HBb.out)).mono ?_; rintro e w2 ⟨s, rfl, hs, hb2⟩))
  all_goals
    go_wp2_with fail
    go_ret
    exact ⟨s, rfl, hs, hb2⟩
end Go.Proofs.YthbjcipdneminaaDoor
