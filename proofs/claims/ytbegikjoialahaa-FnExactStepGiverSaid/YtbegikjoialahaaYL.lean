/-
  FnExactStepGiver, walked, whatever the program's own text is.
-/
import Derived.Test.YtbegikjoialahaaYK
namespace Go.Proofs.Ytbegikjoialahaa
open Go.RowKit

theorem wp_meet_gw {P : Program} {c : Code} {Q : Exit → Act → World → Prop} {a : Act} {w : World} (R : Nat → Option Addr → Nat → World → Prop) (A : Nat → Option Addr → Nat → Act)
    (hreg : c.wp P (fun e a' w' => e = .normal ∧ ∃ Y B2 c2, a' = A Y B2 c2 ∧ R Y B2 c2 w') a w) (himp : ∀ Y B2 c2 w', R Y B2 c2 w' → Q .normal (A Y B2 c2) w') : c.wp P Q a w :=
  Code.wp_mono (fun e a' w' ⟨h1, Y, B2, c2, h2, h3⟩ => by rw [h1, h2]; exact himp _ _ _ _ h3) hreg
theorem sg_len (n a s : Int) (zs : List Int) (k : Int) (p : Bool) : (sgZ n a s zs k p).length ≤ 60 := by
  cases h : sgOkB n a s zs k p
  · rw [(sg_not h).2.2.2.1]; simp
  · rw [(sg_yes h).2.2.2.1]
    have hg : goodGB n a s zs = true := by
      rw [sgOkB, Bool.and_eq_true] at h; exact h.1
    exact (gvr_ok (st_good k p hg)).2.2.2.2.2

set_option maxRecDepth 100000 in
set_option maxHeartbeats 8000000 in
theorem stepGiver_law {K : World → Prop} (hK : Stays5 K) (hI : ∀ (n a s : Int) (A : Option Addr) (zs : List Int) (ca : Nat) (k : Int) (p : Bool) (w : World), K w → Ints w A zs → Lies9 A ca → zs.length ≤ 1048576 → True → -9223372036854775808 ≤ s → Calls Try.prog 23 #[gvV n a s (.slice A zs.length ca), idV (k, p)] w fun e w' => ∃ v1, e = .returned (.tuple #[gvV (sgN n a s zs k p) (sgA n a s zs k p) (sgS n a s zs k p) v1, .bool (sgOkB n a s zs k p)]) ∧ Own w' w.heap.size v1 (sgZ n a s zs k p) ∧ Below w.heap.size w w')
    (n a s : Int) (A : Option Addr) (zs : List Int) (ca : Nat) (k : Int) (p : Bool) (w : World) (hw : K w) (hA : Ints w A zs) (hl : zs.length ≤ 9223372036854775807) (hs : -9223372036854775808 ≤ s)  : Calls Try.prog 7 #[gvV n a s (.slice A zs.length ca), idV (k, p)] w fun e w' => e = .returned (.bool true) ∧ Below w.heap.size w w' := by
  have HRA := Lib.hid hA
  have HI := Lib.hid (fun A c w hk hA hL hz => hI n a s A zs c k p w hk hA hL hz trivial hs)
  have HW := Lib.hid hw
  have HS0 := Lib.hid (fun A c w h hL hl => sStepG n a s A zs c k p w h hL hl)
  clear hI hw hA 
  have hV := sg_len n a s zs k p
  generalize sgZ n a s zs k p = V at *
  generalize sgN n a s zs k p = N at *
  generalize sgA n a s zs k p = As at *
  generalize sgS n a s zs k p = Su at *
  generalize sgOkB n a s zs k p = bb at *
  obtain ⟨w1, hw1⟩ : ∃ wn, w.alloc (.cells #[.int .i64 n, .int .i64 a, .int .i64 s, .slice A zs.length ca] 47) = wn := ⟨_, rfl⟩
  have hbx : Below w.heap.size w w1 := by rw [← hw1]; exact gAlloc _ _
  have KX : w1.heap[w.heap.size]? = some (.cells #[.int .i64 n, .int .i64 a, .int .i64 s, .slice A zs.length ca] 47 (0, 0)) := by rw [← hw1]; exact heap_alloc_new _ _
  have HB_2 := Lib.hid (hbx)
  have KaG_1 := Lib.hid KX
  clear hbx KX
  obtain ⟨w2, hw3⟩ : ∃ wn, w1.alloc (.cells #[.int .i64 k, .bool p] 51) = wn := ⟨_, rfl⟩
  have hbx : Below w1.heap.size w1 w2 := by rw [← hw3]; exact gAlloc _ _
  have KX : w2.heap[w1.heap.size]? = some (.cells #[.int .i64 k, .bool p] 51 (0, 0)) := by rw [← hw3]; exact heap_alloc_new _ _
  have KaG_4 := Lib.hid ((hbx.block _ (heap_lt KaG_1.out)).trans KaG_1.out)
  have HB_4 := Lib.hid (below_more HB_2.out hbx)
  clear KaG_1 HB_2
  have KaS_3 := Lib.hid KX
  clear hbx KX
  go_enter Try.func7, Try.ntmps7
  have caG_0 : w2.cell? ⟨w.heap.size, 0, none⟩ = some (.int .i64 n) := cell_of_row _ _ 0 _ _ _ KaG_4.out
  have caG_1 : w2.cell? ⟨w.heap.size, 1, none⟩ = some (.int .i64 a) := cell_of_row _ _ 1 _ _ _ KaG_4.out
  have caG_2 : w2.cell? ⟨w.heap.size, 2, none⟩ = some (.int .i64 s) := cell_of_row _ _ 2 _ _ _ KaG_4.out
  have caG_3 : w2.cell? ⟨w.heap.size, 3, none⟩ = some (.slice A zs.length ca) := cell_of_row _ _ 3 _ _ _ KaG_4.out
  have caS_0 : w2.cell? ⟨w1.heap.size, 0, none⟩ = some (.int .i64 k) := cell_of_row _ _ 0 _ _ _ KaS_3.out
  have caS_1 : w2.cell? ⟨w1.heap.size, 1, none⟩ = some (.bool p) := cell_of_row _ _ 1 _ _ _ KaS_3.out
  go_wp2_with fail
  clear caG_0 caG_1 caG_2 caG_3 caS_0 caS_1 hw1 hw3
  refine (szGv_any n a s A zs.length ca 1048576 _ hl (by omega) (by omega)).mono ?_
  rintro e w3 ⟨⟨rz, rfl, hrz⟩, hbq⟩
  have KaG_5 := Lib.hid ((hbq.block _ (heap_lt KaG_4.out)).trans KaG_4.out)
  have KaS_5 := Lib.hid ((hbq.block _ (heap_lt KaS_3.out)).trans KaS_3.out)
  have HB_5 := Lib.hid (below_more HB_4.out hbq)
  clear KaG_4 KaS_3 HB_4
  clear hbq
  rcases hrz with hrz | ⟨hrz0, hrz1⟩
  · go_wp2_with fail
    go_ret
    exact ⟨rfl, HB_5.out⟩
  have hlz : zs.length ≤ 1048576 := by omega
  have hrzn : ¬ rz < 0 := by omega
  clear hl hrz1
  have caG_0 : w3.cell? ⟨w.heap.size, 0, none⟩ = some (.int .i64 n) := cell_of_row _ _ 0 _ _ _ KaG_5.out
  have caG_1 : w3.cell? ⟨w.heap.size, 1, none⟩ = some (.int .i64 a) := cell_of_row _ _ 1 _ _ _ KaG_5.out
  have caG_2 : w3.cell? ⟨w.heap.size, 2, none⟩ = some (.int .i64 s) := cell_of_row _ _ 2 _ _ _ KaG_5.out
  have caG_3 : w3.cell? ⟨w.heap.size, 3, none⟩ = some (.slice A zs.length ca) := cell_of_row _ _ 3 _ _ _ KaG_5.out
  have caS_0 : w3.cell? ⟨w1.heap.size, 0, none⟩ = some (.int .i64 k) := cell_of_row _ _ 0 _ _ _ KaS_5.out
  have caS_1 : w3.cell? ⟨w1.heap.size, 1, none⟩ = some (.bool p) := cell_of_row _ _ 1 _ _ _ KaS_5.out
  go_wp2_with fail
  have hq0 : w3.drew.cell? ⟨w.heap.size, 0, none⟩ = some (.int .i64 n) ∧ w3.drew.cell? ⟨w.heap.size, 1, none⟩ = some (.int .i64 a) ∧ w3.drew.cell? ⟨w.heap.size, 2, none⟩ = some (.int .i64 s) ∧ w3.drew.cell? ⟨w.heap.size, 3, none⟩ = some (.slice A zs.length ca) ∧ w3.drew.cell? ⟨w1.heap.size, 0, none⟩ = some (.int .i64 k) ∧ w3.drew.cell? ⟨w1.heap.size, 1, none⟩ = some (.bool p) := six11 gDrew ⟨caG_0, caG_1, caG_2, caG_3, caS_0, caS_1⟩
  have hXY : ∀ {Z : Nat}, w3.heap.size ≤ Z → w.heap.size ≠ Z ∧ w1.heap.size ≠ Z := fun h => ⟨Nat.ne_of_lt (Nat.lt_of_lt_of_le (heap_lt KaG_5.out) h), Nat.ne_of_lt (Nat.lt_of_lt_of_le (heap_lt KaS_5.out) h)⟩
  have hn0 := hXY (Nat.le_refl _)
  apply wp_meet_gv (fun Y B1 c1 B2 c2 w' => w'.heap[Y]? = some (.cells #[.int .i64 N, .int .i64 As, .int .i64 Su, .slice B2 V.length c2] 27 (0, 0)) ∧ Own w' w3.heap.size (.slice B2 V.length c2) V ∧ Below w3.heap.size w3 w' ∧ w3.heap.size ≤ Y ∧ (∀ g, (Value.slice B2 V.length c2).ownBlock = some g → g ≠ Y))
  case hreg =>
    go_region_held3 (fun w' => w'.cell? ⟨w.heap.size, 0, none⟩ = some (.int .i64 n) ∧ w'.cell? ⟨w.heap.size, 1, none⟩ = some (.int .i64 a) ∧ w'.cell? ⟨w.heap.size, 2, none⟩ = some (.int .i64 s) ∧ w'.cell? ⟨w.heap.size, 3, none⟩ = some (.slice A zs.length ca) ∧ w'.cell? ⟨w1.heap.size, 0, none⟩ = some (.int .i64 k) ∧ w'.cell? ⟨w1.heap.size, 1, none⟩ = some (.bool p)) (first | with_reducible exact hq0 | with_reducible exact hq1 | with_reducible exact hq2 | with_reducible exact hq3 | with_reducible exact six11 (gAlloc _ _) hq0 | with_reducible exact six11 (gAlloc _ _) hq1 | with_reducible exact six11 (gAlloc _ _) hq2 | with_reducible exact six11 (gAlloc _ _) hq3 | with_reducible exact six_set11 hq3 hn0 | with_reducible exact six_set11 hq3 hn1 | with_reducible exact six_set11 hq3 hn2 | with_reducible exact six_set11 hq3 hn3 | (go_loud (fail "KEEP"))) (first
      | (go_at_call 24; have hpre := hB2; clear hpre; refine (HS0.out B1 c1 _ (by first | exact own_ints hO2 | exact own_ints (hO2.below (gAlloc _ _))) (own9_lies hO2) (by omega)).mono ?_; rintro e w3' ⟨vt2, rfl, ho3, hb3⟩; obtain ⟨B2, c2, rfl, _⟩ := gFormC ho3; have hB3 : Below w3.heap.size w3 w3' := (by first | exact below_more hB2 hb3 | exact below_more (below_more hB2 (gAlloc _ _)) hb3); have hq3 : w3'.cell? ⟨w.heap.size, 0, none⟩ = some (.int .i64 n) ∧ w3'.cell? ⟨w.heap.size, 1, none⟩ = some (.int .i64 a) ∧ w3'.cell? ⟨w.heap.size, 2, none⟩ = some (.int .i64 s) ∧ w3'.cell? ⟨w.heap.size, 3, none⟩ = some (.slice A zs.length ca) ∧ w3'.cell? ⟨w1.heap.size, 0, none⟩ = some (.int .i64 k) ∧ w3'.cell? ⟨w1.heap.size, 1, none⟩ = some (.bool p) := six11 hB3 ⟨caG_0, caG_1, caG_2, caG_3, caS_0, caS_1⟩; have hn3 := hXY hB3.size; (try (have hr0 : (w3.alloc (.cells #[.int .i64 0, .int .i64 0, .int .i64 0, .slice none 0 0] 27)).drew.heap[w3.heap.size]? = some (.cells #[.int .i64 0, .int .i64 0, .int .i64 0, .slice none 0 0] 27 (0, 0)) := alloc_atD11 _ _; have hr1 : w1'.heap[w3.heap.size]? = some (.cells #[.int .i64 0, .int .i64 0, .int .i64 0, .slice none 0 0] 27 (0, 0)) := (hb1.block _ (heap_lt hr0)).trans hr0; have hr2 : w2'.heap[w3.heap.size]? = some (.cells #[.int .i64 0, .int .i64 0, .int .i64 0, .slice none 0 0] 27 (0, 0)) := (hb2.block _ (heap_lt hr1)).trans hr1; have hlta : w3.heap.size < _ := heap_lt hr2; have hr3 : w3'.heap[w3.heap.size]? = some (.cells #[.int .i64 0, .int .i64 0, .int .i64 0, .slice none 0 0] 27 (0, 0)) := (hb3.block _ (heap_lt hr2)).trans hr2; have hza := hr3; have pa0 := cell_of_row w3' _ 0 _ _ _ hza; have fa0 := frozen_of_row w3' _ 0 _ _ hza; have pa1 := cell_of_row w3' _ 1 _ _ _ hza; have fa1 := frozen_of_row w3' _ 1 _ _ hza; have pa2 := cell_of_row w3' _ 2 _ _ _ hza; have fa2 := frozen_of_row w3' _ 2 _ _ hza; have pa3 := cell_of_row w3' _ 3 _ _ _ hza; have fa3 := frozen_of_row w3' _ 3 _ _ hza)); (try (have hr0 : (w1'.alloc (.cells #[.int .i64 0, .int .i64 0, .int .i64 0, .slice none 0 0] 27)).heap[w1'.heap.size]? = some (.cells #[.int .i64 0, .int .i64 0, .int .i64 0, .slice none 0 0] 27 (0, 0)) := heap_alloc_new _ _; have hr2 : w2'.heap[w1'.heap.size]? = some (.cells #[.int .i64 0, .int .i64 0, .int .i64 0, .slice none 0 0] 27 (0, 0)) := (hb2.block _ (heap_lt hr0)).trans hr0; have hltb : w1'.heap.size < _ := heap_lt hr2; have hr3 : w3'.heap[w1'.heap.size]? = some (.cells #[.int .i64 0, .int .i64 0, .int .i64 0, .slice none 0 0] 27 (0, 0)) := (hb3.block _ (heap_lt hr2)).trans hr2; have hzb := hr3; have pb0 := cell_of_row w3' _ 0 _ _ _ hzb; have fb0 := frozen_of_row w3' _ 0 _ _ hzb; have pb1 := cell_of_row w3' _ 1 _ _ _ hzb; have fb1 := frozen_of_row w3' _ 1 _ _ hzb; have pb2 := cell_of_row w3' _ 2 _ _ _ hzb; have fb2 := frozen_of_row w3' _ 2 _ _ hzb; have pb3 := cell_of_row w3' _ 3 _ _ _ hzb; have fb3 := frozen_of_row w3' _ 3 _ _ hzb)); (try (have hr0 : (w2'.alloc (.cells #[.int .i64 0, .int .i64 0, .int .i64 0, .slice none 0 0] 27)).heap[w2'.heap.size]? = some (.cells #[.int .i64 0, .int .i64 0, .int .i64 0, .slice none 0 0] 27 (0, 0)) := heap_alloc_new _ _; have hltc : w2'.heap.size < _ := heap_lt hr0; have hr3 : w3'.heap[w2'.heap.size]? = some (.cells #[.int .i64 0, .int .i64 0, .int .i64 0, .slice none 0 0] 27 (0, 0)) := (hb3.block _ (heap_lt hr0)).trans hr0; have hzc := hr3; have pc0 := cell_of_row w3' _ 0 _ _ _ hzc; have fc0 := frozen_of_row w3' _ 0 _ _ hzc; have pc1 := cell_of_row w3' _ 1 _ _ _ hzc; have fc1 := frozen_of_row w3' _ 1 _ _ hzc; have pc2 := cell_of_row w3' _ 2 _ _ _ hzc; have fc2 := frozen_of_row w3' _ 2 _ _ hzc; have pc3 := cell_of_row w3' _ 3 _ _ _ hzc; have fc3 := frozen_of_row w3' _ 3 _ _ hzc)))
      | (go_at_call 34; have hpre := hB1; clear hpre; refine (toId_any k p _).mono ?_; rintro e w2' ⟨rfl, hb2⟩; have hB2 : Below w3.heap.size w3 w2' := (by first | exact below_more hB1 hb2 | exact below_more (below_more hB1 (gAlloc _ _)) hb2); have hO2 : Own w2' _ (.slice B1 zs.length c1) zs := (by first | exact hO1.below hb2 | exact (hO1.below (gAlloc _ _)).below hb2); have hq2 : w2'.cell? ⟨w.heap.size, 0, none⟩ = some (.int .i64 n) ∧ w2'.cell? ⟨w.heap.size, 1, none⟩ = some (.int .i64 a) ∧ w2'.cell? ⟨w.heap.size, 2, none⟩ = some (.int .i64 s) ∧ w2'.cell? ⟨w.heap.size, 3, none⟩ = some (.slice A zs.length ca) ∧ w2'.cell? ⟨w1.heap.size, 0, none⟩ = some (.int .i64 k) ∧ w2'.cell? ⟨w1.heap.size, 1, none⟩ = some (.bool p) := six11 hB2 ⟨caG_0, caG_1, caG_2, caG_3, caS_0, caS_1⟩; have hn2 := hXY hB2.size)
      | (go_at_call 33; refine (toGv_any n a s A zs ca _ ((HRA.out.below HB_5.out).below (by first | exact gDrew | exact below_more (gAlloc _ _) gDrew)) (by omega)).mono ?_; rintro e w1' ⟨vt, rfl, ho1, hb1⟩; obtain ⟨B1, c1, rfl, _⟩ := gFormC ho1; have hB1 : Below w3.heap.size w3 w1' := (by first | exact below_more gDrew hb1 | exact below_more (below_more (gAlloc _ _) gDrew) hb1); have hO1 : Own w1' _ (.slice B1 zs.length c1) zs := ho1; have hq1 : w1'.cell? ⟨w.heap.size, 0, none⟩ = some (.int .i64 n) ∧ w1'.cell? ⟨w.heap.size, 1, none⟩ = some (.int .i64 a) ∧ w1'.cell? ⟨w.heap.size, 2, none⟩ = some (.int .i64 s) ∧ w1'.cell? ⟨w.heap.size, 3, none⟩ = some (.slice A zs.length ca) ∧ w1'.cell? ⟨w1.heap.size, 0, none⟩ = some (.int .i64 k) ∧ w1'.cell? ⟨w1.heap.size, 1, none⟩ = some (.bool p) := six11 hB1 ⟨caG_0, caG_1, caG_2, caG_3, caS_0, caS_1⟩; have hn1 := hXY hB1.size))
    all_goals
      first
      | (have HM := gv_stored rfl hza (.int .i64 N) (.int .i64 As) (.int .i64 Su) (.slice B2 V.length c2); have HO' := (ho3.cur (B := w3.heap.size) hlta (gGv w3' (w3.heap.size) (.int .i64 N) (.int .i64 As) (.int .i64 Su) (.slice B2 V.length c2))).lower (base' := w3.heap.size) (by first | exact hB2.size | (rw [World.heap_size_alloc9]; exact Nat.le_succ_of_le hB2.size)); have HB' := below_gv hB3 (show w3.heap.size ≤ w3.heap.size from Nat.le_refl _) (.int .i64 N) (.int .i64 As) (.int .i64 Su) (.slice B2 V.length c2); have hne : ∀ g, (Value.slice B2 V.length c2).ownBlock = some g → g ≠ w3.heap.size := (fun g hg => Nat.ne_of_gt (Nat.lt_of_lt_of_le hlta (ho3.lt g hg).1)); have hle : w3.heap.size ≤ w3.heap.size := Nat.le_refl _; obtain ⟨Y, hY⟩ : ∃ Y, w3.heap.size = Y := ⟨_, rfl⟩; rw [hY] at HM hle hne ⊢; (try rw [hY] at HO'); (try rw [hY] at HB'); exact ⟨rfl, Y, B1, c1, B2, c2, rfl, HM, HO', HB', hle, hne⟩)
      | (have HM := gv_stored rfl hzb (.int .i64 N) (.int .i64 As) (.int .i64 Su) (.slice B2 V.length c2); have HO' := (ho3.cur (B := w1'.heap.size) hltb (gGv w3' (w1'.heap.size) (.int .i64 N) (.int .i64 As) (.int .i64 Su) (.slice B2 V.length c2))).lower (base' := w3.heap.size) (by first | exact hB2.size | (rw [World.heap_size_alloc9]; exact Nat.le_succ_of_le hB2.size)); have HB' := below_gv hB3 (show w3.heap.size ≤ w1'.heap.size from hB1.size) (.int .i64 N) (.int .i64 As) (.int .i64 Su) (.slice B2 V.length c2); have hne : ∀ g, (Value.slice B2 V.length c2).ownBlock = some g → g ≠ w1'.heap.size := (fun g hg => Nat.ne_of_gt (Nat.lt_of_lt_of_le hltb (ho3.lt g hg).1)); have hle : w3.heap.size ≤ w1'.heap.size := hB1.size; obtain ⟨Y, hY⟩ : ∃ Y, w1'.heap.size = Y := ⟨_, rfl⟩; rw [hY] at HM hle hne ⊢; (try rw [hY] at HO'); (try rw [hY] at HB'); exact ⟨rfl, Y, B1, c1, B2, c2, rfl, HM, HO', HB', hle, hne⟩)
      | (have HM := gv_stored rfl hzc (.int .i64 N) (.int .i64 As) (.int .i64 Su) (.slice B2 V.length c2); have HO' := (ho3.cur (B := w2'.heap.size) hltc (gGv w3' (w2'.heap.size) (.int .i64 N) (.int .i64 As) (.int .i64 Su) (.slice B2 V.length c2))).lower (base' := w3.heap.size) (by first | exact hB2.size | (rw [World.heap_size_alloc9]; exact Nat.le_succ_of_le hB2.size)); have HB' := below_gv hB3 (show w3.heap.size ≤ w2'.heap.size from hB2.size) (.int .i64 N) (.int .i64 As) (.int .i64 Su) (.slice B2 V.length c2); have hne : ∀ g, (Value.slice B2 V.length c2).ownBlock = some g → g ≠ w2'.heap.size := (fun g hg => Nat.ne_of_gt (Nat.lt_of_lt_of_le hltc (ho3.lt g hg).1)); have hle : w3.heap.size ≤ w2'.heap.size := hB2.size; obtain ⟨Y, hY⟩ : ∃ Y, w2'.heap.size = Y := ⟨_, rfl⟩; rw [hY] at HM hle hne ⊢; (try rw [hY] at HO'); (try rw [hY] at HB'); exact ⟨rfl, Y, B1, c1, B2, c2, rfl, HM, HO', HB', hle, hne⟩)
      | (have HM : (w3'.alloc (.cells #[.int .i64 N, .int .i64 As, .int .i64 Su, .slice B2 V.length c2] 27)).heap[w3'.heap.size]? = some (.cells #[.int .i64 N, .int .i64 As, .int .i64 Su, .slice B2 V.length c2] 27 (0, 0)) := heap_alloc_new _ _; have HO' := (ho3.below (gAlloc w3' (.cells #[.int .i64 N, .int .i64 As, .int .i64 Su, .slice B2 V.length c2] 27))).lower (base' := w3.heap.size) (by first | exact hB2.size | (rw [World.heap_size_alloc9]; exact Nat.le_succ_of_le hB2.size)); have HB' := below_more hB3 (gAlloc w3' (.cells #[.int .i64 N, .int .i64 As, .int .i64 Su, .slice B2 V.length c2] 27)); have hne : ∀ g, (Value.slice B2 V.length c2).ownBlock = some g → g ≠ w3'.heap.size := (fun g hg => Nat.ne_of_lt (ho3.lt g hg).2); have hle : w3.heap.size ≤ w3'.heap.size := hB3.size; obtain ⟨Y, hY⟩ : ∃ Y, w3'.heap.size = Y := ⟨_, rfl⟩; rw [hY] at HM hle hne ⊢; (try rw [hY] at HO'); (try rw [hY] at HB'); exact ⟨rfl, Y, B1, c1, B2, c2, rfl, HM, HO', HB', hle, hne⟩)
  case himp =>
    intro Y6 B1 c1 Ag6 cg6 w4 hR
    obtain ⟨r1, r2, r3, r4, r5⟩ := hR
    clear hq0 hXY hn0 caG_0 caG_1 caG_2 caG_3 caS_0 caS_1
    have HNX_aG_g6 := Lib.hid (fun g hg => Nat.ne_of_gt (Nat.lt_of_lt_of_le (heap_lt KaG_5.out) (r2.lt g hg).1))
    have HNX_aS_g6 := Lib.hid (fun g hg => Nat.ne_of_gt (Nat.lt_of_lt_of_le (heap_lt KaS_5.out) (r2.lt g hg).1))
    have HNX_w0_g6 := Lib.hid r5
    have Hg6_0 := Lib.hid (r2.lower HB_5.out.size)
    have Kw0_0 := Lib.hid r1
    have KaG_7 := Lib.hid ((r3.block _ (heap_lt KaG_5.out)).trans KaG_5.out)
    have KaS_7 := Lib.hid ((r3.block _ (heap_lt KaS_5.out)).trans KaS_5.out)
    have HB_7 := Lib.hid (below_more HB_5.out r3)
    clear KaG_5 KaS_5 HB_5
    clear r1 r2 r3 r4 r5
    have caG_0 : w4.cell? ⟨w.heap.size, 0, none⟩ = some (.int .i64 n) := cell_of_row _ _ 0 _ _ _ KaG_7.out
    have caG_1 : w4.cell? ⟨w.heap.size, 1, none⟩ = some (.int .i64 a) := cell_of_row _ _ 1 _ _ _ KaG_7.out
    have caG_2 : w4.cell? ⟨w.heap.size, 2, none⟩ = some (.int .i64 s) := cell_of_row _ _ 2 _ _ _ KaG_7.out
    have caG_3 : w4.cell? ⟨w.heap.size, 3, none⟩ = some (.slice A zs.length ca) := cell_of_row _ _ 3 _ _ _ KaG_7.out
    have caS_0 : w4.cell? ⟨w1.heap.size, 0, none⟩ = some (.int .i64 k) := cell_of_row _ _ 0 _ _ _ KaS_7.out
    have caS_1 : w4.cell? ⟨w1.heap.size, 1, none⟩ = some (.bool p) := cell_of_row _ _ 1 _ _ _ KaS_7.out
    have cw0_0 : w4.cell? ⟨Y6, 0, none⟩ = some (.int .i64 N) := cell_of_row _ _ 0 _ _ _ Kw0_0.out
    have cw0_1 : w4.cell? ⟨Y6, 1, none⟩ = some (.int .i64 As) := cell_of_row _ _ 1 _ _ _ Kw0_0.out
    have cw0_2 : w4.cell? ⟨Y6, 2, none⟩ = some (.int .i64 Su) := cell_of_row _ _ 2 _ _ _ Kw0_0.out
    have cw0_3 : w4.cell? ⟨Y6, 3, none⟩ = some (.slice Ag6 V.length cg6) := cell_of_row _ _ 3 _ _ _ Kw0_0.out
    go_wp2_with fail
    clear caG_0 caG_1 caG_2 caG_3 caS_0 caS_1 cw0_0 cw0_1 cw0_2 cw0_3
    refine (toGv_any n a s A zs ca _ (HRA.out.below HB_7.out) (by omega)).mono ?_
    rintro e w5 ⟨vx00, rfl, hox00, hbx0⟩
    obtain ⟨Ax00, cx00, hvx00, hcapx00, _⟩ := gFormC hox00
    subst hvx00
    have HAp_g6_x00 := Lib.hid (apart5 (fun k hk => (Hg6_0.out.lt k hk).2) (fun k hk => (hox00.lt k hk).1))
    have HNX_aG_x00 := Lib.hid (fun g hg => Nat.ne_of_gt (Nat.lt_of_lt_of_le (heap_lt KaG_7.out) (hox00.lt g hg).1))
    have HNX_aS_x00 := Lib.hid (fun g hg => Nat.ne_of_gt (Nat.lt_of_lt_of_le (heap_lt KaS_7.out) (hox00.lt g hg).1))
    have HNX_w0_x00 := Lib.hid (fun g hg => Nat.ne_of_gt (Nat.lt_of_lt_of_le (heap_lt Kw0_0.out) (hox00.lt g hg).1))
    have Hg6_8 := Lib.hid (Hg6_0.out.below hbx0)
    have Hx00_8 := Lib.hid (hox00.lower HB_7.out.size)
    have KaG_8 := Lib.hid ((hbx0.block _ (heap_lt KaG_7.out)).trans KaG_7.out)
    have KaS_8 := Lib.hid ((hbx0.block _ (heap_lt KaS_7.out)).trans KaS_7.out)
    have Kw0_8 := Lib.hid ((hbx0.block _ (heap_lt Kw0_0.out)).trans Kw0_0.out)
    have HB_8 := Lib.hid (below_more HB_7.out hbx0)
    clear Hg6_0 KaG_7 KaS_7 Kw0_0 HB_7 hox00 hbx0
    obtain ⟨w6, hw9⟩ : ∃ wn, w5.alloc (.cells #[.int .i64 n, .int .i64 a, .int .i64 s, .slice Ax00 zs.length cx00] 27) = wn := ⟨_, rfl⟩
    have hbx : Below w5.heap.size w5 w6 := by rw [← hw9]; exact gAlloc _ _
    have KX : w6.heap[w5.heap.size]? = some (.cells #[.int .i64 n, .int .i64 a, .int .i64 s, .slice Ax00 zs.length cx00] 27 (0, 0)) := by rw [← hw9]; exact heap_alloc_new _ _
    have HNX_x0_g6 := Lib.hid (fun g hg => Nat.ne_of_lt (Hg6_8.out.lt g hg).2)
    have HNX_x0_x00 := Lib.hid (fun g hg => Nat.ne_of_lt (Hx00_8.out.lt g hg).2)
    have Hg6_10 := Lib.hid (Hg6_8.out.below hbx)
    have Hx00_10 := Lib.hid (Hx00_8.out.below hbx)
    have KaG_10 := Lib.hid ((hbx.block _ (heap_lt KaG_8.out)).trans KaG_8.out)
    have KaS_10 := Lib.hid ((hbx.block _ (heap_lt KaS_8.out)).trans KaS_8.out)
    have Kw0_10 := Lib.hid ((hbx.block _ (heap_lt Kw0_8.out)).trans Kw0_8.out)
    have HB_10 := Lib.hid (below_more HB_8.out hbx)
    clear Hg6_8 Hx00_8 KaG_8 KaS_8 Kw0_8 HB_8
    have Kx0_9 := Lib.hid KX
    clear hbx KX
    have caG_0 : w6.cell? ⟨w.heap.size, 0, none⟩ = some (.int .i64 n) := cell_of_row _ _ 0 _ _ _ KaG_10.out
    have caG_1 : w6.cell? ⟨w.heap.size, 1, none⟩ = some (.int .i64 a) := cell_of_row _ _ 1 _ _ _ KaG_10.out
    have caG_2 : w6.cell? ⟨w.heap.size, 2, none⟩ = some (.int .i64 s) := cell_of_row _ _ 2 _ _ _ KaG_10.out
    have caG_3 : w6.cell? ⟨w.heap.size, 3, none⟩ = some (.slice A zs.length ca) := cell_of_row _ _ 3 _ _ _ KaG_10.out
    have caS_0 : w6.cell? ⟨w1.heap.size, 0, none⟩ = some (.int .i64 k) := cell_of_row _ _ 0 _ _ _ KaS_10.out
    have caS_1 : w6.cell? ⟨w1.heap.size, 1, none⟩ = some (.bool p) := cell_of_row _ _ 1 _ _ _ KaS_10.out
    have cw0_0 : w6.cell? ⟨Y6, 0, none⟩ = some (.int .i64 N) := cell_of_row _ _ 0 _ _ _ Kw0_10.out
    have cw0_1 : w6.cell? ⟨Y6, 1, none⟩ = some (.int .i64 As) := cell_of_row _ _ 1 _ _ _ Kw0_10.out
    have cw0_2 : w6.cell? ⟨Y6, 2, none⟩ = some (.int .i64 Su) := cell_of_row _ _ 2 _ _ _ Kw0_10.out
    have cw0_3 : w6.cell? ⟨Y6, 3, none⟩ = some (.slice Ag6 V.length cg6) := cell_of_row _ _ 3 _ _ _ Kw0_10.out
    have cx0_0 : w6.cell? ⟨w5.heap.size, 0, none⟩ = some (.int .i64 n) := cell_of_row _ _ 0 _ _ _ Kx0_9.out
    have cx0_1 : w6.cell? ⟨w5.heap.size, 1, none⟩ = some (.int .i64 a) := cell_of_row _ _ 1 _ _ _ Kx0_9.out
    have cx0_2 : w6.cell? ⟨w5.heap.size, 2, none⟩ = some (.int .i64 s) := cell_of_row _ _ 2 _ _ _ Kx0_9.out
    have cx0_3 : w6.cell? ⟨w5.heap.size, 3, none⟩ = some (.slice Ax00 zs.length cx00) := cell_of_row _ _ 3 _ _ _ Kx0_9.out
    go_wp2_with fail
    have hq0 : w6.drew.cell? ⟨w5.heap.size, 0, none⟩ = some (.int .i64 n) ∧ w6.drew.cell? ⟨w5.heap.size, 1, none⟩ = some (.int .i64 a) ∧ w6.drew.cell? ⟨w5.heap.size, 2, none⟩ = some (.int .i64 s) ∧ w6.drew.cell? ⟨w5.heap.size, 3, none⟩ = some (.slice Ax00 zs.length cx00) ∧ w6.drew.cell? ⟨w1.heap.size, 0, none⟩ = some (.int .i64 k) ∧ w6.drew.cell? ⟨w1.heap.size, 1, none⟩ = some (.bool p) := six11 gDrew ⟨cx0_0, cx0_1, cx0_2, cx0_3, caS_0, caS_1⟩
    have hXY : ∀ {Z : Nat}, w6.heap.size ≤ Z → w5.heap.size ≠ Z ∧ w1.heap.size ≠ Z := fun h => ⟨Nat.ne_of_lt (Nat.lt_of_lt_of_le (heap_lt Kx0_9.out) h), Nat.ne_of_lt (Nat.lt_of_lt_of_le (heap_lt KaS_10.out) h)⟩
    have hn0 := hXY (Nat.le_refl _)
    apply wp_meet_gw (fun Y B2 c2 w' => w'.heap[Y]? = some (.cells #[.int .i64 N, .int .i64 As, .int .i64 Su, .slice B2 V.length c2] 27 (0, 0)) ∧ Own w' w6.heap.size (.slice B2 V.length c2) V ∧ Below w6.heap.size w6 w' ∧ w6.heap.size ≤ Y ∧ (∀ g, (Value.slice B2 V.length c2).ownBlock = some g → g ≠ Y))
    case hreg =>
      go_region_held3 (fun w' => w'.cell? ⟨w5.heap.size, 0, none⟩ = some (.int .i64 n) ∧ w'.cell? ⟨w5.heap.size, 1, none⟩ = some (.int .i64 a) ∧ w'.cell? ⟨w5.heap.size, 2, none⟩ = some (.int .i64 s) ∧ w'.cell? ⟨w5.heap.size, 3, none⟩ = some (.slice Ax00 zs.length cx00) ∧ w'.cell? ⟨w1.heap.size, 0, none⟩ = some (.int .i64 k) ∧ w'.cell? ⟨w1.heap.size, 1, none⟩ = some (.bool p)) (first | with_reducible exact hq0 | with_reducible exact hq1 | with_reducible exact hq2 | with_reducible exact six11 (gAlloc _ _) hq0 | with_reducible exact six11 (gAlloc _ _) hq1 | with_reducible exact six11 (gAlloc _ _) hq2 | with_reducible exact six_set11 hq2 hn0 | with_reducible exact six_set11 hq2 hn1 | with_reducible exact six_set11 hq2 hn2 | (go_loud (fail "KEEP"))) (first
        | (go_at_call 23; have hpre := hB1; clear hpre; refine (HI.out Ax00 cx00 _ (hK _ _ HW.out (below_more HB_10.out (by first | exact hB1 | exact below_more hB1 (gAlloc _ _)))) ((own_ints5 Hx00_10.out).below (by first | exact hB1 | exact below_more hB1 (gAlloc _ _))) (own9_lies Hx00_10.out) (by omega)).mono ?_; rintro e w2' ⟨vt2, rfl, ho2, hb2⟩; obtain ⟨B2, c2, rfl, _⟩ := gFormC ho2; have hB2 : Below w6.heap.size w6 w2' := (by first | exact below_more hB1 hb2 | exact below_more (below_more hB1 (gAlloc _ _)) hb2); have hq2 : w2'.cell? ⟨w5.heap.size, 0, none⟩ = some (.int .i64 n) ∧ w2'.cell? ⟨w5.heap.size, 1, none⟩ = some (.int .i64 a) ∧ w2'.cell? ⟨w5.heap.size, 2, none⟩ = some (.int .i64 s) ∧ w2'.cell? ⟨w5.heap.size, 3, none⟩ = some (.slice Ax00 zs.length cx00) ∧ w2'.cell? ⟨w1.heap.size, 0, none⟩ = some (.int .i64 k) ∧ w2'.cell? ⟨w1.heap.size, 1, none⟩ = some (.bool p) := six11 hB2 ⟨cx0_0, cx0_1, cx0_2, cx0_3, caS_0, caS_1⟩; have hn2 := hXY hB2.size; (try (have hr0 : (w6.alloc (.cells #[.int .i64 0, .int .i64 0, .int .i64 0, .slice none 0 0] 27)).drew.heap[w6.heap.size]? = some (.cells #[.int .i64 0, .int .i64 0, .int .i64 0, .slice none 0 0] 27 (0, 0)) := alloc_atD11 _ _; have hr1 : w1'.heap[w6.heap.size]? = some (.cells #[.int .i64 0, .int .i64 0, .int .i64 0, .slice none 0 0] 27 (0, 0)) := (hb1.block _ (heap_lt hr0)).trans hr0; have hlta : w6.heap.size < _ := heap_lt hr1; have hr2 : w2'.heap[w6.heap.size]? = some (.cells #[.int .i64 0, .int .i64 0, .int .i64 0, .slice none 0 0] 27 (0, 0)) := (hb2.block _ (heap_lt hr1)).trans hr1; have hza := hr2; have pa0 := cell_of_row w2' _ 0 _ _ _ hza; have fa0 := frozen_of_row w2' _ 0 _ _ hza; have pa1 := cell_of_row w2' _ 1 _ _ _ hza; have fa1 := frozen_of_row w2' _ 1 _ _ hza; have pa2 := cell_of_row w2' _ 2 _ _ _ hza; have fa2 := frozen_of_row w2' _ 2 _ _ hza; have pa3 := cell_of_row w2' _ 3 _ _ _ hza; have fa3 := frozen_of_row w2' _ 3 _ _ hza)); (try (have hr0 : (w1'.alloc (.cells #[.int .i64 0, .int .i64 0, .int .i64 0, .slice none 0 0] 27)).heap[w1'.heap.size]? = some (.cells #[.int .i64 0, .int .i64 0, .int .i64 0, .slice none 0 0] 27 (0, 0)) := heap_alloc_new _ _; have hltb : w1'.heap.size < _ := heap_lt hr0; have hr2 : w2'.heap[w1'.heap.size]? = some (.cells #[.int .i64 0, .int .i64 0, .int .i64 0, .slice none 0 0] 27 (0, 0)) := (hb2.block _ (heap_lt hr0)).trans hr0; have hzb := hr2; have pb0 := cell_of_row w2' _ 0 _ _ _ hzb; have fb0 := frozen_of_row w2' _ 0 _ _ hzb; have pb1 := cell_of_row w2' _ 1 _ _ _ hzb; have fb1 := frozen_of_row w2' _ 1 _ _ hzb; have pb2 := cell_of_row w2' _ 2 _ _ _ hzb; have fb2 := frozen_of_row w2' _ 2 _ _ hzb; have pb3 := cell_of_row w2' _ 3 _ _ _ hzb; have fb3 := frozen_of_row w2' _ 3 _ _ hzb)))
        | (go_at_call 34; refine (toId_any k p _).mono ?_; rintro e w1' ⟨rfl, hb1⟩; have hB1 : Below w6.heap.size w6 w1' := (by first | exact below_more gDrew hb1 | exact below_more (below_more (gAlloc _ _) gDrew) hb1); have hq1 : w1'.cell? ⟨w5.heap.size, 0, none⟩ = some (.int .i64 n) ∧ w1'.cell? ⟨w5.heap.size, 1, none⟩ = some (.int .i64 a) ∧ w1'.cell? ⟨w5.heap.size, 2, none⟩ = some (.int .i64 s) ∧ w1'.cell? ⟨w5.heap.size, 3, none⟩ = some (.slice Ax00 zs.length cx00) ∧ w1'.cell? ⟨w1.heap.size, 0, none⟩ = some (.int .i64 k) ∧ w1'.cell? ⟨w1.heap.size, 1, none⟩ = some (.bool p) := six11 hB1 ⟨cx0_0, cx0_1, cx0_2, cx0_3, caS_0, caS_1⟩; have hn1 := hXY hB1.size))
      all_goals
        first
        | (have HM := gv_stored rfl hza (.int .i64 N) (.int .i64 As) (.int .i64 Su) (.slice B2 V.length c2); have HO' := (ho2.cur (B := w6.heap.size) hlta (gGv w2' (w6.heap.size) (.int .i64 N) (.int .i64 As) (.int .i64 Su) (.slice B2 V.length c2))).lower (base' := w6.heap.size) (by first | exact hB1.size | (rw [World.heap_size_alloc9]; exact Nat.le_succ_of_le hB1.size)); have HB' := below_gv hB2 (show w6.heap.size ≤ w6.heap.size from Nat.le_refl _) (.int .i64 N) (.int .i64 As) (.int .i64 Su) (.slice B2 V.length c2); have hne : ∀ g, (Value.slice B2 V.length c2).ownBlock = some g → g ≠ w6.heap.size := (fun g hg => Nat.ne_of_gt (Nat.lt_of_lt_of_le hlta (ho2.lt g hg).1)); have hle : w6.heap.size ≤ w6.heap.size := Nat.le_refl _; obtain ⟨Y, hY⟩ : ∃ Y, w6.heap.size = Y := ⟨_, rfl⟩; rw [hY] at HM hle hne ⊢; (try rw [hY] at HO'); (try rw [hY] at HB'); exact ⟨rfl, Y, B2, c2, rfl, HM, HO', HB', hle, hne⟩)
        | (have HM := gv_stored rfl hzb (.int .i64 N) (.int .i64 As) (.int .i64 Su) (.slice B2 V.length c2); have HO' := (ho2.cur (B := w1'.heap.size) hltb (gGv w2' (w1'.heap.size) (.int .i64 N) (.int .i64 As) (.int .i64 Su) (.slice B2 V.length c2))).lower (base' := w6.heap.size) (by first | exact hB1.size | (rw [World.heap_size_alloc9]; exact Nat.le_succ_of_le hB1.size)); have HB' := below_gv hB2 (show w6.heap.size ≤ w1'.heap.size from hB1.size) (.int .i64 N) (.int .i64 As) (.int .i64 Su) (.slice B2 V.length c2); have hne : ∀ g, (Value.slice B2 V.length c2).ownBlock = some g → g ≠ w1'.heap.size := (fun g hg => Nat.ne_of_gt (Nat.lt_of_lt_of_le hltb (ho2.lt g hg).1)); have hle : w6.heap.size ≤ w1'.heap.size := hB1.size; obtain ⟨Y, hY⟩ : ∃ Y, w1'.heap.size = Y := ⟨_, rfl⟩; rw [hY] at HM hle hne ⊢; (try rw [hY] at HO'); (try rw [hY] at HB'); exact ⟨rfl, Y, B2, c2, rfl, HM, HO', HB', hle, hne⟩)
        | (have HM : (w2'.alloc (.cells #[.int .i64 N, .int .i64 As, .int .i64 Su, .slice B2 V.length c2] 27)).heap[w2'.heap.size]? = some (.cells #[.int .i64 N, .int .i64 As, .int .i64 Su, .slice B2 V.length c2] 27 (0, 0)) := heap_alloc_new _ _; have HO' := (ho2.below (gAlloc w2' (.cells #[.int .i64 N, .int .i64 As, .int .i64 Su, .slice B2 V.length c2] 27))).lower (base' := w6.heap.size) (by first | exact hB1.size | (rw [World.heap_size_alloc9]; exact Nat.le_succ_of_le hB1.size)); have HB' := below_more hB2 (gAlloc w2' (.cells #[.int .i64 N, .int .i64 As, .int .i64 Su, .slice B2 V.length c2] 27)); have hne : ∀ g, (Value.slice B2 V.length c2).ownBlock = some g → g ≠ w2'.heap.size := (fun g hg => Nat.ne_of_lt (ho2.lt g hg).2); have hle : w6.heap.size ≤ w2'.heap.size := hB2.size; obtain ⟨Y, hY⟩ : ∃ Y, w2'.heap.size = Y := ⟨_, rfl⟩; rw [hY] at HM hle hne ⊢; (try rw [hY] at HO'); (try rw [hY] at HB'); exact ⟨rfl, Y, B2, c2, rfl, HM, HO', HB', hle, hne⟩)
    case himp =>
      intro Y11 Ag11 cg11 w7 hR
      obtain ⟨r1, r2, r3, r4, r5⟩ := hR
      clear hq0 hXY hn0 caG_0 caG_1 caG_2 caG_3 caS_0 caS_1 cw0_0 cw0_1 cw0_2 cw0_3 cx0_0 cx0_1 cx0_2 cx0_3 hw9
      have HAp_g6_g11 := Lib.hid (apart5 (fun k hk => (Hg6_10.out.lt k hk).2) (fun k hk => (r2.lt k hk).1))
      have HNX_g0_g6 := Lib.hid (fun g hg => Nat.ne_of_lt (Nat.lt_of_lt_of_le (Hg6_10.out.lt g hg).2 r4))
      have HAp_x00_g11 := Lib.hid (apart5 (fun k hk => (Hx00_10.out.lt k hk).2) (fun k hk => (r2.lt k hk).1))
      have HNX_g0_x00 := Lib.hid (fun g hg => Nat.ne_of_lt (Nat.lt_of_lt_of_le (Hx00_10.out.lt g hg).2 r4))
      have HNX_aG_g11 := Lib.hid (fun g hg => Nat.ne_of_gt (Nat.lt_of_lt_of_le (heap_lt KaG_10.out) (r2.lt g hg).1))
      have HNX_aS_g11 := Lib.hid (fun g hg => Nat.ne_of_gt (Nat.lt_of_lt_of_le (heap_lt KaS_10.out) (r2.lt g hg).1))
      have HNX_w0_g11 := Lib.hid (fun g hg => Nat.ne_of_gt (Nat.lt_of_lt_of_le (heap_lt Kw0_10.out) (r2.lt g hg).1))
      have HNX_x0_g11 := Lib.hid (fun g hg => Nat.ne_of_gt (Nat.lt_of_lt_of_le (heap_lt Kx0_9.out) (r2.lt g hg).1))
      have HNX_g0_g11 := Lib.hid r5
      have Hg11_0 := Lib.hid (r2.lower HB_10.out.size)
      have Kg0_0 := Lib.hid r1
      have Hg6_12 := Lib.hid (Hg6_10.out.below r3)
      have Hx00_12 := Lib.hid (Hx00_10.out.below r3)
      have KaG_12 := Lib.hid ((r3.block _ (heap_lt KaG_10.out)).trans KaG_10.out)
      have KaS_12 := Lib.hid ((r3.block _ (heap_lt KaS_10.out)).trans KaS_10.out)
      have Kw0_12 := Lib.hid ((r3.block _ (heap_lt Kw0_10.out)).trans Kw0_10.out)
      have Kx0_12 := Lib.hid ((r3.block _ (heap_lt Kx0_9.out)).trans Kx0_9.out)
      have HB_12 := Lib.hid (below_more HB_10.out r3)
      clear Hg6_10 Hx00_10 KaG_10 KaS_10 Kw0_10 Kx0_9 HB_10
      clear r1 r2 r3 r4 r5
      have caG_0 : w7.cell? ⟨w.heap.size, 0, none⟩ = some (.int .i64 n) := cell_of_row _ _ 0 _ _ _ KaG_12.out
      have caG_1 : w7.cell? ⟨w.heap.size, 1, none⟩ = some (.int .i64 a) := cell_of_row _ _ 1 _ _ _ KaG_12.out
      have caG_2 : w7.cell? ⟨w.heap.size, 2, none⟩ = some (.int .i64 s) := cell_of_row _ _ 2 _ _ _ KaG_12.out
      have caG_3 : w7.cell? ⟨w.heap.size, 3, none⟩ = some (.slice A zs.length ca) := cell_of_row _ _ 3 _ _ _ KaG_12.out
      have caS_0 : w7.cell? ⟨w1.heap.size, 0, none⟩ = some (.int .i64 k) := cell_of_row _ _ 0 _ _ _ KaS_12.out
      have caS_1 : w7.cell? ⟨w1.heap.size, 1, none⟩ = some (.bool p) := cell_of_row _ _ 1 _ _ _ KaS_12.out
      have cw0_0 : w7.cell? ⟨Y6, 0, none⟩ = some (.int .i64 N) := cell_of_row _ _ 0 _ _ _ Kw0_12.out
      have cw0_1 : w7.cell? ⟨Y6, 1, none⟩ = some (.int .i64 As) := cell_of_row _ _ 1 _ _ _ Kw0_12.out
      have cw0_2 : w7.cell? ⟨Y6, 2, none⟩ = some (.int .i64 Su) := cell_of_row _ _ 2 _ _ _ Kw0_12.out
      have cw0_3 : w7.cell? ⟨Y6, 3, none⟩ = some (.slice Ag6 V.length cg6) := cell_of_row _ _ 3 _ _ _ Kw0_12.out
      have cx0_0 : w7.cell? ⟨w5.heap.size, 0, none⟩ = some (.int .i64 n) := cell_of_row _ _ 0 _ _ _ Kx0_12.out
      have cx0_1 : w7.cell? ⟨w5.heap.size, 1, none⟩ = some (.int .i64 a) := cell_of_row _ _ 1 _ _ _ Kx0_12.out
      have cx0_2 : w7.cell? ⟨w5.heap.size, 2, none⟩ = some (.int .i64 s) := cell_of_row _ _ 2 _ _ _ Kx0_12.out
      have cx0_3 : w7.cell? ⟨w5.heap.size, 3, none⟩ = some (.slice Ax00 zs.length cx00) := cell_of_row _ _ 3 _ _ _ Kx0_12.out
      have cg0_0 : w7.cell? ⟨Y11, 0, none⟩ = some (.int .i64 N) := cell_of_row _ _ 0 _ _ _ Kg0_0.out
      have cg0_1 : w7.cell? ⟨Y11, 1, none⟩ = some (.int .i64 As) := cell_of_row _ _ 1 _ _ _ Kg0_0.out
      have cg0_2 : w7.cell? ⟨Y11, 2, none⟩ = some (.int .i64 Su) := cell_of_row _ _ 2 _ _ _ Kg0_0.out
      have cg0_3 : w7.cell? ⟨Y11, 3, none⟩ = some (.slice Ag11 V.length cg11) := cell_of_row _ _ 3 _ _ _ Kg0_0.out
      go_wp2_with fail
      clear caG_0 caG_1 caG_2 caG_3 caS_0 caS_1 cw0_0 cw0_1 cw0_2 cw0_3 cx0_0 cx0_1 cx0_2 cx0_3 cg0_0 cg0_1 cg0_2 cg0_3
      refine (eqGv_self N As Su Ag11 Ag6 V cg11 cg6 _ (own_ints5 Hg11_0.out) (own_ints5 Hg6_12.out) (by omega)).mono ?_
      rintro e w8 ⟨rfl, hbq⟩
      have Hg6_13 := Lib.hid (Hg6_12.out.below hbq)
      have Hx00_13 := Lib.hid (Hx00_12.out.below hbq)
      have Hg11_13 := Lib.hid (Hg11_0.out.below hbq)
      have KaG_13 := Lib.hid ((hbq.block _ (heap_lt KaG_12.out)).trans KaG_12.out)
      have KaS_13 := Lib.hid ((hbq.block _ (heap_lt KaS_12.out)).trans KaS_12.out)
      have Kw0_13 := Lib.hid ((hbq.block _ (heap_lt Kw0_12.out)).trans Kw0_12.out)
      have Kx0_13 := Lib.hid ((hbq.block _ (heap_lt Kx0_12.out)).trans Kx0_12.out)
      have Kg0_13 := Lib.hid ((hbq.block _ (heap_lt Kg0_0.out)).trans Kg0_0.out)
      have HB_13 := Lib.hid (below_more HB_12.out hbq)
      clear Hg6_12 Hx00_12 Hg11_0 KaG_12 KaS_12 Kw0_12 Kx0_12 Kg0_0 HB_12
      clear hbq
      have caG_0 : w8.cell? ⟨w.heap.size, 0, none⟩ = some (.int .i64 n) := cell_of_row _ _ 0 _ _ _ KaG_13.out
      have caG_1 : w8.cell? ⟨w.heap.size, 1, none⟩ = some (.int .i64 a) := cell_of_row _ _ 1 _ _ _ KaG_13.out
      have caG_2 : w8.cell? ⟨w.heap.size, 2, none⟩ = some (.int .i64 s) := cell_of_row _ _ 2 _ _ _ KaG_13.out
      have caG_3 : w8.cell? ⟨w.heap.size, 3, none⟩ = some (.slice A zs.length ca) := cell_of_row _ _ 3 _ _ _ KaG_13.out
      have caS_0 : w8.cell? ⟨w1.heap.size, 0, none⟩ = some (.int .i64 k) := cell_of_row _ _ 0 _ _ _ KaS_13.out
      have caS_1 : w8.cell? ⟨w1.heap.size, 1, none⟩ = some (.bool p) := cell_of_row _ _ 1 _ _ _ KaS_13.out
      have cw0_0 : w8.cell? ⟨Y6, 0, none⟩ = some (.int .i64 N) := cell_of_row _ _ 0 _ _ _ Kw0_13.out
      have cw0_1 : w8.cell? ⟨Y6, 1, none⟩ = some (.int .i64 As) := cell_of_row _ _ 1 _ _ _ Kw0_13.out
      have cw0_2 : w8.cell? ⟨Y6, 2, none⟩ = some (.int .i64 Su) := cell_of_row _ _ 2 _ _ _ Kw0_13.out
      have cw0_3 : w8.cell? ⟨Y6, 3, none⟩ = some (.slice Ag6 V.length cg6) := cell_of_row _ _ 3 _ _ _ Kw0_13.out
      have cx0_0 : w8.cell? ⟨w5.heap.size, 0, none⟩ = some (.int .i64 n) := cell_of_row _ _ 0 _ _ _ Kx0_13.out
      have cx0_1 : w8.cell? ⟨w5.heap.size, 1, none⟩ = some (.int .i64 a) := cell_of_row _ _ 1 _ _ _ Kx0_13.out
      have cx0_2 : w8.cell? ⟨w5.heap.size, 2, none⟩ = some (.int .i64 s) := cell_of_row _ _ 2 _ _ _ Kx0_13.out
      have cx0_3 : w8.cell? ⟨w5.heap.size, 3, none⟩ = some (.slice Ax00 zs.length cx00) := cell_of_row _ _ 3 _ _ _ Kx0_13.out
      have cg0_0 : w8.cell? ⟨Y11, 0, none⟩ = some (.int .i64 N) := cell_of_row _ _ 0 _ _ _ Kg0_13.out
      have cg0_1 : w8.cell? ⟨Y11, 1, none⟩ = some (.int .i64 As) := cell_of_row _ _ 1 _ _ _ Kg0_13.out
      have cg0_2 : w8.cell? ⟨Y11, 2, none⟩ = some (.int .i64 Su) := cell_of_row _ _ 2 _ _ _ Kg0_13.out
      have cg0_3 : w8.cell? ⟨Y11, 3, none⟩ = some (.slice Ag11 V.length cg11) := cell_of_row _ _ 3 _ _ _ Kg0_13.out
      go_wp2_with fail
      go_region_held3 (fun w' => w'.cell? ⟨w5.heap.size, 0, none⟩ = some (.int .i64 n) ∧ w'.cell? ⟨w5.heap.size, 1, none⟩ = some (.int .i64 a) ∧ w'.cell? ⟨w5.heap.size, 2, none⟩ = some (.int .i64 s) ∧ w'.cell? ⟨w5.heap.size, 3, none⟩ = some (.slice Ax00 zs.length cx00) ∧ w'.cell? ⟨w.heap.size, 0, none⟩ = some (.int .i64 n) ∧ w'.cell? ⟨w.heap.size, 1, none⟩ = some (.int .i64 a) ∧ w'.cell? ⟨w.heap.size, 2, none⟩ = some (.int .i64 s) ∧ w'.cell? ⟨w.heap.size, 3, none⟩ = some (.slice A zs.length ca)) (first | exact ⟨cx0_0, cx0_1, cx0_2, cx0_3, caG_0, caG_1, caG_2, caG_3⟩ | exact ⟨rr0, rr1, rr2, rr3, rr4, rr5, rr6, rr7⟩ | exact ⟨srr0, srr1, srr2, srr3, srr4, srr5, srr6, srr7⟩ | go_keep) (first
        | (go_at_call 33; refine (toGv_any n a s A zs ca _ ((HRA.out.below HB_13.out).below gDrew) (by omega)).mono ?_; rintro e we ⟨ve0, rfl, hoe0, hbe⟩; have rr0 := (hbe.cell (World.block_lt_of_cell? _ _ cx0_0)).trans cx0_0; have rr1 := (hbe.cell (World.block_lt_of_cell? _ _ cx0_1)).trans cx0_1; have rr2 := (hbe.cell (World.block_lt_of_cell? _ _ cx0_2)).trans cx0_2; have rr3 := (hbe.cell (World.block_lt_of_cell? _ _ cx0_3)).trans cx0_3; have rr4 := (hbe.cell (World.block_lt_of_cell? _ _ caG_0)).trans caG_0; have rr5 := (hbe.cell (World.block_lt_of_cell? _ _ caG_1)).trans caG_1; have rr6 := (hbe.cell (World.block_lt_of_cell? _ _ caG_2)).trans caG_2; have rr7 := (hbe.cell (World.block_lt_of_cell? _ _ caG_3)).trans caG_3; obtain ⟨Ae0, ce0, rfl, hcape0, _⟩ := gFormC hoe0)
        | (go_at_call 29; refine (eqGv_self n a s Ax00 Ae0 zs cx00 ce0 _ (own_ints5 (Lib.hid ((Hx00_13.out.below gDrew).below hbe)).out) (own_ints5 (Lib.hid hoe0).out) (by omega)).mono ?_; rintro e w9 ⟨rfl, hbf⟩; have srr0 := (hbf.cell (World.block_lt_of_cell? _ _ rr0)).trans rr0; have srr1 := (hbf.cell (World.block_lt_of_cell? _ _ rr1)).trans rr1; have srr2 := (hbf.cell (World.block_lt_of_cell? _ _ rr2)).trans rr2; have srr3 := (hbf.cell (World.block_lt_of_cell? _ _ rr3)).trans rr3; have srr4 := (hbf.cell (World.block_lt_of_cell? _ _ rr4)).trans rr4; have srr5 := (hbf.cell (World.block_lt_of_cell? _ _ rr5)).trans rr5; have srr6 := (hbf.cell (World.block_lt_of_cell? _ _ rr6)).trans rr6; have srr7 := (hbf.cell (World.block_lt_of_cell? _ _ rr7)).trans rr7))
      have hbq := below_more gDrew (below_more hbe hbf)
      clear srr0 srr1 srr2 srr3 srr4 srr5 srr6 srr7 rr0 rr1 rr2 rr3 rr4 rr5 rr6 rr7 caG_0 caG_1 caG_2 caG_3 caS_0 caS_1 cw0_0 cw0_1 cw0_2 cw0_3 cx0_0 cx0_1 cx0_2 cx0_3 cg0_0 cg0_1 cg0_2 cg0_3 hoe0
      have Hg6_14 := Lib.hid (Hg6_13.out.below hbq)
      have Hx00_14 := Lib.hid (Hx00_13.out.below hbq)
      have Hg11_14 := Lib.hid (Hg11_13.out.below hbq)
      have KaG_14 := Lib.hid ((hbq.block _ (heap_lt KaG_13.out)).trans KaG_13.out)
      have KaS_14 := Lib.hid ((hbq.block _ (heap_lt KaS_13.out)).trans KaS_13.out)
      have Kw0_14 := Lib.hid ((hbq.block _ (heap_lt Kw0_13.out)).trans Kw0_13.out)
      have Kx0_14 := Lib.hid ((hbq.block _ (heap_lt Kx0_13.out)).trans Kx0_13.out)
      have Kg0_14 := Lib.hid ((hbq.block _ (heap_lt Kg0_13.out)).trans Kg0_13.out)
      have HB_14 := Lib.hid (below_more HB_13.out hbq)
      clear Hg6_13 Hx00_13 Hg11_13 KaG_13 KaS_13 Kw0_13 Kx0_13 Kg0_13 HB_13
      clear hbq hbe hbf
      have caG_0 : w9.cell? ⟨w.heap.size, 0, none⟩ = some (.int .i64 n) := cell_of_row _ _ 0 _ _ _ KaG_14.out
      have caG_1 : w9.cell? ⟨w.heap.size, 1, none⟩ = some (.int .i64 a) := cell_of_row _ _ 1 _ _ _ KaG_14.out
      have caG_2 : w9.cell? ⟨w.heap.size, 2, none⟩ = some (.int .i64 s) := cell_of_row _ _ 2 _ _ _ KaG_14.out
      have caG_3 : w9.cell? ⟨w.heap.size, 3, none⟩ = some (.slice A zs.length ca) := cell_of_row _ _ 3 _ _ _ KaG_14.out
      have caS_0 : w9.cell? ⟨w1.heap.size, 0, none⟩ = some (.int .i64 k) := cell_of_row _ _ 0 _ _ _ KaS_14.out
      have caS_1 : w9.cell? ⟨w1.heap.size, 1, none⟩ = some (.bool p) := cell_of_row _ _ 1 _ _ _ KaS_14.out
      have cw0_0 : w9.cell? ⟨Y6, 0, none⟩ = some (.int .i64 N) := cell_of_row _ _ 0 _ _ _ Kw0_14.out
      have cw0_1 : w9.cell? ⟨Y6, 1, none⟩ = some (.int .i64 As) := cell_of_row _ _ 1 _ _ _ Kw0_14.out
      have cw0_2 : w9.cell? ⟨Y6, 2, none⟩ = some (.int .i64 Su) := cell_of_row _ _ 2 _ _ _ Kw0_14.out
      have cw0_3 : w9.cell? ⟨Y6, 3, none⟩ = some (.slice Ag6 V.length cg6) := cell_of_row _ _ 3 _ _ _ Kw0_14.out
      have cx0_0 : w9.cell? ⟨w5.heap.size, 0, none⟩ = some (.int .i64 n) := cell_of_row _ _ 0 _ _ _ Kx0_14.out
      have cx0_1 : w9.cell? ⟨w5.heap.size, 1, none⟩ = some (.int .i64 a) := cell_of_row _ _ 1 _ _ _ Kx0_14.out
      have cx0_2 : w9.cell? ⟨w5.heap.size, 2, none⟩ = some (.int .i64 s) := cell_of_row _ _ 2 _ _ _ Kx0_14.out
      have cx0_3 : w9.cell? ⟨w5.heap.size, 3, none⟩ = some (.slice Ax00 zs.length cx00) := cell_of_row _ _ 3 _ _ _ Kx0_14.out
      have cg0_0 : w9.cell? ⟨Y11, 0, none⟩ = some (.int .i64 N) := cell_of_row _ _ 0 _ _ _ Kg0_14.out
      have cg0_1 : w9.cell? ⟨Y11, 1, none⟩ = some (.int .i64 As) := cell_of_row _ _ 1 _ _ _ Kg0_14.out
      have cg0_2 : w9.cell? ⟨Y11, 2, none⟩ = some (.int .i64 Su) := cell_of_row _ _ 2 _ _ _ Kg0_14.out
      have cg0_3 : w9.cell? ⟨Y11, 3, none⟩ = some (.slice Ag11 V.length cg11) := cell_of_row _ _ 3 _ _ _ Kg0_14.out
      go_wp2_with fail
      clear caG_0 caG_1 caG_2 caG_3 caS_0 caS_1 cw0_0 cw0_1 cw0_2 cw0_3 cx0_0 cx0_1 cx0_2 cx0_3 cg0_0 cg0_1 cg0_2 cg0_3
      refine (markGv_any n a s _ zs _ 1 _ Hx00_14.out (by omega) (by omega) (by omega)).mono ?_
      rintro e w10 ⟨rfl, hm0, hg0⟩
      have Hg6_15 := Lib.hid (Hg6_14.out.kept hg0 HAp_g6_x00.out)
      have Hg11_15 := Lib.hid (Hg11_14.out.kept hg0 (gApart HAp_x00_g11.out))
      have KaG_15 := Lib.hid ((hg0.block _ (heap_lt KaG_14.out) (fun e => HNX_aG_x00.out _ e.symm rfl)).trans KaG_14.out)
      have KaS_15 := Lib.hid ((hg0.block _ (heap_lt KaS_14.out) (fun e => HNX_aS_x00.out _ e.symm rfl)).trans KaS_14.out)
      have Kw0_15 := Lib.hid ((hg0.block _ (heap_lt Kw0_14.out) (fun e => HNX_w0_x00.out _ e.symm rfl)).trans Kw0_14.out)
      have Kx0_15 := Lib.hid ((hg0.block _ (heap_lt Kx0_14.out) (fun e => HNX_x0_x00.out _ e.symm rfl)).trans Kx0_14.out)
      have Kg0_15 := Lib.hid ((hg0.block _ (heap_lt Kg0_14.out) (fun e => HNX_g0_x00.out _ e.symm rfl)).trans Kg0_14.out)
      have HMb0 := Lib.hid (fun k hk => (Hx00_14.out.lt k hk).1)
      have HB_15 : Hid (Below w.heap.size w w10) := (HB_14.out.grown hg0 HB_14.out.size HMb0.out)
      have Hx00_15 := Lib.hid hm0
      clear Hg6_14 Hg11_14 KaG_14 KaS_14 Kw0_14 Kx0_14 Kg0_14 HB_14 Hx00_14 hm0 hg0 HMb0
      clear Hx00_15
      clear Kx0_15
      have caG_0 : w10.cell? ⟨w.heap.size, 0, none⟩ = some (.int .i64 n) := cell_of_row _ _ 0 _ _ _ KaG_15.out
      have caG_1 : w10.cell? ⟨w.heap.size, 1, none⟩ = some (.int .i64 a) := cell_of_row _ _ 1 _ _ _ KaG_15.out
      have caG_2 : w10.cell? ⟨w.heap.size, 2, none⟩ = some (.int .i64 s) := cell_of_row _ _ 2 _ _ _ KaG_15.out
      have caG_3 : w10.cell? ⟨w.heap.size, 3, none⟩ = some (.slice A zs.length ca) := cell_of_row _ _ 3 _ _ _ KaG_15.out
      have caS_0 : w10.cell? ⟨w1.heap.size, 0, none⟩ = some (.int .i64 k) := cell_of_row _ _ 0 _ _ _ KaS_15.out
      have caS_1 : w10.cell? ⟨w1.heap.size, 1, none⟩ = some (.bool p) := cell_of_row _ _ 1 _ _ _ KaS_15.out
      have cw0_0 : w10.cell? ⟨Y6, 0, none⟩ = some (.int .i64 N) := cell_of_row _ _ 0 _ _ _ Kw0_15.out
      have cw0_1 : w10.cell? ⟨Y6, 1, none⟩ = some (.int .i64 As) := cell_of_row _ _ 1 _ _ _ Kw0_15.out
      have cw0_2 : w10.cell? ⟨Y6, 2, none⟩ = some (.int .i64 Su) := cell_of_row _ _ 2 _ _ _ Kw0_15.out
      have cw0_3 : w10.cell? ⟨Y6, 3, none⟩ = some (.slice Ag6 V.length cg6) := cell_of_row _ _ 3 _ _ _ Kw0_15.out
      have cg0_0 : w10.cell? ⟨Y11, 0, none⟩ = some (.int .i64 N) := cell_of_row _ _ 0 _ _ _ Kg0_15.out
      have cg0_1 : w10.cell? ⟨Y11, 1, none⟩ = some (.int .i64 As) := cell_of_row _ _ 1 _ _ _ Kg0_15.out
      have cg0_2 : w10.cell? ⟨Y11, 2, none⟩ = some (.int .i64 Su) := cell_of_row _ _ 2 _ _ _ Kg0_15.out
      have cg0_3 : w10.cell? ⟨Y11, 3, none⟩ = some (.slice Ag11 V.length cg11) := cell_of_row _ _ 3 _ _ _ Kg0_15.out
      go_wp2_with fail
      clear caG_0 caG_1 caG_2 caG_3 caS_0 caS_1 cw0_0 cw0_1 cw0_2 cw0_3 cg0_0 cg0_1 cg0_2 cg0_3
      refine (eqGv_self N As Su Ag11 Ag6 V cg11 cg6 _ (own_ints5 Hg11_15.out) (own_ints5 Hg6_15.out) (by omega)).mono ?_
      rintro e w11 ⟨rfl, hbq⟩
      have Hg6_16 := Lib.hid (Hg6_15.out.below hbq)
      have Hg11_16 := Lib.hid (Hg11_15.out.below hbq)
      have KaG_16 := Lib.hid ((hbq.block _ (heap_lt KaG_15.out)).trans KaG_15.out)
      have KaS_16 := Lib.hid ((hbq.block _ (heap_lt KaS_15.out)).trans KaS_15.out)
      have Kw0_16 := Lib.hid ((hbq.block _ (heap_lt Kw0_15.out)).trans Kw0_15.out)
      have Kg0_16 := Lib.hid ((hbq.block _ (heap_lt Kg0_15.out)).trans Kg0_15.out)
      have HB_16 := Lib.hid (below_more HB_15.out hbq)
      clear Hg6_15 Hg11_15 KaG_15 KaS_15 Kw0_15 Kg0_15 HB_15
      clear hbq
      have caG_0 : w11.cell? ⟨w.heap.size, 0, none⟩ = some (.int .i64 n) := cell_of_row _ _ 0 _ _ _ KaG_16.out
      have caG_1 : w11.cell? ⟨w.heap.size, 1, none⟩ = some (.int .i64 a) := cell_of_row _ _ 1 _ _ _ KaG_16.out
      have caG_2 : w11.cell? ⟨w.heap.size, 2, none⟩ = some (.int .i64 s) := cell_of_row _ _ 2 _ _ _ KaG_16.out
      have caG_3 : w11.cell? ⟨w.heap.size, 3, none⟩ = some (.slice A zs.length ca) := cell_of_row _ _ 3 _ _ _ KaG_16.out
      have caS_0 : w11.cell? ⟨w1.heap.size, 0, none⟩ = some (.int .i64 k) := cell_of_row _ _ 0 _ _ _ KaS_16.out
      have caS_1 : w11.cell? ⟨w1.heap.size, 1, none⟩ = some (.bool p) := cell_of_row _ _ 1 _ _ _ KaS_16.out
      have cw0_0 : w11.cell? ⟨Y6, 0, none⟩ = some (.int .i64 N) := cell_of_row _ _ 0 _ _ _ Kw0_16.out
      have cw0_1 : w11.cell? ⟨Y6, 1, none⟩ = some (.int .i64 As) := cell_of_row _ _ 1 _ _ _ Kw0_16.out
      have cw0_2 : w11.cell? ⟨Y6, 2, none⟩ = some (.int .i64 Su) := cell_of_row _ _ 2 _ _ _ Kw0_16.out
      have cw0_3 : w11.cell? ⟨Y6, 3, none⟩ = some (.slice Ag6 V.length cg6) := cell_of_row _ _ 3 _ _ _ Kw0_16.out
      have cg0_0 : w11.cell? ⟨Y11, 0, none⟩ = some (.int .i64 N) := cell_of_row _ _ 0 _ _ _ Kg0_16.out
      have cg0_1 : w11.cell? ⟨Y11, 1, none⟩ = some (.int .i64 As) := cell_of_row _ _ 1 _ _ _ Kg0_16.out
      have cg0_2 : w11.cell? ⟨Y11, 2, none⟩ = some (.int .i64 Su) := cell_of_row _ _ 2 _ _ _ Kg0_16.out
      have cg0_3 : w11.cell? ⟨Y11, 3, none⟩ = some (.slice Ag11 V.length cg11) := cell_of_row _ _ 3 _ _ _ Kg0_16.out
      go_wp2_with fail
      clear caG_0 caG_1 caG_2 caG_3 caS_0 caS_1 cw0_0 cw0_1 cw0_2 cw0_3 cg0_0 cg0_1 cg0_2 cg0_3
      refine (markGv_any N As Su _ V _ 1 _ Hg11_16.out (by omega) (by omega) (by omega)).mono ?_
      rintro e w12 ⟨rfl, hm0, hg0⟩
      have Hg6_17 := Lib.hid (Hg6_16.out.kept hg0 HAp_g6_g11.out)
      have KaG_17 := Lib.hid ((hg0.block _ (heap_lt KaG_16.out) (fun e => HNX_aG_g11.out _ e.symm rfl)).trans KaG_16.out)
      have KaS_17 := Lib.hid ((hg0.block _ (heap_lt KaS_16.out) (fun e => HNX_aS_g11.out _ e.symm rfl)).trans KaS_16.out)
      have Kw0_17 := Lib.hid ((hg0.block _ (heap_lt Kw0_16.out) (fun e => HNX_w0_g11.out _ e.symm rfl)).trans Kw0_16.out)
      have Kg0_17 := Lib.hid ((hg0.block _ (heap_lt Kg0_16.out) (fun e => HNX_g0_g11.out _ e.symm rfl)).trans Kg0_16.out)
      have HMb0 := Lib.hid (fun k hk => (Hg11_16.out.lt k hk).1)
      have HB_17 : Hid (Below w.heap.size w w12) := (HB_16.out.grown hg0 HB_16.out.size HMb0.out)
      have Hg11_17 := Lib.hid hm0
      clear Hg6_16 KaG_16 KaS_16 Kw0_16 Kg0_16 HB_16 Hg11_16 hm0 hg0 HMb0
      have caG_0 : w12.cell? ⟨w.heap.size, 0, none⟩ = some (.int .i64 n) := cell_of_row _ _ 0 _ _ _ KaG_17.out
      have caG_1 : w12.cell? ⟨w.heap.size, 1, none⟩ = some (.int .i64 a) := cell_of_row _ _ 1 _ _ _ KaG_17.out
      have caG_2 : w12.cell? ⟨w.heap.size, 2, none⟩ = some (.int .i64 s) := cell_of_row _ _ 2 _ _ _ KaG_17.out
      have caG_3 : w12.cell? ⟨w.heap.size, 3, none⟩ = some (.slice A zs.length ca) := cell_of_row _ _ 3 _ _ _ KaG_17.out
      have caS_0 : w12.cell? ⟨w1.heap.size, 0, none⟩ = some (.int .i64 k) := cell_of_row _ _ 0 _ _ _ KaS_17.out
      have caS_1 : w12.cell? ⟨w1.heap.size, 1, none⟩ = some (.bool p) := cell_of_row _ _ 1 _ _ _ KaS_17.out
      have cw0_0 : w12.cell? ⟨Y6, 0, none⟩ = some (.int .i64 N) := cell_of_row _ _ 0 _ _ _ Kw0_17.out
      have cw0_1 : w12.cell? ⟨Y6, 1, none⟩ = some (.int .i64 As) := cell_of_row _ _ 1 _ _ _ Kw0_17.out
      have cw0_2 : w12.cell? ⟨Y6, 2, none⟩ = some (.int .i64 Su) := cell_of_row _ _ 2 _ _ _ Kw0_17.out
      have cw0_3 : w12.cell? ⟨Y6, 3, none⟩ = some (.slice Ag6 V.length cg6) := cell_of_row _ _ 3 _ _ _ Kw0_17.out
      have cg0_0 : w12.cell? ⟨Y11, 0, none⟩ = some (.int .i64 N) := cell_of_row _ _ 0 _ _ _ Kg0_17.out
      have cg0_1 : w12.cell? ⟨Y11, 1, none⟩ = some (.int .i64 As) := cell_of_row _ _ 1 _ _ _ Kg0_17.out
      have cg0_2 : w12.cell? ⟨Y11, 2, none⟩ = some (.int .i64 Su) := cell_of_row _ _ 2 _ _ _ Kg0_17.out
      have cg0_3 : w12.cell? ⟨Y11, 3, none⟩ = some (.slice Ag11 V.length cg11) := cell_of_row _ _ 3 _ _ _ Kg0_17.out
      go_wp2_with fail
      clear caG_0 caG_1 caG_2 caG_3 caS_0 caS_1 cw0_0 cw0_1 cw0_2 cw0_3 cg0_0 cg0_1 cg0_2 cg0_3
      refine (heldGv_any N As Su Ag11 1 V.length cg11 _ (own_ints5 Hg11_17.out) (by omega) (by omega) (by omega)).mono ?_
      rintro e w13 ⟨rfl, hbq⟩
      have Hg6_18 := Lib.hid (Hg6_17.out.below hbq)
      have Hg11_18 := Lib.hid (Hg11_17.out.below hbq)
      have KaG_18 := Lib.hid ((hbq.block _ (heap_lt KaG_17.out)).trans KaG_17.out)
      have KaS_18 := Lib.hid ((hbq.block _ (heap_lt KaS_17.out)).trans KaS_17.out)
      have Kw0_18 := Lib.hid ((hbq.block _ (heap_lt Kw0_17.out)).trans Kw0_17.out)
      have Kg0_18 := Lib.hid ((hbq.block _ (heap_lt Kg0_17.out)).trans Kg0_17.out)
      have HB_18 := Lib.hid (below_more HB_17.out hbq)
      clear Hg6_17 Hg11_17 KaG_17 KaS_17 Kw0_17 Kg0_17 HB_17
      clear hbq
      have caG_0 : w13.cell? ⟨w.heap.size, 0, none⟩ = some (.int .i64 n) := cell_of_row _ _ 0 _ _ _ KaG_18.out
      have caG_1 : w13.cell? ⟨w.heap.size, 1, none⟩ = some (.int .i64 a) := cell_of_row _ _ 1 _ _ _ KaG_18.out
      have caG_2 : w13.cell? ⟨w.heap.size, 2, none⟩ = some (.int .i64 s) := cell_of_row _ _ 2 _ _ _ KaG_18.out
      have caG_3 : w13.cell? ⟨w.heap.size, 3, none⟩ = some (.slice A zs.length ca) := cell_of_row _ _ 3 _ _ _ KaG_18.out
      have caS_0 : w13.cell? ⟨w1.heap.size, 0, none⟩ = some (.int .i64 k) := cell_of_row _ _ 0 _ _ _ KaS_18.out
      have caS_1 : w13.cell? ⟨w1.heap.size, 1, none⟩ = some (.bool p) := cell_of_row _ _ 1 _ _ _ KaS_18.out
      have cw0_0 : w13.cell? ⟨Y6, 0, none⟩ = some (.int .i64 N) := cell_of_row _ _ 0 _ _ _ Kw0_18.out
      have cw0_1 : w13.cell? ⟨Y6, 1, none⟩ = some (.int .i64 As) := cell_of_row _ _ 1 _ _ _ Kw0_18.out
      have cw0_2 : w13.cell? ⟨Y6, 2, none⟩ = some (.int .i64 Su) := cell_of_row _ _ 2 _ _ _ Kw0_18.out
      have cw0_3 : w13.cell? ⟨Y6, 3, none⟩ = some (.slice Ag6 V.length cg6) := cell_of_row _ _ 3 _ _ _ Kw0_18.out
      have cg0_0 : w13.cell? ⟨Y11, 0, none⟩ = some (.int .i64 N) := cell_of_row _ _ 0 _ _ _ Kg0_18.out
      have cg0_1 : w13.cell? ⟨Y11, 1, none⟩ = some (.int .i64 As) := cell_of_row _ _ 1 _ _ _ Kg0_18.out
      have cg0_2 : w13.cell? ⟨Y11, 2, none⟩ = some (.int .i64 Su) := cell_of_row _ _ 2 _ _ _ Kg0_18.out
      have cg0_3 : w13.cell? ⟨Y11, 3, none⟩ = some (.slice Ag11 V.length cg11) := cell_of_row _ _ 3 _ _ _ Kg0_18.out
      go_wp2_with fail
      have hq0 : w13.drew.cell? ⟨w.heap.size, 0, none⟩ = some (.int .i64 n) ∧ w13.drew.cell? ⟨w.heap.size, 1, none⟩ = some (.int .i64 a) ∧ w13.drew.cell? ⟨w.heap.size, 2, none⟩ = some (.int .i64 s) ∧ w13.drew.cell? ⟨w.heap.size, 3, none⟩ = some (.slice A zs.length ca) ∧ w13.drew.cell? ⟨w1.heap.size, 0, none⟩ = some (.int .i64 k) ∧ w13.drew.cell? ⟨w1.heap.size, 1, none⟩ = some (.bool p) := six11 gDrew ⟨caG_0, caG_1, caG_2, caG_3, caS_0, caS_1⟩
      have hXY : ∀ {Z : Nat}, w13.heap.size ≤ Z → w.heap.size ≠ Z ∧ w1.heap.size ≠ Z := fun h => ⟨Nat.ne_of_lt (Nat.lt_of_lt_of_le (heap_lt KaG_18.out) h), Nat.ne_of_lt (Nat.lt_of_lt_of_le (heap_lt KaS_18.out) h)⟩
      have hn0 := hXY (Nat.le_refl _)
      apply wp_meet_gv (fun Y B1 c1 B2 c2 w' => w'.heap[Y]? = some (.cells #[.int .i64 N, .int .i64 As, .int .i64 Su, .slice B2 V.length c2] 27 (0, 0)) ∧ Own w' w13.heap.size (.slice B2 V.length c2) V ∧ Below w13.heap.size w13 w' ∧ w13.heap.size ≤ Y ∧ (∀ g, (Value.slice B2 V.length c2).ownBlock = some g → g ≠ Y))
      case hreg =>
        go_region_held3 (fun w' => w'.cell? ⟨w.heap.size, 0, none⟩ = some (.int .i64 n) ∧ w'.cell? ⟨w.heap.size, 1, none⟩ = some (.int .i64 a) ∧ w'.cell? ⟨w.heap.size, 2, none⟩ = some (.int .i64 s) ∧ w'.cell? ⟨w.heap.size, 3, none⟩ = some (.slice A zs.length ca) ∧ w'.cell? ⟨w1.heap.size, 0, none⟩ = some (.int .i64 k) ∧ w'.cell? ⟨w1.heap.size, 1, none⟩ = some (.bool p)) (first | with_reducible exact hq0 | with_reducible exact hq1 | with_reducible exact hq2 | with_reducible exact hq3 | with_reducible exact six11 (gAlloc _ _) hq0 | with_reducible exact six11 (gAlloc _ _) hq1 | with_reducible exact six11 (gAlloc _ _) hq2 | with_reducible exact six11 (gAlloc _ _) hq3 | with_reducible exact six_set11 hq3 hn0 | with_reducible exact six_set11 hq3 hn1 | with_reducible exact six_set11 hq3 hn2 | with_reducible exact six_set11 hq3 hn3 | (go_loud (fail "KEEP"))) (first
          | (go_at_call 23; have hpre := hB2; clear hpre; refine (HI.out B1 c1 _ (hK _ _ HW.out (below_more HB_18.out (by first | exact hB2 | exact below_more hB2 (gAlloc _ _)))) (by first | exact own_ints hO2 | exact own_ints (hO2.below (gAlloc _ _))) (own9_lies hO2) (by omega)).mono ?_; rintro e w3' ⟨vt2, rfl, ho3, hb3⟩; obtain ⟨B2, c2, rfl, _⟩ := gFormC ho3; have hB3 : Below w13.heap.size w13 w3' := (by first | exact below_more hB2 hb3 | exact below_more (below_more hB2 (gAlloc _ _)) hb3); have hq3 : w3'.cell? ⟨w.heap.size, 0, none⟩ = some (.int .i64 n) ∧ w3'.cell? ⟨w.heap.size, 1, none⟩ = some (.int .i64 a) ∧ w3'.cell? ⟨w.heap.size, 2, none⟩ = some (.int .i64 s) ∧ w3'.cell? ⟨w.heap.size, 3, none⟩ = some (.slice A zs.length ca) ∧ w3'.cell? ⟨w1.heap.size, 0, none⟩ = some (.int .i64 k) ∧ w3'.cell? ⟨w1.heap.size, 1, none⟩ = some (.bool p) := six11 hB3 ⟨caG_0, caG_1, caG_2, caG_3, caS_0, caS_1⟩; have hn3 := hXY hB3.size; (try (have hr0 : (w13.alloc (.cells #[.int .i64 0, .int .i64 0, .int .i64 0, .slice none 0 0] 27)).drew.heap[w13.heap.size]? = some (.cells #[.int .i64 0, .int .i64 0, .int .i64 0, .slice none 0 0] 27 (0, 0)) := alloc_atD11 _ _; have hr1 : w1'.heap[w13.heap.size]? = some (.cells #[.int .i64 0, .int .i64 0, .int .i64 0, .slice none 0 0] 27 (0, 0)) := (hb1.block _ (heap_lt hr0)).trans hr0; have hr2 : w2'.heap[w13.heap.size]? = some (.cells #[.int .i64 0, .int .i64 0, .int .i64 0, .slice none 0 0] 27 (0, 0)) := (hb2.block _ (heap_lt hr1)).trans hr1; have hlta : w13.heap.size < _ := heap_lt hr2; have hr3 : w3'.heap[w13.heap.size]? = some (.cells #[.int .i64 0, .int .i64 0, .int .i64 0, .slice none 0 0] 27 (0, 0)) := (hb3.block _ (heap_lt hr2)).trans hr2; have hza := hr3; have pa0 := cell_of_row w3' _ 0 _ _ _ hza; have fa0 := frozen_of_row w3' _ 0 _ _ hza; have pa1 := cell_of_row w3' _ 1 _ _ _ hza; have fa1 := frozen_of_row w3' _ 1 _ _ hza; have pa2 := cell_of_row w3' _ 2 _ _ _ hza; have fa2 := frozen_of_row w3' _ 2 _ _ hza; have pa3 := cell_of_row w3' _ 3 _ _ _ hza; have fa3 := frozen_of_row w3' _ 3 _ _ hza)); (try (have hr0 : (w1'.alloc (.cells #[.int .i64 0, .int .i64 0, .int .i64 0, .slice none 0 0] 27)).heap[w1'.heap.size]? = some (.cells #[.int .i64 0, .int .i64 0, .int .i64 0, .slice none 0 0] 27 (0, 0)) := heap_alloc_new _ _; have hr2 : w2'.heap[w1'.heap.size]? = some (.cells #[.int .i64 0, .int .i64 0, .int .i64 0, .slice none 0 0] 27 (0, 0)) := (hb2.block _ (heap_lt hr0)).trans hr0; have hltb : w1'.heap.size < _ := heap_lt hr2; have hr3 : w3'.heap[w1'.heap.size]? = some (.cells #[.int .i64 0, .int .i64 0, .int .i64 0, .slice none 0 0] 27 (0, 0)) := (hb3.block _ (heap_lt hr2)).trans hr2; have hzb := hr3; have pb0 := cell_of_row w3' _ 0 _ _ _ hzb; have fb0 := frozen_of_row w3' _ 0 _ _ hzb; have pb1 := cell_of_row w3' _ 1 _ _ _ hzb; have fb1 := frozen_of_row w3' _ 1 _ _ hzb; have pb2 := cell_of_row w3' _ 2 _ _ _ hzb; have fb2 := frozen_of_row w3' _ 2 _ _ hzb; have pb3 := cell_of_row w3' _ 3 _ _ _ hzb; have fb3 := frozen_of_row w3' _ 3 _ _ hzb)); (try (have hr0 : (w2'.alloc (.cells #[.int .i64 0, .int .i64 0, .int .i64 0, .slice none 0 0] 27)).heap[w2'.heap.size]? = some (.cells #[.int .i64 0, .int .i64 0, .int .i64 0, .slice none 0 0] 27 (0, 0)) := heap_alloc_new _ _; have hltc : w2'.heap.size < _ := heap_lt hr0; have hr3 : w3'.heap[w2'.heap.size]? = some (.cells #[.int .i64 0, .int .i64 0, .int .i64 0, .slice none 0 0] 27 (0, 0)) := (hb3.block _ (heap_lt hr0)).trans hr0; have hzc := hr3; have pc0 := cell_of_row w3' _ 0 _ _ _ hzc; have fc0 := frozen_of_row w3' _ 0 _ _ hzc; have pc1 := cell_of_row w3' _ 1 _ _ _ hzc; have fc1 := frozen_of_row w3' _ 1 _ _ hzc; have pc2 := cell_of_row w3' _ 2 _ _ _ hzc; have fc2 := frozen_of_row w3' _ 2 _ _ hzc; have pc3 := cell_of_row w3' _ 3 _ _ _ hzc; have fc3 := frozen_of_row w3' _ 3 _ _ hzc)))
          | (go_at_call 34; have hpre := hB1; clear hpre; refine (toId_any k p _).mono ?_; rintro e w2' ⟨rfl, hb2⟩; have hB2 : Below w13.heap.size w13 w2' := (by first | exact below_more hB1 hb2 | exact below_more (below_more hB1 (gAlloc _ _)) hb2); have hO2 : Own w2' _ (.slice B1 zs.length c1) zs := (by first | exact hO1.below hb2 | exact (hO1.below (gAlloc _ _)).below hb2); have hq2 : w2'.cell? ⟨w.heap.size, 0, none⟩ = some (.int .i64 n) ∧ w2'.cell? ⟨w.heap.size, 1, none⟩ = some (.int .i64 a) ∧ w2'.cell? ⟨w.heap.size, 2, none⟩ = some (.int .i64 s) ∧ w2'.cell? ⟨w.heap.size, 3, none⟩ = some (.slice A zs.length ca) ∧ w2'.cell? ⟨w1.heap.size, 0, none⟩ = some (.int .i64 k) ∧ w2'.cell? ⟨w1.heap.size, 1, none⟩ = some (.bool p) := six11 hB2 ⟨caG_0, caG_1, caG_2, caG_3, caS_0, caS_1⟩; have hn2 := hXY hB2.size)
          | (go_at_call 33; refine (toGv_any n a s A zs ca _ ((HRA.out.below HB_18.out).below (by first | exact gDrew | exact below_more (gAlloc _ _) gDrew)) (by omega)).mono ?_; rintro e w1' ⟨vt, rfl, ho1, hb1⟩; obtain ⟨B1, c1, rfl, _⟩ := gFormC ho1; have hB1 : Below w13.heap.size w13 w1' := (by first | exact below_more gDrew hb1 | exact below_more (below_more (gAlloc _ _) gDrew) hb1); have hO1 : Own w1' _ (.slice B1 zs.length c1) zs := ho1; have hq1 : w1'.cell? ⟨w.heap.size, 0, none⟩ = some (.int .i64 n) ∧ w1'.cell? ⟨w.heap.size, 1, none⟩ = some (.int .i64 a) ∧ w1'.cell? ⟨w.heap.size, 2, none⟩ = some (.int .i64 s) ∧ w1'.cell? ⟨w.heap.size, 3, none⟩ = some (.slice A zs.length ca) ∧ w1'.cell? ⟨w1.heap.size, 0, none⟩ = some (.int .i64 k) ∧ w1'.cell? ⟨w1.heap.size, 1, none⟩ = some (.bool p) := six11 hB1 ⟨caG_0, caG_1, caG_2, caG_3, caS_0, caS_1⟩; have hn1 := hXY hB1.size))
        all_goals
          first
          | (have HM := gv_stored rfl hza (.int .i64 N) (.int .i64 As) (.int .i64 Su) (.slice B2 V.length c2); have HO' := (ho3.cur (B := w13.heap.size) hlta (gGv w3' (w13.heap.size) (.int .i64 N) (.int .i64 As) (.int .i64 Su) (.slice B2 V.length c2))).lower (base' := w13.heap.size) (by first | exact hB2.size | (rw [World.heap_size_alloc9]; exact Nat.le_succ_of_le hB2.size)); have HB' := below_gv hB3 (show w13.heap.size ≤ w13.heap.size from Nat.le_refl _) (.int .i64 N) (.int .i64 As) (.int .i64 Su) (.slice B2 V.length c2); have hne : ∀ g, (Value.slice B2 V.length c2).ownBlock = some g → g ≠ w13.heap.size := (fun g hg => Nat.ne_of_gt (Nat.lt_of_lt_of_le hlta (ho3.lt g hg).1)); have hle : w13.heap.size ≤ w13.heap.size := Nat.le_refl _; obtain ⟨Y, hY⟩ : ∃ Y, w13.heap.size = Y := ⟨_, rfl⟩; rw [hY] at HM hle hne ⊢; (try rw [hY] at HO'); (try rw [hY] at HB'); exact ⟨rfl, Y, B1, c1, B2, c2, rfl, HM, HO', HB', hle, hne⟩)
          | (have HM := gv_stored rfl hzb (.int .i64 N) (.int .i64 As) (.int .i64 Su) (.slice B2 V.length c2); have HO' := (ho3.cur (B := w1'.heap.size) hltb (gGv w3' (w1'.heap.size) (.int .i64 N) (.int .i64 As) (.int .i64 Su) (.slice B2 V.length c2))).lower (base' := w13.heap.size) (by first | exact hB2.size | (rw [World.heap_size_alloc9]; exact Nat.le_succ_of_le hB2.size)); have HB' := below_gv hB3 (show w13.heap.size ≤ w1'.heap.size from hB1.size) (.int .i64 N) (.int .i64 As) (.int .i64 Su) (.slice B2 V.length c2); have hne : ∀ g, (Value.slice B2 V.length c2).ownBlock = some g → g ≠ w1'.heap.size := (fun g hg => Nat.ne_of_gt (Nat.lt_of_lt_of_le hltb (ho3.lt g hg).1)); have hle : w13.heap.size ≤ w1'.heap.size := hB1.size; obtain ⟨Y, hY⟩ : ∃ Y, w1'.heap.size = Y := ⟨_, rfl⟩; rw [hY] at HM hle hne ⊢; (try rw [hY] at HO'); (try rw [hY] at HB'); exact ⟨rfl, Y, B1, c1, B2, c2, rfl, HM, HO', HB', hle, hne⟩)
          | (have HM := gv_stored rfl hzc (.int .i64 N) (.int .i64 As) (.int .i64 Su) (.slice B2 V.length c2); have HO' := (ho3.cur (B := w2'.heap.size) hltc (gGv w3' (w2'.heap.size) (.int .i64 N) (.int .i64 As) (.int .i64 Su) (.slice B2 V.length c2))).lower (base' := w13.heap.size) (by first | exact hB2.size | (rw [World.heap_size_alloc9]; exact Nat.le_succ_of_le hB2.size)); have HB' := below_gv hB3 (show w13.heap.size ≤ w2'.heap.size from hB2.size) (.int .i64 N) (.int .i64 As) (.int .i64 Su) (.slice B2 V.length c2); have hne : ∀ g, (Value.slice B2 V.length c2).ownBlock = some g → g ≠ w2'.heap.size := (fun g hg => Nat.ne_of_gt (Nat.lt_of_lt_of_le hltc (ho3.lt g hg).1)); have hle : w13.heap.size ≤ w2'.heap.size := hB2.size; obtain ⟨Y, hY⟩ : ∃ Y, w2'.heap.size = Y := ⟨_, rfl⟩; rw [hY] at HM hle hne ⊢; (try rw [hY] at HO'); (try rw [hY] at HB'); exact ⟨rfl, Y, B1, c1, B2, c2, rfl, HM, HO', HB', hle, hne⟩)
          | (have HM : (w3'.alloc (.cells #[.int .i64 N, .int .i64 As, .int .i64 Su, .slice B2 V.length c2] 27)).heap[w3'.heap.size]? = some (.cells #[.int .i64 N, .int .i64 As, .int .i64 Su, .slice B2 V.length c2] 27 (0, 0)) := heap_alloc_new _ _; have HO' := (ho3.below (gAlloc w3' (.cells #[.int .i64 N, .int .i64 As, .int .i64 Su, .slice B2 V.length c2] 27))).lower (base' := w13.heap.size) (by first | exact hB2.size | (rw [World.heap_size_alloc9]; exact Nat.le_succ_of_le hB2.size)); have HB' := below_more hB3 (gAlloc w3' (.cells #[.int .i64 N, .int .i64 As, .int .i64 Su, .slice B2 V.length c2] 27)); have hne : ∀ g, (Value.slice B2 V.length c2).ownBlock = some g → g ≠ w3'.heap.size := (fun g hg => Nat.ne_of_lt (ho3.lt g hg).2); have hle : w13.heap.size ≤ w3'.heap.size := hB3.size; obtain ⟨Y, hY⟩ : ∃ Y, w3'.heap.size = Y := ⟨_, rfl⟩; rw [hY] at HM hle hne ⊢; (try rw [hY] at HO'); (try rw [hY] at HB'); exact ⟨rfl, Y, B1, c1, B2, c2, rfl, HM, HO', HB', hle, hne⟩)
      case himp =>
        intro Y19 B1 c1 Ag19 cg19 w14 hR
        obtain ⟨r1, r2, r3, r4, r5⟩ := hR
        clear hq0 hXY hn0 caG_0 caG_1 caG_2 caG_3 caS_0 caS_1 cw0_0 cw0_1 cw0_2 cw0_3 cg0_0 cg0_1 cg0_2 cg0_3
        have HAp_g6_g19 := Lib.hid (apart5 (fun k hk => (Hg6_18.out.lt k hk).2) (fun k hk => (r2.lt k hk).1))
        have HNX_h0_g6 := Lib.hid (fun g hg => Nat.ne_of_lt (Nat.lt_of_lt_of_le (Hg6_18.out.lt g hg).2 r4))
        have HAp_g11_g19 := Lib.hid (apart5 (fun k hk => (Hg11_18.out.lt k hk).2) (fun k hk => (r2.lt k hk).1))
        have HNX_h0_g11 := Lib.hid (fun g hg => Nat.ne_of_lt (Nat.lt_of_lt_of_le (Hg11_18.out.lt g hg).2 r4))
        have HNX_aG_g19 := Lib.hid (fun g hg => Nat.ne_of_gt (Nat.lt_of_lt_of_le (heap_lt KaG_18.out) (r2.lt g hg).1))
        have HNX_aS_g19 := Lib.hid (fun g hg => Nat.ne_of_gt (Nat.lt_of_lt_of_le (heap_lt KaS_18.out) (r2.lt g hg).1))
        have HNX_w0_g19 := Lib.hid (fun g hg => Nat.ne_of_gt (Nat.lt_of_lt_of_le (heap_lt Kw0_18.out) (r2.lt g hg).1))
        have HNX_g0_g19 := Lib.hid (fun g hg => Nat.ne_of_gt (Nat.lt_of_lt_of_le (heap_lt Kg0_18.out) (r2.lt g hg).1))
        have HNX_h0_g19 := Lib.hid r5
        have Hg19_0 := Lib.hid (r2.lower HB_18.out.size)
        have Kh0_0 := Lib.hid r1
        have Hg6_20 := Lib.hid (Hg6_18.out.below r3)
        have Hg11_20 := Lib.hid (Hg11_18.out.below r3)
        have KaG_20 := Lib.hid ((r3.block _ (heap_lt KaG_18.out)).trans KaG_18.out)
        have KaS_20 := Lib.hid ((r3.block _ (heap_lt KaS_18.out)).trans KaS_18.out)
        have Kw0_20 := Lib.hid ((r3.block _ (heap_lt Kw0_18.out)).trans Kw0_18.out)
        have Kg0_20 := Lib.hid ((r3.block _ (heap_lt Kg0_18.out)).trans Kg0_18.out)
        have HB_20 := Lib.hid (below_more HB_18.out r3)
        clear Hg6_18 Hg11_18 KaG_18 KaS_18 Kw0_18 Kg0_18 HB_18
        clear r1 r2 r3 r4 r5
        have caG_0 : w14.cell? ⟨w.heap.size, 0, none⟩ = some (.int .i64 n) := cell_of_row _ _ 0 _ _ _ KaG_20.out
        have caG_1 : w14.cell? ⟨w.heap.size, 1, none⟩ = some (.int .i64 a) := cell_of_row _ _ 1 _ _ _ KaG_20.out
        have caG_2 : w14.cell? ⟨w.heap.size, 2, none⟩ = some (.int .i64 s) := cell_of_row _ _ 2 _ _ _ KaG_20.out
        have caG_3 : w14.cell? ⟨w.heap.size, 3, none⟩ = some (.slice A zs.length ca) := cell_of_row _ _ 3 _ _ _ KaG_20.out
        have caS_0 : w14.cell? ⟨w1.heap.size, 0, none⟩ = some (.int .i64 k) := cell_of_row _ _ 0 _ _ _ KaS_20.out
        have caS_1 : w14.cell? ⟨w1.heap.size, 1, none⟩ = some (.bool p) := cell_of_row _ _ 1 _ _ _ KaS_20.out
        have cw0_0 : w14.cell? ⟨Y6, 0, none⟩ = some (.int .i64 N) := cell_of_row _ _ 0 _ _ _ Kw0_20.out
        have cw0_1 : w14.cell? ⟨Y6, 1, none⟩ = some (.int .i64 As) := cell_of_row _ _ 1 _ _ _ Kw0_20.out
        have cw0_2 : w14.cell? ⟨Y6, 2, none⟩ = some (.int .i64 Su) := cell_of_row _ _ 2 _ _ _ Kw0_20.out
        have cw0_3 : w14.cell? ⟨Y6, 3, none⟩ = some (.slice Ag6 V.length cg6) := cell_of_row _ _ 3 _ _ _ Kw0_20.out
        have cg0_0 : w14.cell? ⟨Y11, 0, none⟩ = some (.int .i64 N) := cell_of_row _ _ 0 _ _ _ Kg0_20.out
        have cg0_1 : w14.cell? ⟨Y11, 1, none⟩ = some (.int .i64 As) := cell_of_row _ _ 1 _ _ _ Kg0_20.out
        have cg0_2 : w14.cell? ⟨Y11, 2, none⟩ = some (.int .i64 Su) := cell_of_row _ _ 2 _ _ _ Kg0_20.out
        have cg0_3 : w14.cell? ⟨Y11, 3, none⟩ = some (.slice Ag11 V.length cg11) := cell_of_row _ _ 3 _ _ _ Kg0_20.out
        have ch0_0 : w14.cell? ⟨Y19, 0, none⟩ = some (.int .i64 N) := cell_of_row _ _ 0 _ _ _ Kh0_0.out
        have ch0_1 : w14.cell? ⟨Y19, 1, none⟩ = some (.int .i64 As) := cell_of_row _ _ 1 _ _ _ Kh0_0.out
        have ch0_2 : w14.cell? ⟨Y19, 2, none⟩ = some (.int .i64 Su) := cell_of_row _ _ 2 _ _ _ Kh0_0.out
        have ch0_3 : w14.cell? ⟨Y19, 3, none⟩ = some (.slice Ag19 V.length cg19) := cell_of_row _ _ 3 _ _ _ Kh0_0.out
        go_wp2_with fail
        clear caG_0 caG_1 caG_2 caG_3 caS_0 caS_1 cw0_0 cw0_1 cw0_2 cw0_3 cg0_0 cg0_1 cg0_2 cg0_3 ch0_0 ch0_1 ch0_2 ch0_3
        refine (eqGv_self N As Su Ag19 Ag6 V cg19 cg6 _ (own_ints5 Hg19_0.out) (own_ints5 Hg6_20.out) (by omega)).mono ?_
        rintro e w15 ⟨rfl, hbq⟩
        have Hg6_21 := Lib.hid (Hg6_20.out.below hbq)
        have Hg11_21 := Lib.hid (Hg11_20.out.below hbq)
        have Hg19_21 := Lib.hid (Hg19_0.out.below hbq)
        have KaG_21 := Lib.hid ((hbq.block _ (heap_lt KaG_20.out)).trans KaG_20.out)
        have KaS_21 := Lib.hid ((hbq.block _ (heap_lt KaS_20.out)).trans KaS_20.out)
        have Kw0_21 := Lib.hid ((hbq.block _ (heap_lt Kw0_20.out)).trans Kw0_20.out)
        have Kg0_21 := Lib.hid ((hbq.block _ (heap_lt Kg0_20.out)).trans Kg0_20.out)
        have Kh0_21 := Lib.hid ((hbq.block _ (heap_lt Kh0_0.out)).trans Kh0_0.out)
        have HB_21 := Lib.hid (below_more HB_20.out hbq)
        clear Hg6_20 Hg11_20 Hg19_0 KaG_20 KaS_20 Kw0_20 Kg0_20 Kh0_0 HB_20
        clear hbq
        clear Hg6_21
        clear Kw0_21
        clear Hg19_21
        clear Kh0_21
        have caG_0 : w15.cell? ⟨w.heap.size, 0, none⟩ = some (.int .i64 n) := cell_of_row _ _ 0 _ _ _ KaG_21.out
        have caG_1 : w15.cell? ⟨w.heap.size, 1, none⟩ = some (.int .i64 a) := cell_of_row _ _ 1 _ _ _ KaG_21.out
        have caG_2 : w15.cell? ⟨w.heap.size, 2, none⟩ = some (.int .i64 s) := cell_of_row _ _ 2 _ _ _ KaG_21.out
        have caG_3 : w15.cell? ⟨w.heap.size, 3, none⟩ = some (.slice A zs.length ca) := cell_of_row _ _ 3 _ _ _ KaG_21.out
        have caS_0 : w15.cell? ⟨w1.heap.size, 0, none⟩ = some (.int .i64 k) := cell_of_row _ _ 0 _ _ _ KaS_21.out
        have caS_1 : w15.cell? ⟨w1.heap.size, 1, none⟩ = some (.bool p) := cell_of_row _ _ 1 _ _ _ KaS_21.out
        have cg0_0 : w15.cell? ⟨Y11, 0, none⟩ = some (.int .i64 N) := cell_of_row _ _ 0 _ _ _ Kg0_21.out
        have cg0_1 : w15.cell? ⟨Y11, 1, none⟩ = some (.int .i64 As) := cell_of_row _ _ 1 _ _ _ Kg0_21.out
        have cg0_2 : w15.cell? ⟨Y11, 2, none⟩ = some (.int .i64 Su) := cell_of_row _ _ 2 _ _ _ Kg0_21.out
        have cg0_3 : w15.cell? ⟨Y11, 3, none⟩ = some (.slice Ag11 V.length cg11) := cell_of_row _ _ 3 _ _ _ Kg0_21.out
        go_wp2_with fail
        clear caG_0 caG_1 caG_2 caG_3 caS_0 caS_1 cg0_0 cg0_1 cg0_2 cg0_3
        refine (heldGv_any N As Su Ag11 1 V.length cg11 _ (own_ints5 Hg11_21.out) (by omega) (by omega) (by omega)).mono ?_
        rintro e w16 ⟨rfl, hbq⟩
        have Hg11_22 := Lib.hid (Hg11_21.out.below hbq)
        have KaG_22 := Lib.hid ((hbq.block _ (heap_lt KaG_21.out)).trans KaG_21.out)
        have KaS_22 := Lib.hid ((hbq.block _ (heap_lt KaS_21.out)).trans KaS_21.out)
        have Kg0_22 := Lib.hid ((hbq.block _ (heap_lt Kg0_21.out)).trans Kg0_21.out)
        have HB_22 := Lib.hid (below_more HB_21.out hbq)
        clear Hg11_21 KaG_21 KaS_21 Kg0_21 HB_21
        clear hbq
        go_wp2_with fail
        go_ret
        exact ⟨rfl, HB_22.out⟩
end Go.Proofs.Ytbegikjoialahaa
