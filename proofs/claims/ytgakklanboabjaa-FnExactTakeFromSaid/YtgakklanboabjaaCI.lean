/-
  FnExactTakeFrom over the program's contracts.
-/
import Derived.Test.YtgakklanboabjaaCF
namespace Go.Proofs.Ytgakklanboabjaa
open Go.RowKit

theorem six13 {w w' : World} {X Y : Nat} {q0 q1 q2 q3 q4 q5 : Value} (hb : Below w.heap.size w w') (h : w.cell? ⟨X, 0, none⟩ = some q0 ∧ w.cell? ⟨X, 1, none⟩ = some q1 ∧ w.cell? ⟨X, 2, none⟩ = some q2 ∧ w.cell? ⟨X, 3, none⟩ = some q3 ∧ w.cell? ⟨Y, 0, none⟩ = some q4 ∧ w.cell? ⟨Y, 1, none⟩ = some q5) :
    w'.cell? ⟨X, 0, none⟩ = some q0 ∧ w'.cell? ⟨X, 1, none⟩ = some q1 ∧ w'.cell? ⟨X, 2, none⟩ = some q2 ∧ w'.cell? ⟨X, 3, none⟩ = some q3 ∧ w'.cell? ⟨Y, 0, none⟩ = some q4 ∧ w'.cell? ⟨Y, 1, none⟩ = some q5 := by
  have f : ∀ {a : Addr} {u : Value}, w.cell? a = some u → w'.cell? a = some u := fun {a u} h => (hb.cell (World.block_lt_of_cell? _ _ h)).trans h
  exact ⟨f h.1, f h.2.1, f h.2.2.1, f h.2.2.2.1, f h.2.2.2.2.1, f h.2.2.2.2.2⟩
theorem six_set13 {w : World} {X Y Z : Nat} {q0 q1 q2 q3 q4 q5 a0 a1 a2 a3 : Value} (h : w.cell? ⟨X, 0, none⟩ = some q0 ∧ w.cell? ⟨X, 1, none⟩ = some q1 ∧ w.cell? ⟨X, 2, none⟩ = some q2 ∧ w.cell? ⟨X, 3, none⟩ = some q3 ∧ w.cell? ⟨Y, 0, none⟩ = some q4 ∧ w.cell? ⟨Y, 1, none⟩ = some q5) (hn : X ≠ Z ∧ Y ≠ Z) :
    let w' := (((w.setCell ⟨Z, 0, none⟩ a0).setCell ⟨Z, 1, none⟩ a1).setCell ⟨Z, 2, none⟩ a2).setCell ⟨Z, 3, none⟩ a3
    w'.cell? ⟨X, 0, none⟩ = some q0 ∧ w'.cell? ⟨X, 1, none⟩ = some q1 ∧ w'.cell? ⟨X, 2, none⟩ = some q2 ∧ w'.cell? ⟨X, 3, none⟩ = some q3 ∧ w'.cell? ⟨Y, 0, none⟩ = some q4 ∧ w'.cell? ⟨Y, 1, none⟩ = some q5 := by
  intro w'
  have f : ∀ {a : Addr} {u : Value}, a.block ≠ Z → w.cell? a = some u → w'.cell? a = some u := fun {a u} hne h =>
    (cell_set_other _ ⟨Z, 3, none⟩ a a3 hne).trans ((cell_set_other _ ⟨Z, 2, none⟩ a a2 hne).trans ((cell_set_other _ ⟨Z, 1, none⟩ a a1 hne).trans ((cell_set_other _ ⟨Z, 0, none⟩ a a0 hne).trans h)))
  exact ⟨f hn.1 h.1, f hn.1 h.2.1, f hn.1 h.2.2.1, f hn.1 h.2.2.2.1, f hn.2 h.2.2.2.2.1, f hn.2 h.2.2.2.2.2⟩
theorem wp_meet_z13 {P : Program} {c : Code} {Q : Exit → Act → World → Prop} {a : Act} {w : World} (R : Nat → World → Prop) (A : Nat → Act)
    (hreg : c.wp P (fun e a' w' => e = .normal ∧ ∃ Y, a' = A Y ∧ R Y w') a w) (himp : ∀ Y w', R Y w' → Q .normal (A Y) w') : c.wp P Q a w :=
  Code.wp_mono (fun e a' w' ⟨h1, Y, h2, h3⟩ => by rw [h1, h2]; exact himp _ _ h3) hreg
theorem alloc_atD13 (w : World) (a b c d : Value) (t : TypeId) : (w.alloc (.cells #[a, b, c, d] t)).drew.heap[w.heap.size]? = some (.cells #[a, b, c, d] t (0, 0)) := heap_alloc_new w _

set_option maxRecDepth 100000 in
set_option maxHeartbeats 8000000 in
theorem dTakeFrom (r q f c a s : Int) (w : World) : Calls Try.prog 8 #[bkW r q f c, wnW a s] w fun e w' => e = .returned (.bool true) ∧ Below w.heap.size w w' := by
  have HI := Lib.hid (fun w => iTakeFrom r q f c a s w)
  have HS := Lib.hid (fun w => sTakeFrom r q f c a s w)
  generalize (tkL r q f c a s).1 = N0 at *
  generalize (tkL r q f c a s).2.1 = N1 at *
  generalize (tkL r q f c a s).2.2.1 = N2 at *
  generalize (tkL r q f c a s).2.2.2 = N3 at *
  generalize tkOk r q f c a s = ok at *
  obtain ⟨w1, hw1⟩ : ∃ wn, (w.alloc (.cells #[.int .i64 r, .int .i64 q, .int .i64 f, .int .i64 c] 53)).alloc (.cells #[.int .i64 a, .int .i64 s] 57) = wn := ⟨_, rfl⟩
  have hbx : Below w.heap.size w w1 := by rw [← hw1]; exact (gAlloc _ _).alloc (by simp) _
  have KX : w1.heap[w.heap.size]? = some (.cells #[.int .i64 r, .int .i64 q, .int .i64 f, .int .i64 c] 53 (0, 0)) := by rw [← hw1, heap_alloc_old _ _ _ (by simp)]; exact heap_alloc_new _ _
  have KY : w1.heap[w.heap.size + 1]? = some (.cells #[.int .i64 a, .int .i64 s] 57 (0, 0)) := by rw [← hw1, show w.heap.size + 1 = (w.alloc (.cells #[.int .i64 r, .int .i64 q, .int .i64 f, .int .i64 c] 53)).heap.size by simp]; exact heap_alloc_new _ _
  have HB_1 := Lib.hid hbx
  have HX_1 := Lib.hid KX
  have HY_1 := Lib.hid KY
  clear hbx KX KY
  go_enter Try.func8, Try.ntmps8
  have c0 : w1.cell? ⟨w.heap.size, 0, none⟩ = some (.int .i64 r) := cell_of_row _ _ 0 _ _ _ HX_1.out
  have c1 : w1.cell? ⟨w.heap.size, 1, none⟩ = some (.int .i64 q) := cell_of_row _ _ 1 _ _ _ HX_1.out
  have c2 : w1.cell? ⟨w.heap.size, 2, none⟩ = some (.int .i64 f) := cell_of_row _ _ 2 _ _ _ HX_1.out
  have c3 : w1.cell? ⟨w.heap.size, 3, none⟩ = some (.int .i64 c) := cell_of_row _ _ 3 _ _ _ HX_1.out
  have c4 : w1.cell? ⟨(w.heap.size + 1), 0, none⟩ = some (.int .i64 a) := cell_of_row _ _ 0 _ _ _ HY_1.out
  have c5 : w1.cell? ⟨(w.heap.size + 1), 1, none⟩ = some (.int .i64 s) := cell_of_row _ _ 1 _ _ _ HY_1.out
  go_wp2_with fail
  have hq0 : w1.drew.cell? ⟨w.heap.size, 0, none⟩ = some (.int .i64 r) ∧ w1.drew.cell? ⟨w.heap.size, 1, none⟩ = some (.int .i64 q) ∧ w1.drew.cell? ⟨w.heap.size, 2, none⟩ = some (.int .i64 f) ∧ w1.drew.cell? ⟨w.heap.size, 3, none⟩ = some (.int .i64 c) ∧ w1.drew.cell? ⟨(w.heap.size + 1), 0, none⟩ = some (.int .i64 a) ∧ w1.drew.cell? ⟨(w.heap.size + 1), 1, none⟩ = some (.int .i64 s) := six13 gDrew ⟨c0, c1, c2, c3, c4, c5⟩
  have hXY : ∀ {Z : Nat}, w1.heap.size ≤ Z → w.heap.size ≠ Z ∧ (w.heap.size + 1) ≠ Z := fun h => ⟨Nat.ne_of_lt (Nat.lt_of_lt_of_le (heap_lt HX_1.out) h), Nat.ne_of_lt (Nat.lt_of_lt_of_le (heap_lt HY_1.out) h)⟩
  have hn0 := hXY (Nat.le_refl _)
  apply wp_meet_z13 (fun Y w' => w'.heap[Y]? = some (.cells #[.int .i64 N0, .int .i64 N1, .int .i64 N2, .int .i64 N3] 24 (0, 0)) ∧ Below w1.heap.size w1 w' ∧ w1.heap.size ≤ Y)
  case hreg =>
    go_region_held3 (fun w' => w'.cell? ⟨w.heap.size, 0, none⟩ = some (.int .i64 r) ∧ w'.cell? ⟨w.heap.size, 1, none⟩ = some (.int .i64 q) ∧ w'.cell? ⟨w.heap.size, 2, none⟩ = some (.int .i64 f) ∧ w'.cell? ⟨w.heap.size, 3, none⟩ = some (.int .i64 c) ∧ w'.cell? ⟨(w.heap.size + 1), 0, none⟩ = some (.int .i64 a) ∧ w'.cell? ⟨(w.heap.size + 1), 1, none⟩ = some (.int .i64 s)) (first | with_reducible exact hq0 | with_reducible exact hq1 | with_reducible exact hq2 | with_reducible exact hq3 | with_reducible exact six13 (gAlloc _ _) hq0 | with_reducible exact six13 (gAlloc _ _) hq1 | with_reducible exact six13 (gAlloc _ _) hq2 | with_reducible exact six13 (gAlloc _ _) hq3 | with_reducible exact six_set13 hq3 hn0 | with_reducible exact six_set13 hq3 hn1 | with_reducible exact six_set13 hq3 hn2 | with_reducible exact six_set13 hq3 hn3 | (go_loud (fail "KEEP"))) (first
      | (go_at_call 32; have hpre := hB2; clear hpre; refine (HS.out _).mono ?_; rintro e w3' ⟨rfl, hb3⟩; have hB3 : Below w1.heap.size w1 w3' := (by first | exact below_more hB2 hb3 | exact below_more (below_more hB2 (gAlloc _ _)) hb3); have hq3 : w3'.cell? ⟨w.heap.size, 0, none⟩ = some (.int .i64 r) ∧ w3'.cell? ⟨w.heap.size, 1, none⟩ = some (.int .i64 q) ∧ w3'.cell? ⟨w.heap.size, 2, none⟩ = some (.int .i64 f) ∧ w3'.cell? ⟨w.heap.size, 3, none⟩ = some (.int .i64 c) ∧ w3'.cell? ⟨(w.heap.size + 1), 0, none⟩ = some (.int .i64 a) ∧ w3'.cell? ⟨(w.heap.size + 1), 1, none⟩ = some (.int .i64 s) := six13 hB3 ⟨c0, c1, c2, c3, c4, c5⟩; have hn3 := hXY hB3.size; (try (have hr0 : (w1.alloc (.cells #[.int .i64 0, .int .i64 0, .int .i64 0, .int .i64 0] 24)).drew.heap[w1.heap.size]? = some (.cells #[.int .i64 0, .int .i64 0, .int .i64 0, .int .i64 0] 24 (0, 0)) := alloc_atD13 _ _ _ _ _ _; have hr1 : w1'.heap[w1.heap.size]? = some (.cells #[.int .i64 0, .int .i64 0, .int .i64 0, .int .i64 0] 24 (0, 0)) := (hb1.block _ (heap_lt hr0)).trans hr0; have hr2 : w2'.heap[w1.heap.size]? = some (.cells #[.int .i64 0, .int .i64 0, .int .i64 0, .int .i64 0] 24 (0, 0)) := (hb2.block _ (heap_lt hr1)).trans hr1; have hr3 : w3'.heap[w1.heap.size]? = some (.cells #[.int .i64 0, .int .i64 0, .int .i64 0, .int .i64 0] 24 (0, 0)) := (hb3.block _ (heap_lt hr2)).trans hr2; have hza := hr3; have pa0 := cell_of_row w3' _ 0 _ _ _ hza; have fa0 := frozen_of_row w3' _ 0 _ _ hza; have pa1 := cell_of_row w3' _ 1 _ _ _ hza; have fa1 := frozen_of_row w3' _ 1 _ _ hza; have pa2 := cell_of_row w3' _ 2 _ _ _ hza; have fa2 := frozen_of_row w3' _ 2 _ _ hza; have pa3 := cell_of_row w3' _ 3 _ _ _ hza; have fa3 := frozen_of_row w3' _ 3 _ _ hza)); (try (have hr0 : (w1'.alloc (.cells #[.int .i64 0, .int .i64 0, .int .i64 0, .int .i64 0] 24)).heap[w1'.heap.size]? = some (.cells #[.int .i64 0, .int .i64 0, .int .i64 0, .int .i64 0] 24 (0, 0)) := heap_alloc_new _ _; have hr2 : w2'.heap[w1'.heap.size]? = some (.cells #[.int .i64 0, .int .i64 0, .int .i64 0, .int .i64 0] 24 (0, 0)) := (hb2.block _ (heap_lt hr0)).trans hr0; have hr3 : w3'.heap[w1'.heap.size]? = some (.cells #[.int .i64 0, .int .i64 0, .int .i64 0, .int .i64 0] 24 (0, 0)) := (hb3.block _ (heap_lt hr2)).trans hr2; have hzb := hr3; have pb0 := cell_of_row w3' _ 0 _ _ _ hzb; have fb0 := frozen_of_row w3' _ 0 _ _ hzb; have pb1 := cell_of_row w3' _ 1 _ _ _ hzb; have fb1 := frozen_of_row w3' _ 1 _ _ hzb; have pb2 := cell_of_row w3' _ 2 _ _ _ hzb; have fb2 := frozen_of_row w3' _ 2 _ _ hzb; have pb3 := cell_of_row w3' _ 3 _ _ _ hzb; have fb3 := frozen_of_row w3' _ 3 _ _ hzb)); (try (have hr0 : (w2'.alloc (.cells #[.int .i64 0, .int .i64 0, .int .i64 0, .int .i64 0] 24)).heap[w2'.heap.size]? = some (.cells #[.int .i64 0, .int .i64 0, .int .i64 0, .int .i64 0] 24 (0, 0)) := heap_alloc_new _ _; have hr3 : w3'.heap[w2'.heap.size]? = some (.cells #[.int .i64 0, .int .i64 0, .int .i64 0, .int .i64 0] 24 (0, 0)) := (hb3.block _ (heap_lt hr0)).trans hr0; have hzc := hr3; have pc0 := cell_of_row w3' _ 0 _ _ _ hzc; have fc0 := frozen_of_row w3' _ 0 _ _ hzc; have pc1 := cell_of_row w3' _ 1 _ _ _ hzc; have fc1 := frozen_of_row w3' _ 1 _ _ hzc; have pc2 := cell_of_row w3' _ 2 _ _ _ hzc; have fc2 := frozen_of_row w3' _ 2 _ _ hzc; have pc3 := cell_of_row w3' _ 3 _ _ _ hzc; have fc3 := frozen_of_row w3' _ 3 _ _ hzc)))
      | (go_at_call 35; have hpre := hB1; clear hpre; refine (toWt_any a s _).mono ?_; rintro e w2' ⟨rfl, hb2⟩; have hB2 : Below w1.heap.size w1 w2' := (by first | exact below_more hB1 hb2 | exact below_more (below_more hB1 (gAlloc _ _)) hb2); have hq2 : w2'.cell? ⟨w.heap.size, 0, none⟩ = some (.int .i64 r) ∧ w2'.cell? ⟨w.heap.size, 1, none⟩ = some (.int .i64 q) ∧ w2'.cell? ⟨w.heap.size, 2, none⟩ = some (.int .i64 f) ∧ w2'.cell? ⟨w.heap.size, 3, none⟩ = some (.int .i64 c) ∧ w2'.cell? ⟨(w.heap.size + 1), 0, none⟩ = some (.int .i64 a) ∧ w2'.cell? ⟨(w.heap.size + 1), 1, none⟩ = some (.int .i64 s) := six13 hB2 ⟨c0, c1, c2, c3, c4, c5⟩; have hn2 := hXY hB2.size)
      | (go_at_call 34; refine (toBu_any r q f c _).mono ?_; rintro e w1' ⟨rfl, hb1⟩; have hB1 : Below w1.heap.size w1 w1' := (by first | exact below_more gDrew hb1 | exact below_more (below_more (gAlloc _ _) gDrew) hb1); have hq1 : w1'.cell? ⟨w.heap.size, 0, none⟩ = some (.int .i64 r) ∧ w1'.cell? ⟨w.heap.size, 1, none⟩ = some (.int .i64 q) ∧ w1'.cell? ⟨w.heap.size, 2, none⟩ = some (.int .i64 f) ∧ w1'.cell? ⟨w.heap.size, 3, none⟩ = some (.int .i64 c) ∧ w1'.cell? ⟨(w.heap.size + 1), 0, none⟩ = some (.int .i64 a) ∧ w1'.cell? ⟨(w.heap.size + 1), 1, none⟩ = some (.int .i64 s) := six13 hB1 ⟨c0, c1, c2, c3, c4, c5⟩; have hn1 := hXY hB1.size))
    all_goals
      first
      | (have HM := gv_stored rfl hza (.int .i64 N0) (.int .i64 N1) (.int .i64 N2) (.int .i64 N3); have HB' := below_gv hB3 (show w1.heap.size ≤ w1.heap.size from Nat.le_refl _) (.int .i64 N0) (.int .i64 N1) (.int .i64 N2) (.int .i64 N3); have hle : w1.heap.size ≤ w1.heap.size := Nat.le_refl _; obtain ⟨Y, hY⟩ : ∃ Y, w1.heap.size = Y := ⟨_, rfl⟩; rw [hY] at HM hle ⊢; (try rw [hY] at HB'); exact ⟨rfl, Y, rfl, HM, HB', hle⟩)
      | (have HM := gv_stored rfl hzb (.int .i64 N0) (.int .i64 N1) (.int .i64 N2) (.int .i64 N3); have HB' := below_gv hB3 (show w1.heap.size ≤ w1'.heap.size from hB1.size) (.int .i64 N0) (.int .i64 N1) (.int .i64 N2) (.int .i64 N3); have hle : w1.heap.size ≤ w1'.heap.size := hB1.size; obtain ⟨Y, hY⟩ : ∃ Y, w1'.heap.size = Y := ⟨_, rfl⟩; rw [hY] at HM hle ⊢; (try rw [hY] at HB'); exact ⟨rfl, Y, rfl, HM, HB', hle⟩)
      | (have HM := gv_stored rfl hzc (.int .i64 N0) (.int .i64 N1) (.int .i64 N2) (.int .i64 N3); have HB' := below_gv hB3 (show w1.heap.size ≤ w2'.heap.size from hB2.size) (.int .i64 N0) (.int .i64 N1) (.int .i64 N2) (.int .i64 N3); have hle : w1.heap.size ≤ w2'.heap.size := hB2.size; obtain ⟨Y, hY⟩ : ∃ Y, w2'.heap.size = Y := ⟨_, rfl⟩; rw [hY] at HM hle ⊢; (try rw [hY] at HB'); exact ⟨rfl, Y, rfl, HM, HB', hle⟩)
      | (have HM : (w3'.alloc (.cells #[.int .i64 N0, .int .i64 N1, .int .i64 N2, .int .i64 N3] 24)).heap[w3'.heap.size]? = some (.cells #[.int .i64 N0, .int .i64 N1, .int .i64 N2, .int .i64 N3] 24 (0, 0)) := heap_alloc_new _ _; have HB' := below_more hB3 (gAlloc w3' (.cells #[.int .i64 N0, .int .i64 N1, .int .i64 N2, .int .i64 N3] 24)); have hle : w1.heap.size ≤ w3'.heap.size := hB3.size; obtain ⟨Y, hY⟩ : ∃ Y, w3'.heap.size = Y := ⟨_, rfl⟩; rw [hY] at HM hle ⊢; (try rw [hY] at HB'); exact ⟨rfl, Y, rfl, HM, HB', hle⟩)
      | (go_loud (fail "END"))
  case himp =>
  intro Y1 w2 hR
  obtain ⟨r1, r2, r3⟩ := hR
  clear hq0 hXY hn0 c0 c1 c2 c3 c4 c5 hw1
  have HX_2 := Lib.hid ((r2.block _ (heap_lt HX_1.out)).trans HX_1.out)
  have HY_2 := Lib.hid ((r2.block _ (heap_lt HY_1.out)).trans HY_1.out)
  have HB_2 := Lib.hid (below_more HB_1.out r2)
  have HZ1 := Lib.hid r1
  clear r1 r2 r3 HX_1 HY_1 HB_1
  have c0 : w2.cell? ⟨w.heap.size, 0, none⟩ = some (.int .i64 r) := cell_of_row _ _ 0 _ _ _ HX_2.out
  have c1 : w2.cell? ⟨w.heap.size, 1, none⟩ = some (.int .i64 q) := cell_of_row _ _ 1 _ _ _ HX_2.out
  have c2 : w2.cell? ⟨w.heap.size, 2, none⟩ = some (.int .i64 f) := cell_of_row _ _ 2 _ _ _ HX_2.out
  have c3 : w2.cell? ⟨w.heap.size, 3, none⟩ = some (.int .i64 c) := cell_of_row _ _ 3 _ _ _ HX_2.out
  have c4 : w2.cell? ⟨(w.heap.size + 1), 0, none⟩ = some (.int .i64 a) := cell_of_row _ _ 0 _ _ _ HY_2.out
  have c5 : w2.cell? ⟨(w.heap.size + 1), 1, none⟩ = some (.int .i64 s) := cell_of_row _ _ 1 _ _ _ HY_2.out
  go_wp2_with fail
  have hq0 : w2.drew.cell? ⟨w.heap.size, 0, none⟩ = some (.int .i64 r) ∧ w2.drew.cell? ⟨w.heap.size, 1, none⟩ = some (.int .i64 q) ∧ w2.drew.cell? ⟨w.heap.size, 2, none⟩ = some (.int .i64 f) ∧ w2.drew.cell? ⟨w.heap.size, 3, none⟩ = some (.int .i64 c) ∧ w2.drew.cell? ⟨(w.heap.size + 1), 0, none⟩ = some (.int .i64 a) ∧ w2.drew.cell? ⟨(w.heap.size + 1), 1, none⟩ = some (.int .i64 s) := six13 gDrew ⟨c0, c1, c2, c3, c4, c5⟩
  have hXY : ∀ {Z : Nat}, w2.heap.size ≤ Z → w.heap.size ≠ Z ∧ (w.heap.size + 1) ≠ Z := fun h => ⟨Nat.ne_of_lt (Nat.lt_of_lt_of_le (heap_lt HX_2.out) h), Nat.ne_of_lt (Nat.lt_of_lt_of_le (heap_lt HY_2.out) h)⟩
  have hn0 := hXY (Nat.le_refl _)
  apply wp_meet_z13 (fun Y w' => w'.heap[Y]? = some (.cells #[.int .i64 N0, .int .i64 N1, .int .i64 N2, .int .i64 N3] 24 (0, 0)) ∧ Below w2.heap.size w2 w' ∧ w2.heap.size ≤ Y)
  case hreg =>
    go_region_held3 (fun w' => w'.cell? ⟨w.heap.size, 0, none⟩ = some (.int .i64 r) ∧ w'.cell? ⟨w.heap.size, 1, none⟩ = some (.int .i64 q) ∧ w'.cell? ⟨w.heap.size, 2, none⟩ = some (.int .i64 f) ∧ w'.cell? ⟨w.heap.size, 3, none⟩ = some (.int .i64 c) ∧ w'.cell? ⟨(w.heap.size + 1), 0, none⟩ = some (.int .i64 a) ∧ w'.cell? ⟨(w.heap.size + 1), 1, none⟩ = some (.int .i64 s)) (first | with_reducible exact hq0 | with_reducible exact hq1 | with_reducible exact hq2 | with_reducible exact hq3 | with_reducible exact six13 (gAlloc _ _) hq0 | with_reducible exact six13 (gAlloc _ _) hq1 | with_reducible exact six13 (gAlloc _ _) hq2 | with_reducible exact six13 (gAlloc _ _) hq3 | with_reducible exact six_set13 hq3 hn0 | with_reducible exact six_set13 hq3 hn1 | with_reducible exact six_set13 hq3 hn2 | with_reducible exact six_set13 hq3 hn3 | (go_loud (fail "KEEP"))) (first
      | (go_at_call 27; have hpre := hB2; clear hpre; refine (HI.out _).mono ?_; rintro e w3' ⟨rfl, hb3⟩; have hB3 : Below w2.heap.size w2 w3' := (by first | exact below_more hB2 hb3 | exact below_more (below_more hB2 (gAlloc _ _)) hb3); have hq3 : w3'.cell? ⟨w.heap.size, 0, none⟩ = some (.int .i64 r) ∧ w3'.cell? ⟨w.heap.size, 1, none⟩ = some (.int .i64 q) ∧ w3'.cell? ⟨w.heap.size, 2, none⟩ = some (.int .i64 f) ∧ w3'.cell? ⟨w.heap.size, 3, none⟩ = some (.int .i64 c) ∧ w3'.cell? ⟨(w.heap.size + 1), 0, none⟩ = some (.int .i64 a) ∧ w3'.cell? ⟨(w.heap.size + 1), 1, none⟩ = some (.int .i64 s) := six13 hB3 ⟨c0, c1, c2, c3, c4, c5⟩; have hn3 := hXY hB3.size; (try (have hr0 : (w2.alloc (.cells #[.int .i64 0, .int .i64 0, .int .i64 0, .int .i64 0] 24)).drew.heap[w2.heap.size]? = some (.cells #[.int .i64 0, .int .i64 0, .int .i64 0, .int .i64 0] 24 (0, 0)) := alloc_atD13 _ _ _ _ _ _; have hr1 : w1'.heap[w2.heap.size]? = some (.cells #[.int .i64 0, .int .i64 0, .int .i64 0, .int .i64 0] 24 (0, 0)) := (hb1.block _ (heap_lt hr0)).trans hr0; have hr2 : w2'.heap[w2.heap.size]? = some (.cells #[.int .i64 0, .int .i64 0, .int .i64 0, .int .i64 0] 24 (0, 0)) := (hb2.block _ (heap_lt hr1)).trans hr1; have hr3 : w3'.heap[w2.heap.size]? = some (.cells #[.int .i64 0, .int .i64 0, .int .i64 0, .int .i64 0] 24 (0, 0)) := (hb3.block _ (heap_lt hr2)).trans hr2; have hza := hr3; have pa0 := cell_of_row w3' _ 0 _ _ _ hza; have fa0 := frozen_of_row w3' _ 0 _ _ hza; have pa1 := cell_of_row w3' _ 1 _ _ _ hza; have fa1 := frozen_of_row w3' _ 1 _ _ hza; have pa2 := cell_of_row w3' _ 2 _ _ _ hza; have fa2 := frozen_of_row w3' _ 2 _ _ hza; have pa3 := cell_of_row w3' _ 3 _ _ _ hza; have fa3 := frozen_of_row w3' _ 3 _ _ hza)); (try (have hr0 : (w1'.alloc (.cells #[.int .i64 0, .int .i64 0, .int .i64 0, .int .i64 0] 24)).heap[w1'.heap.size]? = some (.cells #[.int .i64 0, .int .i64 0, .int .i64 0, .int .i64 0] 24 (0, 0)) := heap_alloc_new _ _; have hr2 : w2'.heap[w1'.heap.size]? = some (.cells #[.int .i64 0, .int .i64 0, .int .i64 0, .int .i64 0] 24 (0, 0)) := (hb2.block _ (heap_lt hr0)).trans hr0; have hr3 : w3'.heap[w1'.heap.size]? = some (.cells #[.int .i64 0, .int .i64 0, .int .i64 0, .int .i64 0] 24 (0, 0)) := (hb3.block _ (heap_lt hr2)).trans hr2; have hzb := hr3; have pb0 := cell_of_row w3' _ 0 _ _ _ hzb; have fb0 := frozen_of_row w3' _ 0 _ _ hzb; have pb1 := cell_of_row w3' _ 1 _ _ _ hzb; have fb1 := frozen_of_row w3' _ 1 _ _ hzb; have pb2 := cell_of_row w3' _ 2 _ _ _ hzb; have fb2 := frozen_of_row w3' _ 2 _ _ hzb; have pb3 := cell_of_row w3' _ 3 _ _ _ hzb; have fb3 := frozen_of_row w3' _ 3 _ _ hzb)); (try (have hr0 : (w2'.alloc (.cells #[.int .i64 0, .int .i64 0, .int .i64 0, .int .i64 0] 24)).heap[w2'.heap.size]? = some (.cells #[.int .i64 0, .int .i64 0, .int .i64 0, .int .i64 0] 24 (0, 0)) := heap_alloc_new _ _; have hr3 : w3'.heap[w2'.heap.size]? = some (.cells #[.int .i64 0, .int .i64 0, .int .i64 0, .int .i64 0] 24 (0, 0)) := (hb3.block _ (heap_lt hr0)).trans hr0; have hzc := hr3; have pc0 := cell_of_row w3' _ 0 _ _ _ hzc; have fc0 := frozen_of_row w3' _ 0 _ _ hzc; have pc1 := cell_of_row w3' _ 1 _ _ _ hzc; have fc1 := frozen_of_row w3' _ 1 _ _ hzc; have pc2 := cell_of_row w3' _ 2 _ _ _ hzc; have fc2 := frozen_of_row w3' _ 2 _ _ hzc; have pc3 := cell_of_row w3' _ 3 _ _ _ hzc; have fc3 := frozen_of_row w3' _ 3 _ _ hzc)))
      | (go_at_call 35; have hpre := hB1; clear hpre; refine (toWt_any a s _).mono ?_; rintro e w2' ⟨rfl, hb2⟩; have hB2 : Below w2.heap.size w2 w2' := (by first | exact below_more hB1 hb2 | exact below_more (below_more hB1 (gAlloc _ _)) hb2); have hq2 : w2'.cell? ⟨w.heap.size, 0, none⟩ = some (.int .i64 r) ∧ w2'.cell? ⟨w.heap.size, 1, none⟩ = some (.int .i64 q) ∧ w2'.cell? ⟨w.heap.size, 2, none⟩ = some (.int .i64 f) ∧ w2'.cell? ⟨w.heap.size, 3, none⟩ = some (.int .i64 c) ∧ w2'.cell? ⟨(w.heap.size + 1), 0, none⟩ = some (.int .i64 a) ∧ w2'.cell? ⟨(w.heap.size + 1), 1, none⟩ = some (.int .i64 s) := six13 hB2 ⟨c0, c1, c2, c3, c4, c5⟩; have hn2 := hXY hB2.size)
      | (go_at_call 34; refine (toBu_any r q f c _).mono ?_; rintro e w1' ⟨rfl, hb1⟩; have hB1 : Below w2.heap.size w2 w1' := (by first | exact below_more gDrew hb1 | exact below_more (below_more (gAlloc _ _) gDrew) hb1); have hq1 : w1'.cell? ⟨w.heap.size, 0, none⟩ = some (.int .i64 r) ∧ w1'.cell? ⟨w.heap.size, 1, none⟩ = some (.int .i64 q) ∧ w1'.cell? ⟨w.heap.size, 2, none⟩ = some (.int .i64 f) ∧ w1'.cell? ⟨w.heap.size, 3, none⟩ = some (.int .i64 c) ∧ w1'.cell? ⟨(w.heap.size + 1), 0, none⟩ = some (.int .i64 a) ∧ w1'.cell? ⟨(w.heap.size + 1), 1, none⟩ = some (.int .i64 s) := six13 hB1 ⟨c0, c1, c2, c3, c4, c5⟩; have hn1 := hXY hB1.size))
    all_goals
      first
      | (have HM := gv_stored rfl hza (.int .i64 N0) (.int .i64 N1) (.int .i64 N2) (.int .i64 N3); have HB' := below_gv hB3 (show w2.heap.size ≤ w2.heap.size from Nat.le_refl _) (.int .i64 N0) (.int .i64 N1) (.int .i64 N2) (.int .i64 N3); have hle : w2.heap.size ≤ w2.heap.size := Nat.le_refl _; obtain ⟨Y, hY⟩ : ∃ Y, w2.heap.size = Y := ⟨_, rfl⟩; rw [hY] at HM hle ⊢; (try rw [hY] at HB'); exact ⟨rfl, Y, rfl, HM, HB', hle⟩)
      | (have HM := gv_stored rfl hzb (.int .i64 N0) (.int .i64 N1) (.int .i64 N2) (.int .i64 N3); have HB' := below_gv hB3 (show w2.heap.size ≤ w1'.heap.size from hB1.size) (.int .i64 N0) (.int .i64 N1) (.int .i64 N2) (.int .i64 N3); have hle : w2.heap.size ≤ w1'.heap.size := hB1.size; obtain ⟨Y, hY⟩ : ∃ Y, w1'.heap.size = Y := ⟨_, rfl⟩; rw [hY] at HM hle ⊢; (try rw [hY] at HB'); exact ⟨rfl, Y, rfl, HM, HB', hle⟩)
      | (have HM := gv_stored rfl hzc (.int .i64 N0) (.int .i64 N1) (.int .i64 N2) (.int .i64 N3); have HB' := below_gv hB3 (show w2.heap.size ≤ w2'.heap.size from hB2.size) (.int .i64 N0) (.int .i64 N1) (.int .i64 N2) (.int .i64 N3); have hle : w2.heap.size ≤ w2'.heap.size := hB2.size; obtain ⟨Y, hY⟩ : ∃ Y, w2'.heap.size = Y := ⟨_, rfl⟩; rw [hY] at HM hle ⊢; (try rw [hY] at HB'); exact ⟨rfl, Y, rfl, HM, HB', hle⟩)
      | (have HM : (w3'.alloc (.cells #[.int .i64 N0, .int .i64 N1, .int .i64 N2, .int .i64 N3] 24)).heap[w3'.heap.size]? = some (.cells #[.int .i64 N0, .int .i64 N1, .int .i64 N2, .int .i64 N3] 24 (0, 0)) := heap_alloc_new _ _; have HB' := below_more hB3 (gAlloc w3' (.cells #[.int .i64 N0, .int .i64 N1, .int .i64 N2, .int .i64 N3] 24)); have hle : w2.heap.size ≤ w3'.heap.size := hB3.size; obtain ⟨Y, hY⟩ : ∃ Y, w3'.heap.size = Y := ⟨_, rfl⟩; rw [hY] at HM hle ⊢; (try rw [hY] at HB'); exact ⟨rfl, Y, rfl, HM, HB', hle⟩)
      | (go_loud (fail "END"))
  case himp =>
  intro Y2 w3 hR
  obtain ⟨r1, r2, r3⟩ := hR
  clear hq0 hXY hn0 c0 c1 c2 c3 c4 c5
  have HX_3 := Lib.hid ((r2.block _ (heap_lt HX_2.out)).trans HX_2.out)
  have HY_3 := Lib.hid ((r2.block _ (heap_lt HY_2.out)).trans HY_2.out)
  have HB_3 := Lib.hid (below_more HB_2.out r2)
  have HZ2 := Lib.hid r1
  have HZ1' := Lib.hid ((r2.block _ (heap_lt HZ1.out)).trans HZ1.out)
  clear r1 r2 r3 HX_2 HY_2 HB_2
  have dY10 : w3.cell? ⟨Y1, 0, none⟩ = some (.int .i64 N0) := cell_of_row _ _ 0 _ _ _ HZ1'.out
  have dY11 : w3.cell? ⟨Y1, 1, none⟩ = some (.int .i64 N1) := cell_of_row _ _ 1 _ _ _ HZ1'.out
  have dY12 : w3.cell? ⟨Y1, 2, none⟩ = some (.int .i64 N2) := cell_of_row _ _ 2 _ _ _ HZ1'.out
  have dY13 : w3.cell? ⟨Y1, 3, none⟩ = some (.int .i64 N3) := cell_of_row _ _ 3 _ _ _ HZ1'.out
  have dY20 : w3.cell? ⟨Y2, 0, none⟩ = some (.int .i64 N0) := cell_of_row _ _ 0 _ _ _ HZ2.out
  have dY21 : w3.cell? ⟨Y2, 1, none⟩ = some (.int .i64 N1) := cell_of_row _ _ 1 _ _ _ HZ2.out
  have dY22 : w3.cell? ⟨Y2, 2, none⟩ = some (.int .i64 N2) := cell_of_row _ _ 2 _ _ _ HZ2.out
  have dY23 : w3.cell? ⟨Y2, 3, none⟩ = some (.int .i64 N3) := cell_of_row _ _ 3 _ _ _ HZ2.out
  go_wp2_with fail
  refine (eqBu_self N0 N1 N2 N3 _).mono ?_
  rintro e w4 ⟨rfl, hb4⟩
  have HB_4 := Lib.hid (below_more HB_3.out hb4)
  clear hb4
  go_wp2_with fail
  go_ret
  exact ⟨rfl, HB_4.out⟩
end Go.Proofs.Ytgakklanboabjaa
