/-
  The program's chapter 11, third part: StepGiver, PlayGiver.
-/
import Derived.Test.YtbegikjoialahaaHD
namespace Go.Proofs.Ytbegikjoialahaa
open Go.RowKit

theorem cnt_give {n a s : Int} {zs : List Int} (hg : goodGB n a s zs = true) : giveB n s zs 1 false = decide (1 ≤ cnt11 n s zs.length) := by
  obtain ⟨⟨g1, g2⟩, ⟨g3, g4⟩, g5, ⟨g6, g7⟩, -, g9⟩ := gvr_ok hg
  have h : (1 ≤ cnt11 n s zs.length) ↔ (n ≤ s ∧ (zs.length : Int) < 60) := by rw [cnt11]; omega
  by_cases h1 : n ≤ s ∧ (zs.length : Int) < 60
  · simp [giveB, h.2 h1, h1.1]; omega
  · rw [show decide (1 ≤ cnt11 n s zs.length) = false by simpa using fun hc => h1 (h.1 hc)]
    simp only [giveB]
    by_cases h2 : n ≤ s
    · have : ¬ (zs.length : Int) < 60 := fun h3 => h1 ⟨h2, h3⟩
      simp [h2, this]
    · simp [h2]
set_option maxRecDepth 100000 in
set_option maxHeartbeats 4000000 in
theorem iStepG (n a s : Int) (A : Option Addr) (zs : List Int) (ca : Nat) (k : Int) (p : Bool) (w : World) (ha : Ints w A zs) (hA : Lies9 A ca) (hl : zs.length ≤ 1048576) (hs : -9223372036854775808 ≤ s) :
    Calls Try.prog 23 #[gvV n a s (.slice A zs.length ca), idV (k, p)] w fun e w' => ∃ v, e = .returned (.tuple #[gvV (sgN n a s zs k p) (sgA n a s zs k p) (sgS n a s zs k p) v, .bool (sgOkB n a s zs k p)]) ∧ Own w' w.heap.size v (sgZ n a s zs k p) ∧ Below w.heap.size w w' := by
  obtain ⟨W, hW⟩ : ∃ W, ((w.alloc (.cells #[.int .i64 n, .int .i64 a, .int .i64 s, .slice A zs.length ca] 27)).alloc (.cells #[.int .i64 k, .bool p] 34)).alloc (.cells #[.int .i64 0, .int .i64 0, .int .i64 0, .slice none 0 0] 27) = W := ⟨_, rfl⟩
  have hsW : W.heap.size = w.heap.size + 3 := by rw [← hW]; simp
  have hbW : Below w.heap.size w W := by rw [← hW]; exact ((gAlloc w _).alloc (by simp) _).alloc (by simp; omega) _
  have h1 : W.heap[w.heap.size]? = some (.cells #[.int .i64 n, .int .i64 a, .int .i64 s, .slice A zs.length ca] 27 (0, 0)) := by rw [← hW, heap_alloc_old _ _ _ (by simp; omega), heap_alloc_old _ _ _ (by simp)]; exact heap_alloc_new _ _
  have h2 : W.heap[w.heap.size + 1]? = some (.cells #[.int .i64 k, .bool p] 34 (0, 0)) := by
    rw [← hW, heap_alloc_old _ _ _ (by simp), show w.heap.size + 1 = (w.alloc (.cells #[.int .i64 n, .int .i64 a, .int .i64 s, .slice A zs.length ca] 27)).heap.size by simp]; exact heap_alloc_new _ _
  have h3 : W.heap[w.heap.size + 1 + 1]? = some (.cells #[.int .i64 0, .int .i64 0, .int .i64 0, .slice none 0 0] 27 (0, 0)) := by
    rw [← hW, show w.heap.size + 1 + 1 = ((w.alloc (.cells #[.int .i64 n, .int .i64 a, .int .i64 s, .slice A zs.length ca] 27)).alloc (.cells #[.int .i64 k, .bool p] 34)).heap.size by simp]; exact heap_alloc_new _ _
  have x0 : W.cell? ⟨w.heap.size, 0, none⟩ = some (.int .i64 n) := cell_of_row _ _ 0 _ _ _ h1
  have x1 : W.cell? ⟨w.heap.size, 1, none⟩ = some (.int .i64 a) := cell_of_row _ _ 1 _ _ _ h1
  have x2 : W.cell? ⟨w.heap.size, 2, none⟩ = some (.int .i64 s) := cell_of_row _ _ 2 _ _ _ h1
  have x3 : W.cell? ⟨w.heap.size, 3, none⟩ = some (.slice A zs.length ca) := cell_of_row _ _ 3 _ _ _ h1
  have HG := Lib.hid (iGoodG n a s A zs ca W (ha.below hbW) hl hs)
  have HA := Lib.hid (ha.below hbW)
  have HB := Lib.hid hbW
  have HH := Lib.hid (And.intro h1 (And.intro h2 h3))
  have HS := Lib.hid hsW
  clear hbW h1 h2 h3 ha hsW
  cases hg : goodGB n a s zs
  · have HE := Lib.hid (sg_not (n := n) (a := a) (s := s) (zs := zs) (k := k) (p := p) (by rw [sgOkB, hg]; rfl))
    rw [hg] at HG
    clear hg
    go_enter Try.func23, Try.ntmps23
    go_wp2_with (go_at_call 17; refine HG.out.mono ?_; rintro e wg ⟨rfl, hb1⟩; have H1 := (hb1.block _ (heap_lt HH.out.1)).trans HH.out.1; have H2 := (hb1.block _ (heap_lt HH.out.2.1)).trans HH.out.2.1; have H3 := (hb1.block _ (heap_lt HH.out.2.2)).trans HH.out.2.2; have y0 : wg.cell? ⟨w.heap.size, 0, none⟩ = some (.int .i64 n) := cell_of_row _ _ 0 _ _ _ H1; have y1 : wg.cell? ⟨w.heap.size, 1, none⟩ = some (.int .i64 a) := cell_of_row _ _ 1 _ _ _ H1; have y2 : wg.cell? ⟨w.heap.size, 2, none⟩ = some (.int .i64 s) := cell_of_row _ _ 2 _ _ _ H1; have y3 : wg.cell? ⟨w.heap.size, 3, none⟩ = some (.slice A zs.length ca) := cell_of_row _ _ 3 _ _ _ H1; have v0 : wg.cell? ⟨w.heap.size + 1, 0, none⟩ = some (.int .i64 k) := cell_of_row _ _ 0 _ _ _ H2; have v1 : wg.cell? ⟨w.heap.size + 1, 1, none⟩ = some (.bool p) := cell_of_row _ _ 1 _ _ _ H2; have z0 : wg.cell? ⟨w.heap.size + 1 + 1, 0, none⟩ = some (.int .i64 0) := cell_of_row _ _ 0 _ _ _ H3; have z1 : wg.cell? ⟨w.heap.size + 1 + 1, 1, none⟩ = some (.int .i64 0) := cell_of_row _ _ 1 _ _ _ H3; have z2 : wg.cell? ⟨w.heap.size + 1 + 1, 2, none⟩ = some (.int .i64 0) := cell_of_row _ _ 2 _ _ _ H3; have z3 : wg.cell? ⟨w.heap.size + 1 + 1, 3, none⟩ = some (.slice none 0 0) := cell_of_row _ _ 3 _ _ _ H3; have f0 := frozen_of_row wg _ 0 _ _ H3; have f1 := frozen_of_row wg _ 1 _ _ H3; have f2 := frozen_of_row wg _ 2 _ _ H3; have f3 := frozen_of_row wg _ 3 _ _ H3)
    refine ret_gv2 rfl (w.heap.size + 1 + 1) 0 0 0 _ false rfl rfl (gv_stored rfl H3 _ _ _ _) rfl ⟨.slice none 0 0, ?_, ?_, below_gv (below_more HB.out hb1) (by omega) _ _ _ _⟩
    · rw [HE.out.1, HE.out.2.1, HE.out.2.2.1, HE.out.2.2.2.2]
    · rw [HE.out.2.2.2.1]; exact Own.nil _ _
  · obtain ⟨⟨g1, g2⟩, ⟨g3, g4⟩, g5, ⟨g6, g7⟩, -, g9⟩ := gvr_ok hg
    have HN := Lib.hid (fun (h : stOkB n s zs k p = false) => sg_not (n := n) (a := a) (s := s) (zs := zs) (k := k) (p := p) (show sgOkB n a s zs k p = false by rw [sgOkB, hg, h]; rfl))
    have HY := Lib.hid (fun (h : stOkB n s zs k p = true) => sg_yes (n := n) (a := a) (s := s) (zs := zs) (k := k) (p := p) (show sgOkB n a s zs k p = true by rw [sgOkB, hg, h]; rfl))
    have HGv := Lib.hid (cnt_give hg)
    have HIs := Lib.hid (fun (w' : World) (h : Below W.heap.size W w') => issue_any n a s A zs ca w' (HA.out.below h) hA hg)
    rw [hg] at HG
    have HRv := Lib.hid (fun (w' : World) (h : Below W.heap.size W w') => iResv a n A zs ca w' (HA.out.below h) hA (by omega) (by omega) (by omega))
    have HRs := Lib.hid (fun (w' : World) (h : Below W.heap.size W w') => iRestart n a s A zs ca p w' (HA.out.below h) hA (by omega) (by omega) (by omega) (by omega) (by omega))
    clear hg
    by_cases h3 : k = 3
    · subst h3
      cases p
      · have HE : Hid (sgN n a s zs 3 false = s + 1 ∧ sgA n a s zs 3 false = min 1000 (s + 4) ∧ sgS n a s zs 3 false = s ∧ sgZ n a s zs 3 false = zs ∧ sgOkB n a s zs 3 false = true) := by
          obtain ⟨e1, e2, e3, e4, e5⟩ := st_crashF n a s zs
          obtain ⟨t1, t2, t3, t4, t5⟩ := HY.out e5
          exact ⟨t1.trans e1, t2.trans e2, t3.trans e3, t4.trans e4, t5⟩
        clear HN HY HRv
        go_enter Try.func23, Try.ntmps23
        go_wp2_with (go_at_call 17; refine HG.out.mono ?_; rintro e wg ⟨rfl, hb1⟩; have H1 := (hb1.block _ (heap_lt HH.out.1)).trans HH.out.1; have H2 := (hb1.block _ (heap_lt HH.out.2.1)).trans HH.out.2.1; have H3 := (hb1.block _ (heap_lt HH.out.2.2)).trans HH.out.2.2; have y0 : wg.cell? ⟨w.heap.size, 0, none⟩ = some (.int .i64 n) := cell_of_row _ _ 0 _ _ _ H1; have y1 : wg.cell? ⟨w.heap.size, 1, none⟩ = some (.int .i64 a) := cell_of_row _ _ 1 _ _ _ H1; have y2 : wg.cell? ⟨w.heap.size, 2, none⟩ = some (.int .i64 s) := cell_of_row _ _ 2 _ _ _ H1; have y3 : wg.cell? ⟨w.heap.size, 3, none⟩ = some (.slice A zs.length ca) := cell_of_row _ _ 3 _ _ _ H1; have v0 : wg.cell? ⟨w.heap.size + 1, 0, none⟩ = some (.int .i64 3) := cell_of_row _ _ 0 _ _ _ H2; have v1 : wg.cell? ⟨w.heap.size + 1, 1, none⟩ = some (.bool false) := cell_of_row _ _ 1 _ _ _ H2; have z0 : wg.cell? ⟨w.heap.size + 1 + 1, 0, none⟩ = some (.int .i64 0) := cell_of_row _ _ 0 _ _ _ H3; have z1 : wg.cell? ⟨w.heap.size + 1 + 1, 1, none⟩ = some (.int .i64 0) := cell_of_row _ _ 1 _ _ _ H3; have z2 : wg.cell? ⟨w.heap.size + 1 + 1, 2, none⟩ = some (.int .i64 0) := cell_of_row _ _ 2 _ _ _ H3; have z3 : wg.cell? ⟨w.heap.size + 1 + 1, 3, none⟩ = some (.slice none 0 0) := cell_of_row _ _ 3 _ _ _ H3; have f0 := frozen_of_row wg _ 0 _ _ H3; have f1 := frozen_of_row wg _ 1 _ _ H3; have f2 := frozen_of_row wg _ 2 _ _ H3; have f3 := frozen_of_row wg _ 3 _ _ H3)
        refine (HRs.out wg hb1).mono ?_
        rintro e w2 ⟨v, rfl, ho2, hb2⟩
        obtain ⟨B1, c1, rfl, -⟩ := ho2.form
        have H4 := (hb2.block _ (heap_lt H3)).trans H3
        have m0 : w2.cell? ⟨w.heap.size + 1 + 1, 0, none⟩ = some (.int .i64 0) := cell_of_row _ _ 0 _ _ _ H4
        have m1 : w2.cell? ⟨w.heap.size + 1 + 1, 1, none⟩ = some (.int .i64 0) := cell_of_row _ _ 1 _ _ _ H4
        have m2 : w2.cell? ⟨w.heap.size + 1 + 1, 2, none⟩ = some (.int .i64 0) := cell_of_row _ _ 2 _ _ _ H4
        have m3 : w2.cell? ⟨w.heap.size + 1 + 1, 3, none⟩ = some (.slice none 0 0) := cell_of_row _ _ 3 _ _ _ H4
        have q0 := frozen_of_row w2 _ 0 _ _ H4
        have q1 := frozen_of_row w2 _ 1 _ _ H4
        have q2 := frozen_of_row w2 _ 2 _ _ H4
        have q3 := frozen_of_row w2 _ 3 _ _ H4
        have HH4 := Lib.hid H4
        have HB2 := Lib.hid (below_more (below_more HB.out hb1) hb2)
        have HO2 := Lib.hid ho2
        have hsg : w.heap.size + 3 ≤ wg.heap.size := by have := hb1.size; have := HS.out; omega
        clear H4 hb1 hb2 ho2 H1 H2 H3 z0 z1 z2 z3 f0 f1 f2 f3 y0 y1 y2 y3 v0 v1 HA HH HG HGv HIs
        go_wp2_with fail
        refine ret_gv2 rfl (w.heap.size + 1 + 1) _ _ _ _ true rfl rfl (gv_stored rfl HH4.out _ _ _ _) rfl ⟨_, by rw [HE.out.1, HE.out.2.1, HE.out.2.2.1, HE.out.2.2.2.2], ?_, below_gv HB2.out (by omega) _ _ _ _⟩
        rw [HE.out.2.2.2.1]
        exact (HO2.out.cur (B := w.heap.size + 1 + 1) (by omega) (gGv w2 (w.heap.size + 1 + 1) _ _ _ _)).lower (by omega)
      · have HE : Hid (sgN n a s zs 3 true = a + 1 ∧ sgA n a s zs 3 true = min 1000 (a + 4) ∧ sgS n a s zs 3 true = a ∧ sgZ n a s zs 3 true = zs ∧ sgOkB n a s zs 3 true = true) := by
          obtain ⟨e1, e2, e3, e4, e5⟩ := st_crashT n a s zs
          obtain ⟨t1, t2, t3, t4, t5⟩ := HY.out e5
          exact ⟨t1.trans e1, t2.trans e2, t3.trans e3, t4.trans e4, t5⟩
        clear HN HY HRv
        go_enter Try.func23, Try.ntmps23
        go_wp2_with (go_at_call 17; refine HG.out.mono ?_; rintro e wg ⟨rfl, hb1⟩; have H1 := (hb1.block _ (heap_lt HH.out.1)).trans HH.out.1; have H2 := (hb1.block _ (heap_lt HH.out.2.1)).trans HH.out.2.1; have H3 := (hb1.block _ (heap_lt HH.out.2.2)).trans HH.out.2.2; have y0 : wg.cell? ⟨w.heap.size, 0, none⟩ = some (.int .i64 n) := cell_of_row _ _ 0 _ _ _ H1; have y1 : wg.cell? ⟨w.heap.size, 1, none⟩ = some (.int .i64 a) := cell_of_row _ _ 1 _ _ _ H1; have y2 : wg.cell? ⟨w.heap.size, 2, none⟩ = some (.int .i64 s) := cell_of_row _ _ 2 _ _ _ H1; have y3 : wg.cell? ⟨w.heap.size, 3, none⟩ = some (.slice A zs.length ca) := cell_of_row _ _ 3 _ _ _ H1; have v0 : wg.cell? ⟨w.heap.size + 1, 0, none⟩ = some (.int .i64 3) := cell_of_row _ _ 0 _ _ _ H2; have v1 : wg.cell? ⟨w.heap.size + 1, 1, none⟩ = some (.bool true) := cell_of_row _ _ 1 _ _ _ H2; have z0 : wg.cell? ⟨w.heap.size + 1 + 1, 0, none⟩ = some (.int .i64 0) := cell_of_row _ _ 0 _ _ _ H3; have z1 : wg.cell? ⟨w.heap.size + 1 + 1, 1, none⟩ = some (.int .i64 0) := cell_of_row _ _ 1 _ _ _ H3; have z2 : wg.cell? ⟨w.heap.size + 1 + 1, 2, none⟩ = some (.int .i64 0) := cell_of_row _ _ 2 _ _ _ H3; have z3 : wg.cell? ⟨w.heap.size + 1 + 1, 3, none⟩ = some (.slice none 0 0) := cell_of_row _ _ 3 _ _ _ H3; have f0 := frozen_of_row wg _ 0 _ _ H3; have f1 := frozen_of_row wg _ 1 _ _ H3; have f2 := frozen_of_row wg _ 2 _ _ H3; have f3 := frozen_of_row wg _ 3 _ _ H3)
        refine (HRs.out wg hb1).mono ?_
        rintro e w2 ⟨v, rfl, ho2, hb2⟩
        obtain ⟨B1, c1, rfl, -⟩ := ho2.form
        have H4 := (hb2.block _ (heap_lt H3)).trans H3
        have m0 : w2.cell? ⟨w.heap.size + 1 + 1, 0, none⟩ = some (.int .i64 0) := cell_of_row _ _ 0 _ _ _ H4
        have m1 : w2.cell? ⟨w.heap.size + 1 + 1, 1, none⟩ = some (.int .i64 0) := cell_of_row _ _ 1 _ _ _ H4
        have m2 : w2.cell? ⟨w.heap.size + 1 + 1, 2, none⟩ = some (.int .i64 0) := cell_of_row _ _ 2 _ _ _ H4
        have m3 : w2.cell? ⟨w.heap.size + 1 + 1, 3, none⟩ = some (.slice none 0 0) := cell_of_row _ _ 3 _ _ _ H4
        have q0 := frozen_of_row w2 _ 0 _ _ H4
        have q1 := frozen_of_row w2 _ 1 _ _ H4
        have q2 := frozen_of_row w2 _ 2 _ _ H4
        have q3 := frozen_of_row w2 _ 3 _ _ H4
        have HH4 := Lib.hid H4
        have HB2 := Lib.hid (below_more (below_more HB.out hb1) hb2)
        have HO2 := Lib.hid ho2
        have hsg : w.heap.size + 3 ≤ wg.heap.size := by have := hb1.size; have := HS.out; omega
        clear H4 hb1 hb2 ho2 H1 H2 H3 z0 z1 z2 z3 f0 f1 f2 f3 y0 y1 y2 y3 v0 v1 HA HH HG HGv HIs
        go_wp2_with fail
        refine ret_gv2 rfl (w.heap.size + 1 + 1) _ _ _ _ true rfl rfl (gv_stored rfl HH4.out _ _ _ _) rfl ⟨_, by rw [HE.out.1, HE.out.2.1, HE.out.2.2.1, HE.out.2.2.2.2], ?_, below_gv HB2.out (by omega) _ _ _ _⟩
        rw [HE.out.2.2.2.1]
        exact (HO2.out.cur (B := w.heap.size + 1 + 1) (by omega) (gGv w2 (w.heap.size + 1 + 1) _ _ _ _)).lower (by omega)
    cases p
    · by_cases h1 : k = 1
      · subst h1
        have HI2 := Lib.hid (fun wg (h : Below W.heap.size W wg) => HIs.out wg h)
        go_enter Try.func23, Try.ntmps23
        go_wp2_with (go_at_call 17; refine HG.out.mono ?_; rintro e wg ⟨rfl, hb1⟩; have H1 := (hb1.block _ (heap_lt HH.out.1)).trans HH.out.1; have H2 := (hb1.block _ (heap_lt HH.out.2.1)).trans HH.out.2.1; have H3 := (hb1.block _ (heap_lt HH.out.2.2)).trans HH.out.2.2; have y0 : wg.cell? ⟨w.heap.size, 0, none⟩ = some (.int .i64 n) := cell_of_row _ _ 0 _ _ _ H1; have y1 : wg.cell? ⟨w.heap.size, 1, none⟩ = some (.int .i64 a) := cell_of_row _ _ 1 _ _ _ H1; have y2 : wg.cell? ⟨w.heap.size, 2, none⟩ = some (.int .i64 s) := cell_of_row _ _ 2 _ _ _ H1; have y3 : wg.cell? ⟨w.heap.size, 3, none⟩ = some (.slice A zs.length ca) := cell_of_row _ _ 3 _ _ _ H1; have v0 : wg.cell? ⟨w.heap.size + 1, 0, none⟩ = some (.int .i64 1) := cell_of_row _ _ 0 _ _ _ H2; have v1 : wg.cell? ⟨w.heap.size + 1, 1, none⟩ = some (.bool false) := cell_of_row _ _ 1 _ _ _ H2; have z0 : wg.cell? ⟨w.heap.size + 1 + 1, 0, none⟩ = some (.int .i64 0) := cell_of_row _ _ 0 _ _ _ H3; have z1 : wg.cell? ⟨w.heap.size + 1 + 1, 1, none⟩ = some (.int .i64 0) := cell_of_row _ _ 1 _ _ _ H3; have z2 : wg.cell? ⟨w.heap.size + 1 + 1, 2, none⟩ = some (.int .i64 0) := cell_of_row _ _ 2 _ _ _ H3; have z3 : wg.cell? ⟨w.heap.size + 1 + 1, 3, none⟩ = some (.slice none 0 0) := cell_of_row _ _ 3 _ _ _ H3; have f0 := frozen_of_row wg _ 0 _ _ H3; have f1 := frozen_of_row wg _ 1 _ _ H3; have f2 := frozen_of_row wg _ 2 _ _ H3; have f3 := frozen_of_row wg _ 3 _ _ H3)
        refine (HIs.out wg hb1).mono ?_
        rintro e w2 (⟨hc0, rfl, hb2⟩ | ⟨hc1, v, rfl, ho2, hb2⟩)
        · have HE := Lib.hid (HN.out (by simp [stOkB, HGv.out, hc0, syncB]))
          have H4 := (hb2.block _ (heap_lt H3)).trans H3
          have m0 : w2.cell? ⟨w.heap.size + 1 + 1, 0, none⟩ = some (.int .i64 0) := cell_of_row _ _ 0 _ _ _ H4
          have m1 : w2.cell? ⟨w.heap.size + 1 + 1, 1, none⟩ = some (.int .i64 0) := cell_of_row _ _ 1 _ _ _ H4
          have m2 : w2.cell? ⟨w.heap.size + 1 + 1, 2, none⟩ = some (.int .i64 0) := cell_of_row _ _ 2 _ _ _ H4
          have m3 : w2.cell? ⟨w.heap.size + 1 + 1, 3, none⟩ = some (.slice none 0 0) := cell_of_row _ _ 3 _ _ _ H4
          have q0 := frozen_of_row w2 _ 0 _ _ H4
          have q1 := frozen_of_row w2 _ 1 _ _ H4
          have q2 := frozen_of_row w2 _ 2 _ _ H4
          have q3 := frozen_of_row w2 _ 3 _ _ H4
          have HH4 := Lib.hid H4
          have HB2 := Lib.hid (below_more (below_more HB.out hb1) hb2)
          clear H4 hb1 hb2 H1 H2 H3 z0 z1 z2 z3 f0 f1 f2 f3 y0 y1 y2 y3 v0 v1 HA HH HG HGv HIs HI2 HRv HRs
          go_wp2_with fail
          refine ret_gv2 rfl (w.heap.size + 1 + 1) 0 0 0 _ false rfl rfl (gv_stored rfl HH4.out _ _ _ _) rfl ⟨.slice none 0 0, ?_, ?_, below_gv HB2.out (by omega) _ _ _ _⟩
          · rw [HE.out.1, HE.out.2.1, HE.out.2.2.1, HE.out.2.2.2.2]
          · rw [HE.out.2.2.2.1]; exact Own.nil _ _
        · have HE : Hid (sgN n a s zs 1 false = n + 1 ∧ sgA n a s zs 1 false = a ∧ sgS n a s zs 1 false = s ∧ sgZ n a s zs 1 false = zs ++ [n] ∧ sgOkB n a s zs 1 false = true) := by
            obtain ⟨e1, e2, e3, e4, e5⟩ := st_give (a := a) (show giveB n s zs 1 false = true by rw [HGv.out]; simpa using hc1)
            obtain ⟨t1, t2, t3, t4, t5⟩ := HY.out e5
            exact ⟨t1.trans e1, t2.trans e2, t3.trans e3, t4.trans e4, t5⟩
          clear HN HY HRv HRs HI2
          obtain ⟨L2, hL2⟩ : ∃ L2, zs ++ [n] = L2 := ⟨_, rfl⟩
          rw [hL2] at ho2 HE
          obtain ⟨B1, c1, rfl, -⟩ := ho2.form
          have H4 := (hb2.block _ (heap_lt H3)).trans H3
          have m0 : w2.cell? ⟨w.heap.size + 1 + 1, 0, none⟩ = some (.int .i64 0) := cell_of_row _ _ 0 _ _ _ H4
          have m1 : w2.cell? ⟨w.heap.size + 1 + 1, 1, none⟩ = some (.int .i64 0) := cell_of_row _ _ 1 _ _ _ H4
          have m2 : w2.cell? ⟨w.heap.size + 1 + 1, 2, none⟩ = some (.int .i64 0) := cell_of_row _ _ 2 _ _ _ H4
          have m3 : w2.cell? ⟨w.heap.size + 1 + 1, 3, none⟩ = some (.slice none 0 0) := cell_of_row _ _ 3 _ _ _ H4
          have q0 := frozen_of_row w2 _ 0 _ _ H4
          have q1 := frozen_of_row w2 _ 1 _ _ H4
          have q2 := frozen_of_row w2 _ 2 _ _ H4
          have q3 := frozen_of_row w2 _ 3 _ _ H4
          have HH4 := Lib.hid H4
          have HB2 := Lib.hid (below_more (below_more HB.out hb1) hb2)
          have HO2 := Lib.hid ho2
          have hsg : w.heap.size + 3 ≤ wg.heap.size := by have := hb1.size; have := HS.out; omega
          clear H4 hb1 hb2 ho2 H1 H2 H3 z0 z1 z2 z3 f0 f1 f2 f3 y0 y1 y2 y3 v0 v1 HA HH HG HGv HIs
          go_wp2_with fail
          refine ret_gv2 rfl (w.heap.size + 1 + 1) _ _ _ _ true rfl rfl (gv_stored rfl HH4.out _ _ _ _) rfl ⟨_, by rw [HE.out.1, HE.out.2.1, HE.out.2.2.1, HE.out.2.2.2.2], ?_, below_gv HB2.out (by omega) _ _ _ _⟩
          rw [HE.out.2.2.2.1]
          exact (HO2.out.cur (B := w.heap.size + 1 + 1) (by omega) (gGv w2 (w.heap.size + 1 + 1) _ _ _ _)).lower (by omega)
      · by_cases h2 : k = 2
        · subst h2
          have HE : Hid (sgN n a s zs 2 false = n ∧ sgA n a s zs 2 false = min 1000 (a + 4) ∧ sgS n a s zs 2 false = a ∧ sgZ n a s zs 2 false = zs ∧ sgOkB n a s zs 2 false = true) := by
            obtain ⟨e1, e2, e3, e4, e5⟩ := st_sync (n := n) (a := a) (s := s) (zs := zs) (show syncB 2 false = true from rfl)
            obtain ⟨t1, t2, t3, t4, t5⟩ := HY.out e5
            exact ⟨t1.trans e1, t2.trans e2, t3.trans e3, t4.trans e4, t5⟩
          clear HN HY HRs
          go_enter Try.func23, Try.ntmps23
          go_wp2_with (go_at_call 17; refine HG.out.mono ?_; rintro e wg ⟨rfl, hb1⟩; have H1 := (hb1.block _ (heap_lt HH.out.1)).trans HH.out.1; have H2 := (hb1.block _ (heap_lt HH.out.2.1)).trans HH.out.2.1; have H3 := (hb1.block _ (heap_lt HH.out.2.2)).trans HH.out.2.2; have y0 : wg.cell? ⟨w.heap.size, 0, none⟩ = some (.int .i64 n) := cell_of_row _ _ 0 _ _ _ H1; have y1 : wg.cell? ⟨w.heap.size, 1, none⟩ = some (.int .i64 a) := cell_of_row _ _ 1 _ _ _ H1; have y2 : wg.cell? ⟨w.heap.size, 2, none⟩ = some (.int .i64 s) := cell_of_row _ _ 2 _ _ _ H1; have y3 : wg.cell? ⟨w.heap.size, 3, none⟩ = some (.slice A zs.length ca) := cell_of_row _ _ 3 _ _ _ H1; have v0 : wg.cell? ⟨w.heap.size + 1, 0, none⟩ = some (.int .i64 2) := cell_of_row _ _ 0 _ _ _ H2; have v1 : wg.cell? ⟨w.heap.size + 1, 1, none⟩ = some (.bool false) := cell_of_row _ _ 1 _ _ _ H2; have z0 : wg.cell? ⟨w.heap.size + 1 + 1, 0, none⟩ = some (.int .i64 0) := cell_of_row _ _ 0 _ _ _ H3; have z1 : wg.cell? ⟨w.heap.size + 1 + 1, 1, none⟩ = some (.int .i64 0) := cell_of_row _ _ 1 _ _ _ H3; have z2 : wg.cell? ⟨w.heap.size + 1 + 1, 2, none⟩ = some (.int .i64 0) := cell_of_row _ _ 2 _ _ _ H3; have z3 : wg.cell? ⟨w.heap.size + 1 + 1, 3, none⟩ = some (.slice none 0 0) := cell_of_row _ _ 3 _ _ _ H3; have f0 := frozen_of_row wg _ 0 _ _ H3; have f1 := frozen_of_row wg _ 1 _ _ H3; have f2 := frozen_of_row wg _ 2 _ _ H3; have f3 := frozen_of_row wg _ 3 _ _ H3)
          refine (HRv.out wg hb1).mono ?_
          rintro e w2 ⟨v, rfl, ho2, hb2⟩
          obtain ⟨B1, c1, rfl, -⟩ := ho2.form
          have H4 := (hb2.block _ (heap_lt H3)).trans H3
          have m0 : w2.cell? ⟨w.heap.size + 1 + 1, 0, none⟩ = some (.int .i64 0) := cell_of_row _ _ 0 _ _ _ H4
          have m1 : w2.cell? ⟨w.heap.size + 1 + 1, 1, none⟩ = some (.int .i64 0) := cell_of_row _ _ 1 _ _ _ H4
          have m2 : w2.cell? ⟨w.heap.size + 1 + 1, 2, none⟩ = some (.int .i64 0) := cell_of_row _ _ 2 _ _ _ H4
          have m3 : w2.cell? ⟨w.heap.size + 1 + 1, 3, none⟩ = some (.slice none 0 0) := cell_of_row _ _ 3 _ _ _ H4
          have q0 := frozen_of_row w2 _ 0 _ _ H4
          have q1 := frozen_of_row w2 _ 1 _ _ H4
          have q2 := frozen_of_row w2 _ 2 _ _ H4
          have q3 := frozen_of_row w2 _ 3 _ _ H4
          have HH4 := Lib.hid H4
          have HB2 := Lib.hid (below_more (below_more HB.out hb1) hb2)
          have HO2 := Lib.hid ho2
          have hsg : w.heap.size + 3 ≤ wg.heap.size := by have := hb1.size; have := HS.out; omega
          clear H4 hb1 hb2 ho2 H1 H2 H3 z0 z1 z2 z3 f0 f1 f2 f3 y0 y1 y2 y3 v0 v1 HA HH HG HGv HIs
          go_wp2_with fail
          refine ret_gv2 rfl (w.heap.size + 1 + 1) _ _ _ _ true rfl rfl (gv_stored rfl HH4.out _ _ _ _) rfl ⟨_, by rw [HE.out.1, HE.out.2.1, HE.out.2.2.1, HE.out.2.2.2.2], ?_, below_gv HB2.out (by omega) _ _ _ _⟩
          rw [HE.out.2.2.2.1]
          exact (HO2.out.cur (B := w.heap.size + 1 + 1) (by omega) (gGv w2 (w.heap.size + 1 + 1) _ _ _ _)).lower (by omega)
        · have HE := Lib.hid (HN.out (by simp [stOkB, giveB, syncB, h1, h2, h3]))
          clear HIs HRv HRs HY HN HGv HA
          have hb3 : (k == 3) = false := by simpa using h3
          have hb2' : (k == 2) = false := by simpa using h2
          have hb1' : (k == 1) = false := by simpa using h1
          go_enter Try.func23, Try.ntmps23
          go_wp2_with (go_at_call 17; refine HG.out.mono ?_; rintro e wg ⟨rfl, hb1⟩; have H1 := (hb1.block _ (heap_lt HH.out.1)).trans HH.out.1; have H2 := (hb1.block _ (heap_lt HH.out.2.1)).trans HH.out.2.1; have H3 := (hb1.block _ (heap_lt HH.out.2.2)).trans HH.out.2.2; have y0 : wg.cell? ⟨w.heap.size, 0, none⟩ = some (.int .i64 n) := cell_of_row _ _ 0 _ _ _ H1; have y1 : wg.cell? ⟨w.heap.size, 1, none⟩ = some (.int .i64 a) := cell_of_row _ _ 1 _ _ _ H1; have y2 : wg.cell? ⟨w.heap.size, 2, none⟩ = some (.int .i64 s) := cell_of_row _ _ 2 _ _ _ H1; have y3 : wg.cell? ⟨w.heap.size, 3, none⟩ = some (.slice A zs.length ca) := cell_of_row _ _ 3 _ _ _ H1; have v0 : wg.cell? ⟨w.heap.size + 1, 0, none⟩ = some (.int .i64 k) := cell_of_row _ _ 0 _ _ _ H2; have v1 : wg.cell? ⟨w.heap.size + 1, 1, none⟩ = some (.bool false) := cell_of_row _ _ 1 _ _ _ H2; have z0 : wg.cell? ⟨w.heap.size + 1 + 1, 0, none⟩ = some (.int .i64 0) := cell_of_row _ _ 0 _ _ _ H3; have z1 : wg.cell? ⟨w.heap.size + 1 + 1, 1, none⟩ = some (.int .i64 0) := cell_of_row _ _ 1 _ _ _ H3; have z2 : wg.cell? ⟨w.heap.size + 1 + 1, 2, none⟩ = some (.int .i64 0) := cell_of_row _ _ 2 _ _ _ H3; have z3 : wg.cell? ⟨w.heap.size + 1 + 1, 3, none⟩ = some (.slice none 0 0) := cell_of_row _ _ 3 _ _ _ H3; have f0 := frozen_of_row wg _ 0 _ _ H3; have f1 := frozen_of_row wg _ 1 _ _ H3; have f2 := frozen_of_row wg _ 2 _ _ H3; have f3 := frozen_of_row wg _ 3 _ _ H3)
          refine ret_gv2 rfl (w.heap.size + 1 + 1) 0 0 0 _ false rfl rfl (gv_stored rfl H3 _ _ _ _) rfl ⟨.slice none 0 0, ?_, ?_, below_gv (below_more HB.out hb1) (by omega) _ _ _ _⟩
          · rw [HE.out.1, HE.out.2.1, HE.out.2.2.1, HE.out.2.2.2.2]
          · rw [HE.out.2.2.2.1]; exact Own.nil _ _
    · have HE := Lib.hid (HN.out (by simp [stOkB, giveB, syncB, h3]))
      clear HIs HRv HRs HY HN HGv HA
      have hb3 : (k == 3) = false := by simpa using h3
      go_enter Try.func23, Try.ntmps23
      go_wp2_with (go_at_call 17; refine HG.out.mono ?_; rintro e wg ⟨rfl, hb1⟩; have H1 := (hb1.block _ (heap_lt HH.out.1)).trans HH.out.1; have H2 := (hb1.block _ (heap_lt HH.out.2.1)).trans HH.out.2.1; have H3 := (hb1.block _ (heap_lt HH.out.2.2)).trans HH.out.2.2; have y0 : wg.cell? ⟨w.heap.size, 0, none⟩ = some (.int .i64 n) := cell_of_row _ _ 0 _ _ _ H1; have y1 : wg.cell? ⟨w.heap.size, 1, none⟩ = some (.int .i64 a) := cell_of_row _ _ 1 _ _ _ H1; have y2 : wg.cell? ⟨w.heap.size, 2, none⟩ = some (.int .i64 s) := cell_of_row _ _ 2 _ _ _ H1; have y3 : wg.cell? ⟨w.heap.size, 3, none⟩ = some (.slice A zs.length ca) := cell_of_row _ _ 3 _ _ _ H1; have v0 : wg.cell? ⟨w.heap.size + 1, 0, none⟩ = some (.int .i64 k) := cell_of_row _ _ 0 _ _ _ H2; have v1 : wg.cell? ⟨w.heap.size + 1, 1, none⟩ = some (.bool true) := cell_of_row _ _ 1 _ _ _ H2; have z0 : wg.cell? ⟨w.heap.size + 1 + 1, 0, none⟩ = some (.int .i64 0) := cell_of_row _ _ 0 _ _ _ H3; have z1 : wg.cell? ⟨w.heap.size + 1 + 1, 1, none⟩ = some (.int .i64 0) := cell_of_row _ _ 1 _ _ _ H3; have z2 : wg.cell? ⟨w.heap.size + 1 + 1, 2, none⟩ = some (.int .i64 0) := cell_of_row _ _ 2 _ _ _ H3; have z3 : wg.cell? ⟨w.heap.size + 1 + 1, 3, none⟩ = some (.slice none 0 0) := cell_of_row _ _ 3 _ _ _ H3; have f0 := frozen_of_row wg _ 0 _ _ H3; have f1 := frozen_of_row wg _ 1 _ _ H3; have f2 := frozen_of_row wg _ 2 _ _ H3; have f3 := frozen_of_row wg _ 3 _ _ H3)
      refine ret_gv2 rfl (w.heap.size + 1 + 1) 0 0 0 _ false rfl rfl (gv_stored rfl H3 _ _ _ _) rfl ⟨.slice none 0 0, ?_, ?_, below_gv (below_more HB.out hb1) (by omega) _ _ _ _⟩
      · rw [HE.out.1, HE.out.2.1, HE.out.2.2.1, HE.out.2.2.2.2]
      · rw [HE.out.2.2.2.1]; exact Own.nil _ _
end Go.Proofs.Ytbegikjoialahaa
