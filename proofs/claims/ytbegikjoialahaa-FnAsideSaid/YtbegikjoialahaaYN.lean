/-
  FnAside: a crash skips at most the numbers that were reserved and not issued, and no other step skips a number.
-/
import Derived.Test.YtbegikjoialahaaHB
import Derived.Test.YtbegikjoialahaaXM
namespace Go.Proofs.Ytbegikjoialahaa
open Go.RowKit

theorem wp_meet_at {P : Program} {c : Code} {Q : Exit → Act → World → Prop} {a : Act} {w : World} (R : World → Prop) (A : Act) (hreg : c.wp P (fun e a' w' => e = .normal ∧ a' = A ∧ R w') a w) (himp : ∀ w', R w' → Q .normal A w') : c.wp P Q a w :=
  Code.wp_mono (fun e a' w' ⟨h1, h2, h3⟩ => by rw [h1, h2]; exact himp _ h3) hreg
/-- What a step that is performed skips. -/
theorem aside_math {n a s : Int} {zs : List Int} (k : Int) (p : Bool) (hg : goodGB n a s zs = true) (hk : stOkB n s zs k p = true) :
    let n' := stN n a s zs k p; let b := n' - 1 - ((stZ n s zs k p).length : Int); let a0 := n - 1 - (zs.length : Int)
    (k ≠ 3 → b = a0) ∧ a0 ≤ b ∧ b - a0 ≤ a + 1 - n ∧ n ≤ n' ∧ 0 ≤ n' ∧ n' ≤ 1100 := by
  obtain ⟨⟨g1, g2⟩, ⟨g3, g4⟩, g5, ⟨g6, g7⟩, -, g9⟩ := gvr_ok hg
  cases hgi : giveB n s zs k p
  · cases hs : syncB k p
    · by_cases h3 : k = 3
      · subst h3
        obtain ⟨e1, -, -, e4, -⟩ := st_crash n a s zs p
        intro n' b a0
        have hn' : n' = (if p = true then a else s) + 1 := e1
        have hb : b = n' - 1 - (zs.length : Int) := by show _ - 1 - ((stZ n s zs 3 p).length : Int) = _; rw [e4]
        have ha0 : a0 = n - 1 - (zs.length : Int) := rfl
        cases p <;> simp at hn' <;> exact ⟨fun h => absurd rfl h, by omega, by omega, by omega, by omega, by omega⟩
      · obtain ⟨-, -, -, -, e5⟩ := st_none (n := n) (a := a) (s := s) (zs := zs) hgi hs h3
        rw [e5] at hk; cases hk
    · obtain ⟨e1, -, -, e4, -⟩ := st_sync (n := n) (a := a) (s := s) (zs := zs) hs
      intro n' b a0
      have hn' : n' = n := e1
      have hb : b = n' - 1 - (zs.length : Int) := by show _ - 1 - ((stZ n s zs k p).length : Int) = _; rw [e4]
      refine ⟨fun _ => ?_, ?_, ?_, ?_, ?_, ?_⟩ <;> omega
  · obtain ⟨-, -, hns, -⟩ := giveB_and hgi
    obtain ⟨e1, -, -, e4, -⟩ := st_give (a := a) hgi
    intro n' b a0
    have hn' : n' = n + 1 := e1
    have hb : b = n' - 1 - ((zs.length : Int) + 1) := by show _ - 1 - ((stZ n s zs k p).length : Int) = _; rw [e4, List.length_append]; simp
    refine ⟨fun _ => ?_, ?_, ?_, ?_, ?_, ?_⟩ <;> omega
set_option maxRecDepth 100000 in
set_option maxHeartbeats 8000000 in
theorem fnAside_small (A : Option Addr) (za : List Int) (ca : Nat) (B : Option Addr) (zb : List Int) (cb : Nat) (w : World) (ha : Byts w w.heap.size A za) (hb : Byts w w.heap.size B zb) (hl : za.length + zb.length ≤ 1048576) :
    Calls Try.prog 4 #[.slice A za.length ca, .slice B zb.length cb] w fun e w' => e = .returned (.bool true) ∧ Below w.heap.size w w' := by
  have HAy := Lib.hid ha
  have HBy := Lib.hid hb
  have hli : ¬ (1048576 : Int) < (za.length : Int) + (zb.length : Int) := by omega
  have hlb : zb.length ≤ 1048576 := by omega
  clear ha hb
  go_enter Try.func4, Try.ntmps4
  go_wp2_with fail
  refine (drawStep11 A za ca _ HAy.out).mono ?_
  rintro e w1 ⟨n, a, s, v, ys, k, p, rfl, hd⟩
  obtain ⟨Ag, cg, rfl, hrg⟩ := hd.own.form
  have hL9 := own9_lies hd.own
  have HLg := Lib.hid hL9
  have hly := hd.len
  have hs0 := hd.sure
  have hb1 := hd.below
  clear hd hL9
  have HG_0 := Lib.hid hrg
  clear hrg
  have HB_2 := Lib.hid (hb1)
  clear  hb1
  obtain ⟨w2, hw2⟩ : ∃ wn, (w1.alloc (.cells #[.int .i64 n, .int .i64 a, .int .i64 s, .slice Ag ys.length cg] 27)).alloc (.cells #[.int .i64 k, .bool p] 34) = wn := ⟨_, rfl⟩
  have hbx2 : Below w1.heap.size w1 w2 := by rw [← hw2]; exact (gAlloc w1 _).alloc (by simp) _
  have KG_20 : Hid (w2.heap[w1.heap.size]? = some (.cells #[.int .i64 n, .int .i64 a, .int .i64 s, .slice Ag ys.length cg] 27 (0, 0))) := by rw [← hw2, heap_alloc_old _ _ _ (by simp)]; exact heap_alloc_new _ _
  have KS_20 : Hid (w2.heap[w1.heap.size + 1]? = some (.cells #[.int .i64 k, .bool p] 34 (0, 0))) := by rw [← hw2, show w1.heap.size + 1 = (w1.alloc (.cells #[.int .i64 n, .int .i64 a, .int .i64 s, .slice Ag ys.length cg] 27)).heap.size by simp]; exact heap_alloc_new _ _
  have HG_3 := Lib.hid (HG_0.out.below hbx2)
  have HB_3 := Lib.hid (below_more HB_2.out hbx2)
  clear HG_0 HB_2 hbx2
  have HSi := Lib.hid (fun w h => iStepG n a s Ag ys cg k p w h HLg.out (by omega) (by omega))
  have HSs := Lib.hid (fun w h => sStepG n a s Ag ys cg k p w h HLg.out (by omega))
  have HM : Hid (sgOkB n a s ys k p = true → goodGB n a s ys = true ∧ goodGB (sgN n a s ys k p) (sgA n a s ys k p) (sgS n a s ys k p) (sgZ n a s ys k p) = true ∧ ((k ≠ 3 → sgN n a s ys k p - 1 - ((sgZ n a s ys k p).length : Int) = n - 1 - (ys.length : Int)) ∧ n - 1 - (ys.length : Int) ≤ sgN n a s ys k p - 1 - ((sgZ n a s ys k p).length : Int) ∧ sgN n a s ys k p - 1 - ((sgZ n a s ys k p).length : Int) - (n - 1 - (ys.length : Int)) ≤ a + 1 - n ∧ n ≤ sgN n a s ys k p ∧ 0 ≤ sgN n a s ys k p ∧ sgN n a s ys k p ≤ 1100)) := fun h => by
    obtain ⟨e1, e2, e3, e4, -⟩ := sg_yes h
    rw [sgOkB, Bool.and_eq_true] at h
    rw [e1, e2, e3, e4]
    exact ⟨h.1, st_good k p h.1, aside_math k p h.1 h.2⟩
  have hZ : (sgZ n a s ys k p).length ≤ 60 := by
    cases h : sgOkB n a s ys k p
    · rw [(sg_not h).2.2.2.1]; simp
    · exact (gvr_ok (HM.out h).2.1).2.2.2.2.2
  have hSs : 0 ≤ sgS n a s ys k p := by
    cases h : sgOkB n a s ys k p
    · rw [(sg_not h).2.2.1]; exact Int.le_refl 0
    · exact (gvr_ok (HM.out h).2.1).2.1.1
  generalize sgZ n a s ys k p = Z at *
  generalize sgN n a s ys k p = N at *
  generalize sgA n a s ys k p = As at *
  generalize sgS n a s ys k p = Su at *
  generalize sgOkB n a s ys k p = ok at *
  have cKG0 : w2.cell? ⟨w1.heap.size, 0, none⟩ = some (.int .i64 n) := cell_of_row _ _ 0 _ _ _ KG_20.out
  have cKG1 : w2.cell? ⟨w1.heap.size, 1, none⟩ = some (.int .i64 a) := cell_of_row _ _ 1 _ _ _ KG_20.out
  have cKG2 : w2.cell? ⟨w1.heap.size, 2, none⟩ = some (.int .i64 s) := cell_of_row _ _ 2 _ _ _ KG_20.out
  have cKG3 : w2.cell? ⟨w1.heap.size, 3, none⟩ = some (.slice Ag ys.length cg) := cell_of_row _ _ 3 _ _ _ KG_20.out
  have cKS0 : w2.cell? ⟨w1.heap.size + 1, 0, none⟩ = some (.int .i64 k) := cell_of_row _ _ 0 _ _ _ KS_20.out
  have cKS1 : w2.cell? ⟨w1.heap.size + 1, 1, none⟩ = some (.bool p) := cell_of_row _ _ 1 _ _ _ KS_20.out
  go_wp2_with fail
  clear cKG0 cKG1 cKG2 cKG3 cKS0 cKS1 hw2
  refine (HSi.out _ HG_3.out).mono ?_
  rintro e w4 ⟨v3, rfl, ho3, hb3⟩
  obtain ⟨Ax, cx, rfl, hr3⟩ := ho3.form
  clear ho3
  have HX_0 := Lib.hid hr3
  clear hr3
  have HG_5 := Lib.hid (HG_3.out.below hb3)
  have KG_5 := Lib.hid ((hb3.block _ (heap_lt KG_20.out)).trans KG_20.out)
  have KS_5 := Lib.hid ((hb3.block _ (heap_lt KS_20.out)).trans KS_20.out)
  have HB_5 := Lib.hid (below_more HB_3.out hb3)
  clear HG_3 KG_20 KS_20 HB_3 hb3
  obtain ⟨w6, hw6⟩ : ∃ wn, w4.alloc (.cells #[.int .i64 N, .int .i64 As, .int .i64 Su, .slice Ax Z.length cx] 27) = wn := ⟨_, rfl⟩
  have hbx6 : Below w4.heap.size w4 w6 := by rw [← hw6]; exact gAlloc _ _
  have KX_60 : Hid (w6.heap[w4.heap.size]? = some (.cells #[.int .i64 N, .int .i64 As, .int .i64 Su, .slice Ax Z.length cx] 27 (0, 0))) := by rw [← hw6]; exact heap_alloc_new _ _
  have HG_7 := Lib.hid (HG_5.out.below hbx6)
  have KG_7 := Lib.hid ((hbx6.block _ (heap_lt KG_5.out)).trans KG_5.out)
  have KS_7 := Lib.hid ((hbx6.block _ (heap_lt KS_5.out)).trans KS_5.out)
  have HX_7 := Lib.hid (HX_0.out.below hbx6)
  have HB_7 := Lib.hid (below_more HB_5.out hbx6)
  clear HG_5 KG_5 KS_5 HX_0 HB_5 hbx6
  have cKG0 : w6.cell? ⟨w1.heap.size, 0, none⟩ = some (.int .i64 n) := cell_of_row _ _ 0 _ _ _ KG_7.out
  have cKG1 : w6.cell? ⟨w1.heap.size, 1, none⟩ = some (.int .i64 a) := cell_of_row _ _ 1 _ _ _ KG_7.out
  have cKG2 : w6.cell? ⟨w1.heap.size, 2, none⟩ = some (.int .i64 s) := cell_of_row _ _ 2 _ _ _ KG_7.out
  have cKG3 : w6.cell? ⟨w1.heap.size, 3, none⟩ = some (.slice Ag ys.length cg) := cell_of_row _ _ 3 _ _ _ KG_7.out
  have cKS0 : w6.cell? ⟨w1.heap.size + 1, 0, none⟩ = some (.int .i64 k) := cell_of_row _ _ 0 _ _ _ KS_7.out
  have cKS1 : w6.cell? ⟨w1.heap.size + 1, 1, none⟩ = some (.bool p) := cell_of_row _ _ 1 _ _ _ KS_7.out
  have cKX0 : w6.cell? ⟨w4.heap.size, 0, none⟩ = some (.int .i64 N) := cell_of_row _ _ 0 _ _ _ KX_60.out
  have cKX1 : w6.cell? ⟨w4.heap.size, 1, none⟩ = some (.int .i64 As) := cell_of_row _ _ 1 _ _ _ KX_60.out
  have cKX2 : w6.cell? ⟨w4.heap.size, 2, none⟩ = some (.int .i64 Su) := cell_of_row _ _ 2 _ _ _ KX_60.out
  have cKX3 : w6.cell? ⟨w4.heap.size, 3, none⟩ = some (.slice Ax Z.length cx) := cell_of_row _ _ 3 _ _ _ KX_60.out
  go_wp2_with fail
  clear cKG0 cKG1 cKG2 cKG3 cKS0 cKS1 cKX0 cKX1 cKX2 cKX3 hw6
  refine (HSs.out _ HG_7.out).mono ?_
  rintro e w8 ⟨v4, rfl, ho4, hb4⟩
  obtain ⟨Aw, cw, rfl, hr4⟩ := ho4.form
  clear ho4
  have HW_0 := Lib.hid hr4
  clear hr4
  have HG_9 := Lib.hid (HG_7.out.below hb4)
  have KG_9 := Lib.hid ((hb4.block _ (heap_lt KG_7.out)).trans KG_7.out)
  have KS_9 := Lib.hid ((hb4.block _ (heap_lt KS_7.out)).trans KS_7.out)
  have HX_9 := Lib.hid (HX_7.out.below hb4)
  have KX_9 := Lib.hid ((hb4.block _ (heap_lt KX_60.out)).trans KX_60.out)
  have HB_9 := Lib.hid (below_more HB_7.out hb4)
  clear HG_7 KG_7 KS_7 HX_7 KX_60 HB_7 hb4
  obtain ⟨w10, hw10⟩ : ∃ wn, w8.alloc (.cells #[.int .i64 N, .int .i64 As, .int .i64 Su, .slice Aw Z.length cw] 27) = wn := ⟨_, rfl⟩
  have hbx10 : Below w8.heap.size w8 w10 := by rw [← hw10]; exact gAlloc _ _
  have KW_100 : Hid (w10.heap[w8.heap.size]? = some (.cells #[.int .i64 N, .int .i64 As, .int .i64 Su, .slice Aw Z.length cw] 27 (0, 0))) := by rw [← hw10]; exact heap_alloc_new _ _
  have HG_11 := Lib.hid (HG_9.out.below hbx10)
  have KG_11 := Lib.hid ((hbx10.block _ (heap_lt KG_9.out)).trans KG_9.out)
  have KS_11 := Lib.hid ((hbx10.block _ (heap_lt KS_9.out)).trans KS_9.out)
  have HX_11 := Lib.hid (HX_9.out.below hbx10)
  have KX_11 := Lib.hid ((hbx10.block _ (heap_lt KX_9.out)).trans KX_9.out)
  have HW_11 := Lib.hid (HW_0.out.below hbx10)
  have HB_11 := Lib.hid (below_more HB_9.out hbx10)
  clear HG_9 KG_9 KS_9 HX_9 KX_9 HW_0 HB_9 hbx10
  clear HSi HSs
  have HSame := Lib.hid (fun w' (h : Below w10.heap.size w10 w') => sameGv_self N As Su Ax Aw Z cx cw w' (HX_11.out.below h) (HW_11.out.below h) (by omega))
  have HGi := Lib.hid (fun w' (h : Below w10.heap.size w10 w') => iGoodG n a s Ag ys cg w' (HG_11.out.below h) (by omega) (by omega))
  have HGs := Lib.hid (fun w' (h : Below w10.heap.size w10 w') => sGoodG_any n a s Ag ys cg w' (HG_11.out.below h) (by omega))
  have HGx := Lib.hid (fun w' (h : Below w10.heap.size w10 w') => iGoodG N As Su Ax Z cx w' (HX_11.out.below h) (by omega) (by omega))
  cases ok
  · clear HM
    generalize goodGB n a s ys = gg at *
    cases gg
    · have cKG0 : w10.cell? ⟨w1.heap.size, 0, none⟩ = some (.int .i64 n) := cell_of_row _ _ 0 _ _ _ KG_11.out
      have cKG1 : w10.cell? ⟨w1.heap.size, 1, none⟩ = some (.int .i64 a) := cell_of_row _ _ 1 _ _ _ KG_11.out
      have cKG2 : w10.cell? ⟨w1.heap.size, 2, none⟩ = some (.int .i64 s) := cell_of_row _ _ 2 _ _ _ KG_11.out
      have cKG3 : w10.cell? ⟨w1.heap.size, 3, none⟩ = some (.slice Ag ys.length cg) := cell_of_row _ _ 3 _ _ _ KG_11.out
      have cKS0 : w10.cell? ⟨w1.heap.size + 1, 0, none⟩ = some (.int .i64 k) := cell_of_row _ _ 0 _ _ _ KS_11.out
      have cKS1 : w10.cell? ⟨w1.heap.size + 1, 1, none⟩ = some (.bool p) := cell_of_row _ _ 1 _ _ _ KS_11.out
      have cKX0 : w10.cell? ⟨w4.heap.size, 0, none⟩ = some (.int .i64 N) := cell_of_row _ _ 0 _ _ _ KX_11.out
      have cKX1 : w10.cell? ⟨w4.heap.size, 1, none⟩ = some (.int .i64 As) := cell_of_row _ _ 1 _ _ _ KX_11.out
      have cKX2 : w10.cell? ⟨w4.heap.size, 2, none⟩ = some (.int .i64 Su) := cell_of_row _ _ 2 _ _ _ KX_11.out
      have cKX3 : w10.cell? ⟨w4.heap.size, 3, none⟩ = some (.slice Ax Z.length cx) := cell_of_row _ _ 3 _ _ _ KX_11.out
      have cKW0 : w10.cell? ⟨w8.heap.size, 0, none⟩ = some (.int .i64 N) := cell_of_row _ _ 0 _ _ _ KW_100.out
      have cKW1 : w10.cell? ⟨w8.heap.size, 1, none⟩ = some (.int .i64 As) := cell_of_row _ _ 1 _ _ _ KW_100.out
      have cKW2 : w10.cell? ⟨w8.heap.size, 2, none⟩ = some (.int .i64 Su) := cell_of_row _ _ 2 _ _ _ KW_100.out
      have cKW3 : w10.cell? ⟨w8.heap.size, 3, none⟩ = some (.slice Aw Z.length cw) := cell_of_row _ _ 3 _ _ _ KW_100.out
      go_wp2_with fail
      have hq0 : w10.drew.cell? ⟨w4.heap.size, 0, none⟩ = some (.int .i64 N) ∧ w10.drew.cell? ⟨w4.heap.size, 1, none⟩ = some (.int .i64 As) ∧ w10.drew.cell? ⟨w4.heap.size, 2, none⟩ = some (.int .i64 Su) ∧ w10.drew.cell? ⟨w4.heap.size, 3, none⟩ = some (.slice Ax Z.length cx) ∧ w10.drew.cell? ⟨w8.heap.size, 0, none⟩ = some (.int .i64 N) ∧ w10.drew.cell? ⟨w8.heap.size, 1, none⟩ = some (.int .i64 As) ∧ w10.drew.cell? ⟨w8.heap.size, 2, none⟩ = some (.int .i64 Su) ∧ w10.drew.cell? ⟨w8.heap.size, 3, none⟩ = some (.slice Aw Z.length cw) ∧ w10.drew.cell? ⟨w1.heap.size, 0, none⟩ = some (.int .i64 n) ∧ w10.drew.cell? ⟨w1.heap.size, 1, none⟩ = some (.int .i64 a) ∧ w10.drew.cell? ⟨w1.heap.size, 2, none⟩ = some (.int .i64 s) ∧ w10.drew.cell? ⟨w1.heap.size, 3, none⟩ = some (.slice Ag ys.length cg) := ⟨cell_in gDrew cKX0, cell_in gDrew cKX1, cell_in gDrew cKX2, cell_in gDrew cKX3, cell_in gDrew cKW0, cell_in gDrew cKW1, cell_in gDrew cKW2, cell_in gDrew cKW3, cell_in gDrew cKG0, cell_in gDrew cKG1, cell_in gDrew cKG2, cell_in gDrew cKG3⟩
      apply wp_meet_at (fun w' => Below w10.heap.size w10 w')
      case hreg =>
        refine wp_region_held_drew (S := fun w' => w'.cell? ⟨w4.heap.size, 0, none⟩ = some (.int .i64 N) ∧ w'.cell? ⟨w4.heap.size, 1, none⟩ = some (.int .i64 As) ∧ w'.cell? ⟨w4.heap.size, 2, none⟩ = some (.int .i64 Su) ∧ w'.cell? ⟨w4.heap.size, 3, none⟩ = some (.slice Ax Z.length cx) ∧ w'.cell? ⟨w8.heap.size, 0, none⟩ = some (.int .i64 N) ∧ w'.cell? ⟨w8.heap.size, 1, none⟩ = some (.int .i64 As) ∧ w'.cell? ⟨w8.heap.size, 2, none⟩ = some (.int .i64 Su) ∧ w'.cell? ⟨w8.heap.size, 3, none⟩ = some (.slice Aw Z.length cw) ∧ w'.cell? ⟨w1.heap.size, 0, none⟩ = some (.int .i64 n) ∧ w'.cell? ⟨w1.heap.size, 1, none⟩ = some (.int .i64 a) ∧ w'.cell? ⟨w1.heap.size, 2, none⟩ = some (.int .i64 s) ∧ w'.cell? ⟨w1.heap.size, 3, none⟩ = some (.slice Ag ys.length cg)) (by kernel_rfl) hq0 (fun hHeld => ?_)
        refine wpAnyH_take (i := 0) (oi := { dst := some 43, op := Op.move (Operand.tmp 8), type := 4, pos := "laws.go:898", after := #[], guard := none }) (v := ?v0) rfl (by kernel_rfl) (by kernel_rfl) (by kernel_rfl) (fun _ _ _ h => by cases h.1) (Or.inl ⟨by rfl, ?hy0⟩) (by assumption) ?_
        case hy0 => (intro w hSw; (try dsimp only at hSw); go_simp; (try with_reducible rfl))
        try simp only [Act.put, List.setIfInBounds_toArray, List.set_cons_zero, List.set_cons_succ]
        refine wpAnyH_take (i := 1) (oi := { dst := some 44, op := Op.move (Operand.tmp 10), type := 4, pos := "laws.go:898", after := #[], guard := none }) (v := ?v1) rfl (by kernel_rfl) (by kernel_rfl) (by kernel_rfl) (fun _ _ _ h => by cases h.1) (Or.inl ⟨by rfl, ?hy1⟩) (by assumption) ?_
        case hy1 => (intro w hSw; (try dsimp only at hSw); go_simp; (try with_reducible rfl))
        try simp only [Act.put, List.setIfInBounds_toArray, List.set_cons_zero, List.set_cons_succ]
        refine wpAnyH_take (i := 2) (oi := { dst := some 45, op := Op.binOp BinOp.neq 4 (Operand.tmp 43) (Operand.tmp 44) 4, type := 4, pos := "laws.go:898", after := #[{ on := 0, ground := Ground.data }, { on := 1, ground := Ground.data }], guard := none }) (v := ?v2) rfl (by kernel_rfl) (by kernel_rfl) (by kernel_rfl) (fun _ _ _ h => by cases h.1) (Or.inl ⟨by rfl, ?hy2⟩) (by assumption) ?_
        case hy2 => (intro w hSw; (try dsimp only at hSw); go_simp; (try with_reducible rfl))
        try simp only [Act.put, List.setIfInBounds_toArray, List.set_cons_zero, List.set_cons_succ]
        refine wpAnyH_take (i := 3) (oi := { dst := some 46, op := Op.move (Operand.tmp 45), type := 4, pos := "laws.go:898", after := #[{ on := 2, ground := Ground.data }], guard := none }) (v := ?v3) rfl (by kernel_rfl) (by kernel_rfl) (by kernel_rfl) (fun _ _ _ h => by cases h.1) (Or.inl ⟨by rfl, ?hy3⟩) (by assumption) ?_
        case hy3 => (intro w hSw; (try dsimp only at hSw); go_simp; (try with_reducible rfl))
        try simp only [Act.put, List.setIfInBounds_toArray, List.set_cons_zero, List.set_cons_succ]
        refine wpAnyH_take (i := 4) (oi := { dst := some 47, op := Op.load 27 (Operand.tmp 7), type := 27, pos := "laws.go:898", after := #[{ on := 3, ground := Ground.guard }], guard := some (3, false) }) (v := ?v4) rfl (by kernel_rfl) (by kernel_rfl) (by kernel_rfl) (fun _ _ _ h => by cases h.1) (Or.inl ⟨by rfl, ?hy4⟩) (by assumption) ?_
        case hy4 => (intro w hSw; (try dsimp only at hSw); go_simp; (try with_reducible rfl))
        try simp only [Act.put, List.setIfInBounds_toArray, List.set_cons_zero, List.set_cons_succ]
        refine wpAnyH_take (i := 5) (oi := { dst := some 48, op := Op.load 27 (Operand.tmp 9), type := 27, pos := "laws.go:898", after := #[{ on := 3, ground := Ground.guard }], guard := some (3, false) }) (v := ?v5) rfl (by kernel_rfl) (by kernel_rfl) (by kernel_rfl) (fun _ _ _ h => by cases h.1) (Or.inl ⟨by rfl, ?hy5⟩) (by assumption) ?_
        case hy5 => (intro w hSw; (try dsimp only at hSw); go_simp; (try with_reducible rfl))
        try simp only [Act.put, List.setIfInBounds_toArray, List.set_cons_zero, List.set_cons_succ]
        refine wpAnyH_ready (rs := [6]) (by kernel_rfl) (by simp) (AllReadyH.cons (o := { dst := some 49, op := Op.call { callee := Callee.value (Operand.func 15), args := #[Operand.tmp 47, Operand.tmp 48], argTypes := #[27, 27] }, type := 4, pos := "laws.go:898", after := #[{ on := 4, ground := Ground.data }, { on := 5, ground := Ground.data }, { on := 3, ground := Ground.chain }, { on := 3, ground := Ground.guard }], guard := some (3, false) }) rfl (fun K hK => ?_) AllReadyH.nil)
        go_simp
        go_at_call 15
        refine (HSame.out _ gDrew).mono ?_
        rintro e w1' ⟨rfl, hb1⟩
        have hB1 := below_more gDrew hb1
        have hq1 : w1'.cell? ⟨w4.heap.size, 0, none⟩ = some (.int .i64 N) ∧ w1'.cell? ⟨w4.heap.size, 1, none⟩ = some (.int .i64 As) ∧ w1'.cell? ⟨w4.heap.size, 2, none⟩ = some (.int .i64 Su) ∧ w1'.cell? ⟨w4.heap.size, 3, none⟩ = some (.slice Ax Z.length cx) ∧ w1'.cell? ⟨w8.heap.size, 0, none⟩ = some (.int .i64 N) ∧ w1'.cell? ⟨w8.heap.size, 1, none⟩ = some (.int .i64 As) ∧ w1'.cell? ⟨w8.heap.size, 2, none⟩ = some (.int .i64 Su) ∧ w1'.cell? ⟨w8.heap.size, 3, none⟩ = some (.slice Aw Z.length cw) ∧ w1'.cell? ⟨w1.heap.size, 0, none⟩ = some (.int .i64 n) ∧ w1'.cell? ⟨w1.heap.size, 1, none⟩ = some (.int .i64 a) ∧ w1'.cell? ⟨w1.heap.size, 2, none⟩ = some (.int .i64 s) ∧ w1'.cell? ⟨w1.heap.size, 3, none⟩ = some (.slice Ag ys.length cg) := ⟨cell_in hB1 cKX0, cell_in hB1 cKX1, cell_in hB1 cKX2, cell_in hB1 cKX3, cell_in hB1 cKW0, cell_in hB1 cKW1, cell_in hB1 cKW2, cell_in hB1 cKW3, cell_in hB1 cKG0, cell_in hB1 cKG1, cell_in hB1 cKG2, cell_in hB1 cKG3⟩
        go_wp2_with fail
        refine hK.out _ _ hq1 (fun hHeld => ?_)
        clear hK K
        try simp only [Act.put, List.setIfInBounds_toArray, List.set_cons_zero, List.set_cons_succ]
        refine wpAnyH_take (i := 7) (oi := { dst := some 50, op := Op.unOp UnOp.not 4 (Operand.tmp 49), type := 4, pos := "laws.go:898", after := #[{ on := 6, ground := Ground.data }, { on := 3, ground := Ground.guard }], guard := some (3, false) }) (v := ?v7) rfl (by kernel_rfl) (by kernel_rfl) (by kernel_rfl) (fun _ _ _ h => by cases h.1) (Or.inl ⟨by rfl, ?hy7⟩) (by assumption) ?_
        case hy7 => (intro w hSw; (try dsimp only at hSw); go_simp; (try with_reducible rfl))
        try simp only [Act.put, List.setIfInBounds_toArray, List.set_cons_zero, List.set_cons_succ]
        refine wpAnyH_take (i := 8) (oi := { dst := some 51, op := Op.pick (Operand.tmp 46) (Operand.const (Value.bool true)) (Operand.tmp 50), type := 4, pos := "laws.go:898", after := #[{ on := 3, ground := Ground.data }, { on := 7, ground := Ground.data }], guard := none }) (v := ?v8) rfl (by kernel_rfl) (by kernel_rfl) (by kernel_rfl) (fun _ _ _ h => by cases h.1) (Or.inl ⟨by rfl, ?hy8⟩) (by assumption) ?_
        case hy8 => (intro w hSw; (try dsimp only at hSw); go_simp; (try with_reducible rfl))
        try simp only [Act.put, List.setIfInBounds_toArray, List.set_cons_zero, List.set_cons_succ]
        refine wpAnyH_take (i := 9) (oi := { dst := some 52, op := Op.move (Operand.tmp 51), type := 4, pos := "laws.go:898", after := #[{ on := 8, ground := Ground.data }, { on := 6, ground := Ground.chain }], guard := none }) (v := ?v9) rfl (by kernel_rfl) (by kernel_rfl) (by kernel_rfl) (fun _ _ _ h => by cases h.1) (Or.inl ⟨by rfl, ?hy9⟩) (by assumption) ?_
        case hy9 => (intro w hSw; (try dsimp only at hSw); go_simp; (try with_reducible rfl))
        try simp only [Act.put, List.setIfInBounds_toArray, List.set_cons_zero, List.set_cons_succ]
        refine wpAnyH_take (i := 10) (oi := { dst := some 53, op := Op.load 27 (Operand.tmp 5), type := 27, pos := "laws.go:898", after := #[{ on := 9, ground := Ground.guard }], guard := some (9, false) }) (v := ?v10) rfl (by kernel_rfl) (by kernel_rfl) (by kernel_rfl) (fun _ _ _ h => by cases h.1) (Or.inl ⟨by rfl, ?hy10⟩) (by assumption) ?_
        case hy10 => (intro w hSw; (try dsimp only at hSw); go_simp; (try with_reducible rfl))
        try simp only [Act.put, List.setIfInBounds_toArray, List.set_cons_zero, List.set_cons_succ]
        refine wpAnyH_take (i := 12) (oi := { dst := some 55, op := Op.load 27 (Operand.tmp 5), type := 27, pos := "laws.go:898", after := #[{ on := 9, ground := Ground.guard }], guard := some (9, false) }) (v := ?v12) rfl (by kernel_rfl) (by kernel_rfl) (by kernel_rfl) (fun _ _ _ h => by cases h.1) (Or.inl ⟨by rfl, ?hy12⟩) (by assumption) ?_
        case hy12 => (intro w hSw; (try dsimp only at hSw); go_simp; (try with_reducible rfl))
        try simp only [Act.put, List.setIfInBounds_toArray, List.set_cons_zero, List.set_cons_succ]
        refine wpAnyH_ready (rs := [11]) (by kernel_rfl) (by simp) (AllReadyH.cons (o := { dst := some 54, op := Op.call { callee := Callee.value (Operand.func 17), args := #[Operand.tmp 53], argTypes := #[27] }, type := 4, pos := "laws.go:898", after := #[{ on := 10, ground := Ground.data }, { on := 9, ground := Ground.chain }, { on := 9, ground := Ground.guard }], guard := some (9, false) }) rfl (fun K hK => ?_) AllReadyH.nil)
        go_simp
        go_at_call 17
        refine (HGi.out _ hB1).mono ?_
        rintro e w2' ⟨rfl, hb2⟩
        have hB2 := below_more hB1 hb2
        have hq2 : w2'.cell? ⟨w4.heap.size, 0, none⟩ = some (.int .i64 N) ∧ w2'.cell? ⟨w4.heap.size, 1, none⟩ = some (.int .i64 As) ∧ w2'.cell? ⟨w4.heap.size, 2, none⟩ = some (.int .i64 Su) ∧ w2'.cell? ⟨w4.heap.size, 3, none⟩ = some (.slice Ax Z.length cx) ∧ w2'.cell? ⟨w8.heap.size, 0, none⟩ = some (.int .i64 N) ∧ w2'.cell? ⟨w8.heap.size, 1, none⟩ = some (.int .i64 As) ∧ w2'.cell? ⟨w8.heap.size, 2, none⟩ = some (.int .i64 Su) ∧ w2'.cell? ⟨w8.heap.size, 3, none⟩ = some (.slice Aw Z.length cw) ∧ w2'.cell? ⟨w1.heap.size, 0, none⟩ = some (.int .i64 n) ∧ w2'.cell? ⟨w1.heap.size, 1, none⟩ = some (.int .i64 a) ∧ w2'.cell? ⟨w1.heap.size, 2, none⟩ = some (.int .i64 s) ∧ w2'.cell? ⟨w1.heap.size, 3, none⟩ = some (.slice Ag ys.length cg) := ⟨cell_in hB2 cKX0, cell_in hB2 cKX1, cell_in hB2 cKX2, cell_in hB2 cKX3, cell_in hB2 cKW0, cell_in hB2 cKW1, cell_in hB2 cKW2, cell_in hB2 cKW3, cell_in hB2 cKG0, cell_in hB2 cKG1, cell_in hB2 cKG2, cell_in hB2 cKG3⟩
        go_wp2_with fail
        refine hK.out _ _ hq2 (fun hHeld => ?_)
        clear hK K
        try simp only [Act.put, List.setIfInBounds_toArray, List.set_cons_zero, List.set_cons_succ]
        refine wpAnyH_ready (rs := [13]) (by kernel_rfl) (by simp) (AllReadyH.cons (o := { dst := some 56, op := Op.call { callee := Callee.value (Operand.func 25), args := #[Operand.tmp 55], argTypes := #[27] }, type := 4, pos := "laws.go:898", after := #[{ on := 12, ground := Ground.data }, { on := 11, ground := Ground.chain }, { on := 9, ground := Ground.guard }], guard := some (9, false) }) rfl (fun K hK => ?_) AllReadyH.nil)
        go_simp
        go_at_call 25
        refine (HGs.out _ hB2).mono ?_
        rintro e w3' ⟨rfl, hb3⟩
        have hB3 := below_more hB2 hb3
        have hq3 : w3'.cell? ⟨w4.heap.size, 0, none⟩ = some (.int .i64 N) ∧ w3'.cell? ⟨w4.heap.size, 1, none⟩ = some (.int .i64 As) ∧ w3'.cell? ⟨w4.heap.size, 2, none⟩ = some (.int .i64 Su) ∧ w3'.cell? ⟨w4.heap.size, 3, none⟩ = some (.slice Ax Z.length cx) ∧ w3'.cell? ⟨w8.heap.size, 0, none⟩ = some (.int .i64 N) ∧ w3'.cell? ⟨w8.heap.size, 1, none⟩ = some (.int .i64 As) ∧ w3'.cell? ⟨w8.heap.size, 2, none⟩ = some (.int .i64 Su) ∧ w3'.cell? ⟨w8.heap.size, 3, none⟩ = some (.slice Aw Z.length cw) ∧ w3'.cell? ⟨w1.heap.size, 0, none⟩ = some (.int .i64 n) ∧ w3'.cell? ⟨w1.heap.size, 1, none⟩ = some (.int .i64 a) ∧ w3'.cell? ⟨w1.heap.size, 2, none⟩ = some (.int .i64 s) ∧ w3'.cell? ⟨w1.heap.size, 3, none⟩ = some (.slice Ag ys.length cg) := ⟨cell_in hB3 cKX0, cell_in hB3 cKX1, cell_in hB3 cKX2, cell_in hB3 cKX3, cell_in hB3 cKW0, cell_in hB3 cKW1, cell_in hB3 cKW2, cell_in hB3 cKW3, cell_in hB3 cKG0, cell_in hB3 cKG1, cell_in hB3 cKG2, cell_in hB3 cKG3⟩
        go_wp2_with fail
        refine hK.out _ _ hq3 (fun hHeld => ?_)
        clear hK K
        try simp only [Act.put, List.setIfInBounds_toArray, List.set_cons_zero, List.set_cons_succ]
        refine wpAnyH_take (i := 14) (oi := { dst := some 57, op := Op.binOp BinOp.neq 4 (Operand.tmp 54) (Operand.tmp 56) 4, type := 4, pos := "laws.go:898", after := #[{ on := 11, ground := Ground.data }, { on := 13, ground := Ground.data }, { on := 9, ground := Ground.guard }], guard := some (9, false) }) (v := ?v14) rfl (by kernel_rfl) (by kernel_rfl) (by kernel_rfl) (fun _ _ _ h => by cases h.1) (Or.inl ⟨by rfl, ?hy14⟩) (by assumption) ?_
        case hy14 => (intro w hSw; (try dsimp only at hSw); go_simp; (try with_reducible rfl))
        try simp only [Act.put, List.setIfInBounds_toArray, List.set_cons_zero, List.set_cons_succ]
        refine wpAnyH_take (i := 15) (oi := { dst := some 58, op := Op.pick (Operand.tmp 52) (Operand.const (Value.bool true)) (Operand.tmp 57), type := 4, pos := "laws.go:898", after := #[{ on := 9, ground := Ground.data }, { on := 14, ground := Ground.data }], guard := none }) (v := ?v15) rfl (by kernel_rfl) (by kernel_rfl) (by kernel_rfl) (fun _ _ _ h => by cases h.1) (Or.inl ⟨by rfl, ?hy15⟩) (by assumption) ?_
        case hy15 => (intro w hSw; (try dsimp only at hSw); go_simp; (try with_reducible rfl))
        try simp only [Act.put, List.setIfInBounds_toArray, List.set_cons_zero, List.set_cons_succ]
        refine wpAnyH_take (i := 16) (oi := { dst := some 59, op := Op.move (Operand.tmp 58), type := 4, pos := "laws.go:898", after := #[{ on := 15, ground := Ground.data }, { on := 13, ground := Ground.chain }], guard := none }) (v := ?v16) rfl (by kernel_rfl) (by kernel_rfl) (by kernel_rfl) (fun _ _ _ h => by cases h.1) (Or.inl ⟨by rfl, ?hy16⟩) (by assumption) ?_
        case hy16 => (intro w hSw; (try dsimp only at hSw); go_simp; (try with_reducible rfl))
        try simp only [Act.put, List.setIfInBounds_toArray, List.set_cons_zero, List.set_cons_succ]
        refine wpAnyH_take (i := 17) (oi := { dst := some 60, op := Op.move (Operand.tmp 8), type := 4, pos := "laws.go:898", after := #[{ on := 16, ground := Ground.guard }], guard := some (16, false) }) (v := ?v17) rfl (by kernel_rfl) (by kernel_rfl) (by kernel_rfl) (fun _ _ _ h => by cases h.1) (Or.inl ⟨by rfl, ?hy17⟩) (by assumption) ?_
        case hy17 => (intro w hSw; (try dsimp only at hSw); go_simp; (try with_reducible rfl))
        try simp only [Act.put, List.setIfInBounds_toArray, List.set_cons_zero, List.set_cons_succ]
        refine wpAnyH_take (i := 18) (oi := { dst := some 61, op := Op.move (Operand.tmp 60), type := 4, pos := "laws.go:898", after := #[{ on := 17, ground := Ground.data }, { on := 16, ground := Ground.chain }, { on := 16, ground := Ground.guard }], guard := some (16, false) }) (v := ?v18) rfl (by kernel_rfl) (by kernel_rfl) (by kernel_rfl) (fun _ _ _ h => by cases h.1) (Or.inl ⟨by rfl, ?hy18⟩) (by assumption) ?_
        case hy18 => (intro w hSw; (try dsimp only at hSw); go_simp; (try with_reducible rfl))
        try simp only [Act.put, List.setIfInBounds_toArray, List.set_cons_zero, List.set_cons_succ]
        refine wpAnyH_take (i := 19) (oi := { dst := some 62, op := Op.load 27 (Operand.tmp 7), type := 27, pos := "laws.go:898", after := #[{ on := 18, ground := Ground.guard }], guard := some (18, true) }) (v := undef) rfl (by kernel_rfl) (by kernel_rfl) (by kernel_rfl) (fun _ _ _ h => by cases h.1) (Or.inr ⟨by rfl, rfl⟩) (by assumption) ?_
        try simp only [Act.put, List.setIfInBounds_toArray, List.set_cons_zero, List.set_cons_succ]
        refine wpAnyH_take (i := 20) (oi := { dst := some 63, op := Op.call { callee := Callee.value (Operand.func 17), args := #[Operand.tmp 62], argTypes := #[27] }, type := 4, pos := "laws.go:898", after := #[{ on := 19, ground := Ground.data }, { on := 18, ground := Ground.chain }, { on := 18, ground := Ground.guard }], guard := some (18, true) }) (v := undef) rfl (by kernel_rfl) (by kernel_rfl) (by kernel_rfl) (fun _ _ _ h => by cases h.1) (Or.inr ⟨by rfl, rfl⟩) (by assumption) ?_
        try simp only [Act.put, List.setIfInBounds_toArray, List.set_cons_zero, List.set_cons_succ]
        refine wpAnyH_take (i := 21) (oi := { dst := some 64, op := Op.unOp UnOp.not 4 (Operand.tmp 63), type := 4, pos := "laws.go:898", after := #[{ on := 20, ground := Ground.data }, { on := 18, ground := Ground.guard }], guard := some (18, true) }) (v := undef) rfl (by kernel_rfl) (by kernel_rfl) (by kernel_rfl) (fun _ _ _ h => by cases h.1) (Or.inr ⟨by rfl, rfl⟩) (by assumption) ?_
        try simp only [Act.put, List.setIfInBounds_toArray, List.set_cons_zero, List.set_cons_succ]
        refine wpAnyH_take (i := 22) (oi := { dst := some 65, op := Op.pick (Operand.tmp 61) (Operand.tmp 64) (Operand.const (Value.bool false)), type := 4, pos := "laws.go:898", after := #[{ on := 18, ground := Ground.data }, { on := 21, ground := Ground.data }, { on := 16, ground := Ground.guard }], guard := some (16, false) }) (v := ?v22) rfl (by kernel_rfl) (by kernel_rfl) (by kernel_rfl) (fun _ _ _ h => by cases h.1) (Or.inl ⟨by rfl, ?hy22⟩) (by assumption) ?_
        case hy22 => (intro w hSw; (try dsimp only at hSw); go_simp; (try with_reducible rfl))
        try simp only [Act.put, List.setIfInBounds_toArray, List.set_cons_zero, List.set_cons_succ]
        refine wpAnyH_take (i := 23) (oi := { dst := some 66, op := Op.pick (Operand.tmp 59) (Operand.const (Value.bool true)) (Operand.tmp 65), type := 4, pos := "laws.go:898", after := #[{ on := 16, ground := Ground.data }, { on := 22, ground := Ground.data }], guard := none }) (v := ?v23) rfl (by kernel_rfl) (by kernel_rfl) (by kernel_rfl) (fun _ _ _ h => by cases h.1) (Or.inl ⟨by rfl, ?hy23⟩) (by assumption) ?_
        case hy23 => (intro w hSw; (try dsimp only at hSw); go_simp; (try with_reducible rfl))
        try simp only [Act.put, List.setIfInBounds_toArray, List.set_cons_zero, List.set_cons_succ]
        refine wpAnyH_done (by kernel_rfl) ?_ _
        exact ⟨rfl, rfl, hB3⟩
      case himp =>
        clear hq0 HSame HGi HGs HGx cKG0 cKG1 cKG2 cKG3 cKS0 cKS1 cKX0 cKX1 cKX2 cKX3 cKW0 cKW1 cKW2 cKW3 hw10
        intro w9 hb9
        have HG_12 := Lib.hid (HG_11.out.below hb9)
        have KG_12 := Lib.hid ((hb9.block _ (heap_lt KG_11.out)).trans KG_11.out)
        have KS_12 := Lib.hid ((hb9.block _ (heap_lt KS_11.out)).trans KS_11.out)
        have HX_12 := Lib.hid (HX_11.out.below hb9)
        have KX_12 := Lib.hid ((hb9.block _ (heap_lt KX_11.out)).trans KX_11.out)
        have HW_12 := Lib.hid (HW_11.out.below hb9)
        have KW_12 := Lib.hid ((hb9.block _ (heap_lt KW_100.out)).trans KW_100.out)
        have HB_12 := Lib.hid (below_more HB_11.out hb9)
        clear HG_11 KG_11 KS_11 HX_11 KX_11 HW_11 KW_100 HB_11 hb9
        have cKG0 : w9.cell? ⟨w1.heap.size, 0, none⟩ = some (.int .i64 n) := cell_of_row _ _ 0 _ _ _ KG_12.out
        have cKG1 : w9.cell? ⟨w1.heap.size, 1, none⟩ = some (.int .i64 a) := cell_of_row _ _ 1 _ _ _ KG_12.out
        have cKG2 : w9.cell? ⟨w1.heap.size, 2, none⟩ = some (.int .i64 s) := cell_of_row _ _ 2 _ _ _ KG_12.out
        have cKG3 : w9.cell? ⟨w1.heap.size, 3, none⟩ = some (.slice Ag ys.length cg) := cell_of_row _ _ 3 _ _ _ KG_12.out
        have cKS0 : w9.cell? ⟨w1.heap.size + 1, 0, none⟩ = some (.int .i64 k) := cell_of_row _ _ 0 _ _ _ KS_12.out
        have cKS1 : w9.cell? ⟨w1.heap.size + 1, 1, none⟩ = some (.bool p) := cell_of_row _ _ 1 _ _ _ KS_12.out
        have cKX0 : w9.cell? ⟨w4.heap.size, 0, none⟩ = some (.int .i64 N) := cell_of_row _ _ 0 _ _ _ KX_12.out
        have cKX1 : w9.cell? ⟨w4.heap.size, 1, none⟩ = some (.int .i64 As) := cell_of_row _ _ 1 _ _ _ KX_12.out
        have cKX2 : w9.cell? ⟨w4.heap.size, 2, none⟩ = some (.int .i64 Su) := cell_of_row _ _ 2 _ _ _ KX_12.out
        have cKX3 : w9.cell? ⟨w4.heap.size, 3, none⟩ = some (.slice Ax Z.length cx) := cell_of_row _ _ 3 _ _ _ KX_12.out
        go_wp2_with fail
        clear cKG0 cKG1 cKG2 cKG3 cKS0 cKS1 cKX0 cKX1 cKX2 cKX3
        refine (drawRoom11 B zb cb _ (byts_on11 HBy.out HB_12.out)).mono ?_
        rintro e w13 ⟨nu, au, su, vu, zu, rfl, hdu⟩
        obtain ⟨Au, cu, rfl, hru⟩ := hdu.own.form
        have hlu := hdu.len
        have hsu := hdu.sure
        have hbu := hdu.below
        clear hdu
        have HU_0 := Lib.hid hru
        clear hru
        have KG_14 := Lib.hid ((hbu.block _ (heap_lt KG_12.out)).trans KG_12.out)
        have KS_14 := Lib.hid ((hbu.block _ (heap_lt KS_12.out)).trans KS_12.out)
        have KX_14 := Lib.hid ((hbu.block _ (heap_lt KX_12.out)).trans KX_12.out)
        have HB_14 := Lib.hid (below_more HB_12.out hbu)
        clear KG_12 KS_12 KX_12 HB_12 hbu
        obtain ⟨w15, hw15⟩ : ∃ wn, w13.alloc (.cells #[.int .i64 nu, .int .i64 au, .int .i64 su, .slice Au zu.length cu] 27) = wn := ⟨_, rfl⟩
        have hbx15 : Below w13.heap.size w13 w15 := by rw [← hw15]; exact gAlloc _ _
        have KU_150 : Hid (w15.heap[w13.heap.size]? = some (.cells #[.int .i64 nu, .int .i64 au, .int .i64 su, .slice Au zu.length cu] 27 (0, 0))) := by rw [← hw15]; exact heap_alloc_new _ _
        have HU_16 := Lib.hid (HU_0.out.below hbx15)
        have HB_16 := Lib.hid (below_more HB_14.out hbx15)
        clear HU_0 HB_14 hbx15
        have HI1 := Lib.hid (fun w h => iRoom11 nu au su Au zu cu w h (by omega) (by omega))
        have HI2 := Lib.hid (fun w h => sRoom nu au su Au zu cu w h (by omega))
        generalize roI11 nu au su zu = lo at *
        generalize goodGB nu au su zu = gb at *
        have cKU0 : w15.cell? ⟨w13.heap.size, 0, none⟩ = some (.int .i64 nu) := cell_of_row _ _ 0 _ _ _ KU_150.out
        have cKU1 : w15.cell? ⟨w13.heap.size, 1, none⟩ = some (.int .i64 au) := cell_of_row _ _ 1 _ _ _ KU_150.out
        have cKU2 : w15.cell? ⟨w13.heap.size, 2, none⟩ = some (.int .i64 su) := cell_of_row _ _ 2 _ _ _ KU_150.out
        have cKU3 : w15.cell? ⟨w13.heap.size, 3, none⟩ = some (.slice Au zu.length cu) := cell_of_row _ _ 3 _ _ _ KU_150.out
        go_wp2_with fail
        clear cKU0 cKU1 cKU2 cKU3 hw15
        refine (HI1.out _ HU_16.out).mono ?_
        rintro e w17 ⟨rfl, hb6⟩
        have HU_18 := Lib.hid (HU_16.out.below hb6)
        have KU_18 := Lib.hid ((hb6.block _ (heap_lt KU_150.out)).trans KU_150.out)
        have HB_18 := Lib.hid (below_more HB_16.out hb6)
        clear HU_16 KU_150 HB_16 hb6
        have cKU0 : w17.cell? ⟨w13.heap.size, 0, none⟩ = some (.int .i64 nu) := cell_of_row _ _ 0 _ _ _ KU_18.out
        have cKU1 : w17.cell? ⟨w13.heap.size, 1, none⟩ = some (.int .i64 au) := cell_of_row _ _ 1 _ _ _ KU_18.out
        have cKU2 : w17.cell? ⟨w13.heap.size, 2, none⟩ = some (.int .i64 su) := cell_of_row _ _ 2 _ _ _ KU_18.out
        have cKU3 : w17.cell? ⟨w13.heap.size, 3, none⟩ = some (.slice Au zu.length cu) := cell_of_row _ _ 3 _ _ _ KU_18.out
        go_wp2_with fail
        clear cKU0 cKU1 cKU2 cKU3
        refine (HI2.out _ HU_18.out).mono ?_
        rintro e wz ⟨rfl, hbz⟩
        have HBz := Lib.hid (below_more HB_18.out hbz)
        clear hbz
        go_wp2_with fail
        go_ret
        exact ⟨rfl, HBz.out⟩
    · have cKG0 : w10.cell? ⟨w1.heap.size, 0, none⟩ = some (.int .i64 n) := cell_of_row _ _ 0 _ _ _ KG_11.out
      have cKG1 : w10.cell? ⟨w1.heap.size, 1, none⟩ = some (.int .i64 a) := cell_of_row _ _ 1 _ _ _ KG_11.out
      have cKG2 : w10.cell? ⟨w1.heap.size, 2, none⟩ = some (.int .i64 s) := cell_of_row _ _ 2 _ _ _ KG_11.out
      have cKG3 : w10.cell? ⟨w1.heap.size, 3, none⟩ = some (.slice Ag ys.length cg) := cell_of_row _ _ 3 _ _ _ KG_11.out
      have cKS0 : w10.cell? ⟨w1.heap.size + 1, 0, none⟩ = some (.int .i64 k) := cell_of_row _ _ 0 _ _ _ KS_11.out
      have cKS1 : w10.cell? ⟨w1.heap.size + 1, 1, none⟩ = some (.bool p) := cell_of_row _ _ 1 _ _ _ KS_11.out
      have cKX0 : w10.cell? ⟨w4.heap.size, 0, none⟩ = some (.int .i64 N) := cell_of_row _ _ 0 _ _ _ KX_11.out
      have cKX1 : w10.cell? ⟨w4.heap.size, 1, none⟩ = some (.int .i64 As) := cell_of_row _ _ 1 _ _ _ KX_11.out
      have cKX2 : w10.cell? ⟨w4.heap.size, 2, none⟩ = some (.int .i64 Su) := cell_of_row _ _ 2 _ _ _ KX_11.out
      have cKX3 : w10.cell? ⟨w4.heap.size, 3, none⟩ = some (.slice Ax Z.length cx) := cell_of_row _ _ 3 _ _ _ KX_11.out
      have cKW0 : w10.cell? ⟨w8.heap.size, 0, none⟩ = some (.int .i64 N) := cell_of_row _ _ 0 _ _ _ KW_100.out
      have cKW1 : w10.cell? ⟨w8.heap.size, 1, none⟩ = some (.int .i64 As) := cell_of_row _ _ 1 _ _ _ KW_100.out
      have cKW2 : w10.cell? ⟨w8.heap.size, 2, none⟩ = some (.int .i64 Su) := cell_of_row _ _ 2 _ _ _ KW_100.out
      have cKW3 : w10.cell? ⟨w8.heap.size, 3, none⟩ = some (.slice Aw Z.length cw) := cell_of_row _ _ 3 _ _ _ KW_100.out
      go_wp2_with fail
      have hq0 : w10.drew.cell? ⟨w4.heap.size, 0, none⟩ = some (.int .i64 N) ∧ w10.drew.cell? ⟨w4.heap.size, 1, none⟩ = some (.int .i64 As) ∧ w10.drew.cell? ⟨w4.heap.size, 2, none⟩ = some (.int .i64 Su) ∧ w10.drew.cell? ⟨w4.heap.size, 3, none⟩ = some (.slice Ax Z.length cx) ∧ w10.drew.cell? ⟨w8.heap.size, 0, none⟩ = some (.int .i64 N) ∧ w10.drew.cell? ⟨w8.heap.size, 1, none⟩ = some (.int .i64 As) ∧ w10.drew.cell? ⟨w8.heap.size, 2, none⟩ = some (.int .i64 Su) ∧ w10.drew.cell? ⟨w8.heap.size, 3, none⟩ = some (.slice Aw Z.length cw) ∧ w10.drew.cell? ⟨w1.heap.size, 0, none⟩ = some (.int .i64 n) ∧ w10.drew.cell? ⟨w1.heap.size, 1, none⟩ = some (.int .i64 a) ∧ w10.drew.cell? ⟨w1.heap.size, 2, none⟩ = some (.int .i64 s) ∧ w10.drew.cell? ⟨w1.heap.size, 3, none⟩ = some (.slice Ag ys.length cg) := ⟨cell_in gDrew cKX0, cell_in gDrew cKX1, cell_in gDrew cKX2, cell_in gDrew cKX3, cell_in gDrew cKW0, cell_in gDrew cKW1, cell_in gDrew cKW2, cell_in gDrew cKW3, cell_in gDrew cKG0, cell_in gDrew cKG1, cell_in gDrew cKG2, cell_in gDrew cKG3⟩
      apply wp_meet_at (fun w' => Below w10.heap.size w10 w')
      case hreg =>
        refine wp_region_held_drew (S := fun w' => w'.cell? ⟨w4.heap.size, 0, none⟩ = some (.int .i64 N) ∧ w'.cell? ⟨w4.heap.size, 1, none⟩ = some (.int .i64 As) ∧ w'.cell? ⟨w4.heap.size, 2, none⟩ = some (.int .i64 Su) ∧ w'.cell? ⟨w4.heap.size, 3, none⟩ = some (.slice Ax Z.length cx) ∧ w'.cell? ⟨w8.heap.size, 0, none⟩ = some (.int .i64 N) ∧ w'.cell? ⟨w8.heap.size, 1, none⟩ = some (.int .i64 As) ∧ w'.cell? ⟨w8.heap.size, 2, none⟩ = some (.int .i64 Su) ∧ w'.cell? ⟨w8.heap.size, 3, none⟩ = some (.slice Aw Z.length cw) ∧ w'.cell? ⟨w1.heap.size, 0, none⟩ = some (.int .i64 n) ∧ w'.cell? ⟨w1.heap.size, 1, none⟩ = some (.int .i64 a) ∧ w'.cell? ⟨w1.heap.size, 2, none⟩ = some (.int .i64 s) ∧ w'.cell? ⟨w1.heap.size, 3, none⟩ = some (.slice Ag ys.length cg)) (by kernel_rfl) hq0 (fun hHeld => ?_)
        refine wpAnyH_take (i := 0) (oi := { dst := some 43, op := Op.move (Operand.tmp 8), type := 4, pos := "laws.go:898", after := #[], guard := none }) (v := ?v0) rfl (by kernel_rfl) (by kernel_rfl) (by kernel_rfl) (fun _ _ _ h => by cases h.1) (Or.inl ⟨by rfl, ?hy0⟩) (by assumption) ?_
        case hy0 => (intro w hSw; (try dsimp only at hSw); go_simp; (try with_reducible rfl))
        try simp only [Act.put, List.setIfInBounds_toArray, List.set_cons_zero, List.set_cons_succ]
        refine wpAnyH_take (i := 1) (oi := { dst := some 44, op := Op.move (Operand.tmp 10), type := 4, pos := "laws.go:898", after := #[], guard := none }) (v := ?v1) rfl (by kernel_rfl) (by kernel_rfl) (by kernel_rfl) (fun _ _ _ h => by cases h.1) (Or.inl ⟨by rfl, ?hy1⟩) (by assumption) ?_
        case hy1 => (intro w hSw; (try dsimp only at hSw); go_simp; (try with_reducible rfl))
        try simp only [Act.put, List.setIfInBounds_toArray, List.set_cons_zero, List.set_cons_succ]
        refine wpAnyH_take (i := 2) (oi := { dst := some 45, op := Op.binOp BinOp.neq 4 (Operand.tmp 43) (Operand.tmp 44) 4, type := 4, pos := "laws.go:898", after := #[{ on := 0, ground := Ground.data }, { on := 1, ground := Ground.data }], guard := none }) (v := ?v2) rfl (by kernel_rfl) (by kernel_rfl) (by kernel_rfl) (fun _ _ _ h => by cases h.1) (Or.inl ⟨by rfl, ?hy2⟩) (by assumption) ?_
        case hy2 => (intro w hSw; (try dsimp only at hSw); go_simp; (try with_reducible rfl))
        try simp only [Act.put, List.setIfInBounds_toArray, List.set_cons_zero, List.set_cons_succ]
        refine wpAnyH_take (i := 3) (oi := { dst := some 46, op := Op.move (Operand.tmp 45), type := 4, pos := "laws.go:898", after := #[{ on := 2, ground := Ground.data }], guard := none }) (v := ?v3) rfl (by kernel_rfl) (by kernel_rfl) (by kernel_rfl) (fun _ _ _ h => by cases h.1) (Or.inl ⟨by rfl, ?hy3⟩) (by assumption) ?_
        case hy3 => (intro w hSw; (try dsimp only at hSw); go_simp; (try with_reducible rfl))
        try simp only [Act.put, List.setIfInBounds_toArray, List.set_cons_zero, List.set_cons_succ]
        refine wpAnyH_take (i := 4) (oi := { dst := some 47, op := Op.load 27 (Operand.tmp 7), type := 27, pos := "laws.go:898", after := #[{ on := 3, ground := Ground.guard }], guard := some (3, false) }) (v := ?v4) rfl (by kernel_rfl) (by kernel_rfl) (by kernel_rfl) (fun _ _ _ h => by cases h.1) (Or.inl ⟨by rfl, ?hy4⟩) (by assumption) ?_
        case hy4 => (intro w hSw; (try dsimp only at hSw); go_simp; (try with_reducible rfl))
        try simp only [Act.put, List.setIfInBounds_toArray, List.set_cons_zero, List.set_cons_succ]
        refine wpAnyH_take (i := 5) (oi := { dst := some 48, op := Op.load 27 (Operand.tmp 9), type := 27, pos := "laws.go:898", after := #[{ on := 3, ground := Ground.guard }], guard := some (3, false) }) (v := ?v5) rfl (by kernel_rfl) (by kernel_rfl) (by kernel_rfl) (fun _ _ _ h => by cases h.1) (Or.inl ⟨by rfl, ?hy5⟩) (by assumption) ?_
        case hy5 => (intro w hSw; (try dsimp only at hSw); go_simp; (try with_reducible rfl))
        try simp only [Act.put, List.setIfInBounds_toArray, List.set_cons_zero, List.set_cons_succ]
        refine wpAnyH_ready (rs := [6]) (by kernel_rfl) (by simp) (AllReadyH.cons (o := { dst := some 49, op := Op.call { callee := Callee.value (Operand.func 15), args := #[Operand.tmp 47, Operand.tmp 48], argTypes := #[27, 27] }, type := 4, pos := "laws.go:898", after := #[{ on := 4, ground := Ground.data }, { on := 5, ground := Ground.data }, { on := 3, ground := Ground.chain }, { on := 3, ground := Ground.guard }], guard := some (3, false) }) rfl (fun K hK => ?_) AllReadyH.nil)
        go_simp
        go_at_call 15
        refine (HSame.out _ gDrew).mono ?_
        rintro e w1' ⟨rfl, hb1⟩
        have hB1 := below_more gDrew hb1
        have hq1 : w1'.cell? ⟨w4.heap.size, 0, none⟩ = some (.int .i64 N) ∧ w1'.cell? ⟨w4.heap.size, 1, none⟩ = some (.int .i64 As) ∧ w1'.cell? ⟨w4.heap.size, 2, none⟩ = some (.int .i64 Su) ∧ w1'.cell? ⟨w4.heap.size, 3, none⟩ = some (.slice Ax Z.length cx) ∧ w1'.cell? ⟨w8.heap.size, 0, none⟩ = some (.int .i64 N) ∧ w1'.cell? ⟨w8.heap.size, 1, none⟩ = some (.int .i64 As) ∧ w1'.cell? ⟨w8.heap.size, 2, none⟩ = some (.int .i64 Su) ∧ w1'.cell? ⟨w8.heap.size, 3, none⟩ = some (.slice Aw Z.length cw) ∧ w1'.cell? ⟨w1.heap.size, 0, none⟩ = some (.int .i64 n) ∧ w1'.cell? ⟨w1.heap.size, 1, none⟩ = some (.int .i64 a) ∧ w1'.cell? ⟨w1.heap.size, 2, none⟩ = some (.int .i64 s) ∧ w1'.cell? ⟨w1.heap.size, 3, none⟩ = some (.slice Ag ys.length cg) := ⟨cell_in hB1 cKX0, cell_in hB1 cKX1, cell_in hB1 cKX2, cell_in hB1 cKX3, cell_in hB1 cKW0, cell_in hB1 cKW1, cell_in hB1 cKW2, cell_in hB1 cKW3, cell_in hB1 cKG0, cell_in hB1 cKG1, cell_in hB1 cKG2, cell_in hB1 cKG3⟩
        go_wp2_with fail
        refine hK.out _ _ hq1 (fun hHeld => ?_)
        clear hK K
        try simp only [Act.put, List.setIfInBounds_toArray, List.set_cons_zero, List.set_cons_succ]
        refine wpAnyH_take (i := 7) (oi := { dst := some 50, op := Op.unOp UnOp.not 4 (Operand.tmp 49), type := 4, pos := "laws.go:898", after := #[{ on := 6, ground := Ground.data }, { on := 3, ground := Ground.guard }], guard := some (3, false) }) (v := ?v7) rfl (by kernel_rfl) (by kernel_rfl) (by kernel_rfl) (fun _ _ _ h => by cases h.1) (Or.inl ⟨by rfl, ?hy7⟩) (by assumption) ?_
        case hy7 => (intro w hSw; (try dsimp only at hSw); go_simp; (try with_reducible rfl))
        try simp only [Act.put, List.setIfInBounds_toArray, List.set_cons_zero, List.set_cons_succ]
        refine wpAnyH_take (i := 8) (oi := { dst := some 51, op := Op.pick (Operand.tmp 46) (Operand.const (Value.bool true)) (Operand.tmp 50), type := 4, pos := "laws.go:898", after := #[{ on := 3, ground := Ground.data }, { on := 7, ground := Ground.data }], guard := none }) (v := ?v8) rfl (by kernel_rfl) (by kernel_rfl) (by kernel_rfl) (fun _ _ _ h => by cases h.1) (Or.inl ⟨by rfl, ?hy8⟩) (by assumption) ?_
        case hy8 => (intro w hSw; (try dsimp only at hSw); go_simp; (try with_reducible rfl))
        try simp only [Act.put, List.setIfInBounds_toArray, List.set_cons_zero, List.set_cons_succ]
        refine wpAnyH_take (i := 9) (oi := { dst := some 52, op := Op.move (Operand.tmp 51), type := 4, pos := "laws.go:898", after := #[{ on := 8, ground := Ground.data }, { on := 6, ground := Ground.chain }], guard := none }) (v := ?v9) rfl (by kernel_rfl) (by kernel_rfl) (by kernel_rfl) (fun _ _ _ h => by cases h.1) (Or.inl ⟨by rfl, ?hy9⟩) (by assumption) ?_
        case hy9 => (intro w hSw; (try dsimp only at hSw); go_simp; (try with_reducible rfl))
        try simp only [Act.put, List.setIfInBounds_toArray, List.set_cons_zero, List.set_cons_succ]
        refine wpAnyH_take (i := 10) (oi := { dst := some 53, op := Op.load 27 (Operand.tmp 5), type := 27, pos := "laws.go:898", after := #[{ on := 9, ground := Ground.guard }], guard := some (9, false) }) (v := ?v10) rfl (by kernel_rfl) (by kernel_rfl) (by kernel_rfl) (fun _ _ _ h => by cases h.1) (Or.inl ⟨by rfl, ?hy10⟩) (by assumption) ?_
        case hy10 => (intro w hSw; (try dsimp only at hSw); go_simp; (try with_reducible rfl))
        try simp only [Act.put, List.setIfInBounds_toArray, List.set_cons_zero, List.set_cons_succ]
        refine wpAnyH_take (i := 12) (oi := { dst := some 55, op := Op.load 27 (Operand.tmp 5), type := 27, pos := "laws.go:898", after := #[{ on := 9, ground := Ground.guard }], guard := some (9, false) }) (v := ?v12) rfl (by kernel_rfl) (by kernel_rfl) (by kernel_rfl) (fun _ _ _ h => by cases h.1) (Or.inl ⟨by rfl, ?hy12⟩) (by assumption) ?_
        case hy12 => (intro w hSw; (try dsimp only at hSw); go_simp; (try with_reducible rfl))
        try simp only [Act.put, List.setIfInBounds_toArray, List.set_cons_zero, List.set_cons_succ]
        refine wpAnyH_ready (rs := [11]) (by kernel_rfl) (by simp) (AllReadyH.cons (o := { dst := some 54, op := Op.call { callee := Callee.value (Operand.func 17), args := #[Operand.tmp 53], argTypes := #[27] }, type := 4, pos := "laws.go:898", after := #[{ on := 10, ground := Ground.data }, { on := 9, ground := Ground.chain }, { on := 9, ground := Ground.guard }], guard := some (9, false) }) rfl (fun K hK => ?_) AllReadyH.nil)
        go_simp
        go_at_call 17
        refine (HGi.out _ hB1).mono ?_
        rintro e w2' ⟨rfl, hb2⟩
        have hB2 := below_more hB1 hb2
        have hq2 : w2'.cell? ⟨w4.heap.size, 0, none⟩ = some (.int .i64 N) ∧ w2'.cell? ⟨w4.heap.size, 1, none⟩ = some (.int .i64 As) ∧ w2'.cell? ⟨w4.heap.size, 2, none⟩ = some (.int .i64 Su) ∧ w2'.cell? ⟨w4.heap.size, 3, none⟩ = some (.slice Ax Z.length cx) ∧ w2'.cell? ⟨w8.heap.size, 0, none⟩ = some (.int .i64 N) ∧ w2'.cell? ⟨w8.heap.size, 1, none⟩ = some (.int .i64 As) ∧ w2'.cell? ⟨w8.heap.size, 2, none⟩ = some (.int .i64 Su) ∧ w2'.cell? ⟨w8.heap.size, 3, none⟩ = some (.slice Aw Z.length cw) ∧ w2'.cell? ⟨w1.heap.size, 0, none⟩ = some (.int .i64 n) ∧ w2'.cell? ⟨w1.heap.size, 1, none⟩ = some (.int .i64 a) ∧ w2'.cell? ⟨w1.heap.size, 2, none⟩ = some (.int .i64 s) ∧ w2'.cell? ⟨w1.heap.size, 3, none⟩ = some (.slice Ag ys.length cg) := ⟨cell_in hB2 cKX0, cell_in hB2 cKX1, cell_in hB2 cKX2, cell_in hB2 cKX3, cell_in hB2 cKW0, cell_in hB2 cKW1, cell_in hB2 cKW2, cell_in hB2 cKW3, cell_in hB2 cKG0, cell_in hB2 cKG1, cell_in hB2 cKG2, cell_in hB2 cKG3⟩
        go_wp2_with fail
        refine hK.out _ _ hq2 (fun hHeld => ?_)
        clear hK K
        try simp only [Act.put, List.setIfInBounds_toArray, List.set_cons_zero, List.set_cons_succ]
        refine wpAnyH_ready (rs := [13]) (by kernel_rfl) (by simp) (AllReadyH.cons (o := { dst := some 56, op := Op.call { callee := Callee.value (Operand.func 25), args := #[Operand.tmp 55], argTypes := #[27] }, type := 4, pos := "laws.go:898", after := #[{ on := 12, ground := Ground.data }, { on := 11, ground := Ground.chain }, { on := 9, ground := Ground.guard }], guard := some (9, false) }) rfl (fun K hK => ?_) AllReadyH.nil)
        go_simp
        go_at_call 25
        refine (HGs.out _ hB2).mono ?_
        rintro e w3' ⟨rfl, hb3⟩
        have hB3 := below_more hB2 hb3
        have hq3 : w3'.cell? ⟨w4.heap.size, 0, none⟩ = some (.int .i64 N) ∧ w3'.cell? ⟨w4.heap.size, 1, none⟩ = some (.int .i64 As) ∧ w3'.cell? ⟨w4.heap.size, 2, none⟩ = some (.int .i64 Su) ∧ w3'.cell? ⟨w4.heap.size, 3, none⟩ = some (.slice Ax Z.length cx) ∧ w3'.cell? ⟨w8.heap.size, 0, none⟩ = some (.int .i64 N) ∧ w3'.cell? ⟨w8.heap.size, 1, none⟩ = some (.int .i64 As) ∧ w3'.cell? ⟨w8.heap.size, 2, none⟩ = some (.int .i64 Su) ∧ w3'.cell? ⟨w8.heap.size, 3, none⟩ = some (.slice Aw Z.length cw) ∧ w3'.cell? ⟨w1.heap.size, 0, none⟩ = some (.int .i64 n) ∧ w3'.cell? ⟨w1.heap.size, 1, none⟩ = some (.int .i64 a) ∧ w3'.cell? ⟨w1.heap.size, 2, none⟩ = some (.int .i64 s) ∧ w3'.cell? ⟨w1.heap.size, 3, none⟩ = some (.slice Ag ys.length cg) := ⟨cell_in hB3 cKX0, cell_in hB3 cKX1, cell_in hB3 cKX2, cell_in hB3 cKX3, cell_in hB3 cKW0, cell_in hB3 cKW1, cell_in hB3 cKW2, cell_in hB3 cKW3, cell_in hB3 cKG0, cell_in hB3 cKG1, cell_in hB3 cKG2, cell_in hB3 cKG3⟩
        go_wp2_with fail
        refine hK.out _ _ hq3 (fun hHeld => ?_)
        clear hK K
        try simp only [Act.put, List.setIfInBounds_toArray, List.set_cons_zero, List.set_cons_succ]
        refine wpAnyH_take (i := 14) (oi := { dst := some 57, op := Op.binOp BinOp.neq 4 (Operand.tmp 54) (Operand.tmp 56) 4, type := 4, pos := "laws.go:898", after := #[{ on := 11, ground := Ground.data }, { on := 13, ground := Ground.data }, { on := 9, ground := Ground.guard }], guard := some (9, false) }) (v := ?v14) rfl (by kernel_rfl) (by kernel_rfl) (by kernel_rfl) (fun _ _ _ h => by cases h.1) (Or.inl ⟨by rfl, ?hy14⟩) (by assumption) ?_
        case hy14 => (intro w hSw; (try dsimp only at hSw); go_simp; (try with_reducible rfl))
        try simp only [Act.put, List.setIfInBounds_toArray, List.set_cons_zero, List.set_cons_succ]
        refine wpAnyH_take (i := 15) (oi := { dst := some 58, op := Op.pick (Operand.tmp 52) (Operand.const (Value.bool true)) (Operand.tmp 57), type := 4, pos := "laws.go:898", after := #[{ on := 9, ground := Ground.data }, { on := 14, ground := Ground.data }], guard := none }) (v := ?v15) rfl (by kernel_rfl) (by kernel_rfl) (by kernel_rfl) (fun _ _ _ h => by cases h.1) (Or.inl ⟨by rfl, ?hy15⟩) (by assumption) ?_
        case hy15 => (intro w hSw; (try dsimp only at hSw); go_simp; (try with_reducible rfl))
        try simp only [Act.put, List.setIfInBounds_toArray, List.set_cons_zero, List.set_cons_succ]
        refine wpAnyH_take (i := 16) (oi := { dst := some 59, op := Op.move (Operand.tmp 58), type := 4, pos := "laws.go:898", after := #[{ on := 15, ground := Ground.data }, { on := 13, ground := Ground.chain }], guard := none }) (v := ?v16) rfl (by kernel_rfl) (by kernel_rfl) (by kernel_rfl) (fun _ _ _ h => by cases h.1) (Or.inl ⟨by rfl, ?hy16⟩) (by assumption) ?_
        case hy16 => (intro w hSw; (try dsimp only at hSw); go_simp; (try with_reducible rfl))
        try simp only [Act.put, List.setIfInBounds_toArray, List.set_cons_zero, List.set_cons_succ]
        refine wpAnyH_take (i := 17) (oi := { dst := some 60, op := Op.move (Operand.tmp 8), type := 4, pos := "laws.go:898", after := #[{ on := 16, ground := Ground.guard }], guard := some (16, false) }) (v := ?v17) rfl (by kernel_rfl) (by kernel_rfl) (by kernel_rfl) (fun _ _ _ h => by cases h.1) (Or.inl ⟨by rfl, ?hy17⟩) (by assumption) ?_
        case hy17 => (intro w hSw; (try dsimp only at hSw); go_simp; (try with_reducible rfl))
        try simp only [Act.put, List.setIfInBounds_toArray, List.set_cons_zero, List.set_cons_succ]
        refine wpAnyH_take (i := 18) (oi := { dst := some 61, op := Op.move (Operand.tmp 60), type := 4, pos := "laws.go:898", after := #[{ on := 17, ground := Ground.data }, { on := 16, ground := Ground.chain }, { on := 16, ground := Ground.guard }], guard := some (16, false) }) (v := ?v18) rfl (by kernel_rfl) (by kernel_rfl) (by kernel_rfl) (fun _ _ _ h => by cases h.1) (Or.inl ⟨by rfl, ?hy18⟩) (by assumption) ?_
        case hy18 => (intro w hSw; (try dsimp only at hSw); go_simp; (try with_reducible rfl))
        try simp only [Act.put, List.setIfInBounds_toArray, List.set_cons_zero, List.set_cons_succ]
        refine wpAnyH_take (i := 19) (oi := { dst := some 62, op := Op.load 27 (Operand.tmp 7), type := 27, pos := "laws.go:898", after := #[{ on := 18, ground := Ground.guard }], guard := some (18, true) }) (v := undef) rfl (by kernel_rfl) (by kernel_rfl) (by kernel_rfl) (fun _ _ _ h => by cases h.1) (Or.inr ⟨by rfl, rfl⟩) (by assumption) ?_
        try simp only [Act.put, List.setIfInBounds_toArray, List.set_cons_zero, List.set_cons_succ]
        refine wpAnyH_take (i := 20) (oi := { dst := some 63, op := Op.call { callee := Callee.value (Operand.func 17), args := #[Operand.tmp 62], argTypes := #[27] }, type := 4, pos := "laws.go:898", after := #[{ on := 19, ground := Ground.data }, { on := 18, ground := Ground.chain }, { on := 18, ground := Ground.guard }], guard := some (18, true) }) (v := undef) rfl (by kernel_rfl) (by kernel_rfl) (by kernel_rfl) (fun _ _ _ h => by cases h.1) (Or.inr ⟨by rfl, rfl⟩) (by assumption) ?_
        try simp only [Act.put, List.setIfInBounds_toArray, List.set_cons_zero, List.set_cons_succ]
        refine wpAnyH_take (i := 21) (oi := { dst := some 64, op := Op.unOp UnOp.not 4 (Operand.tmp 63), type := 4, pos := "laws.go:898", after := #[{ on := 20, ground := Ground.data }, { on := 18, ground := Ground.guard }], guard := some (18, true) }) (v := undef) rfl (by kernel_rfl) (by kernel_rfl) (by kernel_rfl) (fun _ _ _ h => by cases h.1) (Or.inr ⟨by rfl, rfl⟩) (by assumption) ?_
        try simp only [Act.put, List.setIfInBounds_toArray, List.set_cons_zero, List.set_cons_succ]
        refine wpAnyH_take (i := 22) (oi := { dst := some 65, op := Op.pick (Operand.tmp 61) (Operand.tmp 64) (Operand.const (Value.bool false)), type := 4, pos := "laws.go:898", after := #[{ on := 18, ground := Ground.data }, { on := 21, ground := Ground.data }, { on := 16, ground := Ground.guard }], guard := some (16, false) }) (v := ?v22) rfl (by kernel_rfl) (by kernel_rfl) (by kernel_rfl) (fun _ _ _ h => by cases h.1) (Or.inl ⟨by rfl, ?hy22⟩) (by assumption) ?_
        case hy22 => (intro w hSw; (try dsimp only at hSw); go_simp; (try with_reducible rfl))
        try simp only [Act.put, List.setIfInBounds_toArray, List.set_cons_zero, List.set_cons_succ]
        refine wpAnyH_take (i := 23) (oi := { dst := some 66, op := Op.pick (Operand.tmp 59) (Operand.const (Value.bool true)) (Operand.tmp 65), type := 4, pos := "laws.go:898", after := #[{ on := 16, ground := Ground.data }, { on := 22, ground := Ground.data }], guard := none }) (v := ?v23) rfl (by kernel_rfl) (by kernel_rfl) (by kernel_rfl) (fun _ _ _ h => by cases h.1) (Or.inl ⟨by rfl, ?hy23⟩) (by assumption) ?_
        case hy23 => (intro w hSw; (try dsimp only at hSw); go_simp; (try with_reducible rfl))
        try simp only [Act.put, List.setIfInBounds_toArray, List.set_cons_zero, List.set_cons_succ]
        refine wpAnyH_done (by kernel_rfl) ?_ _
        exact ⟨rfl, rfl, hB3⟩
      case himp =>
        clear hq0 HSame HGi HGs HGx cKG0 cKG1 cKG2 cKG3 cKS0 cKS1 cKX0 cKX1 cKX2 cKX3 cKW0 cKW1 cKW2 cKW3 hw10
        intro w9 hb9
        have HG_12 := Lib.hid (HG_11.out.below hb9)
        have KG_12 := Lib.hid ((hb9.block _ (heap_lt KG_11.out)).trans KG_11.out)
        have KS_12 := Lib.hid ((hb9.block _ (heap_lt KS_11.out)).trans KS_11.out)
        have HX_12 := Lib.hid (HX_11.out.below hb9)
        have KX_12 := Lib.hid ((hb9.block _ (heap_lt KX_11.out)).trans KX_11.out)
        have HW_12 := Lib.hid (HW_11.out.below hb9)
        have KW_12 := Lib.hid ((hb9.block _ (heap_lt KW_100.out)).trans KW_100.out)
        have HB_12 := Lib.hid (below_more HB_11.out hb9)
        clear HG_11 KG_11 KS_11 HX_11 KX_11 HW_11 KW_100 HB_11 hb9
        have cKG0 : w9.cell? ⟨w1.heap.size, 0, none⟩ = some (.int .i64 n) := cell_of_row _ _ 0 _ _ _ KG_12.out
        have cKG1 : w9.cell? ⟨w1.heap.size, 1, none⟩ = some (.int .i64 a) := cell_of_row _ _ 1 _ _ _ KG_12.out
        have cKG2 : w9.cell? ⟨w1.heap.size, 2, none⟩ = some (.int .i64 s) := cell_of_row _ _ 2 _ _ _ KG_12.out
        have cKG3 : w9.cell? ⟨w1.heap.size, 3, none⟩ = some (.slice Ag ys.length cg) := cell_of_row _ _ 3 _ _ _ KG_12.out
        have cKS0 : w9.cell? ⟨w1.heap.size + 1, 0, none⟩ = some (.int .i64 k) := cell_of_row _ _ 0 _ _ _ KS_12.out
        have cKS1 : w9.cell? ⟨w1.heap.size + 1, 1, none⟩ = some (.bool p) := cell_of_row _ _ 1 _ _ _ KS_12.out
        have cKX0 : w9.cell? ⟨w4.heap.size, 0, none⟩ = some (.int .i64 N) := cell_of_row _ _ 0 _ _ _ KX_12.out
        have cKX1 : w9.cell? ⟨w4.heap.size, 1, none⟩ = some (.int .i64 As) := cell_of_row _ _ 1 _ _ _ KX_12.out
        have cKX2 : w9.cell? ⟨w4.heap.size, 2, none⟩ = some (.int .i64 Su) := cell_of_row _ _ 2 _ _ _ KX_12.out
        have cKX3 : w9.cell? ⟨w4.heap.size, 3, none⟩ = some (.slice Ax Z.length cx) := cell_of_row _ _ 3 _ _ _ KX_12.out
        go_wp2_with fail
        clear cKG0 cKG1 cKG2 cKG3 cKS0 cKS1 cKX0 cKX1 cKX2 cKX3
        refine (drawRoom11 B zb cb _ (byts_on11 HBy.out HB_12.out)).mono ?_
        rintro e w13 ⟨nu, au, su, vu, zu, rfl, hdu⟩
        obtain ⟨Au, cu, rfl, hru⟩ := hdu.own.form
        have hlu := hdu.len
        have hsu := hdu.sure
        have hbu := hdu.below
        clear hdu
        have HU_0 := Lib.hid hru
        clear hru
        have KG_14 := Lib.hid ((hbu.block _ (heap_lt KG_12.out)).trans KG_12.out)
        have KS_14 := Lib.hid ((hbu.block _ (heap_lt KS_12.out)).trans KS_12.out)
        have KX_14 := Lib.hid ((hbu.block _ (heap_lt KX_12.out)).trans KX_12.out)
        have HB_14 := Lib.hid (below_more HB_12.out hbu)
        clear KG_12 KS_12 KX_12 HB_12 hbu
        obtain ⟨w15, hw15⟩ : ∃ wn, w13.alloc (.cells #[.int .i64 nu, .int .i64 au, .int .i64 su, .slice Au zu.length cu] 27) = wn := ⟨_, rfl⟩
        have hbx15 : Below w13.heap.size w13 w15 := by rw [← hw15]; exact gAlloc _ _
        have KU_150 : Hid (w15.heap[w13.heap.size]? = some (.cells #[.int .i64 nu, .int .i64 au, .int .i64 su, .slice Au zu.length cu] 27 (0, 0))) := by rw [← hw15]; exact heap_alloc_new _ _
        have HU_16 := Lib.hid (HU_0.out.below hbx15)
        have HB_16 := Lib.hid (below_more HB_14.out hbx15)
        clear HU_0 HB_14 hbx15
        have HI1 := Lib.hid (fun w h => iRoom11 nu au su Au zu cu w h (by omega) (by omega))
        have HI2 := Lib.hid (fun w h => sRoom nu au su Au zu cu w h (by omega))
        generalize roI11 nu au su zu = lo at *
        generalize goodGB nu au su zu = gb at *
        have cKU0 : w15.cell? ⟨w13.heap.size, 0, none⟩ = some (.int .i64 nu) := cell_of_row _ _ 0 _ _ _ KU_150.out
        have cKU1 : w15.cell? ⟨w13.heap.size, 1, none⟩ = some (.int .i64 au) := cell_of_row _ _ 1 _ _ _ KU_150.out
        have cKU2 : w15.cell? ⟨w13.heap.size, 2, none⟩ = some (.int .i64 su) := cell_of_row _ _ 2 _ _ _ KU_150.out
        have cKU3 : w15.cell? ⟨w13.heap.size, 3, none⟩ = some (.slice Au zu.length cu) := cell_of_row _ _ 3 _ _ _ KU_150.out
        go_wp2_with fail
        clear cKU0 cKU1 cKU2 cKU3 hw15
        refine (HI1.out _ HU_16.out).mono ?_
        rintro e w17 ⟨rfl, hb6⟩
        have HU_18 := Lib.hid (HU_16.out.below hb6)
        have KU_18 := Lib.hid ((hb6.block _ (heap_lt KU_150.out)).trans KU_150.out)
        have HB_18 := Lib.hid (below_more HB_16.out hb6)
        clear HU_16 KU_150 HB_16 hb6
        have cKU0 : w17.cell? ⟨w13.heap.size, 0, none⟩ = some (.int .i64 nu) := cell_of_row _ _ 0 _ _ _ KU_18.out
        have cKU1 : w17.cell? ⟨w13.heap.size, 1, none⟩ = some (.int .i64 au) := cell_of_row _ _ 1 _ _ _ KU_18.out
        have cKU2 : w17.cell? ⟨w13.heap.size, 2, none⟩ = some (.int .i64 su) := cell_of_row _ _ 2 _ _ _ KU_18.out
        have cKU3 : w17.cell? ⟨w13.heap.size, 3, none⟩ = some (.slice Au zu.length cu) := cell_of_row _ _ 3 _ _ _ KU_18.out
        go_wp2_with fail
        clear cKU0 cKU1 cKU2 cKU3
        refine (HI2.out _ HU_18.out).mono ?_
        rintro e wz ⟨rfl, hbz⟩
        have HBz := Lib.hid (below_more HB_18.out hbz)
        clear hbz
        go_wp2_with fail
        go_ret
        exact ⟨rfl, HBz.out⟩
  · obtain ⟨hg, hgx, m1, m2, m3, m4, m5, m6⟩ := HM.out rfl
    clear HM
    obtain ⟨⟨g1, g2⟩, ⟨g3, g4⟩, g5, ⟨g6, g7⟩, -, g9⟩ := gvr_ok hg
    have hlg : loI n a s ys = n - 1 - (ys.length : Int) := by rw [loI, if_pos hg]
    have hlx : loI N As Su Z = N - 1 - (Z.length : Int) := by rw [loI, if_pos hgx]
    have HL1 := Lib.hid (fun w' (h : Ints w' Ag ys) => iLost11 n a s Ag ys cg w' h (by omega) (by omega))
    have HL2 := Lib.hid (fun w' (h : Ints w' Ax Z) => iLost11 N As Su Ax Z cx w' h (by omega) (by omega))
    rw [hg, hlg] at HL1
    rw [hgx, hlx] at HL2
    rw [hg] at HGi HGs
    rw [hgx] at HGx
    clear hg hgx hlg hlx
    have cKG0 : w10.cell? ⟨w1.heap.size, 0, none⟩ = some (.int .i64 n) := cell_of_row _ _ 0 _ _ _ KG_11.out
    have cKG1 : w10.cell? ⟨w1.heap.size, 1, none⟩ = some (.int .i64 a) := cell_of_row _ _ 1 _ _ _ KG_11.out
    have cKG2 : w10.cell? ⟨w1.heap.size, 2, none⟩ = some (.int .i64 s) := cell_of_row _ _ 2 _ _ _ KG_11.out
    have cKG3 : w10.cell? ⟨w1.heap.size, 3, none⟩ = some (.slice Ag ys.length cg) := cell_of_row _ _ 3 _ _ _ KG_11.out
    have cKS0 : w10.cell? ⟨w1.heap.size + 1, 0, none⟩ = some (.int .i64 k) := cell_of_row _ _ 0 _ _ _ KS_11.out
    have cKS1 : w10.cell? ⟨w1.heap.size + 1, 1, none⟩ = some (.bool p) := cell_of_row _ _ 1 _ _ _ KS_11.out
    have cKX0 : w10.cell? ⟨w4.heap.size, 0, none⟩ = some (.int .i64 N) := cell_of_row _ _ 0 _ _ _ KX_11.out
    have cKX1 : w10.cell? ⟨w4.heap.size, 1, none⟩ = some (.int .i64 As) := cell_of_row _ _ 1 _ _ _ KX_11.out
    have cKX2 : w10.cell? ⟨w4.heap.size, 2, none⟩ = some (.int .i64 Su) := cell_of_row _ _ 2 _ _ _ KX_11.out
    have cKX3 : w10.cell? ⟨w4.heap.size, 3, none⟩ = some (.slice Ax Z.length cx) := cell_of_row _ _ 3 _ _ _ KX_11.out
    have cKW0 : w10.cell? ⟨w8.heap.size, 0, none⟩ = some (.int .i64 N) := cell_of_row _ _ 0 _ _ _ KW_100.out
    have cKW1 : w10.cell? ⟨w8.heap.size, 1, none⟩ = some (.int .i64 As) := cell_of_row _ _ 1 _ _ _ KW_100.out
    have cKW2 : w10.cell? ⟨w8.heap.size, 2, none⟩ = some (.int .i64 Su) := cell_of_row _ _ 2 _ _ _ KW_100.out
    have cKW3 : w10.cell? ⟨w8.heap.size, 3, none⟩ = some (.slice Aw Z.length cw) := cell_of_row _ _ 3 _ _ _ KW_100.out
    go_wp2_with fail
    have hq0 : w10.drew.cell? ⟨w4.heap.size, 0, none⟩ = some (.int .i64 N) ∧ w10.drew.cell? ⟨w4.heap.size, 1, none⟩ = some (.int .i64 As) ∧ w10.drew.cell? ⟨w4.heap.size, 2, none⟩ = some (.int .i64 Su) ∧ w10.drew.cell? ⟨w4.heap.size, 3, none⟩ = some (.slice Ax Z.length cx) ∧ w10.drew.cell? ⟨w8.heap.size, 0, none⟩ = some (.int .i64 N) ∧ w10.drew.cell? ⟨w8.heap.size, 1, none⟩ = some (.int .i64 As) ∧ w10.drew.cell? ⟨w8.heap.size, 2, none⟩ = some (.int .i64 Su) ∧ w10.drew.cell? ⟨w8.heap.size, 3, none⟩ = some (.slice Aw Z.length cw) ∧ w10.drew.cell? ⟨w1.heap.size, 0, none⟩ = some (.int .i64 n) ∧ w10.drew.cell? ⟨w1.heap.size, 1, none⟩ = some (.int .i64 a) ∧ w10.drew.cell? ⟨w1.heap.size, 2, none⟩ = some (.int .i64 s) ∧ w10.drew.cell? ⟨w1.heap.size, 3, none⟩ = some (.slice Ag ys.length cg) := ⟨cell_in gDrew cKX0, cell_in gDrew cKX1, cell_in gDrew cKX2, cell_in gDrew cKX3, cell_in gDrew cKW0, cell_in gDrew cKW1, cell_in gDrew cKW2, cell_in gDrew cKW3, cell_in gDrew cKG0, cell_in gDrew cKG1, cell_in gDrew cKG2, cell_in gDrew cKG3⟩
    apply wp_meet_at (fun w' => Below w10.heap.size w10 w')
    case hreg =>
      first
      | go_region_held3 (fun w' => w'.cell? ⟨w4.heap.size, 0, none⟩ = some (.int .i64 N) ∧ w'.cell? ⟨w4.heap.size, 1, none⟩ = some (.int .i64 As) ∧ w'.cell? ⟨w4.heap.size, 2, none⟩ = some (.int .i64 Su) ∧ w'.cell? ⟨w4.heap.size, 3, none⟩ = some (.slice Ax Z.length cx) ∧ w'.cell? ⟨w8.heap.size, 0, none⟩ = some (.int .i64 N) ∧ w'.cell? ⟨w8.heap.size, 1, none⟩ = some (.int .i64 As) ∧ w'.cell? ⟨w8.heap.size, 2, none⟩ = some (.int .i64 Su) ∧ w'.cell? ⟨w8.heap.size, 3, none⟩ = some (.slice Aw Z.length cw) ∧ w'.cell? ⟨w1.heap.size, 0, none⟩ = some (.int .i64 n) ∧ w'.cell? ⟨w1.heap.size, 1, none⟩ = some (.int .i64 a) ∧ w'.cell? ⟨w1.heap.size, 2, none⟩ = some (.int .i64 s) ∧ w'.cell? ⟨w1.heap.size, 3, none⟩ = some (.slice Ag ys.length cg)) (first | with_reducible exact hq0 | with_reducible exact hq1 | with_reducible exact hq2 | with_reducible exact hq3 | with_reducible exact hq4 | (go_loud (fail "KEEP"))) (first
        | (go_at_call 17; have hpre := hB3; clear hpre; refine (HGx.out _ hB3).mono ?_; rintro e w4' ⟨rfl, hb4⟩; have hB4 := below_more hB3 hb4; have hq4 : w4'.cell? ⟨w4.heap.size, 0, none⟩ = some (.int .i64 N) ∧ w4'.cell? ⟨w4.heap.size, 1, none⟩ = some (.int .i64 As) ∧ w4'.cell? ⟨w4.heap.size, 2, none⟩ = some (.int .i64 Su) ∧ w4'.cell? ⟨w4.heap.size, 3, none⟩ = some (.slice Ax Z.length cx) ∧ w4'.cell? ⟨w8.heap.size, 0, none⟩ = some (.int .i64 N) ∧ w4'.cell? ⟨w8.heap.size, 1, none⟩ = some (.int .i64 As) ∧ w4'.cell? ⟨w8.heap.size, 2, none⟩ = some (.int .i64 Su) ∧ w4'.cell? ⟨w8.heap.size, 3, none⟩ = some (.slice Aw Z.length cw) ∧ w4'.cell? ⟨w1.heap.size, 0, none⟩ = some (.int .i64 n) ∧ w4'.cell? ⟨w1.heap.size, 1, none⟩ = some (.int .i64 a) ∧ w4'.cell? ⟨w1.heap.size, 2, none⟩ = some (.int .i64 s) ∧ w4'.cell? ⟨w1.heap.size, 3, none⟩ = some (.slice Ag ys.length cg) := ⟨cell_in hB4 cKX0, cell_in hB4 cKX1, cell_in hB4 cKX2, cell_in hB4 cKX3, cell_in hB4 cKW0, cell_in hB4 cKW1, cell_in hB4 cKW2, cell_in hB4 cKW3, cell_in hB4 cKG0, cell_in hB4 cKG1, cell_in hB4 cKG2, cell_in hB4 cKG3⟩)
        | (go_at_call 25; have hpre := hB2; clear hpre; refine (HGs.out _ hB2).mono ?_; rintro e w3' ⟨rfl, hb3⟩; have hB3 := below_more hB2 hb3; have hq3 : w3'.cell? ⟨w4.heap.size, 0, none⟩ = some (.int .i64 N) ∧ w3'.cell? ⟨w4.heap.size, 1, none⟩ = some (.int .i64 As) ∧ w3'.cell? ⟨w4.heap.size, 2, none⟩ = some (.int .i64 Su) ∧ w3'.cell? ⟨w4.heap.size, 3, none⟩ = some (.slice Ax Z.length cx) ∧ w3'.cell? ⟨w8.heap.size, 0, none⟩ = some (.int .i64 N) ∧ w3'.cell? ⟨w8.heap.size, 1, none⟩ = some (.int .i64 As) ∧ w3'.cell? ⟨w8.heap.size, 2, none⟩ = some (.int .i64 Su) ∧ w3'.cell? ⟨w8.heap.size, 3, none⟩ = some (.slice Aw Z.length cw) ∧ w3'.cell? ⟨w1.heap.size, 0, none⟩ = some (.int .i64 n) ∧ w3'.cell? ⟨w1.heap.size, 1, none⟩ = some (.int .i64 a) ∧ w3'.cell? ⟨w1.heap.size, 2, none⟩ = some (.int .i64 s) ∧ w3'.cell? ⟨w1.heap.size, 3, none⟩ = some (.slice Ag ys.length cg) := ⟨cell_in hB3 cKX0, cell_in hB3 cKX1, cell_in hB3 cKX2, cell_in hB3 cKX3, cell_in hB3 cKW0, cell_in hB3 cKW1, cell_in hB3 cKW2, cell_in hB3 cKW3, cell_in hB3 cKG0, cell_in hB3 cKG1, cell_in hB3 cKG2, cell_in hB3 cKG3⟩)
        | (go_at_call 17; have hpre := hB1; clear hpre; refine (HGi.out _ hB1).mono ?_; rintro e w2' ⟨rfl, hb2⟩; have hB2 := below_more hB1 hb2; have hq2 : w2'.cell? ⟨w4.heap.size, 0, none⟩ = some (.int .i64 N) ∧ w2'.cell? ⟨w4.heap.size, 1, none⟩ = some (.int .i64 As) ∧ w2'.cell? ⟨w4.heap.size, 2, none⟩ = some (.int .i64 Su) ∧ w2'.cell? ⟨w4.heap.size, 3, none⟩ = some (.slice Ax Z.length cx) ∧ w2'.cell? ⟨w8.heap.size, 0, none⟩ = some (.int .i64 N) ∧ w2'.cell? ⟨w8.heap.size, 1, none⟩ = some (.int .i64 As) ∧ w2'.cell? ⟨w8.heap.size, 2, none⟩ = some (.int .i64 Su) ∧ w2'.cell? ⟨w8.heap.size, 3, none⟩ = some (.slice Aw Z.length cw) ∧ w2'.cell? ⟨w1.heap.size, 0, none⟩ = some (.int .i64 n) ∧ w2'.cell? ⟨w1.heap.size, 1, none⟩ = some (.int .i64 a) ∧ w2'.cell? ⟨w1.heap.size, 2, none⟩ = some (.int .i64 s) ∧ w2'.cell? ⟨w1.heap.size, 3, none⟩ = some (.slice Ag ys.length cg) := ⟨cell_in hB2 cKX0, cell_in hB2 cKX1, cell_in hB2 cKX2, cell_in hB2 cKX3, cell_in hB2 cKW0, cell_in hB2 cKW1, cell_in hB2 cKW2, cell_in hB2 cKW3, cell_in hB2 cKG0, cell_in hB2 cKG1, cell_in hB2 cKG2, cell_in hB2 cKG3⟩)
        | (go_at_call 15; refine (HSame.out _ gDrew).mono ?_; rintro e w1' ⟨rfl, hb1⟩; have hB1 := below_more gDrew hb1; have hq1 : w1'.cell? ⟨w4.heap.size, 0, none⟩ = some (.int .i64 N) ∧ w1'.cell? ⟨w4.heap.size, 1, none⟩ = some (.int .i64 As) ∧ w1'.cell? ⟨w4.heap.size, 2, none⟩ = some (.int .i64 Su) ∧ w1'.cell? ⟨w4.heap.size, 3, none⟩ = some (.slice Ax Z.length cx) ∧ w1'.cell? ⟨w8.heap.size, 0, none⟩ = some (.int .i64 N) ∧ w1'.cell? ⟨w8.heap.size, 1, none⟩ = some (.int .i64 As) ∧ w1'.cell? ⟨w8.heap.size, 2, none⟩ = some (.int .i64 Su) ∧ w1'.cell? ⟨w8.heap.size, 3, none⟩ = some (.slice Aw Z.length cw) ∧ w1'.cell? ⟨w1.heap.size, 0, none⟩ = some (.int .i64 n) ∧ w1'.cell? ⟨w1.heap.size, 1, none⟩ = some (.int .i64 a) ∧ w1'.cell? ⟨w1.heap.size, 2, none⟩ = some (.int .i64 s) ∧ w1'.cell? ⟨w1.heap.size, 3, none⟩ = some (.slice Ag ys.length cg) := ⟨cell_in hB1 cKX0, cell_in hB1 cKX1, cell_in hB1 cKX2, cell_in hB1 cKX3, cell_in hB1 cKW0, cell_in hB1 cKW1, cell_in hB1 cKW2, cell_in hB1 cKW3, cell_in hB1 cKG0, cell_in hB1 cKG1, cell_in hB1 cKG2, cell_in hB1 cKG3⟩))
      | fail "REGION"
      all_goals exact ⟨rfl, rfl, hB4⟩
    case himp =>
      clear hq0 HSame HGi HGs HGx cKG0 cKG1 cKG2 cKG3 cKS0 cKS1 cKX0 cKX1 cKX2 cKX3 cKW0 cKW1 cKW2 cKW3 hw10
      intro w9 hb9
      have HG_12 := Lib.hid (HG_11.out.below hb9)
      have KG_12 := Lib.hid ((hb9.block _ (heap_lt KG_11.out)).trans KG_11.out)
      have KS_12 := Lib.hid ((hb9.block _ (heap_lt KS_11.out)).trans KS_11.out)
      have HX_12 := Lib.hid (HX_11.out.below hb9)
      have KX_12 := Lib.hid ((hb9.block _ (heap_lt KX_11.out)).trans KX_11.out)
      have HW_12 := Lib.hid (HW_11.out.below hb9)
      have KW_12 := Lib.hid ((hb9.block _ (heap_lt KW_100.out)).trans KW_100.out)
      have HB_12 := Lib.hid (below_more HB_11.out hb9)
      clear HG_11 KG_11 KS_11 HX_11 KX_11 HW_11 KW_100 HB_11 hb9
      have cKG0 : w9.cell? ⟨w1.heap.size, 0, none⟩ = some (.int .i64 n) := cell_of_row _ _ 0 _ _ _ KG_12.out
      have cKG1 : w9.cell? ⟨w1.heap.size, 1, none⟩ = some (.int .i64 a) := cell_of_row _ _ 1 _ _ _ KG_12.out
      have cKG2 : w9.cell? ⟨w1.heap.size, 2, none⟩ = some (.int .i64 s) := cell_of_row _ _ 2 _ _ _ KG_12.out
      have cKG3 : w9.cell? ⟨w1.heap.size, 3, none⟩ = some (.slice Ag ys.length cg) := cell_of_row _ _ 3 _ _ _ KG_12.out
      have cKS0 : w9.cell? ⟨w1.heap.size + 1, 0, none⟩ = some (.int .i64 k) := cell_of_row _ _ 0 _ _ _ KS_12.out
      have cKS1 : w9.cell? ⟨w1.heap.size + 1, 1, none⟩ = some (.bool p) := cell_of_row _ _ 1 _ _ _ KS_12.out
      have cKX0 : w9.cell? ⟨w4.heap.size, 0, none⟩ = some (.int .i64 N) := cell_of_row _ _ 0 _ _ _ KX_12.out
      have cKX1 : w9.cell? ⟨w4.heap.size, 1, none⟩ = some (.int .i64 As) := cell_of_row _ _ 1 _ _ _ KX_12.out
      have cKX2 : w9.cell? ⟨w4.heap.size, 2, none⟩ = some (.int .i64 Su) := cell_of_row _ _ 2 _ _ _ KX_12.out
      have cKX3 : w9.cell? ⟨w4.heap.size, 3, none⟩ = some (.slice Ax Z.length cx) := cell_of_row _ _ 3 _ _ _ KX_12.out
      have cKW0 : w9.cell? ⟨w8.heap.size, 0, none⟩ = some (.int .i64 N) := cell_of_row _ _ 0 _ _ _ KW_12.out
      have cKW1 : w9.cell? ⟨w8.heap.size, 1, none⟩ = some (.int .i64 As) := cell_of_row _ _ 1 _ _ _ KW_12.out
      have cKW2 : w9.cell? ⟨w8.heap.size, 2, none⟩ = some (.int .i64 Su) := cell_of_row _ _ 2 _ _ _ KW_12.out
      have cKW3 : w9.cell? ⟨w8.heap.size, 3, none⟩ = some (.slice Aw Z.length cw) := cell_of_row _ _ 3 _ _ _ KW_12.out
      go_wp2_with fail
      clear cKG0 cKG1 cKG2 cKG3 cKS0 cKS1 cKX0 cKX1 cKX2 cKX3 cKW0 cKW1 cKW2 cKW3
      refine (HL1.out _ HG_12.out).mono ?_
      rintro e w13 ⟨rfl, hb10⟩
      have HG_14 := Lib.hid (HG_12.out.below hb10)
      have KG_14 := Lib.hid ((hb10.block _ (heap_lt KG_12.out)).trans KG_12.out)
      have KS_14 := Lib.hid ((hb10.block _ (heap_lt KS_12.out)).trans KS_12.out)
      have HX_14 := Lib.hid (HX_12.out.below hb10)
      have KX_14 := Lib.hid ((hb10.block _ (heap_lt KX_12.out)).trans KX_12.out)
      have HW_14 := Lib.hid (HW_12.out.below hb10)
      have KW_14 := Lib.hid ((hb10.block _ (heap_lt KW_12.out)).trans KW_12.out)
      have HB_14 := Lib.hid (below_more HB_12.out hb10)
      clear HG_12 KG_12 KS_12 HX_12 KX_12 HW_12 KW_12 HB_12 hb10
      have cKG0 : w13.cell? ⟨w1.heap.size, 0, none⟩ = some (.int .i64 n) := cell_of_row _ _ 0 _ _ _ KG_14.out
      have cKG1 : w13.cell? ⟨w1.heap.size, 1, none⟩ = some (.int .i64 a) := cell_of_row _ _ 1 _ _ _ KG_14.out
      have cKG2 : w13.cell? ⟨w1.heap.size, 2, none⟩ = some (.int .i64 s) := cell_of_row _ _ 2 _ _ _ KG_14.out
      have cKG3 : w13.cell? ⟨w1.heap.size, 3, none⟩ = some (.slice Ag ys.length cg) := cell_of_row _ _ 3 _ _ _ KG_14.out
      have cKS0 : w13.cell? ⟨w1.heap.size + 1, 0, none⟩ = some (.int .i64 k) := cell_of_row _ _ 0 _ _ _ KS_14.out
      have cKS1 : w13.cell? ⟨w1.heap.size + 1, 1, none⟩ = some (.bool p) := cell_of_row _ _ 1 _ _ _ KS_14.out
      have cKX0 : w13.cell? ⟨w4.heap.size, 0, none⟩ = some (.int .i64 N) := cell_of_row _ _ 0 _ _ _ KX_14.out
      have cKX1 : w13.cell? ⟨w4.heap.size, 1, none⟩ = some (.int .i64 As) := cell_of_row _ _ 1 _ _ _ KX_14.out
      have cKX2 : w13.cell? ⟨w4.heap.size, 2, none⟩ = some (.int .i64 Su) := cell_of_row _ _ 2 _ _ _ KX_14.out
      have cKX3 : w13.cell? ⟨w4.heap.size, 3, none⟩ = some (.slice Ax Z.length cx) := cell_of_row _ _ 3 _ _ _ KX_14.out
      have cKW0 : w13.cell? ⟨w8.heap.size, 0, none⟩ = some (.int .i64 N) := cell_of_row _ _ 0 _ _ _ KW_14.out
      have cKW1 : w13.cell? ⟨w8.heap.size, 1, none⟩ = some (.int .i64 As) := cell_of_row _ _ 1 _ _ _ KW_14.out
      have cKW2 : w13.cell? ⟨w8.heap.size, 2, none⟩ = some (.int .i64 Su) := cell_of_row _ _ 2 _ _ _ KW_14.out
      have cKW3 : w13.cell? ⟨w8.heap.size, 3, none⟩ = some (.slice Aw Z.length cw) := cell_of_row _ _ 3 _ _ _ KW_14.out
      go_wp2_with fail
      clear cKG0 cKG1 cKG2 cKG3 cKS0 cKS1 cKX0 cKX1 cKX2 cKX3 cKW0 cKW1 cKW2 cKW3
      refine (HL2.out _ HX_14.out).mono ?_
      rintro e w15 ⟨rfl, hb11⟩
      have HG_16 := Lib.hid (HG_14.out.below hb11)
      have KG_16 := Lib.hid ((hb11.block _ (heap_lt KG_14.out)).trans KG_14.out)
      have KS_16 := Lib.hid ((hb11.block _ (heap_lt KS_14.out)).trans KS_14.out)
      have HX_16 := Lib.hid (HX_14.out.below hb11)
      have KX_16 := Lib.hid ((hb11.block _ (heap_lt KX_14.out)).trans KX_14.out)
      have HW_16 := Lib.hid (HW_14.out.below hb11)
      have KW_16 := Lib.hid ((hb11.block _ (heap_lt KW_14.out)).trans KW_14.out)
      have HB_16 := Lib.hid (below_more HB_14.out hb11)
      clear HG_14 KG_14 KS_14 HX_14 KX_14 HW_14 KW_14 HB_14 hb11
      have hly' : (ys.length : Int) ≤ 60 := by omega
      have hZ' : (Z.length : Int) ≤ 60 := by omega
      obtain ⟨la, hla⟩ : ∃ la, n - 1 - (ys.length : Int) = la := ⟨_, rfl⟩
      obtain ⟨lb, hlb2⟩ : ∃ lb, N - 1 - (Z.length : Int) = lb := ⟨_, rfl⟩
      rw [hla, hlb2] at m1 m2
      rw [hla, hlb2] at m3
      rw [hla, hlb2]
      have d1 : ¬ lb < la := by omega
      have d2 : ¬ a + 1 - n < lb - la := by omega
      have d3 : ¬ N < n := by omega
      have d4 : -100 ≤ la ∧ la ≤ 2000 ∧ -100 ≤ lb ∧ lb ≤ 2000 := by omega
      obtain ⟨d5, d6, d7, d8⟩ := d4
      clear hla hlb2
      have HR := Lib.hid m1
      by_cases h3 : k = 3
      · subst h3
        clear m1 HR
        have cKG0 : w15.cell? ⟨w1.heap.size, 0, none⟩ = some (.int .i64 n) := cell_of_row _ _ 0 _ _ _ KG_16.out
        have cKG1 : w15.cell? ⟨w1.heap.size, 1, none⟩ = some (.int .i64 a) := cell_of_row _ _ 1 _ _ _ KG_16.out
        have cKG2 : w15.cell? ⟨w1.heap.size, 2, none⟩ = some (.int .i64 s) := cell_of_row _ _ 2 _ _ _ KG_16.out
        have cKG3 : w15.cell? ⟨w1.heap.size, 3, none⟩ = some (.slice Ag ys.length cg) := cell_of_row _ _ 3 _ _ _ KG_16.out
        have cKS0 : w15.cell? ⟨w1.heap.size + 1, 0, none⟩ = some (.int .i64 3) := cell_of_row _ _ 0 _ _ _ KS_16.out
        have cKS1 : w15.cell? ⟨w1.heap.size + 1, 1, none⟩ = some (.bool p) := cell_of_row _ _ 1 _ _ _ KS_16.out
        have cKX0 : w15.cell? ⟨w4.heap.size, 0, none⟩ = some (.int .i64 N) := cell_of_row _ _ 0 _ _ _ KX_16.out
        have cKX1 : w15.cell? ⟨w4.heap.size, 1, none⟩ = some (.int .i64 As) := cell_of_row _ _ 1 _ _ _ KX_16.out
        have cKX2 : w15.cell? ⟨w4.heap.size, 2, none⟩ = some (.int .i64 Su) := cell_of_row _ _ 2 _ _ _ KX_16.out
        have cKX3 : w15.cell? ⟨w4.heap.size, 3, none⟩ = some (.slice Ax Z.length cx) := cell_of_row _ _ 3 _ _ _ KX_16.out
        go_wp2_with fail
        clear cKG0 cKG1 cKG2 cKG3 cKS0 cKS1 cKX0 cKX1 cKX2 cKX3
        refine (drawRoom11 B zb cb _ (byts_on11 HBy.out HB_16.out)).mono ?_
        rintro e w17 ⟨nu, au, su, vu, zu, rfl, hdu⟩
        obtain ⟨Au, cu, rfl, hru⟩ := hdu.own.form
        have hlu := hdu.len
        have hsu := hdu.sure
        have hbu := hdu.below
        clear hdu
        have HU_0 := Lib.hid hru
        clear hru
        have KG_18 := Lib.hid ((hbu.block _ (heap_lt KG_16.out)).trans KG_16.out)
        have KS_18 := Lib.hid ((hbu.block _ (heap_lt KS_16.out)).trans KS_16.out)
        have KX_18 := Lib.hid ((hbu.block _ (heap_lt KX_16.out)).trans KX_16.out)
        have HB_18 := Lib.hid (below_more HB_16.out hbu)
        clear KG_16 KS_16 KX_16 HB_16 hbu
        obtain ⟨w19, hw19⟩ : ∃ wn, w17.alloc (.cells #[.int .i64 nu, .int .i64 au, .int .i64 su, .slice Au zu.length cu] 27) = wn := ⟨_, rfl⟩
        have hbx19 : Below w17.heap.size w17 w19 := by rw [← hw19]; exact gAlloc _ _
        have KU_190 : Hid (w19.heap[w17.heap.size]? = some (.cells #[.int .i64 nu, .int .i64 au, .int .i64 su, .slice Au zu.length cu] 27 (0, 0))) := by rw [← hw19]; exact heap_alloc_new _ _
        have HU_20 := Lib.hid (HU_0.out.below hbx19)
        have HB_20 := Lib.hid (below_more HB_18.out hbx19)
        clear HU_0 HB_18 hbx19
        have HI1 := Lib.hid (fun w h => iRoom11 nu au su Au zu cu w h (by omega) (by omega))
        have HI2 := Lib.hid (fun w h => sRoom nu au su Au zu cu w h (by omega))
        generalize roI11 nu au su zu = lo at *
        generalize goodGB nu au su zu = gb at *
        have cKU0 : w19.cell? ⟨w17.heap.size, 0, none⟩ = some (.int .i64 nu) := cell_of_row _ _ 0 _ _ _ KU_190.out
        have cKU1 : w19.cell? ⟨w17.heap.size, 1, none⟩ = some (.int .i64 au) := cell_of_row _ _ 1 _ _ _ KU_190.out
        have cKU2 : w19.cell? ⟨w17.heap.size, 2, none⟩ = some (.int .i64 su) := cell_of_row _ _ 2 _ _ _ KU_190.out
        have cKU3 : w19.cell? ⟨w17.heap.size, 3, none⟩ = some (.slice Au zu.length cu) := cell_of_row _ _ 3 _ _ _ KU_190.out
        go_wp2_with fail
        clear cKU0 cKU1 cKU2 cKU3 hw19
        refine (HI1.out _ HU_20.out).mono ?_
        rintro e w21 ⟨rfl, hb6⟩
        have HU_22 := Lib.hid (HU_20.out.below hb6)
        have KU_22 := Lib.hid ((hb6.block _ (heap_lt KU_190.out)).trans KU_190.out)
        have HB_22 := Lib.hid (below_more HB_20.out hb6)
        clear HU_20 KU_190 HB_20 hb6
        have cKU0 : w21.cell? ⟨w17.heap.size, 0, none⟩ = some (.int .i64 nu) := cell_of_row _ _ 0 _ _ _ KU_22.out
        have cKU1 : w21.cell? ⟨w17.heap.size, 1, none⟩ = some (.int .i64 au) := cell_of_row _ _ 1 _ _ _ KU_22.out
        have cKU2 : w21.cell? ⟨w17.heap.size, 2, none⟩ = some (.int .i64 su) := cell_of_row _ _ 2 _ _ _ KU_22.out
        have cKU3 : w21.cell? ⟨w17.heap.size, 3, none⟩ = some (.slice Au zu.length cu) := cell_of_row _ _ 3 _ _ _ KU_22.out
        go_wp2_with fail
        clear cKU0 cKU1 cKU2 cKU3
        refine (HI2.out _ HU_22.out).mono ?_
        rintro e wz ⟨rfl, hbz⟩
        have HBz := Lib.hid (below_more HB_22.out hbz)
        clear hbz
        go_wp2_with fail
        go_ret
        exact ⟨rfl, HBz.out⟩
      · have hk3 : (k != 3) = true := by simpa using h3
        have hk3' : (k == 3) = false := by simpa using h3
        obtain rfl : lb = la := HR.out h3
        clear m1 HR
        have cKG0 : w15.cell? ⟨w1.heap.size, 0, none⟩ = some (.int .i64 n) := cell_of_row _ _ 0 _ _ _ KG_16.out
        have cKG1 : w15.cell? ⟨w1.heap.size, 1, none⟩ = some (.int .i64 a) := cell_of_row _ _ 1 _ _ _ KG_16.out
        have cKG2 : w15.cell? ⟨w1.heap.size, 2, none⟩ = some (.int .i64 s) := cell_of_row _ _ 2 _ _ _ KG_16.out
        have cKG3 : w15.cell? ⟨w1.heap.size, 3, none⟩ = some (.slice Ag ys.length cg) := cell_of_row _ _ 3 _ _ _ KG_16.out
        have cKS0 : w15.cell? ⟨w1.heap.size + 1, 0, none⟩ = some (.int .i64 k) := cell_of_row _ _ 0 _ _ _ KS_16.out
        have cKS1 : w15.cell? ⟨w1.heap.size + 1, 1, none⟩ = some (.bool p) := cell_of_row _ _ 1 _ _ _ KS_16.out
        have cKX0 : w15.cell? ⟨w4.heap.size, 0, none⟩ = some (.int .i64 N) := cell_of_row _ _ 0 _ _ _ KX_16.out
        have cKX1 : w15.cell? ⟨w4.heap.size, 1, none⟩ = some (.int .i64 As) := cell_of_row _ _ 1 _ _ _ KX_16.out
        have cKX2 : w15.cell? ⟨w4.heap.size, 2, none⟩ = some (.int .i64 Su) := cell_of_row _ _ 2 _ _ _ KX_16.out
        have cKX3 : w15.cell? ⟨w4.heap.size, 3, none⟩ = some (.slice Ax Z.length cx) := cell_of_row _ _ 3 _ _ _ KX_16.out
        go_wp2_with fail
        clear cKG0 cKG1 cKG2 cKG3 cKS0 cKS1 cKX0 cKX1 cKX2 cKX3
        refine (drawRoom11 B zb cb _ (byts_on11 HBy.out HB_16.out)).mono ?_
        rintro e w17 ⟨nu, au, su, vu, zu, rfl, hdu⟩
        obtain ⟨Au, cu, rfl, hru⟩ := hdu.own.form
        have hlu := hdu.len
        have hsu := hdu.sure
        have hbu := hdu.below
        clear hdu
        have HU_0 := Lib.hid hru
        clear hru
        have KG_18 := Lib.hid ((hbu.block _ (heap_lt KG_16.out)).trans KG_16.out)
        have KS_18 := Lib.hid ((hbu.block _ (heap_lt KS_16.out)).trans KS_16.out)
        have KX_18 := Lib.hid ((hbu.block _ (heap_lt KX_16.out)).trans KX_16.out)
        have HB_18 := Lib.hid (below_more HB_16.out hbu)
        clear KG_16 KS_16 KX_16 HB_16 hbu
        obtain ⟨w19, hw19⟩ : ∃ wn, w17.alloc (.cells #[.int .i64 nu, .int .i64 au, .int .i64 su, .slice Au zu.length cu] 27) = wn := ⟨_, rfl⟩
        have hbx19 : Below w17.heap.size w17 w19 := by rw [← hw19]; exact gAlloc _ _
        have KU_190 : Hid (w19.heap[w17.heap.size]? = some (.cells #[.int .i64 nu, .int .i64 au, .int .i64 su, .slice Au zu.length cu] 27 (0, 0))) := by rw [← hw19]; exact heap_alloc_new _ _
        have HU_20 := Lib.hid (HU_0.out.below hbx19)
        have HB_20 := Lib.hid (below_more HB_18.out hbx19)
        clear HU_0 HB_18 hbx19
        have HI1 := Lib.hid (fun w h => iRoom11 nu au su Au zu cu w h (by omega) (by omega))
        have HI2 := Lib.hid (fun w h => sRoom nu au su Au zu cu w h (by omega))
        generalize roI11 nu au su zu = lo at *
        generalize goodGB nu au su zu = gb at *
        have cKU0 : w19.cell? ⟨w17.heap.size, 0, none⟩ = some (.int .i64 nu) := cell_of_row _ _ 0 _ _ _ KU_190.out
        have cKU1 : w19.cell? ⟨w17.heap.size, 1, none⟩ = some (.int .i64 au) := cell_of_row _ _ 1 _ _ _ KU_190.out
        have cKU2 : w19.cell? ⟨w17.heap.size, 2, none⟩ = some (.int .i64 su) := cell_of_row _ _ 2 _ _ _ KU_190.out
        have cKU3 : w19.cell? ⟨w17.heap.size, 3, none⟩ = some (.slice Au zu.length cu) := cell_of_row _ _ 3 _ _ _ KU_190.out
        go_wp2_with fail
        clear cKU0 cKU1 cKU2 cKU3 hw19
        refine (HI1.out _ HU_20.out).mono ?_
        rintro e w21 ⟨rfl, hb6⟩
        have HU_22 := Lib.hid (HU_20.out.below hb6)
        have KU_22 := Lib.hid ((hb6.block _ (heap_lt KU_190.out)).trans KU_190.out)
        have HB_22 := Lib.hid (below_more HB_20.out hb6)
        clear HU_20 KU_190 HB_20 hb6
        have cKU0 : w21.cell? ⟨w17.heap.size, 0, none⟩ = some (.int .i64 nu) := cell_of_row _ _ 0 _ _ _ KU_22.out
        have cKU1 : w21.cell? ⟨w17.heap.size, 1, none⟩ = some (.int .i64 au) := cell_of_row _ _ 1 _ _ _ KU_22.out
        have cKU2 : w21.cell? ⟨w17.heap.size, 2, none⟩ = some (.int .i64 su) := cell_of_row _ _ 2 _ _ _ KU_22.out
        have cKU3 : w21.cell? ⟨w17.heap.size, 3, none⟩ = some (.slice Au zu.length cu) := cell_of_row _ _ 3 _ _ _ KU_22.out
        go_wp2_with fail
        clear cKU0 cKU1 cKU2 cKU3
        refine (HI2.out _ HU_22.out).mono ?_
        rintro e wz ⟨rfl, hbz⟩
        have HBz := Lib.hid (below_more HB_22.out hbz)
        clear hbz
        go_wp2_with fail
        go_ret
        exact ⟨rfl, HBz.out⟩
end Go.Proofs.Ytbegikjoialahaa
