/-
  The model of chapter 11: StepGiver.
-/
import Derived.Test.YtbegikjoialahaaGW
namespace Go.Proofs.Ytbegikjoialahaa
open Go.RowKit

def sgOkB (n a s : Int) (zs : List Int) (k : Int) (p : Bool) : Bool := goodGB n a s zs && stOkB n s zs k p
def sgN (n a s : Int) (zs : List Int) (k : Int) (p : Bool) : Int := if sgOkB n a s zs k p = true then stN n a s zs k p else 0
def sgA (n a s : Int) (zs : List Int) (k : Int) (p : Bool) : Int := if sgOkB n a s zs k p = true then stA n a s zs k p else 0
def sgS (n a s : Int) (zs : List Int) (k : Int) (p : Bool) : Int := if sgOkB n a s zs k p = true then stS n a s zs k p else 0
def sgZ (n a s : Int) (zs : List Int) (k : Int) (p : Bool) : List Int := if sgOkB n a s zs k p = true then stZ n s zs k p else []
theorem sg_not {n a s : Int} {zs : List Int} {k : Int} {p : Bool} (h : sgOkB n a s zs k p = false) : sgN n a s zs k p = 0 ∧ sgA n a s zs k p = 0 ∧ sgS n a s zs k p = 0 ∧ sgZ n a s zs k p = [] ∧ sgOkB n a s zs k p = false := by
  simp [sgN, sgA, sgS, sgZ, h]
theorem sg_yes {n a s : Int} {zs : List Int} {k : Int} {p : Bool} (h : sgOkB n a s zs k p = true) : sgN n a s zs k p = stN n a s zs k p ∧ sgA n a s zs k p = stA n a s zs k p ∧ sgS n a s zs k p = stS n a s zs k p ∧ sgZ n a s zs k p = stZ n s zs k p ∧ sgOkB n a s zs k p = true := by
  simp [sgN, sgA, sgS, sgZ, h]
theorem wp_meet_gv {P : Program} {c : Code} {Q : Exit → Act → World → Prop} {a : Act} {w : World} (R : Nat → Option Addr → Nat → Option Addr → Nat → World → Prop) (A : Nat → Option Addr → Nat → Option Addr → Nat → Act)
    (hreg : c.wp P (fun e a' w' => e = .normal ∧ ∃ Y B1 c1 B2 c2, a' = A Y B1 c1 B2 c2 ∧ R Y B1 c1 B2 c2 w') a w) (himp : ∀ Y B1 c1 B2 c2 w', R Y B1 c1 B2 c2 w' → Q .normal (A Y B1 c1 B2 c2) w') : c.wp P Q a w :=
  Code.wp_mono (fun e a' w' ⟨h1, Y, B1, c1, B2, c2, h2, h3⟩ => by rw [h1, h2]; exact himp _ _ _ _ _ _ h3) hreg
theorem alloc_atD11 (w : World) (o : Obj) : (w.alloc o).drew.heap[w.heap.size]? = some o := (gDrew.block _ (by simp)).trans (heap_alloc_new _ _)
theorem size_atD11 (w : World) (o : Obj) : (w.alloc o).drew.heap.size = w.heap.size + 1 := World.heap_size_alloc9 w o
theorem own_ints {w : World} {base : Nat} {A : Option Addr} {n c : Nat} {zs : List Int} (h : Own w base (.slice A n c) zs) : Ints w A zs := by
  obtain ⟨A', c', e, hi⟩ := h.form
  injection e with e1
  subst e1; exact hi
theorem six11 {w w' : World} {X Y : Nat} {q0 q1 q2 q3 r0 r1 : Value} (hb : Below w.heap.size w w') (h : w.cell? ⟨X, 0, none⟩ = some q0 ∧ w.cell? ⟨X, 1, none⟩ = some q1 ∧ w.cell? ⟨X, 2, none⟩ = some q2 ∧ w.cell? ⟨X, 3, none⟩ = some q3 ∧ w.cell? ⟨Y, 0, none⟩ = some r0 ∧ w.cell? ⟨Y, 1, none⟩ = some r1) :
    w'.cell? ⟨X, 0, none⟩ = some q0 ∧ w'.cell? ⟨X, 1, none⟩ = some q1 ∧ w'.cell? ⟨X, 2, none⟩ = some q2 ∧ w'.cell? ⟨X, 3, none⟩ = some q3 ∧ w'.cell? ⟨Y, 0, none⟩ = some r0 ∧ w'.cell? ⟨Y, 1, none⟩ = some r1 := by
  have f : ∀ {a : Addr} {u : Value}, w.cell? a = some u → w'.cell? a = some u := fun {a u} h => (hb.cell (World.block_lt_of_cell? _ _ h)).trans h
  exact ⟨f h.1, f h.2.1, f h.2.2.1, f h.2.2.2.1, f h.2.2.2.2.1, f h.2.2.2.2.2⟩
theorem six_set11 {w : World} {X Y Z : Nat} {q0 q1 q2 q3 r0 r1 a0 a1 a2 a3 : Value} (h : w.cell? ⟨X, 0, none⟩ = some q0 ∧ w.cell? ⟨X, 1, none⟩ = some q1 ∧ w.cell? ⟨X, 2, none⟩ = some q2 ∧ w.cell? ⟨X, 3, none⟩ = some q3 ∧ w.cell? ⟨Y, 0, none⟩ = some r0 ∧ w.cell? ⟨Y, 1, none⟩ = some r1) (hn : X ≠ Z ∧ Y ≠ Z) :
    let w' := (((w.setCell ⟨Z, 0, none⟩ a0).setCell ⟨Z, 1, none⟩ a1).setCell ⟨Z, 2, none⟩ a2).setCell ⟨Z, 3, none⟩ a3
    w'.cell? ⟨X, 0, none⟩ = some q0 ∧ w'.cell? ⟨X, 1, none⟩ = some q1 ∧ w'.cell? ⟨X, 2, none⟩ = some q2 ∧ w'.cell? ⟨X, 3, none⟩ = some q3 ∧ w'.cell? ⟨Y, 0, none⟩ = some r0 ∧ w'.cell? ⟨Y, 1, none⟩ = some r1 := by
  have f : ∀ {a : Addr} {u : Value}, a.block ≠ Z → w.cell? a = some u → ((((w.setCell ⟨Z, 0, none⟩ a0).setCell ⟨Z, 1, none⟩ a1).setCell ⟨Z, 2, none⟩ a2).setCell ⟨Z, 3, none⟩ a3).cell? a = some u := fun {a u} hne h =>
    (cell_set_other _ ⟨Z, 3, none⟩ a a3 hne).trans ((cell_set_other _ ⟨Z, 2, none⟩ a a2 hne).trans ((cell_set_other _ ⟨Z, 1, none⟩ a a1 hne).trans ((cell_set_other _ ⟨Z, 0, none⟩ a a0 hne).trans h)))
  exact ⟨f hn.1 h.1, f hn.1 h.2.1, f hn.1 h.2.2.1, f hn.1 h.2.2.2.1, f hn.2 h.2.2.2.2.1, f hn.2 h.2.2.2.2.2⟩
theorem own_off {w : World} {base : Nat} {A : Option Addr} {c : Nat} {zs : List Int} (h : Own w base (.slice A zs.length c) zs) {Y : Nat} (p q r u : Value) (hne : ∀ g, (Value.slice A zs.length c).ownBlock = some g → g ≠ Y) :
    Own ((((w.setCell ⟨Y, 0, none⟩ p).setCell ⟨Y, 1, none⟩ q).setCell ⟨Y, 2, none⟩ r).setCell ⟨Y, 3, none⟩ u) base (.slice A zs.length c) zs := h.kept (gGv w Y p q r u) (by
    cases hv : (Value.slice A zs.length c).ownBlock with
    | none => exact Or.inl rfl
    | some g => exact Or.inr (by intro e; injection e with e; exact hne g hv e))
theorem sOwn11' (n a s : Int) (A : Option Addr) (zs : List Int) (c : Nat) (w : World) (ha : Ints w A zs) (hA : Lies9 A c) (hl : zs.length ≤ 1000000) :
    Calls Try.prog 44 #[gvV n a s (.slice A zs.length c)] w fun e w' => ∃ B1 c1, e = .returned (gvV n a s (.slice B1 zs.length c1)) ∧ Own w' w.heap.size (.slice B1 zs.length c1) zs ∧ Below w.heap.size w w' :=
  (sOwn11 n a s A zs c w ha hA hl).mono (fun e w' h => by
    obtain ⟨v, he, ho, hb⟩ := h
    obtain ⟨B1, c1, rfl, _⟩ := ho.form
    exact ⟨B1, c1, he, ho, hb⟩)
theorem sStep11' (n a s : Int) (A : Option Addr) (zs : List Int) (c : Nat) (k : Int) (p : Bool) (base : Nat) (w : World) (ho : Own w base (.slice A zs.length c) zs) (hb : base ≤ w.heap.size) (hg : goodGB n a s zs = true) :
    Calls Try.prog 43 #[gvV n a s (.slice A zs.length c), idV (k, p)] w fun e w' => ∃ B2 c2, e = .returned (.tuple #[gvV (stN n a s zs k p) (stA n a s zs k p) (stS n a s zs k p) (.slice B2 (stZ n s zs k p).length c2), .bool (stOkB n s zs k p)]) ∧ Own w' base (.slice B2 (stZ n s zs k p).length c2) (stZ n s zs k p) ∧ Below base w w' ∧ w.grownBy w' (Value.slice A zs.length c).ownBlock ∧ (∀ g, (Value.slice B2 (stZ n s zs k p).length c2).ownBlock = some g → (Value.slice A zs.length c).ownBlock = some g ∨ w.heap.size ≤ g) :=
  (sStep11 n a s A zs c k p base w ho hb hg).mono (fun e w' h => by
    obtain ⟨v, he, ho', hr⟩ := h
    obtain ⟨B2, c2, rfl, _⟩ := ho'.form
    exact ⟨B2, c2, he, ho', hr⟩)

set_option maxRecDepth 100000 in
set_option maxHeartbeats 4000000 in
theorem sStepG (n a s : Int) (A : Option Addr) (zs : List Int) (ca : Nat) (k : Int) (p : Bool) (w : World) (ha : Ints w A zs) (hA : Lies9 A ca) (hl : zs.length ≤ 1048576) :
    Calls Try.prog 24 #[gvV n a s (.slice A zs.length ca), idV (k, p)] w fun e w' => ∃ v, e = .returned (.tuple #[gvV (sgN n a s zs k p) (sgA n a s zs k p) (sgS n a s zs k p) v, .bool (sgOkB n a s zs k p)]) ∧ Own w' w.heap.size v (sgZ n a s zs k p) ∧ Below w.heap.size w w' := by
  obtain ⟨W, hW⟩ : ∃ W, ((w.alloc (.cells #[.int .i64 n, .int .i64 a, .int .i64 s, .slice A zs.length ca] 27)).alloc (.cells #[.int .i64 k, .bool p] 34)).alloc (.cells #[.int .i64 0, .int .i64 0, .int .i64 0, .slice none 0 0] 27) = W := ⟨_, rfl⟩
  have hs : W.heap.size = w.heap.size + 3 := by rw [← hW]; simp
  have hbW : Below w.heap.size w W := by rw [← hW]; exact ((gAlloc w _).alloc (by simp) _).alloc (by simp; omega) _
  have h1 : W.heap[w.heap.size]? = some (.cells #[.int .i64 n, .int .i64 a, .int .i64 s, .slice A zs.length ca] 27 (0, 0)) := by rw [← hW, heap_alloc_old _ _ _ (by simp; omega), heap_alloc_old _ _ _ (by simp)]; exact heap_alloc_new _ _
  have h2 : W.heap[w.heap.size + 1]? = some (.cells #[.int .i64 k, .bool p] 34 (0, 0)) := by
    rw [← hW, heap_alloc_old _ _ _ (by simp), show w.heap.size + 1 = (w.alloc (.cells #[.int .i64 n, .int .i64 a, .int .i64 s, .slice A zs.length ca] 27)).heap.size by simp]; exact heap_alloc_new _ _
  have h3 : W.heap[w.heap.size + 1 + 1]? = some (.cells #[.int .i64 0, .int .i64 0, .int .i64 0, .slice none 0 0] 27 (0, 0)) := by
    rw [← hW, show w.heap.size + 1 + 1 = ((w.alloc (.cells #[.int .i64 n, .int .i64 a, .int .i64 s, .slice A zs.length ca] 27)).alloc (.cells #[.int .i64 k, .bool p] 34)).heap.size by simp]; exact heap_alloc_new _ _
  have x0 : W.cell? ⟨w.heap.size, 0, none⟩ = some (.int .i64 n) := cell_of_row _ _ 0 _ _ _ h1
  have x1 : W.cell? ⟨w.heap.size, 1, none⟩ = some (.int .i64 a) := cell_of_row _ _ 1 _ _ _ h1
  have x2 : W.cell? ⟨w.heap.size, 2, none⟩ = some (.int .i64 s) := cell_of_row _ _ 2 _ _ _ h1
  have x3 : W.cell? ⟨w.heap.size, 3, none⟩ = some (.slice A zs.length ca) := cell_of_row _ _ 3 _ _ _ h1
  have HG := Lib.hid (sGoodG_any n a s A zs ca W (ha.below hbW) hl)
  have HA := Lib.hid (ha.below hbW)
  have HB := Lib.hid hbW
  have HH := Lib.hid (And.intro h1 (And.intro h2 h3))
  have HS := Lib.hid hs
  clear hbW h1 h2 h3 ha hs
  cases hg : goodGB n a s zs
  · have HE := Lib.hid (sg_not (n := n) (a := a) (s := s) (zs := zs) (k := k) (p := p) (by rw [sgOkB, hg]; rfl))
    rw [hg] at HG
    clear hg
    go_enter Try.func24, Try.ntmps24
    go_wp2_with (go_at_call 25; refine HG.out.mono ?_; rintro e wg ⟨rfl, hb1⟩; have H3 := (hb1.block _ (heap_lt HH.out.2.2)).trans HH.out.2.2; have z0 := cell_of_row wg _ 0 _ _ _ H3; have z1 := cell_of_row wg _ 1 _ _ _ H3; have z2 := cell_of_row wg _ 2 _ _ _ H3; have z3 := cell_of_row wg _ 3 _ _ _ H3; have f0 := frozen_of_row wg _ 0 _ _ H3; have f1 := frozen_of_row wg _ 1 _ _ H3; have f2 := frozen_of_row wg _ 2 _ _ H3; have f3 := frozen_of_row wg _ 3 _ _ H3)
    refine ret_gv2 rfl (w.heap.size + 1 + 1) 0 0 0 _ false rfl rfl (gv_stored rfl H3 _ _ _ _) rfl ⟨.slice none 0 0, ?_, ?_, below_gv (below_more HB.out hb1) (by omega) _ _ _ _⟩
    · rw [HE.out.1, HE.out.2.1, HE.out.2.2.1, HE.out.2.2.2.2]
    · rw [HE.out.2.2.2.1]; exact Own.nil _ _
  · have hl60 : zs.length ≤ 60 := (gvr_ok hg).2.2.2.2.2
    have HN := Lib.hid (fun (h : stOkB n s zs k p = false) => sg_not (n := n) (a := a) (s := s) (zs := zs) (k := k) (p := p) (show sgOkB n a s zs k p = false by rw [sgOkB, hg, h]; rfl))
    have HY := Lib.hid (fun (h : stOkB n s zs k p = true) => sg_yes (n := n) (a := a) (s := s) (zs := zs) (k := k) (p := p) (show sgOkB n a s zs k p = true by rw [sgOkB, hg, h]; rfl))
    have hZl : (stZ n s zs k p).length ≤ 60 := (gvr_ok (st_good k p hg)).2.2.2.2.2
    have HSt := Lib.hid (fun (B1 : Option Addr) (c1 base : Nat) (w' : World) (h1 : Own w' base (.slice B1 zs.length c1) zs) (h2 : base ≤ w'.heap.size) => sStep11' n a s B1 zs c1 k p base w' h1 h2 hg)
    rw [hg] at HG
    clear hg
    generalize stN n a s zs k p = N at *
    generalize stA n a s zs k p = As at *
    generalize stS n a s zs k p = Su at *
    generalize stZ n s zs k p = Z at *
    generalize stOkB n s zs k p = ok at *
    go_enter Try.func24, Try.ntmps24
    go_wp2_with (go_at_call 25; refine HG.out.mono ?_; rintro e wg ⟨rfl, hb1⟩)
    have HBg := Lib.hid (below_more HB.out hb1)
    have G1 := (hb1.block _ (heap_lt HH.out.1)).trans HH.out.1
    have G2 := (hb1.block _ (heap_lt HH.out.2.1)).trans HH.out.2.1
    have H3 := Lib.hid ((hb1.block _ (heap_lt HH.out.2.2)).trans HH.out.2.2)
    have y0 : wg.cell? ⟨w.heap.size, 0, none⟩ = some (.int .i64 n) := cell_of_row _ _ 0 _ _ _ G1
    have y1 : wg.cell? ⟨w.heap.size, 1, none⟩ = some (.int .i64 a) := cell_of_row _ _ 1 _ _ _ G1
    have y2 : wg.cell? ⟨w.heap.size, 2, none⟩ = some (.int .i64 s) := cell_of_row _ _ 2 _ _ _ G1
    have y3 : wg.cell? ⟨w.heap.size, 3, none⟩ = some (.slice A zs.length ca) := cell_of_row _ _ 3 _ _ _ G1
    have v0 : wg.cell? ⟨w.heap.size + 1, 0, none⟩ = some (.int .i64 k) := cell_of_row _ _ 0 _ _ _ G2
    have v1 : wg.cell? ⟨w.heap.size + 1, 1, none⟩ = some (.bool p) := cell_of_row _ _ 1 _ _ _ G2
    have HOw : Hid (∀ w', Below wg.heap.size wg w' → Calls Try.prog 44 #[gvV n a s (.slice A zs.length ca)] w' fun e w'' => ∃ B1 c1, e = .returned (gvV n a s (.slice B1 zs.length c1)) ∧ Own w'' w'.heap.size (.slice B1 zs.length c1) zs ∧ Below w'.heap.size w' w'') := fun w' h => sOwn11' n a s A zs ca w' ((HA.out.below hb1).below h) hA (by omega)
    have hsg : w.heap.size + 1 + 1 < wg.heap.size := by have := hb1.size; have := HS.out; omega
    have hXY : ∀ {Z : Nat}, wg.heap.size ≤ Z → w.heap.size ≠ Z ∧ w.heap.size + 1 ≠ Z := fun h => ⟨by omega, by omega⟩
    have hq0 : wg.drew.cell? ⟨w.heap.size, 0, none⟩ = some (.int .i64 n) ∧ wg.drew.cell? ⟨w.heap.size, 1, none⟩ = some (.int .i64 a) ∧ wg.drew.cell? ⟨w.heap.size, 2, none⟩ = some (.int .i64 s) ∧ wg.drew.cell? ⟨w.heap.size, 3, none⟩ = some (.slice A zs.length ca) ∧ wg.drew.cell? ⟨w.heap.size + 1, 0, none⟩ = some (.int .i64 k) ∧ wg.drew.cell? ⟨w.heap.size + 1, 1, none⟩ = some (.bool p) := six11 gDrew ⟨y0, y1, y2, y3, v0, v1⟩
    have hnc := hXY (Nat.le_refl _)
    clear hb1 G1 G2 x0 x1 x2 x3 hW HG HA HH HS HB hl hl60
    go_wp2_with fail
    apply wp_meet_gv (fun Y B1 c1 B2 c2 w' => w'.heap[Y]? = some (.cells #[.int .i64 N, .int .i64 As, .int .i64 Su, .slice B2 Z.length c2] 27 (0, 0)) ∧ Own w' wg.heap.size (.slice B2 Z.length c2) Z ∧ Below wg.heap.size wg w' ∧ wg.heap.size ≤ Y)
    case hreg =>
      go_region_held3 (fun w' => w'.cell? ⟨w.heap.size, 0, none⟩ = some (.int .i64 n) ∧ w'.cell? ⟨w.heap.size, 1, none⟩ = some (.int .i64 a) ∧ w'.cell? ⟨w.heap.size, 2, none⟩ = some (.int .i64 s) ∧ w'.cell? ⟨w.heap.size, 3, none⟩ = some (.slice A zs.length ca) ∧ w'.cell? ⟨w.heap.size + 1, 0, none⟩ = some (.int .i64 k) ∧ w'.cell? ⟨w.heap.size + 1, 1, none⟩ = some (.bool p)) (first | with_reducible exact hq0 | with_reducible exact hq1 | with_reducible exact hq2 | with_reducible exact six11 (gAlloc _ _) hq0 | with_reducible exact six11 (gAlloc _ _) hq1 | with_reducible exact six11 (gAlloc _ _) hq2 | with_reducible exact six_set11 hq2 hnc | with_reducible exact six_set11 hq2 hnd | (go_loud (fail "KEEP"))) (first
        | (go_at_call 43; have hpre := hB1; clear hpre; refine (HSt.out B1 c1 wg.heap.size _ (by first | exact hO1 | exact hO1.below (gAlloc _ _)) (by first | exact hB1.size | exact (below_more hB1 (gAlloc _ _)).size)).mono ?_; rintro e w2 ⟨B2, c2, rfl, ho2, hb2, hg2, hs2⟩; have hB2 : Below wg.heap.size wg w2 := (by first | exact hB1.trans hb2 | exact (below_more hB1 (gAlloc _ _)).trans hb2); have hq2 : w2.cell? ⟨w.heap.size, 0, none⟩ = some (.int .i64 n) ∧ w2.cell? ⟨w.heap.size, 1, none⟩ = some (.int .i64 a) ∧ w2.cell? ⟨w.heap.size, 2, none⟩ = some (.int .i64 s) ∧ w2.cell? ⟨w.heap.size, 3, none⟩ = some (.slice A zs.length ca) ∧ w2.cell? ⟨w.heap.size + 1, 0, none⟩ = some (.int .i64 k) ∧ w2.cell? ⟨w.heap.size + 1, 1, none⟩ = some (.bool p) := six11 hB2 ⟨y0, y1, y2, y3, v0, v1⟩; (try (have hzc : w2.heap[wg.heap.size]? = some (.cells #[.int .i64 0, .int .i64 0, .int .i64 0, .slice none 0 0] 27 (0, 0)) := (hg2.block _ (Nat.lt_of_lt_of_le (heap_lt (alloc_atD11 wg _)) hb1.size) (by intro e; have := (ho1.lt _ e.symm).1; rw [size_atD11] at this; omega)).trans ((hb1.block _ (heap_lt (alloc_atD11 wg _))).trans (alloc_atD11 wg _)); have pc0 := cell_of_row w2 _ 0 _ _ _ hzc; have pc1 := cell_of_row w2 _ 1 _ _ _ hzc; have pc2 := cell_of_row w2 _ 2 _ _ _ hzc; have pc3 := cell_of_row w2 _ 3 _ _ _ hzc; have fc0 := frozen_of_row w2 _ 0 _ _ hzc; have fc1 := frozen_of_row w2 _ 1 _ _ hzc; have fc2 := frozen_of_row w2 _ 2 _ _ hzc; have fc3 := frozen_of_row w2 _ 3 _ _ hzc)); (try (have hzd : w2.heap[w1.heap.size]? = some (.cells #[.int .i64 0, .int .i64 0, .int .i64 0, .slice none 0 0] 27 (0, 0)) := (hg2.block _ (by rw [World.heap_size_alloc9]; exact Nat.lt_succ_self _) (by intro e; have := (ho1.lt _ e.symm).2; omega)).trans (heap_alloc_new _ _); have pd0 := cell_of_row w2 _ 0 _ _ _ hzd; have pd1 := cell_of_row w2 _ 1 _ _ _ hzd; have pd2 := cell_of_row w2 _ 2 _ _ _ hzd; have pd3 := cell_of_row w2 _ 3 _ _ _ hzd; have fd0 := frozen_of_row w2 _ 0 _ _ hzd; have fd1 := frozen_of_row w2 _ 1 _ _ hzd; have fd2 := frozen_of_row w2 _ 2 _ _ hzd; have fd3 := frozen_of_row w2 _ 3 _ _ hzd)))
        | (go_at_call 44; refine (HOw.out _ (by first | exact gDrew | exact below_more (gAlloc _ _) gDrew)).mono ?_; rintro e w1 ⟨B1, c1, rfl, ho1, hb1⟩; have hB1 : Below wg.heap.size wg w1 := (by first | exact below_more gDrew hb1 | exact below_more (below_more (gAlloc _ _) gDrew) hb1); have hO1 := ho1.lower (show wg.heap.size ≤ _ by first | exact (gDrew (w := wg)).size | exact (below_more (gAlloc wg _) gDrew).size); have hq1 : w1.cell? ⟨w.heap.size, 0, none⟩ = some (.int .i64 n) ∧ w1.cell? ⟨w.heap.size, 1, none⟩ = some (.int .i64 a) ∧ w1.cell? ⟨w.heap.size, 2, none⟩ = some (.int .i64 s) ∧ w1.cell? ⟨w.heap.size, 3, none⟩ = some (.slice A zs.length ca) ∧ w1.cell? ⟨w.heap.size + 1, 0, none⟩ = some (.int .i64 k) ∧ w1.cell? ⟨w.heap.size + 1, 1, none⟩ = some (.bool p) := six11 hB1 ⟨y0, y1, y2, y3, v0, v1⟩; have hnd := hXY hB1.size))
      all_goals
        first
        | (have HM := gv_stored rfl hzc (.int .i64 N) (.int .i64 As) (.int .i64 Su) (.slice B2 Z.length c2); have HO' := own_off ho2 (Y := wg.heap.size) (.int .i64 N) (.int .i64 As) (.int .i64 Su) (.slice B2 Z.length c2) (fun g hg => (by intro e; rcases hs2 g hg with h | h; (have h4 := (ho1.lt g h).1; rw [size_atD11] at h4; omega); (have h5 := hb1.size; rw [size_atD11] at h5; omega))); have HB' := below_gv hB2 (show wg.heap.size ≤ wg.heap.size by first | exact Nat.le_refl _ | exact hB1.size) (.int .i64 N) (.int .i64 As) (.int .i64 Su) (.slice B2 Z.length c2); have hle : wg.heap.size ≤ wg.heap.size := (by first | exact Nat.le_refl _ | exact hB1.size); obtain ⟨Y, hY⟩ : ∃ Y, wg.heap.size = Y := ⟨_, rfl⟩; rw [hY] at HM hle ⊢; (try rw [hY] at HO'); (try rw [hY] at HB'); exact ⟨rfl, Y, B1, c1, B2, c2, rfl, HM, HO', HB', hle⟩)
        | (have HM := gv_stored rfl hzd (.int .i64 N) (.int .i64 As) (.int .i64 Su) (.slice B2 Z.length c2); have HO' := own_off ho2 (Y := w1.heap.size) (.int .i64 N) (.int .i64 As) (.int .i64 Su) (.slice B2 Z.length c2) (fun g hg => (by intro e; rcases hs2 g hg with h | h; (have h4 := (ho1.lt g h).2; omega); (rw [World.heap_size_alloc9] at h; omega))); have HB' := below_gv hB2 (show wg.heap.size ≤ w1.heap.size by first | exact Nat.le_refl _ | exact hB1.size) (.int .i64 N) (.int .i64 As) (.int .i64 Su) (.slice B2 Z.length c2); have hle : wg.heap.size ≤ w1.heap.size := (by first | exact Nat.le_refl _ | exact hB1.size); obtain ⟨Y, hY⟩ : ∃ Y, w1.heap.size = Y := ⟨_, rfl⟩; rw [hY] at HM hle ⊢; (try rw [hY] at HO'); (try rw [hY] at HB'); exact ⟨rfl, Y, B1, c1, B2, c2, rfl, HM, HO', HB', hle⟩)
        | (have HM : (w2.alloc (.cells #[.int .i64 N, .int .i64 As, .int .i64 Su, .slice B2 Z.length c2] 27)).heap[w2.heap.size]? = some (.cells #[.int .i64 N, .int .i64 As, .int .i64 Su, .slice B2 Z.length c2] 27 (0, 0)) := heap_alloc_new _ _; have HO' := ho2.below (gAlloc w2 (.cells #[.int .i64 N, .int .i64 As, .int .i64 Su, .slice B2 Z.length c2] 27)); have HB' := below_more hB2 (gAlloc w2 (.cells #[.int .i64 N, .int .i64 As, .int .i64 Su, .slice B2 Z.length c2] 27)); have hle : wg.heap.size ≤ w2.heap.size := hB2.size; obtain ⟨Y, hY⟩ : ∃ Y, w2.heap.size = Y := ⟨_, rfl⟩; rw [hY] at HM hle ⊢; (try rw [hY] at HO'); (try rw [hY] at HB'); exact ⟨rfl, Y, B1, c1, B2, c2, rfl, HM, HO', HB', hle⟩)
    case himp =>
      intro Y B1 c1 B2 c2 w2 hR
      obtain ⟨r1, r2, r3, r4⟩ := hR
      have HR := Lib.hid (And.intro r1 (And.intro r2 (And.intro r3 r4)))
      have H3' := Lib.hid ((r3.block _ (heap_lt H3.out)).trans H3.out)
      have z0 := cell_of_row w2 _ 0 _ _ _ H3'.out
      have z1 := cell_of_row w2 _ 1 _ _ _ H3'.out
      have z2 := cell_of_row w2 _ 2 _ _ _ H3'.out
      have z3 := cell_of_row w2 _ 3 _ _ _ H3'.out
      have f0 := frozen_of_row w2 _ 0 _ _ H3'.out
      have f1 := frozen_of_row w2 _ 1 _ _ H3'.out
      have f2 := frozen_of_row w2 _ 2 _ _ H3'.out
      have f3 := frozen_of_row w2 _ 3 _ _ H3'.out
      have p0 : w2.cell? ⟨Y, 0, none⟩ = some (.int .i64 N) := cell_of_row _ _ 0 _ _ _ r1
      have p1 : w2.cell? ⟨Y, 1, none⟩ = some (.int .i64 As) := cell_of_row _ _ 1 _ _ _ r1
      have p2 : w2.cell? ⟨Y, 2, none⟩ = some (.int .i64 Su) := cell_of_row _ _ 2 _ _ _ r1
      have p3 : w2.cell? ⟨Y, 3, none⟩ = some (.slice B2 Z.length c2) := cell_of_row _ _ 3 _ _ _ r1
      clear r1 r2 r3 r4 y0 y1 y2 y3 v0 v1
      cases ok
      · have HE := Lib.hid (HN.out rfl)
        clear HN HY HOw HSt
        go_wp2_with fail
        refine ret_gv2 rfl (w.heap.size + 1 + 1) 0 0 0 _ false rfl rfl (gv_stored rfl H3'.out _ _ _ _) rfl ⟨.slice none 0 0, ?_, ?_, below_gv (HBg.out.trans (HR.out.2.2.1.mono HBg.out.size)) (by omega) _ _ _ _⟩
        · rw [HE.out.1, HE.out.2.1, HE.out.2.2.1, HE.out.2.2.2.2]
        · rw [HE.out.2.2.2.1]; exact Own.nil _ _
      · have HE := Lib.hid (HY.out rfl)
        have HO2 := Lib.hid (sOwn11' N As Su B2 Z c2 w2 (own_ints HR.out.2.1) (own9_lies HR.out.2.1) (by omega))
        clear HN HY HOw HSt
        go_wp2_with (go_at_call 44; refine HO2.out.mono ?_; rintro e w3 ⟨B3, c3, rfl, ho3, hb3⟩; have K := (hb3.block _ (heap_lt H3'.out)).trans H3'.out; have a0 := cell_of_row w3 _ 0 _ _ _ K; have a1 := cell_of_row w3 _ 1 _ _ _ K; have a2 := cell_of_row w3 _ 2 _ _ _ K; have a3 := cell_of_row w3 _ 3 _ _ _ K; have e0 := frozen_of_row w3 _ 0 _ _ K; have e1 := frozen_of_row w3 _ 1 _ _ K; have e2 := frozen_of_row w3 _ 2 _ _ K; have e3 := frozen_of_row w3 _ 3 _ _ K)
        have hw2 := HR.out.2.2.1.size
        refine ret_gv2 rfl (w.heap.size + 1 + 1) N As Su _ true rfl rfl (gv_stored rfl K _ _ _ _) rfl ⟨.slice B3 Z.length c3, ?_, ?_, below_gv (HBg.out.trans ((HR.out.2.2.1.mono HBg.out.size).trans (hb3.mono (Nat.le_trans HBg.out.size hw2)))) (by omega) _ _ _ _⟩
        · rw [HE.out.1, HE.out.2.1, HE.out.2.2.1, HE.out.2.2.2.2]
        · rw [HE.out.2.2.2.1]
          exact (own_off ho3 _ _ _ _ (fun g hg => by have := (ho3.lt g hg).1; omega)).lower (Nat.le_trans HBg.out.size hw2)
end Go.Proofs.Ytbegikjoialahaa
