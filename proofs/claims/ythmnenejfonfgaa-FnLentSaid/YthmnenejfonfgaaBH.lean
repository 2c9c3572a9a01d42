/-
  The draws of chapter 12, third part: a lease and a step.
-/
import Derived.Test.YthmnenejfonfgaaBG
namespace Go.Proofs.Ythmnenejfonfgaa
open Go.RowKit

theorem run_ls12 {w : World} {g : Nat} {a u q : Int} (hg : w.heap[g]? = some (.cells #[.int .i64 a, .int .i64 u, .int .i64 q] 26 (0, 0))) : (loadVar 26 ⟨g, 0, none⟩).run Try.prog w = .ok (lsW a u q) w := by
  simp [run_loadVar_row w g 26 26 #[.int .i64 a, .int .i64 u, .int .i64 q] (0, 0) _ hg Try.underlying26 rfl infoLs]
theorem run_st12 {w : World} {g : Nat} {a b c d : Int} (hg : w.heap[g]? = some (.cells #[.int .i64 a, .int .i64 b, .int .i64 c, .int .i64 d] 34 (0, 0))) : (loadVar 34 ⟨g, 0, none⟩).run Try.prog w = .ok (.agg #[.int .i64 a, .int .i64 b, .int .i64 c, .int .i64 d]) w := by
  simp [run_loadVar_row w g 34 34 #[.int .i64 a, .int .i64 b, .int .i64 c, .int .i64 d] (0, 0) _ hg Try.underlying34 rfl infoZpP]
theorem ret_lsSt {fn : Func} {p q : Tmp} (h : fn.results = #[.cell p 26, .cell q 34]) {R : Ending → World → Prop} {c : Act} {w : World} (g d : Nat) (x y z k b n l : Int) (hp : c.tmps.getD p undef = .pointer (some ⟨g, 0, none⟩)) (hq : c.tmps.getD q undef = .pointer (some ⟨d, 0, none⟩))
    (hg : w.heap[g]? = some (.cells #[.int .i64 x, .int .i64 y, .int .i64 z] 26 (0, 0))) (hi : w.heap[d]? = some (.cells #[.int .i64 k, .int .i64 b, .int .i64 n, .int .i64 l] 34 (0, 0))) (hd : c.defers = []) (hR : R (.returned (.tuple #[lsW x y z, .agg #[.int .i64 k, .int .i64 b, .int .i64 n, .int .i64 l]])) w) : bodyPost Try.prog fn R .ret c w := by
  refine bodyPost_ret ?_ hd hR
  have hp' : c.tmps[p]?.getD undef = .pointer (some ⟨g, 0, none⟩) := by simpa using hp
  have hq' : c.tmps[q]?.getD undef = .pointer (some ⟨d, 0, none⟩) := by simpa using hq
  simp [results, h, hp', hq', asAddr, run_ls12 hg, run_st12 hi]
theorem two_stored12 {n X D : Nat} {w0 w : World} {x y z k b m l : Value} {x' y' z' k' b' m' l' : Value} {t s : TypeId} (h : w.heap[X]? = some (.cells #[x, y, z] t (0, 0))) (h2 : w.heap[D]? = some (.cells #[k, b, m, l] s (0, 0))) (hne : X ≠ D) (hX : n ≤ X) (hD : n ≤ D) (hb : Below n w0 w) :
    let w' := ((((((w.setCell ⟨X, 0, none⟩ x').setCell ⟨X, 1, none⟩ y').setCell ⟨X, 2, none⟩ z').setCell ⟨D, 0, none⟩ k').setCell ⟨D, 1, none⟩ b').setCell ⟨D, 2, none⟩ m').setCell ⟨D, 3, none⟩ l'
    w'.heap[X]? = some (.cells #[x', y', z'] t (0, 0)) ∧ w'.heap[D]? = some (.cells #[k', b', m', l'] s (0, 0)) ∧ Below n w0 w' := by
  intro w'
  have h1 := ls_stored h x' y' z'
  have h2' : (((w.setCell ⟨X, 0, none⟩ x').setCell ⟨X, 1, none⟩ y').setCell ⟨X, 2, none⟩ z').heap[D]? = some (.cells #[k, b, m, l] s (0, 0)) := ((gLs w X x' y' z').block _ (heap_lt h2) (by intro e; injection e with e; exact hne e.symm)).trans h2
  refine ⟨?_, heap_setCell_same _ _ 3 _ _ _ (heap_setCell_same _ _ 2 _ _ _ (heap_setCell_same _ _ 1 _ _ _ (heap_setCell_same _ _ 0 _ _ _ h2'))), ((((below_ls hb hX x' y' z').setCell hD _).setCell hD _).setCell hD _).setCell hD _⟩
  exact (heap_setCell_other _ _ _ _ hne).trans ((heap_setCell_other _ _ _ _ hne).trans ((heap_setCell_other _ _ _ _ hne).trans ((heap_setCell_other _ _ _ _ hne).trans h1)))
theorem three_set12 {w : World} {X Z : Nat} {q0 q1 q2 a0 a1 a2 : Value} (h : w.cell? ⟨X, 0, none⟩ = some q0 ∧ w.cell? ⟨X, 1, none⟩ = some q1 ∧ w.cell? ⟨X, 2, none⟩ = some q2) (hne : X ≠ Z) :
    let w' := ((w.setCell ⟨Z, 0, none⟩ a0).setCell ⟨Z, 1, none⟩ a1).setCell ⟨Z, 2, none⟩ a2
    w'.cell? ⟨X, 0, none⟩ = some q0 ∧ w'.cell? ⟨X, 1, none⟩ = some q1 ∧ w'.cell? ⟨X, 2, none⟩ = some q2 := by
  intro w'
  have hp : ∀ (a : Addr) (q : Value), a.block ≠ Z → w.cell? a = some q → w'.cell? a = some q := fun a q hne h =>
    (cell_set_other _ _ a _ hne).trans ((cell_set_other _ _ a _ hne).trans ((cell_set_other _ _ a _ hne).trans h))
  exact ⟨hp _ _ hne h.1, hp _ _ hne h.2.1, hp _ _ hne h.2.2⟩
theorem three_set12b {w : World} {X Z : Nat} {q0 q1 q2 a0 a1 a2 a3 : Value} (h : w.cell? ⟨X, 0, none⟩ = some q0 ∧ w.cell? ⟨X, 1, none⟩ = some q1 ∧ w.cell? ⟨X, 2, none⟩ = some q2) (hne : X ≠ Z) :
    let w' := (((w.setCell ⟨Z, 0, none⟩ a0).setCell ⟨Z, 1, none⟩ a1).setCell ⟨Z, 2, none⟩ a2).setCell ⟨Z, 3, none⟩ a3
    w'.cell? ⟨X, 0, none⟩ = some q0 ∧ w'.cell? ⟨X, 1, none⟩ = some q1 ∧ w'.cell? ⟨X, 2, none⟩ = some q2 := by
  intro w'
  have hp : ∀ (a : Addr) (q : Value), a.block ≠ Z → w.cell? a = some q → w'.cell? a = some q := fun a q hne h =>
    (cell_set_other _ _ a _ hne).trans ((cell_set_other _ _ a _ hne).trans ((cell_set_other _ _ a _ hne).trans ((cell_set_other _ _ a _ hne).trans h)))
  exact ⟨hp _ _ hne h.1, hp _ _ hne h.2.1, hp _ _ hne h.2.2⟩

set_option maxRecDepth 100000 in
set_option maxHeartbeats 4000000 in
theorem drawStep12 (A : Option Addr) (zs : List Int) (c : Nat) (w : World) (hb : Byts w w.heap.size A zs) :
    Calls Try.prog 23 #[.slice A zs.length c] w fun e w' => ∃ a u q k wh nw lg, e = .returned (.tuple #[lsW a u q, .agg #[.int .i64 k, .int .i64 wh, .int .i64 nw, .int .i64 lg]]) ∧ Below w.heap.size w w' := by
  obtain ⟨W, hW⟩ : ∃ W, (w.alloc (.cells #[.int .i64 0, .int .i64 0, .int .i64 0] 26)).alloc (.cells #[.int .i64 0, .int .i64 0, .int .i64 0, .int .i64 0] 34) = W := ⟨_, rfl⟩
  have hbW : Below w.heap.size w W := by rw [← hW]; exact (gAlloc _ _).alloc (by simp) _
  have hsW : W.heap.size = w.heap.size + 2 := by rw [← hW]; simp
  have hRW : W.heap[w.heap.size]? = some (.cells #[.int .i64 0, .int .i64 0, .int .i64 0] 26 (0, 0)) := by rw [← hW, heap_alloc_old _ _ _ (by simp)]; exact heap_alloc_new _ _
  have hIW : W.heap[w.heap.size + 1]? = some (.cells #[.int .i64 0, .int .i64 0, .int .i64 0, .int .i64 0] 34 (0, 0)) := by rw [← hW, show w.heap.size + 1 = (w.alloc (.cells #[.int .i64 0, .int .i64 0, .int .i64 0] 26)).heap.size by simp]; exact heap_alloc_new _ _
  have HC := Lib.hid (Cur.new (c := c) (byts_on12 hb hbW) 70)
  have hbC := gAlloc W (.cells #[.slice A zs.length c, .int .i64 0, .int .u64 0] 70)
  have HB := Lib.hid (below_more hbW hbC)
  have HR := Lib.hid (And.intro ((hbC.block _ (by omega)).trans hRW) ((hbC.block _ (by omega)).trans hIW))
  clear hb hbW hbC hRW hIW
  have HsW := Lib.hid hsW
  clear hsW
  go_enter Try.func23, Try.ntmps23
  go_wp2_with fail
  refine (lease12 W.heap.size 0 _ HC.out (by omega)).mono ?_
  rintro e w3 ⟨a, u, q, rfl, hc3, hg3⟩
  have HR3 := Lib.hid (And.intro ((hg3.block _ (heap_lt HR.out.1) (by intro e; injection e with e; have := HsW.out; omega)).trans HR.out.1) ((hg3.block _ (heap_lt HR.out.2) (by intro e; injection e with e; have := HsW.out; omega)).trans HR.out.2))
  obtain ⟨w4, hw4⟩ : ∃ w4, w3.alloc (.cells #[.int .i64 a, .int .i64 u, .int .i64 q] 26) = w4 := ⟨_, rfl⟩
  have hb4 : Below w3.heap.size w3 w4 := by rw [← hw4]; exact gAlloc _ _
  have HX4 : Hid (w4.heap[w3.heap.size]? = some (.cells #[.int .i64 a, .int .i64 u, .int .i64 q] 26 (0, 0))) := by rw [← hw4]; exact heap_alloc_new _ _
  have HR4 := Lib.hid (And.intro ((hb4.block _ (heap_lt HR3.out.1)).trans HR3.out.1) ((hb4.block _ (heap_lt HR3.out.2)).trans HR3.out.2))
  have HC4 := Lib.hid (hc3.below hb4)
  have HB4 := Lib.hid (below_more (HB.out.grown hg3 HB.out.size (fun k hk => by injection hk with hk; have := HsW.out; omega)) hb4)
  have hs34 : W.heap.size < w3.heap.size := by have := hg3.size; rw [World.heap_size_alloc9] at this; omega
  have hs45 : w3.heap.size ≤ w4.heap.size := hb4.size
  clear hc3 hg3 hb4 hW HC HB HR HR3
  go_wp2_with fail
  refine (leaseSteps12 W.heap.size (0 + 610) _ HC4.out (by omega)).mono ?_
  rintro e w5 ⟨A5, c5, L, rfl, hO5, hL5, hc5, hg5⟩
  have HX5 := Lib.hid ((hg5.block _ (heap_lt HX4.out) (by intro e; injection e with e; omega)).trans HX4.out)
  have HR5 := Lib.hid (And.intro ((hg5.block _ (heap_lt HR4.out.1) (by intro e; injection e with e; have := HsW.out; omega)).trans HR4.out.1) ((hg5.block _ (heap_lt HR4.out.2) (by intro e; injection e with e; have := HsW.out; omega)).trans HR4.out.2))
  have HB5 := Lib.hid (HB4.out.grown hg5 HB4.out.size (fun k hk => by injection hk with hk; have := HsW.out; omega))
  have HC5 := Lib.hid hc5
  have HL5 := Lib.hid hO5
  clear hc5 hg5 hO5 HC4 HR4 HX4 HB4 hw4
  have yx0 : w5.cell? ⟨w3.heap.size, 0, none⟩ = some (.int .i64 a) := cell_of_row _ _ 0 _ _ _ HX5.out
  have yx1 : w5.cell? ⟨w3.heap.size, 1, none⟩ = some (.int .i64 u) := cell_of_row _ _ 1 _ _ _ HX5.out
  have yx2 : w5.cell? ⟨w3.heap.size, 2, none⟩ = some (.int .i64 q) := cell_of_row _ _ 2 _ _ _ HX5.out
  have rx0 : w5.cell? ⟨w.heap.size, 0, none⟩ = some (.int .i64 0) := cell_of_row _ _ 0 _ _ _ HR5.out.1
  have rf0 : w5.frozen? ⟨w.heap.size, 0, none⟩ = false := frozen_of_row w5 _ 0 _ _ HR5.out.1
  have rx1 : w5.cell? ⟨w.heap.size, 1, none⟩ = some (.int .i64 0) := cell_of_row _ _ 1 _ _ _ HR5.out.1
  have rf1 : w5.frozen? ⟨w.heap.size, 1, none⟩ = false := frozen_of_row w5 _ 1 _ _ HR5.out.1
  have rx2 : w5.cell? ⟨w.heap.size, 2, none⟩ = some (.int .i64 0) := cell_of_row _ _ 2 _ _ _ HR5.out.1
  have rf2 : w5.frozen? ⟨w.heap.size, 2, none⟩ = false := frozen_of_row w5 _ 2 _ _ HR5.out.1
  have sx0 : w5.cell? ⟨(w.heap.size + 1), 0, none⟩ = some (.int .i64 0) := cell_of_row _ _ 0 _ _ _ HR5.out.2
  have sf0 : w5.frozen? ⟨(w.heap.size + 1), 0, none⟩ = false := frozen_of_row w5 _ 0 _ _ HR5.out.2
  have sx1 : w5.cell? ⟨(w.heap.size + 1), 1, none⟩ = some (.int .i64 0) := cell_of_row _ _ 1 _ _ _ HR5.out.2
  have sf1 : w5.frozen? ⟨(w.heap.size + 1), 1, none⟩ = false := frozen_of_row w5 _ 1 _ _ HR5.out.2
  have sx2 : w5.cell? ⟨(w.heap.size + 1), 2, none⟩ = some (.int .i64 0) := cell_of_row _ _ 2 _ _ _ HR5.out.2
  have sf2 : w5.frozen? ⟨(w.heap.size + 1), 2, none⟩ = false := frozen_of_row w5 _ 2 _ _ HR5.out.2
  have sx3 : w5.cell? ⟨(w.heap.size + 1), 3, none⟩ = some (.int .i64 0) := cell_of_row _ _ 3 _ _ _ HR5.out.2
  have sf3 : w5.frozen? ⟨(w.heap.size + 1), 3, none⟩ = false := frozen_of_row w5 _ 3 _ _ HR5.out.2
  by_cases hne : L = []
  · subst hne
    go_wp2_with fail
    obtain ⟨r1, r2, r3⟩ := two_stored12 (x' := .int .i64 a) (y' := .int .i64 u) (z' := .int .i64 q) (k' := .int .i64 1) (b' := .int .i64 1) (m' := .int .i64 50) (l' := .int .i64 5) HR5.out.1 HR5.out.2 (by omega) (Nat.le_refl _) (Nat.le_succ _) HB5.out
    exact ret_lsSt rfl w.heap.size (w.heap.size + 1) a u q 1 1 50 5 rfl rfl r1 r2 rfl ⟨_, _, _, _, _, _, _, rfl, r3⟩
  · obtain ⟨g5, rfl⟩ : ∃ g, A5 = some ⟨g, 0, none⟩ := own_some12 HL5.out hne
    have hlen : 0 < L.length := List.length_pos_iff.2 hne
    have hlen2 : ((L.length : Int) == 0) = false := by simp; exact hne
    have hn1 : w3.heap.size ≠ W.heap.size := by omega
    have hn2 : some w3.heap.size ≠ some W.heap.size := by intro e; injection e with e; omega
    have hk9 : 0 + 610 + 600 ≤ 549755813888 := by omega
    have hL9 : (L.length : Int) ≤ 1073741824 := by omega
    have hq0 : w5.drew.cell? ⟨w3.heap.size, 0, none⟩ = some (.int .i64 a) ∧ w5.drew.cell? ⟨w3.heap.size, 1, none⟩ = some (.int .i64 u) ∧ w5.drew.cell? ⟨w3.heap.size, 2, none⟩ = some (.int .i64 q) := ⟨yx0, yx1, yx2⟩
    have hg51 := (HL5.out.lt g5 rfl).1
    have hb1 : g5 ≠ w.heap.size := by have := HsW.out; omega
    have hb2 : g5 ≠ w.heap.size + 1 := by have := HsW.out; omega
    have hb3 : w3.heap.size ≠ w.heap.size := by have := HsW.out; omega
    have hb4 : w3.heap.size ≠ w.heap.size + 1 := by have := HsW.out; omega
    have hWB : W.heap.size < w4.heap.size := by omega
    have HB6 : Hid (∀ w6 : World, w5.drew.grownBy w6 (some W.heap.size) → w6.heap[w.heap.size]? = some (.cells #[.int .i64 0, .int .i64 0, .int .i64 0] 26 (0, 0)) ∧ w6.heap[w.heap.size + 1]? = some (.cells #[.int .i64 0, .int .i64 0, .int .i64 0, .int .i64 0] 34 (0, 0)) ∧ Below w.heap.size w w6) := fun w6 hg6 =>
      ⟨(hg6.block _ (heap_lt HR5.out.1) (by intro e; injection e with e; have := HsW.out; omega)).trans HR5.out.1, (hg6.block _ (heap_lt HR5.out.2) (by intro e; injection e with e; have := HsW.out; omega)).trans HR5.out.2, (below_more HB5.out gDrew).grown hg6 (below_more HB5.out gDrew).size (fun k hk => by injection hk with hk; have := HsW.out; omega)⟩
    have HQ : Hid (∀ w6 : World, w5.drew.grownBy w6 (some W.heap.size) → w6.cell? ⟨w3.heap.size, 0, none⟩ = some (.int .i64 a) ∧ w6.cell? ⟨w3.heap.size, 1, none⟩ = some (.int .i64 u) ∧ w6.cell? ⟨w3.heap.size, 2, none⟩ = some (.int .i64 q)) := fun w6 hg6 => ⟨hg6.cell hq0.1 hn2, hg6.cell hq0.2.1 hn2, hg6.cell hq0.2.2 hn2⟩
    have HZ : Hid (∀ w6 : World, w5.drew.grownBy w6 (some W.heap.size) → OwnR 34 4 fZp w6 w4.heap.size (.slice (some ⟨g5, 0, none⟩) L.length c5) L) := fun w6 hg6 => HL5.out.cur hWB (grownBy_trans (gBelowR gDrew _) hg6)
    go_wp2_with fail
    obtain ⟨yd0, yd1, yd2⟩ := hq0
    go_region_with (first
      | (go_at_call 48; refine (pick_any W.heap.size (0 + 610 + 600) L.length _ (HC5.out.below gDrew) hk9 hL9).mono ?_; rintro e w6 ⟨x6, rfl, hx6, hc6, hg6⟩; obtain ⟨j, rfl⟩ := Int.eq_ofNat_of_zero_le hx6.1; have hj : j < L.length := (by omega); have hji : (j : Int) < (L.length : Int) := (by omega); have hq6 := HQ.out w6 hg6; obtain ⟨⟨z0, -⟩, ⟨z1, -⟩, ⟨z2, -⟩, ⟨z3, -⟩⟩ := Zp_own_at (HZ.out w6 hg6) hj; generalize L[j] = p at *; obtain ⟨p0, p1, p2, p3⟩ := p; obtain ⟨v1, v2, v3⟩ := HB6.out w6 hg6; have ra0 : w6.cell? ⟨w.heap.size, 0, none⟩ = some (.int .i64 0) := cell_of_row _ _ 0 _ _ _ v1; have rb0 := frozen_of_row w6 _ 0 _ _ v1; have ra1 : w6.cell? ⟨w.heap.size, 1, none⟩ = some (.int .i64 0) := cell_of_row _ _ 1 _ _ _ v1; have rb1 := frozen_of_row w6 _ 1 _ _ v1; have ra2 : w6.cell? ⟨w.heap.size, 2, none⟩ = some (.int .i64 0) := cell_of_row _ _ 2 _ _ _ v1; have rb2 := frozen_of_row w6 _ 2 _ _ v1; have sa0 : w6.cell? ⟨w.heap.size + 1, 0, none⟩ = some (.int .i64 0) := cell_of_row _ _ 0 _ _ _ v2; have sb0 := frozen_of_row w6 _ 0 _ _ v2; have sa1 : w6.cell? ⟨w.heap.size + 1, 1, none⟩ = some (.int .i64 0) := cell_of_row _ _ 1 _ _ _ v2; have sb1 := frozen_of_row w6 _ 1 _ _ v2; have sa2 : w6.cell? ⟨w.heap.size + 1, 2, none⟩ = some (.int .i64 0) := cell_of_row _ _ 2 _ _ _ v2; have sb2 := frozen_of_row w6 _ 2 _ _ v2; have sa3 : w6.cell? ⟨w.heap.size + 1, 3, none⟩ = some (.int .i64 0) := cell_of_row _ _ 3 _ _ _ v2; have sb3 := frozen_of_row w6 _ 3 _ _ v2; obtain ⟨hq60, hq61, hq62⟩ := hq6)
      | (go_loud (fail "ARM")))
    all_goals
      have hst := two_stored12 (x' := .int .i64 a) (y' := .int .i64 u) (z' := .int .i64 q) (k' := .int .i64 p0) (b' := .int .i64 p1) (m' := .int .i64 p2) (l' := .int .i64 p3) v1 v2 (show w.heap.size ≠ w.heap.size + 1 by omega) (Nat.le_refl _) (Nat.le_succ _) v3
      obtain ⟨s1, s2, s3⟩ := hst
      clear HQ HZ HB6 hg6 v1 v2 v3 hc6 z0 z1 z2 z3 hq60 hq61 hq62 yd0 yd1 yd2
      generalize ((((((w6.setCell ⟨w.heap.size, 0, none⟩ (.int .i64 a)).setCell ⟨w.heap.size, 1, none⟩ (.int .i64 u)).setCell ⟨w.heap.size, 2, none⟩ (.int .i64 q)).setCell ⟨w.heap.size + 1, 0, none⟩ (.int .i64 p0)).setCell ⟨w.heap.size + 1, 1, none⟩ (.int .i64 p1)).setCell ⟨w.heap.size + 1, 2, none⟩ (.int .i64 p2)).setCell ⟨w.heap.size + 1, 3, none⟩ (.int .i64 p3) = wz at *
      go_wp2_with fail
      exact ret_lsSt rfl w.heap.size (w.heap.size + 1) a u q p0 p1 p2 p3 rfl rfl s1 s2 rfl ⟨_, _, _, _, _, _, _, rfl, s3⟩
end Go.Proofs.Ythmnenejfonfgaa
