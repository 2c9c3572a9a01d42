/-
  The draws of chapter 12, second part: a lease, and what each law is drawn from.
-/
import Derived.Test.YthmnenejfonfgaaBE
namespace Go.Proofs.Ythmnenejfonfgaa
open Go.RowKit

theorem ret_ls1 {fn : Func} {p : Tmp} (h : fn.results = #[.cell p 26]) {R : Ending → World → Prop} {c : Act} {w : World} (g : Nat) (x y z : Int) (hp : c.tmps.getD p undef = .pointer (some ⟨g, 0, none⟩))
    (hg : w.heap[g]? = some (.cells #[.int .i64 x, .int .i64 y, .int .i64 z] 26 (0, 0))) (hd : c.defers = []) (hR : R (.returned (lsW x y z)) w) : bodyPost Try.prog fn R .ret c w := by
  refine bodyPost_ret ?_ hd hR
  have hp' : c.tmps[p]?.getD undef = .pointer (some ⟨g, 0, none⟩) := by simpa using hp
  simp [results, h, hp', asAddr, run_loadVar_row w g 26 26 #[.int .i64 x, .int .i64 y, .int .i64 z] (0, 0) _ hg Try.underlying26 rfl infoLs]
/-- In the midst of a lease's draw: the lease in block X, the answer's box. -/
structure Le12 (w wr : World) (B K X : Nat) (a u q : Int) : Prop where
  box : wr.heap[X]? = some (.cells #[.int .i64 a, .int .i64 u, .int .i64 q] 26 (0, 0))
  res : wr.heap[w.heap.size]? = some (.cells #[.int .i64 0, .int .i64 0, .int .i64 0] 26 (0, 0))
  cur : Cur wr B K
  grown : w.grownBy wr (some B)
  lt : B < w.heap.size
  le : w.heap.size < X
theorem Le12.call {w wr w' : World} {B K X : Nat} {a u q : Int} (h : Le12 w wr B K X a u q) (hc : Cur w' B (K + 2)) (hg : wr.grownBy w' (some B)) : Le12 w w' B (K + 2) X a u q :=
  ⟨(hg.block _ (heap_lt h.box) (by have := h.lt; have := h.le; intro e; injection e with e; omega)).trans h.box, (hg.block _ (heap_lt h.res) (by have := h.lt; intro e; injection e with e; omega)).trans h.res, hc, grownBy_trans h.grown hg, h.lt, h.le⟩
theorem Le12.seq {w wr : World} {B K X : Nat} {a u q : Int} (h : Le12 w wr B K X a u q) (z : Int) : Le12 w (wr.setCell ⟨X, 2, none⟩ (.int .i64 z)) B K X a u z :=
  ⟨heap_setCell_same _ _ 2 _ _ _ h.box, (heap_setCell_other wr ⟨X, 2, none⟩ _ _ (Nat.ne_of_lt h.le)).trans h.res, h.cur.grown (gSetL wr X 2 _) (fun g hg => by injection hg with hg; have := h.lt; have := h.le; omega), grown_set h.grown (Nat.le_of_lt h.le) 2 _, h.lt, h.le⟩
theorem Le12.who {w wr : World} {B K X : Nat} {a u q : Int} (h : Le12 w wr B K X a u q) (z : Int) : Le12 w (wr.setCell ⟨X, 0, none⟩ (.int .i64 z)) B K X z u q :=
  ⟨heap_setCell_same _ _ 0 _ _ _ h.box, (heap_setCell_other wr ⟨X, 0, none⟩ _ _ (Nat.ne_of_lt h.le)).trans h.res, h.cur.grown (gSetL wr X 0 _) (fun g hg => by injection hg with hg; have := h.lt; have := h.le; omega), grown_set h.grown (Nat.le_of_lt h.le) 0 _, h.lt, h.le⟩
theorem Le12.fin {w wr : World} {B K X M : Nat} {a u q : Int} (h : Le12 w wr B K X a u q) (hk : K ≤ M) :
    let w' := ((wr.setCell ⟨w.heap.size, 0, none⟩ (.int .i64 a)).setCell ⟨w.heap.size, 1, none⟩ (.int .i64 u)).setCell ⟨w.heap.size, 2, none⟩ (.int .i64 q)
    w'.heap[w.heap.size]? = some (.cells #[.int .i64 a, .int .i64 u, .int .i64 q] 26 (0, 0)) ∧ Cur w' B M ∧ w.grownBy w' (some B) :=
  ⟨ls_stored h.res _ _ _, (h.cur.grown (gLs _ _ _ _ _) (fun g hg => by injection hg with hg; have := h.lt; omega)).mono hk, grown_set (grown_set (grown_set h.grown (Nat.le_refl _) 0 _) (Nat.le_refl _) 1 _) (Nat.le_refl _) 2 _⟩

set_option maxRecDepth 100000 in
set_option maxHeartbeats 4000000 in
theorem lease12 (B k : Nat) (w : World) (hcur : Cur w B k) (hk : k ≤ 34359738368) :
    Calls Try.prog 55 #[.pointer (some ⟨B, 0, none⟩)] w fun e w' => ∃ a u q, e = .returned (lsW a u q) ∧ Cur w' B (k + 610) ∧ w.grownBy w' (some B) := by
  have hB := hcur.lt
  have HC := Lib.hid (hcur.below (gAlloc w (.cells #[.int .i64 0, .int .i64 0, .int .i64 0] 26)))
  have HR : Hid ((w.alloc (.cells #[.int .i64 0, .int .i64 0, .int .i64 0] 26)).heap[w.heap.size]? = some (.cells #[.int .i64 0, .int .i64 0, .int .i64 0] 26 (0, 0))) := heap_alloc_new _ _
  clear hcur
  go_enter Try.func55, Try.ntmps55
  go_wp2_with fail
  refine (leaseSteps12 B k _ HC.out (by omega)).mono ?_
  rintro e w1 ⟨A, c, L, rfl, hO1, hL1, hC1, hG1⟩
  have HR1 : Hid (w1.heap[w.heap.size]? = some (.cells #[.int .i64 0, .int .i64 0, .int .i64 0] 26 (0, 0))) := (hG1.block _ (by rw [World.heap_size_alloc9]; omega) (by intro e; injection e with e; omega)).trans HR.out
  have HG1 := Lib.hid (grownBy_trans (World.grownBy_alloc w _ (some B)) hG1)
  have HC1 := Lib.hid hC1
  have HP := Lib.hid (sPlayL A L c w1 (hO1.rd fZp_len) (by omega))
  clear hO1 hC1 hG1 HC HR
  go_wp2_with fail
  refine HP.out.mono ?_
  rintro e w2 ⟨dd, rfl, -, hb2⟩
  obtain ⟨a, ha⟩ : ∃ a, (plL L).1 = a := ⟨_, rfl⟩
  obtain ⟨u, hu⟩ : ∃ u, (plL L).2.1 = u := ⟨_, rfl⟩
  obtain ⟨q, hq⟩ : ∃ q, (plL L).2.2 = q := ⟨_, rfl⟩
  rw [ha, hu, hq]
  generalize plOk L = ok
  have HM : Hid (Le12 w (w2.alloc (.cells #[.int .i64 a, .int .i64 u, .int .i64 q] 26)) B (k + 600) w2.heap.size a u q) :=
    ⟨heap_alloc_new _ _, (heap_alloc_old _ _ _ (Nat.lt_of_lt_of_le (heap_lt HR1.out) hb2.size)).trans ((hb2.block _ (heap_lt HR1.out)).trans HR1.out), (HC1.out.below hb2).below (gAlloc _ _), grownBy_trans (grownBy_trans HG1.out (gBelowR hb2 _)) (World.grownBy_alloc _ _ _), hB, Nat.lt_of_lt_of_le (heap_lt HR1.out) hb2.size⟩
  clear ha hu hq HP HR1 HG1 HC1 hb2
  have hne1 : w.heap.size ≠ w2.heap.size := Nat.ne_of_lt HM.out.le
  have hne2 : w2.heap.size ≠ w.heap.size := Nat.ne_of_gt HM.out.le
  go_wp2_with fail
  refine (pick_any B (k + 600) 20 _ HM.out.cur (by omega) (by decide)).mono ?_
  rintro e w5 ⟨x5, rfl, -, hc5, hg5⟩
  have HM5 := Lib.hid (HM.out.call hc5 hg5)
  clear hc5 hg5
  have xew50 : w5.cell? ⟨w2.heap.size, 0, none⟩ = some (.int .i64 a) := cell_of_row _ _ 0 _ _ _ HM5.out.box
  have few50 : w5.frozen? ⟨w2.heap.size, 0, none⟩ = false := frozen_of_row w5 _ 0 _ _ HM5.out.box
  have xrw50 : w5.cell? ⟨w.heap.size, 0, none⟩ = some (.int .i64 0) := cell_of_row _ _ 0 _ _ _ HM5.out.res
  have frw50 : w5.frozen? ⟨w.heap.size, 0, none⟩ = false := frozen_of_row w5 _ 0 _ _ HM5.out.res
  have xew51 : w5.cell? ⟨w2.heap.size, 1, none⟩ = some (.int .i64 u) := cell_of_row _ _ 1 _ _ _ HM5.out.box
  have few51 : w5.frozen? ⟨w2.heap.size, 1, none⟩ = false := frozen_of_row w5 _ 1 _ _ HM5.out.box
  have xrw51 : w5.cell? ⟨w.heap.size, 1, none⟩ = some (.int .i64 0) := cell_of_row _ _ 1 _ _ _ HM5.out.res
  have frw51 : w5.frozen? ⟨w.heap.size, 1, none⟩ = false := frozen_of_row w5 _ 1 _ _ HM5.out.res
  have xew52 : w5.cell? ⟨w2.heap.size, 2, none⟩ = some (.int .i64 q) := cell_of_row _ _ 2 _ _ _ HM5.out.box
  have few52 : w5.frozen? ⟨w2.heap.size, 2, none⟩ = false := frozen_of_row w5 _ 2 _ _ HM5.out.box
  have xrw52 : w5.cell? ⟨w.heap.size, 2, none⟩ = some (.int .i64 0) := cell_of_row _ _ 2 _ _ _ HM5.out.res
  have frw52 : w5.frozen? ⟨w.heap.size, 2, none⟩ = false := frozen_of_row w5 _ 2 _ _ HM5.out.res
  by_cases h0 : x5 = 0
  · subst h0
    go_wp2_with fail
    refine (among_lit B (k + 600 + 2) [-1, 1000, 1001] _ HM5.out.cur (by omega) (by decide) (by decide) 3 3 rfl).mono ?_
    rintro e w6 ⟨x6, rfl, -, hc6, hg6⟩
    have HM6 := Lib.hid (HM5.out.call hc6 hg6)
    clear hc6 hg6 HM5 HM
    have xew60 : w6.cell? ⟨w2.heap.size, 0, none⟩ = some (.int .i64 a) := cell_of_row _ _ 0 _ _ _ HM6.out.box
    have few60 : w6.frozen? ⟨w2.heap.size, 0, none⟩ = false := frozen_of_row w6 _ 0 _ _ HM6.out.box
    have xrw60 : w6.cell? ⟨w.heap.size, 0, none⟩ = some (.int .i64 0) := cell_of_row _ _ 0 _ _ _ HM6.out.res
    have frw60 : w6.frozen? ⟨w.heap.size, 0, none⟩ = false := frozen_of_row w6 _ 0 _ _ HM6.out.res
    have xew61 : w6.cell? ⟨w2.heap.size, 1, none⟩ = some (.int .i64 u) := cell_of_row _ _ 1 _ _ _ HM6.out.box
    have few61 : w6.frozen? ⟨w2.heap.size, 1, none⟩ = false := frozen_of_row w6 _ 1 _ _ HM6.out.box
    have xrw61 : w6.cell? ⟨w.heap.size, 1, none⟩ = some (.int .i64 0) := cell_of_row _ _ 1 _ _ _ HM6.out.res
    have frw61 : w6.frozen? ⟨w.heap.size, 1, none⟩ = false := frozen_of_row w6 _ 1 _ _ HM6.out.res
    have xew62 : w6.cell? ⟨w2.heap.size, 2, none⟩ = some (.int .i64 q) := cell_of_row _ _ 2 _ _ _ HM6.out.box
    have few62 : w6.frozen? ⟨w2.heap.size, 2, none⟩ = false := frozen_of_row w6 _ 2 _ _ HM6.out.box
    have xrw62 : w6.cell? ⟨w.heap.size, 2, none⟩ = some (.int .i64 0) := cell_of_row _ _ 2 _ _ _ HM6.out.res
    have frw62 : w6.frozen? ⟨w.heap.size, 2, none⟩ = false := frozen_of_row w6 _ 2 _ _ HM6.out.res
    have HM7 := Lib.hid (HM6.out.seq x6)
    go_wp2_with fail
    obtain ⟨r1, r2, r3⟩ := HM7.out.fin (M := k + 610) (by omega)
    exact ret_ls1 rfl w.heap.size a u x6 rfl r1 rfl ⟨_, _, _, rfl, r2, r3⟩
  · have h0' : (x5 == 0) = false := by simpa using h0
    by_cases h1 : x5 = 1
    · subst h1
      go_wp2_with fail
      refine (among_lit B (k + 600 + 2) [0, 9, 10] _ HM5.out.cur (by omega) (by decide) (by decide) 3 3 rfl).mono ?_
      rintro e w6 ⟨x6, rfl, -, hc6, hg6⟩
      have HM6 := Lib.hid (HM5.out.call hc6 hg6)
      clear hc6 hg6 HM5 HM
      have xew60 : w6.cell? ⟨w2.heap.size, 0, none⟩ = some (.int .i64 a) := cell_of_row _ _ 0 _ _ _ HM6.out.box
      have few60 : w6.frozen? ⟨w2.heap.size, 0, none⟩ = false := frozen_of_row w6 _ 0 _ _ HM6.out.box
      have xrw60 : w6.cell? ⟨w.heap.size, 0, none⟩ = some (.int .i64 0) := cell_of_row _ _ 0 _ _ _ HM6.out.res
      have frw60 : w6.frozen? ⟨w.heap.size, 0, none⟩ = false := frozen_of_row w6 _ 0 _ _ HM6.out.res
      have xew61 : w6.cell? ⟨w2.heap.size, 1, none⟩ = some (.int .i64 u) := cell_of_row _ _ 1 _ _ _ HM6.out.box
      have few61 : w6.frozen? ⟨w2.heap.size, 1, none⟩ = false := frozen_of_row w6 _ 1 _ _ HM6.out.box
      have xrw61 : w6.cell? ⟨w.heap.size, 1, none⟩ = some (.int .i64 0) := cell_of_row _ _ 1 _ _ _ HM6.out.res
      have frw61 : w6.frozen? ⟨w.heap.size, 1, none⟩ = false := frozen_of_row w6 _ 1 _ _ HM6.out.res
      have xew62 : w6.cell? ⟨w2.heap.size, 2, none⟩ = some (.int .i64 q) := cell_of_row _ _ 2 _ _ _ HM6.out.box
      have few62 : w6.frozen? ⟨w2.heap.size, 2, none⟩ = false := frozen_of_row w6 _ 2 _ _ HM6.out.box
      have xrw62 : w6.cell? ⟨w.heap.size, 2, none⟩ = some (.int .i64 0) := cell_of_row _ _ 2 _ _ _ HM6.out.res
      have frw62 : w6.frozen? ⟨w.heap.size, 2, none⟩ = false := frozen_of_row w6 _ 2 _ _ HM6.out.res
      have HM7 := Lib.hid (HM6.out.who x6)
      go_wp2_with fail
      obtain ⟨r1, r2, r3⟩ := HM7.out.fin (M := k + 610) (by omega)
      exact ret_ls1 rfl w.heap.size x6 u q rfl r1 rfl ⟨_, _, _, rfl, r2, r3⟩
    · have h1' : (x5 == 1) = false := by simpa using h1
      go_wp2_with fail
      obtain ⟨r1, r2, r3⟩ := HM5.out.fin (M := k + 610) (by omega)
      exact ret_ls1 rfl w.heap.size a u q rfl r1 rfl ⟨_, _, _, rfl, r2, r3⟩

set_option maxRecDepth 100000 in
set_option maxHeartbeats 2000000 in
theorem drawPlay12 (A : Option Addr) (zs : List Int) (c : Nat) (w : World) (hb : Byts w w.heap.size A zs) :
    Calls Try.prog 11 #[.slice A zs.length c] w fun e w' => ∃ A1 c1 L, e = .returned (.slice A1 (List.length L) c1) ∧ OwnR 34 4 fZp w' w.heap.size (.slice A1 L.length c1) L ∧ L.length ≤ 41 ∧ Below w.heap.size w w' := by
  have HC := Lib.hid (Cur.new (c := c) hb 70)
  have HB := Lib.hid (gAlloc w (.cells #[.slice A zs.length c, .int .i64 0, .int .u64 0] 70))
  clear hb
  go_enter Try.func11, Try.ntmps11
  go_wp2_with fail
  refine (leaseSteps12 w.heap.size 0 _ HC.out (by omega)).mono ?_
  rintro e w3 ⟨A1, c1, L, rfl, ho3, hl3, hc3, hg3⟩
  have HO := Lib.hid (ho3.lower (base' := w.heap.size) (by rw [World.heap_size_alloc9]; omega))
  have HB3 := Lib.hid (HB.out.grown hg3 HB.out.size (fun k hk => by injection hk with hk; omega))
  clear ho3 hc3 hg3
  go_wp2_with fail
  go_ret
  exact ⟨_, _, _, rfl, HO.out, hl3, HB3.out⟩

theorem plAll_len (l : List Zpc) : (plAll l).length ≤ 40 := by
  cases h : plOk l
  · rw [(pl_no h).2.1]; simp
  · rw [(pl_yes h).2.1, plS_len]
    rw [plOk] at h
    simp at h
    omega
theorem results_tmp3y {fn : Func} {t u v : Tmp} (h : fn.results = #[.tmp t, .tmp u, .tmp v]) (tmps : Array Value) (P : Program) (w : World) :
    (results fn tmps).run P w = .ok (.tuple #[tmps.getD t undef, tmps.getD u undef, tmps.getD v undef]) w := by
  simp [results, h]
set_option maxRecDepth 100000 in
set_option maxHeartbeats 2000000 in
theorem drawOver12 (A : Option Addr) (zs : List Int) (c : Nat) (w : World) (hb : Byts w w.heap.size A zs) :
    Calls Try.prog 17 #[.slice A zs.length c] w fun e w' => ∃ d L x y, e = .returned (.tuple #[d, .int .i64 x, .int .i64 y]) ∧ OwnR 26 3 fZa w' w.heap.size d L ∧ L.length ≤ 41 ∧ Below w.heap.size w w' := by
  have HC := Lib.hid (Cur.new (c := c) hb 70)
  have HB := Lib.hid (gAlloc w (.cells #[.slice A zs.length c, .int .i64 0, .int .u64 0] 70))
  clear hb
  go_enter Try.func17, Try.ntmps17
  go_wp2_with fail
  refine (leaseSteps12 w.heap.size 0 _ HC.out (by omega)).mono ?_
  rintro e w3 ⟨A1, c1, L, rfl, ho3, hl3, hc3, hg3⟩
  have HB3 := Lib.hid (HB.out.grown hg3 HB.out.size (fun k hk => by injection hk with hk; omega))
  have HC3 := Lib.hid hc3
  have HP := Lib.hid (sPlayL A1 L c1 w3 (ho3.rd fZp_len) (by omega))
  have hs3 : w.heap.size + 1 ≤ w3.heap.size := by have := hg3.size; rw [World.heap_size_alloc9] at this; exact this
  have Hs3 := Lib.hid hs3
  clear ho3 hc3 hg3 HC HB hs3
  go_wp2_with fail
  refine HP.out.mono ?_
  rintro e w4 ⟨d, rfl, ho4, hb4⟩
  have hw4 : w.heap.size ≤ w4.heap.size := Nat.le_trans HB3.out.size hb4.size
  have HO := Lib.hid (ho4.lower Hs3.out)
  have HC4 := Lib.hid (HC3.out.below hb4)
  have HB4 := Lib.hid (below_more HB3.out hb4)
  have hn := Lib.hid (plAll_len L)
  clear ho4 hb4 HP HC3 HB3
  generalize plAll L = M at *
  generalize (plL L).1 = a at *
  generalize (plL L).2.1 = u at *
  generalize (plL L).2.2 = q at *
  generalize plOk L = ok at *
  have HO5 : Hid (OwnR 26 3 fZa (w4.alloc (.cells #[.int .i64 a, .int .i64 u, .int .i64 q] 26)) (w.heap.size + 1) d M) := HO.out.below (gAlloc _ _)
  have HC5 : Hid (Cur (w4.alloc (.cells #[.int .i64 a, .int .i64 u, .int .i64 q] 26)) w.heap.size (0 + 600)) := HC4.out.below (gAlloc _ _)
  have HB5 : Hid (Below w.heap.size w (w4.alloc (.cells #[.int .i64 a, .int .i64 u, .int .i64 q] 26))) := below_more HB4.out (gAlloc _ _)
  clear HO HC4 HB4 Hs3 hw4
  go_wp2_with fail
  refine (pick_any w.heap.size (0 + 600) 60 _ HC5.out (by omega) (by decide)).mono ?_
  rintro e w5 ⟨x5, rfl, -, hc5, hg5⟩
  have HO6 := Lib.hid (HO5.out.cur (Nat.lt_succ_self _) hg5)
  have HC6 := Lib.hid hc5
  have HB6 := Lib.hid (HB5.out.grown hg5 HB5.out.size (fun k hk => by injection hk with hk; omega))
  clear hc5 hg5 HO5 HC5 HB5
  go_wp2_with fail
  refine (pick_any w.heap.size (0 + 600 + 2) 5 _ HC6.out (by omega) (by decide)).mono ?_
  rintro e w6 ⟨x6, rfl, hx6, hc6, hg6⟩
  obtain ⟨p0, p1⟩ := pick_to hx6 (by decide)
  have HO7 := Lib.hid (HO6.out.cur (Nat.lt_succ_self _) hg6)
  have HC7 := Lib.hid hc6
  have HB7 := Lib.hid (HB6.out.grown hg6 HB6.out.size (fun k hk => by injection hk with hk; omega))
  clear hx6 hc6 hg6 HO6 HC6 HB6
  go_wp2_with fail
  refine (pick_any w.heap.size (0 + 600 + 2 + 2) 9 _ HC7.out (by omega) (by decide)).mono ?_
  rintro e w7 ⟨x7, rfl, hx7, hc7, hg7⟩
  obtain ⟨q0, q1⟩ := pick_to hx7 (by decide)
  have HO8 := Lib.hid (HO7.out.cur (Nat.lt_succ_self _) hg7)
  have HB8 := Lib.hid (HB7.out.grown hg7 HB7.out.size (fun k hk => by injection hk with hk; omega))
  clear hx7 hc7 hg7 HO7 HC7 HB7
  have hd0 : 0 ≤ x7.tdiv 8 := Int.tdiv_nonneg q0 (by decide)
  have hd1 : x7.tdiv 8 ≤ 1 := by rw [Int.tdiv_eq_ediv_of_nonneg q0]; omega
  go_wp2_with fail
  refine bodyPost_ret (results_tmp3y rfl _ _ _) rfl ?_
  exact ⟨d, M, _, _, rfl, HO8.out.lower (Nat.le_succ _), by have := hn.out; omega, HB8.out⟩
/-- As ret_ls2, with any second value. -/
theorem ret_ls2v {fn : Func} {p q : Tmp} (h : fn.results = #[.cell p 26, .tmp q]) {R : Ending → World → Prop} {c : Act} {w : World} (g : Nat) (x y z : Int) (v : Value) (hp : c.tmps.getD p undef = .pointer (some ⟨g, 0, none⟩)) (hu : c.tmps.getD q undef = v)
    (hg : w.heap[g]? = some (.cells #[.int .i64 x, .int .i64 y, .int .i64 z] 26 (0, 0))) (hd : c.defers = []) (hR : R (.returned (.tuple #[lsW x y z, v])) w) : bodyPost Try.prog fn R .ret c w := by
  refine bodyPost_ret ?_ hd hR
  have hp' : c.tmps[p]?.getD undef = .pointer (some ⟨g, 0, none⟩) := by simpa using hp
  have hu' : c.tmps[q]?.getD undef = v := by simpa using hu
  rw [results_cell_tmp h]
  simp [hp', hu', asAddr, run_loadVar_row w g 26 26 #[.int .i64 x, .int .i64 y, .int .i64 z] (0, 0) _ hg Try.underlying26 rfl infoLs]
theorem byts_on12 {w w' : World} {A : Option Addr} {zs : List Int} (h : Byts w w.heap.size A zs) (hb : Below w.heap.size w w') : Byts w' w'.heap.size A zs :=
  ⟨h.1, fun hne => by
    obtain ⟨b, o, e, hlt, hc⟩ := h.2 hne
    exact ⟨b, o, e, Nat.lt_of_lt_of_le hlt hb.size, fun j hj => (hb.cell hlt).trans (hc j hj)⟩⟩
set_option maxRecDepth 100000 in
set_option maxHeartbeats 2000000 in
theorem drawHeld12 (A : Option Addr) (zs : List Int) (c : Nat) (w : World) (hb : Byts w w.heap.size A zs) :
    Calls Try.prog 53 #[.slice A zs.length c] w fun e w' => ∃ a u q x, e = .returned (.tuple #[lsW a u q, .int .i64 x]) ∧ Below w.heap.size w w' := by
  obtain ⟨W, hW⟩ : ∃ W, w.alloc (.cells #[.int .i64 0, .int .i64 0, .int .i64 0] 26) = W := ⟨_, rfl⟩
  have hbW : Below w.heap.size w W := by rw [← hW]; exact gAlloc _ _
  have hsW : W.heap.size = w.heap.size + 1 := by rw [← hW]; simp
  have hRW : W.heap[w.heap.size]? = some (.cells #[.int .i64 0, .int .i64 0, .int .i64 0] 26 (0, 0)) := by rw [← hW]; exact heap_alloc_new _ _
  have HC := Lib.hid (Cur.new (c := c) (byts_on12 hb hbW) 70)
  have hbC := gAlloc W (.cells #[.slice A zs.length c, .int .i64 0, .int .u64 0] 70)
  have HB := Lib.hid (below_more hbW hbC)
  have HR := Lib.hid ((hbC.block _ (by omega)).trans hRW)
  clear hb hbW hbC hRW
  have HsW := Lib.hid hsW
  clear hsW
  go_enter Try.func53, Try.ntmps53
  go_wp2_with fail
  refine (lease12 W.heap.size 0 _ HC.out (by omega)).mono ?_
  rintro e w3 ⟨a, u, q, rfl, hc3, hg3⟩
  have HR3 := Lib.hid ((hg3.block _ (heap_lt HR.out) (by intro e; injection e with e; have := HsW.out; omega)).trans HR.out)
  have HB3 := Lib.hid (HB.out.grown hg3 HB.out.size (fun k hk => by injection hk with hk; have := HsW.out; omega))
  have HC3 := Lib.hid hc3
  clear hc3 hg3 HC HB HR hW
  go_wp2_with fail
  refine (pick_any W.heap.size (0 + 610) 100 _ HC3.out (by omega) (by decide)).mono ?_
  rintro e w4 ⟨x4, rfl, -, hc4, hg4⟩
  have HR4 := Lib.hid ((hg4.block _ (heap_lt HR3.out) (by intro e; injection e with e; have := HsW.out; omega)).trans HR3.out)
  have HB4 := Lib.hid (HB3.out.grown hg4 HB3.out.size (fun k hk => by injection hk with hk; have := HsW.out; omega))
  have HC4 := Lib.hid hc4
  clear hc4 hg4 HC3 HB3 HR3
  go_wp2_with fail
  refine (among_lit W.heap.size (0 + 610 + 2) [-1, 0, 10000, 10001, x4] _ HC4.out (by omega) (by simp) (by simp) 5 5 rfl).mono ?_
  rintro e w5 ⟨x5, rfl, -, hc5, hg5⟩
  have HR5 := Lib.hid ((hg5.block _ (heap_lt HR4.out) (by intro e; injection e with e; have := HsW.out; omega)).trans HR4.out)
  have HB5 := Lib.hid (HB4.out.grown hg5 HB4.out.size (fun k hk => by injection hk with hk; have := HsW.out; omega))
  clear hc5 hg5 HC4 HB4 HR4
  have xr0 : w5.cell? ⟨w.heap.size, 0, none⟩ = some (.int .i64 0) := cell_of_row _ _ 0 _ _ _ HR5.out
  have fr0 := frozen_of_row w5 _ 0 _ _ HR5.out
  have xr1 : w5.cell? ⟨w.heap.size, 1, none⟩ = some (.int .i64 0) := cell_of_row _ _ 1 _ _ _ HR5.out
  have fr1 := frozen_of_row w5 _ 1 _ _ HR5.out
  have xr2 : w5.cell? ⟨w.heap.size, 2, none⟩ = some (.int .i64 0) := cell_of_row _ _ 2 _ _ _ HR5.out
  have fr2 := frozen_of_row w5 _ 2 _ _ HR5.out
  go_wp2_with fail
  exact ret_ls2v rfl w.heap.size a u q (.int .i64 x5) rfl rfl (ls_stored HR5.out _ _ _) rfl ⟨_, _, _, _, rfl, below_ls HB5.out (Nat.le_refl _) _ _ _⟩
set_option maxRecDepth 100000 in
set_option maxHeartbeats 2000000 in
theorem drawBel12 (A : Option Addr) (zs : List Int) (c : Nat) (w : World) (hb : Byts w w.heap.size A zs) :
    Calls Try.prog 19 #[.slice A zs.length c] w fun e w' => ∃ a u q x, e = .returned (.tuple #[lsW a u q, .int .i64 x]) ∧ Below w.heap.size w w' := by
  obtain ⟨W, hW⟩ : ∃ W, w.alloc (.cells #[.int .i64 0, .int .i64 0, .int .i64 0] 26) = W := ⟨_, rfl⟩
  have hbW : Below w.heap.size w W := by rw [← hW]; exact gAlloc _ _
  have hRW : W.heap[w.heap.size]? = some (.cells #[.int .i64 0, .int .i64 0, .int .i64 0] 26 (0, 0)) := by rw [← hW]; exact heap_alloc_new _ _
  have HD := Lib.hid (drawHeld12 A zs c W (byts_on12 hb hbW))
  have HR := Lib.hid hRW
  have HB := Lib.hid hbW
  clear hb hbW hRW
  go_enter Try.func19, Try.ntmps19
  go_wp2_with fail
  refine HD.out.mono ?_
  rintro e w5 ⟨a, u, q, x5, rfl, hb5⟩
  have HR5 := Lib.hid ((hb5.block _ (heap_lt HR.out)).trans HR.out)
  have HB5 := Lib.hid (below_more HB.out hb5)
  clear hb5 HB HR HD hW
  have xr0 : w5.cell? ⟨w.heap.size, 0, none⟩ = some (.int .i64 0) := cell_of_row _ _ 0 _ _ _ HR5.out
  have fr0 := frozen_of_row w5 _ 0 _ _ HR5.out
  have xr1 : w5.cell? ⟨w.heap.size, 1, none⟩ = some (.int .i64 0) := cell_of_row _ _ 1 _ _ _ HR5.out
  have fr1 := frozen_of_row w5 _ 1 _ _ HR5.out
  have xr2 : w5.cell? ⟨w.heap.size, 2, none⟩ = some (.int .i64 0) := cell_of_row _ _ 2 _ _ _ HR5.out
  have fr2 := frozen_of_row w5 _ 2 _ _ HR5.out
  go_wp2_with fail
  exact ret_ls2v rfl w.heap.size a u q (.int .i64 x5) rfl rfl (ls_stored HR5.out _ _ _) rfl ⟨_, _, _, _, rfl, below_ls HB5.out (Nat.le_refl _) _ _ _⟩
end Go.Proofs.Ythmnenejfonfgaa
