/-
  The draws of chapter 13, second part: what each law is drawn from.
-/
import Derived.Test.YtgakklanboabjaaCK
namespace Go.Proofs.Ytgakklanboabjaa
open Go.RowKit

theorem byts_on13 {w w' : World} {A : Option Addr} {zs : List Int} (h : Byts w w.heap.size A zs) (hb : Below w.heap.size w w') : Byts w' w'.heap.size A zs :=
  ⟨h.1, fun hne => by
    obtain ⟨b, o, e, hlt, hc⟩ := h.2 hne
    exact ⟨b, o, e, Nat.lt_of_lt_of_le hlt hb.size, fun j hj => (hb.cell hlt).trans (hc j hj)⟩⟩
theorem ret_Bu2v {fn : Func} {p u : Tmp} (h : fn.results = #[.cell p 24, .tmp u]) {R : Ending → World → Prop} {k : Act} {w : World} (g : Nat) (r q f c : Int) (v : Value) (hp : k.tmps.getD p undef = .pointer (some ⟨g, 0, none⟩)) (hu : k.tmps.getD u undef = v)
    (hg : w.heap[g]? = some (.cells #[.int .i64 r, .int .i64 q, .int .i64 f, .int .i64 c] 24 (0, 0))) (hd : k.defers = []) (hR : R (.returned (.tuple #[bkW r q f c, v])) w) : bodyPost Try.prog fn R .ret k w := by
  have hp' : k.tmps[p]?.getD undef = .pointer (some ⟨g, 0, none⟩) := by simpa using hp
  have hu' : k.tmps[u]?.getD undef = v := by simpa using hu
  refine bodyPost_ret (v := .tuple #[bkW r q f c, v]) ?_ hd hR
  rw [results_cell_tmp h]
  simp [hp', hu', asAddr, run_loadVar_row w g 24 24 #[.int .i64 r, .int .i64 q, .int .i64 f, .int .i64 c] (0, 0) _ hg Try.underlying24 rfl infoBuP]
theorem run_bu13 {w : World} {g : Nat} {r q f c : Int} (hg : w.heap[g]? = some (.cells #[.int .i64 r, .int .i64 q, .int .i64 f, .int .i64 c] 24 (0, 0))) : (loadVar 24 ⟨g, 0, none⟩).run Try.prog w = .ok (bkW r q f c) w := by
  simp [run_loadVar_row w g 24 24 #[.int .i64 r, .int .i64 q, .int .i64 f, .int .i64 c] (0, 0) _ hg Try.underlying24 rfl infoBuP]
theorem run_wt13 {w : World} {g : Nat} {a s : Int} (hg : w.heap[g]? = some (.cells #[.int .i64 a, .int .i64 s] 34 (0, 0))) : (loadVar 34 ⟨g, 0, none⟩).run Try.prog w = .ok (wnW a s) w := by
  simp [run_loadVar_row w g 34 34 #[.int .i64 a, .int .i64 s] (0, 0) _ hg Try.underlying34 rfl infoWtP]
theorem ret_BuWt {fn : Func} {p u : Tmp} (h : fn.results = #[.cell p 24, .cell u 34]) {R : Ending → World → Prop} {k : Act} {w : World} (g d : Nat) (r q f c a s : Int) (hp : k.tmps.getD p undef = .pointer (some ⟨g, 0, none⟩)) (hu : k.tmps.getD u undef = .pointer (some ⟨d, 0, none⟩))
    (hg : w.heap[g]? = some (.cells #[.int .i64 r, .int .i64 q, .int .i64 f, .int .i64 c] 24 (0, 0))) (hi : w.heap[d]? = some (.cells #[.int .i64 a, .int .i64 s] 34 (0, 0))) (hd : k.defers = []) (hR : R (.returned (.tuple #[bkW r q f c, wnW a s])) w) : bodyPost Try.prog fn R .ret k w := by
  refine bodyPost_ret ?_ hd hR
  have hp' : k.tmps[p]?.getD undef = .pointer (some ⟨g, 0, none⟩) := by simpa using hp
  have hu' : k.tmps[u]?.getD undef = .pointer (some ⟨d, 0, none⟩) := by simpa using hu
  simp [results, h, hp', hu', asAddr, run_bu13 hg, run_wt13 hi]
theorem two_stored13 {n X D : Nat} {w0 w : World} {cs : Array Value} {k b : Value} {p q r u k' b' : Value} {t s : TypeId} (hcs : cs.size = 4) (h : w.heap[X]? = some (.cells cs t (0, 0))) (h2 : w.heap[D]? = some (.cells #[k, b] s (0, 0))) (hne : X ≠ D) (hX : n ≤ X) (hD : n ≤ D) (hb : Below n w0 w) :
    let w' := (((((w.setCell ⟨X, 0, none⟩ p).setCell ⟨X, 1, none⟩ q).setCell ⟨X, 2, none⟩ r).setCell ⟨X, 3, none⟩ u).setCell ⟨D, 0, none⟩ k').setCell ⟨D, 1, none⟩ b'
    w'.heap[X]? = some (.cells #[p, q, r, u] t (0, 0)) ∧ w'.heap[D]? = some (.cells #[k', b'] s (0, 0)) ∧ Below n w0 w' := by
  intro w'
  have h1 := gv_stored hcs h p q r u
  have h2' : ((((w.setCell ⟨X, 0, none⟩ p).setCell ⟨X, 1, none⟩ q).setCell ⟨X, 2, none⟩ r).setCell ⟨X, 3, none⟩ u).heap[D]? = some (.cells #[k, b] s (0, 0)) := ((gGv w X p q r u).block _ (heap_lt h2) (by intro e; injection e with e; exact hne e.symm)).trans h2
  refine ⟨?_, heap_setCell_same _ _ 1 _ _ _ (heap_setCell_same _ _ 0 _ _ _ h2'), ((below_gv hb hX p q r u).setCell hD _).setCell hD _⟩
  exact (heap_setCell_other _ _ _ _ hne).trans ((heap_setCell_other _ _ _ _ hne).trans h1)
theorem results_tmp2y13 {fn : Func} {t u : Tmp} (h : fn.results = #[.tmp t, .tmp u]) (tmps : Array Value) (P : Program) (w : World) :
    (results fn tmps).run P w = .ok (.tuple #[tmps.getD t undef, tmps.getD u undef]) w := by
  simp [results, h]
theorem results_tmp4y13 {fn : Func} {t u v x : Tmp} (h : fn.results = #[.tmp t, .tmp u, .tmp v, .tmp x]) (tmps : Array Value) (P : Program) (w : World) :
    (results fn tmps).run P w = .ok (.tuple #[tmps.getD t undef, tmps.getD u undef, tmps.getD v undef, tmps.getD x undef]) w := by
  simp [results, h]
set_option maxRecDepth 100000 in
set_option maxHeartbeats 4000000 in
theorem drawWait13 (A : Option Addr) (zs : List Int) (c : Nat) (w : World) (hb : Byts w w.heap.size A zs) :
    Calls Try.prog 24 #[.slice A zs.length c] w fun e w' => ∃ r q f c0 x, e = .returned (.tuple #[bkW r q f c0, .int .i64 x]) ∧ Below w.heap.size w w' := by
  obtain ⟨W, hW⟩ : ∃ W, w.alloc (.cells #[.int .i64 0, .int .i64 0, .int .i64 0, .int .i64 0] 24) = W := ⟨_, rfl⟩
  have hbW : Below w.heap.size w W := by rw [← hW]; exact gAlloc _ _
  have hsW : W.heap.size = w.heap.size + 1 := by rw [← hW]; simp
  have hR0 : W.heap[w.heap.size]? = some (.cells #[.int .i64 0, .int .i64 0, .int .i64 0, .int .i64 0] 24 (0, 0)) := by rw [← hW]; exact heap_alloc_new _ _
  have HC0 := Lib.hid (Cur.new (c := c) (byts_on13 hb hbW) 72)
  have hbC := gAlloc W (.cells #[.slice A zs.length c, .int .i64 0, .int .u64 0] 72)
  have HB0 := Lib.hid (below_more hbW hbC)
  have HR0_0 := Lib.hid ((hbC.block _ (by omega)).trans hR0)
  have HsW := Lib.hid hsW
  clear hb hbW hbC hsW hR0
  go_enter Try.func24, Try.ntmps24
  go_wp2_with fail
  refine (bucket13 W.heap.size (0) _ HC0.out (by omega)).mono ?_
  rintro e w1 ⟨r, q, f, c0, rfl, hc, hg⟩
  have HR0_1 := Lib.hid ((hg.block _ (heap_lt HR0_0.out) (by intro e; injection e with e; have := HsW.out; omega)).trans HR0_0.out)
  have HB1 := Lib.hid (HB0.out.grown hg HB0.out.size (fun k hk => by injection hk with hk; have := HsW.out; omega))
  have HC1 := Lib.hid hc
  clear hc hg HC0 HB0 HR0_0 hW
  go_wp2_with fail
  refine (pick_any W.heap.size (0 + 10) 45 _ HC1.out (by omega) (by decide)).mono ?_
  rintro e w2 ⟨x, rfl, -, hc, hg⟩
  have HR0_2 := Lib.hid ((hg.block _ (heap_lt HR0_1.out) (by intro e; injection e with e; have := HsW.out; omega)).trans HR0_1.out)
  have HB2 := Lib.hid (HB1.out.grown hg HB1.out.size (fun k hk => by injection hk with hk; have := HsW.out; omega))
  have HC2 := Lib.hid hc
  clear hc hg HC1 HB1 HR0_1
  have xr00 : w2.cell? ⟨w.heap.size, 0, none⟩ = some (.int .i64 0) := cell_of_row _ _ 0 _ _ _ HR0_2.out
  have fr00 := frozen_of_row w2 _ 0 _ _ HR0_2.out
  have xr01 : w2.cell? ⟨w.heap.size, 1, none⟩ = some (.int .i64 0) := cell_of_row _ _ 1 _ _ _ HR0_2.out
  have fr01 := frozen_of_row w2 _ 1 _ _ HR0_2.out
  have xr02 : w2.cell? ⟨w.heap.size, 2, none⟩ = some (.int .i64 0) := cell_of_row _ _ 2 _ _ _ HR0_2.out
  have fr02 := frozen_of_row w2 _ 2 _ _ HR0_2.out
  have xr03 : w2.cell? ⟨w.heap.size, 3, none⟩ = some (.int .i64 0) := cell_of_row _ _ 3 _ _ _ HR0_2.out
  have fr03 := frozen_of_row w2 _ 3 _ _ HR0_2.out
  go_wp2_with fail
  exact ret_Bu2v rfl w.heap.size r q f c0 (.int .i64 x) rfl rfl (gv_stored rfl HR0_2.out _ _ _ _) rfl ⟨_, _, _, _, _, rfl, below_gv HB2.out (Nat.le_refl _) _ _ _ _⟩
set_option maxRecDepth 100000 in
set_option maxHeartbeats 4000000 in
theorem drawFill13 (A : Option Addr) (zs : List Int) (c : Nat) (w : World) (hb : Byts w w.heap.size A zs) :
    Calls Try.prog 28 #[.slice A zs.length c] w fun e w' => ∃ r q f c0 x, e = .returned (.tuple #[bkW r q f c0, .int .i64 x]) ∧ Below w.heap.size w w' := by
  obtain ⟨W, hW⟩ : ∃ W, w.alloc (.cells #[.int .i64 0, .int .i64 0, .int .i64 0, .int .i64 0] 24) = W := ⟨_, rfl⟩
  have hbW : Below w.heap.size w W := by rw [← hW]; exact gAlloc _ _
  have hsW : W.heap.size = w.heap.size + 1 := by rw [← hW]; simp
  have hR0 : W.heap[w.heap.size]? = some (.cells #[.int .i64 0, .int .i64 0, .int .i64 0, .int .i64 0] 24 (0, 0)) := by rw [← hW]; exact heap_alloc_new _ _
  have HC0 := Lib.hid (Cur.new (c := c) (byts_on13 hb hbW) 72)
  have hbC := gAlloc W (.cells #[.slice A zs.length c, .int .i64 0, .int .u64 0] 72)
  have HB0 := Lib.hid (below_more hbW hbC)
  have HR0_0 := Lib.hid ((hbC.block _ (by omega)).trans hR0)
  have HsW := Lib.hid hsW
  clear hb hbW hbC hsW hR0
  go_enter Try.func28, Try.ntmps28
  go_wp2_with fail
  refine (bucket13 W.heap.size (0) _ HC0.out (by omega)).mono ?_
  rintro e w1 ⟨r, q, f, c0, rfl, hc, hg⟩
  have HR0_1 := Lib.hid ((hg.block _ (heap_lt HR0_0.out) (by intro e; injection e with e; have := HsW.out; omega)).trans HR0_0.out)
  have HB1 := Lib.hid (HB0.out.grown hg HB0.out.size (fun k hk => by injection hk with hk; have := HsW.out; omega))
  have HC1 := Lib.hid hc
  clear hc hg HC0 HB0 HR0_0 hW
  go_wp2_with fail
  refine (among_lit W.heap.size (0 + 10) [-1, 0, 3, 10000, 10001] _ HC1.out (by omega) (by decide) (by decide) 5 5 rfl).mono ?_
  rintro e w2 ⟨x, rfl, -, hc, hg⟩
  have HR0_2 := Lib.hid ((hg.block _ (heap_lt HR0_1.out) (by intro e; injection e with e; have := HsW.out; omega)).trans HR0_1.out)
  have HB2 := Lib.hid (HB1.out.grown hg HB1.out.size (fun k hk => by injection hk with hk; have := HsW.out; omega))
  have HC2 := Lib.hid hc
  clear hc hg HC1 HB1 HR0_1
  have xr00 : w2.cell? ⟨w.heap.size, 0, none⟩ = some (.int .i64 0) := cell_of_row _ _ 0 _ _ _ HR0_2.out
  have fr00 := frozen_of_row w2 _ 0 _ _ HR0_2.out
  have xr01 : w2.cell? ⟨w.heap.size, 1, none⟩ = some (.int .i64 0) := cell_of_row _ _ 1 _ _ _ HR0_2.out
  have fr01 := frozen_of_row w2 _ 1 _ _ HR0_2.out
  have xr02 : w2.cell? ⟨w.heap.size, 2, none⟩ = some (.int .i64 0) := cell_of_row _ _ 2 _ _ _ HR0_2.out
  have fr02 := frozen_of_row w2 _ 2 _ _ HR0_2.out
  have xr03 : w2.cell? ⟨w.heap.size, 3, none⟩ = some (.int .i64 0) := cell_of_row _ _ 3 _ _ _ HR0_2.out
  have fr03 := frozen_of_row w2 _ 3 _ _ HR0_2.out
  go_wp2_with fail
  exact ret_Bu2v rfl w.heap.size r q f c0 (.int .i64 x) rfl rfl (gv_stored rfl HR0_2.out _ _ _ _) rfl ⟨_, _, _, _, _, rfl, below_gv HB2.out (Nat.le_refl _) _ _ _ _⟩
set_option maxRecDepth 100000 in
set_option maxHeartbeats 4000000 in
theorem drawTake13 (A : Option Addr) (zs : List Int) (c : Nat) (w : World) (hb : Byts w w.heap.size A zs) :
    Calls Try.prog 31 #[.slice A zs.length c] w fun e w' => ∃ r q f c0 a s, e = .returned (.tuple #[bkW r q f c0, wnW a s]) ∧ Below w.heap.size w w' := by
  obtain ⟨W, hW⟩ : ∃ W, (w.alloc (.cells #[.int .i64 0, .int .i64 0, .int .i64 0, .int .i64 0] 24)).alloc (.cells #[.int .i64 0, .int .i64 0] 34) = W := ⟨_, rfl⟩
  have hbW : Below w.heap.size w W := by rw [← hW]; exact (gAlloc _ _).alloc (by simp) _
  have hsW : W.heap.size = w.heap.size + 2 := by rw [← hW]; simp
  have hR0 : W.heap[w.heap.size]? = some (.cells #[.int .i64 0, .int .i64 0, .int .i64 0, .int .i64 0] 24 (0, 0)) := by rw [← hW, heap_alloc_old _ _ _ (by simp)]; exact heap_alloc_new _ _
  have hR1 : W.heap[w.heap.size + 1]? = some (.cells #[.int .i64 0, .int .i64 0] 34 (0, 0)) := by rw [← hW, show w.heap.size + 1 = (w.alloc (.cells #[.int .i64 0, .int .i64 0, .int .i64 0, .int .i64 0] 24)).heap.size by simp]; exact heap_alloc_new _ _
  have HC0 := Lib.hid (Cur.new (c := c) (byts_on13 hb hbW) 72)
  have hbC := gAlloc W (.cells #[.slice A zs.length c, .int .i64 0, .int .u64 0] 72)
  have HB0 := Lib.hid (below_more hbW hbC)
  have HR0_0 := Lib.hid ((hbC.block _ (by omega)).trans hR0)
  have HR1_0 := Lib.hid ((hbC.block _ (by omega)).trans hR1)
  have HsW := Lib.hid hsW
  clear hb hbW hbC hsW hR0 hR1
  go_enter Try.func31, Try.ntmps31
  go_wp2_with fail
  refine (bucket13 W.heap.size (0) _ HC0.out (by omega)).mono ?_
  rintro e w1 ⟨r, q, f, c0, rfl, hc, hg⟩
  have HR0_1 := Lib.hid ((hg.block _ (heap_lt HR0_0.out) (by intro e; injection e with e; have := HsW.out; omega)).trans HR0_0.out)
  have HR1_1 := Lib.hid ((hg.block _ (heap_lt HR1_0.out) (by intro e; injection e with e; have := HsW.out; omega)).trans HR1_0.out)
  have HB1 := Lib.hid (HB0.out.grown hg HB0.out.size (fun k hk => by injection hk with hk; have := HsW.out; omega))
  have HC1 := Lib.hid hc
  clear hc hg HC0 HB0 HR0_0 HR1_0 hW
  go_wp2_with fail
  refine (pick_any W.heap.size (0 + 10) 9 _ HC1.out (by omega) (by decide)).mono ?_
  rintro e w2 ⟨a, rfl, -, hc, hg⟩
  have HR0_2 := Lib.hid ((hg.block _ (heap_lt HR0_1.out) (by intro e; injection e with e; have := HsW.out; omega)).trans HR0_1.out)
  have HR1_2 := Lib.hid ((hg.block _ (heap_lt HR1_1.out) (by intro e; injection e with e; have := HsW.out; omega)).trans HR1_1.out)
  have HB2 := Lib.hid (HB1.out.grown hg HB1.out.size (fun k hk => by injection hk with hk; have := HsW.out; omega))
  have HC2 := Lib.hid hc
  clear hc hg HC1 HB1 HR0_1 HR1_1
  go_wp2_with fail
  refine (among_lit W.heap.size (0 + 10 + 2) [0, 1, 5, 20, 100, 101] _ HC2.out (by omega) (by decide) (by decide) 6 6 rfl).mono ?_
  rintro e w3 ⟨s, rfl, -, hc, hg⟩
  have HR0_3 := Lib.hid ((hg.block _ (heap_lt HR0_2.out) (by intro e; injection e with e; have := HsW.out; omega)).trans HR0_2.out)
  have HR1_3 := Lib.hid ((hg.block _ (heap_lt HR1_2.out) (by intro e; injection e with e; have := HsW.out; omega)).trans HR1_2.out)
  have HB3 := Lib.hid (HB2.out.grown hg HB2.out.size (fun k hk => by injection hk with hk; have := HsW.out; omega))
  have HC3 := Lib.hid hc
  clear hc hg HC2 HB2 HR0_2 HR1_2
  have xr00 : w3.cell? ⟨w.heap.size, 0, none⟩ = some (.int .i64 0) := cell_of_row _ _ 0 _ _ _ HR0_3.out
  have fr00 := frozen_of_row w3 _ 0 _ _ HR0_3.out
  have xr01 : w3.cell? ⟨w.heap.size, 1, none⟩ = some (.int .i64 0) := cell_of_row _ _ 1 _ _ _ HR0_3.out
  have fr01 := frozen_of_row w3 _ 1 _ _ HR0_3.out
  have xr02 : w3.cell? ⟨w.heap.size, 2, none⟩ = some (.int .i64 0) := cell_of_row _ _ 2 _ _ _ HR0_3.out
  have fr02 := frozen_of_row w3 _ 2 _ _ HR0_3.out
  have xr03 : w3.cell? ⟨w.heap.size, 3, none⟩ = some (.int .i64 0) := cell_of_row _ _ 3 _ _ _ HR0_3.out
  have fr03 := frozen_of_row w3 _ 3 _ _ HR0_3.out
  have xr10 : w3.cell? ⟨w.heap.size + 1, 0, none⟩ = some (.int .i64 0) := cell_of_row _ _ 0 _ _ _ HR1_3.out
  have fr10 := frozen_of_row w3 _ 0 _ _ HR1_3.out
  have xr11 : w3.cell? ⟨w.heap.size + 1, 1, none⟩ = some (.int .i64 0) := cell_of_row _ _ 1 _ _ _ HR1_3.out
  have fr11 := frozen_of_row w3 _ 1 _ _ HR1_3.out
  go_wp2_with fail
  obtain ⟨s1, s2, s3⟩ := two_stored13 (p := .int .i64 r) (q := .int .i64 q) (r := .int .i64 f) (u := .int .i64 c0) (k' := .int .i64 a) (b' := .int .i64 s) rfl HR0_3.out HR1_3.out (show w.heap.size ≠ w.heap.size + 1 by omega) (Nat.le_refl _) (Nat.le_succ _) HB3.out
  exact ret_BuWt rfl w.heap.size (w.heap.size + 1) r q f c0 a s rfl rfl s1 s2 rfl ⟨_, _, _, _, _, _, rfl, s3⟩
set_option maxRecDepth 100000 in
set_option maxHeartbeats 4000000 in
theorem drawNew13 (A : Option Addr) (zs : List Int) (c : Nat) (w : World) (hb : Byts w w.heap.size A zs) :
    Calls Try.prog 21 #[.slice A zs.length c] w fun e w' => ∃ x y, e = .returned (.tuple #[.int .i64 x, .int .i64 y]) ∧ Below w.heap.size w w' := by
  have hC := Cur.new (c := c) hb 72
  have hB := gAlloc w (.cells #[.slice A zs.length c, .int .i64 0, .int .u64 0] 72)
  obtain ⟨V, hV⟩ : ∃ V, w.alloc (.cells #[.slice A zs.length c, .int .i64 0, .int .u64 0] 72) = V := ⟨_, rfl⟩
  rw [hV] at hC hB
  have HC0 := Lib.hid hC
  have HB0 := Lib.hid hB
  clear hb hC hB
  go_enter Try.func21, Try.ntmps21
  go_wp2_with fail
  refine (among_lit w.heap.size (0) [0, 1, 40, 100, 101] _ HC0.out (by omega) (by decide) (by decide) 5 5 rfl).mono ?_
  rintro e w1 ⟨x, rfl, -, hc, hg⟩
  have HB1 := Lib.hid (HB0.out.grown hg HB0.out.size (fun k hk => by injection hk with hk; omega))
  have HC1 := Lib.hid hc
  clear hc hg HC0 HB0 hV
  go_wp2_with fail
  refine (among_lit w.heap.size (0 + 2) [0, 1, 20, 21] _ HC1.out (by omega) (by decide) (by decide) 4 4 rfl).mono ?_
  rintro e w2 ⟨y, rfl, -, hc, hg⟩
  have HB2 := Lib.hid (HB1.out.grown hg HB1.out.size (fun k hk => by injection hk with hk; omega))
  clear hc hg HC1 HB1
  go_wp2_with fail
  refine bodyPost_ret (results_tmp2y13 rfl _ _ _) rfl ?_
  exact ⟨_, _, rfl, HB2.out⟩
set_option maxRecDepth 100000 in
set_option maxHeartbeats 4000000 in
theorem drawPlay13 (A : Option Addr) (zs : List Int) (c : Nat) (w : World) (hb : Byts w w.heap.size A zs) :
    Calls Try.prog 12 #[.slice A zs.length c] w fun e w' => ∃ r q f c0 A1 c1 L, e = .returned (.tuple #[bkW r q f c0, .slice A1 (List.length L) c1]) ∧ OwnR 34 2 fWt w' w.heap.size (.slice A1 L.length c1) L ∧ L.length ≤ 14 ∧ Below w.heap.size w w' := by
  obtain ⟨W, hW⟩ : ∃ W, w.alloc (.cells #[.int .i64 0, .int .i64 0, .int .i64 0, .int .i64 0] 24) = W := ⟨_, rfl⟩
  have hbW : Below w.heap.size w W := by rw [← hW]; exact gAlloc _ _
  have hsW : W.heap.size = w.heap.size + 1 := by rw [← hW]; simp
  have hR0 : W.heap[w.heap.size]? = some (.cells #[.int .i64 0, .int .i64 0, .int .i64 0, .int .i64 0] 24 (0, 0)) := by rw [← hW]; exact heap_alloc_new _ _
  have HC0 := Lib.hid (Cur.new (c := c) (byts_on13 hb hbW) 72)
  have hbC := gAlloc W (.cells #[.slice A zs.length c, .int .i64 0, .int .u64 0] 72)
  have HB0 := Lib.hid (below_more hbW hbC)
  have HR0_0 := Lib.hid ((hbC.block _ (by omega)).trans hR0)
  have HsW := Lib.hid hsW
  clear hb hbW hbC hsW hR0
  go_enter Try.func12, Try.ntmps12
  go_wp2_with fail
  refine (bucket13 W.heap.size (0) _ HC0.out (by omega)).mono ?_
  rintro e w1 ⟨r, q, f, c0, rfl, hc, hg⟩
  have HR0_1 := Lib.hid ((hg.block _ (heap_lt HR0_0.out) (by intro e; injection e with e; have := HsW.out; omega)).trans HR0_0.out)
  have HB1 := Lib.hid (HB0.out.grown hg HB0.out.size (fun k hk => by injection hk with hk; have := HsW.out; omega))
  have HC1 := Lib.hid hc
  clear hc hg HC0 HB0 HR0_0 hW
  go_wp2_with fail
  refine (wants13 W.heap.size (0 + 10) _ HC1.out (by omega)).mono ?_
  rintro e w2 ⟨A1, c1, L, rfl, ho, hl, hc, hg⟩
  have HR0_2 := Lib.hid ((hg.block _ (heap_lt HR0_1.out) (by intro e; injection e with e; have := HsW.out; omega)).trans HR0_1.out)
  have HB2 := Lib.hid (HB1.out.grown hg HB1.out.size (fun k hk => by injection hk with hk; have := HsW.out; omega))
  have HC2 := Lib.hid hc
  have HO := Lib.hid ho
  have HL := Lib.hid hl
  have hsz : w.heap.size + 1 ≤ w1.heap.size := by have := heap_lt HR0_1.out; omega
  clear ho hl
  clear hc hg HC1 HB1 HR0_1
  have xr00 : w2.cell? ⟨w.heap.size, 0, none⟩ = some (.int .i64 0) := cell_of_row _ _ 0 _ _ _ HR0_2.out
  have fr00 := frozen_of_row w2 _ 0 _ _ HR0_2.out
  have xr01 : w2.cell? ⟨w.heap.size, 1, none⟩ = some (.int .i64 0) := cell_of_row _ _ 1 _ _ _ HR0_2.out
  have fr01 := frozen_of_row w2 _ 1 _ _ HR0_2.out
  have xr02 : w2.cell? ⟨w.heap.size, 2, none⟩ = some (.int .i64 0) := cell_of_row _ _ 2 _ _ _ HR0_2.out
  have fr02 := frozen_of_row w2 _ 2 _ _ HR0_2.out
  have xr03 : w2.cell? ⟨w.heap.size, 3, none⟩ = some (.int .i64 0) := cell_of_row _ _ 3 _ _ _ HR0_2.out
  have fr03 := frozen_of_row w2 _ 3 _ _ HR0_2.out
  go_wp2_with fail
  refine ret_Bu2v rfl w.heap.size r q f c0 (.slice A1 L.length c1) rfl rfl (gv_stored rfl HR0_2.out _ _ _ _) rfl ⟨_, _, _, _, _, _, _, rfl, ?_, HL.out, below_gv HB2.out (Nat.le_refl _) _ _ _ _⟩
  refine OwnR.lower (w := _) (base := w1.heap.size) (World.ownsRow.kept HO.out (gGv w2 w.heap.size _ _ _ _) ?_) (by omega)
  cases hq : (Value.slice A1 L.length c1).ownBlock with
  | none => exact Or.inl rfl
  | some k => exact Or.inr (by intro e; injection e with e; have := (HO.out.lt k hq).1; omega)
theorem kept_ne13 {v : Value} {B : Nat} (h : ∀ k, v.ownBlock = some k → k ≠ B) : v.ownBlock = none ∨ v.ownBlock ≠ some B := by
  cases hq : v.ownBlock with
  | none => exact Or.inl rfl
  | some k => exact Or.inr (by intro e; injection e with e; exact h k hq e)
theorem pbT_len13 (b : Buc) (l : List Wtc) : (pbT b l).length ≤ 40 := by
  rw [pbT]
  split
  · rename_i h
    rw [tkS_len]
    rw [pbOk] at h
    simp at h
    omega
  · simp
theorem madeBo13 (n : Nat) : (madeCells (Value.bool false).cells (n * 1)).toList = (List.replicate n false).map Value.bool := by
  rw [show (Value.bool false).cells = #[.bool false] from rfl, made_k #[.bool false] 1 rfl (by decide) n]
  simp
set_option maxRecDepth 100000 in
set_option maxHeartbeats 4000000 in
theorem drawSum13 (A : Option Addr) (zs : List Int) (c : Nat) (w : World) (hb : Byts w w.heap.size A zs) :
    Calls Try.prog 19 #[.slice A zs.length c] w fun e w' => ∃ A1 c1 L d ts u v, e = .returned (.tuple #[.slice A1 (List.length L) c1, d, .int .i64 u, .int .i64 v]) ∧ OwnR 34 2 fWt w' w.heap.size (.slice A1 L.length c1) L ∧ OwnT w' w.heap.size d ts ∧ L.length ≤ 14 ∧ ts.length ≤ 40 ∧ Below w.heap.size w w' := by
  have HBy := Lib.hid hb
  clear hb
  go_enter Try.func19, Try.ntmps19
  go_wp2_with fail
  refine (drawPlay13 A zs c w HBy.out).mono ?_
  rintro e w1 ⟨r, q, f, c0, A1, c1, L, rfl, ho, hl, hb1⟩
  have hby1 := byts_on13 HBy.out hb1
  have hw1 : w.heap.size ≤ w1.heap.size := hb1.size
  obtain ⟨W, hW⟩ : ∃ W, w1.alloc (.cells #[.int .i64 r, .int .i64 q, .int .i64 f, .int .i64 c0] 24) = W := ⟨_, rfl⟩
  have hbW : Below w1.heap.size w1 W := by rw [← hW]; exact gAlloc _ _
  have hRW : W.heap[w1.heap.size]? = some (.cells #[.int .i64 r, .int .i64 q, .int .i64 f, .int .i64 c0] 24 (0, 0)) := by rw [← hW]; exact heap_alloc_new _ _
  have hsW : W.heap.size = w1.heap.size + 1 := by rw [← hW]; simp
  obtain ⟨V, hV⟩ : ∃ V, W.alloc (.cells #[.slice A zs.length c, .int .i64 0, .int .u64 0] 72) = V := ⟨_, rfl⟩
  have hbV : Below W.heap.size W V := by rw [← hV]; exact gAlloc _ _
  have hcV : Cur V (w1.heap.size + 1) 0 := by rw [← hsW, ← hV]; exact Cur.new (c := c) (byts_on13 hby1 hbW) 72
  have HO2 := Lib.hid ((ho.below hbW).below hbV)
  have HB2 := Lib.hid (below_more (below_more hb1 hbW) hbV)
  have hR2 := (hbV.block _ (heap_lt hRW)).trans hRW
  have HR2 := Lib.hid hR2
  have HC2 := Lib.hid hcV
  have HL := Lib.hid hl
  have hszV := Cur.lt hcV
  have HwW : Hid (w.heap.size ≤ w1.heap.size + 1) := by show _ ≤ _; omega
  have HNe := Lib.hid (fun (k : Nat) (hk : (Value.slice A1 L.length c1).ownBlock = some k) => (show k ≠ w1.heap.size + 1 by have := (ho.lt k hk).2; omega))
  have HP := Lib.hid (sPlayBk r q f c0 A1 L c1 V (OwnR.rd fWt_len HO2.out) (by omega))
  have x0 : V.cell? ⟨w1.heap.size, 0, none⟩ = some (.int .i64 r) := cell_of_row _ _ 0 _ _ _ HR2.out
  have x1 : V.cell? ⟨w1.heap.size, 1, none⟩ = some (.int .i64 q) := cell_of_row _ _ 1 _ _ _ HR2.out
  have x2 : V.cell? ⟨w1.heap.size, 2, none⟩ = some (.int .i64 f) := cell_of_row _ _ 2 _ _ _ HR2.out
  have x3 : V.cell? ⟨w1.heap.size, 3, none⟩ = some (.int .i64 c0) := cell_of_row _ _ 3 _ _ _ HR2.out
  clear hl ho hb1 hby1 hw1 hbW hRW hbV hcV hR2 HBy
  have HTl := Lib.hid (pbT_len13 (r, q, f, c0) L)
  go_wp2_with fail
  refine HP.out.mono ?_
  clear hW hV x0 x1 x2 x3 HP HR2
  rintro e w4 ⟨d, rfl, ho4, hb4⟩
  generalize pbT (r, q, f, c0) L = ts at *
  generalize (pbL (r, q, f, c0) L).1 = N0 at *
  generalize (pbL (r, q, f, c0) L).2.1 = N1 at *
  generalize (pbL (r, q, f, c0) L).2.2.1 = N2 at *
  generalize (pbL (r, q, f, c0) L).2.2.2 = N3 at *
  generalize pbOk (r, q, f, c0) L = ok at *
  obtain ⟨W5, hW5⟩ : ∃ W5, w4.alloc (.cells #[.int .i64 N0, .int .i64 N1, .int .i64 N2, .int .i64 N3] 24) = W5 := ⟨_, rfl⟩
  have hb5 : Below w4.heap.size w4 W5 := by rw [← hW5]; exact gAlloc _ _
  have hwV : w.heap.size ≤ V.heap.size := HB2.out.size
  have HO5 := Lib.hid ((HO2.out.below hb4).below hb5)
  have HC5 := Lib.hid ((HC2.out.below hb4).below hb5)
  have HT5 := Lib.hid (OwnT.below (OwnT.lower ho4 hwV) hb5)
  have HD5 := Lib.hid (fun (k : Nat) (hk : d.ownBlock = some k) => (show k ≠ w1.heap.size + 1 by have := (World.ownsRow.lt ho4 k hk).1; omega))
  have HB5 := Lib.hid (below_more (below_more HB2.out hb4) hb5)
  have hW5s : w1.heap.size + 1 < W5.heap.size := Nat.lt_of_lt_of_le hszV (Nat.le_trans hb4.size hb5.size)
  clear HO2 HC2 HB2 ho4 hb4 hb5 hszV hsW hwV
  cases ok
  · obtain ⟨i0, hi, hz0, hz1, hz2⟩ := info_parts boolInfo
    have hL14 : L.length ≤ 14 := HL.out
    go_wp2_with (at_make; refine wpList_make_full _ rfl _ _ 28 rfl w.heap.size 4 i0 (.bool false) 1 Try.underlying28 hi hz0 hz1 .i64 .i64 _ _ L.length rfl rfl rfl rfl (by rw [hz2]; omega) (by unfold maxLen; omega) HB5.out.size ?_; intro w6 hown6 hgr6)
    rw [madeBo13] at hown6
    have HO6 := Lib.hid (World.ownsRow.kept HO5.out hgr6 (by cases hq : (Value.slice A1 L.length c1).ownBlock with | none => exact Or.inl rfl | some k => exact Or.inr (by simp)))
    have HT6 : Hid (OwnT w6 w.heap.size (.slice (some ⟨W5.heap.size, 0, none⟩) L.length L.length) (List.replicate L.length false)) := by show World.ownsRow _ _ _ _ _ _ _; rw [List.length_replicate]; exact hown6
    have HC6 := Lib.hid (HC5.out.grown hgr6 (fun g hg => by cases hg))
    have HB6 := Lib.hid (HB5.out.grown hgr6 HB5.out.size (fun k hk => by cases hk))
    have HD6 := Lib.hid (fun (k : Nat) (hk : (Value.slice (some ⟨W5.heap.size, 0, none⟩) L.length L.length).ownBlock = some k) => (show k ≠ w1.heap.size + 1 by have e : W5.heap.size = k := (by simpa [Value.ownBlock] using hk); omega))
    have HTl6 : Hid ((List.replicate L.length false).length ≤ 40) := by show _ ≤ _; rw [List.length_replicate]; omega
    clear hown6 hgr6 HO5 HT5 HC5 HB5 HD5 HTl hi hz0 hz1 hz2 hW5 hW5s hL14
    refine (pick_any (w1.heap.size + 1) 0 20 _ HC6.out (by omega) (by decide)).mono ?_
    rintro e w7 ⟨u, rfl, hu, hc7, hg7⟩
    obtain ⟨u0, u1⟩ := pick_to hu (by decide)
    have HO7 := Lib.hid (World.ownsRow.kept HO6.out hg7 (kept_ne13 HNe.out))
    have HT7 := Lib.hid (World.ownsRow.kept HT6.out hg7 (kept_ne13 HD6.out))
    have HB7 := Lib.hid (HB6.out.grown hg7 HB6.out.size (fun k hk => by injection hk with hk; have := HwW.out; omega))
    have HC7 := Lib.hid hc7
    clear hu hc7 hg7 HO6 HT6 HB6 HC6
    go_wp2_with fail
    refine (pick_any (w1.heap.size + 1) (0 + 2) 20 _ HC7.out (by omega) (by decide)).mono ?_
    rintro e w8 ⟨x, rfl, hx, hc8, hg8⟩
    obtain ⟨b0, b1⟩ := pick_to hx (by decide)
    have HO8 := Lib.hid (World.ownsRow.kept HO7.out hg8 (kept_ne13 HNe.out))
    have HT8 := Lib.hid (World.ownsRow.kept HT7.out hg8 (kept_ne13 HD6.out))
    have HB8 := Lib.hid (HB7.out.grown hg8 HB7.out.size (fun k hk => by injection hk with hk; have := HwW.out; omega))
    clear hx hc8 hg8 HO7 HT7 HB7 HC7
    go_wp2_with fail
    refine bodyPost_ret (results_tmp4y13 rfl _ _ _) rfl ?_
    exact ⟨_, _, L, _, _, _, _, rfl, HO8.out, HT8.out, HL.out, HTl6.out, HB8.out⟩
  · have HTl6 := HTl
    clear HTl
    go_wp2_with fail
    refine (pick_any (w1.heap.size + 1) 0 20 _ HC5.out (by omega) (by decide)).mono ?_
    rintro e w7 ⟨u, rfl, hu, hc7, hg7⟩
    obtain ⟨u0, u1⟩ := pick_to hu (by decide)
    have HO7 := Lib.hid (World.ownsRow.kept HO5.out hg7 (kept_ne13 HNe.out))
    have HT7 := Lib.hid (World.ownsRow.kept HT5.out hg7 (kept_ne13 HD5.out))
    have HB7 := Lib.hid (HB5.out.grown hg7 HB5.out.size (fun k hk => by injection hk with hk; have := HwW.out; omega))
    have HC7 := Lib.hid hc7
    clear hu hc7 hg7 HO5 HT5 HB5 HC5 hW5 hW5s
    go_wp2_with fail
    refine (pick_any (w1.heap.size + 1) (0 + 2) 20 _ HC7.out (by omega) (by decide)).mono ?_
    rintro e w8 ⟨x, rfl, hx, hc8, hg8⟩
    obtain ⟨b0, b1⟩ := pick_to hx (by decide)
    have HO8 := Lib.hid (World.ownsRow.kept HO7.out hg8 (kept_ne13 HNe.out))
    have HT8 := Lib.hid (World.ownsRow.kept HT7.out hg8 (kept_ne13 HD5.out))
    have HB8 := Lib.hid (HB7.out.grown hg8 HB7.out.size (fun k hk => by injection hk with hk; have := HwW.out; omega))
    clear hx hc8 hg8 HO7 HT7 HB7 HC7
    go_wp2_with fail
    refine bodyPost_ret (results_tmp4y13 rfl _ _ _) rfl ?_
    exact ⟨_, _, L, _, _, _, _, rfl, HO8.out, HT8.out, HL.out, HTl6.out, HB8.out⟩
end Go.Proofs.Ytgakklanboabjaa
