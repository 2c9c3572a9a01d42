/-
  The program's chapter 12, first part: the small functions, GoodLease, HeldAt, BelievesAt.
-/
import Derived.Test.YthmnenejfonfgaaBC
namespace Go.Proofs.Ythmnenejfonfgaa
open Go.RowKit

set_option maxRecDepth 100000 in
set_option maxHeartbeats 4000000 in
theorem iHolder12 (n : Int) (w : World) : Calls Try.prog 44 #[.int .i64 n] w fun e w' => e = .returned (.bool (inB n 1 9)) ∧ w = w' := by
  by_cases h1 : 1 ≤ n
  · by_cases h2 : n ≤ 9
    · have HE : Hid ((inB n 1 9) = true) := inB_mkL h1 h2
      go_enter Try.func44, Try.ntmps44
      go_wp2_with fail
      go_ret
      exact ⟨ret_bool' (by rw [HE.out]), rfl⟩
    · have HE : Hid ((inB n 1 9) = false) := by show _ = _; simp [inB]; omega
      go_enter Try.func44, Try.ntmps44
      go_wp2_with fail
      go_ret
      exact ⟨ret_bool' (by rw [HE.out]), rfl⟩
  · have HE : Hid ((inB n 1 9) = false) := by show _ = _; simp [inB]; omega
    go_enter Try.func44, Try.ntmps44
    go_wp2_with fail
    go_ret
    exact ⟨ret_bool' (by rw [HE.out]), rfl⟩
set_option maxRecDepth 100000 in
set_option maxHeartbeats 4000000 in
theorem iClock12 (n : Int) (w : World) : Calls Try.prog 45 #[.int .i64 n] w fun e w' => e = .returned (.bool (ckB n)) ∧ w = w' := by
  by_cases h1 : 0 ≤ n
  · by_cases h2 : n ≤ 10000
    · have HE : Hid ((ckB n) = true) := inB_mkL h1 h2
      go_enter Try.func45, Try.ntmps45
      go_wp2_with fail
      go_ret
      exact ⟨ret_bool' (by rw [HE.out]), rfl⟩
    · have HE : Hid ((ckB n) = false) := by show _ = _; simp [inB, ckB]; omega
      go_enter Try.func45, Try.ntmps45
      go_wp2_with fail
      go_ret
      exact ⟨ret_bool' (by rw [HE.out]), rfl⟩
  · have HE : Hid ((ckB n) = false) := by show _ = _; simp [inB, ckB]; omega
    go_enter Try.func45, Try.ntmps45
    go_wp2_with fail
    go_ret
    exact ⟨ret_bool' (by rw [HE.out]), rfl⟩
set_option maxRecDepth 100000 in
set_option maxHeartbeats 4000000 in
theorem iTerm12 (n : Int) (w : World) : Calls Try.prog 64 #[.int .i64 n] w fun e w' => e = .returned (.bool (inB n 1 100)) ∧ w = w' := by
  by_cases h1 : 1 ≤ n
  · by_cases h2 : n ≤ 100
    · have HE : Hid ((inB n 1 100) = true) := inB_mkL h1 h2
      go_enter Try.func64, Try.ntmps64
      go_wp2_with fail
      go_ret
      exact ⟨ret_bool' (by rw [HE.out]), rfl⟩
    · have HE : Hid ((inB n 1 100) = false) := by show _ = _; simp [inB]; omega
      go_enter Try.func64, Try.ntmps64
      go_wp2_with fail
      go_ret
      exact ⟨ret_bool' (by rw [HE.out]), rfl⟩
  · have HE : Hid ((inB n 1 100) = false) := by show _ = _; simp [inB]; omega
    go_enter Try.func64, Try.ntmps64
    go_wp2_with fail
    go_ret
    exact ⟨ret_bool' (by rw [HE.out]), rfl⟩
set_option maxRecDepth 100000 in
set_option maxHeartbeats 4000000 in
theorem iEarlier (t d : Int) (w : World) (h0 : 0 ≤ t) (h1 : t ≤ 10000) (h2 : 0 ≤ d) (h3 : d ≤ 3) : Calls Try.prog 47 #[.int .i64 t, .int .i64 d] w fun e w' => e = .returned (.int .i64 (max 0 (t - d))) ∧ w = w' := by
  have hw := wrap12 (t - d) (by omega) (by omega)
  have HM : Hid (max (t - d) 0 = max 0 (t - d)) := by show _ = _; omega
  clear h0 h1 h2 h3
  go_enter Try.func47, Try.ntmps47
  go_wp2_with fail
  go_ret
  exact ⟨by rw [← HM.out]; rfl, rfl⟩
theorem ret_lsB {fn : Func} {p : Tmp} (h : fn.results = #[.cell p 26]) {R : Ending → World → Prop} {c : Act} {w : World} (g : Nat) (x y z : Int) (hp : c.tmps.getD p undef = .pointer (some ⟨g, 0, none⟩))
    (hg : w.heap[g]? = some (.cells #[.int .i64 x, .int .i64 y, .int .i64 z] 26 (0, 0))) (hd : c.defers = []) (hR : R (.returned (lsW x y z)) w) : bodyPost Try.prog fn R .ret c w := by
  refine bodyPost_ret ?_ hd hR
  have hp' : c.tmps[p]?.getD undef = .pointer (some ⟨g, 0, none⟩) := by simpa using hp
  simp [results, h, hp', asAddr, run_loadVar_row w g 26 26 #[.int .i64 x, .int .i64 y, .int .i64 z] (0, 0) _ hg Try.underlying26 rfl infoLs]
set_option maxRecDepth 100000 in
set_option maxHeartbeats 4000000 in
theorem iUnheld (n : Int) (w : World) : Calls Try.prog 42 #[.int .i64 n] w fun e w' => e = .returned (lsW 0 0 n) ∧ Below w.heap.size w w' := by
  obtain ⟨W, hW⟩ : ∃ W, w.alloc (.cells #[.int .i64 0, .int .i64 0, .int .i64 0] 26) = W := ⟨_, rfl⟩
  have hR : W.heap[w.heap.size]? = some (.cells #[.int .i64 0, .int .i64 0, .int .i64 0] 26 (0, 0)) := by rw [← hW]; exact heap_alloc_new _ _
  have hB : Below w.heap.size w W := by rw [← hW]; exact gAlloc _ _
  have a0 := cell_of_row W _ 0 _ _ _ hR
  have a1 := cell_of_row W _ 1 _ _ _ hR
  have a2 := cell_of_row W _ 2 _ _ _ hR
  have e0 := frozen_of_row W _ 0 _ _ hR
  have e1 := frozen_of_row W _ 1 _ _ hR
  have e2 := frozen_of_row W _ 2 _ _ hR
  have HR := Lib.hid hR
  have HB := Lib.hid hB
  clear hR hB
  go_enter Try.func42, Try.ntmps42
  go_wp2_with fail
  exact ret_lsB rfl w.heap.size 0 0 n rfl (ls_stored HR.out _ _ _) rfl ⟨rfl, below_ls HB.out (Nat.le_refl _) _ _ _⟩
/-- A world that came of w by calls and draws alone: a region whose callees make memory of their own, in whatever order, is walked once, in the order of the text. -/
structure OnW (w : World) where
  w' : World
  h : Below w.heap.size w w'
instance {w : World} : Inhabited (OnW w) := ⟨⟨w, Below.refl _ _⟩⟩
theorem wp_region_on {P : Program} {id : Nat} {Q : Exit → Act → World → Prop} {a : Act} {w : World} {l : List Oper} (hm : P.follows .mixedOrders = true) (hB : Region.lexB .any l.toArray = true)
    (h : wpQuiet P l.toArray (fun w' => ∃ p : OnW w, w' = p.w') (fun a' => ∀ w', (∃ p : OnW w, w' = p.w') → Q .normal a' w') l a) : (Code.region id l.toArray true).wp P Q a w :=
  wp_region_quiet (C := fun w' => ∃ p : OnW w, w' = p.w') hm hB ⟨⟨w.drew, gDrew⟩, rfl⟩ (by simpa using h)
theorem ite_no {c : Prop} [Decidable c] {A B : Prop} (h : ¬ c) (hB : B) : if c then A else B := by rw [if_neg h]; exact hB
theorem on_of {P : Program} {f : FuncId} {args : Array Value} {w : World} {p : OnW w} {v : Value} (h : Calls P f args p.w' fun e w' => e = .returned v ∧ Below p.w'.heap.size p.w' w') :
    Calls P f args p.w' fun e w'' => e = .returned v ∧ ∃ q : OnW w, w'' = q.w' := h.mono fun _ _ ⟨he, hb⟩ => ⟨he, ⟨_, below_more p.h hb⟩, rfl⟩
theorem on_same {P : Program} {f : FuncId} {args : Array Value} {w : World} {p : OnW w} {v : Value} (h : Calls P f args p.w' fun e w' => e = .returned v ∧ p.w' = w') :
    Calls P f args p.w' fun e w'' => e = .returned v ∧ ∃ q : OnW w, w'' = q.w' := h.mono fun _ _ ⟨he, hb⟩ => ⟨he, p, hb.symm⟩
theorem on_cell {w : World} {c : Addr} {v : Value} (h : w.cell? c = some v) (p : OnW w) : p.w'.cell? c = some v := (p.h.cell (World.block_lt_of_cell? _ _ h)).trans h
set_option maxRecDepth 100000 in
set_option maxHeartbeats 4000000 in
theorem iGoodL (a u q : Int) (w : World) :
    Calls Try.prog 14 #[lsW a u q] w fun e w' => e = .returned (.bool (goodZB a u q)) ∧ Below w.heap.size w w' := by
  obtain ⟨W, hW⟩ : ∃ W, w.alloc (.cells #[.int .i64 a, .int .i64 u, .int .i64 q] 26) = W := ⟨_, rfl⟩
  have hbW : Below w.heap.size w W := by rw [← hW]; exact gAlloc _ _
  have h1 : W.heap[w.heap.size]? = some (.cells #[.int .i64 a, .int .i64 u, .int .i64 q] 26 (0, 0)) := by rw [← hW]; exact heap_alloc_new _ _
  have x0 : W.cell? ⟨w.heap.size, 0, none⟩ = some (.int .i64 a) := cell_of_row _ _ 0 _ _ _ h1
  have x1 : W.cell? ⟨w.heap.size, 1, none⟩ = some (.int .i64 u) := cell_of_row _ _ 1 _ _ _ h1
  have x2 : W.cell? ⟨w.heap.size, 2, none⟩ = some (.int .i64 q) := cell_of_row _ _ 2 _ _ _ h1
  have HB := Lib.hid hbW
  have H1 := Lib.hid h1
  clear hbW h1
  have HU := Lib.hid (fun w => iUnheld q w)
  have HH := Lib.hid (fun w => iHolder12 a w)
  have HC := Lib.hid (fun w => iClock12 u w)
  by_cases hq0 : q < 0
  · have HE : Hid (goodZB a u q = false) := by show _ = _; rw [goodZB, show inB q 0 1000 = false by simp [inB]; omega]; rfl
    go_enter Try.func14, Try.ntmps14
    go_wp2_with fail
    go_ret
    exact ⟨ret_bool' HE.out.symm, HB.out⟩
  by_cases hq1 : 1000 < q
  · have HE : Hid (goodZB a u q = false) := by show _ = _; rw [goodZB, show inB q 0 1000 = false by simp [inB]; omega]; rfl
    go_enter Try.func14, Try.ntmps14
    go_wp2_with fail
    go_ret
    exact ⟨ret_bool' HE.out.symm, HB.out⟩
  have e1 : inB q 0 1000 = true := inB_mkL (by omega) (by omega)
  have z0 := on_cell x0
  have z1 := on_cell x1
  have z2 := on_cell x2
  by_cases hz : a = 0 ∧ u = 0
  · obtain ⟨rfl, rfl⟩ := hz
    have HE : Hid (goodZB 0 0 q = true) := by show _ = _; rw [goodZB, e1]; rfl
    clear e1
    go_enter Try.func14, Try.ntmps14
    go_wp2_with fail
    refine wp_region_on (by kernel_rfl) (by kernel_rfl) ?_
    repeat ((with_reducible refine wpQuiet_step (fun K hK => ?_)); go_simp; first | ((with_reducible refine hK _ ?_); clear hK K) | (refine ite_no (by decide) (hK _ ?_); clear hK K) | (apply Exists.intro; refine ⟨fun _ => ?_, hK _ ?_⟩; (first | (go_at_call 42; with_reducible exact on_of (HU.out _))); clear hK K))
    with_reducible refine wpQuiet_nil ?_
    rintro w2 ⟨⟨w2x, hb2⟩, hw2x⟩
    obtain rfl : w2 = w2x := hw2x
    go_wp2_with fail
    go_ret
    exact ⟨ret_bool' HE.out.symm, below_more HB.out hb2⟩
  by_cases ha : a = 0
  · have hu : ¬ u = 0 := fun e => hz ⟨ha, e⟩
    subst ha
    have hb0 : (u == 0) = false := by simpa using hu
    have HE : Hid (goodZB 0 u q = false) := by show _ = _; rw [goodZB, e1, show inB 0 1 9 = false by decide]; simp [hu]
    rw [show inB 0 1 9 = false by decide] at HH
    clear e1 hz hu
    go_enter Try.func14, Try.ntmps14
    go_wp2_with fail
    refine wp_region_on (by kernel_rfl) (by kernel_rfl) ?_
    repeat ((with_reducible refine wpQuiet_step (fun K hK => ?_)); go_simp; first | ((with_reducible refine hK _ ?_); clear hK K) | (refine ite_no (by decide) (hK _ ?_); clear hK K) | (apply Exists.intro; refine ⟨fun _ => ?_, hK _ ?_⟩; (first | (go_at_call 42; with_reducible exact on_of (HU.out _)) | (go_at_call 44; with_reducible exact on_same (HH.out _))); clear hK K))
    with_reducible refine wpQuiet_nil ?_
    rintro w2 ⟨⟨w2x, hb2⟩, hw2x⟩
    obtain rfl : w2 = w2x := hw2x
    go_wp2_with fail
    go_ret
    exact ⟨ret_bool' HE.out.symm, below_more HB.out hb2⟩
  have hb0 : (a == 0) = false := by simpa using ha
  cases hh : inB a 1 9
  · have HE : Hid (goodZB a u q = false) := by show _ = _; rw [goodZB, e1, hh]; simp [ha]
    rw [hh] at HH
    clear e1 hh hz ha
    go_enter Try.func14, Try.ntmps14
    go_wp2_with fail
    refine wp_region_on (by kernel_rfl) (by kernel_rfl) ?_
    repeat ((with_reducible refine wpQuiet_step (fun K hK => ?_)); go_simp; first | ((with_reducible refine hK _ ?_); clear hK K) | (refine ite_no (by decide) (hK _ ?_); clear hK K) | (apply Exists.intro; refine ⟨fun _ => ?_, hK _ ?_⟩; (first | (go_at_call 42; with_reducible exact on_of (HU.out _)) | (go_at_call 44; with_reducible exact on_same (HH.out _))); clear hK K))
    with_reducible refine wpQuiet_nil ?_
    rintro w2 ⟨⟨w2x, hb2⟩, hw2x⟩
    obtain rfl : w2 = w2x := hw2x
    go_wp2_with fail
    go_ret
    exact ⟨ret_bool' HE.out.symm, below_more HB.out hb2⟩
  rw [hh] at HH
  have HE : Hid (goodZB a u q = inB u 1 10000) := by show _ = _; rw [goodZB, e1, hh, hb0]; simp
  clear e1 hh hz ha
  by_cases hu : 0 < u
  · have hd : decide (0 < u) = true := by simpa using hu
    have HE2 : Hid (inB u 1 10000 = ckB u) := by
      show _ = _; by_cases h1 : u ≤ 10000
      · rw [show inB u 1 10000 = true from inB_mkL (by omega) h1, show ckB u = true from inB_mkL (by omega) h1]
      · rw [show inB u 1 10000 = false by simp [inB]; omega, show ckB u = false by simp [ckB, inB]; omega]
    go_enter Try.func14, Try.ntmps14
    go_wp2_with fail
    refine wp_region_on (by kernel_rfl) (by kernel_rfl) ?_
    repeat ((with_reducible refine wpQuiet_step (fun K hK => ?_)); go_simp; first | ((with_reducible refine hK _ ?_); clear hK K) | (refine ite_no (by decide) (hK _ ?_); clear hK K) | (apply Exists.intro; refine ⟨fun _ => ?_, hK _ ?_⟩; (first | (go_at_call 42; with_reducible exact on_of (HU.out _)) | (go_at_call 44; with_reducible exact on_same (HH.out _)) | (go_at_call 45; with_reducible exact on_same (HC.out _))); clear hK K))
    with_reducible refine wpQuiet_nil ?_
    rintro w2 ⟨⟨w2x, hb2⟩, hw2x⟩
    obtain rfl : w2 = w2x := hw2x
    go_wp2_with fail
    go_ret
    exact ⟨ret_bool' (HE.out.trans HE2.out).symm, below_more HB.out hb2⟩
  · have hd : decide (0 < u) = false := by simpa using hu
    have HE2 : Hid (inB u 1 10000 = false) := by show _ = _; simp [inB]; omega
    go_enter Try.func14, Try.ntmps14
    go_wp2_with fail
    refine wp_region_on (by kernel_rfl) (by kernel_rfl) ?_
    repeat ((with_reducible refine wpQuiet_step (fun K hK => ?_)); go_simp; first | ((with_reducible refine hK _ ?_); clear hK K) | (refine ite_no (by decide) (hK _ ?_); clear hK K) | (apply Exists.intro; refine ⟨fun _ => ?_, hK _ ?_⟩; (first | (go_at_call 42; with_reducible exact on_of (HU.out _)) | (go_at_call 44; with_reducible exact on_same (HH.out _))); clear hK K))
    with_reducible refine wpQuiet_nil ?_
    rintro w2 ⟨⟨w2x, hb2⟩, hw2x⟩
    obtain rfl : w2 = w2x := hw2x
    go_wp2_with fail
    go_ret
    exact ⟨ret_bool' (HE.out.trans HE2.out).symm, below_more HB.out hb2⟩
set_option maxRecDepth 100000 in
set_option maxHeartbeats 4000000 in
theorem iHeldAt (a u q t : Int) (w : World) :
    Calls Try.prog 21 #[lsW a u q, .int .i64 t] w fun e w' => e = .returned (.tuple #[.int .i64 (hdI a u q t), .bool (hdOkB a u q t)]) ∧ Below w.heap.size w w' := by
  obtain ⟨W, hW⟩ : ∃ W, w.alloc (.cells #[.int .i64 a, .int .i64 u, .int .i64 q] 26) = W := ⟨_, rfl⟩
  have hbW : Below w.heap.size w W := by rw [← hW]; exact gAlloc _ _
  have h1 : W.heap[w.heap.size]? = some (.cells #[.int .i64 a, .int .i64 u, .int .i64 q] 26 (0, 0)) := by rw [← hW]; exact heap_alloc_new _ _
  have x0 : W.cell? ⟨w.heap.size, 0, none⟩ = some (.int .i64 a) := cell_of_row _ _ 0 _ _ _ h1
  have x1 : W.cell? ⟨w.heap.size, 1, none⟩ = some (.int .i64 u) := cell_of_row _ _ 1 _ _ _ h1
  have x2 : W.cell? ⟨w.heap.size, 2, none⟩ = some (.int .i64 q) := cell_of_row _ _ 2 _ _ _ h1
  have HB := Lib.hid hbW
  have H1 := Lib.hid h1
  clear hbW h1
  have HG := Lib.hid (iGoodL a u q W)
  have HC := Lib.hid (fun w => iClock12 t w)
  cases hg : goodZB a u q
  · have HE : Hid (hdI a u q t = 0 ∧ hdOkB a u q t = false) := by show _ ∧ _; simp [hdI, hdOkB, hg]
    rw [HE.out.1, HE.out.2]
    rw [hg] at HG
    clear hg
    go_enter Try.func21, Try.ntmps21
    go_wp2_with (first
      | (go_at_call 14; refine HG.out.mono ?_; rintro e w1 ⟨rfl, hb1⟩))
    go_ret2
    exact ⟨rfl, below_more HB.out hb1⟩
  · rw [hg] at HG
    cases hc : ckB t
    · have HE : Hid (hdI a u q t = 0 ∧ hdOkB a u q t = false) := by show _ ∧ _; simp [hdI, hdOkB, hg, hc]
      rw [HE.out.1, HE.out.2]
      rw [hc] at HC
      clear hg hc
      go_enter Try.func21, Try.ntmps21
      go_wp2_with (first
        | (go_at_call 14; refine HG.out.mono ?_; rintro e w1 ⟨rfl, hb1⟩)
        | (go_at_call 45; refine (HC.out _).mono ?_; rintro e w' ⟨rfl, rfl⟩))
      go_ret2
      exact ⟨rfl, below_more HB.out hb1⟩
    · have hck : 0 ≤ t ∧ t ≤ 10000 := inB_andL hc
      have HE : Hid (hdI a u q t = heldL a u t ∧ hdOkB a u q t = true) := by show _ ∧ _; simp [hdI, hdOkB, hg, hc]
      rw [HE.out.1, HE.out.2]
      rw [hc] at HC
      have HX := Lib.hid (And.intro x0 x1)
      clear hg hc
      by_cases h : t < u
      · have HL : Hid (heldL a u t = a) := by show _ = _; rw [heldL, if_pos h]
        rw [HL.out]
        clear hck
        go_enter Try.func21, Try.ntmps21
        go_wp2_with (first
          | (go_at_call 14; refine HG.out.mono ?_; rintro e w1 ⟨rfl, hb1⟩; have y0 := (hb1.cell (World.block_lt_of_cell? _ _ HX.out.1)).trans HX.out.1; have y1 := (hb1.cell (World.block_lt_of_cell? _ _ HX.out.2)).trans HX.out.2)
          | (go_at_call 45; refine (HC.out _).mono ?_; rintro e w' ⟨rfl, rfl⟩))
        go_ret2
        exact ⟨rfl, below_more HB.out hb1⟩
      · have HL : Hid (heldL a u t = 0) := by show _ = _; rw [heldL, if_neg h]
        rw [HL.out]
        clear hck
        go_enter Try.func21, Try.ntmps21
        go_wp2_with (first
          | (go_at_call 14; refine HG.out.mono ?_; rintro e w1 ⟨rfl, hb1⟩; have y0 := (hb1.cell (World.block_lt_of_cell? _ _ HX.out.1)).trans HX.out.1; have y1 := (hb1.cell (World.block_lt_of_cell? _ _ HX.out.2)).trans HX.out.2)
          | (go_at_call 45; refine (HC.out _).mono ?_; rintro e w' ⟨rfl, rfl⟩))
        go_ret2
        exact ⟨rfl, below_more HB.out hb1⟩
set_option maxRecDepth 100000 in
set_option maxHeartbeats 4000000 in
theorem iBelAt (a u q t : Int) (w : World) :
    Calls Try.prog 15 #[lsW a u q, .int .i64 t] w fun e w' => e = .returned (.tuple #[.bool (blB a u q t), .bool (hdOkB a u q t)]) ∧ Below w.heap.size w w' := by
  obtain ⟨W, hW⟩ : ∃ W, w.alloc (.cells #[.int .i64 a, .int .i64 u, .int .i64 q] 26) = W := ⟨_, rfl⟩
  have hbW : Below w.heap.size w W := by rw [← hW]; exact gAlloc _ _
  have h1 : W.heap[w.heap.size]? = some (.cells #[.int .i64 a, .int .i64 u, .int .i64 q] 26 (0, 0)) := by rw [← hW]; exact heap_alloc_new _ _
  have x0 : W.cell? ⟨w.heap.size, 0, none⟩ = some (.int .i64 a) := cell_of_row _ _ 0 _ _ _ h1
  have x1 : W.cell? ⟨w.heap.size, 1, none⟩ = some (.int .i64 u) := cell_of_row _ _ 1 _ _ _ h1
  have x2 : W.cell? ⟨w.heap.size, 2, none⟩ = some (.int .i64 q) := cell_of_row _ _ 2 _ _ _ h1
  have HB := Lib.hid hbW
  have H1 := Lib.hid h1
  clear hbW h1
  have HG := Lib.hid (iGoodL a u q W)
  have HC := Lib.hid (fun w => iClock12 t w)
  cases hg : goodZB a u q
  · have HE : Hid (blB a u q t = false ∧ hdOkB a u q t = false) := by show _ ∧ _; simp [blB, hdOkB, hg]
    rw [HE.out.1, HE.out.2]
    rw [hg] at HG
    clear hg
    go_enter Try.func15, Try.ntmps15
    go_wp2_with (first
      | (go_at_call 14; refine HG.out.mono ?_; rintro e w1 ⟨rfl, hb1⟩))
    go_ret2
    exact ⟨rfl, below_more HB.out hb1⟩
  · rw [hg] at HG
    cases hc : ckB t
    · have HE : Hid (blB a u q t = false ∧ hdOkB a u q t = false) := by show _ ∧ _; simp [blB, hdOkB, hg, hc]
      rw [HE.out.1, HE.out.2]
      rw [hc] at HC
      clear hg hc
      go_enter Try.func15, Try.ntmps15
      go_wp2_with (first
        | (go_at_call 14; refine HG.out.mono ?_; rintro e w1 ⟨rfl, hb1⟩)
        | (go_at_call 45; refine (HC.out _).mono ?_; rintro e w' ⟨rfl, rfl⟩))
      go_ret2
      exact ⟨rfl, below_more HB.out hb1⟩
    · have hck : 0 ≤ t ∧ t ≤ 10000 := inB_andL hc
      have HE : Hid (blB a u q t = belB u t ∧ hdOkB a u q t = true) := by show _ ∧ _; simp [blB, hdOkB, hg, hc]
      rw [HE.out.1, HE.out.2]
      rw [hc] at HC
      have HX := Lib.hid (And.intro x0 x1)
      clear hg hc
      have hw := wrap12 (t + 3) (by omega) (by omega)
      have HL : Hid (belB u t = decide (t + 3 < u)) := rfl
      rw [HL.out]
      clear hck
      go_enter Try.func15, Try.ntmps15
      go_wp2_with (first
        | (go_at_call 14; refine HG.out.mono ?_; rintro e w1 ⟨rfl, hb1⟩; have y0 := (hb1.cell (World.block_lt_of_cell? _ _ HX.out.1)).trans HX.out.1; have y1 := (hb1.cell (World.block_lt_of_cell? _ _ HX.out.2)).trans HX.out.2)
        | (go_at_call 45; refine (HC.out _).mono ?_; rintro e w' ⟨rfl, rfl⟩))
      go_ret2
      exact ⟨rfl, below_more HB.out hb1⟩
end Go.Proofs.Ythmnenejfonfgaa
