/-
  BL: The program's chapter 12, third part: granted, renewed, ended, StepLease.
  BM: The program's chapter 12, fourth part: StepLease.
  BN: The program's chapter 12, fifth part: cmp.Compare, byTime, slices.IsSortedFunc, PlayLease.
  BO: The program's chapter 12, last part: PlayLease.
-/
import Derived.Test.YthmnenejfonfgaaBJ
import Derived.Test.YthmnenejfonfgaaBD

/- BL -/
namespace Go.Proofs.Ythmnenejfonfgaa
open Go.RowKit

/-- What is made of a lease, or none. -/
def zS (b : Bool) (T : Int × Int × Int) : Int × Int × Int := if b = true then T else (0, 0, 0)
/-- The boxes of a lease, a step and an answer. -/
structure Bx12 (w wr : World) (a u q k wh nw lg : Int) : Prop where
  ls : wr.heap[w.heap.size]? = some (.cells #[.int .i64 a, .int .i64 u, .int .i64 q] 26 (0, 0))
  sp : wr.heap[w.heap.size + 1]? = some (.cells #[.int .i64 k, .int .i64 wh, .int .i64 nw, .int .i64 lg] 34 (0, 0))
  rs : wr.heap[w.heap.size + 1 + 1]? = some (.cells #[.int .i64 0, .int .i64 0, .int .i64 0] 26 (0, 0))
  bel : Below w.heap.size w wr
theorem Bx12.on {w wr w2 : World} {a u q k wh nw lg : Int} (h : Bx12 w wr a u q k wh nw lg) (hb : Below wr.heap.size wr w2) : Bx12 w w2 a u q k wh nw lg :=
  ⟨(hb.block _ (heap_lt h.ls)).trans h.ls, (hb.block _ (heap_lt h.sp)).trans h.sp, (hb.block _ (heap_lt h.rs)).trans h.rs, below_more h.bel hb⟩
theorem bx_start {w W : World} {a u q k wh nw lg : Int} (hW : ((w.alloc (.cells #[.int .i64 a, .int .i64 u, .int .i64 q] 26)).alloc (.cells #[.int .i64 k, .int .i64 wh, .int .i64 nw, .int .i64 lg] 34)).alloc (.cells #[.int .i64 0, .int .i64 0, .int .i64 0] 26) = W) : Bx12 w W a u q k wh nw lg := by
  refine ⟨?_, ?_, ?_, ?_⟩
  · rw [← hW, heap_alloc_old _ _ _ (by simp; omega), heap_alloc_old _ _ _ (by simp)]; exact heap_alloc_new _ _
  · rw [← hW, heap_alloc_old _ _ _ (by simp), show w.heap.size + 1 = (w.alloc (.cells #[.int .i64 a, .int .i64 u, .int .i64 q] 26)).heap.size by simp]; exact heap_alloc_new _ _
  · rw [← hW, show w.heap.size + 1 + 1 = ((w.alloc (.cells #[.int .i64 a, .int .i64 u, .int .i64 q] 26)).alloc (.cells #[.int .i64 k, .int .i64 wh, .int .i64 nw, .int .i64 lg] 34)).heap.size by simp]; exact heap_alloc_new _ _
  · rw [← hW]; exact ((gAlloc w _).alloc (by simp) _).alloc (by simp; omega) _
theorem hd_eq {a u q t : Int} (hg : goodZB a u q = true) (hc : ckB t = true) : hdI a u q t = heldL a u t ∧ hdOkB a u q t = true := by
  rw [hdI, hdOkB, hg, hc]; exact ⟨rfl, rfl⟩
set_option maxRecDepth 100000 in
set_option maxHeartbeats 4000000 in
theorem iEnded (a u q k wh nw lg : Int) (w : World) :
    Calls Try.prog 58 #[lsW a u q, lpV (k, wh, nw, lg)] w fun e w' => e = .returned (.tuple #[lsW (zS (endB a wh lg) (((0 : Int), (0 : Int), q))).1 (zS (endB a wh lg) (((0 : Int), (0 : Int), q))).2.1 (zS (endB a wh lg) (((0 : Int), (0 : Int), q))).2.2, .bool (endB a wh lg)]) ∧ Below w.heap.size w w' := by
  obtain ⟨W, hW⟩ : ∃ W, ((w.alloc (.cells #[.int .i64 a, .int .i64 u, .int .i64 q] 26)).alloc (.cells #[.int .i64 k, .int .i64 wh, .int .i64 nw, .int .i64 lg] 34)).alloc (.cells #[.int .i64 0, .int .i64 0, .int .i64 0] 26) = W := ⟨_, rfl⟩
  have HX : Hid (Bx12 w W a u q k wh nw lg) := bx_start hW
  have x0 : W.cell? ⟨w.heap.size, 0, none⟩ = some (.int .i64 a) := cell_of_row _ _ 0 _ _ _ HX.out.ls
  have x1 : W.cell? ⟨w.heap.size, 1, none⟩ = some (.int .i64 u) := cell_of_row _ _ 1 _ _ _ HX.out.ls
  have x2 : W.cell? ⟨w.heap.size, 2, none⟩ = some (.int .i64 q) := cell_of_row _ _ 2 _ _ _ HX.out.ls
  have s0 : W.cell? ⟨w.heap.size + 1, 0, none⟩ = some (.int .i64 k) := cell_of_row _ _ 0 _ _ _ HX.out.sp
  have s1 : W.cell? ⟨w.heap.size + 1, 1, none⟩ = some (.int .i64 wh) := cell_of_row _ _ 1 _ _ _ HX.out.sp
  have s2 : W.cell? ⟨w.heap.size + 1, 2, none⟩ = some (.int .i64 nw) := cell_of_row _ _ 2 _ _ _ HX.out.sp
  have s3 : W.cell? ⟨w.heap.size + 1, 3, none⟩ = some (.int .i64 lg) := cell_of_row _ _ 3 _ _ _ HX.out.sp
  have z0 : W.cell? ⟨w.heap.size + 1 + 1, 0, none⟩ = some (.int .i64 0) := cell_of_row _ _ 0 _ _ _ HX.out.rs
  have z1 : W.cell? ⟨w.heap.size + 1 + 1, 1, none⟩ = some (.int .i64 0) := cell_of_row _ _ 1 _ _ _ HX.out.rs
  have z2 : W.cell? ⟨w.heap.size + 1 + 1, 2, none⟩ = some (.int .i64 0) := cell_of_row _ _ 2 _ _ _ HX.out.rs
  have f0 := frozen_of_row W _ 0 _ _ HX.out.rs
  have f1 := frozen_of_row W _ 1 _ _ HX.out.rs
  have f2 := frozen_of_row W _ 2 _ _ HX.out.rs
  have HU := Lib.hid (fun w => iUnheld q w)
  by_cases h1 : a = wh
  · by_cases h2 : lg = 0
    · have HE : Hid (endB a wh lg = true) := by show _ = _; rw [endB]; simp [h1, h2]
      rw [HE.out]
      have m1 : (a != wh) = false := by simpa using h1
      have m2 : (lg != 0) = false := by simpa using h2
      clear h1 h2
      go_enter Try.func58, Try.ntmps58
      go_wp2_with (go_at_call 42; refine (HU.out _).mono ?_; rintro e w5 ⟨rfl, hb5⟩; have HX5 := Lib.hid (HX.out.on hb5); have y0 : w5.cell? ⟨w.heap.size, 0, none⟩ = some (.int .i64 a) := cell_of_row _ _ 0 _ _ _ HX5.out.ls; have y1 : w5.cell? ⟨w.heap.size, 1, none⟩ = some (.int .i64 u) := cell_of_row _ _ 1 _ _ _ HX5.out.ls; have y2 : w5.cell? ⟨w.heap.size, 2, none⟩ = some (.int .i64 q) := cell_of_row _ _ 2 _ _ _ HX5.out.ls; have s0 : w5.cell? ⟨w.heap.size + 1, 0, none⟩ = some (.int .i64 k) := cell_of_row _ _ 0 _ _ _ HX5.out.sp; have s1 : w5.cell? ⟨w.heap.size + 1, 1, none⟩ = some (.int .i64 wh) := cell_of_row _ _ 1 _ _ _ HX5.out.sp; have s2 : w5.cell? ⟨w.heap.size + 1, 2, none⟩ = some (.int .i64 nw) := cell_of_row _ _ 2 _ _ _ HX5.out.sp; have s3 : w5.cell? ⟨w.heap.size + 1, 3, none⟩ = some (.int .i64 lg) := cell_of_row _ _ 3 _ _ _ HX5.out.sp; have z0 : w5.cell? ⟨w.heap.size + 1 + 1, 0, none⟩ = some (.int .i64 0) := cell_of_row _ _ 0 _ _ _ HX5.out.rs; have z1 : w5.cell? ⟨w.heap.size + 1 + 1, 1, none⟩ = some (.int .i64 0) := cell_of_row _ _ 1 _ _ _ HX5.out.rs; have z2 : w5.cell? ⟨w.heap.size + 1 + 1, 2, none⟩ = some (.int .i64 0) := cell_of_row _ _ 2 _ _ _ HX5.out.rs; have f0 := frozen_of_row w5 _ 0 _ _ HX5.out.rs; have f1 := frozen_of_row w5 _ 1 _ _ HX5.out.rs; have f2 := frozen_of_row w5 _ 2 _ _ HX5.out.rs)
      exact ret_ls2 rfl (w.heap.size + 1 + 1) 0 0 q true rfl rfl (ls_stored HX5.out.rs _ _ _) rfl ⟨rfl, below_ls HX5.out.bel (by omega) _ _ _⟩
    · have HE : Hid (endB a wh lg = false) := by show _ = _; rw [endB]; simp [h2]
      rw [HE.out]
      have m2 : (a != wh) = false := by simpa using h1
      have m1 : (lg != 0) = true := by simpa using h2
      clear h1 h2
      go_enter Try.func58, Try.ntmps58
      go_wp2_with fail
      exact ret_ls2 rfl (w.heap.size + 1 + 1) 0 0 0 false rfl rfl (ls_stored HX.out.rs _ _ _) rfl ⟨rfl, below_ls HX.out.bel (by omega) _ _ _⟩
  · have HE : Hid (endB a wh lg = false) := by show _ = _; rw [endB]; simp [h1]
    rw [HE.out]
    have m1 : (a != wh) = true := by simpa using h1
    go_enter Try.func58, Try.ntmps58
    go_wp2_with fail
    exact ret_ls2 rfl (w.heap.size + 1 + 1) 0 0 0 false rfl rfl (ls_stored HX.out.rs _ _ _) rfl ⟨rfl, below_ls HX.out.bel (by omega) _ _ _⟩
set_option maxRecDepth 100000 in
set_option maxHeartbeats 4000000 in
theorem iRenewed (a u q k wh nw lg : Int) (w : World) (hg : goodZB a u q = true) (hc : ckB nw = true) :
    Calls Try.prog 57 #[lsW a u q, lpV (k, wh, nw, lg)] w fun e w' => e = .returned (.tuple #[lsW (zS (renB a u wh nw lg) ((a, max u (nw + lg), q))).1 (zS (renB a u wh nw lg) ((a, max u (nw + lg), q))).2.1 (zS (renB a u wh nw lg) ((a, max u (nw + lg), q))).2.2, .bool (renB a u wh nw lg)]) ∧ Below w.heap.size w w' := by
  obtain ⟨W, hW⟩ : ∃ W, ((w.alloc (.cells #[.int .i64 a, .int .i64 u, .int .i64 q] 26)).alloc (.cells #[.int .i64 k, .int .i64 wh, .int .i64 nw, .int .i64 lg] 34)).alloc (.cells #[.int .i64 0, .int .i64 0, .int .i64 0] 26) = W := ⟨_, rfl⟩
  have HX : Hid (Bx12 w W a u q k wh nw lg) := bx_start hW
  have x0 : W.cell? ⟨w.heap.size, 0, none⟩ = some (.int .i64 a) := cell_of_row _ _ 0 _ _ _ HX.out.ls
  have x1 : W.cell? ⟨w.heap.size, 1, none⟩ = some (.int .i64 u) := cell_of_row _ _ 1 _ _ _ HX.out.ls
  have x2 : W.cell? ⟨w.heap.size, 2, none⟩ = some (.int .i64 q) := cell_of_row _ _ 2 _ _ _ HX.out.ls
  have s0 : W.cell? ⟨w.heap.size + 1, 0, none⟩ = some (.int .i64 k) := cell_of_row _ _ 0 _ _ _ HX.out.sp
  have s1 : W.cell? ⟨w.heap.size + 1, 1, none⟩ = some (.int .i64 wh) := cell_of_row _ _ 1 _ _ _ HX.out.sp
  have s2 : W.cell? ⟨w.heap.size + 1, 2, none⟩ = some (.int .i64 nw) := cell_of_row _ _ 2 _ _ _ HX.out.sp
  have s3 : W.cell? ⟨w.heap.size + 1, 3, none⟩ = some (.int .i64 lg) := cell_of_row _ _ 3 _ _ _ HX.out.sp
  have HH := Lib.hid (fun w => iHeldAt a u q nw w)
  rw [(hd_eq hg hc).1, (hd_eq hg hc).2] at HH
  have HT := Lib.hid (fun w => iTerm12 lg w)
  have hck : 0 ≤ nw ∧ nw ≤ 10000 := inB_andL hc
  generalize hhv : heldL a u nw = hv at HH
  clear hg hc
  by_cases h1 : hv = wh
  · have m1 : (hv != wh) = false := by simpa using h1
    cases ht : inB lg 1 100
    · have HE : Hid (renB a u wh nw lg = false) := by show _ = _; rw [renB, ht]; rfl
      rw [HE.out]
      rw [ht] at HT
      clear ht hhv h1
      go_enter Try.func57, Try.ntmps57
      go_wp2_with (first
        | (go_at_call 21; refine (HH.out _).mono ?_; rintro e w5 ⟨rfl, hb5⟩; have HX5 := Lib.hid (HX.out.on hb5); have y0 : w5.cell? ⟨w.heap.size, 0, none⟩ = some (.int .i64 a) := cell_of_row _ _ 0 _ _ _ HX5.out.ls; have y1 : w5.cell? ⟨w.heap.size, 1, none⟩ = some (.int .i64 u) := cell_of_row _ _ 1 _ _ _ HX5.out.ls; have y2 : w5.cell? ⟨w.heap.size, 2, none⟩ = some (.int .i64 q) := cell_of_row _ _ 2 _ _ _ HX5.out.ls; have v0 : w5.cell? ⟨w.heap.size + 1, 0, none⟩ = some (.int .i64 k) := cell_of_row _ _ 0 _ _ _ HX5.out.sp; have v1 : w5.cell? ⟨w.heap.size + 1, 1, none⟩ = some (.int .i64 wh) := cell_of_row _ _ 1 _ _ _ HX5.out.sp; have v2 : w5.cell? ⟨w.heap.size + 1, 2, none⟩ = some (.int .i64 nw) := cell_of_row _ _ 2 _ _ _ HX5.out.sp; have v3 : w5.cell? ⟨w.heap.size + 1, 3, none⟩ = some (.int .i64 lg) := cell_of_row _ _ 3 _ _ _ HX5.out.sp; have z0 : w5.cell? ⟨w.heap.size + 1 + 1, 0, none⟩ = some (.int .i64 0) := cell_of_row _ _ 0 _ _ _ HX5.out.rs; have z1 : w5.cell? ⟨w.heap.size + 1 + 1, 1, none⟩ = some (.int .i64 0) := cell_of_row _ _ 1 _ _ _ HX5.out.rs; have z2 : w5.cell? ⟨w.heap.size + 1 + 1, 2, none⟩ = some (.int .i64 0) := cell_of_row _ _ 2 _ _ _ HX5.out.rs; have f0 := frozen_of_row w5 _ 0 _ _ HX5.out.rs; have f1 := frozen_of_row w5 _ 1 _ _ HX5.out.rs; have f2 := frozen_of_row w5 _ 2 _ _ HX5.out.rs)
        | (go_at_call 64; refine (HT.out _).mono ?_; rintro e w' ⟨rfl, rfl⟩))
      exact ret_ls2 rfl (w.heap.size + 1 + 1) 0 0 0 false rfl rfl (ls_stored HX5.out.rs _ _ _) rfl ⟨rfl, below_ls HX5.out.bel (by omega) _ _ _⟩
    · have HE : Hid (renB a u wh nw lg = true) := by show _ = _; rw [renB, ht, hhv, h1]; simp
      rw [HE.out]
      have hlg : 1 ≤ lg ∧ lg ≤ 100 := inB_andL ht
      have hwr := wrap12 (nw + lg) (by omega) (by omega)
      rw [ht] at HT
      clear ht hhv hck hlg h1
      go_enter Try.func57, Try.ntmps57
      go_wp2_with (first
        | (go_at_call 21; refine (HH.out _).mono ?_; rintro e w5 ⟨rfl, hb5⟩; have HX5 := Lib.hid (HX.out.on hb5); have y0 : w5.cell? ⟨w.heap.size, 0, none⟩ = some (.int .i64 a) := cell_of_row _ _ 0 _ _ _ HX5.out.ls; have y1 : w5.cell? ⟨w.heap.size, 1, none⟩ = some (.int .i64 u) := cell_of_row _ _ 1 _ _ _ HX5.out.ls; have y2 : w5.cell? ⟨w.heap.size, 2, none⟩ = some (.int .i64 q) := cell_of_row _ _ 2 _ _ _ HX5.out.ls; have v0 : w5.cell? ⟨w.heap.size + 1, 0, none⟩ = some (.int .i64 k) := cell_of_row _ _ 0 _ _ _ HX5.out.sp; have v1 : w5.cell? ⟨w.heap.size + 1, 1, none⟩ = some (.int .i64 wh) := cell_of_row _ _ 1 _ _ _ HX5.out.sp; have v2 : w5.cell? ⟨w.heap.size + 1, 2, none⟩ = some (.int .i64 nw) := cell_of_row _ _ 2 _ _ _ HX5.out.sp; have v3 : w5.cell? ⟨w.heap.size + 1, 3, none⟩ = some (.int .i64 lg) := cell_of_row _ _ 3 _ _ _ HX5.out.sp; have z0 : w5.cell? ⟨w.heap.size + 1 + 1, 0, none⟩ = some (.int .i64 0) := cell_of_row _ _ 0 _ _ _ HX5.out.rs; have z1 : w5.cell? ⟨w.heap.size + 1 + 1, 1, none⟩ = some (.int .i64 0) := cell_of_row _ _ 1 _ _ _ HX5.out.rs; have z2 : w5.cell? ⟨w.heap.size + 1 + 1, 2, none⟩ = some (.int .i64 0) := cell_of_row _ _ 2 _ _ _ HX5.out.rs; have f0 := frozen_of_row w5 _ 0 _ _ HX5.out.rs; have f1 := frozen_of_row w5 _ 1 _ _ HX5.out.rs; have f2 := frozen_of_row w5 _ 2 _ _ HX5.out.rs)
        | (go_at_call 64; refine (HT.out _).mono ?_; rintro e w' ⟨rfl, rfl⟩))
      exact ret_ls2 rfl (w.heap.size + 1 + 1) a (max u (nw + lg)) q true rfl rfl (ls_stored HX5.out.rs _ _ _) rfl ⟨rfl, below_ls HX5.out.bel (by omega) _ _ _⟩
  · have HE : Hid (renB a u wh nw lg = false) := by show _ = _; rw [renB, hhv]; simp [h1]
    rw [HE.out]
    have m1 : (hv != wh) = true := by simpa using h1
    clear hhv
    go_enter Try.func57, Try.ntmps57
    go_wp2_with (first
      | (go_at_call 21; refine (HH.out _).mono ?_; rintro e w5 ⟨rfl, hb5⟩; have HX5 := Lib.hid (HX.out.on hb5); have y0 : w5.cell? ⟨w.heap.size, 0, none⟩ = some (.int .i64 a) := cell_of_row _ _ 0 _ _ _ HX5.out.ls; have y1 : w5.cell? ⟨w.heap.size, 1, none⟩ = some (.int .i64 u) := cell_of_row _ _ 1 _ _ _ HX5.out.ls; have y2 : w5.cell? ⟨w.heap.size, 2, none⟩ = some (.int .i64 q) := cell_of_row _ _ 2 _ _ _ HX5.out.ls; have v0 : w5.cell? ⟨w.heap.size + 1, 0, none⟩ = some (.int .i64 k) := cell_of_row _ _ 0 _ _ _ HX5.out.sp; have v1 : w5.cell? ⟨w.heap.size + 1, 1, none⟩ = some (.int .i64 wh) := cell_of_row _ _ 1 _ _ _ HX5.out.sp; have v2 : w5.cell? ⟨w.heap.size + 1, 2, none⟩ = some (.int .i64 nw) := cell_of_row _ _ 2 _ _ _ HX5.out.sp; have v3 : w5.cell? ⟨w.heap.size + 1, 3, none⟩ = some (.int .i64 lg) := cell_of_row _ _ 3 _ _ _ HX5.out.sp; have z0 : w5.cell? ⟨w.heap.size + 1 + 1, 0, none⟩ = some (.int .i64 0) := cell_of_row _ _ 0 _ _ _ HX5.out.rs; have z1 : w5.cell? ⟨w.heap.size + 1 + 1, 1, none⟩ = some (.int .i64 0) := cell_of_row _ _ 1 _ _ _ HX5.out.rs; have z2 : w5.cell? ⟨w.heap.size + 1 + 1, 2, none⟩ = some (.int .i64 0) := cell_of_row _ _ 2 _ _ _ HX5.out.rs; have f0 := frozen_of_row w5 _ 0 _ _ HX5.out.rs; have f1 := frozen_of_row w5 _ 1 _ _ HX5.out.rs; have f2 := frozen_of_row w5 _ 2 _ _ HX5.out.rs)
      | (go_at_call 64; refine (HT.out _).mono ?_; rintro e w' ⟨rfl, rfl⟩))
    exact ret_ls2 rfl (w.heap.size + 1 + 1) 0 0 0 false rfl rfl (ls_stored HX5.out.rs _ _ _) rfl ⟨rfl, below_ls HX5.out.bel (by omega) _ _ _⟩
set_option maxRecDepth 100000 in
set_option maxHeartbeats 4000000 in
theorem iGranted (a u q k wh nw lg : Int) (w : World) (hg : goodZB a u q = true) (hc : ckB nw = true) :
    Calls Try.prog 56 #[lsW a u q, lpV (k, wh, nw, lg)] w fun e w' => e = .returned (.tuple #[lsW (zS (askB a u nw lg) ((wh, nw + lg, q + 1))).1 (zS (askB a u nw lg) ((wh, nw + lg, q + 1))).2.1 (zS (askB a u nw lg) ((wh, nw + lg, q + 1))).2.2, .bool (askB a u nw lg)]) ∧ Below w.heap.size w w' := by
  obtain ⟨W, hW⟩ : ∃ W, ((w.alloc (.cells #[.int .i64 a, .int .i64 u, .int .i64 q] 26)).alloc (.cells #[.int .i64 k, .int .i64 wh, .int .i64 nw, .int .i64 lg] 34)).alloc (.cells #[.int .i64 0, .int .i64 0, .int .i64 0] 26) = W := ⟨_, rfl⟩
  have HX : Hid (Bx12 w W a u q k wh nw lg) := bx_start hW
  have x0 : W.cell? ⟨w.heap.size, 0, none⟩ = some (.int .i64 a) := cell_of_row _ _ 0 _ _ _ HX.out.ls
  have x1 : W.cell? ⟨w.heap.size, 1, none⟩ = some (.int .i64 u) := cell_of_row _ _ 1 _ _ _ HX.out.ls
  have x2 : W.cell? ⟨w.heap.size, 2, none⟩ = some (.int .i64 q) := cell_of_row _ _ 2 _ _ _ HX.out.ls
  have s0 : W.cell? ⟨w.heap.size + 1, 0, none⟩ = some (.int .i64 k) := cell_of_row _ _ 0 _ _ _ HX.out.sp
  have s1 : W.cell? ⟨w.heap.size + 1, 1, none⟩ = some (.int .i64 wh) := cell_of_row _ _ 1 _ _ _ HX.out.sp
  have s2 : W.cell? ⟨w.heap.size + 1, 2, none⟩ = some (.int .i64 nw) := cell_of_row _ _ 2 _ _ _ HX.out.sp
  have s3 : W.cell? ⟨w.heap.size + 1, 3, none⟩ = some (.int .i64 lg) := cell_of_row _ _ 3 _ _ _ HX.out.sp
  have hck : 0 ≤ nw ∧ nw ≤ 10000 := inB_andL hc
  have hgd := gls_ok hg
  have HL := Lib.hid (fun w => iEarlier nw 3 w hck.1 hck.2 (by omega) (by omega))
  have hc3 : ckB (max 0 (nw - 3)) = true := inB_mkL (by omega) (by omega)
  have HA : Hid (askB a u nw lg = (inB lg 1 100 && !(decide (0 < heldL a u (max 0 (nw - 3)))))) := rfl
  have HP : Hid (0 ≤ heldL a u (max 0 (nw - 3))) := by show _ ≤ _; rw [heldL]; split <;> omega
  generalize max 0 (nw - 3) = c at *
  have HH := Lib.hid (fun w => iHeldAt a u q c w)
  rw [(hd_eq hg hc3).1, (hd_eq hg hc3).2] at HH
  have HT := Lib.hid (fun w => iTerm12 lg w)
  generalize heldL a u c = hv at HH HA HP
  have hwq := wrap12 (q + 1) (by omega) (by omega)
  clear hg hc hc3 hgd
  have y0 := on_cell x0
  have y1 := on_cell x1
  have y2 := on_cell x2
  have v0 := on_cell s0
  have v1 := on_cell s1
  have v2 := on_cell s2
  have v3 := on_cell s3
  by_cases h1 : hv = 0
  · subst h1
    cases ht : inB lg 1 100
    · have HE : Hid (askB a u nw lg = false) := by show _ = _; rw [HA.out, ht]; rfl
      rw [HE.out]
      rw [ht] at HT
      clear ht
      go_enter Try.func56, Try.ntmps56
      go_wp2_with fail
      refine wp_region_on (by kernel_rfl) (by kernel_rfl) ?_
      repeat ((with_reducible refine wpQuiet_step (fun K hK => ?_)); go_simp; first | ((with_reducible refine hK _ ?_); clear hK K) | (refine ite_no (by decide) (hK _ ?_); clear hK K) | (apply Exists.intro; refine ⟨fun _ => ?_, hK _ ?_⟩; (first | (go_at_call 47; exact on_same (HL.out _)) | (go_at_call 21; exact on_of (HH.out _))); clear hK K))
      with_reducible refine wpQuiet_nil ?_
      rintro w2 ⟨⟨w2x, hb2⟩, hw2x⟩
      obtain rfl : w2 = w2x := hw2x
      have HX5 := Lib.hid (HX.out.on hb2)
      clear x0 x1 x2 s0 s1 s2 s3 y0 y1 y2 v0 v1 v2 v3
      have x0 : w2.cell? ⟨w.heap.size, 0, none⟩ = some (.int .i64 a) := cell_of_row _ _ 0 _ _ _ HX5.out.ls
      have x1 : w2.cell? ⟨w.heap.size, 1, none⟩ = some (.int .i64 u) := cell_of_row _ _ 1 _ _ _ HX5.out.ls
      have x2 : w2.cell? ⟨w.heap.size, 2, none⟩ = some (.int .i64 q) := cell_of_row _ _ 2 _ _ _ HX5.out.ls
      have s0 : w2.cell? ⟨w.heap.size + 1, 0, none⟩ = some (.int .i64 k) := cell_of_row _ _ 0 _ _ _ HX5.out.sp
      have s1 : w2.cell? ⟨w.heap.size + 1, 1, none⟩ = some (.int .i64 wh) := cell_of_row _ _ 1 _ _ _ HX5.out.sp
      have s2 : w2.cell? ⟨w.heap.size + 1, 2, none⟩ = some (.int .i64 nw) := cell_of_row _ _ 2 _ _ _ HX5.out.sp
      have s3 : w2.cell? ⟨w.heap.size + 1, 3, none⟩ = some (.int .i64 lg) := cell_of_row _ _ 3 _ _ _ HX5.out.sp
      have z0 : w2.cell? ⟨w.heap.size + 1 + 1, 0, none⟩ = some (.int .i64 0) := cell_of_row _ _ 0 _ _ _ HX5.out.rs
      have z1 : w2.cell? ⟨w.heap.size + 1 + 1, 1, none⟩ = some (.int .i64 0) := cell_of_row _ _ 1 _ _ _ HX5.out.rs
      have z2 : w2.cell? ⟨w.heap.size + 1 + 1, 2, none⟩ = some (.int .i64 0) := cell_of_row _ _ 2 _ _ _ HX5.out.rs
      have f0 := frozen_of_row w2 _ 0 _ _ HX5.out.rs
      have f1 := frozen_of_row w2 _ 1 _ _ HX5.out.rs
      have f2 := frozen_of_row w2 _ 2 _ _ HX5.out.rs
      go_wp2_with (go_at_call 64; refine (HT.out _).mono ?_; rintro e w' ⟨rfl, rfl⟩)
      exact ret_ls2 rfl (w.heap.size + 1 + 1) 0 0 0 false rfl rfl (ls_stored HX5.out.rs _ _ _) rfl ⟨rfl, below_ls HX5.out.bel (by omega) _ _ _⟩
    · have HE : Hid (askB a u nw lg = true) := by show _ = _; rw [HA.out, ht]; rfl
      rw [HE.out]
      have hlg : 1 ≤ lg ∧ lg ≤ 100 := inB_andL ht
      have hwr := wrap12 (nw + lg) (by omega) (by omega)
      rw [ht] at HT
      clear ht hck hlg
      go_enter Try.func56, Try.ntmps56
      go_wp2_with fail
      refine wp_region_on (by kernel_rfl) (by kernel_rfl) ?_
      repeat ((with_reducible refine wpQuiet_step (fun K hK => ?_)); go_simp; first | ((with_reducible refine hK _ ?_); clear hK K) | (refine ite_no (by decide) (hK _ ?_); clear hK K) | (apply Exists.intro; refine ⟨fun _ => ?_, hK _ ?_⟩; (first | (go_at_call 47; exact on_same (HL.out _)) | (go_at_call 21; exact on_of (HH.out _))); clear hK K))
      with_reducible refine wpQuiet_nil ?_
      rintro w2 ⟨⟨w2x, hb2⟩, hw2x⟩
      obtain rfl : w2 = w2x := hw2x
      have HX5 := Lib.hid (HX.out.on hb2)
      clear x0 x1 x2 s0 s1 s2 s3 y0 y1 y2 v0 v1 v2 v3
      have x0 : w2.cell? ⟨w.heap.size, 0, none⟩ = some (.int .i64 a) := cell_of_row _ _ 0 _ _ _ HX5.out.ls
      have x1 : w2.cell? ⟨w.heap.size, 1, none⟩ = some (.int .i64 u) := cell_of_row _ _ 1 _ _ _ HX5.out.ls
      have x2 : w2.cell? ⟨w.heap.size, 2, none⟩ = some (.int .i64 q) := cell_of_row _ _ 2 _ _ _ HX5.out.ls
      have s0 : w2.cell? ⟨w.heap.size + 1, 0, none⟩ = some (.int .i64 k) := cell_of_row _ _ 0 _ _ _ HX5.out.sp
      have s1 : w2.cell? ⟨w.heap.size + 1, 1, none⟩ = some (.int .i64 wh) := cell_of_row _ _ 1 _ _ _ HX5.out.sp
      have s2 : w2.cell? ⟨w.heap.size + 1, 2, none⟩ = some (.int .i64 nw) := cell_of_row _ _ 2 _ _ _ HX5.out.sp
      have s3 : w2.cell? ⟨w.heap.size + 1, 3, none⟩ = some (.int .i64 lg) := cell_of_row _ _ 3 _ _ _ HX5.out.sp
      have z0 : w2.cell? ⟨w.heap.size + 1 + 1, 0, none⟩ = some (.int .i64 0) := cell_of_row _ _ 0 _ _ _ HX5.out.rs
      have z1 : w2.cell? ⟨w.heap.size + 1 + 1, 1, none⟩ = some (.int .i64 0) := cell_of_row _ _ 1 _ _ _ HX5.out.rs
      have z2 : w2.cell? ⟨w.heap.size + 1 + 1, 2, none⟩ = some (.int .i64 0) := cell_of_row _ _ 2 _ _ _ HX5.out.rs
      have f0 := frozen_of_row w2 _ 0 _ _ HX5.out.rs
      have f1 := frozen_of_row w2 _ 1 _ _ HX5.out.rs
      have f2 := frozen_of_row w2 _ 2 _ _ HX5.out.rs
      go_wp2_with (go_at_call 64; refine (HT.out _).mono ?_; rintro e w' ⟨rfl, rfl⟩)
      exact ret_ls2 rfl (w.heap.size + 1 + 1) wh (nw + lg) (q + 1) true rfl rfl (ls_stored HX5.out.rs _ _ _) rfl ⟨rfl, below_ls HX5.out.bel (by omega) _ _ _⟩
  · have HE : Hid (askB a u nw lg = false) := by
      have := HP.out
      show _ = _; rw [HA.out, show decide (0 < hv) = true by simp; omega]; simp
    rw [HE.out]
    have m1 : (hv != 0) = true := by simpa using h1
    go_enter Try.func56, Try.ntmps56
    go_wp2_with fail
    refine wp_region_on (by kernel_rfl) (by kernel_rfl) ?_
    repeat ((with_reducible refine wpQuiet_step (fun K hK => ?_)); go_simp; first | ((with_reducible refine hK _ ?_); clear hK K) | (refine ite_no (by decide) (hK _ ?_); clear hK K) | (apply Exists.intro; refine ⟨fun _ => ?_, hK _ ?_⟩; (first | (go_at_call 47; exact on_same (HL.out _)) | (go_at_call 21; exact on_of (HH.out _))); clear hK K))
    with_reducible refine wpQuiet_nil ?_
    rintro w2 ⟨⟨w2x, hb2⟩, hw2x⟩
    obtain rfl : w2 = w2x := hw2x
    have HX5 := Lib.hid (HX.out.on hb2)
    clear x0 x1 x2 s0 s1 s2 s3 y0 y1 y2 v0 v1 v2 v3
    have x0 : w2.cell? ⟨w.heap.size, 0, none⟩ = some (.int .i64 a) := cell_of_row _ _ 0 _ _ _ HX5.out.ls
    have x1 : w2.cell? ⟨w.heap.size, 1, none⟩ = some (.int .i64 u) := cell_of_row _ _ 1 _ _ _ HX5.out.ls
    have x2 : w2.cell? ⟨w.heap.size, 2, none⟩ = some (.int .i64 q) := cell_of_row _ _ 2 _ _ _ HX5.out.ls
    have s0 : w2.cell? ⟨w.heap.size + 1, 0, none⟩ = some (.int .i64 k) := cell_of_row _ _ 0 _ _ _ HX5.out.sp
    have s1 : w2.cell? ⟨w.heap.size + 1, 1, none⟩ = some (.int .i64 wh) := cell_of_row _ _ 1 _ _ _ HX5.out.sp
    have s2 : w2.cell? ⟨w.heap.size + 1, 2, none⟩ = some (.int .i64 nw) := cell_of_row _ _ 2 _ _ _ HX5.out.sp
    have s3 : w2.cell? ⟨w.heap.size + 1, 3, none⟩ = some (.int .i64 lg) := cell_of_row _ _ 3 _ _ _ HX5.out.sp
    have z0 : w2.cell? ⟨w.heap.size + 1 + 1, 0, none⟩ = some (.int .i64 0) := cell_of_row _ _ 0 _ _ _ HX5.out.rs
    have z1 : w2.cell? ⟨w.heap.size + 1 + 1, 1, none⟩ = some (.int .i64 0) := cell_of_row _ _ 1 _ _ _ HX5.out.rs
    have z2 : w2.cell? ⟨w.heap.size + 1 + 1, 2, none⟩ = some (.int .i64 0) := cell_of_row _ _ 2 _ _ _ HX5.out.rs
    have f0 := frozen_of_row w2 _ 0 _ _ HX5.out.rs
    have f1 := frozen_of_row w2 _ 1 _ _ HX5.out.rs
    have f2 := frozen_of_row w2 _ 2 _ _ HX5.out.rs
    go_wp2_with fail
    exact ret_ls2 rfl (w.heap.size + 1 + 1) 0 0 0 false rfl rfl (ls_stored HX5.out.rs _ _ _) rfl ⟨rfl, below_ls HX5.out.bel (by omega) _ _ _⟩
end Go.Proofs.Ythmnenejfonfgaa

/- BM -/
namespace Go.Proofs.Ythmnenejfonfgaa
open Go.RowKit

theorem sl_none {a u q k wh nw lg : Int} (h : goodZB a u q = false ∨ inB wh 1 9 = false ∨ ckB nw = false) : slL a u q k wh nw lg = (0, 0, 0) ∧ slOk a u q k wh nw lg = false := by
  have h2 : slOk a u q k wh nw lg = false := by
    rw [slOk, lzOk]
    rcases h with h | h | h <;> simp [h]
  exact ⟨by rw [slL, h2]; rfl, h2⟩
theorem sl_when {a u q k wh nw lg : Int} (hg : goodZB a u q = true) (hi : inB wh 1 9 = true) (hc : ckB nw = true) {m : Bool} {T : Int × Int × Int} (hm : lzMay a u k wh nw lg = m) (hT : m = true → lzT a u q k wh nw lg = T) :
    slOk a u q k wh nw lg = (m && goodZB T.1 T.2.1 T.2.2) ∧ slL a u q k wh nw lg = zS (m && goodZB T.1 T.2.1 T.2.2) T := by
  subst hm
  have h2 : slOk a u q k wh nw lg = (lzMay a u k wh nw lg && goodZB T.1 T.2.1 T.2.2) := by
    rw [slOk, lzOk, hg, hi, hc]
    cases hm : lzMay a u k wh nw lg
    · simp
    · rw [hT hm]; simp
  refine ⟨h2, ?_⟩
  rw [← h2, slL, zS]
  cases h : slOk a u q k wh nw lg
  · rfl
  · rw [if_pos rfl, if_pos rfl]
    have h3 : lzOk a u q k wh nw lg = true := by rw [slOk] at h; simp at h; exact h.2
    have h4 : lzMay a u k wh nw lg = true := by rw [h2] at h; simp at h; exact h.1
    rw [lzL, if_pos h3, hT h4]
set_option maxRecDepth 100000 in
set_option maxHeartbeats 4000000 in
theorem iStepL (a u q k wh nw lg : Int) (w : World) :
    Calls Try.prog 24 #[lsW a u q, lpV (k, wh, nw, lg)] w fun e w' => e = .returned (.tuple #[lsW (slL a u q k wh nw lg).1 (slL a u q k wh nw lg).2.1 (slL a u q k wh nw lg).2.2, .bool (slOk a u q k wh nw lg)]) ∧ Below w.heap.size w w' := by
  obtain ⟨W, hW⟩ : ∃ W, ((w.alloc (.cells #[.int .i64 a, .int .i64 u, .int .i64 q] 26)).alloc (.cells #[.int .i64 k, .int .i64 wh, .int .i64 nw, .int .i64 lg] 34)).alloc (.cells #[.int .i64 0, .int .i64 0, .int .i64 0] 26) = W := ⟨_, rfl⟩
  have HX : Hid (Bx12 w W a u q k wh nw lg) := bx_start hW
  have x0 : W.cell? ⟨w.heap.size, 0, none⟩ = some (.int .i64 a) := cell_of_row _ _ 0 _ _ _ HX.out.ls
  have x1 : W.cell? ⟨w.heap.size, 1, none⟩ = some (.int .i64 u) := cell_of_row _ _ 1 _ _ _ HX.out.ls
  have x2 : W.cell? ⟨w.heap.size, 2, none⟩ = some (.int .i64 q) := cell_of_row _ _ 2 _ _ _ HX.out.ls
  have s0 : W.cell? ⟨w.heap.size + 1, 0, none⟩ = some (.int .i64 k) := cell_of_row _ _ 0 _ _ _ HX.out.sp
  have s1 : W.cell? ⟨w.heap.size + 1, 1, none⟩ = some (.int .i64 wh) := cell_of_row _ _ 1 _ _ _ HX.out.sp
  have s2 : W.cell? ⟨w.heap.size + 1, 2, none⟩ = some (.int .i64 nw) := cell_of_row _ _ 2 _ _ _ HX.out.sp
  have s3 : W.cell? ⟨w.heap.size + 1, 3, none⟩ = some (.int .i64 lg) := cell_of_row _ _ 3 _ _ _ HX.out.sp
  have z0 : W.cell? ⟨w.heap.size + 1 + 1, 0, none⟩ = some (.int .i64 0) := cell_of_row _ _ 0 _ _ _ HX.out.rs
  have z1 : W.cell? ⟨w.heap.size + 1 + 1, 1, none⟩ = some (.int .i64 0) := cell_of_row _ _ 1 _ _ _ HX.out.rs
  have z2 : W.cell? ⟨w.heap.size + 1 + 1, 2, none⟩ = some (.int .i64 0) := cell_of_row _ _ 2 _ _ _ HX.out.rs
  have f0 := frozen_of_row W _ 0 _ _ HX.out.rs
  have f1 := frozen_of_row W _ 1 _ _ HX.out.rs
  have f2 := frozen_of_row W _ 2 _ _ HX.out.rs
  have HG := Lib.hid (iGoodL a u q W)
  have HH := Lib.hid (fun w => iHolder12 wh w)
  have HC := Lib.hid (fun w => iClock12 nw w)
  cases hg : goodZB a u q
  · have HE := Lib.hid (sl_none (k := k) (lg := lg) (u := u) (Or.inl hg) : slL a u q k wh nw lg = (0, 0, 0) ∧ slOk a u q k wh nw lg = false)
    rw [HE.out.1, HE.out.2]
    rw [hg] at HG
    clear hg
    go_enter Try.func24, Try.ntmps24
    go_wp2_with fail
    refine HG.out.mono ?_
    rintro e w5 ⟨rfl, hb5⟩
    have HX5 := Lib.hid (HX.out.on hb5)
    clear x0 x1 x2 s0 s1 s2 s3 z0 z1 z2 f0 f1 f2
    have x0 : w5.cell? ⟨w.heap.size, 0, none⟩ = some (.int .i64 a) := cell_of_row _ _ 0 _ _ _ HX5.out.ls
    have x1 : w5.cell? ⟨w.heap.size, 1, none⟩ = some (.int .i64 u) := cell_of_row _ _ 1 _ _ _ HX5.out.ls
    have x2 : w5.cell? ⟨w.heap.size, 2, none⟩ = some (.int .i64 q) := cell_of_row _ _ 2 _ _ _ HX5.out.ls
    have s0 : w5.cell? ⟨w.heap.size + 1, 0, none⟩ = some (.int .i64 k) := cell_of_row _ _ 0 _ _ _ HX5.out.sp
    have s1 : w5.cell? ⟨w.heap.size + 1, 1, none⟩ = some (.int .i64 wh) := cell_of_row _ _ 1 _ _ _ HX5.out.sp
    have s2 : w5.cell? ⟨w.heap.size + 1, 2, none⟩ = some (.int .i64 nw) := cell_of_row _ _ 2 _ _ _ HX5.out.sp
    have s3 : w5.cell? ⟨w.heap.size + 1, 3, none⟩ = some (.int .i64 lg) := cell_of_row _ _ 3 _ _ _ HX5.out.sp
    have z0 : w5.cell? ⟨w.heap.size + 1 + 1, 0, none⟩ = some (.int .i64 0) := cell_of_row _ _ 0 _ _ _ HX5.out.rs
    have z1 : w5.cell? ⟨w.heap.size + 1 + 1, 1, none⟩ = some (.int .i64 0) := cell_of_row _ _ 1 _ _ _ HX5.out.rs
    have z2 : w5.cell? ⟨w.heap.size + 1 + 1, 2, none⟩ = some (.int .i64 0) := cell_of_row _ _ 2 _ _ _ HX5.out.rs
    have f0 := frozen_of_row w5 _ 0 _ _ HX5.out.rs
    have f1 := frozen_of_row w5 _ 1 _ _ HX5.out.rs
    have f2 := frozen_of_row w5 _ 2 _ _ HX5.out.rs
    go_wp2_with fail
    exact ret_ls2 rfl (w.heap.size + 1 + 1) 0 0 0 false rfl rfl (ls_stored HX5.out.rs _ _ _) rfl ⟨rfl, below_ls HX5.out.bel (by omega) _ _ _⟩
  rw [hg] at HG
  cases hi : inB wh 1 9
  · have HE := Lib.hid (sl_none (a := a) (u := u) (q := q) (k := k) (nw := nw) (lg := lg) (Or.inr (Or.inl hi)))
    rw [HE.out.1, HE.out.2]
    rw [hi] at HH
    clear hg hi
    go_enter Try.func24, Try.ntmps24
    go_wp2_with fail
    refine HG.out.mono ?_
    rintro e w5 ⟨rfl, hb5⟩
    have HX5 := Lib.hid (HX.out.on hb5)
    clear x0 x1 x2 s0 s1 s2 s3 z0 z1 z2 f0 f1 f2
    have x0 : w5.cell? ⟨w.heap.size, 0, none⟩ = some (.int .i64 a) := cell_of_row _ _ 0 _ _ _ HX5.out.ls
    have x1 : w5.cell? ⟨w.heap.size, 1, none⟩ = some (.int .i64 u) := cell_of_row _ _ 1 _ _ _ HX5.out.ls
    have x2 : w5.cell? ⟨w.heap.size, 2, none⟩ = some (.int .i64 q) := cell_of_row _ _ 2 _ _ _ HX5.out.ls
    have s0 : w5.cell? ⟨w.heap.size + 1, 0, none⟩ = some (.int .i64 k) := cell_of_row _ _ 0 _ _ _ HX5.out.sp
    have s1 : w5.cell? ⟨w.heap.size + 1, 1, none⟩ = some (.int .i64 wh) := cell_of_row _ _ 1 _ _ _ HX5.out.sp
    have s2 : w5.cell? ⟨w.heap.size + 1, 2, none⟩ = some (.int .i64 nw) := cell_of_row _ _ 2 _ _ _ HX5.out.sp
    have s3 : w5.cell? ⟨w.heap.size + 1, 3, none⟩ = some (.int .i64 lg) := cell_of_row _ _ 3 _ _ _ HX5.out.sp
    have z0 : w5.cell? ⟨w.heap.size + 1 + 1, 0, none⟩ = some (.int .i64 0) := cell_of_row _ _ 0 _ _ _ HX5.out.rs
    have z1 : w5.cell? ⟨w.heap.size + 1 + 1, 1, none⟩ = some (.int .i64 0) := cell_of_row _ _ 1 _ _ _ HX5.out.rs
    have z2 : w5.cell? ⟨w.heap.size + 1 + 1, 2, none⟩ = some (.int .i64 0) := cell_of_row _ _ 2 _ _ _ HX5.out.rs
    have f0 := frozen_of_row w5 _ 0 _ _ HX5.out.rs
    have f1 := frozen_of_row w5 _ 1 _ _ HX5.out.rs
    have f2 := frozen_of_row w5 _ 2 _ _ HX5.out.rs
    go_wp2_with fail
    refine (HH.out _).mono ?_
    rintro e w' ⟨rfl, rfl⟩
    go_wp2_with fail
    exact ret_ls2 rfl (w.heap.size + 1 + 1) 0 0 0 false rfl rfl (ls_stored HX5.out.rs _ _ _) rfl ⟨rfl, below_ls HX5.out.bel (by omega) _ _ _⟩
  rw [hi] at HH
  cases hc : ckB nw
  · have HE := Lib.hid (sl_none (a := a) (u := u) (q := q) (k := k) (wh := wh) (lg := lg) (Or.inr (Or.inr hc)))
    rw [HE.out.1, HE.out.2]
    rw [hc] at HC
    clear hg hi hc
    go_enter Try.func24, Try.ntmps24
    go_wp2_with fail
    refine HG.out.mono ?_
    rintro e w5 ⟨rfl, hb5⟩
    have HX5 := Lib.hid (HX.out.on hb5)
    clear x0 x1 x2 s0 s1 s2 s3 z0 z1 z2 f0 f1 f2
    have x0 : w5.cell? ⟨w.heap.size, 0, none⟩ = some (.int .i64 a) := cell_of_row _ _ 0 _ _ _ HX5.out.ls
    have x1 : w5.cell? ⟨w.heap.size, 1, none⟩ = some (.int .i64 u) := cell_of_row _ _ 1 _ _ _ HX5.out.ls
    have x2 : w5.cell? ⟨w.heap.size, 2, none⟩ = some (.int .i64 q) := cell_of_row _ _ 2 _ _ _ HX5.out.ls
    have s0 : w5.cell? ⟨w.heap.size + 1, 0, none⟩ = some (.int .i64 k) := cell_of_row _ _ 0 _ _ _ HX5.out.sp
    have s1 : w5.cell? ⟨w.heap.size + 1, 1, none⟩ = some (.int .i64 wh) := cell_of_row _ _ 1 _ _ _ HX5.out.sp
    have s2 : w5.cell? ⟨w.heap.size + 1, 2, none⟩ = some (.int .i64 nw) := cell_of_row _ _ 2 _ _ _ HX5.out.sp
    have s3 : w5.cell? ⟨w.heap.size + 1, 3, none⟩ = some (.int .i64 lg) := cell_of_row _ _ 3 _ _ _ HX5.out.sp
    have z0 : w5.cell? ⟨w.heap.size + 1 + 1, 0, none⟩ = some (.int .i64 0) := cell_of_row _ _ 0 _ _ _ HX5.out.rs
    have z1 : w5.cell? ⟨w.heap.size + 1 + 1, 1, none⟩ = some (.int .i64 0) := cell_of_row _ _ 1 _ _ _ HX5.out.rs
    have z2 : w5.cell? ⟨w.heap.size + 1 + 1, 2, none⟩ = some (.int .i64 0) := cell_of_row _ _ 2 _ _ _ HX5.out.rs
    have f0 := frozen_of_row w5 _ 0 _ _ HX5.out.rs
    have f1 := frozen_of_row w5 _ 1 _ _ HX5.out.rs
    have f2 := frozen_of_row w5 _ 2 _ _ HX5.out.rs
    go_wp2_with fail
    refine (HH.out _).mono ?_
    rintro e w' ⟨rfl, rfl⟩
    go_wp2_with fail
    refine (HC.out _).mono ?_
    rintro e w' ⟨rfl, rfl⟩
    go_wp2_with fail
    exact ret_ls2 rfl (w.heap.size + 1 + 1) 0 0 0 false rfl rfl (ls_stored HX5.out.rs _ _ _) rfl ⟨rfl, below_ls HX5.out.bel (by omega) _ _ _⟩
  rw [hc] at HC
  by_cases k1 : k = 1
  case neg =>
    by_cases k2 : k = 2
    case neg =>
      by_cases k3 : k = 3
      case neg =>
        have HE := Lib.hid (sl_when (T := (0, 0, 0)) hg hi hc (oth_no (a := a) (u := u) (wh := wh) (nw := nw) (lg := lg) k1 k2 k3) (fun h => by cases h) : slOk a u q k wh nw lg = false ∧ slL a u q k wh nw lg = (0, 0, 0))
        rw [HE.out.1, HE.out.2]
        clear hg hi hc
        go_enter Try.func24, Try.ntmps24
        go_wp2_with fail
        refine HG.out.mono ?_
        rintro e w5 ⟨rfl, hb5⟩
        have HX5 := Lib.hid (HX.out.on hb5)
        clear x0 x1 x2 s0 s1 s2 s3 z0 z1 z2 f0 f1 f2
        have x0 : w5.cell? ⟨w.heap.size, 0, none⟩ = some (.int .i64 a) := cell_of_row _ _ 0 _ _ _ HX5.out.ls
        have x1 : w5.cell? ⟨w.heap.size, 1, none⟩ = some (.int .i64 u) := cell_of_row _ _ 1 _ _ _ HX5.out.ls
        have x2 : w5.cell? ⟨w.heap.size, 2, none⟩ = some (.int .i64 q) := cell_of_row _ _ 2 _ _ _ HX5.out.ls
        have s0 : w5.cell? ⟨w.heap.size + 1, 0, none⟩ = some (.int .i64 k) := cell_of_row _ _ 0 _ _ _ HX5.out.sp
        have s1 : w5.cell? ⟨w.heap.size + 1, 1, none⟩ = some (.int .i64 wh) := cell_of_row _ _ 1 _ _ _ HX5.out.sp
        have s2 : w5.cell? ⟨w.heap.size + 1, 2, none⟩ = some (.int .i64 nw) := cell_of_row _ _ 2 _ _ _ HX5.out.sp
        have s3 : w5.cell? ⟨w.heap.size + 1, 3, none⟩ = some (.int .i64 lg) := cell_of_row _ _ 3 _ _ _ HX5.out.sp
        have z0 : w5.cell? ⟨w.heap.size + 1 + 1, 0, none⟩ = some (.int .i64 0) := cell_of_row _ _ 0 _ _ _ HX5.out.rs
        have z1 : w5.cell? ⟨w.heap.size + 1 + 1, 1, none⟩ = some (.int .i64 0) := cell_of_row _ _ 1 _ _ _ HX5.out.rs
        have z2 : w5.cell? ⟨w.heap.size + 1 + 1, 2, none⟩ = some (.int .i64 0) := cell_of_row _ _ 2 _ _ _ HX5.out.rs
        have f0 := frozen_of_row w5 _ 0 _ _ HX5.out.rs
        have f1 := frozen_of_row w5 _ 1 _ _ HX5.out.rs
        have f2 := frozen_of_row w5 _ 2 _ _ HX5.out.rs
        go_wp2_with fail
        refine (HH.out _).mono ?_
        rintro e w' ⟨rfl, rfl⟩
        go_wp2_with fail
        refine (HC.out _).mono ?_
        rintro e w' ⟨rfl, rfl⟩
        obtain ⟨w6, hw6⟩ : ∃ w6, w5.alloc (.cells #[.int .i64 0, .int .i64 0, .int .i64 0] 26) = w6 := ⟨_, rfl⟩
        have HS6 : Hid (St12 w w6 w5.heap.size a u q k wh nw lg 0 0 0) := by
          have hl := heap_lt HX5.out.rs
          have X := HX5.out.on (gAlloc w5 (.cells #[.int .i64 0, .int .i64 0, .int .i64 0] 26))
          rw [hw6] at X
          exact ⟨X.ls, X.sp, X.rs, by rw [← hw6]; exact heap_alloc_new _ _, X.bel, hl⟩
        have HX6 := Lib.hid (Bx12.mk HS6.out.ls HS6.out.sp HS6.out.rs HS6.out.bel)
        clear x0 x1 x2 s0 s1 s2 s3 z0 z1 z2 f0 f1 f2
        have x0 : w6.cell? ⟨w.heap.size, 0, none⟩ = some (.int .i64 a) := cell_of_row _ _ 0 _ _ _ HX6.out.ls
        have x1 : w6.cell? ⟨w.heap.size, 1, none⟩ = some (.int .i64 u) := cell_of_row _ _ 1 _ _ _ HX6.out.ls
        have x2 : w6.cell? ⟨w.heap.size, 2, none⟩ = some (.int .i64 q) := cell_of_row _ _ 2 _ _ _ HX6.out.ls
        have s0 : w6.cell? ⟨w.heap.size + 1, 0, none⟩ = some (.int .i64 k) := cell_of_row _ _ 0 _ _ _ HX6.out.sp
        have s1 : w6.cell? ⟨w.heap.size + 1, 1, none⟩ = some (.int .i64 wh) := cell_of_row _ _ 1 _ _ _ HX6.out.sp
        have s2 : w6.cell? ⟨w.heap.size + 1, 2, none⟩ = some (.int .i64 nw) := cell_of_row _ _ 2 _ _ _ HX6.out.sp
        have s3 : w6.cell? ⟨w.heap.size + 1, 3, none⟩ = some (.int .i64 lg) := cell_of_row _ _ 3 _ _ _ HX6.out.sp
        have z0 : w6.cell? ⟨w.heap.size + 1 + 1, 0, none⟩ = some (.int .i64 0) := cell_of_row _ _ 0 _ _ _ HX6.out.rs
        have z1 : w6.cell? ⟨w.heap.size + 1 + 1, 1, none⟩ = some (.int .i64 0) := cell_of_row _ _ 1 _ _ _ HX6.out.rs
        have z2 : w6.cell? ⟨w.heap.size + 1 + 1, 2, none⟩ = some (.int .i64 0) := cell_of_row _ _ 2 _ _ _ HX6.out.rs
        have f0 := frozen_of_row w6 _ 0 _ _ HX6.out.rs
        have f1 := frozen_of_row w6 _ 1 _ _ HX6.out.rs
        have f2 := frozen_of_row w6 _ 2 _ _ HX6.out.rs
        go_wp2_with fail
        exact ret_ls2 rfl (w.heap.size + 1 + 1) 0 0 0 false rfl rfl (ls_stored HX6.out.rs _ _ _) rfl ⟨rfl, below_ls HX6.out.bel (by omega) _ _ _⟩
      case pos =>
        obtain rfl : k = 3 := k3
        obtain ⟨⟨ta, tu, tq⟩, hT⟩ : ∃ T : Int × Int × Int, ((0 : Int), (0 : Int), q) = T := ⟨_, rfl⟩
        have HM : Hid (slOk a u q 3 wh nw lg = (endB a wh lg && goodZB ta tu tq) ∧ slL a u q 3 wh nw lg = zS (endB a wh lg && goodZB ta tu tq) (ta, tu, tq)) := sl_when (T := (ta, tu, tq)) hg hi hc rfl (fun _ => (by exact lzG3 a u q wh nw lg : _ = ((0 : Int), (0 : Int), q)).trans hT)
        have HF := Lib.hid (fun w => iEnded a u q 3 wh nw lg w)
        have HG2 := Lib.hid (fun w => iGoodL ta tu tq w)
        rw [HM.out.1, HM.out.2]
        rw [hT] at HF
        clear hg hi hc HM hT
        generalize goodZB ta tu tq = gd at *
        generalize endB a wh lg = m at *
        cases m
        · have hz : zS false (ta, tu, tq) = (0, 0, 0) := rfl
          rw [hz] at HF
          rw [Bool.false_and, hz]
          clear hz HG2
          go_enter Try.func24, Try.ntmps24
          go_wp2_with fail
          refine HG.out.mono ?_
          rintro e w5 ⟨rfl, hb5⟩
          have HX5 := Lib.hid (HX.out.on hb5)
          clear x0 x1 x2 s0 s1 s2 s3 z0 z1 z2 f0 f1 f2
          have x0 : w5.cell? ⟨w.heap.size, 0, none⟩ = some (.int .i64 a) := cell_of_row _ _ 0 _ _ _ HX5.out.ls
          have x1 : w5.cell? ⟨w.heap.size, 1, none⟩ = some (.int .i64 u) := cell_of_row _ _ 1 _ _ _ HX5.out.ls
          have x2 : w5.cell? ⟨w.heap.size, 2, none⟩ = some (.int .i64 q) := cell_of_row _ _ 2 _ _ _ HX5.out.ls
          have s0 : w5.cell? ⟨w.heap.size + 1, 0, none⟩ = some (.int .i64 3) := cell_of_row _ _ 0 _ _ _ HX5.out.sp
          have s1 : w5.cell? ⟨w.heap.size + 1, 1, none⟩ = some (.int .i64 wh) := cell_of_row _ _ 1 _ _ _ HX5.out.sp
          have s2 : w5.cell? ⟨w.heap.size + 1, 2, none⟩ = some (.int .i64 nw) := cell_of_row _ _ 2 _ _ _ HX5.out.sp
          have s3 : w5.cell? ⟨w.heap.size + 1, 3, none⟩ = some (.int .i64 lg) := cell_of_row _ _ 3 _ _ _ HX5.out.sp
          have z0 : w5.cell? ⟨w.heap.size + 1 + 1, 0, none⟩ = some (.int .i64 0) := cell_of_row _ _ 0 _ _ _ HX5.out.rs
          have z1 : w5.cell? ⟨w.heap.size + 1 + 1, 1, none⟩ = some (.int .i64 0) := cell_of_row _ _ 1 _ _ _ HX5.out.rs
          have z2 : w5.cell? ⟨w.heap.size + 1 + 1, 2, none⟩ = some (.int .i64 0) := cell_of_row _ _ 2 _ _ _ HX5.out.rs
          have f0 := frozen_of_row w5 _ 0 _ _ HX5.out.rs
          have f1 := frozen_of_row w5 _ 1 _ _ HX5.out.rs
          have f2 := frozen_of_row w5 _ 2 _ _ HX5.out.rs
          go_wp2_with fail
          refine (HH.out _).mono ?_
          rintro e w' ⟨rfl, rfl⟩
          go_wp2_with fail
          refine (HC.out _).mono ?_
          rintro e w' ⟨rfl, rfl⟩
          obtain ⟨w6, hw6⟩ : ∃ w6, w5.alloc (.cells #[.int .i64 0, .int .i64 0, .int .i64 0] 26) = w6 := ⟨_, rfl⟩
          have HS6 : Hid (St12 w w6 w5.heap.size a u q 3 wh nw lg 0 0 0) := by
            have hl := heap_lt HX5.out.rs
            have X := HX5.out.on (gAlloc w5 (.cells #[.int .i64 0, .int .i64 0, .int .i64 0] 26))
            rw [hw6] at X
            exact ⟨X.ls, X.sp, X.rs, by rw [← hw6]; exact heap_alloc_new _ _, X.bel, hl⟩
          obtain ⟨D, hD⟩ : ∃ D, w5.heap.size = D := ⟨_, rfl⟩
          rw [hD] at HS6
          clear x0 x1 x2 s0 s1 s2 s3 z0 z1 z2 f0 f1 f2
          have x0 : w6.cell? ⟨w.heap.size, 0, none⟩ = some (.int .i64 a) := cell_of_row _ _ 0 _ _ _ HS6.out.ls
          have x1 : w6.cell? ⟨w.heap.size, 1, none⟩ = some (.int .i64 u) := cell_of_row _ _ 1 _ _ _ HS6.out.ls
          have x2 : w6.cell? ⟨w.heap.size, 2, none⟩ = some (.int .i64 q) := cell_of_row _ _ 2 _ _ _ HS6.out.ls
          have s0 : w6.cell? ⟨w.heap.size + 1, 0, none⟩ = some (.int .i64 3) := cell_of_row _ _ 0 _ _ _ HS6.out.sp
          have s1 : w6.cell? ⟨w.heap.size + 1, 1, none⟩ = some (.int .i64 wh) := cell_of_row _ _ 1 _ _ _ HS6.out.sp
          have s2 : w6.cell? ⟨w.heap.size + 1, 2, none⟩ = some (.int .i64 nw) := cell_of_row _ _ 2 _ _ _ HS6.out.sp
          have s3 : w6.cell? ⟨w.heap.size + 1, 3, none⟩ = some (.int .i64 lg) := cell_of_row _ _ 3 _ _ _ HS6.out.sp
          go_wp2_with fail
          refine (HF.out _).mono ?_
          rintro e w7 ⟨rfl, hb7⟩
          have HS7 := Lib.hid (HS6.out.on hb7)
          clear x0 x1 x2 s0 s1 s2 s3
          have d0 : w7.cell? ⟨D, 0, none⟩ = some (.int .i64 0) := cell_of_row _ _ 0 _ _ _ HS7.out.ou
          have d1 : w7.cell? ⟨D, 1, none⟩ = some (.int .i64 0) := cell_of_row _ _ 1 _ _ _ HS7.out.ou
          have d2 : w7.cell? ⟨D, 2, none⟩ = some (.int .i64 0) := cell_of_row _ _ 2 _ _ _ HS7.out.ou
          have df0 := frozen_of_row w7 _ 0 _ _ HS7.out.ou
          have df1 := frozen_of_row w7 _ 1 _ _ HS7.out.ou
          have df2 := frozen_of_row w7 _ 2 _ _ HS7.out.ou
          obtain ⟨w8, hw8⟩ : ∃ w8, (((w7.setCell ⟨D, 0, none⟩ (.int .i64 0)).setCell ⟨D, 1, none⟩ (.int .i64 0)).setCell ⟨D, 2, none⟩ (.int .i64 0)) = w8 := ⟨_, rfl⟩
          have HS8 : Hid (St12 w w8 D a u q 3 wh nw lg 0 0 0) := by
            rw [← hw8]
            exact HS7.out.turn (gLs _ _ _ _ _) (ls_stored HS7.out.ou _ _ _) (below_ls HS7.out.bel (by have := HS7.out.lt; omega) _ _ _)
          have z0 : w8.cell? ⟨w.heap.size + 1 + 1, 0, none⟩ = some (.int .i64 0) := cell_of_row _ _ 0 _ _ _ HS8.out.rs
          have z1 : w8.cell? ⟨w.heap.size + 1 + 1, 1, none⟩ = some (.int .i64 0) := cell_of_row _ _ 1 _ _ _ HS8.out.rs
          have z2 : w8.cell? ⟨w.heap.size + 1 + 1, 2, none⟩ = some (.int .i64 0) := cell_of_row _ _ 2 _ _ _ HS8.out.rs
          have f0 := frozen_of_row w8 _ 0 _ _ HS8.out.rs
          have f1 := frozen_of_row w8 _ 1 _ _ HS8.out.rs
          have f2 := frozen_of_row w8 _ 2 _ _ HS8.out.rs
          go_wp2_with fail
          exact ret_ls2 rfl (w.heap.size + 1 + 1) 0 0 0 false rfl rfl (ls_stored HS8.out.rs _ _ _) rfl ⟨rfl, below_ls HS8.out.bel (by omega) _ _ _⟩
        · have hz : zS true (ta, tu, tq) = (ta, tu, tq) := rfl
          rw [hz] at HF
          rw [Bool.true_and]
          clear hz
          cases gd
          · have hz : zS false (ta, tu, tq) = (0, 0, 0) := rfl
            rw [hz]
            clear hz
            go_enter Try.func24, Try.ntmps24
            go_wp2_with fail
            refine HG.out.mono ?_
            rintro e w5 ⟨rfl, hb5⟩
            have HX5 := Lib.hid (HX.out.on hb5)
            clear x0 x1 x2 s0 s1 s2 s3 z0 z1 z2 f0 f1 f2
            have x0 : w5.cell? ⟨w.heap.size, 0, none⟩ = some (.int .i64 a) := cell_of_row _ _ 0 _ _ _ HX5.out.ls
            have x1 : w5.cell? ⟨w.heap.size, 1, none⟩ = some (.int .i64 u) := cell_of_row _ _ 1 _ _ _ HX5.out.ls
            have x2 : w5.cell? ⟨w.heap.size, 2, none⟩ = some (.int .i64 q) := cell_of_row _ _ 2 _ _ _ HX5.out.ls
            have s0 : w5.cell? ⟨w.heap.size + 1, 0, none⟩ = some (.int .i64 3) := cell_of_row _ _ 0 _ _ _ HX5.out.sp
            have s1 : w5.cell? ⟨w.heap.size + 1, 1, none⟩ = some (.int .i64 wh) := cell_of_row _ _ 1 _ _ _ HX5.out.sp
            have s2 : w5.cell? ⟨w.heap.size + 1, 2, none⟩ = some (.int .i64 nw) := cell_of_row _ _ 2 _ _ _ HX5.out.sp
            have s3 : w5.cell? ⟨w.heap.size + 1, 3, none⟩ = some (.int .i64 lg) := cell_of_row _ _ 3 _ _ _ HX5.out.sp
            have z0 : w5.cell? ⟨w.heap.size + 1 + 1, 0, none⟩ = some (.int .i64 0) := cell_of_row _ _ 0 _ _ _ HX5.out.rs
            have z1 : w5.cell? ⟨w.heap.size + 1 + 1, 1, none⟩ = some (.int .i64 0) := cell_of_row _ _ 1 _ _ _ HX5.out.rs
            have z2 : w5.cell? ⟨w.heap.size + 1 + 1, 2, none⟩ = some (.int .i64 0) := cell_of_row _ _ 2 _ _ _ HX5.out.rs
            have f0 := frozen_of_row w5 _ 0 _ _ HX5.out.rs
            have f1 := frozen_of_row w5 _ 1 _ _ HX5.out.rs
            have f2 := frozen_of_row w5 _ 2 _ _ HX5.out.rs
            go_wp2_with fail
            refine (HH.out _).mono ?_
            rintro e w' ⟨rfl, rfl⟩
            go_wp2_with fail
            refine (HC.out _).mono ?_
            rintro e w' ⟨rfl, rfl⟩
            obtain ⟨w6, hw6⟩ : ∃ w6, w5.alloc (.cells #[.int .i64 0, .int .i64 0, .int .i64 0] 26) = w6 := ⟨_, rfl⟩
            have HS6 : Hid (St12 w w6 w5.heap.size a u q 3 wh nw lg 0 0 0) := by
              have hl := heap_lt HX5.out.rs
              have X := HX5.out.on (gAlloc w5 (.cells #[.int .i64 0, .int .i64 0, .int .i64 0] 26))
              rw [hw6] at X
              exact ⟨X.ls, X.sp, X.rs, by rw [← hw6]; exact heap_alloc_new _ _, X.bel, hl⟩
            obtain ⟨D, hD⟩ : ∃ D, w5.heap.size = D := ⟨_, rfl⟩
            rw [hD] at HS6
            clear x0 x1 x2 s0 s1 s2 s3 z0 z1 z2 f0 f1 f2
            have x0 : w6.cell? ⟨w.heap.size, 0, none⟩ = some (.int .i64 a) := cell_of_row _ _ 0 _ _ _ HS6.out.ls
            have x1 : w6.cell? ⟨w.heap.size, 1, none⟩ = some (.int .i64 u) := cell_of_row _ _ 1 _ _ _ HS6.out.ls
            have x2 : w6.cell? ⟨w.heap.size, 2, none⟩ = some (.int .i64 q) := cell_of_row _ _ 2 _ _ _ HS6.out.ls
            have s0 : w6.cell? ⟨w.heap.size + 1, 0, none⟩ = some (.int .i64 3) := cell_of_row _ _ 0 _ _ _ HS6.out.sp
            have s1 : w6.cell? ⟨w.heap.size + 1, 1, none⟩ = some (.int .i64 wh) := cell_of_row _ _ 1 _ _ _ HS6.out.sp
            have s2 : w6.cell? ⟨w.heap.size + 1, 2, none⟩ = some (.int .i64 nw) := cell_of_row _ _ 2 _ _ _ HS6.out.sp
            have s3 : w6.cell? ⟨w.heap.size + 1, 3, none⟩ = some (.int .i64 lg) := cell_of_row _ _ 3 _ _ _ HS6.out.sp
            go_wp2_with fail
            refine (HF.out _).mono ?_
            rintro e w7 ⟨rfl, hb7⟩
            have HS7 := Lib.hid (HS6.out.on hb7)
            clear x0 x1 x2 s0 s1 s2 s3
            have d0 : w7.cell? ⟨D, 0, none⟩ = some (.int .i64 0) := cell_of_row _ _ 0 _ _ _ HS7.out.ou
            have d1 : w7.cell? ⟨D, 1, none⟩ = some (.int .i64 0) := cell_of_row _ _ 1 _ _ _ HS7.out.ou
            have d2 : w7.cell? ⟨D, 2, none⟩ = some (.int .i64 0) := cell_of_row _ _ 2 _ _ _ HS7.out.ou
            have df0 := frozen_of_row w7 _ 0 _ _ HS7.out.ou
            have df1 := frozen_of_row w7 _ 1 _ _ HS7.out.ou
            have df2 := frozen_of_row w7 _ 2 _ _ HS7.out.ou
            obtain ⟨w8, hw8⟩ : ∃ w8, (((w7.setCell ⟨D, 0, none⟩ (.int .i64 ta)).setCell ⟨D, 1, none⟩ (.int .i64 tu)).setCell ⟨D, 2, none⟩ (.int .i64 tq)) = w8 := ⟨_, rfl⟩
            have HS8 : Hid (St12 w w8 D a u q 3 wh nw lg ta tu tq) := by
              rw [← hw8]
              exact HS7.out.turn (gLs _ _ _ _ _) (ls_stored HS7.out.ou _ _ _) (below_ls HS7.out.bel (by have := HS7.out.lt; omega) _ _ _)
            have g0 : w8.cell? ⟨D, 0, none⟩ = some (.int .i64 ta) := cell_of_row _ _ 0 _ _ _ HS8.out.ou
            have g1 : w8.cell? ⟨D, 1, none⟩ = some (.int .i64 tu) := cell_of_row _ _ 1 _ _ _ HS8.out.ou
            have g2 : w8.cell? ⟨D, 2, none⟩ = some (.int .i64 tq) := cell_of_row _ _ 2 _ _ _ HS8.out.ou
            go_wp2_with fail
            refine (HG2.out _).mono ?_
            rintro e w9 ⟨rfl, hb9⟩
            have HS9 := Lib.hid (HS8.out.on hb9)
            have z0 : w9.cell? ⟨w.heap.size + 1 + 1, 0, none⟩ = some (.int .i64 0) := cell_of_row _ _ 0 _ _ _ HS9.out.rs
            have z1 : w9.cell? ⟨w.heap.size + 1 + 1, 1, none⟩ = some (.int .i64 0) := cell_of_row _ _ 1 _ _ _ HS9.out.rs
            have z2 : w9.cell? ⟨w.heap.size + 1 + 1, 2, none⟩ = some (.int .i64 0) := cell_of_row _ _ 2 _ _ _ HS9.out.rs
            have f0 := frozen_of_row w9 _ 0 _ _ HS9.out.rs
            have f1 := frozen_of_row w9 _ 1 _ _ HS9.out.rs
            have f2 := frozen_of_row w9 _ 2 _ _ HS9.out.rs
            go_wp2_with fail
            exact ret_ls2 rfl (w.heap.size + 1 + 1) 0 0 0 false rfl rfl (ls_stored HS9.out.rs _ _ _) rfl ⟨rfl, below_ls HS9.out.bel (by omega) _ _ _⟩
          · have hz : zS true (ta, tu, tq) = (ta, tu, tq) := rfl
            rw [hz]
            clear hz
            go_enter Try.func24, Try.ntmps24
            go_wp2_with fail
            refine HG.out.mono ?_
            rintro e w5 ⟨rfl, hb5⟩
            have HX5 := Lib.hid (HX.out.on hb5)
            clear x0 x1 x2 s0 s1 s2 s3 z0 z1 z2 f0 f1 f2
            have x0 : w5.cell? ⟨w.heap.size, 0, none⟩ = some (.int .i64 a) := cell_of_row _ _ 0 _ _ _ HX5.out.ls
            have x1 : w5.cell? ⟨w.heap.size, 1, none⟩ = some (.int .i64 u) := cell_of_row _ _ 1 _ _ _ HX5.out.ls
            have x2 : w5.cell? ⟨w.heap.size, 2, none⟩ = some (.int .i64 q) := cell_of_row _ _ 2 _ _ _ HX5.out.ls
            have s0 : w5.cell? ⟨w.heap.size + 1, 0, none⟩ = some (.int .i64 3) := cell_of_row _ _ 0 _ _ _ HX5.out.sp
            have s1 : w5.cell? ⟨w.heap.size + 1, 1, none⟩ = some (.int .i64 wh) := cell_of_row _ _ 1 _ _ _ HX5.out.sp
            have s2 : w5.cell? ⟨w.heap.size + 1, 2, none⟩ = some (.int .i64 nw) := cell_of_row _ _ 2 _ _ _ HX5.out.sp
            have s3 : w5.cell? ⟨w.heap.size + 1, 3, none⟩ = some (.int .i64 lg) := cell_of_row _ _ 3 _ _ _ HX5.out.sp
            have z0 : w5.cell? ⟨w.heap.size + 1 + 1, 0, none⟩ = some (.int .i64 0) := cell_of_row _ _ 0 _ _ _ HX5.out.rs
            have z1 : w5.cell? ⟨w.heap.size + 1 + 1, 1, none⟩ = some (.int .i64 0) := cell_of_row _ _ 1 _ _ _ HX5.out.rs
            have z2 : w5.cell? ⟨w.heap.size + 1 + 1, 2, none⟩ = some (.int .i64 0) := cell_of_row _ _ 2 _ _ _ HX5.out.rs
            have f0 := frozen_of_row w5 _ 0 _ _ HX5.out.rs
            have f1 := frozen_of_row w5 _ 1 _ _ HX5.out.rs
            have f2 := frozen_of_row w5 _ 2 _ _ HX5.out.rs
            go_wp2_with fail
            refine (HH.out _).mono ?_
            rintro e w' ⟨rfl, rfl⟩
            go_wp2_with fail
            refine (HC.out _).mono ?_
            rintro e w' ⟨rfl, rfl⟩
            obtain ⟨w6, hw6⟩ : ∃ w6, w5.alloc (.cells #[.int .i64 0, .int .i64 0, .int .i64 0] 26) = w6 := ⟨_, rfl⟩
            have HS6 : Hid (St12 w w6 w5.heap.size a u q 3 wh nw lg 0 0 0) := by
              have hl := heap_lt HX5.out.rs
              have X := HX5.out.on (gAlloc w5 (.cells #[.int .i64 0, .int .i64 0, .int .i64 0] 26))
              rw [hw6] at X
              exact ⟨X.ls, X.sp, X.rs, by rw [← hw6]; exact heap_alloc_new _ _, X.bel, hl⟩
            obtain ⟨D, hD⟩ : ∃ D, w5.heap.size = D := ⟨_, rfl⟩
            rw [hD] at HS6
            clear x0 x1 x2 s0 s1 s2 s3 z0 z1 z2 f0 f1 f2
            have x0 : w6.cell? ⟨w.heap.size, 0, none⟩ = some (.int .i64 a) := cell_of_row _ _ 0 _ _ _ HS6.out.ls
            have x1 : w6.cell? ⟨w.heap.size, 1, none⟩ = some (.int .i64 u) := cell_of_row _ _ 1 _ _ _ HS6.out.ls
            have x2 : w6.cell? ⟨w.heap.size, 2, none⟩ = some (.int .i64 q) := cell_of_row _ _ 2 _ _ _ HS6.out.ls
            have s0 : w6.cell? ⟨w.heap.size + 1, 0, none⟩ = some (.int .i64 3) := cell_of_row _ _ 0 _ _ _ HS6.out.sp
            have s1 : w6.cell? ⟨w.heap.size + 1, 1, none⟩ = some (.int .i64 wh) := cell_of_row _ _ 1 _ _ _ HS6.out.sp
            have s2 : w6.cell? ⟨w.heap.size + 1, 2, none⟩ = some (.int .i64 nw) := cell_of_row _ _ 2 _ _ _ HS6.out.sp
            have s3 : w6.cell? ⟨w.heap.size + 1, 3, none⟩ = some (.int .i64 lg) := cell_of_row _ _ 3 _ _ _ HS6.out.sp
            go_wp2_with fail
            refine (HF.out _).mono ?_
            rintro e w7 ⟨rfl, hb7⟩
            have HS7 := Lib.hid (HS6.out.on hb7)
            clear x0 x1 x2 s0 s1 s2 s3
            have d0 : w7.cell? ⟨D, 0, none⟩ = some (.int .i64 0) := cell_of_row _ _ 0 _ _ _ HS7.out.ou
            have d1 : w7.cell? ⟨D, 1, none⟩ = some (.int .i64 0) := cell_of_row _ _ 1 _ _ _ HS7.out.ou
            have d2 : w7.cell? ⟨D, 2, none⟩ = some (.int .i64 0) := cell_of_row _ _ 2 _ _ _ HS7.out.ou
            have df0 := frozen_of_row w7 _ 0 _ _ HS7.out.ou
            have df1 := frozen_of_row w7 _ 1 _ _ HS7.out.ou
            have df2 := frozen_of_row w7 _ 2 _ _ HS7.out.ou
            obtain ⟨w8, hw8⟩ : ∃ w8, (((w7.setCell ⟨D, 0, none⟩ (.int .i64 ta)).setCell ⟨D, 1, none⟩ (.int .i64 tu)).setCell ⟨D, 2, none⟩ (.int .i64 tq)) = w8 := ⟨_, rfl⟩
            have HS8 : Hid (St12 w w8 D a u q 3 wh nw lg ta tu tq) := by
              rw [← hw8]
              exact HS7.out.turn (gLs _ _ _ _ _) (ls_stored HS7.out.ou _ _ _) (below_ls HS7.out.bel (by have := HS7.out.lt; omega) _ _ _)
            have g0 : w8.cell? ⟨D, 0, none⟩ = some (.int .i64 ta) := cell_of_row _ _ 0 _ _ _ HS8.out.ou
            have g1 : w8.cell? ⟨D, 1, none⟩ = some (.int .i64 tu) := cell_of_row _ _ 1 _ _ _ HS8.out.ou
            have g2 : w8.cell? ⟨D, 2, none⟩ = some (.int .i64 tq) := cell_of_row _ _ 2 _ _ _ HS8.out.ou
            go_wp2_with fail
            refine (HG2.out _).mono ?_
            rintro e w9 ⟨rfl, hb9⟩
            have HS9 := Lib.hid (HS8.out.on hb9)
            clear g0 g1 g2
            have z0 : w9.cell? ⟨w.heap.size + 1 + 1, 0, none⟩ = some (.int .i64 0) := cell_of_row _ _ 0 _ _ _ HS9.out.rs
            have z1 : w9.cell? ⟨w.heap.size + 1 + 1, 1, none⟩ = some (.int .i64 0) := cell_of_row _ _ 1 _ _ _ HS9.out.rs
            have z2 : w9.cell? ⟨w.heap.size + 1 + 1, 2, none⟩ = some (.int .i64 0) := cell_of_row _ _ 2 _ _ _ HS9.out.rs
            have f0 := frozen_of_row w9 _ 0 _ _ HS9.out.rs
            have f1 := frozen_of_row w9 _ 1 _ _ HS9.out.rs
            have f2 := frozen_of_row w9 _ 2 _ _ HS9.out.rs
            have g0 : w9.cell? ⟨D, 0, none⟩ = some (.int .i64 ta) := cell_of_row _ _ 0 _ _ _ HS9.out.ou
            have g1 : w9.cell? ⟨D, 1, none⟩ = some (.int .i64 tu) := cell_of_row _ _ 1 _ _ _ HS9.out.ou
            have g2 : w9.cell? ⟨D, 2, none⟩ = some (.int .i64 tq) := cell_of_row _ _ 2 _ _ _ HS9.out.ou
            go_wp2_with fail
            exact ret_ls2 rfl (w.heap.size + 1 + 1) ta tu tq true rfl rfl (ls_stored HS9.out.rs _ _ _) rfl ⟨rfl, below_ls HS9.out.bel (by omega) _ _ _⟩
    case pos =>
      obtain rfl : k = 2 := k2
      obtain ⟨⟨ta, tu, tq⟩, hT⟩ : ∃ T : Int × Int × Int, (a, (max u (nw + lg)), q) = T := ⟨_, rfl⟩
      have HM : Hid (slOk a u q 2 wh nw lg = (renB a u wh nw lg && goodZB ta tu tq) ∧ slL a u q 2 wh nw lg = zS (renB a u wh nw lg && goodZB ta tu tq) (ta, tu, tq)) := sl_when (T := (ta, tu, tq)) hg hi hc rfl (fun _ => (by exact lzG2 a u q wh nw lg : _ = (a, (max u (nw + lg)), q)).trans hT)
      have HF := Lib.hid (fun w => iRenewed a u q 2 wh nw lg w hg hc)
      have HG2 := Lib.hid (fun w => iGoodL ta tu tq w)
      rw [HM.out.1, HM.out.2]
      rw [hT] at HF
      clear hg hi hc HM hT
      generalize goodZB ta tu tq = gd at *
      generalize renB a u wh nw lg = m at *
      cases m
      · have hz : zS false (ta, tu, tq) = (0, 0, 0) := rfl
        rw [hz] at HF
        rw [Bool.false_and, hz]
        clear hz HG2
        go_enter Try.func24, Try.ntmps24
        go_wp2_with fail
        refine HG.out.mono ?_
        rintro e w5 ⟨rfl, hb5⟩
        have HX5 := Lib.hid (HX.out.on hb5)
        clear x0 x1 x2 s0 s1 s2 s3 z0 z1 z2 f0 f1 f2
        have x0 : w5.cell? ⟨w.heap.size, 0, none⟩ = some (.int .i64 a) := cell_of_row _ _ 0 _ _ _ HX5.out.ls
        have x1 : w5.cell? ⟨w.heap.size, 1, none⟩ = some (.int .i64 u) := cell_of_row _ _ 1 _ _ _ HX5.out.ls
        have x2 : w5.cell? ⟨w.heap.size, 2, none⟩ = some (.int .i64 q) := cell_of_row _ _ 2 _ _ _ HX5.out.ls
        have s0 : w5.cell? ⟨w.heap.size + 1, 0, none⟩ = some (.int .i64 2) := cell_of_row _ _ 0 _ _ _ HX5.out.sp
        have s1 : w5.cell? ⟨w.heap.size + 1, 1, none⟩ = some (.int .i64 wh) := cell_of_row _ _ 1 _ _ _ HX5.out.sp
        have s2 : w5.cell? ⟨w.heap.size + 1, 2, none⟩ = some (.int .i64 nw) := cell_of_row _ _ 2 _ _ _ HX5.out.sp
        have s3 : w5.cell? ⟨w.heap.size + 1, 3, none⟩ = some (.int .i64 lg) := cell_of_row _ _ 3 _ _ _ HX5.out.sp
        have z0 : w5.cell? ⟨w.heap.size + 1 + 1, 0, none⟩ = some (.int .i64 0) := cell_of_row _ _ 0 _ _ _ HX5.out.rs
        have z1 : w5.cell? ⟨w.heap.size + 1 + 1, 1, none⟩ = some (.int .i64 0) := cell_of_row _ _ 1 _ _ _ HX5.out.rs
        have z2 : w5.cell? ⟨w.heap.size + 1 + 1, 2, none⟩ = some (.int .i64 0) := cell_of_row _ _ 2 _ _ _ HX5.out.rs
        have f0 := frozen_of_row w5 _ 0 _ _ HX5.out.rs
        have f1 := frozen_of_row w5 _ 1 _ _ HX5.out.rs
        have f2 := frozen_of_row w5 _ 2 _ _ HX5.out.rs
        go_wp2_with fail
        refine (HH.out _).mono ?_
        rintro e w' ⟨rfl, rfl⟩
        go_wp2_with fail
        refine (HC.out _).mono ?_
        rintro e w' ⟨rfl, rfl⟩
        obtain ⟨w6, hw6⟩ : ∃ w6, w5.alloc (.cells #[.int .i64 0, .int .i64 0, .int .i64 0] 26) = w6 := ⟨_, rfl⟩
        have HS6 : Hid (St12 w w6 w5.heap.size a u q 2 wh nw lg 0 0 0) := by
          have hl := heap_lt HX5.out.rs
          have X := HX5.out.on (gAlloc w5 (.cells #[.int .i64 0, .int .i64 0, .int .i64 0] 26))
          rw [hw6] at X
          exact ⟨X.ls, X.sp, X.rs, by rw [← hw6]; exact heap_alloc_new _ _, X.bel, hl⟩
        obtain ⟨D, hD⟩ : ∃ D, w5.heap.size = D := ⟨_, rfl⟩
        rw [hD] at HS6
        clear x0 x1 x2 s0 s1 s2 s3 z0 z1 z2 f0 f1 f2
        have x0 : w6.cell? ⟨w.heap.size, 0, none⟩ = some (.int .i64 a) := cell_of_row _ _ 0 _ _ _ HS6.out.ls
        have x1 : w6.cell? ⟨w.heap.size, 1, none⟩ = some (.int .i64 u) := cell_of_row _ _ 1 _ _ _ HS6.out.ls
        have x2 : w6.cell? ⟨w.heap.size, 2, none⟩ = some (.int .i64 q) := cell_of_row _ _ 2 _ _ _ HS6.out.ls
        have s0 : w6.cell? ⟨w.heap.size + 1, 0, none⟩ = some (.int .i64 2) := cell_of_row _ _ 0 _ _ _ HS6.out.sp
        have s1 : w6.cell? ⟨w.heap.size + 1, 1, none⟩ = some (.int .i64 wh) := cell_of_row _ _ 1 _ _ _ HS6.out.sp
        have s2 : w6.cell? ⟨w.heap.size + 1, 2, none⟩ = some (.int .i64 nw) := cell_of_row _ _ 2 _ _ _ HS6.out.sp
        have s3 : w6.cell? ⟨w.heap.size + 1, 3, none⟩ = some (.int .i64 lg) := cell_of_row _ _ 3 _ _ _ HS6.out.sp
        go_wp2_with fail
        refine (HF.out _).mono ?_
        rintro e w7 ⟨rfl, hb7⟩
        have HS7 := Lib.hid (HS6.out.on hb7)
        clear x0 x1 x2 s0 s1 s2 s3
        have d0 : w7.cell? ⟨D, 0, none⟩ = some (.int .i64 0) := cell_of_row _ _ 0 _ _ _ HS7.out.ou
        have d1 : w7.cell? ⟨D, 1, none⟩ = some (.int .i64 0) := cell_of_row _ _ 1 _ _ _ HS7.out.ou
        have d2 : w7.cell? ⟨D, 2, none⟩ = some (.int .i64 0) := cell_of_row _ _ 2 _ _ _ HS7.out.ou
        have df0 := frozen_of_row w7 _ 0 _ _ HS7.out.ou
        have df1 := frozen_of_row w7 _ 1 _ _ HS7.out.ou
        have df2 := frozen_of_row w7 _ 2 _ _ HS7.out.ou
        obtain ⟨w8, hw8⟩ : ∃ w8, (((w7.setCell ⟨D, 0, none⟩ (.int .i64 0)).setCell ⟨D, 1, none⟩ (.int .i64 0)).setCell ⟨D, 2, none⟩ (.int .i64 0)) = w8 := ⟨_, rfl⟩
        have HS8 : Hid (St12 w w8 D a u q 2 wh nw lg 0 0 0) := by
          rw [← hw8]
          exact HS7.out.turn (gLs _ _ _ _ _) (ls_stored HS7.out.ou _ _ _) (below_ls HS7.out.bel (by have := HS7.out.lt; omega) _ _ _)
        have z0 : w8.cell? ⟨w.heap.size + 1 + 1, 0, none⟩ = some (.int .i64 0) := cell_of_row _ _ 0 _ _ _ HS8.out.rs
        have z1 : w8.cell? ⟨w.heap.size + 1 + 1, 1, none⟩ = some (.int .i64 0) := cell_of_row _ _ 1 _ _ _ HS8.out.rs
        have z2 : w8.cell? ⟨w.heap.size + 1 + 1, 2, none⟩ = some (.int .i64 0) := cell_of_row _ _ 2 _ _ _ HS8.out.rs
        have f0 := frozen_of_row w8 _ 0 _ _ HS8.out.rs
        have f1 := frozen_of_row w8 _ 1 _ _ HS8.out.rs
        have f2 := frozen_of_row w8 _ 2 _ _ HS8.out.rs
        go_wp2_with fail
        exact ret_ls2 rfl (w.heap.size + 1 + 1) 0 0 0 false rfl rfl (ls_stored HS8.out.rs _ _ _) rfl ⟨rfl, below_ls HS8.out.bel (by omega) _ _ _⟩
      · have hz : zS true (ta, tu, tq) = (ta, tu, tq) := rfl
        rw [hz] at HF
        rw [Bool.true_and]
        clear hz
        cases gd
        · have hz : zS false (ta, tu, tq) = (0, 0, 0) := rfl
          rw [hz]
          clear hz
          go_enter Try.func24, Try.ntmps24
          go_wp2_with fail
          refine HG.out.mono ?_
          rintro e w5 ⟨rfl, hb5⟩
          have HX5 := Lib.hid (HX.out.on hb5)
          clear x0 x1 x2 s0 s1 s2 s3 z0 z1 z2 f0 f1 f2
          have x0 : w5.cell? ⟨w.heap.size, 0, none⟩ = some (.int .i64 a) := cell_of_row _ _ 0 _ _ _ HX5.out.ls
          have x1 : w5.cell? ⟨w.heap.size, 1, none⟩ = some (.int .i64 u) := cell_of_row _ _ 1 _ _ _ HX5.out.ls
          have x2 : w5.cell? ⟨w.heap.size, 2, none⟩ = some (.int .i64 q) := cell_of_row _ _ 2 _ _ _ HX5.out.ls
          have s0 : w5.cell? ⟨w.heap.size + 1, 0, none⟩ = some (.int .i64 2) := cell_of_row _ _ 0 _ _ _ HX5.out.sp
          have s1 : w5.cell? ⟨w.heap.size + 1, 1, none⟩ = some (.int .i64 wh) := cell_of_row _ _ 1 _ _ _ HX5.out.sp
          have s2 : w5.cell? ⟨w.heap.size + 1, 2, none⟩ = some (.int .i64 nw) := cell_of_row _ _ 2 _ _ _ HX5.out.sp
          have s3 : w5.cell? ⟨w.heap.size + 1, 3, none⟩ = some (.int .i64 lg) := cell_of_row _ _ 3 _ _ _ HX5.out.sp
          have z0 : w5.cell? ⟨w.heap.size + 1 + 1, 0, none⟩ = some (.int .i64 0) := cell_of_row _ _ 0 _ _ _ HX5.out.rs
          have z1 : w5.cell? ⟨w.heap.size + 1 + 1, 1, none⟩ = some (.int .i64 0) := cell_of_row _ _ 1 _ _ _ HX5.out.rs
          have z2 : w5.cell? ⟨w.heap.size + 1 + 1, 2, none⟩ = some (.int .i64 0) := cell_of_row _ _ 2 _ _ _ HX5.out.rs
          have f0 := frozen_of_row w5 _ 0 _ _ HX5.out.rs
          have f1 := frozen_of_row w5 _ 1 _ _ HX5.out.rs
          have f2 := frozen_of_row w5 _ 2 _ _ HX5.out.rs
          go_wp2_with fail
          refine (HH.out _).mono ?_
          rintro e w' ⟨rfl, rfl⟩
          go_wp2_with fail
          refine (HC.out _).mono ?_
          rintro e w' ⟨rfl, rfl⟩
          obtain ⟨w6, hw6⟩ : ∃ w6, w5.alloc (.cells #[.int .i64 0, .int .i64 0, .int .i64 0] 26) = w6 := ⟨_, rfl⟩
          have HS6 : Hid (St12 w w6 w5.heap.size a u q 2 wh nw lg 0 0 0) := by
            have hl := heap_lt HX5.out.rs
            have X := HX5.out.on (gAlloc w5 (.cells #[.int .i64 0, .int .i64 0, .int .i64 0] 26))
            rw [hw6] at X
            exact ⟨X.ls, X.sp, X.rs, by rw [← hw6]; exact heap_alloc_new _ _, X.bel, hl⟩
          obtain ⟨D, hD⟩ : ∃ D, w5.heap.size = D := ⟨_, rfl⟩
          rw [hD] at HS6
          clear x0 x1 x2 s0 s1 s2 s3 z0 z1 z2 f0 f1 f2
          have x0 : w6.cell? ⟨w.heap.size, 0, none⟩ = some (.int .i64 a) := cell_of_row _ _ 0 _ _ _ HS6.out.ls
          have x1 : w6.cell? ⟨w.heap.size, 1, none⟩ = some (.int .i64 u) := cell_of_row _ _ 1 _ _ _ HS6.out.ls
          have x2 : w6.cell? ⟨w.heap.size, 2, none⟩ = some (.int .i64 q) := cell_of_row _ _ 2 _ _ _ HS6.out.ls
          have s0 : w6.cell? ⟨w.heap.size + 1, 0, none⟩ = some (.int .i64 2) := cell_of_row _ _ 0 _ _ _ HS6.out.sp
          have s1 : w6.cell? ⟨w.heap.size + 1, 1, none⟩ = some (.int .i64 wh) := cell_of_row _ _ 1 _ _ _ HS6.out.sp
          have s2 : w6.cell? ⟨w.heap.size + 1, 2, none⟩ = some (.int .i64 nw) := cell_of_row _ _ 2 _ _ _ HS6.out.sp
          have s3 : w6.cell? ⟨w.heap.size + 1, 3, none⟩ = some (.int .i64 lg) := cell_of_row _ _ 3 _ _ _ HS6.out.sp
          go_wp2_with fail
          refine (HF.out _).mono ?_
          rintro e w7 ⟨rfl, hb7⟩
          have HS7 := Lib.hid (HS6.out.on hb7)
          clear x0 x1 x2 s0 s1 s2 s3
          have d0 : w7.cell? ⟨D, 0, none⟩ = some (.int .i64 0) := cell_of_row _ _ 0 _ _ _ HS7.out.ou
          have d1 : w7.cell? ⟨D, 1, none⟩ = some (.int .i64 0) := cell_of_row _ _ 1 _ _ _ HS7.out.ou
          have d2 : w7.cell? ⟨D, 2, none⟩ = some (.int .i64 0) := cell_of_row _ _ 2 _ _ _ HS7.out.ou
          have df0 := frozen_of_row w7 _ 0 _ _ HS7.out.ou
          have df1 := frozen_of_row w7 _ 1 _ _ HS7.out.ou
          have df2 := frozen_of_row w7 _ 2 _ _ HS7.out.ou
          obtain ⟨w8, hw8⟩ : ∃ w8, (((w7.setCell ⟨D, 0, none⟩ (.int .i64 ta)).setCell ⟨D, 1, none⟩ (.int .i64 tu)).setCell ⟨D, 2, none⟩ (.int .i64 tq)) = w8 := ⟨_, rfl⟩
          have HS8 : Hid (St12 w w8 D a u q 2 wh nw lg ta tu tq) := by
            rw [← hw8]
            exact HS7.out.turn (gLs _ _ _ _ _) (ls_stored HS7.out.ou _ _ _) (below_ls HS7.out.bel (by have := HS7.out.lt; omega) _ _ _)
          have g0 : w8.cell? ⟨D, 0, none⟩ = some (.int .i64 ta) := cell_of_row _ _ 0 _ _ _ HS8.out.ou
          have g1 : w8.cell? ⟨D, 1, none⟩ = some (.int .i64 tu) := cell_of_row _ _ 1 _ _ _ HS8.out.ou
          have g2 : w8.cell? ⟨D, 2, none⟩ = some (.int .i64 tq) := cell_of_row _ _ 2 _ _ _ HS8.out.ou
          go_wp2_with fail
          refine (HG2.out _).mono ?_
          rintro e w9 ⟨rfl, hb9⟩
          have HS9 := Lib.hid (HS8.out.on hb9)
          have z0 : w9.cell? ⟨w.heap.size + 1 + 1, 0, none⟩ = some (.int .i64 0) := cell_of_row _ _ 0 _ _ _ HS9.out.rs
          have z1 : w9.cell? ⟨w.heap.size + 1 + 1, 1, none⟩ = some (.int .i64 0) := cell_of_row _ _ 1 _ _ _ HS9.out.rs
          have z2 : w9.cell? ⟨w.heap.size + 1 + 1, 2, none⟩ = some (.int .i64 0) := cell_of_row _ _ 2 _ _ _ HS9.out.rs
          have f0 := frozen_of_row w9 _ 0 _ _ HS9.out.rs
          have f1 := frozen_of_row w9 _ 1 _ _ HS9.out.rs
          have f2 := frozen_of_row w9 _ 2 _ _ HS9.out.rs
          go_wp2_with fail
          exact ret_ls2 rfl (w.heap.size + 1 + 1) 0 0 0 false rfl rfl (ls_stored HS9.out.rs _ _ _) rfl ⟨rfl, below_ls HS9.out.bel (by omega) _ _ _⟩
        · have hz : zS true (ta, tu, tq) = (ta, tu, tq) := rfl
          rw [hz]
          clear hz
          go_enter Try.func24, Try.ntmps24
          go_wp2_with fail
          refine HG.out.mono ?_
          rintro e w5 ⟨rfl, hb5⟩
          have HX5 := Lib.hid (HX.out.on hb5)
          clear x0 x1 x2 s0 s1 s2 s3 z0 z1 z2 f0 f1 f2
          have x0 : w5.cell? ⟨w.heap.size, 0, none⟩ = some (.int .i64 a) := cell_of_row _ _ 0 _ _ _ HX5.out.ls
          have x1 : w5.cell? ⟨w.heap.size, 1, none⟩ = some (.int .i64 u) := cell_of_row _ _ 1 _ _ _ HX5.out.ls
          have x2 : w5.cell? ⟨w.heap.size, 2, none⟩ = some (.int .i64 q) := cell_of_row _ _ 2 _ _ _ HX5.out.ls
          have s0 : w5.cell? ⟨w.heap.size + 1, 0, none⟩ = some (.int .i64 2) := cell_of_row _ _ 0 _ _ _ HX5.out.sp
          have s1 : w5.cell? ⟨w.heap.size + 1, 1, none⟩ = some (.int .i64 wh) := cell_of_row _ _ 1 _ _ _ HX5.out.sp
          have s2 : w5.cell? ⟨w.heap.size + 1, 2, none⟩ = some (.int .i64 nw) := cell_of_row _ _ 2 _ _ _ HX5.out.sp
          have s3 : w5.cell? ⟨w.heap.size + 1, 3, none⟩ = some (.int .i64 lg) := cell_of_row _ _ 3 _ _ _ HX5.out.sp
          have z0 : w5.cell? ⟨w.heap.size + 1 + 1, 0, none⟩ = some (.int .i64 0) := cell_of_row _ _ 0 _ _ _ HX5.out.rs
          have z1 : w5.cell? ⟨w.heap.size + 1 + 1, 1, none⟩ = some (.int .i64 0) := cell_of_row _ _ 1 _ _ _ HX5.out.rs
          have z2 : w5.cell? ⟨w.heap.size + 1 + 1, 2, none⟩ = some (.int .i64 0) := cell_of_row _ _ 2 _ _ _ HX5.out.rs
          have f0 := frozen_of_row w5 _ 0 _ _ HX5.out.rs
          have f1 := frozen_of_row w5 _ 1 _ _ HX5.out.rs
          have f2 := frozen_of_row w5 _ 2 _ _ HX5.out.rs
          go_wp2_with fail
          refine (HH.out _).mono ?_
          rintro e w' ⟨rfl, rfl⟩
          go_wp2_with fail
          refine (HC.out _).mono ?_
          rintro e w' ⟨rfl, rfl⟩
          obtain ⟨w6, hw6⟩ : ∃ w6, w5.alloc (.cells #[.int .i64 0, .int .i64 0, .int .i64 0] 26) = w6 := ⟨_, rfl⟩
          have HS6 : Hid (St12 w w6 w5.heap.size a u q 2 wh nw lg 0 0 0) := by
            have hl := heap_lt HX5.out.rs
            have X := HX5.out.on (gAlloc w5 (.cells #[.int .i64 0, .int .i64 0, .int .i64 0] 26))
            rw [hw6] at X
            exact ⟨X.ls, X.sp, X.rs, by rw [← hw6]; exact heap_alloc_new _ _, X.bel, hl⟩
          obtain ⟨D, hD⟩ : ∃ D, w5.heap.size = D := ⟨_, rfl⟩
          rw [hD] at HS6
          clear x0 x1 x2 s0 s1 s2 s3 z0 z1 z2 f0 f1 f2
          have x0 : w6.cell? ⟨w.heap.size, 0, none⟩ = some (.int .i64 a) := cell_of_row _ _ 0 _ _ _ HS6.out.ls
          have x1 : w6.cell? ⟨w.heap.size, 1, none⟩ = some (.int .i64 u) := cell_of_row _ _ 1 _ _ _ HS6.out.ls
          have x2 : w6.cell? ⟨w.heap.size, 2, none⟩ = some (.int .i64 q) := cell_of_row _ _ 2 _ _ _ HS6.out.ls
          have s0 : w6.cell? ⟨w.heap.size + 1, 0, none⟩ = some (.int .i64 2) := cell_of_row _ _ 0 _ _ _ HS6.out.sp
          have s1 : w6.cell? ⟨w.heap.size + 1, 1, none⟩ = some (.int .i64 wh) := cell_of_row _ _ 1 _ _ _ HS6.out.sp
          have s2 : w6.cell? ⟨w.heap.size + 1, 2, none⟩ = some (.int .i64 nw) := cell_of_row _ _ 2 _ _ _ HS6.out.sp
          have s3 : w6.cell? ⟨w.heap.size + 1, 3, none⟩ = some (.int .i64 lg) := cell_of_row _ _ 3 _ _ _ HS6.out.sp
          go_wp2_with fail
          refine (HF.out _).mono ?_
          rintro e w7 ⟨rfl, hb7⟩
          have HS7 := Lib.hid (HS6.out.on hb7)
          clear x0 x1 x2 s0 s1 s2 s3
          have d0 : w7.cell? ⟨D, 0, none⟩ = some (.int .i64 0) := cell_of_row _ _ 0 _ _ _ HS7.out.ou
          have d1 : w7.cell? ⟨D, 1, none⟩ = some (.int .i64 0) := cell_of_row _ _ 1 _ _ _ HS7.out.ou
          have d2 : w7.cell? ⟨D, 2, none⟩ = some (.int .i64 0) := cell_of_row _ _ 2 _ _ _ HS7.out.ou
          have df0 := frozen_of_row w7 _ 0 _ _ HS7.out.ou
          have df1 := frozen_of_row w7 _ 1 _ _ HS7.out.ou
          have df2 := frozen_of_row w7 _ 2 _ _ HS7.out.ou
          obtain ⟨w8, hw8⟩ : ∃ w8, (((w7.setCell ⟨D, 0, none⟩ (.int .i64 ta)).setCell ⟨D, 1, none⟩ (.int .i64 tu)).setCell ⟨D, 2, none⟩ (.int .i64 tq)) = w8 := ⟨_, rfl⟩
          have HS8 : Hid (St12 w w8 D a u q 2 wh nw lg ta tu tq) := by
            rw [← hw8]
            exact HS7.out.turn (gLs _ _ _ _ _) (ls_stored HS7.out.ou _ _ _) (below_ls HS7.out.bel (by have := HS7.out.lt; omega) _ _ _)
          have g0 : w8.cell? ⟨D, 0, none⟩ = some (.int .i64 ta) := cell_of_row _ _ 0 _ _ _ HS8.out.ou
          have g1 : w8.cell? ⟨D, 1, none⟩ = some (.int .i64 tu) := cell_of_row _ _ 1 _ _ _ HS8.out.ou
          have g2 : w8.cell? ⟨D, 2, none⟩ = some (.int .i64 tq) := cell_of_row _ _ 2 _ _ _ HS8.out.ou
          go_wp2_with fail
          refine (HG2.out _).mono ?_
          rintro e w9 ⟨rfl, hb9⟩
          have HS9 := Lib.hid (HS8.out.on hb9)
          clear g0 g1 g2
          have z0 : w9.cell? ⟨w.heap.size + 1 + 1, 0, none⟩ = some (.int .i64 0) := cell_of_row _ _ 0 _ _ _ HS9.out.rs
          have z1 : w9.cell? ⟨w.heap.size + 1 + 1, 1, none⟩ = some (.int .i64 0) := cell_of_row _ _ 1 _ _ _ HS9.out.rs
          have z2 : w9.cell? ⟨w.heap.size + 1 + 1, 2, none⟩ = some (.int .i64 0) := cell_of_row _ _ 2 _ _ _ HS9.out.rs
          have f0 := frozen_of_row w9 _ 0 _ _ HS9.out.rs
          have f1 := frozen_of_row w9 _ 1 _ _ HS9.out.rs
          have f2 := frozen_of_row w9 _ 2 _ _ HS9.out.rs
          have g0 : w9.cell? ⟨D, 0, none⟩ = some (.int .i64 ta) := cell_of_row _ _ 0 _ _ _ HS9.out.ou
          have g1 : w9.cell? ⟨D, 1, none⟩ = some (.int .i64 tu) := cell_of_row _ _ 1 _ _ _ HS9.out.ou
          have g2 : w9.cell? ⟨D, 2, none⟩ = some (.int .i64 tq) := cell_of_row _ _ 2 _ _ _ HS9.out.ou
          go_wp2_with fail
          exact ret_ls2 rfl (w.heap.size + 1 + 1) ta tu tq true rfl rfl (ls_stored HS9.out.rs _ _ _) rfl ⟨rfl, below_ls HS9.out.bel (by omega) _ _ _⟩
  case pos =>
    obtain rfl : k = 1 := k1
    obtain ⟨⟨ta, tu, tq⟩, hT⟩ : ∃ T : Int × Int × Int, (wh, (nw + lg), (q + 1)) = T := ⟨_, rfl⟩
    have HM : Hid (slOk a u q 1 wh nw lg = (askB a u nw lg && goodZB ta tu tq) ∧ slL a u q 1 wh nw lg = zS (askB a u nw lg && goodZB ta tu tq) (ta, tu, tq)) := sl_when (T := (ta, tu, tq)) hg hi hc rfl (fun _ => (by exact lzG1 a u q wh nw lg : _ = (wh, (nw + lg), (q + 1))).trans hT)
    have HF := Lib.hid (fun w => iGranted a u q 1 wh nw lg w hg hc)
    have HG2 := Lib.hid (fun w => iGoodL ta tu tq w)
    rw [HM.out.1, HM.out.2]
    rw [hT] at HF
    clear hg hi hc HM hT
    generalize goodZB ta tu tq = gd at *
    generalize askB a u nw lg = m at *
    cases m
    · have hz : zS false (ta, tu, tq) = (0, 0, 0) := rfl
      rw [hz] at HF
      rw [Bool.false_and, hz]
      clear hz HG2
      go_enter Try.func24, Try.ntmps24
      go_wp2_with fail
      refine HG.out.mono ?_
      rintro e w5 ⟨rfl, hb5⟩
      have HX5 := Lib.hid (HX.out.on hb5)
      clear x0 x1 x2 s0 s1 s2 s3 z0 z1 z2 f0 f1 f2
      have x0 : w5.cell? ⟨w.heap.size, 0, none⟩ = some (.int .i64 a) := cell_of_row _ _ 0 _ _ _ HX5.out.ls
      have x1 : w5.cell? ⟨w.heap.size, 1, none⟩ = some (.int .i64 u) := cell_of_row _ _ 1 _ _ _ HX5.out.ls
      have x2 : w5.cell? ⟨w.heap.size, 2, none⟩ = some (.int .i64 q) := cell_of_row _ _ 2 _ _ _ HX5.out.ls
      have s0 : w5.cell? ⟨w.heap.size + 1, 0, none⟩ = some (.int .i64 1) := cell_of_row _ _ 0 _ _ _ HX5.out.sp
      have s1 : w5.cell? ⟨w.heap.size + 1, 1, none⟩ = some (.int .i64 wh) := cell_of_row _ _ 1 _ _ _ HX5.out.sp
      have s2 : w5.cell? ⟨w.heap.size + 1, 2, none⟩ = some (.int .i64 nw) := cell_of_row _ _ 2 _ _ _ HX5.out.sp
      have s3 : w5.cell? ⟨w.heap.size + 1, 3, none⟩ = some (.int .i64 lg) := cell_of_row _ _ 3 _ _ _ HX5.out.sp
      have z0 : w5.cell? ⟨w.heap.size + 1 + 1, 0, none⟩ = some (.int .i64 0) := cell_of_row _ _ 0 _ _ _ HX5.out.rs
      have z1 : w5.cell? ⟨w.heap.size + 1 + 1, 1, none⟩ = some (.int .i64 0) := cell_of_row _ _ 1 _ _ _ HX5.out.rs
      have z2 : w5.cell? ⟨w.heap.size + 1 + 1, 2, none⟩ = some (.int .i64 0) := cell_of_row _ _ 2 _ _ _ HX5.out.rs
      have f0 := frozen_of_row w5 _ 0 _ _ HX5.out.rs
      have f1 := frozen_of_row w5 _ 1 _ _ HX5.out.rs
      have f2 := frozen_of_row w5 _ 2 _ _ HX5.out.rs
      go_wp2_with fail
      refine (HH.out _).mono ?_
      rintro e w' ⟨rfl, rfl⟩
      go_wp2_with fail
      refine (HC.out _).mono ?_
      rintro e w' ⟨rfl, rfl⟩
      obtain ⟨w6, hw6⟩ : ∃ w6, w5.alloc (.cells #[.int .i64 0, .int .i64 0, .int .i64 0] 26) = w6 := ⟨_, rfl⟩
      have HS6 : Hid (St12 w w6 w5.heap.size a u q 1 wh nw lg 0 0 0) := by
        have hl := heap_lt HX5.out.rs
        have X := HX5.out.on (gAlloc w5 (.cells #[.int .i64 0, .int .i64 0, .int .i64 0] 26))
        rw [hw6] at X
        exact ⟨X.ls, X.sp, X.rs, by rw [← hw6]; exact heap_alloc_new _ _, X.bel, hl⟩
      obtain ⟨D, hD⟩ : ∃ D, w5.heap.size = D := ⟨_, rfl⟩
      rw [hD] at HS6
      clear x0 x1 x2 s0 s1 s2 s3 z0 z1 z2 f0 f1 f2
      have x0 : w6.cell? ⟨w.heap.size, 0, none⟩ = some (.int .i64 a) := cell_of_row _ _ 0 _ _ _ HS6.out.ls
      have x1 : w6.cell? ⟨w.heap.size, 1, none⟩ = some (.int .i64 u) := cell_of_row _ _ 1 _ _ _ HS6.out.ls
      have x2 : w6.cell? ⟨w.heap.size, 2, none⟩ = some (.int .i64 q) := cell_of_row _ _ 2 _ _ _ HS6.out.ls
      have s0 : w6.cell? ⟨w.heap.size + 1, 0, none⟩ = some (.int .i64 1) := cell_of_row _ _ 0 _ _ _ HS6.out.sp
      have s1 : w6.cell? ⟨w.heap.size + 1, 1, none⟩ = some (.int .i64 wh) := cell_of_row _ _ 1 _ _ _ HS6.out.sp
      have s2 : w6.cell? ⟨w.heap.size + 1, 2, none⟩ = some (.int .i64 nw) := cell_of_row _ _ 2 _ _ _ HS6.out.sp
      have s3 : w6.cell? ⟨w.heap.size + 1, 3, none⟩ = some (.int .i64 lg) := cell_of_row _ _ 3 _ _ _ HS6.out.sp
      go_wp2_with fail
      refine (HF.out _).mono ?_
      rintro e w7 ⟨rfl, hb7⟩
      have HS7 := Lib.hid (HS6.out.on hb7)
      clear x0 x1 x2 s0 s1 s2 s3
      have d0 : w7.cell? ⟨D, 0, none⟩ = some (.int .i64 0) := cell_of_row _ _ 0 _ _ _ HS7.out.ou
      have d1 : w7.cell? ⟨D, 1, none⟩ = some (.int .i64 0) := cell_of_row _ _ 1 _ _ _ HS7.out.ou
      have d2 : w7.cell? ⟨D, 2, none⟩ = some (.int .i64 0) := cell_of_row _ _ 2 _ _ _ HS7.out.ou
      have df0 := frozen_of_row w7 _ 0 _ _ HS7.out.ou
      have df1 := frozen_of_row w7 _ 1 _ _ HS7.out.ou
      have df2 := frozen_of_row w7 _ 2 _ _ HS7.out.ou
      obtain ⟨w8, hw8⟩ : ∃ w8, (((w7.setCell ⟨D, 0, none⟩ (.int .i64 0)).setCell ⟨D, 1, none⟩ (.int .i64 0)).setCell ⟨D, 2, none⟩ (.int .i64 0)) = w8 := ⟨_, rfl⟩
      have HS8 : Hid (St12 w w8 D a u q 1 wh nw lg 0 0 0) := by
        rw [← hw8]
        exact HS7.out.turn (gLs _ _ _ _ _) (ls_stored HS7.out.ou _ _ _) (below_ls HS7.out.bel (by have := HS7.out.lt; omega) _ _ _)
      have z0 : w8.cell? ⟨w.heap.size + 1 + 1, 0, none⟩ = some (.int .i64 0) := cell_of_row _ _ 0 _ _ _ HS8.out.rs
      have z1 : w8.cell? ⟨w.heap.size + 1 + 1, 1, none⟩ = some (.int .i64 0) := cell_of_row _ _ 1 _ _ _ HS8.out.rs
      have z2 : w8.cell? ⟨w.heap.size + 1 + 1, 2, none⟩ = some (.int .i64 0) := cell_of_row _ _ 2 _ _ _ HS8.out.rs
      have f0 := frozen_of_row w8 _ 0 _ _ HS8.out.rs
      have f1 := frozen_of_row w8 _ 1 _ _ HS8.out.rs
      have f2 := frozen_of_row w8 _ 2 _ _ HS8.out.rs
      go_wp2_with fail
      exact ret_ls2 rfl (w.heap.size + 1 + 1) 0 0 0 false rfl rfl (ls_stored HS8.out.rs _ _ _) rfl ⟨rfl, below_ls HS8.out.bel (by omega) _ _ _⟩
    · have hz : zS true (ta, tu, tq) = (ta, tu, tq) := rfl
      rw [hz] at HF
      rw [Bool.true_and]
      clear hz
      cases gd
      · have hz : zS false (ta, tu, tq) = (0, 0, 0) := rfl
        rw [hz]
        clear hz
        go_enter Try.func24, Try.ntmps24
        go_wp2_with fail
        refine HG.out.mono ?_
        rintro e w5 ⟨rfl, hb5⟩
        have HX5 := Lib.hid (HX.out.on hb5)
        clear x0 x1 x2 s0 s1 s2 s3 z0 z1 z2 f0 f1 f2
        have x0 : w5.cell? ⟨w.heap.size, 0, none⟩ = some (.int .i64 a) := cell_of_row _ _ 0 _ _ _ HX5.out.ls
        have x1 : w5.cell? ⟨w.heap.size, 1, none⟩ = some (.int .i64 u) := cell_of_row _ _ 1 _ _ _ HX5.out.ls
        have x2 : w5.cell? ⟨w.heap.size, 2, none⟩ = some (.int .i64 q) := cell_of_row _ _ 2 _ _ _ HX5.out.ls
        have s0 : w5.cell? ⟨w.heap.size + 1, 0, none⟩ = some (.int .i64 1) := cell_of_row _ _ 0 _ _ _ HX5.out.sp
        have s1 : w5.cell? ⟨w.heap.size + 1, 1, none⟩ = some (.int .i64 wh) := cell_of_row _ _ 1 _ _ _ HX5.out.sp
        have s2 : w5.cell? ⟨w.heap.size + 1, 2, none⟩ = some (.int .i64 nw) := cell_of_row _ _ 2 _ _ _ HX5.out.sp
        have s3 : w5.cell? ⟨w.heap.size + 1, 3, none⟩ = some (.int .i64 lg) := cell_of_row _ _ 3 _ _ _ HX5.out.sp
        have z0 : w5.cell? ⟨w.heap.size + 1 + 1, 0, none⟩ = some (.int .i64 0) := cell_of_row _ _ 0 _ _ _ HX5.out.rs
        have z1 : w5.cell? ⟨w.heap.size + 1 + 1, 1, none⟩ = some (.int .i64 0) := cell_of_row _ _ 1 _ _ _ HX5.out.rs
        have z2 : w5.cell? ⟨w.heap.size + 1 + 1, 2, none⟩ = some (.int .i64 0) := cell_of_row _ _ 2 _ _ _ HX5.out.rs
        have f0 := frozen_of_row w5 _ 0 _ _ HX5.out.rs
        have f1 := frozen_of_row w5 _ 1 _ _ HX5.out.rs
        have f2 := frozen_of_row w5 _ 2 _ _ HX5.out.rs
        go_wp2_with fail
        refine (HH.out _).mono ?_
        rintro e w' ⟨rfl, rfl⟩
        go_wp2_with fail
        refine (HC.out _).mono ?_
        rintro e w' ⟨rfl, rfl⟩
        obtain ⟨w6, hw6⟩ : ∃ w6, w5.alloc (.cells #[.int .i64 0, .int .i64 0, .int .i64 0] 26) = w6 := ⟨_, rfl⟩
        have HS6 : Hid (St12 w w6 w5.heap.size a u q 1 wh nw lg 0 0 0) := by
          have hl := heap_lt HX5.out.rs
          have X := HX5.out.on (gAlloc w5 (.cells #[.int .i64 0, .int .i64 0, .int .i64 0] 26))
          rw [hw6] at X
          exact ⟨X.ls, X.sp, X.rs, by rw [← hw6]; exact heap_alloc_new _ _, X.bel, hl⟩
        obtain ⟨D, hD⟩ : ∃ D, w5.heap.size = D := ⟨_, rfl⟩
        rw [hD] at HS6
        clear x0 x1 x2 s0 s1 s2 s3 z0 z1 z2 f0 f1 f2
        have x0 : w6.cell? ⟨w.heap.size, 0, none⟩ = some (.int .i64 a) := cell_of_row _ _ 0 _ _ _ HS6.out.ls
        have x1 : w6.cell? ⟨w.heap.size, 1, none⟩ = some (.int .i64 u) := cell_of_row _ _ 1 _ _ _ HS6.out.ls
        have x2 : w6.cell? ⟨w.heap.size, 2, none⟩ = some (.int .i64 q) := cell_of_row _ _ 2 _ _ _ HS6.out.ls
        have s0 : w6.cell? ⟨w.heap.size + 1, 0, none⟩ = some (.int .i64 1) := cell_of_row _ _ 0 _ _ _ HS6.out.sp
        have s1 : w6.cell? ⟨w.heap.size + 1, 1, none⟩ = some (.int .i64 wh) := cell_of_row _ _ 1 _ _ _ HS6.out.sp
        have s2 : w6.cell? ⟨w.heap.size + 1, 2, none⟩ = some (.int .i64 nw) := cell_of_row _ _ 2 _ _ _ HS6.out.sp
        have s3 : w6.cell? ⟨w.heap.size + 1, 3, none⟩ = some (.int .i64 lg) := cell_of_row _ _ 3 _ _ _ HS6.out.sp
        go_wp2_with fail
        refine (HF.out _).mono ?_
        rintro e w7 ⟨rfl, hb7⟩
        have HS7 := Lib.hid (HS6.out.on hb7)
        clear x0 x1 x2 s0 s1 s2 s3
        have d0 : w7.cell? ⟨D, 0, none⟩ = some (.int .i64 0) := cell_of_row _ _ 0 _ _ _ HS7.out.ou
        have d1 : w7.cell? ⟨D, 1, none⟩ = some (.int .i64 0) := cell_of_row _ _ 1 _ _ _ HS7.out.ou
        have d2 : w7.cell? ⟨D, 2, none⟩ = some (.int .i64 0) := cell_of_row _ _ 2 _ _ _ HS7.out.ou
        have df0 := frozen_of_row w7 _ 0 _ _ HS7.out.ou
        have df1 := frozen_of_row w7 _ 1 _ _ HS7.out.ou
        have df2 := frozen_of_row w7 _ 2 _ _ HS7.out.ou
        obtain ⟨w8, hw8⟩ : ∃ w8, (((w7.setCell ⟨D, 0, none⟩ (.int .i64 ta)).setCell ⟨D, 1, none⟩ (.int .i64 tu)).setCell ⟨D, 2, none⟩ (.int .i64 tq)) = w8 := ⟨_, rfl⟩
        have HS8 : Hid (St12 w w8 D a u q 1 wh nw lg ta tu tq) := by
          rw [← hw8]
          exact HS7.out.turn (gLs _ _ _ _ _) (ls_stored HS7.out.ou _ _ _) (below_ls HS7.out.bel (by have := HS7.out.lt; omega) _ _ _)
        have g0 : w8.cell? ⟨D, 0, none⟩ = some (.int .i64 ta) := cell_of_row _ _ 0 _ _ _ HS8.out.ou
        have g1 : w8.cell? ⟨D, 1, none⟩ = some (.int .i64 tu) := cell_of_row _ _ 1 _ _ _ HS8.out.ou
        have g2 : w8.cell? ⟨D, 2, none⟩ = some (.int .i64 tq) := cell_of_row _ _ 2 _ _ _ HS8.out.ou
        go_wp2_with fail
        refine (HG2.out _).mono ?_
        rintro e w9 ⟨rfl, hb9⟩
        have HS9 := Lib.hid (HS8.out.on hb9)
        have z0 : w9.cell? ⟨w.heap.size + 1 + 1, 0, none⟩ = some (.int .i64 0) := cell_of_row _ _ 0 _ _ _ HS9.out.rs
        have z1 : w9.cell? ⟨w.heap.size + 1 + 1, 1, none⟩ = some (.int .i64 0) := cell_of_row _ _ 1 _ _ _ HS9.out.rs
        have z2 : w9.cell? ⟨w.heap.size + 1 + 1, 2, none⟩ = some (.int .i64 0) := cell_of_row _ _ 2 _ _ _ HS9.out.rs
        have f0 := frozen_of_row w9 _ 0 _ _ HS9.out.rs
        have f1 := frozen_of_row w9 _ 1 _ _ HS9.out.rs
        have f2 := frozen_of_row w9 _ 2 _ _ HS9.out.rs
        go_wp2_with fail
        exact ret_ls2 rfl (w.heap.size + 1 + 1) 0 0 0 false rfl rfl (ls_stored HS9.out.rs _ _ _) rfl ⟨rfl, below_ls HS9.out.bel (by omega) _ _ _⟩
      · have hz : zS true (ta, tu, tq) = (ta, tu, tq) := rfl
        rw [hz]
        clear hz
        go_enter Try.func24, Try.ntmps24
        go_wp2_with fail
        refine HG.out.mono ?_
        rintro e w5 ⟨rfl, hb5⟩
        have HX5 := Lib.hid (HX.out.on hb5)
        clear x0 x1 x2 s0 s1 s2 s3 z0 z1 z2 f0 f1 f2
        have x0 : w5.cell? ⟨w.heap.size, 0, none⟩ = some (.int .i64 a) := cell_of_row _ _ 0 _ _ _ HX5.out.ls
        have x1 : w5.cell? ⟨w.heap.size, 1, none⟩ = some (.int .i64 u) := cell_of_row _ _ 1 _ _ _ HX5.out.ls
        have x2 : w5.cell? ⟨w.heap.size, 2, none⟩ = some (.int .i64 q) := cell_of_row _ _ 2 _ _ _ HX5.out.ls
        have s0 : w5.cell? ⟨w.heap.size + 1, 0, none⟩ = some (.int .i64 1) := cell_of_row _ _ 0 _ _ _ HX5.out.sp
        have s1 : w5.cell? ⟨w.heap.size + 1, 1, none⟩ = some (.int .i64 wh) := cell_of_row _ _ 1 _ _ _ HX5.out.sp
        have s2 : w5.cell? ⟨w.heap.size + 1, 2, none⟩ = some (.int .i64 nw) := cell_of_row _ _ 2 _ _ _ HX5.out.sp
        have s3 : w5.cell? ⟨w.heap.size + 1, 3, none⟩ = some (.int .i64 lg) := cell_of_row _ _ 3 _ _ _ HX5.out.sp
        have z0 : w5.cell? ⟨w.heap.size + 1 + 1, 0, none⟩ = some (.int .i64 0) := cell_of_row _ _ 0 _ _ _ HX5.out.rs
        have z1 : w5.cell? ⟨w.heap.size + 1 + 1, 1, none⟩ = some (.int .i64 0) := cell_of_row _ _ 1 _ _ _ HX5.out.rs
        have z2 : w5.cell? ⟨w.heap.size + 1 + 1, 2, none⟩ = some (.int .i64 0) := cell_of_row _ _ 2 _ _ _ HX5.out.rs
        have f0 := frozen_of_row w5 _ 0 _ _ HX5.out.rs
        have f1 := frozen_of_row w5 _ 1 _ _ HX5.out.rs
        have f2 := frozen_of_row w5 _ 2 _ _ HX5.out.rs
        go_wp2_with fail
        refine (HH.out _).mono ?_
        rintro e w' ⟨rfl, rfl⟩
        go_wp2_with fail
        refine (HC.out _).mono ?_
        rintro e w' ⟨rfl, rfl⟩
        obtain ⟨w6, hw6⟩ : ∃ w6, w5.alloc (.cells #[.int .i64 0, .int .i64 0, .int .i64 0] 26) = w6 := ⟨_, rfl⟩
        have HS6 : Hid (St12 w w6 w5.heap.size a u q 1 wh nw lg 0 0 0) := by
          have hl := heap_lt HX5.out.rs
          have X := HX5.out.on (gAlloc w5 (.cells #[.int .i64 0, .int .i64 0, .int .i64 0] 26))
          rw [hw6] at X
          exact ⟨X.ls, X.sp, X.rs, by rw [← hw6]; exact heap_alloc_new _ _, X.bel, hl⟩
        obtain ⟨D, hD⟩ : ∃ D, w5.heap.size = D := ⟨_, rfl⟩
        rw [hD] at HS6
        clear x0 x1 x2 s0 s1 s2 s3 z0 z1 z2 f0 f1 f2
        have x0 : w6.cell? ⟨w.heap.size, 0, none⟩ = some (.int .i64 a) := cell_of_row _ _ 0 _ _ _ HS6.out.ls
        have x1 : w6.cell? ⟨w.heap.size, 1, none⟩ = some (.int .i64 u) := cell_of_row _ _ 1 _ _ _ HS6.out.ls
        have x2 : w6.cell? ⟨w.heap.size, 2, none⟩ = some (.int .i64 q) := cell_of_row _ _ 2 _ _ _ HS6.out.ls
        have s0 : w6.cell? ⟨w.heap.size + 1, 0, none⟩ = some (.int .i64 1) := cell_of_row _ _ 0 _ _ _ HS6.out.sp
        have s1 : w6.cell? ⟨w.heap.size + 1, 1, none⟩ = some (.int .i64 wh) := cell_of_row _ _ 1 _ _ _ HS6.out.sp
        have s2 : w6.cell? ⟨w.heap.size + 1, 2, none⟩ = some (.int .i64 nw) := cell_of_row _ _ 2 _ _ _ HS6.out.sp
        have s3 : w6.cell? ⟨w.heap.size + 1, 3, none⟩ = some (.int .i64 lg) := cell_of_row _ _ 3 _ _ _ HS6.out.sp
        go_wp2_with fail
        refine (HF.out _).mono ?_
        rintro e w7 ⟨rfl, hb7⟩
        have HS7 := Lib.hid (HS6.out.on hb7)
        clear x0 x1 x2 s0 s1 s2 s3
        have d0 : w7.cell? ⟨D, 0, none⟩ = some (.int .i64 0) := cell_of_row _ _ 0 _ _ _ HS7.out.ou
        have d1 : w7.cell? ⟨D, 1, none⟩ = some (.int .i64 0) := cell_of_row _ _ 1 _ _ _ HS7.out.ou
        have d2 : w7.cell? ⟨D, 2, none⟩ = some (.int .i64 0) := cell_of_row _ _ 2 _ _ _ HS7.out.ou
        have df0 := frozen_of_row w7 _ 0 _ _ HS7.out.ou
        have df1 := frozen_of_row w7 _ 1 _ _ HS7.out.ou
        have df2 := frozen_of_row w7 _ 2 _ _ HS7.out.ou
        obtain ⟨w8, hw8⟩ : ∃ w8, (((w7.setCell ⟨D, 0, none⟩ (.int .i64 ta)).setCell ⟨D, 1, none⟩ (.int .i64 tu)).setCell ⟨D, 2, none⟩ (.int .i64 tq)) = w8 := ⟨_, rfl⟩
        have HS8 : Hid (St12 w w8 D a u q 1 wh nw lg ta tu tq) := by
          rw [← hw8]
          exact HS7.out.turn (gLs _ _ _ _ _) (ls_stored HS7.out.ou _ _ _) (below_ls HS7.out.bel (by have := HS7.out.lt; omega) _ _ _)
        have g0 : w8.cell? ⟨D, 0, none⟩ = some (.int .i64 ta) := cell_of_row _ _ 0 _ _ _ HS8.out.ou
        have g1 : w8.cell? ⟨D, 1, none⟩ = some (.int .i64 tu) := cell_of_row _ _ 1 _ _ _ HS8.out.ou
        have g2 : w8.cell? ⟨D, 2, none⟩ = some (.int .i64 tq) := cell_of_row _ _ 2 _ _ _ HS8.out.ou
        go_wp2_with fail
        refine (HG2.out _).mono ?_
        rintro e w9 ⟨rfl, hb9⟩
        have HS9 := Lib.hid (HS8.out.on hb9)
        clear g0 g1 g2
        have z0 : w9.cell? ⟨w.heap.size + 1 + 1, 0, none⟩ = some (.int .i64 0) := cell_of_row _ _ 0 _ _ _ HS9.out.rs
        have z1 : w9.cell? ⟨w.heap.size + 1 + 1, 1, none⟩ = some (.int .i64 0) := cell_of_row _ _ 1 _ _ _ HS9.out.rs
        have z2 : w9.cell? ⟨w.heap.size + 1 + 1, 2, none⟩ = some (.int .i64 0) := cell_of_row _ _ 2 _ _ _ HS9.out.rs
        have f0 := frozen_of_row w9 _ 0 _ _ HS9.out.rs
        have f1 := frozen_of_row w9 _ 1 _ _ HS9.out.rs
        have f2 := frozen_of_row w9 _ 2 _ _ HS9.out.rs
        have g0 : w9.cell? ⟨D, 0, none⟩ = some (.int .i64 ta) := cell_of_row _ _ 0 _ _ _ HS9.out.ou
        have g1 : w9.cell? ⟨D, 1, none⟩ = some (.int .i64 tu) := cell_of_row _ _ 1 _ _ _ HS9.out.ou
        have g2 : w9.cell? ⟨D, 2, none⟩ = some (.int .i64 tq) := cell_of_row _ _ 2 _ _ _ HS9.out.ou
        go_wp2_with fail
        exact ret_ls2 rfl (w.heap.size + 1 + 1) ta tu tq true rfl rfl (ls_stored HS9.out.rs _ _ _) rfl ⟨rfl, below_ls HS9.out.bel (by omega) _ _ _⟩
end Go.Proofs.Ythmnenejfonfgaa

/- BN -/
namespace Go.Proofs.Ythmnenejfonfgaa
open Go.RowKit

set_option maxRecDepth 100000 in
theorem iNaN (n : Int) (w : World) : Calls Try.prog 65 #[.int .i64 n] w fun e w' => e = .returned (.bool false) ∧ w = w' := by
  have h : (n != n) = false := by simp
  go_enter Try.func65, Try.ntmps65
  go_wp2_with fail
  go_ret
  exact ⟨by first | rfl | simp, rfl⟩
/-- How two numbers compare. -/
def cmp12 (a b : Int) : Int := if a < b then -1 else if b < a then 1 else 0
set_option maxRecDepth 100000 in
set_option maxHeartbeats 4000000 in
theorem iCmp (a b : Int) (w : World) : Calls Try.prog 62 #[.int .i64 a, .int .i64 b] w fun e w' => e = .returned (.int .i64 (cmp12 a b)) ∧ w = w' := by
  by_cases h1 : a < b
  · have HE : Hid (cmp12 a b = -1) := by show _ = _; rw [cmp12, if_pos h1]
    rw [HE.out]
    go_enter Try.func62, Try.ntmps62
    go_wp2_with (go_at_call 65; refine (iNaN _ _).mono ?_; rintro e w' ⟨rfl, rfl⟩)
    go_ret
    exact ⟨rfl, rfl⟩
  by_cases h2 : b < a
  · have HE : Hid (cmp12 a b = 1) := by show _ = _; rw [cmp12, if_neg h1, if_pos h2]
    rw [HE.out]
    go_enter Try.func62, Try.ntmps62
    go_wp2_with (go_at_call 65; refine (iNaN _ _).mono ?_; rintro e w' ⟨rfl, rfl⟩)
    go_ret
    exact ⟨rfl, rfl⟩
  have HE : Hid (cmp12 a b = 0) := by show _ = _; rw [cmp12, if_neg h1, if_neg h2]
  rw [HE.out]
  go_enter Try.func62, Try.ntmps62
  go_wp2_with (go_at_call 65; refine (iNaN _ _).mono ?_; rintro e w' ⟨rfl, rfl⟩)
  go_ret
  exact ⟨rfl, rfl⟩
set_option maxRecDepth 100000 in
set_option maxHeartbeats 4000000 in
theorem iByTime (x y : Zpc) (w : World) : Calls Try.prog 41 #[lpV x, lpV y] w fun e w' => e = .returned (.int .i64 (cmp12 x.2.2.1 y.2.2.1)) ∧ Below w.heap.size w w' := by
  obtain ⟨W, hW⟩ : ∃ W, (w.alloc (.cells #[.int .i64 x.1, .int .i64 x.2.1, .int .i64 x.2.2.1, .int .i64 x.2.2.2] 34)).alloc (.cells #[.int .i64 y.1, .int .i64 y.2.1, .int .i64 y.2.2.1, .int .i64 y.2.2.2] 34) = W := ⟨_, rfl⟩
  have hb : Below w.heap.size w W := by rw [← hW]; exact (gAlloc w _).alloc (by simp) _
  have h1 : W.heap[w.heap.size]? = some (.cells #[.int .i64 x.1, .int .i64 x.2.1, .int .i64 x.2.2.1, .int .i64 x.2.2.2] 34 (0, 0)) := by rw [← hW, heap_alloc_old _ _ _ (by simp)]; exact heap_alloc_new _ _
  have h2 : W.heap[w.heap.size + 1]? = some (.cells #[.int .i64 y.1, .int .i64 y.2.1, .int .i64 y.2.2.1, .int .i64 y.2.2.2] 34 (0, 0)) := by rw [← hW, show w.heap.size + 1 = (w.alloc (.cells #[.int .i64 x.1, .int .i64 x.2.1, .int .i64 x.2.2.1, .int .i64 x.2.2.2] 34)).heap.size by simp]; exact heap_alloc_new _ _
  have x2 : W.cell? ⟨w.heap.size, 2, none⟩ = some (.int .i64 x.2.2.1) := cell_of_row _ _ 2 _ _ _ h1
  have y2 : W.cell? ⟨w.heap.size + 1, 2, none⟩ = some (.int .i64 y.2.2.1) := cell_of_row _ _ 2 _ _ _ h2
  have HC := Lib.hid (fun w => iCmp x.2.2.1 y.2.2.1 w)
  have HB := Lib.hid hb
  clear hb h1 h2
  go_enter Try.func41, Try.ntmps41
  go_wp2_with (go_at_call 62; refine (HC.out _).mono ?_; rintro e w' ⟨rfl, rfl⟩)
  go_ret
  exact ⟨rfl, HB.out⟩
theorem wrapM12 (z : Int) (h0 : -2000000 ≤ z) (h1 : z ≤ 2000000) : IntKind.i64.wrap z = z := by
  unfold IntKind.wrap; simp [IntKind.bits, IntKind.signed]; omega
theorem cmp_neg {a b : Int} : (cmp12 a b < 0) ↔ a < b := by
  rw [cmp12]
  split
  · simp [*]
  · split <;> omega
theorem mon_all {l : List Zpc} (h : ∀ j, (hj : j + 1 < l.length) → l[j].2.2.1 ≤ l[j + 1].2.2.1) : ∀ n, n ≤ l.length → monU l n = true
  | 0, _ => rfl
  | 1, _ => rfl
  | n + 2, hn => by
    rw [monU_step (mon_all h (n + 1) (by omega)) (by omega)]
    exact decide_eq_true (h n (by omega))
theorem mon_bad {l : List Zpc} {j : Nat} (hj : j + 1 < l.length) (h : l[j + 1].2.2.1 < l[j].2.2.1) : monB l = false := by
  refine monU_no (j := j + 1) ?_ hj
  cases hm : monU l (j + 1)
  · rw [monU, hm]; rfl
  · rw [monU_step hm hj]; exact decide_eq_false (by omega)
set_option maxRecDepth 100000 in
set_option maxHeartbeats 4000000 in
theorem iSorted (A : Option Addr) (l : List Zpc) (ca : Nat) (w : World) (ha : RdR 4 fZp w A l) (hl : l.length ≤ 1048576) :
    Calls Try.prog 40 #[.slice A l.length ca, .func (.func 41) #[] #[]] w fun e w' => e = .returned (.bool (monB l)) ∧ Below w.heap.size w w' := by
  have HA := Lib.hid ha
  have hwl : IntKind.i64.wrap ((l.length : Int) - 1) = (l.length : Int) - 1 := wrapM12 _ (by omega) (by omega)
  clear ha
  go_enter Try.func40, Try.ntmps40
  go_wp2_with fail
  go_loopg [5] l.length (fun gk s wr => ∃ (iz : Int) (i : Nat), s = .int .i64 iz ∧ (0 < iz → iz = i ∧ i < l.length) ∧ (¬ 0 < iz → i = 0) ∧ i ≤ gk ∧ (∀ j, i ≤ j → (hj : j + 1 < l.length) → l[j].2.2.1 ≤ l[j + 1].2.2.1) ∧ Below w.heap.size w wr)
  case atStart => exact ⟨(l.length : Int) - 1, l.length - 1, rfl, fun h => ⟨by omega, by omega⟩, fun h => by omega, by omega, fun j h1 h2 => by omega, Below.refl _ _⟩
  case round =>
    obtain ⟨iz, i, rfl, h1, h2, hgk, hT, hbel⟩ := hrel
    have HBl := Lib.hid hbel
    clear hbel
    by_cases hp : 0 < iz
    case neg =>
      have hi := h2 hp
      subst hi
      have HE : Hid (monB l = true) := mon_all (fun j hj => hT j (Nat.zero_le _) hj) _ (Nat.le_refl _)
      clear h1 h2 hT
      go_wp2_with fail
      go_ret
      exact ⟨by rw [HE.out]; rfl, HBl.out⟩
    obtain ⟨hiz, hlt⟩ := h1 hp
    obtain ⟨j, rfl⟩ : ∃ j, i = j + 1 := ⟨i - 1, by omega⟩
    have hij : iz = (j : Int) + 1 := by omega
    subst hij
    have HT := Lib.hid hT
    have HK : Hid (j < gk) := by show _ < _; omega
    clear h1 h2 hiz hT hgk
    obtain ⟨b, o, rfl, p0, p1, p2, p3⟩ := Zp_at (HA.out.below HBl.out) hlt
    obtain ⟨b', o', e, r0, r1, r2, r3⟩ := Zp_at (HA.out.below HBl.out) (j := j) (by omega)
    injection e with e
    injection e with e1 e2
    subst e1 e2
    have HBad := Lib.hid (fun h => mon_bad hlt h)
    have HOk : Hid (¬ l[j + 1].2.2.1 < l[j].2.2.1 → ∀ i, j ≤ i → (hi : i + 1 < l.length) → l[i].2.2.1 ≤ l[i + 1].2.2.1) := by
      intro h i h1 h2
      by_cases e : i = j
      · subst e; omega
      · exact HT.out i (by omega) h2
    have hlt0 : (j : Int) < (l.length : Int) := by omega
    have hlt1 : (j : Int) + 1 < (l.length : Int) := by omega
    have hsub : (j : Int) + 1 - 1 = (j : Int) := by omega
    have hw1 : IntKind.i64.wrap (j : Int) = (j : Int) := wrapM12 _ (by omega) (by omega)
    have hn1 : ((j : Int) + 1).toNat = j + 1 := by omega
    have hn0 : (0 : Int) ≤ (j : Int) + 1 := by omega
    clear HT
    generalize l[j + 1] = x at *
    generalize l[j] = y at *
    obtain ⟨x0, x1, x2, x3⟩ := x
    obtain ⟨y0, y1, y2, y3⟩ := y
    have HC := Lib.hid (fun w => iByTime (x0, x1, x2, x3) (y0, y1, y2, y3) w)
    have q0 := on_cell p0
    have q1 := on_cell p1
    have q2 := on_cell p2
    have q3 := on_cell p3
    have t0 := on_cell r0
    have t1 := on_cell r1
    have t2 := on_cell r2
    have t3 := on_cell r3
    by_cases hxy : x2 < y2
    · have hneg : cmp12 x2 y2 < 0 := cmp_neg.2 hxy
      have hd : decide (cmp12 x2 y2 < 0) = true := decide_eq_true hneg
      have HE : Hid (monB l = false) := HBad.out hxy
      clear HBad HOk hxy
      go_wp2_with fail
      refine wp_region_on (by kernel_rfl) (by kernel_rfl) ?_
      repeat ((with_reducible refine wpQuiet_step (fun K hK => ?_)); go_simp; first | ((with_reducible refine hK _ ?_); clear hK K) | (refine ite_no (by decide) (hK _ ?_); clear hK K) | (apply Exists.intro; refine ⟨fun _ => ?_, hK _ ?_⟩; (first | (go_at_call 41; exact on_of (HC.out _))); clear hK K))
      with_reducible refine wpQuiet_nil ?_
      rintro w2 ⟨⟨w2x, hb2⟩, hw2x⟩
      obtain rfl : w2 = w2x := hw2x
      go_wp2_with fail
      go_ret
      exact ⟨by rw [HE.out]; rfl, below_more HBl.out hb2⟩
    · have hneg : ¬ cmp12 x2 y2 < 0 := fun h => hxy (cmp_neg.1 h)
      have hd : decide (cmp12 x2 y2 < 0) = false := decide_eq_false hneg
      have HO := Lib.hid (HOk.out hxy)
      clear HBad HOk hxy
      go_wp2_with fail
      refine wp_region_on (by kernel_rfl) (by kernel_rfl) ?_
      repeat ((with_reducible refine wpQuiet_step (fun K hK => ?_)); go_simp; first | ((with_reducible refine hK _ ?_); clear hK K) | (refine ite_no (by decide) (hK _ ?_); clear hK K) | (apply Exists.intro; refine ⟨fun _ => ?_, hK _ ?_⟩; (first | (go_at_call 41; exact on_of (HC.out _))); clear hK K))
      with_reducible refine wpQuiet_nil ?_
      rintro w2 ⟨⟨w2x, hb2⟩, hw2x⟩
      obtain rfl : w2 = w2x := hw2x
      go_wp2_with fail
      have HB2 := Lib.hid (below_more HBl.out hb2)
      go_roundg j
      case measure => exact HK.out
      case rel => exact ⟨(j : Int), j, by first | rfl | go_num, fun h => ⟨rfl, by omega⟩, fun h => by omega, Nat.le_refl _, HO.out, HB2.out⟩
end Go.Proofs.Ythmnenejfonfgaa

/- BO -/
namespace Go.Proofs.Ythmnenejfonfgaa
open Go.RowKit

theorem sl_not12 {a u q k wh nw lg : Int} (hg : goodZB a u q = true) (h : lzOk a u q k wh nw lg = false) : slL a u q k wh nw lg = (0, 0, 0) ∧ slOk a u q k wh nw lg = false ∧ lzL a u q k wh nw lg = (a, u, q) := by
  refine ⟨?_, ?_, (lz_no h).1⟩ <;> simp [slL, slOk, hg, h]
theorem sl_yes12 {a u q k wh nw lg : Int} (hg : goodZB a u q = true) (h : lzOk a u q k wh nw lg = true) : slL a u q k wh nw lg = lzL a u q k wh nw lg ∧ slOk a u q k wh nw lg = true := by
  refine ⟨?_, ?_⟩ <;> simp [slL, slOk, hg, h]
set_option maxRecDepth 100000 in
set_option maxHeartbeats 4000000 in
theorem iPlayL (A : Option Addr) (l : List Zpc) (ca : Nat) (w : World) (ha : RdR 4 fZp w A l) (hl : l.length ≤ 1048576) :
    Calls Try.prog 12 #[.slice A l.length ca] w fun e w' => ∃ d, e = .returned (.tuple #[lsW (plL l).1 (plL l).2.1 (plL l).2.2, d, .bool (plOk l)]) ∧ OwnR 26 3 fZa w' w.heap.size d (plAll l) ∧ Below w.heap.size w w' := by
  obtain ⟨W, hW⟩ : ∃ W, w.alloc (.cells #[.int .i64 0, .int .i64 0, .int .i64 0] 26) = W := ⟨_, rfl⟩
  have hR : W.heap[w.heap.size]? = some (.cells #[.int .i64 0, .int .i64 0, .int .i64 0] 26 (0, 0)) := by rw [← hW]; exact heap_alloc_new _ _
  have hB : Below w.heap.size w W := by rw [← hW]; exact gAlloc _ _
  have HX := Lib.hid (And.intro hR hB)
  have HA := Lib.hid (ha.below hB)
  have HA0 := Lib.hid ha
  have HS := Lib.hid (iSorted A l ca W (ha.below hB) hl)
  have a0 : W.cell? ⟨w.heap.size, 0, none⟩ = some (.int .i64 0) := cell_of_row _ _ 0 _ _ _ hR
  have a1 : W.cell? ⟨w.heap.size, 1, none⟩ = some (.int .i64 0) := cell_of_row _ _ 1 _ _ _ hR
  have a2 : W.cell? ⟨w.heap.size, 2, none⟩ = some (.int .i64 0) := cell_of_row _ _ 2 _ _ _ hR
  have e0 := frozen_of_row W _ 0 _ _ hR
  have e1 := frozen_of_row W _ 1 _ _ hR
  have e2 := frozen_of_row W _ 2 _ _ hR
  clear hR hB ha
  by_cases h40 : l.length ≤ 40
  case neg =>
    have hi2 : (40 : Int) < (l.length : Int) := by omega
    have HE := Lib.hid (pl_no (l := l) (by rw [plOk]; simp [h40]))
    rw [HE.out.1, HE.out.2.1, HE.out.2.2]
    clear h40
    go_enter Try.func12, Try.ntmps12
    go_wp2_with fail
    refine ret_ls3 rfl w.heap.size 0 0 0 (.slice none 0 0) (.bool false) rfl rfl rfl (ls_stored HX.out.1 _ _ _) rfl ⟨.slice none 0 0, rfl, OwnR.nil _ _, below_ls HX.out.2 (Nat.le_refl _) _ _ _⟩
  have hi2 : ¬ (40 : Int) < (l.length : Int) := by omega
  cases hm : monB l
  · have HE := Lib.hid (pl_no (l := l) (by rw [plOk, hm]; simp))
    rw [HE.out.1, HE.out.2.1, HE.out.2.2]
    rw [hm] at HS
    clear h40 hm
    go_enter Try.func12, Try.ntmps12
    go_wp2_with fail
    refine HS.out.mono ?_
    rintro e w1 ⟨rfl, hb1⟩
    have HX1 := Lib.hid (And.intro ((hb1.block _ (heap_lt HX.out.1)).trans HX.out.1) (below_more HX.out.2 hb1))
    clear a0 a1 a2 e0 e1 e2
    have a0 : w1.cell? ⟨w.heap.size, 0, none⟩ = some (.int .i64 0) := cell_of_row _ _ 0 _ _ _ HX1.out.1
    have a1 : w1.cell? ⟨w.heap.size, 1, none⟩ = some (.int .i64 0) := cell_of_row _ _ 1 _ _ _ HX1.out.1
    have a2 : w1.cell? ⟨w.heap.size, 2, none⟩ = some (.int .i64 0) := cell_of_row _ _ 2 _ _ _ HX1.out.1
    have e0 := frozen_of_row w1 _ 0 _ _ HX1.out.1
    have e1 := frozen_of_row w1 _ 1 _ _ HX1.out.1
    have e2 := frozen_of_row w1 _ 2 _ _ HX1.out.1
    go_wp2_with fail
    refine ret_ls3 rfl w.heap.size 0 0 0 (.slice none 0 0) (.bool false) rfl rfl rfl (ls_stored HX1.out.1 _ _ _) rfl ⟨.slice none 0 0, rfl, OwnR.nil _ _, below_ls HX1.out.2 (Nat.le_refl _) _ _ _⟩
  have HE := Lib.hid (pl_yes (l := l) (by rw [plOk, hm]; simp [h40]))
  rw [hm] at HS
  clear hm
  go_enter Try.func12, Try.ntmps12
  go_wp2_with fail
  refine HS.out.mono ?_
  rintro e w1 ⟨rfl, hb1⟩
  have HX1 := Lib.hid (And.intro ((hb1.block _ (heap_lt HX.out.1)).trans HX.out.1) (below_more HX.out.2 hb1))
  clear a0 a1 a2 e0 e1 e2 HX HS HA
  go_wp2_with fail
  refine (iUnheld 0 _).mono ?_
  rintro e V ⟨rfl, hb2⟩
  have HX2 := Lib.hid (And.intro ((hb2.block _ (heap_lt HX1.out.1)).trans HX1.out.1) (below_more HX1.out.2 hb2))
  clear HX1 hb1 hb2 hW
  have hVl := heap_lt HX2.out.1
  obtain ⟨X, hX⟩ : ∃ X, V.alloc (.cells #[.int .i64 0, .int .i64 0, .int .i64 0] 26) = X := ⟨_, rfl⟩
  obtain ⟨D, hD⟩ : ∃ D, V.heap.size = D := ⟨_, rfl⟩
  have HI : Hid (Pz12 w X D (0, 0, 0) (.slice none 0 0) []) := by
    rw [← hX, ← hD]
    exact ⟨heap_alloc_new _ _, OwnR.nil _ _, fun q h => by (cases h), (heap_alloc_old _ _ _ hVl).trans HX2.out.1, below_more HX2.out.2 (gAlloc _ _), hVl⟩
  clear HX2 hVl
  have c0 : X.cell? ⟨D, 0, none⟩ = some (.int .i64 0) := cell_of_row _ _ 0 _ _ _ HI.out.box
  have c1 : X.cell? ⟨D, 1, none⟩ = some (.int .i64 0) := cell_of_row _ _ 1 _ _ _ HI.out.box
  have c2 : X.cell? ⟨D, 2, none⟩ = some (.int .i64 0) := cell_of_row _ _ 2 _ _ _ HI.out.box
  have g0 := frozen_of_row X _ 0 _ _ HI.out.box
  have g1 := frozen_of_row X _ 1 _ _ HI.out.box
  have g2 := frozen_of_row X _ 2 _ _ HI.out.box
  go_wp2_with fail
  clear hX hD c0 c1 c2 g0 g1 g2
  go_loopg [23, 6] l.length (fun gk i d wr => ∃ j : Nat, j + gk = l.length ∧ i = .int .i64 j ∧ Pz12 w wr D (plT (l.take j)) d (plS (0, 0, 0) (l.take j)))
  case atStart => exact ⟨0, by omega, rfl, HI.out.put (0, 0, 0)⟩
  case round =>
    obtain ⟨j, hgk, rfl, hP⟩ := hrel
    by_cases hlt : j < l.length
    case neg =>
      obtain rfl : j = l.length := by omega
      have hji : ¬ (l.length : Int) < (l.length : Int) := by omega
      rw [List.take_of_length_le (Nat.le_refl _)] at hP
      obtain ⟨⟨ta, tu, tq⟩, hT⟩ : ∃ t, plT l = t := ⟨_, rfl⟩
      rw [hT] at hP
      have HT := Lib.hid hT
      have HP := Lib.hid hP
      have x0 : wr.cell? ⟨D, 0, none⟩ = some (.int .i64 ta) := cell_of_row _ _ 0 _ _ _ hP.box
      have x1 : wr.cell? ⟨D, 1, none⟩ = some (.int .i64 tu) := cell_of_row _ _ 1 _ _ _ hP.box
      have x2 : wr.cell? ⟨D, 2, none⟩ = some (.int .i64 tq) := cell_of_row _ _ 2 _ _ _ hP.box
      have b0 := cell_of_row wr _ 0 _ _ _ hP.res
      have b1 := cell_of_row wr _ 1 _ _ _ hP.res
      have b2 := cell_of_row wr _ 2 _ _ _ hP.res
      have f0 := frozen_of_row wr _ 0 _ _ hP.res
      have f1 := frozen_of_row wr _ 1 _ _ hP.res
      have f2 := frozen_of_row wr _ 2 _ _ hP.res
      clear hP hT HI hgk hlt
      go_wp2_with fail
      refine ret_ls3 rfl w.heap.size ta tu tq u6 (.bool true) rfl rfl rfl (ls_stored HP.out.res _ _ _) rfl ⟨u6, by rw [HE.out.1, HE.out.2.2, HT.out], ?_, below_ls HP.out.bel (Nat.le_refl _) _ _ _⟩
      rw [HE.out.2.1]
      refine (HP.out.all.kept (gLs wr w.heap.size _ _ _) ?_).lower (by omega)
      cases hq : u6.ownBlock with
      | none => exact Or.inl rfl
      | some q => exact Or.inr (by intro e; injection e with e; have := (HP.out.all.lt q hq).1; omega)
    have hji : (j : Int) < (l.length : Int) := by omega
    have hgood := plT_good (l.take j)
    have hbl := plS_len (l.take j) (0, 0, 0)
    rw [List.length_take] at hbl
    have HG1 := Lib.hid (plT_snoc hlt)
    have HD1 := Lib.hid (plS_snoc hlt)
    obtain ⟨b, o, rfl, q0, q1, q2, q3⟩ := Zp_at (HA0.out.below hP.bel) hlt
    obtain ⟨⟨k, wh, nw, lg⟩, hx⟩ : ∃ x, l[j] = x := ⟨_, rfl⟩
    rw [hx] at q0 q1 q2 q3 HG1 HD1
    obtain ⟨⟨ta, tu, tq⟩, hT⟩ : ∃ t, plT (l.take j) = t := ⟨_, rfl⟩
    obtain ⟨bs, hbs⟩ : ∃ x, plS (0, 0, 0) (l.take j) = x := ⟨_, rfl⟩
    rw [hT] at hP hgood HG1 HD1
    rw [hbs] at hP hbl HD1
    have hbs40 : bs.length ≤ 40 := by omega
    clear hx hT hbs hbl HI
    have HP := Lib.hid hP
    have HGK : Hid (l.length - j - 1 < gk ∧ j + 1 + (l.length - j - 1) = l.length) := by show _ ∧ _; omega
    clear hP hgk
    obtain ⟨wg, hwg⟩ : ∃ wg, wr.alloc (.cells #[.int .i64 k, .int .i64 wh, .int .i64 nw, .int .i64 lg] 34) = wg := ⟨_, rfl⟩
    have hbg : Below wr.heap.size wr wg := by rw [← hwg]; exact gAlloc _ _
    have HPg := Lib.hid (HP.out.on hbg)
    have HSt := Lib.hid (iStepL ta tu tq k wh nw lg wg)
    have G2 : wg.heap[wr.heap.size]? = some (.cells #[.int .i64 k, .int .i64 wh, .int .i64 nw, .int .i64 lg] 34 (0, 0)) := by rw [← hwg]; exact heap_alloc_new _ _
    have y0 : wg.cell? ⟨D, 0, none⟩ = some (.int .i64 ta) := cell_of_row _ _ 0 _ _ _ HPg.out.box
    have y1 : wg.cell? ⟨D, 1, none⟩ = some (.int .i64 tu) := cell_of_row _ _ 1 _ _ _ HPg.out.box
    have y2 : wg.cell? ⟨D, 2, none⟩ = some (.int .i64 tq) := cell_of_row _ _ 2 _ _ _ HPg.out.box
    have v0 : wg.cell? ⟨wr.heap.size, 0, none⟩ = some (.int .i64 k) := cell_of_row _ _ 0 _ _ _ G2
    have v1 : wg.cell? ⟨wr.heap.size, 1, none⟩ = some (.int .i64 wh) := cell_of_row _ _ 1 _ _ _ G2
    have v2 : wg.cell? ⟨wr.heap.size, 2, none⟩ = some (.int .i64 nw) := cell_of_row _ _ 2 _ _ _ G2
    have v3 : wg.cell? ⟨wr.heap.size, 3, none⟩ = some (.int .i64 lg) := cell_of_row _ _ 3 _ _ _ G2
    clear hbg HP G2
    have HE2 : Hid (plT (l.take (j + 1)) = lzL ta tu tq k wh nw lg ∧ plS (0, 0, 0) (l.take (j + 1)) = bs ++ [lzL ta tu tq k wh nw lg]) := ⟨HG1.out, HD1.out⟩
    clear HG1 HD1
    cases hok : lzOk ta tu tq k wh nw lg
    · have HN := Lib.hid (sl_not12 (show goodZB ta tu tq = true from hgood) hok)
      rw [HN.out.1, HN.out.2.1] at HSt
      rw [HN.out.2.2] at HE2
      clear HN hok hgood
      go_wp2_with fail
      refine HSt.out.mono ?_
      clear HSt hwg q0 q1 q2 q3 y0 y1 y2 v0 v1 v2 v3
      rintro e w2 ⟨rfl, hb2⟩
      have HP2 := Lib.hid (HPg.out.on hb2)
      have HP4 : Hid (Pz12 w (w2.alloc (.cells #[.int .i64 0, .int .i64 0, .int .i64 0] 26)) D (ta, tu, tq) u6 bs) := HP2.out.on (gAlloc _ _)
      have t0 : (w2.alloc (.cells #[.int .i64 0, .int .i64 0, .int .i64 0] 26)).cell? ⟨D, 0, none⟩ = some (.int .i64 ta) := cell_of_row _ _ 0 _ _ _ HP4.out.box
      have t1 : (w2.alloc (.cells #[.int .i64 0, .int .i64 0, .int .i64 0] 26)).cell? ⟨D, 1, none⟩ = some (.int .i64 tu) := cell_of_row _ _ 1 _ _ _ HP4.out.box
      have t2 : (w2.alloc (.cells #[.int .i64 0, .int .i64 0, .int .i64 0] 26)).cell? ⟨D, 2, none⟩ = some (.int .i64 tq) := cell_of_row _ _ 2 _ _ _ HP4.out.box
      go_wp2_with (at_builtin; go_loud (refine app_Za (w2.alloc (.cells #[.int .i64 0, .int .i64 0, .int .i64 0] 26)) (w.heap.size + 1) _ bs (ta, tu, tq) (w2.heap.size + 1) (by simp) rfl _ _ rfl rfl rfl HP4.out.all (by have := HP4.out.lt; have := heap_lt HP4.out.box; omega) (by omega) (w2.alloc (.cells #[.int .i64 0, .int .i64 0, .int .i64 0] 26)) (Below.refl _ _) ?_; intro d' w4 J))
      go_roundg (l.length - j - 1)
      case measure => exact HGK.out.1
      case rel => exact ⟨j + 1, HGK.out.2, by go_num, by rw [HE2.out.1, HE2.out.2]; exact HP4.out.app J.out⟩
    · have HN := Lib.hid (sl_yes12 (show goodZB ta tu tq = true from hgood) hok)
      rw [HN.out.1, HN.out.2] at HSt
      clear HN hok hgood
      obtain ⟨⟨na, nu, nq⟩, hN⟩ : ∃ T, lzL ta tu tq k wh nw lg = T := ⟨_, rfl⟩
      rw [hN] at HE2 HSt
      clear hN
      go_wp2_with fail
      refine HSt.out.mono ?_
      clear HSt hwg q0 q1 q2 q3 y0 y1 y2 v0 v1 v2 v3
      rintro e w2 ⟨rfl, hb2⟩
      have HP2 := Lib.hid (HPg.out.on hb2)
      obtain ⟨w3, hw3⟩ : ∃ w3, w2.alloc (.cells #[.int .i64 na, .int .i64 nu, .int .i64 nq] 26) = w3 := ⟨_, rfl⟩
      have HP3 : Hid (Pz12 w w3 D (ta, tu, tq) u6 bs) := by rw [← hw3]; exact HP2.out.on (gAlloc _ _)
      have hY : w3.heap[w2.heap.size]? = some (.cells #[.int .i64 na, .int .i64 nu, .int .i64 nq] 26 (0, 0)) := by rw [← hw3]; exact heap_alloc_new _ _
      have p0 : w3.cell? ⟨w2.heap.size, 0, none⟩ = some (.int .i64 na) := cell_of_row _ _ 0 _ _ _ hY
      have p1 : w3.cell? ⟨w2.heap.size, 1, none⟩ = some (.int .i64 nu) := cell_of_row _ _ 1 _ _ _ hY
      have p2 : w3.cell? ⟨w2.heap.size, 2, none⟩ = some (.int .i64 nq) := cell_of_row _ _ 2 _ _ _ hY
      have c0 := cell_of_row w3 _ 0 _ _ _ HP3.out.box
      have c1 := cell_of_row w3 _ 1 _ _ _ HP3.out.box
      have c2 := cell_of_row w3 _ 2 _ _ _ HP3.out.box
      have f0 := frozen_of_row w3 _ 0 _ _ HP3.out.box
      have f1 := frozen_of_row w3 _ 1 _ _ HP3.out.box
      have f2 := frozen_of_row w3 _ 2 _ _ HP3.out.box
      have HPp := Lib.hid (HP3.out.put (na, nu, nq))
      obtain ⟨w4, hw4⟩ : ∃ w4, (((w3.setCell ⟨D, 0, none⟩ (.int .i64 na)).setCell ⟨D, 1, none⟩ (.int .i64 nu)).setCell ⟨D, 2, none⟩ (.int .i64 nq)) = w4 := ⟨_, rfl⟩
      have HP4 : Hid (Pz12 w w4 D (na, nu, nq) u6 bs) := by rw [← hw4]; exact HPp.out
      have t0 : w4.cell? ⟨D, 0, none⟩ = some (.int .i64 na) := cell_of_row _ _ 0 _ _ _ HP4.out.box
      have t1 : w4.cell? ⟨D, 1, none⟩ = some (.int .i64 nu) := cell_of_row _ _ 1 _ _ _ HP4.out.box
      have t2 : w4.cell? ⟨D, 2, none⟩ = some (.int .i64 nq) := cell_of_row _ _ 2 _ _ _ HP4.out.box
      clear HPp hY
      go_wp2_with (at_builtin; go_loud (refine app_Za w4 (w.heap.size + 1) _ bs (na, nu, nq) w4.heap.size rfl rfl _ _ rfl rfl rfl HP4.out.all (by have := HP4.out.lt; have := heap_lt HP4.out.box; omega) (by omega) w4 (Below.refl _ _) ?_; intro d' w5 J))
      go_roundg (l.length - j - 1)
      case measure => exact HGK.out.1
      case rel => exact ⟨j + 1, HGK.out.2, by go_num, by rw [HE2.out.1, HE2.out.2]; exact HP4.out.app J.out⟩
end Go.Proofs.Ythmnenejfonfgaa
