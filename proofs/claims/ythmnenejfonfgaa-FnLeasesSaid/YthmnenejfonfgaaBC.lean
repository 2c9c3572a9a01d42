/-
  The model of chapter 12, second part: l12Step, StepLease.
-/
import Derived.Test.YthmnenejfonfgaaBB
namespace Go.Proofs.Ythmnenejfonfgaa
open Go.RowKit

def askB (a u nw lg : Int) : Bool := inB lg 1 100 && !(decide (0 < heldL a u (max 0 (nw - 3))))
def renB (a u wh nw lg : Int) : Bool := inB lg 1 100 && (heldL a u nw == wh)
def endB (a wh lg : Int) : Bool := (lg == 0) && (a == wh)
/-- What a step makes of a lease. -/
def lzT (a u q k wh nw lg : Int) : Int × Int × Int := if k = 1 then (wh, nw + lg, q + 1) else if k = 2 then (a, max u (nw + lg), q) else (0, 0, q)
def lzMay (a u k wh nw lg : Int) : Bool := if k = 1 then askB a u nw lg else if k = 2 then renB a u wh nw lg else if k = 3 then endB a wh lg else false
def lzOk (a u q k wh nw lg : Int) : Bool := (ckB nw && inB wh 1 9) && (lzMay a u k wh nw lg && goodZB (lzT a u q k wh nw lg).1 (lzT a u q k wh nw lg).2.1 (lzT a u q k wh nw lg).2.2)
def lzL (a u q k wh nw lg : Int) : Int × Int × Int := if lzOk a u q k wh nw lg = true then lzT a u q k wh nw lg else (a, u, q)
theorem lz_no {a u q k wh nw lg : Int} (h : lzOk a u q k wh nw lg = false) : lzL a u q k wh nw lg = (a, u, q) ∧ lzOk a u q k wh nw lg = false := ⟨by rw [lzL, h]; rfl, h⟩
theorem lz_yes {a u q k wh nw lg : Int} (h : lzOk a u q k wh nw lg = true) : lzL a u q k wh nw lg = lzT a u q k wh nw lg ∧ lzOk a u q k wh nw lg = true := ⟨by rw [lzL, h]; rfl, h⟩
theorem quiet12 {P : Program} {f : FuncId} {args : Array Value} {w : World} {n : Nat} {v : Value} (h : Calls P f args (w.drewN n) fun e w' => e = .returned v ∧ w.drewN n = w') : Calls P f args (w.drewN n) fun e w'' => e = .returned v ∧ ∃ m, w'' = w.drewN m :=
  h.mono fun _ _ ⟨he, hw⟩ => ⟨he, n, hw.symm⟩
theorem wrap12 (z : Int) (h0 : -1000000 ≤ z) (h1 : z ≤ 1000000) : IntKind.i64.wrap z = z := by
  unfold IntKind.wrap; simp [IntKind.bits, IntKind.signed]; omega
theorem end_no {a u wh nw lg : Int} (h : ¬ (lg = 0 ∧ a = wh)) : lzMay a u 3 wh nw lg = false := by
  show endB a wh lg = false
  rw [endB]; by_cases h1 : lg = 0
  · have h2 : ¬ a = wh := fun e => h ⟨h1, e⟩
    simp [h2]
  · simp [h1]
theorem end_yes {a u wh nw lg : Int} (h1 : lg = 0) (h2 : a = wh) : lzMay a u 3 wh nw lg = true := by
  show endB a wh lg = true
  rw [endB]; simp [h1, h2]
theorem oth_no {a u k wh nw lg : Int} (h1 : ¬ k = 1) (h2 : ¬ k = 2) (h3 : ¬ k = 3) : lzMay a u k wh nw lg = false := by simp [lzMay, h1, h2, h3]
theorem ask_no1 {a u wh nw lg : Int} (h : inB lg 1 100 = false) : lzMay a u 1 wh nw lg = false := by show askB a u nw lg = false; rw [askB, h]; rfl
theorem ask_no2 {a u wh nw lg : Int} (h : 0 < heldL a u (max 0 (nw - 3))) : lzMay a u 1 wh nw lg = false := by show askB a u nw lg = false; rw [askB]; simp [h]
theorem ask_yes {a u wh nw lg : Int} (h1 : inB lg 1 100 = true) (h : ¬ 0 < heldL a u (max 0 (nw - 3))) : lzMay a u 1 wh nw lg = true := by show askB a u nw lg = true; rw [askB, h1]; simpa using h
theorem ren_no1 {a u wh nw lg : Int} (h : inB lg 1 100 = false) : lzMay a u 2 wh nw lg = false := by show renB a u wh nw lg = false; rw [renB, h]; rfl
theorem ren_no2 {a u wh nw lg : Int} (h : ¬ heldL a u nw = wh) : lzMay a u 2 wh nw lg = false := by show renB a u wh nw lg = false; rw [renB]; simp [h]
theorem ren_yes {a u wh nw lg : Int} (h1 : inB lg 1 100 = true) (h : heldL a u nw = wh) : lzMay a u 2 wh nw lg = true := by show renB a u wh nw lg = true; rw [renB, h1, h]; simp
theorem lzG1 (a u q wh nw lg : Int) : lzT a u q 1 wh nw lg = (wh, nw + lg, q + 1) := rfl
theorem lzG2 (a u q wh nw lg : Int) : lzT a u q 2 wh nw lg = (a, max u (nw + lg), q) := rfl
theorem lzG3 (a u q wh nw lg : Int) : lzT a u q 3 wh nw lg = (0, 0, q) := rfl
theorem infoLs : (Try.prog.info? 26).map (·.size) = some 3 := by kernel_rfl
theorem ret_ls2 {fn : Func} {p q : Tmp} (h : fn.results = #[.cell p 26, .tmp q]) {R : Ending → World → Prop} {c : Act} {w : World} (g : Nat) (x y z : Int) (b : Bool) (hp : c.tmps.getD p undef = .pointer (some ⟨g, 0, none⟩)) (hu : c.tmps.getD q undef = .bool b)
    (hg : w.heap[g]? = some (.cells #[.int .i64 x, .int .i64 y, .int .i64 z] 26 (0, 0))) (hd : c.defers = []) (hR : R (.returned (.tuple #[lsW x y z, .bool b])) w) : bodyPost Try.prog fn R .ret c w := by
  refine bodyPost_ret ?_ hd hR
  have hp' : c.tmps[p]?.getD undef = .pointer (some ⟨g, 0, none⟩) := by simpa using hp
  have hu' : c.tmps[q]?.getD undef = .bool b := by simpa using hu
  rw [results_cell_tmp h]
  simp [hp', hu', asAddr, run_loadVar_row w g 26 26 #[.int .i64 x, .int .i64 y, .int .i64 z] (0, 0) _ hg Try.underlying26 rfl infoLs]
theorem ls_stored {w : World} {X : Nat} {x y z : Value} {t : TypeId} (h : w.heap[X]? = some (.cells #[x, y, z] t (0, 0))) (x' y' z' : Value) :
    (((w.setCell ⟨X, 0, none⟩ x').setCell ⟨X, 1, none⟩ y').setCell ⟨X, 2, none⟩ z').heap[X]? = some (.cells #[x', y', z'] t (0, 0)) := heap_setCell_same _ _ 2 _ _ _ (heap_setCell_same _ _ 1 _ _ _ (heap_setCell_same _ _ 0 _ _ _ h))
theorem gSetL (w : World) (X j : Nat) (u : Value) : w.grownBy (w.setCell ⟨X, j, none⟩ u) (some X) :=
  ⟨rfl, rfl, rfl, by simp, fun k _ hk => heap_setCell_other w ⟨X, j, none⟩ k u (fun e => hk (by rw [e]))⟩
theorem gLs (w : World) (X : Nat) (x y z : Value) : w.grownBy (((w.setCell ⟨X, 0, none⟩ x).setCell ⟨X, 1, none⟩ y).setCell ⟨X, 2, none⟩ z) (some X) := grownBy_trans (grownBy_trans (gSetL w X 0 x) (gSetL _ X 1 y)) (gSetL _ X 2 z)
theorem below_ls {n X : Nat} {w w' : World} (hb : Below n w w') (h : n ≤ X) (x y z : Value) : Below n w (((w'.setCell ⟨X, 0, none⟩ x).setCell ⟨X, 1, none⟩ y).setCell ⟨X, 2, none⟩ z) := ((hb.setCell h _).setCell h _).setCell h _
/-- In the midst of a step: the lease's box, the step's, the answer's, and the new lease's in block D. -/
structure St12 (w wr : World) (D : Nat) (a u q k wh nw lg o0 o1 o2 : Int) : Prop where
  ls : wr.heap[w.heap.size]? = some (.cells #[.int .i64 a, .int .i64 u, .int .i64 q] 26 (0, 0))
  sp : wr.heap[w.heap.size + 1]? = some (.cells #[.int .i64 k, .int .i64 wh, .int .i64 nw, .int .i64 lg] 34 (0, 0))
  rs : wr.heap[w.heap.size + 1 + 1]? = some (.cells #[.int .i64 0, .int .i64 0, .int .i64 0] 26 (0, 0))
  ou : wr.heap[D]? = some (.cells #[.int .i64 o0, .int .i64 o1, .int .i64 o2] 26 (0, 0))
  bel : Below w.heap.size w wr
  lt : w.heap.size + 1 + 1 < D
theorem St12.on {w wr w2 : World} {D : Nat} {a u q k wh nw lg o0 o1 o2 : Int} (h : St12 w wr D a u q k wh nw lg o0 o1 o2) (hb : Below wr.heap.size wr w2) : St12 w w2 D a u q k wh nw lg o0 o1 o2 :=
  ⟨(hb.block _ (heap_lt h.ls)).trans h.ls, (hb.block _ (heap_lt h.sp)).trans h.sp, (hb.block _ (heap_lt h.rs)).trans h.rs, (hb.block _ (heap_lt h.ou)).trans h.ou, below_more h.bel hb, h.lt⟩
theorem St12.turn {w wr w2 : World} {D : Nat} {a u q k wh nw lg o0 o1 o2 p0 p1 p2 : Int} (h : St12 w wr D a u q k wh nw lg o0 o1 o2) (hg : wr.grownBy w2 (some D)) (ho : w2.heap[D]? = some (.cells #[.int .i64 p0, .int .i64 p1, .int .i64 p2] 26 (0, 0))) (hb : Below w.heap.size w w2) : St12 w w2 D a u q k wh nw lg p0 p1 p2 := by
  have hl := h.lt
  exact ⟨(hg.block _ (heap_lt h.ls) (by intro e; injection e with e; omega)).trans h.ls, (hg.block _ (heap_lt h.sp) (by intro e; injection e with e; omega)).trans h.sp, (hg.block _ (heap_lt h.rs) (by intro e; injection e with e; omega)).trans h.rs, ho, hb, hl⟩
set_option maxRecDepth 100000 in
set_option maxHeartbeats 4000000 in
theorem sStep12 (a u q k wh nw lg : Int) (w : World) (hgood : goodZB a u q = true) :
    Calls Try.prog 43 #[lsW a u q, lpV (k, wh, nw, lg)] w fun e w' => e = .returned (.tuple #[lsW (lzL a u q k wh nw lg).1 (lzL a u q k wh nw lg).2.1 (lzL a u q k wh nw lg).2.2, .bool (lzOk a u q k wh nw lg)]) ∧ Below w.heap.size w w' := by
  obtain ⟨W, hW⟩ : ∃ W, ((w.alloc (.cells #[.int .i64 a, .int .i64 u, .int .i64 q] 26)).alloc (.cells #[.int .i64 k, .int .i64 wh, .int .i64 nw, .int .i64 lg] 34)).alloc (.cells #[.int .i64 0, .int .i64 0, .int .i64 0] 26) = W := ⟨_, rfl⟩
  have hsW : W.heap.size = w.heap.size + 3 := by rw [← hW]; simp
  have hbW : Below w.heap.size w W := by rw [← hW]; exact ((gAlloc w _).alloc (by simp) _).alloc (by simp; omega) _
  have h1 : W.heap[w.heap.size]? = some (.cells #[.int .i64 a, .int .i64 u, .int .i64 q] 26 (0, 0)) := by rw [← hW, heap_alloc_old _ _ _ (by simp; omega), heap_alloc_old _ _ _ (by simp)]; exact heap_alloc_new _ _
  have h2 : W.heap[w.heap.size + 1]? = some (.cells #[.int .i64 k, .int .i64 wh, .int .i64 nw, .int .i64 lg] 34 (0, 0)) := by rw [← hW, heap_alloc_old _ _ _ (by simp), show w.heap.size + 1 = (w.alloc (.cells #[.int .i64 a, .int .i64 u, .int .i64 q] 26)).heap.size by simp]; exact heap_alloc_new _ _
  have h3 : W.heap[w.heap.size + 1 + 1]? = some (.cells #[.int .i64 0, .int .i64 0, .int .i64 0] 26 (0, 0)) := by rw [← hW, show w.heap.size + 1 + 1 = ((w.alloc (.cells #[.int .i64 a, .int .i64 u, .int .i64 q] 26)).alloc (.cells #[.int .i64 k, .int .i64 wh, .int .i64 nw, .int .i64 lg] 34)).heap.size by simp]; exact heap_alloc_new _ _
  have HB := Lib.hid hbW
  have HH := Lib.hid (And.intro h1 (And.intro h2 h3))
  have HC := Lib.hid (fun w => sClock12 nw w)
  have HIw := Lib.hid (fun w => l1In_any wh 1 9 w)
  have HIl := Lib.hid (fun w => l1In_any lg 1 100 w)
  clear hbW h1 h2 h3
  cases hc : ckB nw
  · have HE := Lib.hid (lz_no (show lzOk a u q k wh nw lg = false by rw [lzOk, hc]; rfl))
    rw [hc] at HC
    clear hc
    have x0 : W.cell? ⟨w.heap.size, 0, none⟩ = some (.int .i64 a) := cell_of_row _ _ 0 _ _ _ HH.out.1
    have x1 : W.cell? ⟨w.heap.size, 1, none⟩ = some (.int .i64 u) := cell_of_row _ _ 1 _ _ _ HH.out.1
    have x2 : W.cell? ⟨w.heap.size, 2, none⟩ = some (.int .i64 q) := cell_of_row _ _ 2 _ _ _ HH.out.1
    have s0 : W.cell? ⟨w.heap.size + 1, 0, none⟩ = some (.int .i64 k) := cell_of_row _ _ 0 _ _ _ HH.out.2.1
    have s1 : W.cell? ⟨w.heap.size + 1, 1, none⟩ = some (.int .i64 wh) := cell_of_row _ _ 1 _ _ _ HH.out.2.1
    have s2 : W.cell? ⟨w.heap.size + 1, 2, none⟩ = some (.int .i64 nw) := cell_of_row _ _ 2 _ _ _ HH.out.2.1
    have s3 : W.cell? ⟨w.heap.size + 1, 3, none⟩ = some (.int .i64 lg) := cell_of_row _ _ 3 _ _ _ HH.out.2.1
    have z0 : W.cell? ⟨w.heap.size + 1 + 1, 0, none⟩ = some (.int .i64 0) := cell_of_row _ _ 0 _ _ _ HH.out.2.2
    have zf0 := frozen_of_row W _ 0 _ _ HH.out.2.2
    have z1 : W.cell? ⟨w.heap.size + 1 + 1, 1, none⟩ = some (.int .i64 0) := cell_of_row _ _ 1 _ _ _ HH.out.2.2
    have zf1 := frozen_of_row W _ 1 _ _ HH.out.2.2
    have z2 : W.cell? ⟨w.heap.size + 1 + 1, 2, none⟩ = some (.int .i64 0) := cell_of_row _ _ 2 _ _ _ HH.out.2.2
    have zf2 := frozen_of_row W _ 2 _ _ HH.out.2.2
    clear hgood
    go_enter Try.func43, Try.ntmps43
    go_wp2_with fail
    refine (HC.out _).mono ?_
    rintro e w' ⟨rfl, rfl⟩
    go_wp2_with fail
    refine ret_ls2 rfl (w.heap.size + 1 + 1) a u q false rfl rfl (ls_stored HH.out.2.2 _ _ _) rfl ⟨by rw [HE.out.1, HE.out.2], below_ls HB.out (by omega) _ _ _⟩
  · cases hi : inB wh 1 9
    · have HE := Lib.hid (lz_no (show lzOk a u q k wh nw lg = false by rw [lzOk, hc, hi]; rfl))
      rw [hc] at HC
      rw [hi] at HIw
      clear hc hi
      have x0 : W.cell? ⟨w.heap.size, 0, none⟩ = some (.int .i64 a) := cell_of_row _ _ 0 _ _ _ HH.out.1
      have x1 : W.cell? ⟨w.heap.size, 1, none⟩ = some (.int .i64 u) := cell_of_row _ _ 1 _ _ _ HH.out.1
      have x2 : W.cell? ⟨w.heap.size, 2, none⟩ = some (.int .i64 q) := cell_of_row _ _ 2 _ _ _ HH.out.1
      have s0 : W.cell? ⟨w.heap.size + 1, 0, none⟩ = some (.int .i64 k) := cell_of_row _ _ 0 _ _ _ HH.out.2.1
      have s1 : W.cell? ⟨w.heap.size + 1, 1, none⟩ = some (.int .i64 wh) := cell_of_row _ _ 1 _ _ _ HH.out.2.1
      have s2 : W.cell? ⟨w.heap.size + 1, 2, none⟩ = some (.int .i64 nw) := cell_of_row _ _ 2 _ _ _ HH.out.2.1
      have s3 : W.cell? ⟨w.heap.size + 1, 3, none⟩ = some (.int .i64 lg) := cell_of_row _ _ 3 _ _ _ HH.out.2.1
      have z0 : W.cell? ⟨w.heap.size + 1 + 1, 0, none⟩ = some (.int .i64 0) := cell_of_row _ _ 0 _ _ _ HH.out.2.2
      have zf0 := frozen_of_row W _ 0 _ _ HH.out.2.2
      have z1 : W.cell? ⟨w.heap.size + 1 + 1, 1, none⟩ = some (.int .i64 0) := cell_of_row _ _ 1 _ _ _ HH.out.2.2
      have zf1 := frozen_of_row W _ 1 _ _ HH.out.2.2
      have z2 : W.cell? ⟨w.heap.size + 1 + 1, 2, none⟩ = some (.int .i64 0) := cell_of_row _ _ 2 _ _ _ HH.out.2.2
      have zf2 := frozen_of_row W _ 2 _ _ HH.out.2.2
      clear hgood
      go_enter Try.func43, Try.ntmps43
      go_wp2_with fail
      refine (HC.out _).mono ?_
      rintro e w' ⟨rfl, rfl⟩
      go_wp2_with fail
      refine (HIw.out _).mono ?_
      rintro e w' ⟨rfl, rfl⟩
      go_wp2_with fail
      refine ret_ls2 rfl (w.heap.size + 1 + 1) a u q false rfl rfl (ls_stored HH.out.2.2 _ _ _) rfl ⟨by rw [HE.out.1, HE.out.2], below_ls HB.out (by omega) _ _ _⟩
    · have hn := inB_andL (show inB nw 0 10000 = true from hc)
      obtain ⟨n0, n1⟩ := hn
      have hwh := inB_andL hi
      obtain ⟨i0, i1⟩ := hwh
      obtain ⟨g1, g2, g3, g4, g5, g6, -⟩ := gls_ok hgood
      have HOk : Hid (lzOk a u q k wh nw lg = (lzMay a u k wh nw lg && goodZB (lzT a u q k wh nw lg).1 (lzT a u q k wh nw lg).2.1 (lzT a u q k wh nw lg).2.2)) := by show _ = _; rw [lzOk, hc, hi]; rfl
      rw [hc] at HC
      rw [hi] at HIw
      clear hc hi hgood
      obtain ⟨V, hV⟩ : ∃ V, W.alloc (.cells #[.int .i64 a, .int .i64 u, .int .i64 q] 26) = V := ⟨_, rfl⟩
      obtain ⟨D, hD⟩ : ∃ D, W.heap.size = D := ⟨_, rfl⟩
      have HS : Hid (St12 w V D a u q k wh nw lg a u q) := by
        rw [← hV, ← hD]
        have hb := gAlloc W (.cells #[.int .i64 a, .int .i64 u, .int .i64 q] 26)
        exact ⟨(hb.block _ (heap_lt HH.out.1)).trans HH.out.1, (hb.block _ (heap_lt HH.out.2.1)).trans HH.out.2.1, (hb.block _ (heap_lt HH.out.2.2)).trans HH.out.2.2, heap_alloc_new _ _, below_more HB.out hb, by omega⟩
      clear hsW
      by_cases k3 : k = 3
      · subst k3
        by_cases e1 : lg = 0 ∧ a = wh
        case neg =>
          have HE := Lib.hid (lz_no (show lzOk a u q 3 wh nw lg = false by rw [HOk.out, end_no e1]; rfl))
          by_cases hl0 : lg = 0
          · have hb1 : (lg != 0) = false := by simpa using hl0
            have hb2 : (a != wh) = true := by simpa using fun h2 => e1 ⟨hl0, h2⟩
            clear hl0 e1 HOk
            have x0 : W.cell? ⟨w.heap.size, 0, none⟩ = some (.int .i64 a) := cell_of_row _ _ 0 _ _ _ HH.out.1
            have x1 : W.cell? ⟨w.heap.size, 1, none⟩ = some (.int .i64 u) := cell_of_row _ _ 1 _ _ _ HH.out.1
            have x2 : W.cell? ⟨w.heap.size, 2, none⟩ = some (.int .i64 q) := cell_of_row _ _ 2 _ _ _ HH.out.1
            have s0 : W.cell? ⟨w.heap.size + 1, 0, none⟩ = some (.int .i64 3) := cell_of_row _ _ 0 _ _ _ HH.out.2.1
            have s1 : W.cell? ⟨w.heap.size + 1, 1, none⟩ = some (.int .i64 wh) := cell_of_row _ _ 1 _ _ _ HH.out.2.1
            have s2 : W.cell? ⟨w.heap.size + 1, 2, none⟩ = some (.int .i64 nw) := cell_of_row _ _ 2 _ _ _ HH.out.2.1
            have s3 : W.cell? ⟨w.heap.size + 1, 3, none⟩ = some (.int .i64 lg) := cell_of_row _ _ 3 _ _ _ HH.out.2.1
            have z0 : W.cell? ⟨w.heap.size + 1 + 1, 0, none⟩ = some (.int .i64 0) := cell_of_row _ _ 0 _ _ _ HH.out.2.2
            have zf0 := frozen_of_row W _ 0 _ _ HH.out.2.2
            have z1 : W.cell? ⟨w.heap.size + 1 + 1, 1, none⟩ = some (.int .i64 0) := cell_of_row _ _ 1 _ _ _ HH.out.2.2
            have zf1 := frozen_of_row W _ 1 _ _ HH.out.2.2
            have z2 : W.cell? ⟨w.heap.size + 1 + 1, 2, none⟩ = some (.int .i64 0) := cell_of_row _ _ 2 _ _ _ HH.out.2.2
            have zf2 := frozen_of_row W _ 2 _ _ HH.out.2.2
            have x0 : V.cell? ⟨w.heap.size, 0, none⟩ = some (.int .i64 a) := cell_of_row _ _ 0 _ _ _ HS.out.ls
            have x1 : V.cell? ⟨w.heap.size, 1, none⟩ = some (.int .i64 u) := cell_of_row _ _ 1 _ _ _ HS.out.ls
            have x2 : V.cell? ⟨w.heap.size, 2, none⟩ = some (.int .i64 q) := cell_of_row _ _ 2 _ _ _ HS.out.ls
            have s0 : V.cell? ⟨w.heap.size + 1, 0, none⟩ = some (.int .i64 3) := cell_of_row _ _ 0 _ _ _ HS.out.sp
            have s1 : V.cell? ⟨w.heap.size + 1, 1, none⟩ = some (.int .i64 wh) := cell_of_row _ _ 1 _ _ _ HS.out.sp
            have s2 : V.cell? ⟨w.heap.size + 1, 2, none⟩ = some (.int .i64 nw) := cell_of_row _ _ 2 _ _ _ HS.out.sp
            have s3 : V.cell? ⟨w.heap.size + 1, 3, none⟩ = some (.int .i64 lg) := cell_of_row _ _ 3 _ _ _ HS.out.sp
            have z0 : V.cell? ⟨w.heap.size + 1 + 1, 0, none⟩ = some (.int .i64 0) := cell_of_row _ _ 0 _ _ _ HS.out.rs
            have zf0 := frozen_of_row V _ 0 _ _ HS.out.rs
            have z1 : V.cell? ⟨w.heap.size + 1 + 1, 1, none⟩ = some (.int .i64 0) := cell_of_row _ _ 1 _ _ _ HS.out.rs
            have zf1 := frozen_of_row V _ 1 _ _ HS.out.rs
            have z2 : V.cell? ⟨w.heap.size + 1 + 1, 2, none⟩ = some (.int .i64 0) := cell_of_row _ _ 2 _ _ _ HS.out.rs
            have zf2 := frozen_of_row V _ 2 _ _ HS.out.rs
            have o0 : V.cell? ⟨D, 0, none⟩ = some (.int .i64 a) := cell_of_row _ _ 0 _ _ _ HS.out.ou
            have of0 := frozen_of_row V _ 0 _ _ HS.out.ou
            have o1 : V.cell? ⟨D, 1, none⟩ = some (.int .i64 u) := cell_of_row _ _ 1 _ _ _ HS.out.ou
            have of1 := frozen_of_row V _ 1 _ _ HS.out.ou
            have o2 : V.cell? ⟨D, 2, none⟩ = some (.int .i64 q) := cell_of_row _ _ 2 _ _ _ HS.out.ou
            have of2 := frozen_of_row V _ 2 _ _ HS.out.ou
            go_enter Try.func43, Try.ntmps43
            go_wp2_with fail
            refine (HC.out _).mono ?_
            rintro e w' ⟨rfl, rfl⟩
            go_wp2_with fail
            refine (HIw.out _).mono ?_
            rintro e w' ⟨rfl, rfl⟩
            go_wp2_with fail
            refine ret_ls2 rfl (w.heap.size + 1 + 1) a u q false rfl rfl (ls_stored HS.out.rs _ _ _) rfl ⟨by rw [HE.out.1, HE.out.2], below_ls HS.out.bel (by omega) _ _ _⟩
          · have hb1 : (lg != 0) = true := by simpa using hl0
            clear hl0 e1 HOk
            have x0 : W.cell? ⟨w.heap.size, 0, none⟩ = some (.int .i64 a) := cell_of_row _ _ 0 _ _ _ HH.out.1
            have x1 : W.cell? ⟨w.heap.size, 1, none⟩ = some (.int .i64 u) := cell_of_row _ _ 1 _ _ _ HH.out.1
            have x2 : W.cell? ⟨w.heap.size, 2, none⟩ = some (.int .i64 q) := cell_of_row _ _ 2 _ _ _ HH.out.1
            have s0 : W.cell? ⟨w.heap.size + 1, 0, none⟩ = some (.int .i64 3) := cell_of_row _ _ 0 _ _ _ HH.out.2.1
            have s1 : W.cell? ⟨w.heap.size + 1, 1, none⟩ = some (.int .i64 wh) := cell_of_row _ _ 1 _ _ _ HH.out.2.1
            have s2 : W.cell? ⟨w.heap.size + 1, 2, none⟩ = some (.int .i64 nw) := cell_of_row _ _ 2 _ _ _ HH.out.2.1
            have s3 : W.cell? ⟨w.heap.size + 1, 3, none⟩ = some (.int .i64 lg) := cell_of_row _ _ 3 _ _ _ HH.out.2.1
            have z0 : W.cell? ⟨w.heap.size + 1 + 1, 0, none⟩ = some (.int .i64 0) := cell_of_row _ _ 0 _ _ _ HH.out.2.2
            have zf0 := frozen_of_row W _ 0 _ _ HH.out.2.2
            have z1 : W.cell? ⟨w.heap.size + 1 + 1, 1, none⟩ = some (.int .i64 0) := cell_of_row _ _ 1 _ _ _ HH.out.2.2
            have zf1 := frozen_of_row W _ 1 _ _ HH.out.2.2
            have z2 : W.cell? ⟨w.heap.size + 1 + 1, 2, none⟩ = some (.int .i64 0) := cell_of_row _ _ 2 _ _ _ HH.out.2.2
            have zf2 := frozen_of_row W _ 2 _ _ HH.out.2.2
            have x0 : V.cell? ⟨w.heap.size, 0, none⟩ = some (.int .i64 a) := cell_of_row _ _ 0 _ _ _ HS.out.ls
            have x1 : V.cell? ⟨w.heap.size, 1, none⟩ = some (.int .i64 u) := cell_of_row _ _ 1 _ _ _ HS.out.ls
            have x2 : V.cell? ⟨w.heap.size, 2, none⟩ = some (.int .i64 q) := cell_of_row _ _ 2 _ _ _ HS.out.ls
            have s0 : V.cell? ⟨w.heap.size + 1, 0, none⟩ = some (.int .i64 3) := cell_of_row _ _ 0 _ _ _ HS.out.sp
            have s1 : V.cell? ⟨w.heap.size + 1, 1, none⟩ = some (.int .i64 wh) := cell_of_row _ _ 1 _ _ _ HS.out.sp
            have s2 : V.cell? ⟨w.heap.size + 1, 2, none⟩ = some (.int .i64 nw) := cell_of_row _ _ 2 _ _ _ HS.out.sp
            have s3 : V.cell? ⟨w.heap.size + 1, 3, none⟩ = some (.int .i64 lg) := cell_of_row _ _ 3 _ _ _ HS.out.sp
            have z0 : V.cell? ⟨w.heap.size + 1 + 1, 0, none⟩ = some (.int .i64 0) := cell_of_row _ _ 0 _ _ _ HS.out.rs
            have zf0 := frozen_of_row V _ 0 _ _ HS.out.rs
            have z1 : V.cell? ⟨w.heap.size + 1 + 1, 1, none⟩ = some (.int .i64 0) := cell_of_row _ _ 1 _ _ _ HS.out.rs
            have zf1 := frozen_of_row V _ 1 _ _ HS.out.rs
            have z2 : V.cell? ⟨w.heap.size + 1 + 1, 2, none⟩ = some (.int .i64 0) := cell_of_row _ _ 2 _ _ _ HS.out.rs
            have zf2 := frozen_of_row V _ 2 _ _ HS.out.rs
            have o0 : V.cell? ⟨D, 0, none⟩ = some (.int .i64 a) := cell_of_row _ _ 0 _ _ _ HS.out.ou
            have of0 := frozen_of_row V _ 0 _ _ HS.out.ou
            have o1 : V.cell? ⟨D, 1, none⟩ = some (.int .i64 u) := cell_of_row _ _ 1 _ _ _ HS.out.ou
            have of1 := frozen_of_row V _ 1 _ _ HS.out.ou
            have o2 : V.cell? ⟨D, 2, none⟩ = some (.int .i64 q) := cell_of_row _ _ 2 _ _ _ HS.out.ou
            have of2 := frozen_of_row V _ 2 _ _ HS.out.ou
            go_enter Try.func43, Try.ntmps43
            go_wp2_with fail
            refine (HC.out _).mono ?_
            rintro e w' ⟨rfl, rfl⟩
            go_wp2_with fail
            refine (HIw.out _).mono ?_
            rintro e w' ⟨rfl, rfl⟩
            go_wp2_with fail
            refine ret_ls2 rfl (w.heap.size + 1 + 1) a u q false rfl rfl (ls_stored HS.out.rs _ _ _) rfl ⟨by rw [HE.out.1, HE.out.2], below_ls HS.out.bel (by omega) _ _ _⟩
        obtain ⟨e1, e2⟩ := e1
        have hM := Lib.hid (end_yes (u := u) (nw := nw) e1 e2)
        have hb1 : (lg != 0) = false := by simpa using e1
        have hb2 : (a != wh) = false := by simpa using e2
        clear e1 e2
        have HS2 : Hid (St12 w (((V.setCell ⟨D, 0, none⟩ (.int .i64 (0))).setCell ⟨D, 1, none⟩ (.int .i64 (0))).setCell ⟨D, 2, none⟩ (.int .i64 (q))) D a u q 3 wh nw lg (0) (0) (q)) := HS.out.turn (gLs _ _ _ _ _) (ls_stored HS.out.ou _ _ _) (below_ls HS.out.bel (by have := HS.out.lt; omega) _ _ _)
        have x0 : W.cell? ⟨w.heap.size, 0, none⟩ = some (.int .i64 a) := cell_of_row _ _ 0 _ _ _ HH.out.1
        have x1 : W.cell? ⟨w.heap.size, 1, none⟩ = some (.int .i64 u) := cell_of_row _ _ 1 _ _ _ HH.out.1
        have x2 : W.cell? ⟨w.heap.size, 2, none⟩ = some (.int .i64 q) := cell_of_row _ _ 2 _ _ _ HH.out.1
        have s0 : W.cell? ⟨w.heap.size + 1, 0, none⟩ = some (.int .i64 3) := cell_of_row _ _ 0 _ _ _ HH.out.2.1
        have s1 : W.cell? ⟨w.heap.size + 1, 1, none⟩ = some (.int .i64 wh) := cell_of_row _ _ 1 _ _ _ HH.out.2.1
        have s2 : W.cell? ⟨w.heap.size + 1, 2, none⟩ = some (.int .i64 nw) := cell_of_row _ _ 2 _ _ _ HH.out.2.1
        have s3 : W.cell? ⟨w.heap.size + 1, 3, none⟩ = some (.int .i64 lg) := cell_of_row _ _ 3 _ _ _ HH.out.2.1
        have z0 : W.cell? ⟨w.heap.size + 1 + 1, 0, none⟩ = some (.int .i64 0) := cell_of_row _ _ 0 _ _ _ HH.out.2.2
        have zf0 := frozen_of_row W _ 0 _ _ HH.out.2.2
        have z1 : W.cell? ⟨w.heap.size + 1 + 1, 1, none⟩ = some (.int .i64 0) := cell_of_row _ _ 1 _ _ _ HH.out.2.2
        have zf1 := frozen_of_row W _ 1 _ _ HH.out.2.2
        have z2 : W.cell? ⟨w.heap.size + 1 + 1, 2, none⟩ = some (.int .i64 0) := cell_of_row _ _ 2 _ _ _ HH.out.2.2
        have zf2 := frozen_of_row W _ 2 _ _ HH.out.2.2
        have x0 : V.cell? ⟨w.heap.size, 0, none⟩ = some (.int .i64 a) := cell_of_row _ _ 0 _ _ _ HS.out.ls
        have x1 : V.cell? ⟨w.heap.size, 1, none⟩ = some (.int .i64 u) := cell_of_row _ _ 1 _ _ _ HS.out.ls
        have x2 : V.cell? ⟨w.heap.size, 2, none⟩ = some (.int .i64 q) := cell_of_row _ _ 2 _ _ _ HS.out.ls
        have s0 : V.cell? ⟨w.heap.size + 1, 0, none⟩ = some (.int .i64 3) := cell_of_row _ _ 0 _ _ _ HS.out.sp
        have s1 : V.cell? ⟨w.heap.size + 1, 1, none⟩ = some (.int .i64 wh) := cell_of_row _ _ 1 _ _ _ HS.out.sp
        have s2 : V.cell? ⟨w.heap.size + 1, 2, none⟩ = some (.int .i64 nw) := cell_of_row _ _ 2 _ _ _ HS.out.sp
        have s3 : V.cell? ⟨w.heap.size + 1, 3, none⟩ = some (.int .i64 lg) := cell_of_row _ _ 3 _ _ _ HS.out.sp
        have z0 : V.cell? ⟨w.heap.size + 1 + 1, 0, none⟩ = some (.int .i64 0) := cell_of_row _ _ 0 _ _ _ HS.out.rs
        have zf0 := frozen_of_row V _ 0 _ _ HS.out.rs
        have z1 : V.cell? ⟨w.heap.size + 1 + 1, 1, none⟩ = some (.int .i64 0) := cell_of_row _ _ 1 _ _ _ HS.out.rs
        have zf1 := frozen_of_row V _ 1 _ _ HS.out.rs
        have z2 : V.cell? ⟨w.heap.size + 1 + 1, 2, none⟩ = some (.int .i64 0) := cell_of_row _ _ 2 _ _ _ HS.out.rs
        have zf2 := frozen_of_row V _ 2 _ _ HS.out.rs
        have o0 : V.cell? ⟨D, 0, none⟩ = some (.int .i64 a) := cell_of_row _ _ 0 _ _ _ HS.out.ou
        have of0 := frozen_of_row V _ 0 _ _ HS.out.ou
        have o1 : V.cell? ⟨D, 1, none⟩ = some (.int .i64 u) := cell_of_row _ _ 1 _ _ _ HS.out.ou
        have of1 := frozen_of_row V _ 1 _ _ HS.out.ou
        have o2 : V.cell? ⟨D, 2, none⟩ = some (.int .i64 q) := cell_of_row _ _ 2 _ _ _ HS.out.ou
        have of2 := frozen_of_row V _ 2 _ _ HS.out.ou
        go_enter Try.func43, Try.ntmps43
        go_wp2_with fail
        refine (HC.out _).mono ?_
        rintro e w' ⟨rfl, rfl⟩
        go_wp2_with fail
        refine (HIw.out _).mono ?_
        rintro e w' ⟨rfl, rfl⟩
        obtain ⟨V2, hV2⟩ : ∃ V2, (((V.setCell ⟨D, 0, none⟩ (.int .i64 0)).setCell ⟨D, 1, none⟩ (.int .i64 0)).setCell ⟨D, 2, none⟩ (.int .i64 q)) = V2 := ⟨_, rfl⟩
        rw [hV2] at HS2
        have HG := Lib.hid (sGoodL (0) (0) (q) V2)
        have x0 : V2.cell? ⟨w.heap.size, 0, none⟩ = some (.int .i64 a) := cell_of_row _ _ 0 _ _ _ HS2.out.ls
        have x1 : V2.cell? ⟨w.heap.size, 1, none⟩ = some (.int .i64 u) := cell_of_row _ _ 1 _ _ _ HS2.out.ls
        have x2 : V2.cell? ⟨w.heap.size, 2, none⟩ = some (.int .i64 q) := cell_of_row _ _ 2 _ _ _ HS2.out.ls
        have s0 : V2.cell? ⟨w.heap.size + 1, 0, none⟩ = some (.int .i64 3) := cell_of_row _ _ 0 _ _ _ HS2.out.sp
        have s1 : V2.cell? ⟨w.heap.size + 1, 1, none⟩ = some (.int .i64 wh) := cell_of_row _ _ 1 _ _ _ HS2.out.sp
        have s2 : V2.cell? ⟨w.heap.size + 1, 2, none⟩ = some (.int .i64 nw) := cell_of_row _ _ 2 _ _ _ HS2.out.sp
        have s3 : V2.cell? ⟨w.heap.size + 1, 3, none⟩ = some (.int .i64 lg) := cell_of_row _ _ 3 _ _ _ HS2.out.sp
        have z0 : V2.cell? ⟨w.heap.size + 1 + 1, 0, none⟩ = some (.int .i64 0) := cell_of_row _ _ 0 _ _ _ HS2.out.rs
        have zf0 := frozen_of_row V2 _ 0 _ _ HS2.out.rs
        have z1 : V2.cell? ⟨w.heap.size + 1 + 1, 1, none⟩ = some (.int .i64 0) := cell_of_row _ _ 1 _ _ _ HS2.out.rs
        have zf1 := frozen_of_row V2 _ 1 _ _ HS2.out.rs
        have z2 : V2.cell? ⟨w.heap.size + 1 + 1, 2, none⟩ = some (.int .i64 0) := cell_of_row _ _ 2 _ _ _ HS2.out.rs
        have zf2 := frozen_of_row V2 _ 2 _ _ HS2.out.rs
        have o0 : V2.cell? ⟨D, 0, none⟩ = some (.int .i64 (0)) := cell_of_row _ _ 0 _ _ _ HS2.out.ou
        have of0 := frozen_of_row V2 _ 0 _ _ HS2.out.ou
        have o1 : V2.cell? ⟨D, 1, none⟩ = some (.int .i64 (0)) := cell_of_row _ _ 1 _ _ _ HS2.out.ou
        have of1 := frozen_of_row V2 _ 1 _ _ HS2.out.ou
        have o2 : V2.cell? ⟨D, 2, none⟩ = some (.int .i64 (q)) := cell_of_row _ _ 2 _ _ _ HS2.out.ou
        have of2 := frozen_of_row V2 _ 2 _ _ HS2.out.ou
        cases hgo : goodZB (0) (0) (q)
        · have HE := Lib.hid (lz_no (show lzOk a u q 3 wh nw lg = false by rw [HOk.out, hM.out, Bool.true_and, lzG3]; exact hgo))
          rw [hgo] at HG
          clear hgo HOk
          go_wp2_with (go_at_call 26; go_loud (refine HG.out.mono ?_); rintro e w9 ⟨rfl, hb9⟩; have H9 := HS2.out.on hb9; have y0 := cell_of_row w9 _ 0 _ _ _ H9.ls; have y1 := cell_of_row w9 _ 1 _ _ _ H9.ls; have y2 := cell_of_row w9 _ 2 _ _ _ H9.ls; have v0 := cell_of_row w9 _ 0 _ _ _ H9.rs; have vf0 := frozen_of_row w9 _ 0 _ _ H9.rs; have v1 := cell_of_row w9 _ 1 _ _ _ H9.rs; have vf1 := frozen_of_row w9 _ 1 _ _ H9.rs; have v2 := cell_of_row w9 _ 2 _ _ _ H9.rs; have vf2 := frozen_of_row w9 _ 2 _ _ H9.rs; have t0 := cell_of_row w9 _ 0 _ _ _ H9.ou; have t1 := cell_of_row w9 _ 1 _ _ _ H9.ou; have t2 := cell_of_row w9 _ 2 _ _ _ H9.ou)
          refine ret_ls2 rfl (w.heap.size + 1 + 1) a u q false rfl rfl (ls_stored H9.rs _ _ _) rfl ⟨by rw [HE.out.1, HE.out.2], below_ls H9.bel (by omega) _ _ _⟩
        · have HE := Lib.hid (lz_yes (show lzOk a u q 3 wh nw lg = true by rw [HOk.out, hM.out, Bool.true_and, lzG3]; exact hgo))
          rw [hgo] at HG
          clear hgo HOk
          go_wp2_with (go_at_call 26; go_loud (refine HG.out.mono ?_); rintro e w9 ⟨rfl, hb9⟩; have H9 := HS2.out.on hb9; have y0 := cell_of_row w9 _ 0 _ _ _ H9.ls; have y1 := cell_of_row w9 _ 1 _ _ _ H9.ls; have y2 := cell_of_row w9 _ 2 _ _ _ H9.ls; have v0 := cell_of_row w9 _ 0 _ _ _ H9.rs; have vf0 := frozen_of_row w9 _ 0 _ _ H9.rs; have v1 := cell_of_row w9 _ 1 _ _ _ H9.rs; have vf1 := frozen_of_row w9 _ 1 _ _ H9.rs; have v2 := cell_of_row w9 _ 2 _ _ _ H9.rs; have vf2 := frozen_of_row w9 _ 2 _ _ H9.rs; have t0 := cell_of_row w9 _ 0 _ _ _ H9.ou; have t1 := cell_of_row w9 _ 1 _ _ _ H9.ou; have t2 := cell_of_row w9 _ 2 _ _ _ H9.ou)
          refine ret_ls2 rfl (w.heap.size + 1 + 1) (0) (0) (q) true rfl rfl (ls_stored H9.rs _ _ _) rfl ⟨by rw [HE.out.1, HE.out.2, lzG3], below_ls H9.bel (by omega) _ _ _⟩
      by_cases k1 : k = 1
      · subst k1
        cases hlg : inB lg 1 100
        · have HE := Lib.hid (lz_no (show lzOk a u q 1 wh nw lg = false by rw [HOk.out, ask_no1 hlg]; rfl))
          rw [hlg] at HIl
          clear hlg HOk
          have x0 : W.cell? ⟨w.heap.size, 0, none⟩ = some (.int .i64 a) := cell_of_row _ _ 0 _ _ _ HH.out.1
          have x1 : W.cell? ⟨w.heap.size, 1, none⟩ = some (.int .i64 u) := cell_of_row _ _ 1 _ _ _ HH.out.1
          have x2 : W.cell? ⟨w.heap.size, 2, none⟩ = some (.int .i64 q) := cell_of_row _ _ 2 _ _ _ HH.out.1
          have s0 : W.cell? ⟨w.heap.size + 1, 0, none⟩ = some (.int .i64 1) := cell_of_row _ _ 0 _ _ _ HH.out.2.1
          have s1 : W.cell? ⟨w.heap.size + 1, 1, none⟩ = some (.int .i64 wh) := cell_of_row _ _ 1 _ _ _ HH.out.2.1
          have s2 : W.cell? ⟨w.heap.size + 1, 2, none⟩ = some (.int .i64 nw) := cell_of_row _ _ 2 _ _ _ HH.out.2.1
          have s3 : W.cell? ⟨w.heap.size + 1, 3, none⟩ = some (.int .i64 lg) := cell_of_row _ _ 3 _ _ _ HH.out.2.1
          have z0 : W.cell? ⟨w.heap.size + 1 + 1, 0, none⟩ = some (.int .i64 0) := cell_of_row _ _ 0 _ _ _ HH.out.2.2
          have zf0 := frozen_of_row W _ 0 _ _ HH.out.2.2
          have z1 : W.cell? ⟨w.heap.size + 1 + 1, 1, none⟩ = some (.int .i64 0) := cell_of_row _ _ 1 _ _ _ HH.out.2.2
          have zf1 := frozen_of_row W _ 1 _ _ HH.out.2.2
          have z2 : W.cell? ⟨w.heap.size + 1 + 1, 2, none⟩ = some (.int .i64 0) := cell_of_row _ _ 2 _ _ _ HH.out.2.2
          have zf2 := frozen_of_row W _ 2 _ _ HH.out.2.2
          have x0 : V.cell? ⟨w.heap.size, 0, none⟩ = some (.int .i64 a) := cell_of_row _ _ 0 _ _ _ HS.out.ls
          have x1 : V.cell? ⟨w.heap.size, 1, none⟩ = some (.int .i64 u) := cell_of_row _ _ 1 _ _ _ HS.out.ls
          have x2 : V.cell? ⟨w.heap.size, 2, none⟩ = some (.int .i64 q) := cell_of_row _ _ 2 _ _ _ HS.out.ls
          have s0 : V.cell? ⟨w.heap.size + 1, 0, none⟩ = some (.int .i64 1) := cell_of_row _ _ 0 _ _ _ HS.out.sp
          have s1 : V.cell? ⟨w.heap.size + 1, 1, none⟩ = some (.int .i64 wh) := cell_of_row _ _ 1 _ _ _ HS.out.sp
          have s2 : V.cell? ⟨w.heap.size + 1, 2, none⟩ = some (.int .i64 nw) := cell_of_row _ _ 2 _ _ _ HS.out.sp
          have s3 : V.cell? ⟨w.heap.size + 1, 3, none⟩ = some (.int .i64 lg) := cell_of_row _ _ 3 _ _ _ HS.out.sp
          have z0 : V.cell? ⟨w.heap.size + 1 + 1, 0, none⟩ = some (.int .i64 0) := cell_of_row _ _ 0 _ _ _ HS.out.rs
          have zf0 := frozen_of_row V _ 0 _ _ HS.out.rs
          have z1 : V.cell? ⟨w.heap.size + 1 + 1, 1, none⟩ = some (.int .i64 0) := cell_of_row _ _ 1 _ _ _ HS.out.rs
          have zf1 := frozen_of_row V _ 1 _ _ HS.out.rs
          have z2 : V.cell? ⟨w.heap.size + 1 + 1, 2, none⟩ = some (.int .i64 0) := cell_of_row _ _ 2 _ _ _ HS.out.rs
          have zf2 := frozen_of_row V _ 2 _ _ HS.out.rs
          have o0 : V.cell? ⟨D, 0, none⟩ = some (.int .i64 a) := cell_of_row _ _ 0 _ _ _ HS.out.ou
          have of0 := frozen_of_row V _ 0 _ _ HS.out.ou
          have o1 : V.cell? ⟨D, 1, none⟩ = some (.int .i64 u) := cell_of_row _ _ 1 _ _ _ HS.out.ou
          have of1 := frozen_of_row V _ 1 _ _ HS.out.ou
          have o2 : V.cell? ⟨D, 2, none⟩ = some (.int .i64 q) := cell_of_row _ _ 2 _ _ _ HS.out.ou
          have of2 := frozen_of_row V _ 2 _ _ HS.out.ou
          go_enter Try.func43, Try.ntmps43
          go_wp2_with fail
          refine (HC.out _).mono ?_
          rintro e w' ⟨rfl, rfl⟩
          go_wp2_with fail
          refine (HIw.out _).mono ?_
          rintro e w' ⟨rfl, rfl⟩
          go_wp2_with fail
          go_quiet (first
            | (go_at_call 50; exact quiet12 (HIl.out _)))
          go_wp2_with fail
          refine ret_ls2 rfl (w.heap.size + 1 + 1) a u q false rfl rfl (ls_stored HS.out.rs _ _ _) rfl ⟨by rw [HE.out.1, HE.out.2], below_ls (below_more HS.out.bel (gDrewN _)) (by omega) _ _ _⟩
        · have hlb := inB_andL hlg
          obtain ⟨l0, l1⟩ := hlb
          obtain ⟨h, hh⟩ : ∃ h, heldL a u (max 0 (nw - 3)) = h := ⟨_, rfl⟩
          have HHd := Lib.hid (fun w => sHeldL a u q (max 0 (nw - 3)) w)
          rw [hh] at HHd
          have HN := Lib.hid (fun (e : 0 < h) => lz_no (show lzOk a u q 1 wh nw lg = false by rw [HOk.out, ask_no2 (by rw [hh]; exact e)]; rfl))
          have HM := Lib.hid (fun (e : ¬ 0 < h) => ask_yes (wh := wh) hlg (by rw [hh]; exact e))
          rw [hlg] at HIl
          clear hlg hh
          have x0 : W.cell? ⟨w.heap.size, 0, none⟩ = some (.int .i64 a) := cell_of_row _ _ 0 _ _ _ HH.out.1
          have x1 : W.cell? ⟨w.heap.size, 1, none⟩ = some (.int .i64 u) := cell_of_row _ _ 1 _ _ _ HH.out.1
          have x2 : W.cell? ⟨w.heap.size, 2, none⟩ = some (.int .i64 q) := cell_of_row _ _ 2 _ _ _ HH.out.1
          have s0 : W.cell? ⟨w.heap.size + 1, 0, none⟩ = some (.int .i64 1) := cell_of_row _ _ 0 _ _ _ HH.out.2.1
          have s1 : W.cell? ⟨w.heap.size + 1, 1, none⟩ = some (.int .i64 wh) := cell_of_row _ _ 1 _ _ _ HH.out.2.1
          have s2 : W.cell? ⟨w.heap.size + 1, 2, none⟩ = some (.int .i64 nw) := cell_of_row _ _ 2 _ _ _ HH.out.2.1
          have s3 : W.cell? ⟨w.heap.size + 1, 3, none⟩ = some (.int .i64 lg) := cell_of_row _ _ 3 _ _ _ HH.out.2.1
          have z0 : W.cell? ⟨w.heap.size + 1 + 1, 0, none⟩ = some (.int .i64 0) := cell_of_row _ _ 0 _ _ _ HH.out.2.2
          have zf0 := frozen_of_row W _ 0 _ _ HH.out.2.2
          have z1 : W.cell? ⟨w.heap.size + 1 + 1, 1, none⟩ = some (.int .i64 0) := cell_of_row _ _ 1 _ _ _ HH.out.2.2
          have zf1 := frozen_of_row W _ 1 _ _ HH.out.2.2
          have z2 : W.cell? ⟨w.heap.size + 1 + 1, 2, none⟩ = some (.int .i64 0) := cell_of_row _ _ 2 _ _ _ HH.out.2.2
          have zf2 := frozen_of_row W _ 2 _ _ HH.out.2.2
          have x0 : V.cell? ⟨w.heap.size, 0, none⟩ = some (.int .i64 a) := cell_of_row _ _ 0 _ _ _ HS.out.ls
          have x1 : V.cell? ⟨w.heap.size, 1, none⟩ = some (.int .i64 u) := cell_of_row _ _ 1 _ _ _ HS.out.ls
          have x2 : V.cell? ⟨w.heap.size, 2, none⟩ = some (.int .i64 q) := cell_of_row _ _ 2 _ _ _ HS.out.ls
          have s0 : V.cell? ⟨w.heap.size + 1, 0, none⟩ = some (.int .i64 1) := cell_of_row _ _ 0 _ _ _ HS.out.sp
          have s1 : V.cell? ⟨w.heap.size + 1, 1, none⟩ = some (.int .i64 wh) := cell_of_row _ _ 1 _ _ _ HS.out.sp
          have s2 : V.cell? ⟨w.heap.size + 1, 2, none⟩ = some (.int .i64 nw) := cell_of_row _ _ 2 _ _ _ HS.out.sp
          have s3 : V.cell? ⟨w.heap.size + 1, 3, none⟩ = some (.int .i64 lg) := cell_of_row _ _ 3 _ _ _ HS.out.sp
          have z0 : V.cell? ⟨w.heap.size + 1 + 1, 0, none⟩ = some (.int .i64 0) := cell_of_row _ _ 0 _ _ _ HS.out.rs
          have zf0 := frozen_of_row V _ 0 _ _ HS.out.rs
          have z1 : V.cell? ⟨w.heap.size + 1 + 1, 1, none⟩ = some (.int .i64 0) := cell_of_row _ _ 1 _ _ _ HS.out.rs
          have zf1 := frozen_of_row V _ 1 _ _ HS.out.rs
          have z2 : V.cell? ⟨w.heap.size + 1 + 1, 2, none⟩ = some (.int .i64 0) := cell_of_row _ _ 2 _ _ _ HS.out.rs
          have zf2 := frozen_of_row V _ 2 _ _ HS.out.rs
          have o0 : V.cell? ⟨D, 0, none⟩ = some (.int .i64 a) := cell_of_row _ _ 0 _ _ _ HS.out.ou
          have of0 := frozen_of_row V _ 0 _ _ HS.out.ou
          have o1 : V.cell? ⟨D, 1, none⟩ = some (.int .i64 u) := cell_of_row _ _ 1 _ _ _ HS.out.ou
          have of1 := frozen_of_row V _ 1 _ _ HS.out.ou
          have o2 : V.cell? ⟨D, 2, none⟩ = some (.int .i64 q) := cell_of_row _ _ 2 _ _ _ HS.out.ou
          have of2 := frozen_of_row V _ 2 _ _ HS.out.ou
          go_enter Try.func43, Try.ntmps43
          go_wp2_with fail
          refine (HC.out _).mono ?_
          rintro e w' ⟨rfl, rfl⟩
          go_wp2_with fail
          refine (HIw.out _).mono ?_
          rintro e w' ⟨rfl, rfl⟩
          have hq0 : V.drew.cell? ⟨w.heap.size, 0, none⟩ = some (.int .i64 a) ∧ V.drew.cell? ⟨w.heap.size, 1, none⟩ = some (.int .i64 u) ∧ V.drew.cell? ⟨w.heap.size, 2, none⟩ = some (.int .i64 q) ∧ V.drew.cell? ⟨w.heap.size + 1, 0, none⟩ = some (.int .i64 1) ∧ V.drew.cell? ⟨w.heap.size + 1, 1, none⟩ = some (.int .i64 wh) ∧ V.drew.cell? ⟨w.heap.size + 1, 2, none⟩ = some (.int .i64 nw) ∧ V.drew.cell? ⟨w.heap.size + 1, 3, none⟩ = some (.int .i64 lg) := ⟨cell_of_row V _ 0 _ _ _ HS.out.ls, cell_of_row V _ 1 _ _ _ HS.out.ls, cell_of_row V _ 2 _ _ _ HS.out.ls, cell_of_row V _ 0 _ _ _ HS.out.sp, cell_of_row V _ 1 _ _ _ HS.out.sp, cell_of_row V _ 2 _ _ _ HS.out.sp, cell_of_row V _ 3 _ _ _ HS.out.sp⟩
          have hwr : IntKind.i64.wrap (nw - 3) = nw - 3 := wrap12 _ (by omega) (by omega)
          go_wp2_with fail
          go_region_held3 (fun w' => w'.cell? ⟨w.heap.size, 0, none⟩ = some (.int .i64 a) ∧ w'.cell? ⟨w.heap.size, 1, none⟩ = some (.int .i64 u) ∧ w'.cell? ⟨w.heap.size, 2, none⟩ = some (.int .i64 q) ∧ w'.cell? ⟨w.heap.size + 1, 0, none⟩ = some (.int .i64 1) ∧ w'.cell? ⟨w.heap.size + 1, 1, none⟩ = some (.int .i64 wh) ∧ w'.cell? ⟨w.heap.size + 1, 2, none⟩ = some (.int .i64 nw) ∧ w'.cell? ⟨w.heap.size + 1, 3, none⟩ = some (.int .i64 lg)) (first | with_reducible exact hq0 | with_reducible exact hq4 | (go_loud (fail "KEEP"))) (first
            | (go_at_call 54; refine (HHd.out _).mono ?_; rintro e w4 ⟨rfl, hb4⟩; have hB4 := below_more gDrew hb4; have HS4 := Lib.hid (HS.out.on hB4); have hq4 : w4.cell? ⟨w.heap.size, 0, none⟩ = some (.int .i64 a) ∧ w4.cell? ⟨w.heap.size, 1, none⟩ = some (.int .i64 u) ∧ w4.cell? ⟨w.heap.size, 2, none⟩ = some (.int .i64 q) ∧ w4.cell? ⟨w.heap.size + 1, 0, none⟩ = some (.int .i64 1) ∧ w4.cell? ⟨w.heap.size + 1, 1, none⟩ = some (.int .i64 wh) ∧ w4.cell? ⟨w.heap.size + 1, 2, none⟩ = some (.int .i64 nw) ∧ w4.cell? ⟨w.heap.size + 1, 3, none⟩ = some (.int .i64 lg) := ⟨cell_of_row w4 _ 0 _ _ _ HS4.out.ls, cell_of_row w4 _ 1 _ _ _ HS4.out.ls, cell_of_row w4 _ 2 _ _ _ HS4.out.ls, cell_of_row w4 _ 0 _ _ _ HS4.out.sp, cell_of_row w4 _ 1 _ _ _ HS4.out.sp, cell_of_row w4 _ 2 _ _ _ HS4.out.sp, cell_of_row w4 _ 3 _ _ _ HS4.out.sp⟩)
            | (go_at_call 50; refine (HIl.out _).mono ?_; rintro e w' ⟨rfl, rfl⟩)
            | (go_at_call 51; refine (sMost12 0 (nw - 3) _).mono ?_; rintro e w' ⟨rfl, rfl⟩))
          clear HHd HIl hq0 hq4
          have x0 : w4.cell? ⟨w.heap.size, 0, none⟩ = some (.int .i64 a) := cell_of_row _ _ 0 _ _ _ HS4.out.ls
          have x1 : w4.cell? ⟨w.heap.size, 1, none⟩ = some (.int .i64 u) := cell_of_row _ _ 1 _ _ _ HS4.out.ls
          have x2 : w4.cell? ⟨w.heap.size, 2, none⟩ = some (.int .i64 q) := cell_of_row _ _ 2 _ _ _ HS4.out.ls
          have s0 : w4.cell? ⟨w.heap.size + 1, 0, none⟩ = some (.int .i64 1) := cell_of_row _ _ 0 _ _ _ HS4.out.sp
          have s1 : w4.cell? ⟨w.heap.size + 1, 1, none⟩ = some (.int .i64 wh) := cell_of_row _ _ 1 _ _ _ HS4.out.sp
          have s2 : w4.cell? ⟨w.heap.size + 1, 2, none⟩ = some (.int .i64 nw) := cell_of_row _ _ 2 _ _ _ HS4.out.sp
          have s3 : w4.cell? ⟨w.heap.size + 1, 3, none⟩ = some (.int .i64 lg) := cell_of_row _ _ 3 _ _ _ HS4.out.sp
          have z0 : w4.cell? ⟨w.heap.size + 1 + 1, 0, none⟩ = some (.int .i64 0) := cell_of_row _ _ 0 _ _ _ HS4.out.rs
          have zf0 := frozen_of_row w4 _ 0 _ _ HS4.out.rs
          have z1 : w4.cell? ⟨w.heap.size + 1 + 1, 1, none⟩ = some (.int .i64 0) := cell_of_row _ _ 1 _ _ _ HS4.out.rs
          have zf1 := frozen_of_row w4 _ 1 _ _ HS4.out.rs
          have z2 : w4.cell? ⟨w.heap.size + 1 + 1, 2, none⟩ = some (.int .i64 0) := cell_of_row _ _ 2 _ _ _ HS4.out.rs
          have zf2 := frozen_of_row w4 _ 2 _ _ HS4.out.rs
          have o0 : w4.cell? ⟨D, 0, none⟩ = some (.int .i64 a) := cell_of_row _ _ 0 _ _ _ HS4.out.ou
          have of0 := frozen_of_row w4 _ 0 _ _ HS4.out.ou
          have o1 : w4.cell? ⟨D, 1, none⟩ = some (.int .i64 u) := cell_of_row _ _ 1 _ _ _ HS4.out.ou
          have of1 := frozen_of_row w4 _ 1 _ _ HS4.out.ou
          have o2 : w4.cell? ⟨D, 2, none⟩ = some (.int .i64 q) := cell_of_row _ _ 2 _ _ _ HS4.out.ou
          have of2 := frozen_of_row w4 _ 2 _ _ HS4.out.ou
          by_cases hp : 0 < h
          · have HE := Lib.hid (HN.out hp)
            clear HOk HN HM
            go_wp2_with fail
            refine ret_ls2 rfl (w.heap.size + 1 + 1) a u q false rfl rfl (ls_stored HS4.out.rs _ _ _) rfl ⟨by rw [HE.out.1, HE.out.2], below_ls HS4.out.bel (by omega) _ _ _⟩
          · have hM := Lib.hid (HM.out (by omega))
            clear HN HM
            have HS2 : Hid (St12 w (((w4.setCell ⟨D, 0, none⟩ (.int .i64 (wh))).setCell ⟨D, 1, none⟩ (.int .i64 (nw + lg))).setCell ⟨D, 2, none⟩ (.int .i64 (q + 1))) D a u q 1 wh nw lg (wh) (nw + lg) (q + 1)) := HS4.out.turn (gLs _ _ _ _ _) (ls_stored HS4.out.ou _ _ _) (below_ls HS4.out.bel (by have := HS4.out.lt; omega) _ _ _)
            obtain ⟨V2, hV2⟩ : ∃ V2, (((w4.setCell ⟨D, 0, none⟩ (.int .i64 wh)).setCell ⟨D, 1, none⟩ (.int .i64 (nw + lg))).setCell ⟨D, 2, none⟩ (.int .i64 (q + 1))) = V2 := ⟨_, rfl⟩
            rw [hV2] at HS2
            have HG := Lib.hid (sGoodL (wh) (nw + lg) (q + 1) V2)
            have x0 : V2.cell? ⟨w.heap.size, 0, none⟩ = some (.int .i64 a) := cell_of_row _ _ 0 _ _ _ HS2.out.ls
            have x1 : V2.cell? ⟨w.heap.size, 1, none⟩ = some (.int .i64 u) := cell_of_row _ _ 1 _ _ _ HS2.out.ls
            have x2 : V2.cell? ⟨w.heap.size, 2, none⟩ = some (.int .i64 q) := cell_of_row _ _ 2 _ _ _ HS2.out.ls
            have s0 : V2.cell? ⟨w.heap.size + 1, 0, none⟩ = some (.int .i64 1) := cell_of_row _ _ 0 _ _ _ HS2.out.sp
            have s1 : V2.cell? ⟨w.heap.size + 1, 1, none⟩ = some (.int .i64 wh) := cell_of_row _ _ 1 _ _ _ HS2.out.sp
            have s2 : V2.cell? ⟨w.heap.size + 1, 2, none⟩ = some (.int .i64 nw) := cell_of_row _ _ 2 _ _ _ HS2.out.sp
            have s3 : V2.cell? ⟨w.heap.size + 1, 3, none⟩ = some (.int .i64 lg) := cell_of_row _ _ 3 _ _ _ HS2.out.sp
            have z0 : V2.cell? ⟨w.heap.size + 1 + 1, 0, none⟩ = some (.int .i64 0) := cell_of_row _ _ 0 _ _ _ HS2.out.rs
            have zf0 := frozen_of_row V2 _ 0 _ _ HS2.out.rs
            have z1 : V2.cell? ⟨w.heap.size + 1 + 1, 1, none⟩ = some (.int .i64 0) := cell_of_row _ _ 1 _ _ _ HS2.out.rs
            have zf1 := frozen_of_row V2 _ 1 _ _ HS2.out.rs
            have z2 : V2.cell? ⟨w.heap.size + 1 + 1, 2, none⟩ = some (.int .i64 0) := cell_of_row _ _ 2 _ _ _ HS2.out.rs
            have zf2 := frozen_of_row V2 _ 2 _ _ HS2.out.rs
            have o0 : V2.cell? ⟨D, 0, none⟩ = some (.int .i64 (wh)) := cell_of_row _ _ 0 _ _ _ HS2.out.ou
            have of0 := frozen_of_row V2 _ 0 _ _ HS2.out.ou
            have o1 : V2.cell? ⟨D, 1, none⟩ = some (.int .i64 (nw + lg)) := cell_of_row _ _ 1 _ _ _ HS2.out.ou
            have of1 := frozen_of_row V2 _ 1 _ _ HS2.out.ou
            have o2 : V2.cell? ⟨D, 2, none⟩ = some (.int .i64 (q + 1)) := cell_of_row _ _ 2 _ _ _ HS2.out.ou
            have of2 := frozen_of_row V2 _ 2 _ _ HS2.out.ou
            cases hgo : goodZB (wh) (nw + lg) (q + 1)
            · have HE := Lib.hid (lz_no (show lzOk a u q 1 wh nw lg = false by rw [HOk.out, hM.out, Bool.true_and, lzG1]; exact hgo))
              rw [hgo] at HG
              clear hgo HOk
              go_wp2_with (go_at_call 26; go_loud (refine HG.out.mono ?_); rintro e w9 ⟨rfl, hb9⟩; have H9 := HS2.out.on hb9; have y0 := cell_of_row w9 _ 0 _ _ _ H9.ls; have y1 := cell_of_row w9 _ 1 _ _ _ H9.ls; have y2 := cell_of_row w9 _ 2 _ _ _ H9.ls; have v0 := cell_of_row w9 _ 0 _ _ _ H9.rs; have vf0 := frozen_of_row w9 _ 0 _ _ H9.rs; have v1 := cell_of_row w9 _ 1 _ _ _ H9.rs; have vf1 := frozen_of_row w9 _ 1 _ _ H9.rs; have v2 := cell_of_row w9 _ 2 _ _ _ H9.rs; have vf2 := frozen_of_row w9 _ 2 _ _ H9.rs; have t0 := cell_of_row w9 _ 0 _ _ _ H9.ou; have t1 := cell_of_row w9 _ 1 _ _ _ H9.ou; have t2 := cell_of_row w9 _ 2 _ _ _ H9.ou)
              refine ret_ls2 rfl (w.heap.size + 1 + 1) a u q false rfl rfl (ls_stored H9.rs _ _ _) rfl ⟨by rw [HE.out.1, HE.out.2], below_ls H9.bel (by omega) _ _ _⟩
            · have HE := Lib.hid (lz_yes (show lzOk a u q 1 wh nw lg = true by rw [HOk.out, hM.out, Bool.true_and, lzG1]; exact hgo))
              rw [hgo] at HG
              clear hgo HOk
              go_wp2_with (go_at_call 26; go_loud (refine HG.out.mono ?_); rintro e w9 ⟨rfl, hb9⟩; have H9 := HS2.out.on hb9; have y0 := cell_of_row w9 _ 0 _ _ _ H9.ls; have y1 := cell_of_row w9 _ 1 _ _ _ H9.ls; have y2 := cell_of_row w9 _ 2 _ _ _ H9.ls; have v0 := cell_of_row w9 _ 0 _ _ _ H9.rs; have vf0 := frozen_of_row w9 _ 0 _ _ H9.rs; have v1 := cell_of_row w9 _ 1 _ _ _ H9.rs; have vf1 := frozen_of_row w9 _ 1 _ _ H9.rs; have v2 := cell_of_row w9 _ 2 _ _ _ H9.rs; have vf2 := frozen_of_row w9 _ 2 _ _ H9.rs; have t0 := cell_of_row w9 _ 0 _ _ _ H9.ou; have t1 := cell_of_row w9 _ 1 _ _ _ H9.ou; have t2 := cell_of_row w9 _ 2 _ _ _ H9.ou)
              refine ret_ls2 rfl (w.heap.size + 1 + 1) (wh) (nw + lg) (q + 1) true rfl rfl (ls_stored H9.rs _ _ _) rfl ⟨by rw [HE.out.1, HE.out.2, lzG1], below_ls H9.bel (by omega) _ _ _⟩
      by_cases k2 : k = 2
      · subst k2
        cases hlg : inB lg 1 100
        · have HE := Lib.hid (lz_no (show lzOk a u q 2 wh nw lg = false by rw [HOk.out, ren_no1 hlg]; rfl))
          rw [hlg] at HIl
          clear hlg HOk
          have x0 : W.cell? ⟨w.heap.size, 0, none⟩ = some (.int .i64 a) := cell_of_row _ _ 0 _ _ _ HH.out.1
          have x1 : W.cell? ⟨w.heap.size, 1, none⟩ = some (.int .i64 u) := cell_of_row _ _ 1 _ _ _ HH.out.1
          have x2 : W.cell? ⟨w.heap.size, 2, none⟩ = some (.int .i64 q) := cell_of_row _ _ 2 _ _ _ HH.out.1
          have s0 : W.cell? ⟨w.heap.size + 1, 0, none⟩ = some (.int .i64 2) := cell_of_row _ _ 0 _ _ _ HH.out.2.1
          have s1 : W.cell? ⟨w.heap.size + 1, 1, none⟩ = some (.int .i64 wh) := cell_of_row _ _ 1 _ _ _ HH.out.2.1
          have s2 : W.cell? ⟨w.heap.size + 1, 2, none⟩ = some (.int .i64 nw) := cell_of_row _ _ 2 _ _ _ HH.out.2.1
          have s3 : W.cell? ⟨w.heap.size + 1, 3, none⟩ = some (.int .i64 lg) := cell_of_row _ _ 3 _ _ _ HH.out.2.1
          have z0 : W.cell? ⟨w.heap.size + 1 + 1, 0, none⟩ = some (.int .i64 0) := cell_of_row _ _ 0 _ _ _ HH.out.2.2
          have zf0 := frozen_of_row W _ 0 _ _ HH.out.2.2
          have z1 : W.cell? ⟨w.heap.size + 1 + 1, 1, none⟩ = some (.int .i64 0) := cell_of_row _ _ 1 _ _ _ HH.out.2.2
          have zf1 := frozen_of_row W _ 1 _ _ HH.out.2.2
          have z2 : W.cell? ⟨w.heap.size + 1 + 1, 2, none⟩ = some (.int .i64 0) := cell_of_row _ _ 2 _ _ _ HH.out.2.2
          have zf2 := frozen_of_row W _ 2 _ _ HH.out.2.2
          have x0 : V.cell? ⟨w.heap.size, 0, none⟩ = some (.int .i64 a) := cell_of_row _ _ 0 _ _ _ HS.out.ls
          have x1 : V.cell? ⟨w.heap.size, 1, none⟩ = some (.int .i64 u) := cell_of_row _ _ 1 _ _ _ HS.out.ls
          have x2 : V.cell? ⟨w.heap.size, 2, none⟩ = some (.int .i64 q) := cell_of_row _ _ 2 _ _ _ HS.out.ls
          have s0 : V.cell? ⟨w.heap.size + 1, 0, none⟩ = some (.int .i64 2) := cell_of_row _ _ 0 _ _ _ HS.out.sp
          have s1 : V.cell? ⟨w.heap.size + 1, 1, none⟩ = some (.int .i64 wh) := cell_of_row _ _ 1 _ _ _ HS.out.sp
          have s2 : V.cell? ⟨w.heap.size + 1, 2, none⟩ = some (.int .i64 nw) := cell_of_row _ _ 2 _ _ _ HS.out.sp
          have s3 : V.cell? ⟨w.heap.size + 1, 3, none⟩ = some (.int .i64 lg) := cell_of_row _ _ 3 _ _ _ HS.out.sp
          have z0 : V.cell? ⟨w.heap.size + 1 + 1, 0, none⟩ = some (.int .i64 0) := cell_of_row _ _ 0 _ _ _ HS.out.rs
          have zf0 := frozen_of_row V _ 0 _ _ HS.out.rs
          have z1 : V.cell? ⟨w.heap.size + 1 + 1, 1, none⟩ = some (.int .i64 0) := cell_of_row _ _ 1 _ _ _ HS.out.rs
          have zf1 := frozen_of_row V _ 1 _ _ HS.out.rs
          have z2 : V.cell? ⟨w.heap.size + 1 + 1, 2, none⟩ = some (.int .i64 0) := cell_of_row _ _ 2 _ _ _ HS.out.rs
          have zf2 := frozen_of_row V _ 2 _ _ HS.out.rs
          have o0 : V.cell? ⟨D, 0, none⟩ = some (.int .i64 a) := cell_of_row _ _ 0 _ _ _ HS.out.ou
          have of0 := frozen_of_row V _ 0 _ _ HS.out.ou
          have o1 : V.cell? ⟨D, 1, none⟩ = some (.int .i64 u) := cell_of_row _ _ 1 _ _ _ HS.out.ou
          have of1 := frozen_of_row V _ 1 _ _ HS.out.ou
          have o2 : V.cell? ⟨D, 2, none⟩ = some (.int .i64 q) := cell_of_row _ _ 2 _ _ _ HS.out.ou
          have of2 := frozen_of_row V _ 2 _ _ HS.out.ou
          go_enter Try.func43, Try.ntmps43
          go_wp2_with fail
          refine (HC.out _).mono ?_
          rintro e w' ⟨rfl, rfl⟩
          go_wp2_with fail
          refine (HIw.out _).mono ?_
          rintro e w' ⟨rfl, rfl⟩
          go_wp2_with fail
          go_quiet (first
            | (go_at_call 50; exact quiet12 (HIl.out _)))
          go_wp2_with fail
          refine ret_ls2 rfl (w.heap.size + 1 + 1) a u q false rfl rfl (ls_stored HS.out.rs _ _ _) rfl ⟨by rw [HE.out.1, HE.out.2], below_ls (below_more HS.out.bel (gDrewN _)) (by omega) _ _ _⟩
        · have hlb := inB_andL hlg
          obtain ⟨l0, l1⟩ := hlb
          obtain ⟨h, hh⟩ : ∃ h, heldL a u (nw) = h := ⟨_, rfl⟩
          have HHd := Lib.hid (fun w => sHeldL a u q (nw) w)
          rw [hh] at HHd
          have HN := Lib.hid (fun (e : ¬ h = wh) => lz_no (show lzOk a u q 2 wh nw lg = false by rw [HOk.out, ren_no2 (by rw [hh]; exact e)]; rfl))
          have HM := Lib.hid (fun (e : h = wh) => ren_yes (lg := lg) hlg (hh.trans e))
          rw [hlg] at HIl
          clear hlg hh
          have x0 : W.cell? ⟨w.heap.size, 0, none⟩ = some (.int .i64 a) := cell_of_row _ _ 0 _ _ _ HH.out.1
          have x1 : W.cell? ⟨w.heap.size, 1, none⟩ = some (.int .i64 u) := cell_of_row _ _ 1 _ _ _ HH.out.1
          have x2 : W.cell? ⟨w.heap.size, 2, none⟩ = some (.int .i64 q) := cell_of_row _ _ 2 _ _ _ HH.out.1
          have s0 : W.cell? ⟨w.heap.size + 1, 0, none⟩ = some (.int .i64 2) := cell_of_row _ _ 0 _ _ _ HH.out.2.1
          have s1 : W.cell? ⟨w.heap.size + 1, 1, none⟩ = some (.int .i64 wh) := cell_of_row _ _ 1 _ _ _ HH.out.2.1
          have s2 : W.cell? ⟨w.heap.size + 1, 2, none⟩ = some (.int .i64 nw) := cell_of_row _ _ 2 _ _ _ HH.out.2.1
          have s3 : W.cell? ⟨w.heap.size + 1, 3, none⟩ = some (.int .i64 lg) := cell_of_row _ _ 3 _ _ _ HH.out.2.1
          have z0 : W.cell? ⟨w.heap.size + 1 + 1, 0, none⟩ = some (.int .i64 0) := cell_of_row _ _ 0 _ _ _ HH.out.2.2
          have zf0 := frozen_of_row W _ 0 _ _ HH.out.2.2
          have z1 : W.cell? ⟨w.heap.size + 1 + 1, 1, none⟩ = some (.int .i64 0) := cell_of_row _ _ 1 _ _ _ HH.out.2.2
          have zf1 := frozen_of_row W _ 1 _ _ HH.out.2.2
          have z2 : W.cell? ⟨w.heap.size + 1 + 1, 2, none⟩ = some (.int .i64 0) := cell_of_row _ _ 2 _ _ _ HH.out.2.2
          have zf2 := frozen_of_row W _ 2 _ _ HH.out.2.2
          have x0 : V.cell? ⟨w.heap.size, 0, none⟩ = some (.int .i64 a) := cell_of_row _ _ 0 _ _ _ HS.out.ls
          have x1 : V.cell? ⟨w.heap.size, 1, none⟩ = some (.int .i64 u) := cell_of_row _ _ 1 _ _ _ HS.out.ls
          have x2 : V.cell? ⟨w.heap.size, 2, none⟩ = some (.int .i64 q) := cell_of_row _ _ 2 _ _ _ HS.out.ls
          have s0 : V.cell? ⟨w.heap.size + 1, 0, none⟩ = some (.int .i64 2) := cell_of_row _ _ 0 _ _ _ HS.out.sp
          have s1 : V.cell? ⟨w.heap.size + 1, 1, none⟩ = some (.int .i64 wh) := cell_of_row _ _ 1 _ _ _ HS.out.sp
          have s2 : V.cell? ⟨w.heap.size + 1, 2, none⟩ = some (.int .i64 nw) := cell_of_row _ _ 2 _ _ _ HS.out.sp
          have s3 : V.cell? ⟨w.heap.size + 1, 3, none⟩ = some (.int .i64 lg) := cell_of_row _ _ 3 _ _ _ HS.out.sp
          have z0 : V.cell? ⟨w.heap.size + 1 + 1, 0, none⟩ = some (.int .i64 0) := cell_of_row _ _ 0 _ _ _ HS.out.rs
          have zf0 := frozen_of_row V _ 0 _ _ HS.out.rs
          have z1 : V.cell? ⟨w.heap.size + 1 + 1, 1, none⟩ = some (.int .i64 0) := cell_of_row _ _ 1 _ _ _ HS.out.rs
          have zf1 := frozen_of_row V _ 1 _ _ HS.out.rs
          have z2 : V.cell? ⟨w.heap.size + 1 + 1, 2, none⟩ = some (.int .i64 0) := cell_of_row _ _ 2 _ _ _ HS.out.rs
          have zf2 := frozen_of_row V _ 2 _ _ HS.out.rs
          have o0 : V.cell? ⟨D, 0, none⟩ = some (.int .i64 a) := cell_of_row _ _ 0 _ _ _ HS.out.ou
          have of0 := frozen_of_row V _ 0 _ _ HS.out.ou
          have o1 : V.cell? ⟨D, 1, none⟩ = some (.int .i64 u) := cell_of_row _ _ 1 _ _ _ HS.out.ou
          have of1 := frozen_of_row V _ 1 _ _ HS.out.ou
          have o2 : V.cell? ⟨D, 2, none⟩ = some (.int .i64 q) := cell_of_row _ _ 2 _ _ _ HS.out.ou
          have of2 := frozen_of_row V _ 2 _ _ HS.out.ou
          go_enter Try.func43, Try.ntmps43
          go_wp2_with fail
          refine (HC.out _).mono ?_
          rintro e w' ⟨rfl, rfl⟩
          go_wp2_with fail
          refine (HIw.out _).mono ?_
          rintro e w' ⟨rfl, rfl⟩
          have hq0 : V.drew.cell? ⟨w.heap.size, 0, none⟩ = some (.int .i64 a) ∧ V.drew.cell? ⟨w.heap.size, 1, none⟩ = some (.int .i64 u) ∧ V.drew.cell? ⟨w.heap.size, 2, none⟩ = some (.int .i64 q) ∧ V.drew.cell? ⟨w.heap.size + 1, 0, none⟩ = some (.int .i64 2) ∧ V.drew.cell? ⟨w.heap.size + 1, 1, none⟩ = some (.int .i64 wh) ∧ V.drew.cell? ⟨w.heap.size + 1, 2, none⟩ = some (.int .i64 nw) ∧ V.drew.cell? ⟨w.heap.size + 1, 3, none⟩ = some (.int .i64 lg) := ⟨cell_of_row V _ 0 _ _ _ HS.out.ls, cell_of_row V _ 1 _ _ _ HS.out.ls, cell_of_row V _ 2 _ _ _ HS.out.ls, cell_of_row V _ 0 _ _ _ HS.out.sp, cell_of_row V _ 1 _ _ _ HS.out.sp, cell_of_row V _ 2 _ _ _ HS.out.sp, cell_of_row V _ 3 _ _ _ HS.out.sp⟩
          go_wp2_with fail
          go_region_held3 (fun w' => w'.cell? ⟨w.heap.size, 0, none⟩ = some (.int .i64 a) ∧ w'.cell? ⟨w.heap.size, 1, none⟩ = some (.int .i64 u) ∧ w'.cell? ⟨w.heap.size, 2, none⟩ = some (.int .i64 q) ∧ w'.cell? ⟨w.heap.size + 1, 0, none⟩ = some (.int .i64 2) ∧ w'.cell? ⟨w.heap.size + 1, 1, none⟩ = some (.int .i64 wh) ∧ w'.cell? ⟨w.heap.size + 1, 2, none⟩ = some (.int .i64 nw) ∧ w'.cell? ⟨w.heap.size + 1, 3, none⟩ = some (.int .i64 lg)) (first | with_reducible exact hq0 | with_reducible exact hq4 | (go_loud (fail "KEEP"))) (first
            | (go_at_call 54; refine (HHd.out _).mono ?_; rintro e w4 ⟨rfl, hb4⟩; have hB4 := below_more gDrew hb4; have HS4 := Lib.hid (HS.out.on hB4); have hq4 : w4.cell? ⟨w.heap.size, 0, none⟩ = some (.int .i64 a) ∧ w4.cell? ⟨w.heap.size, 1, none⟩ = some (.int .i64 u) ∧ w4.cell? ⟨w.heap.size, 2, none⟩ = some (.int .i64 q) ∧ w4.cell? ⟨w.heap.size + 1, 0, none⟩ = some (.int .i64 2) ∧ w4.cell? ⟨w.heap.size + 1, 1, none⟩ = some (.int .i64 wh) ∧ w4.cell? ⟨w.heap.size + 1, 2, none⟩ = some (.int .i64 nw) ∧ w4.cell? ⟨w.heap.size + 1, 3, none⟩ = some (.int .i64 lg) := ⟨cell_of_row w4 _ 0 _ _ _ HS4.out.ls, cell_of_row w4 _ 1 _ _ _ HS4.out.ls, cell_of_row w4 _ 2 _ _ _ HS4.out.ls, cell_of_row w4 _ 0 _ _ _ HS4.out.sp, cell_of_row w4 _ 1 _ _ _ HS4.out.sp, cell_of_row w4 _ 2 _ _ _ HS4.out.sp, cell_of_row w4 _ 3 _ _ _ HS4.out.sp⟩)
            | (go_at_call 50; refine (HIl.out _).mono ?_; rintro e w' ⟨rfl, rfl⟩))
          clear HHd HIl hq0 hq4
          have x0 : w4.cell? ⟨w.heap.size, 0, none⟩ = some (.int .i64 a) := cell_of_row _ _ 0 _ _ _ HS4.out.ls
          have x1 : w4.cell? ⟨w.heap.size, 1, none⟩ = some (.int .i64 u) := cell_of_row _ _ 1 _ _ _ HS4.out.ls
          have x2 : w4.cell? ⟨w.heap.size, 2, none⟩ = some (.int .i64 q) := cell_of_row _ _ 2 _ _ _ HS4.out.ls
          have s0 : w4.cell? ⟨w.heap.size + 1, 0, none⟩ = some (.int .i64 2) := cell_of_row _ _ 0 _ _ _ HS4.out.sp
          have s1 : w4.cell? ⟨w.heap.size + 1, 1, none⟩ = some (.int .i64 wh) := cell_of_row _ _ 1 _ _ _ HS4.out.sp
          have s2 : w4.cell? ⟨w.heap.size + 1, 2, none⟩ = some (.int .i64 nw) := cell_of_row _ _ 2 _ _ _ HS4.out.sp
          have s3 : w4.cell? ⟨w.heap.size + 1, 3, none⟩ = some (.int .i64 lg) := cell_of_row _ _ 3 _ _ _ HS4.out.sp
          have z0 : w4.cell? ⟨w.heap.size + 1 + 1, 0, none⟩ = some (.int .i64 0) := cell_of_row _ _ 0 _ _ _ HS4.out.rs
          have zf0 := frozen_of_row w4 _ 0 _ _ HS4.out.rs
          have z1 : w4.cell? ⟨w.heap.size + 1 + 1, 1, none⟩ = some (.int .i64 0) := cell_of_row _ _ 1 _ _ _ HS4.out.rs
          have zf1 := frozen_of_row w4 _ 1 _ _ HS4.out.rs
          have z2 : w4.cell? ⟨w.heap.size + 1 + 1, 2, none⟩ = some (.int .i64 0) := cell_of_row _ _ 2 _ _ _ HS4.out.rs
          have zf2 := frozen_of_row w4 _ 2 _ _ HS4.out.rs
          have o0 : w4.cell? ⟨D, 0, none⟩ = some (.int .i64 a) := cell_of_row _ _ 0 _ _ _ HS4.out.ou
          have of0 := frozen_of_row w4 _ 0 _ _ HS4.out.ou
          have o1 : w4.cell? ⟨D, 1, none⟩ = some (.int .i64 u) := cell_of_row _ _ 1 _ _ _ HS4.out.ou
          have of1 := frozen_of_row w4 _ 1 _ _ HS4.out.ou
          have o2 : w4.cell? ⟨D, 2, none⟩ = some (.int .i64 q) := cell_of_row _ _ 2 _ _ _ HS4.out.ou
          have of2 := frozen_of_row w4 _ 2 _ _ HS4.out.ou
          by_cases hp : h = wh
          case neg =>
            have HE := Lib.hid (HN.out hp)
            have hb1 : (h != wh) = true := by simpa using hp
            clear HOk HN HM hp
            go_wp2_with fail
            refine ret_ls2 rfl (w.heap.size + 1 + 1) a u q false rfl rfl (ls_stored HS4.out.rs _ _ _) rfl ⟨by rw [HE.out.1, HE.out.2], below_ls HS4.out.bel (by omega) _ _ _⟩
          have hM := Lib.hid (HM.out hp)
          have hb1 : (h != wh) = false := by simpa using hp
          clear HN HM hp
          have HS2 : Hid (St12 w (w4.setCell ⟨D, 1, none⟩ (.int .i64 (max u (nw + lg)))) D a u q 2 wh nw lg a (max u (nw + lg)) q) := HS4.out.turn (gSetL _ _ _ _) (heap_setCell_same _ _ 1 _ _ _ HS4.out.ou) (HS4.out.bel.setCell (by have := HS4.out.lt; show w.heap.size ≤ D; omega) _)
          obtain ⟨V2, hV2⟩ : ∃ V2, w4.setCell ⟨D, 1, none⟩ (.int .i64 (max u (nw + lg))) = V2 := ⟨_, rfl⟩
          rw [hV2] at HS2
          have HMo := Lib.hid (fun w => sMost12 u (nw + lg) w)
          go_wp2_with fail
          refine (HMo.out _).mono ?_
          rintro e w' ⟨rfl, rfl⟩
          have HG := Lib.hid (sGoodL (a) (max u (nw + lg)) (q) V2)
          have x0 : V2.cell? ⟨w.heap.size, 0, none⟩ = some (.int .i64 a) := cell_of_row _ _ 0 _ _ _ HS2.out.ls
          have x1 : V2.cell? ⟨w.heap.size, 1, none⟩ = some (.int .i64 u) := cell_of_row _ _ 1 _ _ _ HS2.out.ls
          have x2 : V2.cell? ⟨w.heap.size, 2, none⟩ = some (.int .i64 q) := cell_of_row _ _ 2 _ _ _ HS2.out.ls
          have s0 : V2.cell? ⟨w.heap.size + 1, 0, none⟩ = some (.int .i64 2) := cell_of_row _ _ 0 _ _ _ HS2.out.sp
          have s1 : V2.cell? ⟨w.heap.size + 1, 1, none⟩ = some (.int .i64 wh) := cell_of_row _ _ 1 _ _ _ HS2.out.sp
          have s2 : V2.cell? ⟨w.heap.size + 1, 2, none⟩ = some (.int .i64 nw) := cell_of_row _ _ 2 _ _ _ HS2.out.sp
          have s3 : V2.cell? ⟨w.heap.size + 1, 3, none⟩ = some (.int .i64 lg) := cell_of_row _ _ 3 _ _ _ HS2.out.sp
          have z0 : V2.cell? ⟨w.heap.size + 1 + 1, 0, none⟩ = some (.int .i64 0) := cell_of_row _ _ 0 _ _ _ HS2.out.rs
          have zf0 := frozen_of_row V2 _ 0 _ _ HS2.out.rs
          have z1 : V2.cell? ⟨w.heap.size + 1 + 1, 1, none⟩ = some (.int .i64 0) := cell_of_row _ _ 1 _ _ _ HS2.out.rs
          have zf1 := frozen_of_row V2 _ 1 _ _ HS2.out.rs
          have z2 : V2.cell? ⟨w.heap.size + 1 + 1, 2, none⟩ = some (.int .i64 0) := cell_of_row _ _ 2 _ _ _ HS2.out.rs
          have zf2 := frozen_of_row V2 _ 2 _ _ HS2.out.rs
          have o0 : V2.cell? ⟨D, 0, none⟩ = some (.int .i64 (a)) := cell_of_row _ _ 0 _ _ _ HS2.out.ou
          have of0 := frozen_of_row V2 _ 0 _ _ HS2.out.ou
          have o1 : V2.cell? ⟨D, 1, none⟩ = some (.int .i64 (max u (nw + lg))) := cell_of_row _ _ 1 _ _ _ HS2.out.ou
          have of1 := frozen_of_row V2 _ 1 _ _ HS2.out.ou
          have o2 : V2.cell? ⟨D, 2, none⟩ = some (.int .i64 (q)) := cell_of_row _ _ 2 _ _ _ HS2.out.ou
          have of2 := frozen_of_row V2 _ 2 _ _ HS2.out.ou
          cases hgo : goodZB (a) (max u (nw + lg)) (q)
          · have HE := Lib.hid (lz_no (show lzOk a u q 2 wh nw lg = false by rw [HOk.out, hM.out, Bool.true_and, lzG2]; exact hgo))
            rw [hgo] at HG
            clear hgo HOk
            go_wp2_with (go_at_call 26; go_loud (refine HG.out.mono ?_); rintro e w9 ⟨rfl, hb9⟩; have H9 := HS2.out.on hb9; have y0 := cell_of_row w9 _ 0 _ _ _ H9.ls; have y1 := cell_of_row w9 _ 1 _ _ _ H9.ls; have y2 := cell_of_row w9 _ 2 _ _ _ H9.ls; have v0 := cell_of_row w9 _ 0 _ _ _ H9.rs; have vf0 := frozen_of_row w9 _ 0 _ _ H9.rs; have v1 := cell_of_row w9 _ 1 _ _ _ H9.rs; have vf1 := frozen_of_row w9 _ 1 _ _ H9.rs; have v2 := cell_of_row w9 _ 2 _ _ _ H9.rs; have vf2 := frozen_of_row w9 _ 2 _ _ H9.rs; have t0 := cell_of_row w9 _ 0 _ _ _ H9.ou; have t1 := cell_of_row w9 _ 1 _ _ _ H9.ou; have t2 := cell_of_row w9 _ 2 _ _ _ H9.ou)
            refine ret_ls2 rfl (w.heap.size + 1 + 1) a u q false rfl rfl (ls_stored H9.rs _ _ _) rfl ⟨by rw [HE.out.1, HE.out.2], below_ls H9.bel (by omega) _ _ _⟩
          · have HE := Lib.hid (lz_yes (show lzOk a u q 2 wh nw lg = true by rw [HOk.out, hM.out, Bool.true_and, lzG2]; exact hgo))
            rw [hgo] at HG
            clear hgo HOk
            go_wp2_with (go_at_call 26; go_loud (refine HG.out.mono ?_); rintro e w9 ⟨rfl, hb9⟩; have H9 := HS2.out.on hb9; have y0 := cell_of_row w9 _ 0 _ _ _ H9.ls; have y1 := cell_of_row w9 _ 1 _ _ _ H9.ls; have y2 := cell_of_row w9 _ 2 _ _ _ H9.ls; have v0 := cell_of_row w9 _ 0 _ _ _ H9.rs; have vf0 := frozen_of_row w9 _ 0 _ _ H9.rs; have v1 := cell_of_row w9 _ 1 _ _ _ H9.rs; have vf1 := frozen_of_row w9 _ 1 _ _ H9.rs; have v2 := cell_of_row w9 _ 2 _ _ _ H9.rs; have vf2 := frozen_of_row w9 _ 2 _ _ H9.rs; have t0 := cell_of_row w9 _ 0 _ _ _ H9.ou; have t1 := cell_of_row w9 _ 1 _ _ _ H9.ou; have t2 := cell_of_row w9 _ 2 _ _ _ H9.ou)
            refine ret_ls2 rfl (w.heap.size + 1 + 1) (a) (max u (nw + lg)) (q) true rfl rfl (ls_stored H9.rs _ _ _) rfl ⟨by rw [HE.out.1, HE.out.2, lzG2], below_ls H9.bel (by omega) _ _ _⟩
      have HE := Lib.hid (lz_no (show lzOk a u q k wh nw lg = false by rw [HOk.out, oth_no k1 k2 k3]; rfl))
      have b1 : (k == 1) = false := by simpa using k1
      have b2 : (k == 2) = false := by simpa using k2
      have b3 : (k == 3) = false := by simpa using k3
      clear k1 k2 k3 HOk
      have x0 : W.cell? ⟨w.heap.size, 0, none⟩ = some (.int .i64 a) := cell_of_row _ _ 0 _ _ _ HH.out.1
      have x1 : W.cell? ⟨w.heap.size, 1, none⟩ = some (.int .i64 u) := cell_of_row _ _ 1 _ _ _ HH.out.1
      have x2 : W.cell? ⟨w.heap.size, 2, none⟩ = some (.int .i64 q) := cell_of_row _ _ 2 _ _ _ HH.out.1
      have s0 : W.cell? ⟨w.heap.size + 1, 0, none⟩ = some (.int .i64 k) := cell_of_row _ _ 0 _ _ _ HH.out.2.1
      have s1 : W.cell? ⟨w.heap.size + 1, 1, none⟩ = some (.int .i64 wh) := cell_of_row _ _ 1 _ _ _ HH.out.2.1
      have s2 : W.cell? ⟨w.heap.size + 1, 2, none⟩ = some (.int .i64 nw) := cell_of_row _ _ 2 _ _ _ HH.out.2.1
      have s3 : W.cell? ⟨w.heap.size + 1, 3, none⟩ = some (.int .i64 lg) := cell_of_row _ _ 3 _ _ _ HH.out.2.1
      have z0 : W.cell? ⟨w.heap.size + 1 + 1, 0, none⟩ = some (.int .i64 0) := cell_of_row _ _ 0 _ _ _ HH.out.2.2
      have zf0 := frozen_of_row W _ 0 _ _ HH.out.2.2
      have z1 : W.cell? ⟨w.heap.size + 1 + 1, 1, none⟩ = some (.int .i64 0) := cell_of_row _ _ 1 _ _ _ HH.out.2.2
      have zf1 := frozen_of_row W _ 1 _ _ HH.out.2.2
      have z2 : W.cell? ⟨w.heap.size + 1 + 1, 2, none⟩ = some (.int .i64 0) := cell_of_row _ _ 2 _ _ _ HH.out.2.2
      have zf2 := frozen_of_row W _ 2 _ _ HH.out.2.2
      have x0 : V.cell? ⟨w.heap.size, 0, none⟩ = some (.int .i64 a) := cell_of_row _ _ 0 _ _ _ HS.out.ls
      have x1 : V.cell? ⟨w.heap.size, 1, none⟩ = some (.int .i64 u) := cell_of_row _ _ 1 _ _ _ HS.out.ls
      have x2 : V.cell? ⟨w.heap.size, 2, none⟩ = some (.int .i64 q) := cell_of_row _ _ 2 _ _ _ HS.out.ls
      have s0 : V.cell? ⟨w.heap.size + 1, 0, none⟩ = some (.int .i64 k) := cell_of_row _ _ 0 _ _ _ HS.out.sp
      have s1 : V.cell? ⟨w.heap.size + 1, 1, none⟩ = some (.int .i64 wh) := cell_of_row _ _ 1 _ _ _ HS.out.sp
      have s2 : V.cell? ⟨w.heap.size + 1, 2, none⟩ = some (.int .i64 nw) := cell_of_row _ _ 2 _ _ _ HS.out.sp
      have s3 : V.cell? ⟨w.heap.size + 1, 3, none⟩ = some (.int .i64 lg) := cell_of_row _ _ 3 _ _ _ HS.out.sp
      have z0 : V.cell? ⟨w.heap.size + 1 + 1, 0, none⟩ = some (.int .i64 0) := cell_of_row _ _ 0 _ _ _ HS.out.rs
      have zf0 := frozen_of_row V _ 0 _ _ HS.out.rs
      have z1 : V.cell? ⟨w.heap.size + 1 + 1, 1, none⟩ = some (.int .i64 0) := cell_of_row _ _ 1 _ _ _ HS.out.rs
      have zf1 := frozen_of_row V _ 1 _ _ HS.out.rs
      have z2 : V.cell? ⟨w.heap.size + 1 + 1, 2, none⟩ = some (.int .i64 0) := cell_of_row _ _ 2 _ _ _ HS.out.rs
      have zf2 := frozen_of_row V _ 2 _ _ HS.out.rs
      have o0 : V.cell? ⟨D, 0, none⟩ = some (.int .i64 a) := cell_of_row _ _ 0 _ _ _ HS.out.ou
      have of0 := frozen_of_row V _ 0 _ _ HS.out.ou
      have o1 : V.cell? ⟨D, 1, none⟩ = some (.int .i64 u) := cell_of_row _ _ 1 _ _ _ HS.out.ou
      have of1 := frozen_of_row V _ 1 _ _ HS.out.ou
      have o2 : V.cell? ⟨D, 2, none⟩ = some (.int .i64 q) := cell_of_row _ _ 2 _ _ _ HS.out.ou
      have of2 := frozen_of_row V _ 2 _ _ HS.out.ou
      go_enter Try.func43, Try.ntmps43
      go_wp2_with fail
      refine (HC.out _).mono ?_
      rintro e w' ⟨rfl, rfl⟩
      go_wp2_with fail
      refine (HIw.out _).mono ?_
      rintro e w' ⟨rfl, rfl⟩
      go_wp2_with fail
      refine ret_ls2 rfl (w.heap.size + 1 + 1) a u q false rfl rfl (ls_stored HS.out.rs _ _ _) rfl ⟨by rw [HE.out.1, HE.out.2], below_ls HS.out.bel (by omega) _ _ _⟩
/-- What StepLease answers. -/
def slOk (a u q k wh nw lg : Int) : Bool := goodZB a u q && lzOk a u q k wh nw lg
def slL (a u q k wh nw lg : Int) : Int × Int × Int := if slOk a u q k wh nw lg = true then lzL a u q k wh nw lg else (0, 0, 0)
theorem lz_good {a u q : Int} (k wh nw lg : Int) (h : goodZB a u q = true) : goodZB (lzL a u q k wh nw lg).1 (lzL a u q k wh nw lg).2.1 (lzL a u q k wh nw lg).2.2 = true := by
  cases hk : lzOk a u q k wh nw lg
  · rw [(lz_no hk).1]; exact h
  · rw [(lz_yes hk).1]
    simp only [lzOk, Bool.and_eq_true] at hk
    exact hk.2.2
set_option maxRecDepth 100000 in
set_option maxHeartbeats 4000000 in
theorem sStepL (a u q k wh nw lg : Int) (w : World) :
    Calls Try.prog 25 #[lsW a u q, lpV (k, wh, nw, lg)] w fun e w' => e = .returned (.tuple #[lsW (slL a u q k wh nw lg).1 (slL a u q k wh nw lg).2.1 (slL a u q k wh nw lg).2.2, .bool (slOk a u q k wh nw lg)]) ∧ Below w.heap.size w w' := by
  obtain ⟨W, hW⟩ : ∃ W, ((w.alloc (.cells #[.int .i64 a, .int .i64 u, .int .i64 q] 26)).alloc (.cells #[.int .i64 k, .int .i64 wh, .int .i64 nw, .int .i64 lg] 34)).alloc (.cells #[.int .i64 0, .int .i64 0, .int .i64 0] 26) = W := ⟨_, rfl⟩
  have hbW : Below w.heap.size w W := by rw [← hW]; exact ((gAlloc w _).alloc (by simp) _).alloc (by simp; omega) _
  have h1 : W.heap[w.heap.size]? = some (.cells #[.int .i64 a, .int .i64 u, .int .i64 q] 26 (0, 0)) := by rw [← hW, heap_alloc_old _ _ _ (by simp; omega), heap_alloc_old _ _ _ (by simp)]; exact heap_alloc_new _ _
  have h2 : W.heap[w.heap.size + 1]? = some (.cells #[.int .i64 k, .int .i64 wh, .int .i64 nw, .int .i64 lg] 34 (0, 0)) := by rw [← hW, heap_alloc_old _ _ _ (by simp), show w.heap.size + 1 = (w.alloc (.cells #[.int .i64 a, .int .i64 u, .int .i64 q] 26)).heap.size by simp]; exact heap_alloc_new _ _
  have h3 : W.heap[w.heap.size + 1 + 1]? = some (.cells #[.int .i64 0, .int .i64 0, .int .i64 0] 26 (0, 0)) := by rw [← hW, show w.heap.size + 1 + 1 = ((w.alloc (.cells #[.int .i64 a, .int .i64 u, .int .i64 q] 26)).alloc (.cells #[.int .i64 k, .int .i64 wh, .int .i64 nw, .int .i64 lg] 34)).heap.size by simp]; exact heap_alloc_new _ _
  have HB := Lib.hid hbW
  have HH := Lib.hid (And.intro h1 (And.intro h2 h3))
  have x0 : W.cell? ⟨w.heap.size, 0, none⟩ = some (.int .i64 a) := cell_of_row _ _ 0 _ _ _ h1
  have x1 : W.cell? ⟨w.heap.size, 1, none⟩ = some (.int .i64 u) := cell_of_row _ _ 1 _ _ _ h1
  have x2 : W.cell? ⟨w.heap.size, 2, none⟩ = some (.int .i64 q) := cell_of_row _ _ 2 _ _ _ h1
  have HG := Lib.hid (sGoodL a u q W)
  clear hbW h1 h2 h3
  cases hg : goodZB a u q
  · have HE : Hid (slL a u q k wh nw lg = (0, 0, 0) ∧ slOk a u q k wh nw lg = false) := by show _ ∧ _; simp [slL, slOk, hg]
    rw [hg] at HG
    rw [HE.out.1, HE.out.2]
    clear hg
    go_enter Try.func25, Try.ntmps25
    go_wp2_with (go_at_call 26; refine HG.out.mono ?_; rintro e w9 ⟨rfl, hb9⟩; have H9 := (hb9.block _ (heap_lt HH.out.2.2)).trans HH.out.2.2; have z0 : w9.cell? ⟨w.heap.size + 1 + 1, 0, none⟩ = some (.int .i64 0) := cell_of_row _ _ 0 _ _ _ H9; have zf0 := frozen_of_row w9 _ 0 _ _ H9; have z1 : w9.cell? ⟨w.heap.size + 1 + 1, 1, none⟩ = some (.int .i64 0) := cell_of_row _ _ 1 _ _ _ H9; have zf1 := frozen_of_row w9 _ 1 _ _ H9; have z2 : w9.cell? ⟨w.heap.size + 1 + 1, 2, none⟩ = some (.int .i64 0) := cell_of_row _ _ 2 _ _ _ H9; have zf2 := frozen_of_row w9 _ 2 _ _ H9)
    exact ret_ls2 rfl (w.heap.size + 1 + 1) 0 0 0 false rfl rfl (ls_stored H9 _ _ _) rfl ⟨rfl, below_ls (below_more HB.out hb9) (by omega) _ _ _⟩
  · have HSt := Lib.hid (fun w => sStep12 a u q k wh nw lg w hg)
    have HN : Hid (lzOk a u q k wh nw lg = false → slL a u q k wh nw lg = (0, 0, 0) ∧ slOk a u q k wh nw lg = false) := fun h => by show _ ∧ _; simp [slL, slOk, hg, h]
    have HY : Hid (lzOk a u q k wh nw lg = true → slL a u q k wh nw lg = lzL a u q k wh nw lg ∧ slOk a u q k wh nw lg = true) := fun h => by show _ ∧ _; simp [slL, slOk, hg, h]
    rw [hg] at HG
    clear hg
    obtain ⟨⟨ta, tu, tq⟩, hT⟩ : ∃ T, lzL a u q k wh nw lg = T := ⟨_, rfl⟩
    rw [hT] at HSt HY
    clear hT
    cases hok : lzOk a u q k wh nw lg
    · have HE := Lib.hid (HN.out hok)
      rw [hok] at HSt
      rw [HE.out.1, HE.out.2]
      clear hok HN HY
      go_enter Try.func25, Try.ntmps25
      go_wp2_with (first
        | (go_at_call 26; refine HG.out.mono ?_; rintro e w9 ⟨rfl, hb9⟩; have H7 := (hb9.block _ (heap_lt HH.out.1)).trans HH.out.1; have H8 := (hb9.block _ (heap_lt HH.out.2.1)).trans HH.out.2.1; have x0 : w9.cell? ⟨w.heap.size, 0, none⟩ = some (.int .i64 a) := cell_of_row _ _ 0 _ _ _ H7; have x1 : w9.cell? ⟨w.heap.size, 1, none⟩ = some (.int .i64 u) := cell_of_row _ _ 1 _ _ _ H7; have x2 : w9.cell? ⟨w.heap.size, 2, none⟩ = some (.int .i64 q) := cell_of_row _ _ 2 _ _ _ H7; have s0 : w9.cell? ⟨w.heap.size + 1, 0, none⟩ = some (.int .i64 k) := cell_of_row _ _ 0 _ _ _ H8; have s1 : w9.cell? ⟨w.heap.size + 1, 1, none⟩ = some (.int .i64 wh) := cell_of_row _ _ 1 _ _ _ H8; have s2 : w9.cell? ⟨w.heap.size + 1, 2, none⟩ = some (.int .i64 nw) := cell_of_row _ _ 2 _ _ _ H8; have s3 : w9.cell? ⟨w.heap.size + 1, 3, none⟩ = some (.int .i64 lg) := cell_of_row _ _ 3 _ _ _ H8)
        | (go_at_call 43; refine (HSt.out _).mono ?_; rintro e w5 ⟨rfl, hb5⟩; have H9 := (hb5.block _ (heap_lt ((hb9.block _ (heap_lt HH.out.2.2)).trans HH.out.2.2))).trans ((hb9.block _ (heap_lt HH.out.2.2)).trans HH.out.2.2); have H10 : (w5.alloc (.cells #[.int .i64 ta, .int .i64 tu, .int .i64 tq] 26)).heap[w.heap.size + 1 + 1]? = some (.cells #[.int .i64 0, .int .i64 0, .int .i64 0] 26 (0, 0)) := (heap_alloc_old _ _ _ (heap_lt H9)).trans H9; have z0 : (w5.alloc (.cells #[.int .i64 ta, .int .i64 tu, .int .i64 tq] 26)).cell? ⟨w.heap.size + 1 + 1, 0, none⟩ = some (.int .i64 0) := cell_of_row _ _ 0 _ _ _ H10; have zf0 := frozen_of_row (w5.alloc (.cells #[.int .i64 ta, .int .i64 tu, .int .i64 tq] 26)) _ 0 _ _ H10; have z1 : (w5.alloc (.cells #[.int .i64 ta, .int .i64 tu, .int .i64 tq] 26)).cell? ⟨w.heap.size + 1 + 1, 1, none⟩ = some (.int .i64 0) := cell_of_row _ _ 1 _ _ _ H10; have zf1 := frozen_of_row (w5.alloc (.cells #[.int .i64 ta, .int .i64 tu, .int .i64 tq] 26)) _ 1 _ _ H10; have z2 : (w5.alloc (.cells #[.int .i64 ta, .int .i64 tu, .int .i64 tq] 26)).cell? ⟨w.heap.size + 1 + 1, 2, none⟩ = some (.int .i64 0) := cell_of_row _ _ 2 _ _ _ H10; have zf2 := frozen_of_row (w5.alloc (.cells #[.int .i64 ta, .int .i64 tu, .int .i64 tq] 26)) _ 2 _ _ H10))
      exact ret_ls2 rfl (w.heap.size + 1 + 1) 0 0 0 false rfl rfl (ls_stored H10 _ _ _) rfl ⟨rfl, below_ls (below_more (below_more (below_more HB.out hb9) hb5) (gAlloc _ _)) (by omega) _ _ _⟩
    · have HE := Lib.hid (HY.out hok)
      rw [hok] at HSt
      rw [HE.out.1, HE.out.2]
      clear hok HN HY
      go_enter Try.func25, Try.ntmps25
      go_wp2_with (first
        | (go_at_call 26; refine HG.out.mono ?_; rintro e w9 ⟨rfl, hb9⟩; have H7 := (hb9.block _ (heap_lt HH.out.1)).trans HH.out.1; have H8 := (hb9.block _ (heap_lt HH.out.2.1)).trans HH.out.2.1; have x0 : w9.cell? ⟨w.heap.size, 0, none⟩ = some (.int .i64 a) := cell_of_row _ _ 0 _ _ _ H7; have x1 : w9.cell? ⟨w.heap.size, 1, none⟩ = some (.int .i64 u) := cell_of_row _ _ 1 _ _ _ H7; have x2 : w9.cell? ⟨w.heap.size, 2, none⟩ = some (.int .i64 q) := cell_of_row _ _ 2 _ _ _ H7; have s0 : w9.cell? ⟨w.heap.size + 1, 0, none⟩ = some (.int .i64 k) := cell_of_row _ _ 0 _ _ _ H8; have s1 : w9.cell? ⟨w.heap.size + 1, 1, none⟩ = some (.int .i64 wh) := cell_of_row _ _ 1 _ _ _ H8; have s2 : w9.cell? ⟨w.heap.size + 1, 2, none⟩ = some (.int .i64 nw) := cell_of_row _ _ 2 _ _ _ H8; have s3 : w9.cell? ⟨w.heap.size + 1, 3, none⟩ = some (.int .i64 lg) := cell_of_row _ _ 3 _ _ _ H8)
        | (go_at_call 43; refine (HSt.out _).mono ?_; rintro e w5 ⟨rfl, hb5⟩; have H9 := (hb5.block _ (heap_lt ((hb9.block _ (heap_lt HH.out.2.2)).trans HH.out.2.2))).trans ((hb9.block _ (heap_lt HH.out.2.2)).trans HH.out.2.2); have H10 : (w5.alloc (.cells #[.int .i64 ta, .int .i64 tu, .int .i64 tq] 26)).heap[w.heap.size + 1 + 1]? = some (.cells #[.int .i64 0, .int .i64 0, .int .i64 0] 26 (0, 0)) := (heap_alloc_old _ _ _ (heap_lt H9)).trans H9; have H11 : (w5.alloc (.cells #[.int .i64 ta, .int .i64 tu, .int .i64 tq] 26)).heap[w5.heap.size]? = some (.cells #[.int .i64 ta, .int .i64 tu, .int .i64 tq] 26 (0, 0)) := heap_alloc_new _ _; have z0 : (w5.alloc (.cells #[.int .i64 ta, .int .i64 tu, .int .i64 tq] 26)).cell? ⟨w.heap.size + 1 + 1, 0, none⟩ = some (.int .i64 0) := cell_of_row _ _ 0 _ _ _ H10; have zf0 := frozen_of_row (w5.alloc (.cells #[.int .i64 ta, .int .i64 tu, .int .i64 tq] 26)) _ 0 _ _ H10; have z1 : (w5.alloc (.cells #[.int .i64 ta, .int .i64 tu, .int .i64 tq] 26)).cell? ⟨w.heap.size + 1 + 1, 1, none⟩ = some (.int .i64 0) := cell_of_row _ _ 1 _ _ _ H10; have zf1 := frozen_of_row (w5.alloc (.cells #[.int .i64 ta, .int .i64 tu, .int .i64 tq] 26)) _ 1 _ _ H10; have z2 : (w5.alloc (.cells #[.int .i64 ta, .int .i64 tu, .int .i64 tq] 26)).cell? ⟨w.heap.size + 1 + 1, 2, none⟩ = some (.int .i64 0) := cell_of_row _ _ 2 _ _ _ H10; have zf2 := frozen_of_row (w5.alloc (.cells #[.int .i64 ta, .int .i64 tu, .int .i64 tq] 26)) _ 2 _ _ H10; have t0 : (w5.alloc (.cells #[.int .i64 ta, .int .i64 tu, .int .i64 tq] 26)).cell? ⟨w5.heap.size, 0, none⟩ = some (.int .i64 ta) := cell_of_row _ _ 0 _ _ _ H11; have t1 : (w5.alloc (.cells #[.int .i64 ta, .int .i64 tu, .int .i64 tq] 26)).cell? ⟨w5.heap.size, 1, none⟩ = some (.int .i64 tu) := cell_of_row _ _ 1 _ _ _ H11; have t2 : (w5.alloc (.cells #[.int .i64 ta, .int .i64 tu, .int .i64 tq] 26)).cell? ⟨w5.heap.size, 2, none⟩ = some (.int .i64 tq) := cell_of_row _ _ 2 _ _ _ H11))
      exact ret_ls2 rfl (w.heap.size + 1 + 1) ta tu tq true rfl rfl (ls_stored H10 _ _ _) rfl ⟨rfl, below_ls (below_more (below_more (below_more HB.out hb9) hb5) (gAlloc _ _)) (by omega) _ _ _⟩
end Go.Proofs.Ythmnenejfonfgaa
