/-
  The model of chapter 13, first part: GoodBucket, NewBucket, FillTo, TakeFrom, WaitFor.
-/
import Derived.Test.YtgakklanboabjaaCA
import Derived.Test.YtgakklanboabjaaBB
import Derived.Test.YtgakklanboabjaaGU
import Derived.Test.YtgakklanboabjaaHW
namespace Go.Proofs.Ytgakklanboabjaa
open Go.RowKit

theorem wrap13 (z : Int) (h0 : -1000000 ≤ z) (h1 : z ≤ 1000000) : IntKind.i64.wrap z = z := by
  unfold IntKind.wrap; simp [IntKind.bits, IntKind.signed]; omega
abbrev bkW (r q f c : Int) : Value := .agg #[.int .i64 r, .int .i64 q, .int .i64 f, .int .i64 c]
abbrev wnW (a s : Int) : Value := .agg #[.int .i64 a, .int .i64 s]
/-- A bucket (capacity r, rate q, tokens f, clock c) is good. -/
def goodBB (r q f c : Int) : Bool := ((inB r 1 100 && inB q 1 20) && inB f 0 r) && ckB c
theorem gbk_ok {r q f c : Int} (h : goodBB r q f c = true) : (1 ≤ r ∧ r ≤ 100) ∧ (1 ≤ q ∧ q ≤ 20) ∧ (0 ≤ f ∧ f ≤ r) ∧ 0 ≤ c ∧ c ≤ 10000 := by
  simp only [goodBB, ckB, Bool.and_eq_true] at h
  obtain ⟨⟨⟨h1, h2⟩, h3⟩, h4⟩ := h
  exact ⟨inB_andL h1, inB_andL h2, inB_andL h3, inB_andL h4⟩
theorem gbk_mk {r q f c : Int} (h1 : 1 ≤ r ∧ r ≤ 100) (h2 : 1 ≤ q ∧ q ≤ 20) (h3 : 0 ≤ f ∧ f ≤ r) (h4 : 0 ≤ c ∧ c ≤ 10000) : goodBB r q f c = true := by
  rw [goodBB, inB_mkL h1.1 h1.2, inB_mkL h2.1 h2.2, inB_mkL h3.1 h3.2, ckB, inB_mkL h4.1 h4.2]; rfl
/-- The tokens at t. -/
def fillI (r q f c t : Int) : Int := min r (f + q * (t - c))
theorem flow13 {q c t : Int} (h1 : 1 ≤ q ∧ q ≤ 20) (h0 : c ≤ t) (hc : 0 ≤ c) (ht : t ≤ 10000) : 0 ≤ q * (t - c) ∧ q * (t - c) ≤ 200000 := by
  have h2 : q * (t - c) ≤ 20 * (t - c) := Int.mul_le_mul_of_nonneg_right h1.2 (by omega)
  exact ⟨Int.mul_nonneg (by omega) (by omega), by omega⟩
theorem fill_good {r q f c t : Int} (h : goodBB r q f c = true) (h0 : c ≤ t) (ht : t ≤ 10000) : goodBB r q (fillI r q f c t) t = true ∧ f ≤ fillI r q f c t := by
  obtain ⟨h1, h2, h3, h4⟩ := gbk_ok h
  have hm := flow13 h2 h0 h4.1 ht
  have e : fillI r q f c t = min r (f + q * (t - c)) := rfl
  exact ⟨gbk_mk h1 h2 (by omega) (by omega), by omega⟩
def nbOk (r q : Int) : Bool := goodBB r q r 0
def nbL (r q : Int) : Buc := if nbOk r q = true then (r, q, r, 0) else (0, 0, 0, 0)
theorem nb_no {r q : Int} (h : nbOk r q = false) : nbL r q = (0, 0, 0, 0) := by rw [nbL, h]; rfl
theorem nb_yes {r q : Int} (h : nbOk r q = true) : nbL r q = (r, q, r, 0) := by rw [nbL, h]; rfl
def ftOk (r q f c t : Int) : Bool := goodBB r q f c && inB t c 10000
def ftL (r q f c t : Int) : Buc := if ftOk r q f c t = true then (r, q, fillI r q f c t, t) else (0, 0, 0, 0)
theorem ft_no {r q f c t : Int} (h : ftOk r q f c t = false) : ftL r q f c t = (0, 0, 0, 0) := by rw [ftL, h]; rfl
theorem ft_yes {r q f c t : Int} (h : ftOk r q f c t = true) : ftL r q f c t = (r, q, fillI r q f c t, t) := by rw [ftL, h]; rfl
/-- A want is valid for a bucket at clock c. -/
def wantB (c a s : Int) : Bool := inB a c 10000 && inB s 1 100
def tkOk (r q f c a s : Int) : Bool := (goodBB r q f c && wantB c a s) && decide (s ≤ fillI r q f c a)
def tkL (r q f c a s : Int) : Buc := if tkOk r q f c a s = true then (r, q, fillI r q f c a - s, a) else (0, 0, 0, 0)
theorem tk_no {r q f c a s : Int} (h : tkOk r q f c a s = false) : tkL r q f c a s = (0, 0, 0, 0) := by rw [tkL, h]; rfl
theorem tk_yes {r q f c a s : Int} (h : tkOk r q f c a s = true) : tkL r q f c a s = (r, q, fillI r q f c a - s, a) := by rw [tkL, h]; rfl
def wfOk (r q f c s : Int) : Bool := goodBB r q f c && inB s 1 r
def wfI (r q f c s : Int) : Int := if wfOk r q f c s = true then (max 0 (s - f) + q - 1) / q else 0
theorem wf_no {r q f c s : Int} (h : wfOk r q f c s = false) : wfI r q f c s = 0 := by rw [wfI, h]; rfl
theorem wf_yes {r q f c s : Int} (h : wfOk r q f c s = true) : wfI r q f c s = (max 0 (s - f) + q - 1) / q := by rw [wfI, h]; rfl
theorem ret_bk2 {fn : Func} {p u : Tmp} (h : fn.results = #[.cell p 24, .tmp u]) {R : Ending → World → Prop} {k : Act} {w : World} (g : Nat) (r q f c : Int) (b : Bool) (hp : k.tmps.getD p undef = .pointer (some ⟨g, 0, none⟩)) (hu : k.tmps.getD u undef = .bool b)
    (hg : w.heap[g]? = some (.cells #[.int .i64 r, .int .i64 q, .int .i64 f, .int .i64 c] 24 (0, 0))) (hd : k.defers = []) (hR : R (.returned (.tuple #[bkW r q f c, .bool b])) w) : bodyPost Try.prog fn R .ret k w := by
  have hp' : k.tmps[p]?.getD undef = .pointer (some ⟨g, 0, none⟩) := by simpa using hp
  have hu' : k.tmps[u]?.getD undef = .bool b := by simpa using hu
  refine bodyPost_ret (v := .tuple #[bkW r q f c, .bool b]) ?_ hd hR
  rw [results_cell_tmp h]
  simp [hp', hu', asAddr, run_loadVar_row w g 24 24 #[.int .i64 r, .int .i64 q, .int .i64 f, .int .i64 c] (0, 0) _ hg Try.underlying24 rfl infoBuP]
theorem set2_other {w : World} {X Y : Nat} {o : Obj} (h : w.heap[Y]? = some o) (hne : Y ≠ X) (i j : Nat) (u v : Value) : ((w.setCell ⟨X, i, none⟩ u).setCell ⟨X, j, none⟩ v).heap[Y]? = some o :=
  (heap_setCell_other _ ⟨X, j, none⟩ Y v hne).trans ((heap_setCell_other w ⟨X, i, none⟩ Y u hne).trans h)
theorem set1_other {w : World} {X Y : Nat} {o : Obj} (h : w.heap[Y]? = some o) (hne : Y ≠ X) (i : Nat) (u : Value) : (w.setCell ⟨X, i, none⟩ u).heap[Y]? = some o :=
  (heap_setCell_other w ⟨X, i, none⟩ Y u hne).trans h
theorem sLeast13 (a b : Int) (w : World) : Calls Try.prog 62 #[.int .i64 a, .int .i64 b] w fun e w' => e = .returned (.int .i64 (min a b)) ∧ w = w' := by
  by_cases h : a < b
  · have hm : min a b = a := by omega
    rw [hm]
    go_enter Try.func62, Try.ntmps62
    go_wp2_with fail
    go_ret
    exact ⟨rfl, rfl⟩
  · have hm : min a b = b := by omega
    rw [hm]
    go_enter Try.func62, Try.ntmps62
    go_wp2_with fail
    go_ret
    exact ⟨rfl, rfl⟩
set_option maxRecDepth 100000 in
set_option maxHeartbeats 2000000 in
theorem sGoodBk (r q f c : Int) (w : World) :
    Calls Try.prog 17 #[bkW r q f c] w fun e w' => e = .returned (.bool (goodBB r q f c)) ∧ Below w.heap.size w w' := by
  obtain ⟨W, hW⟩ : ∃ W, w.alloc (.cells #[.int .i64 r, .int .i64 q, .int .i64 f, .int .i64 c] 24) = W := ⟨_, rfl⟩
  have hsW : W.heap.size = w.heap.size + 1 := by rw [← hW]; simp
  have hbW : Below w.heap.size w W := by rw [← hW]; exact gAlloc w _
  have h1 : W.heap[w.heap.size]? = some (.cells #[.int .i64 r, .int .i64 q, .int .i64 f, .int .i64 c] 24 (0, 0)) := by rw [← hW]; exact heap_alloc_new _ _
  have x0 : W.cell? ⟨w.heap.size, 0, none⟩ = some (.int .i64 r) := cell_of_row _ _ 0 _ _ _ h1
  have x1 : W.cell? ⟨w.heap.size, 1, none⟩ = some (.int .i64 q) := cell_of_row _ _ 1 _ _ _ h1
  have x2 : W.cell? ⟨w.heap.size, 2, none⟩ = some (.int .i64 f) := cell_of_row _ _ 2 _ _ _ h1
  have x3 : W.cell? ⟨w.heap.size, 3, none⟩ = some (.int .i64 c) := cell_of_row _ _ 3 _ _ _ h1
  have H1 := Lib.hid h1
  have HB := Lib.hid hbW
  clear hbW h1
  have HI := Lib.hid (fun (z lo hi : Int) w => l1In_any z lo hi w)
  have HC := Lib.hid (fun w => sClock12 c w)
  cases e1 : inB r 1 100
  · have HE : Hid (goodBB r q f c = false) := by show _ = _; simp [goodBB, e1]
    have K0 := Lib.hid (HI.out r 1 100)
    rw [e1] at K0
    clear HI e1
    go_enter Try.func17, Try.ntmps17
    go_wp2_with fail
    refine (K0.out _).mono ?_
    rintro e w' ⟨rfl, rfl⟩
    go_wp2_with fail
    go_ret
    exact ⟨ret_bool' HE.out.symm, HB.out⟩
  · cases e2 : inB q 1 20
    · have HE : Hid (goodBB r q f c = false) := by show _ = _; simp [goodBB, e1, e2]
      have K0 := Lib.hid (HI.out r 1 100)
      rw [e1] at K0
      have K1 := Lib.hid (HI.out q 1 20)
      rw [e2] at K1
      clear HI e1 e2
      go_enter Try.func17, Try.ntmps17
      go_wp2_with fail
      refine (K0.out _).mono ?_
      rintro e w' ⟨rfl, rfl⟩
      go_wp2_with fail
      refine (K1.out _).mono ?_
      rintro e w' ⟨rfl, rfl⟩
      go_wp2_with fail
      go_ret
      exact ⟨ret_bool' HE.out.symm, HB.out⟩
    · cases e3 : inB f 0 r
      · have HE : Hid (goodBB r q f c = false) := by show _ = _; simp [goodBB, e1, e2, e3]
        have K0 := Lib.hid (HI.out r 1 100)
        rw [e1] at K0
        have K1 := Lib.hid (HI.out q 1 20)
        rw [e2] at K1
        have K2 := Lib.hid (HI.out f 0 r)
        rw [e3] at K2
        clear HI e1 e2 e3
        go_enter Try.func17, Try.ntmps17
        go_wp2_with fail
        refine (K0.out _).mono ?_
        rintro e w' ⟨rfl, rfl⟩
        go_wp2_with fail
        refine (K1.out _).mono ?_
        rintro e w' ⟨rfl, rfl⟩
        go_wp2_with fail
        refine (K2.out _).mono ?_
        rintro e w' ⟨rfl, rfl⟩
        go_wp2_with fail
        go_ret
        exact ⟨ret_bool' HE.out.symm, HB.out⟩
      · have HE : Hid (goodBB r q f c = ckB c) := by show _ = _; simp [goodBB, e1, e2, e3]
        have K0 := Lib.hid (HI.out r 1 100)
        rw [e1] at K0
        have K1 := Lib.hid (HI.out q 1 20)
        rw [e2] at K1
        have K2 := Lib.hid (HI.out f 0 r)
        rw [e3] at K2
        generalize ckB c = b at *
        clear HI e1 e2 e3
        go_enter Try.func17, Try.ntmps17
        go_wp2_with fail
        refine (K0.out _).mono ?_
        rintro e w' ⟨rfl, rfl⟩
        go_wp2_with fail
        refine (K1.out _).mono ?_
        rintro e w' ⟨rfl, rfl⟩
        go_wp2_with fail
        refine (K2.out _).mono ?_
        rintro e w' ⟨rfl, rfl⟩
        go_wp2_with fail
        refine (HC.out _).mono ?_
        rintro e w' ⟨rfl, rfl⟩
        go_wp2_with fail
        go_ret
        exact ⟨ret_bool' HE.out.symm, HB.out⟩
set_option maxRecDepth 100000 in
set_option maxHeartbeats 2000000 in
theorem sFill13 {r q f c t : Int} (hg : goodBB r q f c = true) (h0 : c ≤ t) (h1 : t ≤ 10000) (w : World) :
    Calls Try.prog 48 #[bkW r q f c, .int .i64 t] w fun e w' => e = .returned (bkW r q (fillI r q f c t) t) ∧ Below w.heap.size w w' := by
  obtain ⟨g1, g2, g3, g4⟩ := gbk_ok hg
  obtain ⟨m0, m1⟩ := flow13 g2 h0 g4.1 h1
  have hfi : fillI r q f c t = min r (f + q * (t - c)) := rfl
  obtain ⟨m, hm⟩ : ∃ m, q * (t - c) = m := ⟨_, rfl⟩
  rw [hm] at m0 m1 hfi
  obtain ⟨F, hF⟩ : ∃ F, fillI r q f c t = F := ⟨_, rfl⟩
  rw [hF] at hfi ⊢
  have HL := Lib.hid (fun w => sLeast13 r (f + m) w)
  rw [← hfi] at HL
  clear hg hfi hF
  obtain ⟨g11, g12⟩ := g1
  obtain ⟨g21, g22⟩ := g2
  obtain ⟨g31, g32⟩ := g3
  obtain ⟨g41, g42⟩ := g4
  obtain ⟨W, hW⟩ : ∃ W, (w.alloc (.cells #[.int .i64 r, .int .i64 q, .int .i64 f, .int .i64 c] 24)).alloc (.cells #[.int .i64 0, .int .i64 0, .int .i64 0, .int .i64 0] 24) = W := ⟨_, rfl⟩
  have hsW : W.heap.size = w.heap.size + 2 := by rw [← hW]; simp
  have hbW : Below w.heap.size w W := by rw [← hW]; exact (gAlloc w _).alloc (by simp) _
  have hr1 : W.heap[w.heap.size]? = some (.cells #[.int .i64 r, .int .i64 q, .int .i64 f, .int .i64 c] 24 (0, 0)) := by rw [← hW, heap_alloc_old _ _ _ (by simp)]; exact heap_alloc_new _ _
  have h2 : W.heap[w.heap.size + 1]? = some (.cells #[.int .i64 0, .int .i64 0, .int .i64 0, .int .i64 0] 24 (0, 0)) := by rw [← hW, show w.heap.size + 1 = (w.alloc (.cells #[.int .i64 r, .int .i64 q, .int .i64 f, .int .i64 c] 24)).heap.size by simp]; exact heap_alloc_new _ _
  have x0 : W.cell? ⟨w.heap.size, 0, none⟩ = some (.int .i64 r) := cell_of_row _ _ 0 _ _ _ hr1
  have xf0 := frozen_of_row W _ 0 _ _ hr1
  have x1 : W.cell? ⟨w.heap.size, 1, none⟩ = some (.int .i64 q) := cell_of_row _ _ 1 _ _ _ hr1
  have xf1 := frozen_of_row W _ 1 _ _ hr1
  have x2 : W.cell? ⟨w.heap.size, 2, none⟩ = some (.int .i64 f) := cell_of_row _ _ 2 _ _ _ hr1
  have xf2 := frozen_of_row W _ 2 _ _ hr1
  have x3 : W.cell? ⟨w.heap.size, 3, none⟩ = some (.int .i64 c) := cell_of_row _ _ 3 _ _ _ hr1
  have xf3 := frozen_of_row W _ 3 _ _ hr1
  have z0 : W.cell? ⟨w.heap.size + 1, 0, none⟩ = some (.int .i64 0) := cell_of_row _ _ 0 _ _ _ h2
  have zf0 := frozen_of_row W _ 0 _ _ h2
  have z1 : W.cell? ⟨w.heap.size + 1, 1, none⟩ = some (.int .i64 0) := cell_of_row _ _ 1 _ _ _ h2
  have zf1 := frozen_of_row W _ 1 _ _ h2
  have z2 : W.cell? ⟨w.heap.size + 1, 2, none⟩ = some (.int .i64 0) := cell_of_row _ _ 2 _ _ _ h2
  have zf2 := frozen_of_row W _ 2 _ _ h2
  have z3 : W.cell? ⟨w.heap.size + 1, 3, none⟩ = some (.int .i64 0) := cell_of_row _ _ 3 _ _ _ h2
  have zf3 := frozen_of_row W _ 3 _ _ h2
  have H1 := Lib.hid hr1
  have H2 := Lib.hid h2
  have HB := Lib.hid hbW
  clear hbW h2
  go_enter Try.func48, Try.ntmps48
  go_wp2_with (go_at_call 62; refine (HL.out _).mono ?_; rintro e w' ⟨rfl, rfl⟩)
  exact ret_Bu rfl (w.heap.size + 1) #[.int .i64 r, .int .i64 q, .int .i64 F, .int .i64 t] rfl rfl (gv_stored rfl (set2_other H2.out (by omega) 2 3 _ _) _ _ _ _) rfl ⟨rfl, below_gv ((HB.out.setCell (Nat.le_refl _) _).setCell (Nat.le_refl _) _) (Nat.le_succ _) _ _ _ _⟩
set_option maxRecDepth 100000 in
set_option maxHeartbeats 2000000 in
theorem sNewBk (r q : Int) (w : World) :
    Calls Try.prog 23 #[.int .i64 r, .int .i64 q] w fun e w' => e = .returned (.tuple #[bkW (nbL r q).1 (nbL r q).2.1 (nbL r q).2.2.1 (nbL r q).2.2.2, .bool (nbOk r q)]) ∧ Below w.heap.size w w' := by
  obtain ⟨W, hW⟩ : ∃ W, (w.alloc (.cells #[.int .i64 0, .int .i64 0, .int .i64 0, .int .i64 0] 24)).alloc (.cells #[.int .i64 r, .int .i64 q, .int .i64 r, .int .i64 0] 24) = W := ⟨_, rfl⟩
  have hsW : W.heap.size = w.heap.size + 2 := by rw [← hW]; simp
  have hbW : Below w.heap.size w W := by rw [← hW]; exact (gAlloc w _).alloc (by simp) _
  have h1 : W.heap[w.heap.size]? = some (.cells #[.int .i64 0, .int .i64 0, .int .i64 0, .int .i64 0] 24 (0, 0)) := by rw [← hW, heap_alloc_old _ _ _ (by simp)]; exact heap_alloc_new _ _
  have h2 : W.heap[w.heap.size + 1]? = some (.cells #[.int .i64 r, .int .i64 q, .int .i64 r, .int .i64 0] 24 (0, 0)) := by rw [← hW, show w.heap.size + 1 = (w.alloc (.cells #[.int .i64 0, .int .i64 0, .int .i64 0, .int .i64 0] 24)).heap.size by simp]; exact heap_alloc_new _ _
  have z0 : W.cell? ⟨w.heap.size, 0, none⟩ = some (.int .i64 0) := cell_of_row _ _ 0 _ _ _ h1
  have zf0 := frozen_of_row W _ 0 _ _ h1
  have z1 : W.cell? ⟨w.heap.size, 1, none⟩ = some (.int .i64 0) := cell_of_row _ _ 1 _ _ _ h1
  have zf1 := frozen_of_row W _ 1 _ _ h1
  have z2 : W.cell? ⟨w.heap.size, 2, none⟩ = some (.int .i64 0) := cell_of_row _ _ 2 _ _ _ h1
  have zf2 := frozen_of_row W _ 2 _ _ h1
  have z3 : W.cell? ⟨w.heap.size, 3, none⟩ = some (.int .i64 0) := cell_of_row _ _ 3 _ _ _ h1
  have zf3 := frozen_of_row W _ 3 _ _ h1
  have x0 : W.cell? ⟨w.heap.size + 1, 0, none⟩ = some (.int .i64 r) := cell_of_row _ _ 0 _ _ _ h2
  have x1 : W.cell? ⟨w.heap.size + 1, 1, none⟩ = some (.int .i64 q) := cell_of_row _ _ 1 _ _ _ h2
  have x2 : W.cell? ⟨w.heap.size + 1, 2, none⟩ = some (.int .i64 r) := cell_of_row _ _ 2 _ _ _ h2
  have x3 : W.cell? ⟨w.heap.size + 1, 3, none⟩ = some (.int .i64 0) := cell_of_row _ _ 3 _ _ _ h2
  have H1 := Lib.hid h1
  have H2 := Lib.hid h2
  have HB := Lib.hid hbW
  clear hbW h1 h2
  have HG := Lib.hid (fun w => sGoodBk r q r 0 w)
  subst hW
  cases hg : nbOk r q
  · rw [nb_no hg]
    rw [show goodBB r q r 0 = false from hg] at HG
    clear hg
    go_enter Try.func23, Try.ntmps23
    go_wp2_with (first | (go_at_call 17; go_loud (refine (HG.out _).mono ?_); rintro e w1 ⟨rfl, hb1⟩; have z0 : w1.cell? ⟨w.heap.size, 0, none⟩ = some (.int .i64 0) := cell_of_row _ _ 0 _ _ _ (block_onU hb1 H1.out); have zf0 := frozen_of_row w1 _ 0 _ _ (block_onU hb1 H1.out); have z1 : w1.cell? ⟨w.heap.size, 1, none⟩ = some (.int .i64 0) := cell_of_row _ _ 1 _ _ _ (block_onU hb1 H1.out); have zf1 := frozen_of_row w1 _ 1 _ _ (block_onU hb1 H1.out); have z2 : w1.cell? ⟨w.heap.size, 2, none⟩ = some (.int .i64 0) := cell_of_row _ _ 2 _ _ _ (block_onU hb1 H1.out); have zf2 := frozen_of_row w1 _ 2 _ _ (block_onU hb1 H1.out); have z3 : w1.cell? ⟨w.heap.size, 3, none⟩ = some (.int .i64 0) := cell_of_row _ _ 3 _ _ _ (block_onU hb1 H1.out); have zf3 := frozen_of_row w1 _ 3 _ _ (block_onU hb1 H1.out); have x0 : w1.cell? ⟨w.heap.size + 1, 0, none⟩ = some (.int .i64 r) := cell_of_row _ _ 0 _ _ _ (block_onU hb1 H2.out); have x1 : w1.cell? ⟨w.heap.size + 1, 1, none⟩ = some (.int .i64 q) := cell_of_row _ _ 1 _ _ _ (block_onU hb1 H2.out); have x2 : w1.cell? ⟨w.heap.size + 1, 2, none⟩ = some (.int .i64 r) := cell_of_row _ _ 2 _ _ _ (block_onU hb1 H2.out); have x3 : w1.cell? ⟨w.heap.size + 1, 3, none⟩ = some (.int .i64 0) := cell_of_row _ _ 3 _ _ _ (block_onU hb1 H2.out)))
    exact ret_bk2 rfl (w.heap.size) 0 0 0 0 false rfl rfl (gv_stored rfl (block_onU hb1 H1.out) _ _ _ _) rfl ⟨rfl, below_gv (below_more HB.out hb1) (Nat.le_refl _) _ _ _ _⟩
  · rw [nb_yes hg]
    rw [show goodBB r q r 0 = true from hg] at HG
    clear hg
    go_enter Try.func23, Try.ntmps23
    go_wp2_with (first | (go_at_call 17; go_loud (refine (HG.out _).mono ?_); rintro e w1 ⟨rfl, hb1⟩; have z0 : w1.cell? ⟨w.heap.size, 0, none⟩ = some (.int .i64 0) := cell_of_row _ _ 0 _ _ _ (block_onU hb1 H1.out); have zf0 := frozen_of_row w1 _ 0 _ _ (block_onU hb1 H1.out); have z1 : w1.cell? ⟨w.heap.size, 1, none⟩ = some (.int .i64 0) := cell_of_row _ _ 1 _ _ _ (block_onU hb1 H1.out); have zf1 := frozen_of_row w1 _ 1 _ _ (block_onU hb1 H1.out); have z2 : w1.cell? ⟨w.heap.size, 2, none⟩ = some (.int .i64 0) := cell_of_row _ _ 2 _ _ _ (block_onU hb1 H1.out); have zf2 := frozen_of_row w1 _ 2 _ _ (block_onU hb1 H1.out); have z3 : w1.cell? ⟨w.heap.size, 3, none⟩ = some (.int .i64 0) := cell_of_row _ _ 3 _ _ _ (block_onU hb1 H1.out); have zf3 := frozen_of_row w1 _ 3 _ _ (block_onU hb1 H1.out); have x0 : w1.cell? ⟨w.heap.size + 1, 0, none⟩ = some (.int .i64 r) := cell_of_row _ _ 0 _ _ _ (block_onU hb1 H2.out); have x1 : w1.cell? ⟨w.heap.size + 1, 1, none⟩ = some (.int .i64 q) := cell_of_row _ _ 1 _ _ _ (block_onU hb1 H2.out); have x2 : w1.cell? ⟨w.heap.size + 1, 2, none⟩ = some (.int .i64 r) := cell_of_row _ _ 2 _ _ _ (block_onU hb1 H2.out); have x3 : w1.cell? ⟨w.heap.size + 1, 3, none⟩ = some (.int .i64 0) := cell_of_row _ _ 3 _ _ _ (block_onU hb1 H2.out)))
    exact ret_bk2 rfl (w.heap.size) r q r 0 true rfl rfl (gv_stored rfl (block_onU hb1 H1.out) _ _ _ _) rfl ⟨rfl, below_gv (below_more HB.out hb1) (Nat.le_refl _) _ _ _ _⟩
set_option maxRecDepth 100000 in
set_option maxHeartbeats 2000000 in
theorem sFillTo (r q f c t : Int) (w : World) :
    Calls Try.prog 30 #[bkW r q f c, .int .i64 t] w fun e w' => e = .returned (.tuple #[bkW (ftL r q f c t).1 (ftL r q f c t).2.1 (ftL r q f c t).2.2.1 (ftL r q f c t).2.2.2, .bool (ftOk r q f c t)]) ∧ Below w.heap.size w w' := by
  obtain ⟨W, hW⟩ : ∃ W, (w.alloc (.cells #[.int .i64 r, .int .i64 q, .int .i64 f, .int .i64 c] 24)).alloc (.cells #[.int .i64 0, .int .i64 0, .int .i64 0, .int .i64 0] 24) = W := ⟨_, rfl⟩
  have hsW : W.heap.size = w.heap.size + 2 := by rw [← hW]; simp
  have hbW : Below w.heap.size w W := by rw [← hW]; exact (gAlloc w _).alloc (by simp) _
  have h1 : W.heap[w.heap.size]? = some (.cells #[.int .i64 r, .int .i64 q, .int .i64 f, .int .i64 c] 24 (0, 0)) := by rw [← hW, heap_alloc_old _ _ _ (by simp)]; exact heap_alloc_new _ _
  have h2 : W.heap[w.heap.size + 1]? = some (.cells #[.int .i64 0, .int .i64 0, .int .i64 0, .int .i64 0] 24 (0, 0)) := by rw [← hW, show w.heap.size + 1 = (w.alloc (.cells #[.int .i64 r, .int .i64 q, .int .i64 f, .int .i64 c] 24)).heap.size by simp]; exact heap_alloc_new _ _
  have x0 : W.cell? ⟨w.heap.size, 0, none⟩ = some (.int .i64 r) := cell_of_row _ _ 0 _ _ _ h1
  have x1 : W.cell? ⟨w.heap.size, 1, none⟩ = some (.int .i64 q) := cell_of_row _ _ 1 _ _ _ h1
  have x2 : W.cell? ⟨w.heap.size, 2, none⟩ = some (.int .i64 f) := cell_of_row _ _ 2 _ _ _ h1
  have x3 : W.cell? ⟨w.heap.size, 3, none⟩ = some (.int .i64 c) := cell_of_row _ _ 3 _ _ _ h1
  have z0 : W.cell? ⟨w.heap.size + 1, 0, none⟩ = some (.int .i64 0) := cell_of_row _ _ 0 _ _ _ h2
  have zf0 := frozen_of_row W _ 0 _ _ h2
  have z1 : W.cell? ⟨w.heap.size + 1, 1, none⟩ = some (.int .i64 0) := cell_of_row _ _ 1 _ _ _ h2
  have zf1 := frozen_of_row W _ 1 _ _ h2
  have z2 : W.cell? ⟨w.heap.size + 1, 2, none⟩ = some (.int .i64 0) := cell_of_row _ _ 2 _ _ _ h2
  have zf2 := frozen_of_row W _ 2 _ _ h2
  have z3 : W.cell? ⟨w.heap.size + 1, 3, none⟩ = some (.int .i64 0) := cell_of_row _ _ 3 _ _ _ h2
  have zf3 := frozen_of_row W _ 3 _ _ h2
  have H1 := Lib.hid h1
  have H2 := Lib.hid h2
  have HB := Lib.hid hbW
  clear hbW h1 h2
  have HG := Lib.hid (sGoodBk r q f c W)
  have HI := Lib.hid (fun w => l1In_any t c 10000 w)
  cases hg : goodBB r q f c
  · rw [ft_no (show ftOk r q f c t = false by rw [ftOk, hg]; rfl), show ftOk r q f c t = false by rw [ftOk, hg]; rfl]
    rw [hg] at HG
    clear hg
    go_enter Try.func30, Try.ntmps30
    go_wp2_with (first | (go_at_call 17; go_loud (refine (HG.out).mono ?_); rintro e w1 ⟨rfl, hb1⟩; have x0 : w1.cell? ⟨w.heap.size, 0, none⟩ = some (.int .i64 r) := cell_of_row _ _ 0 _ _ _ (block_onU hb1 H1.out); have x1 : w1.cell? ⟨w.heap.size, 1, none⟩ = some (.int .i64 q) := cell_of_row _ _ 1 _ _ _ (block_onU hb1 H1.out); have x2 : w1.cell? ⟨w.heap.size, 2, none⟩ = some (.int .i64 f) := cell_of_row _ _ 2 _ _ _ (block_onU hb1 H1.out); have x3 : w1.cell? ⟨w.heap.size, 3, none⟩ = some (.int .i64 c) := cell_of_row _ _ 3 _ _ _ (block_onU hb1 H1.out); have z0 : w1.cell? ⟨w.heap.size + 1, 0, none⟩ = some (.int .i64 0) := cell_of_row _ _ 0 _ _ _ (block_onU hb1 H2.out); have zf0 := frozen_of_row w1 _ 0 _ _ (block_onU hb1 H2.out); have z1 : w1.cell? ⟨w.heap.size + 1, 1, none⟩ = some (.int .i64 0) := cell_of_row _ _ 1 _ _ _ (block_onU hb1 H2.out); have zf1 := frozen_of_row w1 _ 1 _ _ (block_onU hb1 H2.out); have z2 : w1.cell? ⟨w.heap.size + 1, 2, none⟩ = some (.int .i64 0) := cell_of_row _ _ 2 _ _ _ (block_onU hb1 H2.out); have zf2 := frozen_of_row w1 _ 2 _ _ (block_onU hb1 H2.out); have z3 : w1.cell? ⟨w.heap.size + 1, 3, none⟩ = some (.int .i64 0) := cell_of_row _ _ 3 _ _ _ (block_onU hb1 H2.out); have zf3 := frozen_of_row w1 _ 3 _ _ (block_onU hb1 H2.out)))
    exact ret_bk2 rfl (w.heap.size + 1) 0 0 0 0 false rfl rfl (gv_stored rfl (block_onU hb1 H2.out) _ _ _ _) rfl ⟨rfl, below_gv (below_more HB.out hb1) (Nat.le_succ _) _ _ _ _⟩
  · have hg' := hg
    rw [hg] at HG
    cases hi : inB t c 10000
    · rw [ft_no (show ftOk r q f c t = false by rw [ftOk, hg, hi]; rfl), show ftOk r q f c t = false by rw [ftOk, hg, hi]; rfl]
      rw [hi] at HI
      clear hg hg' hi
      go_enter Try.func30, Try.ntmps30
      go_wp2_with (first | (go_at_call 17; go_loud (refine (HG.out).mono ?_); rintro e w1 ⟨rfl, hb1⟩; have x0 : w1.cell? ⟨w.heap.size, 0, none⟩ = some (.int .i64 r) := cell_of_row _ _ 0 _ _ _ (block_onU hb1 H1.out); have x1 : w1.cell? ⟨w.heap.size, 1, none⟩ = some (.int .i64 q) := cell_of_row _ _ 1 _ _ _ (block_onU hb1 H1.out); have x2 : w1.cell? ⟨w.heap.size, 2, none⟩ = some (.int .i64 f) := cell_of_row _ _ 2 _ _ _ (block_onU hb1 H1.out); have x3 : w1.cell? ⟨w.heap.size, 3, none⟩ = some (.int .i64 c) := cell_of_row _ _ 3 _ _ _ (block_onU hb1 H1.out); have z0 : w1.cell? ⟨w.heap.size + 1, 0, none⟩ = some (.int .i64 0) := cell_of_row _ _ 0 _ _ _ (block_onU hb1 H2.out); have zf0 := frozen_of_row w1 _ 0 _ _ (block_onU hb1 H2.out); have z1 : w1.cell? ⟨w.heap.size + 1, 1, none⟩ = some (.int .i64 0) := cell_of_row _ _ 1 _ _ _ (block_onU hb1 H2.out); have zf1 := frozen_of_row w1 _ 1 _ _ (block_onU hb1 H2.out); have z2 : w1.cell? ⟨w.heap.size + 1, 2, none⟩ = some (.int .i64 0) := cell_of_row _ _ 2 _ _ _ (block_onU hb1 H2.out); have zf2 := frozen_of_row w1 _ 2 _ _ (block_onU hb1 H2.out); have z3 : w1.cell? ⟨w.heap.size + 1, 3, none⟩ = some (.int .i64 0) := cell_of_row _ _ 3 _ _ _ (block_onU hb1 H2.out); have zf3 := frozen_of_row w1 _ 3 _ _ (block_onU hb1 H2.out)) | (go_at_call 50; go_loud (refine (HI.out _).mono ?_); rintro e w' ⟨rfl, rfl⟩))
      exact ret_bk2 rfl (w.heap.size + 1) 0 0 0 0 false rfl rfl (gv_stored rfl (block_onU hb1 H2.out) _ _ _ _) rfl ⟨rfl, below_gv (below_more HB.out hb1) (Nat.le_succ _) _ _ _ _⟩
    · rw [ft_yes (show ftOk r q f c t = true by rw [ftOk, hg, hi]; rfl), show ftOk r q f c t = true by rw [ftOk, hg, hi]; rfl]
      rw [hi] at HI
      obtain ⟨i0, i1⟩ := inB_andL hi
      have HF := Lib.hid (fun w => sFill13 hg i0 i1 w)
      generalize fillI r q f c t = F at *
      clear hg hg' hi i0 i1
      go_enter Try.func30, Try.ntmps30
      go_wp2_with (first | (go_at_call 17; go_loud (refine (HG.out).mono ?_); rintro e w1 ⟨rfl, hb1⟩; have x0 : w1.cell? ⟨w.heap.size, 0, none⟩ = some (.int .i64 r) := cell_of_row _ _ 0 _ _ _ (block_onU hb1 H1.out); have x1 : w1.cell? ⟨w.heap.size, 1, none⟩ = some (.int .i64 q) := cell_of_row _ _ 1 _ _ _ (block_onU hb1 H1.out); have x2 : w1.cell? ⟨w.heap.size, 2, none⟩ = some (.int .i64 f) := cell_of_row _ _ 2 _ _ _ (block_onU hb1 H1.out); have x3 : w1.cell? ⟨w.heap.size, 3, none⟩ = some (.int .i64 c) := cell_of_row _ _ 3 _ _ _ (block_onU hb1 H1.out); have z0 : w1.cell? ⟨w.heap.size + 1, 0, none⟩ = some (.int .i64 0) := cell_of_row _ _ 0 _ _ _ (block_onU hb1 H2.out); have zf0 := frozen_of_row w1 _ 0 _ _ (block_onU hb1 H2.out); have z1 : w1.cell? ⟨w.heap.size + 1, 1, none⟩ = some (.int .i64 0) := cell_of_row _ _ 1 _ _ _ (block_onU hb1 H2.out); have zf1 := frozen_of_row w1 _ 1 _ _ (block_onU hb1 H2.out); have z2 : w1.cell? ⟨w.heap.size + 1, 2, none⟩ = some (.int .i64 0) := cell_of_row _ _ 2 _ _ _ (block_onU hb1 H2.out); have zf2 := frozen_of_row w1 _ 2 _ _ (block_onU hb1 H2.out); have z3 : w1.cell? ⟨w.heap.size + 1, 3, none⟩ = some (.int .i64 0) := cell_of_row _ _ 3 _ _ _ (block_onU hb1 H2.out); have zf3 := frozen_of_row w1 _ 3 _ _ (block_onU hb1 H2.out)) | (go_at_call 50; go_loud (refine (HI.out _).mono ?_); rintro e w' ⟨rfl, rfl⟩) | (go_at_call 48; go_loud (refine (HF.out _).mono ?_); rintro e w2 ⟨rfl, hb2⟩; have z0 : w2.cell? ⟨w.heap.size + 1, 0, none⟩ = some (.int .i64 0) := cell_of_row _ _ 0 _ _ _ (block_onU hb2 (block_onU hb1 H2.out)); have zf0 := frozen_of_row w2 _ 0 _ _ (block_onU hb2 (block_onU hb1 H2.out)); have z1 : w2.cell? ⟨w.heap.size + 1, 1, none⟩ = some (.int .i64 0) := cell_of_row _ _ 1 _ _ _ (block_onU hb2 (block_onU hb1 H2.out)); have zf1 := frozen_of_row w2 _ 1 _ _ (block_onU hb2 (block_onU hb1 H2.out)); have z2 : w2.cell? ⟨w.heap.size + 1, 2, none⟩ = some (.int .i64 0) := cell_of_row _ _ 2 _ _ _ (block_onU hb2 (block_onU hb1 H2.out)); have zf2 := frozen_of_row w2 _ 2 _ _ (block_onU hb2 (block_onU hb1 H2.out)); have z3 : w2.cell? ⟨w.heap.size + 1, 3, none⟩ = some (.int .i64 0) := cell_of_row _ _ 3 _ _ _ (block_onU hb2 (block_onU hb1 H2.out)); have zf3 := frozen_of_row w2 _ 3 _ _ (block_onU hb2 (block_onU hb1 H2.out))))
      exact ret_bk2 rfl (w.heap.size + 1) r q F t true rfl rfl (gv_stored rfl (block_onU hb2 (block_onU hb1 H2.out)) _ _ _ _) rfl ⟨rfl, below_gv (below_more (below_more HB.out hb1) hb2) (Nat.le_succ _) _ _ _ _⟩
set_option maxRecDepth 100000 in
set_option maxHeartbeats 2000000 in
theorem sWant13 (r q f c a s : Int) (w : World) :
    Calls Try.prog 47 #[bkW r q f c, wnW a s] w fun e w' => e = .returned (.bool (wantB c a s)) ∧ Below w.heap.size w w' := by
  obtain ⟨W, hW⟩ : ∃ W, (w.alloc (.cells #[.int .i64 r, .int .i64 q, .int .i64 f, .int .i64 c] 24)).alloc (.cells #[.int .i64 a, .int .i64 s] 34) = W := ⟨_, rfl⟩
  have hsW : W.heap.size = w.heap.size + 2 := by rw [← hW]; simp
  have hbW : Below w.heap.size w W := by rw [← hW]; exact (gAlloc w _).alloc (by simp) _
  have h1 : W.heap[w.heap.size]? = some (.cells #[.int .i64 r, .int .i64 q, .int .i64 f, .int .i64 c] 24 (0, 0)) := by rw [← hW, heap_alloc_old _ _ _ (by simp)]; exact heap_alloc_new _ _
  have h2 : W.heap[w.heap.size + 1]? = some (.cells #[.int .i64 a, .int .i64 s] 34 (0, 0)) := by rw [← hW, show w.heap.size + 1 = (w.alloc (.cells #[.int .i64 r, .int .i64 q, .int .i64 f, .int .i64 c] 24)).heap.size by simp]; exact heap_alloc_new _ _
  have x0 : W.cell? ⟨w.heap.size, 0, none⟩ = some (.int .i64 r) := cell_of_row _ _ 0 _ _ _ h1
  have x1 : W.cell? ⟨w.heap.size, 1, none⟩ = some (.int .i64 q) := cell_of_row _ _ 1 _ _ _ h1
  have x2 : W.cell? ⟨w.heap.size, 2, none⟩ = some (.int .i64 f) := cell_of_row _ _ 2 _ _ _ h1
  have x3 : W.cell? ⟨w.heap.size, 3, none⟩ = some (.int .i64 c) := cell_of_row _ _ 3 _ _ _ h1
  have y0 : W.cell? ⟨w.heap.size + 1, 0, none⟩ = some (.int .i64 a) := cell_of_row _ _ 0 _ _ _ h2
  have y1 : W.cell? ⟨w.heap.size + 1, 1, none⟩ = some (.int .i64 s) := cell_of_row _ _ 1 _ _ _ h2
  have H1 := Lib.hid h1
  have H2 := Lib.hid h2
  have HB := Lib.hid hbW
  clear hbW h1 h2
  have HA := Lib.hid (fun w => l1In_any a c 10000 w)
  have HS := Lib.hid (fun w => l1In_any s 1 100 w)
  cases ha : inB a c 10000
  · have HE : Hid (wantB c a s = false) := by show _ = _; rw [wantB, ha]; rfl
    rw [ha] at HA
    clear ha HS
    go_enter Try.func47, Try.ntmps47
    go_wp2_with fail
    refine (HA.out _).mono ?_
    rintro e w' ⟨rfl, rfl⟩
    go_wp2_with fail
    go_ret
    exact ⟨ret_bool' HE.out.symm, HB.out⟩
  · have HE : Hid (wantB c a s = inB s 1 100) := by show _ = _; rw [wantB, ha]; rfl
    rw [ha] at HA
    generalize inB s 1 100 = b at *
    clear ha
    go_enter Try.func47, Try.ntmps47
    go_wp2_with fail
    refine (HA.out _).mono ?_
    rintro e w' ⟨rfl, rfl⟩
    go_wp2_with fail
    refine (HS.out _).mono ?_
    rintro e w' ⟨rfl, rfl⟩
    go_wp2_with fail
    go_ret
    exact ⟨ret_bool' HE.out.symm, HB.out⟩
set_option maxRecDepth 100000 in
set_option maxHeartbeats 2000000 in
theorem sTakeFrom (r q f c a s : Int) (w : World) :
    Calls Try.prog 32 #[bkW r q f c, wnW a s] w fun e w' => e = .returned (.tuple #[bkW (tkL r q f c a s).1 (tkL r q f c a s).2.1 (tkL r q f c a s).2.2.1 (tkL r q f c a s).2.2.2, .bool (tkOk r q f c a s)]) ∧ Below w.heap.size w w' := by
  obtain ⟨W, hW⟩ : ∃ W, ((w.alloc (.cells #[.int .i64 r, .int .i64 q, .int .i64 f, .int .i64 c] 24)).alloc (.cells #[.int .i64 a, .int .i64 s] 34)).alloc (.cells #[.int .i64 0, .int .i64 0, .int .i64 0, .int .i64 0] 24) = W := ⟨_, rfl⟩
  have hsW : W.heap.size = w.heap.size + 3 := by rw [← hW]; simp
  have hbW : Below w.heap.size w W := by rw [← hW]; exact ((gAlloc w _).alloc (by simp) _).alloc (by simp; omega) _
  have h1 : W.heap[w.heap.size]? = some (.cells #[.int .i64 r, .int .i64 q, .int .i64 f, .int .i64 c] 24 (0, 0)) := by rw [← hW, heap_alloc_old _ _ _ (by simp; omega), heap_alloc_old _ _ _ (by simp)]; exact heap_alloc_new _ _
  have h2 : W.heap[w.heap.size + 1]? = some (.cells #[.int .i64 a, .int .i64 s] 34 (0, 0)) := by rw [← hW, heap_alloc_old _ _ _ (by simp), show w.heap.size + 1 = (w.alloc (.cells #[.int .i64 r, .int .i64 q, .int .i64 f, .int .i64 c] 24)).heap.size by simp]; exact heap_alloc_new _ _
  have h3 : W.heap[w.heap.size + 1 + 1]? = some (.cells #[.int .i64 0, .int .i64 0, .int .i64 0, .int .i64 0] 24 (0, 0)) := by rw [← hW, show w.heap.size + 1 + 1 = ((w.alloc (.cells #[.int .i64 r, .int .i64 q, .int .i64 f, .int .i64 c] 24)).alloc (.cells #[.int .i64 a, .int .i64 s] 34)).heap.size by simp]; exact heap_alloc_new _ _
  have x0 : W.cell? ⟨w.heap.size, 0, none⟩ = some (.int .i64 r) := cell_of_row _ _ 0 _ _ _ h1
  have x1 : W.cell? ⟨w.heap.size, 1, none⟩ = some (.int .i64 q) := cell_of_row _ _ 1 _ _ _ h1
  have x2 : W.cell? ⟨w.heap.size, 2, none⟩ = some (.int .i64 f) := cell_of_row _ _ 2 _ _ _ h1
  have x3 : W.cell? ⟨w.heap.size, 3, none⟩ = some (.int .i64 c) := cell_of_row _ _ 3 _ _ _ h1
  have y0 : W.cell? ⟨w.heap.size + 1, 0, none⟩ = some (.int .i64 a) := cell_of_row _ _ 0 _ _ _ h2
  have y1 : W.cell? ⟨w.heap.size + 1, 1, none⟩ = some (.int .i64 s) := cell_of_row _ _ 1 _ _ _ h2
  have z0 : W.cell? ⟨w.heap.size + 1 + 1, 0, none⟩ = some (.int .i64 0) := cell_of_row _ _ 0 _ _ _ h3
  have zf0 := frozen_of_row W _ 0 _ _ h3
  have z1 : W.cell? ⟨w.heap.size + 1 + 1, 1, none⟩ = some (.int .i64 0) := cell_of_row _ _ 1 _ _ _ h3
  have zf1 := frozen_of_row W _ 1 _ _ h3
  have z2 : W.cell? ⟨w.heap.size + 1 + 1, 2, none⟩ = some (.int .i64 0) := cell_of_row _ _ 2 _ _ _ h3
  have zf2 := frozen_of_row W _ 2 _ _ h3
  have z3 : W.cell? ⟨w.heap.size + 1 + 1, 3, none⟩ = some (.int .i64 0) := cell_of_row _ _ 3 _ _ _ h3
  have zf3 := frozen_of_row W _ 3 _ _ h3
  have H1 := Lib.hid h1
  have H2 := Lib.hid h2
  have H3 := Lib.hid h3
  have HB := Lib.hid hbW
  clear hbW h1 h2 h3
  have HG := Lib.hid (sGoodBk r q f c W)
  have HW := Lib.hid (fun w => sWant13 r q f c a s w)
  cases hg : goodBB r q f c
  · rw [tk_no (show tkOk r q f c a s = false by rw [tkOk, hg]; rfl), show tkOk r q f c a s = false by rw [tkOk, hg]; rfl]
    rw [hg] at HG
    clear hg HW
    go_enter Try.func32, Try.ntmps32
    go_wp2_with (first | (go_at_call 17; go_loud (refine (HG.out).mono ?_); rintro e w1 ⟨rfl, hb1⟩; have x0 : w1.cell? ⟨w.heap.size, 0, none⟩ = some (.int .i64 r) := cell_of_row _ _ 0 _ _ _ (block_onU hb1 H1.out); have x1 : w1.cell? ⟨w.heap.size, 1, none⟩ = some (.int .i64 q) := cell_of_row _ _ 1 _ _ _ (block_onU hb1 H1.out); have x2 : w1.cell? ⟨w.heap.size, 2, none⟩ = some (.int .i64 f) := cell_of_row _ _ 2 _ _ _ (block_onU hb1 H1.out); have x3 : w1.cell? ⟨w.heap.size, 3, none⟩ = some (.int .i64 c) := cell_of_row _ _ 3 _ _ _ (block_onU hb1 H1.out); have y0 : w1.cell? ⟨w.heap.size + 1, 0, none⟩ = some (.int .i64 a) := cell_of_row _ _ 0 _ _ _ (block_onU hb1 H2.out); have y1 : w1.cell? ⟨w.heap.size + 1, 1, none⟩ = some (.int .i64 s) := cell_of_row _ _ 1 _ _ _ (block_onU hb1 H2.out); have z0 : w1.cell? ⟨w.heap.size + 1 + 1, 0, none⟩ = some (.int .i64 0) := cell_of_row _ _ 0 _ _ _ (block_onU hb1 H3.out); have zf0 := frozen_of_row w1 _ 0 _ _ (block_onU hb1 H3.out); have z1 : w1.cell? ⟨w.heap.size + 1 + 1, 1, none⟩ = some (.int .i64 0) := cell_of_row _ _ 1 _ _ _ (block_onU hb1 H3.out); have zf1 := frozen_of_row w1 _ 1 _ _ (block_onU hb1 H3.out); have z2 : w1.cell? ⟨w.heap.size + 1 + 1, 2, none⟩ = some (.int .i64 0) := cell_of_row _ _ 2 _ _ _ (block_onU hb1 H3.out); have zf2 := frozen_of_row w1 _ 2 _ _ (block_onU hb1 H3.out); have z3 : w1.cell? ⟨w.heap.size + 1 + 1, 3, none⟩ = some (.int .i64 0) := cell_of_row _ _ 3 _ _ _ (block_onU hb1 H3.out); have zf3 := frozen_of_row w1 _ 3 _ _ (block_onU hb1 H3.out)))
    exact ret_bk2 rfl (w.heap.size + 1 + 1) 0 0 0 0 false rfl rfl (gv_stored rfl (block_onU hb1 H3.out) _ _ _ _) rfl ⟨rfl, below_gv (below_more HB.out hb1) (by omega) _ _ _ _⟩
  · rw [hg] at HG
    cases hw : wantB c a s
    · rw [tk_no (show tkOk r q f c a s = false by rw [tkOk, hg, hw]; rfl), show tkOk r q f c a s = false by rw [tkOk, hg, hw]; rfl]
      rw [hw] at HW
      clear hg hw
      go_enter Try.func32, Try.ntmps32
      go_wp2_with (first | (go_at_call 17; go_loud (refine (HG.out).mono ?_); rintro e w1 ⟨rfl, hb1⟩; have x0 : w1.cell? ⟨w.heap.size, 0, none⟩ = some (.int .i64 r) := cell_of_row _ _ 0 _ _ _ (block_onU hb1 H1.out); have x1 : w1.cell? ⟨w.heap.size, 1, none⟩ = some (.int .i64 q) := cell_of_row _ _ 1 _ _ _ (block_onU hb1 H1.out); have x2 : w1.cell? ⟨w.heap.size, 2, none⟩ = some (.int .i64 f) := cell_of_row _ _ 2 _ _ _ (block_onU hb1 H1.out); have x3 : w1.cell? ⟨w.heap.size, 3, none⟩ = some (.int .i64 c) := cell_of_row _ _ 3 _ _ _ (block_onU hb1 H1.out); have y0 : w1.cell? ⟨w.heap.size + 1, 0, none⟩ = some (.int .i64 a) := cell_of_row _ _ 0 _ _ _ (block_onU hb1 H2.out); have y1 : w1.cell? ⟨w.heap.size + 1, 1, none⟩ = some (.int .i64 s) := cell_of_row _ _ 1 _ _ _ (block_onU hb1 H2.out); have z0 : w1.cell? ⟨w.heap.size + 1 + 1, 0, none⟩ = some (.int .i64 0) := cell_of_row _ _ 0 _ _ _ (block_onU hb1 H3.out); have zf0 := frozen_of_row w1 _ 0 _ _ (block_onU hb1 H3.out); have z1 : w1.cell? ⟨w.heap.size + 1 + 1, 1, none⟩ = some (.int .i64 0) := cell_of_row _ _ 1 _ _ _ (block_onU hb1 H3.out); have zf1 := frozen_of_row w1 _ 1 _ _ (block_onU hb1 H3.out); have z2 : w1.cell? ⟨w.heap.size + 1 + 1, 2, none⟩ = some (.int .i64 0) := cell_of_row _ _ 2 _ _ _ (block_onU hb1 H3.out); have zf2 := frozen_of_row w1 _ 2 _ _ (block_onU hb1 H3.out); have z3 : w1.cell? ⟨w.heap.size + 1 + 1, 3, none⟩ = some (.int .i64 0) := cell_of_row _ _ 3 _ _ _ (block_onU hb1 H3.out); have zf3 := frozen_of_row w1 _ 3 _ _ (block_onU hb1 H3.out)) | (go_at_call 47; go_loud (refine (HW.out _).mono ?_); rintro e w2 ⟨rfl, hb2⟩; have x0 : w2.cell? ⟨w.heap.size, 0, none⟩ = some (.int .i64 r) := cell_of_row _ _ 0 _ _ _ (block_onU hb2 (block_onU hb1 H1.out)); have x1 : w2.cell? ⟨w.heap.size, 1, none⟩ = some (.int .i64 q) := cell_of_row _ _ 1 _ _ _ (block_onU hb2 (block_onU hb1 H1.out)); have x2 : w2.cell? ⟨w.heap.size, 2, none⟩ = some (.int .i64 f) := cell_of_row _ _ 2 _ _ _ (block_onU hb2 (block_onU hb1 H1.out)); have x3 : w2.cell? ⟨w.heap.size, 3, none⟩ = some (.int .i64 c) := cell_of_row _ _ 3 _ _ _ (block_onU hb2 (block_onU hb1 H1.out)); have y0 : w2.cell? ⟨w.heap.size + 1, 0, none⟩ = some (.int .i64 a) := cell_of_row _ _ 0 _ _ _ (block_onU hb2 (block_onU hb1 H2.out)); have y1 : w2.cell? ⟨w.heap.size + 1, 1, none⟩ = some (.int .i64 s) := cell_of_row _ _ 1 _ _ _ (block_onU hb2 (block_onU hb1 H2.out)); have z0 : w2.cell? ⟨w.heap.size + 1 + 1, 0, none⟩ = some (.int .i64 0) := cell_of_row _ _ 0 _ _ _ (block_onU hb2 (block_onU hb1 H3.out)); have zf0 := frozen_of_row w2 _ 0 _ _ (block_onU hb2 (block_onU hb1 H3.out)); have z1 : w2.cell? ⟨w.heap.size + 1 + 1, 1, none⟩ = some (.int .i64 0) := cell_of_row _ _ 1 _ _ _ (block_onU hb2 (block_onU hb1 H3.out)); have zf1 := frozen_of_row w2 _ 1 _ _ (block_onU hb2 (block_onU hb1 H3.out)); have z2 : w2.cell? ⟨w.heap.size + 1 + 1, 2, none⟩ = some (.int .i64 0) := cell_of_row _ _ 2 _ _ _ (block_onU hb2 (block_onU hb1 H3.out)); have zf2 := frozen_of_row w2 _ 2 _ _ (block_onU hb2 (block_onU hb1 H3.out)); have z3 : w2.cell? ⟨w.heap.size + 1 + 1, 3, none⟩ = some (.int .i64 0) := cell_of_row _ _ 3 _ _ _ (block_onU hb2 (block_onU hb1 H3.out)); have zf3 := frozen_of_row w2 _ 3 _ _ (block_onU hb2 (block_onU hb1 H3.out))))
      exact ret_bk2 rfl (w.heap.size + 1 + 1) 0 0 0 0 false rfl rfl (gv_stored rfl (block_onU hb2 (block_onU hb1 H3.out)) _ _ _ _) rfl ⟨rfl, below_gv (below_more (below_more HB.out hb1) hb2) (by omega) _ _ _ _⟩
    · rw [hw] at HW
      have hwi : inB a c 10000 = true ∧ inB s 1 100 = true := by simpa [wantB] using hw
      obtain ⟨a0, a1⟩ := inB_andL hwi.1
      obtain ⟨s0, s1⟩ := inB_andL hwi.2
      have HF := Lib.hid (fun w => sFill13 hg a0 a1 w)
      have hfb := gbk_ok (fill_good hg a0 a1).1
      obtain ⟨F, hF⟩ : ∃ F, fillI r q f c a = F := ⟨_, rfl⟩
      rw [hF] at HF hfb
      obtain ⟨F0, F1⟩ := hfb.2.2.1
      obtain ⟨-, R1⟩ := hfb.1
      clear hfb
      by_cases hs : s ≤ F
      · rw [tk_yes (show tkOk r q f c a s = true by rw [tkOk, hg, hw, hF]; simpa using hs), show tkOk r q f c a s = true by rw [tkOk, hg, hw, hF]; simpa using hs, hF]
        clear hg hw hwi hF a0 a1
        go_enter Try.func32, Try.ntmps32
        go_wp2_with (first | (go_at_call 17; go_loud (refine (HG.out).mono ?_); rintro e w1 ⟨rfl, hb1⟩; have x0 : w1.cell? ⟨w.heap.size, 0, none⟩ = some (.int .i64 r) := cell_of_row _ _ 0 _ _ _ (block_onU hb1 H1.out); have x1 : w1.cell? ⟨w.heap.size, 1, none⟩ = some (.int .i64 q) := cell_of_row _ _ 1 _ _ _ (block_onU hb1 H1.out); have x2 : w1.cell? ⟨w.heap.size, 2, none⟩ = some (.int .i64 f) := cell_of_row _ _ 2 _ _ _ (block_onU hb1 H1.out); have x3 : w1.cell? ⟨w.heap.size, 3, none⟩ = some (.int .i64 c) := cell_of_row _ _ 3 _ _ _ (block_onU hb1 H1.out); have y0 : w1.cell? ⟨w.heap.size + 1, 0, none⟩ = some (.int .i64 a) := cell_of_row _ _ 0 _ _ _ (block_onU hb1 H2.out); have y1 : w1.cell? ⟨w.heap.size + 1, 1, none⟩ = some (.int .i64 s) := cell_of_row _ _ 1 _ _ _ (block_onU hb1 H2.out); have z0 : w1.cell? ⟨w.heap.size + 1 + 1, 0, none⟩ = some (.int .i64 0) := cell_of_row _ _ 0 _ _ _ (block_onU hb1 H3.out); have zf0 := frozen_of_row w1 _ 0 _ _ (block_onU hb1 H3.out); have z1 : w1.cell? ⟨w.heap.size + 1 + 1, 1, none⟩ = some (.int .i64 0) := cell_of_row _ _ 1 _ _ _ (block_onU hb1 H3.out); have zf1 := frozen_of_row w1 _ 1 _ _ (block_onU hb1 H3.out); have z2 : w1.cell? ⟨w.heap.size + 1 + 1, 2, none⟩ = some (.int .i64 0) := cell_of_row _ _ 2 _ _ _ (block_onU hb1 H3.out); have zf2 := frozen_of_row w1 _ 2 _ _ (block_onU hb1 H3.out); have z3 : w1.cell? ⟨w.heap.size + 1 + 1, 3, none⟩ = some (.int .i64 0) := cell_of_row _ _ 3 _ _ _ (block_onU hb1 H3.out); have zf3 := frozen_of_row w1 _ 3 _ _ (block_onU hb1 H3.out)) | (go_at_call 47; go_loud (refine (HW.out _).mono ?_); rintro e w2 ⟨rfl, hb2⟩; have x0 : w2.cell? ⟨w.heap.size, 0, none⟩ = some (.int .i64 r) := cell_of_row _ _ 0 _ _ _ (block_onU hb2 (block_onU hb1 H1.out)); have x1 : w2.cell? ⟨w.heap.size, 1, none⟩ = some (.int .i64 q) := cell_of_row _ _ 1 _ _ _ (block_onU hb2 (block_onU hb1 H1.out)); have x2 : w2.cell? ⟨w.heap.size, 2, none⟩ = some (.int .i64 f) := cell_of_row _ _ 2 _ _ _ (block_onU hb2 (block_onU hb1 H1.out)); have x3 : w2.cell? ⟨w.heap.size, 3, none⟩ = some (.int .i64 c) := cell_of_row _ _ 3 _ _ _ (block_onU hb2 (block_onU hb1 H1.out)); have y0 : w2.cell? ⟨w.heap.size + 1, 0, none⟩ = some (.int .i64 a) := cell_of_row _ _ 0 _ _ _ (block_onU hb2 (block_onU hb1 H2.out)); have y1 : w2.cell? ⟨w.heap.size + 1, 1, none⟩ = some (.int .i64 s) := cell_of_row _ _ 1 _ _ _ (block_onU hb2 (block_onU hb1 H2.out)); have z0 : w2.cell? ⟨w.heap.size + 1 + 1, 0, none⟩ = some (.int .i64 0) := cell_of_row _ _ 0 _ _ _ (block_onU hb2 (block_onU hb1 H3.out)); have zf0 := frozen_of_row w2 _ 0 _ _ (block_onU hb2 (block_onU hb1 H3.out)); have z1 : w2.cell? ⟨w.heap.size + 1 + 1, 1, none⟩ = some (.int .i64 0) := cell_of_row _ _ 1 _ _ _ (block_onU hb2 (block_onU hb1 H3.out)); have zf1 := frozen_of_row w2 _ 1 _ _ (block_onU hb2 (block_onU hb1 H3.out)); have z2 : w2.cell? ⟨w.heap.size + 1 + 1, 2, none⟩ = some (.int .i64 0) := cell_of_row _ _ 2 _ _ _ (block_onU hb2 (block_onU hb1 H3.out)); have zf2 := frozen_of_row w2 _ 2 _ _ (block_onU hb2 (block_onU hb1 H3.out)); have z3 : w2.cell? ⟨w.heap.size + 1 + 1, 3, none⟩ = some (.int .i64 0) := cell_of_row _ _ 3 _ _ _ (block_onU hb2 (block_onU hb1 H3.out)); have zf3 := frozen_of_row w2 _ 3 _ _ (block_onU hb2 (block_onU hb1 H3.out))) | (go_at_call 48; go_loud (refine (HF.out _).mono ?_); rintro e w3 ⟨rfl, hb3⟩; have y0 : w3.cell? ⟨w.heap.size + 1, 0, none⟩ = some (.int .i64 a) := cell_of_row _ _ 0 _ _ _ (block_onU hb3 (block_onU hb2 (block_onU hb1 H2.out))); have y1 : w3.cell? ⟨w.heap.size + 1, 1, none⟩ = some (.int .i64 s) := cell_of_row _ _ 1 _ _ _ (block_onU hb3 (block_onU hb2 (block_onU hb1 H2.out))); have z0 : w3.cell? ⟨w.heap.size + 1 + 1, 0, none⟩ = some (.int .i64 0) := cell_of_row _ _ 0 _ _ _ (block_onU hb3 (block_onU hb2 (block_onU hb1 H3.out))); have zf0 := frozen_of_row w3 _ 0 _ _ (block_onU hb3 (block_onU hb2 (block_onU hb1 H3.out))); have z1 : w3.cell? ⟨w.heap.size + 1 + 1, 1, none⟩ = some (.int .i64 0) := cell_of_row _ _ 1 _ _ _ (block_onU hb3 (block_onU hb2 (block_onU hb1 H3.out))); have zf1 := frozen_of_row w3 _ 1 _ _ (block_onU hb3 (block_onU hb2 (block_onU hb1 H3.out))); have z2 : w3.cell? ⟨w.heap.size + 1 + 1, 2, none⟩ = some (.int .i64 0) := cell_of_row _ _ 2 _ _ _ (block_onU hb3 (block_onU hb2 (block_onU hb1 H3.out))); have zf2 := frozen_of_row w3 _ 2 _ _ (block_onU hb3 (block_onU hb2 (block_onU hb1 H3.out))); have z3 : w3.cell? ⟨w.heap.size + 1 + 1, 3, none⟩ = some (.int .i64 0) := cell_of_row _ _ 3 _ _ _ (block_onU hb3 (block_onU hb2 (block_onU hb1 H3.out))); have zf3 := frozen_of_row w3 _ 3 _ _ (block_onU hb3 (block_onU hb2 (block_onU hb1 H3.out))); obtain ⟨W4, hW4⟩ : ∃ W4, w3.alloc (.cells #[.int .i64 r, .int .i64 q, .int .i64 F, .int .i64 a] 24) = W4 := ⟨_, rfl⟩; have hb4 : Below w3.heap.size w3 W4 := (by rw [← hW4]; exact gAlloc _ _); have h4 : W4.heap[w3.heap.size]? = some (.cells #[.int .i64 r, .int .i64 q, .int .i64 F, .int .i64 a] 24 (0, 0)) := (by rw [← hW4]; exact heap_alloc_new _ _); have v0 := cell_of_row W4 _ 0 _ _ _ h4; have vf0 := frozen_of_row W4 _ 0 _ _ h4; have v1 := cell_of_row W4 _ 1 _ _ _ h4; have vf1 := frozen_of_row W4 _ 1 _ _ h4; have v2 := cell_of_row W4 _ 2 _ _ _ h4; have vf2 := frozen_of_row W4 _ 2 _ _ h4; have v3 := cell_of_row W4 _ 3 _ _ _ h4; have vf3 := frozen_of_row W4 _ 3 _ _ h4; have y0 : W4.cell? ⟨w.heap.size + 1, 0, none⟩ = some (.int .i64 a) := cell_of_row _ _ 0 _ _ _ (block_onU hb4 (block_onU hb3 (block_onU hb2 (block_onU hb1 H2.out)))); have y1 : W4.cell? ⟨w.heap.size + 1, 1, none⟩ = some (.int .i64 s) := cell_of_row _ _ 1 _ _ _ (block_onU hb4 (block_onU hb3 (block_onU hb2 (block_onU hb1 H2.out)))); have z0 : W4.cell? ⟨w.heap.size + 1 + 1, 0, none⟩ = some (.int .i64 0) := cell_of_row _ _ 0 _ _ _ (block_onU hb4 (block_onU hb3 (block_onU hb2 (block_onU hb1 H3.out)))); have zf0 := frozen_of_row W4 _ 0 _ _ (block_onU hb4 (block_onU hb3 (block_onU hb2 (block_onU hb1 H3.out)))); have z1 : W4.cell? ⟨w.heap.size + 1 + 1, 1, none⟩ = some (.int .i64 0) := cell_of_row _ _ 1 _ _ _ (block_onU hb4 (block_onU hb3 (block_onU hb2 (block_onU hb1 H3.out)))); have zf1 := frozen_of_row W4 _ 1 _ _ (block_onU hb4 (block_onU hb3 (block_onU hb2 (block_onU hb1 H3.out)))); have z2 : W4.cell? ⟨w.heap.size + 1 + 1, 2, none⟩ = some (.int .i64 0) := cell_of_row _ _ 2 _ _ _ (block_onU hb4 (block_onU hb3 (block_onU hb2 (block_onU hb1 H3.out)))); have zf2 := frozen_of_row W4 _ 2 _ _ (block_onU hb4 (block_onU hb3 (block_onU hb2 (block_onU hb1 H3.out)))); have z3 : W4.cell? ⟨w.heap.size + 1 + 1, 3, none⟩ = some (.int .i64 0) := cell_of_row _ _ 3 _ _ _ (block_onU hb4 (block_onU hb3 (block_onU hb2 (block_onU hb1 H3.out)))); have zf3 := frozen_of_row W4 _ 3 _ _ (block_onU hb4 (block_onU hb3 (block_onU hb2 (block_onU hb1 H3.out)))); have hlt : w.heap.size + 1 + 1 < w3.heap.size := heap_lt (block_onU hb3 (block_onU hb2 (block_onU hb1 H3.out))); have hn1 : w3.heap.size ≠ w.heap.size + 1 + 1 := (by omega); have hn2 : w.heap.size + 1 + 1 ≠ w3.heap.size := (by omega)))
        exact ret_bk2 rfl (w.heap.size + 1 + 1) r q (F - s) a true rfl rfl (gv_stored rfl (set1_other (X := w3.heap.size) (block_onU hb4 (block_onU hb3 (block_onU hb2 (block_onU hb1 H3.out)))) (Nat.ne_of_lt hlt) 2 _) _ _ _ _) rfl ⟨rfl, below_gv ((below_more (below_more (below_more (below_more HB.out hb1) hb2) hb3) hb4).setCell (p := ⟨w3.heap.size, 2, none⟩) (by show w.heap.size ≤ w3.heap.size; omega) _) (by omega) _ _ _ _⟩
      · rw [tk_no (show tkOk r q f c a s = false by rw [tkOk, hg, hw, hF]; simpa using hs), show tkOk r q f c a s = false by rw [tkOk, hg, hw, hF]; simpa using hs]
        clear hg hw hwi hF a0 a1
        go_enter Try.func32, Try.ntmps32
        go_wp2_with (first | (go_at_call 17; go_loud (refine (HG.out).mono ?_); rintro e w1 ⟨rfl, hb1⟩; have x0 : w1.cell? ⟨w.heap.size, 0, none⟩ = some (.int .i64 r) := cell_of_row _ _ 0 _ _ _ (block_onU hb1 H1.out); have x1 : w1.cell? ⟨w.heap.size, 1, none⟩ = some (.int .i64 q) := cell_of_row _ _ 1 _ _ _ (block_onU hb1 H1.out); have x2 : w1.cell? ⟨w.heap.size, 2, none⟩ = some (.int .i64 f) := cell_of_row _ _ 2 _ _ _ (block_onU hb1 H1.out); have x3 : w1.cell? ⟨w.heap.size, 3, none⟩ = some (.int .i64 c) := cell_of_row _ _ 3 _ _ _ (block_onU hb1 H1.out); have y0 : w1.cell? ⟨w.heap.size + 1, 0, none⟩ = some (.int .i64 a) := cell_of_row _ _ 0 _ _ _ (block_onU hb1 H2.out); have y1 : w1.cell? ⟨w.heap.size + 1, 1, none⟩ = some (.int .i64 s) := cell_of_row _ _ 1 _ _ _ (block_onU hb1 H2.out); have z0 : w1.cell? ⟨w.heap.size + 1 + 1, 0, none⟩ = some (.int .i64 0) := cell_of_row _ _ 0 _ _ _ (block_onU hb1 H3.out); have zf0 := frozen_of_row w1 _ 0 _ _ (block_onU hb1 H3.out); have z1 : w1.cell? ⟨w.heap.size + 1 + 1, 1, none⟩ = some (.int .i64 0) := cell_of_row _ _ 1 _ _ _ (block_onU hb1 H3.out); have zf1 := frozen_of_row w1 _ 1 _ _ (block_onU hb1 H3.out); have z2 : w1.cell? ⟨w.heap.size + 1 + 1, 2, none⟩ = some (.int .i64 0) := cell_of_row _ _ 2 _ _ _ (block_onU hb1 H3.out); have zf2 := frozen_of_row w1 _ 2 _ _ (block_onU hb1 H3.out); have z3 : w1.cell? ⟨w.heap.size + 1 + 1, 3, none⟩ = some (.int .i64 0) := cell_of_row _ _ 3 _ _ _ (block_onU hb1 H3.out); have zf3 := frozen_of_row w1 _ 3 _ _ (block_onU hb1 H3.out)) | (go_at_call 47; go_loud (refine (HW.out _).mono ?_); rintro e w2 ⟨rfl, hb2⟩; have x0 : w2.cell? ⟨w.heap.size, 0, none⟩ = some (.int .i64 r) := cell_of_row _ _ 0 _ _ _ (block_onU hb2 (block_onU hb1 H1.out)); have x1 : w2.cell? ⟨w.heap.size, 1, none⟩ = some (.int .i64 q) := cell_of_row _ _ 1 _ _ _ (block_onU hb2 (block_onU hb1 H1.out)); have x2 : w2.cell? ⟨w.heap.size, 2, none⟩ = some (.int .i64 f) := cell_of_row _ _ 2 _ _ _ (block_onU hb2 (block_onU hb1 H1.out)); have x3 : w2.cell? ⟨w.heap.size, 3, none⟩ = some (.int .i64 c) := cell_of_row _ _ 3 _ _ _ (block_onU hb2 (block_onU hb1 H1.out)); have y0 : w2.cell? ⟨w.heap.size + 1, 0, none⟩ = some (.int .i64 a) := cell_of_row _ _ 0 _ _ _ (block_onU hb2 (block_onU hb1 H2.out)); have y1 : w2.cell? ⟨w.heap.size + 1, 1, none⟩ = some (.int .i64 s) := cell_of_row _ _ 1 _ _ _ (block_onU hb2 (block_onU hb1 H2.out)); have z0 : w2.cell? ⟨w.heap.size + 1 + 1, 0, none⟩ = some (.int .i64 0) := cell_of_row _ _ 0 _ _ _ (block_onU hb2 (block_onU hb1 H3.out)); have zf0 := frozen_of_row w2 _ 0 _ _ (block_onU hb2 (block_onU hb1 H3.out)); have z1 : w2.cell? ⟨w.heap.size + 1 + 1, 1, none⟩ = some (.int .i64 0) := cell_of_row _ _ 1 _ _ _ (block_onU hb2 (block_onU hb1 H3.out)); have zf1 := frozen_of_row w2 _ 1 _ _ (block_onU hb2 (block_onU hb1 H3.out)); have z2 : w2.cell? ⟨w.heap.size + 1 + 1, 2, none⟩ = some (.int .i64 0) := cell_of_row _ _ 2 _ _ _ (block_onU hb2 (block_onU hb1 H3.out)); have zf2 := frozen_of_row w2 _ 2 _ _ (block_onU hb2 (block_onU hb1 H3.out)); have z3 : w2.cell? ⟨w.heap.size + 1 + 1, 3, none⟩ = some (.int .i64 0) := cell_of_row _ _ 3 _ _ _ (block_onU hb2 (block_onU hb1 H3.out)); have zf3 := frozen_of_row w2 _ 3 _ _ (block_onU hb2 (block_onU hb1 H3.out))) | (go_at_call 48; go_loud (refine (HF.out _).mono ?_); rintro e w3 ⟨rfl, hb3⟩; have y0 : w3.cell? ⟨w.heap.size + 1, 0, none⟩ = some (.int .i64 a) := cell_of_row _ _ 0 _ _ _ (block_onU hb3 (block_onU hb2 (block_onU hb1 H2.out))); have y1 : w3.cell? ⟨w.heap.size + 1, 1, none⟩ = some (.int .i64 s) := cell_of_row _ _ 1 _ _ _ (block_onU hb3 (block_onU hb2 (block_onU hb1 H2.out))); have z0 : w3.cell? ⟨w.heap.size + 1 + 1, 0, none⟩ = some (.int .i64 0) := cell_of_row _ _ 0 _ _ _ (block_onU hb3 (block_onU hb2 (block_onU hb1 H3.out))); have zf0 := frozen_of_row w3 _ 0 _ _ (block_onU hb3 (block_onU hb2 (block_onU hb1 H3.out))); have z1 : w3.cell? ⟨w.heap.size + 1 + 1, 1, none⟩ = some (.int .i64 0) := cell_of_row _ _ 1 _ _ _ (block_onU hb3 (block_onU hb2 (block_onU hb1 H3.out))); have zf1 := frozen_of_row w3 _ 1 _ _ (block_onU hb3 (block_onU hb2 (block_onU hb1 H3.out))); have z2 : w3.cell? ⟨w.heap.size + 1 + 1, 2, none⟩ = some (.int .i64 0) := cell_of_row _ _ 2 _ _ _ (block_onU hb3 (block_onU hb2 (block_onU hb1 H3.out))); have zf2 := frozen_of_row w3 _ 2 _ _ (block_onU hb3 (block_onU hb2 (block_onU hb1 H3.out))); have z3 : w3.cell? ⟨w.heap.size + 1 + 1, 3, none⟩ = some (.int .i64 0) := cell_of_row _ _ 3 _ _ _ (block_onU hb3 (block_onU hb2 (block_onU hb1 H3.out))); have zf3 := frozen_of_row w3 _ 3 _ _ (block_onU hb3 (block_onU hb2 (block_onU hb1 H3.out))); obtain ⟨W4, hW4⟩ : ∃ W4, w3.alloc (.cells #[.int .i64 r, .int .i64 q, .int .i64 F, .int .i64 a] 24) = W4 := ⟨_, rfl⟩; have hb4 : Below w3.heap.size w3 W4 := (by rw [← hW4]; exact gAlloc _ _); have h4 : W4.heap[w3.heap.size]? = some (.cells #[.int .i64 r, .int .i64 q, .int .i64 F, .int .i64 a] 24 (0, 0)) := (by rw [← hW4]; exact heap_alloc_new _ _); have v0 := cell_of_row W4 _ 0 _ _ _ h4; have vf0 := frozen_of_row W4 _ 0 _ _ h4; have v1 := cell_of_row W4 _ 1 _ _ _ h4; have vf1 := frozen_of_row W4 _ 1 _ _ h4; have v2 := cell_of_row W4 _ 2 _ _ _ h4; have vf2 := frozen_of_row W4 _ 2 _ _ h4; have v3 := cell_of_row W4 _ 3 _ _ _ h4; have vf3 := frozen_of_row W4 _ 3 _ _ h4; have y0 : W4.cell? ⟨w.heap.size + 1, 0, none⟩ = some (.int .i64 a) := cell_of_row _ _ 0 _ _ _ (block_onU hb4 (block_onU hb3 (block_onU hb2 (block_onU hb1 H2.out)))); have y1 : W4.cell? ⟨w.heap.size + 1, 1, none⟩ = some (.int .i64 s) := cell_of_row _ _ 1 _ _ _ (block_onU hb4 (block_onU hb3 (block_onU hb2 (block_onU hb1 H2.out)))); have z0 : W4.cell? ⟨w.heap.size + 1 + 1, 0, none⟩ = some (.int .i64 0) := cell_of_row _ _ 0 _ _ _ (block_onU hb4 (block_onU hb3 (block_onU hb2 (block_onU hb1 H3.out)))); have zf0 := frozen_of_row W4 _ 0 _ _ (block_onU hb4 (block_onU hb3 (block_onU hb2 (block_onU hb1 H3.out)))); have z1 : W4.cell? ⟨w.heap.size + 1 + 1, 1, none⟩ = some (.int .i64 0) := cell_of_row _ _ 1 _ _ _ (block_onU hb4 (block_onU hb3 (block_onU hb2 (block_onU hb1 H3.out)))); have zf1 := frozen_of_row W4 _ 1 _ _ (block_onU hb4 (block_onU hb3 (block_onU hb2 (block_onU hb1 H3.out)))); have z2 : W4.cell? ⟨w.heap.size + 1 + 1, 2, none⟩ = some (.int .i64 0) := cell_of_row _ _ 2 _ _ _ (block_onU hb4 (block_onU hb3 (block_onU hb2 (block_onU hb1 H3.out)))); have zf2 := frozen_of_row W4 _ 2 _ _ (block_onU hb4 (block_onU hb3 (block_onU hb2 (block_onU hb1 H3.out)))); have z3 : W4.cell? ⟨w.heap.size + 1 + 1, 3, none⟩ = some (.int .i64 0) := cell_of_row _ _ 3 _ _ _ (block_onU hb4 (block_onU hb3 (block_onU hb2 (block_onU hb1 H3.out)))); have zf3 := frozen_of_row W4 _ 3 _ _ (block_onU hb4 (block_onU hb3 (block_onU hb2 (block_onU hb1 H3.out))))))
        exact ret_bk2 rfl (w.heap.size + 1 + 1) 0 0 0 0 false rfl rfl (gv_stored rfl (block_onU hb4 (block_onU hb3 (block_onU hb2 (block_onU hb1 H3.out)))) _ _ _ _) rfl ⟨rfl, below_gv (below_more (below_more (below_more (below_more HB.out hb1) hb2) hb3) hb4) (by omega) _ _ _ _⟩
set_option maxRecDepth 100000 in
set_option maxHeartbeats 2000000 in
theorem sWaitFor (r q f c s : Int) (w : World) :
    Calls Try.prog 26 #[bkW r q f c, .int .i64 s] w fun e w' => e = .returned (.tuple #[.int .i64 (wfI r q f c s), .bool (wfOk r q f c s)]) ∧ Below w.heap.size w w' := by
  obtain ⟨W, hW⟩ : ∃ W, w.alloc (.cells #[.int .i64 r, .int .i64 q, .int .i64 f, .int .i64 c] 24) = W := ⟨_, rfl⟩
  have hsW : W.heap.size = w.heap.size + 1 := by rw [← hW]; simp
  have hbW : Below w.heap.size w W := by rw [← hW]; exact gAlloc w _
  have h1 : W.heap[w.heap.size]? = some (.cells #[.int .i64 r, .int .i64 q, .int .i64 f, .int .i64 c] 24 (0, 0)) := by rw [← hW]; exact heap_alloc_new _ _
  have x0 : W.cell? ⟨w.heap.size, 0, none⟩ = some (.int .i64 r) := cell_of_row _ _ 0 _ _ _ h1
  have x1 : W.cell? ⟨w.heap.size, 1, none⟩ = some (.int .i64 q) := cell_of_row _ _ 1 _ _ _ h1
  have x2 : W.cell? ⟨w.heap.size, 2, none⟩ = some (.int .i64 f) := cell_of_row _ _ 2 _ _ _ h1
  have x3 : W.cell? ⟨w.heap.size, 3, none⟩ = some (.int .i64 c) := cell_of_row _ _ 3 _ _ _ h1
  have H1 := Lib.hid h1
  have HB := Lib.hid hbW
  clear hbW h1
  have HG := Lib.hid (sGoodBk r q f c W)
  have HI := Lib.hid (fun w => l1In_any s 1 r w)
  cases hg : goodBB r q f c
  · rw [wf_no (show wfOk r q f c s = false by rw [wfOk, hg]; rfl), show wfOk r q f c s = false by rw [wfOk, hg]; rfl]
    rw [hg] at HG
    clear hg HI
    go_enter Try.func26, Try.ntmps26
    go_wp2_with (first | (go_at_call 17; go_loud (refine (HG.out).mono ?_); rintro e w1 ⟨rfl, hb1⟩; have x0 : w1.cell? ⟨w.heap.size, 0, none⟩ = some (.int .i64 r) := cell_of_row _ _ 0 _ _ _ (block_onU hb1 H1.out); have x1 : w1.cell? ⟨w.heap.size, 1, none⟩ = some (.int .i64 q) := cell_of_row _ _ 1 _ _ _ (block_onU hb1 H1.out); have x2 : w1.cell? ⟨w.heap.size, 2, none⟩ = some (.int .i64 f) := cell_of_row _ _ 2 _ _ _ (block_onU hb1 H1.out); have x3 : w1.cell? ⟨w.heap.size, 3, none⟩ = some (.int .i64 c) := cell_of_row _ _ 3 _ _ _ (block_onU hb1 H1.out)))
    go_ret2
    exact ⟨rfl, below_more HB.out hb1⟩
  · rw [hg] at HG
    cases hi : inB s 1 r
    · rw [wf_no (show wfOk r q f c s = false by rw [wfOk, hg, hi]; rfl), show wfOk r q f c s = false by rw [wfOk, hg, hi]; rfl]
      rw [hi] at HI
      clear hg hi
      go_enter Try.func26, Try.ntmps26
      go_wp2_with (first | (go_at_call 17; go_loud (refine (HG.out).mono ?_); rintro e w1 ⟨rfl, hb1⟩; have x0 : w1.cell? ⟨w.heap.size, 0, none⟩ = some (.int .i64 r) := cell_of_row _ _ 0 _ _ _ (block_onU hb1 H1.out); have x1 : w1.cell? ⟨w.heap.size, 1, none⟩ = some (.int .i64 q) := cell_of_row _ _ 1 _ _ _ (block_onU hb1 H1.out); have x2 : w1.cell? ⟨w.heap.size, 2, none⟩ = some (.int .i64 f) := cell_of_row _ _ 2 _ _ _ (block_onU hb1 H1.out); have x3 : w1.cell? ⟨w.heap.size, 3, none⟩ = some (.int .i64 c) := cell_of_row _ _ 3 _ _ _ (block_onU hb1 H1.out)) | (go_at_call 50; go_loud (refine (HI.out _).mono ?_); rintro e w' ⟨rfl, rfl⟩))
      go_ret2
      exact ⟨rfl, below_more HB.out hb1⟩
    · rw [wf_yes (show wfOk r q f c s = true by rw [wfOk, hg, hi]; rfl), show wfOk r q f c s = true by rw [wfOk, hg, hi]; rfl]
      rw [hi] at HI
      obtain ⟨⟨r0, r1⟩, ⟨q0, q1⟩, ⟨f0, f1⟩, -⟩ := gbk_ok hg
      obtain ⟨s0, s1⟩ := inB_andL hi
      obtain ⟨M, hM⟩ : ∃ M, max 0 (s - f) = M := ⟨_, rfl⟩
      have hMb : 0 ≤ M ∧ M ≤ 100 := by omega
      obtain ⟨M0, M1⟩ := hMb
      have HL := Lib.hid (fun w => sMost12 0 (s - f) w)
      rw [hM] at HL ⊢
      have hN0 : 0 ≤ M + q - 1 := by omega
      obtain ⟨D, hD⟩ : ∃ D, (M + q - 1) / q = D := ⟨_, rfl⟩
      have hDt : Int.tdiv (M + q - 1) q = D := by rw [Int.tdiv_eq_ediv_of_nonneg hN0, hD]
      have D0 : 0 ≤ D := by rw [← hD]; exact Int.ediv_nonneg hN0 (by omega)
      have D1 : D ≤ 200 := by rw [← hD]; exact Int.le_trans (Int.ediv_le_self _ hN0) (by omega)
      have hDw : IntKind.i64.wrap D = D := wrap13 _ (by omega) (by omega)
      have hq0 : (q == 0) = false := by simp; omega
      have hq1 : ¬ q = 0 := by omega
      have hq2 : ¬ q = -1 := by omega
      rw [hD]
      clear hg hi hM hD
      go_enter Try.func26, Try.ntmps26
      go_wp2_with (first | (go_at_call 17; go_loud (refine (HG.out).mono ?_); rintro e w1 ⟨rfl, hb1⟩; have x0 : w1.cell? ⟨w.heap.size, 0, none⟩ = some (.int .i64 r) := cell_of_row _ _ 0 _ _ _ (block_onU hb1 H1.out); have x1 : w1.cell? ⟨w.heap.size, 1, none⟩ = some (.int .i64 q) := cell_of_row _ _ 1 _ _ _ (block_onU hb1 H1.out); have x2 : w1.cell? ⟨w.heap.size, 2, none⟩ = some (.int .i64 f) := cell_of_row _ _ 2 _ _ _ (block_onU hb1 H1.out); have x3 : w1.cell? ⟨w.heap.size, 3, none⟩ = some (.int .i64 c) := cell_of_row _ _ 3 _ _ _ (block_onU hb1 H1.out); have HB1 := Lib.hid (below_more HB.out hb1)) | (go_at_call 50; go_loud (refine (HI.out _).mono ?_); rintro e w' ⟨rfl, rfl⟩))
      have o0 := onU_cell x0
      have o1 := onU_cell x1
      have o2 := onU_cell x2
      have o3 := onU_cell x3
      refine wp_region_onU (by kernel_rfl) (by kernel_rfl) ?_
      repeat (go_big_quiet_step (first | (go_at_call 58; with_reducible exact onU_same (HL.out _))))
      with_reducible refine wpQuiet_nil ?_
      rintro w2 ⟨⟨w2x, hb2⟩, hw2x⟩
      obtain rfl : w2 = w2x := hw2x
      go_wp2_with fail
      go_ret2
      exact ⟨rfl, below_more HB1.out hb2⟩
end Go.Proofs.Ytgakklanboabjaa
