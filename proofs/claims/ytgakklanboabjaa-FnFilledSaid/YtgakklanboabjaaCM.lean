/-
  FnFilled: who waits as long as WaitFor says may take, and a tick ahead of it not.
-/
import Derived.Test.YtgakklanboabjaaCF
import Derived.Test.YtgakklanboabjaaCL
namespace Go.Proofs.Ytgakklanboabjaa
open Go.RowKit

theorem filled13 {r q f c s : Int} (h : wfOk r q f c s = true) (hc : c + wfI r q f c s ≤ 10000) : tkOk r q f c (c + wfI r q f c s) s = true ∧ tkOk r q f c (c + wfI r q f c s - 1) s = false := by
  rw [wf_yes h] at hc ⊢
  have h2 : goodBB r q f c = true ∧ inB s 1 r = true := by simpa [wfOk] using h
  obtain ⟨⟨r0, r1⟩, ⟨q0, q1⟩, ⟨f0, f1⟩, ⟨c0, c1⟩⟩ := gbk_ok h2.1
  obtain ⟨s0, s1⟩ := inB_andL h2.2
  obtain ⟨d0, d1⟩ := wait_bounds (q := q) (f := f) (s := s) q0 f0 (by omega)
  have hi := fun (d : Int) (hd : 0 ≤ d) => wait_iff (f := f) (d := d) q0 hd s1
  generalize (max 0 (s - f) + q - 1) / q = D at *
  constructor
  · have h3 : s ≤ fillI r q f c (c + D) := by
      have := (hi D d0).mpr (Int.le_refl _)
      rw [fillI, show c + D - c = D by omega]; exact this
    rw [tkOk, h2.1, wantB, inB_mkL (by omega) hc, inB_mkL s0 (by omega), decide_eq_true h3]; rfl
  · by_cases hD : 1 ≤ D
    · have h3 : ¬ s ≤ fillI r q f c (c + D - 1) := by
        rw [fillI, show c + D - 1 - c = D - 1 by omega]
        intro h4
        have := (hi (D - 1) (by omega)).mp h4
        omega
      rw [tkOk, decide_eq_false h3, Bool.and_false]
    · have h3 : inB (c + D - 1) c 10000 = false := by simp [inB]; omega
      rw [tkOk, wantB, h3]; simp
theorem wf_bounds13 {r q f c s : Int} (h : wfOk r q f c s = true) : (0 ≤ c ∧ c ≤ 10000) ∧ 0 ≤ wfI r q f c s ∧ wfI r q f c s ≤ 100 := by
  rw [wf_yes h]
  have h2 : goodBB r q f c = true ∧ inB s 1 r = true := by simpa [wfOk] using h
  obtain ⟨⟨r0, r1⟩, ⟨q0, q1⟩, ⟨f0, f1⟩, ⟨c0, c1⟩⟩ := gbk_ok h2.1
  obtain ⟨s0, s1⟩ := inB_andL h2.2
  exact ⟨⟨c0, c1⟩, wait_bounds (q := q) (f := f) (s := s) q0 f0 (by omega)⟩
set_option maxRecDepth 100000 in
set_option maxHeartbeats 8000000 in
theorem fnFilled_small (A : Option Addr) (za : List Int) (ca : Nat) (B : Option Addr) (zb : List Int) (cb : Nat) (w : World) (ha : Byts w w.heap.size A za) (hb : Byts w w.heap.size B zb) (hl : za.length + zb.length ≤ 1048576) :
    Calls Try.prog 4 #[.slice A za.length ca, .slice B zb.length cb] w fun e w' => e = .returned (.bool true) ∧ Below w.heap.size w w' := by
  have HAy := Lib.hid ha
  have HBy := Lib.hid hb
  have hli : ¬ (1048576 : Int) < (za.length : Int) + (zb.length : Int) := by omega
  have hlb : zb.length ≤ 1048576 := by omega
  clear ha hb
  go_enter Try.func4, Try.ntmps4
  go_wp2_with fail
  refine (drawWait13 A za ca _ HAy.out).mono ?_
  rintro e w1 ⟨r, q, f, c, s, rfl, hb1⟩
  have HB_2 := Lib.hid (hb1)
  clear  hb1
  obtain ⟨w3, hw3⟩ : ∃ wn, w1.alloc (.cells #[.int .i64 r, .int .i64 q, .int .i64 f, .int .i64 c] 24) = wn := ⟨_, rfl⟩
  have hbx3 : Below w1.heap.size w1 w3 := by rw [← hw3]; exact gAlloc _ _
  have KB_30 : Hid (w3.heap[w1.heap.size]? = some (.cells #[.int .i64 r, .int .i64 q, .int .i64 f, .int .i64 c] 24 (0, 0))) := by rw [← hw3]; exact heap_alloc_new _ _
  have HB_4 := Lib.hid (below_more HB_2.out hbx3)
  clear HB_2 hbx3
  have HIw := Lib.hid (fun w => iWaitFor r q f c s w)
  have HSw := Lib.hid (fun w => sWaitFor r q f c s w)
  have HM : Hid (wfOk r q f c s = true → c + wfI r q f c s ≤ 10000 → tkOk r q f c (c + wfI r q f c s) s = true ∧ tkOk r q f c (c + wfI r q f c s - 1) s = false) := filled13
  have HD : Hid (wfOk r q f c s = true → (0 ≤ c ∧ c ≤ 10000) ∧ 0 ≤ wfI r q f c s ∧ wfI r q f c s ≤ 100) := wf_bounds13
  generalize wfI r q f c s = D at *
  generalize wfOk r q f c s = ok at *
  have cKB0 : w3.cell? ⟨w1.heap.size, 0, none⟩ = some (.int .i64 r) := cell_of_row _ _ 0 _ _ _ KB_30.out
  have cKB1 : w3.cell? ⟨w1.heap.size, 1, none⟩ = some (.int .i64 q) := cell_of_row _ _ 1 _ _ _ KB_30.out
  have cKB2 : w3.cell? ⟨w1.heap.size, 2, none⟩ = some (.int .i64 f) := cell_of_row _ _ 2 _ _ _ KB_30.out
  have cKB3 : w3.cell? ⟨w1.heap.size, 3, none⟩ = some (.int .i64 c) := cell_of_row _ _ 3 _ _ _ KB_30.out
  go_wp2_with fail
  clear cKB0 cKB1 cKB2 cKB3 hw3
  refine (HIw.out _).mono ?_
  rintro e w5 ⟨rfl, hc1⟩
  have KB_6 := Lib.hid ((hc1.block _ (heap_lt KB_30.out)).trans KB_30.out)
  have HB_6 := Lib.hid (below_more HB_4.out hc1)
  clear KB_30 HB_4 hc1
  have cKB0 : w5.cell? ⟨w1.heap.size, 0, none⟩ = some (.int .i64 r) := cell_of_row _ _ 0 _ _ _ KB_6.out
  have cKB1 : w5.cell? ⟨w1.heap.size, 1, none⟩ = some (.int .i64 q) := cell_of_row _ _ 1 _ _ _ KB_6.out
  have cKB2 : w5.cell? ⟨w1.heap.size, 2, none⟩ = some (.int .i64 f) := cell_of_row _ _ 2 _ _ _ KB_6.out
  have cKB3 : w5.cell? ⟨w1.heap.size, 3, none⟩ = some (.int .i64 c) := cell_of_row _ _ 3 _ _ _ KB_6.out
  go_wp2_with fail
  clear cKB0 cKB1 cKB2 cKB3
  refine (HSw.out _).mono ?_
  rintro e w7 ⟨rfl, hc2⟩
  have KB_8 := Lib.hid ((hc2.block _ (heap_lt KB_6.out)).trans KB_6.out)
  have HB_8 := Lib.hid (below_more HB_6.out hc2)
  clear KB_6 HB_6 hc2
  clear HIw HSw
  cases ok
  · clear HM HD
    have cKB0 : w7.cell? ⟨w1.heap.size, 0, none⟩ = some (.int .i64 r) := cell_of_row _ _ 0 _ _ _ KB_8.out
    have cKB1 : w7.cell? ⟨w1.heap.size, 1, none⟩ = some (.int .i64 q) := cell_of_row _ _ 1 _ _ _ KB_8.out
    have cKB2 : w7.cell? ⟨w1.heap.size, 2, none⟩ = some (.int .i64 f) := cell_of_row _ _ 2 _ _ _ KB_8.out
    have cKB3 : w7.cell? ⟨w1.heap.size, 3, none⟩ = some (.int .i64 c) := cell_of_row _ _ 3 _ _ _ KB_8.out
    go_wp2_with fail
    clear cKB0 cKB1 cKB2 cKB3
    refine (drawFill13 B zb cb _ (byts_on13 HBy.out HB_8.out)).mono ?_
    rintro e w9 ⟨ur, uq, uf, uc, ut, rfl, hc3⟩
    have KB_10 := Lib.hid ((hc3.block _ (heap_lt KB_8.out)).trans KB_8.out)
    have HB_10 := Lib.hid (below_more HB_8.out hc3)
    clear KB_8 HB_8 hc3
    obtain ⟨w11, hw11⟩ : ∃ wn, w9.alloc (.cells #[.int .i64 ur, .int .i64 uq, .int .i64 uf, .int .i64 uc] 24) = wn := ⟨_, rfl⟩
    have hbx11 : Below w9.heap.size w9 w11 := by rw [← hw11]; exact gAlloc _ _
    have KU_110 : Hid (w11.heap[w9.heap.size]? = some (.cells #[.int .i64 ur, .int .i64 uq, .int .i64 uf, .int .i64 uc] 24 (0, 0))) := by rw [← hw11]; exact heap_alloc_new _ _
    have HB_12 := Lib.hid (below_more HB_10.out hbx11)
    clear HB_10 hbx11
    have HIf := Lib.hid (fun w => iFillTo ur uq uf uc ut w)
    have HSf := Lib.hid (fun w => sFillTo ur uq uf uc ut w)
    generalize (ftL ur uq uf uc ut).1 = F0 at *
    generalize (ftL ur uq uf uc ut).2.1 = F1 at *
    generalize (ftL ur uq uf uc ut).2.2.1 = F2 at *
    generalize (ftL ur uq uf uc ut).2.2.2 = F3 at *
    generalize ftOk ur uq uf uc ut = ok2 at *
    have cKU0 : w11.cell? ⟨w9.heap.size, 0, none⟩ = some (.int .i64 ur) := cell_of_row _ _ 0 _ _ _ KU_110.out
    have cKU1 : w11.cell? ⟨w9.heap.size, 1, none⟩ = some (.int .i64 uq) := cell_of_row _ _ 1 _ _ _ KU_110.out
    have cKU2 : w11.cell? ⟨w9.heap.size, 2, none⟩ = some (.int .i64 uf) := cell_of_row _ _ 2 _ _ _ KU_110.out
    have cKU3 : w11.cell? ⟨w9.heap.size, 3, none⟩ = some (.int .i64 uc) := cell_of_row _ _ 3 _ _ _ KU_110.out
    go_wp2_with fail
    clear cKU0 cKU1 cKU2 cKU3 hw11
    refine (HIf.out _).mono ?_
    rintro e w13 ⟨rfl, hc4⟩
    have KU_14 := Lib.hid ((hc4.block _ (heap_lt KU_110.out)).trans KU_110.out)
    have HB_14 := Lib.hid (below_more HB_12.out hc4)
    clear KU_110 HB_12 hc4
    obtain ⟨w15, hw15⟩ : ∃ wn, w13.alloc (.cells #[.int .i64 F0, .int .i64 F1, .int .i64 F2, .int .i64 F3] 24) = wn := ⟨_, rfl⟩
    have hbx15 : Below w13.heap.size w13 w15 := by rw [← hw15]; exact gAlloc _ _
    have KF_150 : Hid (w15.heap[w13.heap.size]? = some (.cells #[.int .i64 F0, .int .i64 F1, .int .i64 F2, .int .i64 F3] 24 (0, 0))) := by rw [← hw15]; exact heap_alloc_new _ _
    have KU_16 := Lib.hid ((hbx15.block _ (heap_lt KU_14.out)).trans KU_14.out)
    have HB_16 := Lib.hid (below_more HB_14.out hbx15)
    clear KU_14 HB_14 hbx15
    have cKU0 : w15.cell? ⟨w9.heap.size, 0, none⟩ = some (.int .i64 ur) := cell_of_row _ _ 0 _ _ _ KU_16.out
    have cKU1 : w15.cell? ⟨w9.heap.size, 1, none⟩ = some (.int .i64 uq) := cell_of_row _ _ 1 _ _ _ KU_16.out
    have cKU2 : w15.cell? ⟨w9.heap.size, 2, none⟩ = some (.int .i64 uf) := cell_of_row _ _ 2 _ _ _ KU_16.out
    have cKU3 : w15.cell? ⟨w9.heap.size, 3, none⟩ = some (.int .i64 uc) := cell_of_row _ _ 3 _ _ _ KU_16.out
    have cKF0 : w15.cell? ⟨w13.heap.size, 0, none⟩ = some (.int .i64 F0) := cell_of_row _ _ 0 _ _ _ KF_150.out
    have cKF1 : w15.cell? ⟨w13.heap.size, 1, none⟩ = some (.int .i64 F1) := cell_of_row _ _ 1 _ _ _ KF_150.out
    have cKF2 : w15.cell? ⟨w13.heap.size, 2, none⟩ = some (.int .i64 F2) := cell_of_row _ _ 2 _ _ _ KF_150.out
    have cKF3 : w15.cell? ⟨w13.heap.size, 3, none⟩ = some (.int .i64 F3) := cell_of_row _ _ 3 _ _ _ KF_150.out
    go_wp2_with fail
    clear cKU0 cKU1 cKU2 cKU3 cKF0 cKF1 cKF2 cKF3 hw15
    refine (HSf.out _).mono ?_
    rintro e w17 ⟨rfl, hc5⟩
    have KU_18 := Lib.hid ((hc5.block _ (heap_lt KU_16.out)).trans KU_16.out)
    have KF_18 := Lib.hid ((hc5.block _ (heap_lt KF_150.out)).trans KF_150.out)
    have HB_18 := Lib.hid (below_more HB_16.out hc5)
    clear KU_16 KF_150 HB_16 hc5
    obtain ⟨w19, hw19⟩ : ∃ wn, w17.alloc (.cells #[.int .i64 F0, .int .i64 F1, .int .i64 F2, .int .i64 F3] 24) = wn := ⟨_, rfl⟩
    have hbx19 : Below w17.heap.size w17 w19 := by rw [← hw19]; exact gAlloc _ _
    have KG_190 : Hid (w19.heap[w17.heap.size]? = some (.cells #[.int .i64 F0, .int .i64 F1, .int .i64 F2, .int .i64 F3] 24 (0, 0))) := by rw [← hw19]; exact heap_alloc_new _ _
    have KU_20 := Lib.hid ((hbx19.block _ (heap_lt KU_18.out)).trans KU_18.out)
    have KF_20 := Lib.hid ((hbx19.block _ (heap_lt KF_18.out)).trans KF_18.out)
    have HB_20 := Lib.hid (below_more HB_18.out hbx19)
    clear KU_18 KF_18 HB_18 hbx19
    clear HIf HSf
    have cKF0 : w19.cell? ⟨w13.heap.size, 0, none⟩ = some (.int .i64 F0) := cell_of_row _ _ 0 _ _ _ KF_20.out
    have cKF1 : w19.cell? ⟨w13.heap.size, 1, none⟩ = some (.int .i64 F1) := cell_of_row _ _ 1 _ _ _ KF_20.out
    have cKF2 : w19.cell? ⟨w13.heap.size, 2, none⟩ = some (.int .i64 F2) := cell_of_row _ _ 2 _ _ _ KF_20.out
    have cKF3 : w19.cell? ⟨w13.heap.size, 3, none⟩ = some (.int .i64 F3) := cell_of_row _ _ 3 _ _ _ KF_20.out
    have cKG0 : w19.cell? ⟨w17.heap.size, 0, none⟩ = some (.int .i64 F0) := cell_of_row _ _ 0 _ _ _ KG_190.out
    have cKG1 : w19.cell? ⟨w17.heap.size, 1, none⟩ = some (.int .i64 F1) := cell_of_row _ _ 1 _ _ _ KG_190.out
    have cKG2 : w19.cell? ⟨w17.heap.size, 2, none⟩ = some (.int .i64 F2) := cell_of_row _ _ 2 _ _ _ KG_190.out
    have cKG3 : w19.cell? ⟨w17.heap.size, 3, none⟩ = some (.int .i64 F3) := cell_of_row _ _ 3 _ _ _ KG_190.out
    go_wp2_with fail
    clear cKF0 cKF1 cKF2 cKF3 cKG0 cKG1 cKG2 cKG3 hw19
    refine (drawTake13 B zb cb _ (byts_on13 HBy.out HB_20.out)).mono ?_
    rintro e w21 ⟨xr, xq, xf, xc, xa, xs, rfl, hc6⟩
    have KF_22 := Lib.hid ((hc6.block _ (heap_lt KF_20.out)).trans KF_20.out)
    have KG_22 := Lib.hid ((hc6.block _ (heap_lt KG_190.out)).trans KG_190.out)
    have HB_22 := Lib.hid (below_more HB_20.out hc6)
    clear KF_20 KG_190 HB_20 hc6
    obtain ⟨w23, hw23⟩ : ∃ wn, (w21.alloc (.cells #[.int .i64 xr, .int .i64 xq, .int .i64 xf, .int .i64 xc] 24)).alloc (.cells #[.int .i64 xa, .int .i64 xs] 34) = wn := ⟨_, rfl⟩
    have hbx23 : Below w21.heap.size w21 w23 := by rw [← hw23]; exact (gAlloc w21 _).alloc (by simp) _
    have KX_0 : Hid (w23.heap[w21.heap.size]? = some (.cells #[.int .i64 xr, .int .i64 xq, .int .i64 xf, .int .i64 xc] 24 (0, 0))) := by rw [← hw23, heap_alloc_old _ _ _ (by simp)]; exact heap_alloc_new _ _
    have KY_0 : Hid (w23.heap[w21.heap.size + 1]? = some (.cells #[.int .i64 xa, .int .i64 xs] 34 (0, 0))) := by rw [← hw23, show w21.heap.size + 1 = (w21.alloc (.cells #[.int .i64 xr, .int .i64 xq, .int .i64 xf, .int .i64 xc] 24)).heap.size by simp]; exact heap_alloc_new _ _
    have KF_24 := Lib.hid ((hbx23.block _ (heap_lt KF_22.out)).trans KF_22.out)
    have KG_24 := Lib.hid ((hbx23.block _ (heap_lt KG_22.out)).trans KG_22.out)
    have HB_24 := Lib.hid (below_more HB_22.out hbx23)
    clear KF_22 KG_22 HB_22 hbx23
    have HIt := Lib.hid (fun w => iTakeFrom xr xq xf xc xa xs w)
    have HSt := Lib.hid (fun w => sTakeFrom xr xq xf xc xa xs w)
    generalize (tkL xr xq xf xc xa xs).1 = T0 at *
    generalize (tkL xr xq xf xc xa xs).2.1 = T1 at *
    generalize (tkL xr xq xf xc xa xs).2.2.1 = T2 at *
    generalize (tkL xr xq xf xc xa xs).2.2.2 = T3 at *
    generalize tkOk xr xq xf xc xa xs = ok3 at *
    have cKF0 : w23.cell? ⟨w13.heap.size, 0, none⟩ = some (.int .i64 F0) := cell_of_row _ _ 0 _ _ _ KF_24.out
    have cKF1 : w23.cell? ⟨w13.heap.size, 1, none⟩ = some (.int .i64 F1) := cell_of_row _ _ 1 _ _ _ KF_24.out
    have cKF2 : w23.cell? ⟨w13.heap.size, 2, none⟩ = some (.int .i64 F2) := cell_of_row _ _ 2 _ _ _ KF_24.out
    have cKF3 : w23.cell? ⟨w13.heap.size, 3, none⟩ = some (.int .i64 F3) := cell_of_row _ _ 3 _ _ _ KF_24.out
    have cKG0 : w23.cell? ⟨w17.heap.size, 0, none⟩ = some (.int .i64 F0) := cell_of_row _ _ 0 _ _ _ KG_24.out
    have cKG1 : w23.cell? ⟨w17.heap.size, 1, none⟩ = some (.int .i64 F1) := cell_of_row _ _ 1 _ _ _ KG_24.out
    have cKG2 : w23.cell? ⟨w17.heap.size, 2, none⟩ = some (.int .i64 F2) := cell_of_row _ _ 2 _ _ _ KG_24.out
    have cKG3 : w23.cell? ⟨w17.heap.size, 3, none⟩ = some (.int .i64 F3) := cell_of_row _ _ 3 _ _ _ KG_24.out
    have cKX0 : w23.cell? ⟨w21.heap.size, 0, none⟩ = some (.int .i64 xr) := cell_of_row _ _ 0 _ _ _ KX_0.out
    have cKX1 : w23.cell? ⟨w21.heap.size, 1, none⟩ = some (.int .i64 xq) := cell_of_row _ _ 1 _ _ _ KX_0.out
    have cKX2 : w23.cell? ⟨w21.heap.size, 2, none⟩ = some (.int .i64 xf) := cell_of_row _ _ 2 _ _ _ KX_0.out
    have cKX3 : w23.cell? ⟨w21.heap.size, 3, none⟩ = some (.int .i64 xc) := cell_of_row _ _ 3 _ _ _ KX_0.out
    have cKY0 : w23.cell? ⟨w21.heap.size + 1, 0, none⟩ = some (.int .i64 xa) := cell_of_row _ _ 0 _ _ _ KY_0.out
    have cKY1 : w23.cell? ⟨w21.heap.size + 1, 1, none⟩ = some (.int .i64 xs) := cell_of_row _ _ 1 _ _ _ KY_0.out
    go_wp2_with fail
    clear cKF0 cKF1 cKF2 cKF3 cKG0 cKG1 cKG2 cKG3 cKX0 cKX1 cKX2 cKX3 cKY0 cKY1 hw23
    refine (HIt.out _).mono ?_
    rintro e w25 ⟨rfl, hc7⟩
    have KF_26 := Lib.hid ((hc7.block _ (heap_lt KF_24.out)).trans KF_24.out)
    have KG_26 := Lib.hid ((hc7.block _ (heap_lt KG_24.out)).trans KG_24.out)
    have KX_26 := Lib.hid ((hc7.block _ (heap_lt KX_0.out)).trans KX_0.out)
    have KY_26 := Lib.hid ((hc7.block _ (heap_lt KY_0.out)).trans KY_0.out)
    have HB_26 := Lib.hid (below_more HB_24.out hc7)
    clear KF_24 KG_24 KX_0 KY_0 HB_24 hc7
    obtain ⟨w27, hw27⟩ : ∃ wn, w25.alloc (.cells #[.int .i64 T0, .int .i64 T1, .int .i64 T2, .int .i64 T3] 24) = wn := ⟨_, rfl⟩
    have hbx27 : Below w25.heap.size w25 w27 := by rw [← hw27]; exact gAlloc _ _
    have KI_270 : Hid (w27.heap[w25.heap.size]? = some (.cells #[.int .i64 T0, .int .i64 T1, .int .i64 T2, .int .i64 T3] 24 (0, 0))) := by rw [← hw27]; exact heap_alloc_new _ _
    have KF_28 := Lib.hid ((hbx27.block _ (heap_lt KF_26.out)).trans KF_26.out)
    have KG_28 := Lib.hid ((hbx27.block _ (heap_lt KG_26.out)).trans KG_26.out)
    have KX_28 := Lib.hid ((hbx27.block _ (heap_lt KX_26.out)).trans KX_26.out)
    have KY_28 := Lib.hid ((hbx27.block _ (heap_lt KY_26.out)).trans KY_26.out)
    have HB_28 := Lib.hid (below_more HB_26.out hbx27)
    clear KF_26 KG_26 KX_26 KY_26 HB_26 hbx27
    have cKF0 : w27.cell? ⟨w13.heap.size, 0, none⟩ = some (.int .i64 F0) := cell_of_row _ _ 0 _ _ _ KF_28.out
    have cKF1 : w27.cell? ⟨w13.heap.size, 1, none⟩ = some (.int .i64 F1) := cell_of_row _ _ 1 _ _ _ KF_28.out
    have cKF2 : w27.cell? ⟨w13.heap.size, 2, none⟩ = some (.int .i64 F2) := cell_of_row _ _ 2 _ _ _ KF_28.out
    have cKF3 : w27.cell? ⟨w13.heap.size, 3, none⟩ = some (.int .i64 F3) := cell_of_row _ _ 3 _ _ _ KF_28.out
    have cKG0 : w27.cell? ⟨w17.heap.size, 0, none⟩ = some (.int .i64 F0) := cell_of_row _ _ 0 _ _ _ KG_28.out
    have cKG1 : w27.cell? ⟨w17.heap.size, 1, none⟩ = some (.int .i64 F1) := cell_of_row _ _ 1 _ _ _ KG_28.out
    have cKG2 : w27.cell? ⟨w17.heap.size, 2, none⟩ = some (.int .i64 F2) := cell_of_row _ _ 2 _ _ _ KG_28.out
    have cKG3 : w27.cell? ⟨w17.heap.size, 3, none⟩ = some (.int .i64 F3) := cell_of_row _ _ 3 _ _ _ KG_28.out
    have cKX0 : w27.cell? ⟨w21.heap.size, 0, none⟩ = some (.int .i64 xr) := cell_of_row _ _ 0 _ _ _ KX_28.out
    have cKX1 : w27.cell? ⟨w21.heap.size, 1, none⟩ = some (.int .i64 xq) := cell_of_row _ _ 1 _ _ _ KX_28.out
    have cKX2 : w27.cell? ⟨w21.heap.size, 2, none⟩ = some (.int .i64 xf) := cell_of_row _ _ 2 _ _ _ KX_28.out
    have cKX3 : w27.cell? ⟨w21.heap.size, 3, none⟩ = some (.int .i64 xc) := cell_of_row _ _ 3 _ _ _ KX_28.out
    have cKY0 : w27.cell? ⟨w21.heap.size + 1, 0, none⟩ = some (.int .i64 xa) := cell_of_row _ _ 0 _ _ _ KY_28.out
    have cKY1 : w27.cell? ⟨w21.heap.size + 1, 1, none⟩ = some (.int .i64 xs) := cell_of_row _ _ 1 _ _ _ KY_28.out
    have cKI0 : w27.cell? ⟨w25.heap.size, 0, none⟩ = some (.int .i64 T0) := cell_of_row _ _ 0 _ _ _ KI_270.out
    have cKI1 : w27.cell? ⟨w25.heap.size, 1, none⟩ = some (.int .i64 T1) := cell_of_row _ _ 1 _ _ _ KI_270.out
    have cKI2 : w27.cell? ⟨w25.heap.size, 2, none⟩ = some (.int .i64 T2) := cell_of_row _ _ 2 _ _ _ KI_270.out
    have cKI3 : w27.cell? ⟨w25.heap.size, 3, none⟩ = some (.int .i64 T3) := cell_of_row _ _ 3 _ _ _ KI_270.out
    go_wp2_with fail
    clear cKF0 cKF1 cKF2 cKF3 cKG0 cKG1 cKG2 cKG3 cKX0 cKX1 cKX2 cKX3 cKY0 cKY1 cKI0 cKI1 cKI2 cKI3 hw27
    refine (HSt.out _).mono ?_
    rintro e w29 ⟨rfl, hc8⟩
    have KF_30 := Lib.hid ((hc8.block _ (heap_lt KF_28.out)).trans KF_28.out)
    have KG_30 := Lib.hid ((hc8.block _ (heap_lt KG_28.out)).trans KG_28.out)
    have KX_30 := Lib.hid ((hc8.block _ (heap_lt KX_28.out)).trans KX_28.out)
    have KY_30 := Lib.hid ((hc8.block _ (heap_lt KY_28.out)).trans KY_28.out)
    have KI_30 := Lib.hid ((hc8.block _ (heap_lt KI_270.out)).trans KI_270.out)
    have HB_30 := Lib.hid (below_more HB_28.out hc8)
    clear KF_28 KG_28 KX_28 KY_28 KI_270 HB_28 hc8
    obtain ⟨w31, hw31⟩ : ∃ wn, w29.alloc (.cells #[.int .i64 T0, .int .i64 T1, .int .i64 T2, .int .i64 T3] 24) = wn := ⟨_, rfl⟩
    have hbx31 : Below w29.heap.size w29 w31 := by rw [← hw31]; exact gAlloc _ _
    have KS_310 : Hid (w31.heap[w29.heap.size]? = some (.cells #[.int .i64 T0, .int .i64 T1, .int .i64 T2, .int .i64 T3] 24 (0, 0))) := by rw [← hw31]; exact heap_alloc_new _ _
    have KF_32 := Lib.hid ((hbx31.block _ (heap_lt KF_30.out)).trans KF_30.out)
    have KG_32 := Lib.hid ((hbx31.block _ (heap_lt KG_30.out)).trans KG_30.out)
    have KX_32 := Lib.hid ((hbx31.block _ (heap_lt KX_30.out)).trans KX_30.out)
    have KY_32 := Lib.hid ((hbx31.block _ (heap_lt KY_30.out)).trans KY_30.out)
    have KI_32 := Lib.hid ((hbx31.block _ (heap_lt KI_30.out)).trans KI_30.out)
    have HB_32 := Lib.hid (below_more HB_30.out hbx31)
    clear KF_30 KG_30 KX_30 KY_30 KI_30 HB_30 hbx31
    clear HIt HSt
    have cKF0 : w31.cell? ⟨w13.heap.size, 0, none⟩ = some (.int .i64 F0) := cell_of_row _ _ 0 _ _ _ KF_32.out
    have cKF1 : w31.cell? ⟨w13.heap.size, 1, none⟩ = some (.int .i64 F1) := cell_of_row _ _ 1 _ _ _ KF_32.out
    have cKF2 : w31.cell? ⟨w13.heap.size, 2, none⟩ = some (.int .i64 F2) := cell_of_row _ _ 2 _ _ _ KF_32.out
    have cKF3 : w31.cell? ⟨w13.heap.size, 3, none⟩ = some (.int .i64 F3) := cell_of_row _ _ 3 _ _ _ KF_32.out
    have cKG0 : w31.cell? ⟨w17.heap.size, 0, none⟩ = some (.int .i64 F0) := cell_of_row _ _ 0 _ _ _ KG_32.out
    have cKG1 : w31.cell? ⟨w17.heap.size, 1, none⟩ = some (.int .i64 F1) := cell_of_row _ _ 1 _ _ _ KG_32.out
    have cKG2 : w31.cell? ⟨w17.heap.size, 2, none⟩ = some (.int .i64 F2) := cell_of_row _ _ 2 _ _ _ KG_32.out
    have cKG3 : w31.cell? ⟨w17.heap.size, 3, none⟩ = some (.int .i64 F3) := cell_of_row _ _ 3 _ _ _ KG_32.out
    have cKI0 : w31.cell? ⟨w25.heap.size, 0, none⟩ = some (.int .i64 T0) := cell_of_row _ _ 0 _ _ _ KI_32.out
    have cKI1 : w31.cell? ⟨w25.heap.size, 1, none⟩ = some (.int .i64 T1) := cell_of_row _ _ 1 _ _ _ KI_32.out
    have cKI2 : w31.cell? ⟨w25.heap.size, 2, none⟩ = some (.int .i64 T2) := cell_of_row _ _ 2 _ _ _ KI_32.out
    have cKI3 : w31.cell? ⟨w25.heap.size, 3, none⟩ = some (.int .i64 T3) := cell_of_row _ _ 3 _ _ _ KI_32.out
    have cKS0 : w31.cell? ⟨w29.heap.size, 0, none⟩ = some (.int .i64 T0) := cell_of_row _ _ 0 _ _ _ KS_310.out
    have cKS1 : w31.cell? ⟨w29.heap.size, 1, none⟩ = some (.int .i64 T1) := cell_of_row _ _ 1 _ _ _ KS_310.out
    have cKS2 : w31.cell? ⟨w29.heap.size, 2, none⟩ = some (.int .i64 T2) := cell_of_row _ _ 2 _ _ _ KS_310.out
    have cKS3 : w31.cell? ⟨w29.heap.size, 3, none⟩ = some (.int .i64 T3) := cell_of_row _ _ 3 _ _ _ KS_310.out
    go_wp2_with fail
    clear cKF0 cKF1 cKF2 cKF3 cKG0 cKG1 cKG2 cKG3 cKI0 cKI1 cKI2 cKI3 cKS0 cKS1 cKS2 cKS3 hw31
    go_ret
    exact ⟨by first | rfl | simp, HB_32.out⟩
  · obtain ⟨⟨c0, c1⟩, d0, d1⟩ := HD.out rfl
    have hcD : IntKind.i64.wrap (c + D) = c + D := wrap13 _ (by omega) (by omega)
    clear HD
    by_cases hle : c + D ≤ 10000
    case neg =>
      clear HM
      have cKB0 : w7.cell? ⟨w1.heap.size, 0, none⟩ = some (.int .i64 r) := cell_of_row _ _ 0 _ _ _ KB_8.out
      have cKB1 : w7.cell? ⟨w1.heap.size, 1, none⟩ = some (.int .i64 q) := cell_of_row _ _ 1 _ _ _ KB_8.out
      have cKB2 : w7.cell? ⟨w1.heap.size, 2, none⟩ = some (.int .i64 f) := cell_of_row _ _ 2 _ _ _ KB_8.out
      have cKB3 : w7.cell? ⟨w1.heap.size, 3, none⟩ = some (.int .i64 c) := cell_of_row _ _ 3 _ _ _ KB_8.out
      go_wp2_with fail
      clear cKB0 cKB1 cKB2 cKB3
      refine (drawFill13 B zb cb _ (byts_on13 HBy.out HB_8.out)).mono ?_
      rintro e w9 ⟨ur, uq, uf, uc, ut, rfl, hc3⟩
      have KB_10 := Lib.hid ((hc3.block _ (heap_lt KB_8.out)).trans KB_8.out)
      have HB_10 := Lib.hid (below_more HB_8.out hc3)
      clear KB_8 HB_8 hc3
      obtain ⟨w11, hw11⟩ : ∃ wn, w9.alloc (.cells #[.int .i64 ur, .int .i64 uq, .int .i64 uf, .int .i64 uc] 24) = wn := ⟨_, rfl⟩
      have hbx11 : Below w9.heap.size w9 w11 := by rw [← hw11]; exact gAlloc _ _
      have KU_110 : Hid (w11.heap[w9.heap.size]? = some (.cells #[.int .i64 ur, .int .i64 uq, .int .i64 uf, .int .i64 uc] 24 (0, 0))) := by rw [← hw11]; exact heap_alloc_new _ _
      have HB_12 := Lib.hid (below_more HB_10.out hbx11)
      clear HB_10 hbx11
      have HIf := Lib.hid (fun w => iFillTo ur uq uf uc ut w)
      have HSf := Lib.hid (fun w => sFillTo ur uq uf uc ut w)
      generalize (ftL ur uq uf uc ut).1 = F0 at *
      generalize (ftL ur uq uf uc ut).2.1 = F1 at *
      generalize (ftL ur uq uf uc ut).2.2.1 = F2 at *
      generalize (ftL ur uq uf uc ut).2.2.2 = F3 at *
      generalize ftOk ur uq uf uc ut = ok2 at *
      have cKU0 : w11.cell? ⟨w9.heap.size, 0, none⟩ = some (.int .i64 ur) := cell_of_row _ _ 0 _ _ _ KU_110.out
      have cKU1 : w11.cell? ⟨w9.heap.size, 1, none⟩ = some (.int .i64 uq) := cell_of_row _ _ 1 _ _ _ KU_110.out
      have cKU2 : w11.cell? ⟨w9.heap.size, 2, none⟩ = some (.int .i64 uf) := cell_of_row _ _ 2 _ _ _ KU_110.out
      have cKU3 : w11.cell? ⟨w9.heap.size, 3, none⟩ = some (.int .i64 uc) := cell_of_row _ _ 3 _ _ _ KU_110.out
      go_wp2_with fail
      clear cKU0 cKU1 cKU2 cKU3 hw11
      refine (HIf.out _).mono ?_
      rintro e w13 ⟨rfl, hc4⟩
      have KU_14 := Lib.hid ((hc4.block _ (heap_lt KU_110.out)).trans KU_110.out)
      have HB_14 := Lib.hid (below_more HB_12.out hc4)
      clear KU_110 HB_12 hc4
      obtain ⟨w15, hw15⟩ : ∃ wn, w13.alloc (.cells #[.int .i64 F0, .int .i64 F1, .int .i64 F2, .int .i64 F3] 24) = wn := ⟨_, rfl⟩
      have hbx15 : Below w13.heap.size w13 w15 := by rw [← hw15]; exact gAlloc _ _
      have KF_150 : Hid (w15.heap[w13.heap.size]? = some (.cells #[.int .i64 F0, .int .i64 F1, .int .i64 F2, .int .i64 F3] 24 (0, 0))) := by rw [← hw15]; exact heap_alloc_new _ _
      have KU_16 := Lib.hid ((hbx15.block _ (heap_lt KU_14.out)).trans KU_14.out)
      have HB_16 := Lib.hid (below_more HB_14.out hbx15)
      clear KU_14 HB_14 hbx15
      have cKU0 : w15.cell? ⟨w9.heap.size, 0, none⟩ = some (.int .i64 ur) := cell_of_row _ _ 0 _ _ _ KU_16.out
      have cKU1 : w15.cell? ⟨w9.heap.size, 1, none⟩ = some (.int .i64 uq) := cell_of_row _ _ 1 _ _ _ KU_16.out
      have cKU2 : w15.cell? ⟨w9.heap.size, 2, none⟩ = some (.int .i64 uf) := cell_of_row _ _ 2 _ _ _ KU_16.out
      have cKU3 : w15.cell? ⟨w9.heap.size, 3, none⟩ = some (.int .i64 uc) := cell_of_row _ _ 3 _ _ _ KU_16.out
      have cKF0 : w15.cell? ⟨w13.heap.size, 0, none⟩ = some (.int .i64 F0) := cell_of_row _ _ 0 _ _ _ KF_150.out
      have cKF1 : w15.cell? ⟨w13.heap.size, 1, none⟩ = some (.int .i64 F1) := cell_of_row _ _ 1 _ _ _ KF_150.out
      have cKF2 : w15.cell? ⟨w13.heap.size, 2, none⟩ = some (.int .i64 F2) := cell_of_row _ _ 2 _ _ _ KF_150.out
      have cKF3 : w15.cell? ⟨w13.heap.size, 3, none⟩ = some (.int .i64 F3) := cell_of_row _ _ 3 _ _ _ KF_150.out
      go_wp2_with fail
      clear cKU0 cKU1 cKU2 cKU3 cKF0 cKF1 cKF2 cKF3 hw15
      refine (HSf.out _).mono ?_
      rintro e w17 ⟨rfl, hc5⟩
      have KU_18 := Lib.hid ((hc5.block _ (heap_lt KU_16.out)).trans KU_16.out)
      have KF_18 := Lib.hid ((hc5.block _ (heap_lt KF_150.out)).trans KF_150.out)
      have HB_18 := Lib.hid (below_more HB_16.out hc5)
      clear KU_16 KF_150 HB_16 hc5
      obtain ⟨w19, hw19⟩ : ∃ wn, w17.alloc (.cells #[.int .i64 F0, .int .i64 F1, .int .i64 F2, .int .i64 F3] 24) = wn := ⟨_, rfl⟩
      have hbx19 : Below w17.heap.size w17 w19 := by rw [← hw19]; exact gAlloc _ _
      have KG_190 : Hid (w19.heap[w17.heap.size]? = some (.cells #[.int .i64 F0, .int .i64 F1, .int .i64 F2, .int .i64 F3] 24 (0, 0))) := by rw [← hw19]; exact heap_alloc_new _ _
      have KU_20 := Lib.hid ((hbx19.block _ (heap_lt KU_18.out)).trans KU_18.out)
      have KF_20 := Lib.hid ((hbx19.block _ (heap_lt KF_18.out)).trans KF_18.out)
      have HB_20 := Lib.hid (below_more HB_18.out hbx19)
      clear KU_18 KF_18 HB_18 hbx19
      clear HIf HSf
      have cKF0 : w19.cell? ⟨w13.heap.size, 0, none⟩ = some (.int .i64 F0) := cell_of_row _ _ 0 _ _ _ KF_20.out
      have cKF1 : w19.cell? ⟨w13.heap.size, 1, none⟩ = some (.int .i64 F1) := cell_of_row _ _ 1 _ _ _ KF_20.out
      have cKF2 : w19.cell? ⟨w13.heap.size, 2, none⟩ = some (.int .i64 F2) := cell_of_row _ _ 2 _ _ _ KF_20.out
      have cKF3 : w19.cell? ⟨w13.heap.size, 3, none⟩ = some (.int .i64 F3) := cell_of_row _ _ 3 _ _ _ KF_20.out
      have cKG0 : w19.cell? ⟨w17.heap.size, 0, none⟩ = some (.int .i64 F0) := cell_of_row _ _ 0 _ _ _ KG_190.out
      have cKG1 : w19.cell? ⟨w17.heap.size, 1, none⟩ = some (.int .i64 F1) := cell_of_row _ _ 1 _ _ _ KG_190.out
      have cKG2 : w19.cell? ⟨w17.heap.size, 2, none⟩ = some (.int .i64 F2) := cell_of_row _ _ 2 _ _ _ KG_190.out
      have cKG3 : w19.cell? ⟨w17.heap.size, 3, none⟩ = some (.int .i64 F3) := cell_of_row _ _ 3 _ _ _ KG_190.out
      go_wp2_with fail
      clear cKF0 cKF1 cKF2 cKF3 cKG0 cKG1 cKG2 cKG3 hw19
      refine (drawTake13 B zb cb _ (byts_on13 HBy.out HB_20.out)).mono ?_
      rintro e w21 ⟨xr, xq, xf, xc, xa, xs, rfl, hc6⟩
      have KF_22 := Lib.hid ((hc6.block _ (heap_lt KF_20.out)).trans KF_20.out)
      have KG_22 := Lib.hid ((hc6.block _ (heap_lt KG_190.out)).trans KG_190.out)
      have HB_22 := Lib.hid (below_more HB_20.out hc6)
      clear KF_20 KG_190 HB_20 hc6
      obtain ⟨w23, hw23⟩ : ∃ wn, (w21.alloc (.cells #[.int .i64 xr, .int .i64 xq, .int .i64 xf, .int .i64 xc] 24)).alloc (.cells #[.int .i64 xa, .int .i64 xs] 34) = wn := ⟨_, rfl⟩
      have hbx23 : Below w21.heap.size w21 w23 := by rw [← hw23]; exact (gAlloc w21 _).alloc (by simp) _
      have KX_0 : Hid (w23.heap[w21.heap.size]? = some (.cells #[.int .i64 xr, .int .i64 xq, .int .i64 xf, .int .i64 xc] 24 (0, 0))) := by rw [← hw23, heap_alloc_old _ _ _ (by simp)]; exact heap_alloc_new _ _
      have KY_0 : Hid (w23.heap[w21.heap.size + 1]? = some (.cells #[.int .i64 xa, .int .i64 xs] 34 (0, 0))) := by rw [← hw23, show w21.heap.size + 1 = (w21.alloc (.cells #[.int .i64 xr, .int .i64 xq, .int .i64 xf, .int .i64 xc] 24)).heap.size by simp]; exact heap_alloc_new _ _
      have KF_24 := Lib.hid ((hbx23.block _ (heap_lt KF_22.out)).trans KF_22.out)
      have KG_24 := Lib.hid ((hbx23.block _ (heap_lt KG_22.out)).trans KG_22.out)
      have HB_24 := Lib.hid (below_more HB_22.out hbx23)
      clear KF_22 KG_22 HB_22 hbx23
      have HIt := Lib.hid (fun w => iTakeFrom xr xq xf xc xa xs w)
      have HSt := Lib.hid (fun w => sTakeFrom xr xq xf xc xa xs w)
      generalize (tkL xr xq xf xc xa xs).1 = T0 at *
      generalize (tkL xr xq xf xc xa xs).2.1 = T1 at *
      generalize (tkL xr xq xf xc xa xs).2.2.1 = T2 at *
      generalize (tkL xr xq xf xc xa xs).2.2.2 = T3 at *
      generalize tkOk xr xq xf xc xa xs = ok3 at *
      have cKF0 : w23.cell? ⟨w13.heap.size, 0, none⟩ = some (.int .i64 F0) := cell_of_row _ _ 0 _ _ _ KF_24.out
      have cKF1 : w23.cell? ⟨w13.heap.size, 1, none⟩ = some (.int .i64 F1) := cell_of_row _ _ 1 _ _ _ KF_24.out
      have cKF2 : w23.cell? ⟨w13.heap.size, 2, none⟩ = some (.int .i64 F2) := cell_of_row _ _ 2 _ _ _ KF_24.out
      have cKF3 : w23.cell? ⟨w13.heap.size, 3, none⟩ = some (.int .i64 F3) := cell_of_row _ _ 3 _ _ _ KF_24.out
      have cKG0 : w23.cell? ⟨w17.heap.size, 0, none⟩ = some (.int .i64 F0) := cell_of_row _ _ 0 _ _ _ KG_24.out
      have cKG1 : w23.cell? ⟨w17.heap.size, 1, none⟩ = some (.int .i64 F1) := cell_of_row _ _ 1 _ _ _ KG_24.out
      have cKG2 : w23.cell? ⟨w17.heap.size, 2, none⟩ = some (.int .i64 F2) := cell_of_row _ _ 2 _ _ _ KG_24.out
      have cKG3 : w23.cell? ⟨w17.heap.size, 3, none⟩ = some (.int .i64 F3) := cell_of_row _ _ 3 _ _ _ KG_24.out
      have cKX0 : w23.cell? ⟨w21.heap.size, 0, none⟩ = some (.int .i64 xr) := cell_of_row _ _ 0 _ _ _ KX_0.out
      have cKX1 : w23.cell? ⟨w21.heap.size, 1, none⟩ = some (.int .i64 xq) := cell_of_row _ _ 1 _ _ _ KX_0.out
      have cKX2 : w23.cell? ⟨w21.heap.size, 2, none⟩ = some (.int .i64 xf) := cell_of_row _ _ 2 _ _ _ KX_0.out
      have cKX3 : w23.cell? ⟨w21.heap.size, 3, none⟩ = some (.int .i64 xc) := cell_of_row _ _ 3 _ _ _ KX_0.out
      have cKY0 : w23.cell? ⟨w21.heap.size + 1, 0, none⟩ = some (.int .i64 xa) := cell_of_row _ _ 0 _ _ _ KY_0.out
      have cKY1 : w23.cell? ⟨w21.heap.size + 1, 1, none⟩ = some (.int .i64 xs) := cell_of_row _ _ 1 _ _ _ KY_0.out
      go_wp2_with fail
      clear cKF0 cKF1 cKF2 cKF3 cKG0 cKG1 cKG2 cKG3 cKX0 cKX1 cKX2 cKX3 cKY0 cKY1 hw23
      refine (HIt.out _).mono ?_
      rintro e w25 ⟨rfl, hc7⟩
      have KF_26 := Lib.hid ((hc7.block _ (heap_lt KF_24.out)).trans KF_24.out)
      have KG_26 := Lib.hid ((hc7.block _ (heap_lt KG_24.out)).trans KG_24.out)
      have KX_26 := Lib.hid ((hc7.block _ (heap_lt KX_0.out)).trans KX_0.out)
      have KY_26 := Lib.hid ((hc7.block _ (heap_lt KY_0.out)).trans KY_0.out)
      have HB_26 := Lib.hid (below_more HB_24.out hc7)
      clear KF_24 KG_24 KX_0 KY_0 HB_24 hc7
      obtain ⟨w27, hw27⟩ : ∃ wn, w25.alloc (.cells #[.int .i64 T0, .int .i64 T1, .int .i64 T2, .int .i64 T3] 24) = wn := ⟨_, rfl⟩
      have hbx27 : Below w25.heap.size w25 w27 := by rw [← hw27]; exact gAlloc _ _
      have KI_270 : Hid (w27.heap[w25.heap.size]? = some (.cells #[.int .i64 T0, .int .i64 T1, .int .i64 T2, .int .i64 T3] 24 (0, 0))) := by rw [← hw27]; exact heap_alloc_new _ _
      have KF_28 := Lib.hid ((hbx27.block _ (heap_lt KF_26.out)).trans KF_26.out)
      have KG_28 := Lib.hid ((hbx27.block _ (heap_lt KG_26.out)).trans KG_26.out)
      have KX_28 := Lib.hid ((hbx27.block _ (heap_lt KX_26.out)).trans KX_26.out)
      have KY_28 := Lib.hid ((hbx27.block _ (heap_lt KY_26.out)).trans KY_26.out)
      have HB_28 := Lib.hid (below_more HB_26.out hbx27)
      clear KF_26 KG_26 KX_26 KY_26 HB_26 hbx27
      have cKF0 : w27.cell? ⟨w13.heap.size, 0, none⟩ = some (.int .i64 F0) := cell_of_row _ _ 0 _ _ _ KF_28.out
      have cKF1 : w27.cell? ⟨w13.heap.size, 1, none⟩ = some (.int .i64 F1) := cell_of_row _ _ 1 _ _ _ KF_28.out
      have cKF2 : w27.cell? ⟨w13.heap.size, 2, none⟩ = some (.int .i64 F2) := cell_of_row _ _ 2 _ _ _ KF_28.out
      have cKF3 : w27.cell? ⟨w13.heap.size, 3, none⟩ = some (.int .i64 F3) := cell_of_row _ _ 3 _ _ _ KF_28.out
      have cKG0 : w27.cell? ⟨w17.heap.size, 0, none⟩ = some (.int .i64 F0) := cell_of_row _ _ 0 _ _ _ KG_28.out
      have cKG1 : w27.cell? ⟨w17.heap.size, 1, none⟩ = some (.int .i64 F1) := cell_of_row _ _ 1 _ _ _ KG_28.out
      have cKG2 : w27.cell? ⟨w17.heap.size, 2, none⟩ = some (.int .i64 F2) := cell_of_row _ _ 2 _ _ _ KG_28.out
      have cKG3 : w27.cell? ⟨w17.heap.size, 3, none⟩ = some (.int .i64 F3) := cell_of_row _ _ 3 _ _ _ KG_28.out
      have cKX0 : w27.cell? ⟨w21.heap.size, 0, none⟩ = some (.int .i64 xr) := cell_of_row _ _ 0 _ _ _ KX_28.out
      have cKX1 : w27.cell? ⟨w21.heap.size, 1, none⟩ = some (.int .i64 xq) := cell_of_row _ _ 1 _ _ _ KX_28.out
      have cKX2 : w27.cell? ⟨w21.heap.size, 2, none⟩ = some (.int .i64 xf) := cell_of_row _ _ 2 _ _ _ KX_28.out
      have cKX3 : w27.cell? ⟨w21.heap.size, 3, none⟩ = some (.int .i64 xc) := cell_of_row _ _ 3 _ _ _ KX_28.out
      have cKY0 : w27.cell? ⟨w21.heap.size + 1, 0, none⟩ = some (.int .i64 xa) := cell_of_row _ _ 0 _ _ _ KY_28.out
      have cKY1 : w27.cell? ⟨w21.heap.size + 1, 1, none⟩ = some (.int .i64 xs) := cell_of_row _ _ 1 _ _ _ KY_28.out
      have cKI0 : w27.cell? ⟨w25.heap.size, 0, none⟩ = some (.int .i64 T0) := cell_of_row _ _ 0 _ _ _ KI_270.out
      have cKI1 : w27.cell? ⟨w25.heap.size, 1, none⟩ = some (.int .i64 T1) := cell_of_row _ _ 1 _ _ _ KI_270.out
      have cKI2 : w27.cell? ⟨w25.heap.size, 2, none⟩ = some (.int .i64 T2) := cell_of_row _ _ 2 _ _ _ KI_270.out
      have cKI3 : w27.cell? ⟨w25.heap.size, 3, none⟩ = some (.int .i64 T3) := cell_of_row _ _ 3 _ _ _ KI_270.out
      go_wp2_with fail
      clear cKF0 cKF1 cKF2 cKF3 cKG0 cKG1 cKG2 cKG3 cKX0 cKX1 cKX2 cKX3 cKY0 cKY1 cKI0 cKI1 cKI2 cKI3 hw27
      refine (HSt.out _).mono ?_
      rintro e w29 ⟨rfl, hc8⟩
      have KF_30 := Lib.hid ((hc8.block _ (heap_lt KF_28.out)).trans KF_28.out)
      have KG_30 := Lib.hid ((hc8.block _ (heap_lt KG_28.out)).trans KG_28.out)
      have KX_30 := Lib.hid ((hc8.block _ (heap_lt KX_28.out)).trans KX_28.out)
      have KY_30 := Lib.hid ((hc8.block _ (heap_lt KY_28.out)).trans KY_28.out)
      have KI_30 := Lib.hid ((hc8.block _ (heap_lt KI_270.out)).trans KI_270.out)
      have HB_30 := Lib.hid (below_more HB_28.out hc8)
      clear KF_28 KG_28 KX_28 KY_28 KI_270 HB_28 hc8
      obtain ⟨w31, hw31⟩ : ∃ wn, w29.alloc (.cells #[.int .i64 T0, .int .i64 T1, .int .i64 T2, .int .i64 T3] 24) = wn := ⟨_, rfl⟩
      have hbx31 : Below w29.heap.size w29 w31 := by rw [← hw31]; exact gAlloc _ _
      have KS_310 : Hid (w31.heap[w29.heap.size]? = some (.cells #[.int .i64 T0, .int .i64 T1, .int .i64 T2, .int .i64 T3] 24 (0, 0))) := by rw [← hw31]; exact heap_alloc_new _ _
      have KF_32 := Lib.hid ((hbx31.block _ (heap_lt KF_30.out)).trans KF_30.out)
      have KG_32 := Lib.hid ((hbx31.block _ (heap_lt KG_30.out)).trans KG_30.out)
      have KX_32 := Lib.hid ((hbx31.block _ (heap_lt KX_30.out)).trans KX_30.out)
      have KY_32 := Lib.hid ((hbx31.block _ (heap_lt KY_30.out)).trans KY_30.out)
      have KI_32 := Lib.hid ((hbx31.block _ (heap_lt KI_30.out)).trans KI_30.out)
      have HB_32 := Lib.hid (below_more HB_30.out hbx31)
      clear KF_30 KG_30 KX_30 KY_30 KI_30 HB_30 hbx31
      clear HIt HSt
      have cKF0 : w31.cell? ⟨w13.heap.size, 0, none⟩ = some (.int .i64 F0) := cell_of_row _ _ 0 _ _ _ KF_32.out
      have cKF1 : w31.cell? ⟨w13.heap.size, 1, none⟩ = some (.int .i64 F1) := cell_of_row _ _ 1 _ _ _ KF_32.out
      have cKF2 : w31.cell? ⟨w13.heap.size, 2, none⟩ = some (.int .i64 F2) := cell_of_row _ _ 2 _ _ _ KF_32.out
      have cKF3 : w31.cell? ⟨w13.heap.size, 3, none⟩ = some (.int .i64 F3) := cell_of_row _ _ 3 _ _ _ KF_32.out
      have cKG0 : w31.cell? ⟨w17.heap.size, 0, none⟩ = some (.int .i64 F0) := cell_of_row _ _ 0 _ _ _ KG_32.out
      have cKG1 : w31.cell? ⟨w17.heap.size, 1, none⟩ = some (.int .i64 F1) := cell_of_row _ _ 1 _ _ _ KG_32.out
      have cKG2 : w31.cell? ⟨w17.heap.size, 2, none⟩ = some (.int .i64 F2) := cell_of_row _ _ 2 _ _ _ KG_32.out
      have cKG3 : w31.cell? ⟨w17.heap.size, 3, none⟩ = some (.int .i64 F3) := cell_of_row _ _ 3 _ _ _ KG_32.out
      have cKI0 : w31.cell? ⟨w25.heap.size, 0, none⟩ = some (.int .i64 T0) := cell_of_row _ _ 0 _ _ _ KI_32.out
      have cKI1 : w31.cell? ⟨w25.heap.size, 1, none⟩ = some (.int .i64 T1) := cell_of_row _ _ 1 _ _ _ KI_32.out
      have cKI2 : w31.cell? ⟨w25.heap.size, 2, none⟩ = some (.int .i64 T2) := cell_of_row _ _ 2 _ _ _ KI_32.out
      have cKI3 : w31.cell? ⟨w25.heap.size, 3, none⟩ = some (.int .i64 T3) := cell_of_row _ _ 3 _ _ _ KI_32.out
      have cKS0 : w31.cell? ⟨w29.heap.size, 0, none⟩ = some (.int .i64 T0) := cell_of_row _ _ 0 _ _ _ KS_310.out
      have cKS1 : w31.cell? ⟨w29.heap.size, 1, none⟩ = some (.int .i64 T1) := cell_of_row _ _ 1 _ _ _ KS_310.out
      have cKS2 : w31.cell? ⟨w29.heap.size, 2, none⟩ = some (.int .i64 T2) := cell_of_row _ _ 2 _ _ _ KS_310.out
      have cKS3 : w31.cell? ⟨w29.heap.size, 3, none⟩ = some (.int .i64 T3) := cell_of_row _ _ 3 _ _ _ KS_310.out
      go_wp2_with fail
      clear cKF0 cKF1 cKF2 cKF3 cKG0 cKG1 cKG2 cKG3 cKI0 cKI1 cKI2 cKI3 cKS0 cKS1 cKS2 cKS3 hw31
      go_ret
      exact ⟨by first | rfl | simp, HB_32.out⟩
    obtain ⟨m1, m2⟩ := HM.out rfl hle
    have hcE : IntKind.i64.wrap (c + D - 1) = c + D - 1 := wrap13 _ (by omega) (by omega)
    have HT1 := Lib.hid (fun w => iTakeFrom r q f c (c + D) s w)
    have HT2 := Lib.hid (fun w => iTakeFrom r q f c (c + D - 1) s w)
    rw [m1] at HT1
    rw [m2] at HT2
    generalize (tkL r q f c (c + D) s).1 = P0 at *
    generalize (tkL r q f c (c + D) s).2.1 = P1 at *
    generalize (tkL r q f c (c + D) s).2.2.1 = P2 at *
    generalize (tkL r q f c (c + D) s).2.2.2 = P3 at *
    generalize (tkL r q f c (c + D - 1) s).1 = Q0 at *
    generalize (tkL r q f c (c + D - 1) s).2.1 = Q1 at *
    generalize (tkL r q f c (c + D - 1) s).2.2.1 = Q2 at *
    generalize (tkL r q f c (c + D - 1) s).2.2.2 = Q3 at *
    clear HM m1 m2
    have cKB0 : w7.cell? ⟨w1.heap.size, 0, none⟩ = some (.int .i64 r) := cell_of_row _ _ 0 _ _ _ KB_8.out
    have cKB1 : w7.cell? ⟨w1.heap.size, 1, none⟩ = some (.int .i64 q) := cell_of_row _ _ 1 _ _ _ KB_8.out
    have cKB2 : w7.cell? ⟨w1.heap.size, 2, none⟩ = some (.int .i64 f) := cell_of_row _ _ 2 _ _ _ KB_8.out
    have cKB3 : w7.cell? ⟨w1.heap.size, 3, none⟩ = some (.int .i64 c) := cell_of_row _ _ 3 _ _ _ KB_8.out
    go_wp2_with fail
    clear cKB0 cKB1 cKB2 cKB3
    refine (HT1.out _).mono ?_
    rintro e w9 ⟨rfl, hk1⟩
    have KB_10 := Lib.hid ((hk1.block _ (heap_lt KB_8.out)).trans KB_8.out)
    have HB_10 := Lib.hid (below_more HB_8.out hk1)
    clear KB_8 HB_8 hk1
    obtain ⟨w11, hw11⟩ : ∃ wn, w9.alloc (.cells #[.int .i64 P0, .int .i64 P1, .int .i64 P2, .int .i64 P3] 24) = wn := ⟨_, rfl⟩
    have hbx11 : Below w9.heap.size w9 w11 := by rw [← hw11]; exact gAlloc _ _
    have KP_110 : Hid (w11.heap[w9.heap.size]? = some (.cells #[.int .i64 P0, .int .i64 P1, .int .i64 P2, .int .i64 P3] 24 (0, 0))) := by rw [← hw11]; exact heap_alloc_new _ _
    have KB_12 := Lib.hid ((hbx11.block _ (heap_lt KB_10.out)).trans KB_10.out)
    have HB_12 := Lib.hid (below_more HB_10.out hbx11)
    clear KB_10 HB_10 hbx11
    have cKB0 : w11.cell? ⟨w1.heap.size, 0, none⟩ = some (.int .i64 r) := cell_of_row _ _ 0 _ _ _ KB_12.out
    have cKB1 : w11.cell? ⟨w1.heap.size, 1, none⟩ = some (.int .i64 q) := cell_of_row _ _ 1 _ _ _ KB_12.out
    have cKB2 : w11.cell? ⟨w1.heap.size, 2, none⟩ = some (.int .i64 f) := cell_of_row _ _ 2 _ _ _ KB_12.out
    have cKB3 : w11.cell? ⟨w1.heap.size, 3, none⟩ = some (.int .i64 c) := cell_of_row _ _ 3 _ _ _ KB_12.out
    have cKP0 : w11.cell? ⟨w9.heap.size, 0, none⟩ = some (.int .i64 P0) := cell_of_row _ _ 0 _ _ _ KP_110.out
    have cKP1 : w11.cell? ⟨w9.heap.size, 1, none⟩ = some (.int .i64 P1) := cell_of_row _ _ 1 _ _ _ KP_110.out
    have cKP2 : w11.cell? ⟨w9.heap.size, 2, none⟩ = some (.int .i64 P2) := cell_of_row _ _ 2 _ _ _ KP_110.out
    have cKP3 : w11.cell? ⟨w9.heap.size, 3, none⟩ = some (.int .i64 P3) := cell_of_row _ _ 3 _ _ _ KP_110.out
    go_wp2_with fail
    clear cKB0 cKB1 cKB2 cKB3 cKP0 cKP1 cKP2 cKP3 hw11
    refine (HT2.out _).mono ?_
    rintro e w13 ⟨rfl, hk2⟩
    have KB_14 := Lib.hid ((hk2.block _ (heap_lt KB_12.out)).trans KB_12.out)
    have KP_14 := Lib.hid ((hk2.block _ (heap_lt KP_110.out)).trans KP_110.out)
    have HB_14 := Lib.hid (below_more HB_12.out hk2)
    clear KB_12 KP_110 HB_12 hk2
    obtain ⟨w15, hw15⟩ : ∃ wn, w13.alloc (.cells #[.int .i64 Q0, .int .i64 Q1, .int .i64 Q2, .int .i64 Q3] 24) = wn := ⟨_, rfl⟩
    have hbx15 : Below w13.heap.size w13 w15 := by rw [← hw15]; exact gAlloc _ _
    have KQ_150 : Hid (w15.heap[w13.heap.size]? = some (.cells #[.int .i64 Q0, .int .i64 Q1, .int .i64 Q2, .int .i64 Q3] 24 (0, 0))) := by rw [← hw15]; exact heap_alloc_new _ _
    have KB_16 := Lib.hid ((hbx15.block _ (heap_lt KB_14.out)).trans KB_14.out)
    have KP_16 := Lib.hid ((hbx15.block _ (heap_lt KP_14.out)).trans KP_14.out)
    have HB_16 := Lib.hid (below_more HB_14.out hbx15)
    clear KB_14 KP_14 HB_14 hbx15
    clear HT1 HT2
    have cKB0 : w15.cell? ⟨w1.heap.size, 0, none⟩ = some (.int .i64 r) := cell_of_row _ _ 0 _ _ _ KB_16.out
    have cKB1 : w15.cell? ⟨w1.heap.size, 1, none⟩ = some (.int .i64 q) := cell_of_row _ _ 1 _ _ _ KB_16.out
    have cKB2 : w15.cell? ⟨w1.heap.size, 2, none⟩ = some (.int .i64 f) := cell_of_row _ _ 2 _ _ _ KB_16.out
    have cKB3 : w15.cell? ⟨w1.heap.size, 3, none⟩ = some (.int .i64 c) := cell_of_row _ _ 3 _ _ _ KB_16.out
    have cKP0 : w15.cell? ⟨w9.heap.size, 0, none⟩ = some (.int .i64 P0) := cell_of_row _ _ 0 _ _ _ KP_16.out
    have cKP1 : w15.cell? ⟨w9.heap.size, 1, none⟩ = some (.int .i64 P1) := cell_of_row _ _ 1 _ _ _ KP_16.out
    have cKP2 : w15.cell? ⟨w9.heap.size, 2, none⟩ = some (.int .i64 P2) := cell_of_row _ _ 2 _ _ _ KP_16.out
    have cKP3 : w15.cell? ⟨w9.heap.size, 3, none⟩ = some (.int .i64 P3) := cell_of_row _ _ 3 _ _ _ KP_16.out
    have cKQ0 : w15.cell? ⟨w13.heap.size, 0, none⟩ = some (.int .i64 Q0) := cell_of_row _ _ 0 _ _ _ KQ_150.out
    have cKQ1 : w15.cell? ⟨w13.heap.size, 1, none⟩ = some (.int .i64 Q1) := cell_of_row _ _ 1 _ _ _ KQ_150.out
    have cKQ2 : w15.cell? ⟨w13.heap.size, 2, none⟩ = some (.int .i64 Q2) := cell_of_row _ _ 2 _ _ _ KQ_150.out
    have cKQ3 : w15.cell? ⟨w13.heap.size, 3, none⟩ = some (.int .i64 Q3) := cell_of_row _ _ 3 _ _ _ KQ_150.out
    go_wp2_with fail
    clear cKB0 cKB1 cKB2 cKB3 cKP0 cKP1 cKP2 cKP3 cKQ0 cKQ1 cKQ2 cKQ3 hw15
    refine (drawFill13 B zb cb _ (byts_on13 HBy.out HB_16.out)).mono ?_
    rintro e w17 ⟨ur, uq, uf, uc, ut, rfl, hc3⟩
    have KB_18 := Lib.hid ((hc3.block _ (heap_lt KB_16.out)).trans KB_16.out)
    have KP_18 := Lib.hid ((hc3.block _ (heap_lt KP_16.out)).trans KP_16.out)
    have KQ_18 := Lib.hid ((hc3.block _ (heap_lt KQ_150.out)).trans KQ_150.out)
    have HB_18 := Lib.hid (below_more HB_16.out hc3)
    clear KB_16 KP_16 KQ_150 HB_16 hc3
    obtain ⟨w19, hw19⟩ : ∃ wn, w17.alloc (.cells #[.int .i64 ur, .int .i64 uq, .int .i64 uf, .int .i64 uc] 24) = wn := ⟨_, rfl⟩
    have hbx19 : Below w17.heap.size w17 w19 := by rw [← hw19]; exact gAlloc _ _
    have KU_190 : Hid (w19.heap[w17.heap.size]? = some (.cells #[.int .i64 ur, .int .i64 uq, .int .i64 uf, .int .i64 uc] 24 (0, 0))) := by rw [← hw19]; exact heap_alloc_new _ _
    have HB_20 := Lib.hid (below_more HB_18.out hbx19)
    clear HB_18 hbx19
    have HIf := Lib.hid (fun w => iFillTo ur uq uf uc ut w)
    have HSf := Lib.hid (fun w => sFillTo ur uq uf uc ut w)
    generalize (ftL ur uq uf uc ut).1 = F0 at *
    generalize (ftL ur uq uf uc ut).2.1 = F1 at *
    generalize (ftL ur uq uf uc ut).2.2.1 = F2 at *
    generalize (ftL ur uq uf uc ut).2.2.2 = F3 at *
    generalize ftOk ur uq uf uc ut = ok2 at *
    have cKU0 : w19.cell? ⟨w17.heap.size, 0, none⟩ = some (.int .i64 ur) := cell_of_row _ _ 0 _ _ _ KU_190.out
    have cKU1 : w19.cell? ⟨w17.heap.size, 1, none⟩ = some (.int .i64 uq) := cell_of_row _ _ 1 _ _ _ KU_190.out
    have cKU2 : w19.cell? ⟨w17.heap.size, 2, none⟩ = some (.int .i64 uf) := cell_of_row _ _ 2 _ _ _ KU_190.out
    have cKU3 : w19.cell? ⟨w17.heap.size, 3, none⟩ = some (.int .i64 uc) := cell_of_row _ _ 3 _ _ _ KU_190.out
    go_wp2_with fail
    clear cKU0 cKU1 cKU2 cKU3 hw19
    refine (HIf.out _).mono ?_
    rintro e w21 ⟨rfl, hc4⟩
    have KU_22 := Lib.hid ((hc4.block _ (heap_lt KU_190.out)).trans KU_190.out)
    have HB_22 := Lib.hid (below_more HB_20.out hc4)
    clear KU_190 HB_20 hc4
    obtain ⟨w23, hw23⟩ : ∃ wn, w21.alloc (.cells #[.int .i64 F0, .int .i64 F1, .int .i64 F2, .int .i64 F3] 24) = wn := ⟨_, rfl⟩
    have hbx23 : Below w21.heap.size w21 w23 := by rw [← hw23]; exact gAlloc _ _
    have KF_230 : Hid (w23.heap[w21.heap.size]? = some (.cells #[.int .i64 F0, .int .i64 F1, .int .i64 F2, .int .i64 F3] 24 (0, 0))) := by rw [← hw23]; exact heap_alloc_new _ _
    have KU_24 := Lib.hid ((hbx23.block _ (heap_lt KU_22.out)).trans KU_22.out)
    have HB_24 := Lib.hid (below_more HB_22.out hbx23)
    clear KU_22 HB_22 hbx23
    have cKU0 : w23.cell? ⟨w17.heap.size, 0, none⟩ = some (.int .i64 ur) := cell_of_row _ _ 0 _ _ _ KU_24.out
    have cKU1 : w23.cell? ⟨w17.heap.size, 1, none⟩ = some (.int .i64 uq) := cell_of_row _ _ 1 _ _ _ KU_24.out
    have cKU2 : w23.cell? ⟨w17.heap.size, 2, none⟩ = some (.int .i64 uf) := cell_of_row _ _ 2 _ _ _ KU_24.out
    have cKU3 : w23.cell? ⟨w17.heap.size, 3, none⟩ = some (.int .i64 uc) := cell_of_row _ _ 3 _ _ _ KU_24.out
    have cKF0 : w23.cell? ⟨w21.heap.size, 0, none⟩ = some (.int .i64 F0) := cell_of_row _ _ 0 _ _ _ KF_230.out
    have cKF1 : w23.cell? ⟨w21.heap.size, 1, none⟩ = some (.int .i64 F1) := cell_of_row _ _ 1 _ _ _ KF_230.out
    have cKF2 : w23.cell? ⟨w21.heap.size, 2, none⟩ = some (.int .i64 F2) := cell_of_row _ _ 2 _ _ _ KF_230.out
    have cKF3 : w23.cell? ⟨w21.heap.size, 3, none⟩ = some (.int .i64 F3) := cell_of_row _ _ 3 _ _ _ KF_230.out
    go_wp2_with fail
    clear cKU0 cKU1 cKU2 cKU3 cKF0 cKF1 cKF2 cKF3 hw23
    refine (HSf.out _).mono ?_
    rintro e w25 ⟨rfl, hc5⟩
    have KU_26 := Lib.hid ((hc5.block _ (heap_lt KU_24.out)).trans KU_24.out)
    have KF_26 := Lib.hid ((hc5.block _ (heap_lt KF_230.out)).trans KF_230.out)
    have HB_26 := Lib.hid (below_more HB_24.out hc5)
    clear KU_24 KF_230 HB_24 hc5
    obtain ⟨w27, hw27⟩ : ∃ wn, w25.alloc (.cells #[.int .i64 F0, .int .i64 F1, .int .i64 F2, .int .i64 F3] 24) = wn := ⟨_, rfl⟩
    have hbx27 : Below w25.heap.size w25 w27 := by rw [← hw27]; exact gAlloc _ _
    have KG_270 : Hid (w27.heap[w25.heap.size]? = some (.cells #[.int .i64 F0, .int .i64 F1, .int .i64 F2, .int .i64 F3] 24 (0, 0))) := by rw [← hw27]; exact heap_alloc_new _ _
    have KU_28 := Lib.hid ((hbx27.block _ (heap_lt KU_26.out)).trans KU_26.out)
    have KF_28 := Lib.hid ((hbx27.block _ (heap_lt KF_26.out)).trans KF_26.out)
    have HB_28 := Lib.hid (below_more HB_26.out hbx27)
    clear KU_26 KF_26 HB_26 hbx27
    clear HIf HSf
    have cKF0 : w27.cell? ⟨w21.heap.size, 0, none⟩ = some (.int .i64 F0) := cell_of_row _ _ 0 _ _ _ KF_28.out
    have cKF1 : w27.cell? ⟨w21.heap.size, 1, none⟩ = some (.int .i64 F1) := cell_of_row _ _ 1 _ _ _ KF_28.out
    have cKF2 : w27.cell? ⟨w21.heap.size, 2, none⟩ = some (.int .i64 F2) := cell_of_row _ _ 2 _ _ _ KF_28.out
    have cKF3 : w27.cell? ⟨w21.heap.size, 3, none⟩ = some (.int .i64 F3) := cell_of_row _ _ 3 _ _ _ KF_28.out
    have cKG0 : w27.cell? ⟨w25.heap.size, 0, none⟩ = some (.int .i64 F0) := cell_of_row _ _ 0 _ _ _ KG_270.out
    have cKG1 : w27.cell? ⟨w25.heap.size, 1, none⟩ = some (.int .i64 F1) := cell_of_row _ _ 1 _ _ _ KG_270.out
    have cKG2 : w27.cell? ⟨w25.heap.size, 2, none⟩ = some (.int .i64 F2) := cell_of_row _ _ 2 _ _ _ KG_270.out
    have cKG3 : w27.cell? ⟨w25.heap.size, 3, none⟩ = some (.int .i64 F3) := cell_of_row _ _ 3 _ _ _ KG_270.out
    go_wp2_with fail
    clear cKF0 cKF1 cKF2 cKF3 cKG0 cKG1 cKG2 cKG3 hw27
    refine (drawTake13 B zb cb _ (byts_on13 HBy.out HB_28.out)).mono ?_
    rintro e w29 ⟨xr, xq, xf, xc, xa, xs, rfl, hc6⟩
    have KF_30 := Lib.hid ((hc6.block _ (heap_lt KF_28.out)).trans KF_28.out)
    have KG_30 := Lib.hid ((hc6.block _ (heap_lt KG_270.out)).trans KG_270.out)
    have HB_30 := Lib.hid (below_more HB_28.out hc6)
    clear KF_28 KG_270 HB_28 hc6
    obtain ⟨w31, hw31⟩ : ∃ wn, (w29.alloc (.cells #[.int .i64 xr, .int .i64 xq, .int .i64 xf, .int .i64 xc] 24)).alloc (.cells #[.int .i64 xa, .int .i64 xs] 34) = wn := ⟨_, rfl⟩
    have hbx31 : Below w29.heap.size w29 w31 := by rw [← hw31]; exact (gAlloc w29 _).alloc (by simp) _
    have KX_0 : Hid (w31.heap[w29.heap.size]? = some (.cells #[.int .i64 xr, .int .i64 xq, .int .i64 xf, .int .i64 xc] 24 (0, 0))) := by rw [← hw31, heap_alloc_old _ _ _ (by simp)]; exact heap_alloc_new _ _
    have KY_0 : Hid (w31.heap[w29.heap.size + 1]? = some (.cells #[.int .i64 xa, .int .i64 xs] 34 (0, 0))) := by rw [← hw31, show w29.heap.size + 1 = (w29.alloc (.cells #[.int .i64 xr, .int .i64 xq, .int .i64 xf, .int .i64 xc] 24)).heap.size by simp]; exact heap_alloc_new _ _
    have KF_32 := Lib.hid ((hbx31.block _ (heap_lt KF_30.out)).trans KF_30.out)
    have KG_32 := Lib.hid ((hbx31.block _ (heap_lt KG_30.out)).trans KG_30.out)
    have HB_32 := Lib.hid (below_more HB_30.out hbx31)
    clear KF_30 KG_30 HB_30 hbx31
    have HIt := Lib.hid (fun w => iTakeFrom xr xq xf xc xa xs w)
    have HSt := Lib.hid (fun w => sTakeFrom xr xq xf xc xa xs w)
    generalize (tkL xr xq xf xc xa xs).1 = T0 at *
    generalize (tkL xr xq xf xc xa xs).2.1 = T1 at *
    generalize (tkL xr xq xf xc xa xs).2.2.1 = T2 at *
    generalize (tkL xr xq xf xc xa xs).2.2.2 = T3 at *
    generalize tkOk xr xq xf xc xa xs = ok3 at *
    have cKF0 : w31.cell? ⟨w21.heap.size, 0, none⟩ = some (.int .i64 F0) := cell_of_row _ _ 0 _ _ _ KF_32.out
    have cKF1 : w31.cell? ⟨w21.heap.size, 1, none⟩ = some (.int .i64 F1) := cell_of_row _ _ 1 _ _ _ KF_32.out
    have cKF2 : w31.cell? ⟨w21.heap.size, 2, none⟩ = some (.int .i64 F2) := cell_of_row _ _ 2 _ _ _ KF_32.out
    have cKF3 : w31.cell? ⟨w21.heap.size, 3, none⟩ = some (.int .i64 F3) := cell_of_row _ _ 3 _ _ _ KF_32.out
    have cKG0 : w31.cell? ⟨w25.heap.size, 0, none⟩ = some (.int .i64 F0) := cell_of_row _ _ 0 _ _ _ KG_32.out
    have cKG1 : w31.cell? ⟨w25.heap.size, 1, none⟩ = some (.int .i64 F1) := cell_of_row _ _ 1 _ _ _ KG_32.out
    have cKG2 : w31.cell? ⟨w25.heap.size, 2, none⟩ = some (.int .i64 F2) := cell_of_row _ _ 2 _ _ _ KG_32.out
    have cKG3 : w31.cell? ⟨w25.heap.size, 3, none⟩ = some (.int .i64 F3) := cell_of_row _ _ 3 _ _ _ KG_32.out
    have cKX0 : w31.cell? ⟨w29.heap.size, 0, none⟩ = some (.int .i64 xr) := cell_of_row _ _ 0 _ _ _ KX_0.out
    have cKX1 : w31.cell? ⟨w29.heap.size, 1, none⟩ = some (.int .i64 xq) := cell_of_row _ _ 1 _ _ _ KX_0.out
    have cKX2 : w31.cell? ⟨w29.heap.size, 2, none⟩ = some (.int .i64 xf) := cell_of_row _ _ 2 _ _ _ KX_0.out
    have cKX3 : w31.cell? ⟨w29.heap.size, 3, none⟩ = some (.int .i64 xc) := cell_of_row _ _ 3 _ _ _ KX_0.out
    have cKY0 : w31.cell? ⟨w29.heap.size + 1, 0, none⟩ = some (.int .i64 xa) := cell_of_row _ _ 0 _ _ _ KY_0.out
    have cKY1 : w31.cell? ⟨w29.heap.size + 1, 1, none⟩ = some (.int .i64 xs) := cell_of_row _ _ 1 _ _ _ KY_0.out
    go_wp2_with fail
    clear cKF0 cKF1 cKF2 cKF3 cKG0 cKG1 cKG2 cKG3 cKX0 cKX1 cKX2 cKX3 cKY0 cKY1 hw31
    refine (HIt.out _).mono ?_
    rintro e w33 ⟨rfl, hc7⟩
    have KF_34 := Lib.hid ((hc7.block _ (heap_lt KF_32.out)).trans KF_32.out)
    have KG_34 := Lib.hid ((hc7.block _ (heap_lt KG_32.out)).trans KG_32.out)
    have KX_34 := Lib.hid ((hc7.block _ (heap_lt KX_0.out)).trans KX_0.out)
    have KY_34 := Lib.hid ((hc7.block _ (heap_lt KY_0.out)).trans KY_0.out)
    have HB_34 := Lib.hid (below_more HB_32.out hc7)
    clear KF_32 KG_32 KX_0 KY_0 HB_32 hc7
    obtain ⟨w35, hw35⟩ : ∃ wn, w33.alloc (.cells #[.int .i64 T0, .int .i64 T1, .int .i64 T2, .int .i64 T3] 24) = wn := ⟨_, rfl⟩
    have hbx35 : Below w33.heap.size w33 w35 := by rw [← hw35]; exact gAlloc _ _
    have KI_350 : Hid (w35.heap[w33.heap.size]? = some (.cells #[.int .i64 T0, .int .i64 T1, .int .i64 T2, .int .i64 T3] 24 (0, 0))) := by rw [← hw35]; exact heap_alloc_new _ _
    have KF_36 := Lib.hid ((hbx35.block _ (heap_lt KF_34.out)).trans KF_34.out)
    have KG_36 := Lib.hid ((hbx35.block _ (heap_lt KG_34.out)).trans KG_34.out)
    have KX_36 := Lib.hid ((hbx35.block _ (heap_lt KX_34.out)).trans KX_34.out)
    have KY_36 := Lib.hid ((hbx35.block _ (heap_lt KY_34.out)).trans KY_34.out)
    have HB_36 := Lib.hid (below_more HB_34.out hbx35)
    clear KF_34 KG_34 KX_34 KY_34 HB_34 hbx35
    have cKF0 : w35.cell? ⟨w21.heap.size, 0, none⟩ = some (.int .i64 F0) := cell_of_row _ _ 0 _ _ _ KF_36.out
    have cKF1 : w35.cell? ⟨w21.heap.size, 1, none⟩ = some (.int .i64 F1) := cell_of_row _ _ 1 _ _ _ KF_36.out
    have cKF2 : w35.cell? ⟨w21.heap.size, 2, none⟩ = some (.int .i64 F2) := cell_of_row _ _ 2 _ _ _ KF_36.out
    have cKF3 : w35.cell? ⟨w21.heap.size, 3, none⟩ = some (.int .i64 F3) := cell_of_row _ _ 3 _ _ _ KF_36.out
    have cKG0 : w35.cell? ⟨w25.heap.size, 0, none⟩ = some (.int .i64 F0) := cell_of_row _ _ 0 _ _ _ KG_36.out
    have cKG1 : w35.cell? ⟨w25.heap.size, 1, none⟩ = some (.int .i64 F1) := cell_of_row _ _ 1 _ _ _ KG_36.out
    have cKG2 : w35.cell? ⟨w25.heap.size, 2, none⟩ = some (.int .i64 F2) := cell_of_row _ _ 2 _ _ _ KG_36.out
    have cKG3 : w35.cell? ⟨w25.heap.size, 3, none⟩ = some (.int .i64 F3) := cell_of_row _ _ 3 _ _ _ KG_36.out
    have cKX0 : w35.cell? ⟨w29.heap.size, 0, none⟩ = some (.int .i64 xr) := cell_of_row _ _ 0 _ _ _ KX_36.out
    have cKX1 : w35.cell? ⟨w29.heap.size, 1, none⟩ = some (.int .i64 xq) := cell_of_row _ _ 1 _ _ _ KX_36.out
    have cKX2 : w35.cell? ⟨w29.heap.size, 2, none⟩ = some (.int .i64 xf) := cell_of_row _ _ 2 _ _ _ KX_36.out
    have cKX3 : w35.cell? ⟨w29.heap.size, 3, none⟩ = some (.int .i64 xc) := cell_of_row _ _ 3 _ _ _ KX_36.out
    have cKY0 : w35.cell? ⟨w29.heap.size + 1, 0, none⟩ = some (.int .i64 xa) := cell_of_row _ _ 0 _ _ _ KY_36.out
    have cKY1 : w35.cell? ⟨w29.heap.size + 1, 1, none⟩ = some (.int .i64 xs) := cell_of_row _ _ 1 _ _ _ KY_36.out
    have cKI0 : w35.cell? ⟨w33.heap.size, 0, none⟩ = some (.int .i64 T0) := cell_of_row _ _ 0 _ _ _ KI_350.out
    have cKI1 : w35.cell? ⟨w33.heap.size, 1, none⟩ = some (.int .i64 T1) := cell_of_row _ _ 1 _ _ _ KI_350.out
    have cKI2 : w35.cell? ⟨w33.heap.size, 2, none⟩ = some (.int .i64 T2) := cell_of_row _ _ 2 _ _ _ KI_350.out
    have cKI3 : w35.cell? ⟨w33.heap.size, 3, none⟩ = some (.int .i64 T3) := cell_of_row _ _ 3 _ _ _ KI_350.out
    go_wp2_with fail
    clear cKF0 cKF1 cKF2 cKF3 cKG0 cKG1 cKG2 cKG3 cKX0 cKX1 cKX2 cKX3 cKY0 cKY1 cKI0 cKI1 cKI2 cKI3 hw35
    refine (HSt.out _).mono ?_
    rintro e w37 ⟨rfl, hc8⟩
    have KF_38 := Lib.hid ((hc8.block _ (heap_lt KF_36.out)).trans KF_36.out)
    have KG_38 := Lib.hid ((hc8.block _ (heap_lt KG_36.out)).trans KG_36.out)
    have KX_38 := Lib.hid ((hc8.block _ (heap_lt KX_36.out)).trans KX_36.out)
    have KY_38 := Lib.hid ((hc8.block _ (heap_lt KY_36.out)).trans KY_36.out)
    have KI_38 := Lib.hid ((hc8.block _ (heap_lt KI_350.out)).trans KI_350.out)
    have HB_38 := Lib.hid (below_more HB_36.out hc8)
    clear KF_36 KG_36 KX_36 KY_36 KI_350 HB_36 hc8
    obtain ⟨w39, hw39⟩ : ∃ wn, w37.alloc (.cells #[.int .i64 T0, .int .i64 T1, .int .i64 T2, .int .i64 T3] 24) = wn := ⟨_, rfl⟩
    have hbx39 : Below w37.heap.size w37 w39 := by rw [← hw39]; exact gAlloc _ _
    have KS_390 : Hid (w39.heap[w37.heap.size]? = some (.cells #[.int .i64 T0, .int .i64 T1, .int .i64 T2, .int .i64 T3] 24 (0, 0))) := by rw [← hw39]; exact heap_alloc_new _ _
    have KF_40 := Lib.hid ((hbx39.block _ (heap_lt KF_38.out)).trans KF_38.out)
    have KG_40 := Lib.hid ((hbx39.block _ (heap_lt KG_38.out)).trans KG_38.out)
    have KX_40 := Lib.hid ((hbx39.block _ (heap_lt KX_38.out)).trans KX_38.out)
    have KY_40 := Lib.hid ((hbx39.block _ (heap_lt KY_38.out)).trans KY_38.out)
    have KI_40 := Lib.hid ((hbx39.block _ (heap_lt KI_38.out)).trans KI_38.out)
    have HB_40 := Lib.hid (below_more HB_38.out hbx39)
    clear KF_38 KG_38 KX_38 KY_38 KI_38 HB_38 hbx39
    clear HIt HSt
    have cKF0 : w39.cell? ⟨w21.heap.size, 0, none⟩ = some (.int .i64 F0) := cell_of_row _ _ 0 _ _ _ KF_40.out
    have cKF1 : w39.cell? ⟨w21.heap.size, 1, none⟩ = some (.int .i64 F1) := cell_of_row _ _ 1 _ _ _ KF_40.out
    have cKF2 : w39.cell? ⟨w21.heap.size, 2, none⟩ = some (.int .i64 F2) := cell_of_row _ _ 2 _ _ _ KF_40.out
    have cKF3 : w39.cell? ⟨w21.heap.size, 3, none⟩ = some (.int .i64 F3) := cell_of_row _ _ 3 _ _ _ KF_40.out
    have cKG0 : w39.cell? ⟨w25.heap.size, 0, none⟩ = some (.int .i64 F0) := cell_of_row _ _ 0 _ _ _ KG_40.out
    have cKG1 : w39.cell? ⟨w25.heap.size, 1, none⟩ = some (.int .i64 F1) := cell_of_row _ _ 1 _ _ _ KG_40.out
    have cKG2 : w39.cell? ⟨w25.heap.size, 2, none⟩ = some (.int .i64 F2) := cell_of_row _ _ 2 _ _ _ KG_40.out
    have cKG3 : w39.cell? ⟨w25.heap.size, 3, none⟩ = some (.int .i64 F3) := cell_of_row _ _ 3 _ _ _ KG_40.out
    have cKI0 : w39.cell? ⟨w33.heap.size, 0, none⟩ = some (.int .i64 T0) := cell_of_row _ _ 0 _ _ _ KI_40.out
    have cKI1 : w39.cell? ⟨w33.heap.size, 1, none⟩ = some (.int .i64 T1) := cell_of_row _ _ 1 _ _ _ KI_40.out
    have cKI2 : w39.cell? ⟨w33.heap.size, 2, none⟩ = some (.int .i64 T2) := cell_of_row _ _ 2 _ _ _ KI_40.out
    have cKI3 : w39.cell? ⟨w33.heap.size, 3, none⟩ = some (.int .i64 T3) := cell_of_row _ _ 3 _ _ _ KI_40.out
    have cKS0 : w39.cell? ⟨w37.heap.size, 0, none⟩ = some (.int .i64 T0) := cell_of_row _ _ 0 _ _ _ KS_390.out
    have cKS1 : w39.cell? ⟨w37.heap.size, 1, none⟩ = some (.int .i64 T1) := cell_of_row _ _ 1 _ _ _ KS_390.out
    have cKS2 : w39.cell? ⟨w37.heap.size, 2, none⟩ = some (.int .i64 T2) := cell_of_row _ _ 2 _ _ _ KS_390.out
    have cKS3 : w39.cell? ⟨w37.heap.size, 3, none⟩ = some (.int .i64 T3) := cell_of_row _ _ 3 _ _ _ KS_390.out
    go_wp2_with fail
    clear cKF0 cKF1 cKF2 cKF3 cKG0 cKG1 cKG2 cKG3 cKI0 cKI1 cKI2 cKI3 cKS0 cKS1 cKS2 cKS3 hw39
    go_ret
    exact ⟨by first | rfl | simp, HB_40.out⟩
set_option maxRecDepth 100000 in
theorem dFnFilled (A : Option Addr) (za : List Int) (ca : Nat) (B : Option Addr) (zb : List Int) (cb : Nat) (w : World) (ha : Byts w w.heap.size A za) (hb : Byts w w.heap.size B zb) (hla : za.length ≤ 140737488355328) (hlb : zb.length ≤ 140737488355328) :
    Calls Try.prog 4 #[.slice A za.length ca, .slice B zb.length cb] w fun e w' => e = .returned (.bool true) ∧ Below w.heap.size w w' := by
  by_cases hl : za.length + zb.length ≤ 1048576
  · exact fnFilled_small A za ca B zb cb w ha hb hl
  · have hli : (1048576 : Int) < (za.length : Int) + (zb.length : Int) := by omega
    clear ha hb
    go_enter Try.func4, Try.ntmps4
    go_wp2_with fail
    go_ret
    exact ⟨rfl, Below.refl _ _⟩
end Go.Proofs.Ytgakklanboabjaa
