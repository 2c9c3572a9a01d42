/-
  FnLent: who takes a lease as its own has it.
-/
import Derived.Test.YthmnenejfonfgaaBI
import Derived.Test.YthmnenejfonfgaaBH
import Derived.Test.YthmnenejfonfgaaBP
namespace Go.Proofs.Ythmnenejfonfgaa
open Go.RowKit

set_option maxRecDepth 100000 in
set_option maxHeartbeats 8000000 in
theorem fnLent_small
    (A : Option Addr) (za : List Int) (ca : Nat) (B : Option Addr) (zb : List Int) (cb : Nat) (w : World) (ha : Byts w w.heap.size A za) (hb : Byts w w.heap.size B zb) (hl : za.length + zb.length ≤ 1048576) :
    Calls Try.prog 4 #[.slice A za.length ca, .slice B zb.length cb] w fun e w' => e = .returned (.bool true) ∧ Below w.heap.size w w' := by
  have HAy := Lib.hid ha
  have HBy := Lib.hid hb
  have hli : ¬ (1048576 : Int) < (za.length : Int) + (zb.length : Int) := by omega
  have hlb : zb.length ≤ 1048576 := by omega
  clear ha hb
  go_enter Try.func4, Try.ntmps4
  go_wp2_with fail
  refine (drawBel12 A za ca _ HAy.out).mono ?_
  rintro e w1 ⟨a, u, q, t, rfl, hb1⟩
  have HB_2 := Lib.hid (hb1)
  clear  hb1
  obtain ⟨w3, hw3⟩ : ∃ wn, w1.alloc (.cells #[.int .i64 a, .int .i64 u, .int .i64 q] 26) = wn := ⟨_, rfl⟩
  have hbx3 : Below w1.heap.size w1 w3 := by rw [← hw3]; exact gAlloc _ _
  have KL_30 : Hid (w3.heap[w1.heap.size]? = some (.cells #[.int .i64 a, .int .i64 u, .int .i64 q] 26 (0, 0))) := by rw [← hw3]; exact heap_alloc_new _ _
  have HB_4 := Lib.hid (below_more HB_2.out hbx3)
  clear HB_2 hbx3
  have HIb := Lib.hid (fun w => iBelAt a u q t w)
  have HSb := Lib.hid (fun w => sBelAt a u q t w)
  have HIh := Lib.hid (fun w => iHeldAt a u q t w)
  have HSh := Lib.hid (fun w => sHeldAt a u q t w)
  have HM : Hid (blB a u q t = true → hdI a u q t = a ∧ a ≠ 0 ∧ hdOkB a u q t = true) := fun h => ⟨(bl_held h).1, (bl_held h).2, by rw [blB, Bool.and_eq_true] at h; exact h.1⟩
  generalize hdI a u q t = hv at *
  generalize hdOkB a u q t = ok at *
  generalize blB a u q t = bl at *
  have cKL0 : w3.cell? ⟨w1.heap.size, 0, none⟩ = some (.int .i64 a) := cell_of_row _ _ 0 _ _ _ KL_30.out
  have cKL1 : w3.cell? ⟨w1.heap.size, 1, none⟩ = some (.int .i64 u) := cell_of_row _ _ 1 _ _ _ KL_30.out
  have cKL2 : w3.cell? ⟨w1.heap.size, 2, none⟩ = some (.int .i64 q) := cell_of_row _ _ 2 _ _ _ KL_30.out
  go_wp2_with fail
  clear cKL0 cKL1 cKL2 hw3
  refine (HIb.out _).mono ?_
  rintro e w5 ⟨rfl, hc1⟩
  have KL_6 := Lib.hid ((hc1.block _ (heap_lt KL_30.out)).trans KL_30.out)
  have HB_6 := Lib.hid (below_more HB_4.out hc1)
  clear KL_30 HB_4 hc1
  have cKL0 : w5.cell? ⟨w1.heap.size, 0, none⟩ = some (.int .i64 a) := cell_of_row _ _ 0 _ _ _ KL_6.out
  have cKL1 : w5.cell? ⟨w1.heap.size, 1, none⟩ = some (.int .i64 u) := cell_of_row _ _ 1 _ _ _ KL_6.out
  have cKL2 : w5.cell? ⟨w1.heap.size, 2, none⟩ = some (.int .i64 q) := cell_of_row _ _ 2 _ _ _ KL_6.out
  go_wp2_with fail
  clear cKL0 cKL1 cKL2
  refine (HSb.out _).mono ?_
  rintro e w7 ⟨rfl, hc2⟩
  have KL_8 := Lib.hid ((hc2.block _ (heap_lt KL_6.out)).trans KL_6.out)
  have HB_8 := Lib.hid (below_more HB_6.out hc2)
  clear KL_6 HB_6 hc2
  have cKL0 : w7.cell? ⟨w1.heap.size, 0, none⟩ = some (.int .i64 a) := cell_of_row _ _ 0 _ _ _ KL_8.out
  have cKL1 : w7.cell? ⟨w1.heap.size, 1, none⟩ = some (.int .i64 u) := cell_of_row _ _ 1 _ _ _ KL_8.out
  have cKL2 : w7.cell? ⟨w1.heap.size, 2, none⟩ = some (.int .i64 q) := cell_of_row _ _ 2 _ _ _ KL_8.out
  go_wp2_with fail
  clear cKL0 cKL1 cKL2
  refine (HIh.out _).mono ?_
  rintro e w9 ⟨rfl, hc3⟩
  have KL_10 := Lib.hid ((hc3.block _ (heap_lt KL_8.out)).trans KL_8.out)
  have HB_10 := Lib.hid (below_more HB_8.out hc3)
  clear KL_8 HB_8 hc3
  have cKL0 : w9.cell? ⟨w1.heap.size, 0, none⟩ = some (.int .i64 a) := cell_of_row _ _ 0 _ _ _ KL_10.out
  have cKL1 : w9.cell? ⟨w1.heap.size, 1, none⟩ = some (.int .i64 u) := cell_of_row _ _ 1 _ _ _ KL_10.out
  have cKL2 : w9.cell? ⟨w1.heap.size, 2, none⟩ = some (.int .i64 q) := cell_of_row _ _ 2 _ _ _ KL_10.out
  go_wp2_with fail
  clear cKL0 cKL1 cKL2
  refine (HSh.out _).mono ?_
  rintro e w11 ⟨rfl, hc4⟩
  have KL_12 := Lib.hid ((hc4.block _ (heap_lt KL_10.out)).trans KL_10.out)
  have HB_12 := Lib.hid (below_more HB_10.out hc4)
  clear KL_10 HB_10 hc4
  clear HIb HSb HIh HSh
  cases bl
  · clear HM
    cases ok
    · have cKL0 : w11.cell? ⟨w1.heap.size, 0, none⟩ = some (.int .i64 a) := cell_of_row _ _ 0 _ _ _ KL_12.out
      have cKL1 : w11.cell? ⟨w1.heap.size, 1, none⟩ = some (.int .i64 u) := cell_of_row _ _ 1 _ _ _ KL_12.out
      have cKL2 : w11.cell? ⟨w1.heap.size, 2, none⟩ = some (.int .i64 q) := cell_of_row _ _ 2 _ _ _ KL_12.out
      go_wp2_with fail
      clear cKL0 cKL1 cKL2
      refine (drawStep12 B zb cb _ (byts_on12 HBy.out HB_12.out)).mono ?_
      rintro e w13 ⟨xa, xu, xq, k, wh, nw, lg, rfl, hc5⟩
      have KL_14 := Lib.hid ((hc5.block _ (heap_lt KL_12.out)).trans KL_12.out)
      have HB_14 := Lib.hid (below_more HB_12.out hc5)
      clear KL_12 HB_12 hc5
      obtain ⟨w15, hw15⟩ : ∃ wn, (w13.alloc (.cells #[.int .i64 xa, .int .i64 xu, .int .i64 xq] 26)).alloc (.cells #[.int .i64 k, .int .i64 wh, .int .i64 nw, .int .i64 lg] 34) = wn := ⟨_, rfl⟩
      have hbx15 : Below w13.heap.size w13 w15 := by rw [← hw15]; exact (gAlloc w13 _).alloc (by simp) _
      have KU_0 : Hid (w15.heap[w13.heap.size]? = some (.cells #[.int .i64 xa, .int .i64 xu, .int .i64 xq] 26 (0, 0))) := by rw [← hw15, heap_alloc_old _ _ _ (by simp)]; exact heap_alloc_new _ _
      have KS_0 : Hid (w15.heap[w13.heap.size + 1]? = some (.cells #[.int .i64 k, .int .i64 wh, .int .i64 nw, .int .i64 lg] 34 (0, 0))) := by rw [← hw15, show w13.heap.size + 1 = (w13.alloc (.cells #[.int .i64 xa, .int .i64 xu, .int .i64 xq] 26)).heap.size by simp]; exact heap_alloc_new _ _
      have HB_16 := Lib.hid (below_more HB_14.out hbx15)
      clear HB_14 hbx15
      have HIs := Lib.hid (fun w => iStepL xa xu xq k wh nw lg w)
      have HSs := Lib.hid (fun w => sStepL xa xu xq k wh nw lg w)
      have HN : Hid (slOk xa xu xq k wh nw lg = true → goodZB (slL xa xu xq k wh nw lg).1 (slL xa xu xq k wh nw lg).2.1 (slL xa xu xq k wh nw lg).2.2 = true) := sl_good
      generalize (slL xa xu xq k wh nw lg).1 = N at *
      generalize (slL xa xu xq k wh nw lg).2.1 = As at *
      generalize (slL xa xu xq k wh nw lg).2.2 = Su at *
      generalize slOk xa xu xq k wh nw lg = ok2 at *
      have cKU0 : w15.cell? ⟨w13.heap.size, 0, none⟩ = some (.int .i64 xa) := cell_of_row _ _ 0 _ _ _ KU_0.out
      have cKU1 : w15.cell? ⟨w13.heap.size, 1, none⟩ = some (.int .i64 xu) := cell_of_row _ _ 1 _ _ _ KU_0.out
      have cKU2 : w15.cell? ⟨w13.heap.size, 2, none⟩ = some (.int .i64 xq) := cell_of_row _ _ 2 _ _ _ KU_0.out
      have cKS0 : w15.cell? ⟨w13.heap.size + 1, 0, none⟩ = some (.int .i64 k) := cell_of_row _ _ 0 _ _ _ KS_0.out
      have cKS1 : w15.cell? ⟨w13.heap.size + 1, 1, none⟩ = some (.int .i64 wh) := cell_of_row _ _ 1 _ _ _ KS_0.out
      have cKS2 : w15.cell? ⟨w13.heap.size + 1, 2, none⟩ = some (.int .i64 nw) := cell_of_row _ _ 2 _ _ _ KS_0.out
      have cKS3 : w15.cell? ⟨w13.heap.size + 1, 3, none⟩ = some (.int .i64 lg) := cell_of_row _ _ 3 _ _ _ KS_0.out
      go_wp2_with fail
      clear cKU0 cKU1 cKU2 cKS0 cKS1 cKS2 cKS3 hw15
      refine (HIs.out _).mono ?_
      rintro e w17 ⟨rfl, hc6⟩
      have KU_18 := Lib.hid ((hc6.block _ (heap_lt KU_0.out)).trans KU_0.out)
      have KS_18 := Lib.hid ((hc6.block _ (heap_lt KS_0.out)).trans KS_0.out)
      have HB_18 := Lib.hid (below_more HB_16.out hc6)
      clear KU_0 KS_0 HB_16 hc6
      obtain ⟨w19, hw19⟩ : ∃ wn, w17.alloc (.cells #[.int .i64 N, .int .i64 As, .int .i64 Su] 26) = wn := ⟨_, rfl⟩
      have hbx19 : Below w17.heap.size w17 w19 := by rw [← hw19]; exact gAlloc _ _
      have KX_190 : Hid (w19.heap[w17.heap.size]? = some (.cells #[.int .i64 N, .int .i64 As, .int .i64 Su] 26 (0, 0))) := by rw [← hw19]; exact heap_alloc_new _ _
      have KU_20 := Lib.hid ((hbx19.block _ (heap_lt KU_18.out)).trans KU_18.out)
      have KS_20 := Lib.hid ((hbx19.block _ (heap_lt KS_18.out)).trans KS_18.out)
      have HB_20 := Lib.hid (below_more HB_18.out hbx19)
      clear KU_18 KS_18 HB_18 hbx19
      have cKU0 : w19.cell? ⟨w13.heap.size, 0, none⟩ = some (.int .i64 xa) := cell_of_row _ _ 0 _ _ _ KU_20.out
      have cKU1 : w19.cell? ⟨w13.heap.size, 1, none⟩ = some (.int .i64 xu) := cell_of_row _ _ 1 _ _ _ KU_20.out
      have cKU2 : w19.cell? ⟨w13.heap.size, 2, none⟩ = some (.int .i64 xq) := cell_of_row _ _ 2 _ _ _ KU_20.out
      have cKS0 : w19.cell? ⟨w13.heap.size + 1, 0, none⟩ = some (.int .i64 k) := cell_of_row _ _ 0 _ _ _ KS_20.out
      have cKS1 : w19.cell? ⟨w13.heap.size + 1, 1, none⟩ = some (.int .i64 wh) := cell_of_row _ _ 1 _ _ _ KS_20.out
      have cKS2 : w19.cell? ⟨w13.heap.size + 1, 2, none⟩ = some (.int .i64 nw) := cell_of_row _ _ 2 _ _ _ KS_20.out
      have cKS3 : w19.cell? ⟨w13.heap.size + 1, 3, none⟩ = some (.int .i64 lg) := cell_of_row _ _ 3 _ _ _ KS_20.out
      have cKX0 : w19.cell? ⟨w17.heap.size, 0, none⟩ = some (.int .i64 N) := cell_of_row _ _ 0 _ _ _ KX_190.out
      have cKX1 : w19.cell? ⟨w17.heap.size, 1, none⟩ = some (.int .i64 As) := cell_of_row _ _ 1 _ _ _ KX_190.out
      have cKX2 : w19.cell? ⟨w17.heap.size, 2, none⟩ = some (.int .i64 Su) := cell_of_row _ _ 2 _ _ _ KX_190.out
      go_wp2_with fail
      clear cKU0 cKU1 cKU2 cKS0 cKS1 cKS2 cKS3 cKX0 cKX1 cKX2 hw19
      refine (HSs.out _).mono ?_
      rintro e w21 ⟨rfl, hc7⟩
      have KU_22 := Lib.hid ((hc7.block _ (heap_lt KU_20.out)).trans KU_20.out)
      have KS_22 := Lib.hid ((hc7.block _ (heap_lt KS_20.out)).trans KS_20.out)
      have KX_22 := Lib.hid ((hc7.block _ (heap_lt KX_190.out)).trans KX_190.out)
      have HB_22 := Lib.hid (below_more HB_20.out hc7)
      clear KU_20 KS_20 KX_190 HB_20 hc7
      obtain ⟨w23, hw23⟩ : ∃ wn, w21.alloc (.cells #[.int .i64 N, .int .i64 As, .int .i64 Su] 26) = wn := ⟨_, rfl⟩
      have hbx23 : Below w21.heap.size w21 w23 := by rw [← hw23]; exact gAlloc _ _
      have KY_230 : Hid (w23.heap[w21.heap.size]? = some (.cells #[.int .i64 N, .int .i64 As, .int .i64 Su] 26 (0, 0))) := by rw [← hw23]; exact heap_alloc_new _ _
      have KU_24 := Lib.hid ((hbx23.block _ (heap_lt KU_22.out)).trans KU_22.out)
      have KS_24 := Lib.hid ((hbx23.block _ (heap_lt KS_22.out)).trans KS_22.out)
      have KX_24 := Lib.hid ((hbx23.block _ (heap_lt KX_22.out)).trans KX_22.out)
      have HB_24 := Lib.hid (below_more HB_22.out hbx23)
      clear KU_22 KS_22 KX_22 HB_22 hbx23
      clear HIs HSs
      have HGu := Lib.hid (fun w => iGoodL xa xu xq w)
      have HSu := Lib.hid (fun w => sGoodL xa xu xq w)
      have HGx := Lib.hid (fun w => iGoodL N As Su w)
      generalize goodZB xa xu xq = gu at *
      cases ok2
      · have cKU0 : w23.cell? ⟨w13.heap.size, 0, none⟩ = some (.int .i64 xa) := cell_of_row _ _ 0 _ _ _ KU_24.out
        have cKU1 : w23.cell? ⟨w13.heap.size, 1, none⟩ = some (.int .i64 xu) := cell_of_row _ _ 1 _ _ _ KU_24.out
        have cKU2 : w23.cell? ⟨w13.heap.size, 2, none⟩ = some (.int .i64 xq) := cell_of_row _ _ 2 _ _ _ KU_24.out
        have cKX0 : w23.cell? ⟨w17.heap.size, 0, none⟩ = some (.int .i64 N) := cell_of_row _ _ 0 _ _ _ KX_24.out
        have cKX1 : w23.cell? ⟨w17.heap.size, 1, none⟩ = some (.int .i64 As) := cell_of_row _ _ 1 _ _ _ KX_24.out
        have cKX2 : w23.cell? ⟨w17.heap.size, 2, none⟩ = some (.int .i64 Su) := cell_of_row _ _ 2 _ _ _ KX_24.out
        have cKY0 : w23.cell? ⟨w21.heap.size, 0, none⟩ = some (.int .i64 N) := cell_of_row _ _ 0 _ _ _ KY_230.out
        have cKY1 : w23.cell? ⟨w21.heap.size, 1, none⟩ = some (.int .i64 As) := cell_of_row _ _ 1 _ _ _ KY_230.out
        have cKY2 : w23.cell? ⟨w21.heap.size, 2, none⟩ = some (.int .i64 Su) := cell_of_row _ _ 2 _ _ _ KY_230.out
        have ocKU0 := on_cell cKU0
        have ocKU1 := on_cell cKU1
        have ocKU2 := on_cell cKU2
        have ocKX0 := on_cell cKX0
        have ocKX1 := on_cell cKX1
        have ocKX2 := on_cell cKX2
        have ocKY0 := on_cell cKY0
        have ocKY1 := on_cell cKY1
        have ocKY2 := on_cell cKY2
        go_wp2_with fail
        refine wp_region_on (by kernel_rfl) (by kernel_rfl) ?_
        repeat ((with_reducible refine wpQuiet_step (fun K hK => ?_)); go_simp; first | ((with_reducible refine hK _ ?_); clear hK K) | (refine ite_no (by decide) (hK _ ?_); clear hK K) | (apply Exists.intro; refine ⟨fun _ => ?_, hK _ ?_⟩; (first | (go_at_call 14; with_reducible exact on_of (HGu.out _)) | (go_at_call 26; with_reducible exact on_of (HSu.out _))); clear hK K))
        with_reducible refine wpQuiet_nil ?_
        rintro w2 ⟨⟨w2x, hb2⟩, hw2x⟩
        obtain rfl : w2 = w2x := hw2x
        clear HGu HSu cKU0 cKU1 cKU2 cKX0 cKX1 cKX2 cKY0 cKY1 cKY2 ocKU0 ocKU1 ocKU2 ocKX0 ocKX1 ocKX2 ocKY0 ocKY1 ocKY2 hw23
        have KU_25 := Lib.hid ((hb2.block _ (heap_lt KU_24.out)).trans KU_24.out)
        have KS_25 := Lib.hid ((hb2.block _ (heap_lt KS_24.out)).trans KS_24.out)
        have KX_25 := Lib.hid ((hb2.block _ (heap_lt KX_24.out)).trans KX_24.out)
        have KY_25 := Lib.hid ((hb2.block _ (heap_lt KY_230.out)).trans KY_230.out)
        have HB_25 := Lib.hid (below_more HB_24.out hb2)
        clear KU_24 KS_24 KX_24 KY_230 HB_24 hb2
        go_wp2_with fail
        go_ret
        exact ⟨rfl, HB_25.out⟩
      · rw [HN.out rfl] at HGx
        clear HN
        have cKU0 : w23.cell? ⟨w13.heap.size, 0, none⟩ = some (.int .i64 xa) := cell_of_row _ _ 0 _ _ _ KU_24.out
        have cKU1 : w23.cell? ⟨w13.heap.size, 1, none⟩ = some (.int .i64 xu) := cell_of_row _ _ 1 _ _ _ KU_24.out
        have cKU2 : w23.cell? ⟨w13.heap.size, 2, none⟩ = some (.int .i64 xq) := cell_of_row _ _ 2 _ _ _ KU_24.out
        have cKX0 : w23.cell? ⟨w17.heap.size, 0, none⟩ = some (.int .i64 N) := cell_of_row _ _ 0 _ _ _ KX_24.out
        have cKX1 : w23.cell? ⟨w17.heap.size, 1, none⟩ = some (.int .i64 As) := cell_of_row _ _ 1 _ _ _ KX_24.out
        have cKX2 : w23.cell? ⟨w17.heap.size, 2, none⟩ = some (.int .i64 Su) := cell_of_row _ _ 2 _ _ _ KX_24.out
        have cKY0 : w23.cell? ⟨w21.heap.size, 0, none⟩ = some (.int .i64 N) := cell_of_row _ _ 0 _ _ _ KY_230.out
        have cKY1 : w23.cell? ⟨w21.heap.size, 1, none⟩ = some (.int .i64 As) := cell_of_row _ _ 1 _ _ _ KY_230.out
        have cKY2 : w23.cell? ⟨w21.heap.size, 2, none⟩ = some (.int .i64 Su) := cell_of_row _ _ 2 _ _ _ KY_230.out
        have ocKU0 := on_cell cKU0
        have ocKU1 := on_cell cKU1
        have ocKU2 := on_cell cKU2
        have ocKX0 := on_cell cKX0
        have ocKX1 := on_cell cKX1
        have ocKX2 := on_cell cKX2
        have ocKY0 := on_cell cKY0
        have ocKY1 := on_cell cKY1
        have ocKY2 := on_cell cKY2
        go_wp2_with fail
        refine wp_region_on (by kernel_rfl) (by kernel_rfl) ?_
        repeat ((with_reducible refine wpQuiet_step (fun K hK => ?_)); go_simp; first | ((with_reducible refine hK _ ?_); clear hK K) | (refine ite_no (by decide) (hK _ ?_); clear hK K) | (apply Exists.intro; refine ⟨fun _ => ?_, hK _ ?_⟩; (first | (go_at_call 14; with_reducible exact on_of (HGu.out _)) | (go_at_call 26; with_reducible exact on_of (HSu.out _)) | (go_at_call 14; with_reducible exact on_of (HGx.out _))); clear hK K))
        with_reducible refine wpQuiet_nil ?_
        rintro w2 ⟨⟨w2x, hb2⟩, hw2x⟩
        obtain rfl : w2 = w2x := hw2x
        clear HGu HSu HGx cKU0 cKU1 cKU2 cKX0 cKX1 cKX2 cKY0 cKY1 cKY2 ocKU0 ocKU1 ocKU2 ocKX0 ocKX1 ocKX2 ocKY0 ocKY1 ocKY2 hw23
        have KU_25 := Lib.hid ((hb2.block _ (heap_lt KU_24.out)).trans KU_24.out)
        have KS_25 := Lib.hid ((hb2.block _ (heap_lt KS_24.out)).trans KS_24.out)
        have KX_25 := Lib.hid ((hb2.block _ (heap_lt KX_24.out)).trans KX_24.out)
        have KY_25 := Lib.hid ((hb2.block _ (heap_lt KY_230.out)).trans KY_230.out)
        have HB_25 := Lib.hid (below_more HB_24.out hb2)
        clear KU_24 KS_24 KX_24 KY_230 HB_24 hb2
        go_wp2_with fail
        go_ret
        exact ⟨rfl, HB_25.out⟩
    · have cKL0 : w11.cell? ⟨w1.heap.size, 0, none⟩ = some (.int .i64 a) := cell_of_row _ _ 0 _ _ _ KL_12.out
      have cKL1 : w11.cell? ⟨w1.heap.size, 1, none⟩ = some (.int .i64 u) := cell_of_row _ _ 1 _ _ _ KL_12.out
      have cKL2 : w11.cell? ⟨w1.heap.size, 2, none⟩ = some (.int .i64 q) := cell_of_row _ _ 2 _ _ _ KL_12.out
      go_wp2_with fail
      clear cKL0 cKL1 cKL2
      refine (drawStep12 B zb cb _ (byts_on12 HBy.out HB_12.out)).mono ?_
      rintro e w13 ⟨xa, xu, xq, k, wh, nw, lg, rfl, hc5⟩
      have KL_14 := Lib.hid ((hc5.block _ (heap_lt KL_12.out)).trans KL_12.out)
      have HB_14 := Lib.hid (below_more HB_12.out hc5)
      clear KL_12 HB_12 hc5
      obtain ⟨w15, hw15⟩ : ∃ wn, (w13.alloc (.cells #[.int .i64 xa, .int .i64 xu, .int .i64 xq] 26)).alloc (.cells #[.int .i64 k, .int .i64 wh, .int .i64 nw, .int .i64 lg] 34) = wn := ⟨_, rfl⟩
      have hbx15 : Below w13.heap.size w13 w15 := by rw [← hw15]; exact (gAlloc w13 _).alloc (by simp) _
      have KU_0 : Hid (w15.heap[w13.heap.size]? = some (.cells #[.int .i64 xa, .int .i64 xu, .int .i64 xq] 26 (0, 0))) := by rw [← hw15, heap_alloc_old _ _ _ (by simp)]; exact heap_alloc_new _ _
      have KS_0 : Hid (w15.heap[w13.heap.size + 1]? = some (.cells #[.int .i64 k, .int .i64 wh, .int .i64 nw, .int .i64 lg] 34 (0, 0))) := by rw [← hw15, show w13.heap.size + 1 = (w13.alloc (.cells #[.int .i64 xa, .int .i64 xu, .int .i64 xq] 26)).heap.size by simp]; exact heap_alloc_new _ _
      have HB_16 := Lib.hid (below_more HB_14.out hbx15)
      clear HB_14 hbx15
      have HIs := Lib.hid (fun w => iStepL xa xu xq k wh nw lg w)
      have HSs := Lib.hid (fun w => sStepL xa xu xq k wh nw lg w)
      have HN : Hid (slOk xa xu xq k wh nw lg = true → goodZB (slL xa xu xq k wh nw lg).1 (slL xa xu xq k wh nw lg).2.1 (slL xa xu xq k wh nw lg).2.2 = true) := sl_good
      generalize (slL xa xu xq k wh nw lg).1 = N at *
      generalize (slL xa xu xq k wh nw lg).2.1 = As at *
      generalize (slL xa xu xq k wh nw lg).2.2 = Su at *
      generalize slOk xa xu xq k wh nw lg = ok2 at *
      have cKU0 : w15.cell? ⟨w13.heap.size, 0, none⟩ = some (.int .i64 xa) := cell_of_row _ _ 0 _ _ _ KU_0.out
      have cKU1 : w15.cell? ⟨w13.heap.size, 1, none⟩ = some (.int .i64 xu) := cell_of_row _ _ 1 _ _ _ KU_0.out
      have cKU2 : w15.cell? ⟨w13.heap.size, 2, none⟩ = some (.int .i64 xq) := cell_of_row _ _ 2 _ _ _ KU_0.out
      have cKS0 : w15.cell? ⟨w13.heap.size + 1, 0, none⟩ = some (.int .i64 k) := cell_of_row _ _ 0 _ _ _ KS_0.out
      have cKS1 : w15.cell? ⟨w13.heap.size + 1, 1, none⟩ = some (.int .i64 wh) := cell_of_row _ _ 1 _ _ _ KS_0.out
      have cKS2 : w15.cell? ⟨w13.heap.size + 1, 2, none⟩ = some (.int .i64 nw) := cell_of_row _ _ 2 _ _ _ KS_0.out
      have cKS3 : w15.cell? ⟨w13.heap.size + 1, 3, none⟩ = some (.int .i64 lg) := cell_of_row _ _ 3 _ _ _ KS_0.out
      go_wp2_with fail
      clear cKU0 cKU1 cKU2 cKS0 cKS1 cKS2 cKS3 hw15
      refine (HIs.out _).mono ?_
      rintro e w17 ⟨rfl, hc6⟩
      have KU_18 := Lib.hid ((hc6.block _ (heap_lt KU_0.out)).trans KU_0.out)
      have KS_18 := Lib.hid ((hc6.block _ (heap_lt KS_0.out)).trans KS_0.out)
      have HB_18 := Lib.hid (below_more HB_16.out hc6)
      clear KU_0 KS_0 HB_16 hc6
      obtain ⟨w19, hw19⟩ : ∃ wn, w17.alloc (.cells #[.int .i64 N, .int .i64 As, .int .i64 Su] 26) = wn := ⟨_, rfl⟩
      have hbx19 : Below w17.heap.size w17 w19 := by rw [← hw19]; exact gAlloc _ _
      have KX_190 : Hid (w19.heap[w17.heap.size]? = some (.cells #[.int .i64 N, .int .i64 As, .int .i64 Su] 26 (0, 0))) := by rw [← hw19]; exact heap_alloc_new _ _
      have KU_20 := Lib.hid ((hbx19.block _ (heap_lt KU_18.out)).trans KU_18.out)
      have KS_20 := Lib.hid ((hbx19.block _ (heap_lt KS_18.out)).trans KS_18.out)
      have HB_20 := Lib.hid (below_more HB_18.out hbx19)
      clear KU_18 KS_18 HB_18 hbx19
      have cKU0 : w19.cell? ⟨w13.heap.size, 0, none⟩ = some (.int .i64 xa) := cell_of_row _ _ 0 _ _ _ KU_20.out
      have cKU1 : w19.cell? ⟨w13.heap.size, 1, none⟩ = some (.int .i64 xu) := cell_of_row _ _ 1 _ _ _ KU_20.out
      have cKU2 : w19.cell? ⟨w13.heap.size, 2, none⟩ = some (.int .i64 xq) := cell_of_row _ _ 2 _ _ _ KU_20.out
      have cKS0 : w19.cell? ⟨w13.heap.size + 1, 0, none⟩ = some (.int .i64 k) := cell_of_row _ _ 0 _ _ _ KS_20.out
      have cKS1 : w19.cell? ⟨w13.heap.size + 1, 1, none⟩ = some (.int .i64 wh) := cell_of_row _ _ 1 _ _ _ KS_20.out
      have cKS2 : w19.cell? ⟨w13.heap.size + 1, 2, none⟩ = some (.int .i64 nw) := cell_of_row _ _ 2 _ _ _ KS_20.out
      have cKS3 : w19.cell? ⟨w13.heap.size + 1, 3, none⟩ = some (.int .i64 lg) := cell_of_row _ _ 3 _ _ _ KS_20.out
      have cKX0 : w19.cell? ⟨w17.heap.size, 0, none⟩ = some (.int .i64 N) := cell_of_row _ _ 0 _ _ _ KX_190.out
      have cKX1 : w19.cell? ⟨w17.heap.size, 1, none⟩ = some (.int .i64 As) := cell_of_row _ _ 1 _ _ _ KX_190.out
      have cKX2 : w19.cell? ⟨w17.heap.size, 2, none⟩ = some (.int .i64 Su) := cell_of_row _ _ 2 _ _ _ KX_190.out
      go_wp2_with fail
      clear cKU0 cKU1 cKU2 cKS0 cKS1 cKS2 cKS3 cKX0 cKX1 cKX2 hw19
      refine (HSs.out _).mono ?_
      rintro e w21 ⟨rfl, hc7⟩
      have KU_22 := Lib.hid ((hc7.block _ (heap_lt KU_20.out)).trans KU_20.out)
      have KS_22 := Lib.hid ((hc7.block _ (heap_lt KS_20.out)).trans KS_20.out)
      have KX_22 := Lib.hid ((hc7.block _ (heap_lt KX_190.out)).trans KX_190.out)
      have HB_22 := Lib.hid (below_more HB_20.out hc7)
      clear KU_20 KS_20 KX_190 HB_20 hc7
      obtain ⟨w23, hw23⟩ : ∃ wn, w21.alloc (.cells #[.int .i64 N, .int .i64 As, .int .i64 Su] 26) = wn := ⟨_, rfl⟩
      have hbx23 : Below w21.heap.size w21 w23 := by rw [← hw23]; exact gAlloc _ _
      have KY_230 : Hid (w23.heap[w21.heap.size]? = some (.cells #[.int .i64 N, .int .i64 As, .int .i64 Su] 26 (0, 0))) := by rw [← hw23]; exact heap_alloc_new _ _
      have KU_24 := Lib.hid ((hbx23.block _ (heap_lt KU_22.out)).trans KU_22.out)
      have KS_24 := Lib.hid ((hbx23.block _ (heap_lt KS_22.out)).trans KS_22.out)
      have KX_24 := Lib.hid ((hbx23.block _ (heap_lt KX_22.out)).trans KX_22.out)
      have HB_24 := Lib.hid (below_more HB_22.out hbx23)
      clear KU_22 KS_22 KX_22 HB_22 hbx23
      clear HIs HSs
      have HGu := Lib.hid (fun w => iGoodL xa xu xq w)
      have HSu := Lib.hid (fun w => sGoodL xa xu xq w)
      have HGx := Lib.hid (fun w => iGoodL N As Su w)
      generalize goodZB xa xu xq = gu at *
      cases ok2
      · have cKU0 : w23.cell? ⟨w13.heap.size, 0, none⟩ = some (.int .i64 xa) := cell_of_row _ _ 0 _ _ _ KU_24.out
        have cKU1 : w23.cell? ⟨w13.heap.size, 1, none⟩ = some (.int .i64 xu) := cell_of_row _ _ 1 _ _ _ KU_24.out
        have cKU2 : w23.cell? ⟨w13.heap.size, 2, none⟩ = some (.int .i64 xq) := cell_of_row _ _ 2 _ _ _ KU_24.out
        have cKX0 : w23.cell? ⟨w17.heap.size, 0, none⟩ = some (.int .i64 N) := cell_of_row _ _ 0 _ _ _ KX_24.out
        have cKX1 : w23.cell? ⟨w17.heap.size, 1, none⟩ = some (.int .i64 As) := cell_of_row _ _ 1 _ _ _ KX_24.out
        have cKX2 : w23.cell? ⟨w17.heap.size, 2, none⟩ = some (.int .i64 Su) := cell_of_row _ _ 2 _ _ _ KX_24.out
        have cKY0 : w23.cell? ⟨w21.heap.size, 0, none⟩ = some (.int .i64 N) := cell_of_row _ _ 0 _ _ _ KY_230.out
        have cKY1 : w23.cell? ⟨w21.heap.size, 1, none⟩ = some (.int .i64 As) := cell_of_row _ _ 1 _ _ _ KY_230.out
        have cKY2 : w23.cell? ⟨w21.heap.size, 2, none⟩ = some (.int .i64 Su) := cell_of_row _ _ 2 _ _ _ KY_230.out
        have ocKU0 := on_cell cKU0
        have ocKU1 := on_cell cKU1
        have ocKU2 := on_cell cKU2
        have ocKX0 := on_cell cKX0
        have ocKX1 := on_cell cKX1
        have ocKX2 := on_cell cKX2
        have ocKY0 := on_cell cKY0
        have ocKY1 := on_cell cKY1
        have ocKY2 := on_cell cKY2
        go_wp2_with fail
        refine wp_region_on (by kernel_rfl) (by kernel_rfl) ?_
        repeat ((with_reducible refine wpQuiet_step (fun K hK => ?_)); go_simp; first | ((with_reducible refine hK _ ?_); clear hK K) | (refine ite_no (by decide) (hK _ ?_); clear hK K) | (apply Exists.intro; refine ⟨fun _ => ?_, hK _ ?_⟩; (first | (go_at_call 14; with_reducible exact on_of (HGu.out _)) | (go_at_call 26; with_reducible exact on_of (HSu.out _))); clear hK K))
        with_reducible refine wpQuiet_nil ?_
        rintro w2 ⟨⟨w2x, hb2⟩, hw2x⟩
        obtain rfl : w2 = w2x := hw2x
        clear HGu HSu cKU0 cKU1 cKU2 cKX0 cKX1 cKX2 cKY0 cKY1 cKY2 ocKU0 ocKU1 ocKU2 ocKX0 ocKX1 ocKX2 ocKY0 ocKY1 ocKY2 hw23
        have KU_25 := Lib.hid ((hb2.block _ (heap_lt KU_24.out)).trans KU_24.out)
        have KS_25 := Lib.hid ((hb2.block _ (heap_lt KS_24.out)).trans KS_24.out)
        have KX_25 := Lib.hid ((hb2.block _ (heap_lt KX_24.out)).trans KX_24.out)
        have KY_25 := Lib.hid ((hb2.block _ (heap_lt KY_230.out)).trans KY_230.out)
        have HB_25 := Lib.hid (below_more HB_24.out hb2)
        clear KU_24 KS_24 KX_24 KY_230 HB_24 hb2
        go_wp2_with fail
        go_ret
        exact ⟨rfl, HB_25.out⟩
      · rw [HN.out rfl] at HGx
        clear HN
        have cKU0 : w23.cell? ⟨w13.heap.size, 0, none⟩ = some (.int .i64 xa) := cell_of_row _ _ 0 _ _ _ KU_24.out
        have cKU1 : w23.cell? ⟨w13.heap.size, 1, none⟩ = some (.int .i64 xu) := cell_of_row _ _ 1 _ _ _ KU_24.out
        have cKU2 : w23.cell? ⟨w13.heap.size, 2, none⟩ = some (.int .i64 xq) := cell_of_row _ _ 2 _ _ _ KU_24.out
        have cKX0 : w23.cell? ⟨w17.heap.size, 0, none⟩ = some (.int .i64 N) := cell_of_row _ _ 0 _ _ _ KX_24.out
        have cKX1 : w23.cell? ⟨w17.heap.size, 1, none⟩ = some (.int .i64 As) := cell_of_row _ _ 1 _ _ _ KX_24.out
        have cKX2 : w23.cell? ⟨w17.heap.size, 2, none⟩ = some (.int .i64 Su) := cell_of_row _ _ 2 _ _ _ KX_24.out
        have cKY0 : w23.cell? ⟨w21.heap.size, 0, none⟩ = some (.int .i64 N) := cell_of_row _ _ 0 _ _ _ KY_230.out
        have cKY1 : w23.cell? ⟨w21.heap.size, 1, none⟩ = some (.int .i64 As) := cell_of_row _ _ 1 _ _ _ KY_230.out
        have cKY2 : w23.cell? ⟨w21.heap.size, 2, none⟩ = some (.int .i64 Su) := cell_of_row _ _ 2 _ _ _ KY_230.out
        have ocKU0 := on_cell cKU0
        have ocKU1 := on_cell cKU1
        have ocKU2 := on_cell cKU2
        have ocKX0 := on_cell cKX0
        have ocKX1 := on_cell cKX1
        have ocKX2 := on_cell cKX2
        have ocKY0 := on_cell cKY0
        have ocKY1 := on_cell cKY1
        have ocKY2 := on_cell cKY2
        go_wp2_with fail
        refine wp_region_on (by kernel_rfl) (by kernel_rfl) ?_
        repeat ((with_reducible refine wpQuiet_step (fun K hK => ?_)); go_simp; first | ((with_reducible refine hK _ ?_); clear hK K) | (refine ite_no (by decide) (hK _ ?_); clear hK K) | (apply Exists.intro; refine ⟨fun _ => ?_, hK _ ?_⟩; (first | (go_at_call 14; with_reducible exact on_of (HGu.out _)) | (go_at_call 26; with_reducible exact on_of (HSu.out _)) | (go_at_call 14; with_reducible exact on_of (HGx.out _))); clear hK K))
        with_reducible refine wpQuiet_nil ?_
        rintro w2 ⟨⟨w2x, hb2⟩, hw2x⟩
        obtain rfl : w2 = w2x := hw2x
        clear HGu HSu HGx cKU0 cKU1 cKU2 cKX0 cKX1 cKX2 cKY0 cKY1 cKY2 ocKU0 ocKU1 ocKU2 ocKX0 ocKX1 ocKX2 ocKY0 ocKY1 ocKY2 hw23
        have KU_25 := Lib.hid ((hb2.block _ (heap_lt KU_24.out)).trans KU_24.out)
        have KS_25 := Lib.hid ((hb2.block _ (heap_lt KS_24.out)).trans KS_24.out)
        have KX_25 := Lib.hid ((hb2.block _ (heap_lt KX_24.out)).trans KX_24.out)
        have KY_25 := Lib.hid ((hb2.block _ (heap_lt KY_230.out)).trans KY_230.out)
        have HB_25 := Lib.hid (below_more HB_24.out hb2)
        clear KU_24 KS_24 KX_24 KY_230 HB_24 hb2
        go_wp2_with fail
        go_ret
        exact ⟨rfl, HB_25.out⟩
  · obtain ⟨rfl, m1, rfl⟩ := HM.out rfl
    have m2 : (hv == 0) = false := by simpa using m1
    clear HM m1
    have cKL0 : w11.cell? ⟨w1.heap.size, 0, none⟩ = some (.int .i64 hv) := cell_of_row _ _ 0 _ _ _ KL_12.out
    have cKL1 : w11.cell? ⟨w1.heap.size, 1, none⟩ = some (.int .i64 u) := cell_of_row _ _ 1 _ _ _ KL_12.out
    have cKL2 : w11.cell? ⟨w1.heap.size, 2, none⟩ = some (.int .i64 q) := cell_of_row _ _ 2 _ _ _ KL_12.out
    go_wp2_with fail
    clear cKL0 cKL1 cKL2
    refine (drawStep12 B zb cb _ (byts_on12 HBy.out HB_12.out)).mono ?_
    rintro e w13 ⟨xa, xu, xq, k, wh, nw, lg, rfl, hc5⟩
    have KL_14 := Lib.hid ((hc5.block _ (heap_lt KL_12.out)).trans KL_12.out)
    have HB_14 := Lib.hid (below_more HB_12.out hc5)
    clear KL_12 HB_12 hc5
    obtain ⟨w15, hw15⟩ : ∃ wn, (w13.alloc (.cells #[.int .i64 xa, .int .i64 xu, .int .i64 xq] 26)).alloc (.cells #[.int .i64 k, .int .i64 wh, .int .i64 nw, .int .i64 lg] 34) = wn := ⟨_, rfl⟩
    have hbx15 : Below w13.heap.size w13 w15 := by rw [← hw15]; exact (gAlloc w13 _).alloc (by simp) _
    have KU_0 : Hid (w15.heap[w13.heap.size]? = some (.cells #[.int .i64 xa, .int .i64 xu, .int .i64 xq] 26 (0, 0))) := by rw [← hw15, heap_alloc_old _ _ _ (by simp)]; exact heap_alloc_new _ _
    have KS_0 : Hid (w15.heap[w13.heap.size + 1]? = some (.cells #[.int .i64 k, .int .i64 wh, .int .i64 nw, .int .i64 lg] 34 (0, 0))) := by rw [← hw15, show w13.heap.size + 1 = (w13.alloc (.cells #[.int .i64 xa, .int .i64 xu, .int .i64 xq] 26)).heap.size by simp]; exact heap_alloc_new _ _
    have HB_16 := Lib.hid (below_more HB_14.out hbx15)
    clear HB_14 hbx15
    have HIs := Lib.hid (fun w => iStepL xa xu xq k wh nw lg w)
    have HSs := Lib.hid (fun w => sStepL xa xu xq k wh nw lg w)
    have HN : Hid (slOk xa xu xq k wh nw lg = true → goodZB (slL xa xu xq k wh nw lg).1 (slL xa xu xq k wh nw lg).2.1 (slL xa xu xq k wh nw lg).2.2 = true) := sl_good
    generalize (slL xa xu xq k wh nw lg).1 = N at *
    generalize (slL xa xu xq k wh nw lg).2.1 = As at *
    generalize (slL xa xu xq k wh nw lg).2.2 = Su at *
    generalize slOk xa xu xq k wh nw lg = ok2 at *
    have cKU0 : w15.cell? ⟨w13.heap.size, 0, none⟩ = some (.int .i64 xa) := cell_of_row _ _ 0 _ _ _ KU_0.out
    have cKU1 : w15.cell? ⟨w13.heap.size, 1, none⟩ = some (.int .i64 xu) := cell_of_row _ _ 1 _ _ _ KU_0.out
    have cKU2 : w15.cell? ⟨w13.heap.size, 2, none⟩ = some (.int .i64 xq) := cell_of_row _ _ 2 _ _ _ KU_0.out
    have cKS0 : w15.cell? ⟨w13.heap.size + 1, 0, none⟩ = some (.int .i64 k) := cell_of_row _ _ 0 _ _ _ KS_0.out
    have cKS1 : w15.cell? ⟨w13.heap.size + 1, 1, none⟩ = some (.int .i64 wh) := cell_of_row _ _ 1 _ _ _ KS_0.out
    have cKS2 : w15.cell? ⟨w13.heap.size + 1, 2, none⟩ = some (.int .i64 nw) := cell_of_row _ _ 2 _ _ _ KS_0.out
    have cKS3 : w15.cell? ⟨w13.heap.size + 1, 3, none⟩ = some (.int .i64 lg) := cell_of_row _ _ 3 _ _ _ KS_0.out
    go_wp2_with fail
    clear cKU0 cKU1 cKU2 cKS0 cKS1 cKS2 cKS3 hw15
    refine (HIs.out _).mono ?_
    rintro e w17 ⟨rfl, hc6⟩
    have KU_18 := Lib.hid ((hc6.block _ (heap_lt KU_0.out)).trans KU_0.out)
    have KS_18 := Lib.hid ((hc6.block _ (heap_lt KS_0.out)).trans KS_0.out)
    have HB_18 := Lib.hid (below_more HB_16.out hc6)
    clear KU_0 KS_0 HB_16 hc6
    obtain ⟨w19, hw19⟩ : ∃ wn, w17.alloc (.cells #[.int .i64 N, .int .i64 As, .int .i64 Su] 26) = wn := ⟨_, rfl⟩
    have hbx19 : Below w17.heap.size w17 w19 := by rw [← hw19]; exact gAlloc _ _
    have KX_190 : Hid (w19.heap[w17.heap.size]? = some (.cells #[.int .i64 N, .int .i64 As, .int .i64 Su] 26 (0, 0))) := by rw [← hw19]; exact heap_alloc_new _ _
    have KU_20 := Lib.hid ((hbx19.block _ (heap_lt KU_18.out)).trans KU_18.out)
    have KS_20 := Lib.hid ((hbx19.block _ (heap_lt KS_18.out)).trans KS_18.out)
    have HB_20 := Lib.hid (below_more HB_18.out hbx19)
    clear KU_18 KS_18 HB_18 hbx19
    have cKU0 : w19.cell? ⟨w13.heap.size, 0, none⟩ = some (.int .i64 xa) := cell_of_row _ _ 0 _ _ _ KU_20.out
    have cKU1 : w19.cell? ⟨w13.heap.size, 1, none⟩ = some (.int .i64 xu) := cell_of_row _ _ 1 _ _ _ KU_20.out
    have cKU2 : w19.cell? ⟨w13.heap.size, 2, none⟩ = some (.int .i64 xq) := cell_of_row _ _ 2 _ _ _ KU_20.out
    have cKS0 : w19.cell? ⟨w13.heap.size + 1, 0, none⟩ = some (.int .i64 k) := cell_of_row _ _ 0 _ _ _ KS_20.out
    have cKS1 : w19.cell? ⟨w13.heap.size + 1, 1, none⟩ = some (.int .i64 wh) := cell_of_row _ _ 1 _ _ _ KS_20.out
    have cKS2 : w19.cell? ⟨w13.heap.size + 1, 2, none⟩ = some (.int .i64 nw) := cell_of_row _ _ 2 _ _ _ KS_20.out
    have cKS3 : w19.cell? ⟨w13.heap.size + 1, 3, none⟩ = some (.int .i64 lg) := cell_of_row _ _ 3 _ _ _ KS_20.out
    have cKX0 : w19.cell? ⟨w17.heap.size, 0, none⟩ = some (.int .i64 N) := cell_of_row _ _ 0 _ _ _ KX_190.out
    have cKX1 : w19.cell? ⟨w17.heap.size, 1, none⟩ = some (.int .i64 As) := cell_of_row _ _ 1 _ _ _ KX_190.out
    have cKX2 : w19.cell? ⟨w17.heap.size, 2, none⟩ = some (.int .i64 Su) := cell_of_row _ _ 2 _ _ _ KX_190.out
    go_wp2_with fail
    clear cKU0 cKU1 cKU2 cKS0 cKS1 cKS2 cKS3 cKX0 cKX1 cKX2 hw19
    refine (HSs.out _).mono ?_
    rintro e w21 ⟨rfl, hc7⟩
    have KU_22 := Lib.hid ((hc7.block _ (heap_lt KU_20.out)).trans KU_20.out)
    have KS_22 := Lib.hid ((hc7.block _ (heap_lt KS_20.out)).trans KS_20.out)
    have KX_22 := Lib.hid ((hc7.block _ (heap_lt KX_190.out)).trans KX_190.out)
    have HB_22 := Lib.hid (below_more HB_20.out hc7)
    clear KU_20 KS_20 KX_190 HB_20 hc7
    obtain ⟨w23, hw23⟩ : ∃ wn, w21.alloc (.cells #[.int .i64 N, .int .i64 As, .int .i64 Su] 26) = wn := ⟨_, rfl⟩
    have hbx23 : Below w21.heap.size w21 w23 := by rw [← hw23]; exact gAlloc _ _
    have KY_230 : Hid (w23.heap[w21.heap.size]? = some (.cells #[.int .i64 N, .int .i64 As, .int .i64 Su] 26 (0, 0))) := by rw [← hw23]; exact heap_alloc_new _ _
    have KU_24 := Lib.hid ((hbx23.block _ (heap_lt KU_22.out)).trans KU_22.out)
    have KS_24 := Lib.hid ((hbx23.block _ (heap_lt KS_22.out)).trans KS_22.out)
    have KX_24 := Lib.hid ((hbx23.block _ (heap_lt KX_22.out)).trans KX_22.out)
    have HB_24 := Lib.hid (below_more HB_22.out hbx23)
    clear KU_22 KS_22 KX_22 HB_22 hbx23
    clear HIs HSs
    have HGu := Lib.hid (fun w => iGoodL xa xu xq w)
    have HSu := Lib.hid (fun w => sGoodL xa xu xq w)
    have HGx := Lib.hid (fun w => iGoodL N As Su w)
    generalize goodZB xa xu xq = gu at *
    cases ok2
    · have cKU0 : w23.cell? ⟨w13.heap.size, 0, none⟩ = some (.int .i64 xa) := cell_of_row _ _ 0 _ _ _ KU_24.out
      have cKU1 : w23.cell? ⟨w13.heap.size, 1, none⟩ = some (.int .i64 xu) := cell_of_row _ _ 1 _ _ _ KU_24.out
      have cKU2 : w23.cell? ⟨w13.heap.size, 2, none⟩ = some (.int .i64 xq) := cell_of_row _ _ 2 _ _ _ KU_24.out
      have cKX0 : w23.cell? ⟨w17.heap.size, 0, none⟩ = some (.int .i64 N) := cell_of_row _ _ 0 _ _ _ KX_24.out
      have cKX1 : w23.cell? ⟨w17.heap.size, 1, none⟩ = some (.int .i64 As) := cell_of_row _ _ 1 _ _ _ KX_24.out
      have cKX2 : w23.cell? ⟨w17.heap.size, 2, none⟩ = some (.int .i64 Su) := cell_of_row _ _ 2 _ _ _ KX_24.out
      have cKY0 : w23.cell? ⟨w21.heap.size, 0, none⟩ = some (.int .i64 N) := cell_of_row _ _ 0 _ _ _ KY_230.out
      have cKY1 : w23.cell? ⟨w21.heap.size, 1, none⟩ = some (.int .i64 As) := cell_of_row _ _ 1 _ _ _ KY_230.out
      have cKY2 : w23.cell? ⟨w21.heap.size, 2, none⟩ = some (.int .i64 Su) := cell_of_row _ _ 2 _ _ _ KY_230.out
      have ocKU0 := on_cell cKU0
      have ocKU1 := on_cell cKU1
      have ocKU2 := on_cell cKU2
      have ocKX0 := on_cell cKX0
      have ocKX1 := on_cell cKX1
      have ocKX2 := on_cell cKX2
      have ocKY0 := on_cell cKY0
      have ocKY1 := on_cell cKY1
      have ocKY2 := on_cell cKY2
      go_wp2_with fail
      refine wp_region_on (by kernel_rfl) (by kernel_rfl) ?_
      repeat ((with_reducible refine wpQuiet_step (fun K hK => ?_)); go_simp; first | ((with_reducible refine hK _ ?_); clear hK K) | (refine ite_no (by decide) (hK _ ?_); clear hK K) | (apply Exists.intro; refine ⟨fun _ => ?_, hK _ ?_⟩; (first | (go_at_call 14; with_reducible exact on_of (HGu.out _)) | (go_at_call 26; with_reducible exact on_of (HSu.out _))); clear hK K))
      with_reducible refine wpQuiet_nil ?_
      rintro w2 ⟨⟨w2x, hb2⟩, hw2x⟩
      obtain rfl : w2 = w2x := hw2x
      clear HGu HSu cKU0 cKU1 cKU2 cKX0 cKX1 cKX2 cKY0 cKY1 cKY2 ocKU0 ocKU1 ocKU2 ocKX0 ocKX1 ocKX2 ocKY0 ocKY1 ocKY2 hw23
      have KU_25 := Lib.hid ((hb2.block _ (heap_lt KU_24.out)).trans KU_24.out)
      have KS_25 := Lib.hid ((hb2.block _ (heap_lt KS_24.out)).trans KS_24.out)
      have KX_25 := Lib.hid ((hb2.block _ (heap_lt KX_24.out)).trans KX_24.out)
      have KY_25 := Lib.hid ((hb2.block _ (heap_lt KY_230.out)).trans KY_230.out)
      have HB_25 := Lib.hid (below_more HB_24.out hb2)
      clear KU_24 KS_24 KX_24 KY_230 HB_24 hb2
      go_wp2_with fail
      go_ret
      exact ⟨rfl, HB_25.out⟩
    · rw [HN.out rfl] at HGx
      clear HN
      have cKU0 : w23.cell? ⟨w13.heap.size, 0, none⟩ = some (.int .i64 xa) := cell_of_row _ _ 0 _ _ _ KU_24.out
      have cKU1 : w23.cell? ⟨w13.heap.size, 1, none⟩ = some (.int .i64 xu) := cell_of_row _ _ 1 _ _ _ KU_24.out
      have cKU2 : w23.cell? ⟨w13.heap.size, 2, none⟩ = some (.int .i64 xq) := cell_of_row _ _ 2 _ _ _ KU_24.out
      have cKX0 : w23.cell? ⟨w17.heap.size, 0, none⟩ = some (.int .i64 N) := cell_of_row _ _ 0 _ _ _ KX_24.out
      have cKX1 : w23.cell? ⟨w17.heap.size, 1, none⟩ = some (.int .i64 As) := cell_of_row _ _ 1 _ _ _ KX_24.out
      have cKX2 : w23.cell? ⟨w17.heap.size, 2, none⟩ = some (.int .i64 Su) := cell_of_row _ _ 2 _ _ _ KX_24.out
      have cKY0 : w23.cell? ⟨w21.heap.size, 0, none⟩ = some (.int .i64 N) := cell_of_row _ _ 0 _ _ _ KY_230.out
      have cKY1 : w23.cell? ⟨w21.heap.size, 1, none⟩ = some (.int .i64 As) := cell_of_row _ _ 1 _ _ _ KY_230.out
      have cKY2 : w23.cell? ⟨w21.heap.size, 2, none⟩ = some (.int .i64 Su) := cell_of_row _ _ 2 _ _ _ KY_230.out
      have ocKU0 := on_cell cKU0
      have ocKU1 := on_cell cKU1
      have ocKU2 := on_cell cKU2
      have ocKX0 := on_cell cKX0
      have ocKX1 := on_cell cKX1
      have ocKX2 := on_cell cKX2
      have ocKY0 := on_cell cKY0
      have ocKY1 := on_cell cKY1
      have ocKY2 := on_cell cKY2
      go_wp2_with fail
      refine wp_region_on (by kernel_rfl) (by kernel_rfl) ?_
      repeat ((with_reducible refine wpQuiet_step (fun K hK => ?_)); go_simp; first | ((with_reducible refine hK _ ?_); clear hK K) | (refine ite_no (by decide) (hK _ ?_); clear hK K) | (apply Exists.intro; refine ⟨fun _ => ?_, hK _ ?_⟩; (first | (go_at_call 14; with_reducible exact on_of (HGu.out _)) | (go_at_call 26; with_reducible exact on_of (HSu.out _)) | (go_at_call 14; with_reducible exact on_of (HGx.out _))); clear hK K))
      with_reducible refine wpQuiet_nil ?_
      rintro w2 ⟨⟨w2x, hb2⟩, hw2x⟩
      obtain rfl : w2 = w2x := hw2x
      clear HGu HSu HGx cKU0 cKU1 cKU2 cKX0 cKX1 cKX2 cKY0 cKY1 cKY2 ocKU0 ocKU1 ocKU2 ocKX0 ocKX1 ocKX2 ocKY0 ocKY1 ocKY2 hw23
      have KU_25 := Lib.hid ((hb2.block _ (heap_lt KU_24.out)).trans KU_24.out)
      have KS_25 := Lib.hid ((hb2.block _ (heap_lt KS_24.out)).trans KS_24.out)
      have KX_25 := Lib.hid ((hb2.block _ (heap_lt KX_24.out)).trans KX_24.out)
      have KY_25 := Lib.hid ((hb2.block _ (heap_lt KY_230.out)).trans KY_230.out)
      have HB_25 := Lib.hid (below_more HB_24.out hb2)
      clear KU_24 KS_24 KX_24 KY_230 HB_24 hb2
      go_wp2_with fail
      go_ret
      exact ⟨rfl, HB_25.out⟩
end Go.Proofs.Ythmnenejfonfgaa
