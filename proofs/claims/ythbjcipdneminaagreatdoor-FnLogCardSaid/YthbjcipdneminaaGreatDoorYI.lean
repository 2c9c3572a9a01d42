/-
  FnLog walked over the program's own contracts.
-/
import Derived.Test.YthbjcipdneminaaGreatDoorGR
import Derived.Test.YthbjcipdneminaaGreatDoorGS
import Derived.Test.YthbjcipdneminaaGreatDoorYH
namespace Go.Proofs.YthbjcipdneminaaGreatDoor
open Go.RowKit

set_option maxRecDepth 100000 in
set_option maxHeartbeats 8000000 in
theorem fnLog_small (A : Option Addr) (za : List Int) (ca : Nat) (B : Option Addr) (zb : List Int) (cb : Nat) (w : World) (hw : ESyn w) (ha : Byts w w.heap.size A za) (hb : Byts w w.heap.size B zb) (hl : za.length + zb.length ≤ 1048576) :
    Calls Tryz.prog 3 #[.slice A za.length ca, .slice B zb.length cb] w fun e w' => e = .returned (.bool true) ∧ Below w.heap.size w w' := by
  have HAy := Lib.hid ha
  have HBy := Lib.hid hb
  have HW := Lib.hid hw
  have hli : ¬ (1048576 : Int) < (za.length : Int) + (zb.length : Int) := by omega
  clear ha hb hw
  go_enter Tryz.func3, Tryz.ntmps3
  go_wp2_with fail
  refine (drawCrash10 A za ca _ HAy.out).mono ?_
  rintro e w1 ⟨vd0, vd1, vk, ss, ps, ks, torn, bb, rfl, hdr, hok, hkl, hto0, hto1, hbb0, hbb1⟩
  obtain ⟨A1, E1, c1, d1, rfl, rfl, hD, hlA, hlE, hld, hb1⟩ := drew_in hdr
  obtain ⟨A3, c3, rfl, hI3⟩ := hok.form
  clear hdr hok
  have HD_0 := Lib.hid hD
  have HI_0 := Lib.hid hI3
  have HK_0 := Lib.hid HW.out
  have HLA := Lib.hid hlA
  have HLE := Lib.hid hlE
  have HTo := Lib.hid (⟨hto0, hto1, hbb0, hbb1⟩ : -1 ≤ torn ∧ torn ≤ 41 ∧ 0 ≤ bb ∧ bb ≤ 17)
  clear hD hlA hlE hI3 hto0 hto1 hbb0 hbb1
  have HK_1 := Lib.hid (esyn_stays _ _ HK_0.out hb1)
  have HB_1 := Lib.hid (hb1)
  clear HK_0
  clear hb1
  obtain ⟨w2, hw2⟩ : ∃ wn, w1.alloc (.cells #[.slice A1 ss.length c1, .slice E1 ps.length d1] 26) = wn := ⟨_, rfl⟩
  have hbx2 : Below w1.heap.size w1 w2 := by rw [← hw2]; exact gAlloc _ _
  have KD_20 : Hid (w2.heap[w1.heap.size]? = some (.cells #[.slice A1 ss.length c1, .slice E1 ps.length d1] 26 (0, 0))) := by rw [← hw2]; exact heap_alloc_new _ _
  have HK_3 := Lib.hid (esyn_stays _ _ HK_1.out hbx2)
  have HD_3 := Lib.hid (HD_0.out.below hbx2)
  have HI_3 := Lib.hid (HI_0.out.below hbx2)
  have HB_3 := Lib.hid (below_more HB_1.out hbx2)
  clear HK_1 HD_0 HI_0 HB_1 hbx2
  have hcl := cl_len ss ps ks torn bb
  have HNo := Lib.hid (fun j h => clI_no (ss := ss) (ps := ps) (ks := ks) (torn := torn) (b := bb) (j := j) h)
  have HG : Hid (crOkB ss ps ks torn bb = true → goodDB ss ps = true) := fun h => cl_good h
  have HIC := Lib.hid (fun w hk hd hc => iCrashLog_any A1 E1 A3 ss ps ks c1 d1 c3 torn bb w hk hd HLA.out hc (by omega))
  have HSC := Lib.hid (fun w hd hc => sCrashLog_any A1 E1 A3 ss ps ks c1 d1 c3 torn bb w hd HLA.out hc (by omega))
  generalize crOkB ss ps ks torn bb = ok at *
  generalize clI ss ps ks torn bb = L at *
  have cKD0 : w2.cell? ⟨w1.heap.size, 0, none⟩ = some (.slice A1 ss.length c1) := cell_of_row _ _ 0 _ _ _ KD_20.out
  have cKD1 : w2.cell? ⟨w1.heap.size, 1, none⟩ = some (.slice E1 ps.length d1) := cell_of_row _ _ 1 _ _ _ KD_20.out
  go_wp2_with fail
  clear hw2
  clear cKD0 cKD1
  refine (HIC.out _ HK_3.out HD_3.out HI_3.out).mono ?_
  rintro e w4 ⟨v4, rfl, ho4, hb4⟩
  obtain ⟨A4, c4, rfl, -, hr4⟩ := ho4.form fRe_len
  have HL4_0 := Lib.hid hr4
  clear ho4 hr4
  have HK_5 := Lib.hid (esyn_stays _ _ HK_3.out hb4)
  have HD_5 := Lib.hid (HD_3.out.below hb4)
  have HI_5 := Lib.hid (HI_3.out.below hb4)
  have KD_5 := Lib.hid ((hb4.block _ (heap_lt KD_20.out)).trans KD_20.out)
  have HB_5 := Lib.hid (below_more HB_3.out hb4)
  clear HK_3 HD_3 HI_3 KD_20 HB_3 hb4
  have cKD0 : w4.cell? ⟨w1.heap.size, 0, none⟩ = some (.slice A1 ss.length c1) := cell_of_row _ _ 0 _ _ _ KD_5.out
  have cKD1 : w4.cell? ⟨w1.heap.size, 1, none⟩ = some (.slice E1 ps.length d1) := cell_of_row _ _ 1 _ _ _ KD_5.out
  go_wp2_with fail
  clear cKD0 cKD1
  refine (HSC.out _ HD_5.out HI_5.out).mono ?_
  rintro e w6 ⟨v5, rfl, ho5, hb5⟩
  obtain ⟨A5, c5, rfl, -, hr5⟩ := ho5.form fRe_len
  have HL5_0 := Lib.hid hr5
  clear ho5 hr5
  have HK_7 := Lib.hid (esyn_stays _ _ HK_5.out hb5)
  have HD_7 := Lib.hid (HD_5.out.below hb5)
  have HI_7 := Lib.hid (HI_5.out.below hb5)
  have KD_7 := Lib.hid ((hb5.block _ (heap_lt KD_5.out)).trans KD_5.out)
  have HL4_7 := Lib.hid (HL4_0.out.below hb5)
  have HB_7 := Lib.hid (below_more HB_5.out hb5)
  clear HK_5 HD_5 HI_5 KD_5 HL4_0 HB_5 hb5
  clear HIC HSC
  have cKD0 : w6.cell? ⟨w1.heap.size, 0, none⟩ = some (.slice A1 ss.length c1) := cell_of_row _ _ 0 _ _ _ KD_7.out
  have cKD1 : w6.cell? ⟨w1.heap.size, 1, none⟩ = some (.slice E1 ps.length d1) := cell_of_row _ _ 1 _ _ _ KD_7.out
  go_wp2_with fail
  clear cKD0 cKD1
  refine (sameRe_self A4 A5 L c4 c5 _ HL4_7.out HL5_0.out (by omega)).mono ?_
  rintro e w8 ⟨rfl, n6, hd6⟩
  have hb6 : Below w6.heap.size w6 w8 := by rw [hd6]; exact gDrewN _
  clear hd6
  have HK_9 := Lib.hid (esyn_stays _ _ HK_7.out hb6)
  have HD_9 := Lib.hid (HD_7.out.below hb6)
  have KD_9 := Lib.hid ((hb6.block _ (heap_lt KD_7.out)).trans KD_7.out)
  have HL4_9 := Lib.hid (HL4_7.out.below hb6)
  have HL5_9 := Lib.hid (HL5_0.out.below hb6)
  have HB_9 := Lib.hid (below_more HB_7.out hb6)
  clear HK_7 HD_7 KD_7 HL4_7 HL5_0 HB_7 hb6
  cases ok
  · clear HNo HG
    go_wp2_with fail
    refine (drawRecText10 B zb cb _ (byts_on9 HBy.out HB_9.out)).mono ?_
    rintro e w10 ⟨⟨r1, r2, r3, r4⟩, rfl, hbr⟩
    have HK_11 := Lib.hid (esyn_stays _ _ HK_9.out hbr)
    have HB_11 := Lib.hid (below_more HB_9.out hbr)
    clear HK_9 HB_9 hbr
    obtain ⟨w12, hw12⟩ : ∃ wn, w10.alloc (.cells #[.int .i64 r1, .int .i64 r2, .int .i64 r3, .int .i64 r4] 38) = wn := ⟨_, rfl⟩
    have hbx12 : Below w10.heap.size w10 w12 := by rw [← hw12]; exact gAlloc _ _
    have KR_120 : Hid (w12.heap[w10.heap.size]? = some (.cells #[.int .i64 r1, .int .i64 r2, .int .i64 r3, .int .i64 r4] 38 (0, 0))) := by rw [← hw12]; exact heap_alloc_new _ _
    have HK_13 := Lib.hid (esyn_stays _ _ HK_11.out hbx12)
    have HB_13 := Lib.hid (below_more HB_11.out hbx12)
    clear HK_11 HB_11 hbx12
    have HRT := Lib.hid (fun h => rr_tx (r := (r1, r2, r3, r4)) h)
    have HRI : Hid (reOkB (r1, r2, r3, r4) = true → rtI (r1, r2, r3, r4) = txR (r1, r2, r3, r4)) := fun h => by rw [rtI, if_pos h]
    have HTS := Lib.hid (txR_size (r1, r2, r3, r4))
    have HIT := Lib.hid (fun w => iRecText_any (r1, r2, r3, r4) w)
    have HST := Lib.hid (fun w => sRecText_any (r1, r2, r3, r4) w)
    generalize rtI (r1, r2, r3, r4) = T at *
    generalize txR (r1, r2, r3, r4) = X at *
    generalize reOkB (r1, r2, r3, r4) = rb at *
    have cKR0 : w12.cell? ⟨w10.heap.size, 0, none⟩ = some (.int .i64 r1) := cell_of_row _ _ 0 _ _ _ KR_120.out
    have cKR1 : w12.cell? ⟨w10.heap.size, 1, none⟩ = some (.int .i64 r2) := cell_of_row _ _ 1 _ _ _ KR_120.out
    have cKR2 : w12.cell? ⟨w10.heap.size, 2, none⟩ = some (.int .i64 r3) := cell_of_row _ _ 2 _ _ _ KR_120.out
    have cKR3 : w12.cell? ⟨w10.heap.size, 3, none⟩ = some (.int .i64 r4) := cell_of_row _ _ 3 _ _ _ KR_120.out
    go_wp2_with fail
    clear hw12
    clear cKR0 cKR1 cKR2 cKR3
    refine (HIT.out _).mono ?_
    rintro e w14 ⟨rfl, hbt⟩
    have HK_15 := Lib.hid (esyn_stays _ _ HK_13.out hbt)
    have KR_15 := Lib.hid ((hbt.block _ (heap_lt KR_120.out)).trans KR_120.out)
    have HB_15 := Lib.hid (below_more HB_13.out hbt)
    clear HK_13 KR_120 HB_13 hbt
    have cKR0 : w14.cell? ⟨w10.heap.size, 0, none⟩ = some (.int .i64 r1) := cell_of_row _ _ 0 _ _ _ KR_15.out
    have cKR1 : w14.cell? ⟨w10.heap.size, 1, none⟩ = some (.int .i64 r2) := cell_of_row _ _ 1 _ _ _ KR_15.out
    have cKR2 : w14.cell? ⟨w10.heap.size, 2, none⟩ = some (.int .i64 r3) := cell_of_row _ _ 2 _ _ _ KR_15.out
    have cKR3 : w14.cell? ⟨w10.heap.size, 3, none⟩ = some (.int .i64 r4) := cell_of_row _ _ 3 _ _ _ KR_15.out
    go_wp2_with fail
    clear cKR0 cKR1 cKR2 cKR3
    refine (HST.out _).mono ?_
    rintro e w16 ⟨rfl, hbs⟩
    have HK_17 := Lib.hid (esyn_stays _ _ HK_15.out hbs)
    have KR_17 := Lib.hid ((hbs.block _ (heap_lt KR_15.out)).trans KR_15.out)
    have HB_17 := Lib.hid (below_more HB_15.out hbs)
    clear HK_15 KR_15 HB_15 hbs
    have cKR0 : w16.cell? ⟨w10.heap.size, 0, none⟩ = some (.int .i64 r1) := cell_of_row _ _ 0 _ _ _ KR_17.out
    have cKR1 : w16.cell? ⟨w10.heap.size, 1, none⟩ = some (.int .i64 r2) := cell_of_row _ _ 1 _ _ _ KR_17.out
    have cKR2 : w16.cell? ⟨w10.heap.size, 2, none⟩ = some (.int .i64 r3) := cell_of_row _ _ 2 _ _ _ KR_17.out
    have cKR3 : w16.cell? ⟨w10.heap.size, 3, none⟩ = some (.int .i64 r4) := cell_of_row _ _ 3 _ _ _ KR_17.out
    go_wp2_with fail
    clear cKR0 cKR1 cKR2 cKR3
    refine (drawReadRec10 B zb cb _ (byts_on9 HBy.out HB_17.out)).mono ?_
    rintro e w18 ⟨u, rfl, hu, hbu⟩
    have HK_19 := Lib.hid (esyn_stays _ _ HK_17.out hbu)
    have KR_19 := Lib.hid ((hbu.block _ (heap_lt KR_17.out)).trans KR_17.out)
    have HB_19 := Lib.hid (below_more HB_17.out hbu)
    clear HK_17 KR_17 HB_17 hbu
    have HTR := Lib.hid (fun h => tx_rr (s := u) h)
    have HIR := Lib.hid (fun w hk => iReadRec_any u w hk)
    have HSR := Lib.hid (fun w => sReadRec_any u w)
    obtain ⟨⟨q1, q2, q3, q4⟩, hq⟩ : ∃ q, rrI u = q := ⟨_, rfl⟩
    rw [hq] at HTR HIR HSR
    clear hq
    generalize rrOkB u = ub at *
    have cKR0 : w18.cell? ⟨w10.heap.size, 0, none⟩ = some (.int .i64 r1) := cell_of_row _ _ 0 _ _ _ KR_19.out
    have cKR1 : w18.cell? ⟨w10.heap.size, 1, none⟩ = some (.int .i64 r2) := cell_of_row _ _ 1 _ _ _ KR_19.out
    have cKR2 : w18.cell? ⟨w10.heap.size, 2, none⟩ = some (.int .i64 r3) := cell_of_row _ _ 2 _ _ _ KR_19.out
    have cKR3 : w18.cell? ⟨w10.heap.size, 3, none⟩ = some (.int .i64 r4) := cell_of_row _ _ 3 _ _ _ KR_19.out
    go_wp2_with fail
    clear cKR0 cKR1 cKR2 cKR3
    refine (HIR.out _ HK_19.out).mono ?_
    rintro e w20 ⟨rfl, hbi⟩
    have HK_21 := Lib.hid (esyn_stays _ _ HK_19.out hbi)
    have KR_21 := Lib.hid ((hbi.block _ (heap_lt KR_19.out)).trans KR_19.out)
    have HB_21 := Lib.hid (below_more HB_19.out hbi)
    clear HK_19 KR_19 HB_19 hbi
    obtain ⟨w22, hw22⟩ : ∃ wn, w20.alloc (.cells #[.int .i64 q1, .int .i64 q2, .int .i64 q3, .int .i64 q4] 38) = wn := ⟨_, rfl⟩
    have hbx22 : Below w20.heap.size w20 w22 := by rw [← hw22]; exact gAlloc _ _
    have KQ_220 : Hid (w22.heap[w20.heap.size]? = some (.cells #[.int .i64 q1, .int .i64 q2, .int .i64 q3, .int .i64 q4] 38 (0, 0))) := by rw [← hw22]; exact heap_alloc_new _ _
    have HK_23 := Lib.hid (esyn_stays _ _ HK_21.out hbx22)
    have KR_23 := Lib.hid ((hbx22.block _ (heap_lt KR_21.out)).trans KR_21.out)
    have HB_23 := Lib.hid (below_more HB_21.out hbx22)
    clear HK_21 KR_21 HB_21 hbx22
    have cKR0 : w22.cell? ⟨w10.heap.size, 0, none⟩ = some (.int .i64 r1) := cell_of_row _ _ 0 _ _ _ KR_23.out
    have cKR1 : w22.cell? ⟨w10.heap.size, 1, none⟩ = some (.int .i64 r2) := cell_of_row _ _ 1 _ _ _ KR_23.out
    have cKR2 : w22.cell? ⟨w10.heap.size, 2, none⟩ = some (.int .i64 r3) := cell_of_row _ _ 2 _ _ _ KR_23.out
    have cKR3 : w22.cell? ⟨w10.heap.size, 3, none⟩ = some (.int .i64 r4) := cell_of_row _ _ 3 _ _ _ KR_23.out
    have cKQ0 : w22.cell? ⟨w20.heap.size, 0, none⟩ = some (.int .i64 q1) := cell_of_row _ _ 0 _ _ _ KQ_220.out
    have cKQ1 : w22.cell? ⟨w20.heap.size, 1, none⟩ = some (.int .i64 q2) := cell_of_row _ _ 1 _ _ _ KQ_220.out
    have cKQ2 : w22.cell? ⟨w20.heap.size, 2, none⟩ = some (.int .i64 q3) := cell_of_row _ _ 2 _ _ _ KQ_220.out
    have cKQ3 : w22.cell? ⟨w20.heap.size, 3, none⟩ = some (.int .i64 q4) := cell_of_row _ _ 3 _ _ _ KQ_220.out
    go_wp2_with fail
    clear hw22
    clear cKR0 cKR1 cKR2 cKR3 cKQ0 cKQ1 cKQ2 cKQ3
    refine (HSR.out _).mono ?_
    rintro e w24 ⟨rfl, hbj⟩
    have HK_25 := Lib.hid (esyn_stays _ _ HK_23.out hbj)
    have KR_25 := Lib.hid ((hbj.block _ (heap_lt KR_23.out)).trans KR_23.out)
    have KQ_25 := Lib.hid ((hbj.block _ (heap_lt KQ_220.out)).trans KQ_220.out)
    have HB_25 := Lib.hid (below_more HB_23.out hbj)
    clear HK_23 KR_23 KQ_220 HB_23 hbj
    obtain ⟨w26, hw26⟩ : ∃ wn, w24.alloc (.cells #[.int .i64 q1, .int .i64 q2, .int .i64 q3, .int .i64 q4] 38) = wn := ⟨_, rfl⟩
    have hbx26 : Below w24.heap.size w24 w26 := by rw [← hw26]; exact gAlloc _ _
    have KP_260 : Hid (w26.heap[w24.heap.size]? = some (.cells #[.int .i64 q1, .int .i64 q2, .int .i64 q3, .int .i64 q4] 38 (0, 0))) := by rw [← hw26]; exact heap_alloc_new _ _
    have HK_27 := Lib.hid (esyn_stays _ _ HK_25.out hbx26)
    have KR_27 := Lib.hid ((hbx26.block _ (heap_lt KR_25.out)).trans KR_25.out)
    have KQ_27 := Lib.hid ((hbx26.block _ (heap_lt KQ_25.out)).trans KQ_25.out)
    have HB_27 := Lib.hid (below_more HB_25.out hbx26)
    clear HK_25 KR_25 KQ_25 HB_25 hbx26
    clear HIT HST HIR HSR
    cases rb
    · clear HRT HRI HTS
      cases ub
      · have cKR0 : w26.cell? ⟨w10.heap.size, 0, none⟩ = some (.int .i64 r1) := cell_of_row _ _ 0 _ _ _ KR_27.out
        have cKR1 : w26.cell? ⟨w10.heap.size, 1, none⟩ = some (.int .i64 r2) := cell_of_row _ _ 1 _ _ _ KR_27.out
        have cKR2 : w26.cell? ⟨w10.heap.size, 2, none⟩ = some (.int .i64 r3) := cell_of_row _ _ 2 _ _ _ KR_27.out
        have cKR3 : w26.cell? ⟨w10.heap.size, 3, none⟩ = some (.int .i64 r4) := cell_of_row _ _ 3 _ _ _ KR_27.out
        have cKQ0 : w26.cell? ⟨w20.heap.size, 0, none⟩ = some (.int .i64 q1) := cell_of_row _ _ 0 _ _ _ KQ_27.out
        have cKQ1 : w26.cell? ⟨w20.heap.size, 1, none⟩ = some (.int .i64 q2) := cell_of_row _ _ 1 _ _ _ KQ_27.out
        have cKQ2 : w26.cell? ⟨w20.heap.size, 2, none⟩ = some (.int .i64 q3) := cell_of_row _ _ 2 _ _ _ KQ_27.out
        have cKQ3 : w26.cell? ⟨w20.heap.size, 3, none⟩ = some (.int .i64 q4) := cell_of_row _ _ 3 _ _ _ KQ_27.out
        have cKP0 : w26.cell? ⟨w24.heap.size, 0, none⟩ = some (.int .i64 q1) := cell_of_row _ _ 0 _ _ _ KP_260.out
        have cKP1 : w26.cell? ⟨w24.heap.size, 1, none⟩ = some (.int .i64 q2) := cell_of_row _ _ 1 _ _ _ KP_260.out
        have cKP2 : w26.cell? ⟨w24.heap.size, 2, none⟩ = some (.int .i64 q3) := cell_of_row _ _ 2 _ _ _ KP_260.out
        have cKP3 : w26.cell? ⟨w24.heap.size, 3, none⟩ = some (.int .i64 q4) := cell_of_row _ _ 3 _ _ _ KP_260.out
        go_wp2_with fail
        go_ret
        exact ⟨rfl, HB_27.out⟩
      · have HIQ := Lib.hid (fun w => iRecText_any (q1, q2, q3, q4) w)
        rw [(HTR.out rfl).1, (HTR.out rfl).2] at HIQ
        clear HTR
        have cKR0 : w26.cell? ⟨w10.heap.size, 0, none⟩ = some (.int .i64 r1) := cell_of_row _ _ 0 _ _ _ KR_27.out
        have cKR1 : w26.cell? ⟨w10.heap.size, 1, none⟩ = some (.int .i64 r2) := cell_of_row _ _ 1 _ _ _ KR_27.out
        have cKR2 : w26.cell? ⟨w10.heap.size, 2, none⟩ = some (.int .i64 r3) := cell_of_row _ _ 2 _ _ _ KR_27.out
        have cKR3 : w26.cell? ⟨w10.heap.size, 3, none⟩ = some (.int .i64 r4) := cell_of_row _ _ 3 _ _ _ KR_27.out
        have cKQ0 : w26.cell? ⟨w20.heap.size, 0, none⟩ = some (.int .i64 q1) := cell_of_row _ _ 0 _ _ _ KQ_27.out
        have cKQ1 : w26.cell? ⟨w20.heap.size, 1, none⟩ = some (.int .i64 q2) := cell_of_row _ _ 1 _ _ _ KQ_27.out
        have cKQ2 : w26.cell? ⟨w20.heap.size, 2, none⟩ = some (.int .i64 q3) := cell_of_row _ _ 2 _ _ _ KQ_27.out
        have cKQ3 : w26.cell? ⟨w20.heap.size, 3, none⟩ = some (.int .i64 q4) := cell_of_row _ _ 3 _ _ _ KQ_27.out
        have cKP0 : w26.cell? ⟨w24.heap.size, 0, none⟩ = some (.int .i64 q1) := cell_of_row _ _ 0 _ _ _ KP_260.out
        have cKP1 : w26.cell? ⟨w24.heap.size, 1, none⟩ = some (.int .i64 q2) := cell_of_row _ _ 1 _ _ _ KP_260.out
        have cKP2 : w26.cell? ⟨w24.heap.size, 2, none⟩ = some (.int .i64 q3) := cell_of_row _ _ 2 _ _ _ KP_260.out
        have cKP3 : w26.cell? ⟨w24.heap.size, 3, none⟩ = some (.int .i64 q4) := cell_of_row _ _ 3 _ _ _ KP_260.out
        go_wp2_with fail
        refine (HIQ.out _).mono ?_
        rintro e wz ⟨rfl, hbz⟩
        have HBz := Lib.hid (below_more HB_27.out hbz)
        clear hbz
        go_wp2_with fail
        go_ret
        exact ⟨rfl, HBz.out⟩
    · obtain ⟨hrt1, hrt2⟩ := HRT.out rfl
      have hTX := HRI.out rfl
      rw [← hTX] at hrt1 hrt2 HTS
      have HIB := Lib.hid (fun w hk => iReadRec_any T w hk)
      rw [hrt1, hrt2] at HIB
      have hT16 : ((T.size : Int) != 16) = false := by rw [HTS.out]; rfl
      clear HRT HRI HTS hrt1 hrt2 hTX
      have cKR0 : w26.cell? ⟨w10.heap.size, 0, none⟩ = some (.int .i64 r1) := cell_of_row _ _ 0 _ _ _ KR_27.out
      have cKR1 : w26.cell? ⟨w10.heap.size, 1, none⟩ = some (.int .i64 r2) := cell_of_row _ _ 1 _ _ _ KR_27.out
      have cKR2 : w26.cell? ⟨w10.heap.size, 2, none⟩ = some (.int .i64 r3) := cell_of_row _ _ 2 _ _ _ KR_27.out
      have cKR3 : w26.cell? ⟨w10.heap.size, 3, none⟩ = some (.int .i64 r4) := cell_of_row _ _ 3 _ _ _ KR_27.out
      have cKQ0 : w26.cell? ⟨w20.heap.size, 0, none⟩ = some (.int .i64 q1) := cell_of_row _ _ 0 _ _ _ KQ_27.out
      have cKQ1 : w26.cell? ⟨w20.heap.size, 1, none⟩ = some (.int .i64 q2) := cell_of_row _ _ 1 _ _ _ KQ_27.out
      have cKQ2 : w26.cell? ⟨w20.heap.size, 2, none⟩ = some (.int .i64 q3) := cell_of_row _ _ 2 _ _ _ KQ_27.out
      have cKQ3 : w26.cell? ⟨w20.heap.size, 3, none⟩ = some (.int .i64 q4) := cell_of_row _ _ 3 _ _ _ KQ_27.out
      have cKP0 : w26.cell? ⟨w24.heap.size, 0, none⟩ = some (.int .i64 q1) := cell_of_row _ _ 0 _ _ _ KP_260.out
      have cKP1 : w26.cell? ⟨w24.heap.size, 1, none⟩ = some (.int .i64 q2) := cell_of_row _ _ 1 _ _ _ KP_260.out
      have cKP2 : w26.cell? ⟨w24.heap.size, 2, none⟩ = some (.int .i64 q3) := cell_of_row _ _ 2 _ _ _ KP_260.out
      have cKP3 : w26.cell? ⟨w24.heap.size, 3, none⟩ = some (.int .i64 q4) := cell_of_row _ _ 3 _ _ _ KP_260.out
      go_wp2_with fail
      clear hw26
      clear cKR0 cKR1 cKR2 cKR3 cKQ0 cKQ1 cKQ2 cKQ3 cKP0 cKP1 cKP2 cKP3
      refine (HIB.out _ HK_27.out).mono ?_
      rintro e w28 ⟨rfl, hbk⟩
      have HK_29 := Lib.hid (esyn_stays _ _ HK_27.out hbk)
      have KR_29 := Lib.hid ((hbk.block _ (heap_lt KR_27.out)).trans KR_27.out)
      have KQ_29 := Lib.hid ((hbk.block _ (heap_lt KQ_27.out)).trans KQ_27.out)
      have KP_29 := Lib.hid ((hbk.block _ (heap_lt KP_260.out)).trans KP_260.out)
      have HB_29 := Lib.hid (below_more HB_27.out hbk)
      clear HK_27 KR_27 KQ_27 KP_260 HB_27 hbk
      obtain ⟨w30, hw30⟩ : ∃ wn, w28.alloc (.cells #[.int .i64 r1, .int .i64 r2, .int .i64 r3, .int .i64 r4] 38) = wn := ⟨_, rfl⟩
      have hbx30 : Below w28.heap.size w28 w30 := by rw [← hw30]; exact gAlloc _ _
      have KB_300 : Hid (w30.heap[w28.heap.size]? = some (.cells #[.int .i64 r1, .int .i64 r2, .int .i64 r3, .int .i64 r4] 38 (0, 0))) := by rw [← hw30]; exact heap_alloc_new _ _
      have HK_31 := Lib.hid (esyn_stays _ _ HK_29.out hbx30)
      have KR_31 := Lib.hid ((hbx30.block _ (heap_lt KR_29.out)).trans KR_29.out)
      have KQ_31 := Lib.hid ((hbx30.block _ (heap_lt KQ_29.out)).trans KQ_29.out)
      have KP_31 := Lib.hid ((hbx30.block _ (heap_lt KP_29.out)).trans KP_29.out)
      have HB_31 := Lib.hid (below_more HB_29.out hbx30)
      clear HK_29 KR_29 KQ_29 KP_29 HB_29 hbx30
      cases ub
      · have cKR0 : w30.cell? ⟨w10.heap.size, 0, none⟩ = some (.int .i64 r1) := cell_of_row _ _ 0 _ _ _ KR_31.out
        have cKR1 : w30.cell? ⟨w10.heap.size, 1, none⟩ = some (.int .i64 r2) := cell_of_row _ _ 1 _ _ _ KR_31.out
        have cKR2 : w30.cell? ⟨w10.heap.size, 2, none⟩ = some (.int .i64 r3) := cell_of_row _ _ 2 _ _ _ KR_31.out
        have cKR3 : w30.cell? ⟨w10.heap.size, 3, none⟩ = some (.int .i64 r4) := cell_of_row _ _ 3 _ _ _ KR_31.out
        have cKQ0 : w30.cell? ⟨w20.heap.size, 0, none⟩ = some (.int .i64 q1) := cell_of_row _ _ 0 _ _ _ KQ_31.out
        have cKQ1 : w30.cell? ⟨w20.heap.size, 1, none⟩ = some (.int .i64 q2) := cell_of_row _ _ 1 _ _ _ KQ_31.out
        have cKQ2 : w30.cell? ⟨w20.heap.size, 2, none⟩ = some (.int .i64 q3) := cell_of_row _ _ 2 _ _ _ KQ_31.out
        have cKQ3 : w30.cell? ⟨w20.heap.size, 3, none⟩ = some (.int .i64 q4) := cell_of_row _ _ 3 _ _ _ KQ_31.out
        have cKP0 : w30.cell? ⟨w24.heap.size, 0, none⟩ = some (.int .i64 q1) := cell_of_row _ _ 0 _ _ _ KP_31.out
        have cKP1 : w30.cell? ⟨w24.heap.size, 1, none⟩ = some (.int .i64 q2) := cell_of_row _ _ 1 _ _ _ KP_31.out
        have cKP2 : w30.cell? ⟨w24.heap.size, 2, none⟩ = some (.int .i64 q3) := cell_of_row _ _ 2 _ _ _ KP_31.out
        have cKP3 : w30.cell? ⟨w24.heap.size, 3, none⟩ = some (.int .i64 q4) := cell_of_row _ _ 3 _ _ _ KP_31.out
        have cKB0 : w30.cell? ⟨w28.heap.size, 0, none⟩ = some (.int .i64 r1) := cell_of_row _ _ 0 _ _ _ KB_300.out
        have cKB1 : w30.cell? ⟨w28.heap.size, 1, none⟩ = some (.int .i64 r2) := cell_of_row _ _ 1 _ _ _ KB_300.out
        have cKB2 : w30.cell? ⟨w28.heap.size, 2, none⟩ = some (.int .i64 r3) := cell_of_row _ _ 2 _ _ _ KB_300.out
        have cKB3 : w30.cell? ⟨w28.heap.size, 3, none⟩ = some (.int .i64 r4) := cell_of_row _ _ 3 _ _ _ KB_300.out
        go_wp2_with fail
        go_ret
        exact ⟨rfl, HB_31.out⟩
      · have HIQ := Lib.hid (fun w => iRecText_any (q1, q2, q3, q4) w)
        rw [(HTR.out rfl).1, (HTR.out rfl).2] at HIQ
        clear HTR
        have cKR0 : w30.cell? ⟨w10.heap.size, 0, none⟩ = some (.int .i64 r1) := cell_of_row _ _ 0 _ _ _ KR_31.out
        have cKR1 : w30.cell? ⟨w10.heap.size, 1, none⟩ = some (.int .i64 r2) := cell_of_row _ _ 1 _ _ _ KR_31.out
        have cKR2 : w30.cell? ⟨w10.heap.size, 2, none⟩ = some (.int .i64 r3) := cell_of_row _ _ 2 _ _ _ KR_31.out
        have cKR3 : w30.cell? ⟨w10.heap.size, 3, none⟩ = some (.int .i64 r4) := cell_of_row _ _ 3 _ _ _ KR_31.out
        have cKQ0 : w30.cell? ⟨w20.heap.size, 0, none⟩ = some (.int .i64 q1) := cell_of_row _ _ 0 _ _ _ KQ_31.out
        have cKQ1 : w30.cell? ⟨w20.heap.size, 1, none⟩ = some (.int .i64 q2) := cell_of_row _ _ 1 _ _ _ KQ_31.out
        have cKQ2 : w30.cell? ⟨w20.heap.size, 2, none⟩ = some (.int .i64 q3) := cell_of_row _ _ 2 _ _ _ KQ_31.out
        have cKQ3 : w30.cell? ⟨w20.heap.size, 3, none⟩ = some (.int .i64 q4) := cell_of_row _ _ 3 _ _ _ KQ_31.out
        have cKP0 : w30.cell? ⟨w24.heap.size, 0, none⟩ = some (.int .i64 q1) := cell_of_row _ _ 0 _ _ _ KP_31.out
        have cKP1 : w30.cell? ⟨w24.heap.size, 1, none⟩ = some (.int .i64 q2) := cell_of_row _ _ 1 _ _ _ KP_31.out
        have cKP2 : w30.cell? ⟨w24.heap.size, 2, none⟩ = some (.int .i64 q3) := cell_of_row _ _ 2 _ _ _ KP_31.out
        have cKP3 : w30.cell? ⟨w24.heap.size, 3, none⟩ = some (.int .i64 q4) := cell_of_row _ _ 3 _ _ _ KP_31.out
        have cKB0 : w30.cell? ⟨w28.heap.size, 0, none⟩ = some (.int .i64 r1) := cell_of_row _ _ 0 _ _ _ KB_300.out
        have cKB1 : w30.cell? ⟨w28.heap.size, 1, none⟩ = some (.int .i64 r2) := cell_of_row _ _ 1 _ _ _ KB_300.out
        have cKB2 : w30.cell? ⟨w28.heap.size, 2, none⟩ = some (.int .i64 r3) := cell_of_row _ _ 2 _ _ _ KB_300.out
        have cKB3 : w30.cell? ⟨w28.heap.size, 3, none⟩ = some (.int .i64 r4) := cell_of_row _ _ 3 _ _ _ KB_300.out
        go_wp2_with fail
        refine (HIQ.out _).mono ?_
        rintro e wz ⟨rfl, hbz⟩
        have HBz := Lib.hid (below_more HB_31.out hbz)
        clear hbz
        go_wp2_with fail
        go_ret
        exact ⟨rfl, HBz.out⟩
  · have hg := HG.out rfl
    obtain ⟨hsy, hgs⟩ := sync_yes hg
    obtain ⟨hc1, hc2, hc3⟩ := crash_none hgs
    have HIS := Lib.hid (fun w hd => iSync_any A1 E1 ss ps c1 d1 w hd HLA.out)
    rw [hg, hsy] at HIS
    generalize syncL ss ps = S at *
    have HGS := Lib.hid hgs
    have HC1 := Lib.hid hc1
    have HC2 := Lib.hid (hc2.trans hc3.symm)
    have hrl := rl_len S []
    clear HG hg hsy hgs hc1 hc2 hc3
    have cKD0 : w8.cell? ⟨w1.heap.size, 0, none⟩ = some (.slice A1 ss.length c1) := cell_of_row _ _ 0 _ _ _ KD_9.out
    have cKD1 : w8.cell? ⟨w1.heap.size, 1, none⟩ = some (.slice E1 ps.length d1) := cell_of_row _ _ 1 _ _ _ KD_9.out
    go_wp2_with fail
    clear cKD0 cKD1
    refine (HIS.out _ HD_9.out).mono ?_
    rintro e w10 ⟨vs0, vs1, rfl, hos, hbs⟩
    obtain ⟨As, Es, cs, ds, rfl, rfl, hra, hrb, hls, -⟩ := lies1 hos
    have HDS_0 := Lib.hid (disk_in hra hrb HGS.out)
    have HLS := Lib.hid hls
    clear hos hra hrb hls
    have HK_11 := Lib.hid (esyn_stays _ _ HK_9.out hbs)
    have HD_11 := Lib.hid (HD_9.out.below hbs)
    have KD_11 := Lib.hid ((hbs.block _ (heap_lt KD_9.out)).trans KD_9.out)
    have HL4_11 := Lib.hid (HL4_9.out.below hbs)
    have HB_11 := Lib.hid (below_more HB_9.out hbs)
    clear HK_9 HD_9 KD_9 HL4_9 HB_9 hbs
    have HNil : Hid (([] : List (Int × ByteArray)).length = 0) := rfl
    obtain ⟨w12, hw12⟩ : ∃ wn, w10.alloc (.cells #[.slice As S.length cs, .slice Es 0 ds] 26) = wn := ⟨_, rfl⟩
    have hbx12 : Below w10.heap.size w10 w12 := by rw [← hw12]; exact gAlloc _ _
    have KS_120 : Hid (w12.heap[w10.heap.size]? = some (.cells #[.slice As S.length cs, .slice Es 0 ds] 26 (0, 0))) := by rw [← hw12]; exact heap_alloc_new _ _
    have HK_13 := Lib.hid (esyn_stays _ _ HK_11.out hbx12)
    have HL4_13 := Lib.hid (HL4_11.out.below hbx12)
    have HDS_13 := Lib.hid (HDS_0.out.below hbx12)
    have HB_13 := Lib.hid (below_more HB_11.out hbx12)
    clear HK_11 HL4_11 HDS_0 HB_11 hbx12
    have HIL := Lib.hid (fun w hk hd => iReadLog_any As Es S [] cs ds w hk hd HLS.out)
    have HIX := Lib.hid (fun w hk hd hc => iCrashLog_any As Es none S [] [] cs ds 0 (-1) 0 w hk hd HLS.out hc (by simp))
    rw [HGS.out] at HIL
    rw [HC1.out, HC2.out] at HIX
    generalize rlI S [] = M at *
    have cKS0 : w12.cell? ⟨w10.heap.size, 0, none⟩ = some (.slice As S.length cs) := cell_of_row _ _ 0 _ _ _ KS_120.out
    have cKS1 : w12.cell? ⟨w10.heap.size, 1, none⟩ = some (.slice Es 0 ds) := cell_of_row _ _ 1 _ _ _ KS_120.out
    go_wp2_with fail
    clear hw12
    clear cKS0 cKS1
    refine (HIL.out _ HK_13.out HDS_13.out).mono ?_
    rintro e w14 ⟨v8, rfl, ho8, hb8⟩
    obtain ⟨A8, c8, rfl, -, hr8⟩ := ho8.form fRe_len
    have HL8_0 := Lib.hid hr8
    clear ho8 hr8
    have HK_15 := Lib.hid (esyn_stays _ _ HK_13.out hb8)
    have HL4_15 := Lib.hid (HL4_13.out.below hb8)
    have HDS_15 := Lib.hid (HDS_13.out.below hb8)
    have KS_15 := Lib.hid ((hb8.block _ (heap_lt KS_120.out)).trans KS_120.out)
    have HB_15 := Lib.hid (below_more HB_13.out hb8)
    clear HK_13 HL4_13 HDS_13 KS_120 HB_13 hb8
    have cKS0 : w14.cell? ⟨w10.heap.size, 0, none⟩ = some (.slice As S.length cs) := cell_of_row _ _ 0 _ _ _ KS_15.out
    have cKS1 : w14.cell? ⟨w10.heap.size, 1, none⟩ = some (.slice Es 0 ds) := cell_of_row _ _ 1 _ _ _ KS_15.out
    go_wp2_with fail
    clear cKS0 cKS1
    refine (HIX.out _ HK_15.out HDS_15.out (fun h => absurd rfl h)).mono ?_
    rintro e w16 ⟨v9, rfl, ho9, hb9⟩
    obtain ⟨A9, c9, rfl, -, hr9⟩ := ho9.form fRe_len
    have HL9_0 := Lib.hid hr9
    clear ho9 hr9
    have HK_17 := Lib.hid (esyn_stays _ _ HK_15.out hb9)
    have HL4_17 := Lib.hid (HL4_15.out.below hb9)
    have HDS_17 := Lib.hid (HDS_15.out.below hb9)
    have KS_17 := Lib.hid ((hb9.block _ (heap_lt KS_15.out)).trans KS_15.out)
    have HL8_17 := Lib.hid (HL8_0.out.below hb9)
    have HB_17 := Lib.hid (below_more HB_15.out hb9)
    clear HK_15 HL4_15 HDS_15 KS_15 HL8_0 HB_15 hb9
    clear HIL HIX HC1 HC2 HGS HIS
    go_wp2_with fail
    refine (sameRe_self A9 A8 M c9 c8 _ HL9_0.out HL8_17.out (by omega)).mono ?_
    rintro e w18 ⟨rfl, n7, hd7⟩
    have hb7 : Below w16.heap.size w16 w18 := by rw [hd7]; exact gDrewN _
    clear hd7
    have HK_19 := Lib.hid (esyn_stays _ _ HK_17.out hb7)
    have HL4_19 := Lib.hid (HL4_17.out.below hb7)
    have HL8_19 := Lib.hid (HL8_17.out.below hb7)
    have HL9_19 := Lib.hid (HL9_0.out.below hb7)
    have HB_19 := Lib.hid (below_more HB_17.out hb7)
    clear HK_17 HL4_17 HL8_17 HL9_0 HB_17 hb7
    have HLL := Lib.hid HL4_19.out
    go_wp2_with fail
    go_loopg [107] L.length (fun gk i wr => ∃ k : Nat, k + gk = L.length ∧ i = .int .i64 k ∧ Below w18.heap.size w18 wr)
    case atStart => exact ⟨0, by omega, rfl, Below.refl _ _⟩
    case round =>
      obtain ⟨k, hgk, rfl, hbel⟩ := hrel
      have HBl := Lib.hid hbel
      clear hbel
      by_cases hlt : k < L.length
      · have hki : (k : Int) < (L.length : Int) := by omega
        obtain ⟨b1, o1, rfl, p0, p1, p2, p3⟩ := Re_at (HLL.out.below HBl.out) hlt
        have hno := HNo.out k hlt
        have HGK : Hid (L.length - k - 1 < gk ∧ k + 1 + (L.length - k - 1) = L.length) := by show _ ∧ _; omega
        clear hgk
        obtain ⟨⟨m1, m2, m3, m4⟩, hm⟩ : ∃ m, L[k] = m := ⟨_, rfl⟩
        rw [hm] at p0 p1 p2 p3 hno
        simp only at p0 p1 p2 p3 hno
        clear hm
        have hne : (m1 != (k : Int) + 1) = false := by rw [hno]; simp
        clear hno
        have HBx := Lib.hid (below_more HBl.out (gAlloc wr (.cells #[.int .i64 m1, .int .i64 m2, .int .i64 m3, .int .i64 m4] 38)))
        go_wp2_with fail
        go_roundg (L.length - k - 1)
        case measure => exact HGK.out.1
        case rel => exact ⟨k + 1, HGK.out.2, by go_num, HBx.out⟩
      · obtain rfl : k = L.length := by omega
        have hki : ¬ (L.length : Int) < (L.length : Int) := by omega
        clear HNo hgk hlt
        have HBl2 := HBl.out
        have HK_20 := Lib.hid (esyn_stays _ _ HK_19.out HBl2)
        have HB_20 := Lib.hid (below_more HB_19.out HBl2)
        clear HK_19 HB_19 HBl2
        go_wp2_with fail
        refine (drawRecText10 B zb cb _ (byts_on9 HBy.out HB_20.out)).mono ?_
        rintro e w21 ⟨⟨r1, r2, r3, r4⟩, rfl, hbr⟩
        have HK_22 := Lib.hid (esyn_stays _ _ HK_20.out hbr)
        have HB_22 := Lib.hid (below_more HB_20.out hbr)
        clear HK_20 HB_20 hbr
        obtain ⟨w23, hw23⟩ : ∃ wn, w21.alloc (.cells #[.int .i64 r1, .int .i64 r2, .int .i64 r3, .int .i64 r4] 38) = wn := ⟨_, rfl⟩
        have hbx23 : Below w21.heap.size w21 w23 := by rw [← hw23]; exact gAlloc _ _
        have KR_230 : Hid (w23.heap[w21.heap.size]? = some (.cells #[.int .i64 r1, .int .i64 r2, .int .i64 r3, .int .i64 r4] 38 (0, 0))) := by rw [← hw23]; exact heap_alloc_new _ _
        have HK_24 := Lib.hid (esyn_stays _ _ HK_22.out hbx23)
        have HB_24 := Lib.hid (below_more HB_22.out hbx23)
        clear HK_22 HB_22 hbx23
        have HRT := Lib.hid (fun h => rr_tx (r := (r1, r2, r3, r4)) h)
        have HRI : Hid (reOkB (r1, r2, r3, r4) = true → rtI (r1, r2, r3, r4) = txR (r1, r2, r3, r4)) := fun h => by rw [rtI, if_pos h]
        have HTS := Lib.hid (txR_size (r1, r2, r3, r4))
        have HIT := Lib.hid (fun w => iRecText_any (r1, r2, r3, r4) w)
        have HST := Lib.hid (fun w => sRecText_any (r1, r2, r3, r4) w)
        generalize rtI (r1, r2, r3, r4) = T at *
        generalize txR (r1, r2, r3, r4) = X at *
        generalize reOkB (r1, r2, r3, r4) = rb at *
        have cKR0 : w23.cell? ⟨w21.heap.size, 0, none⟩ = some (.int .i64 r1) := cell_of_row _ _ 0 _ _ _ KR_230.out
        have cKR1 : w23.cell? ⟨w21.heap.size, 1, none⟩ = some (.int .i64 r2) := cell_of_row _ _ 1 _ _ _ KR_230.out
        have cKR2 : w23.cell? ⟨w21.heap.size, 2, none⟩ = some (.int .i64 r3) := cell_of_row _ _ 2 _ _ _ KR_230.out
        have cKR3 : w23.cell? ⟨w21.heap.size, 3, none⟩ = some (.int .i64 r4) := cell_of_row _ _ 3 _ _ _ KR_230.out
        go_wp2_with fail
        clear hw23
        clear cKR0 cKR1 cKR2 cKR3
        refine (HIT.out _).mono ?_
        rintro e w25 ⟨rfl, hbt⟩
        have HK_26 := Lib.hid (esyn_stays _ _ HK_24.out hbt)
        have KR_26 := Lib.hid ((hbt.block _ (heap_lt KR_230.out)).trans KR_230.out)
        have HB_26 := Lib.hid (below_more HB_24.out hbt)
        clear HK_24 KR_230 HB_24 hbt
        have cKR0 : w25.cell? ⟨w21.heap.size, 0, none⟩ = some (.int .i64 r1) := cell_of_row _ _ 0 _ _ _ KR_26.out
        have cKR1 : w25.cell? ⟨w21.heap.size, 1, none⟩ = some (.int .i64 r2) := cell_of_row _ _ 1 _ _ _ KR_26.out
        have cKR2 : w25.cell? ⟨w21.heap.size, 2, none⟩ = some (.int .i64 r3) := cell_of_row _ _ 2 _ _ _ KR_26.out
        have cKR3 : w25.cell? ⟨w21.heap.size, 3, none⟩ = some (.int .i64 r4) := cell_of_row _ _ 3 _ _ _ KR_26.out
        go_wp2_with fail
        clear cKR0 cKR1 cKR2 cKR3
        refine (HST.out _).mono ?_
        rintro e w27 ⟨rfl, hbs⟩
        have HK_28 := Lib.hid (esyn_stays _ _ HK_26.out hbs)
        have KR_28 := Lib.hid ((hbs.block _ (heap_lt KR_26.out)).trans KR_26.out)
        have HB_28 := Lib.hid (below_more HB_26.out hbs)
        clear HK_26 KR_26 HB_26 hbs
        have cKR0 : w27.cell? ⟨w21.heap.size, 0, none⟩ = some (.int .i64 r1) := cell_of_row _ _ 0 _ _ _ KR_28.out
        have cKR1 : w27.cell? ⟨w21.heap.size, 1, none⟩ = some (.int .i64 r2) := cell_of_row _ _ 1 _ _ _ KR_28.out
        have cKR2 : w27.cell? ⟨w21.heap.size, 2, none⟩ = some (.int .i64 r3) := cell_of_row _ _ 2 _ _ _ KR_28.out
        have cKR3 : w27.cell? ⟨w21.heap.size, 3, none⟩ = some (.int .i64 r4) := cell_of_row _ _ 3 _ _ _ KR_28.out
        go_wp2_with fail
        clear cKR0 cKR1 cKR2 cKR3
        refine (drawReadRec10 B zb cb _ (byts_on9 HBy.out HB_28.out)).mono ?_
        rintro e w29 ⟨u, rfl, hu, hbu⟩
        have HK_30 := Lib.hid (esyn_stays _ _ HK_28.out hbu)
        have KR_30 := Lib.hid ((hbu.block _ (heap_lt KR_28.out)).trans KR_28.out)
        have HB_30 := Lib.hid (below_more HB_28.out hbu)
        clear HK_28 KR_28 HB_28 hbu
        have HTR := Lib.hid (fun h => tx_rr (s := u) h)
        have HIR := Lib.hid (fun w hk => iReadRec_any u w hk)
        have HSR := Lib.hid (fun w => sReadRec_any u w)
        obtain ⟨⟨q1, q2, q3, q4⟩, hq⟩ : ∃ q, rrI u = q := ⟨_, rfl⟩
        rw [hq] at HTR HIR HSR
        clear hq
        generalize rrOkB u = ub at *
        have cKR0 : w29.cell? ⟨w21.heap.size, 0, none⟩ = some (.int .i64 r1) := cell_of_row _ _ 0 _ _ _ KR_30.out
        have cKR1 : w29.cell? ⟨w21.heap.size, 1, none⟩ = some (.int .i64 r2) := cell_of_row _ _ 1 _ _ _ KR_30.out
        have cKR2 : w29.cell? ⟨w21.heap.size, 2, none⟩ = some (.int .i64 r3) := cell_of_row _ _ 2 _ _ _ KR_30.out
        have cKR3 : w29.cell? ⟨w21.heap.size, 3, none⟩ = some (.int .i64 r4) := cell_of_row _ _ 3 _ _ _ KR_30.out
        go_wp2_with fail
        clear cKR0 cKR1 cKR2 cKR3
        refine (HIR.out _ HK_30.out).mono ?_
        rintro e w31 ⟨rfl, hbi⟩
        have HK_32 := Lib.hid (esyn_stays _ _ HK_30.out hbi)
        have KR_32 := Lib.hid ((hbi.block _ (heap_lt KR_30.out)).trans KR_30.out)
        have HB_32 := Lib.hid (below_more HB_30.out hbi)
        clear HK_30 KR_30 HB_30 hbi
        obtain ⟨w33, hw33⟩ : ∃ wn, w31.alloc (.cells #[.int .i64 q1, .int .i64 q2, .int .i64 q3, .int .i64 q4] 38) = wn := ⟨_, rfl⟩
        have hbx33 : Below w31.heap.size w31 w33 := by rw [← hw33]; exact gAlloc _ _
        have KQ_330 : Hid (w33.heap[w31.heap.size]? = some (.cells #[.int .i64 q1, .int .i64 q2, .int .i64 q3, .int .i64 q4] 38 (0, 0))) := by rw [← hw33]; exact heap_alloc_new _ _
        have HK_34 := Lib.hid (esyn_stays _ _ HK_32.out hbx33)
        have KR_34 := Lib.hid ((hbx33.block _ (heap_lt KR_32.out)).trans KR_32.out)
        have HB_34 := Lib.hid (below_more HB_32.out hbx33)
        clear HK_32 KR_32 HB_32 hbx33
        have cKR0 : w33.cell? ⟨w21.heap.size, 0, none⟩ = some (.int .i64 r1) := cell_of_row _ _ 0 _ _ _ KR_34.out
        have cKR1 : w33.cell? ⟨w21.heap.size, 1, none⟩ = some (.int .i64 r2) := cell_of_row _ _ 1 _ _ _ KR_34.out
        have cKR2 : w33.cell? ⟨w21.heap.size, 2, none⟩ = some (.int .i64 r3) := cell_of_row _ _ 2 _ _ _ KR_34.out
        have cKR3 : w33.cell? ⟨w21.heap.size, 3, none⟩ = some (.int .i64 r4) := cell_of_row _ _ 3 _ _ _ KR_34.out
        have cKQ0 : w33.cell? ⟨w31.heap.size, 0, none⟩ = some (.int .i64 q1) := cell_of_row _ _ 0 _ _ _ KQ_330.out
        have cKQ1 : w33.cell? ⟨w31.heap.size, 1, none⟩ = some (.int .i64 q2) := cell_of_row _ _ 1 _ _ _ KQ_330.out
        have cKQ2 : w33.cell? ⟨w31.heap.size, 2, none⟩ = some (.int .i64 q3) := cell_of_row _ _ 2 _ _ _ KQ_330.out
        have cKQ3 : w33.cell? ⟨w31.heap.size, 3, none⟩ = some (.int .i64 q4) := cell_of_row _ _ 3 _ _ _ KQ_330.out
        go_wp2_with fail
        clear hw33
        clear cKR0 cKR1 cKR2 cKR3 cKQ0 cKQ1 cKQ2 cKQ3
        refine (HSR.out _).mono ?_
        rintro e w35 ⟨rfl, hbj⟩
        have HK_36 := Lib.hid (esyn_stays _ _ HK_34.out hbj)
        have KR_36 := Lib.hid ((hbj.block _ (heap_lt KR_34.out)).trans KR_34.out)
        have KQ_36 := Lib.hid ((hbj.block _ (heap_lt KQ_330.out)).trans KQ_330.out)
        have HB_36 := Lib.hid (below_more HB_34.out hbj)
        clear HK_34 KR_34 KQ_330 HB_34 hbj
        obtain ⟨w37, hw37⟩ : ∃ wn, w35.alloc (.cells #[.int .i64 q1, .int .i64 q2, .int .i64 q3, .int .i64 q4] 38) = wn := ⟨_, rfl⟩
        have hbx37 : Below w35.heap.size w35 w37 := by rw [← hw37]; exact gAlloc _ _
        have KP_370 : Hid (w37.heap[w35.heap.size]? = some (.cells #[.int .i64 q1, .int .i64 q2, .int .i64 q3, .int .i64 q4] 38 (0, 0))) := by rw [← hw37]; exact heap_alloc_new _ _
        have HK_38 := Lib.hid (esyn_stays _ _ HK_36.out hbx37)
        have KR_38 := Lib.hid ((hbx37.block _ (heap_lt KR_36.out)).trans KR_36.out)
        have KQ_38 := Lib.hid ((hbx37.block _ (heap_lt KQ_36.out)).trans KQ_36.out)
        have HB_38 := Lib.hid (below_more HB_36.out hbx37)
        clear HK_36 KR_36 KQ_36 HB_36 hbx37
        clear HIT HST HIR HSR
        cases rb
        · clear HRT HRI HTS
          cases ub
          · have cKR0 : w37.cell? ⟨w21.heap.size, 0, none⟩ = some (.int .i64 r1) := cell_of_row _ _ 0 _ _ _ KR_38.out
            have cKR1 : w37.cell? ⟨w21.heap.size, 1, none⟩ = some (.int .i64 r2) := cell_of_row _ _ 1 _ _ _ KR_38.out
            have cKR2 : w37.cell? ⟨w21.heap.size, 2, none⟩ = some (.int .i64 r3) := cell_of_row _ _ 2 _ _ _ KR_38.out
            have cKR3 : w37.cell? ⟨w21.heap.size, 3, none⟩ = some (.int .i64 r4) := cell_of_row _ _ 3 _ _ _ KR_38.out
            have cKQ0 : w37.cell? ⟨w31.heap.size, 0, none⟩ = some (.int .i64 q1) := cell_of_row _ _ 0 _ _ _ KQ_38.out
            have cKQ1 : w37.cell? ⟨w31.heap.size, 1, none⟩ = some (.int .i64 q2) := cell_of_row _ _ 1 _ _ _ KQ_38.out
            have cKQ2 : w37.cell? ⟨w31.heap.size, 2, none⟩ = some (.int .i64 q3) := cell_of_row _ _ 2 _ _ _ KQ_38.out
            have cKQ3 : w37.cell? ⟨w31.heap.size, 3, none⟩ = some (.int .i64 q4) := cell_of_row _ _ 3 _ _ _ KQ_38.out
            have cKP0 : w37.cell? ⟨w35.heap.size, 0, none⟩ = some (.int .i64 q1) := cell_of_row _ _ 0 _ _ _ KP_370.out
            have cKP1 : w37.cell? ⟨w35.heap.size, 1, none⟩ = some (.int .i64 q2) := cell_of_row _ _ 1 _ _ _ KP_370.out
            have cKP2 : w37.cell? ⟨w35.heap.size, 2, none⟩ = some (.int .i64 q3) := cell_of_row _ _ 2 _ _ _ KP_370.out
            have cKP3 : w37.cell? ⟨w35.heap.size, 3, none⟩ = some (.int .i64 q4) := cell_of_row _ _ 3 _ _ _ KP_370.out
            go_wp2_with fail
            go_ret
            exact ⟨rfl, HB_38.out⟩
          · have HIQ := Lib.hid (fun w => iRecText_any (q1, q2, q3, q4) w)
            rw [(HTR.out rfl).1, (HTR.out rfl).2] at HIQ
            clear HTR
            have cKR0 : w37.cell? ⟨w21.heap.size, 0, none⟩ = some (.int .i64 r1) := cell_of_row _ _ 0 _ _ _ KR_38.out
            have cKR1 : w37.cell? ⟨w21.heap.size, 1, none⟩ = some (.int .i64 r2) := cell_of_row _ _ 1 _ _ _ KR_38.out
            have cKR2 : w37.cell? ⟨w21.heap.size, 2, none⟩ = some (.int .i64 r3) := cell_of_row _ _ 2 _ _ _ KR_38.out
            have cKR3 : w37.cell? ⟨w21.heap.size, 3, none⟩ = some (.int .i64 r4) := cell_of_row _ _ 3 _ _ _ KR_38.out
            have cKQ0 : w37.cell? ⟨w31.heap.size, 0, none⟩ = some (.int .i64 q1) := cell_of_row _ _ 0 _ _ _ KQ_38.out
            have cKQ1 : w37.cell? ⟨w31.heap.size, 1, none⟩ = some (.int .i64 q2) := cell_of_row _ _ 1 _ _ _ KQ_38.out
            have cKQ2 : w37.cell? ⟨w31.heap.size, 2, none⟩ = some (.int .i64 q3) := cell_of_row _ _ 2 _ _ _ KQ_38.out
            have cKQ3 : w37.cell? ⟨w31.heap.size, 3, none⟩ = some (.int .i64 q4) := cell_of_row _ _ 3 _ _ _ KQ_38.out
            have cKP0 : w37.cell? ⟨w35.heap.size, 0, none⟩ = some (.int .i64 q1) := cell_of_row _ _ 0 _ _ _ KP_370.out
            have cKP1 : w37.cell? ⟨w35.heap.size, 1, none⟩ = some (.int .i64 q2) := cell_of_row _ _ 1 _ _ _ KP_370.out
            have cKP2 : w37.cell? ⟨w35.heap.size, 2, none⟩ = some (.int .i64 q3) := cell_of_row _ _ 2 _ _ _ KP_370.out
            have cKP3 : w37.cell? ⟨w35.heap.size, 3, none⟩ = some (.int .i64 q4) := cell_of_row _ _ 3 _ _ _ KP_370.out
            go_wp2_with fail
            refine (HIQ.out _).mono ?_
            rintro e wz ⟨rfl, hbz⟩
            have HBz := Lib.hid (below_more HB_38.out hbz)
            clear hbz
            go_wp2_with fail
            go_ret
            exact ⟨rfl, HBz.out⟩
        · obtain ⟨hrt1, hrt2⟩ := HRT.out rfl
          have hTX := HRI.out rfl
          rw [← hTX] at hrt1 hrt2 HTS
          have HIB := Lib.hid (fun w hk => iReadRec_any T w hk)
          rw [hrt1, hrt2] at HIB
          have hT16 : ((T.size : Int) != 16) = false := by rw [HTS.out]; rfl
          clear HRT HRI HTS hrt1 hrt2 hTX
          have cKR0 : w37.cell? ⟨w21.heap.size, 0, none⟩ = some (.int .i64 r1) := cell_of_row _ _ 0 _ _ _ KR_38.out
          have cKR1 : w37.cell? ⟨w21.heap.size, 1, none⟩ = some (.int .i64 r2) := cell_of_row _ _ 1 _ _ _ KR_38.out
          have cKR2 : w37.cell? ⟨w21.heap.size, 2, none⟩ = some (.int .i64 r3) := cell_of_row _ _ 2 _ _ _ KR_38.out
          have cKR3 : w37.cell? ⟨w21.heap.size, 3, none⟩ = some (.int .i64 r4) := cell_of_row _ _ 3 _ _ _ KR_38.out
          have cKQ0 : w37.cell? ⟨w31.heap.size, 0, none⟩ = some (.int .i64 q1) := cell_of_row _ _ 0 _ _ _ KQ_38.out
          have cKQ1 : w37.cell? ⟨w31.heap.size, 1, none⟩ = some (.int .i64 q2) := cell_of_row _ _ 1 _ _ _ KQ_38.out
          have cKQ2 : w37.cell? ⟨w31.heap.size, 2, none⟩ = some (.int .i64 q3) := cell_of_row _ _ 2 _ _ _ KQ_38.out
          have cKQ3 : w37.cell? ⟨w31.heap.size, 3, none⟩ = some (.int .i64 q4) := cell_of_row _ _ 3 _ _ _ KQ_38.out
          have cKP0 : w37.cell? ⟨w35.heap.size, 0, none⟩ = some (.int .i64 q1) := cell_of_row _ _ 0 _ _ _ KP_370.out
          have cKP1 : w37.cell? ⟨w35.heap.size, 1, none⟩ = some (.int .i64 q2) := cell_of_row _ _ 1 _ _ _ KP_370.out
          have cKP2 : w37.cell? ⟨w35.heap.size, 2, none⟩ = some (.int .i64 q3) := cell_of_row _ _ 2 _ _ _ KP_370.out
          have cKP3 : w37.cell? ⟨w35.heap.size, 3, none⟩ = some (.int .i64 q4) := cell_of_row _ _ 3 _ _ _ KP_370.out
          go_wp2_with fail
          clear hw37
          clear cKR0 cKR1 cKR2 cKR3 cKQ0 cKQ1 cKQ2 cKQ3 cKP0 cKP1 cKP2 cKP3
          refine (HIB.out _ HK_38.out).mono ?_
          rintro e w39 ⟨rfl, hbk⟩
          have HK_40 := Lib.hid (esyn_stays _ _ HK_38.out hbk)
          have KR_40 := Lib.hid ((hbk.block _ (heap_lt KR_38.out)).trans KR_38.out)
          have KQ_40 := Lib.hid ((hbk.block _ (heap_lt KQ_38.out)).trans KQ_38.out)
          have KP_40 := Lib.hid ((hbk.block _ (heap_lt KP_370.out)).trans KP_370.out)
          have HB_40 := Lib.hid (below_more HB_38.out hbk)
          clear HK_38 KR_38 KQ_38 KP_370 HB_38 hbk
          obtain ⟨w41, hw41⟩ : ∃ wn, w39.alloc (.cells #[.int .i64 r1, .int .i64 r2, .int .i64 r3, .int .i64 r4] 38) = wn := ⟨_, rfl⟩
          have hbx41 : Below w39.heap.size w39 w41 := by rw [← hw41]; exact gAlloc _ _
          have KB_410 : Hid (w41.heap[w39.heap.size]? = some (.cells #[.int .i64 r1, .int .i64 r2, .int .i64 r3, .int .i64 r4] 38 (0, 0))) := by rw [← hw41]; exact heap_alloc_new _ _
          have HK_42 := Lib.hid (esyn_stays _ _ HK_40.out hbx41)
          have KR_42 := Lib.hid ((hbx41.block _ (heap_lt KR_40.out)).trans KR_40.out)
          have KQ_42 := Lib.hid ((hbx41.block _ (heap_lt KQ_40.out)).trans KQ_40.out)
          have KP_42 := Lib.hid ((hbx41.block _ (heap_lt KP_40.out)).trans KP_40.out)
          have HB_42 := Lib.hid (below_more HB_40.out hbx41)
          clear HK_40 KR_40 KQ_40 KP_40 HB_40 hbx41
          cases ub
          · have cKR0 : w41.cell? ⟨w21.heap.size, 0, none⟩ = some (.int .i64 r1) := cell_of_row _ _ 0 _ _ _ KR_42.out
            have cKR1 : w41.cell? ⟨w21.heap.size, 1, none⟩ = some (.int .i64 r2) := cell_of_row _ _ 1 _ _ _ KR_42.out
            have cKR2 : w41.cell? ⟨w21.heap.size, 2, none⟩ = some (.int .i64 r3) := cell_of_row _ _ 2 _ _ _ KR_42.out
            have cKR3 : w41.cell? ⟨w21.heap.size, 3, none⟩ = some (.int .i64 r4) := cell_of_row _ _ 3 _ _ _ KR_42.out
            have cKQ0 : w41.cell? ⟨w31.heap.size, 0, none⟩ = some (.int .i64 q1) := cell_of_row _ _ 0 _ _ _ KQ_42.out
            have cKQ1 : w41.cell? ⟨w31.heap.size, 1, none⟩ = some (.int .i64 q2) := cell_of_row _ _ 1 _ _ _ KQ_42.out
            have cKQ2 : w41.cell? ⟨w31.heap.size, 2, none⟩ = some (.int .i64 q3) := cell_of_row _ _ 2 _ _ _ KQ_42.out
            have cKQ3 : w41.cell? ⟨w31.heap.size, 3, none⟩ = some (.int .i64 q4) := cell_of_row _ _ 3 _ _ _ KQ_42.out
            have cKP0 : w41.cell? ⟨w35.heap.size, 0, none⟩ = some (.int .i64 q1) := cell_of_row _ _ 0 _ _ _ KP_42.out
            have cKP1 : w41.cell? ⟨w35.heap.size, 1, none⟩ = some (.int .i64 q2) := cell_of_row _ _ 1 _ _ _ KP_42.out
            have cKP2 : w41.cell? ⟨w35.heap.size, 2, none⟩ = some (.int .i64 q3) := cell_of_row _ _ 2 _ _ _ KP_42.out
            have cKP3 : w41.cell? ⟨w35.heap.size, 3, none⟩ = some (.int .i64 q4) := cell_of_row _ _ 3 _ _ _ KP_42.out
            have cKB0 : w41.cell? ⟨w39.heap.size, 0, none⟩ = some (.int .i64 r1) := cell_of_row _ _ 0 _ _ _ KB_410.out
            have cKB1 : w41.cell? ⟨w39.heap.size, 1, none⟩ = some (.int .i64 r2) := cell_of_row _ _ 1 _ _ _ KB_410.out
            have cKB2 : w41.cell? ⟨w39.heap.size, 2, none⟩ = some (.int .i64 r3) := cell_of_row _ _ 2 _ _ _ KB_410.out
            have cKB3 : w41.cell? ⟨w39.heap.size, 3, none⟩ = some (.int .i64 r4) := cell_of_row _ _ 3 _ _ _ KB_410.out
            go_wp2_with fail
            go_ret
            exact ⟨rfl, HB_42.out⟩
          · have HIQ := Lib.hid (fun w => iRecText_any (q1, q2, q3, q4) w)
            rw [(HTR.out rfl).1, (HTR.out rfl).2] at HIQ
            clear HTR
            have cKR0 : w41.cell? ⟨w21.heap.size, 0, none⟩ = some (.int .i64 r1) := cell_of_row _ _ 0 _ _ _ KR_42.out
            have cKR1 : w41.cell? ⟨w21.heap.size, 1, none⟩ = some (.int .i64 r2) := cell_of_row _ _ 1 _ _ _ KR_42.out
            have cKR2 : w41.cell? ⟨w21.heap.size, 2, none⟩ = some (.int .i64 r3) := cell_of_row _ _ 2 _ _ _ KR_42.out
            have cKR3 : w41.cell? ⟨w21.heap.size, 3, none⟩ = some (.int .i64 r4) := cell_of_row _ _ 3 _ _ _ KR_42.out
            have cKQ0 : w41.cell? ⟨w31.heap.size, 0, none⟩ = some (.int .i64 q1) := cell_of_row _ _ 0 _ _ _ KQ_42.out
            have cKQ1 : w41.cell? ⟨w31.heap.size, 1, none⟩ = some (.int .i64 q2) := cell_of_row _ _ 1 _ _ _ KQ_42.out
            have cKQ2 : w41.cell? ⟨w31.heap.size, 2, none⟩ = some (.int .i64 q3) := cell_of_row _ _ 2 _ _ _ KQ_42.out
            have cKQ3 : w41.cell? ⟨w31.heap.size, 3, none⟩ = some (.int .i64 q4) := cell_of_row _ _ 3 _ _ _ KQ_42.out
            have cKP0 : w41.cell? ⟨w35.heap.size, 0, none⟩ = some (.int .i64 q1) := cell_of_row _ _ 0 _ _ _ KP_42.out
            have cKP1 : w41.cell? ⟨w35.heap.size, 1, none⟩ = some (.int .i64 q2) := cell_of_row _ _ 1 _ _ _ KP_42.out
            have cKP2 : w41.cell? ⟨w35.heap.size, 2, none⟩ = some (.int .i64 q3) := cell_of_row _ _ 2 _ _ _ KP_42.out
            have cKP3 : w41.cell? ⟨w35.heap.size, 3, none⟩ = some (.int .i64 q4) := cell_of_row _ _ 3 _ _ _ KP_42.out
            have cKB0 : w41.cell? ⟨w39.heap.size, 0, none⟩ = some (.int .i64 r1) := cell_of_row _ _ 0 _ _ _ KB_410.out
            have cKB1 : w41.cell? ⟨w39.heap.size, 1, none⟩ = some (.int .i64 r2) := cell_of_row _ _ 1 _ _ _ KB_410.out
            have cKB2 : w41.cell? ⟨w39.heap.size, 2, none⟩ = some (.int .i64 r3) := cell_of_row _ _ 2 _ _ _ KB_410.out
            have cKB3 : w41.cell? ⟨w39.heap.size, 3, none⟩ = some (.int .i64 r4) := cell_of_row _ _ 3 _ _ _ KB_410.out
            go_wp2_with fail
            refine (HIQ.out _).mono ?_
            rintro e wz ⟨rfl, hbz⟩
            have HBz := Lib.hid (below_more HB_42.out hbz)
            clear hbz
            go_wp2_with fail
            go_ret
            exact ⟨rfl, HBz.out⟩
end Go.Proofs.YthbjcipdneminaaGreatDoor
