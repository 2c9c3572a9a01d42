/-
  The law FnCode, walked: it returns true, and turns nothing that lay in memory.
-/
import Derived.Test.YtfkojlpihpgnaaaDoorNA
import Derived.Test.YtfkojlpihpgnaaaDoorDB
namespace Go.Proofs.YtfkojlpihpgnaaaDoor
open Go.RowKit

theorem bits_syn {x : Int} {zs : List Int} {y : Int} (h : bitsOkB x zs y = true) : synOkB x zs y = true := by
  obtain ⟨hc, hy⟩ := and_true' h
  rw [synOkB, hc, (twoOk_true (can_two hy)).2]; rfl

set_option maxRecDepth 100000 in
set_option maxHeartbeats 8000000 in
theorem code_small (A B : Option Addr) (za zb : List Int) (ca cb : Nat) (w : World) (ht : Tab w) (ha : Byts w w.heap.size A za) (hb : Byts w w.heap.size B zb) (hl : za.length + zb.length ≤ 1048576) :
    Calls Tryd.prog 4 #[.slice A za.length ca, .slice B zb.length cb] w fun e w' => e = .returned (.bool true) ∧ Below w.heap.size w w' := by
  have HT := Lib.hid ht
  have HA := Lib.hid ha
  have HB := Lib.hid hb
  clear ht ha hb
  go_enter Tryd.func4, Tryd.ntmps4
  go_wp2_with fail
  refine (drawSyn A za ca _ HA.out).mono ?_
  rintro e w1 ⟨x, v1, l, y, rfl, ho1, hl1, hb1⟩
  obtain ⟨A1, c1, rfl, hcap1, hI1⟩ := ho1.formC
  have HL0 := Lib.hid hI1
  have HB0 := Lib.hid hb1
  have HM0 := Lib.hid (HB.out.stay hb1)
  clear hI1 ho1 hb1 HA HB
  cases hb1 : synOkB x l y
  · have hb2 : bitsOkB x l y = false := by
      cases hh : bitsOkB x l y
      · rfl
      · rw [bits_syn hh] at hb1; cases hb1
    have HI1 := Lib.hid (fun (w : World) (ht : Tab w) (ha : Ints w A1 l) => iSyn_any x A1 l c1 y w ht ha (by omega))
    have HS1 := Lib.hid (fun (w : World) (ha : Ints w A1 l) => sSyn_any x A1 l c1 y w ha (by omega))
    have HI2 := Lib.hid (fun (w : World) (ht : Tab w) (ha : Ints w A1 l) => iBitsFrom_any x A1 l c1 y w ht ha (by omega))
    have HS2 := Lib.hid (fun (w : World) (ha : Ints w A1 l) => sBitsFrom_any x A1 l c1 y w ha (by omega) hcap1)
    have HI3 := Lib.hid (fun (w : World) (ht : Tab w) (ha : Ints w A1 l) => iCode_any x A1 l c1 w ht ha (by omega))
    have HS3 := Lib.hid (fun (w : World) (ha : Ints w A1 l) => sCode_any x A1 l c1 w ha (by omega))
    rw [hb1] at HI1 HS1
    rw [hb2] at HI2 HS2
    clear hb1 hb2
    generalize synI x l y = V1 at *
    generalize bitsFI x l y = V2 at *
    generalize codeB x l = b3 at *
    have HL_101 := Lib.hid (HL0.out.below (below_alloc1 w1 (.cells #[.int .i64 x, .slice A1 l.length c1] 40)))
    have HB_101 := Lib.hid (below_more HB0.out (below_alloc1 w1 (.cells #[.int .i64 x, .slice A1 l.length c1] 40)))
    have HM_101 := Lib.hid (HM0.out.stay (below_alloc1 w1 (.cells #[.int .i64 x, .slice A1 l.length c1] 40)))
    clear HL0 HB0 HM0
    have HC_102 := Lib.hid (Boxd.new w1 40 x (.slice A1 l.length c1))
    have hcC0 := HC_102.out.cell0
    have hcC1 := HC_102.out.cell1
    go_wp2_with fail
    generalize w1.alloc (.cells #[.int .i64 x, .slice A1 l.length c1] 40) = w2 at *
    refine (HI1.out _ (HT.out.below HB_101.out) HL_101.out).mono ?_
    rintro e w3 ⟨rfl, hb3⟩
    clear hcC0 hcC1
    have HL_103 := Lib.hid (HL_101.out.below hb3)
    have HB_103 := Lib.hid (below_more HB_101.out hb3)
    have HM_103 := Lib.hid (HM_101.out.stay hb3)
    have HC_103 := Lib.hid (HC_102.out.below hb3)
    clear HL_101 HB_101 HM_101 HC_102
    clear hb3
    have hcC0 := HC_103.out.cell0
    have hcC1 := HC_103.out.cell1
    go_wp2_with fail
    refine (HS1.out _ HL_103.out).mono ?_
    rintro e w4 ⟨rfl, hb4⟩
    clear hcC0 hcC1
    have HL_104 := Lib.hid (HL_103.out.below hb4)
    have HB_104 := Lib.hid (below_more HB_103.out hb4)
    have HM_104 := Lib.hid (HM_103.out.stay hb4)
    have HC_104 := Lib.hid (HC_103.out.below hb4)
    clear HL_103 HB_103 HM_103 HC_103
    clear hb4
    have hcC0 := HC_104.out.cell0
    have hcC1 := HC_104.out.cell1
    go_wp2_with fail
    refine (HI2.out _ (HT.out.below HB_104.out) HL_104.out).mono ?_
    rintro e w5 ⟨rfl, hb5⟩
    clear hcC0 hcC1
    have HL_105 := Lib.hid (HL_104.out.below hb5)
    have HB_105 := Lib.hid (below_more HB_104.out hb5)
    have HM_105 := Lib.hid (HM_104.out.stay hb5)
    have HC_105 := Lib.hid (HC_104.out.below hb5)
    clear HL_104 HB_104 HM_104 HC_104
    clear hb5
    have hcC0 := HC_105.out.cell0
    have hcC1 := HC_105.out.cell1
    go_wp2_with fail
    refine (HS2.out _ HL_105.out).mono ?_
    rintro e w6 ⟨rfl, hb6⟩
    clear hcC0 hcC1
    have HL_106 := Lib.hid (HL_105.out.below hb6)
    have HB_106 := Lib.hid (below_more HB_105.out hb6)
    have HM_106 := Lib.hid (HM_105.out.stay hb6)
    have HC_106 := Lib.hid (HC_105.out.below hb6)
    clear HL_105 HB_105 HM_105 HC_105
    clear hb6
    have hcC0 := HC_106.out.cell0
    have hcC1 := HC_106.out.cell1
    go_wp2_with fail
    generalize hg1 : w1.heap.size = g1 at *
    have HT6 := Lib.hid (HT.out.below HB_106.out)
    go_region_held3 (fun w' => w'.cell? ⟨g1, 0, none⟩ = some (.int .i64 x) ∧ w'.cell? ⟨g1, 1, none⟩ = some (.slice A1 l.length c1))
      (first | exact ⟨hcC0, hcC1⟩ | exact ⟨hp0, hp1⟩ | exact ⟨hr0, hr1⟩ | go_keep) (first
      | (go_at_call 31; refine (HI3.out _ (HT6.out.below below_drew1) HL_106.out.drew1).mono ?_; rintro e w7 ⟨rfl, hb7⟩; have HC7 := Lib.hid (HC_106.out.drew1.below hb7); have hp0 := HC7.out.cell0; have hp1 := HC7.out.cell1)
      | (go_at_call 32; refine (HS3.out w7 (HL_106.out.drew1.below hb7)).mono ?_; rintro e w8 ⟨rfl, hb8⟩; have HC8 := Lib.hid (HC7.out.below hb8); have hr0 := HC8.out.cell0; have hr1 := HC8.out.cell1))
    all_goals
      subst hg1
      have hb68 : Below w6.heap.size w6 w8 := below_more below_drew1 (below_more hb7 hb8)
      clear hp0 hp1 hr0 hr1 HC7 HC8 hb7 hb8 HT6
      clear hcC0 hcC1
      have HL_107 := Lib.hid (HL_106.out.below hb68)
      have HB_107 := Lib.hid (below_more HB_106.out hb68)
      have HM_107 := Lib.hid (HM_106.out.stay hb68)
      have HC_107 := Lib.hid (HC_106.out.below hb68)
      clear HL_106 HB_106 HM_106 HC_106
      clear hb68
      clear HC_107 HL_107
      go_wp2_with fail
      refine (drawDual B zb cb _ HM_107.out).mono ?_
      rintro e w20 ⟨u, v20, k, rfl, ho20, hl20, hb20⟩
      obtain ⟨A20, c20, rfl, hI20⟩ := ho20.form
      clear HM_107
      have HB_108 := Lib.hid (below_more HB_107.out hb20)
      clear HB_107
      have HK_109 := Lib.hid (hI20)
      clear hI20 ho20 hb20
      have HB_110 := Lib.hid (below_more HB_108.out (below_alloc1 w20 (.cells #[.int .i64 u, .slice A20 k.length c20] 40)))
      have HK_110 := Lib.hid (HK_109.out.below (below_alloc1 w20 (.cells #[.int .i64 u, .slice A20 k.length c20] 40)))
      clear HB_108 HK_109
      have HU_111 := Lib.hid (Boxd.new w20 40 u (.slice A20 k.length c20))
      have hdl := dualI_len u k
      have hcl := checksI_len u k
      have hdq := eqL_self (dualI u k)
      have hcq := eqL_self (checksI u k)
      have hcU0 := HU_111.out.cell0
      have hcU1 := HU_111.out.cell1
      go_wp2_with fail
      generalize w20.alloc (.cells #[.int .i64 u, .slice A20 k.length c20] 40) = w21 at *
      refine (iDual_any u A20 k c20 _ (HT.out.below HB_110.out) HK_110.out (by omega)).mono ?_
      rintro e w22 ⟨v22, rfl, ho22, hb22⟩
      obtain ⟨A22, c22, rfl, hI22⟩ := ho22.form
      clear hcU0 hcU1
      have HB_112 := Lib.hid (below_more HB_110.out hb22)
      have HK_112 := Lib.hid (HK_110.out.below hb22)
      have HU_112 := Lib.hid (HU_111.out.below hb22)
      clear HB_110 HK_110 HU_111
      have HD_113 := Lib.hid (hI22)
      clear hI22 ho22 hb22
      have HB_114 := Lib.hid (below_more HB_112.out (below_alloc1 w22 (.cells #[.int .i64 (dualX u k), .slice A22 (dualI u k).length c22] 40)))
      have HK_114 := Lib.hid (HK_112.out.below (below_alloc1 w22 (.cells #[.int .i64 (dualX u k), .slice A22 (dualI u k).length c22] 40)))
      have HU_114 := Lib.hid (HU_112.out.alloc1 (.cells #[.int .i64 (dualX u k), .slice A22 (dualI u k).length c22] 40))
      have HD_114 := Lib.hid (HD_113.out.below (below_alloc1 w22 (.cells #[.int .i64 (dualX u k), .slice A22 (dualI u k).length c22] 40)))
      clear HB_112 HK_112 HU_112 HD_113
      have HE_115 := Lib.hid (Boxd.new w22 40 (dualX u k) (.slice A22 (dualI u k).length c22))
      have hcU0 := HU_114.out.cell0
      have hcU1 := HU_114.out.cell1
      go_wp2_with fail
      generalize w22.alloc (.cells #[.int .i64 (dualX u k), .slice A22 (dualI u k).length c22] 40) = w23 at *
      refine (sDual_any u A20 k c20 _ HK_114.out (by omega)).mono ?_
      rintro e w24 ⟨v24, rfl, ho24, hb24⟩
      obtain ⟨A24, c24, rfl, hI24⟩ := ho24.form
      clear hcU0 hcU1
      have HB_116 := Lib.hid (below_more HB_114.out hb24)
      have HK_116 := Lib.hid (HK_114.out.below hb24)
      have HU_116 := Lib.hid (HU_114.out.below hb24)
      have HD_116 := Lib.hid (HD_114.out.below hb24)
      have HE_116 := Lib.hid (HE_115.out.below hb24)
      clear HB_114 HK_114 HU_114 HD_114 HE_115
      have HS_117 := Lib.hid (hI24)
      clear hI24 ho24 hb24
      have HB_118 := Lib.hid (below_more HB_116.out (below_alloc1 w24 (.cells #[.int .i64 (dualX u k), .slice A24 (dualI u k).length c24] 40)))
      have HK_118 := Lib.hid (HK_116.out.below (below_alloc1 w24 (.cells #[.int .i64 (dualX u k), .slice A24 (dualI u k).length c24] 40)))
      have HU_118 := Lib.hid (HU_116.out.alloc1 (.cells #[.int .i64 (dualX u k), .slice A24 (dualI u k).length c24] 40))
      have HD_118 := Lib.hid (HD_116.out.below (below_alloc1 w24 (.cells #[.int .i64 (dualX u k), .slice A24 (dualI u k).length c24] 40)))
      have HE_118 := Lib.hid (HE_116.out.alloc1 (.cells #[.int .i64 (dualX u k), .slice A24 (dualI u k).length c24] 40))
      have HS_118 := Lib.hid (HS_117.out.below (below_alloc1 w24 (.cells #[.int .i64 (dualX u k), .slice A24 (dualI u k).length c24] 40)))
      clear HB_116 HK_116 HU_116 HD_116 HE_116 HS_117
      have HF_119 := Lib.hid (Boxd.new w24 40 (dualX u k) (.slice A24 (dualI u k).length c24))
      have hcU0 := HU_118.out.cell0
      have hcU1 := HU_118.out.cell1
      go_wp2_with fail
      generalize w24.alloc (.cells #[.int .i64 (dualX u k), .slice A24 (dualI u k).length c24] 40) = w25 at *
      refine (iChecks_any u A20 k c20 _ (HT.out.below HB_118.out) HK_118.out (by omega)).mono ?_
      rintro e w26 ⟨v26, rfl, ho26, hb26⟩
      obtain ⟨A26, c26, rfl, hI26⟩ := ho26.form
      clear hcU0 hcU1
      have HB_120 := Lib.hid (below_more HB_118.out hb26)
      have HK_120 := Lib.hid (HK_118.out.below hb26)
      have HU_120 := Lib.hid (HU_118.out.below hb26)
      have HD_120 := Lib.hid (HD_118.out.below hb26)
      have HE_120 := Lib.hid (HE_118.out.below hb26)
      have HS_120 := Lib.hid (HS_118.out.below hb26)
      have HF_120 := Lib.hid (HF_119.out.below hb26)
      clear HB_118 HK_118 HU_118 HD_118 HE_118 HS_118 HF_119
      have HP_121 := Lib.hid (hI26)
      clear hI26 ho26 hb26
      have hcU0 := HU_120.out.cell0
      have hcU1 := HU_120.out.cell1
      go_wp2_with fail
      refine (sChecks_any u A20 k c20 _ HK_120.out (by omega)).mono ?_
      rintro e w27 ⟨v27, rfl, ho27, hb27⟩
      obtain ⟨A27, c27, rfl, hI27⟩ := ho27.form
      clear hcU0 hcU1
      have HB_122 := Lib.hid (below_more HB_120.out hb27)
      have HK_122 := Lib.hid (HK_120.out.below hb27)
      have HU_122 := Lib.hid (HU_120.out.below hb27)
      have HD_122 := Lib.hid (HD_120.out.below hb27)
      have HE_122 := Lib.hid (HE_120.out.below hb27)
      have HS_122 := Lib.hid (HS_120.out.below hb27)
      have HF_122 := Lib.hid (HF_120.out.below hb27)
      have HP_122 := Lib.hid (HP_121.out.below hb27)
      clear HB_120 HK_120 HU_120 HD_120 HE_120 HS_120 HF_120 HP_121
      have HQ_123 := Lib.hid (hI27)
      clear hI27 ho27 hb27
      have hcE0 := HE_122.out.cell0
      have hcE1 := HE_122.out.cell1
      have hcF0 := HF_122.out.cell0
      have hcF1 := HF_122.out.cell1
      go_wp2_with fail
      refine (sameCode_any (dualX u k) (dualX u k) A22 A24 _ _ c22 c24 _ HD_122.out HS_122.out (by omega)).mono ?_
      rintro e w28 ⟨rfl, hb28⟩
      clear hcE0 hcE1 hcF0 hcF1
      have HB_124 := Lib.hid (below_more HB_122.out hb28)
      have HK_124 := Lib.hid (HK_122.out.below hb28)
      have HU_124 := Lib.hid (HU_122.out.below hb28)
      have HD_124 := Lib.hid (HD_122.out.below hb28)
      have HE_124 := Lib.hid (HE_122.out.below hb28)
      have HS_124 := Lib.hid (HS_122.out.below hb28)
      have HF_124 := Lib.hid (HF_122.out.below hb28)
      have HP_124 := Lib.hid (HP_122.out.below hb28)
      have HQ_124 := Lib.hid (HQ_123.out.below hb28)
      clear HB_122 HK_122 HU_122 HD_122 HE_122 HS_122 HF_122 HP_122 HQ_123
      clear hb28
      go_wp2_with fail
      refine (sameInts_any A26 A27 _ _ c26 c27 _ HP_124.out HQ_124.out (by omega)).mono ?_
      rintro e w29 ⟨rfl, n29, rfl⟩
      have hd29 : Below w28.heap.size w28 (w28.drewN n29) := below_drewN' n29
      have HB_125 := Lib.hid (below_more HB_124.out hd29)
      have HK_125 := Lib.hid (HK_124.out.below hd29)
      have HU_125 := Lib.hid (HU_124.out.below hd29)
      have HD_125 := Lib.hid (HD_124.out.below hd29)
      have HE_125 := Lib.hid (HE_124.out.below hd29)
      have HS_125 := Lib.hid (HS_124.out.below hd29)
      have HF_125 := Lib.hid (HF_124.out.below hd29)
      have HP_125 := Lib.hid (HP_124.out.below hd29)
      have HQ_125 := Lib.hid (HQ_124.out.below hd29)
      clear HB_124 HK_124 HU_124 HD_124 HE_124 HS_124 HF_124 HP_124 HQ_124
      clear hd29
      generalize w28.drewN n29 = w29 at *
      clear HP_125 HQ_125 HS_125 HF_125
      cases hdu : dualOkB u k
      · clear hdl hcl
        go_wp2_with fail
        go_ret
        exact ⟨rfl, HB_125.out⟩
      · obtain ⟨q1, q2, q3, q4, q5⟩ := dual_code hdu
        have hdx : dualX u k = u := by rw [dualX, if_pos hdu]
        have hdi : dualI u k = nullI u k := by rw [dualI, if_pos hdu]
        have hdd : dualI u (nullI u k) = nullI u (nullI u k) := by rw [dualI, if_pos q2]
        have hnl := nullI_len u k
        have hnl2 := nullI_len u (nullI u k)
        have HI9 := Lib.hid (fun (A : Option Addr) (c : Nat) (w : World) (ht : Tab w) (ha : Ints w A (nullI u k)) => iDual_any u A (nullI u k) c w ht ha (by omega))
        rw [q2, hdd] at HI9
        have HI10 := Lib.hid (fun (A A' : Option Addr) (c c' : Nat) (w : World) (ht : Tab w) (ha : Ints w A (nullI u (nullI u k))) (hb : Ints w A' k) => iSame_any u A A' (nullI u (nullI u k)) k c c' w ht ha hb (by omega) (by omega))
        rw [q4, q5] at HI10
        rw [hdi] at HD_125
        rw [hdx, hdi] at HE_125
        rw [hdx, hdi]
        have hsum : ((nullI u k).length : Int) + (k.length : Int) = u := q3
        clear q1 q2 q3 q4 q5 hdd hdu hdq hcl hdl hdx hdi
        generalize nullI u (nullI u k) = N2 at *
        generalize nullI u k = N1 at *
        have hcE0 := HE_125.out.cell0
        have hcE1 := HE_125.out.cell1
        go_wp2_with fail
        refine (HI9.out A22 c22 _ (HT.out.below HB_125.out) HD_125.out).mono ?_
        rintro e w30 ⟨v30, rfl, ho30, hb30⟩
        obtain ⟨A30, c30, rfl, hI30⟩ := ho30.form
        clear hcE0 hcE1
        have HB_126 := Lib.hid (below_more HB_125.out hb30)
        have HK_126 := Lib.hid (HK_125.out.below hb30)
        have HU_126 := Lib.hid (HU_125.out.below hb30)
        have HD_126 := Lib.hid (HD_125.out.below hb30)
        have HE_126 := Lib.hid (HE_125.out.below hb30)
        clear HB_125 HK_125 HU_125 HD_125 HE_125
        have HR_127 := Lib.hid (hI30)
        clear hI30 ho30 hb30
        generalize dualX u N1 = dx at *
        have HB_128 := Lib.hid (below_more HB_126.out (below_alloc1 w30 (.cells #[.int .i64 dx, .slice A30 N2.length c30] 40)))
        have HK_128 := Lib.hid (HK_126.out.below (below_alloc1 w30 (.cells #[.int .i64 dx, .slice A30 N2.length c30] 40)))
        have HU_128 := Lib.hid (HU_126.out.alloc1 (.cells #[.int .i64 dx, .slice A30 N2.length c30] 40))
        have HD_128 := Lib.hid (HD_126.out.below (below_alloc1 w30 (.cells #[.int .i64 dx, .slice A30 N2.length c30] 40)))
        have HE_128 := Lib.hid (HE_126.out.alloc1 (.cells #[.int .i64 dx, .slice A30 N2.length c30] 40))
        have HR_128 := Lib.hid (HR_127.out.below (below_alloc1 w30 (.cells #[.int .i64 dx, .slice A30 N2.length c30] 40)))
        clear HB_126 HK_126 HU_126 HD_126 HE_126 HR_127
        have HG_129 := Lib.hid (Boxd.new w30 40 dx (.slice A30 N2.length c30))
        have hcU0 := HU_128.out.cell0
        have hcU1 := HU_128.out.cell1
        have hcG0 := HG_129.out.cell0
        have hcG1 := HG_129.out.cell1
        go_wp2_with fail
        generalize w30.alloc (.cells #[.int .i64 dx, .slice A30 N2.length c30] 40) = w31 at *
        refine (HI10.out A30 A20 c30 c20 _ (HT.out.below HB_128.out) HR_128.out HK_128.out).mono ?_
        rintro e w32 ⟨rfl, hb32⟩
        clear hcU0 hcU1 hcG0 hcG1
        have HB_130 := Lib.hid (below_more HB_128.out hb32)
        have HK_130 := Lib.hid (HK_128.out.below hb32)
        have HU_130 := Lib.hid (HU_128.out.below hb32)
        have HD_130 := Lib.hid (HD_128.out.below hb32)
        have HE_130 := Lib.hid (HE_128.out.below hb32)
        have HR_130 := Lib.hid (HR_128.out.below hb32)
        have HG_130 := Lib.hid (HG_129.out.below hb32)
        clear HB_128 HK_128 HU_128 HD_128 HE_128 HR_128 HG_129
        clear hb32
        have hcU0 := HU_130.out.cell0
        have hcU1 := HU_130.out.cell1
        have hcE0 := HE_130.out.cell0
        have hcE1 := HE_130.out.cell1
        go_wp2_with fail
        go_ret
        exact ⟨by simp, HB_130.out⟩
  · have hs := syn_bits hb1
    cases hb2 : bitsOkB x l y
    · rw [hb2] at hs
      have hs0 : (synI x l y == 0) = false := hs.symm
      clear hs
      have HI1 := Lib.hid (fun (w : World) (ht : Tab w) (ha : Ints w A1 l) => iSyn_any x A1 l c1 y w ht ha (by omega))
      have HS1 := Lib.hid (fun (w : World) (ha : Ints w A1 l) => sSyn_any x A1 l c1 y w ha (by omega))
      have HI2 := Lib.hid (fun (w : World) (ht : Tab w) (ha : Ints w A1 l) => iBitsFrom_any x A1 l c1 y w ht ha (by omega))
      have HS2 := Lib.hid (fun (w : World) (ha : Ints w A1 l) => sBitsFrom_any x A1 l c1 y w ha (by omega) hcap1)
      have HI3 := Lib.hid (fun (w : World) (ht : Tab w) (ha : Ints w A1 l) => iCode_any x A1 l c1 w ht ha (by omega))
      have HS3 := Lib.hid (fun (w : World) (ha : Ints w A1 l) => sCode_any x A1 l c1 w ha (by omega))
      rw [hb1] at HI1 HS1
      rw [hb2] at HI2 HS2
      clear hb1 hb2
      generalize synI x l y = V1 at *
      generalize bitsFI x l y = V2 at *
      generalize codeB x l = b3 at *
      have HL_101 := Lib.hid (HL0.out.below (below_alloc1 w1 (.cells #[.int .i64 x, .slice A1 l.length c1] 40)))
      have HB_101 := Lib.hid (below_more HB0.out (below_alloc1 w1 (.cells #[.int .i64 x, .slice A1 l.length c1] 40)))
      have HM_101 := Lib.hid (HM0.out.stay (below_alloc1 w1 (.cells #[.int .i64 x, .slice A1 l.length c1] 40)))
      clear HL0 HB0 HM0
      have HC_102 := Lib.hid (Boxd.new w1 40 x (.slice A1 l.length c1))
      have hcC0 := HC_102.out.cell0
      have hcC1 := HC_102.out.cell1
      go_wp2_with fail
      generalize w1.alloc (.cells #[.int .i64 x, .slice A1 l.length c1] 40) = w2 at *
      refine (HI1.out _ (HT.out.below HB_101.out) HL_101.out).mono ?_
      rintro e w3 ⟨rfl, hb3⟩
      clear hcC0 hcC1
      have HL_103 := Lib.hid (HL_101.out.below hb3)
      have HB_103 := Lib.hid (below_more HB_101.out hb3)
      have HM_103 := Lib.hid (HM_101.out.stay hb3)
      have HC_103 := Lib.hid (HC_102.out.below hb3)
      clear HL_101 HB_101 HM_101 HC_102
      clear hb3
      have hcC0 := HC_103.out.cell0
      have hcC1 := HC_103.out.cell1
      go_wp2_with fail
      refine (HS1.out _ HL_103.out).mono ?_
      rintro e w4 ⟨rfl, hb4⟩
      clear hcC0 hcC1
      have HL_104 := Lib.hid (HL_103.out.below hb4)
      have HB_104 := Lib.hid (below_more HB_103.out hb4)
      have HM_104 := Lib.hid (HM_103.out.stay hb4)
      have HC_104 := Lib.hid (HC_103.out.below hb4)
      clear HL_103 HB_103 HM_103 HC_103
      clear hb4
      have hcC0 := HC_104.out.cell0
      have hcC1 := HC_104.out.cell1
      go_wp2_with fail
      refine (HI2.out _ (HT.out.below HB_104.out) HL_104.out).mono ?_
      rintro e w5 ⟨rfl, hb5⟩
      clear hcC0 hcC1
      have HL_105 := Lib.hid (HL_104.out.below hb5)
      have HB_105 := Lib.hid (below_more HB_104.out hb5)
      have HM_105 := Lib.hid (HM_104.out.stay hb5)
      have HC_105 := Lib.hid (HC_104.out.below hb5)
      clear HL_104 HB_104 HM_104 HC_104
      clear hb5
      have hcC0 := HC_105.out.cell0
      have hcC1 := HC_105.out.cell1
      go_wp2_with fail
      refine (HS2.out _ HL_105.out).mono ?_
      rintro e w6 ⟨rfl, hb6⟩
      clear hcC0 hcC1
      have HL_106 := Lib.hid (HL_105.out.below hb6)
      have HB_106 := Lib.hid (below_more HB_105.out hb6)
      have HM_106 := Lib.hid (HM_105.out.stay hb6)
      have HC_106 := Lib.hid (HC_105.out.below hb6)
      clear HL_105 HB_105 HM_105 HC_105
      clear hb6
      have hcC0 := HC_106.out.cell0
      have hcC1 := HC_106.out.cell1
      go_wp2_with fail
      generalize hg1 : w1.heap.size = g1 at *
      have HT6 := Lib.hid (HT.out.below HB_106.out)
      go_region_held3 (fun w' => w'.cell? ⟨g1, 0, none⟩ = some (.int .i64 x) ∧ w'.cell? ⟨g1, 1, none⟩ = some (.slice A1 l.length c1))
        (first | exact ⟨hcC0, hcC1⟩ | exact ⟨hp0, hp1⟩ | exact ⟨hr0, hr1⟩ | go_keep) (first
        | (go_at_call 31; refine (HI3.out _ (HT6.out.below below_drew1) HL_106.out.drew1).mono ?_; rintro e w7 ⟨rfl, hb7⟩; have HC7 := Lib.hid (HC_106.out.drew1.below hb7); have hp0 := HC7.out.cell0; have hp1 := HC7.out.cell1)
        | (go_at_call 32; refine (HS3.out w7 (HL_106.out.drew1.below hb7)).mono ?_; rintro e w8 ⟨rfl, hb8⟩; have HC8 := Lib.hid (HC7.out.below hb8); have hr0 := HC8.out.cell0; have hr1 := HC8.out.cell1))
      all_goals
        subst hg1
        have hb68 : Below w6.heap.size w6 w8 := below_more below_drew1 (below_more hb7 hb8)
        clear hp0 hp1 hr0 hr1 HC7 HC8 hb7 hb8 HT6
        clear hcC0 hcC1
        have HL_107 := Lib.hid (HL_106.out.below hb68)
        have HB_107 := Lib.hid (below_more HB_106.out hb68)
        have HM_107 := Lib.hid (HM_106.out.stay hb68)
        have HC_107 := Lib.hid (HC_106.out.below hb68)
        clear HL_106 HB_106 HM_106 HC_106
        clear hb68
        clear HC_107 HL_107
        go_wp2_with fail
        refine (drawDual B zb cb _ HM_107.out).mono ?_
        rintro e w20 ⟨u, v20, k, rfl, ho20, hl20, hb20⟩
        obtain ⟨A20, c20, rfl, hI20⟩ := ho20.form
        clear HM_107
        have HB_108 := Lib.hid (below_more HB_107.out hb20)
        clear HB_107
        have HK_109 := Lib.hid (hI20)
        clear hI20 ho20 hb20
        have HB_110 := Lib.hid (below_more HB_108.out (below_alloc1 w20 (.cells #[.int .i64 u, .slice A20 k.length c20] 40)))
        have HK_110 := Lib.hid (HK_109.out.below (below_alloc1 w20 (.cells #[.int .i64 u, .slice A20 k.length c20] 40)))
        clear HB_108 HK_109
        have HU_111 := Lib.hid (Boxd.new w20 40 u (.slice A20 k.length c20))
        have hdl := dualI_len u k
        have hcl := checksI_len u k
        have hdq := eqL_self (dualI u k)
        have hcq := eqL_self (checksI u k)
        have hcU0 := HU_111.out.cell0
        have hcU1 := HU_111.out.cell1
        go_wp2_with fail
        generalize w20.alloc (.cells #[.int .i64 u, .slice A20 k.length c20] 40) = w21 at *
        refine (iDual_any u A20 k c20 _ (HT.out.below HB_110.out) HK_110.out (by omega)).mono ?_
        rintro e w22 ⟨v22, rfl, ho22, hb22⟩
        obtain ⟨A22, c22, rfl, hI22⟩ := ho22.form
        clear hcU0 hcU1
        have HB_112 := Lib.hid (below_more HB_110.out hb22)
        have HK_112 := Lib.hid (HK_110.out.below hb22)
        have HU_112 := Lib.hid (HU_111.out.below hb22)
        clear HB_110 HK_110 HU_111
        have HD_113 := Lib.hid (hI22)
        clear hI22 ho22 hb22
        have HB_114 := Lib.hid (below_more HB_112.out (below_alloc1 w22 (.cells #[.int .i64 (dualX u k), .slice A22 (dualI u k).length c22] 40)))
        have HK_114 := Lib.hid (HK_112.out.below (below_alloc1 w22 (.cells #[.int .i64 (dualX u k), .slice A22 (dualI u k).length c22] 40)))
        have HU_114 := Lib.hid (HU_112.out.alloc1 (.cells #[.int .i64 (dualX u k), .slice A22 (dualI u k).length c22] 40))
        have HD_114 := Lib.hid (HD_113.out.below (below_alloc1 w22 (.cells #[.int .i64 (dualX u k), .slice A22 (dualI u k).length c22] 40)))
        clear HB_112 HK_112 HU_112 HD_113
        have HE_115 := Lib.hid (Boxd.new w22 40 (dualX u k) (.slice A22 (dualI u k).length c22))
        have hcU0 := HU_114.out.cell0
        have hcU1 := HU_114.out.cell1
        go_wp2_with fail
        generalize w22.alloc (.cells #[.int .i64 (dualX u k), .slice A22 (dualI u k).length c22] 40) = w23 at *
        refine (sDual_any u A20 k c20 _ HK_114.out (by omega)).mono ?_
        rintro e w24 ⟨v24, rfl, ho24, hb24⟩
        obtain ⟨A24, c24, rfl, hI24⟩ := ho24.form
        clear hcU0 hcU1
        have HB_116 := Lib.hid (below_more HB_114.out hb24)
        have HK_116 := Lib.hid (HK_114.out.below hb24)
        have HU_116 := Lib.hid (HU_114.out.below hb24)
        have HD_116 := Lib.hid (HD_114.out.below hb24)
        have HE_116 := Lib.hid (HE_115.out.below hb24)
        clear HB_114 HK_114 HU_114 HD_114 HE_115
        have HS_117 := Lib.hid (hI24)
        clear hI24 ho24 hb24
        have HB_118 := Lib.hid (below_more HB_116.out (below_alloc1 w24 (.cells #[.int .i64 (dualX u k), .slice A24 (dualI u k).length c24] 40)))
        have HK_118 := Lib.hid (HK_116.out.below (below_alloc1 w24 (.cells #[.int .i64 (dualX u k), .slice A24 (dualI u k).length c24] 40)))
        have HU_118 := Lib.hid (HU_116.out.alloc1 (.cells #[.int .i64 (dualX u k), .slice A24 (dualI u k).length c24] 40))
        have HD_118 := Lib.hid (HD_116.out.below (below_alloc1 w24 (.cells #[.int .i64 (dualX u k), .slice A24 (dualI u k).length c24] 40)))
        have HE_118 := Lib.hid (HE_116.out.alloc1 (.cells #[.int .i64 (dualX u k), .slice A24 (dualI u k).length c24] 40))
        have HS_118 := Lib.hid (HS_117.out.below (below_alloc1 w24 (.cells #[.int .i64 (dualX u k), .slice A24 (dualI u k).length c24] 40)))
        clear HB_116 HK_116 HU_116 HD_116 HE_116 HS_117
        have HF_119 := Lib.hid (Boxd.new w24 40 (dualX u k) (.slice A24 (dualI u k).length c24))
        have hcU0 := HU_118.out.cell0
        have hcU1 := HU_118.out.cell1
        go_wp2_with fail
        generalize w24.alloc (.cells #[.int .i64 (dualX u k), .slice A24 (dualI u k).length c24] 40) = w25 at *
        refine (iChecks_any u A20 k c20 _ (HT.out.below HB_118.out) HK_118.out (by omega)).mono ?_
        rintro e w26 ⟨v26, rfl, ho26, hb26⟩
        obtain ⟨A26, c26, rfl, hI26⟩ := ho26.form
        clear hcU0 hcU1
        have HB_120 := Lib.hid (below_more HB_118.out hb26)
        have HK_120 := Lib.hid (HK_118.out.below hb26)
        have HU_120 := Lib.hid (HU_118.out.below hb26)
        have HD_120 := Lib.hid (HD_118.out.below hb26)
        have HE_120 := Lib.hid (HE_118.out.below hb26)
        have HS_120 := Lib.hid (HS_118.out.below hb26)
        have HF_120 := Lib.hid (HF_119.out.below hb26)
        clear HB_118 HK_118 HU_118 HD_118 HE_118 HS_118 HF_119
        have HP_121 := Lib.hid (hI26)
        clear hI26 ho26 hb26
        have hcU0 := HU_120.out.cell0
        have hcU1 := HU_120.out.cell1
        go_wp2_with fail
        refine (sChecks_any u A20 k c20 _ HK_120.out (by omega)).mono ?_
        rintro e w27 ⟨v27, rfl, ho27, hb27⟩
        obtain ⟨A27, c27, rfl, hI27⟩ := ho27.form
        clear hcU0 hcU1
        have HB_122 := Lib.hid (below_more HB_120.out hb27)
        have HK_122 := Lib.hid (HK_120.out.below hb27)
        have HU_122 := Lib.hid (HU_120.out.below hb27)
        have HD_122 := Lib.hid (HD_120.out.below hb27)
        have HE_122 := Lib.hid (HE_120.out.below hb27)
        have HS_122 := Lib.hid (HS_120.out.below hb27)
        have HF_122 := Lib.hid (HF_120.out.below hb27)
        have HP_122 := Lib.hid (HP_121.out.below hb27)
        clear HB_120 HK_120 HU_120 HD_120 HE_120 HS_120 HF_120 HP_121
        have HQ_123 := Lib.hid (hI27)
        clear hI27 ho27 hb27
        have hcE0 := HE_122.out.cell0
        have hcE1 := HE_122.out.cell1
        have hcF0 := HF_122.out.cell0
        have hcF1 := HF_122.out.cell1
        go_wp2_with fail
        refine (sameCode_any (dualX u k) (dualX u k) A22 A24 _ _ c22 c24 _ HD_122.out HS_122.out (by omega)).mono ?_
        rintro e w28 ⟨rfl, hb28⟩
        clear hcE0 hcE1 hcF0 hcF1
        have HB_124 := Lib.hid (below_more HB_122.out hb28)
        have HK_124 := Lib.hid (HK_122.out.below hb28)
        have HU_124 := Lib.hid (HU_122.out.below hb28)
        have HD_124 := Lib.hid (HD_122.out.below hb28)
        have HE_124 := Lib.hid (HE_122.out.below hb28)
        have HS_124 := Lib.hid (HS_122.out.below hb28)
        have HF_124 := Lib.hid (HF_122.out.below hb28)
        have HP_124 := Lib.hid (HP_122.out.below hb28)
        have HQ_124 := Lib.hid (HQ_123.out.below hb28)
        clear HB_122 HK_122 HU_122 HD_122 HE_122 HS_122 HF_122 HP_122 HQ_123
        clear hb28
        go_wp2_with fail
        refine (sameInts_any A26 A27 _ _ c26 c27 _ HP_124.out HQ_124.out (by omega)).mono ?_
        rintro e w29 ⟨rfl, n29, rfl⟩
        have hd29 : Below w28.heap.size w28 (w28.drewN n29) := below_drewN' n29
        have HB_125 := Lib.hid (below_more HB_124.out hd29)
        have HK_125 := Lib.hid (HK_124.out.below hd29)
        have HU_125 := Lib.hid (HU_124.out.below hd29)
        have HD_125 := Lib.hid (HD_124.out.below hd29)
        have HE_125 := Lib.hid (HE_124.out.below hd29)
        have HS_125 := Lib.hid (HS_124.out.below hd29)
        have HF_125 := Lib.hid (HF_124.out.below hd29)
        have HP_125 := Lib.hid (HP_124.out.below hd29)
        have HQ_125 := Lib.hid (HQ_124.out.below hd29)
        clear HB_124 HK_124 HU_124 HD_124 HE_124 HS_124 HF_124 HP_124 HQ_124
        clear hd29
        generalize w28.drewN n29 = w29 at *
        clear HP_125 HQ_125 HS_125 HF_125
        cases hdu : dualOkB u k
        · clear hdl hcl
          go_wp2_with fail
          go_ret
          exact ⟨rfl, HB_125.out⟩
        · obtain ⟨q1, q2, q3, q4, q5⟩ := dual_code hdu
          have hdx : dualX u k = u := by rw [dualX, if_pos hdu]
          have hdi : dualI u k = nullI u k := by rw [dualI, if_pos hdu]
          have hdd : dualI u (nullI u k) = nullI u (nullI u k) := by rw [dualI, if_pos q2]
          have hnl := nullI_len u k
          have hnl2 := nullI_len u (nullI u k)
          have HI9 := Lib.hid (fun (A : Option Addr) (c : Nat) (w : World) (ht : Tab w) (ha : Ints w A (nullI u k)) => iDual_any u A (nullI u k) c w ht ha (by omega))
          rw [q2, hdd] at HI9
          have HI10 := Lib.hid (fun (A A' : Option Addr) (c c' : Nat) (w : World) (ht : Tab w) (ha : Ints w A (nullI u (nullI u k))) (hb : Ints w A' k) => iSame_any u A A' (nullI u (nullI u k)) k c c' w ht ha hb (by omega) (by omega))
          rw [q4, q5] at HI10
          rw [hdi] at HD_125
          rw [hdx, hdi] at HE_125
          rw [hdx, hdi]
          have hsum : ((nullI u k).length : Int) + (k.length : Int) = u := q3
          clear q1 q2 q3 q4 q5 hdd hdu hdq hcl hdl hdx hdi
          generalize nullI u (nullI u k) = N2 at *
          generalize nullI u k = N1 at *
          have hcE0 := HE_125.out.cell0
          have hcE1 := HE_125.out.cell1
          go_wp2_with fail
          refine (HI9.out A22 c22 _ (HT.out.below HB_125.out) HD_125.out).mono ?_
          rintro e w30 ⟨v30, rfl, ho30, hb30⟩
          obtain ⟨A30, c30, rfl, hI30⟩ := ho30.form
          clear hcE0 hcE1
          have HB_126 := Lib.hid (below_more HB_125.out hb30)
          have HK_126 := Lib.hid (HK_125.out.below hb30)
          have HU_126 := Lib.hid (HU_125.out.below hb30)
          have HD_126 := Lib.hid (HD_125.out.below hb30)
          have HE_126 := Lib.hid (HE_125.out.below hb30)
          clear HB_125 HK_125 HU_125 HD_125 HE_125
          have HR_127 := Lib.hid (hI30)
          clear hI30 ho30 hb30
          generalize dualX u N1 = dx at *
          have HB_128 := Lib.hid (below_more HB_126.out (below_alloc1 w30 (.cells #[.int .i64 dx, .slice A30 N2.length c30] 40)))
          have HK_128 := Lib.hid (HK_126.out.below (below_alloc1 w30 (.cells #[.int .i64 dx, .slice A30 N2.length c30] 40)))
          have HU_128 := Lib.hid (HU_126.out.alloc1 (.cells #[.int .i64 dx, .slice A30 N2.length c30] 40))
          have HD_128 := Lib.hid (HD_126.out.below (below_alloc1 w30 (.cells #[.int .i64 dx, .slice A30 N2.length c30] 40)))
          have HE_128 := Lib.hid (HE_126.out.alloc1 (.cells #[.int .i64 dx, .slice A30 N2.length c30] 40))
          have HR_128 := Lib.hid (HR_127.out.below (below_alloc1 w30 (.cells #[.int .i64 dx, .slice A30 N2.length c30] 40)))
          clear HB_126 HK_126 HU_126 HD_126 HE_126 HR_127
          have HG_129 := Lib.hid (Boxd.new w30 40 dx (.slice A30 N2.length c30))
          have hcU0 := HU_128.out.cell0
          have hcU1 := HU_128.out.cell1
          have hcG0 := HG_129.out.cell0
          have hcG1 := HG_129.out.cell1
          go_wp2_with fail
          generalize w30.alloc (.cells #[.int .i64 dx, .slice A30 N2.length c30] 40) = w31 at *
          refine (HI10.out A30 A20 c30 c20 _ (HT.out.below HB_128.out) HR_128.out HK_128.out).mono ?_
          rintro e w32 ⟨rfl, hb32⟩
          clear hcU0 hcU1 hcG0 hcG1
          have HB_130 := Lib.hid (below_more HB_128.out hb32)
          have HK_130 := Lib.hid (HK_128.out.below hb32)
          have HU_130 := Lib.hid (HU_128.out.below hb32)
          have HD_130 := Lib.hid (HD_128.out.below hb32)
          have HE_130 := Lib.hid (HE_128.out.below hb32)
          have HR_130 := Lib.hid (HR_128.out.below hb32)
          have HG_130 := Lib.hid (HG_129.out.below hb32)
          clear HB_128 HK_128 HU_128 HD_128 HE_128 HR_128 HG_129
          clear hb32
          have hcU0 := HU_130.out.cell0
          have hcU1 := HU_130.out.cell1
          have hcE0 := HE_130.out.cell0
          have hcE1 := HE_130.out.cell1
          go_wp2_with fail
          go_ret
          exact ⟨by simp, HB_130.out⟩
    · rw [hb2] at hs
      have hs0 : (synI x l y == 0) = true := hs.symm
      clear hs
      have HI1 := Lib.hid (fun (w : World) (ht : Tab w) (ha : Ints w A1 l) => iSyn_any x A1 l c1 y w ht ha (by omega))
      have HS1 := Lib.hid (fun (w : World) (ha : Ints w A1 l) => sSyn_any x A1 l c1 y w ha (by omega))
      have HI2 := Lib.hid (fun (w : World) (ht : Tab w) (ha : Ints w A1 l) => iBitsFrom_any x A1 l c1 y w ht ha (by omega))
      have HS2 := Lib.hid (fun (w : World) (ha : Ints w A1 l) => sBitsFrom_any x A1 l c1 y w ha (by omega) hcap1)
      have HI3 := Lib.hid (fun (w : World) (ht : Tab w) (ha : Ints w A1 l) => iCode_any x A1 l c1 w ht ha (by omega))
      have HS3 := Lib.hid (fun (w : World) (ha : Ints w A1 l) => sCode_any x A1 l c1 w ha (by omega))
      rw [hb1] at HI1 HS1
      rw [hb2] at HI2 HS2
      obtain ⟨hw1, hw2⟩ := bits_word hb2
      have HW := Lib.hid (fun (w : World) (ht : Tab w) (ha : Ints w A1 l) => iWord_any x A1 l c1 (bitsFI x l y) w ht ha (by omega))
      rw [hw1, hw2] at HW
      clear hw1 hw2
      clear hb1 hb2
      generalize synI x l y = V1 at *
      generalize bitsFI x l y = V2 at *
      generalize codeB x l = b3 at *
      have HL_101 := Lib.hid (HL0.out.below (below_alloc1 w1 (.cells #[.int .i64 x, .slice A1 l.length c1] 40)))
      have HB_101 := Lib.hid (below_more HB0.out (below_alloc1 w1 (.cells #[.int .i64 x, .slice A1 l.length c1] 40)))
      have HM_101 := Lib.hid (HM0.out.stay (below_alloc1 w1 (.cells #[.int .i64 x, .slice A1 l.length c1] 40)))
      clear HL0 HB0 HM0
      have HC_102 := Lib.hid (Boxd.new w1 40 x (.slice A1 l.length c1))
      have hcC0 := HC_102.out.cell0
      have hcC1 := HC_102.out.cell1
      go_wp2_with fail
      generalize w1.alloc (.cells #[.int .i64 x, .slice A1 l.length c1] 40) = w2 at *
      refine (HI1.out _ (HT.out.below HB_101.out) HL_101.out).mono ?_
      rintro e w3 ⟨rfl, hb3⟩
      clear hcC0 hcC1
      have HL_103 := Lib.hid (HL_101.out.below hb3)
      have HB_103 := Lib.hid (below_more HB_101.out hb3)
      have HM_103 := Lib.hid (HM_101.out.stay hb3)
      have HC_103 := Lib.hid (HC_102.out.below hb3)
      clear HL_101 HB_101 HM_101 HC_102
      clear hb3
      have hcC0 := HC_103.out.cell0
      have hcC1 := HC_103.out.cell1
      go_wp2_with fail
      refine (HS1.out _ HL_103.out).mono ?_
      rintro e w4 ⟨rfl, hb4⟩
      clear hcC0 hcC1
      have HL_104 := Lib.hid (HL_103.out.below hb4)
      have HB_104 := Lib.hid (below_more HB_103.out hb4)
      have HM_104 := Lib.hid (HM_103.out.stay hb4)
      have HC_104 := Lib.hid (HC_103.out.below hb4)
      clear HL_103 HB_103 HM_103 HC_103
      clear hb4
      have hcC0 := HC_104.out.cell0
      have hcC1 := HC_104.out.cell1
      go_wp2_with fail
      refine (HI2.out _ (HT.out.below HB_104.out) HL_104.out).mono ?_
      rintro e w5 ⟨rfl, hb5⟩
      clear hcC0 hcC1
      have HL_105 := Lib.hid (HL_104.out.below hb5)
      have HB_105 := Lib.hid (below_more HB_104.out hb5)
      have HM_105 := Lib.hid (HM_104.out.stay hb5)
      have HC_105 := Lib.hid (HC_104.out.below hb5)
      clear HL_104 HB_104 HM_104 HC_104
      clear hb5
      have hcC0 := HC_105.out.cell0
      have hcC1 := HC_105.out.cell1
      go_wp2_with fail
      refine (HS2.out _ HL_105.out).mono ?_
      rintro e w6 ⟨rfl, hb6⟩
      clear hcC0 hcC1
      have HL_106 := Lib.hid (HL_105.out.below hb6)
      have HB_106 := Lib.hid (below_more HB_105.out hb6)
      have HM_106 := Lib.hid (HM_105.out.stay hb6)
      have HC_106 := Lib.hid (HC_105.out.below hb6)
      clear HL_105 HB_105 HM_105 HC_105
      clear hb6
      have hcC0 := HC_106.out.cell0
      have hcC1 := HC_106.out.cell1
      go_wp2_with fail
      generalize hg1 : w1.heap.size = g1 at *
      have HT6 := Lib.hid (HT.out.below HB_106.out)
      go_region_held3 (fun w' => w'.cell? ⟨g1, 0, none⟩ = some (.int .i64 x) ∧ w'.cell? ⟨g1, 1, none⟩ = some (.slice A1 l.length c1))
        (first | exact ⟨hcC0, hcC1⟩ | exact ⟨hp0, hp1⟩ | exact ⟨hr0, hr1⟩ | go_keep) (first
        | (go_at_call 31; refine (HI3.out _ (HT6.out.below below_drew1) HL_106.out.drew1).mono ?_; rintro e w7 ⟨rfl, hb7⟩; have HC7 := Lib.hid (HC_106.out.drew1.below hb7); have hp0 := HC7.out.cell0; have hp1 := HC7.out.cell1)
        | (go_at_call 32; refine (HS3.out w7 (HL_106.out.drew1.below hb7)).mono ?_; rintro e w8 ⟨rfl, hb8⟩; have HC8 := Lib.hid (HC7.out.below hb8); have hr0 := HC8.out.cell0; have hr1 := HC8.out.cell1))
      all_goals
        subst hg1
        have hb68 : Below w6.heap.size w6 w8 := below_more below_drew1 (below_more hb7 hb8)
        clear hp0 hp1 hr0 hr1 HC7 HC8 hb7 hb8 HT6
        clear hcC0 hcC1
        have HL_107 := Lib.hid (HL_106.out.below hb68)
        have HB_107 := Lib.hid (below_more HB_106.out hb68)
        have HM_107 := Lib.hid (HM_106.out.stay hb68)
        have HC_107 := Lib.hid (HC_106.out.below hb68)
        clear HL_106 HB_106 HM_106 HC_106
        clear hb68
        have hcC0 := HC_107.out.cell0
        have hcC1 := HC_107.out.cell1
        go_wp2_with fail
        refine (HW.out _ (HT.out.below HB_107.out) HL_107.out).mono ?_
        rintro e w9 ⟨rfl, hb9⟩
        clear hcC0 hcC1
        have HL_108 := Lib.hid (HL_107.out.below hb9)
        have HB_108 := Lib.hid (below_more HB_107.out hb9)
        have HM_108 := Lib.hid (HM_107.out.stay hb9)
        have HC_108 := Lib.hid (HC_107.out.below hb9)
        clear HL_107 HB_107 HM_107 HC_107
        clear hb9
        clear HC_108 HL_108
        go_wp2_with fail
        refine (drawDual B zb cb _ HM_108.out).mono ?_
        rintro e w20 ⟨u, v20, k, rfl, ho20, hl20, hb20⟩
        obtain ⟨A20, c20, rfl, hI20⟩ := ho20.form
        clear HM_108
        have HB_109 := Lib.hid (below_more HB_108.out hb20)
        clear HB_108
        have HK_110 := Lib.hid (hI20)
        clear hI20 ho20 hb20
        have HB_111 := Lib.hid (below_more HB_109.out (below_alloc1 w20 (.cells #[.int .i64 u, .slice A20 k.length c20] 40)))
        have HK_111 := Lib.hid (HK_110.out.below (below_alloc1 w20 (.cells #[.int .i64 u, .slice A20 k.length c20] 40)))
        clear HB_109 HK_110
        have HU_112 := Lib.hid (Boxd.new w20 40 u (.slice A20 k.length c20))
        have hdl := dualI_len u k
        have hcl := checksI_len u k
        have hdq := eqL_self (dualI u k)
        have hcq := eqL_self (checksI u k)
        have hcU0 := HU_112.out.cell0
        have hcU1 := HU_112.out.cell1
        go_wp2_with fail
        generalize w20.alloc (.cells #[.int .i64 u, .slice A20 k.length c20] 40) = w21 at *
        refine (iDual_any u A20 k c20 _ (HT.out.below HB_111.out) HK_111.out (by omega)).mono ?_
        rintro e w22 ⟨v22, rfl, ho22, hb22⟩
        obtain ⟨A22, c22, rfl, hI22⟩ := ho22.form
        clear hcU0 hcU1
        have HB_113 := Lib.hid (below_more HB_111.out hb22)
        have HK_113 := Lib.hid (HK_111.out.below hb22)
        have HU_113 := Lib.hid (HU_112.out.below hb22)
        clear HB_111 HK_111 HU_112
        have HD_114 := Lib.hid (hI22)
        clear hI22 ho22 hb22
        have HB_115 := Lib.hid (below_more HB_113.out (below_alloc1 w22 (.cells #[.int .i64 (dualX u k), .slice A22 (dualI u k).length c22] 40)))
        have HK_115 := Lib.hid (HK_113.out.below (below_alloc1 w22 (.cells #[.int .i64 (dualX u k), .slice A22 (dualI u k).length c22] 40)))
        have HU_115 := Lib.hid (HU_113.out.alloc1 (.cells #[.int .i64 (dualX u k), .slice A22 (dualI u k).length c22] 40))
        have HD_115 := Lib.hid (HD_114.out.below (below_alloc1 w22 (.cells #[.int .i64 (dualX u k), .slice A22 (dualI u k).length c22] 40)))
        clear HB_113 HK_113 HU_113 HD_114
        have HE_116 := Lib.hid (Boxd.new w22 40 (dualX u k) (.slice A22 (dualI u k).length c22))
        have hcU0 := HU_115.out.cell0
        have hcU1 := HU_115.out.cell1
        go_wp2_with fail
        generalize w22.alloc (.cells #[.int .i64 (dualX u k), .slice A22 (dualI u k).length c22] 40) = w23 at *
        refine (sDual_any u A20 k c20 _ HK_115.out (by omega)).mono ?_
        rintro e w24 ⟨v24, rfl, ho24, hb24⟩
        obtain ⟨A24, c24, rfl, hI24⟩ := ho24.form
        clear hcU0 hcU1
        have HB_117 := Lib.hid (below_more HB_115.out hb24)
        have HK_117 := Lib.hid (HK_115.out.below hb24)
        have HU_117 := Lib.hid (HU_115.out.below hb24)
        have HD_117 := Lib.hid (HD_115.out.below hb24)
        have HE_117 := Lib.hid (HE_116.out.below hb24)
        clear HB_115 HK_115 HU_115 HD_115 HE_116
        have HS_118 := Lib.hid (hI24)
        clear hI24 ho24 hb24
        have HB_119 := Lib.hid (below_more HB_117.out (below_alloc1 w24 (.cells #[.int .i64 (dualX u k), .slice A24 (dualI u k).length c24] 40)))
        have HK_119 := Lib.hid (HK_117.out.below (below_alloc1 w24 (.cells #[.int .i64 (dualX u k), .slice A24 (dualI u k).length c24] 40)))
        have HU_119 := Lib.hid (HU_117.out.alloc1 (.cells #[.int .i64 (dualX u k), .slice A24 (dualI u k).length c24] 40))
        have HD_119 := Lib.hid (HD_117.out.below (below_alloc1 w24 (.cells #[.int .i64 (dualX u k), .slice A24 (dualI u k).length c24] 40)))
        have HE_119 := Lib.hid (HE_117.out.alloc1 (.cells #[.int .i64 (dualX u k), .slice A24 (dualI u k).length c24] 40))
        have HS_119 := Lib.hid (HS_118.out.below (below_alloc1 w24 (.cells #[.int .i64 (dualX u k), .slice A24 (dualI u k).length c24] 40)))
        clear HB_117 HK_117 HU_117 HD_117 HE_117 HS_118
        have HF_120 := Lib.hid (Boxd.new w24 40 (dualX u k) (.slice A24 (dualI u k).length c24))
        have hcU0 := HU_119.out.cell0
        have hcU1 := HU_119.out.cell1
        go_wp2_with fail
        generalize w24.alloc (.cells #[.int .i64 (dualX u k), .slice A24 (dualI u k).length c24] 40) = w25 at *
        refine (iChecks_any u A20 k c20 _ (HT.out.below HB_119.out) HK_119.out (by omega)).mono ?_
        rintro e w26 ⟨v26, rfl, ho26, hb26⟩
        obtain ⟨A26, c26, rfl, hI26⟩ := ho26.form
        clear hcU0 hcU1
        have HB_121 := Lib.hid (below_more HB_119.out hb26)
        have HK_121 := Lib.hid (HK_119.out.below hb26)
        have HU_121 := Lib.hid (HU_119.out.below hb26)
        have HD_121 := Lib.hid (HD_119.out.below hb26)
        have HE_121 := Lib.hid (HE_119.out.below hb26)
        have HS_121 := Lib.hid (HS_119.out.below hb26)
        have HF_121 := Lib.hid (HF_120.out.below hb26)
        clear HB_119 HK_119 HU_119 HD_119 HE_119 HS_119 HF_120
        have HP_122 := Lib.hid (hI26)
        clear hI26 ho26 hb26
        have hcU0 := HU_121.out.cell0
        have hcU1 := HU_121.out.cell1
        go_wp2_with fail
        refine (sChecks_any u A20 k c20 _ HK_121.out (by omega)).mono ?_
        rintro e w27 ⟨v27, rfl, ho27, hb27⟩
        obtain ⟨A27, c27, rfl, hI27⟩ := ho27.form
        clear hcU0 hcU1
        have HB_123 := Lib.hid (below_more HB_121.out hb27)
        have HK_123 := Lib.hid (HK_121.out.below hb27)
        have HU_123 := Lib.hid (HU_121.out.below hb27)
        have HD_123 := Lib.hid (HD_121.out.below hb27)
        have HE_123 := Lib.hid (HE_121.out.below hb27)
        have HS_123 := Lib.hid (HS_121.out.below hb27)
        have HF_123 := Lib.hid (HF_121.out.below hb27)
        have HP_123 := Lib.hid (HP_122.out.below hb27)
        clear HB_121 HK_121 HU_121 HD_121 HE_121 HS_121 HF_121 HP_122
        have HQ_124 := Lib.hid (hI27)
        clear hI27 ho27 hb27
        have hcE0 := HE_123.out.cell0
        have hcE1 := HE_123.out.cell1
        have hcF0 := HF_123.out.cell0
        have hcF1 := HF_123.out.cell1
        go_wp2_with fail
        refine (sameCode_any (dualX u k) (dualX u k) A22 A24 _ _ c22 c24 _ HD_123.out HS_123.out (by omega)).mono ?_
        rintro e w28 ⟨rfl, hb28⟩
        clear hcE0 hcE1 hcF0 hcF1
        have HB_125 := Lib.hid (below_more HB_123.out hb28)
        have HK_125 := Lib.hid (HK_123.out.below hb28)
        have HU_125 := Lib.hid (HU_123.out.below hb28)
        have HD_125 := Lib.hid (HD_123.out.below hb28)
        have HE_125 := Lib.hid (HE_123.out.below hb28)
        have HS_125 := Lib.hid (HS_123.out.below hb28)
        have HF_125 := Lib.hid (HF_123.out.below hb28)
        have HP_125 := Lib.hid (HP_123.out.below hb28)
        have HQ_125 := Lib.hid (HQ_124.out.below hb28)
        clear HB_123 HK_123 HU_123 HD_123 HE_123 HS_123 HF_123 HP_123 HQ_124
        clear hb28
        go_wp2_with fail
        refine (sameInts_any A26 A27 _ _ c26 c27 _ HP_125.out HQ_125.out (by omega)).mono ?_
        rintro e w29 ⟨rfl, n29, rfl⟩
        have hd29 : Below w28.heap.size w28 (w28.drewN n29) := below_drewN' n29
        have HB_126 := Lib.hid (below_more HB_125.out hd29)
        have HK_126 := Lib.hid (HK_125.out.below hd29)
        have HU_126 := Lib.hid (HU_125.out.below hd29)
        have HD_126 := Lib.hid (HD_125.out.below hd29)
        have HE_126 := Lib.hid (HE_125.out.below hd29)
        have HS_126 := Lib.hid (HS_125.out.below hd29)
        have HF_126 := Lib.hid (HF_125.out.below hd29)
        have HP_126 := Lib.hid (HP_125.out.below hd29)
        have HQ_126 := Lib.hid (HQ_125.out.below hd29)
        clear HB_125 HK_125 HU_125 HD_125 HE_125 HS_125 HF_125 HP_125 HQ_125
        clear hd29
        generalize w28.drewN n29 = w29 at *
        clear HP_126 HQ_126 HS_126 HF_126
        cases hdu : dualOkB u k
        · clear hdl hcl
          go_wp2_with fail
          go_ret
          exact ⟨rfl, HB_126.out⟩
        · obtain ⟨q1, q2, q3, q4, q5⟩ := dual_code hdu
          have hdx : dualX u k = u := by rw [dualX, if_pos hdu]
          have hdi : dualI u k = nullI u k := by rw [dualI, if_pos hdu]
          have hdd : dualI u (nullI u k) = nullI u (nullI u k) := by rw [dualI, if_pos q2]
          have hnl := nullI_len u k
          have hnl2 := nullI_len u (nullI u k)
          have HI9 := Lib.hid (fun (A : Option Addr) (c : Nat) (w : World) (ht : Tab w) (ha : Ints w A (nullI u k)) => iDual_any u A (nullI u k) c w ht ha (by omega))
          rw [q2, hdd] at HI9
          have HI10 := Lib.hid (fun (A A' : Option Addr) (c c' : Nat) (w : World) (ht : Tab w) (ha : Ints w A (nullI u (nullI u k))) (hb : Ints w A' k) => iSame_any u A A' (nullI u (nullI u k)) k c c' w ht ha hb (by omega) (by omega))
          rw [q4, q5] at HI10
          rw [hdi] at HD_126
          rw [hdx, hdi] at HE_126
          rw [hdx, hdi]
          have hsum : ((nullI u k).length : Int) + (k.length : Int) = u := q3
          clear q1 q2 q3 q4 q5 hdd hdu hdq hcl hdl hdx hdi
          generalize nullI u (nullI u k) = N2 at *
          generalize nullI u k = N1 at *
          have hcE0 := HE_126.out.cell0
          have hcE1 := HE_126.out.cell1
          go_wp2_with fail
          refine (HI9.out A22 c22 _ (HT.out.below HB_126.out) HD_126.out).mono ?_
          rintro e w30 ⟨v30, rfl, ho30, hb30⟩
          obtain ⟨A30, c30, rfl, hI30⟩ := ho30.form
          clear hcE0 hcE1
          have HB_127 := Lib.hid (below_more HB_126.out hb30)
          have HK_127 := Lib.hid (HK_126.out.below hb30)
          have HU_127 := Lib.hid (HU_126.out.below hb30)
          have HD_127 := Lib.hid (HD_126.out.below hb30)
          have HE_127 := Lib.hid (HE_126.out.below hb30)
          clear HB_126 HK_126 HU_126 HD_126 HE_126
          have HR_128 := Lib.hid (hI30)
          clear hI30 ho30 hb30
          generalize dualX u N1 = dx at *
          have HB_129 := Lib.hid (below_more HB_127.out (below_alloc1 w30 (.cells #[.int .i64 dx, .slice A30 N2.length c30] 40)))
          have HK_129 := Lib.hid (HK_127.out.below (below_alloc1 w30 (.cells #[.int .i64 dx, .slice A30 N2.length c30] 40)))
          have HU_129 := Lib.hid (HU_127.out.alloc1 (.cells #[.int .i64 dx, .slice A30 N2.length c30] 40))
          have HD_129 := Lib.hid (HD_127.out.below (below_alloc1 w30 (.cells #[.int .i64 dx, .slice A30 N2.length c30] 40)))
          have HE_129 := Lib.hid (HE_127.out.alloc1 (.cells #[.int .i64 dx, .slice A30 N2.length c30] 40))
          have HR_129 := Lib.hid (HR_128.out.below (below_alloc1 w30 (.cells #[.int .i64 dx, .slice A30 N2.length c30] 40)))
          clear HB_127 HK_127 HU_127 HD_127 HE_127 HR_128
          have HG_130 := Lib.hid (Boxd.new w30 40 dx (.slice A30 N2.length c30))
          have hcU0 := HU_129.out.cell0
          have hcU1 := HU_129.out.cell1
          have hcG0 := HG_130.out.cell0
          have hcG1 := HG_130.out.cell1
          go_wp2_with fail
          generalize w30.alloc (.cells #[.int .i64 dx, .slice A30 N2.length c30] 40) = w31 at *
          refine (HI10.out A30 A20 c30 c20 _ (HT.out.below HB_129.out) HR_129.out HK_129.out).mono ?_
          rintro e w32 ⟨rfl, hb32⟩
          clear hcU0 hcU1 hcG0 hcG1
          have HB_131 := Lib.hid (below_more HB_129.out hb32)
          have HK_131 := Lib.hid (HK_129.out.below hb32)
          have HU_131 := Lib.hid (HU_129.out.below hb32)
          have HD_131 := Lib.hid (HD_129.out.below hb32)
          have HE_131 := Lib.hid (HE_129.out.below hb32)
          have HR_131 := Lib.hid (HR_129.out.below hb32)
          have HG_131 := Lib.hid (HG_130.out.below hb32)
          clear HB_129 HK_129 HU_129 HD_129 HE_129 HR_129 HG_130
          clear hb32
          have hcU0 := HU_131.out.cell0
          have hcU1 := HU_131.out.cell1
          have hcE0 := HE_131.out.cell0
          have hcE1 := HE_131.out.cell1
          go_wp2_with fail
          go_ret
          exact ⟨by simp, HB_131.out⟩

set_option maxRecDepth 100000 in
set_option maxHeartbeats 1000000 in
theorem code_law (A : Option Addr) (za : List Int) (ca : Nat) (B : Option Addr) (zb : List Int) (cb : Nat) (w : World) (ht : Tab w) (ha : Byts w w.heap.size A za) (hb : Byts w w.heap.size B zb) (hla : za.length ≤ 140737488355328) (hlb : zb.length ≤ 140737488355328) :
    Calls Tryd.prog 4 #[.slice A za.length ca, .slice B zb.length cb] w fun e w' => e = .returned (.bool true) ∧ Below w.heap.size w w' := by
  by_cases hl : za.length + zb.length ≤ 1048576
  · exact code_small A B za zb ca cb w ht ha hb hl
  · have hl' : (1048576 : Int) < (za.length : Int) + (zb.length : Int) := by omega
    go_enter Tryd.func4, Tryd.ntmps4
    go_wp2_with fail
    go_ret
    exact ⟨rfl, Below.refl _ _⟩
end Go.Proofs.YtfkojlpihpgnaaaDoor
