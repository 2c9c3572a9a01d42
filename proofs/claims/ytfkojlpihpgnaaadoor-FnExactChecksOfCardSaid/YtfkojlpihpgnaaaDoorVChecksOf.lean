/-
  The law of ChecksOf, walked: it returns true, and turns nothing that lay in memory.
-/
import Derived.Test.YtfkojlpihpgnaaaDoorNA
namespace Go.Proofs.YtfkojlpihpgnaaaDoor
open Go.RowKit

set_option maxRecDepth 100000 in
set_option maxHeartbeats 4000000 in
theorem checksOf_law (x : Int) (A : Option Addr) (zs : List Int) (ca : Nat) (w : World) (ht : Tab w) (hzs : Ints w A zs) (hz : zs.length ≤ 9223372036854775807) :
    Calls Tryd.prog 9 #[codeV x (.slice A zs.length ca)] w fun e w' => e = .returned (.bool true) ∧ Below w.heap.size w w' := by
  have HX0 := Lib.hid (Boxd.new w 59 x (.slice A zs.length ca))
  have HB0 := Lib.hid (below_alloc1 w (.cells #[.int .i64 x, .slice A zs.length ca] 59))
  by_cases hl : zs.length ≤ 1048576
  · have hn : ¬ ((1048576 : Int) - (zs.length : Int) < 0) := by omega
    have hlen : (checksI x zs).length ≤ 16 := checksI_len x zs
    have hqz := eqL_self zs
    have HS := Lib.hid (fun (A : Option Addr) (ca : Nat) (w : World) (ha : Ints w A zs) => sChecks_any x A zs ca w ha hl)
    have HI := Lib.hid (fun (A : Option Addr) (ca : Nat) (w : World) (ht : Tab w) (ha : Ints w A zs) => iChecks_any x A zs ca w ht ha hl)
    have HT := Lib.hid ht
    have HA := Lib.hid hzs
    clear ht hzs
    generalize checksI x zs = V at *
    generalize codeB x zs = b at *
    have hq := eqL_self V
    have hml := marks_length 1 V.length
    go_enter Tryd.func9, Tryd.ntmps9
    go_wp2_with fail
    refine (szCode_ok x A zs.length ca _ hl).mono ?_
    rintro e w1 ⟨rfl, hb1⟩
    have HX1 := Lib.hid (HX0.out.below hb1)
    have HB1 := Lib.hid (below_more HB0.out hb1)
    have hk0 := HX1.out.cell0
    have hk1 := HX1.out.cell1
    clear hb1 HX0 HB0
    go_wp2_with fail
    refine (toCode_any x A zs ca _ (HA.out.below HB1.out) (by omega)).mono ?_
    rintro e w2 ⟨v2, rfl, ho2, hb2⟩
    obtain ⟨A2, c2, rfl, hcap2, hI2⟩ := ho2.formC
    have HI2 := Lib.hid hI2
    have HX2 := Lib.hid (HX1.out.below hb2)
    have HB2 := Lib.hid (below_more HB1.out hb2)
    clear hI2 ho2 hb2 HX1 HB1 hk0 hk1
    go_wp2_with fail
    refine (HS.out A2 c2 _ HI2.out).mono ?_
    rintro e w3 ⟨vS, rfl, hoS, hbS⟩
    obtain ⟨AS, cS, rfl, hIS⟩ := hoS.form
    have HX_101 := Lib.hid (HX2.out.below hbS)
    have HB_101 := Lib.hid (below_more HB2.out hbS)
    clear HX2 HB2
    have HS_102 := Lib.hid (hoS)
    have HLS := Lib.hid (fun k hk => (hoS.lt k hk).2)
    clear hIS hoS hbS HI2 hcap2 HS
    have HgX := Lib.hid HX_101.out.lt
    have hcX0 := HX_101.out.cell0
    have hcX1 := HX_101.out.cell1
    go_wp2_with fail
    refine (toCode_any x A zs ca _ (HA.out.below HB_101.out) (by omega)).mono ?_
    rintro e w4 ⟨v4, rfl, ho4, hb4⟩
    obtain ⟨A4, c4, rfl, hI4⟩ := ho4.form
    clear hcX0 hcX1
    have HX_103 := Lib.hid (HX_101.out.below hb4)
    have HB_103 := Lib.hid (below_more HB_101.out hb4)
    have HS_103 := Lib.hid (HS_102.out.below hb4)
    clear HX_101 HB_101 HS_102
    have HR_104 := Lib.hid (ho4)
    have HG4 := Lib.hid (fun k hk => (ho4.lt k hk).1)
    have HL4 := Lib.hid (fun k hk => (ho4.lt k hk).2)
    have HS34 := Lib.hid hb4.size
    clear hI4 ho4 hb4
    have HX_105 := Lib.hid (HX_103.out.alloc1 (.cells #[.int .i64 x, .slice A4 zs.length c4] 40))
    have HB_105 := Lib.hid (below_more HB_103.out (below_alloc1 w4 (.cells #[.int .i64 x, .slice A4 zs.length c4] 40)))
    have HS_105 := Lib.hid (HS_103.out.below (below_alloc1 w4 (.cells #[.int .i64 x, .slice A4 zs.length c4] 40)))
    have HR_105 := Lib.hid (HR_104.out.below (below_alloc1 w4 (.cells #[.int .i64 x, .slice A4 zs.length c4] 40)))
    clear HX_103 HB_103 HS_103 HR_104
    have HY_106 := Lib.hid (Boxd.new w4 40 x (.slice A4 zs.length c4))
    have hcY0 := HY_106.out.cell0
    have hcY1 := HY_106.out.cell1
    go_wp2_with fail
    generalize hw5 : w4.alloc (.cells #[.int .i64 x, .slice A4 zs.length c4] 40) = w5 at *
    have HS45 : Hid (w4.heap.size < w5.heap.size) := by show _ < _; rw [← hw5]; simp
    clear hw5
    refine (HI.out A4 c4 _ (HT.out.below HB_105.out) HR_105.out.ints).mono ?_
    rintro e w6 ⟨vG, rfl, hoG, hbG⟩
    obtain ⟨AG, cG, rfl, hIG⟩ := hoG.form
    clear hcY0 hcY1
    have HX_107 := Lib.hid (HX_105.out.below hbG)
    have HB_107 := Lib.hid (below_more HB_105.out hbG)
    have HS_107 := Lib.hid (HS_105.out.below hbG)
    have HR_107 := Lib.hid (HR_105.out.below hbG)
    have HY_107 := Lib.hid (HY_106.out.below hbG)
    clear HX_105 HB_105 HS_105 HR_105 HY_106
    have HG_108 := Lib.hid (hoG)
    have HGG := Lib.hid (fun k hk => (hoG.lt k hk).1)
    have HLG := Lib.hid (fun k hk => (hoG.lt k hk).2)
    clear hIG hoG hbG
    go_wp2_with fail
    refine (eqInts_any AG AS V V cG cS _ HG_108.out.ints HS_107.out.ints (by omega)).mono ?_
    rintro e w7 ⟨rfl, n7, rfl⟩
    have hb7 : Below w6.heap.size w6 (w6.drewN n7) := below_drewN' n7
    have HX_109 := Lib.hid (HX_107.out.below hb7)
    have HB_109 := Lib.hid (below_more HB_107.out hb7)
    have HS_109 := Lib.hid (HS_107.out.below hb7)
    have HR_109 := Lib.hid (HR_107.out.below hb7)
    have HY_109 := Lib.hid (HY_107.out.below hb7)
    have HG_109 := Lib.hid (HG_108.out.below hb7)
    clear HX_107 HB_107 HS_107 HR_107 HY_107 HG_108
    clear hb7
    generalize w6.drewN n7 = w7 at *
    have hcX0 := HX_109.out.cell0
    have hcX1 := HX_109.out.cell1
    have hcY0 := HY_109.out.cell0
    have hcY1 := HY_109.out.cell1
    go_wp2_with fail
    generalize hgg : w.heap.size = g at *
    generalize hg4 : w4.heap.size = g4 at *
    have HA7 := Lib.hid (HA.out.below (by rw [hgg]; exact HB_109.out))
    go_region_held3 (fun w' => w'.cell? ⟨g4, 0, none⟩ = some (.int .i64 x) ∧ w'.cell? ⟨g4, 1, none⟩ = some (.slice A4 zs.length c4) ∧ w'.cell? ⟨g, 0, none⟩ = some (.int .i64 x) ∧ w'.cell? ⟨g, 1, none⟩ = some (.slice A zs.length ca))
      (first | exact ⟨hcY0, hcY1, hcX0, hcX1⟩ | exact ⟨hp0, hp1, hp2, hp3⟩ | exact ⟨hr0, hr1, hr2, hr3⟩ | go_keep) (first
      | (go_at_call 56; refine (toCode_any x A zs ca _ HA7.out.drew1 (by omega)).mono ?_; rintro e w8 ⟨v8, rfl, ho8, hb8⟩; obtain ⟨A8, c8, rfl, hI8⟩ := ho8.form; have HX8 := Lib.hid (HX_109.out.drew1.below hb8); have HY8 := Lib.hid (HY_109.out.drew1.below hb8); have hp0 := HY8.out.cell0; have hp1 := HY8.out.cell1; have hp2 := HX8.out.cell0; have hp3 := HX8.out.cell1)
      | (go_at_call 57; refine (eqCode_any x x A4 A8 zs zs c4 c8 w8 (HR_109.out.ints.drew1.below hb8) hI8 (by omega)).mono ?_; rintro e w9 ⟨rfl, hb9⟩; have HX9 := Lib.hid (HX8.out.below hb9); have HY9 := Lib.hid (HY8.out.below hb9); have hr0 := HY9.out.cell0; have hr1 := HY9.out.cell1; have hr2 := HX9.out.cell0; have hr3 := HX9.out.cell1))
    all_goals
      subst hgg
      subst hg4
      have hb79 : Below w7.heap.size w7 w9 := below_more below_drew1 (below_more hb8 hb9)
      clear hp0 hp1 hp2 hp3 hr0 hr1 hr2 hr3 HX8 HX9 HY8 HY9 hb8 hb9 ho8 hI8 HA7
      clear hcX0 hcX1 hcY0 hcY1
      have HX_110 := Lib.hid (HX_109.out.below hb79)
      have HB_110 := Lib.hid (below_more HB_109.out hb79)
      have HS_110 := Lib.hid (HS_109.out.below hb79)
      have HR_110 := Lib.hid (HR_109.out.below hb79)
      have HY_110 := Lib.hid (HY_109.out.below hb79)
      have HG_110 := Lib.hid (HG_109.out.below hb79)
      clear HX_109 HB_109 HS_109 HR_109 HY_109 HG_109
      clear hb79
      have hcY0 := HY_110.out.cell0
      have hcY1 := HY_110.out.cell1
      go_wp2_with fail
      refine (markCode_any x _ zs _ 1 _ HR_110.out (by omega) (by omega) (by omega)).mono ?_
      rintro e w10 ⟨rfl, ho10, hg10⟩
      clear HR_110
      clear hcY0 hcY1
      have HX_111 := Lib.hid (HX_110.out.grown hg10 (fun k hk => Nat.ne_of_lt (Nat.lt_of_lt_of_le HgX.out (HG4.out k hk))))
      have HB_111 := Lib.hid (HB_110.out.grown hg10 HB_110.out.size (fun k hk => Nat.le_of_lt (Nat.lt_of_lt_of_le HgX.out (HG4.out k hk))))
      have HS_111 := Lib.hid (HS_110.out.kept hg10 (apart' (fun k hk => Nat.lt_of_lt_of_le (HLS.out k hk) (Nat.le_refl _)) HG4.out))
      have HY_111 := Lib.hid (HY_110.out.grown hg10 (fun k hk => Nat.ne_of_gt (HL4.out k hk)))
      have HG_111 := Lib.hid (HG_110.out.kept hg10 (apart HL4.out (fun k hk => Nat.le_trans (Nat.le_of_lt HS45.out) (HGG.out k hk))))
      clear HX_110 HB_110 HS_110 HY_110 HG_110
      clear ho10 hg10
      go_wp2_with fail
      refine (eqInts_any AG AS V V cG cS _ HG_111.out.ints HS_111.out.ints (by omega)).mono ?_
      rintro e w11 ⟨rfl, n11, rfl⟩
      have hb11 : Below w10.heap.size w10 (w10.drewN n11) := below_drewN' n11
      have HX_112 := Lib.hid (HX_111.out.below hb11)
      have HB_112 := Lib.hid (below_more HB_111.out hb11)
      have HS_112 := Lib.hid (HS_111.out.below hb11)
      have HY_112 := Lib.hid (HY_111.out.below hb11)
      have HG_112 := Lib.hid (HG_111.out.below hb11)
      clear HX_111 HB_111 HS_111 HY_111 HG_111
      clear hb11
      generalize w10.drewN n11 = w11 at *
      go_wp2_with fail
      refine (markInts_any _ V _ 1 _ HG_112.out (by omega) (by omega) (by omega)).mono ?_
      rintro e w12 ⟨rfl, ho12, hg12⟩
      clear HG_112
      have HX_113 := Lib.hid (HX_112.out.grown hg12 (fun k hk => Nat.ne_of_lt (Nat.lt_of_lt_of_le HgX.out (Nat.le_trans (Nat.le_trans HS34.out (Nat.le_of_lt HS45.out)) (HGG.out k hk)))))
      have HB_113 := Lib.hid (HB_112.out.grown hg12 HB_112.out.size (fun k hk => Nat.le_of_lt (Nat.lt_of_lt_of_le HgX.out (Nat.le_trans (Nat.le_trans HS34.out (Nat.le_of_lt HS45.out)) (HGG.out k hk)))))
      have HS_113 := Lib.hid (HS_112.out.kept hg12 (apart' (fun k hk => Nat.lt_of_lt_of_le (HLS.out k hk) (Nat.le_trans HS34.out (Nat.le_of_lt HS45.out))) HGG.out))
      have HY_113 := Lib.hid (HY_112.out.grown hg12 (fun k hk => Nat.ne_of_lt (Nat.lt_of_lt_of_le HS45.out (HGG.out k hk))))
      clear HX_112 HB_112 HS_112 HY_112
      have HM_114 := Lib.hid (ho12)
      clear ho12 hg12
      go_wp2_with fail
      refine (heldInts_any AG 1 V.length cG _ HM_114.out.intsM (by omega) (by omega) (by omega)).mono ?_
      rintro e w13 ⟨rfl, rfl⟩
      have hcX0 := HX_113.out.cell0
      have hcX1 := HX_113.out.cell1
      go_wp2_with fail
      refine (toCode_any x A zs ca _ (HA.out.below HB_113.out) (by omega)).mono ?_
      rintro e w14 ⟨v14, rfl, ho14, hb14⟩
      obtain ⟨A14, c14, rfl, hI14⟩ := ho14.form
      clear hcX0 hcX1
      have HX_115 := Lib.hid (HX_113.out.below hb14)
      have HB_115 := Lib.hid (below_more HB_113.out hb14)
      have HS_115 := Lib.hid (HS_113.out.below hb14)
      have HY_115 := Lib.hid (HY_113.out.below hb14)
      have HM_115 := Lib.hid (HM_114.out.below hb14)
      clear HX_113 HB_113 HS_113 HY_113 HM_114
      have HI14 := Lib.hid hI14
      clear hI14 ho14 hb14
      go_wp2_with fail
      refine (HI.out A14 c14 _ (HT.out.below HB_115.out) HI14.out).mono ?_
      rintro e w15 ⟨vH, rfl, hoH, hbH⟩
      obtain ⟨AH, cH, rfl, hIH⟩ := hoH.form
      have HX_116 := Lib.hid (HX_115.out.below hbH)
      have HB_116 := Lib.hid (below_more HB_115.out hbH)
      have HS_116 := Lib.hid (HS_115.out.below hbH)
      have HY_116 := Lib.hid (HY_115.out.below hbH)
      have HM_116 := Lib.hid (HM_115.out.below hbH)
      clear HX_115 HB_115 HS_115 HY_115 HM_115
      have HH_117 := Lib.hid (hoH)
      clear hIH hoH hbH HI14
      go_wp2_with fail
      refine (eqInts_any AH AS V V cH cS _ HH_117.out.ints HS_116.out.ints (by omega)).mono ?_
      rintro e w16 ⟨rfl, n16, rfl⟩
      have hb16 : Below w15.heap.size w15 (w15.drewN n16) := below_drewN' n16
      have HX_118 := Lib.hid (HX_116.out.below hb16)
      have HB_118 := Lib.hid (below_more HB_116.out hb16)
      have HS_118 := Lib.hid (HS_116.out.below hb16)
      have HY_118 := Lib.hid (HY_116.out.below hb16)
      have HM_118 := Lib.hid (HM_116.out.below hb16)
      have HH_118 := Lib.hid (HH_117.out.below hb16)
      clear HX_116 HB_116 HS_116 HY_116 HM_116 HH_117
      clear hb16
      generalize w15.drewN n16 = w16 at *
      go_wp2_with fail
      refine (heldInts_any AG 1 V.length cG _ HM_118.out.intsM (by omega) (by omega) (by omega)).mono ?_
      rintro e w17 ⟨rfl, rfl⟩
      go_wp2_with fail
      go_ret
      exact ⟨rfl, HB_118.out⟩
  · have hn : (1048576 : Int) < (zs.length : Int) := by omega
    have HSz := Lib.hid (szCode_no x A zs.length ca (w.alloc (.cells #[.int .i64 x, .slice A zs.length ca] 59)) (by omega) hz)
    clear ht hzs HX0
    go_enter Tryd.func9, Tryd.ntmps9
    go_wp2_with fail
    refine HSz.out.mono ?_
    rintro e w1 ⟨rfl, hb1⟩
    go_wp2_with fail
    go_ret
    exact ⟨rfl, below_more HB0.out hb1⟩
end Go.Proofs.YtfkojlpihpgnaaaDoor
