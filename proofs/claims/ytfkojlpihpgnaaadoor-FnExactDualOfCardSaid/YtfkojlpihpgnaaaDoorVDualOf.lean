/-
  The law of DualOf, walked: it returns true, and turns nothing that lay in memory.
-/
import Derived.Test.YtfkojlpihpgnaaaDoorNA
namespace Go.Proofs.YtfkojlpihpgnaaaDoor
open Go.RowKit

set_option maxRecDepth 100000 in
set_option maxHeartbeats 4000000 in
theorem dualOf_law (x : Int) (A : Option Addr) (zs : List Int) (ca : Nat) (w : World) (ht : Tab w) (hzs : Ints w A zs) (hz : zs.length ≤ 9223372036854775807) :
    Calls Tryd.prog 14 #[codeV x (.slice A zs.length ca)] w fun e w' => e = .returned (.bool true) ∧ Below w.heap.size w w' := by
  have HX0 := Lib.hid (Boxd.new w 59 x (.slice A zs.length ca))
  have HB0 := Lib.hid (below_alloc1 w (.cells #[.int .i64 x, .slice A zs.length ca] 59))
  by_cases hl : zs.length ≤ 1048576
  · have hn : ¬ ((1048576 : Int) - (zs.length : Int) < 0) := by omega
    have hlen : (dualI x zs).length ≤ 16 := dualI_len x zs
    have hqz := eqL_self zs
    have HS := Lib.hid (fun (A : Option Addr) (ca : Nat) (w : World) (ha : Ints w A zs) => sDual_any x A zs ca w ha hl)
    have HI := Lib.hid (fun (A : Option Addr) (ca : Nat) (w : World) (ht : Tab w) (ha : Ints w A zs) => iDual_any x A zs ca w ht ha hl)
    have HT := Lib.hid ht
    have HA := Lib.hid hzs
    clear ht hzs
    generalize dualI x zs = V at *
    generalize dualX x zs = D at *
    generalize dualOkB x zs = b at *
    have hq := eqL_self V
    have hml := marks_length 1 V.length
    go_enter Tryd.func14, Tryd.ntmps14
    go_wp2_with fail
    refine (szCode_ok x A zs.length ca _ hl).mono ?_
    rintro e w1 ⟨rfl, hb1⟩
    have HX1 := Lib.hid (HX0.out.below hb1)
    have HB1 := Lib.hid (below_more HB0.out hb1)
    have hk0 := HX1.out.cell0
    have hk1 := HX1.out.cell1
    clear hb1 HX0 HB0
    go_wp2_with fail
    refine (toCode_any x A zs ca _ (HA.out.below HB1.out) (by omega)).mono ?_
    rintro e w2 ⟨v2, rfl, ho2, hb2⟩
    obtain ⟨A2, c2, rfl, hcap2, hI2⟩ := ho2.formC
    have HI2 := Lib.hid hI2
    have HX2 := Lib.hid (HX1.out.below hb2)
    have HB2 := Lib.hid (below_more HB1.out hb2)
    clear hI2 ho2 hb2 HX1 HB1 hk0 hk1
    go_wp2_with fail
    refine (HS.out A2 c2 _ HI2.out).mono ?_
    rintro e w3 ⟨vS, rfl, hoS, hbS⟩
    obtain ⟨AS, cS, rfl, hIS⟩ := hoS.form
    have HX_101 := Lib.hid (HX2.out.below hbS)
    have HB_101 := Lib.hid (below_more HB2.out hbS)
    clear HX2 HB2
    have HS_102 := Lib.hid (hoS)
    have HLS := Lib.hid (fun k hk => (hoS.lt k hk).2)
    clear hIS hoS hbS HI2 hcap2 HS
    have HX_103 := Lib.hid (HX_101.out.alloc1 (.cells #[.int .i64 D, .slice AS V.length cS] 40))
    have HB_103 := Lib.hid (below_more HB_101.out (below_alloc1 w3 (.cells #[.int .i64 D, .slice AS V.length cS] 40)))
    have HS_103 := Lib.hid (HS_102.out.below (below_alloc1 w3 (.cells #[.int .i64 D, .slice AS V.length cS] 40)))
    clear HX_101 HB_101 HS_102
    have HZ_104 := Lib.hid (Boxd.new w3 40 D (.slice AS V.length cS))
    have HgX := Lib.hid HX_103.out.lt
    have hcX0 := HX_103.out.cell0
    have hcX1 := HX_103.out.cell1
    go_wp2_with fail
    generalize hw3' : w3.alloc (.cells #[.int .i64 D, .slice AS V.length cS] 40) = w3' at *
    have HS3 : Hid (w3.heap.size < w3'.heap.size) := by show _ < _; rw [← hw3']; simp
    clear hw3'
    refine (toCode_any x A zs ca _ (HA.out.below HB_103.out) (by omega)).mono ?_
    rintro e w4 ⟨v4, rfl, ho4, hb4⟩
    obtain ⟨A4, c4, rfl, hI4⟩ := ho4.form
    clear hcX0 hcX1
    have HX_105 := Lib.hid (HX_103.out.below hb4)
    have HB_105 := Lib.hid (below_more HB_103.out hb4)
    have HS_105 := Lib.hid (HS_103.out.below hb4)
    have HZ_105 := Lib.hid (HZ_104.out.below hb4)
    clear HX_103 HB_103 HS_103 HZ_104
    have HR_106 := Lib.hid (ho4)
    have HG4 := Lib.hid (fun k hk => (ho4.lt k hk).1)
    have HL4 := Lib.hid (fun k hk => (ho4.lt k hk).2)
    have HS34 := Lib.hid hb4.size
    clear hI4 ho4 hb4
    have HX_107 := Lib.hid (HX_105.out.alloc1 (.cells #[.int .i64 x, .slice A4 zs.length c4] 40))
    have HB_107 := Lib.hid (below_more HB_105.out (below_alloc1 w4 (.cells #[.int .i64 x, .slice A4 zs.length c4] 40)))
    have HS_107 := Lib.hid (HS_105.out.below (below_alloc1 w4 (.cells #[.int .i64 x, .slice A4 zs.length c4] 40)))
    have HZ_107 := Lib.hid (HZ_105.out.alloc1 (.cells #[.int .i64 x, .slice A4 zs.length c4] 40))
    have HR_107 := Lib.hid (HR_106.out.below (below_alloc1 w4 (.cells #[.int .i64 x, .slice A4 zs.length c4] 40)))
    clear HX_105 HB_105 HS_105 HZ_105 HR_106
    have HY_108 := Lib.hid (Boxd.new w4 40 x (.slice A4 zs.length c4))
    have hcY0 := HY_108.out.cell0
    have hcY1 := HY_108.out.cell1
    go_wp2_with fail
    generalize hw5 : w4.alloc (.cells #[.int .i64 x, .slice A4 zs.length c4] 40) = w5 at *
    have HS45 : Hid (w4.heap.size < w5.heap.size) := by show _ < _; rw [← hw5]; simp
    clear hw5
    refine (HI.out A4 c4 _ (HT.out.below HB_107.out) HR_107.out.ints).mono ?_
    rintro e w6 ⟨vG, rfl, hoG, hbG⟩
    obtain ⟨AG, cG, rfl, hIG⟩ := hoG.form
    clear hcY0 hcY1
    have HX_109 := Lib.hid (HX_107.out.below hbG)
    have HB_109 := Lib.hid (below_more HB_107.out hbG)
    have HS_109 := Lib.hid (HS_107.out.below hbG)
    have HZ_109 := Lib.hid (HZ_107.out.below hbG)
    have HR_109 := Lib.hid (HR_107.out.below hbG)
    have HY_109 := Lib.hid (HY_108.out.below hbG)
    clear HX_107 HB_107 HS_107 HZ_107 HR_107 HY_108
    have HG_110 := Lib.hid (hoG)
    have HGG := Lib.hid (fun k hk => (hoG.lt k hk).1)
    have HLG := Lib.hid (fun k hk => (hoG.lt k hk).2)
    have HS56 := Lib.hid hbG.size
    clear hIG hoG hbG
    have HX_111 := Lib.hid (HX_109.out.alloc1 (.cells #[.int .i64 D, .slice AG V.length cG] 40))
    have HB_111 := Lib.hid (below_more HB_109.out (below_alloc1 w6 (.cells #[.int .i64 D, .slice AG V.length cG] 40)))
    have HS_111 := Lib.hid (HS_109.out.below (below_alloc1 w6 (.cells #[.int .i64 D, .slice AG V.length cG] 40)))
    have HZ_111 := Lib.hid (HZ_109.out.alloc1 (.cells #[.int .i64 D, .slice AG V.length cG] 40))
    have HR_111 := Lib.hid (HR_109.out.below (below_alloc1 w6 (.cells #[.int .i64 D, .slice AG V.length cG] 40)))
    have HY_111 := Lib.hid (HY_109.out.alloc1 (.cells #[.int .i64 D, .slice AG V.length cG] 40))
    have HG_111 := Lib.hid (HG_110.out.below (below_alloc1 w6 (.cells #[.int .i64 D, .slice AG V.length cG] 40)))
    clear HX_109 HB_109 HS_109 HZ_109 HR_109 HY_109 HG_110
    have HP_112 := Lib.hid (Boxd.new w6 40 D (.slice AG V.length cG))
    have hcP0 := HP_112.out.cell0
    have hcP1 := HP_112.out.cell1
    have hcZ0 := HZ_111.out.cell0
    have hcZ1 := HZ_111.out.cell1
    go_wp2_with fail
    generalize hw6 : w6.alloc (.cells #[.int .i64 D, .slice AG V.length cG] 40) = w6' at *
    clear hw6
    refine (eqCode_any D D AG AS V V cG cS _ HG_111.out.ints HS_111.out.ints (by omega)).mono ?_
    rintro e w7 ⟨rfl, hb7⟩
    clear hcP0 hcP1 hcZ0 hcZ1
    have HX_113 := Lib.hid (HX_111.out.below hb7)
    have HB_113 := Lib.hid (below_more HB_111.out hb7)
    have HS_113 := Lib.hid (HS_111.out.below hb7)
    have HZ_113 := Lib.hid (HZ_111.out.below hb7)
    have HR_113 := Lib.hid (HR_111.out.below hb7)
    have HY_113 := Lib.hid (HY_111.out.below hb7)
    have HG_113 := Lib.hid (HG_111.out.below hb7)
    have HP_113 := Lib.hid (HP_112.out.below hb7)
    clear HX_111 HB_111 HS_111 HZ_111 HR_111 HY_111 HG_111 HP_112
    clear hb7
    have hcX0 := HX_113.out.cell0
    have hcX1 := HX_113.out.cell1
    have hcY0 := HY_113.out.cell0
    have hcY1 := HY_113.out.cell1
    go_wp2_with fail
    generalize hgg : w.heap.size = g at *
    generalize hg4 : w4.heap.size = g4 at *
    have HA7 := Lib.hid (HA.out.below (by rw [hgg]; exact HB_113.out))
    go_region_held3 (fun w' => w'.cell? ⟨g4, 0, none⟩ = some (.int .i64 x) ∧ w'.cell? ⟨g4, 1, none⟩ = some (.slice A4 zs.length c4) ∧ w'.cell? ⟨g, 0, none⟩ = some (.int .i64 x) ∧ w'.cell? ⟨g, 1, none⟩ = some (.slice A zs.length ca))
      (first | exact ⟨hcY0, hcY1, hcX0, hcX1⟩ | exact ⟨hp0, hp1, hp2, hp3⟩ | exact ⟨hr0, hr1, hr2, hr3⟩ | go_keep) (first
      | (go_at_call 56; refine (toCode_any x A zs ca _ HA7.out.drew1 (by omega)).mono ?_; rintro e w8 ⟨v8, rfl, ho8, hb8⟩; obtain ⟨A8, c8, rfl, hI8⟩ := ho8.form; have HX8 := Lib.hid (HX_113.out.drew1.below hb8); have HY8 := Lib.hid (HY_113.out.drew1.below hb8); have hp0 := HY8.out.cell0; have hp1 := HY8.out.cell1; have hp2 := HX8.out.cell0; have hp3 := HX8.out.cell1)
      | (go_at_call 57; refine (eqCode_any x x A4 A8 zs zs c4 c8 w8 (HR_113.out.ints.drew1.below hb8) hI8 (by omega)).mono ?_; rintro e w9 ⟨rfl, hb9⟩; have HX9 := Lib.hid (HX8.out.below hb9); have HY9 := Lib.hid (HY8.out.below hb9); have hr0 := HY9.out.cell0; have hr1 := HY9.out.cell1; have hr2 := HX9.out.cell0; have hr3 := HX9.out.cell1))
    all_goals
      subst hgg
      subst hg4
      have hb79 : Below w7.heap.size w7 w9 := below_more below_drew1 (below_more hb8 hb9)
      clear hp0 hp1 hp2 hp3 hr0 hr1 hr2 hr3 HX8 HX9 HY8 HY9 hb8 hb9 ho8 hI8 HA7
      clear hcX0 hcX1 hcY0 hcY1
      have HX_114 := Lib.hid (HX_113.out.below hb79)
      have HB_114 := Lib.hid (below_more HB_113.out hb79)
      have HS_114 := Lib.hid (HS_113.out.below hb79)
      have HZ_114 := Lib.hid (HZ_113.out.below hb79)
      have HR_114 := Lib.hid (HR_113.out.below hb79)
      have HY_114 := Lib.hid (HY_113.out.below hb79)
      have HG_114 := Lib.hid (HG_113.out.below hb79)
      have HP_114 := Lib.hid (HP_113.out.below hb79)
      clear HX_113 HB_113 HS_113 HZ_113 HR_113 HY_113 HG_113 HP_113
      clear hb79
      have hcY0 := HY_114.out.cell0
      have hcY1 := HY_114.out.cell1
      go_wp2_with fail
      refine (markCode_any x _ zs _ 1 _ HR_114.out (by omega) (by omega) (by omega)).mono ?_
      rintro e w10 ⟨rfl, ho10, hg10⟩
      clear HR_114
      clear hcY0 hcY1
      have HX_115 := Lib.hid (HX_114.out.grown hg10 (fun k hk => Nat.ne_of_lt (Nat.lt_of_lt_of_le HgX.out (HG4.out k hk))))
      have HB_115 := Lib.hid (HB_114.out.grown hg10 HB_114.out.size (fun k hk => Nat.le_of_lt (Nat.lt_of_lt_of_le HgX.out (HG4.out k hk))))
      have HS_115 := Lib.hid (HS_114.out.kept hg10 (apart' (fun k hk => Nat.lt_of_lt_of_le (HLS.out k hk) (Nat.le_of_lt HS3.out)) HG4.out))
      have HZ_115 := Lib.hid (HZ_114.out.grown hg10 (fun k hk => Nat.ne_of_lt (Nat.lt_of_lt_of_le HS3.out (HG4.out k hk))))
      have HY_115 := Lib.hid (HY_114.out.grown hg10 (fun k hk => Nat.ne_of_gt (HL4.out k hk)))
      have HG_115 := Lib.hid (HG_114.out.kept hg10 (apart HL4.out (fun k hk => Nat.le_trans (Nat.le_of_lt HS45.out) (HGG.out k hk))))
      have HP_115 := Lib.hid (HP_114.out.grown hg10 (fun k hk => Nat.ne_of_gt (Nat.lt_of_lt_of_le (HL4.out k hk) (Nat.le_trans (Nat.le_of_lt HS45.out) HS56.out))))
      clear HX_114 HB_114 HS_114 HZ_114 HY_114 HG_114 HP_114
      clear ho10 hg10
      have hcP0 := HP_115.out.cell0
      have hcP1 := HP_115.out.cell1
      have hcZ0 := HZ_115.out.cell0
      have hcZ1 := HZ_115.out.cell1
      go_wp2_with fail
      refine (eqCode_any D D AG AS V V cG cS _ HG_115.out.ints HS_115.out.ints (by omega)).mono ?_
      rintro e w11 ⟨rfl, hb11⟩
      clear hcP0 hcP1 hcZ0 hcZ1
      have HX_116 := Lib.hid (HX_115.out.below hb11)
      have HB_116 := Lib.hid (below_more HB_115.out hb11)
      have HS_116 := Lib.hid (HS_115.out.below hb11)
      have HZ_116 := Lib.hid (HZ_115.out.below hb11)
      have HY_116 := Lib.hid (HY_115.out.below hb11)
      have HG_116 := Lib.hid (HG_115.out.below hb11)
      have HP_116 := Lib.hid (HP_115.out.below hb11)
      clear HX_115 HB_115 HS_115 HZ_115 HY_115 HG_115 HP_115
      clear hb11
      have hcP0 := HP_116.out.cell0
      have hcP1 := HP_116.out.cell1
      go_wp2_with fail
      refine (markCode_any D _ V _ 1 _ HG_116.out (by omega) (by omega) (by omega)).mono ?_
      rintro e w12 ⟨rfl, ho12, hg12⟩
      clear HG_116
      clear hcP0 hcP1
      have HX_117 := Lib.hid (HX_116.out.grown hg12 (fun k hk => Nat.ne_of_lt (Nat.lt_of_lt_of_le HgX.out (Nat.le_trans (Nat.le_trans HS34.out (Nat.le_of_lt HS45.out)) (HGG.out k hk)))))
      have HB_117 := Lib.hid (HB_116.out.grown hg12 HB_116.out.size (fun k hk => Nat.le_of_lt (Nat.lt_of_lt_of_le HgX.out (Nat.le_trans (Nat.le_trans HS34.out (Nat.le_of_lt HS45.out)) (HGG.out k hk)))))
      have HS_117 := Lib.hid (HS_116.out.kept hg12 (apart' (fun k hk => Nat.lt_of_lt_of_le (HLS.out k hk) (Nat.le_trans (Nat.le_of_lt HS3.out) (Nat.le_trans HS34.out (Nat.le_of_lt HS45.out)))) HGG.out))
      have HZ_117 := Lib.hid (HZ_116.out.grown hg12 (fun k hk => Nat.ne_of_lt (Nat.lt_of_lt_of_le HS3.out (Nat.le_trans (Nat.le_trans HS34.out (Nat.le_of_lt HS45.out)) (HGG.out k hk)))))
      have HY_117 := Lib.hid (HY_116.out.grown hg12 (fun k hk => Nat.ne_of_lt (Nat.lt_of_lt_of_le HS45.out (HGG.out k hk))))
      have HP_117 := Lib.hid (HP_116.out.grown hg12 (fun k hk => Nat.ne_of_gt (HLG.out k hk)))
      clear HX_116 HB_116 HS_116 HZ_116 HY_116 HP_116
      have HM_118 := Lib.hid (ho12)
      clear ho12 hg12
      have hcP0 := HP_117.out.cell0
      have hcP1 := HP_117.out.cell1
      go_wp2_with fail
      refine (heldCode_any D AG 1 V.length cG _ HM_118.out.intsM (by omega) (by omega) (by omega)).mono ?_
      rintro e w13 ⟨rfl, hbw13⟩
      clear hcP0 hcP1
      have HX_119 := Lib.hid (HX_117.out.below hbw13)
      have HB_119 := Lib.hid (below_more HB_117.out hbw13)
      have HS_119 := Lib.hid (HS_117.out.below hbw13)
      have HZ_119 := Lib.hid (HZ_117.out.below hbw13)
      have HY_119 := Lib.hid (HY_117.out.below hbw13)
      have HP_119 := Lib.hid (HP_117.out.below hbw13)
      have HM_119 := Lib.hid (HM_118.out.below hbw13)
      clear HX_117 HB_117 HS_117 HZ_117 HY_117 HP_117 HM_118
      clear hbw13
      have hcX0 := HX_119.out.cell0
      have hcX1 := HX_119.out.cell1
      go_wp2_with fail
      refine (toCode_any x A zs ca _ (HA.out.below HB_119.out) (by omega)).mono ?_
      rintro e w14 ⟨v14, rfl, ho14, hb14⟩
      obtain ⟨A14, c14, rfl, hI14⟩ := ho14.form
      clear hcX0 hcX1
      have HX_120 := Lib.hid (HX_119.out.below hb14)
      have HB_120 := Lib.hid (below_more HB_119.out hb14)
      have HS_120 := Lib.hid (HS_119.out.below hb14)
      have HZ_120 := Lib.hid (HZ_119.out.below hb14)
      have HY_120 := Lib.hid (HY_119.out.below hb14)
      have HP_120 := Lib.hid (HP_119.out.below hb14)
      have HM_120 := Lib.hid (HM_119.out.below hb14)
      clear HX_119 HB_119 HS_119 HZ_119 HY_119 HP_119 HM_119
      have HI14 := Lib.hid hI14
      clear hI14 ho14 hb14
      go_wp2_with fail
      refine (HI.out A14 c14 _ (HT.out.below HB_120.out) HI14.out).mono ?_
      rintro e w15 ⟨vH, rfl, hoH, hbH⟩
      obtain ⟨AH, cH, rfl, hIH⟩ := hoH.form
      have HX_121 := Lib.hid (HX_120.out.below hbH)
      have HB_121 := Lib.hid (below_more HB_120.out hbH)
      have HS_121 := Lib.hid (HS_120.out.below hbH)
      have HZ_121 := Lib.hid (HZ_120.out.below hbH)
      have HY_121 := Lib.hid (HY_120.out.below hbH)
      have HP_121 := Lib.hid (HP_120.out.below hbH)
      have HM_121 := Lib.hid (HM_120.out.below hbH)
      clear HX_120 HB_120 HS_120 HZ_120 HY_120 HP_120 HM_120
      have HH_122 := Lib.hid (hoH)
      clear hIH hoH hbH HI14
      have HX_123 := Lib.hid (HX_121.out.alloc1 (.cells #[.int .i64 D, .slice AH V.length cH] 40))
      have HB_123 := Lib.hid (below_more HB_121.out (below_alloc1 w15 (.cells #[.int .i64 D, .slice AH V.length cH] 40)))
      have HS_123 := Lib.hid (HS_121.out.below (below_alloc1 w15 (.cells #[.int .i64 D, .slice AH V.length cH] 40)))
      have HZ_123 := Lib.hid (HZ_121.out.alloc1 (.cells #[.int .i64 D, .slice AH V.length cH] 40))
      have HY_123 := Lib.hid (HY_121.out.alloc1 (.cells #[.int .i64 D, .slice AH V.length cH] 40))
      have HP_123 := Lib.hid (HP_121.out.alloc1 (.cells #[.int .i64 D, .slice AH V.length cH] 40))
      have HM_123 := Lib.hid (HM_121.out.below (below_alloc1 w15 (.cells #[.int .i64 D, .slice AH V.length cH] 40)))
      have HH_123 := Lib.hid (HH_122.out.below (below_alloc1 w15 (.cells #[.int .i64 D, .slice AH V.length cH] 40)))
      clear HX_121 HB_121 HS_121 HZ_121 HY_121 HP_121 HM_121 HH_122
      have HQ_124 := Lib.hid (Boxd.new w15 40 D (.slice AH V.length cH))
      have hcQ0 := HQ_124.out.cell0
      have hcQ1 := HQ_124.out.cell1
      have hcZ0 := HZ_123.out.cell0
      have hcZ1 := HZ_123.out.cell1
      go_wp2_with fail
      generalize hw15 : w15.alloc (.cells #[.int .i64 D, .slice AH V.length cH] 40) = w15' at *
      clear hw15
      refine (eqCode_any D D AH AS V V cH cS _ HH_123.out.ints HS_123.out.ints (by omega)).mono ?_
      rintro e w16 ⟨rfl, hb16⟩
      clear hcQ0 hcQ1 hcZ0 hcZ1
      have HX_125 := Lib.hid (HX_123.out.below hb16)
      have HB_125 := Lib.hid (below_more HB_123.out hb16)
      have HS_125 := Lib.hid (HS_123.out.below hb16)
      have HZ_125 := Lib.hid (HZ_123.out.below hb16)
      have HY_125 := Lib.hid (HY_123.out.below hb16)
      have HP_125 := Lib.hid (HP_123.out.below hb16)
      have HM_125 := Lib.hid (HM_123.out.below hb16)
      have HH_125 := Lib.hid (HH_123.out.below hb16)
      have HQ_125 := Lib.hid (HQ_124.out.below hb16)
      clear HX_123 HB_123 HS_123 HZ_123 HY_123 HP_123 HM_123 HH_123 HQ_124
      clear hb16
      have hcP0 := HP_125.out.cell0
      have hcP1 := HP_125.out.cell1
      go_wp2_with fail
      refine (heldCode_any D AG 1 V.length cG _ HM_125.out.intsM (by omega) (by omega) (by omega)).mono ?_
      rintro e w17 ⟨rfl, hbw17⟩
      clear hcP0 hcP1
      have HX_126 := Lib.hid (HX_125.out.below hbw17)
      have HB_126 := Lib.hid (below_more HB_125.out hbw17)
      have HS_126 := Lib.hid (HS_125.out.below hbw17)
      have HZ_126 := Lib.hid (HZ_125.out.below hbw17)
      have HY_126 := Lib.hid (HY_125.out.below hbw17)
      have HP_126 := Lib.hid (HP_125.out.below hbw17)
      have HM_126 := Lib.hid (HM_125.out.below hbw17)
      have HH_126 := Lib.hid (HH_125.out.below hbw17)
      have HQ_126 := Lib.hid (HQ_125.out.below hbw17)
      clear HX_125 HB_125 HS_125 HZ_125 HY_125 HP_125 HM_125 HH_125 HQ_125
      clear hbw17
      go_wp2_with fail
      go_ret
      exact ⟨rfl, HB_126.out⟩
  · have hn : (1048576 : Int) < (zs.length : Int) := by omega
    have HSz := Lib.hid (szCode_no x A zs.length ca (w.alloc (.cells #[.int .i64 x, .slice A zs.length ca] 59)) (by omega) hz)
    clear ht hzs HX0
    go_enter Tryd.func14, Tryd.ntmps14
    go_wp2_with fail
    refine HSz.out.mono ?_
    rintro e w1 ⟨rfl, hb1⟩
    go_wp2_with fail
    go_ret
    exact ⟨rfl, below_more HB0.out hb1⟩
end Go.Proofs.YtfkojlpihpgnaaaDoor
