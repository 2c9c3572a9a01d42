/-
  The law of SpanOf, walked: it returns true, and turns nothing that lay in memory.
-/
import Derived.Test.YtfkojlpihpgnaaaDoorV0
namespace Go.Proofs.YtfkojlpihpgnaaaDoor
open Go.RowKit

set_option maxRecDepth 100000 in
set_option maxHeartbeats 4000000 in
theorem spanOf_law (x : Int) (A : Option Addr) (zs : List Int) (ca : Nat) (w : World) (ht : Tab w) (ha : Ints w A zs) :
    Calls Tryd.prog 6 #[.int .i64 x, .slice A zs.length ca] w fun e w' => e = .returned (.bool true) ∧ Below w.heap.size w w' := by
  by_cases hl : zs.length ≤ 1048576
  · have hlen : (spanI x zs).length ≤ 256 := spanI_len x zs
    have HS := Lib.hid (fun (A : Option Addr) (c : Nat) (w : World) (ha : Ints w A zs) (hc : zs.length ≤ c) => sSpan_any x A zs c w ha hl)
    have HI := Lib.hid (fun (A : Option Addr) (c : Nat) (w : World) (ht : Tab w) (ha : Ints w A zs) => iSpan_any x A zs c w ht ha hl)
    have HT := Lib.hid ht
    have HA := Lib.hid ha
    clear ht ha
    generalize spanI x zs = V at *
    generalize spanOkB x zs = b at *
    have hq := eqL_self V
    have hqz := eqL_self zs
    go_enter Tryd.func6, Tryd.ntmps6
    go_wp2_with fail
    refine (toInts_any A zs ca _ HA.out (by omega)).mono ?_
    rintro e w1 ⟨v1, rfl, ho1, hb1⟩
    obtain ⟨A1, c1, rfl, hcap1, hI1⟩ := ho1.formC
    have HI1 := Lib.hid hI1
    have HB1 := Lib.hid hb1
    clear hI1 ho1 hb1
    go_wp2_with fail
    refine (HS.out A1 c1 _ HI1.out hcap1).mono ?_
    rintro e w2 ⟨v2, rfl, ho2, hb2⟩
    obtain ⟨A2, c2, rfl, hI2⟩ := ho2.form
    have HO2 := Lib.hid ho2
    have HL2 := Lib.hid (fun k hk => (ho2.lt k hk).2)
    have HB2 := Lib.hid (below_more HB1.out hb2)
    clear hI2 ho2 hb2 HB1 HI1 hcap1 HS
    go_wp2_with fail
    refine (toInts_any A zs ca _ (HA.out.below HB2.out) (by omega)).mono ?_
    rintro e w3 ⟨v3, rfl, ho3, hb3⟩
    obtain ⟨A3, c3, rfl, hI3⟩ := ho3.form
    have HI3 := Lib.hid hI3
    have HO3 := Lib.hid ho3
    have HG3 := Lib.hid (fun k hk => (ho3.lt k hk).1)
    have HL3 := Lib.hid (fun k hk => (ho3.lt k hk).2)
    have HO2' := Lib.hid (HO2.out.below hb3)
    have HS23' := Lib.hid hb3.size
    have HB3 := Lib.hid (below_more HB2.out hb3)
    have HS2 := Lib.hid HB2.out.size
    clear hI3 ho3 hb3 HO2 HB2
    go_wp2_with fail
    refine (HI.out A3 c3 _ (HT.out.below HB3.out) HI3.out).mono ?_
    rintro e w4 ⟨v4, rfl, ho4, hb4⟩
    obtain ⟨A4, c4, rfl, hI4⟩ := ho4.form
    have HO4 := Lib.hid ho4
    have HG4 := Lib.hid (fun k hk => (ho4.lt k hk).1)
    have HO3' := Lib.hid (HO3.out.below hb4)
    have HO2 := Lib.hid (HO2'.out.below hb4)
    have HB4 := Lib.hid (below_more HB3.out hb4)
    have HS3 := Lib.hid HB3.out.size
    have HS23 := Lib.hid HS23'.out
    clear hI4 ho4 hb4 HO3 HO2' HB3 HI3
    go_wp2_with fail
    refine (eqInts_any A4 A2 V V c4 c2 _ HO4.out.ints HO2.out.ints (by omega)).mono ?_
    rintro e w5 ⟨rfl, n5, rfl⟩
    have hd5 : Below w4.heap.size w4 (w4.drewN n5) := below_drewN' n5
    have HO4' := Lib.hid (HO4.out.below hd5)
    have HO3 := Lib.hid (HO3'.out.below hd5)
    have HO2' := Lib.hid (HO2.out.below hd5)
    have HB5 := Lib.hid (below_more HB4.out hd5)
    clear hd5 HO4 HO3' HO2 HB4
    generalize w4.drewN n5 = w5 at *
    go_wp2_with fail
    refine (toInts_any A zs ca _ (HA.out.below HB5.out) (by omega)).mono ?_
    rintro e w6 ⟨v6, rfl, ho6, hb6⟩
    obtain ⟨A6, c6, rfl, hI6⟩ := ho6.form
    have HI6 := Lib.hid hI6
    have HO4 := Lib.hid (HO4'.out.below hb6)
    have HO3' := Lib.hid (HO3.out.below hb6)
    have HO2 := Lib.hid (HO2'.out.below hb6)
    have HB6 := Lib.hid (below_more HB5.out hb6)
    clear hI6 ho6 hb6 HO4' HO3 HO2' HB5
    go_wp2_with fail
    refine (eqInts_any A3 A6 zs zs c3 c6 _ HO3'.out.ints HI6.out (by omega)).mono ?_
    rintro e w7 ⟨rfl, n7, rfl⟩
    have hd7 : Below w6.heap.size w6 (w6.drewN n7) := below_drewN' n7
    have HO4' := Lib.hid (HO4.out.below hd7)
    have HO3 := Lib.hid (HO3'.out.below hd7)
    have HO2' := Lib.hid (HO2.out.below hd7)
    have HB7 := Lib.hid (below_more HB6.out hd7)
    clear hd7 HO4 HO3' HO2 HB6 HI6
    generalize w6.drewN n7 = w7 at *
    go_wp2_with fail
    refine (markInts_any _ zs _ 1 _ HO3.out (by omega) (by omega) (by omega)).mono ?_
    rintro e w8 ⟨rfl, ho8, hg8⟩
    have HO4 := Lib.hid (HO4'.out.kept hg8 (apart HL3.out HG4.out))
    have HO2 := Lib.hid (HO2'.out.kept hg8 (apart' HL2.out HG3.out))
    have HB8 := Lib.hid (HB7.out.grown hg8 HB7.out.size (fun k hk => Nat.le_trans HS2.out (HG3.out k hk)))
    clear ho8 hg8 HO3 HO4' HO2' HB7
    go_wp2_with fail
    refine (eqInts_any A4 A2 V V c4 c2 _ HO4.out.ints HO2.out.ints (by omega)).mono ?_
    rintro e w9 ⟨rfl, n9, rfl⟩
    have hd9 : Below w8.heap.size w8 (w8.drewN n9) := below_drewN' n9
    have HO4' := Lib.hid (HO4.out.below hd9)
    have HO2' := Lib.hid (HO2.out.below hd9)
    have HB9 := Lib.hid (below_more HB8.out hd9)
    clear hd9 HO4 HO2 HB8
    generalize w8.drewN n9 = w9 at *
    go_wp2_with fail
    refine (markInts_any _ V _ 1 _ HO4'.out (by omega) (by omega) (by omega)).mono ?_
    rintro e w10 ⟨rfl, ho10, hg10⟩
    have hml := marks_length 1 V.length
    have HO4 := Lib.hid ho10
    have HO2 := Lib.hid (HO2'.out.kept hg10 (apart' HL2.out (fun k hk => Nat.le_trans HS23.out (HG4.out k hk))))
    have HB10 := Lib.hid (HB9.out.grown hg10 HB9.out.size (fun k hk => Nat.le_trans HS3.out (HG4.out k hk)))
    clear ho10 hg10 HO4' HO2' HB9
    go_wp2_with fail
    refine (heldInts_any A4 1 V.length c4 _ HO4.out.intsM (by omega) (by omega) (by omega)).mono ?_
    rintro e w11 ⟨rfl, rfl⟩
    go_wp2_with fail
    refine (toInts_any A zs ca _ (HA.out.below HB10.out) (by omega)).mono ?_
    rintro e w12 ⟨v12, rfl, ho12, hb12⟩
    obtain ⟨A12, c12, rfl, hI12⟩ := ho12.form
    have HI12 := Lib.hid hI12
    have HO4' := Lib.hid (HO4.out.below hb12)
    have HO2' := Lib.hid (HO2.out.below hb12)
    have HB12 := Lib.hid (below_more HB10.out hb12)
    clear hI12 ho12 hb12 HO4 HO2 HB10
    go_wp2_with fail
    refine (HI.out A12 c12 _ (HT.out.below HB12.out) HI12.out).mono ?_
    rintro e w13 ⟨v13, rfl, ho13, hb13⟩
    obtain ⟨A13, c13, rfl, hI13⟩ := ho13.form
    have HI13 := Lib.hid hI13
    have HO4 := Lib.hid (HO4'.out.below hb13)
    have HO2 := Lib.hid (HO2'.out.below hb13)
    have HB13 := Lib.hid (below_more HB12.out hb13)
    clear hI13 ho13 hb13 HO4' HO2' HB12 HI12
    go_wp2_with fail
    refine (eqInts_any A13 A2 V V c13 c2 _ HI13.out HO2.out.ints (by omega)).mono ?_
    rintro e w14 ⟨rfl, n14, rfl⟩
    have hd14 : Below w13.heap.size w13 (w13.drewN n14) := below_drewN' n14
    have HO4' := Lib.hid (HO4.out.below hd14)
    have HB14 := Lib.hid (below_more HB13.out hd14)
    clear hd14 HO4 HO2 HB13 HI13
    generalize w13.drewN n14 = w14 at *
    go_wp2_with fail
    refine (heldInts_any A4 1 V.length c4 _ HO4'.out.intsM (by omega) (by omega) (by omega)).mono ?_
    rintro e w15 ⟨rfl, rfl⟩
    go_wp2_with fail
    go_ret
    exact ⟨rfl, HB14.out⟩
  · have hl' : (1048576 : Int) < (zs.length : Int) := by omega
    go_enter Tryd.func6, Tryd.ntmps6
    go_wp2_with fail
    go_ret
    exact ⟨rfl, Below.refl _ _⟩
end Go.Proofs.YtfkojlpihpgnaaaDoor
