/-
  The law FnMade, walked: it returns true, and turns nothing that lay in memory.
-/
import Derived.Test.YtfkojlpihpgnaaaDoorX0
import Derived.Test.YtfkojlpihpgnaaaDoorD5
namespace Go.Proofs.YtfkojlpihpgnaaaDoor
open Go.RowKit

set_option maxRecDepth 100000 in
set_option maxHeartbeats 8000000 in
theorem made_small (A B : Option Addr) (za zb : List Int) (ca cb : Nat) (w : World) (ht : Tab w) (ha : Byts w w.heap.size A za) (hb : Byts w w.heap.size B zb) (hl : za.length + zb.length ≤ 1048576) :
    Calls Tryd.prog 3 #[.slice A za.length ca, .slice B zb.length cb] w fun e w' => e = .returned (.bool true) ∧ Below w.heap.size w w' := by
  have HT := Lib.hid ht
  have HA := Lib.hid ha
  have HB := Lib.hid hb
  clear ht ha hb
  go_enter Tryd.func3, Tryd.ntmps3
  go_wp2_with fail
  refine (drawMake A za ca _ HA.out).mono ?_
  rintro e w1 ⟨x, v1, l, y, rfl, ho1, hl1, hb1⟩
  obtain ⟨A1, c1, rfl, hcap1, hI1⟩ := ho1.formC
  have HI1 := Lib.hid hI1
  have HT1 := Lib.hid (HT.out.below hb1)
  have HBl1 := Lib.hid hb1
  have HB1 := Lib.hid (HB.out.stay hb1)
  have hlen := makeI_len x l y
  have hq := eqL_self (makeI x l y)
  clear hI1 ho1 hb1 HT HA HB
  go_wp2_with fail
  refine (iMake_any x A1 l c1 y _ HT1.out HI1.out (by omega)).mono ?_
  rintro e w2 ⟨v2, rfl, ho2, hb2⟩
  obtain ⟨A2, c2, rfl, hI2⟩ := ho2.form
  have HM2 := Lib.hid hI2
  have HI2 := Lib.hid (HI1.out.below hb2)
  have HT2 := Lib.hid (HT1.out.below hb2)
  have HBl2 := Lib.hid (below_more HBl1.out hb2)
  have HB2 := Lib.hid (HB1.out.stay hb2)
  clear hI2 ho2 hb2 HI1 HT1 HBl1 HB1
  go_wp2_with fail
  refine (sMake_any x A1 l c1 y _ HI2.out (by omega) hcap1).mono ?_
  rintro e w3 ⟨v3, rfl, ho3, hb3⟩
  obtain ⟨A3, c3, rfl, hI3⟩ := ho3.form
  have HZ3 := Lib.hid hI3
  have HM3 := Lib.hid (HM2.out.below hb3)
  have HI3 := Lib.hid (HI2.out.below hb3)
  have HT3 := Lib.hid (HT2.out.below hb3)
  have HBl3 := Lib.hid (below_more HBl2.out hb3)
  have HB3 := Lib.hid (HB2.out.stay hb3)
  clear hI3 ho3 hb3 HM2 HI2 HT2 HBl2 HB2
  go_wp2_with fail
  refine (iCan_any x A1 l c1 y _ HT3.out HI3.out (by omega)).mono ?_
  rintro e w4 ⟨rfl, hb4⟩
  have HZ4 := Lib.hid (HZ3.out.below hb4)
  have HM4 := Lib.hid (HM3.out.below hb4)
  have HI4 := Lib.hid (HI3.out.below hb4)
  have HT4 := Lib.hid (HT3.out.below hb4)
  have HBl4 := Lib.hid (below_more HBl3.out hb4)
  have HB4 := Lib.hid (HB3.out.stay hb4)
  clear hb4 HZ3 HM3 HI3 HT3 HBl3 HB3
  go_wp2_with fail
  refine (sCan_any x A1 l c1 y _ HI4.out (by omega)).mono ?_
  rintro e w5 ⟨rfl, hb5⟩
  have HZ5 := Lib.hid (HZ4.out.below hb5)
  have HM5 := Lib.hid (HM4.out.below hb5)
  have HI5 := Lib.hid (HI4.out.below hb5)
  have HT5 := Lib.hid (HT4.out.below hb5)
  have HBl5 := Lib.hid (below_more HBl4.out hb5)
  have HB5 := Lib.hid (HB4.out.stay hb5)
  clear hb5 HZ4 HM4 HI4 HT4 HBl4 HB4
  go_wp2_with fail
  refine (sameInts_any A2 A3 _ _ c2 c3 _ HM5.out HZ5.out (by omega)).mono ?_
  rintro e w6 ⟨rfl, n6, rfl⟩
  have hd6 : Below w5.heap.size w5 (w5.drewN n6) := below_drewN' n6
  have HM6 := Lib.hid (HM5.out.below hd6)
  have HI6 := Lib.hid (HI5.out.below hd6)
  have HT6 := Lib.hid (HT5.out.below hd6)
  have HBl6 := Lib.hid (below_more HBl5.out hd6)
  have HB6 := Lib.hid (HB5.out.stay hd6)
  clear hd6 HZ5 HM5 HI5 HT5 HBl5 HB5
  generalize w5.drewN n6 = w6 at *
  cases hc : canI x l y
  · cases h2 : twoOkB x l y
    · clear HM6 HI6
      go_wp2_with fail
      refine (drawSpan B zb cb _ HB6.out).mono ?_
      rintro e w10 ⟨u, v10, l10, rfl, ho10, hl10, hb10⟩
      obtain ⟨A10, c10, rfl, hI10⟩ := ho10.form
      have HI10 := Lib.hid hI10
      have HT10 := Lib.hid (HT6.out.below hb10)
      have HBl10 := Lib.hid (below_more HBl6.out hb10)
      clear hI10 ho10 hb10 HBl6 HB6 HT6
      have hsl := spanI_len u l10
      have hsq := eqL_self (spanI u l10)
      go_wp2_with fail
      refine (iSpan_any u A10 l10 c10 _ HT10.out HI10.out (by omega)).mono ?_
      rintro e w11 ⟨v11, rfl, ho11, hb11⟩
      obtain ⟨A11, c11, rfl, hI11⟩ := ho11.form
      have HS11 := Lib.hid hI11
      have HI11 := Lib.hid (HI10.out.below hb11)
      have HT11 := Lib.hid (HT10.out.below hb11)
      have HBl11 := Lib.hid (below_more HBl10.out hb11)
      clear hI11 ho11 hb11 HI10 HT10 HBl10
      go_wp2_with fail
      refine (sSpan_any u A10 l10 c10 _ HI11.out (by omega)).mono ?_
      rintro e w12 ⟨v12, rfl, ho12, hb12⟩
      obtain ⟨A12, c12, rfl, hI12⟩ := ho12.form
      have HZ12 := Lib.hid hI12
      have HS12 := Lib.hid (HS11.out.below hb12)
      have HI12 := Lib.hid (HI11.out.below hb12)
      have HT12 := Lib.hid (HT11.out.below hb12)
      have HBl12 := Lib.hid (below_more HBl11.out hb12)
      clear hI12 ho12 hb12 HS11 HI11 HT11 HBl11
      go_wp2_with fail
      refine (sameInts_any A11 A12 _ _ c11 c12 _ HS12.out HZ12.out (by omega)).mono ?_
      rintro e w13 ⟨rfl, n13, rfl⟩
      have hd13 : Below w12.heap.size w12 (w12.drewN n13) := below_drewN' n13
      have HI13 := Lib.hid (HI12.out.below hd13)
      have HT13 := Lib.hid (HT12.out.below hd13)
      have HBl13 := Lib.hid (below_more HBl12.out hd13)
      clear hd13 HS12 HZ12 HI12 HT12 HBl12
      generalize w12.drewN n13 = w13 at *
      cases hsp : spanOkB u l10
      · go_wp2_with fail
        go_ret
        exact ⟨rfl, HBl13.out⟩
      · obtain ⟨r, hr8, hrk, hln, hro⟩ := span_rank hsp
        clear hsp hsl
        have HR := Lib.hid (iRank_any u A10 l10 c10 w13 HT13.out HI13.out (by omega))
        rw [hrk, hro] at HR
        clear hrk hro HT13 HI13
        generalize spanI u l10 = V2 at *
        obtain ⟨hp1, hp2⟩ := pow20 r (by omega)
        rw [hln]
        go_wp2_with fail
        refine HR.out.mono ?_
        rintro e w14 ⟨rfl, hb14⟩
        have HBl14 := Lib.hid (below_more HBl13.out hb14)
        clear hb14 HBl13 HR
        go_wp2_with fail
        go_ret
        exact ⟨by simp, HBl14.out⟩
    · clear HM6 HI6
      go_wp2_with fail
      refine (drawSpan B zb cb _ HB6.out).mono ?_
      rintro e w10 ⟨u, v10, l10, rfl, ho10, hl10, hb10⟩
      obtain ⟨A10, c10, rfl, hI10⟩ := ho10.form
      have HI10 := Lib.hid hI10
      have HT10 := Lib.hid (HT6.out.below hb10)
      have HBl10 := Lib.hid (below_more HBl6.out hb10)
      clear hI10 ho10 hb10 HBl6 HB6 HT6
      have hsl := spanI_len u l10
      have hsq := eqL_self (spanI u l10)
      go_wp2_with fail
      refine (iSpan_any u A10 l10 c10 _ HT10.out HI10.out (by omega)).mono ?_
      rintro e w11 ⟨v11, rfl, ho11, hb11⟩
      obtain ⟨A11, c11, rfl, hI11⟩ := ho11.form
      have HS11 := Lib.hid hI11
      have HI11 := Lib.hid (HI10.out.below hb11)
      have HT11 := Lib.hid (HT10.out.below hb11)
      have HBl11 := Lib.hid (below_more HBl10.out hb11)
      clear hI11 ho11 hb11 HI10 HT10 HBl10
      go_wp2_with fail
      refine (sSpan_any u A10 l10 c10 _ HI11.out (by omega)).mono ?_
      rintro e w12 ⟨v12, rfl, ho12, hb12⟩
      obtain ⟨A12, c12, rfl, hI12⟩ := ho12.form
      have HZ12 := Lib.hid hI12
      have HS12 := Lib.hid (HS11.out.below hb12)
      have HI12 := Lib.hid (HI11.out.below hb12)
      have HT12 := Lib.hid (HT11.out.below hb12)
      have HBl12 := Lib.hid (below_more HBl11.out hb12)
      clear hI12 ho12 hb12 HS11 HI11 HT11 HBl11
      go_wp2_with fail
      refine (sameInts_any A11 A12 _ _ c11 c12 _ HS12.out HZ12.out (by omega)).mono ?_
      rintro e w13 ⟨rfl, n13, rfl⟩
      have hd13 : Below w12.heap.size w12 (w12.drewN n13) := below_drewN' n13
      have HI13 := Lib.hid (HI12.out.below hd13)
      have HT13 := Lib.hid (HT12.out.below hd13)
      have HBl13 := Lib.hid (below_more HBl12.out hd13)
      clear hd13 HS12 HZ12 HI12 HT12 HBl12
      generalize w12.drewN n13 = w13 at *
      cases hsp : spanOkB u l10
      · go_wp2_with fail
        go_ret
        exact ⟨rfl, HBl13.out⟩
      · obtain ⟨r, hr8, hrk, hln, hro⟩ := span_rank hsp
        clear hsp hsl
        have HR := Lib.hid (iRank_any u A10 l10 c10 w13 HT13.out HI13.out (by omega))
        rw [hrk, hro] at HR
        clear hrk hro HT13 HI13
        generalize spanI u l10 = V2 at *
        obtain ⟨hp1, hp2⟩ := pow20 r (by omega)
        rw [hln]
        go_wp2_with fail
        refine HR.out.mono ?_
        rintro e w14 ⟨rfl, hb14⟩
        have HBl14 := Lib.hid (below_more HBl13.out hb14)
        clear hb14 HBl13 HR
        go_wp2_with fail
        go_ret
        exact ⟨by simp, HBl14.out⟩
  · have h2 := can_two hc
    obtain ⟨hs1, hs2⟩ := make_sum hc
    have HSum := Lib.hid (iSum_any x A1 A2 l (makeI x l y) c1 c2 w6 HT6.out HI6.out HM6.out (by omega) (by omega))
    rw [hs1, hs2] at HSum
    rw [h2]
    clear hs1 hs2 h2 hc HI6 HM6
    generalize makeI x l y = V at *
    go_wp2_with fail
    refine HSum.out.mono ?_
    rintro e w7 ⟨rfl, rfl⟩
    clear HSum
    go_wp2_with fail
    refine (drawSpan B zb cb _ HB6.out).mono ?_
    rintro e w10 ⟨u, v10, l10, rfl, ho10, hl10, hb10⟩
    obtain ⟨A10, c10, rfl, hI10⟩ := ho10.form
    have HI10 := Lib.hid hI10
    have HT10 := Lib.hid (HT6.out.below hb10)
    have HBl10 := Lib.hid (below_more HBl6.out hb10)
    clear hI10 ho10 hb10 HBl6 HB6 HT6
    have hsl := spanI_len u l10
    have hsq := eqL_self (spanI u l10)
    go_wp2_with fail
    refine (iSpan_any u A10 l10 c10 _ HT10.out HI10.out (by omega)).mono ?_
    rintro e w11 ⟨v11, rfl, ho11, hb11⟩
    obtain ⟨A11, c11, rfl, hI11⟩ := ho11.form
    have HS11 := Lib.hid hI11
    have HI11 := Lib.hid (HI10.out.below hb11)
    have HT11 := Lib.hid (HT10.out.below hb11)
    have HBl11 := Lib.hid (below_more HBl10.out hb11)
    clear hI11 ho11 hb11 HI10 HT10 HBl10
    go_wp2_with fail
    refine (sSpan_any u A10 l10 c10 _ HI11.out (by omega)).mono ?_
    rintro e w12 ⟨v12, rfl, ho12, hb12⟩
    obtain ⟨A12, c12, rfl, hI12⟩ := ho12.form
    have HZ12 := Lib.hid hI12
    have HS12 := Lib.hid (HS11.out.below hb12)
    have HI12 := Lib.hid (HI11.out.below hb12)
    have HT12 := Lib.hid (HT11.out.below hb12)
    have HBl12 := Lib.hid (below_more HBl11.out hb12)
    clear hI12 ho12 hb12 HS11 HI11 HT11 HBl11
    go_wp2_with fail
    refine (sameInts_any A11 A12 _ _ c11 c12 _ HS12.out HZ12.out (by omega)).mono ?_
    rintro e w13 ⟨rfl, n13, rfl⟩
    have hd13 : Below w12.heap.size w12 (w12.drewN n13) := below_drewN' n13
    have HI13 := Lib.hid (HI12.out.below hd13)
    have HT13 := Lib.hid (HT12.out.below hd13)
    have HBl13 := Lib.hid (below_more HBl12.out hd13)
    clear hd13 HS12 HZ12 HI12 HT12 HBl12
    generalize w12.drewN n13 = w13 at *
    cases hsp : spanOkB u l10
    · go_wp2_with fail
      go_ret
      exact ⟨rfl, HBl13.out⟩
    · obtain ⟨r, hr8, hrk, hln, hro⟩ := span_rank hsp
      clear hsp hsl
      have HR := Lib.hid (iRank_any u A10 l10 c10 w13 HT13.out HI13.out (by omega))
      rw [hrk, hro] at HR
      clear hrk hro HT13 HI13
      generalize spanI u l10 = V2 at *
      obtain ⟨hp1, hp2⟩ := pow20 r (by omega)
      rw [hln]
      go_wp2_with fail
      refine HR.out.mono ?_
      rintro e w14 ⟨rfl, hb14⟩
      have HBl14 := Lib.hid (below_more HBl13.out hb14)
      clear hb14 HBl13 HR
      go_wp2_with fail
      go_ret
      exact ⟨by simp, HBl14.out⟩

set_option maxRecDepth 100000 in
set_option maxHeartbeats 1000000 in
theorem made_law (A : Option Addr) (za : List Int) (ca : Nat) (B : Option Addr) (zb : List Int) (cb : Nat) (w : World) (ht : Tab w) (ha : Byts w w.heap.size A za) (hb : Byts w w.heap.size B zb) (hla : za.length ≤ 140737488355328) (hlb : zb.length ≤ 140737488355328) :
    Calls Tryd.prog 3 #[.slice A za.length ca, .slice B zb.length cb] w fun e w' => e = .returned (.bool true) ∧ Below w.heap.size w w' := by
  by_cases hl : za.length + zb.length ≤ 1048576
  · exact made_small A B za zb ca cb w ht ha hb hl
  · have hl' : (1048576 : Int) < (za.length : Int) + (zb.length : Int) := by omega
    go_enter Tryd.func3, Tryd.ntmps3
    go_wp2_with fail
    go_ret
    exact ⟨rfl, Below.refl _ _⟩
end Go.Proofs.YtfkojlpihpgnaaaDoor
