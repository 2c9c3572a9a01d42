/-
  The law FnSteps, walked: it returns true, and turns nothing that lay in memory.
-/
import Derived.Test.YtjaeahobmamhoaaDoorX0
import Derived.Test.YtjaeahobmamhoaaDoorD5
namespace Go.Proofs.YtjaeahobmamhoaaDoor
open Go.RowKit

set_option maxRecDepth 100000 in
set_option maxHeartbeats 16000000 in
theorem stepsFn_small (A B : Option Addr) (za zb : List Int) (ca cb : Nat) (w : World) (ht : Tab w) (ha : Byts w w.heap.size A za) (hb : Byts w w.heap.size B zb) (hl : za.length + zb.length ≤ 1048576) :
    Calls Tryd.prog 3 #[.slice A za.length ca, .slice B zb.length cb] w fun e w' => e = .returned (.bool true) ∧ Below w.heap.size w w' := by
  have HT := Lib.hid ht
  have HA := Lib.hid ha
  have HB := Lib.hid hb
  clear ht ha hb
  go_enter Tryd.func3, Tryd.ntmps3
  go_wp2_with fail
  refine (drawSteps A za ca _ HA.out).mono ?_
  rintro e w1 ⟨x, v1, l, rfl, ho1, hl1, hb1⟩
  obtain ⟨A1, c1, rfl, hI1⟩ := ho1.form
  have HI1 := Lib.hid hI1
  have HT1 := Lib.hid (HT.out.below hb1)
  have HBl1 := Lib.hid hb1
  have HB1 := Lib.hid (HB.out.stay hb1)
  have hsl := stepsI_len x l
  have hsq := eqL_self (stepsI x l)
  have hnl := nullI_len x l
  have hnq := eqL_self (nullI x l)
  clear hI1 ho1 hb1 HT HA HB
  go_wp2_with fail
  refine (iSteps_any x A1 l c1 _ HT1.out HI1.out (by omega)).mono ?_
  rintro e w2 ⟨v2, rfl, ho2, hb2⟩
  obtain ⟨A2, c2, rfl, hI2⟩ := ho2.form
  have HS2 := Lib.hid hI2
  have HI2 := Lib.hid (HI1.out.below hb2)
  have HT2 := Lib.hid (HT1.out.below hb2)
  have HBl2 := Lib.hid (below_more HBl1.out hb2)
  have HB2 := Lib.hid (HB1.out.stay hb2)
  clear hb2 ho2 hI2 HI1 HT1 HBl1 HB1
  go_wp2_with fail
  refine (sSteps_any x A1 l c1 _ HI2.out (by omega)).mono ?_
  rintro e w3 ⟨v3, rfl, ho3, hb3⟩
  obtain ⟨A3, c3, rfl, hI3⟩ := ho3.form
  have HZ3 := Lib.hid hI3
  have HI3 := Lib.hid (HI2.out.below hb3)
  have HT3 := Lib.hid (HT2.out.below hb3)
  have HBl3 := Lib.hid (below_more HBl2.out hb3)
  have HB3 := Lib.hid (HB2.out.stay hb3)
  have HS3 := Lib.hid (HS2.out.below hb3)
  clear hb3 ho3 hI3 HI2 HT2 HBl2 HB2 HS2
  go_wp2_with fail
  refine (iRank_any x A1 l c1 _ HT3.out HI3.out (by omega)).mono ?_
  rintro e w4 ⟨rfl, hb4⟩
  have HI4 := Lib.hid (HI3.out.below hb4)
  have HT4 := Lib.hid (HT3.out.below hb4)
  have HBl4 := Lib.hid (below_more HBl3.out hb4)
  have HB4 := Lib.hid (HB3.out.stay hb4)
  have HS4 := Lib.hid (HS3.out.below hb4)
  have HZ4 := Lib.hid (HZ3.out.below hb4)
  clear hb4 HI3 HT3 HBl3 HB3 HS3 HZ3
  go_wp2_with fail
  refine (sRank_any x A1 l c1 _ HI4.out (by omega)).mono ?_
  rintro e w5 ⟨rfl, hb5⟩
  have HI5 := Lib.hid (HI4.out.below hb5)
  have HT5 := Lib.hid (HT4.out.below hb5)
  have HBl5 := Lib.hid (below_more HBl4.out hb5)
  have HB5 := Lib.hid (HB4.out.stay hb5)
  have HS5 := Lib.hid (HS4.out.below hb5)
  have HZ5 := Lib.hid (HZ4.out.below hb5)
  clear hb5 HI4 HT4 HBl4 HB4 HS4 HZ4
  go_wp2_with fail
  refine (iNull_any x A1 l c1 _ HT5.out HI5.out (by omega)).mono ?_
  rintro e w6 ⟨v6, rfl, ho6, hb6⟩
  obtain ⟨A6, c6, rfl, hI6⟩ := ho6.form
  have HN6 := Lib.hid hI6
  have HI6 := Lib.hid (HI5.out.below hb6)
  have HT6 := Lib.hid (HT5.out.below hb6)
  have HBl6 := Lib.hid (below_more HBl5.out hb6)
  have HB6 := Lib.hid (HB5.out.stay hb6)
  have HS6 := Lib.hid (HS5.out.below hb6)
  have HZ6 := Lib.hid (HZ5.out.below hb6)
  clear hb6 ho6 hI6 HI5 HT5 HBl5 HB5 HS5 HZ5
  go_wp2_with fail
  refine (sNull_any x A1 l c1 _ HI6.out (by omega)).mono ?_
  rintro e w7 ⟨v7, rfl, ho7, hb7⟩
  obtain ⟨A7, c7, rfl, hI7⟩ := ho7.form
  have HY7 := Lib.hid hI7
  have HI7 := Lib.hid (HI6.out.below hb7)
  have HT7 := Lib.hid (HT6.out.below hb7)
  have HBl7 := Lib.hid (below_more HBl6.out hb7)
  have HB7 := Lib.hid (HB6.out.stay hb7)
  have HS7 := Lib.hid (HS6.out.below hb7)
  have HZ7 := Lib.hid (HZ6.out.below hb7)
  have HN7 := Lib.hid (HN6.out.below hb7)
  clear hb7 ho7 hI7 HI6 HT6 HBl6 HB6 HS6 HZ6 HN6
  go_wp2_with fail
  refine (sameInts_any A2 A3 _ _ c2 c3 _ HS7.out HZ7.out (by omega)).mono ?_
  rintro e w8 ⟨rfl, n8, rfl⟩
  have hb8 : Below w7.heap.size w7 (w7.drewN n8) := below_drewN' n8
  have HI8 := Lib.hid (HI7.out.below hb8)
  have HT8 := Lib.hid (HT7.out.below hb8)
  have HBl8 := Lib.hid (below_more HBl7.out hb8)
  have HB8 := Lib.hid (HB7.out.stay hb8)
  have HS8 := Lib.hid (HS7.out.below hb8)
  have HN8 := Lib.hid (HN7.out.below hb8)
  have HY8 := Lib.hid (HY7.out.below hb8)
  clear hb8 HI7 HT7 HBl7 HB7 HS7 HN7 HY7 HZ7
  generalize w7.drewN n8 = w8 at *
  go_wp2_with fail
  refine (sameInts_any A6 A7 _ _ c6 c7 _ HN8.out HY8.out (by omega)).mono ?_
  rintro e w9 ⟨rfl, n9, rfl⟩
  have hb9 : Below w8.heap.size w8 (w8.drewN n9) := below_drewN' n9
  have HI9 := Lib.hid (HI8.out.below hb9)
  have HT9 := Lib.hid (HT8.out.below hb9)
  have HBl9 := Lib.hid (below_more HBl8.out hb9)
  have HB9 := Lib.hid (HB8.out.stay hb9)
  have HS9 := Lib.hid (HS8.out.below hb9)
  have HN9 := Lib.hid (HN8.out.below hb9)
  clear hb9 HI8 HT8 HBl8 HB8 HS8 HN8 HY8
  generalize w8.drewN n9 = w9 at *
  cases hok : rowsB x l
  · clear HS9 HN9 HI9
    go_wp2_with fail
    refine (drawSame B zb cb _ HB9.out).mono ?_
    rintro e w20 ⟨u, v20, q20, a20, b20, rfl, ho20, hp20, hl20, hm20, hb20⟩
    obtain ⟨A20, c20, rfl, hI20⟩ := ho20.form
    obtain ⟨D20, d20, rfl, hJ20⟩ := hp20.form
    have HI20 := Lib.hid hI20
    have HJ20 := Lib.hid hJ20
    have HT20 := Lib.hid (HT9.out.below hb20)
    have HBl20 := Lib.hid (below_more HBl9.out hb20)
    have HB20 := Lib.hid (HB9.out.stay hb20)
    clear hI20 hJ20 ho20 hp20 hb20 HBl9 HB9 HT9
    go_wp2_with fail
    refine (iSame_any u A20 D20 a20 b20 c20 d20 _ HT20.out HI20.out HJ20.out (by omega) (by omega)).mono ?_
    rintro e w21 ⟨rfl, hb21⟩
    have HI21 := Lib.hid (HI20.out.below hb21)
    have HJ21 := Lib.hid (HJ20.out.below hb21)
    have HT21 := Lib.hid (HT20.out.below hb21)
    have HBl21 := Lib.hid (below_more HBl20.out hb21)
    have HB21 := Lib.hid (HB20.out.stay hb21)
    clear hb21 HI20 HJ20 HT20 HBl20 HB20
    go_wp2_with fail
    refine (sSame_any u A20 D20 a20 b20 c20 d20 _ HI21.out HJ21.out (by omega) (by omega)).mono ?_
    rintro e w22 ⟨rfl, hb22⟩
    have HT22 := Lib.hid (HT21.out.below hb22)
    have HBl22 := Lib.hid (below_more HBl21.out hb22)
    have HB22 := Lib.hid (HB21.out.stay hb22)
    clear hb22 HI21 HJ21 HT21 HBl21 HB21
    generalize sameI u a20 b20 = B1 at *
    generalize sameOkB u a20 b20 = B2 at *
    go_wp2_with fail
    refine (drawTurn B zb cb _ HB22.out).mono ?_
    rintro e w23 ⟨u3, v23, l23, rfl, ho23, hl23, hb23⟩
    obtain ⟨A23, c23, rfl, hI23⟩ := ho23.form
    have HI23 := Lib.hid hI23
    have HT23 := Lib.hid (HT22.out.below hb23)
    have HBl23 := Lib.hid (below_more HBl22.out hb23)
    clear hI23 ho23 hb23 HT22 HBl22 HB22
    have htl := turnI_len u3 l23
    have htq := eqL_self (turnI u3 l23)
    go_wp2_with fail
    refine (iTurn_any u3 A23 l23 c23 _ HT23.out HI23.out (by omega)).mono ?_
    rintro e w24 ⟨v24, rfl, ho24, hb24⟩
    obtain ⟨A24, c24, rfl, hI24⟩ := ho24.form
    have HS24 := Lib.hid hI24
    have HI24 := Lib.hid (HI23.out.below hb24)
    have HBl24 := Lib.hid (below_more HBl23.out hb24)
    clear hI24 ho24 hb24 HI23 HT23 HBl23
    go_wp2_with fail
    refine (sTurn_any u3 A23 l23 c23 _ HI24.out (by omega)).mono ?_
    rintro e w25 ⟨v25, rfl, ho25, hb25⟩
    obtain ⟨A25, c25, rfl, hI25⟩ := ho25.form
    have HZ25 := Lib.hid hI25
    have HS25 := Lib.hid (HS24.out.below hb25)
    have HBl25 := Lib.hid (below_more HBl24.out hb25)
    clear hI25 ho25 hb25 HS24 HI24 HBl24
    generalize turnOkB u3 l23 = B3 at *
    generalize turnI u3 l23 = V3 at *
    go_wp2_with fail
    refine (sameInts_any A24 A25 V3 V3 c24 c25 _ HS25.out HZ25.out (by omega)).mono ?_
    rintro e w26 ⟨rfl, n26, rfl⟩
    have HBl26 := Lib.hid (below_more HBl25.out (below_drewN' n26))
    clear HS25 HZ25 HBl25
    go_wp2_with fail
    go_ret
    exact ⟨by simp, HBl26.out⟩
  · obtain ⟨hr1, hr2, hr3, hr4⟩ := steps_again hok
    have hrk : rankI x l = ((stepsI x l).length : Int) := rfl
    have hnr := null_rank hok
    have hturn := Lib.hid (fun h1 h2 => turn_rank (x := x) (zs := l) hok h1 h2)
    have HSame := Lib.hid (iSame_any x A1 A2 l (stepsI x l) c1 c2 w9 HT9.out HI9.out HS9.out (by omega) (by omega))
    rw [hr3, hr4] at HSame
    have HAgain := Lib.hid (fun (w : World) (ht : Tab w) (hs : Ints w A2 (stepsI x l)) => iSteps_any x A2 (stepsI x l) c2 w ht hs (by omega))
    rw [hr1, hr2] at HAgain
    rw [hrk] at hnr hturn ⊢
    have hne : ((((nullI x l).length : Int) + ((stepsI x l).length : Int)) != x) = false := by rw [hnr]; simp
    obtain ⟨m, R, rfl, rfl, hm1, hm2, hRl, hR⟩ := rows_nat hok
    have HDot := Lib.hid (fun a b ha hb => null_dot (m := m) (R := R) hm1 hm2 hR (a := a) (b := b) ha hb)
    rw [nullI_ok hok] at hnl hne hnq HN9 ⊢
    rw [zI_length] at hnl hne hturn HSame
    rw [zI_length, zI_length]
    clear hrk hr1 hr2 hr3 hr4 hR hnr hl1 hok
    generalize stepsI m (zI R) = S at *
    generalize nullL m R = N at *
    go_wp2_with fail
    refine HSame.out.mono ?_
    rintro e w10 ⟨rfl, hb10⟩
    have HS10 := Lib.hid (HS9.out.below hb10)
    have HN10 := Lib.hid (HN9.out.below hb10)
    have HI10 := Lib.hid (HI9.out.below hb10)
    have HT10 := Lib.hid (HT9.out.below hb10)
    have HBl10 := Lib.hid (below_more HBl9.out hb10)
    have HB10 := Lib.hid (HB9.out.stay hb10)
    clear hb10 HSame HS9 HN9 HI9 HT9 HBl9 HB9
    go_wp2_with fail
    refine (HAgain.out _ HT10.out HS10.out).mono ?_
    rintro e w11 ⟨v11, rfl, ho11, hb11⟩
    obtain ⟨A11, c11, rfl, hI11⟩ := ho11.form
    have HQ11 := Lib.hid hI11
    have HI11 := Lib.hid (HI10.out.below hb11)
    have HT11 := Lib.hid (HT10.out.below hb11)
    have HBl11 := Lib.hid (below_more HBl10.out hb11)
    have HB11 := Lib.hid (HB10.out.stay hb11)
    have HS11 := Lib.hid (HS10.out.below hb11)
    have HN11 := Lib.hid (HN10.out.below hb11)
    clear HAgain hb11 ho11 hI11 HI10 HT10 HBl10 HB10 HS10 HN10
    go_wp2_with fail
    refine (sameInts_any A11 A2 S S c11 c2 _ HQ11.out HS11.out (by omega)).mono ?_
    rintro e w12 ⟨rfl, n12, rfl⟩
    have hb12 : Below w11.heap.size w11 (w11.drewN n12) := below_drewN' n12
    have HI12 := Lib.hid (HI11.out.below hb12)
    have HT12 := Lib.hid (HT11.out.below hb12)
    have HBl12 := Lib.hid (below_more HBl11.out hb12)
    have HB12 := Lib.hid (HB11.out.stay hb12)
    have HN12 := Lib.hid (HN11.out.below hb12)
    clear hb12 HI11 HT11 HBl11 HB11 HN11 HQ11 HS11
    generalize w11.drewN n12 = w12 at *
    go_wp2_with fail
    go_loopg [177] N.length (fun g i wr => ∃ j : Nat, j + g = N.length ∧ i = .int .i64 j ∧ w12 = wr)
    case atStart => exact ⟨0, by omega, rfl, rfl⟩
    case round =>
      obtain ⟨j, hg, rfl, rfl⟩ := hrel
      by_cases hlt : j < N.length
      · have hji : (j : Int) < (N.length : Int) := by omega
        obtain ⟨b3, o3, rfl, hc3⟩ := HN12.out.cellN hlt
        have HM := Lib.hid (List.getElem_mem hlt)
        have HGK : Hid (N.length - j - 1 < gk ∧ j + 1 + (N.length - j - 1) = N.length) := by show _ ∧ _; omega
        generalize N[j] = a at *
        clear hg
        go_wp2_with fail
        go_loopg [183] R.length (fun g2 i wx => ∃ k : Nat, k + g2 = R.length ∧ i = .int .i64 k ∧ w12 = wx)
        case atStart => exact ⟨0, by omega, rfl, rfl⟩
        case round =>
          obtain ⟨k, hg2, rfl, rfl⟩ := hrel
          by_cases hlt2 : k < R.length
          · have hki : (k : Int) < (R.length : Int) := by omega
            obtain ⟨b4, o4, rfl, hc4⟩ := HI12.out.cellN hlt2
            obtain ⟨hd1, hd2, hd3, hd4⟩ := HDot.out a R[k] HM.out (List.getElem_mem hlt2)
            generalize R[k] = b at *
            have HD := Lib.hid (iDot_ok m a b w12 HT12.out hd1 hm2 hd2 hd3)
            rw [hd4] at HD
            clear hd1 hd2 hd3 hd4
            go_wp2_with fail
            refine HD.out.mono ?_
            rintro e w13 ⟨rfl, rfl⟩
            go_wp2_with fail
            go_roundg (R.length - k - 1)
            case measure => omega
            case rel => exact ⟨k + 1, by omega, by go_num, rfl⟩
          · obtain rfl : k = R.length := by omega
            go_wp2_with fail
            go_roundg (N.length - j - 1)
            case measure => exact HGK.out.1
            case rel => exact ⟨j + 1, HGK.out.2, by go_num, rfl⟩
      · obtain rfl : j = N.length := by omega
        clear hlt hg HN12 HDot hne hsq hnq
        by_cases hz : R.length ≤ 16
        · by_cases hp : 1 ≤ R.length
          · obtain ⟨ht1, ht2, ht3⟩ := hturn.out hp hz
            have htl := turnI_len m (zI R)
            have HTurn := Lib.hid (iTurn_any m A1 (zI R) c1 w12 HT12.out HI12.out (by rw [zI_length]; omega))
            rw [ht1, zI_length] at HTurn
            have HRank := Lib.hid (fun (A : Option Addr) (c : Nat) (w : World) (ht : Tab w) (hs : Ints w A (turnI m (zI R))) => iRank_any R.length A (turnI m (zI R)) c w ht hs (by omega))
            rw [ht2, ht3] at HRank
            clear ht1 ht2 ht3 hturn HI12
            generalize turnI m (zI R) = V at *
            go_wp2_with fail
            refine HTurn.out.mono ?_
            rintro e w13 ⟨v13, rfl, ho13, hb13⟩
            obtain ⟨A13, c13, rfl, hI13⟩ := ho13.form
            have HV13 := Lib.hid hI13
            have HT13 := Lib.hid (HT12.out.below hb13)
            have HBl13 := Lib.hid (below_more HBl12.out hb13)
            have HB13 := Lib.hid (HB12.out.stay hb13)
            clear hI13 ho13 hb13 HTurn HT12 HBl12 HB12
            go_wp2_with fail
            refine (HRank.out A13 c13 _ HT13.out HV13.out).mono ?_
            rintro e w14 ⟨rfl, hb14⟩
            have HT14 := Lib.hid (HT13.out.below hb14)
            have HBl14 := Lib.hid (below_more HBl13.out hb14)
            have HB14 := Lib.hid (HB13.out.stay hb14)
            clear hb14 HRank HV13 HT13 HBl13 HB13
            go_wp2_with fail
            refine (drawSame B zb cb _ HB14.out).mono ?_
            rintro e w20 ⟨u, v20, q20, a20, b20, rfl, ho20, hp20, hl20, hm20, hb20⟩
            obtain ⟨A20, c20, rfl, hI20⟩ := ho20.form
            obtain ⟨D20, d20, rfl, hJ20⟩ := hp20.form
            have HI20 := Lib.hid hI20
            have HJ20 := Lib.hid hJ20
            have HT20 := Lib.hid (HT14.out.below hb20)
            have HBl20 := Lib.hid (below_more HBl14.out hb20)
            have HB20 := Lib.hid (HB14.out.stay hb20)
            clear hI20 hJ20 ho20 hp20 hb20 HBl14 HB14 HT14
            go_wp2_with fail
            refine (iSame_any u A20 D20 a20 b20 c20 d20 _ HT20.out HI20.out HJ20.out (by omega) (by omega)).mono ?_
            rintro e w21 ⟨rfl, hb21⟩
            have HI21 := Lib.hid (HI20.out.below hb21)
            have HJ21 := Lib.hid (HJ20.out.below hb21)
            have HT21 := Lib.hid (HT20.out.below hb21)
            have HBl21 := Lib.hid (below_more HBl20.out hb21)
            have HB21 := Lib.hid (HB20.out.stay hb21)
            clear hb21 HI20 HJ20 HT20 HBl20 HB20
            go_wp2_with fail
            refine (sSame_any u A20 D20 a20 b20 c20 d20 _ HI21.out HJ21.out (by omega) (by omega)).mono ?_
            rintro e w22 ⟨rfl, hb22⟩
            have HT22 := Lib.hid (HT21.out.below hb22)
            have HBl22 := Lib.hid (below_more HBl21.out hb22)
            have HB22 := Lib.hid (HB21.out.stay hb22)
            clear hb22 HI21 HJ21 HT21 HBl21 HB21
            generalize sameI u a20 b20 = B1 at *
            generalize sameOkB u a20 b20 = B2 at *
            go_wp2_with fail
            refine (drawTurn B zb cb _ HB22.out).mono ?_
            rintro e w23 ⟨u3, v23, l23, rfl, ho23, hl23, hb23⟩
            obtain ⟨A23, c23, rfl, hI23⟩ := ho23.form
            have HI23 := Lib.hid hI23
            have HT23 := Lib.hid (HT22.out.below hb23)
            have HBl23 := Lib.hid (below_more HBl22.out hb23)
            clear hI23 ho23 hb23 HT22 HBl22 HB22
            have htl := turnI_len u3 l23
            have htq := eqL_self (turnI u3 l23)
            go_wp2_with fail
            refine (iTurn_any u3 A23 l23 c23 _ HT23.out HI23.out (by omega)).mono ?_
            rintro e w24 ⟨v24, rfl, ho24, hb24⟩
            obtain ⟨A24, c24, rfl, hI24⟩ := ho24.form
            have HS24 := Lib.hid hI24
            have HI24 := Lib.hid (HI23.out.below hb24)
            have HBl24 := Lib.hid (below_more HBl23.out hb24)
            clear hI24 ho24 hb24 HI23 HT23 HBl23
            go_wp2_with fail
            refine (sTurn_any u3 A23 l23 c23 _ HI24.out (by omega)).mono ?_
            rintro e w25 ⟨v25, rfl, ho25, hb25⟩
            obtain ⟨A25, c25, rfl, hI25⟩ := ho25.form
            have HZ25 := Lib.hid hI25
            have HS25 := Lib.hid (HS24.out.below hb25)
            have HBl25 := Lib.hid (below_more HBl24.out hb25)
            clear hI25 ho25 hb25 HS24 HI24 HBl24
            generalize turnOkB u3 l23 = B3 at *
            generalize turnI u3 l23 = V3 at *
            go_wp2_with fail
            refine (sameInts_any A24 A25 V3 V3 c24 c25 _ HS25.out HZ25.out (by omega)).mono ?_
            rintro e w26 ⟨rfl, n26, rfl⟩
            have HBl26 := Lib.hid (below_more HBl25.out (below_drewN' n26))
            clear HS25 HZ25 HBl25
            go_wp2_with fail
            go_ret
            exact ⟨by simp, HBl26.out⟩
          · clear hturn HI12
            go_wp2_with fail
            refine (drawSame B zb cb _ HB12.out).mono ?_
            rintro e w20 ⟨u, v20, q20, a20, b20, rfl, ho20, hp20, hl20, hm20, hb20⟩
            obtain ⟨A20, c20, rfl, hI20⟩ := ho20.form
            obtain ⟨D20, d20, rfl, hJ20⟩ := hp20.form
            have HI20 := Lib.hid hI20
            have HJ20 := Lib.hid hJ20
            have HT20 := Lib.hid (HT12.out.below hb20)
            have HBl20 := Lib.hid (below_more HBl12.out hb20)
            have HB20 := Lib.hid (HB12.out.stay hb20)
            clear hI20 hJ20 ho20 hp20 hb20 HBl12 HB12 HT12
            go_wp2_with fail
            refine (iSame_any u A20 D20 a20 b20 c20 d20 _ HT20.out HI20.out HJ20.out (by omega) (by omega)).mono ?_
            rintro e w21 ⟨rfl, hb21⟩
            have HI21 := Lib.hid (HI20.out.below hb21)
            have HJ21 := Lib.hid (HJ20.out.below hb21)
            have HT21 := Lib.hid (HT20.out.below hb21)
            have HBl21 := Lib.hid (below_more HBl20.out hb21)
            have HB21 := Lib.hid (HB20.out.stay hb21)
            clear hb21 HI20 HJ20 HT20 HBl20 HB20
            go_wp2_with fail
            refine (sSame_any u A20 D20 a20 b20 c20 d20 _ HI21.out HJ21.out (by omega) (by omega)).mono ?_
            rintro e w22 ⟨rfl, hb22⟩
            have HT22 := Lib.hid (HT21.out.below hb22)
            have HBl22 := Lib.hid (below_more HBl21.out hb22)
            have HB22 := Lib.hid (HB21.out.stay hb22)
            clear hb22 HI21 HJ21 HT21 HBl21 HB21
            generalize sameI u a20 b20 = B1 at *
            generalize sameOkB u a20 b20 = B2 at *
            go_wp2_with fail
            refine (drawTurn B zb cb _ HB22.out).mono ?_
            rintro e w23 ⟨u3, v23, l23, rfl, ho23, hl23, hb23⟩
            obtain ⟨A23, c23, rfl, hI23⟩ := ho23.form
            have HI23 := Lib.hid hI23
            have HT23 := Lib.hid (HT22.out.below hb23)
            have HBl23 := Lib.hid (below_more HBl22.out hb23)
            clear hI23 ho23 hb23 HT22 HBl22 HB22
            have htl := turnI_len u3 l23
            have htq := eqL_self (turnI u3 l23)
            go_wp2_with fail
            refine (iTurn_any u3 A23 l23 c23 _ HT23.out HI23.out (by omega)).mono ?_
            rintro e w24 ⟨v24, rfl, ho24, hb24⟩
            obtain ⟨A24, c24, rfl, hI24⟩ := ho24.form
            have HS24 := Lib.hid hI24
            have HI24 := Lib.hid (HI23.out.below hb24)
            have HBl24 := Lib.hid (below_more HBl23.out hb24)
            clear hI24 ho24 hb24 HI23 HT23 HBl23
            go_wp2_with fail
            refine (sTurn_any u3 A23 l23 c23 _ HI24.out (by omega)).mono ?_
            rintro e w25 ⟨v25, rfl, ho25, hb25⟩
            obtain ⟨A25, c25, rfl, hI25⟩ := ho25.form
            have HZ25 := Lib.hid hI25
            have HS25 := Lib.hid (HS24.out.below hb25)
            have HBl25 := Lib.hid (below_more HBl24.out hb25)
            clear hI25 ho25 hb25 HS24 HI24 HBl24
            generalize turnOkB u3 l23 = B3 at *
            generalize turnI u3 l23 = V3 at *
            go_wp2_with fail
            refine (sameInts_any A24 A25 V3 V3 c24 c25 _ HS25.out HZ25.out (by omega)).mono ?_
            rintro e w26 ⟨rfl, n26, rfl⟩
            have HBl26 := Lib.hid (below_more HBl25.out (below_drewN' n26))
            clear HS25 HZ25 HBl25
            go_wp2_with fail
            go_ret
            exact ⟨by simp, HBl26.out⟩
        · clear hturn HI12
          go_wp2_with fail
          refine (drawSame B zb cb _ HB12.out).mono ?_
          rintro e w20 ⟨u, v20, q20, a20, b20, rfl, ho20, hp20, hl20, hm20, hb20⟩
          obtain ⟨A20, c20, rfl, hI20⟩ := ho20.form
          obtain ⟨D20, d20, rfl, hJ20⟩ := hp20.form
          have HI20 := Lib.hid hI20
          have HJ20 := Lib.hid hJ20
          have HT20 := Lib.hid (HT12.out.below hb20)
          have HBl20 := Lib.hid (below_more HBl12.out hb20)
          have HB20 := Lib.hid (HB12.out.stay hb20)
          clear hI20 hJ20 ho20 hp20 hb20 HBl12 HB12 HT12
          go_wp2_with fail
          refine (iSame_any u A20 D20 a20 b20 c20 d20 _ HT20.out HI20.out HJ20.out (by omega) (by omega)).mono ?_
          rintro e w21 ⟨rfl, hb21⟩
          have HI21 := Lib.hid (HI20.out.below hb21)
          have HJ21 := Lib.hid (HJ20.out.below hb21)
          have HT21 := Lib.hid (HT20.out.below hb21)
          have HBl21 := Lib.hid (below_more HBl20.out hb21)
          have HB21 := Lib.hid (HB20.out.stay hb21)
          clear hb21 HI20 HJ20 HT20 HBl20 HB20
          go_wp2_with fail
          refine (sSame_any u A20 D20 a20 b20 c20 d20 _ HI21.out HJ21.out (by omega) (by omega)).mono ?_
          rintro e w22 ⟨rfl, hb22⟩
          have HT22 := Lib.hid (HT21.out.below hb22)
          have HBl22 := Lib.hid (below_more HBl21.out hb22)
          have HB22 := Lib.hid (HB21.out.stay hb22)
          clear hb22 HI21 HJ21 HT21 HBl21 HB21
          generalize sameI u a20 b20 = B1 at *
          generalize sameOkB u a20 b20 = B2 at *
          go_wp2_with fail
          refine (drawTurn B zb cb _ HB22.out).mono ?_
          rintro e w23 ⟨u3, v23, l23, rfl, ho23, hl23, hb23⟩
          obtain ⟨A23, c23, rfl, hI23⟩ := ho23.form
          have HI23 := Lib.hid hI23
          have HT23 := Lib.hid (HT22.out.below hb23)
          have HBl23 := Lib.hid (below_more HBl22.out hb23)
          clear hI23 ho23 hb23 HT22 HBl22 HB22
          have htl := turnI_len u3 l23
          have htq := eqL_self (turnI u3 l23)
          go_wp2_with fail
          refine (iTurn_any u3 A23 l23 c23 _ HT23.out HI23.out (by omega)).mono ?_
          rintro e w24 ⟨v24, rfl, ho24, hb24⟩
          obtain ⟨A24, c24, rfl, hI24⟩ := ho24.form
          have HS24 := Lib.hid hI24
          have HI24 := Lib.hid (HI23.out.below hb24)
          have HBl24 := Lib.hid (below_more HBl23.out hb24)
          clear hI24 ho24 hb24 HI23 HT23 HBl23
          go_wp2_with fail
          refine (sTurn_any u3 A23 l23 c23 _ HI24.out (by omega)).mono ?_
          rintro e w25 ⟨v25, rfl, ho25, hb25⟩
          obtain ⟨A25, c25, rfl, hI25⟩ := ho25.form
          have HZ25 := Lib.hid hI25
          have HS25 := Lib.hid (HS24.out.below hb25)
          have HBl25 := Lib.hid (below_more HBl24.out hb25)
          clear hI25 ho25 hb25 HS24 HI24 HBl24
          generalize turnOkB u3 l23 = B3 at *
          generalize turnI u3 l23 = V3 at *
          go_wp2_with fail
          refine (sameInts_any A24 A25 V3 V3 c24 c25 _ HS25.out HZ25.out (by omega)).mono ?_
          rintro e w26 ⟨rfl, n26, rfl⟩
          have HBl26 := Lib.hid (below_more HBl25.out (below_drewN' n26))
          clear HS25 HZ25 HBl25
          go_wp2_with fail
          go_ret
          exact ⟨by simp, HBl26.out⟩

set_option maxRecDepth 100000 in
set_option maxHeartbeats 1000000 in
theorem stepsFn_law (A : Option Addr) (za : List Int) (ca : Nat) (B : Option Addr) (zb : List Int) (cb : Nat) (w : World) (ht : Tab w) (ha : Byts w w.heap.size A za) (hb : Byts w w.heap.size B zb) (hla : za.length ≤ 140737488355328) (hlb : zb.length ≤ 140737488355328) :
    Calls Tryd.prog 3 #[.slice A za.length ca, .slice B zb.length cb] w fun e w' => e = .returned (.bool true) ∧ Below w.heap.size w w' := by
  by_cases hl : za.length + zb.length ≤ 1048576
  · exact stepsFn_small A B za zb ca cb w ht ha hb hl
  · have hl' : (1048576 : Int) < (za.length : Int) + (zb.length : Int) := by omega
    go_enter Tryd.func3, Tryd.ntmps3
    go_wp2_with fail
    go_ret
    exact ⟨rfl, Below.refl _ _⟩
end Go.Proofs.YtjaeahobmamhoaaDoor
