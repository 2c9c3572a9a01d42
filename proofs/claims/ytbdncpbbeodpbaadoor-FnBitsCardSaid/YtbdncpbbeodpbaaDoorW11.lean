/-
  The law FnBits, walked: it returns true, and turns nothing that lay in memory.
-/
import Derived.Test.YtbdncpbbeodpbaaDoorW10
import Derived.Test.YtbdncpbbeodpbaaDoorD4
namespace Go.Proofs.YtbdncpbbeodpbaaDoor
open Go.RowKit

/-- What stands behind FnBits' first half: the two draws of its second half, and the four answers. -/
def BitsRest (w : World) (e : Ending) (w' : World) : Prop := e = .returned (.bool true) ∧ Below w.heap.size w w'

set_option maxRecDepth 100000 in
set_option maxHeartbeats 4000000 in
theorem bits_small (A B : Option Addr) (za zb : List Int) (ca cb : Nat) (w : World) (ht : Tab w) (ha : Byts w w.heap.size A za) (hb : Byts w w.heap.size B zb) (hl : za.length + zb.length ≤ 1048576) :
    Calls Tryd.prog 4 #[.slice A za.length ca, .slice B zb.length cb] w (BitsRest w) := by
  have HT := Lib.hid ht
  have HA := Lib.hid ha
  have HB := Lib.hid hb
  clear ht ha hb
  go_enter Tryd.func4, Tryd.ntmps4
  go_wp2_with fail
  refine (drawBitsIn A za ca _ HA.out).mono ?_
  rintro e w1 ⟨x, r, rfl, hb1⟩
  have HT1 := Lib.hid (HT.out.below hb1)
  have HBl1 := Lib.hid hb1
  have HB1 := Lib.hid (HB.out.below hb1)
  have hlen := bitsI_len x r
  have hq := eqL_self (bitsI x r)
  clear hb1 HT HA HB
  go_wp2_with fail
  refine (iBits_any x r _ HT1.out).mono ?_
  rintro e w2 ⟨v2, rfl, ho2, hb2⟩
  obtain ⟨A2, c2, rfl, hI2⟩ := ho2.form
  have HI2 := Lib.hid hI2
  have HT2 := Lib.hid (HT1.out.below hb2)
  have HBl2 := Lib.hid (below_more HBl1.out hb2)
  have HB2 := Lib.hid (HB1.out.below hb2)
  clear hI2 ho2 hb2 HT1 HBl1 HB1
  go_wp2_with fail
  refine (sBits_any x r _).mono ?_
  rintro e w3 ⟨v3, rfl, ho3, hb3⟩
  obtain ⟨A3, c3, rfl, hI3⟩ := ho3.form
  have HI3 := Lib.hid hI3
  have HI2' := Lib.hid (HI2.out.below hb3)
  have HT3 := Lib.hid (HT2.out.below hb3)
  have HBl3 := Lib.hid (below_more HBl2.out hb3)
  have HB3 := Lib.hid (HB2.out.below hb3)
  clear hI3 ho3 hb3 HT2 HBl2 HB2 HI2
  go_wp2_with fail
  refine (sameInts_any A2 A3 _ _ c2 c3 _ HI2'.out HI3.out (by omega)).mono ?_
  rintro e w4 ⟨rfl, n4, rfl⟩
  have hd : Below w3.heap.size w3 (w3.drewN n4) := below_drewN' n4
  have HI4 := Lib.hid (HI2'.out.below hd)
  have HT4 := Lib.hid (HT3.out.below hd)
  have HBl4 := Lib.hid (below_more HBl3.out hd)
  have HB4 := Lib.hid (HB3.out.below hd)
  clear hd HT3 HBl3 HB3 HI2' HI3
  generalize w3.drewN n4 = w4 at *
  cases hg : goodB x r
  · go_wp2_with fail
    refine (drawRowOf B zb cb _ HB4.out).mono ?_
    rintro e w5 ⟨u, v5, l5, rfl, ho5, hl5, hb5⟩
    obtain ⟨A5, c5, rfl, hI5⟩ := ho5.form
    have HI5 := Lib.hid hI5
    have HT5 := Lib.hid (HT4.out.below hb5)
    have HBl5 := Lib.hid (below_more HBl4.out hb5)
    have HB5 := Lib.hid (HB4.out.below hb5)
    clear hI5 ho5 hb5 HT4 HBl4 HB4 HI4
    go_wp2_with fail
    refine (iRow_any u A5 l5 c5 _ HT5.out HI5.out (by omega)).mono ?_
    rintro e w6 ⟨rfl, rfl⟩
    go_wp2_with fail
    refine (sRow_any u A5 l5 c5 _ HI5.out (by omega)).mono ?_
    rintro e w6 ⟨rfl, rfl⟩
    go_wp2_with fail
    refine (drawSumRows B zb cb _ HB5.out).mono ?_
    rintro e w7 ⟨y, v7, q7, rs, ks, rfl, ho7, hp7, hl7, hm7, hb7⟩
    obtain ⟨A7, c7, rfl, hI7⟩ := ho7.form
    obtain ⟨D7, d7, rfl, hJ7⟩ := hp7.form
    have HI7 := Lib.hid hI7
    have HJ7 := Lib.hid hJ7
    have HT7 := Lib.hid (HT5.out.below hb7)
    have HBl7 := Lib.hid (below_more HBl5.out hb7)
    clear hI7 hJ7 ho7 hp7 hb7 HT5 HBl5 HB5 HI5
    go_wp2_with fail
    refine (iSum_any y A7 D7 rs ks c7 d7 _ HT7.out HI7.out HJ7.out (by omega) (by omega)).mono ?_
    rintro e w8 ⟨rfl, rfl⟩
    go_wp2_with fail
    refine (sSum_any y A7 D7 rs ks c7 d7 _ HI7.out HJ7.out (by omega) (by omega)).mono ?_
    rintro e w8 ⟨rfl, rfl⟩
    go_wp2_with fail
    go_ret
    exact ⟨rfl, HBl7.out⟩
  · obtain ⟨m, n, rfl, rfl, hm1, hm2, hn⟩ := good_nat hg
    have hbi : bitsI (m : Int) (n : Int) = bitsL m n := by simp [bitsI, hg]
    rw [hbi] at HI4 hlen hq
    have hn16 := lt16 hm2 hn
    have hlenE : (bitsL m n).length = cnt m n := bitsL_len m n
    have hrow : ((rowL (bitsL m n) : Int) != (n : Int)) = false := by
      rw [rowL_bits, Nat.mod_eq_of_lt hn]; simp
    have hcnt : ((cnt m n : Int) != ((bitsL m n).length : Int)) = false := by rw [hlenE]; simp
    have HR := Lib.hid (bitsL_rise m n 0 (Int.le_refl _))
    have HW : Hid (wideB (m : Int) = true) := wideB_true (by omega) (by omega)
    have HG := Lib.hid hg
    have hcl := cnt_le m n
    rw [hbi]
    clear hlenE hbi
    go_wp2_with fail
    refine (iRow_ok m A2 (bitsL m n) c2 _ HT4.out HI4.out (by omega) hm2 HW.out HR.out).mono ?_
    rintro e w5 ⟨rfl, rfl⟩
    go_wp2_with fail
    refine (iWeight_ok m n _ HT4.out HG.out hm2 hn16).mono ?_
    rintro e w5 ⟨rfl, rfl⟩
    clear HG HW HR hg
    go_wp2_with fail
    refine (drawRowOf B zb cb _ HB4.out).mono ?_
    rintro e w5 ⟨u, v5, l5, rfl, ho5, hl5, hb5⟩
    obtain ⟨A5, c5, rfl, hI5⟩ := ho5.form
    have HI5 := Lib.hid hI5
    have HT5 := Lib.hid (HT4.out.below hb5)
    have HBl5 := Lib.hid (below_more HBl4.out hb5)
    have HB5 := Lib.hid (HB4.out.below hb5)
    clear hI5 ho5 hb5 HT4 HBl4 HB4 HI4
    go_wp2_with fail
    refine (iRow_any u A5 l5 c5 _ HT5.out HI5.out (by omega)).mono ?_
    rintro e w6 ⟨rfl, rfl⟩
    go_wp2_with fail
    refine (sRow_any u A5 l5 c5 _ HI5.out (by omega)).mono ?_
    rintro e w6 ⟨rfl, rfl⟩
    go_wp2_with fail
    refine (drawSumRows B zb cb _ HB5.out).mono ?_
    rintro e w7 ⟨y, v7, q7, rs, ks, rfl, ho7, hp7, hl7, hm7, hb7⟩
    obtain ⟨A7, c7, rfl, hI7⟩ := ho7.form
    obtain ⟨D7, d7, rfl, hJ7⟩ := hp7.form
    have HI7 := Lib.hid hI7
    have HJ7 := Lib.hid hJ7
    have HT7 := Lib.hid (HT5.out.below hb7)
    have HBl7 := Lib.hid (below_more HBl5.out hb7)
    clear hI7 hJ7 ho7 hp7 hb7 HT5 HBl5 HB5 HI5
    go_wp2_with fail
    refine (iSum_any y A7 D7 rs ks c7 d7 _ HT7.out HI7.out HJ7.out (by omega) (by omega)).mono ?_
    rintro e w8 ⟨rfl, rfl⟩
    go_wp2_with fail
    refine (sSum_any y A7 D7 rs ks c7 d7 _ HI7.out HJ7.out (by omega) (by omega)).mono ?_
    rintro e w8 ⟨rfl, rfl⟩
    go_wp2_with fail
    go_ret
    exact ⟨rfl, HBl7.out⟩

set_option maxRecDepth 100000 in
set_option maxHeartbeats 400000 in
theorem bits_law (A : Option Addr) (za : List Int) (ca : Nat) (B : Option Addr) (zb : List Int) (cb : Nat) (w : World) (ht : Tab w) (ha : Byts w w.heap.size A za) (hb : Byts w w.heap.size B zb) (hla : za.length ≤ 140737488355328) (hlb : zb.length ≤ 140737488355328) :
    Calls Tryd.prog 4 #[.slice A za.length ca, .slice B zb.length cb] w fun e w' => e = .returned (.bool true) ∧ Below w.heap.size w w' := by
  by_cases hl : za.length + zb.length ≤ 1048576
  · exact (bits_small A B za zb ca cb w ht ha hb hl).mono fun _ _ h => h
  · have hl' : (1048576 : Int) < (za.length : Int) + (zb.length : Int) := by omega
    go_enter Tryd.func4, Tryd.ntmps4
    go_wp2_with fail
    go_ret
    exact ⟨rfl, Below.refl _ _⟩
end Go.Proofs.YtbdncpbbeodpbaaDoor
