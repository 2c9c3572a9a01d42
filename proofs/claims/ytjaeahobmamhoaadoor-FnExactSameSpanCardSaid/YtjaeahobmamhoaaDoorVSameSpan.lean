/-
  The law of SameSpan, walked: it returns true, and turns nothing that lay in memory.
-/
import Derived.Test.YtjaeahobmamhoaaDoorV0
namespace Go.Proofs.YtjaeahobmamhoaaDoor
open Go.RowKit

set_option maxRecDepth 100000 in
set_option maxHeartbeats 4000000 in
theorem sameSpan_law (x : Int) (A : Option Addr) (za : List Int) (ca : Nat) (B : Option Addr) (zb : List Int) (cb : Nat) (w : World) (ht : Tab w) (hza : Ints w A za) (hzb : Ints w B zb) :
    Calls Tryd.prog 12 #[.int .i64 x, .slice A za.length ca, .slice B zb.length cb] w fun e w' => e = .returned (.bool true) ∧ Below w.heap.size w w' := by
  by_cases hlza : za.length ≤ 1048576
  · have hqza := eqL_self za
    by_cases hlzb : zb.length ≤ 1048576
    · have hqzb := eqL_self zb
      have HS := Lib.hid (fun (A : Option Addr) (ca : Nat) (B : Option Addr) (cb : Nat) (w : World) (hza : Ints w A za) (hzb : Ints w B zb) => sSame_any x A B za zb ca cb w hza hzb hlza hlzb)
      have HI := Lib.hid (fun (A : Option Addr) (ca : Nat) (B : Option Addr) (cb : Nat) (w : World) (ht : Tab w) (hza : Ints w A za) (hzb : Ints w B zb) => iSame_any x A B za zb ca cb w ht hza hzb hlza hlzb)
      have HT := Lib.hid ht
      have Hza := Lib.hid hza
      have Hzb := Lib.hid hzb
      clear ht hza hzb
      generalize sameI x za zb = V at *
      generalize sameOkB x za zb = b at *
      go_enter Tryd.func12, Tryd.ntmps12
      go_wp2_with fail
      refine (toInts_any A za ca _ (Hza.out.below (Below.refl _ _)) (by omega)).mono ?_
      rintro e w1 ⟨v1, rfl, ho1, hb1⟩
      obtain ⟨A1, c1, rfl, hI1⟩ := ho1.form
      have HB1 := Lib.hid (below_more (Below.refl _ _) hb1)
      have HI1 := Lib.hid hI1
      clear hI1 ho1 hb1
      go_wp2_with fail
      refine (toInts_any B zb cb _ (Hzb.out.below (HB1.out)) (by omega)).mono ?_
      rintro e w2 ⟨v2, rfl, ho2, hb2⟩
      obtain ⟨A2, c2, rfl, hI2⟩ := ho2.form
      have HB2 := Lib.hid (below_more (HB1.out) hb2)
      have HI1_2 := Lib.hid (HI1.out.below hb2)
      have HI2 := Lib.hid hI2
      clear hI2 ho2 hb2
      go_wp2_with fail
      refine (HS.out A1 c1 A2 c2 _ (HI1_2.out) (HI2.out)).mono ?_
      rintro e w3 ⟨rfl, hb3⟩
      have HB3 := Lib.hid (below_more (HB2.out) hb3)
      have HI1_3 := Lib.hid (HI1_2.out.below hb3)
      have HI2_3 := Lib.hid (HI2.out.below hb3)
      clear hb3
      go_wp2_with fail
      refine (toInts_any A za ca _ (Hza.out.below (HB3.out)) (by omega)).mono ?_
      rintro e w4 ⟨v4, rfl, ho4, hb4⟩
      obtain ⟨A4, c4, rfl, hI4⟩ := ho4.form
      have HB4 := Lib.hid (below_more (HB3.out) hb4)
      have HI1_4 := Lib.hid (HI1_3.out.below hb4)
      have HI2_4 := Lib.hid (HI2_3.out.below hb4)
      have HI4 := Lib.hid hI4
      clear hI4 ho4 hb4
      go_wp2_with fail
      refine (toInts_any B zb cb _ (Hzb.out.below (HB4.out)) (by omega)).mono ?_
      rintro e w5 ⟨v5, rfl, ho5, hb5⟩
      obtain ⟨A5, c5, rfl, hI5⟩ := ho5.form
      have HB5 := Lib.hid (below_more (HB4.out) hb5)
      have HI1_5 := Lib.hid (HI1_4.out.below hb5)
      have HI2_5 := Lib.hid (HI2_4.out.below hb5)
      have HI4_5 := Lib.hid (HI4.out.below hb5)
      have HI5 := Lib.hid hI5
      clear hI5 ho5 hb5
      go_wp2_with fail
      refine (HI.out A4 c4 A5 c5 _ (HT.out.below (HB5.out)) (HI4_5.out) (HI5.out)).mono ?_
      rintro e w6 ⟨rfl, hb6⟩
      have HB6 := Lib.hid (below_more (HB5.out) hb6)
      have HI1_6 := Lib.hid (HI1_5.out.below hb6)
      have HI2_6 := Lib.hid (HI2_5.out.below hb6)
      have HI4_6 := Lib.hid (HI4_5.out.below hb6)
      have HI5_6 := Lib.hid (HI5.out.below hb6)
      clear hb6
      go_wp2_with fail
      refine (toInts_any A za ca _ (Hza.out.below (HB6.out)) (by omega)).mono ?_
      rintro e w7 ⟨v7, rfl, ho7, hb7⟩
      obtain ⟨A7, c7, rfl, hI7⟩ := ho7.form
      have HB7 := Lib.hid (below_more (HB6.out) hb7)
      have HI1_7 := Lib.hid (HI1_6.out.below hb7)
      have HI2_7 := Lib.hid (HI2_6.out.below hb7)
      have HI4_7 := Lib.hid (HI4_6.out.below hb7)
      have HI5_7 := Lib.hid (HI5_6.out.below hb7)
      have HI7 := Lib.hid hI7
      clear hI7 ho7 hb7
      go_wp2_with fail
      refine (eqInts_any A4 A7 za za c4 c7 _ (HI4_7.out) (HI7.out) (by omega)).mono ?_
      rintro e w8 ⟨rfl, n8, rfl⟩
      have HB8 := Lib.hid (below_more (HB7.out) (below_drewN' n8))
      have HI1_8 := Lib.hid (HI1_7.out.below (below_drewN' n8))
      have HI2_8 := Lib.hid (HI2_7.out.below (below_drewN' n8))
      have HI4_8 := Lib.hid (HI4_7.out.below (below_drewN' n8))
      have HI5_8 := Lib.hid (HI5_7.out.below (below_drewN' n8))
      have HI7_8 := Lib.hid (HI7.out.below (below_drewN' n8))
      go_wp2_with fail
      refine (toInts_any B zb cb _ (Hzb.out.below (HB8.out)) (by omega)).mono ?_
      rintro e w9 ⟨v9, rfl, ho9, hb9⟩
      obtain ⟨A9, c9, rfl, hI9⟩ := ho9.form
      have HB9 := Lib.hid (below_more (HB8.out) hb9)
      have HI1_9 := Lib.hid (HI1_8.out.below hb9)
      have HI2_9 := Lib.hid (HI2_8.out.below hb9)
      have HI4_9 := Lib.hid (HI4_8.out.below hb9)
      have HI5_9 := Lib.hid (HI5_8.out.below hb9)
      have HI7_9 := Lib.hid (HI7_8.out.below hb9)
      have HI9 := Lib.hid hI9
      clear hI9 ho9 hb9
      go_wp2_with fail
      refine (eqInts_any A5 A9 zb zb c5 c9 _ (HI5_9.out) (HI9.out) (by omega)).mono ?_
      rintro e w10 ⟨rfl, n10, rfl⟩
      have HB10 := Lib.hid (below_more (HB9.out) (below_drewN' n10))
      have HI1_10 := Lib.hid (HI1_9.out.below (below_drewN' n10))
      have HI2_10 := Lib.hid (HI2_9.out.below (below_drewN' n10))
      have HI4_10 := Lib.hid (HI4_9.out.below (below_drewN' n10))
      have HI5_10 := Lib.hid (HI5_9.out.below (below_drewN' n10))
      have HI7_10 := Lib.hid (HI7_9.out.below (below_drewN' n10))
      have HI9_10 := Lib.hid (HI9.out.below (below_drewN' n10))
      go_wp2_with fail
      go_ret
      exact ⟨rfl, HB10.out⟩
    · have hl' : (1048576 : Int) < (zb.length : Int) := by omega
      go_enter Tryd.func12, Tryd.ntmps12
      go_wp2_with fail
      go_ret
      exact ⟨rfl, Below.refl _ _⟩
  · have hl' : (1048576 : Int) < (za.length : Int) := by omega
    go_enter Tryd.func12, Tryd.ntmps12
    go_wp2_with fail
    go_ret
    exact ⟨rfl, Below.refl _ _⟩
end Go.Proofs.YtjaeahobmamhoaaDoor
