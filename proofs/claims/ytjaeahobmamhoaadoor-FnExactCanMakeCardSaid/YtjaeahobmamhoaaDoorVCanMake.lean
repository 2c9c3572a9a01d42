/-
  The law of CanMake, walked: it returns true, and turns nothing that lay in memory.
-/
import Derived.Test.YtjaeahobmamhoaaDoorV0
namespace Go.Proofs.YtjaeahobmamhoaaDoor
open Go.RowKit

set_option maxRecDepth 100000 in
set_option maxHeartbeats 4000000 in
theorem canMake_law (x : Int) (A : Option Addr) (zs : List Int) (ca : Nat) (y : Int) (w : World) (ht : Tab w) (hzs : Ints w A zs) :
    Calls Tryd.prog 7 #[.int .i64 x, .slice A zs.length ca, .int .i64 y] w fun e w' => e = .returned (.bool true) ∧ Below w.heap.size w w' := by
  by_cases hlzs : zs.length ≤ 1048576
  · have hqzs := eqL_self zs
    have HS := Lib.hid (fun (A : Option Addr) (ca : Nat) (w : World) (hzs : Ints w A zs) => sCan_any x A zs ca y w hzs hlzs)
    have HI := Lib.hid (fun (A : Option Addr) (ca : Nat) (w : World) (ht : Tab w) (hzs : Ints w A zs) => iCan_any x A zs ca y w ht hzs hlzs)
    have HT := Lib.hid ht
    have Hzs := Lib.hid hzs
    clear ht hzs
    generalize canI x zs y = V at *
    generalize twoOkB x zs y = b at *
    go_enter Tryd.func7, Tryd.ntmps7
    go_wp2_with fail
    refine (toInts_any A zs ca _ (Hzs.out.below (Below.refl _ _)) (by omega)).mono ?_
    rintro e w1 ⟨v1, rfl, ho1, hb1⟩
    obtain ⟨A1, c1, rfl, hI1⟩ := ho1.form
    have HB1 := Lib.hid (below_more (Below.refl _ _) hb1)
    have HI1 := Lib.hid hI1
    clear hI1 ho1 hb1
    go_wp2_with fail
    refine (HS.out A1 c1 _ (HI1.out)).mono ?_
    rintro e w2 ⟨rfl, hb2⟩
    have HB2 := Lib.hid (below_more (HB1.out) hb2)
    have HI1_2 := Lib.hid (HI1.out.below hb2)
    clear hb2
    go_wp2_with fail
    refine (toInts_any A zs ca _ (Hzs.out.below (HB2.out)) (by omega)).mono ?_
    rintro e w3 ⟨v3, rfl, ho3, hb3⟩
    obtain ⟨A3, c3, rfl, hI3⟩ := ho3.form
    have HB3 := Lib.hid (below_more (HB2.out) hb3)
    have HI1_3 := Lib.hid (HI1_2.out.below hb3)
    have HI3 := Lib.hid hI3
    clear hI3 ho3 hb3
    go_wp2_with fail
    refine (HI.out A3 c3 _ (HT.out.below (HB3.out)) (HI3.out)).mono ?_
    rintro e w4 ⟨rfl, hb4⟩
    have HB4 := Lib.hid (below_more (HB3.out) hb4)
    have HI1_4 := Lib.hid (HI1_3.out.below hb4)
    have HI3_4 := Lib.hid (HI3.out.below hb4)
    clear hb4
    go_wp2_with fail
    refine (toInts_any A zs ca _ (Hzs.out.below (HB4.out)) (by omega)).mono ?_
    rintro e w5 ⟨v5, rfl, ho5, hb5⟩
    obtain ⟨A5, c5, rfl, hI5⟩ := ho5.form
    have HB5 := Lib.hid (below_more (HB4.out) hb5)
    have HI1_5 := Lib.hid (HI1_4.out.below hb5)
    have HI3_5 := Lib.hid (HI3_4.out.below hb5)
    have HI5 := Lib.hid hI5
    clear hI5 ho5 hb5
    go_wp2_with fail
    refine (eqInts_any A3 A5 zs zs c3 c5 _ (HI3_5.out) (HI5.out) (by omega)).mono ?_
    rintro e w6 ⟨rfl, n6, rfl⟩
    have HB6 := Lib.hid (below_more (HB5.out) (below_drewN' n6))
    have HI1_6 := Lib.hid (HI1_5.out.below (below_drewN' n6))
    have HI3_6 := Lib.hid (HI3_5.out.below (below_drewN' n6))
    have HI5_6 := Lib.hid (HI5.out.below (below_drewN' n6))
    go_wp2_with fail
    go_ret
    exact ⟨rfl, HB6.out⟩
  · have hl' : (1048576 : Int) < (zs.length : Int) := by omega
    go_enter Tryd.func7, Tryd.ntmps7
    go_wp2_with fail
    go_ret
    exact ⟨rfl, Below.refl _ _⟩
end Go.Proofs.YtjaeahobmamhoaaDoor
