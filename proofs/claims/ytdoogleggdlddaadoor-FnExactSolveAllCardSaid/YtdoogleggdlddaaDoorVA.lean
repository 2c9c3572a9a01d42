/-
  Laws of chapter 6, walked, whatever the program's own texts are: ExtraFor, RowFor, RaptorFor, IsWhole, SmallestOf.
-/
import Derived.Test.YtdoogleggdlddaaDoorVO
import Derived.Test.YtdoogleggdlddaaDoorEX
namespace Go.Proofs.YtdoogleggdlddaaDoor
open Go.RowKit

set_option maxRecDepth 100000 in
set_option maxHeartbeats 1000000 in
theorem smallestOf_law {K : World → Prop} (hK : Stays5 K) (hI : ∀ (n : Int) (A : Option Addr) (zs : List Int) (ca : Nat) (w : World), K w → Ints w A zs → zs.length ≤ 1048576 → zs.length ≤ ca → Calls Tryd.prog 12 #[.int .i64 n, .slice A zs.length ca] w fun e w' => e = .returned (.tuple #[.int .i64 (smI n zs), .bool (smOkB n zs)]) ∧ Below w.heap.size w w')
    (n : Int) (A : Option Addr) (zs : List Int) (ca : Nat) (w : World) (hw : K w) (ha : Ints w A zs) : Calls Tryd.prog 6 #[.int .i64 n, .slice A zs.length ca] w fun e w' => e = .returned (.bool true) ∧ Below w.heap.size w w' := by
  by_cases hl : zs.length ≤ 1048576
  · have hli : ¬ (1048576 : Int) < (zs.length : Int) := by omega
    have hq : eqL zs zs = true := by simp [eqL]
    have HI := Lib.hid (fun A ca w hk ha hc => hI n A zs ca w hk ha hl hc)
    have HS := Lib.hid (fun A ca w ha hc => sSmall_any n A zs ca w ha hl hc)
    have HW := Lib.hid hw
    have HA := Lib.hid ha
    clear hI hw ha
    generalize smI n zs = a1 at *
    generalize smOkB n zs = a5 at *
    go_enter Tryd.func6, Tryd.ntmps6
    go_wp2_with fail
    refine (toInts_any A zs ca _ HA.out (by omega)).mono ?_
    rintro e w1 ⟨v1, rfl, ho1, hb1⟩
    obtain ⟨A1, c1, rfl, hcap1, hI1⟩ := gFormC ho1
    have HI1 := Lib.hid hI1
    have HB1 := Lib.hid hb1
    clear hI1 ho1 hb1
    go_wp2_with fail
    refine (HS.out A1 c1 _ HI1.out hcap1).mono ?_
    rintro e w2 ⟨rfl, hb2⟩
    have HB2 := Lib.hid (below_more HB1.out hb2)
    clear hb2 HI1 HB1
    go_wp2_with fail
    refine (toInts_any A zs ca _ (HA.out.below HB2.out) (by omega)).mono ?_
    rintro e w3 ⟨v3, rfl, ho3, hb3⟩
    obtain ⟨A3, c3, rfl, hcap3, hI3⟩ := gFormC ho3
    have HI3 := Lib.hid hI3
    have HB3 := Lib.hid (below_more HB2.out hb3)
    clear hI3 ho3 hb3 HB2
    go_wp2_with fail
    refine (HI.out A3 c3 _ (hK _ _ HW.out HB3.out) HI3.out hcap3).mono ?_
    rintro e w4 ⟨rfl, hb4⟩
    have HI4 := Lib.hid (HI3.out.below hb4)
    have HB4 := Lib.hid (below_more HB3.out hb4)
    clear hb4 HI3 HB3
    go_wp2_with fail
    refine (toInts_any A zs ca _ (HA.out.below HB4.out) (by omega)).mono ?_
    rintro e w5 ⟨v5, rfl, ho5, hb5⟩
    obtain ⟨A5, c5, rfl, hI5⟩ := ho5.form
    have HI5 := Lib.hid hI5
    have HI4' := Lib.hid (HI4.out.below hb5)
    have HB5 := Lib.hid (below_more HB4.out hb5)
    clear hI5 ho5 hb5 HI4 HB4
    go_wp2_with fail
    refine (eqInts_any A3 A5 zs zs c3 c5 _ HI4'.out HI5.out (by omega)).mono ?_
    rintro e w6 ⟨rfl, n6, rfl⟩
    go_wp2_with fail
    go_ret
    exact ⟨rfl, below_more HB5.out (gDrewN n6)⟩
  · have hli : (1048576 : Int) < (zs.length : Int) := by omega
    clear hI
    go_enter Tryd.func6, Tryd.ntmps6
    go_wp2_with fail
    go_ret
    exact ⟨rfl, Below.refl _ _⟩
end Go.Proofs.YtdoogleggdlddaaDoor
