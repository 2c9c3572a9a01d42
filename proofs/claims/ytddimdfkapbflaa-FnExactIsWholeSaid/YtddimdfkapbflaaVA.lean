/-
  Laws of chapter 6, walked, whatever the program's own texts are: ExtraFor, RowFor, RaptorFor, IsWhole, SmallestOf.
-/
import Derived.Test.YtddimdfkapbflaaVO
import Derived.Test.YtddimdfkapbflaaEX
namespace Go.Proofs.Ytddimdfkapbflaa
open Go.RowKit

set_option maxRecDepth 100000 in
set_option maxHeartbeats 2000000 in
theorem extraFor_law {K : World → Prop} (hK : Stays5 K) (hI : ∀ (p b : Int) (w : World), K w → Calls Try.prog 7 #[.int .i64 p, .int .i64 b] w fun e w' => ∃ v, e = .returned (.tuple #[v, .bool (exOkB p b)]) ∧ Own w' w.heap.size v (exI p b) ∧ Below w.heap.size w w')
    (p b : Int) (w : World) (hw : K w) : Calls Try.prog 3 #[.int .i64 p, .int .i64 b] w fun e w' => e = .returned (.bool true) ∧ Below w.heap.size w w' := by
  have hlen := exI_len p b
  have HI := Lib.hid (fun w => hI p b w)
  have HS := Lib.hid (sExtra_any p b w)
  have HW := Lib.hid hw
  clear hI hw
  generalize exI p b = V at *
  generalize exOkB p b = bb at *
  have hq : eqL V V = true := by simp [eqL]
  go_enter Try.func3, Try.ntmps3
  go_wp2_with fail
  refine HS.out.mono ?_
  rintro e w1 ⟨v1, rfl, ho1, hb1⟩
  obtain ⟨A1, c1, rfl, _⟩ := ho1.form
  have HO1 := Lib.hid ho1
  have HB1 := Lib.hid hb1
  clear ho1 hb1 HS
  go_wp2_with fail
  refine (HI.out w1 (hK _ _ HW.out HB1.out)).mono ?_
  rintro e w2 ⟨v2, rfl, ho2, hb2⟩
  obtain ⟨A2, c2, rfl, _⟩ := ho2.form
  have HO2 := Lib.hid ho2
  have HO1' := Lib.hid (HO1.out.below hb2)
  have HB2 := Lib.hid (below_more HB1.out hb2)
  have hs12 := HB1.out.size
  have HL1 := Lib.hid (fun k hk => (HO1.out.lt k hk).2)
  have HG2 := Lib.hid (fun k hk => (ho2.lt k hk).1)
  clear ho2 hb2 HO1 HB1
  go_wp2_with fail
  refine (eqInts_any A2 A1 V V c2 c1 _ (own_ints5 HO2.out) (own_ints5 HO1'.out) (by omega)).mono ?_
  rintro e w3 ⟨rfl, n3, rfl⟩
  have hb3 : Below w2.heap.size w2 (w2.drewN n3) := gDrewN n3
  have HO3 := Lib.hid (HO2.out.below hb3)
  have HO1 := Lib.hid (HO1'.out.below hb3)
  have HB3 := Lib.hid (below_more HB2.out hb3)
  clear hb3 HO2 HO1' HB2
  generalize w2.drewN n3 = w3 at *
  go_wp2_with fail
  refine (markInts_any _ V _ 1 _ HO3.out (by omega) (by omega) (by omega)).mono ?_
  rintro e w4 ⟨rfl, ho4, hg4⟩
  have hml := marks_length 1 V.length
  have HO4 := Lib.hid ho4
  have HO1' : Hid (Own w4 w.heap.size (.slice A1 V.length c1) V) := HO1.out.kept hg4 (apart5 HL1.out HG2.out)
  have HB4 : Hid (Below w.heap.size w w4) := HB3.out.grown hg4 HB3.out.size (fun k hk => Nat.le_trans hs12 (HG2.out k hk))
  clear ho4 hg4 HO3 HO1 HB3
  go_wp2_with fail
  refine (heldInts_any A2 1 V.length c2 _ (own_ints5 HO4.out) (by omega) (by omega) (by omega)).mono ?_
  rintro e w5 ⟨rfl, rfl⟩
  go_wp2_with fail
  refine (HI.out w4 (hK _ _ HW.out HB4.out)).mono ?_
  rintro e w6 ⟨v6, rfl, ho6, hb6⟩
  obtain ⟨A6, c6, rfl, _⟩ := ho6.form
  have HO6 := Lib.hid ho6
  have HO1 := Lib.hid (HO1'.out.below hb6)
  have HO4' := Lib.hid (HO4.out.below hb6)
  have HB6 := Lib.hid (below_more HB4.out hb6)
  clear ho6 hb6 HO1' HO4 HB4
  go_wp2_with fail
  refine (eqInts_any A6 A1 V V c6 c1 _ (own_ints5 HO6.out) (own_ints5 HO1.out) (by omega)).mono ?_
  rintro e w7 ⟨rfl, n7, rfl⟩
  have hb7 : Below w6.heap.size w6 (w6.drewN n7) := gDrewN n7
  have HO4 := Lib.hid (HO4'.out.below hb7)
  have HB7 := Lib.hid (below_more HB6.out hb7)
  clear hb7 HO4' HB6
  generalize w6.drewN n7 = w7 at *
  go_wp2_with fail
  refine (heldInts_any A2 1 V.length c2 _ (own_ints5 HO4.out) (by omega) (by omega) (by omega)).mono ?_
  rintro e w8 ⟨rfl, rfl⟩
  go_wp2_with fail
  go_ret
  exact ⟨rfl, HB7.out⟩

set_option maxRecDepth 100000 in
set_option maxHeartbeats 1000000 in
theorem isWhole_law {K : World → Prop} (hK : Stays5 K) (hI : ∀ (A : Option Addr) (zs : List Int) (ca : Nat) (w : World), K w → Ints w A zs → zs.length ≤ 1048576 → zs.length ≤ ca → Calls Try.prog 15 #[.slice A zs.length ca] w fun e w' => e = .returned (.tuple #[.bool (isI zs), .bool (isOkB zs)]) ∧ Below w.heap.size w w')
    (A : Option Addr) (zs : List Int) (ca : Nat) (w : World) (hw : K w) (ha : Ints w A zs) : Calls Try.prog 5 #[.slice A zs.length ca] w fun e w' => e = .returned (.bool true) ∧ Below w.heap.size w w' := by
  by_cases hl : zs.length ≤ 1048576
  · have hli : ¬ (1048576 : Int) < (zs.length : Int) := by omega
    have hq : eqL zs zs = true := by simp [eqL]
    have HI := Lib.hid (fun A ca w hk ha hc => hI A zs ca w hk ha hl hc)
    have HS := Lib.hid (fun A ca w ha hc => sIs_any A zs ca w ha hl hc)
    have HW := Lib.hid hw
    have HA := Lib.hid ha
    clear hI hw ha
    generalize isI zs = a1 at *
    generalize isOkB zs = a5 at *
    go_enter Try.func5, Try.ntmps5
    go_wp2_with fail
    refine (toInts_any A zs ca _ HA.out (by omega)).mono ?_
    rintro e w1 ⟨v1, rfl, ho1, hb1⟩
    obtain ⟨A1, c1, rfl, hcap1, hI1⟩ := gFormC ho1
    have HI1 := Lib.hid hI1
    have HB1 := Lib.hid hb1
    clear hI1 ho1 hb1
    go_wp2_with fail
    refine (HS.out A1 c1 _ HI1.out hcap1).mono ?_
    rintro e w2 ⟨rfl, hb2⟩
    have HB2 := Lib.hid (below_more HB1.out hb2)
    clear hb2 HI1 HB1
    go_wp2_with fail
    refine (toInts_any A zs ca _ (HA.out.below HB2.out) (by omega)).mono ?_
    rintro e w3 ⟨v3, rfl, ho3, hb3⟩
    obtain ⟨A3, c3, rfl, hcap3, hI3⟩ := gFormC ho3
    have HI3 := Lib.hid hI3
    have HB3 := Lib.hid (below_more HB2.out hb3)
    clear hI3 ho3 hb3 HB2
    go_wp2_with fail
    refine (HI.out A3 c3 _ (hK _ _ HW.out HB3.out) HI3.out hcap3).mono ?_
    rintro e w4 ⟨rfl, hb4⟩
    have HI4 := Lib.hid (HI3.out.below hb4)
    have HB4 := Lib.hid (below_more HB3.out hb4)
    clear hb4 HI3 HB3
    go_wp2_with fail
    refine (toInts_any A zs ca _ (HA.out.below HB4.out) (by omega)).mono ?_
    rintro e w5 ⟨v5, rfl, ho5, hb5⟩
    obtain ⟨A5, c5, rfl, hI5⟩ := ho5.form
    have HI5 := Lib.hid hI5
    have HI4' := Lib.hid (HI4.out.below hb5)
    have HB5 := Lib.hid (below_more HB4.out hb5)
    clear hI5 ho5 hb5 HI4 HB4
    go_wp2_with fail
    refine (eqInts_any A3 A5 zs zs c3 c5 _ HI4'.out HI5.out (by omega)).mono ?_
    rintro e w6 ⟨rfl, n6, rfl⟩
    go_wp2_with fail
    go_ret
    exact ⟨rfl, below_more HB5.out (gDrewN n6)⟩
  · have hli : (1048576 : Int) < (zs.length : Int) := by omega
    clear hI
    go_enter Try.func5, Try.ntmps5
    go_wp2_with fail
    go_ret
    exact ⟨rfl, Below.refl _ _⟩

end Go.Proofs.Ytddimdfkapbflaa
