/-
  The law of WordFor, walked: it returns true, and turns nothing that lay in memory.
-/
import Derived.Test.YtfkojlpihpgnaaaDoorNA
namespace Go.Proofs.YtfkojlpihpgnaaaDoor
open Go.RowKit

set_option maxRecDepth 100000 in
set_option maxHeartbeats 4000000 in
theorem wordFor_law (x : Int) (A : Option Addr) (zs : List Int) (ca : Nat) (y : Int) (w : World) (ht : Tab w) (hzs : Ints w A zs) (hz : zs.length ≤ 9223372036854775807) :
    Calls Tryd.prog 8 #[codeV x (.slice A zs.length ca), .int .i64 y] w fun e w' => e = .returned (.bool true) ∧ Below w.heap.size w w' := by
  have HX0 := Lib.hid (Boxd.new w 59 x (.slice A zs.length ca))
  have HB0 := Lib.hid (below_alloc1 w (.cells #[.int .i64 x, .slice A zs.length ca] 59))
  by_cases hl : zs.length ≤ 1048576
  · have hn : ¬ ((1048576 : Int) - (zs.length : Int) < 0) := by omega
    have hq := eqL_self zs
    have HS := Lib.hid (fun (A : Option Addr) (ca : Nat) (w : World) (ha : Ints w A zs) (hcap : zs.length ≤ ca) => sWord_any x A zs ca y w ha hl)
    have HI := Lib.hid (fun (A : Option Addr) (ca : Nat) (w : World) (ht : Tab w) (ha : Ints w A zs) => iWord_any x A zs ca y w ht ha hl)
    have HT := Lib.hid ht
    have HA := Lib.hid hzs
    clear ht hzs
    generalize wordI x zs y = V at *
    generalize wordOkB x zs y = b at *
    go_enter Tryd.func8, Tryd.ntmps8
    go_wp2_with fail
    refine (szCode_ok x A zs.length ca _ hl).mono ?_
    rintro e w1 ⟨rfl, hb1⟩
    have HX1 := Lib.hid (HX0.out.below hb1)
    have HB1 := Lib.hid (below_more HB0.out hb1)
    have hk0 := HX1.out.cell0
    have hk1 := HX1.out.cell1
    clear hb1 HX0 HB0
    go_wp2_with fail
    refine (toCode_any x A zs ca _ (HA.out.below HB1.out) (by omega)).mono ?_
    rintro e w2 ⟨v2, rfl, ho2, hb2⟩
    obtain ⟨A2, c2, rfl, hcap2, hI2⟩ := ho2.formC
    have HI2 := Lib.hid hI2
    have HX2 := Lib.hid (HX1.out.below hb2)
    have HB2 := Lib.hid (below_more HB1.out hb2)
    clear hI2 ho2 hb2 HX1 HB1 hk0 hk1
    go_wp2_with fail
    refine (HS.out A2 c2 _ HI2.out hcap2).mono ?_
    rintro e w3 ⟨rfl, hb3⟩
    have HX3 := Lib.hid (HX2.out.below hb3)
    have HB3 := Lib.hid (below_more HB2.out hb3)
    have hk0 := HX3.out.cell0
    have hk1 := HX3.out.cell1
    clear hb3 HX2 HB2 HI2 HS
    go_wp2_with fail
    refine (toCode_any x A zs ca _ (HA.out.below HB3.out) (by omega)).mono ?_
    rintro e w4 ⟨v4, rfl, ho4, hb4⟩
    obtain ⟨A4, c4, rfl, hI4⟩ := ho4.form
    have HX4 := Lib.hid ((HX3.out.below hb4).alloc1 (.cells #[.int .i64 x, .slice A4 zs.length c4] 40))
    have HY4 := Lib.hid (Boxd.new w4 40 x (.slice A4 zs.length c4))
    have HI4 := Lib.hid (hI4.alloc1 (.cells #[.int .i64 x, .slice A4 zs.length c4] 40))
    have HB4 := Lib.hid (below_more (below_more HB3.out hb4) (below_alloc1 w4 (.cells #[.int .i64 x, .slice A4 zs.length c4] 40)))
    have hy0 := HY4.out.cell0
    have hy1 := HY4.out.cell1
    clear hI4 ho4 hb4 HX3 HB3 hk0 hk1
    go_wp2_with fail
    generalize w4.alloc (.cells #[.int .i64 x, .slice A4 zs.length c4] 40) = W4 at *
    refine (HI.out A4 c4 _ (HT.out.below HB4.out) HI4.out).mono ?_
    rintro e w6 ⟨rfl, hb6⟩
    have HX6 := Lib.hid (HX4.out.below hb6)
    have HY6 := Lib.hid (HY4.out.below hb6)
    have HI6 := Lib.hid (HI4.out.below hb6)
    have HB6 := Lib.hid (below_more HB4.out hb6)
    have HA6 := Lib.hid (HA.out.below HB6.out)
    have hk0 := HX6.out.cell0
    have hk1 := HX6.out.cell1
    have hy0 := HY6.out.cell0
    have hy1 := HY6.out.cell1
    clear hb6 HX4 HY4 HI4 HB4
    go_wp2_with fail
    generalize hgg : w.heap.size = g at *
    generalize w4.heap.size = g4 at *
    go_region_held3 (fun w' => w'.cell? ⟨g4, 0, none⟩ = some (.int .i64 x) ∧ w'.cell? ⟨g4, 1, none⟩ = some (.slice A4 zs.length c4) ∧ w'.cell? ⟨g, 0, none⟩ = some (.int .i64 x) ∧ w'.cell? ⟨g, 1, none⟩ = some (.slice A zs.length ca))
      (first | exact ⟨hy0, hy1, hk0, hk1⟩ | exact ⟨hp0, hp1, hp2, hp3⟩ | exact ⟨hr0, hr1, hr2, hr3⟩ | go_keep) (first
      | (go_at_call 56; refine (toCode_any x A zs ca _ HA6.out.drew1 (by omega)).mono ?_; rintro e w7 ⟨v7, rfl, ho7, hb7⟩; obtain ⟨A7, c7, rfl, hI7⟩ := ho7.form; have HX7 := Lib.hid (HX6.out.drew1.below hb7); have HY7 := Lib.hid (HY6.out.drew1.below hb7); have hp0 := HY7.out.cell0; have hp1 := HY7.out.cell1; have hp2 := HX7.out.cell0; have hp3 := HX7.out.cell1)
      | (go_at_call 57; refine (eqCode_any x x A4 A7 zs zs c4 c7 w7 (HI6.out.drew1.below hb7) hI7 (by omega)).mono ?_; rintro e w8 ⟨rfl, hb8⟩; have HX8 := Lib.hid (HX7.out.below hb8); have HY8 := Lib.hid (HY7.out.below hb8); have hr0 := HY8.out.cell0; have hr1 := HY8.out.cell1; have hr2 := HX8.out.cell0; have hr3 := HX8.out.cell1))
    all_goals
      subst hgg
      have HB8 := Lib.hid (below_more HB6.out (below_more below_drew1 (below_more hb7 hb8)))
      clear hb7 hb8 ho7 hI7
      go_wp2_with fail
      go_ret
      exact ⟨rfl, HB8.out⟩
  · have hn : (1048576 : Int) < (zs.length : Int) := by omega
    have HSz := Lib.hid (szCode_no x A zs.length ca (w.alloc (.cells #[.int .i64 x, .slice A zs.length ca] 59)) (by omega) hz)
    clear ht hzs HX0
    go_enter Tryd.func8, Tryd.ntmps8
    go_wp2_with fail
    refine HSz.out.mono ?_
    rintro e w1 ⟨rfl, hb1⟩
    go_wp2_with fail
    go_ret
    exact ⟨rfl, below_more HB0.out hb1⟩
end Go.Proofs.YtfkojlpihpgnaaaDoor
