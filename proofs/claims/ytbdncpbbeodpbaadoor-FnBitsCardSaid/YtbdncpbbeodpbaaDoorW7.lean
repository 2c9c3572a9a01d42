/-
  The law of RowOf, walked: it returns true, and turns nothing that lay in memory.
-/
import Derived.Test.YtbdncpbbeodpbaaDoorW6
namespace Go.Proofs.YtbdncpbbeodpbaaDoor
open Go.RowKit

def rowI (x : Int) (zs : List Int) : Int := if rowOkB x zs = true then (rowL zs : Nat) else 0

theorem iRow_any (x : Int) (A : Option Addr) (zs : List Int) (ca : Nat) (w : World) (ht : Tab w) (ha : Ints w A zs) (hl : zs.length ≤ 1048576) :
    Calls Tryd.prog 30 #[.int .i64 x, .slice A zs.length ca] w fun e w' => e = .returned (.tuple #[.int .i64 (rowI x zs), .bool (rowOkB x zs)]) ∧ w = w' := by
  cases h : rowOkB x zs
  · refine (iRow_no x A zs ca w ha hl h).mono ?_
    rintro e w' ⟨rfl, rfl⟩
    exact ⟨tup (by simp [rowI, h]), rfl⟩
  · obtain ⟨m, rfl, h1, h2, h3, h4⟩ := rowOk_true h
    refine (iRow_ok m A zs ca w ht ha hl h2 h3 h4).mono ?_
    rintro e w' ⟨rfl, rfl⟩
    exact ⟨tup (by simp [rowI, h]), rfl⟩
theorem sRow_any (x : Int) (A : Option Addr) (zs : List Int) (ca : Nat) (w : World) (ha : Ints w A zs) (hl : zs.length ≤ 1048576) :
    Calls Tryd.prog 32 #[.int .i64 x, .slice A zs.length ca] w fun e w' => e = .returned (.tuple #[.int .i64 (rowI x zs), .bool (rowOkB x zs)]) ∧ w = w' := by
  cases h : rowOkB x zs
  · refine (sRow_no x A zs ca w ha hl h).mono ?_
    rintro e w' ⟨rfl, rfl⟩
    exact ⟨tup (by simp [rowI, h]), rfl⟩
  · obtain ⟨m, rfl, h1, h2, h3, h4⟩ := rowOk_true h
    refine (sRow_ok m A zs ca w ha hl h2 h3 h4).mono ?_
    rintro e w' ⟨rfl, rfl⟩
    exact ⟨tup (by simp [rowI, h]), rfl⟩

set_option maxHeartbeats 1000000 in
theorem rowOf_law (x : Int) (A : Option Addr) (zs : List Int) (ca : Nat) (w : World) (ht : Tab w) (ha : Ints w A zs) :
    Calls Tryd.prog 10 #[.int .i64 x, .slice A zs.length ca] w fun e w' => e = .returned (.bool true) ∧ Below w.heap.size w w' := by
  have HT := Lib.hid ht
  clear ht
  by_cases hl : zs.length ≤ 1048576
  · have hq := eqL_self zs
    go_enter Tryd.func10, Tryd.ntmps10
    go_wp2_with fail
    refine (toInts_any A zs ca _ ha (by omega)).mono ?_
    rintro e w1 ⟨v1, rfl, ho1, hb1⟩
    obtain ⟨A1, c1, rfl, hI1⟩ := ho1.form
    have HI1 := Lib.hid hI1
    have HB1 := Lib.hid hb1
    clear hI1 ho1 hb1
    go_wp2_with fail
    refine (sRow_any x A1 zs c1 _ HI1.out hl).mono ?_
    rintro e w2 ⟨rfl, rfl⟩
    go_wp2_with fail
    refine (toInts_any A zs ca _ (ha.below HB1.out) (by omega)).mono ?_
    rintro e w3 ⟨v3, rfl, ho3, hb3⟩
    obtain ⟨A3, c3, rfl, hI3⟩ := ho3.form
    have HI3 := Lib.hid hI3
    have HB3 := Lib.hid hb3
    clear hI3 ho3 hb3
    go_wp2_with fail
    refine (iRow_any x A3 zs c3 _ ((HT.out.below HB1.out).below HB3.out) HI3.out hl).mono ?_
    rintro e w4 ⟨rfl, rfl⟩
    go_wp2_with fail
    refine (toInts_any A zs ca _ ((ha.below HB1.out).below HB3.out) (by omega)).mono ?_
    rintro e w5 ⟨v5, rfl, ho5, hb5⟩
    obtain ⟨A5, c5, rfl, hI5⟩ := ho5.form
    have HI5 := Lib.hid hI5
    have HB5 := Lib.hid hb5
    clear hI5 ho5 hb5
    go_wp2_with fail
    refine (eqInts_any A3 A5 zs zs c3 c5 _ (HI3.out.below HB5.out) HI5.out (by omega)).mono ?_
    rintro e w6 ⟨rfl, n6, rfl⟩
    go_wp2_with fail
    go_ret
    exact ⟨rfl, (((HB1.out.trans (HB3.out.mono HB1.out.size)).trans (HB5.out.mono (Nat.le_trans HB1.out.size HB3.out.size)))).trans ((below_drewN' n6).mono (Nat.le_trans (Nat.le_trans HB1.out.size HB3.out.size) HB5.out.size))⟩
  · have hl' : (1048576 : Int) < (zs.length : Int) := by omega
    go_enter Tryd.func10, Tryd.ntmps10
    go_wp2_with fail
    go_ret
    exact ⟨rfl, Below.refl _ _⟩
end Go.Proofs.YtbdncpbbeodpbaaDoor
