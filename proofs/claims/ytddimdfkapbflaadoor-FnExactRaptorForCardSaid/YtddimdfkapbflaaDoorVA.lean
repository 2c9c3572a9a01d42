/-
  Laws of chapter 6, walked, whatever the program's own texts are: ExtraFor, RowFor, RaptorFor, IsWhole, SmallestOf.
-/
import Derived.Test.YtddimdfkapbflaaDoorVO
import Derived.Test.YtddimdfkapbflaaDoorEX
namespace Go.Proofs.YtddimdfkapbflaaDoor
open Go.RowKit

set_option maxRecDepth 100000 in
set_option maxHeartbeats 1000000 in
theorem rowFor_law {K : World → Prop} (hK : Stays5 K) (hI : ∀ (p b : Int) (w : World), K w → Calls Tryd.prog 11 #[.int .i64 p, .int .i64 b] w fun e w' => e = .returned (.tuple #[.int .i64 (roI p b), .bool (roOkB p b)]) ∧ Below w.heap.size w w')
    (p b : Int) (w : World) (hw : K w) : Calls Tryd.prog 4 #[.int .i64 p, .int .i64 b] w fun e w' => e = .returned (.bool true) ∧ Below w.heap.size w w' := by
  have HI := Lib.hid (fun w hk => hI p b w hk)
  have HS := Lib.hid (sRowFor_any p b w)
  have HW := Lib.hid hw
  clear hI hw
  generalize roI p b = a1 at *
  generalize roOkB p b = a5 at *
  go_enter Tryd.func4, Tryd.ntmps4
  go_wp2_with fail
  refine HS.out.mono ?_
  rintro e w1 ⟨rfl, hb1⟩
  have HB1 := Lib.hid hb1
  clear hb1
  go_wp2_with fail
  refine (HI.out w1 (hK _ _ HW.out HB1.out)).mono ?_
  rintro e w2 ⟨rfl, hb2⟩
  go_wp2_with fail
  go_ret
  exact ⟨rfl, below_more HB1.out hb2⟩

set_option maxRecDepth 100000 in
set_option maxHeartbeats 1000000 in
theorem raptorFor_law {K : World → Prop} (hK : Stays5 K) (hI : ∀ (A : Option Addr) (zs : List Int) (ca : Nat) (n : Int) (w : World), K w → Ints w A zs → zs.length ≤ 1048576 → zs.length ≤ ca → Calls Tryd.prog 7 #[.slice A zs.length ca, .int .i64 n] w fun e w' => e = .returned (.tuple #[letV (raNoI zs n) (raSumI zs n), .bool (raOkB zs n)]) ∧ Below w.heap.size w w')
    (A : Option Addr) (zs : List Int) (ca : Nat) (n : Int) (w : World) (hw : K w) (ha : Ints w A zs) : Calls Tryd.prog 3 #[.slice A zs.length ca, .int .i64 n] w fun e w' => e = .returned (.bool true) ∧ Below w.heap.size w w' := by
  by_cases hl : zs.length ≤ 1048576
  · have hli : ¬ (1048576 : Int) < (zs.length : Int) := by omega
    have hq : eqL zs zs = true := by simp [eqL]
    have HI := Lib.hid (fun A ca w hk ha hc => hI A zs ca n w hk ha hl hc)
    have HS := Lib.hid (fun A ca w ha => sRaptor_any A zs ca n w ha hl)
    have HW := Lib.hid hw
    have HA := Lib.hid ha
    clear hI hw ha
    generalize raNoI zs n = x at *
    generalize raSumI zs n = y at *
    generalize raOkB zs n = a5 at *
    have HEq := Lib.hid (eqLetter_any x y x y)
    rw [show (decide (x = x) && decide (y = y)) = true by simp] at HEq
    go_enter Tryd.func3, Tryd.ntmps3
    go_wp2_with fail
    refine (toInts_any A zs ca _ HA.out (by omega)).mono ?_
    rintro e w1 ⟨v1, rfl, ho1, hb1⟩
    obtain ⟨A1, c1, rfl, hI1⟩ := ho1.form
    have HI1 := Lib.hid hI1
    have HB1 := Lib.hid hb1
    clear hI1 ho1 hb1
    go_wp2_with fail
    refine (HS.out A1 c1 _ HI1.out).mono ?_
    rintro e w2 ⟨rfl, hb2⟩
    have HBx := Lib.hid (below_more HB1.out hb2)
    have HB2 := Lib.hid (below_more HBx.out (gAlloc w2 (.cells #[.int .i64 x, .int .i64 y] 24)))
    have hx2 : (w2.alloc (.cells #[.int .i64 x, .int .i64 y] 24)).heap[w2.heap.size]? = some (.cells #[.int .i64 x, .int .i64 y] 24 (0, 0)) := heap_alloc_new _ _
    have HX2 := Lib.hid hx2
    have hlt2 : w2.heap.size < (w2.alloc (.cells #[.int .i64 x, .int .i64 y] 24)).heap.size := by simp
    clear hb2 HI1 HB1 HBx hx2
    go_wp2_with fail
    generalize w2.alloc (.cells #[.int .i64 x, .int .i64 y] 24) = W2 at *
    generalize w2.heap.size = g2 at *
    refine (toInts_any A zs ca _ (HA.out.below HB2.out) (by omega)).mono ?_
    rintro e w3 ⟨v3, rfl, ho3, hb3⟩
    obtain ⟨A3, c3, rfl, hcap3, hI3⟩ := gFormC ho3
    have HI3 := Lib.hid hI3
    have HB3 := Lib.hid (below_more HB2.out hb3)
    have HX3 := Lib.hid ((hb3.block _ hlt2).trans HX2.out)
    have hlt3 := Nat.lt_of_lt_of_le hlt2 hb3.size
    clear hI3 ho3 hb3 HB2 HX2 hlt2
    go_wp2_with fail
    refine (HI.out A3 c3 _ (hK _ _ HW.out HB3.out) HI3.out hcap3).mono ?_
    rintro e w4 ⟨rfl, hb4⟩
    have ha4 := gAlloc w4 (.cells #[.int .i64 x, .int .i64 y] 24)
    have HI4 := Lib.hid ((HI3.out.below hb4).below ha4)
    have HB4 := Lib.hid (below_more (below_more HB3.out hb4) ha4)
    have hX4 : (w4.alloc (.cells #[.int .i64 x, .int .i64 y] 24)).heap[g2]? = some (.cells #[.int .i64 x, .int .i64 y] 24 (0, 0)) := (ha4.block _ (Nat.lt_of_lt_of_le hlt3 hb4.size)).trans ((hb4.block _ hlt3).trans HX3.out)
    have hY4 : (w4.alloc (.cells #[.int .i64 x, .int .i64 y] 24)).heap[w4.heap.size]? = some (.cells #[.int .i64 x, .int .i64 y] 24 (0, 0)) := heap_alloc_new _ _
    have q0 := cell_of_row _ _ 0 _ _ _ hX4
    have q1 := cell_of_row _ _ 1 _ _ _ hX4
    have r0 := cell_of_row _ _ 0 _ _ _ hY4
    have r1 := cell_of_row _ _ 1 _ _ _ hY4
    clear hb4 HI3 HB3 HX3 ha4 hX4 hY4
    go_wp2_with fail
    refine (HEq.out _).mono ?_
    rintro e w5 ⟨rfl, hb5⟩
    have HI5 := Lib.hid (HI4.out.below hb5)
    have HB5 := Lib.hid (below_more HB4.out hb5)
    clear hb5 HI4 HB4 q0 q1 r0 r1
    go_wp2_with fail
    refine (toInts_any A zs ca _ (HA.out.below HB5.out) (by omega)).mono ?_
    rintro e w6 ⟨v6, rfl, ho6, hb6⟩
    obtain ⟨A6, c6, rfl, hI6⟩ := ho6.form
    have HI6 := Lib.hid hI6
    have HI5' := Lib.hid (HI5.out.below hb6)
    have HB6 := Lib.hid (below_more HB5.out hb6)
    clear hI6 ho6 hb6 HI5 HB5
    go_wp2_with fail
    refine (eqInts_any A3 A6 zs zs c3 c6 _ HI5'.out HI6.out (by omega)).mono ?_
    rintro e w7 ⟨rfl, n7, rfl⟩
    go_wp2_with fail
    go_ret
    exact ⟨rfl, below_more HB6.out (gDrewN n7)⟩
  · have hli : (1048576 : Int) < (zs.length : Int) := by omega
    clear hI
    go_enter Tryd.func3, Tryd.ntmps3
    go_wp2_with fail
    go_ret
    exact ⟨rfl, Below.refl _ _⟩

end Go.Proofs.YtddimdfkapbflaaDoor
