/-
  Exact laws of chapter 12, walked, whatever the program's own texts are: GoodLease, HeldAt, BelievesAt.
-/
import Derived.Test.YthmnenejfonfgaaBB
import Derived.Test.YthmnenejfonfgaaVO
namespace Go.Proofs.Ythmnenejfonfgaa
open Go.RowKit

set_option maxRecDepth 100000 in
set_option maxHeartbeats 2000000 in
theorem goodLease_law {K : World → Prop} (hK : Stays5 K) (a u q : Int) (hI : ∀ w : World, K w → Calls Try.prog 14 #[lsW a u q] w fun e w' => e = .returned (.bool (goodZB a u q)) ∧ Below w.heap.size w w')
    (w : World) (hw : K w) : Calls Try.prog 5 #[lsW a u q] w fun e w' => e = .returned (.bool true) ∧ Below w.heap.size w w' := by
  have HI := Lib.hid hI
  have HW := Lib.hid hw
  have HS := Lib.hid (fun w => sGoodL a u q w)
  clear hI hw
  generalize goodZB a u q = bb at *
  obtain ⟨w1, hw1⟩ : ∃ wn, w.alloc (.cells #[.int .i64 a, .int .i64 u, .int .i64 q] 47) = wn := ⟨_, rfl⟩
  have hbx : Below w.heap.size w w1 := by rw [← hw1]; exact gAlloc _ _
  have KX : w1.heap[w.heap.size]? = some (.cells #[.int .i64 a, .int .i64 u, .int .i64 q] 47 (0, 0)) := by rw [← hw1]; exact heap_alloc_new _ _
  have HB0 := Lib.hid hbx
  have HK0 := Lib.hid KX
  clear hbx KX
  go_enter Try.func5, Try.ntmps5
  have c0 : w1.cell? ⟨w.heap.size, 0, none⟩ = some (.int .i64 a) := cell_of_row _ _ 0 _ _ _ HK0.out
  have c1 : w1.cell? ⟨w.heap.size, 1, none⟩ = some (.int .i64 u) := cell_of_row _ _ 1 _ _ _ HK0.out
  have c2 : w1.cell? ⟨w.heap.size, 2, none⟩ = some (.int .i64 q) := cell_of_row _ _ 2 _ _ _ HK0.out
  go_wp2_with fail
  clear c0 c1 c2 hw1
  refine (toZa_any a u q _).mono ?_
  rintro e v0 ⟨rfl, hb⟩
  have HK1 := Lib.hid ((hb.block _ (heap_lt HK0.out)).trans HK0.out)
  have HB1 := Lib.hid (below_more HB0.out hb)
  clear hb HK0 HB0
  go_wp2_with fail
  refine (HS.out _).mono ?_
  rintro e v1 ⟨rfl, hb⟩
  have HK2 := Lib.hid ((hb.block _ (heap_lt HK1.out)).trans HK1.out)
  have HB2 := Lib.hid (below_more HB1.out hb)
  clear hb HK1 HB1
  have c0 : v1.cell? ⟨w.heap.size, 0, none⟩ = some (.int .i64 a) := cell_of_row _ _ 0 _ _ _ HK2.out
  have c1 : v1.cell? ⟨w.heap.size, 1, none⟩ = some (.int .i64 u) := cell_of_row _ _ 1 _ _ _ HK2.out
  have c2 : v1.cell? ⟨w.heap.size, 2, none⟩ = some (.int .i64 q) := cell_of_row _ _ 2 _ _ _ HK2.out
  go_wp2_with fail
  clear c0 c1 c2
  refine (toZa_any a u q _).mono ?_
  rintro e v2 ⟨rfl, hb⟩
  have HK3 := Lib.hid ((hb.block _ (heap_lt HK2.out)).trans HK2.out)
  have HB3 := Lib.hid (below_more HB2.out hb)
  clear hb HK2 HB2
  go_wp2_with fail
  refine (HI.out _ (hK _ _ HW.out HB3.out)).mono ?_
  rintro e v3 ⟨rfl, hb⟩
  have HK4 := Lib.hid ((hb.block _ (heap_lt HK3.out)).trans HK3.out)
  have HB4 := Lib.hid (below_more HB3.out hb)
  clear hb HK3 HB3
  go_wp2_with fail
  go_ret
  exact ⟨rfl, HB4.out⟩
set_option maxRecDepth 100000 in
set_option maxHeartbeats 2000000 in
theorem heldAt_law {K : World → Prop} (hK : Stays5 K) (a u q t : Int) (hI : ∀ w : World, K w → Calls Try.prog 21 #[lsW a u q, .int .i64 t] w fun e w' => e = .returned (.tuple #[.int .i64 (hdI a u q t), .bool (hdOkB a u q t)]) ∧ Below w.heap.size w w')
    (w : World) (hw : K w) : Calls Try.prog 8 #[lsW a u q, .int .i64 t] w fun e w' => e = .returned (.bool true) ∧ Below w.heap.size w w' := by
  have HI := Lib.hid hI
  have HW := Lib.hid hw
  have HS := Lib.hid (fun w => sHeldAt a u q t w)
  clear hI hw
  generalize hdI a u q t = rr at *
  generalize hdOkB a u q t = bb at *
  obtain ⟨w1, hw1⟩ : ∃ wn, w.alloc (.cells #[.int .i64 a, .int .i64 u, .int .i64 q] 47) = wn := ⟨_, rfl⟩
  have hbx : Below w.heap.size w w1 := by rw [← hw1]; exact gAlloc _ _
  have KX : w1.heap[w.heap.size]? = some (.cells #[.int .i64 a, .int .i64 u, .int .i64 q] 47 (0, 0)) := by rw [← hw1]; exact heap_alloc_new _ _
  have HB0 := Lib.hid hbx
  have HK0 := Lib.hid KX
  clear hbx KX
  go_enter Try.func8, Try.ntmps8
  have c0 : w1.cell? ⟨w.heap.size, 0, none⟩ = some (.int .i64 a) := cell_of_row _ _ 0 _ _ _ HK0.out
  have c1 : w1.cell? ⟨w.heap.size, 1, none⟩ = some (.int .i64 u) := cell_of_row _ _ 1 _ _ _ HK0.out
  have c2 : w1.cell? ⟨w.heap.size, 2, none⟩ = some (.int .i64 q) := cell_of_row _ _ 2 _ _ _ HK0.out
  go_wp2_with fail
  clear c0 c1 c2 hw1
  refine (toZa_any a u q _).mono ?_
  rintro e v0 ⟨rfl, hb⟩
  have HK1 := Lib.hid ((hb.block _ (heap_lt HK0.out)).trans HK0.out)
  have HB1 := Lib.hid (below_more HB0.out hb)
  clear hb HK0 HB0
  go_wp2_with fail
  refine (HS.out _).mono ?_
  rintro e v1 ⟨rfl, hb⟩
  have HK2 := Lib.hid ((hb.block _ (heap_lt HK1.out)).trans HK1.out)
  have HB2 := Lib.hid (below_more HB1.out hb)
  clear hb HK1 HB1
  have c0 : v1.cell? ⟨w.heap.size, 0, none⟩ = some (.int .i64 a) := cell_of_row _ _ 0 _ _ _ HK2.out
  have c1 : v1.cell? ⟨w.heap.size, 1, none⟩ = some (.int .i64 u) := cell_of_row _ _ 1 _ _ _ HK2.out
  have c2 : v1.cell? ⟨w.heap.size, 2, none⟩ = some (.int .i64 q) := cell_of_row _ _ 2 _ _ _ HK2.out
  go_wp2_with fail
  clear c0 c1 c2
  refine (toZa_any a u q _).mono ?_
  rintro e v2 ⟨rfl, hb⟩
  have HK3 := Lib.hid ((hb.block _ (heap_lt HK2.out)).trans HK2.out)
  have HB3 := Lib.hid (below_more HB2.out hb)
  clear hb HK2 HB2
  go_wp2_with fail
  refine (HI.out _ (hK _ _ HW.out HB3.out)).mono ?_
  rintro e v3 ⟨rfl, hb⟩
  have HK4 := Lib.hid ((hb.block _ (heap_lt HK3.out)).trans HK3.out)
  have HB4 := Lib.hid (below_more HB3.out hb)
  clear hb HK3 HB3
  go_wp2_with fail
  go_ret
  exact ⟨rfl, HB4.out⟩
set_option maxRecDepth 100000 in
set_option maxHeartbeats 2000000 in
theorem believesAt_law {K : World → Prop} (hK : Stays5 K) (a u q t : Int) (hI : ∀ w : World, K w → Calls Try.prog 15 #[lsW a u q, .int .i64 t] w fun e w' => e = .returned (.tuple #[.bool (blB a u q t), .bool (hdOkB a u q t)]) ∧ Below w.heap.size w w')
    (w : World) (hw : K w) : Calls Try.prog 9 #[lsW a u q, .int .i64 t] w fun e w' => e = .returned (.bool true) ∧ Below w.heap.size w w' := by
  have HI := Lib.hid hI
  have HW := Lib.hid hw
  have HS := Lib.hid (fun w => sBelAt a u q t w)
  clear hI hw
  generalize blB a u q t = rr at *
  generalize hdOkB a u q t = bb at *
  obtain ⟨w1, hw1⟩ : ∃ wn, w.alloc (.cells #[.int .i64 a, .int .i64 u, .int .i64 q] 47) = wn := ⟨_, rfl⟩
  have hbx : Below w.heap.size w w1 := by rw [← hw1]; exact gAlloc _ _
  have KX : w1.heap[w.heap.size]? = some (.cells #[.int .i64 a, .int .i64 u, .int .i64 q] 47 (0, 0)) := by rw [← hw1]; exact heap_alloc_new _ _
  have HB0 := Lib.hid hbx
  have HK0 := Lib.hid KX
  clear hbx KX
  go_enter Try.func9, Try.ntmps9
  have c0 : w1.cell? ⟨w.heap.size, 0, none⟩ = some (.int .i64 a) := cell_of_row _ _ 0 _ _ _ HK0.out
  have c1 : w1.cell? ⟨w.heap.size, 1, none⟩ = some (.int .i64 u) := cell_of_row _ _ 1 _ _ _ HK0.out
  have c2 : w1.cell? ⟨w.heap.size, 2, none⟩ = some (.int .i64 q) := cell_of_row _ _ 2 _ _ _ HK0.out
  go_wp2_with fail
  clear c0 c1 c2 hw1
  refine (toZa_any a u q _).mono ?_
  rintro e v0 ⟨rfl, hb⟩
  have HK1 := Lib.hid ((hb.block _ (heap_lt HK0.out)).trans HK0.out)
  have HB1 := Lib.hid (below_more HB0.out hb)
  clear hb HK0 HB0
  go_wp2_with fail
  refine (HS.out _).mono ?_
  rintro e v1 ⟨rfl, hb⟩
  have HK2 := Lib.hid ((hb.block _ (heap_lt HK1.out)).trans HK1.out)
  have HB2 := Lib.hid (below_more HB1.out hb)
  clear hb HK1 HB1
  have c0 : v1.cell? ⟨w.heap.size, 0, none⟩ = some (.int .i64 a) := cell_of_row _ _ 0 _ _ _ HK2.out
  have c1 : v1.cell? ⟨w.heap.size, 1, none⟩ = some (.int .i64 u) := cell_of_row _ _ 1 _ _ _ HK2.out
  have c2 : v1.cell? ⟨w.heap.size, 2, none⟩ = some (.int .i64 q) := cell_of_row _ _ 2 _ _ _ HK2.out
  go_wp2_with fail
  clear c0 c1 c2
  refine (toZa_any a u q _).mono ?_
  rintro e v2 ⟨rfl, hb⟩
  have HK3 := Lib.hid ((hb.block _ (heap_lt HK2.out)).trans HK2.out)
  have HB3 := Lib.hid (below_more HB2.out hb)
  clear hb HK2 HB2
  go_wp2_with fail
  refine (HI.out _ (hK _ _ HW.out HB3.out)).mono ?_
  rintro e v3 ⟨rfl, hb⟩
  have HK4 := Lib.hid ((hb.block _ (heap_lt HK3.out)).trans HK3.out)
  have HB4 := Lib.hid (below_more HB3.out hb)
  clear hb HK3 HB3
  go_wp2_with fail
  go_ret
  exact ⟨rfl, HB4.out⟩
end Go.Proofs.Ythmnenejfonfgaa
