/-
  Exact laws of chapter 13 over the program's contracts: NewBucket, GoodBucket, FillTo, WaitFor.
-/
import Derived.Test.YtgakklanboabjaaCF
namespace Go.Proofs.Ytgakklanboabjaa
open Go.RowKit

set_option maxRecDepth 100000 in
set_option maxHeartbeats 4000000 in
theorem dNewBucket (r q : Int) (w : World) : Calls Try.prog 5 #[.int .i64 r, .int .i64 q] w fun e w' => e = .returned (.bool true) ∧ Below w.heap.size w w' := by
  have HI := Lib.hid (fun w => iNewBk r q w)
  have HS := Lib.hid (fun w => sNewBk r q w)
  generalize (nbL r q).1 = N0 at *
  generalize (nbL r q).2.1 = N1 at *
  generalize (nbL r q).2.2.1 = N2 at *
  generalize (nbL r q).2.2.2 = N3 at *
  generalize nbOk r q = bb at *
  go_enter Try.func5, Try.ntmps5
  go_wp2_with fail
  refine (HS.out _).mono ?_
  rintro e w1 ⟨rfl, hbs2⟩
  have HB_2 := Lib.hid (hbs2)
  clear  hbs2
  obtain ⟨w3, hw3⟩ : ∃ wn, w1.alloc (.cells #[.int .i64 N0, .int .i64 N1, .int .i64 N2, .int .i64 N3] 24) = wn := ⟨_, rfl⟩
  have hbx3 : Below w1.heap.size w1 w3 := by rw [← hw3]; exact gAlloc _ _
  have Ks_30 : Hid (w3.heap[w1.heap.size]? = some (.cells #[.int .i64 N0, .int .i64 N1, .int .i64 N2, .int .i64 N3] 24 (0, 0))) := by rw [← hw3]; exact heap_alloc_new _ _
  have HB_4 := Lib.hid (below_more HB_2.out hbx3)
  clear HB_2 hbx3
  have cKs0 : w3.cell? ⟨w1.heap.size, 0, none⟩ = some (.int .i64 N0) := cell_of_row _ _ 0 _ _ _ Ks_30.out
  have cKs1 : w3.cell? ⟨w1.heap.size, 1, none⟩ = some (.int .i64 N1) := cell_of_row _ _ 1 _ _ _ Ks_30.out
  have cKs2 : w3.cell? ⟨w1.heap.size, 2, none⟩ = some (.int .i64 N2) := cell_of_row _ _ 2 _ _ _ Ks_30.out
  have cKs3 : w3.cell? ⟨w1.heap.size, 3, none⟩ = some (.int .i64 N3) := cell_of_row _ _ 3 _ _ _ Ks_30.out
  go_wp2_with fail
  clear cKs0 cKs1 cKs2 cKs3 hw3
  refine (HI.out _).mono ?_
  rintro e w5 ⟨rfl, hbi2⟩
  have Ks_6 := Lib.hid ((hbi2.block _ (heap_lt Ks_30.out)).trans Ks_30.out)
  have HB_6 := Lib.hid (below_more HB_4.out hbi2)
  clear Ks_30 HB_4 hbi2
  obtain ⟨w7, hw7⟩ : ∃ wn, w5.alloc (.cells #[.int .i64 N0, .int .i64 N1, .int .i64 N2, .int .i64 N3] 24) = wn := ⟨_, rfl⟩
  have hbx7 : Below w5.heap.size w5 w7 := by rw [← hw7]; exact gAlloc _ _
  have Ki_70 : Hid (w7.heap[w5.heap.size]? = some (.cells #[.int .i64 N0, .int .i64 N1, .int .i64 N2, .int .i64 N3] 24 (0, 0))) := by rw [← hw7]; exact heap_alloc_new _ _
  have Ks_8 := Lib.hid ((hbx7.block _ (heap_lt Ks_6.out)).trans Ks_6.out)
  have HB_8 := Lib.hid (below_more HB_6.out hbx7)
  clear Ks_6 HB_6 hbx7
  have cKs0 : w7.cell? ⟨w1.heap.size, 0, none⟩ = some (.int .i64 N0) := cell_of_row _ _ 0 _ _ _ Ks_8.out
  have cKs1 : w7.cell? ⟨w1.heap.size, 1, none⟩ = some (.int .i64 N1) := cell_of_row _ _ 1 _ _ _ Ks_8.out
  have cKs2 : w7.cell? ⟨w1.heap.size, 2, none⟩ = some (.int .i64 N2) := cell_of_row _ _ 2 _ _ _ Ks_8.out
  have cKs3 : w7.cell? ⟨w1.heap.size, 3, none⟩ = some (.int .i64 N3) := cell_of_row _ _ 3 _ _ _ Ks_8.out
  have cKi0 : w7.cell? ⟨w5.heap.size, 0, none⟩ = some (.int .i64 N0) := cell_of_row _ _ 0 _ _ _ Ki_70.out
  have cKi1 : w7.cell? ⟨w5.heap.size, 1, none⟩ = some (.int .i64 N1) := cell_of_row _ _ 1 _ _ _ Ki_70.out
  have cKi2 : w7.cell? ⟨w5.heap.size, 2, none⟩ = some (.int .i64 N2) := cell_of_row _ _ 2 _ _ _ Ki_70.out
  have cKi3 : w7.cell? ⟨w5.heap.size, 3, none⟩ = some (.int .i64 N3) := cell_of_row _ _ 3 _ _ _ Ki_70.out
  go_wp2_with fail
  clear cKs0 cKs1 cKs2 cKs3 cKi0 cKi1 cKi2 cKi3 hw7
  refine (eqBu_self N0 N1 N2 N3 _).mono ?_
  rintro e w9 ⟨rfl, hbe⟩
  have Ks_10 := Lib.hid ((hbe.block _ (heap_lt Ks_8.out)).trans Ks_8.out)
  have Ki_10 := Lib.hid ((hbe.block _ (heap_lt Ki_70.out)).trans Ki_70.out)
  have HB_10 := Lib.hid (below_more HB_8.out hbe)
  clear Ks_8 Ki_70 HB_8 hbe
  have cKs0 : w9.cell? ⟨w1.heap.size, 0, none⟩ = some (.int .i64 N0) := cell_of_row _ _ 0 _ _ _ Ks_10.out
  have cKs1 : w9.cell? ⟨w1.heap.size, 1, none⟩ = some (.int .i64 N1) := cell_of_row _ _ 1 _ _ _ Ks_10.out
  have cKs2 : w9.cell? ⟨w1.heap.size, 2, none⟩ = some (.int .i64 N2) := cell_of_row _ _ 2 _ _ _ Ks_10.out
  have cKs3 : w9.cell? ⟨w1.heap.size, 3, none⟩ = some (.int .i64 N3) := cell_of_row _ _ 3 _ _ _ Ks_10.out
  have cKi0 : w9.cell? ⟨w5.heap.size, 0, none⟩ = some (.int .i64 N0) := cell_of_row _ _ 0 _ _ _ Ki_10.out
  have cKi1 : w9.cell? ⟨w5.heap.size, 1, none⟩ = some (.int .i64 N1) := cell_of_row _ _ 1 _ _ _ Ki_10.out
  have cKi2 : w9.cell? ⟨w5.heap.size, 2, none⟩ = some (.int .i64 N2) := cell_of_row _ _ 2 _ _ _ Ki_10.out
  have cKi3 : w9.cell? ⟨w5.heap.size, 3, none⟩ = some (.int .i64 N3) := cell_of_row _ _ 3 _ _ _ Ki_10.out
  go_wp2_with fail
  clear cKs0 cKs1 cKs2 cKs3 cKi0 cKi1 cKi2 cKi3
  go_ret
  exact ⟨rfl, HB_10.out⟩
set_option maxRecDepth 100000 in
set_option maxHeartbeats 4000000 in
theorem dGoodBucket (r q f c : Int) (w : World) : Calls Try.prog 6 #[bkW r q f c] w fun e w' => e = .returned (.bool true) ∧ Below w.heap.size w w' := by
  have HI := Lib.hid (fun w => iGoodBk r q f c w)
  have HS := Lib.hid (fun w => sGoodBk r q f c w)
  generalize goodBB r q f c = bb at *
  obtain ⟨w1, hw1⟩ : ∃ wn, w.alloc (.cells #[.int .i64 r, .int .i64 q, .int .i64 f, .int .i64 c] 53) = wn := ⟨_, rfl⟩
  have hbx1 : Below w.heap.size w w1 := by rw [← hw1]; exact gAlloc _ _
  have KA_10 : Hid (w1.heap[w.heap.size]? = some (.cells #[.int .i64 r, .int .i64 q, .int .i64 f, .int .i64 c] 53 (0, 0))) := by rw [← hw1]; exact heap_alloc_new _ _
  have HB_2 := Lib.hid (hbx1)
  clear  hbx1
  go_enter Try.func6, Try.ntmps6
  have cKA0 : w1.cell? ⟨w.heap.size, 0, none⟩ = some (.int .i64 r) := cell_of_row _ _ 0 _ _ _ KA_10.out
  have cKA1 : w1.cell? ⟨w.heap.size, 1, none⟩ = some (.int .i64 q) := cell_of_row _ _ 1 _ _ _ KA_10.out
  have cKA2 : w1.cell? ⟨w.heap.size, 2, none⟩ = some (.int .i64 f) := cell_of_row _ _ 2 _ _ _ KA_10.out
  have cKA3 : w1.cell? ⟨w.heap.size, 3, none⟩ = some (.int .i64 c) := cell_of_row _ _ 3 _ _ _ KA_10.out
  go_wp2_with fail
  clear cKA0 cKA1 cKA2 cKA3 hw1
  refine (toBu_any r q f c _).mono ?_
  rintro e w3 ⟨rfl, hbs1⟩
  have KA_4 := Lib.hid ((hbs1.block _ (heap_lt KA_10.out)).trans KA_10.out)
  have HB_4 := Lib.hid (below_more HB_2.out hbs1)
  clear KA_10 HB_2 hbs1
  have cKA0 : w3.cell? ⟨w.heap.size, 0, none⟩ = some (.int .i64 r) := cell_of_row _ _ 0 _ _ _ KA_4.out
  have cKA1 : w3.cell? ⟨w.heap.size, 1, none⟩ = some (.int .i64 q) := cell_of_row _ _ 1 _ _ _ KA_4.out
  have cKA2 : w3.cell? ⟨w.heap.size, 2, none⟩ = some (.int .i64 f) := cell_of_row _ _ 2 _ _ _ KA_4.out
  have cKA3 : w3.cell? ⟨w.heap.size, 3, none⟩ = some (.int .i64 c) := cell_of_row _ _ 3 _ _ _ KA_4.out
  go_wp2_with fail
  clear cKA0 cKA1 cKA2 cKA3
  refine (HS.out _).mono ?_
  rintro e w5 ⟨rfl, hbs2⟩
  have KA_6 := Lib.hid ((hbs2.block _ (heap_lt KA_4.out)).trans KA_4.out)
  have HB_6 := Lib.hid (below_more HB_4.out hbs2)
  clear KA_4 HB_4 hbs2
  have cKA0 : w5.cell? ⟨w.heap.size, 0, none⟩ = some (.int .i64 r) := cell_of_row _ _ 0 _ _ _ KA_6.out
  have cKA1 : w5.cell? ⟨w.heap.size, 1, none⟩ = some (.int .i64 q) := cell_of_row _ _ 1 _ _ _ KA_6.out
  have cKA2 : w5.cell? ⟨w.heap.size, 2, none⟩ = some (.int .i64 f) := cell_of_row _ _ 2 _ _ _ KA_6.out
  have cKA3 : w5.cell? ⟨w.heap.size, 3, none⟩ = some (.int .i64 c) := cell_of_row _ _ 3 _ _ _ KA_6.out
  go_wp2_with fail
  clear cKA0 cKA1 cKA2 cKA3
  refine (toBu_any r q f c _).mono ?_
  rintro e w7 ⟨rfl, hbi1⟩
  have KA_8 := Lib.hid ((hbi1.block _ (heap_lt KA_6.out)).trans KA_6.out)
  have HB_8 := Lib.hid (below_more HB_6.out hbi1)
  clear KA_6 HB_6 hbi1
  have cKA0 : w7.cell? ⟨w.heap.size, 0, none⟩ = some (.int .i64 r) := cell_of_row _ _ 0 _ _ _ KA_8.out
  have cKA1 : w7.cell? ⟨w.heap.size, 1, none⟩ = some (.int .i64 q) := cell_of_row _ _ 1 _ _ _ KA_8.out
  have cKA2 : w7.cell? ⟨w.heap.size, 2, none⟩ = some (.int .i64 f) := cell_of_row _ _ 2 _ _ _ KA_8.out
  have cKA3 : w7.cell? ⟨w.heap.size, 3, none⟩ = some (.int .i64 c) := cell_of_row _ _ 3 _ _ _ KA_8.out
  go_wp2_with fail
  clear cKA0 cKA1 cKA2 cKA3
  refine (HI.out _).mono ?_
  rintro e w9 ⟨rfl, hbi2⟩
  have KA_10 := Lib.hid ((hbi2.block _ (heap_lt KA_8.out)).trans KA_8.out)
  have HB_10 := Lib.hid (below_more HB_8.out hbi2)
  clear KA_8 HB_8 hbi2
  have cKA0 : w9.cell? ⟨w.heap.size, 0, none⟩ = some (.int .i64 r) := cell_of_row _ _ 0 _ _ _ KA_10.out
  have cKA1 : w9.cell? ⟨w.heap.size, 1, none⟩ = some (.int .i64 q) := cell_of_row _ _ 1 _ _ _ KA_10.out
  have cKA2 : w9.cell? ⟨w.heap.size, 2, none⟩ = some (.int .i64 f) := cell_of_row _ _ 2 _ _ _ KA_10.out
  have cKA3 : w9.cell? ⟨w.heap.size, 3, none⟩ = some (.int .i64 c) := cell_of_row _ _ 3 _ _ _ KA_10.out
  go_wp2_with fail
  clear cKA0 cKA1 cKA2 cKA3
  go_ret
  exact ⟨rfl, HB_10.out⟩
set_option maxRecDepth 100000 in
set_option maxHeartbeats 4000000 in
theorem dFillTo (r q f c t : Int) (w : World) : Calls Try.prog 7 #[bkW r q f c, .int .i64 t] w fun e w' => e = .returned (.bool true) ∧ Below w.heap.size w w' := by
  have HI := Lib.hid (fun w => iFillTo r q f c t w)
  have HS := Lib.hid (fun w => sFillTo r q f c t w)
  generalize (ftL r q f c t).1 = N0 at *
  generalize (ftL r q f c t).2.1 = N1 at *
  generalize (ftL r q f c t).2.2.1 = N2 at *
  generalize (ftL r q f c t).2.2.2 = N3 at *
  generalize ftOk r q f c t = bb at *
  obtain ⟨w1, hw1⟩ : ∃ wn, w.alloc (.cells #[.int .i64 r, .int .i64 q, .int .i64 f, .int .i64 c] 53) = wn := ⟨_, rfl⟩
  have hbx1 : Below w.heap.size w w1 := by rw [← hw1]; exact gAlloc _ _
  have KA_10 : Hid (w1.heap[w.heap.size]? = some (.cells #[.int .i64 r, .int .i64 q, .int .i64 f, .int .i64 c] 53 (0, 0))) := by rw [← hw1]; exact heap_alloc_new _ _
  have HB_2 := Lib.hid (hbx1)
  clear  hbx1
  go_enter Try.func7, Try.ntmps7
  have cKA0 : w1.cell? ⟨w.heap.size, 0, none⟩ = some (.int .i64 r) := cell_of_row _ _ 0 _ _ _ KA_10.out
  have cKA1 : w1.cell? ⟨w.heap.size, 1, none⟩ = some (.int .i64 q) := cell_of_row _ _ 1 _ _ _ KA_10.out
  have cKA2 : w1.cell? ⟨w.heap.size, 2, none⟩ = some (.int .i64 f) := cell_of_row _ _ 2 _ _ _ KA_10.out
  have cKA3 : w1.cell? ⟨w.heap.size, 3, none⟩ = some (.int .i64 c) := cell_of_row _ _ 3 _ _ _ KA_10.out
  go_wp2_with fail
  clear cKA0 cKA1 cKA2 cKA3 hw1
  refine (toBu_any r q f c _).mono ?_
  rintro e w3 ⟨rfl, hbs1⟩
  have KA_4 := Lib.hid ((hbs1.block _ (heap_lt KA_10.out)).trans KA_10.out)
  have HB_4 := Lib.hid (below_more HB_2.out hbs1)
  clear KA_10 HB_2 hbs1
  have cKA0 : w3.cell? ⟨w.heap.size, 0, none⟩ = some (.int .i64 r) := cell_of_row _ _ 0 _ _ _ KA_4.out
  have cKA1 : w3.cell? ⟨w.heap.size, 1, none⟩ = some (.int .i64 q) := cell_of_row _ _ 1 _ _ _ KA_4.out
  have cKA2 : w3.cell? ⟨w.heap.size, 2, none⟩ = some (.int .i64 f) := cell_of_row _ _ 2 _ _ _ KA_4.out
  have cKA3 : w3.cell? ⟨w.heap.size, 3, none⟩ = some (.int .i64 c) := cell_of_row _ _ 3 _ _ _ KA_4.out
  go_wp2_with fail
  clear cKA0 cKA1 cKA2 cKA3
  refine (HS.out _).mono ?_
  rintro e w5 ⟨rfl, hbs2⟩
  have KA_6 := Lib.hid ((hbs2.block _ (heap_lt KA_4.out)).trans KA_4.out)
  have HB_6 := Lib.hid (below_more HB_4.out hbs2)
  clear KA_4 HB_4 hbs2
  obtain ⟨w7, hw7⟩ : ∃ wn, w5.alloc (.cells #[.int .i64 N0, .int .i64 N1, .int .i64 N2, .int .i64 N3] 24) = wn := ⟨_, rfl⟩
  have hbx7 : Below w5.heap.size w5 w7 := by rw [← hw7]; exact gAlloc _ _
  have Ks_70 : Hid (w7.heap[w5.heap.size]? = some (.cells #[.int .i64 N0, .int .i64 N1, .int .i64 N2, .int .i64 N3] 24 (0, 0))) := by rw [← hw7]; exact heap_alloc_new _ _
  have KA_8 := Lib.hid ((hbx7.block _ (heap_lt KA_6.out)).trans KA_6.out)
  have HB_8 := Lib.hid (below_more HB_6.out hbx7)
  clear KA_6 HB_6 hbx7
  have cKA0 : w7.cell? ⟨w.heap.size, 0, none⟩ = some (.int .i64 r) := cell_of_row _ _ 0 _ _ _ KA_8.out
  have cKA1 : w7.cell? ⟨w.heap.size, 1, none⟩ = some (.int .i64 q) := cell_of_row _ _ 1 _ _ _ KA_8.out
  have cKA2 : w7.cell? ⟨w.heap.size, 2, none⟩ = some (.int .i64 f) := cell_of_row _ _ 2 _ _ _ KA_8.out
  have cKA3 : w7.cell? ⟨w.heap.size, 3, none⟩ = some (.int .i64 c) := cell_of_row _ _ 3 _ _ _ KA_8.out
  have cKs0 : w7.cell? ⟨w5.heap.size, 0, none⟩ = some (.int .i64 N0) := cell_of_row _ _ 0 _ _ _ Ks_70.out
  have cKs1 : w7.cell? ⟨w5.heap.size, 1, none⟩ = some (.int .i64 N1) := cell_of_row _ _ 1 _ _ _ Ks_70.out
  have cKs2 : w7.cell? ⟨w5.heap.size, 2, none⟩ = some (.int .i64 N2) := cell_of_row _ _ 2 _ _ _ Ks_70.out
  have cKs3 : w7.cell? ⟨w5.heap.size, 3, none⟩ = some (.int .i64 N3) := cell_of_row _ _ 3 _ _ _ Ks_70.out
  go_wp2_with fail
  clear cKA0 cKA1 cKA2 cKA3 cKs0 cKs1 cKs2 cKs3 hw7
  refine (toBu_any r q f c _).mono ?_
  rintro e w9 ⟨rfl, hbi1⟩
  have KA_10 := Lib.hid ((hbi1.block _ (heap_lt KA_8.out)).trans KA_8.out)
  have Ks_10 := Lib.hid ((hbi1.block _ (heap_lt Ks_70.out)).trans Ks_70.out)
  have HB_10 := Lib.hid (below_more HB_8.out hbi1)
  clear KA_8 Ks_70 HB_8 hbi1
  have cKA0 : w9.cell? ⟨w.heap.size, 0, none⟩ = some (.int .i64 r) := cell_of_row _ _ 0 _ _ _ KA_10.out
  have cKA1 : w9.cell? ⟨w.heap.size, 1, none⟩ = some (.int .i64 q) := cell_of_row _ _ 1 _ _ _ KA_10.out
  have cKA2 : w9.cell? ⟨w.heap.size, 2, none⟩ = some (.int .i64 f) := cell_of_row _ _ 2 _ _ _ KA_10.out
  have cKA3 : w9.cell? ⟨w.heap.size, 3, none⟩ = some (.int .i64 c) := cell_of_row _ _ 3 _ _ _ KA_10.out
  have cKs0 : w9.cell? ⟨w5.heap.size, 0, none⟩ = some (.int .i64 N0) := cell_of_row _ _ 0 _ _ _ Ks_10.out
  have cKs1 : w9.cell? ⟨w5.heap.size, 1, none⟩ = some (.int .i64 N1) := cell_of_row _ _ 1 _ _ _ Ks_10.out
  have cKs2 : w9.cell? ⟨w5.heap.size, 2, none⟩ = some (.int .i64 N2) := cell_of_row _ _ 2 _ _ _ Ks_10.out
  have cKs3 : w9.cell? ⟨w5.heap.size, 3, none⟩ = some (.int .i64 N3) := cell_of_row _ _ 3 _ _ _ Ks_10.out
  go_wp2_with fail
  clear cKA0 cKA1 cKA2 cKA3 cKs0 cKs1 cKs2 cKs3
  refine (HI.out _).mono ?_
  rintro e w11 ⟨rfl, hbi2⟩
  have KA_12 := Lib.hid ((hbi2.block _ (heap_lt KA_10.out)).trans KA_10.out)
  have Ks_12 := Lib.hid ((hbi2.block _ (heap_lt Ks_10.out)).trans Ks_10.out)
  have HB_12 := Lib.hid (below_more HB_10.out hbi2)
  clear KA_10 Ks_10 HB_10 hbi2
  obtain ⟨w13, hw13⟩ : ∃ wn, w11.alloc (.cells #[.int .i64 N0, .int .i64 N1, .int .i64 N2, .int .i64 N3] 24) = wn := ⟨_, rfl⟩
  have hbx13 : Below w11.heap.size w11 w13 := by rw [← hw13]; exact gAlloc _ _
  have Ki_130 : Hid (w13.heap[w11.heap.size]? = some (.cells #[.int .i64 N0, .int .i64 N1, .int .i64 N2, .int .i64 N3] 24 (0, 0))) := by rw [← hw13]; exact heap_alloc_new _ _
  have KA_14 := Lib.hid ((hbx13.block _ (heap_lt KA_12.out)).trans KA_12.out)
  have Ks_14 := Lib.hid ((hbx13.block _ (heap_lt Ks_12.out)).trans Ks_12.out)
  have HB_14 := Lib.hid (below_more HB_12.out hbx13)
  clear KA_12 Ks_12 HB_12 hbx13
  have cKA0 : w13.cell? ⟨w.heap.size, 0, none⟩ = some (.int .i64 r) := cell_of_row _ _ 0 _ _ _ KA_14.out
  have cKA1 : w13.cell? ⟨w.heap.size, 1, none⟩ = some (.int .i64 q) := cell_of_row _ _ 1 _ _ _ KA_14.out
  have cKA2 : w13.cell? ⟨w.heap.size, 2, none⟩ = some (.int .i64 f) := cell_of_row _ _ 2 _ _ _ KA_14.out
  have cKA3 : w13.cell? ⟨w.heap.size, 3, none⟩ = some (.int .i64 c) := cell_of_row _ _ 3 _ _ _ KA_14.out
  have cKs0 : w13.cell? ⟨w5.heap.size, 0, none⟩ = some (.int .i64 N0) := cell_of_row _ _ 0 _ _ _ Ks_14.out
  have cKs1 : w13.cell? ⟨w5.heap.size, 1, none⟩ = some (.int .i64 N1) := cell_of_row _ _ 1 _ _ _ Ks_14.out
  have cKs2 : w13.cell? ⟨w5.heap.size, 2, none⟩ = some (.int .i64 N2) := cell_of_row _ _ 2 _ _ _ Ks_14.out
  have cKs3 : w13.cell? ⟨w5.heap.size, 3, none⟩ = some (.int .i64 N3) := cell_of_row _ _ 3 _ _ _ Ks_14.out
  have cKi0 : w13.cell? ⟨w11.heap.size, 0, none⟩ = some (.int .i64 N0) := cell_of_row _ _ 0 _ _ _ Ki_130.out
  have cKi1 : w13.cell? ⟨w11.heap.size, 1, none⟩ = some (.int .i64 N1) := cell_of_row _ _ 1 _ _ _ Ki_130.out
  have cKi2 : w13.cell? ⟨w11.heap.size, 2, none⟩ = some (.int .i64 N2) := cell_of_row _ _ 2 _ _ _ Ki_130.out
  have cKi3 : w13.cell? ⟨w11.heap.size, 3, none⟩ = some (.int .i64 N3) := cell_of_row _ _ 3 _ _ _ Ki_130.out
  go_wp2_with fail
  clear cKA0 cKA1 cKA2 cKA3 cKs0 cKs1 cKs2 cKs3 cKi0 cKi1 cKi2 cKi3 hw13
  refine (eqBu_self N0 N1 N2 N3 _).mono ?_
  rintro e w15 ⟨rfl, hbe⟩
  have KA_16 := Lib.hid ((hbe.block _ (heap_lt KA_14.out)).trans KA_14.out)
  have Ks_16 := Lib.hid ((hbe.block _ (heap_lt Ks_14.out)).trans Ks_14.out)
  have Ki_16 := Lib.hid ((hbe.block _ (heap_lt Ki_130.out)).trans Ki_130.out)
  have HB_16 := Lib.hid (below_more HB_14.out hbe)
  clear KA_14 Ks_14 Ki_130 HB_14 hbe
  have cKA0 : w15.cell? ⟨w.heap.size, 0, none⟩ = some (.int .i64 r) := cell_of_row _ _ 0 _ _ _ KA_16.out
  have cKA1 : w15.cell? ⟨w.heap.size, 1, none⟩ = some (.int .i64 q) := cell_of_row _ _ 1 _ _ _ KA_16.out
  have cKA2 : w15.cell? ⟨w.heap.size, 2, none⟩ = some (.int .i64 f) := cell_of_row _ _ 2 _ _ _ KA_16.out
  have cKA3 : w15.cell? ⟨w.heap.size, 3, none⟩ = some (.int .i64 c) := cell_of_row _ _ 3 _ _ _ KA_16.out
  have cKs0 : w15.cell? ⟨w5.heap.size, 0, none⟩ = some (.int .i64 N0) := cell_of_row _ _ 0 _ _ _ Ks_16.out
  have cKs1 : w15.cell? ⟨w5.heap.size, 1, none⟩ = some (.int .i64 N1) := cell_of_row _ _ 1 _ _ _ Ks_16.out
  have cKs2 : w15.cell? ⟨w5.heap.size, 2, none⟩ = some (.int .i64 N2) := cell_of_row _ _ 2 _ _ _ Ks_16.out
  have cKs3 : w15.cell? ⟨w5.heap.size, 3, none⟩ = some (.int .i64 N3) := cell_of_row _ _ 3 _ _ _ Ks_16.out
  have cKi0 : w15.cell? ⟨w11.heap.size, 0, none⟩ = some (.int .i64 N0) := cell_of_row _ _ 0 _ _ _ Ki_16.out
  have cKi1 : w15.cell? ⟨w11.heap.size, 1, none⟩ = some (.int .i64 N1) := cell_of_row _ _ 1 _ _ _ Ki_16.out
  have cKi2 : w15.cell? ⟨w11.heap.size, 2, none⟩ = some (.int .i64 N2) := cell_of_row _ _ 2 _ _ _ Ki_16.out
  have cKi3 : w15.cell? ⟨w11.heap.size, 3, none⟩ = some (.int .i64 N3) := cell_of_row _ _ 3 _ _ _ Ki_16.out
  go_wp2_with fail
  clear cKA0 cKA1 cKA2 cKA3 cKs0 cKs1 cKs2 cKs3 cKi0 cKi1 cKi2 cKi3
  go_ret
  exact ⟨rfl, HB_16.out⟩
set_option maxRecDepth 100000 in
set_option maxHeartbeats 4000000 in
theorem dWaitFor (r q f c s : Int) (w : World) : Calls Try.prog 10 #[bkW r q f c, .int .i64 s] w fun e w' => e = .returned (.bool true) ∧ Below w.heap.size w w' := by
  have HI := Lib.hid (fun w => iWaitFor r q f c s w)
  have HS := Lib.hid (fun w => sWaitFor r q f c s w)
  generalize wfI r q f c s = rr at *
  generalize wfOk r q f c s = bb at *
  obtain ⟨w1, hw1⟩ : ∃ wn, w.alloc (.cells #[.int .i64 r, .int .i64 q, .int .i64 f, .int .i64 c] 53) = wn := ⟨_, rfl⟩
  have hbx1 : Below w.heap.size w w1 := by rw [← hw1]; exact gAlloc _ _
  have KA_10 : Hid (w1.heap[w.heap.size]? = some (.cells #[.int .i64 r, .int .i64 q, .int .i64 f, .int .i64 c] 53 (0, 0))) := by rw [← hw1]; exact heap_alloc_new _ _
  have HB_2 := Lib.hid (hbx1)
  clear  hbx1
  go_enter Try.func10, Try.ntmps10
  have cKA0 : w1.cell? ⟨w.heap.size, 0, none⟩ = some (.int .i64 r) := cell_of_row _ _ 0 _ _ _ KA_10.out
  have cKA1 : w1.cell? ⟨w.heap.size, 1, none⟩ = some (.int .i64 q) := cell_of_row _ _ 1 _ _ _ KA_10.out
  have cKA2 : w1.cell? ⟨w.heap.size, 2, none⟩ = some (.int .i64 f) := cell_of_row _ _ 2 _ _ _ KA_10.out
  have cKA3 : w1.cell? ⟨w.heap.size, 3, none⟩ = some (.int .i64 c) := cell_of_row _ _ 3 _ _ _ KA_10.out
  go_wp2_with fail
  clear cKA0 cKA1 cKA2 cKA3 hw1
  refine (toBu_any r q f c _).mono ?_
  rintro e w3 ⟨rfl, hbs1⟩
  have KA_4 := Lib.hid ((hbs1.block _ (heap_lt KA_10.out)).trans KA_10.out)
  have HB_4 := Lib.hid (below_more HB_2.out hbs1)
  clear KA_10 HB_2 hbs1
  have cKA0 : w3.cell? ⟨w.heap.size, 0, none⟩ = some (.int .i64 r) := cell_of_row _ _ 0 _ _ _ KA_4.out
  have cKA1 : w3.cell? ⟨w.heap.size, 1, none⟩ = some (.int .i64 q) := cell_of_row _ _ 1 _ _ _ KA_4.out
  have cKA2 : w3.cell? ⟨w.heap.size, 2, none⟩ = some (.int .i64 f) := cell_of_row _ _ 2 _ _ _ KA_4.out
  have cKA3 : w3.cell? ⟨w.heap.size, 3, none⟩ = some (.int .i64 c) := cell_of_row _ _ 3 _ _ _ KA_4.out
  go_wp2_with fail
  clear cKA0 cKA1 cKA2 cKA3
  refine (HS.out _).mono ?_
  rintro e w5 ⟨rfl, hbs2⟩
  have KA_6 := Lib.hid ((hbs2.block _ (heap_lt KA_4.out)).trans KA_4.out)
  have HB_6 := Lib.hid (below_more HB_4.out hbs2)
  clear KA_4 HB_4 hbs2
  have cKA0 : w5.cell? ⟨w.heap.size, 0, none⟩ = some (.int .i64 r) := cell_of_row _ _ 0 _ _ _ KA_6.out
  have cKA1 : w5.cell? ⟨w.heap.size, 1, none⟩ = some (.int .i64 q) := cell_of_row _ _ 1 _ _ _ KA_6.out
  have cKA2 : w5.cell? ⟨w.heap.size, 2, none⟩ = some (.int .i64 f) := cell_of_row _ _ 2 _ _ _ KA_6.out
  have cKA3 : w5.cell? ⟨w.heap.size, 3, none⟩ = some (.int .i64 c) := cell_of_row _ _ 3 _ _ _ KA_6.out
  go_wp2_with fail
  clear cKA0 cKA1 cKA2 cKA3
  refine (toBu_any r q f c _).mono ?_
  rintro e w7 ⟨rfl, hbi1⟩
  have KA_8 := Lib.hid ((hbi1.block _ (heap_lt KA_6.out)).trans KA_6.out)
  have HB_8 := Lib.hid (below_more HB_6.out hbi1)
  clear KA_6 HB_6 hbi1
  have cKA0 : w7.cell? ⟨w.heap.size, 0, none⟩ = some (.int .i64 r) := cell_of_row _ _ 0 _ _ _ KA_8.out
  have cKA1 : w7.cell? ⟨w.heap.size, 1, none⟩ = some (.int .i64 q) := cell_of_row _ _ 1 _ _ _ KA_8.out
  have cKA2 : w7.cell? ⟨w.heap.size, 2, none⟩ = some (.int .i64 f) := cell_of_row _ _ 2 _ _ _ KA_8.out
  have cKA3 : w7.cell? ⟨w.heap.size, 3, none⟩ = some (.int .i64 c) := cell_of_row _ _ 3 _ _ _ KA_8.out
  go_wp2_with fail
  clear cKA0 cKA1 cKA2 cKA3
  refine (HI.out _).mono ?_
  rintro e w9 ⟨rfl, hbi2⟩
  have KA_10 := Lib.hid ((hbi2.block _ (heap_lt KA_8.out)).trans KA_8.out)
  have HB_10 := Lib.hid (below_more HB_8.out hbi2)
  clear KA_8 HB_8 hbi2
  have cKA0 : w9.cell? ⟨w.heap.size, 0, none⟩ = some (.int .i64 r) := cell_of_row _ _ 0 _ _ _ KA_10.out
  have cKA1 : w9.cell? ⟨w.heap.size, 1, none⟩ = some (.int .i64 q) := cell_of_row _ _ 1 _ _ _ KA_10.out
  have cKA2 : w9.cell? ⟨w.heap.size, 2, none⟩ = some (.int .i64 f) := cell_of_row _ _ 2 _ _ _ KA_10.out
  have cKA3 : w9.cell? ⟨w.heap.size, 3, none⟩ = some (.int .i64 c) := cell_of_row _ _ 3 _ _ _ KA_10.out
  go_wp2_with fail
  clear cKA0 cKA1 cKA2 cKA3
  go_ret
  exact ⟨rfl, HB_10.out⟩
end Go.Proofs.Ytgakklanboabjaa
