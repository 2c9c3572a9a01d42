/-
  Exact laws of chapter 10 on texts and records, walked, whatever the program's own texts are: SumOf, ReadRecord, RecordText.
-/
import Derived.Test.YthbjcipdneminaaGQ
import Derived.Test.YthbjcipdneminaaVO
namespace Go.Proofs.Ythbjcipdneminaa
open Go.RowKit

set_option maxRecDepth 100000 in
set_option maxHeartbeats 2000000 in
theorem sumOf_law {K : World → Prop} (hI : ∀ (s : ByteArray) (w : World), K w → s.size ≤ 1048576 → Calls Try.prog 17 #[.string s] w fun e w' => e = .returned (.tuple #[.int .i64 (suI s : Nat), .bool (suOkB s)]) ∧ Below w.heap.size w w')
    (s : ByteArray) (w : World) (hw : K w) (hz : s.size ≤ 9223372036854775807) : Calls Try.prog 5 #[.string s] w fun e w' => e = .returned (.bool true) ∧ Below w.heap.size w w' := by
  by_cases hl : (1048576 : Int) < (s.size : Int)
  · clear hI
    go_enter Try.func5, Try.ntmps5
    go_wp2_with fail
    go_ret
    exact ⟨rfl, gDrewN 0⟩
  · have HS := Lib.hid (sSumOf_any s w hz)
    have HI := Lib.hid (hI s w hw (by omega))
    clear hI hw
    generalize suI s = r at *
    generalize suOkB s = b at *
    go_enter Try.func5, Try.ntmps5
    go_wp2_with fail
    refine HS.out.mono ?_
    rintro e w1 ⟨rfl, rfl⟩
    go_wp2_with fail
    refine HI.out.mono ?_
    rintro e w1 ⟨rfl, hb⟩
    have HB := Lib.hid hb
    clear hb
    go_wp2_with fail
    go_ret
    exact ⟨rfl, HB.out⟩
set_option maxRecDepth 100000 in
set_option maxHeartbeats 2000000 in
theorem toRe_any (no kd a b : Int) (w : World) : Calls Try.prog 7 #[.agg #[.int .i64 no, .int .i64 kd, .int .i64 a, .int .i64 b]] w fun e w' => e = .returned (.agg #[.int .i64 no, .int .i64 kd, .int .i64 a, .int .i64 b]) ∧ Below w.heap.size w w' := by
  go_enter Try.func7, Try.ntmps7
  go_wp2_with fail
  have h1 : (((w.alloc (.cells #[.int .i64 no, .int .i64 kd, .int .i64 a, .int .i64 b] 23)).alloc (.cells #[.int .i64 no, .int .i64 kd, .int .i64 a, .int .i64 b] 26)).alloc (.cells #[.int .i64 no, .int .i64 kd, .int .i64 a, .int .i64 b] 26)).heap[w.heap.size + 1]? = some (.cells #[.int .i64 no, .int .i64 kd, .int .i64 a, .int .i64 b] 26 (0, 0)) := by
    rw [Below.heap_alloc _ _ _ (by simp), show w.heap.size + 1 = (w.alloc (.cells #[.int .i64 no, .int .i64 kd, .int .i64 a, .int .i64 b] 23)).heap.size by simp]
    exact heap_alloc_new _ _
  exact bodyPost_ret (results_cell_row rfl _ _ (w.heap.size + 1) 26 #[.int .i64 no, .int .i64 kd, .int .i64 a, .int .i64 b] (0, 0) _ rfl h1 Try.underlying26 rfl infoRe) rfl ⟨rfl, (((Below.refl _ w).alloc (Nat.le_refl _) _).alloc (by simp) _).alloc (by simp; omega) _⟩

set_option maxRecDepth 100000 in
set_option maxHeartbeats 4000000 in
theorem recordText_law {K : World → Prop} (hK : Stays5 K) (hI : ∀ (r : Rec) (w : World), K w → Calls Try.prog 8 #[reV r] w fun e w' => e = .returned (.tuple #[.string (rtI r), .bool (reOkB r)]) ∧ Below w.heap.size w w')
    (r : Rec) (w : World) (hw : K w) : Calls Try.prog 3 #[reV r] w fun e w' => e = .returned (.bool true) ∧ Below w.heap.size w w' := by
  have HS := Lib.hid (fun w => sRecText_any r w)
  have HI := Lib.hid (fun w hk => hI r w hk)
  have HW := Lib.hid hw
  clear hI hw
  generalize rtI r = s at *
  generalize reOkB r = ok at *
  obtain ⟨no, kd, a, b⟩ := r
  change Hid (∀ w : World, Calls Try.prog 6 #[.agg #[.int .i64 no, .int .i64 kd, .int .i64 a, .int .i64 b]] w fun e w' => e = .returned (.tuple #[.string s, .bool _]) ∧ Below w.heap.size w w') at HS
  change Hid (∀ w : World, K w → Calls Try.prog 8 #[.agg #[.int .i64 no, .int .i64 kd, .int .i64 a, .int .i64 b]] w fun e w' => e = .returned (.tuple #[.string s, .bool _]) ∧ Below w.heap.size w w') at HI
  change Calls _ _ #[.agg #[.int .i64 no, .int .i64 kd, .int .i64 a, .int .i64 b]] _ _
  obtain ⟨w2, hw2⟩ : ∃ wn, w.alloc (.cells #[.int .i64 no, .int .i64 kd, .int .i64 a, .int .i64 b] 23) = wn := ⟨_, rfl⟩
  have hbx : Below w.heap.size w w2 := by rw [← hw2]; exact gAlloc _ _
  have KX : w2.heap[w.heap.size]? = some (.cells #[.int .i64 no, .int .i64 kd, .int .i64 a, .int .i64 b] 23 (0, 0)) := by rw [← hw2]; exact heap_alloc_new _ _
  have HB2 := Lib.hid hbx
  have K2 := Lib.hid KX
  clear hbx KX
  go_enter Try.func3, Try.ntmps3
  have c0 : w2.cell? ⟨w.heap.size, 0, none⟩ = some (.int .i64 no) := cell_of_row _ _ 0 _ _ _ K2.out
  have c1 : w2.cell? ⟨w.heap.size, 1, none⟩ = some (.int .i64 kd) := cell_of_row _ _ 1 _ _ _ K2.out
  have c2 : w2.cell? ⟨w.heap.size, 2, none⟩ = some (.int .i64 a) := cell_of_row _ _ 2 _ _ _ K2.out
  have c3 : w2.cell? ⟨w.heap.size, 3, none⟩ = some (.int .i64 b) := cell_of_row _ _ 3 _ _ _ K2.out
  go_wp2_with fail
  clear hw2 c0 c1 c2 c3
  refine (toRe_any no kd a b _).mono ?_
  rintro e w3 ⟨rfl, hb3⟩
  have HB3 := Lib.hid (below_more HB2.out hb3)
  have K3 := Lib.hid ((hb3.block _ (heap_lt K2.out)).trans K2.out)
  clear hb3 HB2 K2
  go_wp2_with fail
  refine (HS.out _).mono ?_
  rintro e w4 ⟨rfl, hb4⟩
  have HB4 := Lib.hid (below_more HB3.out hb4)
  have K4 := Lib.hid ((hb4.block _ (heap_lt K3.out)).trans K3.out)
  clear hb4 HB3 K3
  have c0 : w4.cell? ⟨w.heap.size, 0, none⟩ = some (.int .i64 no) := cell_of_row _ _ 0 _ _ _ K4.out
  have c1 : w4.cell? ⟨w.heap.size, 1, none⟩ = some (.int .i64 kd) := cell_of_row _ _ 1 _ _ _ K4.out
  have c2 : w4.cell? ⟨w.heap.size, 2, none⟩ = some (.int .i64 a) := cell_of_row _ _ 2 _ _ _ K4.out
  have c3 : w4.cell? ⟨w.heap.size, 3, none⟩ = some (.int .i64 b) := cell_of_row _ _ 3 _ _ _ K4.out
  go_wp2_with fail
  clear c0 c1 c2 c3
  refine (toRe_any no kd a b _).mono ?_
  rintro e w5 ⟨rfl, hb5⟩
  have HB5 := Lib.hid (below_more HB4.out hb5)
  clear hb5 HB4 K4
  go_wp2_with fail
  refine (HI.out _ (hK _ _ HW.out HB5.out)).mono ?_
  rintro e w6 ⟨rfl, hb6⟩
  have HB6 := Lib.hid (below_more HB5.out hb6)
  clear hb6 HB5
  go_wp2_with fail
  go_ret
  exact ⟨rfl, HB6.out⟩
end Go.Proofs.Ythbjcipdneminaa
