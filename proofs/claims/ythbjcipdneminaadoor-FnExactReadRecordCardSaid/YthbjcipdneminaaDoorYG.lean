/-
  Exact laws of chapter 10 on texts and records, walked, whatever the program's own texts are: SumOf, ReadRecord, RecordText.
-/
import Derived.Test.YthbjcipdneminaaDoorGQ
import Derived.Test.YthbjcipdneminaaDoorVO
namespace Go.Proofs.YthbjcipdneminaaDoor
open Go.RowKit

set_option maxRecDepth 100000 in
set_option maxHeartbeats 4000000 in
theorem readRecord_law {K : World → Prop} (hK : Stays5 K) (hI : ∀ (s : ByteArray) (w : World), K w → s.size ≤ 1048576 → Calls Tryd.prog 22 #[.string s] w fun e w' => e = .returned (.tuple #[reV (rrI s), .bool (rrOkB s)]) ∧ Below w.heap.size w w')
    (s : ByteArray) (w : World) (hw : K w) : Calls Tryd.prog 4 #[.string s] w fun e w' => e = .returned (.bool true) ∧ Below w.heap.size w w' := by
  by_cases hl : (1048576 : Int) < (s.size : Int)
  · clear hI
    go_enter Tryd.func4, Tryd.ntmps4
    go_wp2_with fail
    go_ret
    exact ⟨rfl, gDrewN 0⟩
  · have HS := Lib.hid (fun w => sReadRec_any s w)
    have HI := Lib.hid (fun w hk => hI s w hk (by omega))
    have HW := Lib.hid hw
    clear hI hw
    generalize rrI s = r at HS HI
    obtain ⟨no, kd, a, b⟩ := r
    change Hid (∀ w : World, Calls Tryd.prog 21 #[.string s] w fun e w' => e = .returned (.tuple #[.agg #[.int .i64 no, .int .i64 kd, .int .i64 a, .int .i64 b], .bool _]) ∧ Below w.heap.size w w') at HS
    change Hid (∀ w : World, K w → Calls Tryd.prog 22 #[.string s] w fun e w' => e = .returned (.tuple #[.agg #[.int .i64 no, .int .i64 kd, .int .i64 a, .int .i64 b], .bool _]) ∧ Below w.heap.size w w') at HI
    generalize rrOkB s = ok at *
    go_enter Tryd.func4, Tryd.ntmps4
    go_wp2_with fail
    refine (HS.out _).mono ?_
    rintro e w1 ⟨rfl, hb1⟩
    have HB1 := Lib.hid hb1
    clear hb1
    obtain ⟨w2, hw2⟩ : ∃ wn, w1.alloc (.cells #[.int .i64 no, .int .i64 kd, .int .i64 a, .int .i64 b] 38) = wn := ⟨_, rfl⟩
    have hbx : Below w1.heap.size w1 w2 := by rw [← hw2]; exact gAlloc _ _
    have KX : w2.heap[w1.heap.size]? = some (.cells #[.int .i64 no, .int .i64 kd, .int .i64 a, .int .i64 b] 38 (0, 0)) := by rw [← hw2]; exact heap_alloc_new _ _
    have HB2 := Lib.hid (below_more HB1.out hbx)
    have K1 := Lib.hid KX
    clear hbx KX HB1
    go_wp2_with fail
    clear hw2
    refine (HI.out _ (hK _ _ HW.out HB2.out)).mono ?_
    rintro e w3 ⟨rfl, hb3⟩
    have HB3 := Lib.hid (below_more HB2.out hb3)
    have K3 := Lib.hid ((hb3.block _ (heap_lt K1.out)).trans K1.out)
    clear hb3 HB2 K1
    obtain ⟨w4, hw4⟩ : ∃ wn, w3.alloc (.cells #[.int .i64 no, .int .i64 kd, .int .i64 a, .int .i64 b] 38) = wn := ⟨_, rfl⟩
    have hbx : Below w3.heap.size w3 w4 := by rw [← hw4]; exact gAlloc _ _
    have KX : w4.heap[w3.heap.size]? = some (.cells #[.int .i64 no, .int .i64 kd, .int .i64 a, .int .i64 b] 38 (0, 0)) := by rw [← hw4]; exact heap_alloc_new _ _
    have HB4 := Lib.hid (below_more HB3.out hbx)
    have K4 := Lib.hid ((hbx.block _ (heap_lt K3.out)).trans K3.out)
    have G4 := Lib.hid KX
    clear hbx KX HB3 K3
    have c0 : w4.cell? ⟨w1.heap.size, 0, none⟩ = some (.int .i64 no) := cell_of_row _ _ 0 _ _ _ K4.out
    have g0 : w4.cell? ⟨w3.heap.size, 0, none⟩ = some (.int .i64 no) := cell_of_row _ _ 0 _ _ _ G4.out
    have c1 : w4.cell? ⟨w1.heap.size, 1, none⟩ = some (.int .i64 kd) := cell_of_row _ _ 1 _ _ _ K4.out
    have g1 : w4.cell? ⟨w3.heap.size, 1, none⟩ = some (.int .i64 kd) := cell_of_row _ _ 1 _ _ _ G4.out
    have c2 : w4.cell? ⟨w1.heap.size, 2, none⟩ = some (.int .i64 a) := cell_of_row _ _ 2 _ _ _ K4.out
    have g2 : w4.cell? ⟨w3.heap.size, 2, none⟩ = some (.int .i64 a) := cell_of_row _ _ 2 _ _ _ G4.out
    have c3 : w4.cell? ⟨w1.heap.size, 3, none⟩ = some (.int .i64 b) := cell_of_row _ _ 3 _ _ _ K4.out
    have g3 : w4.cell? ⟨w3.heap.size, 3, none⟩ = some (.int .i64 b) := cell_of_row _ _ 3 _ _ _ G4.out
    go_wp2_with fail
    refine (eqRe_self no kd a b _).mono ?_
    rintro e w5 ⟨rfl, hb5⟩
    have HB5 := Lib.hid (below_more HB4.out hb5)
    clear hb5 HB4
    go_wp2_with fail
    go_ret
    exact ⟨rfl, HB5.out⟩
end Go.Proofs.YthbjcipdneminaaDoor
