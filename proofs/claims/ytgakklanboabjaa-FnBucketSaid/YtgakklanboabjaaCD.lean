/-
  The program's chapter 13, first part: the small functions, GoodBucket, NewBucket, the gauge (a function in a struct's field), FillTo, TakeFrom.
-/
import Derived.Test.YtgakklanboabjaaCC
import Derived.Laws.EntriesVeiled
namespace Go.Proofs.Ytgakklanboabjaa
open Go.RowKit

set_option maxRecDepth 100000 in
set_option maxHeartbeats 2000000 in
theorem iClock13 (n : Int) (w : World) : Calls Try.prog 49 #[.int .i64 n] w fun e w' => e = .returned (.bool (ckB n)) ∧ w = w' := by
  by_cases h1 : 0 ≤ n
  · by_cases h2 : n ≤ 10000
    · have HE : Hid ((ckB n) = true) := inB_mkL h1 h2
      go_enter Try.func49, Try.ntmps49
      go_wp2_with fail
      go_ret
      exact ⟨ret_bool' (by rw [HE.out]), rfl⟩
    · have HE : Hid ((ckB n) = false) := by show _ = _; simp [inB, ckB]; omega
      go_enter Try.func49, Try.ntmps49
      go_wp2_with fail
      go_ret
      exact ⟨ret_bool' (by rw [HE.out]), rfl⟩
  · have HE : Hid ((ckB n) = false) := by show _ = _; simp [inB, ckB]; omega
    go_enter Try.func49, Try.ntmps49
    go_wp2_with fail
    go_ret
    exact ⟨ret_bool' (by rw [HE.out]), rfl⟩
set_option maxRecDepth 100000 in
set_option maxHeartbeats 2000000 in
theorem iAmt13 (n : Int) (w : World) : Calls Try.prog 52 #[.int .i64 n] w fun e w' => e = .returned (.bool (inB n 1 100)) ∧ w = w' := by
  by_cases h1 : 1 ≤ n
  · by_cases h2 : n ≤ 100
    · have HE : Hid ((inB n 1 100) = true) := inB_mkL h1 h2
      go_enter Try.func52, Try.ntmps52
      go_wp2_with fail
      go_ret
      exact ⟨ret_bool' (by rw [HE.out]), rfl⟩
    · have HE : Hid ((inB n 1 100) = false) := by show _ = _; simp [inB]; omega
      go_enter Try.func52, Try.ntmps52
      go_wp2_with fail
      go_ret
      exact ⟨ret_bool' (by rw [HE.out]), rfl⟩
  · have HE : Hid ((inB n 1 100) = false) := by show _ = _; simp [inB]; omega
    go_enter Try.func52, Try.ntmps52
    go_wp2_with fail
    go_ret
    exact ⟨ret_bool' (by rw [HE.out]), rfl⟩
set_option maxRecDepth 100000 in
set_option maxHeartbeats 2000000 in
theorem iUpd13 (r q f c t : Int) (hc : 0 ≤ c) (w : World) :
    Calls Try.prog 59 #[bkW r q f c, .int .i64 t] w fun e w' => e = .returned (.bool (inB t c 10000)) ∧ Below w.heap.size w w' := by
  obtain ⟨W, hW⟩ : ∃ W, w.alloc (.cells #[.int .i64 r, .int .i64 q, .int .i64 f, .int .i64 c] 24) = W := ⟨_, rfl⟩
  have hsW : W.heap.size = w.heap.size + 1 := by rw [← hW]; simp
  have hbW : Below w.heap.size w W := by rw [← hW]; exact gAlloc w _
  have h1 : W.heap[w.heap.size]? = some (.cells #[.int .i64 r, .int .i64 q, .int .i64 f, .int .i64 c] 24 (0, 0)) := by rw [← hW]; exact heap_alloc_new _ _
  have x0 : W.cell? ⟨w.heap.size, 0, none⟩ = some (.int .i64 r) := cell_of_row _ _ 0 _ _ _ h1
  have x1 : W.cell? ⟨w.heap.size, 1, none⟩ = some (.int .i64 q) := cell_of_row _ _ 1 _ _ _ h1
  have x2 : W.cell? ⟨w.heap.size, 2, none⟩ = some (.int .i64 f) := cell_of_row _ _ 2 _ _ _ h1
  have x3 : W.cell? ⟨w.heap.size, 3, none⟩ = some (.int .i64 c) := cell_of_row _ _ 3 _ _ _ h1
  have H1 := Lib.hid h1
  have HB := Lib.hid hbW
  clear hbW h1
  have HC := Lib.hid (fun w => iClock13 t w)
  by_cases h1 : c ≤ t
  · have HE : Hid (ckB t = inB t c 10000) := by
      show _ = _
      by_cases h2 : t ≤ 10000
      · rw [ckB, inB_mkL (by omega) h2, inB_mkL h1 h2]
      · rw [show ckB t = false by simp [ckB, inB]; omega, show inB t c 10000 = false by simp [inB]; omega]
    rw [HE.out] at HC
    generalize inB t c 10000 = b at *
    clear HE
    go_enter Try.func59, Try.ntmps59
    go_wp2_with fail
    refine (HC.out _).mono ?_
    rintro e w' ⟨rfl, rfl⟩
    go_wp2_with fail
    go_ret
    exact ⟨rfl, HB.out⟩
  · have HE : Hid (inB t c 10000 = false) := by show _ = _; simp [inB]; omega
    go_enter Try.func59, Try.ntmps59
    go_wp2_with fail
    go_ret
    exact ⟨ret_bool' HE.out.symm, HB.out⟩
set_option maxRecDepth 100000 in
set_option maxHeartbeats 2000000 in
theorem iWant13 (r q f c a s : Int) (hc : 0 ≤ c) (w : World) :
    Calls Try.prog 46 #[bkW r q f c, wnW a s] w fun e w' => e = .returned (.bool (wantB c a s)) ∧ Below w.heap.size w w' := by
  obtain ⟨W, hW⟩ : ∃ W, (w.alloc (.cells #[.int .i64 r, .int .i64 q, .int .i64 f, .int .i64 c] 24)).alloc (.cells #[.int .i64 a, .int .i64 s] 34) = W := ⟨_, rfl⟩
  have hsW : W.heap.size = w.heap.size + 2 := by rw [← hW]; simp
  have hbW : Below w.heap.size w W := by rw [← hW]; exact (gAlloc w _).alloc (by simp) _
  have h1 : W.heap[w.heap.size]? = some (.cells #[.int .i64 r, .int .i64 q, .int .i64 f, .int .i64 c] 24 (0, 0)) := by rw [← hW, heap_alloc_old _ _ _ (by simp)]; exact heap_alloc_new _ _
  have h2 : W.heap[w.heap.size + 1]? = some (.cells #[.int .i64 a, .int .i64 s] 34 (0, 0)) := by rw [← hW, show w.heap.size + 1 = (w.alloc (.cells #[.int .i64 r, .int .i64 q, .int .i64 f, .int .i64 c] 24)).heap.size by simp]; exact heap_alloc_new _ _
  have x0 : W.cell? ⟨w.heap.size, 0, none⟩ = some (.int .i64 r) := cell_of_row _ _ 0 _ _ _ h1
  have x1 : W.cell? ⟨w.heap.size, 1, none⟩ = some (.int .i64 q) := cell_of_row _ _ 1 _ _ _ h1
  have x2 : W.cell? ⟨w.heap.size, 2, none⟩ = some (.int .i64 f) := cell_of_row _ _ 2 _ _ _ h1
  have x3 : W.cell? ⟨w.heap.size, 3, none⟩ = some (.int .i64 c) := cell_of_row _ _ 3 _ _ _ h1
  have y0 : W.cell? ⟨w.heap.size + 1, 0, none⟩ = some (.int .i64 a) := cell_of_row _ _ 0 _ _ _ h2
  have y1 : W.cell? ⟨w.heap.size + 1, 1, none⟩ = some (.int .i64 s) := cell_of_row _ _ 1 _ _ _ h2
  have H1 := Lib.hid h1
  have H2 := Lib.hid h2
  have HB := Lib.hid hbW
  clear hbW h1 h2
  have HA := Lib.hid (fun w => iUpd13 r q f c a hc w)
  have HS := Lib.hid (fun w => iAmt13 s w)
  cases ha : inB a c 10000
  · have HE : Hid (wantB c a s = false) := by show _ = _; rw [wantB, ha]; rfl
    rw [ha] at HA
    clear ha HS
    go_enter Try.func46, Try.ntmps46
    go_wp2_with (first | (go_at_call 59; go_loud (refine (HA.out _).mono ?_); rintro e w1 ⟨rfl, hb1⟩; have y0 : w1.cell? ⟨w.heap.size + 1, 0, none⟩ = some (.int .i64 a) := cell_of_row _ _ 0 _ _ _ (block_onU hb1 H2.out); have y1 : w1.cell? ⟨w.heap.size + 1, 1, none⟩ = some (.int .i64 s) := cell_of_row _ _ 1 _ _ _ (block_onU hb1 H2.out)))
    go_ret
    exact ⟨ret_bool' HE.out.symm, below_more HB.out hb1⟩
  · have HE : Hid (wantB c a s = inB s 1 100) := by show _ = _; rw [wantB, ha]; rfl
    rw [ha] at HA
    generalize inB s 1 100 = b at *
    clear ha
    go_enter Try.func46, Try.ntmps46
    go_wp2_with (first | (go_at_call 59; go_loud (refine (HA.out _).mono ?_); rintro e w1 ⟨rfl, hb1⟩; have y0 : w1.cell? ⟨w.heap.size + 1, 0, none⟩ = some (.int .i64 a) := cell_of_row _ _ 0 _ _ _ (block_onU hb1 H2.out); have y1 : w1.cell? ⟨w.heap.size + 1, 1, none⟩ = some (.int .i64 s) := cell_of_row _ _ 1 _ _ _ (block_onU hb1 H2.out)) | (go_at_call 52; go_loud (refine (HS.out _).mono ?_); rintro e w' ⟨rfl, rfl⟩))
    go_ret
    exact ⟨ret_bool' HE.out.symm, below_more HB.out hb1⟩
set_option maxRecDepth 100000 in
set_option maxHeartbeats 2000000 in
theorem iGoodBk (r q f c : Int) (w : World) :
    Calls Try.prog 16 #[bkW r q f c] w fun e w' => e = .returned (.bool (goodBB r q f c)) ∧ Below w.heap.size w w' := by
  obtain ⟨W, hW⟩ : ∃ W, w.alloc (.cells #[.int .i64 r, .int .i64 q, .int .i64 f, .int .i64 c] 24) = W := ⟨_, rfl⟩
  have hsW : W.heap.size = w.heap.size + 1 := by rw [← hW]; simp
  have hbW : Below w.heap.size w W := by rw [← hW]; exact gAlloc w _
  have h1 : W.heap[w.heap.size]? = some (.cells #[.int .i64 r, .int .i64 q, .int .i64 f, .int .i64 c] 24 (0, 0)) := by rw [← hW]; exact heap_alloc_new _ _
  have x0 : W.cell? ⟨w.heap.size, 0, none⟩ = some (.int .i64 r) := cell_of_row _ _ 0 _ _ _ h1
  have x1 : W.cell? ⟨w.heap.size, 1, none⟩ = some (.int .i64 q) := cell_of_row _ _ 1 _ _ _ h1
  have x2 : W.cell? ⟨w.heap.size, 2, none⟩ = some (.int .i64 f) := cell_of_row _ _ 2 _ _ _ h1
  have x3 : W.cell? ⟨w.heap.size, 3, none⟩ = some (.int .i64 c) := cell_of_row _ _ 3 _ _ _ h1
  have H1 := Lib.hid h1
  have HB := Lib.hid hbW
  clear hbW h1
  have HC := Lib.hid (fun w => iClock13 c w)
  by_cases h0' : 1 ≤ r
  case neg =>
    have HE : Hid (goodBB r q f c = false) := by show _ = _; simp [goodBB, inB]; omega
    go_enter Try.func16, Try.ntmps16
    go_wp2_with fail
    go_ret
    exact ⟨ret_bool' HE.out.symm, HB.out⟩
  by_cases h1' : r ≤ 100
  case neg =>
    have HE : Hid (goodBB r q f c = false) := by show _ = _; simp [goodBB, inB]; omega
    go_enter Try.func16, Try.ntmps16
    go_wp2_with fail
    go_ret
    exact ⟨ret_bool' HE.out.symm, HB.out⟩
  by_cases h2' : 1 ≤ q
  case neg =>
    have HE : Hid (goodBB r q f c = false) := by show _ = _; simp [goodBB, inB]; omega
    go_enter Try.func16, Try.ntmps16
    go_wp2_with fail
    go_ret
    exact ⟨ret_bool' HE.out.symm, HB.out⟩
  by_cases h3' : q ≤ 20
  case neg =>
    have HE : Hid (goodBB r q f c = false) := by show _ = _; simp [goodBB, inB]; omega
    go_enter Try.func16, Try.ntmps16
    go_wp2_with fail
    go_ret
    exact ⟨ret_bool' HE.out.symm, HB.out⟩
  by_cases h4' : 0 ≤ f
  case neg =>
    have HE : Hid (goodBB r q f c = false) := by show _ = _; simp [goodBB, inB]; omega
    go_enter Try.func16, Try.ntmps16
    go_wp2_with fail
    go_ret
    exact ⟨ret_bool' HE.out.symm, HB.out⟩
  by_cases h5' : f ≤ r
  case neg =>
    have HE : Hid (goodBB r q f c = false) := by show _ = _; simp [goodBB, inB]; omega
    go_enter Try.func16, Try.ntmps16
    go_wp2_with fail
    go_ret
    exact ⟨ret_bool' HE.out.symm, HB.out⟩
  have HE : Hid (goodBB r q f c = ckB c) := by show _ = _; rw [goodBB, inB_mkL h0' h1', inB_mkL h2' h3', inB_mkL h4' h5']; rfl
  generalize ckB c = b at *
  go_enter Try.func16, Try.ntmps16
  go_wp2_with fail
  refine (HC.out _).mono ?_
  rintro e w' ⟨rfl, rfl⟩
  go_wp2_with fail
  go_ret
  exact ⟨ret_bool' HE.out.symm, HB.out⟩
set_option maxRecDepth 100000 in
set_option maxHeartbeats 2000000 in
theorem iNewBk (r q : Int) (w : World) :
    Calls Try.prog 22 #[.int .i64 r, .int .i64 q] w fun e w' => e = .returned (.tuple #[bkW (nbL r q).1 (nbL r q).2.1 (nbL r q).2.2.1 (nbL r q).2.2.2, .bool (nbOk r q)]) ∧ Below w.heap.size w w' := by
  obtain ⟨W, hW⟩ : ∃ W, (w.alloc (.cells #[.int .i64 0, .int .i64 0, .int .i64 0, .int .i64 0] 24)).alloc (.cells #[.int .i64 r, .int .i64 q, .int .i64 r, .int .i64 0] 24) = W := ⟨_, rfl⟩
  have hsW : W.heap.size = w.heap.size + 2 := by rw [← hW]; simp
  have hbW : Below w.heap.size w W := by rw [← hW]; exact (gAlloc w _).alloc (by simp) _
  have h1 : W.heap[w.heap.size]? = some (.cells #[.int .i64 0, .int .i64 0, .int .i64 0, .int .i64 0] 24 (0, 0)) := by rw [← hW, heap_alloc_old _ _ _ (by simp)]; exact heap_alloc_new _ _
  have h2 : W.heap[w.heap.size + 1]? = some (.cells #[.int .i64 r, .int .i64 q, .int .i64 r, .int .i64 0] 24 (0, 0)) := by rw [← hW, show w.heap.size + 1 = (w.alloc (.cells #[.int .i64 0, .int .i64 0, .int .i64 0, .int .i64 0] 24)).heap.size by simp]; exact heap_alloc_new _ _
  have z0 : W.cell? ⟨w.heap.size, 0, none⟩ = some (.int .i64 0) := cell_of_row _ _ 0 _ _ _ h1
  have zf0 := frozen_of_row W _ 0 _ _ h1
  have z1 : W.cell? ⟨w.heap.size, 1, none⟩ = some (.int .i64 0) := cell_of_row _ _ 1 _ _ _ h1
  have zf1 := frozen_of_row W _ 1 _ _ h1
  have z2 : W.cell? ⟨w.heap.size, 2, none⟩ = some (.int .i64 0) := cell_of_row _ _ 2 _ _ _ h1
  have zf2 := frozen_of_row W _ 2 _ _ h1
  have z3 : W.cell? ⟨w.heap.size, 3, none⟩ = some (.int .i64 0) := cell_of_row _ _ 3 _ _ _ h1
  have zf3 := frozen_of_row W _ 3 _ _ h1
  have x0 : W.cell? ⟨w.heap.size + 1, 0, none⟩ = some (.int .i64 r) := cell_of_row _ _ 0 _ _ _ h2
  have x1 : W.cell? ⟨w.heap.size + 1, 1, none⟩ = some (.int .i64 q) := cell_of_row _ _ 1 _ _ _ h2
  have x2 : W.cell? ⟨w.heap.size + 1, 2, none⟩ = some (.int .i64 r) := cell_of_row _ _ 2 _ _ _ h2
  have x3 : W.cell? ⟨w.heap.size + 1, 3, none⟩ = some (.int .i64 0) := cell_of_row _ _ 3 _ _ _ h2
  have H1 := Lib.hid h1
  have H2 := Lib.hid h2
  have HB := Lib.hid hbW
  clear hbW h1 h2
  have HG := Lib.hid (fun w => iGoodBk r q r 0 w)
  subst hW
  cases hg : nbOk r q
  · rw [nb_no hg]
    rw [show goodBB r q r 0 = false from hg] at HG
    clear hg
    go_enter Try.func22, Try.ntmps22
    go_wp2_with (first | (go_at_call 16; go_loud (refine (HG.out _).mono ?_); rintro e w1 ⟨rfl, hb1⟩; have z0 : w1.cell? ⟨w.heap.size, 0, none⟩ = some (.int .i64 0) := cell_of_row _ _ 0 _ _ _ (block_onU hb1 H1.out); have zf0 := frozen_of_row w1 _ 0 _ _ (block_onU hb1 H1.out); have z1 : w1.cell? ⟨w.heap.size, 1, none⟩ = some (.int .i64 0) := cell_of_row _ _ 1 _ _ _ (block_onU hb1 H1.out); have zf1 := frozen_of_row w1 _ 1 _ _ (block_onU hb1 H1.out); have z2 : w1.cell? ⟨w.heap.size, 2, none⟩ = some (.int .i64 0) := cell_of_row _ _ 2 _ _ _ (block_onU hb1 H1.out); have zf2 := frozen_of_row w1 _ 2 _ _ (block_onU hb1 H1.out); have z3 : w1.cell? ⟨w.heap.size, 3, none⟩ = some (.int .i64 0) := cell_of_row _ _ 3 _ _ _ (block_onU hb1 H1.out); have zf3 := frozen_of_row w1 _ 3 _ _ (block_onU hb1 H1.out); have x0 : w1.cell? ⟨w.heap.size + 1, 0, none⟩ = some (.int .i64 r) := cell_of_row _ _ 0 _ _ _ (block_onU hb1 H2.out); have x1 : w1.cell? ⟨w.heap.size + 1, 1, none⟩ = some (.int .i64 q) := cell_of_row _ _ 1 _ _ _ (block_onU hb1 H2.out); have x2 : w1.cell? ⟨w.heap.size + 1, 2, none⟩ = some (.int .i64 r) := cell_of_row _ _ 2 _ _ _ (block_onU hb1 H2.out); have x3 : w1.cell? ⟨w.heap.size + 1, 3, none⟩ = some (.int .i64 0) := cell_of_row _ _ 3 _ _ _ (block_onU hb1 H2.out)))
    exact ret_bk2 rfl (w.heap.size) 0 0 0 0 false rfl rfl (gv_stored rfl (block_onU hb1 H1.out) _ _ _ _) rfl ⟨rfl, below_gv (below_more HB.out hb1) (Nat.le_refl _) _ _ _ _⟩
  · rw [nb_yes hg]
    rw [show goodBB r q r 0 = true from hg] at HG
    clear hg
    go_enter Try.func22, Try.ntmps22
    go_wp2_with (first | (go_at_call 16; go_loud (refine (HG.out _).mono ?_); rintro e w1 ⟨rfl, hb1⟩; have z0 : w1.cell? ⟨w.heap.size, 0, none⟩ = some (.int .i64 0) := cell_of_row _ _ 0 _ _ _ (block_onU hb1 H1.out); have zf0 := frozen_of_row w1 _ 0 _ _ (block_onU hb1 H1.out); have z1 : w1.cell? ⟨w.heap.size, 1, none⟩ = some (.int .i64 0) := cell_of_row _ _ 1 _ _ _ (block_onU hb1 H1.out); have zf1 := frozen_of_row w1 _ 1 _ _ (block_onU hb1 H1.out); have z2 : w1.cell? ⟨w.heap.size, 2, none⟩ = some (.int .i64 0) := cell_of_row _ _ 2 _ _ _ (block_onU hb1 H1.out); have zf2 := frozen_of_row w1 _ 2 _ _ (block_onU hb1 H1.out); have z3 : w1.cell? ⟨w.heap.size, 3, none⟩ = some (.int .i64 0) := cell_of_row _ _ 3 _ _ _ (block_onU hb1 H1.out); have zf3 := frozen_of_row w1 _ 3 _ _ (block_onU hb1 H1.out); have x0 : w1.cell? ⟨w.heap.size + 1, 0, none⟩ = some (.int .i64 r) := cell_of_row _ _ 0 _ _ _ (block_onU hb1 H2.out); have x1 : w1.cell? ⟨w.heap.size + 1, 1, none⟩ = some (.int .i64 q) := cell_of_row _ _ 1 _ _ _ (block_onU hb1 H2.out); have x2 : w1.cell? ⟨w.heap.size + 1, 2, none⟩ = some (.int .i64 r) := cell_of_row _ _ 2 _ _ _ (block_onU hb1 H2.out); have x3 : w1.cell? ⟨w.heap.size + 1, 3, none⟩ = some (.int .i64 0) := cell_of_row _ _ 3 _ _ _ (block_onU hb1 H2.out)))
    exact ret_bk2 rfl (w.heap.size) r q r 0 true rfl rfl (gv_stored rfl (block_onU hb1 H1.out) _ _ _ _) rfl ⟨rfl, below_gv (below_more HB.out hb1) (Nat.le_refl _) _ _ _ _⟩
/-- A gauge over the bucket in block g. -/
abbrev gaF (g : Nat) : Value := .func (.func 64) #[] #[.pointer (some ⟨g, 0, none⟩)]
theorem infoGaP : (Try.prog.info? 83).map (·.size) = some 1 := by kernel_rfl
theorem ret_Ga {fn : Func} {p : Tmp} (h : fn.results = #[.cell p 83]) {R : Ending → World → Prop} {a : Act} {w : World} (g : Nat) (cs : Array Value) (hp : a.tmps.getD p undef = .pointer (some ⟨g, 0, none⟩))
    (hs : cs.size = 1) (hg : w.heap[g]? = some (.cells cs 83 (0, 0))) (hd : a.defers = []) (hR : R (.returned (.agg cs)) w) : bodyPost Try.prog fn R .ret a w :=
  bodyPost_ret (results_cell_row h _ _ g 83 cs (0, 0) _ hp hg Try.underlying83 rfl (by rw [hs]; exact infoGaP)) hd hR
set_option maxRecDepth 100000 in
set_option maxHeartbeats 2000000 in
theorem iGauge1 (g : Nat) {r q f c d : Int} (w : World) (hw : w.heap[g]? = some (.cells #[.int .i64 r, .int .i64 q, .int .i64 f, .int .i64 c] 24 (0, 0))) (hg : goodBB r q f c = true) (h0 : 0 ≤ d) (h1 : d ≤ 10000) :
    Calls Try.prog 64 #[.int .i64 d, .pointer (some ⟨g, 0, none⟩)] w fun e w' => e = .returned (.int .i64 (min r (f + q * d))) ∧ w = w' := by
  obtain ⟨g1, g2, g3, g4⟩ := gbk_ok hg
  have m0 : 0 ≤ q * d := Int.mul_nonneg (by omega) (by omega)
  have m1 : q * d ≤ 200000 := Int.le_trans (Int.mul_le_mul_of_nonneg_right g2.2 h0) (by omega)
  have x0 := cell_of_row _ _ 0 _ _ _ hw
  have x1 := cell_of_row _ _ 1 _ _ _ hw
  have x2 := cell_of_row _ _ 2 _ _ _ hw
  obtain ⟨m, hm⟩ : ∃ m, q * d = m := ⟨_, rfl⟩
  rw [hm] at m0 m1 ⊢
  obtain ⟨g11, g12⟩ := g1
  obtain ⟨g21, g22⟩ := g2
  obtain ⟨g31, g32⟩ := g3
  have hw1 : IntKind.i64.wrap m = m := wrap13 _ (by omega) (by omega)
  have hw2 : IntKind.i64.wrap (f + m) = f + m := wrap13 _ (by omega) (by omega)
  clear hg hw g4
  have HE : Hid (min (f + m) r = min r (f + m)) := by show _ = _; omega
  go_enter Try.func64, Try.ntmps64
  go_wp2_with fail
  go_ret
  exact ⟨congrArg (fun z => Ending.returned (.int .i64 z)) HE.out, rfl⟩
set_option maxRecDepth 100000 in
set_option maxHeartbeats 2000000 in
theorem iGaugeOf (r q f c : Int) (w : World) :
    Calls Try.prog 55 #[bkW r q f c] w fun e w' => e = .returned (.agg #[gaF w.heap.size]) ∧ w'.heap[w.heap.size]? = some (.cells #[.int .i64 r, .int .i64 q, .int .i64 f, .int .i64 c] 24 (0, 0)) ∧ Below w.heap.size w w' := by
  have hmf : ∀ (fn : Fn) (first cap : Array Value) (w : World), (Instr.makeFunc fn first cap).run Try.prog w = .ok (.func fn first cap) w := fun _ _ _ _ => rfl
  obtain ⟨W, hW⟩ : ∃ W, (w.alloc (.cells #[.int .i64 r, .int .i64 q, .int .i64 f, .int .i64 c] 24)).alloc (.cells #[.nilFunc] 83) = W := ⟨_, rfl⟩
  have hbW : Below w.heap.size w W := by rw [← hW]; exact (gAlloc w _).alloc (by simp) _
  have h1 : W.heap[w.heap.size]? = some (.cells #[.int .i64 r, .int .i64 q, .int .i64 f, .int .i64 c] 24 (0, 0)) := by rw [← hW, heap_alloc_old _ _ _ (by simp)]; exact heap_alloc_new _ _
  have h2 : W.heap[w.heap.size + 1]? = some (.cells #[.nilFunc] 83 (0, 0)) := by rw [← hW, show w.heap.size + 1 = (w.alloc (.cells #[.int .i64 r, .int .i64 q, .int .i64 f, .int .i64 c] 24)).heap.size by simp]; exact heap_alloc_new _ _
  have g0 := cell_of_row _ _ 0 _ _ _ h2
  have gf0 := frozen_of_row W _ 0 _ _ h2
  have HB := Lib.hid hbW
  have H1 := Lib.hid h1
  have H2 := Lib.hid h2
  clear hbW h1 h2
  go_enter Try.func55, Try.ntmps55
  go_wp2_with fail
  exact ret_Ga rfl (w.heap.size + 1) #[gaF w.heap.size] rfl rfl (heap_setCell_same _ _ 0 _ _ _ H2.out) rfl ⟨rfl, set1_other H1.out (by omega) 0 _, HB.out.setCell (Nat.le_succ _) _⟩
set_option maxRecDepth 100000 in
set_option maxHeartbeats 2000000 in
theorem iFillTo (r q f c t : Int) (w : World) :
    Calls Try.prog 29 #[bkW r q f c, .int .i64 t] w fun e w' => e = .returned (.tuple #[bkW (ftL r q f c t).1 (ftL r q f c t).2.1 (ftL r q f c t).2.2.1 (ftL r q f c t).2.2.2, .bool (ftOk r q f c t)]) ∧ Below w.heap.size w w' := by
  obtain ⟨W, hW⟩ : ∃ W, (w.alloc (.cells #[.int .i64 r, .int .i64 q, .int .i64 f, .int .i64 c] 24)).alloc (.cells #[.int .i64 0, .int .i64 0, .int .i64 0, .int .i64 0] 24) = W := ⟨_, rfl⟩
  have hsW : W.heap.size = w.heap.size + 2 := by rw [← hW]; simp
  have hbW : Below w.heap.size w W := by rw [← hW]; exact (gAlloc w _).alloc (by simp) _
  have h1 : W.heap[w.heap.size]? = some (.cells #[.int .i64 r, .int .i64 q, .int .i64 f, .int .i64 c] 24 (0, 0)) := by rw [← hW, heap_alloc_old _ _ _ (by simp)]; exact heap_alloc_new _ _
  have h2 : W.heap[w.heap.size + 1]? = some (.cells #[.int .i64 0, .int .i64 0, .int .i64 0, .int .i64 0] 24 (0, 0)) := by rw [← hW, show w.heap.size + 1 = (w.alloc (.cells #[.int .i64 r, .int .i64 q, .int .i64 f, .int .i64 c] 24)).heap.size by simp]; exact heap_alloc_new _ _
  have x0 : W.cell? ⟨w.heap.size, 0, none⟩ = some (.int .i64 r) := cell_of_row _ _ 0 _ _ _ h1
  have xf0 := frozen_of_row W _ 0 _ _ h1
  have x1 : W.cell? ⟨w.heap.size, 1, none⟩ = some (.int .i64 q) := cell_of_row _ _ 1 _ _ _ h1
  have xf1 := frozen_of_row W _ 1 _ _ h1
  have x2 : W.cell? ⟨w.heap.size, 2, none⟩ = some (.int .i64 f) := cell_of_row _ _ 2 _ _ _ h1
  have xf2 := frozen_of_row W _ 2 _ _ h1
  have x3 : W.cell? ⟨w.heap.size, 3, none⟩ = some (.int .i64 c) := cell_of_row _ _ 3 _ _ _ h1
  have xf3 := frozen_of_row W _ 3 _ _ h1
  have z0 : W.cell? ⟨w.heap.size + 1, 0, none⟩ = some (.int .i64 0) := cell_of_row _ _ 0 _ _ _ h2
  have zf0 := frozen_of_row W _ 0 _ _ h2
  have z1 : W.cell? ⟨w.heap.size + 1, 1, none⟩ = some (.int .i64 0) := cell_of_row _ _ 1 _ _ _ h2
  have zf1 := frozen_of_row W _ 1 _ _ h2
  have z2 : W.cell? ⟨w.heap.size + 1, 2, none⟩ = some (.int .i64 0) := cell_of_row _ _ 2 _ _ _ h2
  have zf2 := frozen_of_row W _ 2 _ _ h2
  have z3 : W.cell? ⟨w.heap.size + 1, 3, none⟩ = some (.int .i64 0) := cell_of_row _ _ 3 _ _ _ h2
  have zf3 := frozen_of_row W _ 3 _ _ h2
  have H1 := Lib.hid h1
  have H2 := Lib.hid h2
  have HB := Lib.hid hbW
  clear hbW h1 h2
  have HG := Lib.hid (iGoodBk r q f c W)
  have HU := Lib.hid (fun hc w => iUpd13 r q f c t hc w)
  cases hg : goodBB r q f c
  · rw [ft_no (show ftOk r q f c t = false by rw [ftOk, hg]; rfl), show ftOk r q f c t = false by rw [ftOk, hg]; rfl]
    rw [hg] at HG
    clear hg HU
    go_enter Try.func29, Try.ntmps29
    go_wp2_with (first | (go_at_call 16; go_loud (refine (HG.out).mono ?_); rintro e w1 ⟨rfl, hb1⟩; have x0 : w1.cell? ⟨w.heap.size, 0, none⟩ = some (.int .i64 r) := cell_of_row _ _ 0 _ _ _ (block_onU hb1 H1.out); have x1 : w1.cell? ⟨w.heap.size, 1, none⟩ = some (.int .i64 q) := cell_of_row _ _ 1 _ _ _ (block_onU hb1 H1.out); have x2 : w1.cell? ⟨w.heap.size, 2, none⟩ = some (.int .i64 f) := cell_of_row _ _ 2 _ _ _ (block_onU hb1 H1.out); have x3 : w1.cell? ⟨w.heap.size, 3, none⟩ = some (.int .i64 c) := cell_of_row _ _ 3 _ _ _ (block_onU hb1 H1.out); have z0 : w1.cell? ⟨w.heap.size + 1, 0, none⟩ = some (.int .i64 0) := cell_of_row _ _ 0 _ _ _ (block_onU hb1 H2.out); have zf0 := frozen_of_row w1 _ 0 _ _ (block_onU hb1 H2.out); have z1 : w1.cell? ⟨w.heap.size + 1, 1, none⟩ = some (.int .i64 0) := cell_of_row _ _ 1 _ _ _ (block_onU hb1 H2.out); have zf1 := frozen_of_row w1 _ 1 _ _ (block_onU hb1 H2.out); have z2 : w1.cell? ⟨w.heap.size + 1, 2, none⟩ = some (.int .i64 0) := cell_of_row _ _ 2 _ _ _ (block_onU hb1 H2.out); have zf2 := frozen_of_row w1 _ 2 _ _ (block_onU hb1 H2.out); have z3 : w1.cell? ⟨w.heap.size + 1, 3, none⟩ = some (.int .i64 0) := cell_of_row _ _ 3 _ _ _ (block_onU hb1 H2.out); have zf3 := frozen_of_row w1 _ 3 _ _ (block_onU hb1 H2.out)))
    exact ret_bk2 rfl (w.heap.size + 1) 0 0 0 0 false rfl rfl (gv_stored rfl (block_onU hb1 H2.out) _ _ _ _) rfl ⟨rfl, below_gv (below_more HB.out hb1) (Nat.le_succ _) _ _ _ _⟩
  · have hg' := hg
    rw [hg] at HG
    have hc0 : 0 ≤ c := (gbk_ok hg').2.2.2.1
    have HV := Lib.hid (fun w => HU.out hc0 w)
    clear HU
    cases hi : inB t c 10000
    · rw [ft_no (show ftOk r q f c t = false by rw [ftOk, hg, hi]; rfl), show ftOk r q f c t = false by rw [ftOk, hg, hi]; rfl]
      rw [hi] at HV
      clear hg hg' hi
      go_enter Try.func29, Try.ntmps29
      go_wp2_with (first | (go_at_call 16; go_loud (refine (HG.out).mono ?_); rintro e w1 ⟨rfl, hb1⟩; have x0 : w1.cell? ⟨w.heap.size, 0, none⟩ = some (.int .i64 r) := cell_of_row _ _ 0 _ _ _ (block_onU hb1 H1.out); have xf0 := frozen_of_row w1 _ 0 _ _ (block_onU hb1 H1.out); have x1 : w1.cell? ⟨w.heap.size, 1, none⟩ = some (.int .i64 q) := cell_of_row _ _ 1 _ _ _ (block_onU hb1 H1.out); have xf1 := frozen_of_row w1 _ 1 _ _ (block_onU hb1 H1.out); have x2 : w1.cell? ⟨w.heap.size, 2, none⟩ = some (.int .i64 f) := cell_of_row _ _ 2 _ _ _ (block_onU hb1 H1.out); have xf2 := frozen_of_row w1 _ 2 _ _ (block_onU hb1 H1.out); have x3 : w1.cell? ⟨w.heap.size, 3, none⟩ = some (.int .i64 c) := cell_of_row _ _ 3 _ _ _ (block_onU hb1 H1.out); have xf3 := frozen_of_row w1 _ 3 _ _ (block_onU hb1 H1.out); have z0 : w1.cell? ⟨w.heap.size + 1, 0, none⟩ = some (.int .i64 0) := cell_of_row _ _ 0 _ _ _ (block_onU hb1 H2.out); have zf0 := frozen_of_row w1 _ 0 _ _ (block_onU hb1 H2.out); have z1 : w1.cell? ⟨w.heap.size + 1, 1, none⟩ = some (.int .i64 0) := cell_of_row _ _ 1 _ _ _ (block_onU hb1 H2.out); have zf1 := frozen_of_row w1 _ 1 _ _ (block_onU hb1 H2.out); have z2 : w1.cell? ⟨w.heap.size + 1, 2, none⟩ = some (.int .i64 0) := cell_of_row _ _ 2 _ _ _ (block_onU hb1 H2.out); have zf2 := frozen_of_row w1 _ 2 _ _ (block_onU hb1 H2.out); have z3 : w1.cell? ⟨w.heap.size + 1, 3, none⟩ = some (.int .i64 0) := cell_of_row _ _ 3 _ _ _ (block_onU hb1 H2.out); have zf3 := frozen_of_row w1 _ 3 _ _ (block_onU hb1 H2.out)) | (go_at_call 59; go_loud (refine (HV.out _).mono ?_); rintro e w2 ⟨rfl, hb2⟩; have x0 : w2.cell? ⟨w.heap.size, 0, none⟩ = some (.int .i64 r) := cell_of_row _ _ 0 _ _ _ (block_onU hb2 (block_onU hb1 H1.out)); have xf0 := frozen_of_row w2 _ 0 _ _ (block_onU hb2 (block_onU hb1 H1.out)); have x1 : w2.cell? ⟨w.heap.size, 1, none⟩ = some (.int .i64 q) := cell_of_row _ _ 1 _ _ _ (block_onU hb2 (block_onU hb1 H1.out)); have xf1 := frozen_of_row w2 _ 1 _ _ (block_onU hb2 (block_onU hb1 H1.out)); have x2 : w2.cell? ⟨w.heap.size, 2, none⟩ = some (.int .i64 f) := cell_of_row _ _ 2 _ _ _ (block_onU hb2 (block_onU hb1 H1.out)); have xf2 := frozen_of_row w2 _ 2 _ _ (block_onU hb2 (block_onU hb1 H1.out)); have x3 : w2.cell? ⟨w.heap.size, 3, none⟩ = some (.int .i64 c) := cell_of_row _ _ 3 _ _ _ (block_onU hb2 (block_onU hb1 H1.out)); have xf3 := frozen_of_row w2 _ 3 _ _ (block_onU hb2 (block_onU hb1 H1.out)); have z0 : w2.cell? ⟨w.heap.size + 1, 0, none⟩ = some (.int .i64 0) := cell_of_row _ _ 0 _ _ _ (block_onU hb2 (block_onU hb1 H2.out)); have zf0 := frozen_of_row w2 _ 0 _ _ (block_onU hb2 (block_onU hb1 H2.out)); have z1 : w2.cell? ⟨w.heap.size + 1, 1, none⟩ = some (.int .i64 0) := cell_of_row _ _ 1 _ _ _ (block_onU hb2 (block_onU hb1 H2.out)); have zf1 := frozen_of_row w2 _ 1 _ _ (block_onU hb2 (block_onU hb1 H2.out)); have z2 : w2.cell? ⟨w.heap.size + 1, 2, none⟩ = some (.int .i64 0) := cell_of_row _ _ 2 _ _ _ (block_onU hb2 (block_onU hb1 H2.out)); have zf2 := frozen_of_row w2 _ 2 _ _ (block_onU hb2 (block_onU hb1 H2.out)); have z3 : w2.cell? ⟨w.heap.size + 1, 3, none⟩ = some (.int .i64 0) := cell_of_row _ _ 3 _ _ _ (block_onU hb2 (block_onU hb1 H2.out)); have zf3 := frozen_of_row w2 _ 3 _ _ (block_onU hb2 (block_onU hb1 H2.out))))
      exact ret_bk2 rfl (w.heap.size + 1) 0 0 0 0 false rfl rfl (gv_stored rfl (block_onU hb2 (block_onU hb1 H2.out)) _ _ _ _) rfl ⟨rfl, below_gv (below_more (below_more HB.out hb1) hb2) (Nat.le_succ _) _ _ _ _⟩
    · rw [ft_yes (show ftOk r q f c t = true by rw [ftOk, hg, hi]; rfl), show ftOk r q f c t = true by rw [ftOk, hg, hi]; rfl]
      rw [hi] at HV
      obtain ⟨i0, i1⟩ := inB_andL hi
      have g4 := (gbk_ok hg).2.2.2
      have hd0 : 0 ≤ t - c := by omega
      have hd1 : t - c ≤ 10000 := by omega
      have hdw : IntKind.i64.wrap (t - c) = t - c := wrap13 _ (by omega) (by omega)
      have HGa := Lib.hid (fun w => iGaugeOf r q f c w)
      have HF := Lib.hid (fun g w hw => iGauge1 g w hw hg hd0 hd1)
      have hfd : ∀ (g : Nat) (w : World), (Instr.field 83 (.agg #[gaF g]) 0).run Try.prog w = .ok (gaF g) w := fun _ _ => by kernel_rfl
      obtain ⟨F, hF⟩ : ∃ F, fillI r q f c t = F := ⟨_, rfl⟩
      rw [show min r (f + q * (t - c)) = F from hF] at HF
      rw [hF]
      clear hF hg hg' hi i0 i1 g4 hd0 hd1
      go_enter Try.func29, Try.ntmps29
      go_wp2_with (first | (go_at_call 16; go_loud (refine (HG.out).mono ?_); rintro e w1 ⟨rfl, hb1⟩; have x0 : w1.cell? ⟨w.heap.size, 0, none⟩ = some (.int .i64 r) := cell_of_row _ _ 0 _ _ _ (block_onU hb1 H1.out); have xf0 := frozen_of_row w1 _ 0 _ _ (block_onU hb1 H1.out); have x1 : w1.cell? ⟨w.heap.size, 1, none⟩ = some (.int .i64 q) := cell_of_row _ _ 1 _ _ _ (block_onU hb1 H1.out); have xf1 := frozen_of_row w1 _ 1 _ _ (block_onU hb1 H1.out); have x2 : w1.cell? ⟨w.heap.size, 2, none⟩ = some (.int .i64 f) := cell_of_row _ _ 2 _ _ _ (block_onU hb1 H1.out); have xf2 := frozen_of_row w1 _ 2 _ _ (block_onU hb1 H1.out); have x3 : w1.cell? ⟨w.heap.size, 3, none⟩ = some (.int .i64 c) := cell_of_row _ _ 3 _ _ _ (block_onU hb1 H1.out); have xf3 := frozen_of_row w1 _ 3 _ _ (block_onU hb1 H1.out); have z0 : w1.cell? ⟨w.heap.size + 1, 0, none⟩ = some (.int .i64 0) := cell_of_row _ _ 0 _ _ _ (block_onU hb1 H2.out); have zf0 := frozen_of_row w1 _ 0 _ _ (block_onU hb1 H2.out); have z1 : w1.cell? ⟨w.heap.size + 1, 1, none⟩ = some (.int .i64 0) := cell_of_row _ _ 1 _ _ _ (block_onU hb1 H2.out); have zf1 := frozen_of_row w1 _ 1 _ _ (block_onU hb1 H2.out); have z2 : w1.cell? ⟨w.heap.size + 1, 2, none⟩ = some (.int .i64 0) := cell_of_row _ _ 2 _ _ _ (block_onU hb1 H2.out); have zf2 := frozen_of_row w1 _ 2 _ _ (block_onU hb1 H2.out); have z3 : w1.cell? ⟨w.heap.size + 1, 3, none⟩ = some (.int .i64 0) := cell_of_row _ _ 3 _ _ _ (block_onU hb1 H2.out); have zf3 := frozen_of_row w1 _ 3 _ _ (block_onU hb1 H2.out)) | (go_at_call 59; go_loud (refine (HV.out _).mono ?_); rintro e w2 ⟨rfl, hb2⟩; have x0 : w2.cell? ⟨w.heap.size, 0, none⟩ = some (.int .i64 r) := cell_of_row _ _ 0 _ _ _ (block_onU hb2 (block_onU hb1 H1.out)); have xf0 := frozen_of_row w2 _ 0 _ _ (block_onU hb2 (block_onU hb1 H1.out)); have x1 : w2.cell? ⟨w.heap.size, 1, none⟩ = some (.int .i64 q) := cell_of_row _ _ 1 _ _ _ (block_onU hb2 (block_onU hb1 H1.out)); have xf1 := frozen_of_row w2 _ 1 _ _ (block_onU hb2 (block_onU hb1 H1.out)); have x2 : w2.cell? ⟨w.heap.size, 2, none⟩ = some (.int .i64 f) := cell_of_row _ _ 2 _ _ _ (block_onU hb2 (block_onU hb1 H1.out)); have xf2 := frozen_of_row w2 _ 2 _ _ (block_onU hb2 (block_onU hb1 H1.out)); have x3 : w2.cell? ⟨w.heap.size, 3, none⟩ = some (.int .i64 c) := cell_of_row _ _ 3 _ _ _ (block_onU hb2 (block_onU hb1 H1.out)); have xf3 := frozen_of_row w2 _ 3 _ _ (block_onU hb2 (block_onU hb1 H1.out)); have z0 : w2.cell? ⟨w.heap.size + 1, 0, none⟩ = some (.int .i64 0) := cell_of_row _ _ 0 _ _ _ (block_onU hb2 (block_onU hb1 H2.out)); have zf0 := frozen_of_row w2 _ 0 _ _ (block_onU hb2 (block_onU hb1 H2.out)); have z1 : w2.cell? ⟨w.heap.size + 1, 1, none⟩ = some (.int .i64 0) := cell_of_row _ _ 1 _ _ _ (block_onU hb2 (block_onU hb1 H2.out)); have zf1 := frozen_of_row w2 _ 1 _ _ (block_onU hb2 (block_onU hb1 H2.out)); have z2 : w2.cell? ⟨w.heap.size + 1, 2, none⟩ = some (.int .i64 0) := cell_of_row _ _ 2 _ _ _ (block_onU hb2 (block_onU hb1 H2.out)); have zf2 := frozen_of_row w2 _ 2 _ _ (block_onU hb2 (block_onU hb1 H2.out)); have z3 : w2.cell? ⟨w.heap.size + 1, 3, none⟩ = some (.int .i64 0) := cell_of_row _ _ 3 _ _ _ (block_onU hb2 (block_onU hb1 H2.out)); have zf3 := frozen_of_row w2 _ 3 _ _ (block_onU hb2 (block_onU hb1 H2.out))))
      go_region_with (first
        | (go_at_call 55; refine (HGa.out _).mono ?_; rintro e w3 ⟨rfl, hg3, hb3⟩; have hB3 : w3.heap[w.heap.size]? = some (.cells #[.int .i64 r, .int .i64 q, .int .i64 f, .int .i64 c] 24 (0, 0)) := block_onU hb3 (block_onU hb2 (block_onU hb1 H1.out)); have r2 := cell_of_row w3 _ 2 _ _ _ hB3; have r3 := cell_of_row w3 _ 3 _ _ _ hB3; have rf2 := frozen_of_row w3 _ 2 _ _ hB3)
        | (go_at_call 64; refine (HF.out _ _ hg3).mono ?_; rintro e w4 ⟨rfl, rfl⟩))
      all_goals
        obtain ⟨W4, hW4⟩ : ∃ W4, w3.setCell ⟨w.heap.size, 2, none⟩ (.int .i64 F) = W4 := ⟨_, rfl⟩
        rw [hW4]
        have hBs : W4.heap[w.heap.size]? = some (.cells #[.int .i64 r, .int .i64 q, .int .i64 F, .int .i64 c] 24 (0, 0)) := by rw [← hW4]; exact heap_setCell_same _ _ 2 _ _ _ hB3
        have hZs : W4.heap[w.heap.size + 1]? = some (.cells #[.int .i64 0, .int .i64 0, .int .i64 0, .int .i64 0] 24 (0, 0)) := by rw [← hW4]; exact set1_other (block_onU hb3 (block_onU hb2 (block_onU hb1 H2.out))) (by omega) 2 _
        have hbB : Below w.heap.size w W4 := by rw [← hW4]; exact (below_more (below_more (below_more (below_more HB.out hb1) hb2) gDrew) hb3).setCell (Nat.le_refl _) _
        clear hW4 r2 r3 rf2 hB3 hg3 hb3 hb2 hb1
        have x0 : W4.cell? ⟨w.heap.size, 0, none⟩ = some (.int .i64 r) := cell_of_row _ _ 0 _ _ _ hBs
        have xf0 := frozen_of_row W4 _ 0 _ _ hBs
        have x1 : W4.cell? ⟨w.heap.size, 1, none⟩ = some (.int .i64 q) := cell_of_row _ _ 1 _ _ _ hBs
        have xf1 := frozen_of_row W4 _ 1 _ _ hBs
        have x2 : W4.cell? ⟨w.heap.size, 2, none⟩ = some (.int .i64 F) := cell_of_row _ _ 2 _ _ _ hBs
        have xf2 := frozen_of_row W4 _ 2 _ _ hBs
        have x3 : W4.cell? ⟨w.heap.size, 3, none⟩ = some (.int .i64 c) := cell_of_row _ _ 3 _ _ _ hBs
        have xf3 := frozen_of_row W4 _ 3 _ _ hBs
        have z0 : W4.cell? ⟨w.heap.size + 1, 0, none⟩ = some (.int .i64 0) := cell_of_row _ _ 0 _ _ _ hZs
        have zf0 := frozen_of_row W4 _ 0 _ _ hZs
        have z1 : W4.cell? ⟨w.heap.size + 1, 1, none⟩ = some (.int .i64 0) := cell_of_row _ _ 1 _ _ _ hZs
        have zf1 := frozen_of_row W4 _ 1 _ _ hZs
        have z2 : W4.cell? ⟨w.heap.size + 1, 2, none⟩ = some (.int .i64 0) := cell_of_row _ _ 2 _ _ _ hZs
        have zf2 := frozen_of_row W4 _ 2 _ _ hZs
        have z3 : W4.cell? ⟨w.heap.size + 1, 3, none⟩ = some (.int .i64 0) := cell_of_row _ _ 3 _ _ _ hZs
        have zf3 := frozen_of_row W4 _ 3 _ _ hZs
        have HZ := Lib.hid hZs
        have HX := Lib.hid hbB
        clear hBs hZs hbB
        go_wp2_with fail
        exact ret_bk2 rfl (w.heap.size + 1) r q F t true rfl rfl (gv_stored rfl (set1_other HZ.out (by omega) 3 _) _ _ _ _) rfl ⟨rfl, below_gv (HX.out.setCell (Nat.le_refl _) _) (Nat.le_succ _) _ _ _ _⟩
set_option maxRecDepth 100000 in
set_option maxHeartbeats 2000000 in
theorem iTakeFrom (r q f c a s : Int) (w : World) :
    Calls Try.prog 27 #[bkW r q f c, wnW a s] w fun e w' => e = .returned (.tuple #[bkW (tkL r q f c a s).1 (tkL r q f c a s).2.1 (tkL r q f c a s).2.2.1 (tkL r q f c a s).2.2.2, .bool (tkOk r q f c a s)]) ∧ Below w.heap.size w w' := by
  obtain ⟨W, hW⟩ : ∃ W, ((w.alloc (.cells #[.int .i64 r, .int .i64 q, .int .i64 f, .int .i64 c] 24)).alloc (.cells #[.int .i64 a, .int .i64 s] 34)).alloc (.cells #[.int .i64 0, .int .i64 0, .int .i64 0, .int .i64 0] 24) = W := ⟨_, rfl⟩
  have hsW : W.heap.size = w.heap.size + 3 := by rw [← hW]; simp
  have hbW : Below w.heap.size w W := by rw [← hW]; exact ((gAlloc w _).alloc (by simp) _).alloc (by simp; omega) _
  have h1 : W.heap[w.heap.size]? = some (.cells #[.int .i64 r, .int .i64 q, .int .i64 f, .int .i64 c] 24 (0, 0)) := by rw [← hW, heap_alloc_old _ _ _ (by simp; omega), heap_alloc_old _ _ _ (by simp)]; exact heap_alloc_new _ _
  have h2 : W.heap[w.heap.size + 1]? = some (.cells #[.int .i64 a, .int .i64 s] 34 (0, 0)) := by rw [← hW, heap_alloc_old _ _ _ (by simp), show w.heap.size + 1 = (w.alloc (.cells #[.int .i64 r, .int .i64 q, .int .i64 f, .int .i64 c] 24)).heap.size by simp]; exact heap_alloc_new _ _
  have h3 : W.heap[w.heap.size + 1 + 1]? = some (.cells #[.int .i64 0, .int .i64 0, .int .i64 0, .int .i64 0] 24 (0, 0)) := by rw [← hW, show w.heap.size + 1 + 1 = ((w.alloc (.cells #[.int .i64 r, .int .i64 q, .int .i64 f, .int .i64 c] 24)).alloc (.cells #[.int .i64 a, .int .i64 s] 34)).heap.size by simp]; exact heap_alloc_new _ _
  have x0 : W.cell? ⟨w.heap.size, 0, none⟩ = some (.int .i64 r) := cell_of_row _ _ 0 _ _ _ h1
  have xf0 := frozen_of_row W _ 0 _ _ h1
  have x1 : W.cell? ⟨w.heap.size, 1, none⟩ = some (.int .i64 q) := cell_of_row _ _ 1 _ _ _ h1
  have xf1 := frozen_of_row W _ 1 _ _ h1
  have x2 : W.cell? ⟨w.heap.size, 2, none⟩ = some (.int .i64 f) := cell_of_row _ _ 2 _ _ _ h1
  have xf2 := frozen_of_row W _ 2 _ _ h1
  have x3 : W.cell? ⟨w.heap.size, 3, none⟩ = some (.int .i64 c) := cell_of_row _ _ 3 _ _ _ h1
  have xf3 := frozen_of_row W _ 3 _ _ h1
  have y0 : W.cell? ⟨w.heap.size + 1, 0, none⟩ = some (.int .i64 a) := cell_of_row _ _ 0 _ _ _ h2
  have y1 : W.cell? ⟨w.heap.size + 1, 1, none⟩ = some (.int .i64 s) := cell_of_row _ _ 1 _ _ _ h2
  have z0 : W.cell? ⟨w.heap.size + 1 + 1, 0, none⟩ = some (.int .i64 0) := cell_of_row _ _ 0 _ _ _ h3
  have zf0 := frozen_of_row W _ 0 _ _ h3
  have z1 : W.cell? ⟨w.heap.size + 1 + 1, 1, none⟩ = some (.int .i64 0) := cell_of_row _ _ 1 _ _ _ h3
  have zf1 := frozen_of_row W _ 1 _ _ h3
  have z2 : W.cell? ⟨w.heap.size + 1 + 1, 2, none⟩ = some (.int .i64 0) := cell_of_row _ _ 2 _ _ _ h3
  have zf2 := frozen_of_row W _ 2 _ _ h3
  have z3 : W.cell? ⟨w.heap.size + 1 + 1, 3, none⟩ = some (.int .i64 0) := cell_of_row _ _ 3 _ _ _ h3
  have zf3 := frozen_of_row W _ 3 _ _ h3
  have H1 := Lib.hid h1
  have H2 := Lib.hid h2
  have H3 := Lib.hid h3
  have HB := Lib.hid hbW
  clear hbW h1 h2 h3
  have HF := Lib.hid (fun w => iFillTo r q f c a w)
  have HA := Lib.hid (fun w => iAmt13 s w)
  cases hf : ftOk r q f c a
  · have HN : tkOk r q f c a s = false := by
      rw [tkOk]
      have : (goodBB r q f c && wantB c a s) = false := by
        rw [wantB, ← Bool.and_assoc]; rw [ftOk] at hf; rw [hf]; rfl
      rw [this]; rfl
    rw [tk_no (show tkOk r q f c a s = false from HN), show tkOk r q f c a s = false from HN]
    rw [hf, ft_no hf] at HF
    clear hf HN HA
    go_enter Try.func27, Try.ntmps27
    go_wp2_with (first | (go_at_call 29; go_loud (refine (HF.out _).mono ?_); rintro e w1 ⟨rfl, hb1⟩; have x0 : w1.cell? ⟨w.heap.size, 0, none⟩ = some (.int .i64 r) := cell_of_row _ _ 0 _ _ _ (block_onU hb1 H1.out); have xf0 := frozen_of_row w1 _ 0 _ _ (block_onU hb1 H1.out); have x1 : w1.cell? ⟨w.heap.size, 1, none⟩ = some (.int .i64 q) := cell_of_row _ _ 1 _ _ _ (block_onU hb1 H1.out); have xf1 := frozen_of_row w1 _ 1 _ _ (block_onU hb1 H1.out); have x2 : w1.cell? ⟨w.heap.size, 2, none⟩ = some (.int .i64 f) := cell_of_row _ _ 2 _ _ _ (block_onU hb1 H1.out); have xf2 := frozen_of_row w1 _ 2 _ _ (block_onU hb1 H1.out); have x3 : w1.cell? ⟨w.heap.size, 3, none⟩ = some (.int .i64 c) := cell_of_row _ _ 3 _ _ _ (block_onU hb1 H1.out); have xf3 := frozen_of_row w1 _ 3 _ _ (block_onU hb1 H1.out); have y0 : w1.cell? ⟨w.heap.size + 1, 0, none⟩ = some (.int .i64 a) := cell_of_row _ _ 0 _ _ _ (block_onU hb1 H2.out); have y1 : w1.cell? ⟨w.heap.size + 1, 1, none⟩ = some (.int .i64 s) := cell_of_row _ _ 1 _ _ _ (block_onU hb1 H2.out); have z0 : w1.cell? ⟨w.heap.size + 1 + 1, 0, none⟩ = some (.int .i64 0) := cell_of_row _ _ 0 _ _ _ (block_onU hb1 H3.out); have zf0 := frozen_of_row w1 _ 0 _ _ (block_onU hb1 H3.out); have z1 : w1.cell? ⟨w.heap.size + 1 + 1, 1, none⟩ = some (.int .i64 0) := cell_of_row _ _ 1 _ _ _ (block_onU hb1 H3.out); have zf1 := frozen_of_row w1 _ 1 _ _ (block_onU hb1 H3.out); have z2 : w1.cell? ⟨w.heap.size + 1 + 1, 2, none⟩ = some (.int .i64 0) := cell_of_row _ _ 2 _ _ _ (block_onU hb1 H3.out); have zf2 := frozen_of_row w1 _ 2 _ _ (block_onU hb1 H3.out); have z3 : w1.cell? ⟨w.heap.size + 1 + 1, 3, none⟩ = some (.int .i64 0) := cell_of_row _ _ 3 _ _ _ (block_onU hb1 H3.out); have zf3 := frozen_of_row w1 _ 3 _ _ (block_onU hb1 H3.out)))
    exact ret_bk2 rfl (w.heap.size + 1 + 1) 0 0 0 0 false rfl rfl (gv_stored rfl (((gGv w1 w.heap.size _ _ _ _).block _ (heap_lt (block_onU hb1 H3.out)) (by intro e; injection e with e; omega)).trans (block_onU hb1 H3.out)) _ _ _ _) rfl ⟨rfl, below_gv (below_gv (below_more HB.out hb1) (Nat.le_refl _) _ _ _ _) (by omega) _ _ _ _⟩
  · rw [hf, ft_yes hf] at HF
    have hg2 : goodBB r q f c = true ∧ inB a c 10000 = true := by simpa [ftOk] using hf
    obtain ⟨a0, a1⟩ := inB_andL hg2.2
    have hfb := gbk_ok (fill_good hg2.1 a0 a1).1
    cases hs : inB s 1 100
    · have HN : tkOk r q f c a s = false := by rw [tkOk, wantB, hs]; simp
      rw [tk_no (show tkOk r q f c a s = false from HN), show tkOk r q f c a s = false from HN]
      rw [hs] at HA
      clear hf HN hg2 a0 a1 hfb hs
      generalize fillI r q f c a = F at *
      go_enter Try.func27, Try.ntmps27
      go_wp2_with (first | (go_at_call 29; go_loud (refine (HF.out _).mono ?_); rintro e w1 ⟨rfl, hb1⟩; have x0 : w1.cell? ⟨w.heap.size, 0, none⟩ = some (.int .i64 r) := cell_of_row _ _ 0 _ _ _ (block_onU hb1 H1.out); have xf0 := frozen_of_row w1 _ 0 _ _ (block_onU hb1 H1.out); have x1 : w1.cell? ⟨w.heap.size, 1, none⟩ = some (.int .i64 q) := cell_of_row _ _ 1 _ _ _ (block_onU hb1 H1.out); have xf1 := frozen_of_row w1 _ 1 _ _ (block_onU hb1 H1.out); have x2 : w1.cell? ⟨w.heap.size, 2, none⟩ = some (.int .i64 f) := cell_of_row _ _ 2 _ _ _ (block_onU hb1 H1.out); have xf2 := frozen_of_row w1 _ 2 _ _ (block_onU hb1 H1.out); have x3 : w1.cell? ⟨w.heap.size, 3, none⟩ = some (.int .i64 c) := cell_of_row _ _ 3 _ _ _ (block_onU hb1 H1.out); have xf3 := frozen_of_row w1 _ 3 _ _ (block_onU hb1 H1.out); have y0 : w1.cell? ⟨w.heap.size + 1, 0, none⟩ = some (.int .i64 a) := cell_of_row _ _ 0 _ _ _ (block_onU hb1 H2.out); have y1 : w1.cell? ⟨w.heap.size + 1, 1, none⟩ = some (.int .i64 s) := cell_of_row _ _ 1 _ _ _ (block_onU hb1 H2.out); have z0 : w1.cell? ⟨w.heap.size + 1 + 1, 0, none⟩ = some (.int .i64 0) := cell_of_row _ _ 0 _ _ _ (block_onU hb1 H3.out); have zf0 := frozen_of_row w1 _ 0 _ _ (block_onU hb1 H3.out); have z1 : w1.cell? ⟨w.heap.size + 1 + 1, 1, none⟩ = some (.int .i64 0) := cell_of_row _ _ 1 _ _ _ (block_onU hb1 H3.out); have zf1 := frozen_of_row w1 _ 1 _ _ (block_onU hb1 H3.out); have z2 : w1.cell? ⟨w.heap.size + 1 + 1, 2, none⟩ = some (.int .i64 0) := cell_of_row _ _ 2 _ _ _ (block_onU hb1 H3.out); have zf2 := frozen_of_row w1 _ 2 _ _ (block_onU hb1 H3.out); have z3 : w1.cell? ⟨w.heap.size + 1 + 1, 3, none⟩ = some (.int .i64 0) := cell_of_row _ _ 3 _ _ _ (block_onU hb1 H3.out); have zf3 := frozen_of_row w1 _ 3 _ _ (block_onU hb1 H3.out)) | (go_at_call 52; go_loud (refine (HA.out _).mono ?_); rintro e w' ⟨rfl, rfl⟩))
      exact ret_bk2 rfl (w.heap.size + 1 + 1) 0 0 0 0 false rfl rfl (gv_stored rfl (((gGv w1 w.heap.size _ _ _ _).block _ (heap_lt (block_onU hb1 H3.out)) (by intro e; injection e with e; omega)).trans (block_onU hb1 H3.out)) _ _ _ _) rfl ⟨rfl, below_gv (below_gv (below_more HB.out hb1) (Nat.le_refl _) _ _ _ _) (by omega) _ _ _ _⟩
    · rw [hs] at HA
      have hsb := inB_andL hs
      obtain ⟨F, hF⟩ : ∃ F, fillI r q f c a = F := ⟨_, rfl⟩
      rw [hF] at HF hfb
      obtain ⟨F0, F1⟩ := hfb.2.2.1
      obtain ⟨-, R1⟩ := hfb.1
      obtain ⟨s0, s1⟩ := hsb
      by_cases hs2 : s ≤ F
      case neg =>
        have HN : tkOk r q f c a s = false := by rw [tkOk, hF]; simp [hs2]
        rw [tk_no (show tkOk r q f c a s = false from HN), show tkOk r q f c a s = false from HN]
        clear hf HN hg2 a0 a1 hfb hs hF
        go_enter Try.func27, Try.ntmps27
        go_wp2_with (first | (go_at_call 29; go_loud (refine (HF.out _).mono ?_); rintro e w1 ⟨rfl, hb1⟩; have x0 : w1.cell? ⟨w.heap.size, 0, none⟩ = some (.int .i64 r) := cell_of_row _ _ 0 _ _ _ (block_onU hb1 H1.out); have xf0 := frozen_of_row w1 _ 0 _ _ (block_onU hb1 H1.out); have x1 : w1.cell? ⟨w.heap.size, 1, none⟩ = some (.int .i64 q) := cell_of_row _ _ 1 _ _ _ (block_onU hb1 H1.out); have xf1 := frozen_of_row w1 _ 1 _ _ (block_onU hb1 H1.out); have x2 : w1.cell? ⟨w.heap.size, 2, none⟩ = some (.int .i64 f) := cell_of_row _ _ 2 _ _ _ (block_onU hb1 H1.out); have xf2 := frozen_of_row w1 _ 2 _ _ (block_onU hb1 H1.out); have x3 : w1.cell? ⟨w.heap.size, 3, none⟩ = some (.int .i64 c) := cell_of_row _ _ 3 _ _ _ (block_onU hb1 H1.out); have xf3 := frozen_of_row w1 _ 3 _ _ (block_onU hb1 H1.out); have y0 : w1.cell? ⟨w.heap.size + 1, 0, none⟩ = some (.int .i64 a) := cell_of_row _ _ 0 _ _ _ (block_onU hb1 H2.out); have y1 : w1.cell? ⟨w.heap.size + 1, 1, none⟩ = some (.int .i64 s) := cell_of_row _ _ 1 _ _ _ (block_onU hb1 H2.out); have z0 : w1.cell? ⟨w.heap.size + 1 + 1, 0, none⟩ = some (.int .i64 0) := cell_of_row _ _ 0 _ _ _ (block_onU hb1 H3.out); have zf0 := frozen_of_row w1 _ 0 _ _ (block_onU hb1 H3.out); have z1 : w1.cell? ⟨w.heap.size + 1 + 1, 1, none⟩ = some (.int .i64 0) := cell_of_row _ _ 1 _ _ _ (block_onU hb1 H3.out); have zf1 := frozen_of_row w1 _ 1 _ _ (block_onU hb1 H3.out); have z2 : w1.cell? ⟨w.heap.size + 1 + 1, 2, none⟩ = some (.int .i64 0) := cell_of_row _ _ 2 _ _ _ (block_onU hb1 H3.out); have zf2 := frozen_of_row w1 _ 2 _ _ (block_onU hb1 H3.out); have z3 : w1.cell? ⟨w.heap.size + 1 + 1, 3, none⟩ = some (.int .i64 0) := cell_of_row _ _ 3 _ _ _ (block_onU hb1 H3.out); have zf3 := frozen_of_row w1 _ 3 _ _ (block_onU hb1 H3.out)) | (go_at_call 52; go_loud (refine (HA.out _).mono ?_); rintro e w' ⟨rfl, rfl⟩))
        exact ret_bk2 rfl (w.heap.size + 1 + 1) 0 0 0 0 false rfl rfl (gv_stored rfl (((gGv w1 w.heap.size _ _ _ _).block _ (heap_lt (block_onU hb1 H3.out)) (by intro e; injection e with e; omega)).trans (block_onU hb1 H3.out)) _ _ _ _) rfl ⟨rfl, below_gv (below_gv (below_more HB.out hb1) (Nat.le_refl _) _ _ _ _) (by omega) _ _ _ _⟩
      have HY : tkOk r q f c a s = true := by rw [tkOk, wantB, hg2.1, hg2.2, hs, hF]; simpa using hs2
      rw [tk_yes HY, HY, hF]
      have hsw : IntKind.i64.wrap (F - s) = F - s := wrap13 _ (by omega) (by omega)
      clear hf HY hg2 a0 a1 hfb hs hF
      go_enter Try.func27, Try.ntmps27
      go_wp2_with (first | (go_at_call 29; go_loud (refine (HF.out _).mono ?_); rintro e w1 ⟨rfl, hb1⟩; have x0 : w1.cell? ⟨w.heap.size, 0, none⟩ = some (.int .i64 r) := cell_of_row _ _ 0 _ _ _ (block_onU hb1 H1.out); have xf0 := frozen_of_row w1 _ 0 _ _ (block_onU hb1 H1.out); have x1 : w1.cell? ⟨w.heap.size, 1, none⟩ = some (.int .i64 q) := cell_of_row _ _ 1 _ _ _ (block_onU hb1 H1.out); have xf1 := frozen_of_row w1 _ 1 _ _ (block_onU hb1 H1.out); have x2 : w1.cell? ⟨w.heap.size, 2, none⟩ = some (.int .i64 f) := cell_of_row _ _ 2 _ _ _ (block_onU hb1 H1.out); have xf2 := frozen_of_row w1 _ 2 _ _ (block_onU hb1 H1.out); have x3 : w1.cell? ⟨w.heap.size, 3, none⟩ = some (.int .i64 c) := cell_of_row _ _ 3 _ _ _ (block_onU hb1 H1.out); have xf3 := frozen_of_row w1 _ 3 _ _ (block_onU hb1 H1.out); have y0 : w1.cell? ⟨w.heap.size + 1, 0, none⟩ = some (.int .i64 a) := cell_of_row _ _ 0 _ _ _ (block_onU hb1 H2.out); have y1 : w1.cell? ⟨w.heap.size + 1, 1, none⟩ = some (.int .i64 s) := cell_of_row _ _ 1 _ _ _ (block_onU hb1 H2.out); have z0 : w1.cell? ⟨w.heap.size + 1 + 1, 0, none⟩ = some (.int .i64 0) := cell_of_row _ _ 0 _ _ _ (block_onU hb1 H3.out); have zf0 := frozen_of_row w1 _ 0 _ _ (block_onU hb1 H3.out); have z1 : w1.cell? ⟨w.heap.size + 1 + 1, 1, none⟩ = some (.int .i64 0) := cell_of_row _ _ 1 _ _ _ (block_onU hb1 H3.out); have zf1 := frozen_of_row w1 _ 1 _ _ (block_onU hb1 H3.out); have z2 : w1.cell? ⟨w.heap.size + 1 + 1, 2, none⟩ = some (.int .i64 0) := cell_of_row _ _ 2 _ _ _ (block_onU hb1 H3.out); have zf2 := frozen_of_row w1 _ 2 _ _ (block_onU hb1 H3.out); have z3 : w1.cell? ⟨w.heap.size + 1 + 1, 3, none⟩ = some (.int .i64 0) := cell_of_row _ _ 3 _ _ _ (block_onU hb1 H3.out); have zf3 := frozen_of_row w1 _ 3 _ _ (block_onU hb1 H3.out)) | (go_at_call 52; go_loud (refine (HA.out _).mono ?_); rintro e w5 ⟨rfl, hw5⟩; have hX5 : w5.heap[w.heap.size]? = some (.cells #[.int .i64 r, .int .i64 q, .int .i64 F, .int .i64 a] 24 (0, 0)) := (by rw [← hw5]; exact gv_stored rfl (block_onU hb1 H1.out) _ _ _ _); have hY5 : w5.heap[w.heap.size + 1]? = some (.cells #[.int .i64 a, .int .i64 s] 34 (0, 0)) := (by rw [← hw5]; exact ((gGv w1 w.heap.size (.int .i64 r) (.int .i64 q) (.int .i64 F) (.int .i64 a)).block _ (heap_lt (block_onU hb1 H2.out)) (by intro e; injection e with e; omega)).trans (block_onU hb1 H2.out)); have hZ5 : w5.heap[w.heap.size + 1 + 1]? = some (.cells #[.int .i64 0, .int .i64 0, .int .i64 0, .int .i64 0] 24 (0, 0)) := (by rw [← hw5]; exact ((gGv w1 w.heap.size (.int .i64 r) (.int .i64 q) (.int .i64 F) (.int .i64 a)).block _ (heap_lt (block_onU hb1 H3.out)) (by intro e; injection e with e; omega)).trans (block_onU hb1 H3.out)); have hb5 : Below w.heap.size w w5 := (by rw [← hw5]; exact below_gv (below_more HB.out hb1) (Nat.le_refl w.heap.size) _ _ _ _); clear hw5; have x0 : w5.cell? ⟨w.heap.size, 0, none⟩ = some (.int .i64 r) := cell_of_row _ _ 0 _ _ _ hX5; have xf0 := frozen_of_row w5 _ 0 _ _ hX5; have x1 : w5.cell? ⟨w.heap.size, 1, none⟩ = some (.int .i64 q) := cell_of_row _ _ 1 _ _ _ hX5; have xf1 := frozen_of_row w5 _ 1 _ _ hX5; have x2 : w5.cell? ⟨w.heap.size, 2, none⟩ = some (.int .i64 F) := cell_of_row _ _ 2 _ _ _ hX5; have xf2 := frozen_of_row w5 _ 2 _ _ hX5; have x3 : w5.cell? ⟨w.heap.size, 3, none⟩ = some (.int .i64 a) := cell_of_row _ _ 3 _ _ _ hX5; have xf3 := frozen_of_row w5 _ 3 _ _ hX5; have y0 : w5.cell? ⟨w.heap.size + 1, 0, none⟩ = some (.int .i64 a) := cell_of_row _ _ 0 _ _ _ hY5; have y1 : w5.cell? ⟨w.heap.size + 1, 1, none⟩ = some (.int .i64 s) := cell_of_row _ _ 1 _ _ _ hY5; have z0 : w5.cell? ⟨w.heap.size + 1 + 1, 0, none⟩ = some (.int .i64 0) := cell_of_row _ _ 0 _ _ _ hZ5; have zf0 := frozen_of_row w5 _ 0 _ _ hZ5; have z1 : w5.cell? ⟨w.heap.size + 1 + 1, 1, none⟩ = some (.int .i64 0) := cell_of_row _ _ 1 _ _ _ hZ5; have zf1 := frozen_of_row w5 _ 1 _ _ hZ5; have z2 : w5.cell? ⟨w.heap.size + 1 + 1, 2, none⟩ = some (.int .i64 0) := cell_of_row _ _ 2 _ _ _ hZ5; have zf2 := frozen_of_row w5 _ 2 _ _ hZ5; have z3 : w5.cell? ⟨w.heap.size + 1 + 1, 3, none⟩ = some (.int .i64 0) := cell_of_row _ _ 3 _ _ _ hZ5; have zf3 := frozen_of_row w5 _ 3 _ _ hZ5))
      exact ret_bk2 rfl (w.heap.size + 1 + 1) r q (F - s) a true rfl rfl (gv_stored rfl (set1_other (X := w.heap.size) hZ5 (by omega) 2 (.int .i64 (F - s))) _ _ _ _) rfl ⟨rfl, below_gv (hb5.setCell (p := ⟨w.heap.size, 2, none⟩) (Nat.le_refl _) (.int .i64 (F - s))) (by omega) _ _ _ _⟩
end Go.Proofs.Ytgakklanboabjaa
