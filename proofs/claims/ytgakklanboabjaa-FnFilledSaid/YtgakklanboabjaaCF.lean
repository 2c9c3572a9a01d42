/-
  The program's chapter 13, third part: the closure of WaitFor, sort.Search over it, WaitFor.
-/
import Derived.Test.YtgakklanboabjaaCD
namespace Go.Proofs.Ytgakklanboabjaa
open Go.RowKit

/-- A bucket holds s tokens d ticks on exactly if d is at least the quotient. -/
theorem wait_iff {r q f s d : Int} (hq : 1 ≤ q) (hd : 0 ≤ d) (hs : s ≤ r) : (s ≤ min r (f + q * d)) ↔ (max 0 (s - f) + q - 1) / q ≤ d := by
  have h0 : 0 ≤ q * d := Int.mul_nonneg (by omega) hd
  have e : (d + 1) * q = q * d + q := by rw [Int.add_mul, Int.mul_comm d q, Int.one_mul]
  have h1 : (max 0 (s - f) + q - 1) / q < d + 1 ↔ max 0 (s - f) + q - 1 < (d + 1) * q := Int.ediv_lt_iff_lt_mul (by omega)
  rw [e] at h1
  omega
theorem wait_bounds {q f s : Int} (hq : 1 ≤ q) (hf : 0 ≤ f) (hs : s ≤ 100) : 0 ≤ (max 0 (s - f) + q - 1) / q ∧ (max 0 (s - f) + q - 1) / q ≤ 100 := by
  refine ⟨Int.ediv_nonneg (by omega) (by omega), ?_⟩
  have h1 : (max 0 (s - f) + q - 1) / q < 101 ↔ max 0 (s - f) + q - 1 < 101 * q := Int.ediv_lt_iff_lt_mul (by omega)
  omega
/-- What WaitFor's closure captures. -/
structure Wf13 (w : World) (g G S : Nat) (r q f c s : Int) : Prop where
  buc : w.heap[g]? = some (.cells #[.int .i64 r, .int .i64 q, .int .i64 f, .int .i64 c] 24 (0, 0))
  gau : w.heap[G]? = some (.cells #[gaF g] 83 (0, 0))
  siz : w.heap[S]? = some (.cells #[.int .i64 s] 3 (0, 0))
theorem Wf13.on {w w2 : World} {g G S : Nat} {r q f c s : Int} (h : Wf13 w g G S r q f c s) (hb : Below w.heap.size w w2) : Wf13 w2 g G S r q f c s :=
  ⟨block_onU hb h.buc, block_onU hb h.gau, block_onU hb h.siz⟩
set_option maxRecDepth 100000 in
set_option maxHeartbeats 2000000 in
theorem iPred13 {g G S : Nat} {r q f c s d : Int} (w : World) (h : Wf13 w g G S r q f c s) (hg : goodBB r q f c = true) (hs : s ≤ r) (h0 : 0 ≤ d) (h1 : d ≤ 10000) :
    Calls Try.prog 57 #[.int .i64 d, .pointer (some ⟨G, 0, none⟩), .pointer (some ⟨S, 0, none⟩)] w fun e w' => e = .returned (.bool (decide ((max 0 (s - f) + q - 1) / q ≤ d))) ∧ Below w.heap.size w w' := by
  have hF := Lib.hid (fun p : OnU w => iGauge1 g p.w' (block_onU p.h h.buc) hg h0 h1)
  have hi := wait_iff (f := f) (gbk_ok hg).2.1.1 h0 hs
  have x0 := onU_cell (cell_of_row _ _ 0 _ _ _ h.gau)
  have y0 := onU_cell (cell_of_row _ _ 0 _ _ _ h.siz)
  generalize (max 0 (s - f) + q - 1) / q = D at *
  generalize min r (f + q * d) = F at *
  clear h hg hs h0 h1
  by_cases hd : s ≤ F
  · have HE : Hid (decide (D ≤ d) = true) := by exact decide_eq_true (hi.mp hd)
    clear hi
    go_enter Try.func57, Try.ntmps57
    go_wp2_with fail
    refine wp_region_onU (by kernel_rfl) (by kernel_rfl) ?_
    repeat (go_big_quiet_step (first | (go_at_call 64; with_reducible exact onU_same (hF.out _))))
    with_reducible refine wpQuiet_nil ?_
    rintro w2 ⟨⟨w2x, hb2⟩, hw2x⟩
    obtain rfl : w2 = w2x := hw2x
    go_wp2_with fail
    go_ret
    exact ⟨ret_bool' (by rw [HE.out]), hb2⟩
  · have HE : Hid (decide (D ≤ d) = false) := by exact decide_eq_false (fun h => hd (hi.mpr h))
    clear hi
    go_enter Try.func57, Try.ntmps57
    go_wp2_with fail
    refine wp_region_onU (by kernel_rfl) (by kernel_rfl) ?_
    repeat (go_big_quiet_step (first | (go_at_call 64; with_reducible exact onU_same (hF.out _))))
    with_reducible refine wpQuiet_nil ?_
    rintro w2 ⟨⟨w2x, hb2⟩, hw2x⟩
    obtain rfl : w2 = w2x := hw2x
    go_wp2_with fail
    go_ret
    exact ⟨ret_bool' (by rw [HE.out]; exact decide_eq_false (Int.not_le.mpr hd)), hb2⟩
set_option maxRecDepth 100000 in
set_option maxHeartbeats 2000000 in
theorem iSearch13 {g G S : Nat} {r q f c s : Int} (w : World) (h : Wf13 w g G S r q f c s) (hg : goodBB r q f c = true) (hs : s ≤ r) :
    Calls Try.prog 56 #[.int .i64 100, (.func (.func 57) #[] #[.pointer (some ⟨G, 0, none⟩), .pointer (some ⟨S, 0, none⟩)])] w fun e w' => e = .returned (.int .i64 ((max 0 (s - f) + q - 1) / q)) ∧ Below w.heap.size w w' := by
  obtain ⟨⟨r0, r1⟩, ⟨q0, q1⟩, ⟨f0, f1⟩, -⟩ := gbk_ok hg
  obtain ⟨d0, d1⟩ := wait_bounds (q := q) (f := f) (s := s) q0 f0 (by omega)
  have HP := Lib.hid (fun (d : Nat) (hd : d ≤ 10000) w' (hb : Below w.heap.size w w') => iPred13 (d := (d : Int)) w' (h.on hb) hg hs (by omega) (by omega))
  clear h hg hs r0 r1 q0 q1 f0 f1
  generalize (max 0 (s - f) + q - 1) / q = D at *
  obtain ⟨n, rfl⟩ : ∃ n : Nat, D = n := ⟨D.toNat, by omega⟩
  have hn : n ≤ 100 := by omega
  clear d0 d1
  go_enter Try.func56, Try.ntmps56
  go_wp2_with fail
  go_loopg [5, 6] 100 (fun gk i j wr => ∃ a b : Nat, (a ≤ n ∧ n ≤ b ∧ b ≤ 100 ∧ b ≤ a + gk) ∧ i = .int .i64 a ∧ j = .int .i64 b ∧ Below w.heap.size w wr)
  case atStart => exact ⟨0, 100, by omega, rfl, rfl, Below.refl _ _⟩
  case round =>
    obtain ⟨a, b, ⟨h1, h2, h3, h4⟩, rfl, rfl, hbel⟩ := hrel
    have HBl := Lib.hid hbel
    clear hbel
    by_cases hlt : a < b
    case neg =>
      have hab : ¬ (a : Int) < (b : Int) := by omega
      obtain rfl : a = n := by omega
      clear hlt h1 h2 h3 h4
      go_wp2_with fail
      go_ret
      exact ⟨rfl, HBl.out⟩
    have hab : (a : Int) < (b : Int) := by omega
    obtain ⟨M, hM⟩ : ∃ M, (a + b) / 2 = M := ⟨_, rfl⟩
    have hw0 : IntKind.i64.wrap ((a : Int) + b) = (a : Int) + b := wrap13 _ (by omega) (by omega)
    have hw1 : IntKind.u64.wrap ((a : Int) + b) = (a : Int) + b := by unfold IntKind.wrap; simp [IntKind.bits, IntKind.signed]; omega
    have hw2 : ((a : Int) + b) / 2 = M := by omega
    have hw3 : IntKind.i64.wrap (M : Int) = M := wrap13 _ (by omega) (by omega)
    have hw4 : IntKind.u64.wrap (M : Int) = M := by unfold IntKind.wrap; simp [IntKind.bits, IntKind.signed]; omega
    have hM1 : a ≤ M ∧ M < b := by omega
    have HP1 := Lib.hid (HP.out M (by omega) wr HBl.out)
    by_cases hd : (n : Int) ≤ (M : Int)
    · have HE : decide ((n : Int) ≤ (M : Int)) = true := by simpa using hd
      rw [HE] at HP1
      have HG : Hid (gk - 1 < gk ∧ a ≤ n ∧ n ≤ M ∧ M ≤ 100 ∧ M ≤ a + (gk - 1)) := by show _ ∧ _; omega
      clear HE hd hM h1 h2 h3 h4 hlt HP hM1
      have hM2 : M ≤ 100 := by have := HG.out.2; omega
      go_wp2_with fail
      refine HP1.out.mono ?_
      rintro e w2 ⟨rfl, hb2⟩
      have HB2 := Lib.hid (below_more HBl.out hb2)
      clear hb2
      go_wp2_with fail
      go_roundg (gk - 1)
      case measure => exact HG.out.1
      case rel => exact ⟨a, M, HG.out.2, rfl, rfl, HB2.out⟩
    · have HE : decide ((n : Int) ≤ (M : Int)) = false := by simpa using hd
      rw [HE] at HP1
      have HG : Hid (gk - 1 < gk ∧ M + 1 ≤ n ∧ n ≤ b ∧ b ≤ 100 ∧ b ≤ M + 1 + (gk - 1)) := by show _ ∧ _; omega
      clear HE hd hM h1 h2 h3 h4 hlt HP hM1
      have hM2 : M ≤ 100 := by have := HG.out.2; omega
      go_wp2_with fail
      refine HP1.out.mono ?_
      rintro e w2 ⟨rfl, hb2⟩
      have HB2 := Lib.hid (below_more HBl.out hb2)
      clear hb2
      go_wp2_with fail
      go_roundg (gk - 1)
      case measure => exact HG.out.1
      case rel => exact ⟨M + 1, b, HG.out.2, by go_num, rfl, HB2.out⟩
set_option maxRecDepth 100000 in
set_option maxHeartbeats 2000000 in
theorem iWaitFor (r q f c s : Int) (w : World) :
    Calls Try.prog 25 #[bkW r q f c, .int .i64 s] w fun e w' => e = .returned (.tuple #[.int .i64 (wfI r q f c s), .bool (wfOk r q f c s)]) ∧ Below w.heap.size w w' := by
  obtain ⟨W, hW⟩ : ∃ W, (w.alloc (.cells #[.int .i64 r, .int .i64 q, .int .i64 f, .int .i64 c] 24)).alloc (.cells #[.int .i64 s] 3) = W := ⟨_, rfl⟩
  have hsW : W.heap.size = w.heap.size + 2 := by rw [← hW]; simp
  have hbW : Below w.heap.size w W := by rw [← hW]; exact (gAlloc w _).alloc (by simp) _
  have h1 : W.heap[w.heap.size]? = some (.cells #[.int .i64 r, .int .i64 q, .int .i64 f, .int .i64 c] 24 (0, 0)) := by rw [← hW, heap_alloc_old _ _ _ (by simp)]; exact heap_alloc_new _ _
  have h2 : W.heap[w.heap.size + 1]? = some (.cells #[.int .i64 s] 3 (0, 0)) := by rw [← hW, show w.heap.size + 1 = (w.alloc (.cells #[.int .i64 r, .int .i64 q, .int .i64 f, .int .i64 c] 24)).heap.size by simp]; exact heap_alloc_new _ _
  have x0 : W.cell? ⟨w.heap.size, 0, none⟩ = some (.int .i64 r) := cell_of_row _ _ 0 _ _ _ h1
  have x1 : W.cell? ⟨w.heap.size, 1, none⟩ = some (.int .i64 q) := cell_of_row _ _ 1 _ _ _ h1
  have x2 : W.cell? ⟨w.heap.size, 2, none⟩ = some (.int .i64 f) := cell_of_row _ _ 2 _ _ _ h1
  have x3 : W.cell? ⟨w.heap.size, 3, none⟩ = some (.int .i64 c) := cell_of_row _ _ 3 _ _ _ h1
  have y0 : W.cell? ⟨w.heap.size + 1, 0, none⟩ = some (.int .i64 s) := cell_of_row _ _ 0 _ _ _ h2
  have H1 := Lib.hid h1
  have H2 := Lib.hid h2
  have HB := Lib.hid hbW
  clear hbW h1 h2
  have HG := Lib.hid (iGoodBk r q f c W)
  cases hg : goodBB r q f c
  · have HN : wfOk r q f c s = false := by rw [wfOk, hg]; rfl
    rw [wf_no (show wfOk r q f c s = false from HN), show wfOk r q f c s = false from HN]
    rw [hg] at HG
    clear hg HN
    go_enter Try.func25, Try.ntmps25
    go_wp2_with (first | (go_at_call 16; go_loud (refine (HG.out).mono ?_); rintro e w1 ⟨rfl, hb1⟩; have x0 : w1.cell? ⟨w.heap.size, 0, none⟩ = some (.int .i64 r) := cell_of_row _ _ 0 _ _ _ (block_onU hb1 H1.out); have x1 : w1.cell? ⟨w.heap.size, 1, none⟩ = some (.int .i64 q) := cell_of_row _ _ 1 _ _ _ (block_onU hb1 H1.out); have x2 : w1.cell? ⟨w.heap.size, 2, none⟩ = some (.int .i64 f) := cell_of_row _ _ 2 _ _ _ (block_onU hb1 H1.out); have x3 : w1.cell? ⟨w.heap.size, 3, none⟩ = some (.int .i64 c) := cell_of_row _ _ 3 _ _ _ (block_onU hb1 H1.out); have y0 : w1.cell? ⟨w.heap.size + 1, 0, none⟩ = some (.int .i64 s) := cell_of_row _ _ 0 _ _ _ (block_onU hb1 H2.out)))
    go_ret2
    exact ⟨rfl, below_more HB.out hb1⟩
  · rw [hg] at HG
    by_cases h0' : 1 ≤ s
    case neg =>
      have HN : wfOk r q f c s = false := by rw [wfOk, hg]; simp [inB]; omega
      rw [wf_no (show wfOk r q f c s = false from HN), show wfOk r q f c s = false from HN]
      clear hg HN
      go_enter Try.func25, Try.ntmps25
      go_wp2_with (first | (go_at_call 16; go_loud (refine (HG.out).mono ?_); rintro e w1 ⟨rfl, hb1⟩; have x0 : w1.cell? ⟨w.heap.size, 0, none⟩ = some (.int .i64 r) := cell_of_row _ _ 0 _ _ _ (block_onU hb1 H1.out); have x1 : w1.cell? ⟨w.heap.size, 1, none⟩ = some (.int .i64 q) := cell_of_row _ _ 1 _ _ _ (block_onU hb1 H1.out); have x2 : w1.cell? ⟨w.heap.size, 2, none⟩ = some (.int .i64 f) := cell_of_row _ _ 2 _ _ _ (block_onU hb1 H1.out); have x3 : w1.cell? ⟨w.heap.size, 3, none⟩ = some (.int .i64 c) := cell_of_row _ _ 3 _ _ _ (block_onU hb1 H1.out); have y0 : w1.cell? ⟨w.heap.size + 1, 0, none⟩ = some (.int .i64 s) := cell_of_row _ _ 0 _ _ _ (block_onU hb1 H2.out)))
      go_ret2
      exact ⟨rfl, below_more HB.out hb1⟩
    by_cases h1' : s ≤ r
    case neg =>
      have HN : wfOk r q f c s = false := by rw [wfOk, hg]; simp [inB]; omega
      rw [wf_no (show wfOk r q f c s = false from HN), show wfOk r q f c s = false from HN]
      clear hg HN
      go_enter Try.func25, Try.ntmps25
      go_wp2_with (first | (go_at_call 16; go_loud (refine (HG.out).mono ?_); rintro e w1 ⟨rfl, hb1⟩; have x0 : w1.cell? ⟨w.heap.size, 0, none⟩ = some (.int .i64 r) := cell_of_row _ _ 0 _ _ _ (block_onU hb1 H1.out); have x1 : w1.cell? ⟨w.heap.size, 1, none⟩ = some (.int .i64 q) := cell_of_row _ _ 1 _ _ _ (block_onU hb1 H1.out); have x2 : w1.cell? ⟨w.heap.size, 2, none⟩ = some (.int .i64 f) := cell_of_row _ _ 2 _ _ _ (block_onU hb1 H1.out); have x3 : w1.cell? ⟨w.heap.size, 3, none⟩ = some (.int .i64 c) := cell_of_row _ _ 3 _ _ _ (block_onU hb1 H1.out); have y0 : w1.cell? ⟨w.heap.size + 1, 0, none⟩ = some (.int .i64 s) := cell_of_row _ _ 0 _ _ _ (block_onU hb1 H2.out)))
      go_ret2
      exact ⟨rfl, below_more HB.out hb1⟩
    have HY : wfOk r q f c s = true := by rw [wfOk, hg, inB_mkL h0' h1']; rfl
    rw [wf_yes HY, HY]
    have HS := Lib.hid (fun (g G S : Nat) (w : World) (h : Wf13 w g G S r q f c s) => iSearch13 w h hg h1')
    generalize (max 0 (s - f) + q - 1) / q = D at *
    have HGa := Lib.hid (fun w => iGaugeOf r q f c w)
    have hmf : ∀ (fn : Fn) (first cap : Array Value) (w : World), (Instr.makeFunc fn first cap).run Try.prog w = .ok (.func fn first cap) w := fun _ _ _ _ => rfl
    clear hg HY
    go_enter Try.func25, Try.ntmps25
    go_wp2_with (first | (go_at_call 16; go_loud (refine (HG.out).mono ?_); rintro e w1 ⟨rfl, hb1⟩; have x0 : w1.cell? ⟨w.heap.size, 0, none⟩ = some (.int .i64 r) := cell_of_row _ _ 0 _ _ _ (block_onU hb1 H1.out); have x1 : w1.cell? ⟨w.heap.size, 1, none⟩ = some (.int .i64 q) := cell_of_row _ _ 1 _ _ _ (block_onU hb1 H1.out); have x2 : w1.cell? ⟨w.heap.size, 2, none⟩ = some (.int .i64 f) := cell_of_row _ _ 2 _ _ _ (block_onU hb1 H1.out); have x3 : w1.cell? ⟨w.heap.size, 3, none⟩ = some (.int .i64 c) := cell_of_row _ _ 3 _ _ _ (block_onU hb1 H1.out); have y0 : w1.cell? ⟨w.heap.size + 1, 0, none⟩ = some (.int .i64 s) := cell_of_row _ _ 0 _ _ _ (block_onU hb1 H2.out)) | (go_at_call 55; refine (HGa.out _).mono ?_; rintro e w2 ⟨rfl, hg2, hb2⟩; have HG2 := Lib.hid hg2; have HY2 := Lib.hid (block_onU hb2 (block_onU hb1 H2.out)); have HB2 := Lib.hid (below_more (below_more HB.out hb1) hb2); clear hb2 hg2; have hb3 : Below w2.heap.size w2 (w2.alloc (.cells #[gaF w1.heap.size] 83)) := gAlloc _ _; have HW := Lib.hid (show Wf13 (w2.alloc (.cells #[gaF w1.heap.size] 83)) w1.heap.size w2.heap.size (w.heap.size + 1) r q f c s from ⟨block_onU hb3 HG2.out, heap_alloc_new _ _, block_onU hb3 HY2.out⟩); have HB3 := Lib.hid (below_more HB2.out hb3); clear hb3) | (go_at_call 56; refine (HS.out _ _ _ _ HW.out).mono ?_; rintro e w4 ⟨rfl, hb4⟩))
    go_ret2
    exact ⟨rfl, below_more HB3.out hb4⟩
end Go.Proofs.Ytgakklanboabjaa
