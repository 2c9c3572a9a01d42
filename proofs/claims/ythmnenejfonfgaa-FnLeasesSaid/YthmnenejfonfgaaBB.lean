/-
  The model of chapter 12, first part: GoodLease, HeldAt, BelievesAt, StepLease.
-/
import Derived.Test.YthmnenejfonfgaaBA
namespace Go.Proofs.Ythmnenejfonfgaa
open Go.RowKit

theorem sMost12 (a b : Int) (w : World) : Calls Try.prog 51 #[.int .i64 a, .int .i64 b] w fun e w' => e = .returned (.int .i64 (max a b)) ∧ w = w' := by
  by_cases h : b < a
  · have hm : max a b = a := by omega
    rw [hm]
    go_enter Try.func51, Try.ntmps51
    go_wp2_with fail
    go_ret
    exact ⟨rfl, rfl⟩
  · have hm : max a b = b := by omega
    rw [hm]
    go_enter Try.func51, Try.ntmps51
    go_wp2_with fail
    go_ret
    exact ⟨rfl, rfl⟩
def ckB (n : Int) : Bool := inB n 0 10000
theorem inB_andL {n lo hi : Int} (h : inB n lo hi = true) : lo ≤ n ∧ n ≤ hi := by simpa [inB] using h
theorem inB_mkL {n lo hi : Int} (h1 : lo ≤ n) (h2 : n ≤ hi) : inB n lo hi = true := by simp [inB]; omega
theorem sClock12 (n : Int) (w : World) : Calls Try.prog 49 #[.int .i64 n] w fun e w' => e = .returned (.bool (ckB n)) ∧ w = w' := by
  go_enter Try.func49, Try.ntmps49
  go_wp2_with fail
  refine (l1In_any n 0 10000 w).mono ?_
  rintro e w' ⟨rfl, rfl⟩
  go_wp2_with fail
  go_ret
  exact ⟨rfl, rfl⟩
/-- A lease (holder a, expiry u, grants q) is good. -/
def goodZB (a u q : Int) : Bool := inB q 0 1000 && ((a == 0 && u == 0) || (inB a 1 9 && inB u 1 10000))
theorem gls_ok {a u q : Int} (h : goodZB a u q = true) : 0 ≤ q ∧ q ≤ 1000 ∧ 0 ≤ a ∧ a ≤ 9 ∧ 0 ≤ u ∧ u ≤ 10000 ∧ (a = 0 ↔ u = 0) := by
  simp only [goodZB, Bool.and_eq_true, Bool.or_eq_true, beq_iff_eq] at h
  obtain ⟨h1, h2⟩ := h
  have := inB_andL h1
  rcases h2 with ⟨h2, h3⟩ | ⟨h2, h3⟩
  · omega
  · have := inB_andL h2; have := inB_andL h3; omega
theorem gls_mk {a u q : Int} (h1 : 0 ≤ q) (h2 : q ≤ 1000) (h3 : 1 ≤ a) (h4 : a ≤ 9) (h5 : 1 ≤ u) (h6 : u ≤ 10000) : goodZB a u q = true := by
  rw [goodZB, inB_mkL h1 h2, inB_mkL h3 h4, inB_mkL h5 h6]; simp
abbrev lsW (a u q : Int) : Value := .agg #[.int .i64 a, .int .i64 u, .int .i64 q]
set_option maxRecDepth 100000 in
set_option maxHeartbeats 2000000 in
theorem sGoodL (a u q : Int) (w : World) :
    Calls Try.prog 26 #[lsW a u q] w fun e w' => e = .returned (.bool (goodZB a u q)) ∧ Below w.heap.size w w' := by
  obtain ⟨W, hW⟩ : ∃ W, w.alloc (.cells #[.int .i64 a, .int .i64 u, .int .i64 q] 26) = W := ⟨_, rfl⟩
  have hbW : Below w.heap.size w W := by rw [← hW]; exact gAlloc _ _
  have h1 : W.heap[w.heap.size]? = some (.cells #[.int .i64 a, .int .i64 u, .int .i64 q] 26 (0, 0)) := by rw [← hW]; exact heap_alloc_new _ _
  have x0 : W.cell? ⟨w.heap.size, 0, none⟩ = some (.int .i64 a) := cell_of_row _ _ 0 _ _ _ h1
  have x1 : W.cell? ⟨w.heap.size, 1, none⟩ = some (.int .i64 u) := cell_of_row _ _ 1 _ _ _ h1
  have x2 : W.cell? ⟨w.heap.size, 2, none⟩ = some (.int .i64 q) := cell_of_row _ _ 2 _ _ _ h1
  have HB := Lib.hid hbW
  have H1 := Lib.hid h1
  clear hbW h1
  have HI := Lib.hid (fun (z lo hi : Int) w => l1In_any z lo hi w)
  cases e1 : inB q 0 1000
  · have HE : Hid (goodZB a u q = false) := by show _ = _; rw [goodZB, e1]; rfl
    have H0 := Lib.hid (HI.out q 0 1000)
    rw [e1] at H0
    clear HI e1
    go_enter Try.func26, Try.ntmps26
    go_wp2_with fail
    refine (H0.out _).mono ?_
    rintro e w' ⟨rfl, rfl⟩
    go_wp2_with fail
    go_ret
    exact ⟨ret_bool' HE.out.symm, HB.out⟩
  · have H0 := Lib.hid (HI.out q 0 1000)
    rw [e1] at H0
    by_cases c1 : a = 0
    · by_cases c2 : u = 0
      · have HE : Hid (goodZB a u q = true) := by show _ = _; rw [goodZB, e1, c1, c2]; rfl
        have b1 : (a == 0) = true := by simpa using c1
        have b2 : (u == 0) = true := by simpa using c2
        clear HI e1 c1 c2
        go_enter Try.func26, Try.ntmps26
        go_wp2_with fail
        refine (H0.out _).mono ?_
        rintro e w' ⟨rfl, rfl⟩
        go_wp2_with fail
        go_ret
        exact ⟨ret_bool' HE.out.symm, HB.out⟩
      · have e2 : inB a 1 9 = false := by simp [inB, c1]
        have HE : Hid (goodZB a u q = false) := by show _ = _; rw [goodZB, e1, e2]; simp [c2]
        have H2 := Lib.hid (HI.out a 1 9)
        rw [e2] at H2
        have b1 : (a == 0) = true := by simpa using c1
        have b2 : (u == 0) = false := by simpa using c2
        clear HI e1 e2 c1 c2
        go_enter Try.func26, Try.ntmps26
        go_wp2_with fail
        refine (H0.out _).mono ?_
        rintro e w' ⟨rfl, rfl⟩
        go_wp2_with fail
        refine (H2.out _).mono ?_
        rintro e w' ⟨rfl, rfl⟩
        go_wp2_with fail
        go_ret
        exact ⟨ret_bool' HE.out.symm, HB.out⟩
    · have b1 : (a == 0) = false := by simpa using c1
      have H2 := Lib.hid (HI.out a 1 9)
      have H3 := Lib.hid (HI.out u 1 10000)
      cases e2 : inB a 1 9
      · have HE : Hid (goodZB a u q = false) := by show _ = _; rw [goodZB, e1, b1, e2]; rfl
        rw [e2] at H2
        clear HI e1 e2 H3 c1
        go_enter Try.func26, Try.ntmps26
        go_wp2_with fail
        refine (H0.out _).mono ?_
        rintro e w' ⟨rfl, rfl⟩
        go_wp2_with fail
        refine (H2.out _).mono ?_
        rintro e w' ⟨rfl, rfl⟩
        go_wp2_with fail
        go_ret
        exact ⟨ret_bool' HE.out.symm, HB.out⟩
      · have HE : Hid (goodZB a u q = inB u 1 10000) := by show _ = _; rw [goodZB, e1, b1, e2]; rfl
        rw [e2] at H2
        generalize inB u 1 10000 = b at *
        clear HI e1 e2 c1
        go_enter Try.func26, Try.ntmps26
        go_wp2_with fail
        refine (H0.out _).mono ?_
        rintro e w' ⟨rfl, rfl⟩
        go_wp2_with fail
        refine (H2.out _).mono ?_
        rintro e w' ⟨rfl, rfl⟩
        go_wp2_with fail
        refine (H3.out _).mono ?_
        rintro e w' ⟨rfl, rfl⟩
        go_wp2_with fail
        go_ret
        exact ⟨ret_bool' HE.out.symm, HB.out⟩
/-- Who holds at t. -/
def heldL (a u t : Int) : Int := if t < u then a else 0
set_option maxRecDepth 100000 in
set_option maxHeartbeats 2000000 in
theorem sHeldL (a u q t : Int) (w : World) :
    Calls Try.prog 54 #[lsW a u q, .int .i64 t] w fun e w' => e = .returned (.int .i64 (heldL a u t)) ∧ Below w.heap.size w w' := by
  obtain ⟨W, hW⟩ : ∃ W, w.alloc (.cells #[.int .i64 a, .int .i64 u, .int .i64 q] 26) = W := ⟨_, rfl⟩
  have hbW : Below w.heap.size w W := by rw [← hW]; exact gAlloc _ _
  have h1 : W.heap[w.heap.size]? = some (.cells #[.int .i64 a, .int .i64 u, .int .i64 q] 26 (0, 0)) := by rw [← hW]; exact heap_alloc_new _ _
  have x0 : W.cell? ⟨w.heap.size, 0, none⟩ = some (.int .i64 a) := cell_of_row _ _ 0 _ _ _ h1
  have x1 : W.cell? ⟨w.heap.size, 1, none⟩ = some (.int .i64 u) := cell_of_row _ _ 1 _ _ _ h1
  have x2 : W.cell? ⟨w.heap.size, 2, none⟩ = some (.int .i64 q) := cell_of_row _ _ 2 _ _ _ h1
  have HB := Lib.hid hbW
  have H1 := Lib.hid h1
  clear hbW h1
  by_cases h : t < u
  · have HE : Hid (heldL a u t = a) := by show _ = _; rw [heldL, if_pos h]
    rw [HE.out]
    go_enter Try.func54, Try.ntmps54
    go_wp2_with fail
    go_ret
    exact ⟨rfl, HB.out⟩
  · have HE : Hid (heldL a u t = 0) := by show _ = _; rw [heldL, if_neg h]
    rw [HE.out]
    go_enter Try.func54, Try.ntmps54
    go_wp2_with fail
    go_ret
    exact ⟨rfl, HB.out⟩
def hdI (a u q t : Int) : Int := if (goodZB a u q && ckB t) = true then heldL a u t else 0
def hdOkB (a u q t : Int) : Bool := goodZB a u q && ckB t
set_option maxRecDepth 100000 in
set_option maxHeartbeats 2000000 in
theorem sHeldAt (a u q t : Int) (w : World) :
    Calls Try.prog 22 #[lsW a u q, .int .i64 t] w fun e w' => e = .returned (.tuple #[.int .i64 (hdI a u q t), .bool (hdOkB a u q t)]) ∧ Below w.heap.size w w' := by
  obtain ⟨W, hW⟩ : ∃ W, w.alloc (.cells #[.int .i64 a, .int .i64 u, .int .i64 q] 26) = W := ⟨_, rfl⟩
  have hbW : Below w.heap.size w W := by rw [← hW]; exact gAlloc _ _
  have h1 : W.heap[w.heap.size]? = some (.cells #[.int .i64 a, .int .i64 u, .int .i64 q] 26 (0, 0)) := by rw [← hW]; exact heap_alloc_new _ _
  have x0 : W.cell? ⟨w.heap.size, 0, none⟩ = some (.int .i64 a) := cell_of_row _ _ 0 _ _ _ h1
  have x1 : W.cell? ⟨w.heap.size, 1, none⟩ = some (.int .i64 u) := cell_of_row _ _ 1 _ _ _ h1
  have x2 : W.cell? ⟨w.heap.size, 2, none⟩ = some (.int .i64 q) := cell_of_row _ _ 2 _ _ _ h1
  have HB := Lib.hid hbW
  have H1 := Lib.hid h1
  clear hbW h1
  have HG := Lib.hid (sGoodL a u q W)
  have HC := Lib.hid (fun w => sClock12 t w)
  cases hg : goodZB a u q
  · have HE : Hid (hdI a u q t = 0 ∧ hdOkB a u q t = false) := by show _ ∧ _; simp [hdI, hdOkB, hg]
    rw [HE.out.1, HE.out.2]
    rw [hg] at HG
    clear hg
    go_enter Try.func22, Try.ntmps22
    go_wp2_with (go_at_call 26; refine HG.out.mono ?_; rintro e w1 ⟨rfl, hb1⟩)
    go_ret2
    exact ⟨rfl, below_more HB.out hb1⟩
  · rw [hg] at HG
    cases hc : ckB t
    · have HE : Hid (hdI a u q t = 0 ∧ hdOkB a u q t = false) := by show _ ∧ _; simp [hdI, hdOkB, hg, hc]
      rw [HE.out.1, HE.out.2]
      rw [hc] at HC
      clear hg hc
      go_enter Try.func22, Try.ntmps22
      go_wp2_with (first
        | (go_at_call 26; refine HG.out.mono ?_; rintro e w1 ⟨rfl, hb1⟩)
        | (go_at_call 49; refine (HC.out _).mono ?_; rintro e w' ⟨rfl, rfl⟩))
      go_ret2
      exact ⟨rfl, below_more HB.out hb1⟩
    · have HE : Hid (hdI a u q t = heldL a u t ∧ hdOkB a u q t = true) := by show _ ∧ _; simp [hdI, hdOkB, hg, hc]
      have htb := inB_andL (show inB t 0 10000 = true from hc)
      obtain ⟨ht0, ht1⟩ := htb
      rw [HE.out.1, HE.out.2]
      rw [hc] at HC
      clear hg hc
      go_enter Try.func22, Try.ntmps22
      go_wp2_with (first
        | (go_at_call 26; refine HG.out.mono ?_; rintro e w1 ⟨rfl, hb1⟩; have y0 := cell_of_row w1 _ 0 _ _ _ ((hb1.block _ (heap_lt H1.out)).trans H1.out); have y1 := cell_of_row w1 _ 1 _ _ _ ((hb1.block _ (heap_lt H1.out)).trans H1.out); have y2 := cell_of_row w1 _ 2 _ _ _ ((hb1.block _ (heap_lt H1.out)).trans H1.out))
        | (go_at_call 49; refine (HC.out _).mono ?_; rintro e w' ⟨rfl, rfl⟩)
        | (go_at_call 54; refine (sHeldL a u q t _).mono ?_; rintro e w2 ⟨rfl, hb2⟩))
      go_ret2
      exact ⟨rfl, below_more (below_more HB.out hb1) hb2⟩
def belB (u t : Int) : Bool := decide (t + 3 < u)
set_option maxRecDepth 100000 in
set_option maxHeartbeats 2000000 in
theorem sBel12 (a u q t : Int) (w : World) (h0 : 0 ≤ t) (h1 : t ≤ 100000) :
    Calls Try.prog 52 #[lsW a u q, .int .i64 t] w fun e w' => e = .returned (.bool (belB u t)) ∧ Below w.heap.size w w' := by
  obtain ⟨W, hW⟩ : ∃ W, w.alloc (.cells #[.int .i64 a, .int .i64 u, .int .i64 q] 26) = W := ⟨_, rfl⟩
  have hbW : Below w.heap.size w W := by rw [← hW]; exact gAlloc _ _
  have hr1 : W.heap[w.heap.size]? = some (.cells #[.int .i64 a, .int .i64 u, .int .i64 q] 26 (0, 0)) := by rw [← hW]; exact heap_alloc_new _ _
  have x0 : W.cell? ⟨w.heap.size, 0, none⟩ = some (.int .i64 a) := cell_of_row _ _ 0 _ _ _ hr1
  have x1 : W.cell? ⟨w.heap.size, 1, none⟩ = some (.int .i64 u) := cell_of_row _ _ 1 _ _ _ hr1
  have x2 : W.cell? ⟨w.heap.size, 2, none⟩ = some (.int .i64 q) := cell_of_row _ _ 2 _ _ _ hr1
  have HB := Lib.hid hbW
  have H1 := Lib.hid hr1
  clear hbW hr1
  go_enter Try.func52, Try.ntmps52
  go_wp2_with fail
  go_ret
  exact ⟨rfl, HB.out⟩
def blB (a u q t : Int) : Bool := (goodZB a u q && ckB t) && belB u t
set_option maxRecDepth 100000 in
set_option maxHeartbeats 2000000 in
theorem sBelAt (a u q t : Int) (w : World) :
    Calls Try.prog 20 #[lsW a u q, .int .i64 t] w fun e w' => e = .returned (.tuple #[.bool (blB a u q t), .bool (hdOkB a u q t)]) ∧ Below w.heap.size w w' := by
  obtain ⟨W, hW⟩ : ∃ W, w.alloc (.cells #[.int .i64 a, .int .i64 u, .int .i64 q] 26) = W := ⟨_, rfl⟩
  have hbW : Below w.heap.size w W := by rw [← hW]; exact gAlloc _ _
  have h1 : W.heap[w.heap.size]? = some (.cells #[.int .i64 a, .int .i64 u, .int .i64 q] 26 (0, 0)) := by rw [← hW]; exact heap_alloc_new _ _
  have x0 : W.cell? ⟨w.heap.size, 0, none⟩ = some (.int .i64 a) := cell_of_row _ _ 0 _ _ _ h1
  have x1 : W.cell? ⟨w.heap.size, 1, none⟩ = some (.int .i64 u) := cell_of_row _ _ 1 _ _ _ h1
  have x2 : W.cell? ⟨w.heap.size, 2, none⟩ = some (.int .i64 q) := cell_of_row _ _ 2 _ _ _ h1
  have HB := Lib.hid hbW
  have H1 := Lib.hid h1
  clear hbW h1
  have HG := Lib.hid (sGoodL a u q W)
  have HC := Lib.hid (fun w => sClock12 t w)
  cases hg : goodZB a u q
  · have HE : Hid (blB a u q t = false ∧ hdOkB a u q t = false) := by show _ ∧ _; simp [blB, hdOkB, hg]
    rw [HE.out.1, HE.out.2]
    rw [hg] at HG
    clear hg
    go_enter Try.func20, Try.ntmps20
    go_wp2_with (go_at_call 26; refine HG.out.mono ?_; rintro e w1 ⟨rfl, hb1⟩)
    go_ret2
    exact ⟨rfl, below_more HB.out hb1⟩
  · rw [hg] at HG
    cases hc : ckB t
    · have HE : Hid (blB a u q t = false ∧ hdOkB a u q t = false) := by show _ ∧ _; simp [blB, hdOkB, hg, hc]
      rw [HE.out.1, HE.out.2]
      rw [hc] at HC
      clear hg hc
      go_enter Try.func20, Try.ntmps20
      go_wp2_with (first
        | (go_at_call 26; refine HG.out.mono ?_; rintro e w1 ⟨rfl, hb1⟩)
        | (go_at_call 49; refine (HC.out _).mono ?_; rintro e w' ⟨rfl, rfl⟩))
      go_ret2
      exact ⟨rfl, below_more HB.out hb1⟩
    · have HE : Hid (blB a u q t = belB u t ∧ hdOkB a u q t = true) := by show _ ∧ _; simp [blB, hdOkB, hg, hc]
      have htb := inB_andL (show inB t 0 10000 = true from hc)
      obtain ⟨ht0, ht1⟩ := htb
      rw [HE.out.1, HE.out.2]
      rw [hc] at HC
      clear hg hc
      go_enter Try.func20, Try.ntmps20
      go_wp2_with (first
        | (go_at_call 26; refine HG.out.mono ?_; rintro e w1 ⟨rfl, hb1⟩; have y0 := cell_of_row w1 _ 0 _ _ _ ((hb1.block _ (heap_lt H1.out)).trans H1.out); have y1 := cell_of_row w1 _ 1 _ _ _ ((hb1.block _ (heap_lt H1.out)).trans H1.out); have y2 := cell_of_row w1 _ 2 _ _ _ ((hb1.block _ (heap_lt H1.out)).trans H1.out))
        | (go_at_call 49; refine (HC.out _).mono ?_; rintro e w' ⟨rfl, rfl⟩)
        | (go_at_call 52; refine (sBel12 a u q t _ ht0 (by omega)).mono ?_; rintro e w2 ⟨rfl, hb2⟩))
      go_ret2
      exact ⟨rfl, below_more (below_more HB.out hb1) hb2⟩
end Go.Proofs.Ythmnenejfonfgaa
