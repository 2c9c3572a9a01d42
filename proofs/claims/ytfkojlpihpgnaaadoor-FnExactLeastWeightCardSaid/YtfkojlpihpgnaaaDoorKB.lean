/-
  K2: The model of chapter 3: GoodCode, WordFor, BitsFrom, ChecksOf.
  K3: The model of chapter 3: WordFor, BitsFrom, ChecksOf.
  K4: The model of chapter 3: all words of a code.
  K5: The model of chapter 3: LeastWeight, Nearest, SyndromeOf.
  K6: The model of chapter 3: Nearest, SyndromeOf.
  K7: The model of chapter 3: SyndromeOf, DualOf.
  K8: The model of chapter 3: DualOf.
-/
import Derived.Test.YtfkojlpihpgnaaaDoorK1
import Derived.Test.YtfkojlpihpgnaaaDoorY0
import Derived.Deep.RegionHeld3
import Derived.Deep.AppendLies
import Derived.Laws.ResultCell

/- K2 -/
namespace Go.Proofs.YtfkojlpihpgnaaaDoor
open Go.RowKit

theorem below_alloc1 (w : World) (a : Obj) : Below w.heap.size w (w.alloc a) := (Below.refl _ w).alloc (Nat.le_refl _) _
theorem inB_yes {n lo hi : Int} (h1 : lo ≤ n) (h2 : n ≤ hi) : inB n lo hi = true := by simp [inB, h1, h2]
theorem inB_no {n lo hi : Int} (h : n < lo ∨ hi < n) : inB n lo hi = false := by
  rcases h with h | h <;> simp [inB] <;> omega

set_option maxRecDepth 100000 in
set_option maxHeartbeats 1000000 in
theorem sCode_any (x : Int) (A : Option Addr) (zs : List Int) (ca : Nat) (w : World) (ha : Ints w A zs) (hl : zs.length ≤ 1048576) :
    Calls Tryd.prog 32 #[codeV x (.slice A zs.length ca)] w fun e w' => e = .returned (.bool (codeB x zs)) ∧ Below w.heap.size w w' := by
  have HA := Lib.hid ha
  clear ha
  by_cases h1 : 1 ≤ x ∧ x ≤ 10
  · have hi1 := inB_yes h1.1 h1.2
    by_cases h2 : 1 ≤ zs.length ∧ (zs.length : Int) ≤ x
    · have hi2 : inB (zs.length : Int) 1 x = true := inB_yes (by omega) h2.2
      cases h3 : rowsB x zs
      · have HC : Hid (codeB x zs = false) := by show _ = _; simp [codeB, h3]
        go_enter Tryd.func32, Tryd.ntmps32
        go_wp2_with (first
          | (go_at_call 82; refine (l1In_any _ _ _ _).mono ?_; rintro e w' ⟨rfl, rfl⟩)
          | (go_at_call 65; refine (sRows _ _ _ _ _ (HA.out.alloc1 _) hl).mono ?_; rintro e w' ⟨rfl, rfl⟩))
        go_ret
        exact ⟨ret_bool' HC.out.symm, below_alloc1 _ _⟩
      · have HC : Hid (codeB x zs = decide ((stepsI x zs).length = zs.length)) := by show _ = _; simp [codeB, h3, h1, h2]
        obtain ⟨m, R, rfl, rfl, hm1, hm2, hRl, hR⟩ := rows_nat h3
        have HR := Lib.hid (lt16s hm2 hR)
        rw [stepsI_ok h3, zI_length, zI_length] at HC
        rw [zI_length] at hi2 ⊢
        have hr := sRows (m : Int) A (zI R) ca (w.alloc (.cells #[.int .i64 m, .slice A R.length ca] 40)) (HA.out.alloc1 _) hl
        rw [zI_length, h3] at hr
        clear hR h3 h1 h2
        go_enter Tryd.func32, Tryd.ntmps32
        go_wp2_with (first
          | (go_at_call 82; refine (l1In_any _ _ _ _).mono ?_; rintro e w' ⟨rfl, rfl⟩)
          | (go_at_call 65; refine hr.mono ?_; rintro e w' ⟨rfl, rfl⟩))
        have HI := Lib.hid (HA.out.alloc1 (.cells #[.int .i64 m, .slice A R.length ca] 40))
        have HB := Lib.hid (below_alloc1 w (.cells #[.int .i64 m, .slice A R.length ca] 40))
        have hcell : (w.alloc (.cells #[.int .i64 m, .slice A R.length ca] 40)).cell? ⟨w.heap.size, 1, none⟩ = some (.slice A R.length ca) := cell_of_row _ _ 1 _ _ _ (heap_alloc_new _ _)
        clear hr HA
        generalize hW : w.alloc (.cells #[.int .i64 m, .slice A R.length ca] 40) = W0 at *
        have hlt : w.heap.size < W0.heap.size := by rw [← hW]; simp
        clear hW
        generalize hg : w.heap.size = g at *
        go_region_held3 (fun w' => w'.cell? ⟨g, 1, none⟩ = some (.slice A R.length ca)) (first | exact hcell | exact hk | go_keep) (first
          | (go_at_call 83; refine (sSteps A R ca _ (HI.out.below (below_drewN' 1)) (by omega) HR.out).mono ?_; rintro e w1 ⟨v, rfl, ho, hb⟩; obtain ⟨A2, c2, rfl, _⟩ := ho.form; have hk : w1.cell? ⟨g, 1, none⟩ = some (.slice A R.length ca) := (hb.cell hlt).trans hcell; rw [zI_length]))
        go_wp2_with fail
        go_ret
        refine ⟨ret_bool' ?_, ?_⟩
        · rw [HC.out, Bool.eq_iff_iff]; simp; omega
        · subst hg; exact below_more HB.out (below_more (below_drewN' 1) hb)
    · have hi2 : inB (zs.length : Int) 1 x = false := inB_no (by omega)
      have HC : Hid (codeB x zs = false) := by
        show _ = _
        cases hc : codeB x zs
        · rfl
        · have := code_true hc; exact absurd ⟨this.2.2.1, this.2.2.2.1⟩ h2
      go_enter Tryd.func32, Tryd.ntmps32
      go_wp2_with (go_at_call 82; refine (l1In_any _ _ _ _).mono ?_; rintro e w' ⟨rfl, rfl⟩)
      go_ret
      exact ⟨ret_bool' HC.out.symm, below_alloc1 _ _⟩
  · have hi1 : inB x 1 10 = false := inB_no (by omega)
    have HC : Hid (codeB x zs = false) := by
      show _ = _
      cases hc : codeB x zs
      · rfl
      · have := code_true hc; exact absurd ⟨this.1, this.2.1⟩ h1
    go_enter Tryd.func32, Tryd.ntmps32
    go_wp2_with (go_at_call 82; refine (l1In_any _ _ _ _).mono ?_; rintro e w' ⟨rfl, rfl⟩)
    go_ret
    exact ⟨ret_bool' HC.out.symm, below_alloc1 _ _⟩
end Go.Proofs.YtfkojlpihpgnaaaDoor

/- K3 -/
namespace Go.Proofs.YtfkojlpihpgnaaaDoor
open Go.RowKit

theorem bitsL_idx (n : Nat) : ∀ k, bitsL k n = zI (idxL n k)
  | 0 => rfl
  | k + 1 => by
    have ih := bitsL_idx n k
    rw [idxL_succ]
    by_cases h : n / 2 ^ k % 2 = 1
    · rw [bitsL_yes h, if_pos (by rw [Nat.testBit_eq_decide_div_mod_eq, h]; rfl), ih]; simp [zI]
    · rw [bitsL_no (by omega), if_neg (by rw [Nat.testBit_eq_decide_div_mod_eq]; simpa using h), ih, List.append_nil]
theorem word_sum (R : List Nat) (n : Nat) : sumL (zI R) (bitsL R.length n) = wordN R n := by rw [bitsL_idx, sumL_idx]; rfl
theorem row_idx {m k : Nat} (h : m < 2 ^ k) : rowL (zI (idxL m k)) = m := by rw [← bitsL_idx, rowL_bits, Nat.mod_eq_of_lt h]
theorem Ints.drew1 {w : World} {A : Option Addr} {zs : List Int} (h : Ints w A zs) : Ints w.drew A zs := h.below (below_drewN' 1)
theorem below_drew1 {w : World} : Below w.heap.size w w.drew := below_drewN' 1
/-- A code in its box. -/
theorem box_code {w w1 : World} {x : Int} {v : Value} (hb : Below (w.alloc (.cells #[.int .i64 x, v] 40)).heap.size (w.alloc (.cells #[.int .i64 x, v] 40)) w1) :
    w1.cell? ⟨w.heap.size, 0, none⟩ = some (.int .i64 x) ∧ w1.cell? ⟨w.heap.size, 1, none⟩ = some v ∧ w.heap.size < w1.heap.size ∧ Below w.heap.size w w1 := by
  have hlt : w.heap.size < (w.alloc (.cells #[.int .i64 x, v] 40)).heap.size := by simp
  exact ⟨(hb.cell (p := ⟨w.heap.size, 0, none⟩) hlt).trans (cell_of_row _ _ 0 _ _ _ (heap_alloc_new _ _)), (hb.cell (p := ⟨w.heap.size, 1, none⟩) hlt).trans (cell_of_row _ _ 1 _ _ _ (heap_alloc_new _ _)), Nat.lt_of_lt_of_le hlt hb.size, below_more (below_alloc1 _ _) hb⟩

theorem tupI {a b : Int} {c d : Bool} (h : a = b) (k : c = d) : Ending.returned (.tuple #[.int .i64 a, .bool c]) = .returned (.tuple #[.int .i64 b, .bool d]) := by rw [h, k]

set_option maxRecDepth 100000 in
set_option maxHeartbeats 1000000 in
theorem sWord_any (x : Int) (A : Option Addr) (zs : List Int) (ca : Nat) (y : Int) (w : World) (ha : Ints w A zs) (hl : zs.length ≤ 1048576) :
    Calls Tryd.prog 42 #[codeV x (.slice A zs.length ca), .int .i64 y] w fun e w' => e = .returned (.tuple #[.int .i64 (wordI x zs y), .bool (wordOkB x zs y)]) ∧ Below w.heap.size w w' := by
  have HA := Lib.hid ha
  clear ha
  cases hc : codeB x zs
  · have HE : Hid (wordOkB x zs y = false) := by show _ = _; rw [wordOkB, hc]; rfl
    go_enter Tryd.func42, Tryd.ntmps42
    go_wp2_with fail
    refine (sCode_any x A zs ca _ (HA.out.alloc1 _) hl).mono ?_
    rintro e w1 ⟨rfl, hb1⟩
    obtain ⟨hk0, hk1, hlt, hbl⟩ := box_code hb1
    go_wp2_with fail
    go_ret2
    exact ⟨tupI (by rw [wordI, HE.out]; rfl) HE.out.symm, hbl⟩
  · cases hg : goodB zs.length y
    · have HE : Hid (wordOkB x zs y = false) := by show _ = _; rw [wordOkB, hg]; simp
      go_enter Tryd.func42, Tryd.ntmps42
      go_wp2_with fail
      refine (sCode_any x A zs ca _ (HA.out.alloc1 _) hl).mono ?_
      rintro e w1 ⟨rfl, hb1⟩
      obtain ⟨hk0, hk1, hlt, hbl⟩ := box_code hb1
      go_wp2_with (go_at_call 66; refine (sGood_any _ _ _).mono ?_; rintro e w' ⟨rfl, rfl⟩)
      go_ret2
      exact ⟨tupI (by rw [wordI, HE.out]; rfl) HE.out.symm, hbl⟩
    · have HE : Hid (wordOkB x zs y = true) := by show _ = _; rw [wordOkB, hc, hg]; rfl
      obtain ⟨m, R, rfl, rfl, hm1, hm2, hl1, hl2, hR, hr, h5⟩ := code_nat hc
      rw [zI_length] at hg
      obtain ⟨n, rfl, hn⟩ := good_lt hg
      have HW := Lib.hid (wordI_ok HE.out)
      have HC := Lib.hid (sCode_any m A (zI R) ca _ (HA.out.alloc1 (.cells #[.int .i64 m, .slice A (zI R).length ca] 40)) hl)
      rw [hc, zI_length] at HC
      have HRi := Lib.hid (rowsB_in h5).2
      have HRs : Hid (risB 0 (zI R).length (bitsL R.length n) = true) := by show _ = _; rw [zI_length]; exact bitsL_rise _ _ 0 (Int.le_refl _)
      have HSum := Lib.hid (fun (w : World) (B : Option Addr) (cb : Nat) (h : Ints w A (zI R)) (h2 : Ints w B (bitsL R.length n)) => sSum A B (zI R) (bitsL R.length n) ca cb w h h2 (by rw [bitsL_len]; have := cnt_le R.length n; omega) HRi.out HRs.out)
      rw [zI_length, word_sum] at HSum
      rw [zI_length]
      clear hR hr h5 hc
      go_enter Tryd.func42, Tryd.ntmps42
      go_wp2_with fail
      refine HC.out.mono ?_
      rintro e w1 ⟨rfl, hb1⟩
      obtain ⟨hk0, hk1, hlt, hbl⟩ := box_code hb1
      have HI := Lib.hid ((HA.out.alloc1 _).below hb1).drew1
      have HBl := Lib.hid hbl
      clear hb1 HA HC hbl
      go_wp2_with (go_at_call 66; refine (sGood_any _ _ _).mono ?_; rintro e w' ⟨rfl, rfl⟩)
      generalize hgg : w.heap.size = g at *
      go_region_held3 (fun w' => w'.cell? ⟨g, 1, none⟩ = some (.slice A R.length ca)) (first | exact hk1 | exact hk2) (first
        | (go_at_call 92; refine (sBits R.length n _ (by omega) hn).mono ?_; rintro e w2 ⟨v2, rfl, ho2, hb2⟩; obtain ⟨B2, c2, rfl, hI2⟩ := ho2.form; have hk2 : w2.cell? ⟨g, 1, none⟩ = some (.slice A R.length ca) := (hb2.cell hlt).trans hk1)
        | (go_at_call 91; refine (HSum.out w2 B2 c2 (HI.out.below hb2) hI2).mono ?_; rintro e w' ⟨rfl, rfl⟩))
      go_wp2_with fail
      go_ret2
      subst hgg
      exact ⟨tupI HW.out.symm HE.out.symm, below_more HBl.out (below_more below_drew1 hb2)⟩

theorem make_row {x : Int} {zs : List Int} {y : Int} (h : bitsOkB x zs y = true) : rowOkB zs.length (makeI x zs y) = true ∧ rowI zs.length (makeI x zs y) = bitsFI x zs y := by
  obtain ⟨hc, hy⟩ := and_true' h
  obtain ⟨m, R, rfl, rfl, hm1, hm2, hl1, hl2, hR, hr, h5⟩ := code_nat hc
  obtain ⟨n, rfl, hn⟩ := good_lt (twoOk_true (can_two hy)).2
  have hcan : canB R n = true := by
    have := hy
    rw [canI, nL_zI, Int.toNat_natCast] at this
    exact (and_true' this).2
  obtain ⟨h1, _⟩ := sp_word ((canB_iff R n).1 hcan)
  rw [makeI_ok hy, bitsFI_ok h, zI_length]
  have hok : rowOkB (R.length : Int) (zI (idxL (mkM R R.length n) R.length)) = true := by
    rw [rowOkB, wideB_true (by omega) (by omega), idxL_rise _ _ _ (Nat.le_refl _)]; rfl
  refine ⟨hok, ?_⟩
  rw [rowI, if_pos hok, row_idx h1]

set_option maxRecDepth 100000 in
set_option maxHeartbeats 1000000 in
theorem sBitsFrom_any (x : Int) (A : Option Addr) (zs : List Int) (ca : Nat) (y : Int) (w : World) (ha : Ints w A zs) (hl : zs.length ≤ 1048576) (hcap : zs.length ≤ ca) :
    Calls Tryd.prog 30 #[codeV x (.slice A zs.length ca), .int .i64 y] w fun e w' => e = .returned (.tuple #[.int .i64 (bitsFI x zs y), .bool (bitsOkB x zs y)]) ∧ Below w.heap.size w w' := by
  have HA := Lib.hid ha
  clear ha
  cases hc : codeB x zs
  · have HE : Hid (bitsOkB x zs y = false) := by show _ = _; rw [bitsOkB, hc]; rfl
    go_enter Tryd.func30, Tryd.ntmps30
    go_wp2_with fail
    refine (sCode_any x A zs ca _ (HA.out.alloc1 _) hl).mono ?_
    rintro e w1 ⟨rfl, hb1⟩
    obtain ⟨hk0, hk1, hlt, hbl⟩ := box_code hb1
    go_wp2_with fail
    go_ret2
    exact ⟨tupI (by rw [bitsFI, HE.out]; rfl) HE.out.symm, hbl⟩
  · have HMl := Lib.hid (makeI_len x zs y)
    cases hy : canI x zs y
    · have HE : Hid (bitsOkB x zs y = false) := by show _ = _; rw [bitsOkB, hy]; simp
      go_enter Tryd.func30, Tryd.ntmps30
      go_wp2_with fail
      refine (sCode_any x A zs ca _ (HA.out.alloc1 _) hl).mono ?_
      rintro e w1 ⟨rfl, hb1⟩
      obtain ⟨hk0, hk1, hlt, hbl⟩ := box_code hb1
      have HI := Lib.hid ((HA.out.alloc1 _).below hb1)
      have HBl := Lib.hid hbl
      clear hb1 hbl
      go_wp2_with fail
      refine (sMake_any x A zs ca y _ HI.out hl hcap).mono ?_
      rintro e w2 ⟨v2, rfl, ho2, hb2⟩
      obtain ⟨A2, c2, rfl, hI2⟩ := ho2.form
      go_wp2_with fail
      go_ret2
      exact ⟨tupI (by rw [bitsFI, HE.out]; rfl) HE.out.symm, below_more HBl.out hb2⟩
    · have HE : Hid (bitsOkB x zs y = true) := by show _ = _; rw [bitsOkB, hc, hy]; rfl
      obtain ⟨hm1, hm2⟩ := make_row HE.out
      have HR := Lib.hid (fun (w : World) (A : Option Addr) (c : Nat) (h : Ints w A (makeI x zs y)) => sRow_any zs.length A (makeI x zs y) c w h (by have := HMl.out; omega))
      rw [hm1, hm2] at HR
      clear hm1 hm2
      generalize hV : makeI x zs y = V at *
      go_enter Tryd.func30, Tryd.ntmps30
      go_wp2_with fail
      refine (sCode_any x A zs ca _ (HA.out.alloc1 _) hl).mono ?_
      rintro e w1 ⟨rfl, hb1⟩
      obtain ⟨hk0, hk1, hlt, hbl⟩ := box_code hb1
      have HI := Lib.hid ((HA.out.alloc1 _).below hb1)
      have HBl := Lib.hid hbl
      clear hb1 hbl
      go_wp2_with fail
      refine (sMake_any x A zs ca y _ HI.out hl hcap).mono ?_
      rintro e w2 ⟨v2, rfl, ho2, hb2⟩
      rw [hV] at ho2
      obtain ⟨A2, c2, rfl, hI2⟩ := ho2.form
      have hk3 : w2.cell? ⟨w.heap.size, 1, none⟩ = some (.slice A zs.length ca) := (hb2.cell hlt).trans hk1
      have HI2 := Lib.hid hI2
      have HB2 := Lib.hid (below_more HBl.out hb2)
      clear hI2 ho2 hb2 hV
      go_wp2_with fail
      refine (HR.out _ A2 c2 HI2.out).mono ?_
      rintro e w3 ⟨rfl, rfl⟩
      go_wp2_with fail
      go_ret2
      exact ⟨tupI rfl HE.out.symm, HB2.out⟩

set_option maxRecDepth 100000 in
set_option maxHeartbeats 1000000 in
theorem sChecks_any (x : Int) (A : Option Addr) (zs : List Int) (ca : Nat) (w : World) (ha : Ints w A zs) (hl : zs.length ≤ 1048576) :
    Calls Tryd.prog 38 #[codeV x (.slice A zs.length ca)] w fun e w' => ∃ v, e = .returned (.tuple #[v, .bool (codeB x zs)]) ∧ Own w' w.heap.size v (checksI x zs) ∧ Below w.heap.size w w' := by
  have HA := Lib.hid ha
  clear ha
  cases hc : codeB x zs
  · have HE : Hid (checksI x zs = []) := by show _ = _; rw [checksI, hc]; rfl
    go_enter Tryd.func38, Tryd.ntmps38
    go_wp2_with fail
    refine (sCode_any x A zs ca _ (HA.out.alloc1 _) hl).mono ?_
    rintro e w1 ⟨rfl, hb1⟩
    obtain ⟨hk0, hk1, hlt, hbl⟩ := box_code hb1
    go_wp2_with fail
    go_ret2
    exact ⟨_, rfl, by rw [HE.out]; exact Own.nil _ _, hbl⟩
  · obtain ⟨m, R, rfl, rfl, hm1, hm2, hl1, hl2, hR, hr, h5⟩ := code_nat hc
    have HE : Hid (checksI m (zI R) = zI (nullL m R)) := by show _ = _; rw [checksI, if_pos hc, nullI_ok h5]
    have HR := Lib.hid hR
    have HC := Lib.hid (sCode_any m A (zI R) ca _ (HA.out.alloc1 (.cells #[.int .i64 m, .slice A (zI R).length ca] 40)) hl)
    rw [hc, zI_length] at HC
    rw [zI_length]
    clear hR hr h5 hc
    go_enter Tryd.func38, Tryd.ntmps38
    go_wp2_with fail
    refine HC.out.mono ?_
    rintro e w1 ⟨rfl, hb1⟩
    obtain ⟨hk0, hk1, hlt, hbl⟩ := box_code hb1
    have HI := Lib.hid ((HA.out.alloc1 _).below hb1)
    have HBl := Lib.hid hbl
    clear hb1 HA HC hbl
    go_wp2_with fail
    refine (sNull m A R ca _ HI.out (by omega) (by omega) HR.out).mono ?_
    rintro e w2 ⟨v2, rfl, ho2, hb2⟩
    obtain ⟨A2, c2, rfl, _⟩ := ho2.form
    go_wp2_with fail
    go_ret2
    exact ⟨_, rfl, by rw [HE.out]; exact ho2.lower HBl.out.size, below_more HBl.out hb2⟩
end Go.Proofs.YtfkojlpihpgnaaaDoor

/- K4 -/
namespace Go.Proofs.YtfkojlpihpgnaaaDoor
open Go.RowKit

/-- One number appended to a slice of the call's own, at a step of a region that draws its order. -/
theorem step_app {ops : Array Oper} {o : Oper} {a : Act} {K : Act → World → Prop} {Q : Exit → Act → World → Prop} {E : Prop} (W : World) (base : Nat) (v : Value) (l : List Nat) (z : Nat) (hgd : o.guard = none) (s x : Operand)
    (ho : o.op = .call { callee := .builtin .append, args := #[s, x], argTypes := #[23, 23] }) (hs : a.eval s = v) (hx : a.eval x = .slice (some ⟨W.heap.size, 0, none⟩) 1 1)
    (hown : Own W base v (zI l)) (hbase : base ≤ W.heap.size) (hlen : l.length ≤ 1000000) (w0 : World) (hb : Below base w0 W)
    (h : ∀ v' w', Hid (Own w' base v' (zI (l ++ [z])) ∧ Below base w0 w' ∧ (W.alloc (.cells #[.int .i64 z] 3)).grownBy w' v.ownBlock) → K (a.put o.dst v') w') :
    if Region.wanted o (yielded ops a.tmps) = true then Oper.wp Tryd.prog o a (W.alloc (.cells #[.int .i64 z] 3)) K Q else E := by
  obtain ⟨i0, hi, hz0, hz1, hz2⟩ := info_parts intInfo
  refine step_append_lies (w := W.alloc (.cells #[.int .i64 z] 3)) hgd s x 23 ho base 3 i0 (.int .i64 0) 1 8 Tryd.underlying23 hi hz0 hz1 hz2 rfl (by decide) v l.length _ hs ((ownRow hown).alloc _) ⟨W.heap.size, 0, none⟩ 1 1 [.int .i64 z] hx rfl (cell_one_new _ _ _) ?_ (by decide) ?_ ?_ ?_ _ rfl ?_
  · intro u hu; simp at hu; subst hu; rfl
  · unfold maxLen; omega
  · omega
  · simp; omega
  · intro g cap w' h1 h2 _ _
    exact h _ w' ⟨ownApp h1, app_below hb hbase hown h2, h2⟩

def wordsL (R : List Nat) (k : Nat) : List Nat := (List.range k).map (wordN R)
theorem wordsL_succ (R : List Nat) (k : Nat) : wordsL R (k + 1) = wordsL R k ++ [wordN R k] := by simp [wordsL, List.range_succ]
theorem wordsL_length (R : List Nat) (k : Nat) : (wordsL R k).length = k := by simp [wordsL]

set_option maxRecDepth 100000 in
set_option maxHeartbeats 2000000 in
theorem sWords (m : Nat) (A : Option Addr) (R : List Nat) (ca : Nat) (w : World) (ha : Ints w A (zI R)) (hm : m ≤ 10) (hl : R.length ≤ m) (hR : ∀ r ∈ R, r < 2 ^ m) :
    Calls Tryd.prog 98 #[codeV m (.slice A R.length ca)] w fun e w' => ∃ v, e = .returned v ∧ Own w' w.heap.size v (zI (wordsL R (2 ^ R.length))) ∧ Below w.heap.size w w' := by
  have HI := Lib.hid (ha.alloc1 (.cells #[.int .i64 m, .slice A R.length ca] 40))
  have HB0 := Lib.hid (below_alloc1 w (.cells #[.int .i64 m, .slice A R.length ca] 40))
  have hcell : (w.alloc (.cells #[.int .i64 m, .slice A R.length ca] 40)).cell? ⟨w.heap.size, 1, none⟩ = some (.slice A R.length ca) := cell_of_row _ _ 1 _ _ _ (heap_alloc_new _ _)
  have HRi : Hid (∀ z ∈ zI R, 0 ≤ z ∧ z < 65536) := by
    intro z hz
    obtain ⟨r, hr, rfl⟩ := List.mem_map.1 hz
    have := lt16 (show m ≤ 16 by omega) (hR r hr)
    constructor
    · exact Int.natCast_nonneg _
    · show ((r : Nat) : Int) < 65536; omega
  have HSum := Lib.hid (fun (n : Nat) (w : World) (B : Option Addr) (cb : Nat) (h : Ints w A (zI R)) (h2 : Ints w B (bitsL R.length n)) => sSum A B (zI R) (bitsL R.length n) ca cb w h h2 (by rw [bitsL_len]; have := cnt_le R.length n; omega) HRi.out (by rw [zI_length]; exact bitsL_rise _ _ 0 (Int.le_refl _)))
  simp only [zI_length, word_sum] at HSum
  obtain ⟨hp1, hp2⟩ := pow20 R.length (by omega)
  have hP : ((2 ^ R.length : Nat) : Int) = (2 : Int) ^ R.length := by simp
  have hP2 : 2 ^ R.length ≤ 1048576 := by omega
  clear ha hR
  go_enter Tryd.func98, Tryd.ntmps98
  go_wp2_with fail
  generalize hW : w.alloc (.cells #[.int .i64 m, .slice A R.length ca] 40) = W0 at *
  have hlt : w.heap.size < W0.heap.size := by rw [← hW]; simp
  clear hW
  generalize hgg : w.heap.size = g at *
  go_loopg [3, 4] (2 ^ R.length) (fun gk v i wr => ∃ k : Nat, k + gk = 2 ^ R.length ∧ i = .int .i64 k ∧ Own wr W0.heap.size v (zI (wordsL R k)) ∧ Below W0.heap.size W0 wr)
  case atStart => exact ⟨0, by omega, rfl, Own.nil _ _, Below.refl _ _⟩
  case round =>
    obtain ⟨k, hg, rfl, hown, hbel⟩ := hrel
    have hk1 : wr.cell? ⟨g, 1, none⟩ = some (.slice A R.length ca) := (hbel.cell hlt).trans hcell
    have HOw := Lib.hid hown
    have HBl := Lib.hid hbel
    have hs := hbel.size
    have HIr := Lib.hid (HI.out.below hbel)
    clear hown hbel
    by_cases hlt2 : k < 2 ^ R.length
    · have hki : (k : Int) < (2 : Int) ^ R.length := by omega
      have HGK : Hid (2 ^ R.length - k - 1 < gk ∧ k + 1 + (2 ^ R.length - k - 1) = 2 ^ R.length) := by show _ ∧ _; omega
      have HWl := Lib.hid (wordsL_length R k)
      have hkl : k ≤ 1000000 := by
        have : 2 ^ R.length ≤ 2 ^ 10 := Nat.pow_le_pow_right (by decide) (by omega)
        omega
      have HX := Lib.hid (wordsL_succ R k)
      clear hg hP
      go_wp2_with fail
      go_region_held3 (fun w' => w'.cell? ⟨g, 1, none⟩ = some (.slice A R.length ca)) (first | exact hk1 | exact hk2 | exact hk3 | exact hk4) (first
        | (go_at_call 92; refine (sBits R.length k _ (by omega) hlt2).mono ?_; rintro e w2 ⟨v2, rfl, ho2, hb2⟩; obtain ⟨B2, c2, rfl, hI2⟩ := ho2.form; have hk2 : w2.cell? ⟨g, 1, none⟩ = some (.slice A R.length ca) := (hb2.cell (Nat.lt_of_lt_of_le hlt hs)).trans hk1)
        | (go_at_call 91; refine (HSum.out k w2 B2 c2 (HIr.out.drew1.below hb2) hI2).mono ?_; rintro e w' ⟨rfl, rfl⟩; have hk3 : (w2.alloc (.cells #[.int .i64 (wordN R k : Nat)] 3)).cell? ⟨g, 1, none⟩ = some (.slice A R.length ca) := ((below_alloc1 w2 _).cell (Nat.lt_of_lt_of_le (Nat.lt_of_lt_of_le hlt hs) hb2.size)).trans hk2)
        | (refine step_app w2 W0.heap.size _ (wordsL R k) (wordN R k) rfl _ _ rfl rfl rfl (HOw.out.below (below_more below_drew1 hb2)) (Nat.le_trans hs hb2.size) (by rw [HWl.out]; exact hkl) W0 (below_more HBl.out (below_more below_drew1 hb2)) ?_; intro v' w' H'; have hk4 : w'.cell? ⟨g, 1, none⟩ = some (.slice A R.length ca) := (H'.out.2.1.cell hlt).trans hcell))
      go_wp2_with fail
      go_roundg (2 ^ R.length - k - 1)
      case measure => exact HGK.out.1
      case rel => exact ⟨k + 1, HGK.out.2, by go_num, by rw [HX.out]; exact H'.out.1, H'.out.2.1⟩
    · obtain rfl : k = 2 ^ R.length := by omega
      have hki : ¬ (((2 ^ R.length : Nat) : Int) < (2 : Int) ^ R.length) := by rw [hP]; omega
      obtain ⟨A3, c3, rfl, _⟩ := HOw.out.form
      clear hP
      go_wp2_with fail
      go_ret
      subst hgg
      exact ⟨_, rfl, HOw.out.lower (Nat.le_of_lt hlt), below_more HB0.out HBl.out⟩
end Go.Proofs.YtfkojlpihpgnaaaDoor

/- K5 -/
namespace Go.Proofs.YtfkojlpihpgnaaaDoor
open Go.RowKit

set_option maxRecDepth 100000 in
set_option maxHeartbeats 400000 in
theorem sLeast (a b : Nat) (w : World) : Calls Tryd.prog 90 #[.int .i64 a, .int .i64 b] w fun e w' => e = .returned (.int .i64 (min a b : Nat)) ∧ w = w' := by
  by_cases h : (a : Int) < (b : Int)
  · go_enter Tryd.func90, Tryd.ntmps90
    go_wp2_with fail
    go_ret
    exact ⟨by rw [Nat.min_eq_left (by omega)]; rfl, rfl⟩
  · go_enter Tryd.func90, Tryd.ntmps90
    go_wp2_with fail
    go_ret
    exact ⟨by rw [Nat.min_eq_right (by omega)]; rfl, rfl⟩
theorem wordsL_at {R : List Nat} {k j : Nat} (h : j < (wordsL R k).length) : (wordsL R k)[j] = wordN R j := by simp [wordsL]

set_option maxRecDepth 100000 in
set_option maxHeartbeats 2000000 in
theorem sLeastW_any (x : Int) (A : Option Addr) (zs : List Int) (ca : Nat) (w : World) (ha : Ints w A zs) (hl : zs.length ≤ 1048576) :
    Calls Tryd.prog 50 #[codeV x (.slice A zs.length ca)] w fun e w' => e = .returned (.tuple #[.int .i64 (leastI x zs), .bool (codeB x zs)]) ∧ Below w.heap.size w w' := by
  have HA := Lib.hid ha
  clear ha
  cases hc : codeB x zs
  · have HE : Hid (leastI x zs = 0) := by show _ = _; rw [leastI, hc]; rfl
    go_enter Tryd.func50, Tryd.ntmps50
    go_wp2_with fail
    refine (sCode_any x A zs ca _ (HA.out.alloc1 _) hl).mono ?_
    rintro e w1 ⟨rfl, hb1⟩
    obtain ⟨hk0, hk1, hlt, hbl⟩ := box_code hb1
    go_wp2_with fail
    go_ret2
    exact ⟨tupI HE.out.symm rfl, hbl⟩
  · obtain ⟨m, R, rfl, rfl, hm1, hm2, hl1, hl2, hR, hr, h5⟩ := code_nat hc
    have HE := Lib.hid (leastI_ok hc)
    have HR := Lib.hid hR
    have HC := Lib.hid (sCode_any m A (zI R) ca _ (HA.out.alloc1 (.cells #[.int .i64 m, .slice A (zI R).length ca] 40)) hl)
    rw [hc, zI_length] at HC
    have HWt := Lib.hid (fun n => word_lt hR n)
    have hP2 : 2 ^ R.length ≤ 1024 := Nat.le_trans (Nat.pow_le_pow_right (n := 2) (by decide) (show R.length ≤ 10 by omega)) (by decide)
    rw [zI_length]
    clear hR hr h5 hc
    go_enter Tryd.func50, Tryd.ntmps50
    go_wp2_with fail
    refine HC.out.mono ?_
    rintro e w1 ⟨rfl, hb1⟩
    obtain ⟨hk0, hk1, hlt, hbl⟩ := box_code hb1
    have HI := Lib.hid ((HA.out.alloc1 _).below hb1)
    have HBl := Lib.hid hbl
    clear hb1 HA HC hbl
    go_wp2_with fail
    refine (sWords m A R ca _ HI.out (by omega) (by omega) HR.out).mono ?_
    rintro e w2 ⟨v2, rfl, ho2, hb2⟩
    obtain ⟨A2, c2, rfl, hI2⟩ := ho2.form
    have HI2 := Lib.hid hI2
    have HB2 := Lib.hid (below_more HBl.out hb2)
    rw [zI_length, wordsL_length]
    clear ho2 hb2 hI2 hk0 hk1 HI HBl
    generalize hN : 2 ^ R.length = N at *
    go_wp2_with fail
    go_loopg [4, 15] N (fun gk b i wr => ∃ k : Nat, k + gk = N ∧ i = .int .i64 k ∧ b = .int .i64 (leastK m R k : Nat) ∧ w2 = wr)
    case atStart => exact ⟨0, by omega, rfl, rfl, rfl⟩
    case round =>
      obtain ⟨k, hg, rfl, rfl, rfl⟩ := hrel
      by_cases hlt2 : k < N
      · have hki : (k : Int) < (N : Int) := by omega
        obtain ⟨b3, o3, rfl, hc3⟩ := HI2.out.cellN (j := k) (by rw [wordsL_length]; exact hlt2)
        rw [wordsL_at] at hc3
        have hwl := HWt.out k
        have HX : Hid (leastK m R (k + 1) = if wordN R k = 0 then leastK m R k else min (leastK m R k) (cnt m (wordN R k))) := rfl
        generalize wordN R k = v at *
        by_cases h0 : v = 0
        · rw [if_pos h0] at HX
          have hv : ¬ (0 : Int) < (v : Int) := by omega
          clear h0
          go_wp2_with fail
          go_roundg (N - k - 1)
          case measure => omega
          case rel => exact ⟨k + 1, by omega, by go_num, by rw [HX.out], rfl⟩
        · rw [if_neg h0] at HX
          have hv : (0 : Int) < (v : Int) := by omega
          go_wp2_with (first
            | (go_at_call 97; refine (sWeight m v _ (by omega) hwl).mono ?_; rintro e w' ⟨rfl, rfl⟩)
            | (go_at_call 90; refine (sLeast _ _ _).mono ?_; rintro e w' ⟨rfl, rfl⟩))
          go_roundg (N - k - 1)
          case measure => omega
          case rel => exact ⟨k + 1, by omega, by go_num, by rw [HX.out], rfl⟩
      · obtain rfl : k = N := by omega
        go_wp2_with fail
        go_ret2
        exact ⟨tupI (by rw [HE.out]) rfl, HB2.out⟩
end Go.Proofs.YtfkojlpihpgnaaaDoor

/- K6 -/
namespace Go.Proofs.YtfkojlpihpgnaaaDoor
open Go.RowKit

theorem tup3 {a b a' b' : Int} {c d : Bool} (h : a = b) (h' : a' = b') (k : c = d) : Ending.returned (.tuple #[.int .i64 a, .int .i64 a', .bool c]) = .returned (.tuple #[.int .i64 b, .int .i64 b', .bool d]) := by rw [h, h', k]

set_option maxRecDepth 100000 in
set_option maxHeartbeats 2000000 in
theorem sNear_any (x : Int) (A : Option Addr) (zs : List Int) (ca : Nat) (y : Int) (w : World) (ha : Ints w A zs) (hl : zs.length ≤ 1048576) :
    Calls Tryd.prog 48 #[codeV x (.slice A zs.length ca), .int .i64 y] w fun e w' => e = .returned (.tuple #[.int .i64 (nearI x zs y), .int .i64 (farI x zs y), .bool (synOkB x zs y)]) ∧ Below w.heap.size w w' := by
  have HA := Lib.hid ha
  clear ha
  cases hc : codeB x zs
  · have HE : Hid (synOkB x zs y = false) := by show _ = _; rw [synOkB, hc]; rfl
    go_enter Tryd.func48, Tryd.ntmps48
    go_wp2_with fail
    refine (sCode_any x A zs ca _ (HA.out.alloc1 _) hl).mono ?_
    rintro e w1 ⟨rfl, hb1⟩
    obtain ⟨hk0, hk1, hlt, hbl⟩ := box_code hb1
    go_wp2_with fail
    go_ret3
    exact ⟨tup3 (by rw [nearI, HE.out]; rfl) (by rw [farI, HE.out]; rfl) HE.out.symm, hbl⟩
  · cases hg : goodB x y
    · have HE : Hid (synOkB x zs y = false) := by show _ = _; rw [synOkB, hg]; simp
      go_enter Tryd.func48, Tryd.ntmps48
      go_wp2_with fail
      refine (sCode_any x A zs ca _ (HA.out.alloc1 _) hl).mono ?_
      rintro e w1 ⟨rfl, hb1⟩
      obtain ⟨hk0, hk1, hlt, hbl⟩ := box_code hb1
      go_wp2_with (go_at_call 66; refine (sGood_any _ _ _).mono ?_; rintro e w' ⟨rfl, rfl⟩)
      go_ret3
      exact ⟨tup3 (by rw [nearI, HE.out]; rfl) (by rw [farI, HE.out]; rfl) HE.out.symm, hbl⟩
    · have HE : Hid (synOkB x zs y = true) := by show _ = _; rw [synOkB, hc, hg]; rfl
      obtain ⟨m, R, rfl, rfl, hm1, hm2, hl1, hl2, hR, hr, h5⟩ := code_nat hc
      obtain ⟨n, rfl, hn⟩ := good_lt hg
      have HN := Lib.hid (nearI_ok HE.out)
      have HR := Lib.hid hR
      have HC := Lib.hid (sCode_any m A (zI R) ca _ (HA.out.alloc1 (.cells #[.int .i64 m, .slice A (zI R).length ca] 40)) hl)
      rw [hc, zI_length] at HC
      have HWt := Lib.hid (fun n => word_lt hR n)
      have hP2 : 2 ^ R.length ≤ 1024 := Nat.le_trans (Nat.pow_le_pow_right (n := 2) (by decide) (show R.length ≤ 10 by omega)) (by decide)
      have hn16 := lt16 (show m ≤ 16 by omega) hn
      rw [zI_length]
      clear hR hr h5 hc
      go_enter Tryd.func48, Tryd.ntmps48
      go_wp2_with fail
      refine HC.out.mono ?_
      rintro e w1 ⟨rfl, hb1⟩
      obtain ⟨hk0, hk1, hlt, hbl⟩ := box_code hb1
      have HI := Lib.hid ((HA.out.alloc1 _).below hb1)
      have HBl := Lib.hid hbl
      clear hb1 HA HC hbl
      go_wp2_with (first
        | (go_at_call 66; refine (sGood_any _ _ _).mono ?_; rintro e w' ⟨rfl, rfl⟩)
        | (go_at_call 97; refine (sWeight m n _ (by omega) hn).mono ?_; rintro e w' ⟨rfl, rfl⟩))
      refine (sWords m A R ca _ HI.out (by omega) (by omega) HR.out).mono ?_
      rintro e w2 ⟨v2, rfl, ho2, hb2⟩
      obtain ⟨A2, c2, rfl, hI2⟩ := ho2.form
      have HI2 := Lib.hid hI2
      have HB2 := Lib.hid (below_more HBl.out hb2)
      rw [zI_length, wordsL_length]
      clear ho2 hb2 hI2 hk0 hk1 HI HBl
      generalize hNN : 2 ^ R.length = N at *
      go_wp2_with fail
      go_loopg [7, 8, 27] N (fun gk b f i wr => ∃ k : Nat, k + gk = N ∧ i = .int .i64 k ∧ b = .int .i64 ((nearK m R n k).1 : Nat) ∧ f = .int .i64 ((nearK m R n k).2 : Nat) ∧ w2 = wr)
      case atStart => exact ⟨0, by omega, rfl, rfl, rfl, rfl⟩
      case round =>
        obtain ⟨k, hgk, rfl, rfl, rfl, rfl⟩ := hrel
        by_cases hlt2 : k < N
        · have hki : (k : Int) < (N : Int) := by omega
          obtain ⟨b3, o3, rfl, hc3⟩ := HI2.out.cellN (j := k) (by rw [wordsL_length]; exact hlt2)
          rw [wordsL_at] at hc3
          have hwl := HWt.out k
          have HX : Hid (nearK m R n (k + 1) = if cnt m (wordN R k ^^^ n) < (nearK m R n k).2 ∨ (cnt m (wordN R k ^^^ n) = (nearK m R n k).2 ∧ wordN R k < (nearK m R n k).1) then (wordN R k, cnt m (wordN R k ^^^ n)) else nearK m R n k) := rfl
          generalize wordN R k = v at *
          have hv16 := lt16 (show m ≤ 16 by omega) hwl
          have hxor := xor_i64 v n (by omega) (by omega)
          have hxl := xor_lt hwl hn
          generalize nearK m R n k = q at *
          obtain ⟨pb, pf⟩ := q
          dsimp only at *
          generalize hcc : cnt m (v ^^^ n) = c at *
          have HWe := Lib.hid (fun (w : World) => sWeight m (v ^^^ n) w (by omega) hxl)
          rw [hcc] at HWe
          clear hcc
          by_cases h1 : (c : Int) < (pf : Int)
          · rw [if_pos (Or.inl (by omega))] at HX
            go_wp2_with (go_at_call 97; refine (HWe.out _).mono ?_; rintro e w' ⟨rfl, rfl⟩)
            go_roundg (N - k - 1)
            case measure => omega
            case rel => exact ⟨k + 1, by omega, by go_num, by rw [HX.out], by rw [HX.out], rfl⟩
          · by_cases h2 : c = pf
            · subst h2
              have h2' : ((c : Int) == (c : Int)) = true := by simp
              by_cases h3 : (v : Int) < (pb : Int)
              · rw [if_pos (Or.inr ⟨rfl, by omega⟩)] at HX
                go_wp2_with (go_at_call 97; refine (HWe.out _).mono ?_; rintro e w' ⟨rfl, rfl⟩)
                go_roundg (N - k - 1)
                case measure => omega
                case rel => exact ⟨k + 1, by omega, by go_num, by rw [HX.out], by rw [HX.out], rfl⟩
              · rw [if_neg (by omega)] at HX
                go_wp2_with (go_at_call 97; refine (HWe.out _).mono ?_; rintro e w' ⟨rfl, rfl⟩)
                go_roundg (N - k - 1)
                case measure => omega
                case rel => exact ⟨k + 1, by omega, by go_num, by rw [HX.out], by rw [HX.out], rfl⟩
            · have h2' : ((c : Int) == (pf : Int)) = false := by simp; omega
              rw [if_neg (by omega)] at HX
              clear h2
              go_wp2_with (go_at_call 97; refine (HWe.out _).mono ?_; rintro e w' ⟨rfl, rfl⟩)
              go_roundg (N - k - 1)
              case measure => omega
              case rel => exact ⟨k + 1, by omega, by go_num, by rw [HX.out], by rw [HX.out], rfl⟩
        · obtain rfl : k = N := by omega
          go_wp2_with fail
          go_ret3
          exact ⟨tup3 HN.out.1.symm HN.out.2.symm HE.out.symm, HB2.out⟩
end Go.Proofs.YtfkojlpihpgnaaaDoor

/- K7 -/
namespace Go.Proofs.YtfkojlpihpgnaaaDoor
open Go.RowKit

theorem null_len16 {m : Nat} {R : List Nat} (h : ∀ r ∈ R, r < 2 ^ m) : (nullL m R).length ≤ m := by have := null_length h; omega

set_option maxRecDepth 100000 in
set_option maxHeartbeats 2000000 in
theorem sSyn_any (x : Int) (A : Option Addr) (zs : List Int) (ca : Nat) (y : Int) (w : World) (ha : Ints w A zs) (hl : zs.length ≤ 1048576) :
    Calls Tryd.prog 28 #[codeV x (.slice A zs.length ca), .int .i64 y] w fun e w' => e = .returned (.tuple #[.int .i64 (synI x zs y), .bool (synOkB x zs y)]) ∧ Below w.heap.size w w' := by
  have HA := Lib.hid ha
  clear ha
  cases hc : codeB x zs
  · have HE : Hid (synOkB x zs y = false) := by show _ = _; rw [synOkB, hc]; rfl
    go_enter Tryd.func28, Tryd.ntmps28
    go_wp2_with fail
    refine (sCode_any x A zs ca _ (HA.out.alloc1 _) hl).mono ?_
    rintro e w1 ⟨rfl, hb1⟩
    obtain ⟨hk0, hk1, hlt, hbl⟩ := box_code hb1
    go_wp2_with fail
    go_ret2
    exact ⟨tupI (by rw [synI, HE.out]; rfl) HE.out.symm, hbl⟩
  · cases hg : goodB x y
    · have HE : Hid (synOkB x zs y = false) := by show _ = _; rw [synOkB, hg]; simp
      go_enter Tryd.func28, Tryd.ntmps28
      go_wp2_with fail
      refine (sCode_any x A zs ca _ (HA.out.alloc1 _) hl).mono ?_
      rintro e w1 ⟨rfl, hb1⟩
      obtain ⟨hk0, hk1, hlt, hbl⟩ := box_code hb1
      go_wp2_with (go_at_call 66; refine (sGood_any _ _ _).mono ?_; rintro e w' ⟨rfl, rfl⟩)
      go_ret2
      exact ⟨tupI (by rw [synI, HE.out]; rfl) HE.out.symm, hbl⟩
    · have HE : Hid (synOkB x zs y = true) := by show _ = _; rw [synOkB, hc, hg]; rfl
      obtain ⟨m, R, rfl, rfl, hm1, hm2, hl1, hl2, hR, hr, h5⟩ := code_nat hc
      obtain ⟨n, rfl, hn⟩ := good_lt hg
      have HN := Lib.hid (synI_ok HE.out)
      have HR := Lib.hid hR
      have HC := Lib.hid (sCode_any m A (zI R) ca _ (HA.out.alloc1 (.cells #[.int .i64 m, .slice A (zI R).length ca] 40)) hl)
      rw [hc, zI_length] at HC
      have HNl := Lib.hid (null_lt hR)
      have hNl := null_len16 hR
      rw [zI_length]
      clear hR hr h5 hc
      go_enter Tryd.func28, Tryd.ntmps28
      go_wp2_with fail
      refine HC.out.mono ?_
      rintro e w1 ⟨rfl, hb1⟩
      obtain ⟨hk0, hk1, hlt, hbl⟩ := box_code hb1
      have HI := Lib.hid ((HA.out.alloc1 _).below hb1)
      have HBl := Lib.hid hbl
      clear hb1 HA HC hbl
      go_wp2_with (go_at_call 66; refine (sGood_any _ _ _).mono ?_; rintro e w' ⟨rfl, rfl⟩)
      refine (sNull m A R ca _ HI.out (by omega) (by omega) HR.out).mono ?_
      rintro e w2 ⟨v2, rfl, ho2, hb2⟩
      obtain ⟨A2, c2, rfl, hI2⟩ := ho2.form
      have HI2 := Lib.hid hI2
      have HB2 := Lib.hid (below_more HBl.out hb2)
      rw [zI_length]
      clear ho2 hb2 hI2 hk0 hk1 HI HBl HR
      generalize nullL m R = N at *
      go_wp2_with fail
      go_loopg [6, 25] N.length (fun gk o i wr => ∃ k : Nat, k + gk = N.length ∧ i = .int .i64 k ∧ o = .int .i64 (synK m n N k : Nat) ∧ w2 = wr)
      case atStart => exact ⟨0, by omega, rfl, rfl, rfl⟩
      case round =>
        obtain ⟨k, hgk, rfl, rfl, rfl⟩ := hrel
        by_cases hlt2 : k < N.length
        · have hki : (k : Int) < (N.length : Int) := by omega
          obtain ⟨b3, o3, rfl, hc3⟩ := HI2.out.cellN hlt2
          have hrl := HNl.out N[k] (List.getElem_mem hlt2)
          have HX : Hid (synK m n N (k + 1) = synK m n N k ||| (dotB m n N[k]).toNat * 2 ^ k) := by
            show _ = _
            rw [synK, show N.getD k 0 = N[k] by simp [List.getD, hlt2]]
          have hsl : synK m n N k < 65536 := Nat.lt_of_lt_of_le (synK_lt m n N k) (Nat.le_trans (Nat.pow_le_pow_right (n := 2) (by decide) (show k ≤ 16 by omega)) (by decide))
          generalize N[k] = r at *
          have HD := Lib.hid (fun (w : World) => sDot m n r w (by omega) hn hrl)
          have hdc := dotB_cnt m n r
          generalize synK m n N k = s at *
          obtain ⟨hp1, hp2⟩ := pow20 k (by omega)
          cases hd : dotB m n r
          · rw [hd] at HX hdc
            rw [hdc] at HD
            have HX' : Hid (synK m n N (k + 1) = s) := by show _ = _; rw [HX.out]; simp
            have hor : bits .or .i64 (s : Int) 0 = (s : Int) := by
              have := or_i64 s 0 (by omega) (by omega)
              simpa using this
            clear hd hdc HX
            go_wp2_with (go_at_call 79; refine (HD.out _).mono ?_; rintro e w' ⟨rfl, rfl⟩)
            go_roundg (N.length - k - 1)
            case measure => omega
            case rel => exact ⟨k + 1, by omega, by go_num, by rw [HX'.out], rfl⟩
          · rw [hd] at HX hdc
            rw [hdc] at HD
            have HX' : Hid (synK m n N (k + 1) = s ||| 2 ^ k) := by show _ = _; rw [HX.out]; simp
            have hor := or_pow_i64 s k hsl (by omega)
            clear hd hdc HX
            go_wp2_with (go_at_call 79; refine (HD.out _).mono ?_; rintro e w' ⟨rfl, rfl⟩)
            go_roundg (N.length - k - 1)
            case measure => omega
            case rel => exact ⟨k + 1, by omega, by go_num, by rw [HX'.out], rfl⟩
        · obtain rfl : k = N.length := by omega
          go_wp2_with fail
          go_ret2
          exact ⟨tupI HN.out.symm HE.out.symm, HB2.out⟩
end Go.Proofs.YtfkojlpihpgnaaaDoor

/- K8 -/
namespace Go.Proofs.YtfkojlpihpgnaaaDoor
open Go.RowKit

theorem ret_code2 {fn : Func} {p u : Tmp} (h : fn.results = #[.cell p 40, .tmp u]) {R : Ending → World → Prop} {a : Act} {w : World} (g : Nat) (x : Int) (v : Value) (b : Bool) (hp : a.tmps.getD p undef = .pointer (some ⟨g, 0, none⟩)) (hu : a.tmps.getD u undef = .bool b)
    (hg : w.heap[g]? = some (.cells #[.int .i64 x, v] 40 (0, 0))) (hd : a.defers = []) (hR : R (.returned (.tuple #[codeV x v, .bool b])) w) : bodyPost Tryd.prog fn R .ret a w := by
  have hp' : a.tmps[p]?.getD undef = .pointer (some ⟨g, 0, none⟩) := by simpa using hp
  have hu' : a.tmps[u]?.getD undef = .bool b := by simpa using hu
  refine bodyPost_ret (v := .tuple #[codeV x v, .bool b]) ?_ hd hR
  rw [results_cell_tmp h]
  simp [hp', hu', asAddr, run_loadVar_row w g 40 40 #[.int .i64 x, v] (0, 0) _ hg Tryd.underlying40 rfl infoCode]

theorem two_blocks {w w1 : World} {x : Int} {v : Value} (hb : Below ((w.alloc (.cells #[.int .i64 x, v] 40)).alloc (.cells #[.int .i64 0, .slice none 0 0] 40)).heap.size ((w.alloc (.cells #[.int .i64 x, v] 40)).alloc (.cells #[.int .i64 0, .slice none 0 0] 40)) w1) :
    w1.heap[w.heap.size]? = some (.cells #[.int .i64 x, v] 40 (0, 0)) ∧ w1.heap[w.heap.size + 1]? = some (.cells #[.int .i64 0, .slice none 0 0] 40 (0, 0)) ∧ w.heap.size + 1 < w1.heap.size ∧ Below w.heap.size w w1 := by
  have hs : ((w.alloc (.cells #[.int .i64 x, v] 40)).alloc (.cells #[.int .i64 0, .slice none 0 0] 40)).heap.size = w.heap.size + 2 := by simp
  refine ⟨?_, ?_, ?_, below_more (below_alloc2 _ _ _) hb⟩
  · rw [hb.block _ (by rw [hs]; omega), heap_alloc_old _ _ _ (by simp)]; exact heap_alloc_new _ _
  · rw [hb.block _ (by rw [hs]; omega), show w.heap.size + 1 = (w.alloc (.cells #[.int .i64 x, v] 40)).heap.size by simp]; exact heap_alloc_new _ _
  · have := hb.size; omega
theorem far2 {w : World} {b o g j : Nat} {u v c : Value} {o' : Nat} (h : w.cell? ⟨g, j, none⟩ = some c) (hne : b ≠ g) : ((w.setCell ⟨b, o, none⟩ u).setCell ⟨b, o', none⟩ v).cell? ⟨g, j, none⟩ = some c := by
  rw [World.cell?_setCell_far _ _ _ _ hne, World.cell?_setCell_far _ _ _ _ hne, h]
theorem tupC {x y : Int} {v : Value} {c d : Bool} (h : x = y) (k : c = d) : Ending.returned (.tuple #[codeV x v, .bool c]) = .returned (.tuple #[codeV y v, .bool d]) := by rw [h, k]

set_option maxRecDepth 100000 in
set_option maxHeartbeats 2000000 in
theorem sDual_any (x : Int) (A : Option Addr) (zs : List Int) (ca : Nat) (w : World) (ha : Ints w A zs) (hl : zs.length ≤ 1048576) :
    Calls Tryd.prog 36 #[codeV x (.slice A zs.length ca)] w fun e w' => ∃ v, e = .returned (.tuple #[codeV (dualX x zs) v, .bool (dualOkB x zs)]) ∧ Own w' w.heap.size v (dualI x zs) ∧ Below w.heap.size w w' := by
  have HA := Lib.hid ha
  clear ha
  cases hc : codeB x zs
  · have HE : Hid (dualOkB x zs = false) := by show _ = _; rw [dualOkB, hc]; rfl
    go_enter Tryd.func36, Tryd.ntmps36
    go_wp2_with fail
    refine (sCode_any x A zs ca _ (HA.out.alloc1 _ |>.alloc1 _) hl).mono ?_
    rintro e w1 ⟨rfl, hb1⟩
    obtain ⟨h1, h2, hlt, hbl⟩ := two_blocks hb1
    have hd0 : w1.cell? ⟨w.heap.size + 1, 0, none⟩ = some (.int .i64 0) := cell_of_row w1 _ 0 _ _ _ h2
    have hd1 : w1.cell? ⟨w.heap.size + 1, 1, none⟩ = some (.slice none 0 0) := cell_of_row w1 _ 1 _ _ _ h2
    have hg0 := frozen_of_row w1 _ 0 _ _ h2
    have hg1 := frozen_of_row w1 _ 1 _ _ h2
    have H2 := Lib.hid h2
    clear h1 h2 hb1
    go_wp2_with fail
    refine ret_code2 rfl (w.heap.size + 1) 0 (.slice none 0 0) false rfl rfl (heap_setCell_same _ _ 1 _ _ _ (heap_setCell_same _ _ 0 _ _ _ H2.out)) rfl ?_
    refine ⟨_, tupC (by rw [dualX, HE.out]; rfl) HE.out.symm, by rw [dualI, HE.out]; exact Own.nil _ _, ?_⟩
    exact (hbl.setCell (by show w.heap.size ≤ w.heap.size + 1; omega) _).setCell (by show w.heap.size ≤ w.heap.size + 1; omega) _
  · obtain ⟨m, R, rfl, rfl, hm1, hm2, hl1, hl2, hR, hr, h5⟩ := code_nat hc
    have HNe : Hid (nullI m (zI R) = zI (nullL m R)) := nullI_ok h5
    have HR := Lib.hid hR
    have HC := Lib.hid (sCode_any m A (zI R) ca _ ((HA.out.alloc1 (.cells #[.int .i64 m, .slice A (zI R).length ca] 40)).alloc1 (.cells #[.int .i64 0, .slice none 0 0] 40)) hl)
    rw [hc, zI_length] at HC
    have hNl := null_len16 hR
    have HDu : Hid (codeB m (zI (nullL m R)) = dualOkB m (zI R)) := by
      show _ = _
      cases hd : dualOkB m (zI R)
      · have := (dual_none hc hd).1; rwa [HNe.out] at this
      · have := (dual_code hd).1; rwa [HNe.out] at this
    rw [zI_length]
    clear hR hr h5 hc
    go_enter Tryd.func36, Tryd.ntmps36
    go_wp2_with fail
    refine HC.out.mono ?_
    rintro e w1 ⟨rfl, hb1⟩
    obtain ⟨h1, h2, hlt, hbl⟩ := two_blocks hb1
    have HI := Lib.hid ((HA.out.alloc1 _ |>.alloc1 _).below hb1)
    have hk0 : w1.cell? ⟨w.heap.size, 0, none⟩ = some (.int .i64 m) := cell_of_row w1 _ 0 _ _ _ h1
    have hk1 : w1.cell? ⟨w.heap.size, 1, none⟩ = some (.slice A R.length ca) := cell_of_row w1 _ 1 _ _ _ h1
    have H2 := Lib.hid h2
    have HBl := Lib.hid hbl
    clear h1 h2 hb1 hbl HA HC
    go_wp2_with fail
    generalize hgg : w.heap.size = g at *
    have hne : w1.heap.size ≠ g := by omega
    have hka0 : (w1.alloc (.cells #[.int .i64 0, .slice none 0 0] 40)).cell? ⟨g, 0, none⟩ = some (.int .i64 m) := ((below_alloc1 w1 _).cell (show g < w1.heap.size by omega)).trans hk0
    have hka1 : (w1.alloc (.cells #[.int .i64 0, .slice none 0 0] 40)).cell? ⟨g, 1, none⟩ = some (.slice A R.length ca) := ((below_alloc1 w1 _).cell (show g < w1.heap.size by omega)).trans hk1
    go_region_held3 (fun w' => w'.cell? ⟨g, 0, none⟩ = some (.int .i64 m) ∧ w'.cell? ⟨g, 1, none⟩ = some (.slice A R.length ca)) (first | exact ⟨hk0, hk1⟩ | exact ⟨hka0, hka1⟩ | exact ⟨hq0, hq1⟩ | exact ⟨(far2 hq0 hne), (far2 hq1 hne)⟩ | go_keep) (first
      | (go_at_call 78; refine (sNull m A R ca w1.drew HI.out.drew1 (by omega) (by omega) HR.out).mono ?_; rintro e w2 ⟨v2, rfl, ho2, hb2⟩; obtain ⟨A2, c2, rfl, hI2⟩ := ho2.form; rw [zI_length]; have hq0 : w2.cell? ⟨g, 0, none⟩ = some (.int .i64 m) := (hb2.cell (show g < w1.heap.size by omega)).trans hk0; have hq1 : w2.cell? ⟨g, 1, none⟩ = some (.slice A R.length ca) := (hb2.cell (show g < w1.heap.size by omega)).trans hk1)
      | (go_at_call 78; refine (sNull m A R ca (w1.alloc (.cells #[.int .i64 0, .slice none 0 0] 40)).drew (HI.out.alloc1 _).drew1 (by omega) (by omega) HR.out).mono ?_; rintro e w2 ⟨v2, rfl, ho2, hb2⟩; obtain ⟨A2, c2, rfl, hI2⟩ := ho2.form; rw [zI_length]; have hq0 : w2.cell? ⟨g, 0, none⟩ = some (.int .i64 m) := (hb2.cell (show g < (w1.alloc (.cells #[.int .i64 0, .slice none 0 0] 40)).heap.size by simp; omega)).trans hka0; have hq1 : w2.cell? ⟨g, 1, none⟩ = some (.slice A R.length ca) := (hb2.cell (show g < (w1.alloc (.cells #[.int .i64 0, .slice none 0 0] 40)).heap.size by simp; omega)).trans hka1; have hr4 : w2.heap[w1.heap.size]? = some (.cells #[.int .i64 0, .slice none 0 0] 40 (0, 0)) := (hb2.block _ (by simp)).trans (heap_alloc_new _ _); have hr0 : w2.cell? ⟨w1.heap.size, 0, none⟩ = some (.int .i64 0) := cell_of_row w2 _ 0 _ _ _ hr4; have hr1 : w2.cell? ⟨w1.heap.size, 1, none⟩ = some (.slice none 0 0) := cell_of_row w2 _ 1 _ _ _ hr4; have hf0 := frozen_of_row w2 _ 0 _ _ hr4; have hf1 := frozen_of_row w2 _ 1 _ _ hr4))
    · subst hgg
      have hbl2 := below_more HBl.out (below_more below_drew1 hb2)
      have hO4 := (ho2.below (below_alloc1 w2 (.cells #[.int .i64 m, .slice A2 (nullL m R).length c2] 40))).lower (base' := w1.heap.size) (Nat.le_refl _)
      have hI4 := hI2.alloc1 (.cells #[.int .i64 m, .slice A2 (nullL m R).length c2] 40)
      have hbl4 := below_more hbl2 (below_alloc1 w2 (.cells #[.int .i64 m, .slice A2 (nullL m R).length c2] 40))
      have h4 := heap_alloc_new w2 (.cells #[.int .i64 m, .slice A2 (nullL m R).length c2] 40)
      have h24 : (w2.alloc (.cells #[.int .i64 m, .slice A2 (nullL m R).length c2] 40)).heap[w.heap.size + 1]? = some (.cells #[.int .i64 0, .slice none 0 0] 40 (0, 0)) := by
        have hz := hb2.size
        have hz' : w1.drew.heap.size = w1.heap.size := rfl
        rw [heap_alloc_old _ _ _ (by omega), hb2.block _ hlt]; exact H2.out
      have hl4 : w2.heap.size < (w2.alloc (.cells #[.int .i64 m, .slice A2 (nullL m R).length c2] 40)).heap.size := by simp
      have hl2 : w.heap.size + 1 < (w2.alloc (.cells #[.int .i64 m, .slice A2 (nullL m R).length c2] 40)).heap.size := by
        have hz := hb2.size
        have hz' : w1.drew.heap.size = w1.heap.size := rfl
        simp; omega
      rw [zI_length] at hO4
      clear hq0 hq1 hka0 hka1 hk0 hk1 hne hb2 ho2 hI2 hbl2
      generalize w2.alloc (.cells #[.int .i64 m, .slice A2 (nullL m R).length c2] 40) = w4 at *
      generalize w2.heap.size = g4 at *
      have HC2 := Lib.hid (sCode_any m A2 (zI (nullL m R)) c2 w4 hI4 (by rw [zI_length]; omega))
      rw [zI_length, HDu.out] at HC2
      have Hb4 := Lib.hid hbl4
      have HO4 := Lib.hid hO4
      have H4 := Lib.hid h4
      have H24 := Lib.hid h24
      have hp0 : w4.cell? ⟨g4, 0, none⟩ = some (.int .i64 m) := cell_of_row w4 _ 0 _ _ _ h4
      have hp1 : w4.cell? ⟨g4, 1, none⟩ = some (.slice A2 (nullL m R).length c2) := cell_of_row w4 _ 1 _ _ _ h4
      have hge := hlt
      clear h4 h24 hbl4 hO4 hI4 hlt
      generalize hNN : nullL m R = N at *
      go_wp2_with fail
      refine HC2.out.mono ?_
      rintro e w5 ⟨rfl, hb5⟩
      have hs4 := HO4.out
      have h45 := (hb5.block _ hl4).trans H4.out
      have h25 := (hb5.block _ hl2).trans H24.out
      have hp0 : w5.cell? ⟨g4, 0, none⟩ = some (.int .i64 m) := cell_of_row w5 _ 0 _ _ _ h45
      have hp1 : w5.cell? ⟨g4, 1, none⟩ = some (.slice A2 N.length c2) := cell_of_row w5 _ 1 _ _ _ h45
      have hd0 : w5.cell? ⟨w.heap.size + 1, 0, none⟩ = some (.int .i64 0) := cell_of_row w5 _ 0 _ _ _ h25
      have hd1 : w5.cell? ⟨w.heap.size + 1, 1, none⟩ = some (.slice none 0 0) := cell_of_row w5 _ 1 _ _ _ h25
      have hg0 := frozen_of_row w5 _ 0 _ _ h25
      have hg1 := frozen_of_row w5 _ 1 _ _ h25
      have H25 := Lib.hid h25
      have HO5 := Lib.hid (HO4.out.below hb5)
      have HB5 := Lib.hid (below_more Hb4.out hb5)
      clear h45 h25 hb5 hs4
      cases hd : dualOkB m (zI R)
      · go_wp2_with fail
        refine ret_code2 rfl (w.heap.size + 1) 0 (.slice none 0 0) false rfl rfl (heap_setCell_same _ _ 1 _ _ _ (heap_setCell_same _ _ 0 _ _ _ H25.out)) rfl ?_
        refine ⟨_, tupC (by rw [dualX, hd]; rfl) hd.symm, by rw [dualI, hd]; exact Own.nil _ _, ?_⟩
        exact (HB5.out.setCell (by show w.heap.size ≤ w.heap.size + 1; omega) _).setCell (by show w.heap.size ≤ w.heap.size + 1; omega) _
      · go_wp2_with fail
        refine ret_code2 rfl (w.heap.size + 1) m (.slice A2 N.length c2) true rfl rfl (heap_setCell_same _ _ 1 _ _ _ (heap_setCell_same _ _ 0 _ _ _ H25.out)) rfl ?_
        refine ⟨_, tupC (by rw [dualX, if_pos hd]) hd.symm, ?_, ?_⟩
        · rw [dualI, if_pos hd, HNe.out]
          exact (((HO5.out.cur hge (grown_set _ ⟨w.heap.size + 1, 0, none⟩ _)).cur hge (grown_set _ ⟨w.heap.size + 1, 1, none⟩ _))).lower (by omega)
        · exact (HB5.out.setCell (by show w.heap.size ≤ w.heap.size + 1; omega) _).setCell (by show w.heap.size ≤ w.heap.size + 1; omega) _
    · subst hgg
      have hz := hb2.size
      have hz' : (w1.alloc (.cells #[.int .i64 0, .slice none 0 0] 40)).drew.heap.size = w1.heap.size + 1 := by show (w1.alloc (.cells #[.int .i64 0, .slice none 0 0] 40)).heap.size = _; simp
      have hbl2 := below_more (below_more HBl.out (below_alloc1 w1 (.cells #[.int .i64 0, .slice none 0 0] 40))) (below_more below_drew1 hb2)
      have hO4 := ((ho2.cur (B := w1.heap.size) (by omega) (grown_set _ ⟨w1.heap.size, 0, none⟩ (.int .i64 m))).cur (B := w1.heap.size) (by omega) (grown_set _ ⟨w1.heap.size, 1, none⟩ (.slice A2 (nullL m R).length c2))).lower (base' := w1.heap.size) (by omega)
      have hI4 := hO4.ints
      have hbl4 := (hbl2.setCell (p := ⟨w1.heap.size, 0, none⟩) (by show w.heap.size ≤ w1.heap.size; omega) (.int .i64 m)).setCell (p := ⟨w1.heap.size, 1, none⟩) (by show w.heap.size ≤ w1.heap.size; omega) (.slice A2 (nullL m R).length c2)
      have h4 : ((w2.setCell ⟨w1.heap.size, 0, none⟩ (.int .i64 m)).setCell ⟨w1.heap.size, 1, none⟩ (.slice A2 (nullL m R).length c2)).heap[w1.heap.size]? = some (.cells #[.int .i64 m, .slice A2 (nullL m R).length c2] 40 (0, 0)) := heap_setCell_same _ _ 1 _ _ _ (heap_setCell_same _ _ 0 _ _ _ hr4)
      have h24 : ((w2.setCell ⟨w1.heap.size, 0, none⟩ (.int .i64 m)).setCell ⟨w1.heap.size, 1, none⟩ (.slice A2 (nullL m R).length c2)).heap[w.heap.size + 1]? = some (.cells #[.int .i64 0, .slice none 0 0] 40 (0, 0)) := by
        rw [heap_setCell_other _ _ _ _ (by show w.heap.size + 1 ≠ w1.heap.size; omega), heap_setCell_other _ _ _ _ (by show w.heap.size + 1 ≠ w1.heap.size; omega), hb2.block _ (by omega)]
        exact (heap_alloc_old _ _ _ hlt).trans H2.out
      have hl4 : w1.heap.size < ((w2.setCell ⟨w1.heap.size, 0, none⟩ (.int .i64 m)).setCell ⟨w1.heap.size, 1, none⟩ (.slice A2 (nullL m R).length c2)).heap.size := by simp; omega
      have hl2 : w.heap.size + 1 < ((w2.setCell ⟨w1.heap.size, 0, none⟩ (.int .i64 m)).setCell ⟨w1.heap.size, 1, none⟩ (.slice A2 (nullL m R).length c2)).heap.size := by simp; omega
      rw [zI_length] at hO4
      clear hq0 hq1 hka0 hka1 hk0 hk1 hne hb2 ho2 hI2 hbl2 hr4 hr0 hr1 hf0 hf1 hz hz'
      generalize (w2.setCell ⟨w1.heap.size, 0, none⟩ (.int .i64 m)).setCell ⟨w1.heap.size, 1, none⟩ (.slice A2 (nullL m R).length c2) = w4 at *
      generalize hg4 : w1.heap.size = g4 at *
      have HC2 := Lib.hid (sCode_any m A2 (zI (nullL m R)) c2 w4 hI4 (by rw [zI_length]; omega))
      rw [zI_length, HDu.out] at HC2
      have Hb4 := Lib.hid hbl4
      have HO4 := Lib.hid hO4
      have H4 := Lib.hid h4
      have H24 := Lib.hid h24
      have hp0 : w4.cell? ⟨g4, 0, none⟩ = some (.int .i64 m) := cell_of_row w4 _ 0 _ _ _ h4
      have hp1 : w4.cell? ⟨g4, 1, none⟩ = some (.slice A2 (nullL m R).length c2) := cell_of_row w4 _ 1 _ _ _ h4
      have hge := hlt
      clear h4 h24 hbl4 hO4 hI4 hlt
      generalize hNN : nullL m R = N at *
      go_wp2_with fail
      refine HC2.out.mono ?_
      rintro e w5 ⟨rfl, hb5⟩
      have hs4 := HO4.out
      have h45 := (hb5.block _ hl4).trans H4.out
      have h25 := (hb5.block _ hl2).trans H24.out
      have hp0 : w5.cell? ⟨g4, 0, none⟩ = some (.int .i64 m) := cell_of_row w5 _ 0 _ _ _ h45
      have hp1 : w5.cell? ⟨g4, 1, none⟩ = some (.slice A2 N.length c2) := cell_of_row w5 _ 1 _ _ _ h45
      have hd0 : w5.cell? ⟨w.heap.size + 1, 0, none⟩ = some (.int .i64 0) := cell_of_row w5 _ 0 _ _ _ h25
      have hd1 : w5.cell? ⟨w.heap.size + 1, 1, none⟩ = some (.slice none 0 0) := cell_of_row w5 _ 1 _ _ _ h25
      have hg0 := frozen_of_row w5 _ 0 _ _ h25
      have hg1 := frozen_of_row w5 _ 1 _ _ h25
      have H25 := Lib.hid h25
      have HO5 := Lib.hid (HO4.out.below hb5)
      have HB5 := Lib.hid (below_more Hb4.out hb5)
      clear h45 h25 hb5 hs4
      cases hd : dualOkB m (zI R)
      · go_wp2_with fail
        refine ret_code2 rfl (w.heap.size + 1) 0 (.slice none 0 0) false rfl rfl (heap_setCell_same _ _ 1 _ _ _ (heap_setCell_same _ _ 0 _ _ _ H25.out)) rfl ?_
        refine ⟨_, tupC (by rw [dualX, hd]; rfl) hd.symm, by rw [dualI, hd]; exact Own.nil _ _, ?_⟩
        exact (HB5.out.setCell (by show w.heap.size ≤ w.heap.size + 1; omega) _).setCell (by show w.heap.size ≤ w.heap.size + 1; omega) _
      · go_wp2_with fail
        refine ret_code2 rfl (w.heap.size + 1) m (.slice A2 N.length c2) true rfl rfl (heap_setCell_same _ _ 1 _ _ _ (heap_setCell_same _ _ 0 _ _ _ H25.out)) rfl ?_
        refine ⟨_, tupC (by rw [dualX, if_pos hd]) hd.symm, ?_, ?_⟩
        · rw [dualI, if_pos hd, HNe.out]
          exact (((HO5.out.cur hge (grown_set _ ⟨w.heap.size + 1, 0, none⟩ _)).cur hge (grown_set _ ⟨w.heap.size + 1, 1, none⟩ _))).lower (by omega)
        · exact (HB5.out.setCell (by show w.heap.size ≤ w.heap.size + 1; omega) _).setCell (by show w.heap.size ≤ w.heap.size + 1; omega) _
end Go.Proofs.YtfkojlpihpgnaaaDoor
