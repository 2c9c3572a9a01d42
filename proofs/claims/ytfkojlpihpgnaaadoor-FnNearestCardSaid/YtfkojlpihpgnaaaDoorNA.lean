/-
  Z0: The words of a code in their order; the first of them whose measure is least.
  N1: The program's chapter 3: GoodCode, ChecksOf, and the three questions that are asked of a code (its word for a message, the syndrome of a word, the message of a word).
  N2: The program's chapter 3: the syndrome; a question asked of a code through a function value; WordFor, SyndromeOf, BitsFrom.
  N3: The program's chapter 3: all words of a code, the distance from a spot, the first word of least distance.
  N4: The program's chapter 3: LeastWeight, Nearest.
  N5: The program's chapter 3: DualOf.
  Q0: What the walks of chapter 3's laws share: a code in its box.
-/
import Derived.Test.YtfkojlpihpgnaaaDoorY0
import Derived.Test.YtfkojlpihpgnaaaDoorKB

/- Z0 -/
namespace Go.Proofs.YtfkojlpihpgnaaaDoor
open Go.RowKit

/-- One word more is measured. -/
def flS (f : Nat → Nat) (p : Nat × Nat) (v : Nat) : Nat × Nat := if f v < p.2 then (v, f v) else p
/-- The first word of least measure among b and ws, and its measure. -/
def flL (f : Nat → Nat) (b : Nat) (ws : List Nat) : Nat × Nat := ws.foldl (flS f) (b, f b)
theorem flL_snoc (f : Nat → Nat) (b : Nat) {ws : List Nat} {j : Nat} (hj : j < ws.length) : flL f b (ws.take (j + 1)) = flS f (flL f b (ws.take j)) ws[j] := by
  rw [flL, flL, List.take_succ_eq_append_getElem hj, List.foldl_append]; rfl
theorem fl_inv (f : Nat → Nat) : ∀ (ws seen : List Nat) (p : Nat × Nat), p.1 ∈ seen → p.2 = f p.1 → (∀ v ∈ seen, p.2 < f v ∨ p.2 = f v ∧ p.1 ≤ v) → (∀ a ∈ seen, ∀ v ∈ ws, a < v) → ws.Pairwise (· < ·) →
    (ws.foldl (flS f) p).1 ∈ seen ++ ws ∧ (ws.foldl (flS f) p).2 = f (ws.foldl (flS f) p).1 ∧ ∀ v ∈ seen ++ ws, (ws.foldl (flS f) p).2 < f v ∨ (ws.foldl (flS f) p).2 = f v ∧ (ws.foldl (flS f) p).1 ≤ v
  | [], seen, p, h1, h2, h3, _, _ => by rw [List.append_nil]; exact ⟨h1, h2, h3⟩
  | u :: ws, seen, p, h1, h2, h3, h4, h5 => by
    have hu := List.pairwise_cons.1 h5
    have k1 : (flS f p u).1 ∈ seen ++ [u] ∧ (flS f p u).2 = f (flS f p u).1 ∧ ∀ v ∈ seen ++ [u], (flS f p u).2 < f v ∨ (flS f p u).2 = f v ∧ (flS f p u).1 ≤ v := by
      unfold flS
      split
      · rename_i hlt
        refine ⟨by simp, rfl, fun v hv => ?_⟩
        rcases List.mem_append.1 hv with hv | hv
        · left
          rcases h3 v hv with h | h
          · show f u < f v; omega
          · show f u < f v; omega
        · rw [List.mem_singleton] at hv; subst hv
          exact Or.inr ⟨rfl, Nat.le_refl _⟩
      · rename_i hlt
        refine ⟨List.mem_append_left _ h1, h2, fun v hv => ?_⟩
        rcases List.mem_append.1 hv with hv | hv
        · exact h3 v hv
        · rw [List.mem_singleton] at hv; subst hv
          have := h4 p.1 h1 v (List.mem_cons_self ..)
          rcases Nat.lt_or_eq_of_le (Nat.le_of_not_lt hlt) with h | h
          · exact Or.inl h
          · exact Or.inr ⟨h, Nat.le_of_lt this⟩
    have ih := fl_inv f ws (seen ++ [u]) (flS f p u) k1.1 k1.2.1 k1.2.2 (fun a ha v hv => by
      rcases List.mem_append.1 ha with ha | ha
      · exact h4 a ha v (List.mem_cons_of_mem _ hv)
      · rw [List.mem_singleton] at ha; subst ha; exact hu.1 v hv) hu.2
    rw [List.append_assoc] at ih
    exact ih
theorem flL_inv (f : Nat → Nat) {b : Nat} {ws : List Nat} (h : (b :: ws).Pairwise (· < ·)) :
    (flL f b ws).1 ∈ b :: ws ∧ (flL f b ws).2 = f (flL f b ws).1 ∧ ∀ v ∈ b :: ws, (flL f b ws).2 < f v ∨ (flL f b ws).2 = f v ∧ (flL f b ws).1 ≤ v := by
  have hu := List.pairwise_cons.1 h
  exact fl_inv f ws [b] (b, f b) (List.mem_singleton.2 rfl) rfl (fun v hv => by rw [List.mem_singleton] at hv; subst hv; exact Or.inr ⟨rfl, Nat.le_refl _⟩) (fun a ha v hv => by rw [List.mem_singleton] at ha; subst ha; exact hu.1 v hv) hu.2

theorem spanL_sorted (w : Nat) (R : List Nat) : (spanL w R).Pairwise (· < ·) := List.Pairwise.filter _ List.pairwise_lt_range
theorem spanL_mem {w x : Nat} {R : List Nat} (h : ∀ r ∈ R, r < 2 ^ w) : x ∈ spanL w R ↔ Sp R x := by
  rw [spanL, List.mem_filter, canB_iff, List.mem_range]
  exact ⟨fun hx => hx.2, fun hx => ⟨Sp.lt h hx, hx⟩⟩
theorem spanL_head {w : Nat} {R : List Nat} (h : ∀ r ∈ R, r < 2 ^ w) : ∃ ws, spanL w R = 0 :: ws := by
  have h0 : (0 : Nat) ∈ spanL w R := (spanL_mem h).2 (by have := word_sp R 0; rwa [word_zero] at this)
  have hs := spanL_sorted w R
  cases hL : spanL w R with
  | nil => rw [hL] at h0; cases h0
  | cons b ws =>
    rw [hL] at h0 hs
    rcases List.mem_cons.1 h0 with e | h1
    · exact ⟨ws, by rw [e]⟩
    · have := (List.pairwise_cons.1 hs).1 0 h1; omega
theorem spanL_two {w : Nat} {R : List Nat} (h : ∀ r ∈ R, r < 2 ^ w) (h0 : ∃ v, Sp R v ∧ v ≠ 0) : ∃ u ws, spanL w R = 0 :: u :: ws := by
  obtain ⟨ws, e⟩ := spanL_head h
  obtain ⟨v, hv, hv0⟩ := h0
  have hm := (spanL_mem h).2 hv
  rw [e] at hm
  rcases List.mem_cons.1 hm with e0 | h1
  · exact absurd e0 hv0
  · cases ws with
    | nil => cases h1
    | cons u ws => exact ⟨u, ws, e⟩
theorem spanL_len10 (m : Nat) (R : List Nat) (hm : m ≤ 10) : (spanL m R).length ≤ 1024 := by
  unfold spanL
  refine Nat.le_trans (List.length_filter_le _ _) ?_
  rw [List.length_range]
  exact Nat.le_trans (Nat.pow_le_pow_right (n := 2) (by decide) hm) (by decide)
theorem near_first {w y b : Nat} {R ws : List Nat} (h : ∀ r ∈ R, r < 2 ^ w) (e : spanL w R = b :: ws) : Near w R y (flL (fun v => cnt w (y ^^^ v)) b ws).1 (flL (fun v => cnt w (y ^^^ v)) b ws).2 := by
  have hs := spanL_sorted w R
  rw [e] at hs
  obtain ⟨h1, h2, h3⟩ := flL_inv (fun v => cnt w (y ^^^ v)) hs
  refine ⟨(spanL_mem h).1 (by rw [e]; exact h1), by rw [h2, Nat.xor_comm], fun v hv => ?_⟩
  have := h3 v (by rw [← e]; exact (spanL_mem h).2 hv)
  rwa [Nat.xor_comm v y]
theorem least_first {w b u : Nat} {R ws : List Nat} (h : ∀ r ∈ R, r < 2 ^ w) (e : spanL w R = b :: u :: ws) : Least w R (flL (fun v => cnt w (0 ^^^ v)) u ws).2 := by
  have hs := spanL_sorted w R
  obtain ⟨ws', e'⟩ := spanL_head h
  obtain rfl : b = 0 := by rw [e] at e'; exact (List.cons.inj e').1
  rw [e] at hs
  have hp := List.pairwise_cons.1 hs
  obtain ⟨h1, h2, h3⟩ := flL_inv (fun v => cnt w (0 ^^^ v)) hp.2
  simp only [Nat.zero_xor] at h1 h2 h3 ⊢
  refine ⟨⟨_, (spanL_mem h).1 (by rw [e]; exact List.mem_cons_of_mem _ h1), fun e0 => ?_, h2.symm⟩, fun v hv hv0 => ?_⟩
  · have := hp.1 _ h1; omega
  · have hm := (spanL_mem h).2 hv
    rw [e] at hm
    rcases List.mem_cons.1 hm with e0 | hm
    · exact absurd e0 hv0
    · rcases h3 v hm with h | h <;> omega
theorem rank_code {x : Int} {zs : List Int} (h : rowsB x zs = true) : codeB x zs = (decide (x ≤ 10) && (decide (0 < zs.length) && decide (rankI x zs = zs.length))) := by
  obtain ⟨m, R, rfl, rfl, hm1, hm2, hl, hR⟩ := rows_nat h
  have hw := rank_le_width hR
  have e : rankI m (zI R) = (rank R : Nat) := by rw [rankI, stepsI_ok h, zI_length]; rfl
  rw [Bool.eq_iff_iff, e, zI_length]
  simp only [Bool.and_eq_true, decide_eq_true_eq]
  constructor
  · intro hc
    obtain ⟨c1, c2, c3, c4, c5, c6⟩ := code_true hc
    rw [stepsI_ok h, zI_length, zI_length] at c6
    rw [zI_length] at c3
    exact ⟨c2, c3, by rw [show rank R = R.length from c6]⟩
  · rintro ⟨h1, h2, h3⟩
    exact code_of hm1 (by omega) (by omega) (by omega) hR (by omega)
theorem code_rows {x : Int} {zs : List Int} (h : rowsB x zs = false) : codeB x zs = false := by
  cases hc : codeB x zs
  · rfl
  · have := (code_true hc).2.2.2.2.1; rw [h] at this; cases this
end Go.Proofs.YtfkojlpihpgnaaaDoor

/- N1 -/
namespace Go.Proofs.YtfkojlpihpgnaaaDoor
open Go.RowKit

theorem Tab.alloc1 {w : World} (h : Tab w) (o : Obj) : Tab (w.alloc o) := h.below (below_alloc1 w o)

set_option maxRecDepth 100000 in
set_option maxHeartbeats 1000000 in
theorem iCode_any (x : Int) (A : Option Addr) (zs : List Int) (ca : Nat) (w : World) (ht : Tab w) (ha : Ints w A zs) (hl : zs.length ≤ 1048576) :
    Calls Tryd.prog 31 #[codeV x (.slice A zs.length ca)] w fun e w' => e = .returned (.bool (codeB x zs)) ∧ Below w.heap.size w w' := by
  have HT := Lib.hid (ht.alloc1 (.cells #[.int .i64 x, .slice A zs.length ca] 40))
  have HA := Lib.hid (ha.alloc1 (.cells #[.int .i64 x, .slice A zs.length ca] 40))
  clear ha ht
  cases h1 : rowsB x zs
  · have HC := Lib.hid (code_rows h1)
    go_enter Tryd.func31, Tryd.ntmps31
    go_wp2_with fail
    refine (iRank_any x A zs ca _ HT.out HA.out hl).mono ?_
    rintro e w1 ⟨rfl, hb1⟩
    obtain ⟨hk0, hk1, hlt, hbl⟩ := box_code hb1
    go_wp2_with fail
    go_ret
    exact ⟨ret_bool' HC.out.symm, hbl⟩
  · have HC := Lib.hid (rank_code h1)
    by_cases h2 : x ≤ 10
    · by_cases h3 : 0 < zs.length
      · have h3' : (0 : Int) < (zs.length : Int) := by omega
        have HC' : Hid (codeB x zs = (rankI x zs == (zs.length : Int))) := by show _ = _; rw [HC.out, Bool.eq_iff_iff]; simp [h2, h3]
        clear HC h3
        go_enter Tryd.func31, Tryd.ntmps31
        go_wp2_with fail
        refine (iRank_any x A zs ca _ HT.out HA.out hl).mono ?_
        rintro e w1 ⟨rfl, hb1⟩
        obtain ⟨hk0, hk1, hlt, hbl⟩ := box_code hb1
        go_wp2_with fail
        go_ret
        exact ⟨ret_bool' HC'.out.symm, hbl⟩
      · have h3' : ¬ (0 : Int) < (zs.length : Int) := by omega
        have HC' : Hid (codeB x zs = false) := by show _ = _; rw [HC.out]; simp [h3]
        clear HC h3
        go_enter Tryd.func31, Tryd.ntmps31
        go_wp2_with fail
        refine (iRank_any x A zs ca _ HT.out HA.out hl).mono ?_
        rintro e w1 ⟨rfl, hb1⟩
        obtain ⟨hk0, hk1, hlt, hbl⟩ := box_code hb1
        go_wp2_with fail
        go_ret
        exact ⟨ret_bool' HC'.out.symm, hbl⟩
    · have HC' : Hid (codeB x zs = false) := by show _ = _; rw [HC.out]; simp [h2]
      clear HC
      go_enter Tryd.func31, Tryd.ntmps31
      go_wp2_with fail
      refine (iRank_any x A zs ca _ HT.out HA.out hl).mono ?_
      rintro e w1 ⟨rfl, hb1⟩
      obtain ⟨hk0, hk1, hlt, hbl⟩ := box_code hb1
      go_wp2_with fail
      go_ret
      exact ⟨ret_bool' HC'.out.symm, hbl⟩

set_option maxRecDepth 100000 in
set_option maxHeartbeats 1000000 in
theorem iChecks_any (x : Int) (A : Option Addr) (zs : List Int) (ca : Nat) (w : World) (ht : Tab w) (ha : Ints w A zs) (hl : zs.length ≤ 1048576) :
    Calls Tryd.prog 37 #[codeV x (.slice A zs.length ca)] w fun e w' => ∃ v, e = .returned (.tuple #[v, .bool (codeB x zs)]) ∧ Own w' w.heap.size v (checksI x zs) ∧ Below w.heap.size w w' := by
  have HT := Lib.hid (ht.alloc1 (.cells #[.int .i64 x, .slice A zs.length ca] 40))
  have HA := Lib.hid (ha.alloc1 (.cells #[.int .i64 x, .slice A zs.length ca] 40))
  clear ha ht
  cases hc : codeB x zs
  · have HE : Hid (checksI x zs = []) := by show _ = _; rw [checksI, hc]; rfl
    go_enter Tryd.func37, Tryd.ntmps37
    go_wp2_with fail
    refine (iCode_any x A zs ca _ HT.out HA.out hl).mono ?_
    rintro e w1 ⟨rfl, hb1⟩
    obtain ⟨hk0, hk1, hlt, hbl⟩ := box_code hb1
    go_wp2_with fail
    go_ret2
    exact ⟨_, rfl, by rw [HE.out]; exact Own.nil _ _, hbl⟩
  · have HE : Hid (checksI x zs = nullI x zs) := by show _ = _; rw [checksI, if_pos hc]
    have hro := (code_true hc).2.2.2.2.1
    go_enter Tryd.func37, Tryd.ntmps37
    go_wp2_with fail
    refine (iCode_any x A zs ca _ HT.out HA.out hl).mono ?_
    rintro e w1 ⟨rfl, hb1⟩
    obtain ⟨hk0, hk1, hlt, hbl⟩ := box_code hb1
    have HI := Lib.hid (HA.out.below hb1)
    have HT1 := Lib.hid (HT.out.below hb1)
    have HBl := Lib.hid hbl
    clear hb1 hbl
    go_wp2_with fail
    refine (iNull_any x A zs ca _ HT1.out HI.out hl).mono ?_
    rintro e w2 ⟨v2, rfl, ho2, hb2⟩
    have HO := Lib.hid (ho2.lower HBl.out.size)
    have HB2 := Lib.hid (below_more HBl.out hb2)
    obtain ⟨A2, c2, rfl, _⟩ := ho2.form
    clear ho2 hb2
    go_wp2_with fail
    go_ret2
    exact ⟨_, rfl, by rw [HE.out]; exact HO.out, HB2.out⟩

/-- What wordFor comes to. -/
theorem word_of {x : Int} {zs : List Int} {y : Int} (hc : codeB x zs = true) (hg : goodB zs.length y = true) : sumOkB x zs (bitsI zs.length y) = true ∧ sumI x zs (bitsI zs.length y) = wordI x zs y := by
  have hw : wordOkB x zs y = true := by rw [wordOkB, hc, hg]; rfl
  obtain ⟨m, R, rfl, rfl, hm1, hm2, hl1, hl2, hR, hr, h5⟩ := code_nat hc
  rw [zI_length] at hg ⊢
  obtain ⟨n, rfl, hn⟩ := good_lt hg
  have e : bitsI (R.length : Nat) (n : Nat) = bitsL R.length n := by rw [bitsI, if_pos hg, Int.toNat_natCast, Int.toNat_natCast]
  have hs : sumOkB m (zI R) (bitsL R.length n) = true := by
    rw [sumOkB, h5, Bool.true_and, zI_length]; exact bitsL_rise _ _ 0 (Int.le_refl _)
  rw [e]
  exact ⟨hs, by rw [sumI, if_pos hs, word_sum, wordI_ok hw]⟩

set_option maxRecDepth 100000 in
set_option maxHeartbeats 1000000 in
theorem wordFor_any (x : Int) (A : Option Addr) (zs : List Int) (ca : Nat) (y : Int) (w : World) (ht : Tab w) (ha : Ints w A zs) (hl : zs.length ≤ 1048576) (hc : codeB x zs = true) (hg : goodB zs.length y = true) :
    Calls Tryd.prog 84 #[codeV x (.slice A zs.length ca), .int .i64 y] w fun e w' => e = .returned (.tuple #[.int .i64 (wordI x zs y), .bool true]) ∧ Below w.heap.size w w' := by
  have HT := Lib.hid (ht.alloc1 (.cells #[.int .i64 x, .slice A zs.length ca] 40))
  have HA := Lib.hid (ha.alloc1 (.cells #[.int .i64 x, .slice A zs.length ca] 40))
  obtain ⟨h1, h2⟩ := word_of hc hg
  have hbl := bitsI_len zs.length y
  have HS := Lib.hid (fun (w : World) (B : Option Addr) (cb : Nat) (ht : Tab w) (ha : Ints w A zs) (hb : Ints w B (bitsI zs.length y)) => iSum_any x A B zs (bitsI zs.length y) ca cb w ht ha hb hl (by omega))
  rw [h1, h2] at HS
  clear ha ht h1 h2 hc
  go_enter Tryd.func84, Tryd.ntmps84
  go_wp2_with fail
  refine (iBits_any zs.length y _ HT.out).mono ?_
  rintro e w1 ⟨v1, rfl, ho1, hb1⟩
  obtain ⟨B, cb, rfl, hI1⟩ := ho1.form
  obtain ⟨hk0, hk1, hlt, hbl1⟩ := box_code hb1
  have HI := Lib.hid (HA.out.below hb1)
  have HI1 := Lib.hid hI1
  have HT1 := Lib.hid (HT.out.below hb1)
  have HBl := Lib.hid hbl1
  clear hb1 hbl1 ho1 hI1
  go_wp2_with fail
  refine (HS.out _ B cb HT1.out HI.out HI1.out).mono ?_
  rintro e w2 ⟨rfl, rfl⟩
  go_wp2_with fail
  go_ret2
  exact ⟨rfl, HBl.out⟩

set_option maxRecDepth 100000 in
set_option maxHeartbeats 1000000 in
theorem bitsFrom_any (x : Int) (A : Option Addr) (zs : List Int) (ca : Nat) (y : Int) (w : World) (ht : Tab w) (ha : Ints w A zs) (hl : zs.length ≤ 1048576) (hc : codeB x zs = true) :
    Calls Tryd.prog 80 #[codeV x (.slice A zs.length ca), .int .i64 y] w fun e w' => e = .returned (.tuple #[.int .i64 (bitsFI x zs y), .bool (bitsOkB x zs y)]) ∧ Below w.heap.size w w' := by
  have HT := Lib.hid (ht.alloc1 (.cells #[.int .i64 x, .slice A zs.length ca] 40))
  have HA := Lib.hid (ha.alloc1 (.cells #[.int .i64 x, .slice A zs.length ca] 40))
  have hml := makeI_len x zs y
  clear ha ht
  cases hy : canI x zs y
  · have HE : Hid (bitsOkB x zs y = false) := by show _ = _; rw [bitsOkB, hy]; simp
    go_enter Tryd.func80, Tryd.ntmps80
    go_wp2_with fail
    refine (iMake_any x A zs ca y _ HT.out HA.out hl).mono ?_
    rintro e w2 ⟨v2, rfl, ho2, hb2⟩
    obtain ⟨A2, c2, rfl, hI2⟩ := ho2.form
    obtain ⟨hk0, hk1, hlt, hbl1⟩ := box_code hb2
    go_wp2_with fail
    go_ret2
    exact ⟨tupI (by rw [bitsFI, HE.out]; rfl) HE.out.symm, hbl1⟩
  · have HE : Hid (bitsOkB x zs y = true) := by show _ = _; rw [bitsOkB, hc, hy]; rfl
    obtain ⟨hm1, hm2⟩ := make_row HE.out
    have HR := Lib.hid (fun (w : World) (A : Option Addr) (c : Nat) (ht : Tab w) (h : Ints w A (makeI x zs y)) => iRow_any zs.length A (makeI x zs y) c w ht h (by omega))
    rw [hm1, hm2] at HR
    clear hm1 hm2
    go_enter Tryd.func80, Tryd.ntmps80
    go_wp2_with fail
    refine (iMake_any x A zs ca y _ HT.out HA.out hl).mono ?_
    rintro e w2 ⟨v2, rfl, ho2, hb2⟩
    obtain ⟨A2, c2, rfl, hI2⟩ := ho2.form
    obtain ⟨hk0, hk1, hlt, hbl1⟩ := box_code hb2
    have HI2 := Lib.hid hI2
    have HT2 := Lib.hid (HT.out.below hb2)
    have HB2 := Lib.hid hbl1
    clear hI2 ho2 hb2 hbl1
    go_wp2_with fail
    refine (HR.out _ A2 c2 HT2.out HI2.out).mono ?_
    rintro e w3 ⟨rfl, rfl⟩
    go_wp2_with fail
    go_ret2
    exact ⟨tupI rfl HE.out.symm, HB2.out⟩
end Go.Proofs.YtfkojlpihpgnaaaDoor

/- N2 -/
namespace Go.Proofs.YtfkojlpihpgnaaaDoor
open Go.RowKit

set_option maxRecDepth 100000 in
set_option maxHeartbeats 2000000 in
theorem syndrome_any (x : Int) (A : Option Addr) (zs : List Int) (ca : Nat) (y : Int) (w : World) (ht : Tab w) (ha : Ints w A zs) (hl : zs.length ≤ 1048576) (hc : codeB x zs = true) (hg : goodB x y = true) :
    Calls Tryd.prog 77 #[codeV x (.slice A zs.length ca), .int .i64 y] w fun e w' => e = .returned (.tuple #[.int .i64 (synI x zs y), .bool true]) ∧ Below w.heap.size w w' := by
  have HT := Lib.hid (ht.alloc1 (.cells #[.int .i64 x, .slice A zs.length ca] 40))
  have HA := Lib.hid (ha.alloc1 (.cells #[.int .i64 x, .slice A zs.length ca] 40))
  clear ha ht
  have HE : Hid (synOkB x zs y = true) := by show _ = _; rw [synOkB, hc, hg]; rfl
  obtain ⟨m, R, rfl, rfl, hm1, hm2, hl1, hl2, hR, hr, h5⟩ := code_nat hc
  obtain ⟨n, rfl, hn⟩ := good_lt hg
  have HN := Lib.hid (synI_ok HE.out)
  have HNu := Lib.hid (iNull_any m A (zI R) ca _ HT.out HA.out hl)
  rw [h5, nullI_ok h5, zI_length] at HNu
  have HNl := Lib.hid (null_lt hR)
  have hNl := null_len16 hR
  rw [zI_length]
  clear hR hr h5 hc
  go_enter Tryd.func77, Tryd.ntmps77
  go_wp2_with fail
  refine HNu.out.mono ?_
  rintro e w2 ⟨v2, rfl, ho2, hb2⟩
  obtain ⟨A2, c2, rfl, hI2⟩ := ho2.form
  rw [zI_length]
  obtain ⟨hk0, hk1, hlt, hbl⟩ := box_code hb2
  have HI2 := Lib.hid hI2
  have HT2 := Lib.hid (HT.out.below (by rw [zI_length]; exact hb2))
  have HB2 := Lib.hid hbl
  clear ho2 hb2 hI2 hk1 hbl HA HT HNu
  generalize nullL m R = N at *
  go_wp2_with fail
  go_loopg [8, 23] N.length (fun gk o i wr => ∃ k : Nat, k + gk = N.length ∧ i = .int .i64 k ∧ o = .int .i64 (synK m n N k : Nat) ∧ w2 = wr)
  case atStart => exact ⟨0, by omega, rfl, rfl, rfl⟩
  case round =>
    obtain ⟨k, hgk, rfl, rfl, rfl⟩ := hrel
    by_cases hlt2 : k < N.length
    · have hki : (k : Int) < (N.length : Int) := by omega
      have hk17 : (k : Int) < 17 := by omega
      obtain ⟨b3, o3, rfl, hc3⟩ := HI2.out.cellN hlt2
      have hrl := HNl.out N[k] (List.getElem_mem hlt2)
      have htab := HT2.out k (by omega)
      have HX : Hid (synK m n N (k + 1) = synK m n N k ||| (dotB m n N[k]).toNat * 2 ^ k) := by
        show _ = _
        rw [synK, show N.getD k 0 = N[k] by simp [List.getD, hlt2]]
      have hsl : synK m n N k < 65536 := Nat.lt_of_lt_of_le (synK_lt m n N k) (Nat.le_trans (Nat.pow_le_pow_right (n := 2) (by decide) (show k ≤ 16 by omega)) (by decide))
      generalize N[k] = r at *
      have HD := Lib.hid (iDot_ok m n r w2 HT2.out (by rw [twoB, hg, good_of hm1 (by omega) hrl]; rfl) (by omega) hn hrl)
      have hdc := dotB_cnt m n r
      generalize synK m n N k = s at *
      cases hd : dotB m n r
      · rw [hd] at HX hdc
        rw [hdc] at HD
        have HX' : Hid (synK m n N (k + 1) = s) := by show _ = _; rw [HX.out]; simp
        clear hd hdc HX
        go_wp2_with (go_at_call 111; refine HD.out.mono ?_; rintro e w' ⟨rfl, rfl⟩)
        go_roundg (N.length - k - 1)
        case measure => omega
        case rel => exact ⟨k + 1, by omega, by go_num, by rw [HX'.out], rfl⟩
      · rw [hd] at HX hdc
        rw [hdc] at HD
        have HX' : Hid (synK m n N (k + 1) = s ||| 2 ^ k) := by show _ = _; rw [HX.out]; simp
        have hor := or_pow_i64 s k hsl (by omega)
        clear hd hdc HX
        go_wp2_with (go_at_call 111; refine HD.out.mono ?_; rintro e w' ⟨rfl, rfl⟩)
        go_roundg (N.length - k - 1)
        case measure => omega
        case rel => exact ⟨k + 1, by omega, by go_num, by rw [HX'.out], rfl⟩
    · obtain rfl : k = N.length := by omega
      go_wp2_with fail
      go_ret2
      exact ⟨tupI HN.out.symm rfl, HB2.out⟩

set_option maxRecDepth 100000 in
set_option maxHeartbeats 1000000 in
theorem ask_word (x : Int) (A : Option Addr) (zs : List Int) (ca : Nat) (y : Int) (w : World) (ht : Tab w) (ha : Ints w A zs) (hl : zs.length ≤ 1048576) :
    Calls Tryd.prog 76 #[codeV x (.slice A zs.length ca), .func (.func 84) #[] #[], .int .i64 zs.length, .int .i64 y] w fun e w' => e = .returned (.tuple #[.int .i64 (wordI x zs y), .bool (wordOkB x zs y)]) ∧ Below w.heap.size w w' := by
  have HT := Lib.hid (ht.alloc1 (.cells #[.int .i64 x, .slice A zs.length ca] 40))
  have HA := Lib.hid (ha.alloc1 (.cells #[.int .i64 x, .slice A zs.length ca] 40))
  clear ha ht
  cases hc : codeB x zs
  · have HE : Hid (wordOkB x zs y = false) := by show _ = _; rw [wordOkB, hc]; rfl
    go_enter Tryd.func76, Tryd.ntmps76
    go_wp2_with fail
    refine (iCode_any x A zs ca _ HT.out HA.out hl).mono ?_
    rintro e w1 ⟨rfl, hb1⟩
    obtain ⟨hk0, hk1, hlt, hbl⟩ := box_code hb1
    go_wp2_with fail
    go_ret2
    exact ⟨tupI (by rw [wordI, HE.out]; rfl) HE.out.symm, hbl⟩
  · cases hg : goodB zs.length y
    · have HE : Hid (wordOkB x zs y = false) := by show _ = _; rw [wordOkB, hg]; simp
      go_enter Tryd.func76, Tryd.ntmps76
      go_wp2_with fail
      refine (iCode_any x A zs ca _ HT.out HA.out hl).mono ?_
      rintro e w1 ⟨rfl, hb1⟩
      obtain ⟨hk0, hk1, hlt, hbl⟩ := box_code hb1
      have HT1 := Lib.hid (HT.out.below hb1)
      go_wp2_with (go_at_call 62; refine (iGood_any _ _ _ HT1.out).mono ?_; rintro e w' ⟨rfl, rfl⟩)
      go_ret2
      exact ⟨tupI (by rw [wordI, HE.out]; rfl) HE.out.symm, hbl⟩
    · have HE : Hid (wordOkB x zs y = true) := by show _ = _; rw [wordOkB, hc, hg]; rfl
      have HM := Lib.hid (fun (w : World) (ht : Tab w) (ha : Ints w A zs) => wordFor_any x A zs ca y w ht ha hl hc hg)
      go_enter Tryd.func76, Tryd.ntmps76
      go_wp2_with fail
      refine (iCode_any x A zs ca _ HT.out HA.out hl).mono ?_
      rintro e w1 ⟨rfl, hb1⟩
      obtain ⟨hk0, hk1, hlt, hbl⟩ := box_code hb1
      have HT1 := Lib.hid (HT.out.below hb1)
      have HI1 := Lib.hid (HA.out.below hb1)
      have HBl := Lib.hid hbl
      clear hb1 hbl
      go_wp2_with (first
        | (go_at_call 62; refine (iGood_any _ _ _ HT1.out).mono ?_; rintro e w' ⟨rfl, rfl⟩)
        | (go_at_call 84; refine (HM.out _ HT1.out HI1.out).mono ?_; rintro e w2 ⟨rfl, hb2⟩))
      go_ret2
      exact ⟨tupI rfl HE.out.symm, below_more HBl.out hb2⟩

set_option maxRecDepth 100000 in
set_option maxHeartbeats 1000000 in
theorem iWord_any (x : Int) (A : Option Addr) (zs : List Int) (ca : Nat) (y : Int) (w : World) (ht : Tab w) (ha : Ints w A zs) (hl : zs.length ≤ 1048576) :
    Calls Tryd.prog 33 #[codeV x (.slice A zs.length ca), .int .i64 y] w fun e w' => e = .returned (.tuple #[.int .i64 (wordI x zs y), .bool (wordOkB x zs y)]) ∧ Below w.heap.size w w' := by
  have HT := Lib.hid (ht.alloc1 (.cells #[.int .i64 x, .slice A zs.length ca] 40))
  have HA := Lib.hid (ha.alloc1 (.cells #[.int .i64 x, .slice A zs.length ca] 40))
  clear ha ht
  go_enter Tryd.func33, Tryd.ntmps33
  go_wp2_with fail
  refine (ask_word x A zs ca y _ HT.out HA.out hl).mono ?_
  rintro e w1 ⟨rfl, hb1⟩
  go_wp2_with fail
  go_ret2
  exact ⟨rfl, below_more (below_alloc1 _ _) hb1⟩

set_option maxRecDepth 100000 in
set_option maxHeartbeats 1000000 in
theorem ask_syn (x : Int) (A : Option Addr) (zs : List Int) (ca : Nat) (y : Int) (w : World) (ht : Tab w) (ha : Ints w A zs) (hl : zs.length ≤ 1048576) :
    Calls Tryd.prog 76 #[codeV x (.slice A zs.length ca), .func (.func 77) #[] #[], .int .i64 x, .int .i64 y] w fun e w' => e = .returned (.tuple #[.int .i64 (synI x zs y), .bool (synOkB x zs y)]) ∧ Below w.heap.size w w' := by
  have HT := Lib.hid (ht.alloc1 (.cells #[.int .i64 x, .slice A zs.length ca] 40))
  have HA := Lib.hid (ha.alloc1 (.cells #[.int .i64 x, .slice A zs.length ca] 40))
  clear ha ht
  cases hc : codeB x zs
  · have HE : Hid (synOkB x zs y = false) := by show _ = _; rw [synOkB, hc]; rfl
    go_enter Tryd.func76, Tryd.ntmps76
    go_wp2_with fail
    refine (iCode_any x A zs ca _ HT.out HA.out hl).mono ?_
    rintro e w1 ⟨rfl, hb1⟩
    obtain ⟨hk0, hk1, hlt, hbl⟩ := box_code hb1
    go_wp2_with fail
    go_ret2
    exact ⟨tupI (by rw [synI, HE.out]; rfl) HE.out.symm, hbl⟩
  · cases hg : goodB x y
    · have HE : Hid (synOkB x zs y = false) := by show _ = _; rw [synOkB, hg]; simp
      go_enter Tryd.func76, Tryd.ntmps76
      go_wp2_with fail
      refine (iCode_any x A zs ca _ HT.out HA.out hl).mono ?_
      rintro e w1 ⟨rfl, hb1⟩
      obtain ⟨hk0, hk1, hlt, hbl⟩ := box_code hb1
      have HT1 := Lib.hid (HT.out.below hb1)
      go_wp2_with (go_at_call 62; refine (iGood_any _ _ _ HT1.out).mono ?_; rintro e w' ⟨rfl, rfl⟩)
      go_ret2
      exact ⟨tupI (by rw [synI, HE.out]; rfl) HE.out.symm, hbl⟩
    · have HE : Hid (synOkB x zs y = true) := by show _ = _; rw [synOkB, hc, hg]; rfl
      have HM := Lib.hid (fun (w : World) (ht : Tab w) (ha : Ints w A zs) => syndrome_any x A zs ca y w ht ha hl hc hg)
      go_enter Tryd.func76, Tryd.ntmps76
      go_wp2_with fail
      refine (iCode_any x A zs ca _ HT.out HA.out hl).mono ?_
      rintro e w1 ⟨rfl, hb1⟩
      obtain ⟨hk0, hk1, hlt, hbl⟩ := box_code hb1
      have HT1 := Lib.hid (HT.out.below hb1)
      have HI1 := Lib.hid (HA.out.below hb1)
      have HBl := Lib.hid hbl
      clear hb1 hbl
      go_wp2_with (first
        | (go_at_call 62; refine (iGood_any _ _ _ HT1.out).mono ?_; rintro e w' ⟨rfl, rfl⟩)
        | (go_at_call 77; refine (HM.out _ HT1.out HI1.out).mono ?_; rintro e w2 ⟨rfl, hb2⟩))
      go_ret2
      exact ⟨tupI rfl HE.out.symm, below_more HBl.out hb2⟩

set_option maxRecDepth 100000 in
set_option maxHeartbeats 1000000 in
theorem iSyn_any (x : Int) (A : Option Addr) (zs : List Int) (ca : Nat) (y : Int) (w : World) (ht : Tab w) (ha : Ints w A zs) (hl : zs.length ≤ 1048576) :
    Calls Tryd.prog 27 #[codeV x (.slice A zs.length ca), .int .i64 y] w fun e w' => e = .returned (.tuple #[.int .i64 (synI x zs y), .bool (synOkB x zs y)]) ∧ Below w.heap.size w w' := by
  have HT := Lib.hid (ht.alloc1 (.cells #[.int .i64 x, .slice A zs.length ca] 40))
  have HA := Lib.hid (ha.alloc1 (.cells #[.int .i64 x, .slice A zs.length ca] 40))
  clear ha ht
  go_enter Tryd.func27, Tryd.ntmps27
  go_wp2_with fail
  refine (ask_syn x A zs ca y _ HT.out HA.out hl).mono ?_
  rintro e w1 ⟨rfl, hb1⟩
  go_wp2_with fail
  go_ret2
  exact ⟨rfl, below_more (below_alloc1 _ _) hb1⟩

set_option maxRecDepth 100000 in
set_option maxHeartbeats 1000000 in
theorem ask_bits (x : Int) (A : Option Addr) (zs : List Int) (ca : Nat) (y : Int) (w : World) (ht : Tab w) (ha : Ints w A zs) (hl : zs.length ≤ 1048576) :
    Calls Tryd.prog 76 #[codeV x (.slice A zs.length ca), .func (.func 80) #[] #[], .int .i64 x, .int .i64 y] w fun e w' => e = .returned (.tuple #[.int .i64 (bitsFI x zs y), .bool (bitsOkB x zs y)]) ∧ Below w.heap.size w w' := by
  have HT := Lib.hid (ht.alloc1 (.cells #[.int .i64 x, .slice A zs.length ca] 40))
  have HA := Lib.hid (ha.alloc1 (.cells #[.int .i64 x, .slice A zs.length ca] 40))
  clear ha ht
  cases hc : codeB x zs
  · have HE : Hid (bitsOkB x zs y = false) := by show _ = _; rw [bitsOkB, hc]; rfl
    go_enter Tryd.func76, Tryd.ntmps76
    go_wp2_with fail
    refine (iCode_any x A zs ca _ HT.out HA.out hl).mono ?_
    rintro e w1 ⟨rfl, hb1⟩
    obtain ⟨hk0, hk1, hlt, hbl⟩ := box_code hb1
    go_wp2_with fail
    go_ret2
    exact ⟨tupI (by rw [bitsFI, HE.out]; rfl) HE.out.symm, hbl⟩
  · cases hg : goodB x y
    · have HE : Hid (bitsOkB x zs y = false) := by show _ = _; rw [bitsOkB, canI, twoOkB, hg]; simp
      go_enter Tryd.func76, Tryd.ntmps76
      go_wp2_with fail
      refine (iCode_any x A zs ca _ HT.out HA.out hl).mono ?_
      rintro e w1 ⟨rfl, hb1⟩
      obtain ⟨hk0, hk1, hlt, hbl⟩ := box_code hb1
      have HT1 := Lib.hid (HT.out.below hb1)
      go_wp2_with (go_at_call 62; refine (iGood_any _ _ _ HT1.out).mono ?_; rintro e w' ⟨rfl, rfl⟩)
      go_ret2
      exact ⟨tupI (by rw [bitsFI, HE.out]; rfl) HE.out.symm, hbl⟩
    · have HM := Lib.hid (fun (w : World) (ht : Tab w) (ha : Ints w A zs) => bitsFrom_any x A zs ca y w ht ha hl hc)
      go_enter Tryd.func76, Tryd.ntmps76
      go_wp2_with fail
      refine (iCode_any x A zs ca _ HT.out HA.out hl).mono ?_
      rintro e w1 ⟨rfl, hb1⟩
      obtain ⟨hk0, hk1, hlt, hbl⟩ := box_code hb1
      have HT1 := Lib.hid (HT.out.below hb1)
      have HI1 := Lib.hid (HA.out.below hb1)
      have HBl := Lib.hid hbl
      clear hb1 hbl
      go_wp2_with (first
        | (go_at_call 62; refine (iGood_any _ _ _ HT1.out).mono ?_; rintro e w' ⟨rfl, rfl⟩)
        | (go_at_call 80; refine (HM.out _ HT1.out HI1.out).mono ?_; rintro e w2 ⟨rfl, hb2⟩))
      go_ret2
      exact ⟨tupI rfl rfl, below_more HBl.out hb2⟩

set_option maxRecDepth 100000 in
set_option maxHeartbeats 1000000 in
theorem iBitsFrom_any (x : Int) (A : Option Addr) (zs : List Int) (ca : Nat) (y : Int) (w : World) (ht : Tab w) (ha : Ints w A zs) (hl : zs.length ≤ 1048576) :
    Calls Tryd.prog 29 #[codeV x (.slice A zs.length ca), .int .i64 y] w fun e w' => e = .returned (.tuple #[.int .i64 (bitsFI x zs y), .bool (bitsOkB x zs y)]) ∧ Below w.heap.size w w' := by
  have HT := Lib.hid (ht.alloc1 (.cells #[.int .i64 x, .slice A zs.length ca] 40))
  have HA := Lib.hid (ha.alloc1 (.cells #[.int .i64 x, .slice A zs.length ca] 40))
  clear ha ht
  go_enter Tryd.func29, Tryd.ntmps29
  go_wp2_with fail
  refine (ask_bits x A zs ca y _ HT.out HA.out hl).mono ?_
  rintro e w1 ⟨rfl, hb1⟩
  go_wp2_with fail
  go_ret2
  exact ⟨rfl, below_more (below_alloc1 _ _) hb1⟩
end Go.Proofs.YtfkojlpihpgnaaaDoor

/- N3 -/
namespace Go.Proofs.YtfkojlpihpgnaaaDoor
open Go.RowKit

set_option maxRecDepth 100000 in
set_option maxHeartbeats 1000000 in
theorem words_any (m : Nat) (A : Option Addr) (R : List Nat) (ca : Nat) (w : World) (ht : Tab w) (ha : Ints w A (zI R)) (hm : m ≤ 10) (hl : R.length ≤ 20) (hR : ∀ r ∈ R, r < 2 ^ m) :
    Calls Tryd.prog 94 #[codeV m (.slice A R.length ca)] w fun e w' => ∃ v, e = .returned v ∧ Own w' w.heap.size v (zI (spanL m R)) ∧ Below w.heap.size w w' := by
  have HL := Lib.hid (ladderOf_any A R ca _ (ht.alloc1 (.cells #[.int .i64 m, .slice A R.length ca] 40)) (ha.alloc1 (.cells #[.int .i64 m, .slice A R.length ca] 40)) hl (lt16s (by omega) hR))
  have HR := Lib.hid hR
  clear ha ht hR
  go_enter Tryd.func94, Tryd.ntmps94
  go_wp2_with fail
  refine HL.out.mono ?_
  rintro e w1 ⟨L, rfl, hL, hb1⟩
  have HLR := Lib.hid hL
  have HB1 := Lib.hid (below_more (below_alloc1 _ _) hb1)
  have HSp := Lib.hid (ladR_span hL HR.out)
  clear hL hb1 HL
  go_wp2_with fail
  refine (spanOn_any L R w1 HLR.out).mono ?_
  rintro e w2 ⟨v2, rfl, ho2, hb2⟩
  rw [HSp.out] at ho2
  have HO := Lib.hid (ho2.lower HB1.out.size)
  have HB2 := Lib.hid (below_more HB1.out hb2)
  obtain ⟨A3, c3, rfl, _⟩ := ho2.form
  clear ho2 hb2
  go_wp2_with fail
  go_ret
  exact ⟨_, rfl, HO.out, HB2.out⟩

/-- A spot as a value. -/
abbrev spotV (m y : Nat) : Value := .agg #[.int .i64 (m : Int), .int .i64 (y : Int)]
abbrev farV (m y : Nat) : Value := .func (.func 95) #[spotV m y] #[]

theorem xor16 {a b : Nat} (ha : a < 65536) (hb : b < 65536) : a ^^^ b < 65536 := Nat.xor_lt_two_pow (n := 16) ha hb

set_option maxRecDepth 100000 in
set_option maxHeartbeats 1000000 in
theorem distance_any (m y v : Nat) (w : World) (ht : Tab w) (hm : m ≤ 16) (hy : y < 65536) (hv : v < 65536) :
    Calls Tryd.prog 95 #[spotV m y, .int .i64 v] w fun e w' => e = .returned (.int .i64 (cnt m (y ^^^ v) : Nat)) ∧ Below w.heap.size w w' := by
  have HT := Lib.hid (ht.alloc1 (.cells #[.int .i64 m, .int .i64 y] 90))
  have hx := xor_i64 y v (by omega) (by omega)
  have hx2 := xor16 hy hv
  clear ht
  go_enter Tryd.func95, Tryd.ntmps95
  go_wp2_with fail
  refine (iCount m (y ^^^ v) _ HT.out hm hx2).mono ?_
  rintro e w1 ⟨rfl, rfl⟩
  go_wp2_with fail
  go_ret
  exact ⟨rfl, below_alloc1 _ _⟩

set_option maxRecDepth 100000 in
set_option maxHeartbeats 2000000 in
theorem first_any (m y b : Nat) (ws : List Nat) (g o ca : Nat) (w : World) (ht : Tab w) (hm : m ≤ 16) (hy : y < 65536) (hcs : ∀ j (hj : j < (b :: ws).length), w.cell? ⟨g, o + j, none⟩ = some (.int .i64 ((b :: ws)[j] : Nat))) (hlt : ∀ v ∈ b :: ws, v < 65536) (hl : ws.length ≤ 65536) (hca : ws.length + 1 ≤ ca) :
    Calls Tryd.prog 93 #[.slice (some ⟨g, o, none⟩) (ws.length + 1) ca, farV m y] w fun e w' =>
      e = .returned (.tuple #[.int .i64 ((flL (fun v => cnt m (y ^^^ v)) b ws).1 : Nat), .int .i64 ((flL (fun v => cnt m (y ^^^ v)) b ws).2 : Nat)]) ∧ Below w.heap.size w w' := by
  have hb0 := hlt b (List.mem_cons_self ..)
  have h0 : w.cell? ⟨g, o, none⟩ = some (.int .i64 (b : Nat)) := hcs 0 (by simp)
  have HC : Hid (∀ j (hj : j < ws.length), w.cell? ⟨g, o + 1 + j, none⟩ = some (.int .i64 (ws[j] : Nat))) := fun j hj => by
    have := hcs (j + 1) (by simp; omega)
    rw [show o + (j + 1) = o + 1 + j by omega] at this
    exact this
  have HLt : Hid (∀ j (hj : j < ws.length), ws[j] < 65536) := fun j hj => hlt _ (List.mem_cons_of_mem _ (List.getElem_mem hj))
  have HT := Lib.hid ht
  have hgl : g < w.heap.size := World.block_lt_of_cell? _ _ h0
  clear hcs hlt ht
  by_cases hws : ws = []
  · subst hws
    clear HC HLt
    by_cases hc1 : ca = 1
    · subst hc1
      go_enter Tryd.func93, Tryd.ntmps93
      go_wp2_with fail
      go_region_held3 (fun w' => w'.cell? ⟨g, o, none⟩ = some (.int .i64 (b : Nat))) (first | exact h0 | exact hk1 | go_keep) (first
        | (go_at_call 95; refine (distance_any m y b _ (HT.out.below (below_drewN' 1)) hm hy hb0).mono ?_; rintro e w1 ⟨rfl, hb1⟩; have hk1 : w1.cell? ⟨g, o, none⟩ = some (.int .i64 (b : Nat)) := (hb1.cell hgl).trans h0))
      have HB1 := Lib.hid (below_more below_drew1 hb1)
      clear hb1
      go_wp2_with fail
      go_loopg [6, 7, 22] 0 (fun gk p q i wr => i = .int .i64 0 ∧ p = .int .i64 (b : Nat) ∧ q = .int .i64 (cnt m (y ^^^ b) : Nat) ∧ w1 = wr)
      case atStart => exact ⟨rfl, rfl, rfl, rfl⟩
      case round =>
        obtain ⟨rfl, rfl, rfl, rfl⟩ := hrel
        go_wp2_with fail
        go_ret2
        exact ⟨rfl, HB1.out⟩
    · have hc2 : 1 ≤ ca := by simp at hca; omega
      go_enter Tryd.func93, Tryd.ntmps93
      go_wp2_with fail
      go_region_held3 (fun w' => w'.cell? ⟨g, o, none⟩ = some (.int .i64 (b : Nat))) (first | exact h0 | exact hk1 | go_keep) (first
        | (go_at_call 95; refine (distance_any m y b _ (HT.out.below (below_drewN' 1)) hm hy hb0).mono ?_; rintro e w1 ⟨rfl, hb1⟩; have hk1 : w1.cell? ⟨g, o, none⟩ = some (.int .i64 (b : Nat)) := (hb1.cell hgl).trans h0))
      have HB1 := Lib.hid (below_more below_drew1 hb1)
      clear hb1
      go_wp2_with fail
      go_loopg [6, 7, 22] 0 (fun gk p q i wr => i = .int .i64 0 ∧ p = .int .i64 (b : Nat) ∧ q = .int .i64 (cnt m (y ^^^ b) : Nat) ∧ w1 = wr)
      case atStart => exact ⟨rfl, rfl, rfl, rfl⟩
      case round =>
        obtain ⟨rfl, rfl, rfl, rfl⟩ := hrel
        go_wp2_with fail
        go_ret2
        exact ⟨rfl, HB1.out⟩
  · have hpos : 0 < ws.length := List.length_pos_iff.2 hws
    have hc1 : ¬ ca = 1 := by omega
    clear hws
    go_enter Tryd.func93, Tryd.ntmps93
    go_wp2_with fail
    go_region_held3 (fun w' => w'.cell? ⟨g, o, none⟩ = some (.int .i64 (b : Nat))) (first | exact h0 | exact hk1 | go_keep) (first
      | (go_at_call 95; refine (distance_any m y b _ (HT.out.below (below_drewN' 1)) hm hy hb0).mono ?_; rintro e w1 ⟨rfl, hb1⟩; have hk1 : w1.cell? ⟨g, o, none⟩ = some (.int .i64 (b : Nat)) := (hb1.cell hgl).trans h0))
    have HB1 := Lib.hid (below_more below_drew1 hb1)
    clear hb1
    go_wp2_with fail
    generalize hf : (fun v => cnt m (y ^^^ v)) = f at *
    go_loopg [6, 7, 22] ws.length (fun gk p q i wr => ∃ k : Nat, k + gk = ws.length ∧ i = .int .i64 k ∧ p = .int .i64 ((flL f b (ws.take k)).1 : Nat) ∧ q = .int .i64 ((flL f b (ws.take k)).2 : Nat) ∧ Below w.heap.size w wr)
    case atStart => exact ⟨0, by omega, rfl, rfl, by subst hf; rfl, HB1.out⟩
    case round =>
      obtain ⟨k, hgk, rfl, rfl, rfl, hbr⟩ := hrel
      have HBr := Lib.hid hbr
      by_cases hlt2 : k < ws.length
      · have hki : (k : Int) < (ws.length : Int) := by omega
        have hck := (hbr.cell hgl).trans (HC.out k hlt2)
        have hvl := HLt.out k hlt2
        have HX := Lib.hid (flL_snoc f b hlt2)
        have HGK : Hid (ws.length - k - 1 < gk ∧ k + 1 + (ws.length - k - 1) = ws.length) := by show _ ∧ _; omega
        have HD := Lib.hid (distance_any m y ws[k] wr (HT.out.below hbr) hm hy hvl)
        rw [show cnt m (y ^^^ ws[k]) = f ws[k] by subst hf; rfl] at HD
        generalize ws[k] = v at *
        generalize flL f b (ws.take k) = p at *
        clear hbr hgk hf
        by_cases hc : f v < p.2
        · have hci : (f v : Int) < (p.2 : Int) := by omega
          have HX' : Hid (flL f b (ws.take (k + 1)) = (v, f v)) := by show _ = _; rw [HX.out, flS, if_pos hc]
          clear HX hc
          go_wp2_with (go_at_call 95; refine HD.out.mono ?_; rintro e w2 ⟨rfl, hb2⟩)
          go_roundg (ws.length - k - 1)
          case measure => exact HGK.out.1
          case rel => exact ⟨k + 1, HGK.out.2, by go_num, by rw [HX'.out], by rw [HX'.out], below_more HBr.out hb2⟩
        · have hci : ¬ (f v : Int) < (p.2 : Int) := by omega
          have HX' : Hid (flL f b (ws.take (k + 1)) = p) := by show _ = _; rw [HX.out, flS, if_neg hc]
          clear HX hc
          go_wp2_with (go_at_call 95; refine HD.out.mono ?_; rintro e w2 ⟨rfl, hb2⟩)
          go_roundg (ws.length - k - 1)
          case measure => exact HGK.out.1
          case rel => exact ⟨k + 1, HGK.out.2, by go_num, by rw [HX'.out], by rw [HX'.out], below_more HBr.out hb2⟩
      · obtain rfl : k = ws.length := by omega
        rw [List.take_length]
        go_wp2_with fail
        go_ret2
        exact ⟨by subst hf; rfl, HBr.out⟩
end Go.Proofs.YtfkojlpihpgnaaaDoor

/- N4 -/
namespace Go.Proofs.YtfkojlpihpgnaaaDoor
open Go.RowKit

/-- A slice of the call's own of numbers, not empty, written out with its capacity. -/
theorem Own.blockC {w : World} {base n : Nat} {v : Value} {l : List Nat} (h : Own w base v (zI l)) (hn : l.length = n + 1) : ∃ g cap, v = .slice (some ⟨g, 0, none⟩) (n + 1) cap ∧ n + 1 ≤ cap ∧ ∀ j (hj : j < l.length), w.cell? ⟨g, 0 + j, none⟩ = some (.int .i64 (l[j] : Nat)) := by
  obtain ⟨g, cap, rfl, _, hc, _⟩ := h.block (by intro e; rw [e] at hn; simp at hn)
  obtain ⟨A, c, e, hle, _⟩ := h.formC
  injection e with e1 e2 e3
  rw [zI_length] at hle
  subst e3
  exact ⟨g, cap, by rw [hn], by omega, fun j hj => by rw [Nat.zero_add]; exact hc j hj⟩
theorem tail_cells {w : World} {g : Nat} {a u : Nat} {ws : List Nat} (h : ∀ j (hj : j < (a :: u :: ws).length), w.cell? ⟨g, 0 + j, none⟩ = some (.int .i64 ((a :: u :: ws)[j] : Nat))) :
    ∀ j (hj : j < (u :: ws).length), w.cell? ⟨g, 1 + j, none⟩ = some (.int .i64 ((u :: ws)[j] : Nat)) := fun j hj => by
  have := h (j + 1) (by simp at hj ⊢; omega)
  rw [show 0 + (j + 1) = 1 + j by omega] at this
  exact this
theorem spanL_lt16 {m : Nat} {R l : List Nat} (hm : m ≤ 10) (h : ∀ r ∈ R, r < 2 ^ m) (e : spanL m R = l) : ∀ v ∈ l, v < 65536 := fun v hv =>
  lt16 (show m ≤ 16 by omega) (Sp.lt h ((spanL_mem h).1 (by rw [e]; exact hv)))

set_option maxRecDepth 100000 in
set_option maxHeartbeats 2000000 in
theorem iLeastW_any (x : Int) (A : Option Addr) (zs : List Int) (ca : Nat) (w : World) (ht : Tab w) (ha : Ints w A zs) (hl : zs.length ≤ 1048576) :
    Calls Tryd.prog 43 #[codeV x (.slice A zs.length ca)] w fun e w' => e = .returned (.tuple #[.int .i64 (leastI x zs), .bool (codeB x zs)]) ∧ Below w.heap.size w w' := by
  have HT := Lib.hid (ht.alloc1 (.cells #[.int .i64 x, .slice A zs.length ca] 40))
  have HA := Lib.hid (ha.alloc1 (.cells #[.int .i64 x, .slice A zs.length ca] 40))
  clear ha ht
  cases hc : codeB x zs
  · have HE : Hid (leastI x zs = 0) := by show _ = _; rw [leastI, hc]; rfl
    go_enter Tryd.func43, Tryd.ntmps43
    go_wp2_with fail
    refine (iCode_any x A zs ca _ HT.out HA.out hl).mono ?_
    rintro e w1 ⟨rfl, hb1⟩
    obtain ⟨hk0, hk1, hlt, hbl⟩ := box_code hb1
    go_wp2_with fail
    go_ret2
    exact ⟨tupI HE.out.symm rfl, hbl⟩
  · obtain ⟨m, R, rfl, rfl, hm1, hm2, hl1, hl2, hR, hr, h5⟩ := code_nat hc
    have hsw := some_word hr hl1
    obtain ⟨u, ws, hsp⟩ := spanL_two hR hsw
    have HE : Hid (leastI m (zI R) = ((flL (fun v => cnt m v) u ws).2 : Nat)) := by
      show _ = _
      have h1 := least_first hR hsp
      simp only [Nat.zero_xor] at h1
      rw [leastI_ok hc, least_unique h1 (least_K hsw)]
    have hi1 : (1 : Int) ≤ (ws.length : Int) + 1 + 1 := by omega
    have HW := Lib.hid (fun w ht ha => words_any m A R ca w ht ha hm2 (by omega) hR)
    simp only [hsp] at HW
    have hln : ws.length ≤ 65536 := by have := spanL_len10 m R hm2; rw [hsp] at this; simp at this; omega
    have HLt : Hid (∀ v ∈ u :: ws, v < 65536) := fun v hv => spanL_lt16 hm2 hR hsp v (List.mem_cons_of_mem _ hv)
    have HC := Lib.hid (iCode_any m A (zI R) ca _ HT.out HA.out hl)
    rw [hc, zI_length] at HC
    rw [zI_length] at HT HA ⊢
    clear hR hr h5 hc hsw hsp
    go_enter Tryd.func43, Tryd.ntmps43
    go_wp2_with fail
    refine HC.out.mono ?_
    rintro e w1 ⟨rfl, hb1⟩
    obtain ⟨hk0, hk1, hlt, hbl⟩ := box_code hb1
    have HI1 := Lib.hid ((HA.out.below hb1).alloc1 (.cells #[.int .i64 m, .int .i64 (0 : Nat)] 90))
    have HT1 := Lib.hid ((HT.out.below hb1).alloc1 (.cells #[.int .i64 m, .int .i64 (0 : Nat)] 90))
    have HB1 := Lib.hid (below_more hbl (below_alloc1 w1 (.cells #[.int .i64 m, .int .i64 (0 : Nat)] 90)))
    have hs0 : (w1.alloc (.cells #[.int .i64 m, .int .i64 (0 : Nat)] 90)).cell? ⟨w1.heap.size, 0, none⟩ = some (.int .i64 m) := cell_of_row _ _ 0 _ _ _ (heap_alloc_new _ _)
    have hs1 : (w1.alloc (.cells #[.int .i64 m, .int .i64 (0 : Nat)] 90)).cell? ⟨w1.heap.size, 1, none⟩ = some (.int .i64 (0 : Nat)) := cell_of_row _ _ 1 _ _ _ (heap_alloc_new _ _)
    have hr0 := ((below_alloc1 w1 (.cells #[.int .i64 m, .int .i64 (0 : Nat)] 90)).cell (p := ⟨w.heap.size, 0, none⟩) hlt).trans hk0
    have hr1 := ((below_alloc1 w1 (.cells #[.int .i64 m, .int .i64 (0 : Nat)] 90)).cell (p := ⟨w.heap.size, 1, none⟩) hlt).trans hk1
    have hz : w1.heap.size < (w1.alloc (.cells #[.int .i64 m, .int .i64 (0 : Nat)] 90)).heap.size := by simp
    clear hb1 hbl HA HT HC
    go_wp2_with fail
    clear hk0 hk1
    generalize hW : w1.alloc (.cells #[.int .i64 m, .int .i64 (0 : Nat)] 90) = W at *
    clear hW
    generalize hgg : w.heap.size = g at *
    generalize w1.heap.size = g1 at *
    go_region_held3 (fun w' => w'.cell? ⟨g, 0, none⟩ = some (.int .i64 m) ∧ w'.cell? ⟨g, 1, none⟩ = some (.slice A R.length ca) ∧ w'.cell? ⟨g1, 0, none⟩ = some (.int .i64 m) ∧ w'.cell? ⟨g1, 1, none⟩ = some (.int .i64 (0 : Nat)))
      (first | exact ⟨hr0, hr1, hs0, hs1⟩ | exact ⟨ha0, ha1, ha2, ha3⟩ | exact ⟨hb0, hb1, hb2, hb3⟩ | go_keep) (first
      | (go_at_call 94; refine (HW.out W.drew (HT1.out.below below_drew1) HI1.out.drew1).mono ?_; rintro e w2 ⟨v2, rfl, ho2, hbw⟩; obtain ⟨g2, c2, rfl, hc2, hcs⟩ := ho2.blockC (n := ws.length + 1) (by simp); have ha0 := (hbw.cell (p := ⟨g, 0, none⟩) (show g < W.heap.size by omega)).trans hr0; have ha1 := (hbw.cell (p := ⟨g, 1, none⟩) (show g < W.heap.size by omega)).trans hr1; have ha2 := (hbw.cell (p := ⟨g1, 0, none⟩) (show g1 < W.heap.size by omega)).trans hs0; have ha3 := (hbw.cell (p := ⟨g1, 1, none⟩) (show g1 < W.heap.size by omega)).trans hs1; have hc1 : ¬ c2 = 1 := by omega)
      | (go_at_call 93; refine (first_any m 0 u ws g2 1 (c2 - 1) w2 ((HT1.out.below below_drew1).below hbw) (by omega) (by omega) (tail_cells hcs) HLt.out hln (by omega)).mono ?_; rintro e w3 ⟨rfl, hbf⟩; have hb0 := (hbf.cell (p := ⟨g, 0, none⟩) (Nat.lt_of_lt_of_le (show g < W.heap.size by omega) hbw.size)).trans ha0; have hb1 := (hbf.cell (p := ⟨g, 1, none⟩) (Nat.lt_of_lt_of_le (show g < W.heap.size by omega) hbw.size)).trans ha1; have hb2 := (hbf.cell (p := ⟨g1, 0, none⟩) (Nat.lt_of_lt_of_le (show g1 < W.heap.size by omega) hbw.size)).trans ha2; have hb3 := (hbf.cell (p := ⟨g1, 1, none⟩) (Nat.lt_of_lt_of_le (show g1 < W.heap.size by omega) hbw.size)).trans ha3))
    all_goals
      subst hgg
      have HB3 := Lib.hid (below_more HB1.out (below_more below_drew1 (below_more hbw hbf)))
      clear hbw hbf ho2 hcs
      go_wp2_with fail
      go_ret2
      exact ⟨tupI HE.out.symm rfl, HB3.out⟩

set_option maxRecDepth 100000 in
set_option maxHeartbeats 2000000 in
theorem iNear_any (x : Int) (A : Option Addr) (zs : List Int) (ca : Nat) (y : Int) (w : World) (ht : Tab w) (ha : Ints w A zs) (hl : zs.length ≤ 1048576) :
    Calls Tryd.prog 45 #[codeV x (.slice A zs.length ca), .int .i64 y] w fun e w' => e = .returned (.tuple #[.int .i64 (nearI x zs y), .int .i64 (farI x zs y), .bool (synOkB x zs y)]) ∧ Below w.heap.size w w' := by
  have HT := Lib.hid (ht.alloc1 (.cells #[.int .i64 x, .slice A zs.length ca] 40))
  have HA := Lib.hid (ha.alloc1 (.cells #[.int .i64 x, .slice A zs.length ca] 40))
  clear ha ht
  cases hc : codeB x zs
  · have HE : Hid (synOkB x zs y = false) := by show _ = _; rw [synOkB, hc]; rfl
    go_enter Tryd.func45, Tryd.ntmps45
    go_wp2_with fail
    refine (iCode_any x A zs ca _ HT.out HA.out hl).mono ?_
    rintro e w1 ⟨rfl, hb1⟩
    obtain ⟨hk0, hk1, hlt, hbl⟩ := box_code hb1
    go_wp2_with fail
    go_ret3
    exact ⟨tup3 (by rw [nearI, HE.out]; rfl) (by rw [farI, HE.out]; rfl) HE.out.symm, hbl⟩
  · cases hg : goodB x y
    · have HE : Hid (synOkB x zs y = false) := by show _ = _; rw [synOkB, hg]; simp
      go_enter Tryd.func45, Tryd.ntmps45
      go_wp2_with fail
      refine (iCode_any x A zs ca _ HT.out HA.out hl).mono ?_
      rintro e w1 ⟨rfl, hb1⟩
      obtain ⟨hk0, hk1, hlt, hbl⟩ := box_code hb1
      have HT1 := Lib.hid (HT.out.below hb1)
      go_wp2_with (go_at_call 62; refine (iGood_any _ _ _ HT1.out).mono ?_; rintro e w' ⟨rfl, rfl⟩)
      go_ret3
      exact ⟨tup3 (by rw [nearI, HE.out]; rfl) (by rw [farI, HE.out]; rfl) HE.out.symm, hbl⟩
    · have HE : Hid (synOkB x zs y = true) := by show _ = _; rw [synOkB, hc, hg]; rfl
      obtain ⟨m, R, rfl, rfl, hm1, hm2, hl1, hl2, hR, hr, h5⟩ := code_nat hc
      obtain ⟨n, rfl, hn⟩ := good_lt hg
      have hn16 := lt16 (show m ≤ 16 by omega) hn
      obtain ⟨ws, hsp⟩ := spanL_head hR
      have HN : Hid (nearI m (zI R) n = ((flL (fun v => cnt m (n ^^^ v)) 0 ws).1 : Nat) ∧ farI m (zI R) n = ((flL (fun v => cnt m (n ^^^ v)) 0 ws).2 : Nat)) := by
        show _ ∧ _
        obtain ⟨e1, e2⟩ := nearI_ok HE.out
        obtain ⟨u1, u2⟩ := near_unique (near_first (y := n) hR hsp) (near_K m R n)
        rw [e1, e2, u1, u2]; exact ⟨rfl, rfl⟩
      have HW := Lib.hid (fun w ht ha => words_any m A R ca w ht ha hm2 (by omega) hR)
      simp only [hsp] at HW
      have hln : ws.length ≤ 65536 := by have := spanL_len10 m R hm2; rw [hsp] at this; simp at this; omega
      have HLt : Hid (∀ v ∈ 0 :: ws, v < 65536) := fun v hv => spanL_lt16 hm2 hR hsp v hv
      have HC := Lib.hid (iCode_any m A (zI R) ca _ HT.out HA.out hl)
      rw [hc, zI_length] at HC
      rw [zI_length] at HT HA ⊢
      clear hR hr h5 hc hsp
      go_enter Tryd.func45, Tryd.ntmps45
      go_wp2_with fail
      refine HC.out.mono ?_
      rintro e w1 ⟨rfl, hb1⟩
      obtain ⟨hk0, hk1, hlt, hbl⟩ := box_code hb1
      have HT0 := Lib.hid (HT.out.below hb1)
      have HI1 := Lib.hid ((HA.out.below hb1).alloc1 (.cells #[.int .i64 m, .int .i64 n] 90))
      have HT1 := Lib.hid ((HT.out.below hb1).alloc1 (.cells #[.int .i64 m, .int .i64 n] 90))
      have HB1 := Lib.hid (below_more hbl (below_alloc1 w1 (.cells #[.int .i64 m, .int .i64 n] 90)))
      have hs0 : (w1.alloc (.cells #[.int .i64 m, .int .i64 n] 90)).cell? ⟨w1.heap.size, 0, none⟩ = some (.int .i64 m) := cell_of_row _ _ 0 _ _ _ (heap_alloc_new _ _)
      have hs1 : (w1.alloc (.cells #[.int .i64 m, .int .i64 n] 90)).cell? ⟨w1.heap.size, 1, none⟩ = some (.int .i64 n) := cell_of_row _ _ 1 _ _ _ (heap_alloc_new _ _)
      have hr0 := ((below_alloc1 w1 (.cells #[.int .i64 m, .int .i64 n] 90)).cell (p := ⟨w.heap.size, 0, none⟩) hlt).trans hk0
      have hr1 := ((below_alloc1 w1 (.cells #[.int .i64 m, .int .i64 n] 90)).cell (p := ⟨w.heap.size, 1, none⟩) hlt).trans hk1
      have hz : w1.heap.size < (w1.alloc (.cells #[.int .i64 m, .int .i64 n] 90)).heap.size := by simp
      clear hb1 hbl HA HT HC
      go_wp2_with (go_at_call 62; refine (iGood_any _ _ _ HT0.out).mono ?_; rintro e w' ⟨rfl, rfl⟩)
      clear hk0 hk1
      generalize hW : w1.alloc (.cells #[.int .i64 m, .int .i64 n] 90) = W at *
      clear hW
      generalize hgg : w.heap.size = g at *
      generalize w1.heap.size = g1 at *
      go_region_held3 (fun w' => w'.cell? ⟨g, 0, none⟩ = some (.int .i64 m) ∧ w'.cell? ⟨g, 1, none⟩ = some (.slice A R.length ca) ∧ w'.cell? ⟨g1, 0, none⟩ = some (.int .i64 m) ∧ w'.cell? ⟨g1, 1, none⟩ = some (.int .i64 n))
        (first | exact ⟨hr0, hr1, hs0, hs1⟩ | exact ⟨ha0, ha1, ha2, ha3⟩ | exact ⟨hb0, hb1, hb2, hb3⟩ | go_keep) (first
        | (go_at_call 94; refine (HW.out W.drew (HT1.out.below below_drew1) HI1.out.drew1).mono ?_; rintro e w2 ⟨v2, rfl, ho2, hbw⟩; obtain ⟨g2, c2, rfl, hc2, hcs⟩ := ho2.blockC (n := ws.length) (by simp); have ha0 := (hbw.cell (p := ⟨g, 0, none⟩) (show g < W.heap.size by omega)).trans hr0; have ha1 := (hbw.cell (p := ⟨g, 1, none⟩) (show g < W.heap.size by omega)).trans hr1; have ha2 := (hbw.cell (p := ⟨g1, 0, none⟩) (show g1 < W.heap.size by omega)).trans hs0; have ha3 := (hbw.cell (p := ⟨g1, 1, none⟩) (show g1 < W.heap.size by omega)).trans hs1)
        | (go_at_call 93; refine (first_any m n 0 ws g2 0 c2 w2 ((HT1.out.below below_drew1).below hbw) (by omega) hn16 hcs HLt.out hln (by omega)).mono ?_; rintro e w3 ⟨rfl, hbf⟩; have hb0 := (hbf.cell (p := ⟨g, 0, none⟩) (Nat.lt_of_lt_of_le (show g < W.heap.size by omega) hbw.size)).trans ha0; have hb1 := (hbf.cell (p := ⟨g, 1, none⟩) (Nat.lt_of_lt_of_le (show g < W.heap.size by omega) hbw.size)).trans ha1; have hb2 := (hbf.cell (p := ⟨g1, 0, none⟩) (Nat.lt_of_lt_of_le (show g1 < W.heap.size by omega) hbw.size)).trans ha2; have hb3 := (hbf.cell (p := ⟨g1, 1, none⟩) (Nat.lt_of_lt_of_le (show g1 < W.heap.size by omega) hbw.size)).trans ha3))
      all_goals
        subst hgg
        have HB3 := Lib.hid (below_more HB1.out (below_more below_drew1 (below_more hbw hbf)))
        clear hbw hbf ho2 hcs
        go_wp2_with fail
        go_ret3
        exact ⟨tup3 HN.out.1.symm HN.out.2.symm HE.out.symm, HB3.out⟩
end Go.Proofs.YtfkojlpihpgnaaaDoor

/- N5 -/
namespace Go.Proofs.YtfkojlpihpgnaaaDoor
open Go.RowKit

set_option maxRecDepth 100000 in
set_option maxHeartbeats 2000000 in
theorem iDual_any (x : Int) (A : Option Addr) (zs : List Int) (ca : Nat) (w : World) (ht : Tab w) (ha : Ints w A zs) (hl : zs.length ≤ 1048576) :
    Calls Tryd.prog 35 #[codeV x (.slice A zs.length ca)] w fun e w' => ∃ v, e = .returned (.tuple #[codeV (dualX x zs) v, .bool (dualOkB x zs)]) ∧ Own w' w.heap.size v (dualI x zs) ∧ Below w.heap.size w w' := by
  have HT := Lib.hid ((ht.alloc1 (.cells #[.int .i64 x, .slice A zs.length ca] 40)).alloc1 (.cells #[.int .i64 0, .slice none 0 0] 40))
  have HA := Lib.hid ((ha.alloc1 (.cells #[.int .i64 x, .slice A zs.length ca] 40)).alloc1 (.cells #[.int .i64 0, .slice none 0 0] 40))
  clear ha ht
  cases hd : dualOkB x zs
  · have HE := Lib.hid hd
    have hno : codeB x zs = false ∨ codeB x zs = true ∧ checksI x zs = [] := by
      cases hc : codeB x zs
      · exact Or.inl rfl
      · exact Or.inr ⟨rfl, by rw [checksI, if_pos hc, (dual_none hc hd).2]⟩
    have HCk := Lib.hid (iChecks_any x A zs ca _ HT.out HA.out hl)
    rcases hno with hc | ⟨hc, hce⟩
    · clear hd
      go_enter Tryd.func35, Tryd.ntmps35
      go_wp2_with fail
      refine HCk.out.mono ?_
      rintro e w1 ⟨v1, rfl, ho1, hb1⟩
      obtain ⟨A1, c1, rfl, _⟩ := ho1.form
      obtain ⟨h1, h2, hlt, hbl⟩ := two_blocks hb1
      have hd0 : w1.cell? ⟨w.heap.size + 1, 0, none⟩ = some (.int .i64 0) := cell_of_row w1 _ 0 _ _ _ h2
      have hd1 : w1.cell? ⟨w.heap.size + 1, 1, none⟩ = some (.slice none 0 0) := cell_of_row w1 _ 1 _ _ _ h2
      have hg0 := frozen_of_row w1 _ 0 _ _ h2
      have hg1 := frozen_of_row w1 _ 1 _ _ h2
      have H2 := Lib.hid h2
      clear h1 h2 hb1 ho1
      go_wp2_with fail
      refine ret_code2 rfl (w.heap.size + 1) 0 (.slice none 0 0) false rfl rfl (heap_setCell_same _ _ 1 _ _ _ (heap_setCell_same _ _ 0 _ _ _ H2.out)) rfl ?_
      refine ⟨_, tupC (by rw [dualX, HE.out]; rfl) rfl, by rw [dualI, HE.out]; exact Own.nil _ _, ?_⟩
      exact (hbl.setCell (by show w.heap.size ≤ w.heap.size + 1; omega) _).setCell (by show w.heap.size ≤ w.heap.size + 1; omega) _
    · rw [hce] at HCk
      clear hd
      go_enter Tryd.func35, Tryd.ntmps35
      go_wp2_with fail
      refine HCk.out.mono ?_
      rintro e w1 ⟨v1, rfl, ho1, hb1⟩
      obtain ⟨A1, c1, rfl, _⟩ := ho1.form
      obtain ⟨h1, h2, hlt, hbl⟩ := two_blocks hb1
      have hd0 : w1.cell? ⟨w.heap.size + 1, 0, none⟩ = some (.int .i64 0) := cell_of_row w1 _ 0 _ _ _ h2
      have hd1 : w1.cell? ⟨w.heap.size + 1, 1, none⟩ = some (.slice none 0 0) := cell_of_row w1 _ 1 _ _ _ h2
      have hg0 := frozen_of_row w1 _ 0 _ _ h2
      have hg1 := frozen_of_row w1 _ 1 _ _ h2
      have H2 := Lib.hid h2
      clear h1 h2 hb1 ho1
      go_wp2_with fail
      refine ret_code2 rfl (w.heap.size + 1) 0 (.slice none 0 0) false rfl rfl (heap_setCell_same _ _ 1 _ _ _ (heap_setCell_same _ _ 0 _ _ _ H2.out)) rfl ?_
      refine ⟨_, tupC (by rw [dualX, HE.out]; rfl) rfl, by rw [dualI, HE.out]; exact Own.nil _ _, ?_⟩
      exact (hbl.setCell (by show w.heap.size ≤ w.heap.size + 1; omega) _).setCell (by show w.heap.size ≤ w.heap.size + 1; omega) _
  · have HE := Lib.hid hd
    have hc := (and_true' hd).1
    have HCk := Lib.hid (iChecks_any x A zs ca _ HT.out HA.out hl)
    have hpos : 0 < (nullI x zs).length := by
      have h1 := (dual_code hd).2.2.1
      have h2 : (zs.length : Int) < x := by simpa using (and_true' hd).2
      omega
    have hne : (((nullI x zs).length : Int) == 0) = false := by simp; intro e; rw [e] at hpos; simp at hpos
    rw [checksI, if_pos hc] at HCk
    clear hd hpos
    go_enter Tryd.func35, Tryd.ntmps35
    go_wp2_with fail
    refine HCk.out.mono ?_
    rintro e w1 ⟨v1, rfl, ho1, hb1⟩
    obtain ⟨A1, c1, rfl, _⟩ := ho1.form
    obtain ⟨h1, h2, hlt, hbl⟩ := two_blocks hb1
    have hk0 : w1.cell? ⟨w.heap.size, 0, none⟩ = some (.int .i64 x) := cell_of_row w1 _ 0 _ _ _ h1
    have hd0 : w1.cell? ⟨w.heap.size + 1, 0, none⟩ = some (.int .i64 0) := cell_of_row w1 _ 0 _ _ _ h2
    have hd1 : w1.cell? ⟨w.heap.size + 1, 1, none⟩ = some (.slice none 0 0) := cell_of_row w1 _ 1 _ _ _ h2
    have hg0 := frozen_of_row w1 _ 0 _ _ h2
    have hg1 := frozen_of_row w1 _ 1 _ _ h2
    have H2 := Lib.hid h2
    have hs2 : ((w.alloc (.cells #[.int .i64 x, .slice A zs.length ca] 40)).alloc (.cells #[.int .i64 0, .slice none 0 0] 40)).heap.size = w.heap.size + 2 := by simp
    rw [hs2] at ho1
    have HO1 := Lib.hid ho1
    clear h1 h2 hb1 ho1 hs2
    go_wp2_with fail
    refine ret_code2 rfl (w.heap.size + 1) x (.slice A1 (nullI x zs).length c1) true rfl rfl (heap_setCell_same _ _ 1 _ _ _ (heap_setCell_same _ _ 0 _ _ _ H2.out)) rfl ?_
    refine ⟨_, tupC (by rw [dualX, if_pos HE.out]) rfl, ?_, ?_⟩
    · rw [dualI, if_pos HE.out]
      exact (((HO1.out.cur (by show w.heap.size + 1 < _; omega) (grown_set _ ⟨w.heap.size + 1, 0, none⟩ _)).cur (by show w.heap.size + 1 < _; omega) (grown_set _ ⟨w.heap.size + 1, 1, none⟩ _))).lower (by omega)
    · exact (hbl.setCell (by show w.heap.size ≤ w.heap.size + 1; omega) _).setCell (by show w.heap.size ≤ w.heap.size + 1; omega) _
end Go.Proofs.YtfkojlpihpgnaaaDoor

/- Q0 -/
namespace Go.Proofs.YtfkojlpihpgnaaaDoor
open Go.RowKit

/-- Block g is a box of type t that holds the code (x, v). -/
def Boxd (w : World) (g : Nat) (t : TypeId) (x : Int) (v : Value) : Prop := w.heap[g]? = some (.cells #[.int .i64 x, v] t (0, 0))
theorem Boxd.new (w : World) (t : TypeId) (x : Int) (v : Value) : Boxd (w.alloc (.cells #[.int .i64 x, v] t)) w.heap.size t x v := heap_alloc_new _ _
theorem Boxd.lt {w : World} {g : Nat} {t : TypeId} {x : Int} {v : Value} (h : Boxd w g t x v) : g < w.heap.size := heap_lt h
theorem Boxd.cell0 {w : World} {g : Nat} {t : TypeId} {x : Int} {v : Value} (h : Boxd w g t x v) : w.cell? ⟨g, 0, none⟩ = some (.int .i64 x) := cell_of_row w _ 0 _ _ _ h
theorem Boxd.cell1 {w : World} {g : Nat} {t : TypeId} {x : Int} {v : Value} (h : Boxd w g t x v) : w.cell? ⟨g, 1, none⟩ = some v := cell_of_row w _ 1 _ _ _ h
theorem Boxd.below {w w' : World} {g : Nat} {t : TypeId} {x : Int} {v : Value} (h : Boxd w g t x v) (hb : Below w.heap.size w w') : Boxd w' g t x v := (hb.block g h.lt).trans h
theorem Boxd.alloc1 {w : World} {g : Nat} {t : TypeId} {x : Int} {v : Value} (h : Boxd w g t x v) (o : Obj) : Boxd (w.alloc o) g t x v := h.below (below_alloc1 w o)
theorem Boxd.drew1 {w : World} {g : Nat} {t : TypeId} {x : Int} {v : Value} (h : Boxd w g t x v) : Boxd w.drew g t x v := h
theorem Boxd.grown {w w' : World} {g : Nat} {t : TypeId} {x : Int} {v : Value} {r : Option Nat} (h : Boxd w g t x v) (hg : w.grownBy w' r) (hne : ∀ k, r = some k → g ≠ k) : Boxd w' g t x v :=
  (hg.block g h.lt (fun e => hne g e.symm rfl)).trans h
theorem checksI_len (x : Int) (zs : List Int) : (checksI x zs).length ≤ 16 := by
  unfold checksI; split
  · exact nullI_len x zs
  · simp
theorem dualI_len (x : Int) (zs : List Int) : (dualI x zs).length ≤ 16 := by
  unfold dualI; split
  · exact nullI_len x zs
  · simp
end Go.Proofs.YtfkojlpihpgnaaaDoor
