/-
  Chapter 3's answers as functions of whatever arguments, and what its laws ask of them: a word is of the code just where its syndrome is 0, the dual of the dual makes the code again, fewer wrong bits than half of the least weight are found.
-/
import Derived.Test.YtfkojlpihpgnaaaDoorX0
namespace Go.Proofs.YtfkojlpihpgnaaaDoor
open Go.RowKit

def codeB (x : Int) (zs : List Int) : Bool := (decide (1 ≤ x) && decide (x ≤ 10)) && ((decide (1 ≤ zs.length) && decide ((zs.length : Int) ≤ x)) && (rowsB x zs && decide ((stepsI x zs).length = zs.length)))
theorem code_true {x : Int} {zs : List Int} (h : codeB x zs = true) : 1 ≤ x ∧ x ≤ 10 ∧ 1 ≤ zs.length ∧ (zs.length : Int) ≤ x ∧ rowsB x zs = true ∧ (stepsI x zs).length = zs.length := by
  simp only [codeB, Bool.and_eq_true, decide_eq_true_eq] at h
  exact ⟨h.1.1, h.1.2, h.2.1.1, h.2.1.2, h.2.2.1, h.2.2.2⟩
theorem code_mk {x : Int} {zs : List Int} (h1 : 1 ≤ x) (h2 : x ≤ 10) (h3 : 1 ≤ zs.length) (h4 : (zs.length : Int) ≤ x) (h5 : rowsB x zs = true) (h6 : (stepsI x zs).length = zs.length) : codeB x zs = true := by
  simp only [codeB, Bool.and_eq_true, decide_eq_true_eq]
  exact ⟨⟨h1, h2⟩, ⟨h3, h4⟩, h5, h6⟩
theorem code_nat {x : Int} {zs : List Int} (h : codeB x zs = true) : ∃ (m : Nat) (R : List Nat), x = m ∧ zs = zI R ∧ 1 ≤ m ∧ m ≤ 10 ∧ 1 ≤ R.length ∧ R.length ≤ m ∧ (∀ r ∈ R, r < 2 ^ m) ∧ rank R = R.length ∧ rowsB m (zI R) = true := by
  obtain ⟨h1, h2, h3, h4, h5, h6⟩ := code_true h
  obtain ⟨m, R, rfl, rfl, hm1, hm2, hl, hR⟩ := rows_nat h5
  rw [stepsI_ok h5, zI_length, zI_length] at h6
  rw [zI_length] at h3 h4
  exact ⟨m, R, rfl, rfl, hm1, by omega, h3, by omega, hR, h6, h5⟩
theorem code_of {m : Nat} {R : List Nat} (h1 : 1 ≤ m) (h2 : m ≤ 10) (h3 : 1 ≤ R.length) (h4 : R.length ≤ m) (hR : ∀ r ∈ R, r < 2 ^ m) (hr : rank R = R.length) : codeB m (zI R) = true := by
  have h5 := rowsB_zI (m := m) (R := R) h1 (by omega) (by omega) hR
  exact code_mk (by omega) (by omega) (by rw [zI_length]; exact h3) (by rw [zI_length]; omega) h5 (by rw [stepsI_ok h5, zI_length, zI_length]; exact hr)
theorem good_of {m n : Nat} (h1 : 1 ≤ m) (h2 : m ≤ 16) (hn : n < 2 ^ m) : goodB m n = true := by
  rw [goodB_wide _ (wideB_true (by omega) (by omega))]
  have h3 : ((n : Nat) : Int) < (2 : Int) ^ m := by exact_mod_cast hn
  simp [h3]
theorem good_lt {m : Nat} {y : Int} (h : goodB m y = true) : ∃ n : Nat, y = n ∧ n < 2 ^ m := by
  obtain ⟨m', n, e, rfl, _, _, hn⟩ := good_nat h
  exact ⟨n, rfl, by rw [show m = m' by omega]; exact hn⟩

def wordOkB (x : Int) (zs : List Int) (y : Int) : Bool := codeB x zs && goodB zs.length y
def wordI (x : Int) (zs : List Int) (y : Int) : Int := if wordOkB x zs y = true then (wordN (nL zs) y.toNat : Nat) else 0
def bitsOkB (x : Int) (zs : List Int) (y : Int) : Bool := codeB x zs && canI x zs y
def bitsFI (x : Int) (zs : List Int) (y : Int) : Int := if bitsOkB x zs y = true then (mkM (nL zs) (nL zs).length y.toNat : Nat) else 0
def checksI (x : Int) (zs : List Int) : List Int := if codeB x zs = true then nullI x zs else []
def synOkB (x : Int) (zs : List Int) (y : Int) : Bool := codeB x zs && goodB x y
def synI (x : Int) (zs : List Int) (y : Int) : Int := if synOkB x zs y = true then (synK x.toNat y.toNat (nullL x.toNat (nL zs)) (nullL x.toNat (nL zs)).length : Nat) else 0
def leastI (x : Int) (zs : List Int) : Int := if codeB x zs = true then (leastK x.toNat (nL zs) (2 ^ zs.length) : Nat) else 0
def nearI (x : Int) (zs : List Int) (y : Int) : Int := if synOkB x zs y = true then ((nearK x.toNat (nL zs) y.toNat (2 ^ zs.length)).1 : Nat) else 0
def farI (x : Int) (zs : List Int) (y : Int) : Int := if synOkB x zs y = true then ((nearK x.toNat (nL zs) y.toNat (2 ^ zs.length)).2 : Nat) else 0
def dualOkB (x : Int) (zs : List Int) : Bool := codeB x zs && decide ((zs.length : Int) < x)
def dualI (x : Int) (zs : List Int) : List Int := if dualOkB x zs = true then nullI x zs else []
def dualX (x : Int) (zs : List Int) : Int := if dualOkB x zs = true then x else 0

theorem and_true' {a b : Bool} (h : (a && b) = true) : a = true ∧ b = true := by simpa using h
theorem wordI_ok {m n : Nat} {R : List Nat} (h : wordOkB m (zI R) n = true) : wordI m (zI R) n = (wordN R n : Nat) := by rw [wordI, if_pos h, nL_zI, Int.toNat_natCast]
theorem bitsFI_ok {m n : Nat} {R : List Nat} (h : bitsOkB m (zI R) n = true) : bitsFI m (zI R) n = (mkM R R.length n : Nat) := by rw [bitsFI, if_pos h, nL_zI, Int.toNat_natCast]
theorem synI_ok {m n : Nat} {R : List Nat} (h : synOkB m (zI R) n = true) : synI m (zI R) n = (synK m n (nullL m R) (nullL m R).length : Nat) := by rw [synI, if_pos h, nL_zI, Int.toNat_natCast, Int.toNat_natCast]
theorem leastI_ok {m : Nat} {R : List Nat} (h : codeB m (zI R) = true) : leastI m (zI R) = (leastK m R (2 ^ R.length) : Nat) := by rw [leastI, if_pos h, nL_zI, Int.toNat_natCast, zI_length]
theorem nearI_ok {m n : Nat} {R : List Nat} (h : synOkB m (zI R) n = true) : nearI m (zI R) n = ((nearK m R n (2 ^ R.length)).1 : Nat) ∧ farI m (zI R) n = ((nearK m R n (2 ^ R.length)).2 : Nat) := by
  rw [nearI, farI, if_pos h, if_pos h, nL_zI, Int.toNat_natCast, Int.toNat_natCast, zI_length]; exact ⟨rfl, rfl⟩

/-- A word is of the code just where its syndrome is 0. -/
theorem syn_bits {x : Int} {zs : List Int} {y : Int} (h : synOkB x zs y = true) : bitsOkB x zs y = (synI x zs y == 0) := by
  obtain ⟨hc, hg⟩ := and_true' h
  obtain ⟨m, R, rfl, rfl, hm1, hm2, hl1, hl2, hR, hr, h5⟩ := code_nat hc
  obtain ⟨n, rfl, hn⟩ := good_lt hg
  have hz := syn_zero hR hn
  rw [synI_ok h, bitsOkB, hc, Bool.true_and, canI, twoOkB, h5, hg, nL_zI, Int.toNat_natCast, Bool.and_self, Bool.true_and, Bool.eq_iff_iff, canB_iff, ← hz, beq_iff_eq]
  omega
/-- The word of the message of a code word is the code word. -/
theorem bits_word {x : Int} {zs : List Int} {y : Int} (h : bitsOkB x zs y = true) : wordOkB x zs (bitsFI x zs y) = true ∧ wordI x zs (bitsFI x zs y) = y := by
  obtain ⟨hc, hy⟩ := and_true' h
  obtain ⟨m, R, rfl, rfl, hm1, hm2, hl1, hl2, hR, hr, h5⟩ := code_nat hc
  obtain ⟨n, rfl, hn⟩ := good_lt (twoOk_true (can_two hy)).2
  have hcan : canB R n = true := by
    have := hy
    rw [canI, nL_zI, Int.toNat_natCast] at this
    exact (and_true' this).2
  obtain ⟨h1, h2⟩ := sp_word ((canB_iff R n).1 hcan)
  rw [bitsFI_ok h]
  have hw : wordOkB m (zI R) (mkM R R.length n : Nat) = true := by
    rw [wordOkB, hc, zI_length, good_of hl1 (by omega) h1]; rfl
  exact ⟨hw, by rw [wordI_ok hw, h2]⟩

theorem dual_code {x : Int} {zs : List Int} (h : dualOkB x zs = true) : codeB x (nullI x zs) = true ∧ dualOkB x (nullI x zs) = true ∧ ((nullI x zs).length : Int) + zs.length = x ∧
    sameOkB x (nullI x (nullI x zs)) zs = true ∧ sameI x (nullI x (nullI x zs)) zs = true := by
  obtain ⟨hc, hlt⟩ := and_true' h
  obtain ⟨m, R, rfl, rfl, hm1, hm2, hl1, hl2, hR, hr, h5⟩ := code_nat hc
  have hlt' : (R.length : Int) < m := by rw [zI_length] at hlt; simpa using hlt
  have hN := null_lt hR
  have hlen := null_length hR
  have e := nullI_ok h5
  have hcN : codeB m (zI (nullL m R)) = true := code_of hm1 hm2 (by omega) (by omega) hN (rank_null m R)
  have h5N := (code_true hcN).2.2.2.2.1
  have e2 := nullI_ok h5N
  have hNN := null_lt hN
  have hl := dual_length hR
  have h5NN : rowsB m (zI (nullL m (nullL m R))) = true := rowsB_zI hm1 (by omega) (by omega) hNN
  have hs : sameOkB m (zI (nullL m (nullL m R))) (zI R) = true := by rw [sameOkB, h5NN, h5]; rfl
  rw [e]
  refine ⟨hcN, ?_, ?_, ?_, ?_⟩
  · rw [dualOkB, hcN, zI_length, Bool.true_and, decide_eq_true_eq]; omega
  · rw [zI_length, zI_length]; omega
  · rw [e2]; exact hs
  · rw [e2, sameI, hs, stepsI_ok h5NN, stepsI_ok h5, steps_congr (dual_dual hR), eqL_self]; rfl
theorem dual_none {x : Int} {zs : List Int} (hc : codeB x zs = true) (h : dualOkB x zs = false) : codeB x (nullI x zs) = false ∧ nullI x zs = [] := by
  obtain ⟨m, R, rfl, rfl, hm1, hm2, hl1, hl2, hR, hr, h5⟩ := code_nat hc
  rw [dualOkB, hc, Bool.true_and, zI_length, decide_eq_false_iff_not] at h
  have hlen := null_length hR
  have e : nullI m (zI R) = [] := by
    rw [nullI_ok h5]
    have : (nullL m R).length = 0 := by omega
    rw [List.eq_nil_of_length_eq_zero this]; rfl
  rw [e]
  refine ⟨?_, rfl⟩
  cases hb : codeB m []
  · rfl
  · have := (code_true hb).2.2.1; simp at this

/-- Fewer wrong bits than half of the least weight are found. -/
theorem near_word {x : Int} {zs : List Int} {y : Int} (h : wordOkB x zs y = true) : ∃ (m w d : Nat), x = m ∧ 1 ≤ m ∧ m ≤ 10 ∧ wordI x zs y = w ∧ w < 2 ^ m ∧ codeB x zs = true ∧ leastI x zs = d ∧ 1 ≤ d ∧ d ≤ m ∧
    ∀ e : Nat, e < 2 ^ m → 2 * cnt m e < d → synOkB x zs (w ^^^ e : Nat) = true ∧ nearI x zs (w ^^^ e : Nat) = w ∧ farI x zs (w ^^^ e : Nat) = cnt m e := by
  obtain ⟨hc, hg⟩ := and_true' h
  obtain ⟨m, R, rfl, rfl, hm1, hm2, hl1, hl2, hR, hr, h5⟩ := code_nat hc
  rw [zI_length] at hg
  obtain ⟨n, rfl, hn⟩ := good_lt hg
  have hL := least_K (w := m) (some_word hr hl1)
  have hw := word_lt hR n
  refine ⟨m, wordN R n, leastK m R (2 ^ R.length), rfl, hm1, hm2, wordI_ok h, hw, hc, leastI_ok hc, ?_, ?_, ?_⟩
  · obtain ⟨v, hv, h0, e⟩ := hL.1
    rw [← e]
    rcases Nat.eq_zero_or_pos (cnt m v) with h1 | h1
    · exfalso
      apply h0
      apply Nat.eq_of_testBit_eq
      intro i
      rw [Nat.zero_testBit]
      by_cases hi : i < m
      · have key : ∀ k, cnt k v = 0 → ∀ i, i < k → v.testBit i = false := by
          intro k
          induction k with
          | zero => intro _ i hi; omega
          | succ k ih =>
            intro hk i hi
            rw [cnt] at hk
            rcases Nat.lt_or_eq_of_le (Nat.le_of_lt_succ hi) with hl | rfl
            · exact ih (by omega) i hl
            · rw [Nat.testBit_eq_decide_div_mod_eq]; simp; omega
        exact key m h1 i hi
      · exact bit_of_lt (Nat.lt_of_lt_of_le (Sp.lt hR hv) (Nat.pow_le_pow_right (by decide) (by omega)))
    · exact h1
  · exact (leastK_inv m R _).1
  · intro e he hd
    have hx := xor_lt hw he
    have hs : synOkB m (zI R) (wordN R n ^^^ e : Nat) = true := by rw [synOkB, hc, good_of hm1 (by omega) hx]; rfl
    obtain ⟨h1, h2⟩ := near_unique (near_K m R (wordN R n ^^^ e)) (near_fix (word_sp R n) hL.2 hd)
    obtain ⟨e1, e2⟩ := nearI_ok hs
    exact ⟨hs, by rw [e1, h1], by rw [e2, h2]⟩
theorem cnt_or_pow (m a k : Nat) : cnt m (a ||| 2 ^ k) ≤ cnt m a + 1 := by
  have key : ∀ j, cnt j (a ||| 2 ^ k) ≤ cnt j a + (if k < j then 1 else 0) := by
    intro j
    induction j with
    | zero => simp [cnt]
    | succ j ih =>
      rw [cnt, cnt]
      have hb : (a ||| 2 ^ k) / 2 ^ j % 2 ≤ a / 2 ^ j % 2 + (if k = j then 1 else 0) := by
        have h1 := Nat.testBit_or a (2 ^ k) j
        rw [Nat.testBit_eq_decide_div_mod_eq, Nat.testBit_eq_decide_div_mod_eq, Nat.testBit_two_pow] at h1
        by_cases hkj : k = j
        · rw [if_pos hkj]; omega
        · rw [if_neg hkj]
          rw [decide_eq_false hkj, Bool.or_false, decide_eq_decide] at h1
          omega
      split at ih <;> split at hb <;> split <;> omega
  have := key m
  split at this <;> omega
end Go.Proofs.YtfkojlpihpgnaaaDoor
