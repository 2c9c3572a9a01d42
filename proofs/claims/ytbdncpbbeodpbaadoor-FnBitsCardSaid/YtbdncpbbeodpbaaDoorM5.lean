/-
  Plain mathematics of rows: the Hamming distance's triangle; a row made of its own bits.
-/
import Derived.Test.YtbdncpbbeodpbaaDoorM3
namespace Go.Proofs.YtbdncpbbeodpbaaDoor

theorem cnt_tri (k a b c : Nat) : cnt k (a ^^^ b) ≤ cnt k (a ^^^ c) + cnt k (c ^^^ b) := by
  induction k with
  | zero => simp [cnt]
  | succ k ih =>
    simp only [cnt]
    have h : (a ^^^ b) / 2 ^ k % 2 ≤ (a ^^^ c) / 2 ^ k % 2 + (c ^^^ b) / 2 ^ k % 2 := by
      rw [← Nat.toNat_testBit, ← Nat.toNat_testBit, ← Nat.toNat_testBit, Nat.testBit_xor, Nat.testBit_xor, Nat.testBit_xor]
      cases a.testBit k <;> cases b.testBit k <;> cases c.testBit k <;> decide
    omega

theorem xor_back (a b : Nat) : a ^^^ b ^^^ b = a := by rw [Nat.xor_assoc, Nat.xor_self, Nat.xor_zero]

theorem rowL_append (l r : List Int) : rowL (l ++ r) = r.foldl (fun a k => a ||| 2 ^ k.toNat) (rowL l) := by
  unfold rowL; rw [List.foldl_append]

/-- The bits of a number make the number again. -/
theorem rowL_bits (k n : Nat) : rowL (bitsL k n) = n % 2 ^ k := by
  induction k with
  | zero => simp [bitsL, rowL, Nat.mod_one]
  | succ k ih =>
    apply Nat.eq_of_testBit_eq
    intro i
    by_cases h : n / 2 ^ k % 2 = 1
    · rw [bitsL_yes h, rowL_append, ih]
      simp only [List.foldl_cons, List.foldl_nil, Int.toNat_natCast, Nat.testBit_or, Nat.testBit_mod_two_pow, Nat.testBit_two_pow]
      by_cases e : k = i
      · subst e
        simp [Nat.testBit_eq_decide_div_mod_eq, h]
      · have : (decide (i < k + 1)) = decide (i < k) := decide_eq_decide.2 (by omega)
        simp [e, this]
    · have h0 : n / 2 ^ k % 2 = 0 := by omega
      rw [bitsL_no h0, ih]
      simp only [Nat.testBit_mod_two_pow]
      by_cases e : k = i
      · subst e
        simp [Nat.testBit_eq_decide_div_mod_eq, h0]
      · have : (decide (i < k + 1)) = decide (i < k) := decide_eq_decide.2 (by omega)
        rw [this]

theorem bitsL_rise (k n : Nat) : ∀ l : Int, l ≤ 0 → risB l k (bitsL k n) = true := by
  have gen : ∀ (k : Nat) (c : Int), (k : Int) ≤ c → ∀ l : Int, l ≤ 0 → ∀ r : List Int, (∀ l' : Int, l' ≤ k → risB l' c r = true) → risB l c (bitsL k n ++ r) = true := by
    intro k
    induction k with
    | zero => intro c _ l hl r hr; simpa [bitsL] using hr l (by omega)
    | succ k ih =>
      intro c hc l hl r hr
      by_cases h : n / 2 ^ k % 2 = 1
      · rw [bitsL_yes h, List.append_assoc]
        refine ih c (by omega) l hl _ (fun l' hl' => ?_)
        rw [List.singleton_append, risB, if_neg (by omega)]
        exact hr _ (by push_cast; omega)
      · rw [bitsL_no (by omega)]
        exact ih c (by omega) l hl _ (fun l' hl' => hr l' (by omega))
  intro l hl
  have := gen k k (Int.le_refl _) l hl [] (fun _ _ => rfl)
  simpa using this
end Go.Proofs.YtbdncpbbeodpbaaDoor
