/-
  Plain mathematics of rows: the number of bits that are 1, among the first k; what and, or, xor of two numbers below 2^16 are.
-/
import Derived.Laws.BitsLemmas
namespace Go.Proofs.YtjaeahobmamhoaaDoor

/-- How many of the bits 0 .. k - 1 of n are 1. -/
def cnt : Nat → Nat → Nat
  | 0, _ => 0
  | k + 1, n => cnt k n + n / 2 ^ k % 2

theorem cnt_le (k n : Nat) : cnt k n ≤ k := by
  induction k with
  | zero => exact Nat.le_refl _
  | succ k ih => simp only [cnt]; omega

theorem cnt_stop {j n : Nat} (h : n < 2 ^ j) : ∀ {m : Nat}, j ≤ m → cnt m n = cnt j n := by
  intro m hm
  induction m with
  | zero => obtain rfl : j = 0 := by omega
            rfl
  | succ m ih =>
    by_cases e : j = m + 1
    · rw [e]
    · have hjm : j ≤ m := by omega
      have : n / 2 ^ m = 0 := Nat.div_eq_of_lt (Nat.lt_of_lt_of_le h (Nat.pow_le_pow_right (by decide) hjm))
      simp only [cnt, this, ih hjm, Nat.zero_mod, Nat.add_zero]

theorem and_pow (n k : Nat) : n &&& 2 ^ k = n / 2 ^ k % 2 * 2 ^ k := by
  apply Nat.eq_of_testBit_eq
  intro i
  rw [Nat.testBit_and, Nat.testBit_two_pow, Nat.testBit_mul_two_pow]
  by_cases h : k = i
  · subst h
    simp only [decide_true, Bool.and_true, Nat.le_refl, Bool.true_and, Nat.sub_self]
    rw [Nat.testBit_eq_decide_div_mod_eq, Nat.testBit_eq_decide_div_mod_eq]
    congr 1
    simp
  · rw [decide_eq_false h, Bool.and_false]
    by_cases hk : k ≤ i
    · rw [Nat.testBit_lt_two_pow (x := n / 2 ^ k % 2) (i := i - k)]
      · simp
      · have : 2 ≤ 2 ^ (i - k) := by
          have := Nat.pow_le_pow_right (n := 2) (by decide) (show 1 ≤ i - k by omega)
          simpa using this
        have := Nat.mod_lt (n / 2 ^ k) (by decide : 2 > 0)
        omega
    · simp [hk]

theorem and_pow_ne {n k : Nat} : (n &&& 2 ^ k ≠ 0) ↔ n / 2 ^ k % 2 = 1 := by
  rw [and_pow]
  have h1 := Nat.two_pow_pos k
  have h2 := Nat.mod_lt (n / 2 ^ k) (by decide : 2 > 0)
  constructor
  · intro h
    have : n / 2 ^ k % 2 ≠ 0 := fun e => h (by rw [e]; simp)
    omega
  · intro h
    rw [h]; omega

theorem wrap62 (n : Int) (h₀ : 0 ≤ n) (h₁ : n < 2 ^ 62) : IntKind.i64.wrap n = n := by rw [IntKind.wrap_i64]; omega
theorem and_i64 (a b : Nat) (ha : a < 2 ^ 62) (hb : b < 2 ^ 62) : bits .and .i64 (a : Int) (b : Int) = ((a &&& b : Nat) : Int) := (bits_nat .i64 62 (by decide) wrap62 a b ha hb).1
theorem or_i64 (a b : Nat) (ha : a < 2 ^ 62) (hb : b < 2 ^ 62) : bits .or .i64 (a : Int) (b : Int) = ((a ||| b : Nat) : Int) := (bits_nat .i64 62 (by decide) wrap62 a b ha hb).2
theorem xor_i64 (a b : Nat) (ha : a < 2 ^ 62) (hb : b < 2 ^ 62) : bits .xor .i64 (a : Int) (b : Int) = ((a ^^^ b : Nat) : Int) := by
  have hp : (2 : Nat) ^ 62 ≤ 2 ^ IntKind.i64.bits := Nat.pow_le_pow_right (by decide) (by decide)
  have ha' : a % 2 ^ IntKind.i64.bits = a := Nat.mod_eq_of_lt (Nat.lt_of_lt_of_le ha hp)
  have hb' : b % 2 ^ IntKind.i64.bits = b := Nat.mod_eq_of_lt (Nat.lt_of_lt_of_le hb hp)
  simp only [bits, BitVec.ofInt_natCast, BitVec.toNat_xor, BitVec.toNat_ofNat, ha', hb']
  exact wrap62 _ (Int.natCast_nonneg _) (by exact_mod_cast Nat.xor_lt_two_pow ha hb)
theorem two_pow_le (k : Nat) (h : k ≤ 16) : 2 ^ k ≤ 65536 := Nat.le_trans (Nat.pow_le_pow_right (by decide) h) (by decide)
theorem and_pow_i64 (n k : Nat) (hn : n < 65536) (hk : k ≤ 16) : bits .and .i64 (n : Int) ((2 : Int) ^ k) = ((n &&& 2 ^ k : Nat) : Int) := by
  have h := two_pow_le k hk
  rw [show ((2 : Int) ^ k) = ((2 ^ k : Nat) : Int) by simp, and_i64 n _ (by omega) (by omega)]
theorem and_one_i64 (n : Nat) (hn : n < 65536) : bits .and .i64 (n : Int) 1 = ((n % 2 : Nat) : Int) := by
  rw [show (1 : Int) = ((1 : Nat) : Int) from rfl, and_i64 n 1 (by omega) (by decide), Nat.and_one_is_mod]

theorem xor_lt {a b k : Nat} (ha : a < 2 ^ k) (hb : b < 2 ^ k) : a ^^^ b < 2 ^ k := Nat.xor_lt_two_pow ha hb
theorem and_lt {a b k : Nat} (hb : b < 2 ^ k) : a &&& b < 2 ^ k := Nat.and_lt_two_pow _ hb
end Go.Proofs.YtjaeahobmamhoaaDoor
