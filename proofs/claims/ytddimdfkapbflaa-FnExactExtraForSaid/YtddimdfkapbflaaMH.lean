/-
  Plain mathematics of chapter 6: the parity pieces, the row of a precoded symbol, the sum that it tells, the least number of symbols that suffice.
-/
import Derived.Test.YtddimdfkapbflaaMF
namespace Go.Proofs.Ytddimdfkapbflaa

/-- The indexes of the source pieces whose sum is parity piece k. -/
def extraL (n k : Nat) : List Nat := (List.range n).filter fun i => decide (k = 0) || decide (i % 2 = 1)
theorem extra_rise (n k : Nat) : Rise n (extraL n k) := ⟨List.Pairwise.filter _ List.pairwise_lt_range, fun _ hi => List.mem_range.1 (List.mem_filter.1 hi).1⟩
theorem extra_snoc (n k : Nat) : extraL (n + 1) k = extraL n k ++ (if (decide (k = 0) || decide (n % 2 = 1)) = true then [n] else []) := by
  unfold extraL
  rw [List.range_succ, List.filter_append]
  cases h : (decide (k = 0) || decide (n % 2 = 1)) <;> simp [h]
def withL (B : List Nat) : List Nat := B ++ [sumN B (extraL B.length 0), sumN B (extraL B.length 1)]
theorem with_length (B : List Nat) : (withL B).length = B.length + 2 := by simp [withL]
/-- What piece p of the intermediate block is, as a row of source pieces. -/
def srcN (n p : Nat) : Nat := if p < n then 2 ^ p else rowN (extraL n (p - n))
theorem src_lt {n p : Nat} : srcN n p < 2 ^ n := by
  unfold srcN
  split
  · rename_i h; exact Nat.pow_lt_pow_right (by omega) h
  · exact rowN_lt (extra_rise n _).2
/-- The coefficient row of a symbol. -/
def row6 (n no : Nat) : Nat := xorL (srcN n) (partsL no (n + 2))
theorem row6_lt (n no : Nat) : row6 n no < 2 ^ n := xorL_lt fun _ _ => src_lt
theorem with_at {B : List Nat} {p : Nat} (h : p < B.length + 2) : (withL B).getD p 0 = sm B B.length (srcN B.length p) := by
  unfold srcN withL
  by_cases hp : p < B.length
  · rw [if_pos hp, sm_pow B hp]
    simp [List.getD, List.getElem?_append_left hp]
  · rw [if_neg hp, sm_row (extra_rise _ _).nodup (extra_rise _ _).2]
    obtain e | e : p = B.length ∨ p = B.length + 1 := by omega
    · subst e; simp [List.getD]
    · subst e; simp [List.getD]
theorem sm_xorL (B : List Nat) (n : Nat) (f : Nat → Nat) : ∀ P : List Nat, sm B n (xorL f P) = xorL (fun p => sm B n (f p)) P
  | [] => sm_zero B n
  | p :: P => by rw [xorL_cons, xorL_cons, sm_xor, sm_xorL B n f P]
/-- A precoded symbol is the sum of the source pieces of its row. -/
theorem raptor_row {B : List Nat} (no : Nat) : sumN (withL B) (partsL no (B.length + 2)) = sm B B.length (row6 B.length no) := by
  have hP := (parts_ok (n := B.length + 2) no (by omega)).1
  rw [row6, sm_xorL, sumN]
  exact xorL_congr fun p hp => with_at (hP.2 p hp)
/-- Gaussian decoding of precoded symbols gives the block's pieces. -/
theorem solve_raptor {B nos : List Nat} {k : Nat} (hk : k < B.length) (hs : Sp (nos.map (row6 B.length)) (2 ^ k)) :
    sumN (nos.map fun no => sumN (withL B) (partsL no (B.length + 2))) (idxL (mkM (nos.map (row6 B.length)) nos.length (2 ^ k)) nos.length) = B.getD k 0 := by
  have e : (nos.map fun no => sumN (withL B) (partsL no (B.length + 2))) = (nos.map (row6 B.length)).map (sm B B.length) := by
    rw [List.map_map]
    exact List.map_congr_left fun no _ => raptor_row no
  have hm := (mkM_spec (rows := nos.map (row6 B.length)) (k := nos.length) (want := 2 ^ k) (by simp) (by rw [List.take_of_length_le (by simp)]; exact hs)).1
  rw [e, sm_idx, sm_lin (sm_zero B B.length) (fun a b => sm_xor B a b B.length), hm, sm_pow B hk]

/-- The least number of symbols, from k on, whose rows have full rank. -/
def smallK (n : Nat) (R : List Nat) : Nat → Nat → Option Nat
  | 0, k => if rank (R.take k) = n then some k else none
  | f + 1, k => if rank (R.take k) = n then some k else smallK n R f (k + 1)
def smallN (n : Nat) (R : List Nat) : Option Nat := smallK n R R.length 0
theorem small_spec {n : Nat} {R : List Nat} : ∀ {f k m : Nat}, smallK n R f k = some m → rank (R.take m) = n ∧ k ≤ m ∧ m ≤ k + f ∧ ∀ j, k ≤ j → j < m → rank (R.take j) ≠ n
  | 0, k, m, h => by
    unfold smallK at h
    split at h
    · rename_i hr; cases h; exact ⟨hr, Nat.le_refl _, Nat.le_refl _, fun j h1 h2 => by omega⟩
    · cases h
  | f + 1, k, m, h => by
    unfold smallK at h
    split at h
    · rename_i hr; cases h; exact ⟨hr, Nat.le_refl _, by omega, fun j h1 h2 => by omega⟩
    · rename_i hr
      obtain ⟨h1, h2, h3, h4⟩ := small_spec h
      refine ⟨h1, by omega, by omega, fun j h5 h6 => ?_⟩
      by_cases e : j = k
      · subst e; exact hr
      · exact h4 j (by omega) h6
theorem small_facts {n m : Nat} {R : List Nat} (h : smallN n R = some m) : rank (R.take m) = n ∧ m ≤ R.length ∧ n ≤ m ∧ ∀ j, j < m → rank (R.take j) ≠ n := by
  obtain ⟨h1, _, h3, h4⟩ := small_spec h
  have := rank_le_length (R.take m)
  rw [List.length_take] at this
  exact ⟨h1, by omega, by omega, fun j hj => h4 j (by omega) hj⟩
end Go.Proofs.Ytddimdfkapbflaa
