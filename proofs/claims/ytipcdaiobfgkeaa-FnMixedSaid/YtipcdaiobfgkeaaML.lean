/-
  Plain mathematics for chapter 8: where the interleaver stores a value and where it came from, losses of a burst, parity of lines, lost values mended.
-/
import Derived.Test.YtipcdaiobfgkeaaT1
namespace Go.Proofs.Ytipcdaiobfgkeaa
open Go.RowKit

/-- The index in lines of b values of what has index k in lines of a values. -/
def plN (a b k : Nat) : Nat := k % a * b + k / a
theorem pl_lt {a b k : Nat} (h : k < a * b) : plN a b k < a * b := by
  have ha : 0 < a := by rcases Nat.eq_zero_or_pos a with rfl | h0; (· simp at h); exact h0
  have h1 : k % a < a := Nat.mod_lt _ ha
  have h2 : k / a < b := Nat.div_lt_of_lt_mul h
  have h3 : (k % a + 1) * b ≤ a * b := Nat.mul_le_mul_right b (by omega)
  rw [Nat.succ_mul] at h3
  unfold plN; omega
theorem pl_pl {a b k : Nat} (h : k < a * b) : plN b a (plN a b k) = k := by
  have h2 : k / a < b := Nat.div_lt_of_lt_mul h
  have hb : 0 < b := Nat.lt_of_le_of_lt (Nat.zero_le _) h2
  unfold plN
  rw [Nat.add_comm (k % a * b), Nat.add_mul_mod_self_right, Nat.mod_eq_of_lt h2, Nat.add_mul_div_right _ _ hb, Nat.div_eq_of_lt h2, Nat.zero_add, Nat.mul_comm]
  exact Nat.div_add_mod k a
/-- What stands at each index: taken from the place that the other order gives it. -/
def perm8 (a b : Nat) (L : List Nat) : List Nat := (List.range (a * b)).map fun p => L.getD (plN a b p) 0
theorem perm8_length (a b : Nat) (L : List Nat) : (perm8 a b L).length = a * b := by simp [perm8]
theorem perm8_at {a b : Nat} {L : List Nat} {p : Nat} (h : p < a * b) : (perm8 a b L).getD p 0 = L.getD (plN a b p) 0 := by simp [perm8, List.getD, h]
theorem perm8_back {a b : Nat} {L : List Nat} (hL : L.length = a * b) : perm8 a b (perm8 b a L) = L := by
  refine List.ext_getElem (by rw [perm8_length, hL]) fun p h1 h2 => ?_
  have hp : p < a * b := by rw [hL] at h2; exact h2
  have hq : plN a b p < b * a := by rw [Nat.mul_comm]; exact pl_lt hp
  have e := perm8_at (L := perm8 b a L) hp
  rw [perm8_at hq, pl_pl hp] at e
  simpa [List.getD, h1, h2] using e
/-- The list that is being filled: what was read so far stands at its place, zeros elsewhere. -/
def fill8 (a b : Nat) (L : List Nat) (k : Nat) : List Nat := (List.range (a * b)).map fun p => if plN b a p < k then L.getD (plN b a p) 0 else 0
theorem fill8_length (a b : Nat) (L : List Nat) (k : Nat) : (fill8 a b L k).length = a * b := by simp [fill8]
theorem fill8_zero (a b : Nat) (L : List Nat) : fill8 a b L 0 = List.replicate (a * b) 0 := by
  refine List.ext_getElem (by simp [fill8]) fun p h1 h2 => ?_
  simp [fill8]
theorem fill8_step {a b : Nat} {L : List Nat} {k : Nat} (h : k < a * b) : fill8 a b L (k + 1) = (fill8 a b L k).set (plN a b k) (L.getD k 0) := by
  refine List.ext_getElem (by simp [fill8]) fun p h1 h2 => ?_
  have hp : p < b * a := by rw [fill8_length] at h1; rw [Nat.mul_comm]; exact h1
  rw [List.getElem_set]
  by_cases e : plN a b k = p
  · subst e
    simp [fill8, pl_pl h]
  · have ne : plN b a p ≠ k := by
      rintro rfl
      exact e (pl_pl hp)
    simp only [fill8, List.getElem_map, List.getElem_range, if_neg e]
    by_cases hlt : plN b a p < k
    · rw [if_pos hlt, if_pos (by omega)]
    · rw [if_neg hlt, if_neg (by omega)]
theorem fill8_end (a b : Nat) (L : List Nat) : fill8 a b L (a * b) = perm8 b a L := by
  refine List.ext_getElem (by rw [fill8_length, perm8_length, Nat.mul_comm]) fun p h1 h2 => ?_
  have hp : p < b * a := by rw [perm8_length] at h2; exact h2
  have hq := pl_lt hp
  simp only [fill8, perm8, List.getElem_map, List.getElem_range]
  rw [if_pos (by rw [Nat.mul_comm a b]; exact hq)]
/-- The losses of a burst: how many of its values each line had. -/
def loss8 (n f : Nat) : Nat → List Nat
  | 0 => List.replicate n 0
  | t + 1 => (loss8 n f t).set ((f + t) % n) ((loss8 n f t).getD ((f + t) % n) 0 + 1)
theorem loss8_length (n f : Nat) : ∀ t, (loss8 n f t).length = n
  | 0 => by simp [loss8]
  | t + 1 => by rw [loss8, List.length_set, loss8_length n f t]
theorem loss8_le (n f : Nat) : ∀ t r, (loss8 n f t).getD r 0 ≤ t
  | 0, r => by
    rw [loss8, List.getD, List.getElem?_replicate]
    split <;> simp
  | t + 1, r => by
    have h1 := loss8_le n f t r
    have h2 := loss8_le n f t ((f + t) % n)
    rw [loss8, List.getD, List.getElem?_set]
    split
    · split
      · simp only [Option.getD_some]; omega
      · simp
    · have : (loss8 n f t)[r]?.getD 0 ≤ t := h1
      omega
theorem mod_ne {n f s t : Nat} (h1 : s < t) (h2 : t < s + n) : (f + s) % n ≠ (f + t) % n := fun e => by
  have hn : 0 < n := by omega
  have q1 := Nat.div_add_mod (f + s) n
  have q2 := Nat.div_add_mod (f + t) n
  rw [e] at q1
  have hlt : (f + s) / n < (f + t) / n := by
    rcases Nat.lt_or_ge ((f + s) / n) ((f + t) / n) with h | h
    · exact h
    · have := Nat.mul_le_mul_left n h; omega
  have := Nat.mul_le_mul_left n (show (f + s) / n + 1 ≤ (f + t) / n from hlt)
  rw [Nat.mul_succ] at this
  omega
/-- A burst of at most as many losses as there are lines hits each line at most once. -/
theorem loss8_one {n f : Nat} : ∀ {t : Nat}, t ≤ n → ∀ r, (loss8 n f t).getD r 0 ≤ 1 ∧ ((loss8 n f t).getD r 0 = 1 → ∃ s, s < t ∧ (f + s) % n = r)
  | 0, _, r => by
    have h := loss8_le n f 0 r
    exact ⟨by omega, fun e => by omega⟩
  | t + 1, ht, r => by
    have h1 := loss8_one (f := f) (show t ≤ n by omega) r
    have h2 := loss8_one (f := f) (show t ≤ n by omega) ((f + t) % n)
    have h0 : (loss8 n f t).getD ((f + t) % n) 0 = 0 := by
      rcases Nat.lt_or_ge ((loss8 n f t).getD ((f + t) % n) 0) 1 with h | h
      · omega
      · obtain ⟨s, hs, e⟩ := h2.2 (by omega)
        exact absurd e (mod_ne hs (by omega))
    rw [loss8, h0, List.getD, List.getElem?_set]
    split
    · rename_i e
      split
      · exact ⟨by simp, fun _ => ⟨t, by omega, e⟩⟩
      · exact ⟨by simp, fun e => by simp at e⟩
    · refine ⟨h1.1, fun e => ?_⟩
      obtain ⟨s, hs, e'⟩ := h1.2 e
      exact ⟨s, by omega, e'⟩
/-- The parity of each line of the first k values. -/
def par8 (per n : Nat) (L : List Nat) : Nat → List Nat
  | 0 => List.replicate n 0
  | k + 1 => (par8 per n L k).set (k / per) ((par8 per n L k).getD (k / per) 0 ^^^ L.getD k 0)
theorem par8_length (per n : Nat) (L : List Nat) : ∀ k, (par8 per n L k).length = n
  | 0 => by simp [par8]
  | k + 1 => by rw [par8, List.length_set, par8_length per n L k]
/-- The parity of line r of the first k values. -/
def lin8 (per : Nat) (L : List Nat) (r : Nat) : Nat → Nat
  | 0 => 0
  | k + 1 => if k / per = r then lin8 per L r k ^^^ L.getD k 0 else lin8 per L r k
theorem par8_at {per n : Nat} {L : List Nat} {r : Nat} (hr : r < n) : ∀ k, (par8 per n L k).getD r 0 = lin8 per L r k
  | 0 => by simp [par8, lin8, List.getD, hr]
  | k + 1 => by
    have ih := par8_at (per := per) (L := L) hr k
    rw [par8, lin8, List.getD, List.getElem?_set]
    by_cases e : k / per = r
    · subst e
      rw [if_pos rfl, if_pos (by rw [par8_length]; exact hr), if_pos rfl, Option.getD_some, ih]
    · rw [if_neg e, if_neg e]; exact ih
theorem lin8_lt {per : Nat} {L : List Nat} (h : ∀ c ∈ L, c < 256) (r : Nat) : ∀ k, lin8 per L r k < 256
  | 0 => by simp [lin8]
  | k + 1 => by
    rw [lin8]
    split
    · refine Nat.xor_lt_two_pow (n := 8) (lin8_lt h r k) ?_
      rw [List.getD]
      cases hq : L[k]? with
      | none => simp
      | some c => exact h c (List.mem_of_getElem? hq)
    · exact lin8_lt h r k
theorem par8_lt {per n : Nat} {L : List Nat} (h : ∀ c ∈ L, c < 256) (k : Nat) : ∀ c ∈ par8 per n L k, c < 256 := fun c hc => by
  obtain ⟨r, hr, rfl⟩ := List.getElem_of_mem hc
  have hrn : r < n := by rw [par8_length] at hr; exact hr
  have := par8_at (per := per) (L := L) hrn k
  rw [List.getD, List.getElem?_eq_getElem hr, Option.getD_some] at this
  rw [this]; exact lin8_lt h r k
theorem lin8_congr {per : Nat} {L L' : List Nat} {r : Nat} : ∀ {k : Nat}, (∀ j, j < k → j / per = r → L.getD j 0 = L'.getD j 0) → lin8 per L r k = lin8 per L' r k
  | 0, _ => rfl
  | k + 1, h => by
    rw [lin8, lin8, lin8_congr (fun j hj e => h j (by omega) e)]
    split
    · rename_i e; rw [h k (by omega) e]
    · rfl
theorem getD_set8 {L : List Nat} {j k x : Nat} (hk : k < L.length) : (L.set k x).getD j 0 = if j = k then x else L.getD j 0 := by
  rw [List.getD, List.getElem?_set]
  by_cases e : j = k
  · subst e; simp [hk]
  · rw [if_neg (fun h => e h.symm), if_neg e]; rfl
/-- The parity of a line with one of its values set to zero, and that value, make the parity of the line. -/
theorem lin8_zero {per : Nat} {L : List Nat} {i : Nat} (hi : i < L.length) : ∀ {k : Nat}, i < k → lin8 per (L.set i 0) (i / per) k ^^^ L.getD i 0 = lin8 per L (i / per) k
  | 0, h => by omega
  | k + 1, h => by
    by_cases e : i = k
    · subst e
      have hc : lin8 per (L.set i 0) (i / per) i = lin8 per L (i / per) i := lin8_congr (fun j hj _ => by rw [getD_set8 hi, if_neg (by omega)])
      rw [lin8, lin8, if_pos rfl, if_pos rfl, hc, getD_set8 hi, if_pos rfl, Nat.xor_zero]
    · have ih := lin8_zero (per := per) hi (show i < k by omega)
      have hg : (L.set i 0).getD k 0 = L.getD k 0 := by rw [getD_set8 hi, if_neg (fun h => e h.symm)]
      rw [lin8, lin8, hg]
      split
      · rw [← ih, Nat.xor_assoc, Nat.xor_assoc, Nat.xor_comm (L.getD k 0)]
      · exact ih
/-- Lost values mended one by one: each in a line of its own. -/
def mend8 (per : Nat) (S : List Nat) : List Nat → Int → List Nat → Option (List Nat)
  | L, _, [] => some L
  | L, was, k :: ks => if ((k / per : Nat) : Int) = was then none else mend8 per S (L.set k (lin8 per (L.set k 0) (k / per) L.length ^^^ S.getD (k / per) 0)) ((k / per : Nat) : Int) ks
theorem mend8_length {per : Nat} {S : List Nat} : ∀ {K L : List Nat} {was : Int} {R : List Nat}, mend8 per S L was K = some R → R.length = L.length
  | [], L, was, R, h => by cases h; rfl
  | k :: ks, L, was, R, h => by
    rw [mend8] at h
    split at h
    · cases h
    · rw [mend8_length h, List.length_set]
theorem mend8_some {per : Nat} {S S' : List Nat} : ∀ {K L L' : List Nat} {was : Int}, (mend8 per S L was K).isSome = (mend8 per S' L' was K).isSome
  | [], _, _, _ => rfl
  | k :: ks, L, L', was => by
    rw [mend8, mend8]
    split
    · rfl
    · exact mend8_some
theorem mend8_lt {per : Nat} {S : List Nat} (hS : ∀ c ∈ S, c < 256) : ∀ {K L : List Nat} {was : Int} {R : List Nat}, (∀ c ∈ L, c < 256) → mend8 per S L was K = some R → ∀ c ∈ R, c < 256
  | [], L, was, R, hL, h => by cases h; exact hL
  | k :: ks, L, was, R, hL, h => by
    rw [mend8] at h
    split at h
    · cases h
    · refine mend8_lt hS ?_ h
      intro c hc
      rcases List.mem_or_eq_of_mem_set hc with hc | rfl
      · exact hL c hc
      · refine Nat.xor_lt_two_pow (n := 8) (lin8_lt (fun c hc => ?_) _ _) ?_
        · rcases List.mem_or_eq_of_mem_set hc with hc | rfl
          · exact hL c hc
          · omega
        · rw [List.getD]
          cases hq : S[k / per]? with
          | none => simp
          | some c => exact hS c (List.mem_of_getElem? hq)
/-- One lost value in each line is restored from the parity of its line. -/
theorem mend8_right {per : Nat} {S L0 : List Nat} (hS : ∀ i, i < L0.length → S.getD (i / per) 0 = lin8 per L0 (i / per) L0.length) : ∀ {K L : List Nat} {was : Int} {R : List Nat}, L.length = L0.length → K.Pairwise (· < ·) → (∀ k ∈ K, k < L0.length) → (∀ j, j < L0.length → j ∉ K → L.getD j 0 = L0.getD j 0) → mend8 per S L was K = some R → R = L0
  | [], L, was, R, hl, _, _, hoff, h => by
    cases h
    refine List.ext_getElem hl fun j h1 h2 => ?_
    have := hoff j h2 (by simp)
    simpa [List.getD, h1, h2] using this
  | k :: ks, L, was, R, hl, hr, hk, hoff, h => by
    rw [mend8] at h
    split at h
    · cases h
    · have hk0 : k < L0.length := hk k (by simp)
      have hkl : k < L.length := by omega
      rw [List.pairwise_cons] at hr
      have hline : ∀ j ∈ ks, j / per ≠ k / per := by
        cases ks with
        | nil => intro j hj; cases hj
        | cons k2 ks2 =>
          have hne : k2 / per ≠ k / per := fun e => by
            rw [mend8, if_pos (by rw [e])] at h
            cases h
          have h12 : k / per ≤ k2 / per := Nat.div_le_div_right (Nat.le_of_lt (hr.1 k2 (by simp)))
          intro j hj
          have h2j : k2 / per ≤ j / per := by
            rcases List.mem_cons.1 hj with rfl | hj
            · exact Nat.le_refl _
            · exact Nat.div_le_div_right (Nat.le_of_lt ((List.pairwise_cons.1 hr.2).1 j hj))
          omega
      have hv : lin8 per (L.set k 0) (k / per) L.length ^^^ S.getD (k / per) 0 = L0.getD k 0 := by
        rw [hS k hk0, hl, ← lin8_zero (per := per) hk0 hk0]
        rw [lin8_congr (L := L.set k 0) (L' := L0.set k 0) (fun j hj e => by
          rw [getD_set8 hkl, getD_set8 hk0]
          split
          · rfl
          · rename_i hjk
            exact hoff j hj (fun hm => by
              rcases List.mem_cons.1 hm with e' | hm
              · exact hjk e'
              · exact hline j hm e))]
        rw [← Nat.xor_assoc, Nat.xor_self, Nat.zero_xor]
      rw [hv] at h
      refine mend8_right hS (by rw [List.length_set, hl]) hr.2 (fun j hj => hk j (by simp [hj])) ?_ h
      intro j hj hjk
      rw [getD_set8 hkl]
      split
      · rename_i e; rw [e]
      · rename_i e
        exact hoff j hj (fun hm => by
          rcases List.mem_cons.1 hm with e' | hm
          · exact e e'
          · exact hjk hm)
end Go.Proofs.Ytipcdaiobfgkeaa
