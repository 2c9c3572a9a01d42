/-
  What the laws of the drawn rows (FnMade, FnSteps) ask of the model: what is made sums to what was asked, the made rows are two to the rank, steps are steps again, null rows meet no row, turned rows have the rank.
-/
import Derived.Test.YtfkojlpihpgnaaaDoorV0
namespace Go.Proofs.YtfkojlpihpgnaaaDoor
open Go.RowKit

theorem rowsB_zI {m : Nat} {R : List Nat} (h1 : 1 ≤ m) (h2 : m ≤ 16) (hl : R.length ≤ 20) (h : ∀ r ∈ R, r < 2 ^ m) : rowsB m (zI R) = true := by
  have hw : wideB (m : Int) = true := wideB_true (by omega) (by omega)
  rw [rowsB_all hw (by rw [zI_length]; exact hl), allG, List.all_eq_true]
  intro z hz
  obtain ⟨r, hr, rfl⟩ := List.mem_map.1 hz
  rw [goodB_wide _ hw]
  have := h r hr
  have h3 : ((r : Nat) : Int) < (2 : Int) ^ m := by exact_mod_cast this
  simp [h3]

theorem can_two {x : Int} {zs : List Int} {y : Int} (h : canI x zs y = true) : twoOkB x zs y = true := by
  cases h' : twoOkB x zs y
  · rw [canI, h'] at h; cases h
  · rfl

theorem idxL_mem {m k i : Nat} : i ∈ idxL m k ↔ i < k ∧ m.testBit i = true := by simp [idxL]
theorem risB_append {c : Int} : ∀ (a : List Int) {l : Int} (z : Int), risB l c a = true → (∀ y ∈ a, y < z) → l ≤ z → z < c → risB l c (a ++ [z]) = true
  | [], l, z, _, _, h1, h2 => by simp [risB]; omega
  | y :: a, l, z, h, hy, h1, h2 => by
    rw [List.cons_append, risB]
    rw [risB] at h
    split at h
    · cases h
    · rename_i hn
      rw [if_neg hn]
      exact risB_append a z h (fun u hu => hy u (by simp [hu])) (by have := hy y (by simp); omega) h2
theorem idxL_rise (m n : Nat) : ∀ k, k ≤ n → risB 0 n (zI (idxL m k)) = true
  | 0, _ => rfl
  | k + 1, h => by
    have ih := idxL_rise m n k (by omega)
    rw [idxL_succ]
    split
    · have e : zI (idxL m k ++ [k]) = zI (idxL m k) ++ [(k : Int)] := by simp [zI]
      rw [e]
      refine risB_append _ _ ih (fun y hy => ?_) (by omega) (by omega)
      obtain ⟨i, hi, rfl⟩ := List.mem_map.1 hy
      have := (idxL_mem.1 hi).1
      show ((i : Nat) : Int) < k
      omega
    · simpa using ih
theorem sumL_idx (R : List Nat) (m : Nat) : ∀ k, sumL (zI R) (zI (idxL m k)) = sm R k m
  | 0 => rfl
  | k + 1 => by
    have ih := sumL_idx R m k
    rw [idxL_succ, sm, ← ih]
    split
    · have e : zI (idxL m k ++ [k]) = zI (idxL m k) ++ [(k : Int)] := by simp [zI]
      rw [e, sumL, List.foldl_append]
      show _ ^^^ ((zI R).getD (Int.toNat (k : Int)) 0).toNat = _
      rw [Int.toNat_natCast]
      have : ((zI R).getD k 0).toNat = R.getD k 0 := by
        simp only [zI, List.getD_eq_getElem?_getD, List.getElem?_map]
        cases R[k]? <;> simp
      rw [this]; rfl
    · simp

/-- What MakeBy tells sums to what was asked. -/
theorem make_sum {x : Int} {zs : List Int} {y : Int} (h : canI x zs y = true) : sumOkB x zs (makeI x zs y) = true ∧ sumI x zs (makeI x zs y) = y := by
  obtain ⟨h1, h2⟩ := twoOk_true (can_two h)
  obtain ⟨m, R, rfl, rfl, hm1, hm2, hl, hR⟩ := rows_nat h1
  obtain ⟨m', n, hmm, rfl, _, _, hn⟩ := good_nat h2
  have hc : canB R n = true := by
    have := h
    rw [canI, nL_zI, Int.toNat_natCast] at this
    simp at this; exact this.2
  rw [makeI_ok h]
  have hs : sm R R.length (mkM R R.length n) = n := (mkM_spec (Nat.le_refl _) (by rw [List.take_length]; exact (canB_iff R n).1 hc)).1
  have hok : sumOkB m (zI R) (zI (idxL (mkM R R.length n) R.length)) = true := by
    rw [sumOkB, h1, zI_length, idxL_rise _ _ _ (Nat.le_refl _)]; rfl
  refine ⟨hok, ?_⟩
  rw [sumI, if_pos hok, sumL_idx, hs]

/-- The rows that can be made are as many as two to the rank. -/
theorem span_rank {x : Int} {zs : List Int} (h : spanOkB x zs = true) : ∃ r : Nat, r ≤ 8 ∧ rankI x zs = r ∧ (spanI x zs).length = 2 ^ r ∧ rowsB x zs = true := by
  obtain ⟨h1, h2⟩ := spanOk_true h
  obtain ⟨m, R, rfl, rfl, hm1, hm2, hl, hR⟩ := rows_nat h1
  refine ⟨rank R, Nat.le_trans (rank_le_width hR) (by omega), ?_, ?_, h1⟩
  · rw [rankI, stepsI_ok h1, zI_length]; rfl
  · rw [spanI_ok h, zI_length]; exact span_count hR

/-- Steps make the same as the rows, and are steps again. -/
theorem steps_again {x : Int} {zs : List Int} (h : rowsB x zs = true) : rowsB x (stepsI x zs) = true ∧ stepsI x (stepsI x zs) = stepsI x zs ∧ sameOkB x zs (stepsI x zs) = true ∧ sameI x zs (stepsI x zs) = true := by
  obtain ⟨m, R, rfl, rfl, hm1, hm2, hl, hR⟩ := rows_nat h
  have e := stepsI_ok h
  have hr : rowsB m (zI (steps R)) = true := rowsB_zI hm1 hm2 (Nat.le_trans (rank_le_length R) hl) (steps_lt hR)
  have e2 := stepsI_ok hr
  rw [steps_steps] at e2
  have hs : sameOkB m (zI R) (zI (steps R)) = true := by rw [sameOkB, h, hr]; rfl
  rw [e]
  exact ⟨hr, e2, hs, by rw [sameI, hs, e, e2, eqL_self]; rfl⟩

theorem null_rank {x : Int} {zs : List Int} (h : rowsB x zs = true) : ((nullI x zs).length : Int) + rankI x zs = x := by
  obtain ⟨m, R, rfl, rfl, hm1, hm2, hl, hR⟩ := rows_nat h
  have := null_length hR
  rw [rankI, stepsI_ok h, nullI_ok h, zI_length, zI_length]
  unfold rank at this
  omega

/-- A null row and a row: both are good, and their dot is 0. -/
theorem null_dot {m : Nat} {R : List Nat} (hm : 1 ≤ m) (hm2 : m ≤ 16) (hR : ∀ r ∈ R, r < 2 ^ m) {a b : Nat} (ha : a ∈ nullL m R) (hb : b ∈ R) : twoB m a b = true ∧ a < 2 ^ m ∧ b < 2 ^ m ∧ cnt m (a &&& b) % 2 = 0 := by
  have hn := (null_sp hR a).1 (Sp.mem ha)
  have hb' := hR b hb
  have hw : wideB (m : Int) = true := wideB_true (by omega) (by omega)
  refine ⟨?_, hn.1, hb', ?_⟩
  · rw [twoB, goodB_wide _ hw, goodB_wide _ hw]
    have h3 : ((a : Nat) : Int) < (2 : Int) ^ m := by exact_mod_cast hn.1
    have h4 : ((b : Nat) : Int) < (2 : Int) ^ m := by exact_mod_cast hb'
    simp [h3, h4]
  · rw [dotB_cnt, hn.2 b hb]; rfl

/-- The turned rows have the rank of the rows. -/
theorem turn_rank {x : Int} {zs : List Int} (h : rowsB x zs = true) (h1 : 1 ≤ zs.length) (h2 : zs.length ≤ 16) :
    turnOkB x zs = true ∧ rowsB zs.length (turnI x zs) = true ∧ rankI zs.length (turnI x zs) = rankI x zs := by
  obtain ⟨m, R, rfl, rfl, hm1, hm2, hl, hR⟩ := rows_nat h
  rw [zI_length] at *
  have hk : turnOkB m (zI R) = true := by rw [turnOkB, h, zI_length, wideB_true (by omega) (by omega)]; rfl
  have hr : rowsB (R.length : Int) (zI (tabL m (col R))) = true :=
    rowsB_zI h1 h2 (by rw [tabL_length]; omega) (fun r hr => by
      obtain ⟨k, _, rfl⟩ := List.mem_map.1 hr
      exact col_lt R k)
  rw [turnI_ok hk]
  refine ⟨hk, hr, ?_⟩
  rw [rankI, rankI, stepsI_ok hr, stepsI_ok h, zI_length, zI_length]
  have := rank_turn hR
  unfold rank turn at this
  unfold tabL
  omega
end Go.Proofs.YtfkojlpihpgnaaaDoor
