/-
  The mathematics of FnBucket: in no interval are more tokens taken than the capacity and what arrives.
-/
import Derived.Test.YtgakklanboabjaaCG
import Derived.Test.YtgakklanboabjaaCE
namespace Go.Proofs.Ytgakklanboabjaa
open Go.RowKit

theorem sum_step (u v : Int) (b : Buc) (x : Wtc) (l : List Wtc) : suS u v (x :: l) (tkS b (x :: l)) = (if (tkB b x && inB x.1 u v) = true then x.2 else 0) + suS u v l (tkS (stBk b x) l) := rfl
theorem inB_no {n lo hi : Int} (h : n < lo ∨ hi < n) : inB n lo hi = false := by simp [inB]; omega
/-- From a bucket at clock c on, u ≤ c: nothing is taken up to v < c; up to v ≥ c at most what is there and what arrives. -/
theorem taken_from (u v : Int) : ∀ (l : List Wtc) (b : Buc), goodBk b = true → okW b l = true → u ≤ b.2.2.2 → (v < b.2.2.2 → suS u v l (tkS b l) = 0) ∧ (b.2.2.2 ≤ v → suS u v l (tkS b l) ≤ b.2.2.1 + b.2.1 * (v - b.2.2.2))
  | [], b, h, _, _ => by
    obtain ⟨h1, h2, h3, h4⟩ := gbk_ok h
    refine ⟨fun _ => rfl, fun hv => ?_⟩
    have := Int.mul_nonneg (show 0 ≤ b.2.1 by omega) (show 0 ≤ v - b.2.2.2 by omega)
    show (0 : Int) ≤ _
    omega
  | x :: l, b, h, hk, hu => by
    obtain ⟨h1, h2, h3, h4⟩ := gbk_ok h
    have hk2 : wnB b x = true ∧ okW (stBk b x) l = true := by simpa [okW] using hk
    have hw : inB x.1 b.2.2.2 10000 = true ∧ inB x.2 1 100 = true := by simpa [wnB, wantB] using hk2.1
    obtain ⟨a0, a1⟩ := inB_andL hw.1
    have hc : (stBk b x).2.2.2 = x.1 := by unfold stBk; split <;> rfl
    have hq : (stBk b x).2.1 = b.2.1 := by unfold stBk; split <;> rfl
    have IH := taken_from u v l (stBk b x) (stBk_good h hk2.1) hk2.2 (by rw [hc]; omega)
    rw [hc, hq] at IH
    rw [sum_step]
    have hf : fillI b.1 b.2.1 b.2.2.1 b.2.2.2 x.1 ≤ b.2.2.1 + b.2.1 * (x.1 - b.2.2.2) := by unfold fillI; omega
    by_cases hv : v < x.1
    · rw [inB_no (Or.inr hv), Bool.and_false, IH.1 hv]
      refine ⟨fun _ => rfl, fun hv2 => ?_⟩
      have := Int.mul_nonneg (show 0 ≤ b.2.1 by omega) (show 0 ≤ v - b.2.2.2 by omega)
      show (0 : Int) ≤ _
      omega
    · refine ⟨fun hv2 => by omega, fun _ => ?_⟩
      have I2 := IH.2 (by omega)
      have e : b.2.1 * (v - b.2.2.2) = b.2.1 * (v - x.1) + b.2.1 * (x.1 - b.2.2.2) := by rw [← Int.mul_add]; congr 1; omega
      rw [e, inB_mkL (by omega) (by omega), Bool.and_true]
      cases ht : tkB b x
      · have hff : (stBk b x).2.2.1 = fillI b.1 b.2.1 b.2.2.1 b.2.2.2 x.1 := by rw [stBk_no ht]
        rw [hff] at I2
        rw [if_neg (by decide)]
        omega
      · have hff : (stBk b x).2.2.1 = fillI b.1 b.2.1 b.2.2.1 b.2.2.2 x.1 - x.2 := by unfold stBk; rw [if_pos ht]
        rw [hff] at I2
        rw [if_pos rfl]
        omega
/-- In any interval at most the capacity and what arrives in it. -/
theorem taken_in (u v : Int) (huv : u ≤ v) : ∀ (l : List Wtc) (b : Buc), goodBk b = true → okW b l = true → suS u v l (tkS b l) ≤ b.1 + b.2.1 * (v - u)
  | [], b, h, _ => by
    obtain ⟨h1, h2, h3, h4⟩ := gbk_ok h
    have := Int.mul_nonneg (show 0 ≤ b.2.1 by omega) (show 0 ≤ v - u by omega)
    show (0 : Int) ≤ _
    omega
  | x :: l, b, h, hk => by
    obtain ⟨h1, h2, h3, h4⟩ := gbk_ok h
    have hk2 : wnB b x = true ∧ okW (stBk b x) l = true := by simpa [okW] using hk
    have hw : inB x.1 b.2.2.2 10000 = true ∧ inB x.2 1 100 = true := by simpa [wnB, wantB] using hk2.1
    obtain ⟨a0, a1⟩ := inB_andL hw.1
    have hc : (stBk b x).2.2.2 = x.1 := by unfold stBk; split <;> rfl
    have hq : (stBk b x).2.1 = b.2.1 := by unfold stBk; split <;> rfl
    have hr : (stBk b x).1 = b.1 := by unfold stBk; split <;> rfl
    have hg := stBk_good h hk2.1
    have hf : fillI b.1 b.2.1 b.2.2.1 b.2.2.2 x.1 ≤ b.1 := by unfold fillI; omega
    rw [sum_step]
    by_cases hux : x.1 < u
    · have IH := taken_in u v huv l (stBk b x) hg hk2.2
      rw [hr, hq] at IH
      rw [inB_no (Or.inl hux), Bool.and_false, if_neg (by decide)]
      omega
    · have IA := taken_from u v l (stBk b x) hg hk2.2 (by rw [hc]; omega)
      rw [hc, hq] at IA
      have hp := Int.mul_nonneg (show 0 ≤ b.2.1 by omega) (show 0 ≤ v - u by omega)
      by_cases hv : v < x.1
      · rw [inB_no (Or.inr hv), Bool.and_false, IA.1 hv, if_neg (by decide)]
        omega
      · have I2 := IA.2 (by omega)
        have hm : b.2.1 * (v - x.1) ≤ b.2.1 * (v - u) := Int.mul_le_mul_of_nonneg_left (by omega) (by omega)
        rw [inB_mkL (by omega) (by omega), Bool.and_true]
        cases ht : tkB b x
        · have hff : (stBk b x).2.2.1 = fillI b.1 b.2.1 b.2.2.1 b.2.2.2 x.1 := by rw [stBk_no ht]
          rw [hff] at I2
          rw [if_neg (by decide)]
          omega
        · have hff : (stBk b x).2.2.1 = fillI b.1 b.2.1 b.2.2.1 b.2.2.2 x.1 - x.2 := by unfold stBk; rw [if_pos ht]
          rw [hff] at I2
          rw [if_pos rfl]
          omega
theorem okW_mem : ∀ (l : List Wtc) (b : Buc), okW b l = true → ∀ x ∈ l, b.2.2.2 ≤ x.1 ∧ x.1 ≤ 10000 ∧ szB x = true
  | x :: l, b, hk, y, hy => by
    have hk2 : wnB b x = true ∧ okW (stBk b x) l = true := by simpa [okW] using hk
    have hw : inB x.1 b.2.2.2 10000 = true ∧ inB x.2 1 100 = true := by simpa [wnB, wantB] using hk2.1
    obtain ⟨a0, a1⟩ := inB_andL hw.1
    have hc : (stBk b x).2.2.2 = x.1 := by unfold stBk; split <;> rfl
    rcases List.mem_cons.1 hy with rfl | hy
    · exact ⟨a0, a1, hw.2⟩
    · obtain ⟨m1, m2, m3⟩ := okW_mem l (stBk b x) hk2.2 y hy
      rw [hc] at m1
      exact ⟨by omega, m2, m3⟩
theorem okW_mono : ∀ (l : List Wtc) (b : Buc), okW b l = true → ∀ (i j : Nat) (hij : i ≤ j) (hj : j < l.length), (l[i]'(by omega)).1 ≤ l[j].1
  | x :: l, b, hk, 0, j, _, hj => by
    have hk2 : wnB b x = true ∧ okW (stBk b x) l = true := by simpa [okW] using hk
    have hc : (stBk b x).2.2.2 = x.1 := by unfold stBk; split <;> rfl
    cases j with
    | zero => exact Int.le_refl _
    | succ j =>
      have := (okW_mem l (stBk b x) hk2.2 _ (List.getElem_mem (show j < l.length by simpa using hj))).1
      rw [hc] at this
      exact this
  | x :: l, b, hk, i + 1, j, hij, hj => by
    have hk2 : wnB b x = true ∧ okW (stBk b x) l = true := by simpa [okW] using hk
    cases j with
    | zero => omega
    | succ j => exact okW_mono l (stBk b x) hk2.2 i j (by omega) (by simpa using hj)
theorem bucket_math {b : Buc} {l : List Wtc} (h : pbOk b l = true) (i j : Nat) (hij : i ≤ j) (hj : j < l.length) :
    suOk l (pbT b l) (l[i]'(by omega)).1 l[j].1 = true ∧ suI l (pbT b l) (l[i]'(by omega)).1 l[j].1 ≤ b.1 + b.2.1 * (l[j].1 - (l[i]'(by omega)).1) ∧ (0 ≤ b.2.1 * (l[j].1 - (l[i]'(by omega)).1) ∧ b.2.1 * (l[j].1 - (l[i]'(by omega)).1) ≤ 200000) ∧ (0 ≤ (l[i]'(by omega)).1 ∧ (l[i]'(by omega)).1 ≤ 10000) ∧ (0 ≤ l[j].1 ∧ l[j].1 ≤ 10000) ∧ (0 ≤ b.1 ∧ b.1 ≤ 100) := by
  have h2 : (goodBk b = true ∧ l.length ≤ 40) ∧ okW b l = true := by simpa [pbOk] using h
  obtain ⟨⟨hg, h40⟩, hk⟩ := h2
  obtain ⟨h1, h2, h3, h4⟩ := gbk_ok hg
  have hT : pbT b l = tkS b l := by rw [pbT, if_pos h]
  rw [hT]
  have hi := okW_mem l b hk (l[i]'(by omega)) (List.getElem_mem _)
  have hj' := okW_mem l b hk l[j] (List.getElem_mem _)
  have hm := okW_mono l b hk i j hij hj
  have hall : l.all szB = true := List.all_eq_true.2 fun x hx => (okW_mem l b hk x hx).2.2
  generalize (l[i]'(by omega)).1 = u at *
  generalize l[j].1 = v at *
  have hok : suOk l (tkS b l) u v = true := by
    rw [suOk, hall, decide_eq_true h40, tkS_len, decide_eq_true rfl, ckB, ckB, inB_mkL (by omega) hi.2.1, inB_mkL (by omega) hj'.2.1]; rfl
  refine ⟨hok, ?_, flow13 h2 hm (by omega) hj'.2.1, ⟨by omega, hi.2.1⟩, ⟨by omega, hj'.2.1⟩, by omega, h1.2⟩
  rw [(su_yes hok).1]
  exact taken_in u v hm l b hg hk
theorem pb_good {b : Buc} {l : List Wtc} (h : pbOk b l = true) : goodBk (pbL b l) = true := by
  have h2 : (goodBk b = true ∧ l.length ≤ 40) ∧ okW b l = true := by simpa [pbOk] using h
  rw [pbL, if_pos h]
  exact foldB_good l b h2.1.1 h2.2
end Go.Proofs.Ytgakklanboabjaa
