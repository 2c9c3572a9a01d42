/-
  What FnWrong asks of the model: what ReadWrong finds; two wrong values of six are corrected.
-/
import Derived.Test.YtnlfaiedfjcgpaaDoorVI
namespace Go.Proofs.YtnlfaiedfjcgpaaDoor
open Go.RowKit

theorem rd_ok {k : Int} {ps : List (Int × Int)} {wr : Int} (h : rdOkB k ps wr = true) : agOkB (rdI k ps wr) ps = true ∧ (ps.length : Int) - wr ≤ agI (rdI k ps wr) ps ∧ agI (rdI k ps wr) ps ≤ 16 ∧ ((rdI k ps wr).length : Int) = k ∧ 0 ≤ wr ∧ wr ≤ 3 := by
  cases hpre : rdPreB k ps wr
  · rw [(rd_not hpre).2] at h; cases h
  · have hh := hpre
    simp only [rdPreB, Bool.and_eq_true] at hh
    have hw3 : 0 ≤ wr ∧ wr ≤ 3 := by simpa [inB] using hh.2
    have hg : goodPB ps = true := by have h1 := hh.1; simp only [enB7, Bool.and_eq_true] at h1; exact h1.2.1
    obtain ⟨m, Q, rfl, rfl, hm1, hm8, hmQ, hQ16, hQ⟩ := en_nat hh.1
    obtain ⟨wN, rfl⟩ := Int.eq_ofNat_of_zero_le hw3.1
    rw [rdOkB, rdN, if_pos hpre, natL_intL, Int.toNat_natCast, Int.toNat_natCast] at h
    have e : rdI (m : Int) (intL Q) (wN : Int) = zI ((readN m Q wN).getD []) := by
      rw [rdI, rdN, if_pos hpre, natL_intL, Int.toNat_natCast, Int.toNat_natCast]
    rw [e]
    cases hr : readN m Q wN with
    | none => rw [hr] at h; cases h
    | some R =>
      obtain ⟨j, hj, rfl, hag⟩ := read_spec hr
      obtain ⟨hl, hb⟩ := from_len (sub_places hQ j)
      rw [sub_length, hj] at hl
      rw [Option.getD_some]
      generalize fromN (subQ Q j) = R at *
      have hal : allIn (zI R) 256 = true := by
        rw [allIn, List.all_eq_true]
        intro z hz
        obtain ⟨c, hc, rfl⟩ := List.mem_map.1 hz
        have := hb c hc
        simp [inB]; omega
      have hpo : polB7 (zI R) = true := by
        rw [polB7, hal, zI_length]
        simp [inB]; omega
      have hok : agOkB (zI R) (intL Q) = true := by rw [agOkB, hpo, hg]; rfl
      have hle := agree_le R Q
      refine ⟨hok, ?_, ?_, ?_, hw3.1, hw3.2⟩
      · rw [agI, if_pos hok, zI_back, natL_intL, intL_length]; omega
      · rw [agI, if_pos hok, zI_back, natL_intL]; omega
      · rw [zI_length, hl]

theorem both_count {α : Type} (p q : α → Bool) : ∀ l : List α, (l.filter p).length + (l.filter q).length ≤ (l.filter fun x => p x && q x).length + l.length
  | [] => by simp
  | x :: l => by
    have ih := both_count p q l
    cases h1 : p x <;> cases h2 : q x <;> simp [h1, h2] <;> omega
/-- Fewer than half of what is over being wrong, one polynomial alone is near enough. -/
theorem near7_unique {Q : List (Nat × Nat)} {P R : List Nat} {wr : Nat} (hQ : Places Q) (hl : P.length = R.length) (hP : ∀ c ∈ P, c < 257) (hR : ∀ c ∈ R, c < 257) (h1 : Q.length ≤ agreeN P Q + wr) (h2 : Q.length ≤ agreeN R Q + wr) (hk : P.length + 2 * wr ≤ Q.length) : P = R := by
  have hb := both_count (fun q : Nat × Nat => valN P q.1 == q.2) (fun q => valN R q.1 == q.2) Q
  unfold agreeN at h1 h2
  refine agree_unique (ps := Q.filter fun x => (valN P x.1 == x.2) && (valN R x.1 == x.2)) ⟨List.Pairwise.filter _ hQ.1, fun p hp => hQ.2 p (List.mem_filter.1 hp).1⟩ hl (by omega) hP hR ?_
  intro p hp
  have hp2 := (List.mem_filter.1 hp).2
  simp only [Bool.and_eq_true, beq_iff_eq] at hp2
  rw [hp2.1, hp2.2]

def two6 (P : List Nat) (i u j v : Nat) : List (Nat × Nat) := (List.range 6).map fun x => (x, if x = j then v else if x = i then u else valN P x)
theorem two6_length (P : List Nat) (i u j v : Nat) : (two6 P i u j v).length = 6 := by simp [two6]
theorem two6_at {P : List Nat} {i u j v x : Nat} (hx : x < 6) : (two6 P i u j v).getD x (0, 0) = (x, if x = j then v else if x = i then u else valN P x) := by
  rw [two6, List.getD, List.getElem?_map, List.getElem?_range hx]; rfl
theorem two6_places {P : List Nat} {i u j v : Nat} (hu : u < 257) (hv : v < 257) : Places (two6 P i u j v) := by
  refine ⟨?_, fun p hp => ?_⟩
  · rw [two6, List.pairwise_map]; exact List.pairwise_lt_range
  · obtain ⟨x, hx, rfl⟩ := List.mem_map.1 hp
    have hx6 := List.mem_range.1 hx
    refine ⟨by show x < 16; omega, ?_⟩
    show (if x = j then v else if x = i then u else valN P x) < 257
    split
    · exact hv
    · split
      · exact hu
      · exact valN_lt P x
theorem six_left : ∀ i j : Fin 6, 4 ≤ ((List.range 6).filter fun x => decide (x ≠ i.1) && decide (x ≠ j.1)).length := by decide +kernel
theorem six_mask : ∀ i j : Fin 6, ∃ m : Fin 64, cnt 6 m.1 = 2 ∧ ((idxL m.1 6).all fun x => decide (x ≠ i.1) && decide (x ≠ j.1)) = true := by decide +kernel
theorem two6_agree {P : List Nat} {i u j v : Nat} (hi : i < 6) (hj : j < 6) : 6 ≤ agreeN P (two6 P i u j v) + 2 := by
  have h := six_left ⟨i, hi⟩ ⟨j, hj⟩
  have hm : ((List.range 6).filter fun x => decide (x ≠ i) && decide (x ≠ j)).length ≤ agreeN P (two6 P i u j v) := by
    rw [agreeN, two6, List.filter_map, List.length_map, ← List.countP_eq_length_filter, ← List.countP_eq_length_filter]
    refine List.countP_mono_left fun x _ hx => ?_
    simp only [Bool.and_eq_true, decide_eq_true_eq] at hx
    simp [hx.1, hx.2]
  have h' : 4 ≤ ((List.range 6).filter fun x => decide (x ≠ i) && decide (x ≠ j)).length := h
  omega
/-- Of six points of a polynomial with two coefficients two may be wrong. -/
theorem wrong_math {a b i u j v : Nat} (ha : a < 257) (hb : b < 257) (hi : i < 6) (hj : j < 6) (hu : u < 257) (hv : v < 257) :
    rdOkB 2 (intL (two6 [a, b] i u j v)) 2 = true ∧ rdI 2 (intL (two6 [a, b] i u j v)) 2 = [(a : Int), (b : Int)] := by
  have hP : ∀ c ∈ [a, b], c < 257 := fun c hc => by
    simp at hc; rcases hc with rfl | rfl <;> assumption
  have hQ := two6_places (P := [a, b]) (i := i) (j := j) hu hv
  have hl := two6_length [a, b] i u j v
  have hag := two6_agree (P := [a, b]) (u := u) (v := v) hi hj
  obtain ⟨m, hm2, hmx⟩ := six_mask ⟨i, hi⟩ ⟨j, hj⟩
  rw [List.all_eq_true] at hmx
  have hfr : fromN (subQ (two6 [a, b] i u j v) m.1) = [a, b] := from_eq (sub_places hQ m.1) ⟨by rw [sub_length, hl, hm2]; rfl, hP, fun p hp => by
    rw [subQ, hl] at hp
    obtain ⟨x, hx, rfl⟩ := List.mem_map.1 hp
    have hx6 := idx7_lt x hx
    have hne := hmx x hx
    simp only [Bool.and_eq_true, decide_eq_true_eq] at hne
    rw [two6_at hx6, if_neg hne.2, if_neg hne.1]⟩
  have hg := goodP_of hQ (by rw [hl]; omega)
  have hpre : rdPreB 2 (intL (two6 [a, b] i u j v)) 2 = true := by
    rw [rdPreB, enB7, hg, intL_length, hl]; rfl
  have hhit : hitB 2 (two6 [a, b] i u j v) 2 m.1 = true := by
    rw [hitB, hfr, hl, hm2]
    simpa using hag
  have hsome := read_some (f := 2 ^ 6) (n := 0) (m := m.1) (Nat.zero_le _) (by have := m.2; omega) hhit
  have e : rdN 2 (intL (two6 [a, b] i u j v)) 2 = readF 2 (two6 [a, b] i u j v) 2 (2 ^ 6) 0 := by
    rw [rdN, if_pos hpre, natL_intL]
    show readN 2 (two6 [a, b] i u j v) 2 = _
    rw [readN, hl]
  rw [rdOkB, rdI, e]
  refine ⟨hsome, ?_⟩
  cases hr : readF 2 (two6 [a, b] i u j v) 2 (2 ^ 6) 0 with
  | none => rw [hr] at hsome; cases hsome
  | some R =>
    obtain ⟨x, hx, rfl, hax⟩ := read_spec hr
    obtain ⟨hrl, hrb⟩ := from_len (sub_places hQ x)
    rw [sub_length, hx] at hrl
    rw [Option.getD_some, ← near7_unique (P := [a, b]) (wr := 2) hQ (by rw [hrl]; rfl) hP hrb (by rw [hl]; exact hag) hax (by rw [hl]; exact Nat.le_refl 6)]
    rfl
theorem two6_set (a b i u j v : Nat) : ((intL (ptsL [a, b] 6)).set i ((i : Int), (u : Int))).set j ((j : Int), (v : Int)) = intL (two6 [a, b] i u j v) := by
  refine List.ext_getElem (by simp [intL, ptsL, two6]) fun x h1 h2 => ?_
  simp only [intL, ptsL, two6, List.getElem_set, List.getElem_map, List.getElem_range]
  by_cases hxj : j = x
  · subst hxj; simp
  · by_cases hxi : i = x
    · subst hxi
      have : ¬ i = j := fun e => hxj e.symm
      simp [hxj, this]
    · have q1 : ¬ x = j := fun e => hxj e.symm
      have q2 : ¬ x = i := fun e => hxi e.symm
      simp [hxj, hxi, q1, q2]
theorem po_two {a b : Nat} (ha : a < 257) (hb : b < 257) : poOkB [(a : Int), (b : Int)] 6 = true ∧ poI [(a : Int), (b : Int)] 6 = intL (ptsL [a, b] 6) := by
  have hok : poOkB [(a : Int), (b : Int)] 6 = true := by
    simp [poOkB, polB7, allIn, inB]; omega
  exact ⟨hok, by rw [poI, if_pos hok]; rfl⟩
end Go.Proofs.YtnlfaiedfjcgpaaDoor
