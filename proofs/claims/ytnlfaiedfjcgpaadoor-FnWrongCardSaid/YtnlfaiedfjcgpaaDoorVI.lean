/-
  FnAny, walked, whatever the program's own texts are.
-/
import Derived.Test.YtnlfaiedfjcgpaaDoorVO
import Derived.Test.YtnlfaiedfjcgpaaDoorDE
namespace Go.Proofs.YtnlfaiedfjcgpaaDoor
open Go.RowKit

theorem byts_on7 {w w' : World} {A : Option Addr} {zs : List Int} (h : Byts w w.heap.size A zs) (hb : Below w.heap.size w w') : Byts w' w'.heap.size A zs :=
  ⟨h.1, fun hne => by
    obtain ⟨b, o, e, hlt, hc⟩ := h.2 hne
    exact ⟨b, o, e, Nat.lt_of_lt_of_le hlt hb.size, fun j hj => (hb.cell hlt).trans (hc j hj)⟩⟩
theorem iv_prod {n : Int} (h : ivOkB n = true) : 0 ≤ n * ivI n ∧ n * ivI n ≤ 65792 ∧ (n * ivI n % 257 == 1) = true := by
  have hn : 1 ≤ n ∧ n ≤ 256 := by simpa [ivOkB, inB] using h
  obtain ⟨m, rfl⟩ := Int.eq_ofNat_of_zero_le (show 0 ≤ n by omega)
  have hv : ivI (m : Int) = (invN m : Nat) := by rw [ivI, if_pos h, Int.toNat_natCast]
  have hlt : invN m < 257 := powM_lt m 255
  have hok := inv_ok (n := m) (by omega) (by omega)
  obtain ⟨h0, h1⟩ := mul_bd (a := m) (b := invN m) (A := 256) (B := 256) (by omega) (by omega)
  rw [hv]
  refine ⟨h0, by omega, ?_⟩
  have e : (m : Int) * ((invN m : Nat) : Int) % 257 = ((m * invN m % 257 : Nat) : Int) := by simp
  rw [e, hok]; rfl
def selQ (P : List Nat) (S : List Nat) : List (Nat × Nat) := S.map fun i => (i, valN P i)
theorem sel_places {P S : List Nat} (h : S.Pairwise (· < ·)) (hS : ∀ i ∈ S, i < 16) : Places (selQ P S) := by
  refine ⟨?_, fun p hp => ?_⟩
  · rw [selQ, List.pairwise_map]; exact h
  · obtain ⟨i, hi, rfl⟩ := List.mem_map.1 hp
    exact ⟨hS i hi, valN_lt P i⟩
theorem pts_sel (P : List Nat) (n : Nat) : ptsL P n = selQ P (List.range n) := rfl
/-- Any k points of a polynomial with k coefficients determine it. -/
theorem any_math {P S : List Nat} (hP1 : 1 ≤ P.length) (hP8 : P.length ≤ 8) (hP : ∀ c ∈ P, c < 257) (h : S.Pairwise (· < ·)) (hS : ∀ i ∈ S, i < 16) (hl : S.length = P.length) :
    enB7 (P.length : Int) (intL (selQ P S)) = true ∧ frI (P.length : Int) (intL (selQ P S)) = zI P := by
  have hp := sel_places (P := P) h hS
  have hlen : (selQ P S).length = P.length := by rw [selQ, List.length_map, hl]
  have hg := goodP_of hp (by omega)
  have hen : enB7 (P.length : Int) (intL (selQ P S)) = true := by
    rw [enB7, hg, intL_length, hlen]
    simp [inB]; omega
  refine ⟨hen, ?_⟩
  rw [frI, if_pos hen, natL_intL, Int.toNat_natCast, List.take_of_length_le (by omega)]
  rw [from_eq hp ⟨hlen.symm, hP, fun p hpm => by
    obtain ⟨i, _, rfl⟩ := List.mem_map.1 hpm
    rfl⟩]
theorem agree_all (P : List Nat) (S : List Nat) : agreeN P (selQ P S) = S.length := by
  rw [agreeN, List.filter_eq_self.2 (fun q hq => by
    obtain ⟨i, _, rfl⟩ := List.mem_map.1 hq
    simp), selQ, List.length_map]
theorem any_agree {P : List Nat} {n : Nat} (hP1 : 1 ≤ P.length) (hP8 : P.length ≤ 8) (hP : ∀ c ∈ P, c < 257) (hn : n ≤ 16) : agOkB (zI P) (intL (ptsL P n)) = true ∧ agI (zI P) (intL (ptsL P n)) = (n : Int) := by
  have hp : Places (ptsL P n) := sel_places (S := List.range n) List.pairwise_lt_range (fun i hi => by have := List.mem_range.1 hi; omega)
  have hg := goodP_of hp (by rw [pts_length]; exact hn)
  have hal : allIn (zI P) 256 = true := by
    rw [allIn, List.all_eq_true]
    intro z hz
    obtain ⟨c, hc, rfl⟩ := List.mem_map.1 hz
    have := hP c hc
    simp [inB]; omega
  have hpo : polB7 (zI P) = true := by
    rw [polB7, hal, zI_length]
    simp [inB]; omega
  have hok : agOkB (zI P) (intL (ptsL P n)) = true := by rw [agOkB, hpo, hg]; rfl
  refine ⟨hok, ?_⟩
  rw [agI, if_pos hok, zI_back, natL_intL, pts_sel, agree_all, List.length_range]
theorem po_nat {zs : List Int} {n : Int} (h : poOkB zs n = true) : ∃ (P : List Nat) (m : Nat), zs = zI P ∧ n = m ∧ 1 ≤ P.length ∧ P.length ≤ 8 ∧ (∀ c ∈ P, c < 257) ∧ 1 ≤ m ∧ m ≤ 16 ∧ poI zs n = intL (ptsL P m) := by
  have h' := h
  simp only [poOkB, Bool.and_eq_true] at h'
  obtain ⟨P, rfl, h1, h8, hP⟩ := pol_nat h'.1
  have hn : 1 ≤ n ∧ n ≤ 16 := by simpa [inB] using h'.2
  obtain ⟨m, rfl⟩ := Int.eq_ofNat_of_zero_le (show 0 ≤ n by omega)
  exact ⟨P, m, rfl, rfl, h1, h8, hP, by omega, by omega, by rw [poI, if_pos h, zI_back, Int.toNat_natCast]⟩
theorem sel_snoc (P S : List Nat) (j : Nat) : intL (selQ P (S ++ [j])) = intL (selQ P S) ++ [((j : Int), ((valN P j : Nat) : Int))] := by
  rw [selQ, List.map_append, intL_append]; rfl
theorem rise_snoc {S : List Nat} {j : Nat} (h : S.Pairwise (· < ·)) (hS : ∀ i ∈ S, i < j) : (S ++ [j]).Pairwise (· < ·) ∧ ∀ i ∈ S ++ [j], i < j + 1 := by
  refine ⟨?_, fun i hi => ?_⟩
  · rw [List.pairwise_append]
    exact ⟨h, List.pairwise_singleton _ _, fun a ha b hb => by rw [List.mem_singleton.1 hb]; exact hS a ha⟩
  · rcases List.mem_append.1 hi with hi | hi
    · have := hS i hi; omega
    · rw [List.mem_singleton.1 hi]; omega

end Go.Proofs.YtnlfaiedfjcgpaaDoor
