/-
  The program's chapter 4: PartOf, pieceIn.
-/
import Derived.Test.YthabkkboodhbmaaI1
namespace Go.Proofs.Ythabkkboodhbmaa
open Go.RowKit

theorem partBad {p b : Int} (h : partOkB p b = false) : partG p b = 0 ∧ partS p b = 0 ∧ partM p b = 0 ∧ partR p b = 0 := by
  simp [partG, partS, partM, partR, h]

set_option maxRecDepth 100000 in
set_option maxHeartbeats 400000 in
theorem iPart_any (p b : Int) (w : World) :
    Calls Try.prog 28 #[.int .i64 p, .int .i64 b] w fun e w' => e = .returned (.tuple #[.int .i64 (partG p b), .int .i64 (partS p b), .int .i64 (partM p b), .int .i64 (partR p b), .bool (partOkB p b)]) ∧ Below w.heap.size w w' := by
  cases h : partOkB p b
  · have HE := Lib.hid (partBad h)
    have hc : p < 1 ∨ (¬ p < 1 ∧ p > 100) ∨ (¬ p < 1 ∧ ¬ p > 100 ∧ b < 1) ∨ (¬ p < 1 ∧ ¬ p > 100 ∧ ¬ b < 1 ∧ b > p) := by
      by_cases h1 : p < 1
      · exact Or.inl h1
      · by_cases h2 : p > 100
        · exact Or.inr (Or.inl ⟨h1, h2⟩)
        · by_cases h3 : b < 1
          · exact Or.inr (Or.inr (Or.inl ⟨h1, h2, h3⟩))
          · refine Or.inr (Or.inr (Or.inr ⟨h1, h2, h3, ?_⟩))
            rw [partOkB, inB_mk (by omega) (by omega)] at h
            simp [inB] at h
            omega
    clear h
    rcases hc with h1 | ⟨h1, h2⟩ | ⟨h1, h2, h3⟩ | ⟨h1, h2, h3, h4⟩
    all_goals
      go_enter Try.func28, Try.ntmps28
      go_wp2_with fail
      (try simp only [Exit.inBlock, Exit.then])
      refine bodyPost_ret (results_tmp5 rfl _ _ _) rfl ?_
      obtain ⟨e1, e2, e3, e4⟩ := HE.out
      exact ⟨tup5 e1.symm e2.symm e3.symm e4.symm rfl, Below.refl _ _⟩
  · have HE := Lib.hid h
    obtain ⟨m, n, rfl, rfl, h1, h2, h3⟩ := part_nat h
    have hn0 : ¬ n = 0 := by omega
    have HU := Lib.hid (fun w => iUp m n w h1 (by omega) (by omega))
    obtain ⟨Q, hQ⟩ : ∃ Q, Q = m / n := ⟨_, rfl⟩
    obtain ⟨R, hR⟩ : ∃ R, R = m % n := ⟨_, rfl⟩
    have hq : (m : Int) / (n : Int) = (Q : Int) := by rw [hQ]; exact (Int.natCast_ediv _ _).symm
    have hr : (m : Int) % (n : Int) = (R : Int) := by rw [hR]; exact (Int.natCast_emod _ _).symm
    have hQ1 : Q ≤ 100 := by have := Nat.div_le_self m n; omega
    have hR1 : R < n := by rw [hR]; exact Nat.mod_lt _ h1
    have HV : Hid (partG m n = (((m + n - 1) / n : Nat) : Int) ∧ partS m n = (Q : Int) ∧ partM m n = (R : Int) ∧ partR m n = (n : Int) - (R : Int)) := by
      refine ⟨?_, ?_, ?_, ?_⟩
      · rw [partG, if_pos HE.out, Int.toNat_natCast, Int.toNat_natCast]
      · rw [partS, if_pos HE.out, Int.toNat_natCast, Int.toNat_natCast, hQ]
      · rw [partM, if_pos HE.out, Int.toNat_natCast, Int.toNat_natCast, hR]
      · rw [partR, if_pos HE.out, Int.toNat_natCast, Int.toNat_natCast, ← hR]; omega
    generalize (m + n - 1) / n = G at *
    clear h hQ hR
    go_enter Try.func28, Try.ntmps28
    go_wp2_with fail
    go_region_held3 (fun _ => True) (first | exact trivial | go_keep) (first
      | (go_at_call 49; refine (HU.out _).mono ?_; rintro e w7 ⟨rfl, rfl⟩))
    all_goals
      go_wp2_with fail
      (try simp only [Exit.inBlock, Exit.then])
      refine bodyPost_ret (results_tmp5 rfl _ _ _) rfl ?_
      obtain ⟨e1, e2, e3, e4⟩ := HV.out
      refine ⟨tup5 (by rw [e1]) (by rw [e2]; exact wrap62 _ (by omega) (by omega)) (by rw [e3]) (by rw [e4]; exact wrap62 _ (by omega) (by omega)) rfl, jDrew⟩
end Go.Proofs.Ythabkkboodhbmaa
