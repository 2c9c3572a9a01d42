/-
  The model of chapter 5: l5Degree, DegreeOf, l5Parts, PartsOf.
-/
import Derived.Test.YtkmlgeicmnbkiaaJF
namespace Go.Proofs.Ytkmlgeicmnbkiaa
open Go.RowKit

def noOkB (no : Int) : Bool := inB no 0 999
def pcOkB (n : Int) : Bool := inB n 1 8
def symOkB (no n : Int) : Bool := noOkB no && pcOkB n
def degI (no n : Int) : Int := if symOkB no n = true then (degN no.toNat n.toNat : Nat) else 0
def partsI (no n : Int) : List Int := if symOkB no n = true then zI (partsL no.toNat n.toNat) else []
theorem sym_nat {no n : Int} (h : symOkB no n = true) : ∃ a b : Nat, no = a ∧ n = b ∧ a ≤ 999 ∧ 1 ≤ b ∧ b ≤ 8 := by
  simp [symOkB, noOkB, pcOkB, inB] at h
  exact ⟨no.toNat, n.toNat, by omega, by omega, by omega, by omega, by omega⟩
theorem partsI_len (no n : Int) : (partsI no n).length ≤ 4 := by
  unfold partsI; split
  · rename_i h
    obtain ⟨a, b, rfl, rfl, _, hb, _⟩ := sym_nat h
    rw [zI_length, Int.toNat_natCast, Int.toNat_natCast, (parts_ok a hb).2]
    exact (degN_bd a hb).2.1
  · simp

theorem degT_at {r : Nat} : (r < 4 → degT r = 1) ∧ (¬ r < 4 → r < 12 → degT r = 2) ∧ (¬ r < 4 → ¬ r < 12 → r < 16 → degT r = 3) ∧ (¬ r < 4 → ¬ r < 12 → ¬ r < 16 → degT r = 4) := by
  unfold degT
  refine ⟨fun h => by simp [h], fun h h2 => by simp [h, h2], fun h h2 h3 => by simp [h, h2, h3], fun h h2 h3 => by simp [h, h2, h3]⟩
theorem freeK_hit {L : List Nat} {n f k : Nat} (h : k ∉ L) : freeK L n f k = k := by
  cases f with
  | zero => rfl
  | succ f => rw [freeK, if_neg h]

end Go.Proofs.Ytkmlgeicmnbkiaa
