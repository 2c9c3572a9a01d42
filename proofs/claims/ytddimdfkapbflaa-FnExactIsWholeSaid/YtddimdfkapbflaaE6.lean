/-
  The program's chapter 5: solve, AddUp.
-/
import Derived.Test.YtddimdfkapbflaaEA
namespace Go.Proofs.Ytddimdfkapbflaa
open Go.RowKit Go.Maps

def solOkB (n : Nat) (R : List Nat) : Bool := decide (R.length ≤ 20) && decide (rank R = n)
def solI (n : Nat) (R Sm : List Nat) : List Int := if solOkB n R = true then zI (solveL n R Sm) else []
theorem sol_yes {n : Nat} {R : List Nat} (Sm : List Nat) (h : solOkB n R = true) : solI n R Sm = zI (solveL n R Sm) := by rw [solI, if_pos h]
theorem sol_no {n : Nat} {R : List Nat} (Sm : List Nat) (h : solOkB n R = false) : solI n R Sm = [] := by rw [solI, h]; rfl
theorem tupS {v : Value} {c d : Bool} (k : c = d) : Ending.returned (.tuple #[v, .bool c]) = .returned (.tuple #[v, .bool d]) := by rw [k]
theorem solOk_can {n k : Nat} {R : List Nat} (hn1 : 1 ≤ n) (hn8 : n ≤ 8) (hk : k < n) (hR : ∀ r ∈ R, r < 2 ^ n) (h : solOkB n R = true) : canI (n : Int) (zI R) ((2 ^ k : Nat) : Int) = true := by
  obtain ⟨h1, h2⟩ : R.length ≤ 20 ∧ rank R = n := by simpa [solOkB] using h
  exact rows_twoOk hn1 hn8 hk h1 hR (full_span hR h2 k hk)
theorem solOk_of {n : Nat} {R : List Nat} (hn1 : 1 ≤ n) (hR : ∀ r ∈ R, r < 2 ^ n) (h : ∀ k, k < n → canI (n : Int) (zI R) ((2 ^ k : Nat) : Int) = true) : solOkB n R = true := by
  have hl : R.length ≤ 20 := by
    have := h 0 (by omega)
    simp only [canI, twoOkB, rowsB, Bool.and_eq_true, decide_eq_true_eq] at this
    have h2 := this.1.1.2.1
    rwa [zI_length] at h2
  have hs : ∀ k, k < n → Sp R (2 ^ k) := fun k hk => by
    have := h k hk
    rw [canI, Bool.and_eq_true, nL_zI, Int.toNat_natCast] at this
    exact (canB_iff R _).1 this.2
  simp [solOkB, hl, rank_full hR hs]

theorem Lets.snd {w : World} {A : Option Addr} {L : List (Nat × Nat)} (h : Lets w A (intL L)) {j : Nat} (hj : j < L.length) :
    ∃ b o, A = some ⟨b, o, none⟩ ∧ w.cell? ⟨b, o + j * 2 + 1, none⟩ = some (.int .i64 (L[j].2 : Nat)) := by
  have hl := intL_length L
  obtain ⟨b, o, e, hc⟩ := h (by intro e; rw [e] at hl; simp at hl; omega)
  have := (hc j (by omega)).2
  rw [intL_at] at this
  exact ⟨b, o, e, this⟩

end Go.Proofs.Ytddimdfkapbflaa
