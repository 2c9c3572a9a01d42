/-
  The model of chapter 12, first part: GoodLease, HeldAt, BelievesAt, StepLease.
-/
import Derived.Test.YtgakklanboabjaaBA
namespace Go.Proofs.Ytgakklanboabjaa
open Go.RowKit

theorem sMost12 (a b : Int) (w : World) : Calls Try.prog 58 #[.int .i64 a, .int .i64 b] w fun e w' => e = .returned (.int .i64 (max a b)) ∧ w = w' := by
  by_cases h : b < a
  · have hm : max a b = a := by omega
    rw [hm]
    go_enter Try.func58, Try.ntmps58
    go_wp2_with fail
    go_ret
    exact ⟨rfl, rfl⟩
  · have hm : max a b = b := by omega
    rw [hm]
    go_enter Try.func58, Try.ntmps58
    go_wp2_with fail
    go_ret
    exact ⟨rfl, rfl⟩
def ckB (n : Int) : Bool := inB n 0 10000
theorem inB_andL {n lo hi : Int} (h : inB n lo hi = true) : lo ≤ n ∧ n ≤ hi := by simpa [inB] using h
theorem inB_mkL {n lo hi : Int} (h1 : lo ≤ n) (h2 : n ≤ hi) : inB n lo hi = true := by simp [inB]; omega
theorem sClock12 (n : Int) (w : World) : Calls Try.prog 51 #[.int .i64 n] w fun e w' => e = .returned (.bool (ckB n)) ∧ w = w' := by
  go_enter Try.func51, Try.ntmps51
  go_wp2_with fail
  refine (l1In_any n 0 10000 w).mono ?_
  rintro e w' ⟨rfl, rfl⟩
  go_wp2_with fail
  go_ret
  exact ⟨rfl, rfl⟩
/-- A lease (holder a, expiry u, grants q) is good. -/
def goodZB (a u q : Int) : Bool := inB q 0 1000 && ((a == 0 && u == 0) || (inB a 1 9 && inB u 1 10000))
theorem gls_ok {a u q : Int} (h : goodZB a u q = true) : 0 ≤ q ∧ q ≤ 1000 ∧ 0 ≤ a ∧ a ≤ 9 ∧ 0 ≤ u ∧ u ≤ 10000 ∧ (a = 0 ↔ u = 0) := by
  simp only [goodZB, Bool.and_eq_true, Bool.or_eq_true, beq_iff_eq] at h
  obtain ⟨h1, h2⟩ := h
  have := inB_andL h1
  rcases h2 with ⟨h2, h3⟩ | ⟨h2, h3⟩
  · omega
  · have := inB_andL h2; have := inB_andL h3; omega
theorem gls_mk {a u q : Int} (h1 : 0 ≤ q) (h2 : q ≤ 1000) (h3 : 1 ≤ a) (h4 : a ≤ 9) (h5 : 1 ≤ u) (h6 : u ≤ 10000) : goodZB a u q = true := by
  rw [goodZB, inB_mkL h1 h2, inB_mkL h3 h4, inB_mkL h5 h6]; simp
abbrev lsW (a u q : Int) : Value := .agg #[.int .i64 a, .int .i64 u, .int .i64 q]
/-- Who holds at t. -/
def heldL (a u t : Int) : Int := if t < u then a else 0
def hdI (a u q t : Int) : Int := if (goodZB a u q && ckB t) = true then heldL a u t else 0
def hdOkB (a u q t : Int) : Bool := goodZB a u q && ckB t
def belB (u t : Int) : Bool := decide (t + 3 < u)
def blB (a u q t : Int) : Bool := (goodZB a u q && ckB t) && belB u t
end Go.Proofs.Ytgakklanboabjaa
