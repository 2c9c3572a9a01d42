/-
  Laws of chapter 5, walked, whatever the program's own texts are: AddUp, PeelOff.
-/
import Derived.Test.YtddimdfkapbflaaDoorVO
namespace Go.Proofs.YtddimdfkapbflaaDoor
open Go.RowKit

theorem OwnLt.kept {w w' : World} {base : Nat} {v : Value} {L : List (Int × Int)} {row : Option Nat} (h : OwnLt w base v L) (hg : w.grownBy w' row) (hne : v.ownBlock = none ∨ v.ownBlock ≠ row) : OwnLt w' base v L := World.ownsRow.kept h hg hne
theorem own_lets5 {w : World} {base : Nat} {A : Option Addr} {n c : Nat} {L : List (Int × Int)} (h : OwnLt w base (.slice A n c) L) : Lets w A L := by
  obtain ⟨A', c', e, _, hI⟩ := h.form
  injection e with e1
  subst e1; exact hI
theorem own_bols5 {w : World} {base : Nat} {A : Option Addr} {n c : Nat} {L : List Bool} (h : OwnT w base (.slice A n c) L) : Bols w A L := by
  obtain ⟨A', c', e, hI⟩ := h.form
  injection e with e1
  subst e1; exact hI
theorem addI_len (n : Int) (ls : List (Int × Int)) : (addI n ls).length ≤ 8 := by
  unfold addI; split
  · rename_i h
    have hg : goodLB n ls = true := by
      simp only [addOkB, Bool.and_eq_true] at h
      exact h.1
    obtain ⟨m, L, rfl, rfl, _, hm8, _, _⟩ := goodL_nat hg
    rw [zI_length, solve_length, Int.toNat_natCast]; exact hm8
  · simp
theorem peel_lens (n : Int) (ls : List (Int × Int)) : (peelOI n ls).length ≤ 8 ∧ (peelBI n ls).length ≤ 8 := by
  cases hg : goodLB n ls
  · simp [peelOI, peelBI, hg]
  · obtain ⟨m, L, rfl, rfl, hm1, hm8, _, _⟩ := goodL_nat hg
    have := peelL_length (L := natL (intL L)) hm1
    simp only [peelOI, peelBI, hg, if_true, zI_length, List.length_map, Int.toNat_natCast]
    omega

end Go.Proofs.YtddimdfkapbflaaDoor
