/-
  Laws of chapter 5, walked, whatever the program's own texts are: DegreeOf, PartsOf, EnoughOf, LetterFor, GoodLetters. Each takes the contract of the program's function as a premise; K is what that contract asks of the world, and what stays where nothing that lay is turned.
-/
import Derived.Test.YtchpcbbnnbaiaaaJW
namespace Go.Proofs.Ytchpcbbnnbaiaaa
open Go.RowKit

def Stays5 (K : World → Prop) : Prop := ∀ w w' : World, K w → Below w.heap.size w w' → K w'
theorem own_ints5 {w : World} {base : Nat} {A : Option Addr} {n c : Nat} {zs : List Int} (h : Own w base (.slice A n c) zs) : Ints w A zs := by
  obtain ⟨A', c', e, hI⟩ := h.form
  injection e with e1
  subst e1; exact hI
theorem apart5 {v u : Value} {s : Nat} (h : ∀ k, v.ownBlock = some k → k < s) (h' : ∀ k, u.ownBlock = some k → s ≤ k) : v.ownBlock = none ∨ v.ownBlock ≠ u.ownBlock := by
  cases hv : v.ownBlock with
  | none => exact Or.inl rfl
  | some k =>
    refine Or.inr fun e => ?_
    have h1 := h k hv
    have h2 := h' k e.symm
    omega

set_option maxRecDepth 100000 in
set_option maxHeartbeats 1000000 in
theorem degreeOf_law {K : World → Prop} (hI : ∀ (p b : Int) (w : World), K w → Calls Try.prog 6 #[.int .i64 p, .int .i64 b] w fun e w' => e = .returned (.tuple #[.int .i64 (degI p b), .bool (symOkB p b)]) ∧ Below w.heap.size w w')
    (p b : Int) (w : World) (hw : K w) : Calls Try.prog 3 #[.int .i64 p, .int .i64 b] w fun e w' => e = .returned (.bool true) ∧ Below w.heap.size w w' := by
  have HI := Lib.hid (hI p b w hw)
  have HS := Lib.hid (sDegree_any p b w)
  clear hI hw
  generalize degI p b = a1 at *
  generalize symOkB p b = a5 at *
  go_enter Try.func3, Try.ntmps3
  go_wp2_with fail
  refine HS.out.mono ?_
  rintro e w1 ⟨rfl, rfl⟩
  go_wp2_with fail
  refine HI.out.mono ?_
  rintro e w2 ⟨rfl, hb2⟩
  go_wp2_with fail
  go_ret
  exact ⟨rfl, hb2⟩

end Go.Proofs.Ytchpcbbnnbaiaaa
