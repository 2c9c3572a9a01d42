/-
  What StepsOf, RankOf, CanMake and SameSpan answer, in the program's text and in the model's, at every argument.
-/
import Derived.Test.YtgakklanboabjaaS7
import Derived.Test.YtgakklanboabjaaT2
namespace Go.Proofs.Ytgakklanboabjaa
open Go.RowKit

/-- Numbers of the program's as natural numbers. -/
def nL (zs : List Int) : List Nat := zs.map Int.toNat
theorem nL_length (zs : List Int) : (nL zs).length = zs.length := by simp [nL]
theorem nL_zI (l : List Nat) : nL (zI l) = l := by
  induction l with
  | nil => rfl
  | cons x l ih => simp only [nL, zI, List.map_cons, List.map_map] at ih ⊢; rw [ih]; simp
theorem zI_nL {zs : List Int} (h : ∀ z ∈ zs, 0 ≤ z) : zI (nL zs) = zs := by
  induction zs with
  | nil => rfl
  | cons z zs ih =>
    simp only [nL, zI, List.map_cons, List.map_map] at ih ⊢
    rw [ih (fun x hx => h x (by simp [hx]))]
    have := h z (by simp)
    congr 1; omega
/-- Valid rows are natural numbers. -/
theorem rows_nat {x : Int} {zs : List Int} (h : rowsB x zs = true) : ∃ (m : Nat) (R : List Nat), x = m ∧ zs = zI R ∧ 1 ≤ m ∧ m ≤ 16 ∧ R.length ≤ 20 ∧ ∀ r ∈ R, r < 2 ^ m := by
  have h' : wideB x = true ∧ zs.length ≤ 20 ∧ ∀ z ∈ zs, goodB x z = true := by simpa [rowsB, allG] using h
  have hw : 1 ≤ x ∧ x ≤ 16 := by simpa [wideB] using h'.1
  refine ⟨x.toNat, nL zs, by omega, (zI_nL fun z hz => ?_).symm, by omega, by omega, by rw [nL_length]; exact h'.2.1, fun r hr => ?_⟩
  · have := ((rowsB_in h).2 z hz).1; exact this
  · obtain ⟨z, hz, rfl⟩ := List.mem_map.1 hr
    obtain ⟨m, n, e1, rfl, _, _, h3⟩ := good_nat (h'.2.2 z hz)
    rw [e1, Int.toNat_natCast, Int.toNat_natCast]; exact h3
theorem lt16s {m : Nat} {R : List Nat} (hm : m ≤ 16) (h : ∀ r ∈ R, r < 2 ^ m) : ∀ r ∈ R, r < 65536 := fun r hr => lt16 hm (h r hr)

def stepsI (x : Int) (zs : List Int) : List Int := if rowsB x zs = true then zI (steps (nL zs)) else []
theorem stepsI_ok {m : Int} {R : List Nat} (h : rowsB m (zI R) = true) : stepsI m (zI R) = zI (steps R) := by rw [stepsI, if_pos h, nL_zI]
theorem stepsI_no {x : Int} {zs : List Int} (h : rowsB x zs = false) : stepsI x zs = [] := by simp [stepsI, h]
theorem stepsI_len (x : Int) (zs : List Int) : (stepsI x zs).length ≤ 16 := by
  unfold stepsI; split
  · rename_i h
    obtain ⟨m, R, rfl, rfl, _, h2, _, h4⟩ := rows_nat h
    rw [zI_length, nL_zI]; exact rank_le_width (w := 16) (lt16s h2 h4)
  · simp

theorem tupB {a b c : Bool} (h : a = b) : Ending.returned (.tuple #[.bool a, .bool c]) = .returned (.tuple #[.bool b, .bool c]) := by rw [h]
def rankI (x : Int) (zs : List Int) : Int := (stepsI x zs).length
def twoOkB (x : Int) (zs : List Int) (y : Int) : Bool := rowsB x zs && goodB x y
theorem twoOk_true {x : Int} {zs : List Int} {y : Int} (h : twoOkB x zs y = true) : rowsB x zs = true ∧ goodB x y = true := by simpa [twoOkB] using h
theorem twoOk_false {x : Int} {zs : List Int} {y : Int} (h : twoOkB x zs y = false) : rowsB x zs = false ∨ (rowsB x zs = true ∧ goodB x y = false) := by
  cases ha : rowsB x zs
  · exact Or.inl rfl
  · exact Or.inr ⟨rfl, by simpa [twoOkB, ha] using h⟩
def canI (x : Int) (zs : List Int) (y : Int) : Bool := twoOkB x zs y && canB (nL zs) y.toNat

end Go.Proofs.Ytgakklanboabjaa
