/-
  Slices of integers: what the laws' own helpers do: eqIntS compares two, heldIntS looks whether one holds k, k + 1, .., markIntS writes those, toIntS copies one.
-/
import Derived.Test.YtgakklanboabjaaRows
import Derived.WalkKit
import Derived.WalkSpells
import Derived.WalkLawsBesides
import Derived.WalkSmall
import Derived.Lib.Hide
import Derived.Deep.QuietTactic
import Derived.BigQuiet
namespace Go.Proofs.Ytgakklanboabjaa
open Go.RowKit

/-- The slice at A, of as many elements as zs has, reads as zs. -/
def Ints (w : World) (A : Option Addr) (zs : List Int) : Prop :=
  zs ≠ [] → ∃ b o, A = some ⟨b, o, none⟩ ∧ ∀ j, j < zs.length → w.cell? ⟨b, o + j, none⟩ = some (.int .i64 (zs.getD j 0))

theorem Ints.keep {w w' : World} {A : Option Addr} {zs : List Int} (h : Ints w A zs) (hk : ∀ p : Addr, p.block < w.heap.size → w'.cell? p = w.cell? p) : Ints w' A zs := fun hne => by
  obtain ⟨b, o, e, hc⟩ := h hne
  exact ⟨b, o, e, fun j hj => (hk _ (World.block_lt_of_cell? _ _ (hc j hj))).trans (hc j hj)⟩
theorem Ints.below {w w' : World} {A : Option Addr} {zs : List Int} (h : Ints w A zs) (hb : Below w.heap.size w w') : Ints w' A zs := h.keep fun _ hp => hb.cell hp

def eqL (a b : List Int) : Bool := decide (a = b)

theorem take_more {a b : List Int} {k : Nat} (ha : k < a.length) (hb : k < b.length) (h : a.take k = b.take k) (hk : (a[k] != b[k]) = false) : a.take (k + 1) = b.take (k + 1) := by
  rw [List.take_succ_eq_append_getElem ha, List.take_succ_eq_append_getElem hb, h, show a[k] = b[k] by simpa using hk]
theorem eqL_take {a b : List Int} (hl : a.length = b.length) (h : a.take a.length = b.take a.length) : eqL a b = true := by
  rw [List.take_length, hl, List.take_length] at h
  simp [eqL, h]
theorem eqL_len {a b : List Int} (hl : a.length ≠ b.length) : eqL a b = false := by
  simp only [eqL, decide_eq_false_iff_not]; rintro rfl; exact hl rfl
theorem eqL_at {a b : List Int} {k : Nat} (ha : k < a.length) (hb : k < b.length) (hk : (a[k] != b[k]) = true) : eqL a b = false := by
  simp only [eqL, decide_eq_false_iff_not]; rintro rfl; simp at hk
theorem ret_bool' {a b : Bool} (h : a = b) : Ending.returned (.bool a) = .returned (.bool b) := by rw [h]

/-- k, k + 1, .. : n of them. -/
def marks (k : Int) : Nat → List Int
  | 0 => []
  | n + 1 => k :: marks (k + 1) n
theorem marks_length (k : Int) (n : Nat) : (marks k n).length = n := by
  induction n generalizing k with
  | zero => rfl
  | succ n ih => simp [marks, ih]
theorem marks_getElem (k : Int) (n j : Nat) (h : j < (marks k n).length) : (marks k n)[j] = k + j := by
  induction n generalizing k j with
  | zero => simp [marks] at h
  | succ n ih =>
    cases j with
    | zero => simp [marks]
    | succ j => simp only [marks, List.getElem_cons_succ]; rw [ih]; push_cast; omega

end Go.Proofs.Ytgakklanboabjaa
