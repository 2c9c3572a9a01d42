/-
  Slices of integers: what the laws' own helpers do: eqIntS compares two, heldIntS looks whether one holds k, k + 1, .., markIntS writes those, toIntS copies one.
-/
import Derived.Test.YtbegikjoialahaaRows
import Derived.WalkKit
import Derived.WalkSpells
import Derived.WalkLawsBesides
import Derived.WalkSmall
import Derived.Lib.Hide
import Derived.Deep.QuietTactic
import Derived.BigQuiet
namespace Go.Proofs.Ytbegikjoialahaa
open Go.RowKit

/-- The slice at A, of as many elements as zs has, reads as zs. -/
def Ints (w : World) (A : Option Addr) (zs : List Int) : Prop :=
  zs ≠ [] → ∃ b o, A = some ⟨b, o, none⟩ ∧ ∀ j, j < zs.length → w.cell? ⟨b, o + j, none⟩ = some (.int .i64 (zs.getD j 0))

theorem Ints.keep {w w' : World} {A : Option Addr} {zs : List Int} (h : Ints w A zs) (hk : ∀ p : Addr, p.block < w.heap.size → w'.cell? p = w.cell? p) : Ints w' A zs := fun hne => by
  obtain ⟨b, o, e, hc⟩ := h hne
  exact ⟨b, o, e, fun j hj => (hk _ (World.block_lt_of_cell? _ _ (hc j hj))).trans (hc j hj)⟩
theorem Ints.below {w w' : World} {A : Option Addr} {zs : List Int} (h : Ints w A zs) (hb : Below w.heap.size w w') : Ints w' A zs := h.keep fun _ hp => hb.cell hp

def eqL (a b : List Int) : Bool := decide (a = b)

theorem take_more {a b : List Int} {k : Nat} (ha : k < a.length) (hb : k < b.length) (h : a.take k = b.take k) (hk : (a[k] != b[k]) = false) : a.take (k + 1) = b.take (k + 1) := by
  rw [List.take_succ_eq_append_getElem ha, List.take_succ_eq_append_getElem hb, h, show a[k] = b[k] by simpa using hk]
theorem eqL_take {a b : List Int} (hl : a.length = b.length) (h : a.take a.length = b.take a.length) : eqL a b = true := by
  rw [List.take_length, hl, List.take_length] at h
  simp [eqL, h]
theorem eqL_len {a b : List Int} (hl : a.length ≠ b.length) : eqL a b = false := by
  simp only [eqL, decide_eq_false_iff_not]; rintro rfl; exact hl rfl
theorem eqL_at {a b : List Int} {k : Nat} (ha : k < a.length) (hb : k < b.length) (hk : (a[k] != b[k]) = true) : eqL a b = false := by
  simp only [eqL, decide_eq_false_iff_not]; rintro rfl; simp at hk
theorem ret_bool' {a b : Bool} (h : a = b) : Ending.returned (.bool a) = .returned (.bool b) := by rw [h]

set_option maxRecDepth 100000 in
set_option maxHeartbeats 400000 in
theorem eqInts_any (A B : Option Addr) (za zb : List Int) (ca cb : Nat) (w : World) (ha : Ints w A za) (hb : Ints w B zb) (hl : za.length ≤ 140737488355328) :
    Calls Try.prog 56 #[.slice A za.length ca, .slice B zb.length cb] w fun e w' => e = .returned (.bool (eqL za zb)) ∧ ∃ n, w' = w.drewN n := by
  by_cases hlen : za.length = zb.length
  · have hneq : ((za.length : Int) != (zb.length : Int)) = false := by simp [hlen]
    have HL := Lib.hid hlen
    clear hlen
    go_enter Try.func56, Try.ntmps56
    go_wp2
    go_loopw [5] (fun i wr => ∃ k n : Nat, k ≤ za.length ∧ i = .int .i64 k ∧ za.take k = zb.take k ∧ wr = w.drewN n) (fun i _ => za.length - (intOf i).toNat)
    case atStart => exact ⟨0, 0, by omega, rfl, rfl, rfl⟩
    case round =>
      obtain ⟨k, n, hk, rfl, htk, rfl⟩ := hrel
      have HT := Lib.hid htk
      clear htk
      by_cases hlt : k < za.length
      · have hlt' : k < zb.length := by have := HL.out; omega
        obtain ⟨b1, o1, rfl, hc1⟩ := ha (by rintro rfl; simp at hlt)
        obtain ⟨b2, o2, rfl, hc2⟩ := hb (by rintro rfl; simp at hlt')
        have g1 := hc1 k hlt
        have g2 := hc2 k hlt'
        clear hc1 hc2 ha hb
        have hi1 : (k : Int) < (za.length : Int) := by omega
        have hi2 : (k : Int) < (zb.length : Int) := by omega
        go_wp2_with fail
        go_quiet (fail)
        go_wp2
        · have hne : (za[k] != zb[k]) = true := by assumption
          go_ret
          exact ⟨ret_bool' (eqL_at hlt hlt' hne).symm, n + nq, by simp⟩
        · have heq : (za[k] != zb[k]) = false := by assumption
          go_roundw
          case rel => exact ⟨k + 1, n + nq, by omega, by go_num, take_more hlt hlt' HT.out heq, rfl⟩
          case measure => simp [intOf]; omega
      · obtain rfl : k = za.length := by omega
        go_wp2
        go_ret
        exact ⟨ret_bool' (eqL_take HL.out HT.out).symm, _, rfl⟩
  · have hneq : ((za.length : Int) != (zb.length : Int)) = true := by simp; omega
    have HL := Lib.hid hlen
    clear hlen
    go_enter Try.func56, Try.ntmps56
    go_wp2
    go_ret
    exact ⟨ret_bool' (eqL_len HL.out).symm, 0, rfl⟩

/-- k, k + 1, .. : n of them. -/
def marks (k : Int) : Nat → List Int
  | 0 => []
  | n + 1 => k :: marks (k + 1) n
theorem marks_length (k : Int) (n : Nat) : (marks k n).length = n := by
  induction n generalizing k with
  | zero => rfl
  | succ n ih => simp [marks, ih]
theorem marks_getElem (k : Int) (n j : Nat) (h : j < (marks k n).length) : (marks k n)[j] = k + j := by
  induction n generalizing k j with
  | zero => simp [marks] at h
  | succ n ih =>
    cases j with
    | zero => simp [marks]
    | succ j => simp only [marks, List.getElem_cons_succ]; rw [ih]; push_cast; omega

set_option maxRecDepth 100000 in
set_option maxHeartbeats 400000 in
theorem heldInts_any (A : Option Addr) (k : Int) (n : Nat) (ca : Nat) (w : World) (ha : Ints w A (marks k n)) (hn : n ≤ 140737488355328) (h1 : 0 ≤ k) (h2 : k ≤ 140737488355328) :
    Calls Try.prog 58 #[.slice A n ca, .int .i64 k] w fun e w' => e = .returned (.int .i64 (k + n)) ∧ w = w' := by
  go_enter Try.func58, Try.ntmps58
  go_wp2
  go_loop [1, 5] (fun q i => ∃ j : Nat, j ≤ n ∧ i = .int .i64 j ∧ q = .int .i64 (k + j)) (fun _ i => n - (intOf i).toNat)
  case atStart => exact ⟨0, by omega, rfl, by simp⟩
  case round =>
    obtain ⟨j, hj, rfl, rfl⟩ := hrel
    by_cases hlt : j < n
    · have hm := marks_length k n
      obtain ⟨b1, o1, rfl, hc1⟩ := ha (by intro e; rw [e] at hm; simp at hm; omega)
      have g1 : w.cell? ⟨b1, o1 + j, none⟩ = some (.int .i64 (k + j)) := by
        rw [hc1 j (by omega)]
        simp [List.getD, hm, hlt, marks_getElem]
      clear hc1 ha hm
      go_wp2
      go_round
      case rel => exact ⟨j + 1, by omega, by go_num, by go_num⟩
      case measure => simp [intOf]; omega
    · obtain rfl : j = n := by omega
      go_wp2
      go_ret
      exact ⟨rfl, rfl⟩
end Go.Proofs.Ytbegikjoialahaa
