/-
  The rows of chapter 1: what GoodRow's two texts answer, at every width and every number, in every world that holds the table of bit values.
-/
import Derived.Test.YtnlfaiedfjcgpaaDoorRows
import Derived.WalkKit
import Derived.WalkSpells
import Derived.WalkLawsBesides
namespace Go.Proofs.YtnlfaiedfjcgpaaDoor
open Go.RowKit

/-- The table of bit values lies where it lies: cell i holds 2^i. -/
def Tab (w : World) : Prop := ∀ i : Nat, i ≤ 16 → w.cell? ⟨0, i, none⟩ = some (.int .i64 ((2 : Int) ^ i))

def wideB (wide : Int) : Bool := decide (1 ≤ wide) && decide (wide ≤ 16)
def goodB (wide row : Int) : Bool := wideB wide && (decide (0 ≤ row) && decide (row < (2 : Int) ^ wide.toNat))

theorem wideB_true {x : Int} (h1 : 1 ≤ x) (h2 : x ≤ 16) : wideB x = true := by simp [wideB, h1, h2]
theorem wideB_false {x : Int} (h : x < 1 ∨ 16 < x) : wideB x = false := by
  unfold wideB; rcases h with h | h
  · rw [decide_eq_false (by omega)]; rfl
  · rw [decide_eq_false (p := x ≤ 16) (by omega)]; simp

theorem ret_bool {a b : Bool} (h : a = b) : Ending.returned (.bool a) = .returned (.bool b) := by rw [h]
theorem ret_int {k : IntKind} {a b : Int} (h : a = b) : Ending.returned (.int k a) = .returned (.int k b) := by rw [h]

set_option maxRecDepth 100000 in
set_option maxHeartbeats 400000 in
theorem goodWidth_any (x : Int) (w : World) :
    Calls Tryd.prog 64 #[.int .i64 x] w fun e w' => e = .returned (.bool (wideB x)) ∧ w = w' := by
  by_cases h1 : 1 ≤ x
  · by_cases h2 : x ≤ 16
    · go_enter Tryd.func64, Tryd.ntmps64
      go_wp2
      go_ret
      exact ⟨ret_bool (wideB_true h1 h2).symm, rfl⟩
    · have h2' : 16 < x := by omega
      go_enter Tryd.func64, Tryd.ntmps64
      go_wp2
      go_ret
      exact ⟨ret_bool (wideB_false (Or.inr h2')).symm, rfl⟩
  · have h1' : x < 1 := by omega
    go_enter Tryd.func64, Tryd.ntmps64
    go_wp2
    go_ret
    exact ⟨ret_bool (wideB_false (Or.inl h1')).symm, rfl⟩

def inB (n lo hi : Int) : Bool := decide (lo ≤ n) && decide (n ≤ hi)
theorem inB_true {n lo hi : Int} (h1 : lo ≤ n) (h2 : n ≤ hi) : inB n lo hi = true := by simp [inB, h1, h2]
theorem inB_false {n lo hi : Int} (h : n < lo ∨ hi < n) : inB n lo hi = false := by
  unfold inB; rcases h with h | h
  · rw [decide_eq_false (by omega)]; rfl
  · rw [decide_eq_false (p := n ≤ hi) (by omega)]; simp

set_option maxRecDepth 100000 in
set_option maxHeartbeats 400000 in
theorem l1In_any (n lo hi : Int) (w : World) :
    Calls Tryd.prog 30 #[.int .i64 n, .int .i64 lo, .int .i64 hi] w fun e w' => e = .returned (.bool (inB n lo hi)) ∧ w = w' := by
  by_cases h1 : lo ≤ n
  · by_cases h2 : n ≤ hi
    · go_enter Tryd.func30, Tryd.ntmps30
      go_wp2
      go_ret
      exact ⟨ret_bool (inB_true h1 h2).symm, rfl⟩
    · have h2' : hi < n := by omega
      go_enter Tryd.func30, Tryd.ntmps30
      go_wp2
      go_ret
      exact ⟨ret_bool (inB_false (Or.inr h2')).symm, rfl⟩
  · have h1' : n < lo := by omega
    go_enter Tryd.func30, Tryd.ntmps30
    go_wp2
    go_ret
    exact ⟨ret_bool (inB_false (Or.inl h1')).symm, rfl⟩

theorem pow_bd (n : Nat) (h : n ≤ 16) : 1 ≤ (2 : Int) ^ n ∧ (2 : Int) ^ n ≤ 65536 :=
  (by decide +kernel : ∀ n < 17, 1 ≤ (2 : Int) ^ n ∧ (2 : Int) ^ n ≤ 65536) n (by omega)
theorem inB_wide (x : Int) : inB x 1 16 = wideB x := rfl
theorem goodB_narrow {x : Int} (r : Int) (h : wideB x = false) : goodB x r = false := by simp [goodB, h]
theorem goodB_wide {x : Int} (r : Int) (h : wideB x = true) : goodB x r = (decide (0 ≤ r) && decide (r < (2 : Int) ^ x.toNat)) := by simp [goodB, h]

set_option maxRecDepth 100000 in
set_option maxHeartbeats 400000 in
theorem iGood_any (x r : Int) (w : World) (ht : Tab w) :
    Calls Tryd.prog 49 #[.int .i64 x, .int .i64 r] w fun e w' => e = .returned (.bool (goodB x r)) ∧ w = w' := by
  cases hw : wideB x
  · go_enter Tryd.func49, Tryd.ntmps49
    go_wp2_with (go_at_call 64; refine (goodWidth_any _ _).mono ?_; rintro e w' ⟨rfl, rfl⟩)
    go_ret
    exact ⟨ret_bool (goodB_narrow r hw).symm, rfl⟩
  · have h1 : 1 ≤ x ∧ x ≤ 16 := by simpa [wideB] using hw
    obtain ⟨h1, h2⟩ := h1
    have hc := ht x.toNat (by omega)
    clear ht
    by_cases hr : 0 ≤ r
    · go_enter Tryd.func49, Tryd.ntmps49
      go_wp2_with (go_at_call 64; refine (goodWidth_any _ _).mono ?_; rintro e w' ⟨rfl, rfl⟩)
      go_ret
      exact ⟨ret_bool (by rw [goodB_wide r hw]; simp [hr]), rfl⟩
    · have hr' : r < 0 := by omega
      go_enter Tryd.func49, Tryd.ntmps49
      go_wp2_with (go_at_call 64; refine (goodWidth_any _ _).mono ?_; rintro e w' ⟨rfl, rfl⟩)
      go_ret
      exact ⟨ret_bool (by rw [goodB_wide r hw, decide_eq_false (p := 0 ≤ r) (by omega)]; rfl), rfl⟩

end Go.Proofs.YtnlfaiedfjcgpaaDoor
