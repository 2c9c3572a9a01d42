/-
  The laws of AddRows, WeightOf, DotOf and FarApart, walked: each returns true, in every world that holds the table of bit values, and turns nothing.
-/
import Derived.Test.YtfkojlpihpgnaaaDoorW2
namespace Go.Proofs.YtfkojlpihpgnaaaDoor
open Go.RowKit

def twoB (x a b : Int) : Bool := goodB x a && goodB x b
theorem two_true {x a b : Int} (h : twoB x a b = true) : goodB x a = true ∧ goodB x b = true := by simpa [twoB] using h
theorem two_false {x a b : Int} (h : twoB x a b = false) : goodB x a = false ∨ (goodB x a = true ∧ goodB x b = false) := by
  cases ha : goodB x a
  · exact Or.inl rfl
  · exact Or.inr ⟨rfl, by simpa [twoB, ha] using h⟩

/-- Two valid rows as natural numbers. -/
theorem two_nat {x a b : Int} (h : twoB x a b = true) : ∃ m n k : Nat, x = m ∧ a = n ∧ b = k ∧ 1 ≤ m ∧ m ≤ 16 ∧ n < 2 ^ m ∧ k < 2 ^ m := by
  obtain ⟨h1, h2⟩ := two_true h
  obtain ⟨m, n, rfl, rfl, hm1, hm2, hn⟩ := good_nat h1
  obtain ⟨m', k, hm', rfl, _, _, hk⟩ := good_nat h2
  obtain rfl : m = m' := by omega
  exact ⟨m, n, k, rfl, rfl, rfl, hm1, hm2, hn, hk⟩

/- AddRows -/
set_option maxRecDepth 100000 in
set_option maxHeartbeats 400000 in
theorem iWeight_no (x r : Int) (w : World) (ht : Tab w) (h : goodB x r = false) :
    Calls Tryd.prog 46 #[.int .i64 x, .int .i64 r] w fun e w' => e = .returned (.tuple #[.int .i64 0, .bool false]) ∧ w = w' := by
  go_enter Tryd.func46, Tryd.ntmps46
  go_wp2_with (go_at_call 62; refine (iGood_any _ _ _ ht).mono ?_; rintro e w' ⟨rfl, rfl⟩)
  go_ret2
  exact ⟨rfl, rfl⟩
set_option maxRecDepth 100000 in
set_option maxHeartbeats 400000 in
theorem iWeight_ok (m n : Nat) (w : World) (ht : Tab w) (h : goodB m n = true) (hm : m ≤ 16) (hn : n < 65536) :
    Calls Tryd.prog 46 #[.int .i64 m, .int .i64 n] w fun e w' => e = .returned (.tuple #[.int .i64 (cnt m n : Nat), .bool true]) ∧ w = w' := by
  go_enter Tryd.func46, Tryd.ntmps46
  go_wp2_with (first
    | (go_at_call 62; refine (iGood_any _ _ _ ht).mono ?_; rintro e w' ⟨rfl, rfl⟩)
    | (go_at_call 96; refine (iCount _ _ _ ht hm hn).mono ?_; rintro e w' ⟨rfl, rfl⟩))
  go_ret2
  exact ⟨rfl, rfl⟩
set_option maxRecDepth 100000 in
set_option maxHeartbeats 400000 in
theorem iDot_no (x a b : Int) (w : World) (ht : Tab w) (h : twoB x a b = false) :
    Calls Tryd.prog 111 #[.int .i64 x, .int .i64 a, .int .i64 b] w fun e w' => e = .returned (.tuple #[.int .i64 0, .bool false]) ∧ w = w' := by
  have h' := two_false h
  clear h
  rcases h' with ha | ⟨ha, hb⟩
  all_goals
    go_enter Tryd.func111, Tryd.ntmps111
    go_wp2_with (go_at_call 62; refine (iGood_any _ _ _ ht).mono ?_; rintro e w' ⟨rfl, rfl⟩)
    go_ret2
    exact ⟨rfl, rfl⟩
set_option maxRecDepth 100000 in
set_option maxHeartbeats 400000 in
theorem iDot_ok (m a b : Nat) (w : World) (ht : Tab w) (h : twoB m a b = true) (hm : m ≤ 16) (ha : a < 2 ^ m) (hb : b < 2 ^ m) :
    Calls Tryd.prog 111 #[.int .i64 m, .int .i64 a, .int .i64 b] w fun e w' => e = .returned (.tuple #[.int .i64 (cnt m (a &&& b) % 2 : Nat), .bool true]) ∧ w = w' := by
  obtain ⟨h1, h2⟩ := two_true h
  have ha' := lt16 hm ha
  have hb' := lt16 hm hb
  have hx := and_i64 a b (by omega) (by omega)
  have hl := lt16 hm (and_lt (a := a) hb)
  have hc := cnt_le m (a &&& b)
  clear h
  go_enter Tryd.func111, Tryd.ntmps111
  go_wp2_with (first
    | (go_at_call 62; refine (iGood_any _ _ _ ht).mono ?_; rintro e w' ⟨rfl, rfl⟩)
    | (go_at_call 96; refine (iCount _ _ _ ht hm hl).mono ?_; rintro e w' ⟨rfl, rfl⟩))
  go_ret2
  exact ⟨tup (by simp), rfl⟩
set_option maxRecDepth 100000 in
set_option maxHeartbeats 400000 in
theorem sDot (m a b : Nat) (w : World) (hm : m ≤ 16) (ha : a < 2 ^ m) (hb : b < 2 ^ m) :
    Calls Tryd.prog 79 #[.int .i64 a, .int .i64 b] w fun e w' => e = .returned (.int .i64 (cnt m (a &&& b) % 2 : Nat)) ∧ w = w' := by
  have ha' := lt16 hm ha
  have hb' := lt16 hm hb
  have hx := and_i64 a b (by omega) (by omega)
  have hl := and_lt (a := a) hb
  have hc := cnt_le m (a &&& b)
  go_enter Tryd.func79, Tryd.ntmps79
  go_wp2_with (go_at_call 97; refine (sWeight m _ _ hm hl).mono ?_; rintro e w' ⟨rfl, rfl⟩)
  go_ret
  exact ⟨ret_int (by simp), rfl⟩
end Go.Proofs.YtfkojlpihpgnaaaDoor
