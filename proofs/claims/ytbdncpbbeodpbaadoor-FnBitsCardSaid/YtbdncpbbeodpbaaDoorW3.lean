/-
  The laws of AddRows, WeightOf, DotOf and FarApart, walked: each returns true, in every world that holds the table of bit values, and turns nothing.
-/
import Derived.Test.YtbdncpbbeodpbaaDoorW2
namespace Go.Proofs.YtbdncpbbeodpbaaDoor
open Go.RowKit

def twoB (x a b : Int) : Bool := goodB x a && goodB x b
theorem two_true {x a b : Int} (h : twoB x a b = true) : goodB x a = true ∧ goodB x b = true := by simpa [twoB] using h
theorem two_false {x a b : Int} (h : twoB x a b = false) : goodB x a = false ∨ (goodB x a = true ∧ goodB x b = false) := by
  cases ha : goodB x a
  · exact Or.inl rfl
  · exact Or.inr ⟨rfl, by simpa [twoB, ha] using h⟩

set_option maxHeartbeats 400000 in
theorem sTwo (x a b : Int) (w : World) :
    Calls Tryd.prog 42 #[.int .i64 x, .int .i64 a, .int .i64 b] w fun e w' => e = .returned (.bool (twoB x a b)) ∧ w = w' := by
  cases ha : goodB x a
  · go_enter Tryd.func42, Tryd.ntmps42
    go_wp2_with (go_at_call 21; refine (sGood_any _ _ _).mono ?_; rintro e w' ⟨rfl, rfl⟩)
    go_ret
    exact ⟨ret_bool (by simp [twoB, ha]), rfl⟩
  · go_enter Tryd.func42, Tryd.ntmps42
    go_wp2_with (go_at_call 21; refine (sGood_any _ _ _).mono ?_; rintro e w' ⟨rfl, rfl⟩)
    go_ret
    exact ⟨ret_bool (by simp [twoB, ha]), rfl⟩

/-- Two valid rows as natural numbers. -/
theorem two_nat {x a b : Int} (h : twoB x a b = true) : ∃ m n k : Nat, x = m ∧ a = n ∧ b = k ∧ 1 ≤ m ∧ m ≤ 16 ∧ n < 2 ^ m ∧ k < 2 ^ m := by
  obtain ⟨h1, h2⟩ := two_true h
  obtain ⟨m, n, rfl, rfl, hm1, hm2, hn⟩ := good_nat h1
  obtain ⟨m', k, hm', rfl, _, _, hk⟩ := good_nat h2
  obtain rfl : m = m' := by omega
  exact ⟨m, n, k, rfl, rfl, rfl, hm1, hm2, hn, hk⟩

/- AddRows -/
set_option maxHeartbeats 400000 in
theorem iAdd_no (x a b : Int) (w : World) (ht : Tab w) (h : twoB x a b = false) :
    Calls Tryd.prog 14 #[.int .i64 x, .int .i64 a, .int .i64 b] w fun e w' => e = .returned (.tuple #[.int .i64 0, .bool false]) ∧ w = w' := by
  have h' := two_false h
  clear h
  rcases h' with ha | ⟨ha, hb⟩
  all_goals
    go_enter Tryd.func14, Tryd.ntmps14
    go_wp2_with (go_at_call 20; refine (iGood_any _ _ _ ht).mono ?_; rintro e w' ⟨rfl, rfl⟩)
    go_ret2
    exact ⟨rfl, rfl⟩
set_option maxHeartbeats 400000 in
theorem iAdd_ok (m a b : Nat) (w : World) (ht : Tab w) (h : twoB m a b = true) (ha : a < 65536) (hb : b < 65536) :
    Calls Tryd.prog 14 #[.int .i64 m, .int .i64 a, .int .i64 b] w fun e w' => e = .returned (.tuple #[.int .i64 (a ^^^ b : Nat), .bool true]) ∧ w = w' := by
  obtain ⟨h1, h2⟩ := two_true h
  have hx := xor_i64 a b (by omega) (by omega)
  clear h
  go_enter Tryd.func14, Tryd.ntmps14
  go_wp2_with (go_at_call 20; refine (iGood_any _ _ _ ht).mono ?_; rintro e w' ⟨rfl, rfl⟩)
  go_ret2
  exact ⟨rfl, rfl⟩
set_option maxHeartbeats 400000 in
theorem sAdd_no (x a b : Int) (w : World) (h : twoB x a b = false) :
    Calls Tryd.prog 15 #[.int .i64 x, .int .i64 a, .int .i64 b] w fun e w' => e = .returned (.tuple #[.int .i64 0, .bool false]) ∧ w = w' := by
  go_enter Tryd.func15, Tryd.ntmps15
  go_wp2_with (go_at_call 42; refine (sTwo _ _ _ _).mono ?_; rintro e w' ⟨rfl, rfl⟩)
  go_ret2
  exact ⟨rfl, rfl⟩
set_option maxHeartbeats 400000 in
theorem sAdd_ok (m a b : Nat) (w : World) (h : twoB m a b = true) (ha : a < 65536) (hb : b < 65536) :
    Calls Tryd.prog 15 #[.int .i64 m, .int .i64 a, .int .i64 b] w fun e w' => e = .returned (.tuple #[.int .i64 (a ^^^ b : Nat), .bool true]) ∧ w = w' := by
  have hx := xor_i64 a b (by omega) (by omega)
  go_enter Tryd.func15, Tryd.ntmps15
  go_wp2_with (go_at_call 42; refine (sTwo _ _ _ _).mono ?_; rintro e w' ⟨rfl, rfl⟩)
  go_ret2
  exact ⟨rfl, rfl⟩

/- WeightOf -/
set_option maxHeartbeats 400000 in
theorem iWeight_no (x r : Int) (w : World) (ht : Tab w) (h : goodB x r = false) :
    Calls Tryd.prog 23 #[.int .i64 x, .int .i64 r] w fun e w' => e = .returned (.tuple #[.int .i64 0, .bool false]) ∧ w = w' := by
  go_enter Tryd.func23, Tryd.ntmps23
  go_wp2_with (go_at_call 20; refine (iGood_any _ _ _ ht).mono ?_; rintro e w' ⟨rfl, rfl⟩)
  go_ret2
  exact ⟨rfl, rfl⟩
set_option maxHeartbeats 400000 in
theorem iWeight_ok (m n : Nat) (w : World) (ht : Tab w) (h : goodB m n = true) (hm : m ≤ 16) (hn : n < 65536) :
    Calls Tryd.prog 23 #[.int .i64 m, .int .i64 n] w fun e w' => e = .returned (.tuple #[.int .i64 (cnt m n : Nat), .bool true]) ∧ w = w' := by
  go_enter Tryd.func23, Tryd.ntmps23
  go_wp2_with (first
    | (go_at_call 20; refine (iGood_any _ _ _ ht).mono ?_; rintro e w' ⟨rfl, rfl⟩)
    | (go_at_call 43; refine (iCount _ _ _ ht hm hn).mono ?_; rintro e w' ⟨rfl, rfl⟩))
  go_ret2
  exact ⟨rfl, rfl⟩
set_option maxHeartbeats 400000 in
theorem sWeight_no (x r : Int) (w : World) (h : goodB x r = false) :
    Calls Tryd.prog 25 #[.int .i64 x, .int .i64 r] w fun e w' => e = .returned (.tuple #[.int .i64 0, .bool false]) ∧ w = w' := by
  go_enter Tryd.func25, Tryd.ntmps25
  go_wp2_with (go_at_call 21; refine (sGood_any _ _ _).mono ?_; rintro e w' ⟨rfl, rfl⟩)
  go_ret2
  exact ⟨rfl, rfl⟩
set_option maxHeartbeats 400000 in
theorem sWeight_ok (m n : Nat) (w : World) (h : goodB m n = true) (hm : m ≤ 16) (hn : n < 2 ^ m) :
    Calls Tryd.prog 25 #[.int .i64 m, .int .i64 n] w fun e w' => e = .returned (.tuple #[.int .i64 (cnt m n : Nat), .bool true]) ∧ w = w' := by
  go_enter Tryd.func25, Tryd.ntmps25
  go_wp2_with (first
    | (go_at_call 21; refine (sGood_any _ _ _).mono ?_; rintro e w' ⟨rfl, rfl⟩)
    | (go_at_call 44; refine (sWeight m _ _ hm hn).mono ?_; rintro e w' ⟨rfl, rfl⟩))
  go_ret2
  exact ⟨rfl, rfl⟩

/- FarApart -/
set_option maxHeartbeats 400000 in
theorem iFar_no (x a b : Int) (w : World) (ht : Tab w) (h : twoB x a b = false) :
    Calls Tryd.prog 16 #[.int .i64 x, .int .i64 a, .int .i64 b] w fun e w' => e = .returned (.tuple #[.int .i64 0, .bool false]) ∧ w = w' := by
  have h' := two_false h
  clear h
  rcases h' with ha | ⟨ha, hb⟩
  all_goals
    go_enter Tryd.func16, Tryd.ntmps16
    go_wp2_with (go_at_call 20; refine (iGood_any _ _ _ ht).mono ?_; rintro e w' ⟨rfl, rfl⟩)
    go_ret2
    exact ⟨rfl, rfl⟩
set_option maxHeartbeats 400000 in
theorem iFar_ok (m a b : Nat) (w : World) (ht : Tab w) (h : twoB m a b = true) (hm : m ≤ 16) (ha : a < 2 ^ m) (hb : b < 2 ^ m) :
    Calls Tryd.prog 16 #[.int .i64 m, .int .i64 a, .int .i64 b] w fun e w' => e = .returned (.tuple #[.int .i64 (cnt m (a ^^^ b) : Nat), .bool true]) ∧ w = w' := by
  obtain ⟨h1, h2⟩ := two_true h
  have ha' := lt16 hm ha
  have hb' := lt16 hm hb
  have hx := xor_i64 a b (by omega) (by omega)
  have hl := lt16 hm (xor_lt ha hb)
  clear h
  go_enter Tryd.func16, Tryd.ntmps16
  go_wp2_with (first
    | (go_at_call 20; refine (iGood_any _ _ _ ht).mono ?_; rintro e w' ⟨rfl, rfl⟩)
    | (go_at_call 43; refine (iCount _ _ _ ht hm hl).mono ?_; rintro e w' ⟨rfl, rfl⟩))
  go_ret2
  exact ⟨rfl, rfl⟩
set_option maxHeartbeats 400000 in
theorem sFar_no (x a b : Int) (w : World) (h : twoB x a b = false) :
    Calls Tryd.prog 17 #[.int .i64 x, .int .i64 a, .int .i64 b] w fun e w' => e = .returned (.tuple #[.int .i64 0, .bool false]) ∧ w = w' := by
  go_enter Tryd.func17, Tryd.ntmps17
  go_wp2_with (go_at_call 42; refine (sTwo _ _ _ _).mono ?_; rintro e w' ⟨rfl, rfl⟩)
  go_ret2
  exact ⟨rfl, rfl⟩
set_option maxHeartbeats 400000 in
theorem sFar_ok (m a b : Nat) (w : World) (h : twoB m a b = true) (hm : m ≤ 16) (ha : a < 2 ^ m) (hb : b < 2 ^ m) :
    Calls Tryd.prog 17 #[.int .i64 m, .int .i64 a, .int .i64 b] w fun e w' => e = .returned (.tuple #[.int .i64 (cnt m (a ^^^ b) : Nat), .bool true]) ∧ w = w' := by
  have ha' := lt16 hm ha
  have hb' := lt16 hm hb
  have hx := xor_i64 a b (by omega) (by omega)
  have hl := xor_lt ha hb
  go_enter Tryd.func17, Tryd.ntmps17
  go_wp2_with (first
    | (go_at_call 42; refine (sTwo _ _ _ _).mono ?_; rintro e w' ⟨rfl, rfl⟩)
    | (go_at_call 44; refine (sWeight m _ _ hm hl).mono ?_; rintro e w' ⟨rfl, rfl⟩))
  go_ret2
  exact ⟨rfl, rfl⟩

/- DotOf -/
set_option maxHeartbeats 400000 in
theorem iDot_no (x a b : Int) (w : World) (ht : Tab w) (h : twoB x a b = false) :
    Calls Tryd.prog 18 #[.int .i64 x, .int .i64 a, .int .i64 b] w fun e w' => e = .returned (.tuple #[.int .i64 0, .bool false]) ∧ w = w' := by
  have h' := two_false h
  clear h
  rcases h' with ha | ⟨ha, hb⟩
  all_goals
    go_enter Tryd.func18, Tryd.ntmps18
    go_wp2_with (go_at_call 20; refine (iGood_any _ _ _ ht).mono ?_; rintro e w' ⟨rfl, rfl⟩)
    go_ret2
    exact ⟨rfl, rfl⟩
set_option maxHeartbeats 400000 in
theorem iDot_ok (m a b : Nat) (w : World) (ht : Tab w) (h : twoB m a b = true) (hm : m ≤ 16) (ha : a < 2 ^ m) (hb : b < 2 ^ m) :
    Calls Tryd.prog 18 #[.int .i64 m, .int .i64 a, .int .i64 b] w fun e w' => e = .returned (.tuple #[.int .i64 (cnt m (a &&& b) % 2 : Nat), .bool true]) ∧ w = w' := by
  obtain ⟨h1, h2⟩ := two_true h
  have ha' := lt16 hm ha
  have hb' := lt16 hm hb
  have hx := and_i64 a b (by omega) (by omega)
  have hl := lt16 hm (and_lt (a := a) hb)
  have hc := cnt_le m (a &&& b)
  clear h
  go_enter Tryd.func18, Tryd.ntmps18
  go_wp2_with (first
    | (go_at_call 20; refine (iGood_any _ _ _ ht).mono ?_; rintro e w' ⟨rfl, rfl⟩)
    | (go_at_call 43; refine (iCount _ _ _ ht hm hl).mono ?_; rintro e w' ⟨rfl, rfl⟩))
  go_ret2
  exact ⟨tup (by simp), rfl⟩
set_option maxHeartbeats 400000 in
theorem sDot (m a b : Nat) (w : World) (hm : m ≤ 16) (ha : a < 2 ^ m) (hb : b < 2 ^ m) :
    Calls Tryd.prog 45 #[.int .i64 a, .int .i64 b] w fun e w' => e = .returned (.int .i64 (cnt m (a &&& b) % 2 : Nat)) ∧ w = w' := by
  have ha' := lt16 hm ha
  have hb' := lt16 hm hb
  have hx := and_i64 a b (by omega) (by omega)
  have hl := and_lt (a := a) hb
  have hc := cnt_le m (a &&& b)
  go_enter Tryd.func45, Tryd.ntmps45
  go_wp2_with (go_at_call 44; refine (sWeight m _ _ hm hl).mono ?_; rintro e w' ⟨rfl, rfl⟩)
  go_ret
  exact ⟨ret_int (by simp), rfl⟩
set_option maxHeartbeats 400000 in
theorem sDot_no (x a b : Int) (w : World) (h : twoB x a b = false) :
    Calls Tryd.prog 19 #[.int .i64 x, .int .i64 a, .int .i64 b] w fun e w' => e = .returned (.tuple #[.int .i64 0, .bool false]) ∧ w = w' := by
  go_enter Tryd.func19, Tryd.ntmps19
  go_wp2_with (go_at_call 42; refine (sTwo _ _ _ _).mono ?_; rintro e w' ⟨rfl, rfl⟩)
  go_ret2
  exact ⟨rfl, rfl⟩
set_option maxHeartbeats 400000 in
theorem sDot_ok (m a b : Nat) (w : World) (h : twoB m a b = true) (hm : m ≤ 16) (ha : a < 2 ^ m) (hb : b < 2 ^ m) :
    Calls Tryd.prog 19 #[.int .i64 m, .int .i64 a, .int .i64 b] w fun e w' => e = .returned (.tuple #[.int .i64 (cnt m (a &&& b) % 2 : Nat), .bool true]) ∧ w = w' := by
  go_enter Tryd.func19, Tryd.ntmps19
  go_wp2_with (first
    | (go_at_call 42; refine (sTwo _ _ _ _).mono ?_; rintro e w' ⟨rfl, rfl⟩)
    | (go_at_call 45; refine (sDot m _ _ _ hm ha hb).mono ?_; rintro e w' ⟨rfl, rfl⟩))
  go_ret2
  exact ⟨rfl, rfl⟩

/- The four laws -/
set_option maxHeartbeats 400000 in
theorem addRows_law (x a b : Int) (w : World) (ht : Tab w) :
    Calls Tryd.prog 6 #[.int .i64 x, .int .i64 a, .int .i64 b] w fun e w' => e = .returned (.bool true) ∧ w = w' := by
  cases h : twoB x a b
  · go_enter Tryd.func6, Tryd.ntmps6
    go_wp2_with (first
      | (go_at_call 14; refine (iAdd_no _ _ _ _ ht h).mono ?_; rintro e w' ⟨rfl, rfl⟩)
      | (go_at_call 15; refine (sAdd_no _ _ _ _ h).mono ?_; rintro e w' ⟨rfl, rfl⟩))
    go_ret
    exact ⟨rfl, rfl⟩
  · obtain ⟨m, a, b, rfl, rfl, rfl, hm1, hm2, ha, hb⟩ := two_nat h
    have ha' := lt16 hm2 ha
    have hb' := lt16 hm2 hb
    go_enter Tryd.func6, Tryd.ntmps6
    go_wp2_with (first
      | (go_at_call 14; refine (iAdd_ok _ _ _ _ ht h ha' hb').mono ?_; rintro e w' ⟨rfl, rfl⟩)
      | (go_at_call 15; refine (sAdd_ok _ _ _ _ h ha' hb').mono ?_; rintro e w' ⟨rfl, rfl⟩))
    go_ret
    exact ⟨rfl, rfl⟩
set_option maxHeartbeats 400000 in
theorem weightOf_law (x r : Int) (w : World) (ht : Tab w) :
    Calls Tryd.prog 7 #[.int .i64 x, .int .i64 r] w fun e w' => e = .returned (.bool true) ∧ w = w' := by
  cases h : goodB x r
  · go_enter Tryd.func7, Tryd.ntmps7
    go_wp2_with (first
      | (go_at_call 23; refine (iWeight_no _ _ _ ht h).mono ?_; rintro e w' ⟨rfl, rfl⟩)
      | (go_at_call 25; refine (sWeight_no _ _ _ h).mono ?_; rintro e w' ⟨rfl, rfl⟩))
    go_ret
    exact ⟨rfl, rfl⟩
  · obtain ⟨m, n, rfl, rfl, hm1, hm2, hn⟩ := good_nat h
    have hn' := lt16 hm2 hn
    go_enter Tryd.func7, Tryd.ntmps7
    go_wp2_with (first
      | (go_at_call 23; refine (iWeight_ok _ _ _ ht h hm2 hn').mono ?_; rintro e w' ⟨rfl, rfl⟩)
      | (go_at_call 25; refine (sWeight_ok _ _ _ h hm2 hn).mono ?_; rintro e w' ⟨rfl, rfl⟩))
    go_ret
    exact ⟨rfl, rfl⟩
set_option maxHeartbeats 400000 in
theorem farApart_law (x a b : Int) (w : World) (ht : Tab w) :
    Calls Tryd.prog 12 #[.int .i64 x, .int .i64 a, .int .i64 b] w fun e w' => e = .returned (.bool true) ∧ w = w' := by
  cases h : twoB x a b
  · go_enter Tryd.func12, Tryd.ntmps12
    go_wp2_with (first
      | (go_at_call 16; refine (iFar_no _ _ _ _ ht h).mono ?_; rintro e w' ⟨rfl, rfl⟩)
      | (go_at_call 17; refine (sFar_no _ _ _ _ h).mono ?_; rintro e w' ⟨rfl, rfl⟩))
    go_ret
    exact ⟨rfl, rfl⟩
  · obtain ⟨m, a, b, rfl, rfl, rfl, hm1, hm2, ha, hb⟩ := two_nat h
    go_enter Tryd.func12, Tryd.ntmps12
    go_wp2_with (first
      | (go_at_call 16; refine (iFar_ok _ _ _ _ ht h hm2 ha hb).mono ?_; rintro e w' ⟨rfl, rfl⟩)
      | (go_at_call 17; refine (sFar_ok _ _ _ _ h hm2 ha hb).mono ?_; rintro e w' ⟨rfl, rfl⟩))
    go_ret
    exact ⟨rfl, rfl⟩
set_option maxHeartbeats 400000 in
theorem dotOf_law (x a b : Int) (w : World) (ht : Tab w) :
    Calls Tryd.prog 8 #[.int .i64 x, .int .i64 a, .int .i64 b] w fun e w' => e = .returned (.bool true) ∧ w = w' := by
  cases h : twoB x a b
  · go_enter Tryd.func8, Tryd.ntmps8
    go_wp2_with (first
      | (go_at_call 18; refine (iDot_no _ _ _ _ ht h).mono ?_; rintro e w' ⟨rfl, rfl⟩)
      | (go_at_call 19; refine (sDot_no _ _ _ _ h).mono ?_; rintro e w' ⟨rfl, rfl⟩))
    go_ret
    exact ⟨rfl, rfl⟩
  · obtain ⟨m, a, b, rfl, rfl, rfl, hm1, hm2, ha, hb⟩ := two_nat h
    go_enter Tryd.func8, Tryd.ntmps8
    go_wp2_with (first
      | (go_at_call 18; refine (iDot_ok _ _ _ _ ht h hm2 ha hb).mono ?_; rintro e w' ⟨rfl, rfl⟩)
      | (go_at_call 19; refine (sDot_ok _ _ _ _ h hm2 ha hb).mono ?_; rintro e w' ⟨rfl, rfl⟩))
    go_ret
    exact ⟨rfl, rfl⟩
end Go.Proofs.YtbdncpbbeodpbaaDoor
