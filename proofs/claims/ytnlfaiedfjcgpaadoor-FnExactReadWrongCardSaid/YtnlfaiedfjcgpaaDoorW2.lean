/-
  What AddRows, WeightOf, DotOf and FarApart answer, in the program's text and in the model's, at every argument, in every world that holds the table of bit values.
-/
import Derived.Test.YtnlfaiedfjcgpaaDoorW1
import Derived.Test.YtnlfaiedfjcgpaaDoorMG
import Derived.Lib.Hide
namespace Go.Proofs.YtnlfaiedfjcgpaaDoor
open Go.RowKit

/-- Valid arguments are natural numbers. -/
theorem good_nat {x r : Int} (h : goodB x r = true) : ∃ m n : Nat, x = m ∧ r = n ∧ 1 ≤ m ∧ m ≤ 16 ∧ n < 2 ^ m := by
  have h' : (1 ≤ x ∧ x ≤ 16) ∧ 0 ≤ r ∧ r < (2 : Int) ^ x.toNat := by simpa [goodB, wideB] using h
  obtain ⟨⟨h1, h2⟩, h3, h4⟩ := h'
  refine ⟨x.toNat, r.toNat, by omega, by omega, by omega, by omega, ?_⟩
  have h5 : ((r.toNat : Nat) : Int) < ((2 ^ x.toNat : Nat) : Int) := by
    rw [show ((r.toNat : Nat) : Int) = r by omega]; simpa using h4
  exact_mod_cast h5

theorem lt16 {m n : Nat} (hm : m ≤ 16) (hn : n < 2 ^ m) : n < 65536 := Nat.lt_of_lt_of_le hn (two_pow_le m hm)
theorem tup {k : IntKind} {a b : Int} {c : Bool} (h : a = b) : Ending.returned (.tuple #[.int k a, .bool c]) = .returned (.tuple #[.int k b, .bool c]) := by rw [h]

set_option maxRecDepth 100000 in
set_option maxHeartbeats 400000 in
theorem iCount (m n : Nat) (w : World) (ht : Tab w) (hm : m ≤ 16) (hn : n < 65536) :
    Calls Tryd.prog 24 #[.int .i64 m, .int .i64 n] w fun e w' => e = .returned (.int .i64 (cnt m n : Nat)) ∧ w = w' := by
  go_enter Tryd.func24, Tryd.ntmps24
  go_wp2
  go_loop [5, 8] (fun c i => ∃ k : Nat, k ≤ m ∧ i = .int .i64 k ∧ c = .int .i64 (cnt k n : Nat)) (fun _ i => m - (intOf i).toNat)
  case atStart => exact ⟨0, by omega, rfl, rfl⟩
  case round =>
    obtain ⟨k, hk, rfl, rfl⟩ := hrel
    have hle := cnt_le k n
    by_cases hlt : k < m
    · have hc := ht k (by omega)
      have hs : cnt (k + 1) n = cnt k n + n / 2 ^ k % 2 := rfl
      have HS := Lib.hid hs
      have ha := Lib.hid (and_pow_i64 n k hn (by omega))
      clear ht hs
      by_cases hb : n / 2 ^ k % 2 = 1
      · have HB := Lib.hid hb
        have hne : (bits .and .i64 (n : Int) ((2 : Int) ^ k) != 0) = true := by
          rw [ha.out]; have := and_pow_ne.2 hb; simp; omega
        clear hb
        go_wp2
        go_round
        case rel => exact ⟨k + 1, by omega, by go_num, by rw [HS.out, HB.out]; go_num⟩
        case measure => simp [intOf]; omega
      · have HB : Hid (n / 2 ^ k % 2 = 0) := by show n / 2 ^ k % 2 = 0; omega
        have hne : (bits .and .i64 (n : Int) ((2 : Int) ^ k) != 0) = false := by
          rw [ha.out]; have h0 : n &&& 2 ^ k = 0 := Classical.byContradiction fun h => hb (and_pow_ne.1 h)
          rw [h0]; rfl
        clear hb
        go_wp2
        go_round
        case rel => exact ⟨k + 1, by omega, by go_num, by rw [HS.out, HB.out]; go_num⟩
        case measure => simp [intOf]; omega
    · obtain rfl : k = m := by omega
      go_wp2
      go_ret
      exact ⟨rfl, rfl⟩

set_option maxRecDepth 100000 in
set_option maxHeartbeats 400000 in
theorem sWeight (m n : Nat) (w : World) (hm : m ≤ 16) (hn : n < 2 ^ m) :
    Calls Tryd.prog 31 #[.int .i64 n] w fun e w' => e = .returned (.int .i64 (cnt m n : Nat)) ∧ w = w' := by
  have hn16 := lt16 hm hn
  go_enter Tryd.func31, Tryd.ntmps31
  go_wp2
  go_loop [0, 3] (fun a c => ∃ k : Nat, k ≤ m ∧ a = .int .i64 (n / 2 ^ k : Nat) ∧ c = .int .i64 (cnt k n : Nat)) (fun a _ => (intOf a).toNat)
  case atStart => exact ⟨0, by omega, by simp, rfl⟩
  case round =>
    obtain ⟨k, hk, rfl, rfl⟩ := hrel
    have hle := cnt_le k n
    have hs : cnt (k + 1) n = cnt k n + n / 2 ^ k % 2 := rfl
    have hd : n / 2 ^ (k + 1) = n / 2 ^ k / 2 := by rw [Nat.div_div_eq_div_mul, Nat.pow_succ]
    have hq : n / 2 ^ k ≤ n := Nat.div_le_self _ _
    have hz : n / 2 ^ k = 0 → cnt m n = cnt k n := fun h => cnt_stop ((Nat.div_eq_zero_iff_lt (Nat.two_pow_pos k)).1 h) hk
    have hz' : 0 < n / 2 ^ k → k < m := fun h => by
      apply Classical.byContradiction; intro h2
      obtain rfl : k = m := by omega
      rw [Nat.div_eq_of_lt hn] at h; omega
    have HS := Lib.hid hs
    have HD := Lib.hid hd
    have HZ := Lib.hid hz
    have HZ' := Lib.hid hz'
    clear hs hd hz hz'
    generalize hqq : n / 2 ^ k = a at *
    have HQ := Lib.hid hqq
    clear hqq
    have ha := and_one_i64 a (by omega)
    by_cases hlt : 0 < a
    · have hkm := HZ'.out hlt
      go_wp2
      go_round
      case rel => exact ⟨k + 1, by omega, by rw [HD.out]; go_num, by rw [HS.out]; go_num⟩
      case measure => simp [intOf]; omega
    · obtain rfl : a = 0 := by omega
      have HE := HZ.out rfl
      have HE' := Lib.hid HE
      clear HE HZ HZ'
      go_wp2
      go_ret
      exact ⟨ret_int (by rw [HE'.out]), rfl⟩
end Go.Proofs.YtnlfaiedfjcgpaaDoor
