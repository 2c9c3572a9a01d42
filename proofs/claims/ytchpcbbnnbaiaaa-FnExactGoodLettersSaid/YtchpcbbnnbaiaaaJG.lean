/-
  The model of chapter 5: l5Degree, DegreeOf, l5Parts, PartsOf.
-/
import Derived.Test.YtchpcbbnnbaiaaaJF
namespace Go.Proofs.Ytchpcbbnnbaiaaa
open Go.RowKit

def noOkB (no : Int) : Bool := inB no 0 999
def pcOkB (n : Int) : Bool := inB n 1 8
def symOkB (no n : Int) : Bool := noOkB no && pcOkB n
def degI (no n : Int) : Int := if symOkB no n = true then (degN no.toNat n.toNat : Nat) else 0
def partsI (no n : Int) : List Int := if symOkB no n = true then zI (partsL no.toNat n.toNat) else []
theorem sym_nat {no n : Int} (h : symOkB no n = true) : ∃ a b : Nat, no = a ∧ n = b ∧ a ≤ 999 ∧ 1 ≤ b ∧ b ≤ 8 := by
  simp [symOkB, noOkB, pcOkB, inB] at h
  exact ⟨no.toNat, n.toNat, by omega, by omega, by omega, by omega, by omega⟩
theorem partsI_len (no n : Int) : (partsI no n).length ≤ 4 := by
  unfold partsI; split
  · rename_i h
    obtain ⟨a, b, rfl, rfl, _, hb, _⟩ := sym_nat h
    rw [zI_length, Int.toNat_natCast, Int.toNat_natCast, (parts_ok a hb).2]
    exact (degN_bd a hb).2.1
  · simp

set_option maxRecDepth 100000 in
set_option maxHeartbeats 400000 in
theorem gLeast (a b : Int) (w : World) : Calls Try.prog 24 #[.int .i64 a, .int .i64 b] w fun e w' => e = .returned (.int .i64 (min a b)) ∧ w = w' := by
  by_cases h : a < b
  · go_enter Try.func24, Try.ntmps24
    go_wp2_with fail
    go_ret
    exact ⟨ret_int (by omega), rfl⟩
  · go_enter Try.func24, Try.ntmps24
    go_wp2_with fail
    go_ret
    exact ⟨ret_int (by omega), rfl⟩
set_option maxRecDepth 100000 in
set_option maxHeartbeats 400000 in
theorem sNo (n : Int) (w : World) : Calls Try.prog 12 #[.int .i64 n] w fun e w' => e = .returned (.bool (noOkB n)) ∧ w = w' := by
  go_enter Try.func12, Try.ntmps12
  go_wp2_with (go_at_call 23; refine (l1In_any _ _ _ _).mono ?_; rintro e w' ⟨rfl, rfl⟩)
  go_ret
  exact ⟨rfl, rfl⟩
set_option maxRecDepth 100000 in
set_option maxHeartbeats 400000 in
theorem sPc (n : Int) (w : World) : Calls Try.prog 13 #[.int .i64 n] w fun e w' => e = .returned (.bool (pcOkB n)) ∧ w = w' := by
  go_enter Try.func13, Try.ntmps13
  go_wp2_with (go_at_call 23; refine (l1In_any _ _ _ _).mono ?_; rintro e w' ⟨rfl, rfl⟩)
  go_ret
  exact ⟨rfl, rfl⟩

theorem degT_at {r : Nat} : (r < 4 → degT r = 1) ∧ (¬ r < 4 → r < 12 → degT r = 2) ∧ (¬ r < 4 → ¬ r < 12 → r < 16 → degT r = 3) ∧ (¬ r < 4 → ¬ r < 12 → ¬ r < 16 → degT r = 4) := by
  unfold degT
  refine ⟨fun h => by simp [h], fun h h2 => by simp [h, h2], fun h h2 h3 => by simp [h, h2, h3], fun h h2 h3 => by simp [h, h2, h3]⟩
set_option maxRecDepth 100000 in
set_option maxHeartbeats 1000000 in
theorem sDegree (no n : Nat) (w : World) (h1 : no ≤ 999) :
    Calls Try.prog 14 #[.int .i64 no, .int .i64 n] w fun e w' => e = .returned (.int .i64 (degN no n : Nat)) ∧ w = w' := by
  obtain ⟨r, hr⟩ : ∃ r, r = (37 * no + 11) % 20 := ⟨_, rfl⟩
  have hri : ((37 : Int) * (no : Int) + 11) % 20 = (r : Int) := by omega
  have HV : Hid (degN no n = min (degT r) n) := by show _ = _; rw [degN, hr]
  obtain ⟨t1, t2, t3, t4⟩ := @degT_at r
  clear hr
  by_cases c1 : r < 4
  · have HT := Lib.hid (t1 c1)
    have ci : (r : Int) < 4 := by omega
    clear t1 t2 t3 t4
    go_enter Try.func14, Try.ntmps14
    go_wp2_with (go_at_call 24; refine (gLeast _ _ _).mono ?_; rintro e w' ⟨rfl, rfl⟩)
    go_ret
    exact ⟨ret_int (by rw [HV.out, HT.out]; omega), rfl⟩
  · have ci : ¬ (r : Int) < 4 := by omega
    by_cases c2 : r < 12
    · have HT := Lib.hid (t2 c1 c2)
      have di : (r : Int) < 12 := by omega
      clear t1 t2 t3 t4
      go_enter Try.func14, Try.ntmps14
      go_wp2_with (go_at_call 24; refine (gLeast _ _ _).mono ?_; rintro e w' ⟨rfl, rfl⟩)
      go_ret
      exact ⟨ret_int (by rw [HV.out, HT.out]; omega), rfl⟩
    · have di : ¬ (r : Int) < 12 := by omega
      by_cases c3 : r < 16
      · have HT := Lib.hid (t3 c1 c2 c3)
        have ei : (r : Int) < 16 := by omega
        clear t1 t2 t3 t4
        go_enter Try.func14, Try.ntmps14
        go_wp2_with (go_at_call 24; refine (gLeast _ _ _).mono ?_; rintro e w' ⟨rfl, rfl⟩)
        go_ret
        exact ⟨ret_int (by rw [HV.out, HT.out]; omega), rfl⟩
      · have HT := Lib.hid (t4 c1 c2 c3)
        have ei : ¬ (r : Int) < 16 := by omega
        clear t1 t2 t3 t4
        go_enter Try.func14, Try.ntmps14
        go_wp2_with (go_at_call 24; refine (gLeast _ _ _).mono ?_; rintro e w' ⟨rfl, rfl⟩)
        go_ret
        exact ⟨ret_int (by rw [HV.out, HT.out]; omega), rfl⟩

set_option maxRecDepth 100000 in
set_option maxHeartbeats 400000 in
theorem sDegree_any (no n : Int) (w : World) : Calls Try.prog 5 #[.int .i64 no, .int .i64 n] w fun e w' => e = .returned (.tuple #[.int .i64 (degI no n), .bool (symOkB no n)]) ∧ w = w' := by
  cases h : symOkB no n
  · have HE : Hid (degI no n = 0) := by show _ = _; rw [degI, h]; rfl
    cases hn : noOkB no
    · go_enter Try.func5, Try.ntmps5
      go_wp2_with (go_at_call 12; refine (sNo _ _).mono ?_; rintro e w' ⟨rfl, rfl⟩)
      go_ret2
      exact ⟨tup HE.out.symm, rfl⟩
    · have hp : pcOkB n = false := by rw [symOkB, hn] at h; simpa using h
      go_enter Try.func5, Try.ntmps5
      go_wp2_with (first
        | (go_at_call 12; refine (sNo _ _).mono ?_; rintro e w' ⟨rfl, rfl⟩)
        | (go_at_call 13; refine (sPc _ _).mono ?_; rintro e w' ⟨rfl, rfl⟩))
      go_ret2
      exact ⟨tup HE.out.symm, rfl⟩
  · have HE := Lib.hid h
    obtain ⟨hn, hp⟩ : noOkB no = true ∧ pcOkB n = true := by simpa [symOkB] using h
    obtain ⟨a, b, rfl, rfl, h1, _, _⟩ := sym_nat h
    clear h
    go_enter Try.func5, Try.ntmps5
    go_wp2_with (first
      | (go_at_call 12; refine (sNo _ _).mono ?_; rintro e w' ⟨rfl, rfl⟩)
      | (go_at_call 13; refine (sPc _ _).mono ?_; rintro e w' ⟨rfl, rfl⟩)
      | (go_at_call 14; refine (sDegree a b _ h1).mono ?_; rintro e w' ⟨rfl, rfl⟩))
    go_ret2
    exact ⟨tup (by rw [degI, if_pos HE.out, Int.toNat_natCast, Int.toNat_natCast]), rfl⟩

theorem freeK_hit {L : List Nat} {n f k : Nat} (h : k ∉ L) : freeK L n f k = k := by
  cases f with
  | zero => rfl
  | succ f => rw [freeK, if_neg h]

end Go.Proofs.Ytchpcbbnnbaiaaa
