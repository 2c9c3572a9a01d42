/-
  The program's chapter 4: goodLong, goodPiece, divideUp, piecesFor, PartOf, BlocksFor.
-/
import Derived.Test.YthabkkboodhbmaaJM
namespace Go.Proofs.Ythabkkboodhbmaa
open Go.RowKit

set_option maxRecDepth 100000 in
set_option maxHeartbeats 400000 in
theorem iGoodLong (n : Int) (w : World) : Calls Try.prog 48 #[.int .i64 n] w fun e w' => e = .returned (.bool (longOkB n)) ∧ w = w' := by
  by_cases h1 : 0 ≤ n
  · by_cases h2 : n ≤ 96
    · have HE : Hid (longOkB n = true) := inB_mk h1 h2
      go_enter Try.func48, Try.ntmps48
      go_wp2_with fail
      go_ret
      exact ⟨ret_bool' HE.out.symm, rfl⟩
    · have HE : Hid (longOkB n = false) := inB_not (by omega)
      go_enter Try.func48, Try.ntmps48
      go_wp2_with fail
      go_ret
      exact ⟨ret_bool' HE.out.symm, rfl⟩
  · have HE : Hid (longOkB n = false) := inB_not (by omega)
    go_enter Try.func48, Try.ntmps48
    go_wp2_with fail
    go_ret
    exact ⟨ret_bool' HE.out.symm, rfl⟩

set_option maxRecDepth 100000 in
set_option maxHeartbeats 400000 in
theorem iGoodPiece (n : Int) (w : World) : Calls Try.prog 60 #[.int .i64 n] w fun e w' => e = .returned (.bool (pieceB n)) ∧ w = w' := by
  by_cases h1 : 0 ≤ n
  · by_cases h2 : n ≤ 4294967295
    · have HE : Hid (pieceB n = true) := inB_mk h1 h2
      go_enter Try.func60, Try.ntmps60
      go_wp2_with fail
      go_ret
      exact ⟨ret_bool' HE.out.symm, rfl⟩
    · have HE : Hid (pieceB n = false) := inB_not (by omega)
      go_enter Try.func60, Try.ntmps60
      go_wp2_with fail
      go_ret
      exact ⟨ret_bool' HE.out.symm, rfl⟩
  · have HE : Hid (pieceB n = false) := inB_not (by omega)
    go_enter Try.func60, Try.ntmps60
    go_wp2_with fail
    go_ret
    exact ⟨ret_bool' HE.out.symm, rfl⟩

set_option maxRecDepth 100000 in
set_option maxHeartbeats 400000 in
theorem iUp (m n : Nat) (w : World) (hn : 1 ≤ n) (h1 : m ≤ 1000000) (h2 : n ≤ 1000000) :
    Calls Try.prog 49 #[.int .i64 m, .int .i64 n] w fun e w' => e = .returned (.int .i64 ((m + n - 1) / n : Nat)) ∧ w = w' := by
  have hn0 : ¬ n = 0 := by omega
  have HE1 : Hid (((m : Int) + (n : Int) - 1) / (n : Int) = (((m + n - 1) / n : Nat) : Int)) := by
    show _ = _
    rw [show (m : Int) + (n : Int) - 1 = ((m + n - 1 : Nat) : Int) by omega]; exact (Int.natCast_ediv _ _).symm
  have hq0 : (0 : Int) ≤ ((m : Int) + (n : Int) - 1) / (n : Int) := by rw [HE1.out]; exact Int.natCast_nonneg _
  have hq1 : ((m : Int) + (n : Int) - 1) / (n : Int) ≤ 2000000 := by rw [HE1.out]; have := Nat.div_le_self (m + n - 1) n; omega
  go_enter Try.func49, Try.ntmps49
  go_wp2_with fail
  go_ret
  exact ⟨ret_int HE1.out, rfl⟩

set_option maxRecDepth 100000 in
set_option maxHeartbeats 400000 in
theorem iPiecesFor (n : Nat) (w : World) (h : n ≤ 1000000) : Calls Try.prog 50 #[.int .i64 n] w fun e w' => e = .returned (.int .i64 (cntP n : Nat)) ∧ w = w' := by
  have HE : Hid ((n + 4 - 1) / 4 = cntP n) := by show _ = _; unfold cntP; omega
  have HU := Lib.hid (iUp n 4 w (by omega) h (by omega))
  rw [HE.out] at HU
  go_enter Try.func50, Try.ntmps50
  go_wp2_with (go_at_call 49; refine HU.out.mono ?_; rintro e w' ⟨rfl, rfl⟩)
  go_ret
  exact ⟨rfl, rfl⟩

set_option maxRecDepth 100000 in
set_option maxHeartbeats 400000 in
theorem iBlocks_any (n : Int) (w : World) : Calls Try.prog 17 #[.int .i64 n] w fun e w' => e = .returned (.tuple #[.int .i64 (blocksI n), .bool (longOkB n)]) ∧ w = w' := by
  cases h : longOkB n
  · have HE := Lib.hid h
    go_enter Try.func17, Try.ntmps17
    go_wp2_with (go_at_call 48; refine (iGoodLong _ _).mono ?_; rintro e w' ⟨rfl, rfl⟩)
    go_ret2
    exact ⟨tup (by rw [blocksI, HE.out]; rfl), rfl⟩
  · have HE := Lib.hid h
    have h2 : 0 ≤ n ∧ n ≤ 96 := by simpa [longOkB, inB] using h
    obtain ⟨n, rfl⟩ := Int.eq_ofNat_of_zero_le h2.1
    have hc : cntP n ≤ 25 := by unfold cntP; omega
    have HE2 : Hid ((cntP n + 8 - 1) / 8 = blkN n) := by show _ = _; unfold blkN; omega
    have HU := Lib.hid (iUp (cntP n) 8 w (by omega) (by omega) (by omega))
    rw [HE2.out] at HU
    go_enter Try.func17, Try.ntmps17
    go_wp2_with (first
      | (go_at_call 48; refine (iGoodLong _ _).mono ?_; rintro e w' ⟨rfl, rfl⟩)
      | (go_at_call 50; refine (iPiecesFor n _ (by omega)).mono ?_; rintro e w' ⟨rfl, rfl⟩)
      | (go_at_call 49; refine HU.out.mono ?_; rintro e w' ⟨rfl, rfl⟩))
    go_ret2
    exact ⟨tup (by rw [blocksI, if_pos HE.out, Int.toNat_natCast]), rfl⟩
end Go.Proofs.Ythabkkboodhbmaa
