/-
  The program's chapter 4: pieceIn.
-/
import Derived.Test.YthabkkboodhbmaaI1
namespace Go.Proofs.Ythabkkboodhbmaa
open Go.RowKit

/-- A group's four bytes lie in a block of their own. -/
def Grp (w : World) (g : Nat) (b0 b1 b2 b3 : Nat) : Prop := w.heap[g]? = some (.cells #[.int .u8 b0, .int .u8 b1, .int .u8 b2, .int .u8 b3] 5 (0, 0))

set_option maxRecDepth 100000 in
set_option maxHeartbeats 1000000 in
theorem iPieceIn (g : Nat) (B : List Nat) (h8 : ∀ b ∈ B, b < 256) (w : World) (hc : ∀ j, j < 4 → w.cell? ⟨g, j, none⟩ = some (.int .u8 (B.getD j 0 : Nat))) :
    Calls Try.prog 58 #[.slice (some ⟨g, 0, none⟩) 4 4] w fun e w' => e = .returned (.int .i64 (pieceN B 0 : Nat)) ∧ w = w' := by
  have HC := Lib.hid hc
  have H8 := Lib.hid h8
  clear hc h8
  go_enter Try.func58, Try.ntmps58
  go_wp2_with fail
  go_loopg [3, 8] 4 (fun gk p i wr => ∃ k : Nat, k + gk = 4 ∧ i = .int .i64 k ∧ p = .int .i64 (pn B 0 k : Nat) ∧ w = wr)
  case atStart => exact ⟨0, by omega, rfl, rfl, rfl⟩
  case round =>
    obtain ⟨k, hg, rfl, rfl, rfl⟩ := hrel
    by_cases hlt : k < 4
    · have hki : (k : Int) < 4 := by omega
      have hck := HC.out k hlt
      have hpl : pn B 0 k < 16777216 := Nat.lt_of_lt_of_le (pn_lt H8.out 0 k) (Nat.le_trans (Nat.pow_le_pow_right (n := 256) (by decide) (show k ≤ 3 by omega)) (by decide))
      have hbl : B.getD k 0 < 256 := getD_lt H8.out k
      have HR : Hid (pn B 0 (k + 1) = pn B 0 k * 256 + B.getD k 0) := by show _ = _; rw [pn, Nat.zero_add]
      generalize pn B 0 k = q at *
      generalize B.getD k 0 = c at *
      have hor : bits .or .i64 ((q : Int) * 256) (c : Int) = ((q * 256 + c : Nat) : Int) := by
        have e : (q : Int) * 256 = ((q * 256 : Nat) : Int) := by omega
        rw [e, or_i64 (q * 256) c (by omega) (by omega)]
        congr 1
        have := Nat.two_pow_add_eq_or_of_lt (i := 8) (b := c) hbl q
        rw [Nat.mul_comm q 256]
        exact this.symm
      go_wp2_with fail
      go_roundg (3 - k)
      case measure => omega
      case rel => exact ⟨k + 1, by omega, by go_num, by rw [HR.out]; go_num, rfl⟩
    · obtain rfl : k = 4 := by omega
      rw [pn_four]
      go_wp2_with fail
      go_ret
      exact ⟨rfl, rfl⟩
end Go.Proofs.Ythabkkboodhbmaa
