/-
  The laws' draws of chapter 1 that make lists: rows, DrawRowOf, DrawSumRows, DrawBitsIn; sameInts.
-/
import Derived.Test.YtbegikjoialahaaD3
namespace Go.Proofs.Ytbegikjoialahaa
open Go.RowKit

theorem Own.lower {w : World} {base base' : Nat} {v : Value} {zs : List Int} (h : Own w base v zs) (hb : base' ≤ base) : Own w base' v zs := by
  refine ⟨h.1, ?_⟩
  rcases h.2 with hn | ⟨g, cap, cur, e, hg, r⟩
  · exact Or.inl hn
  · exact Or.inr ⟨g, cap, cur, e, Nat.le_trans hb hg, r⟩

set_option maxRecDepth 100000 in
set_option maxHeartbeats 400000 in
theorem sameInts_any (A B : Option Addr) (za zb : List Int) (ca cb : Nat) (w : World) (ha : Ints w A za) (hb : Ints w B zb) (hl : za.length ≤ 140737488355328) :
    Calls Try.prog 45 #[.slice A za.length ca, .slice B zb.length cb] w fun e w' => e = .returned (.bool (eqL za zb)) ∧ ∃ n, w' = w.drewN n := by
  by_cases hlen : za.length = zb.length
  · have hneq : ((za.length : Int) != (zb.length : Int)) = false := by simp [hlen]
    have HL := Lib.hid hlen
    clear hlen
    go_enter Try.func45, Try.ntmps45
    go_wp2
    go_loopw [13] (fun i wr => ∃ k n : Nat, k ≤ za.length ∧ i = .int .i64 k ∧ za.take k = zb.take k ∧ wr = w.drewN n) (fun i _ => za.length - (intOf i).toNat)
    case atStart => exact ⟨0, 0, by omega, rfl, rfl, rfl⟩
    case round =>
      obtain ⟨k, n, hk, rfl, htk, rfl⟩ := hrel
      have HT := Lib.hid htk
      clear htk
      by_cases hlt : k < za.length
      · have hlt' : k < zb.length := by have := HL.out; omega
        obtain ⟨b1, o1, rfl, hc1⟩ := ha (by rintro rfl; simp at hlt)
        obtain ⟨b2, o2, rfl, hc2⟩ := hb (by rintro rfl; simp at hlt')
        have g1 := hc1 k hlt
        have g2 := hc2 k hlt'
        clear hc1 hc2 ha hb
        have hi1 : (k : Int) < (za.length : Int) := by omega
        have hi2 : (k : Int) < (zb.length : Int) := by omega
        go_wp2_with fail
        go_quiet (fail)
        go_wp2
        · have hne : (za[k] != zb[k]) = true := by assumption
          go_ret
          exact ⟨ret_bool' (eqL_at hlt hlt' hne).symm, n + nq, by simp⟩
        · have heq : (za[k] != zb[k]) = false := by assumption
          go_roundw
          case rel => exact ⟨k + 1, n + nq, by omega, by go_num, take_more hlt hlt' HT.out heq, rfl⟩
          case measure => simp [intOf]; omega
      · obtain rfl : k = za.length := by omega
        go_wp2
        go_ret
        exact ⟨ret_bool' (eqL_take HL.out HT.out).symm, _, rfl⟩
  · have hneq : ((za.length : Int) != (zb.length : Int)) = true := by simp; omega
    have HL := Lib.hid hlen
    clear hlen
    go_enter Try.func45, Try.ntmps45
    go_wp2
    go_ret
    exact ⟨ret_bool' (eqL_len HL.out).symm, 0, rfl⟩
end Go.Proofs.Ytbegikjoialahaa
