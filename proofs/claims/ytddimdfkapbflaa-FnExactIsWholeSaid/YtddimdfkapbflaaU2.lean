/-
  What SameSpan answers, in the program's text and in the model's, at every argument.
-/
import Derived.Test.YtddimdfkapbflaaU1
namespace Go.Proofs.Ytddimdfkapbflaa
open Go.RowKit

set_option maxRecDepth 100000 in
set_option maxHeartbeats 400000 in
theorem iEqual (A B : Option Addr) (za zb : List Int) (ca cb : Nat) (w : World) (ha : Ints w A za) (hb : Ints w B zb) (hl : za.length ≤ 140737488355328) :
    Calls Try.prog 26 #[.slice A za.length ca, .slice B zb.length cb] w fun e w' => e = .returned (.bool (eqL za zb)) ∧ ∃ n, w' = w.drewN n := by
  by_cases hlen : za.length = zb.length
  · have hneq : ((za.length : Int) != (zb.length : Int)) = false := by simp [hlen]
    have HL := Lib.hid hlen
    clear hlen
    go_enter Try.func26, Try.ntmps26
    go_wp2
    go_loopw [13] (fun i wr => ∃ k n : Nat, k ≤ za.length ∧ i = .int .i64 k ∧ za.take k = zb.take k ∧ wr = w.drewN n) (fun i _ => za.length - (intOf i).toNat)
    case atStart => exact ⟨0, 0, by omega, rfl, rfl, rfl⟩
    case round =>
      obtain ⟨k, n, hk, rfl, htk, rfl⟩ := hrel
      have HT := Lib.hid htk
      clear htk
      by_cases hlt : k < za.length
      · have hlt' : k < zb.length := by have := HL.out; omega
        obtain ⟨b1, o1, rfl, hc1⟩ := ha (by rintro rfl; simp at hlt)
        obtain ⟨b2, o2, rfl, hc2⟩ := hb (by rintro rfl; simp at hlt')
        have g1 := hc1 k hlt
        have g2 := hc2 k hlt'
        clear hc1 hc2 ha hb
        have hi1 : (k : Int) < (za.length : Int) := by omega
        have hi2 : (k : Int) < (zb.length : Int) := by omega
        go_wp2_with fail
        go_quiet (fail)
        go_wp2
        · have hne : (za[k] != zb[k]) = true := by assumption
          go_ret
          exact ⟨ret_bool' (eqL_at hlt hlt' hne).symm, n + nq, by simp⟩
        · have heq : (za[k] != zb[k]) = false := by assumption
          go_roundw
          case rel => exact ⟨k + 1, n + nq, by omega, by go_num, take_more hlt hlt' HT.out heq, rfl⟩
          case measure => simp [intOf]; omega
      · obtain rfl : k = za.length := by omega
        go_wp2
        go_ret
        exact ⟨ret_bool' (eqL_take HL.out HT.out).symm, _, rfl⟩
  · have hneq : ((za.length : Int) != (zb.length : Int)) = true := by simp; omega
    have HL := Lib.hid hlen
    clear hlen
    go_enter Try.func26, Try.ntmps26
    go_wp2
    go_ret
    exact ⟨ret_bool' (eqL_len HL.out).symm, 0, rfl⟩

set_option maxRecDepth 100000 in
set_option maxHeartbeats 400000 in
theorem sSame (A B : Option Addr) (za zb : List Int) (ca cb : Nat) (w : World) (ha : Ints w A za) (hb : Ints w B zb) (hl : za.length ≤ 140737488355328) :
    Calls Try.prog 25 #[.slice A za.length ca, .slice B zb.length cb] w fun e w' => e = .returned (.bool (eqL za zb)) ∧ ∃ n, w' = w.drewN n := by
  by_cases hlen : za.length = zb.length
  · have hneq : ((za.length : Int) != (zb.length : Int)) = false := by simp [hlen]
    have HL := Lib.hid hlen
    clear hlen
    go_enter Try.func25, Try.ntmps25
    go_wp2
    go_loopw [13] (fun i wr => ∃ k n : Nat, k ≤ za.length ∧ i = .int .i64 k ∧ za.take k = zb.take k ∧ wr = w.drewN n) (fun i _ => za.length - (intOf i).toNat)
    case atStart => exact ⟨0, 0, by omega, rfl, rfl, rfl⟩
    case round =>
      obtain ⟨k, n, hk, rfl, htk, rfl⟩ := hrel
      have HT := Lib.hid htk
      clear htk
      by_cases hlt : k < za.length
      · have hlt' : k < zb.length := by have := HL.out; omega
        obtain ⟨b1, o1, rfl, hc1⟩ := ha (by rintro rfl; simp at hlt)
        obtain ⟨b2, o2, rfl, hc2⟩ := hb (by rintro rfl; simp at hlt')
        have g1 := hc1 k hlt
        have g2 := hc2 k hlt'
        clear hc1 hc2 ha hb
        have hi1 : (k : Int) < (za.length : Int) := by omega
        have hi2 : (k : Int) < (zb.length : Int) := by omega
        go_wp2_with fail
        go_quiet (fail)
        go_wp2
        · have hne : (za[k] != zb[k]) = true := by assumption
          go_ret
          exact ⟨ret_bool' (eqL_at hlt hlt' hne).symm, n + nq, by simp⟩
        · have heq : (za[k] != zb[k]) = false := by assumption
          go_roundw
          case rel => exact ⟨k + 1, n + nq, by omega, by go_num, take_more hlt hlt' HT.out heq, rfl⟩
          case measure => simp [intOf]; omega
      · obtain rfl : k = za.length := by omega
        go_wp2
        go_ret
        exact ⟨ret_bool' (eqL_take HL.out HT.out).symm, _, rfl⟩
  · have hneq : ((za.length : Int) != (zb.length : Int)) = true := by simp; omega
    have HL := Lib.hid hlen
    clear hlen
    go_enter Try.func25, Try.ntmps25
    go_wp2
    go_ret
    exact ⟨ret_bool' (eqL_len HL.out).symm, 0, rfl⟩

def sameOkB (x : Int) (a b : List Int) : Bool := rowsB x a && rowsB x b
def sameI (x : Int) (a b : List Int) : Bool := sameOkB x a b && eqL (stepsI x a) (stepsI x b)
theorem sameOk_false {x : Int} {a b : List Int} (h : sameOkB x a b = false) : rowsB x a = false ∨ (rowsB x a = true ∧ rowsB x b = false) := by
  cases ha : rowsB x a
  · exact Or.inl rfl
  · exact Or.inr ⟨rfl, by simpa [sameOkB, ha] using h⟩
theorem sameOk_true {x : Int} {a b : List Int} (h : sameOkB x a b = true) : rowsB x a = true ∧ rowsB x b = true := by simpa [sameOkB] using h

end Go.Proofs.Ytddimdfkapbflaa
