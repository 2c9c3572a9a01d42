/-
  The model of chapter 5: l1Sum over pieces, l5Block, LetterFor.
-/
import Derived.Test.YtddimdfkapbflaaJG
namespace Go.Proofs.Ytddimdfkapbflaa
open Go.RowKit

theorem xorL_snoc (f : Nat → Nat) (P : List Nat) (p : Nat) : xorL f (P ++ [p]) = xorL f P ^^^ f p := by rw [xorL, List.foldl_append]; rfl
theorem sumN_lt {R K : List Nat} {b : Nat} (h : ∀ r ∈ R, r < 2 ^ b) : sumN R K < 2 ^ b := xorL_lt fun k _ => by
  rcases Nat.lt_or_ge k R.length with hk | hk
  · rw [show R.getD k 0 = R[k] by simp [List.getD, hk]]; exact h _ (List.getElem_mem hk)
  · rw [show R.getD k 0 = 0 by simp [List.getD, hk]]; exact Nat.two_pow_pos b
theorem sumN_snoc {R K : List Nat} {j : Nat} (hj : j < K.length) : sumN R (K.take (j + 1)) = sumN R (K.take j) ^^^ R.getD K[j] 0 := by
  rw [List.take_succ_eq_append_getElem hj, sumN, xorL_snoc]; rfl

set_option maxRecDepth 100000 in
set_option maxHeartbeats 1000000 in
theorem sSumN (A B : Option Addr) (R K : List Nat) (ca cb : Nat) (w : World) (ha : Ints w A (zI R)) (hb : Ints w B (zI K)) (hR : ∀ r ∈ R, r < 2 ^ 32) (hK : ∀ k ∈ K, k < R.length) (hl2 : K.length ≤ 1048576) :
    Calls Try.prog 27 #[.slice A R.length ca, .slice B K.length cb] w fun e w' => e = .returned (.int .i64 (sumN R K : Nat)) ∧ w = w' := by
  have HA := Lib.hid ha
  have HB := Lib.hid hb
  have HR := Lib.hid hR
  have HK := Lib.hid hK
  clear ha hb hR hK
  go_enter Try.func27, Try.ntmps27
  go_wp2_with fail
  go_loopg [5, 10] K.length (fun gk a i wr => ∃ k : Nat, k + gk = K.length ∧ i = .int .i64 k ∧ a = .int .i64 (sumN R (K.take k) : Nat) ∧ w = wr)
  case atStart => exact ⟨0, by omega, rfl, rfl, rfl⟩
  case round =>
    obtain ⟨k, hg, rfl, rfl, rfl⟩ := hrel
    by_cases hlt : k < K.length
    · have hki : (k : Int) < (K.length : Int) := by omega
      obtain ⟨b3, o3, rfl, hc3⟩ := HB.out.cellN hlt
      have hzl := HK.out K[k] (List.getElem_mem hlt)
      have HS := Lib.hid (sumN_snoc (R := R) hlt)
      have hs32 := sumN_lt (K := K.take k) HR.out
      generalize K[k] = z at *
      obtain ⟨b4, o4, rfl, hc4⟩ := HA.out.cellN hzl
      have hr32 := HR.out R[z] (List.getElem_mem hzl)
      rw [show R.getD z 0 = R[z] by simp [List.getD, hzl]] at HS
      generalize R[z] = y at *
      generalize sumN R (K.take k) = q at *
      have hx := xor_i64 q y (by omega) (by omega)
      have hzi : (z : Int) < (R.length : Int) := by omega
      go_wp2_with fail
      go_roundg (K.length - k - 1)
      case measure => omega
      case rel => exact ⟨k + 1, by omega, by go_num, by rw [HS.out], rfl⟩
    · obtain rfl : k = K.length := by omega
      rw [List.take_length]
      have hki : ¬ (K.length : Int) < (K.length : Int) := by omega
      go_wp2_with fail
      go_ret
      exact ⟨rfl, rfl⟩

def blkOkB (zs : List Int) : Bool := pcOkB zs.length && allIn zs 4294967295
def letOkB (zs : List Int) (no : Int) : Bool := blkOkB zs && noOkB no
def letNoI (zs : List Int) (no : Int) : Int := if letOkB zs no = true then no else 0
def letSumI (zs : List Int) (no : Int) : Int := if letOkB zs no = true then (sumN (zs.map Int.toNat) (partsL no.toNat zs.length) : Nat) else 0
theorem blk_nat {zs : List Int} (h : blkOkB zs = true) : ∃ B : List Nat, zs = zI B ∧ 1 ≤ B.length ∧ B.length ≤ 8 ∧ ∀ b ∈ B, b < 2 ^ 32 := by
  simp only [blkOkB, pcOkB, allIn, inB, Bool.and_eq_true, List.all_eq_true, decide_eq_true_eq] at h
  obtain ⟨⟨h1, h2⟩, h3⟩ := h
  have h6 : zI (zs.map Int.toNat) = zs := by
    unfold zI
    rw [List.map_map]
    conv => rhs; rw [← List.map_id zs]
    refine List.map_congr_left fun z hz => ?_
    have := h3 z hz
    simp; omega
  refine ⟨zs.map Int.toNat, h6.symm, by rw [List.length_map]; omega, by rw [List.length_map]; omega, fun b hb => ?_⟩
  obtain ⟨z, hz, rfl⟩ := List.mem_map.1 hb
  have := h3 z hz
  omega
theorem zI_toNat (P : List Nat) : (zI P).map Int.toNat = P := by
  unfold zI
  rw [List.map_map]
  conv => rhs; rw [← List.map_id P]
  exact List.map_congr_left fun z _ => by simp

set_option maxRecDepth 100000 in
set_option maxHeartbeats 400000 in
theorem sBlk (A : Option Addr) (zs : List Int) (ca : Nat) (w : World) (ha : Ints w A zs) (hl : zs.length ≤ 1048576) :
    Calls Try.prog 24 #[.slice A zs.length ca] w fun e w' => e = .returned (.bool (blkOkB zs)) ∧ w = w' := by
  cases h : pcOkB (zs.length : Int)
  · have HE : Hid (blkOkB zs = false) := by show _ = _; rw [blkOkB, h]; rfl
    go_enter Try.func24, Try.ntmps24
    go_wp2_with (go_at_call 29; refine (sPc _ _).mono ?_; rintro e w' ⟨rfl, rfl⟩)
    go_ret
    exact ⟨ret_bool' HE.out.symm, rfl⟩
  · have HE : Hid (blkOkB zs = allIn zs 4294967295) := by show _ = _; rw [blkOkB, h]; rfl
    go_enter Try.func24, Try.ntmps24
    go_wp2_with (first
      | (go_at_call 29; refine (sPc _ _).mono ?_; rintro e w' ⟨rfl, rfl⟩)
      | (go_at_call 30; refine (sAll A zs ca _ _ ha hl).mono ?_; rintro e w' ⟨rfl, rfl⟩))
    go_ret
    exact ⟨ret_bool' HE.out.symm, rfl⟩

/-- A letter as a value. -/
abbrev letV (x y : Int) : Value := .agg #[.int .i64 x, .int .i64 y]
theorem tupL {a b a' b' : Int} {c d : Bool} (h1 : a = a') (h2 : b = b') (k : c = d) : Ending.returned (.tuple #[letV a b, .bool c]) = .returned (.tuple #[letV a' b', .bool d]) := by rw [h1, h2, k]
theorem gAlloc (w : World) (o : Obj) : Below w.heap.size w (w.alloc o) := (Below.refl _ w).alloc (Nat.le_refl _) _

end Go.Proofs.Ytddimdfkapbflaa
