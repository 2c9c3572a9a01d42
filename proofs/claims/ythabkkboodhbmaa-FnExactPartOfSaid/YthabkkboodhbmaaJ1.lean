/-
  The model of chapter 4: PartOf, BlocksFor, the pieces of a string.
-/
import Derived.Test.YthabkkboodhbmaaMC
import Derived.Test.YthabkkboodhbmaaT1
import Derived.Test.YthabkkboodhbmaaD4
namespace Go.Proofs.Ythabkkboodhbmaa
open Go.RowKit

theorem results_tmp5 {fn : Func} {a b c d e : Tmp} (h : fn.results = #[.tmp a, .tmp b, .tmp c, .tmp d, .tmp e]) (tmps : Array Value) (P : Program) (w : World) :
    (results fn tmps).run P w = .ok (.tuple #[tmps.getD a undef, tmps.getD b undef, tmps.getD c undef, tmps.getD d undef, tmps.getD e undef]) w := by
  simp [results, h]

def partOkB (p b : Int) : Bool := inB p 1 100 && inB b 1 p
def partG (p b : Int) : Int := if partOkB p b = true then ((p.toNat + b.toNat - 1) / b.toNat : Nat) else 0
def partS (p b : Int) : Int := if partOkB p b = true then (p.toNat / b.toNat : Nat) else 0
def partM (p b : Int) : Int := if partOkB p b = true then (p.toNat % b.toNat : Nat) else 0
def partR (p b : Int) : Int := if partOkB p b = true then (b.toNat - p.toNat % b.toNat : Nat) else 0
theorem inB_mk {n lo hi : Int} (h1 : lo ≤ n) (h2 : n ≤ hi) : inB n lo hi = true := by simp [inB, h1, h2]
theorem inB_not {n lo hi : Int} (h : n < lo ∨ hi < n) : inB n lo hi = false := by
  cases hb : inB n lo hi
  · rfl
  · simp [inB] at hb; omega
theorem part_nat {p b : Int} (h : partOkB p b = true) : ∃ m n : Nat, p = m ∧ b = n ∧ 1 ≤ n ∧ n ≤ m ∧ m ≤ 100 := by
  simp [partOkB, inB] at h
  exact ⟨p.toNat, b.toNat, by omega, by omega, by omega, by omega, by omega⟩
theorem tup5 {a b c d a' b' c' d' : Int} {k k' : Bool} (h1 : a = a') (h2 : b = b') (h3 : c = c') (h4 : d = d') (h5 : k = k') :
    Ending.returned (.tuple #[.int .i64 a, .int .i64 b, .int .i64 c, .int .i64 d, .bool k]) = .returned (.tuple #[.int .i64 a', .int .i64 b', .int .i64 c', .int .i64 d', .bool k']) := by rw [h1, h2, h3, h4, h5]

set_option maxRecDepth 100000 in
set_option maxHeartbeats 400000 in
theorem sPart_any (p b : Int) (w : World) :
    Calls Try.prog 29 #[.int .i64 p, .int .i64 b] w fun e w' => e = .returned (.tuple #[.int .i64 (partG p b), .int .i64 (partS p b), .int .i64 (partM p b), .int .i64 (partR p b), .bool (partOkB p b)]) ∧ w = w' := by
  cases h : partOkB p b
  · have HE := Lib.hid h
    by_cases h1 : 1 ≤ p ∧ p ≤ 100
    · have hi1 := inB_mk h1.1 h1.2
      have hi2 : inB b 1 p = false := by rw [partOkB, hi1] at h; simpa using h
      clear h
      go_enter Try.func29, Try.ntmps29
      go_wp2_with (go_at_call 56; refine (l1In_any _ _ _ _).mono ?_; rintro e w' ⟨rfl, rfl⟩)
      (try simp only [Exit.inBlock, Exit.then])
      refine bodyPost_ret (results_tmp5 rfl _ _ _) rfl ?_
      exact ⟨tup5 (by rw [partG, HE.out]; rfl) (by rw [partS, HE.out]; rfl) (by rw [partM, HE.out]; rfl) (by rw [partR, HE.out]; rfl) rfl, rfl⟩
    · have hi1 : inB p 1 100 = false := inB_not (by omega)
      clear h
      go_enter Try.func29, Try.ntmps29
      go_wp2_with (go_at_call 56; refine (l1In_any _ _ _ _).mono ?_; rintro e w' ⟨rfl, rfl⟩)
      (try simp only [Exit.inBlock, Exit.then])
      refine bodyPost_ret (results_tmp5 rfl _ _ _) rfl ?_
      exact ⟨tup5 (by rw [partG, HE.out]; rfl) (by rw [partS, HE.out]; rfl) (by rw [partM, HE.out]; rfl) (by rw [partR, HE.out]; rfl) rfl, rfl⟩
  · have HE := Lib.hid h
    obtain ⟨m, n, rfl, rfl, h1, h2, h3⟩ := part_nat h
    have hi1 : inB (m : Int) 1 100 = true := inB_mk (by omega) (by omega)
    have hi2 : inB (n : Int) 1 m = true := inB_mk (by omega) (by omega)
    have hn0 : ¬ n = 0 := by omega
    have HE1 : Hid (((m : Int) + (n : Int) - 1) / (n : Int) = (((m + n - 1) / n : Nat) : Int)) := by
      show _ = _
      rw [show (m : Int) + (n : Int) - 1 = ((m + n - 1 : Nat) : Int) by omega]; exact (Int.natCast_ediv _ _).symm
    have HE2 : Hid ((m : Int) / (n : Int) = ((m / n : Nat) : Int)) := (Int.natCast_ediv _ _).symm
    have HDM : Hid (n * (m / n) + m % n = m) := Nat.div_add_mod m n
    have HLT : Hid (m % n < n) := Nat.mod_lt _ h1
    have HE3 : Hid ((m : Int) / (n : Int) * (n : Int) = ((n * (m / n) : Nat) : Int)) := by show _ = _; rw [HE2.out, Nat.mul_comm]; exact (Int.natCast_mul _ _).symm
    have hq2 : (0 : Int) ≤ (m : Int) / (n : Int) := by rw [HE2.out]; exact Int.natCast_nonneg _
    have hq3 : (m : Int) / (n : Int) ≤ 100 := by rw [HE2.out]; have := Nat.div_le_self m n; omega
    have hq0 : (0 : Int) ≤ (m : Int) / (n : Int) * (n : Int) := by rw [HE3.out]; exact Int.natCast_nonneg _
    have hq1 : (m : Int) / (n : Int) * (n : Int) ≤ (m : Int) := by rw [HE3.out]; have := HDM.out; omega
    clear h
    go_enter Try.func29, Try.ntmps29
    go_wp2_with (go_at_call 56; refine (l1In_any _ _ _ _).mono ?_; rintro e w' ⟨rfl, rfl⟩)
    (try simp only [Exit.inBlock, Exit.then])
    refine bodyPost_ret (results_tmp5 rfl _ _ _) rfl ?_
    refine ⟨tup5 ?_ ?_ ?_ ?_ rfl, rfl⟩
    · rw [partG, if_pos HE.out, Int.toNat_natCast, Int.toNat_natCast]; exact HE1.out
    · rw [partS, if_pos HE.out, Int.toNat_natCast, Int.toNat_natCast]; exact HE2.out
    · rw [partM, if_pos HE.out, Int.toNat_natCast, Int.toNat_natCast]
      show (m : Int) - (m : Int) / (n : Int) * (n : Int) = _
      have h1 := HDM.out
      rw [HE3.out]; omega
    · rw [partR, if_pos HE.out, Int.toNat_natCast, Int.toNat_natCast]
      show (n : Int) - ((m : Int) - (m : Int) / (n : Int) * (n : Int)) = _
      have h1 := HDM.out
      have h2 := HLT.out
      rw [HE3.out]; omega

set_option maxRecDepth 100000 in
set_option maxHeartbeats 400000 in
theorem sCount (n : Nat) (w : World) (h : n ≤ 1000000) : Calls Try.prog 57 #[.int .i64 n] w fun e w' => e = .returned (.int .i64 (cntP n : Nat)) ∧ w = w' := by
  have HE1 : Hid (((n : Int) + 4 - 1) / 4 = ((cntP n : Nat) : Int)) := by show _ = _; unfold cntP; omega
  go_enter Try.func57, Try.ntmps57
  go_wp2_with fail
  go_ret
  exact ⟨ret_int HE1.out, rfl⟩

def longOkB (n : Int) : Bool := inB n 0 96
def blocksI (n : Int) : Int := if longOkB n = true then (blkN n.toNat : Nat) else 0
set_option maxRecDepth 100000 in
set_option maxHeartbeats 400000 in
theorem sBlocks_any (n : Int) (w : World) : Calls Try.prog 21 #[.int .i64 n] w fun e w' => e = .returned (.tuple #[.int .i64 (blocksI n), .bool (longOkB n)]) ∧ w = w' := by
  cases h : longOkB n
  · have HE := Lib.hid h
    have hi : inB n 0 96 = false := h
    go_enter Try.func21, Try.ntmps21
    go_wp2_with (go_at_call 56; refine (l1In_any _ _ _ _).mono ?_; rintro e w' ⟨rfl, rfl⟩)
    go_ret2
    exact ⟨tup (by rw [blocksI, HE.out]; rfl), rfl⟩
  · have HE := Lib.hid h
    have hi : inB n 0 96 = true := h
    have h2 : 0 ≤ n ∧ n ≤ 96 := by simpa [longOkB, inB] using h
    obtain ⟨n, rfl⟩ := Int.eq_ofNat_of_zero_le h2.1
    have hc : cntP n ≤ 25 := by unfold cntP; omega
    have HE2 : Hid (((cntP n : Int) + 8 - 1) / 8 = ((blkN n : Nat) : Int)) := by show _ = _; unfold blkN; omega
    clear h
    go_enter Try.func21, Try.ntmps21
    go_wp2_with (first
      | (go_at_call 56; refine (l1In_any _ _ _ _).mono ?_; rintro e w' ⟨rfl, rfl⟩)
      | (go_at_call 57; refine (sCount n _ (by omega)).mono ?_; rintro e w' ⟨rfl, rfl⟩))
    go_ret2
    exact ⟨tup (by rw [blocksI, if_pos HE.out, Int.toNat_natCast]; exact HE2.out), rfl⟩
end Go.Proofs.Ythabkkboodhbmaa
