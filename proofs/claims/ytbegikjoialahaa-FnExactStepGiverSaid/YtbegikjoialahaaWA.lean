/-
  W2: What AddRows, WeightOf, DotOf and FarApart answer, in the program's text and in the model's, at every argument, in every world that holds the table of bit values.
  W3: The laws of AddRows, WeightOf, DotOf and FarApart, walked: each returns true, in every world that holds the table of bit values, and turns nothing.
  W4: What BitsIn answers, in the program's text and in the model's.
  W5: The law of BitsIn, walked: it returns true, and turns nothing that lay in memory.
  W6: What RowOf answers, in the program's text and in the model's.
  W7: The law of RowOf, walked: it returns true, and turns nothing that lay in memory.
  W8: What SumRows answers, in the program's text and in the model's.
  W9: The law of SumRows, walked: it returns true, and turns nothing that lay in memory.
-/
import Derived.Test.YtbegikjoialahaaW1
import Derived.Test.YtbegikjoialahaaMG
import Derived.Lib.Hide
import Derived.Test.YtbegikjoialahaaH2

/- W2 -/
namespace Go.Proofs.Ytbegikjoialahaa
open Go.RowKit

/-- Valid arguments are natural numbers. -/
theorem good_nat {x r : Int} (h : goodB x r = true) : ∃ m n : Nat, x = m ∧ r = n ∧ 1 ≤ m ∧ m ≤ 16 ∧ n < 2 ^ m := by
  have h' : (1 ≤ x ∧ x ≤ 16) ∧ 0 ≤ r ∧ r < (2 : Int) ^ x.toNat := by simpa [goodB, wideB] using h
  obtain ⟨⟨h1, h2⟩, h3, h4⟩ := h'
  refine ⟨x.toNat, r.toNat, by omega, by omega, by omega, by omega, ?_⟩
  have h5 : ((r.toNat : Nat) : Int) < ((2 ^ x.toNat : Nat) : Int) := by
    rw [show ((r.toNat : Nat) : Int) = r by omega]; simpa using h4
  exact_mod_cast h5

theorem lt16 {m n : Nat} (hm : m ≤ 16) (hn : n < 2 ^ m) : n < 65536 := Nat.lt_of_lt_of_le hn (two_pow_le m hm)
theorem tup {k : IntKind} {a b : Int} {c : Bool} (h : a = b) : Ending.returned (.tuple #[.int k a, .bool c]) = .returned (.tuple #[.int k b, .bool c]) := by rw [h]

end Go.Proofs.Ytbegikjoialahaa

/- W3 -/
namespace Go.Proofs.Ytbegikjoialahaa
open Go.RowKit

def twoB (x a b : Int) : Bool := goodB x a && goodB x b
theorem two_true {x a b : Int} (h : twoB x a b = true) : goodB x a = true ∧ goodB x b = true := by simpa [twoB] using h
theorem two_false {x a b : Int} (h : twoB x a b = false) : goodB x a = false ∨ (goodB x a = true ∧ goodB x b = false) := by
  cases ha : goodB x a
  · exact Or.inl rfl
  · exact Or.inr ⟨rfl, by simpa [twoB, ha] using h⟩

/-- Two valid rows as natural numbers. -/
theorem two_nat {x a b : Int} (h : twoB x a b = true) : ∃ m n k : Nat, x = m ∧ a = n ∧ b = k ∧ 1 ≤ m ∧ m ≤ 16 ∧ n < 2 ^ m ∧ k < 2 ^ m := by
  obtain ⟨h1, h2⟩ := two_true h
  obtain ⟨m, n, rfl, rfl, hm1, hm2, hn⟩ := good_nat h1
  obtain ⟨m', k, hm', rfl, _, _, hk⟩ := good_nat h2
  obtain rfl : m = m' := by omega
  exact ⟨m, n, k, rfl, rfl, rfl, hm1, hm2, hn, hk⟩

/- AddRows -/
end Go.Proofs.Ytbegikjoialahaa

/- W4 -/
namespace Go.Proofs.Ytbegikjoialahaa
open Go.RowKit

theorem Own.append {w1 : World} {base : Nat} {v' : Value} {zs : List Int} {z : Int} (h : w1.ownsRow base 3 1 v' (zs.length + 1) (zs.map (Value.int .i64) ++ [.int .i64 z])) : Own w1 base v' (zs ++ [z]) := by
  unfold Own; simpa using h

end Go.Proofs.Ytbegikjoialahaa

/- W5 -/
namespace Go.Proofs.Ytbegikjoialahaa
open Go.RowKit

/-- What BitsIn answers, at every argument. -/
def bitsI (x r : Int) : List Int := if goodB x r = true then bitsL x.toNat r.toNat else []
theorem bitsI_len (x r : Int) : (bitsI x r).length ≤ 16 := by
  unfold bitsI; split
  · rename_i h
    obtain ⟨m, n, rfl, rfl, h1, h2, h3⟩ := good_nat h
    rw [bitsL_len]; have := cnt_le m n; simp only [Int.toNat_natCast]; omega
  · simp

theorem eqL_self (l : List Int) : eqL l l = true := by simp [eqL]
theorem below_drewN' {w : World} (n : Nat) : Below w.heap.size w (w.drewN n) := below_drewN (Below.refl _ _) n

end Go.Proofs.Ytbegikjoialahaa

/- W6 -/
namespace Go.Proofs.Ytbegikjoialahaa
open Go.RowKit

set_option maxRecDepth 100000 in
set_option maxHeartbeats 400000 in
theorem iRising (A : Option Addr) (zs : List Int) (ca : Nat) (c : Int) (w : World) (ha : Ints w A zs) (hl : zs.length ≤ 1048576) (hc : c ≤ 1048576) :
    Calls Try.prog 65 #[.slice A zs.length ca, .int .i64 c] w fun e w' => e = .returned (.bool (risB 0 c zs)) ∧ w = w' := by
  go_enter Try.func65, Try.ntmps65
  go_wp2
  go_loop [5, 10] (fun m i => ∃ (k : Nat) (l : Int), k ≤ zs.length ∧ i = .int .i64 k ∧ m = .int .i64 l ∧ 0 ≤ l ∧ l ≤ 1048576 ∧ risB l c (zs.drop k) = risB 0 c zs) (fun _ i => zs.length - (intOf i).toNat)
  case atStart => exact ⟨0, 0, by omega, rfl, rfl, by omega, by omega, by simp⟩
  case round =>
    obtain ⟨k, l, hk, rfl, rfl, h0, h1, hr⟩ := hrel
    have HR := Lib.hid hr
    clear hr
    by_cases hlt : k < zs.length
    · obtain ⟨b, o, rfl, hcs⟩ := ha (by rintro rfl; simp at hlt)
      have hz := hcs k hlt
      rw [show zs.getD k 0 = zs[k] by simp [List.getD, hlt]] at hz
      clear hcs ha
      have hno : zs[k] < l ∨ c ≤ zs[k] → risB l c (zs.drop k) = false := risB_no hlt
      have hyes : l ≤ zs[k] → zs[k] < c → risB l c (zs.drop k) = risB (zs[k] + 1) c (zs.drop (k + 1)) := risB_yes hlt
      have HN := Lib.hid hno
      have HY := Lib.hid hyes
      clear hno hyes
      generalize zs[k] = z at *
      by_cases hz1 : z < l
      · go_wp2
        go_ret
        exact ⟨ret_bool (by rw [← HR.out]; exact (HN.out (Or.inl hz1)).symm), rfl⟩
      · by_cases hz2 : c ≤ z
        · go_wp2
          go_ret
          exact ⟨ret_bool (by rw [← HR.out]; exact (HN.out (Or.inr hz2)).symm), rfl⟩
        · go_wp2
          go_round
          case rel => exact ⟨k + 1, z + 1, by omega, by go_num, rfl, by omega, by omega, by rw [← HY.out (by omega) (by omega), HR.out]⟩
          case measure => simp [intOf]; omega
    · obtain rfl : k = zs.length := by omega
      go_wp2
      go_ret
      exact ⟨ret_bool (by rw [← HR.out, risB_end]), rfl⟩

set_option maxRecDepth 100000 in
set_option maxHeartbeats 400000 in
theorem sRising (A : Option Addr) (zs : List Int) (ca : Nat) (c : Int) (w : World) (ha : Ints w A zs) (hl : zs.length ≤ 1048576) :
    Calls Try.prog 53 #[.slice A zs.length ca, .int .i64 0, .int .i64 (c - 1)] w fun e w' => e = .returned (.bool (risB 0 c zs)) ∧ w = w' := by
  go_enter Try.func53, Try.ntmps53
  go_wp2
  go_loop [11] (fun i => ∃ (k : Nat), k ≤ zs.length ∧ i = .int .i64 k ∧ 0 ≤ leastOf zs k ∧ risB (leastOf zs k) c (zs.drop k) = risB 0 c zs) (fun i => zs.length - (intOf i).toNat)
  case atStart => exact ⟨0, by omega, rfl, by simp [leastOf], by simp [leastOf]⟩
  case round =>
    obtain ⟨k, hk, rfl, h0, hr⟩ := hrel
    have HR := Lib.hid hr
    clear hr
    by_cases hlt : k < zs.length
    · obtain ⟨b, o, rfl, hcs⟩ := ha (by rintro rfl; simp at hlt)
      have hz := hcs k hlt
      rw [show zs.getD k 0 = zs[k] by simp [List.getD, hlt]] at hz
      have hno : zs[k] < leastOf zs k ∨ c ≤ zs[k] → risB (leastOf zs k) c (zs.drop k) = false := risB_no hlt
      have hyes : leastOf zs k ≤ zs[k] → zs[k] < c → risB (leastOf zs k) c (zs.drop k) = risB (zs[k] + 1) c (zs.drop (k + 1)) := risB_yes hlt
      have hnx : leastOf zs (k + 1) = zs[k] + 1 := by simp [leastOf, List.getD, hlt]
      have HX := Lib.hid hnx
      have HN := Lib.hid hno
      have HY := Lib.hid hyes
      clear hno hyes hnx
      generalize zs[k] = z at *
      cases hin : inB z 0 (c - 1)
      · have hout : z < 0 ∨ c - 1 < z := by
          apply Classical.byContradiction; intro h
          rw [inB_true (by omega) (by omega)] at hin; cases hin
        have HF : Hid (risB (leastOf zs k) c (zs.drop k) = false) := HN.out (by omega)
        clear hcs ha hout
        go_wp2_with (go_at_call 52; refine (l1In_any _ _ _ _).mono ?_; rintro e w' ⟨rfl, rfl⟩)
        go_ret
        exact ⟨ret_bool (by rw [← HR.out, HF.out]), rfl⟩
      · have hi : 0 ≤ z ∧ z ≤ c - 1 := by simpa [inB] using hin
        obtain ⟨hi1, hi2⟩ := hi
        rcases k with _ | j
        · have HG : Hid (risB (leastOf zs 0) c (zs.drop 0) = risB (z + 1) c (zs.drop (0 + 1))) := HY.out (by simpa [leastOf] using hi1) (by omega)
          rw [Nat.add_zero] at hz
          clear hcs ha HY HN
          go_wp2_with (go_at_call 52; refine (l1In_any _ _ _ _).mono ?_; rintro e w' ⟨rfl, rfl⟩)
          go_round
          case rel => exact ⟨1, by omega, by go_num, by rw [HX.out]; omega, by rw [HX.out, ← HG.out, HR.out]⟩
          case measure => simp [intOf]; omega
        · have hy := hcs j (by omega)
          have hlo : leastOf zs (j + 1) = zs.getD j 0 + 1 := rfl
          rw [hlo] at HN HY HR h0
          generalize zs.getD j 0 = y at *
          clear hcs ha hlo
          by_cases hyz : z ≤ y
          · have HF := Lib.hid (HN.out (Or.inl (by omega)))
            go_wp2_with (go_at_call 52; refine (l1In_any _ _ _ _).mono ?_; rintro e w' ⟨rfl, rfl⟩)
            go_ret
            exact ⟨ret_bool (by rw [← HR.out, HF.out]), rfl⟩
          · have HF := Lib.hid (HY.out (by omega) (by omega))
            go_wp2_with (go_at_call 52; refine (l1In_any _ _ _ _).mono ?_; rintro e w' ⟨rfl, rfl⟩)
            go_round
            case rel => exact ⟨j + 1 + 1, by omega, by go_num, by rw [HX.out]; omega, by rw [HX.out, ← HF.out, HR.out]⟩
            case measure => simp [intOf]; omega
    · obtain rfl : k = zs.length := by omega
      go_wp2
      go_ret
      exact ⟨ret_bool (by rw [← HR.out, risB_end]), rfl⟩

def rowOkB (x : Int) (zs : List Int) : Bool := wideB x && risB 0 x zs
theorem rowOk_true {x : Int} {zs : List Int} (h : rowOkB x zs = true) : ∃ m : Nat, x = m ∧ 1 ≤ m ∧ m ≤ 16 ∧ wideB x = true ∧ risB 0 x zs = true := by
  have h' : wideB x = true ∧ risB 0 x zs = true := by simpa [rowOkB] using h
  have h1 : 1 ≤ x ∧ x ≤ 16 := by simpa [wideB] using h'.1
  exact ⟨x.toNat, by omega, by omega, by omega, h'.1, h'.2⟩
theorem rowOk_false {x : Int} {zs : List Int} (h : rowOkB x zs = false) : wideB x = false ∨ (wideB x = true ∧ risB 0 x zs = false) := by
  cases ha : wideB x
  · exact Or.inl rfl
  · exact Or.inr ⟨rfl, by simpa [rowOkB, ha] using h⟩

end Go.Proofs.Ytbegikjoialahaa

/- W7 -/
namespace Go.Proofs.Ytbegikjoialahaa
open Go.RowKit

def rowI (x : Int) (zs : List Int) : Int := if rowOkB x zs = true then (rowL zs : Nat) else 0

end Go.Proofs.Ytbegikjoialahaa

/- W8 -/
namespace Go.Proofs.Ytbegikjoialahaa
open Go.RowKit

def allG (x : Int) (zs : List Int) : Bool := zs.all (goodB x)
def rowsB (x : Int) (zs : List Int) : Bool := wideB x && (decide (zs.length ≤ 20) && allG x zs)
theorem rowsB_narrow {x : Int} {zs : List Int} (h : wideB x = false) : rowsB x zs = false := by simp [rowsB, h]
theorem rowsB_long {x : Int} {zs : List Int} (h : 20 < zs.length) : rowsB x zs = false := by
  rw [rowsB, decide_eq_false (by omega)]; simp
theorem rowsB_all {x : Int} {zs : List Int} (h : wideB x = true) (hl : zs.length ≤ 20) : rowsB x zs = allG x zs := by simp [rowsB, h, hl]

def allIn (zs : List Int) (hi : Int) : Bool := zs.all fun z => inB z 0 hi
theorem allIn_good {x : Int} (zs : List Int) (h : wideB x = true) : allIn zs ((2 : Int) ^ x.toNat - 1) = allG x zs := by
  unfold allIn allG
  congr 1
  funext z
  rw [goodB_wide z h, inB]; congr 1; exact decide_eq_decide.2 (by omega)

end Go.Proofs.Ytbegikjoialahaa

/- W9 -/
namespace Go.Proofs.Ytbegikjoialahaa
open Go.RowKit

def sumOkB (x : Int) (rs ks : List Int) : Bool := rowsB x rs && risB 0 rs.length ks
def sumI (x : Int) (rs ks : List Int) : Int := if sumOkB x rs ks = true then (sumL rs ks : Nat) else 0
theorem sumOk_true {x : Int} {rs ks : List Int} (h : sumOkB x rs ks = true) : rowsB x rs = true ∧ risB 0 rs.length ks = true := by simpa [sumOkB] using h
theorem sumOk_false {x : Int} {rs ks : List Int} (h : sumOkB x rs ks = false) : rowsB x rs = false ∨ (rowsB x rs = true ∧ risB 0 rs.length ks = false) := by
  cases ha : rowsB x rs
  · exact Or.inl rfl
  · exact Or.inr ⟨rfl, by simpa [sumOkB, ha] using h⟩
theorem rowsB_in {x : Int} {rs : List Int} (h : rowsB x rs = true) : rs.length ≤ 20 ∧ ∀ z ∈ rs, 0 ≤ z ∧ z < 65536 := by
  have h' : wideB x = true ∧ rs.length ≤ 20 ∧ ∀ z ∈ rs, goodB x z = true := by simpa [rowsB, allG] using h
  refine ⟨h'.2.1, fun z hz => ?_⟩
  obtain ⟨m, n, rfl, rfl, _, h2, h3⟩ := good_nat (h'.2.2 z hz)
  have := lt16 h2 h3
  omega

/-- One step more behind what is below. -/
theorem below_more {w a b : World} (h : Below w.heap.size w a) (k : Below a.heap.size a b) : Below w.heap.size w b := h.trans (k.mono h.size)

end Go.Proofs.Ytbegikjoialahaa
