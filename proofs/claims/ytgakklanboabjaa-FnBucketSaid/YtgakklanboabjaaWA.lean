/-
  W2: What AddRows, WeightOf, DotOf and FarApart answer, in the program's text and in the model's, at every argument, in every world that holds the table of bit values.
  W3: The laws of AddRows, WeightOf, DotOf and FarApart, walked: each returns true, in every world that holds the table of bit values, and turns nothing.
  W4: What BitsIn answers, in the program's text and in the model's.
  W5: The law of BitsIn, walked: it returns true, and turns nothing that lay in memory.
  W6: What RowOf answers, in the program's text and in the model's.
  W7: The law of RowOf, walked: it returns true, and turns nothing that lay in memory.
  W8: What SumRows answers, in the program's text and in the model's.
  W9: The law of SumRows, walked: it returns true, and turns nothing that lay in memory.
-/
import Derived.Test.YtgakklanboabjaaW1
import Derived.Test.YtgakklanboabjaaMG
import Derived.Lib.Hide
import Derived.Test.YtgakklanboabjaaH2

/- W2 -/
namespace Go.Proofs.Ytgakklanboabjaa
open Go.RowKit

/-- Valid arguments are natural numbers. -/
theorem good_nat {x r : Int} (h : goodB x r = true) : ∃ m n : Nat, x = m ∧ r = n ∧ 1 ≤ m ∧ m ≤ 16 ∧ n < 2 ^ m := by
  have h' : (1 ≤ x ∧ x ≤ 16) ∧ 0 ≤ r ∧ r < (2 : Int) ^ x.toNat := by simpa [goodB, wideB] using h
  obtain ⟨⟨h1, h2⟩, h3, h4⟩ := h'
  refine ⟨x.toNat, r.toNat, by omega, by omega, by omega, by omega, ?_⟩
  have h5 : ((r.toNat : Nat) : Int) < ((2 ^ x.toNat : Nat) : Int) := by
    rw [show ((r.toNat : Nat) : Int) = r by omega]; simpa using h4
  exact_mod_cast h5

theorem lt16 {m n : Nat} (hm : m ≤ 16) (hn : n < 2 ^ m) : n < 65536 := Nat.lt_of_lt_of_le hn (two_pow_le m hm)
theorem tup {k : IntKind} {a b : Int} {c : Bool} (h : a = b) : Ending.returned (.tuple #[.int k a, .bool c]) = .returned (.tuple #[.int k b, .bool c]) := by rw [h]

end Go.Proofs.Ytgakklanboabjaa

/- W3 -/
namespace Go.Proofs.Ytgakklanboabjaa
open Go.RowKit

def twoB (x a b : Int) : Bool := goodB x a && goodB x b
theorem two_true {x a b : Int} (h : twoB x a b = true) : goodB x a = true ∧ goodB x b = true := by simpa [twoB] using h
theorem two_false {x a b : Int} (h : twoB x a b = false) : goodB x a = false ∨ (goodB x a = true ∧ goodB x b = false) := by
  cases ha : goodB x a
  · exact Or.inl rfl
  · exact Or.inr ⟨rfl, by simpa [twoB, ha] using h⟩

/-- Two valid rows as natural numbers. -/
theorem two_nat {x a b : Int} (h : twoB x a b = true) : ∃ m n k : Nat, x = m ∧ a = n ∧ b = k ∧ 1 ≤ m ∧ m ≤ 16 ∧ n < 2 ^ m ∧ k < 2 ^ m := by
  obtain ⟨h1, h2⟩ := two_true h
  obtain ⟨m, n, rfl, rfl, hm1, hm2, hn⟩ := good_nat h1
  obtain ⟨m', k, hm', rfl, _, _, hk⟩ := good_nat h2
  obtain rfl : m = m' := by omega
  exact ⟨m, n, k, rfl, rfl, rfl, hm1, hm2, hn, hk⟩

/- AddRows -/
end Go.Proofs.Ytgakklanboabjaa

/- W4 -/
namespace Go.Proofs.Ytgakklanboabjaa
open Go.RowKit

theorem Own.append {w1 : World} {base : Nat} {v' : Value} {zs : List Int} {z : Int} (h : w1.ownsRow base 3 1 v' (zs.length + 1) (zs.map (Value.int .i64) ++ [.int .i64 z])) : Own w1 base v' (zs ++ [z]) := by
  unfold Own; simpa using h

end Go.Proofs.Ytgakklanboabjaa

/- W5 -/
namespace Go.Proofs.Ytgakklanboabjaa
open Go.RowKit

/-- What BitsIn answers, at every argument. -/
def bitsI (x r : Int) : List Int := if goodB x r = true then bitsL x.toNat r.toNat else []
theorem bitsI_len (x r : Int) : (bitsI x r).length ≤ 16 := by
  unfold bitsI; split
  · rename_i h
    obtain ⟨m, n, rfl, rfl, h1, h2, h3⟩ := good_nat h
    rw [bitsL_len]; have := cnt_le m n; simp only [Int.toNat_natCast]; omega
  · simp

theorem eqL_self (l : List Int) : eqL l l = true := by simp [eqL]
theorem below_drewN' {w : World} (n : Nat) : Below w.heap.size w (w.drewN n) := below_drewN (Below.refl _ _) n

end Go.Proofs.Ytgakklanboabjaa

/- W6 -/
namespace Go.Proofs.Ytgakklanboabjaa
open Go.RowKit

def rowOkB (x : Int) (zs : List Int) : Bool := wideB x && risB 0 x zs
theorem rowOk_true {x : Int} {zs : List Int} (h : rowOkB x zs = true) : ∃ m : Nat, x = m ∧ 1 ≤ m ∧ m ≤ 16 ∧ wideB x = true ∧ risB 0 x zs = true := by
  have h' : wideB x = true ∧ risB 0 x zs = true := by simpa [rowOkB] using h
  have h1 : 1 ≤ x ∧ x ≤ 16 := by simpa [wideB] using h'.1
  exact ⟨x.toNat, by omega, by omega, by omega, h'.1, h'.2⟩
theorem rowOk_false {x : Int} {zs : List Int} (h : rowOkB x zs = false) : wideB x = false ∨ (wideB x = true ∧ risB 0 x zs = false) := by
  cases ha : wideB x
  · exact Or.inl rfl
  · exact Or.inr ⟨rfl, by simpa [rowOkB, ha] using h⟩

end Go.Proofs.Ytgakklanboabjaa

/- W7 -/
namespace Go.Proofs.Ytgakklanboabjaa
open Go.RowKit

def rowI (x : Int) (zs : List Int) : Int := if rowOkB x zs = true then (rowL zs : Nat) else 0

end Go.Proofs.Ytgakklanboabjaa

/- W8 -/
namespace Go.Proofs.Ytgakklanboabjaa
open Go.RowKit

def allG (x : Int) (zs : List Int) : Bool := zs.all (goodB x)
def rowsB (x : Int) (zs : List Int) : Bool := wideB x && (decide (zs.length ≤ 20) && allG x zs)
theorem rowsB_narrow {x : Int} {zs : List Int} (h : wideB x = false) : rowsB x zs = false := by simp [rowsB, h]
theorem rowsB_long {x : Int} {zs : List Int} (h : 20 < zs.length) : rowsB x zs = false := by
  rw [rowsB, decide_eq_false (by omega)]; simp
theorem rowsB_all {x : Int} {zs : List Int} (h : wideB x = true) (hl : zs.length ≤ 20) : rowsB x zs = allG x zs := by simp [rowsB, h, hl]

def allIn (zs : List Int) (hi : Int) : Bool := zs.all fun z => inB z 0 hi
theorem allIn_good {x : Int} (zs : List Int) (h : wideB x = true) : allIn zs ((2 : Int) ^ x.toNat - 1) = allG x zs := by
  unfold allIn allG
  congr 1
  funext z
  rw [goodB_wide z h, inB]; congr 1; exact decide_eq_decide.2 (by omega)

end Go.Proofs.Ytgakklanboabjaa

/- W9 -/
namespace Go.Proofs.Ytgakklanboabjaa
open Go.RowKit

def sumOkB (x : Int) (rs ks : List Int) : Bool := rowsB x rs && risB 0 rs.length ks
def sumI (x : Int) (rs ks : List Int) : Int := if sumOkB x rs ks = true then (sumL rs ks : Nat) else 0
theorem sumOk_true {x : Int} {rs ks : List Int} (h : sumOkB x rs ks = true) : rowsB x rs = true ∧ risB 0 rs.length ks = true := by simpa [sumOkB] using h
theorem sumOk_false {x : Int} {rs ks : List Int} (h : sumOkB x rs ks = false) : rowsB x rs = false ∨ (rowsB x rs = true ∧ risB 0 rs.length ks = false) := by
  cases ha : rowsB x rs
  · exact Or.inl rfl
  · exact Or.inr ⟨rfl, by simpa [sumOkB, ha] using h⟩
theorem rowsB_in {x : Int} {rs : List Int} (h : rowsB x rs = true) : rs.length ≤ 20 ∧ ∀ z ∈ rs, 0 ≤ z ∧ z < 65536 := by
  have h' : wideB x = true ∧ rs.length ≤ 20 ∧ ∀ z ∈ rs, goodB x z = true := by simpa [rowsB, allG] using h
  refine ⟨h'.2.1, fun z hz => ?_⟩
  obtain ⟨m, n, rfl, rfl, _, h2, h3⟩ := good_nat (h'.2.2 z hz)
  have := lt16 h2 h3
  omega

/-- One step more behind what is below. -/
theorem below_more {w a b : World} (h : Below w.heap.size w a) (k : Below a.heap.size a b) : Below w.heap.size w b := h.trans (k.mono h.size)

end Go.Proofs.Ytgakklanboabjaa
