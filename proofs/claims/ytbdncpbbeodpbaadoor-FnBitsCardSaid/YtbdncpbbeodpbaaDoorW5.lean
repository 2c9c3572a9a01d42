/-
  The law of BitsIn, walked: it returns true, and turns nothing that lay in memory.
-/
import Derived.Test.YtbdncpbbeodpbaaDoorW4
namespace Go.Proofs.YtbdncpbbeodpbaaDoor
open Go.RowKit

/-- What BitsIn answers, at every argument. -/
def bitsI (x r : Int) : List Int := if goodB x r = true then bitsL x.toNat r.toNat else []
theorem bitsI_len (x r : Int) : (bitsI x r).length ≤ 16 := by
  unfold bitsI; split
  · rename_i h
    obtain ⟨m, n, rfl, rfl, h1, h2, h3⟩ := good_nat h
    rw [bitsL_len]; have := cnt_le m n; simp only [Int.toNat_natCast]; omega
  · simp

theorem iBits_any (x r : Int) (w : World) (ht : Tab w) :
    Calls Tryd.prog 27 #[.int .i64 x, .int .i64 r] w fun e w' => ∃ v, e = .returned (.tuple #[v, .bool (goodB x r)]) ∧ Own w' w.heap.size v (bitsI x r) ∧ Below w.heap.size w w' := by
  cases h : goodB x r
  · refine (iBits_no x r w ht h).mono ?_
    rintro e w' ⟨rfl, rfl⟩
    exact ⟨_, rfl, by simp only [bitsI, h]; exact Own.nil _ _, Below.refl _ _⟩
  · obtain ⟨m, n, rfl, rfl, h1, h2, h3⟩ := good_nat h
    refine (iBits m n w ht h h2 (lt16 h2 h3)).mono ?_
    rintro e w' ⟨v, rfl, ho, hb⟩
    exact ⟨_, rfl, by simpa only [bitsI, h, if_true, Int.toNat_natCast] using ho, hb⟩
theorem sBits_any (x r : Int) (w : World) :
    Calls Tryd.prog 28 #[.int .i64 x, .int .i64 r] w fun e w' => ∃ v, e = .returned (.tuple #[v, .bool (goodB x r)]) ∧ Own w' w.heap.size v (bitsI x r) ∧ Below w.heap.size w w' := by
  cases h : goodB x r
  · refine (sBits_no x r w h).mono ?_
    rintro e w' ⟨rfl, rfl⟩
    exact ⟨_, rfl, by simp only [bitsI, h]; exact Own.nil _ _, Below.refl _ _⟩
  · obtain ⟨m, n, rfl, rfl, h1, h2, h3⟩ := good_nat h
    refine (sBitsIn m n w h h2 h3).mono ?_
    rintro e w' ⟨v, rfl, ho, hb⟩
    exact ⟨_, rfl, by simpa only [bitsI, h, if_true, Int.toNat_natCast] using ho, hb⟩

theorem eqL_self (l : List Int) : eqL l l = true := by simp [eqL]
theorem below_drewN' {w : World} (n : Nat) : Below w.heap.size w (w.drewN n) := below_drewN (Below.refl _ _) n

set_option maxHeartbeats 1000000 in
theorem bitsIn_law (x r : Int) (w : World) (ht : Tab w) :
    Calls Tryd.prog 9 #[.int .i64 x, .int .i64 r] w fun e w' => e = .returned (.bool true) ∧ Below w.heap.size w w' := by
  have hlen := bitsI_len x r
  have HT := Lib.hid ht
  clear ht
  have hq := eqL_self (bitsI x r)
  go_enter Tryd.func9, Tryd.ntmps9
  go_wp2_with fail
  refine (sBits_any x r _).mono ?_
  rintro e w1 ⟨v1, rfl, ho1, hb1⟩
  obtain ⟨A1, c1, rfl, hI1⟩ := ho1.form
  have HI1 := Lib.hid hI1
  have HO1 := Lib.hid ho1
  have HB1 := Lib.hid hb1
  clear hI1 ho1 hb1
  go_wp2_with fail
  refine (iBits_any x r _ (HT.out.below HB1.out)).mono ?_
  rintro e w2 ⟨v2, rfl, ho2, hb2⟩
  obtain ⟨A2, c2, rfl, hI2⟩ := ho2.form
  have HI2 := Lib.hid hI2
  have HO2 := Lib.hid ho2
  have HB2 := Lib.hid hb2
  clear hI2 ho2 hb2
  go_wp2_with fail
  refine (eqInts_any A2 A1 _ _ c2 c1 _ HI2.out (HI1.out.below HB2.out) (by omega)).mono ?_
  rintro e w3 ⟨rfl, n3, rfl⟩
  go_wp2_with fail
  refine (markInts_any _ _ w1.heap.size 1 _ (HO2.out.below (below_drewN' n3)) (by omega) (by omega) (by omega)).mono ?_
  rintro e w4 ⟨rfl, ho4, hg4⟩
  have hml := marks_length 1 (bitsI x r).length
  have HI4 : Hid (Ints w4 A2 (marks 1 (bitsI x r).length)) := by
    obtain ⟨A, c, e, h⟩ := ho4.form
    injection e with e1; subst e1; exact h
  have HO4 := Lib.hid ho4
  have HG4 := Lib.hid hg4
  clear ho4 hg4 hml
  -- what lay below the second slice's block is as it was
  have HB4 : Hid (Below w1.heap.size w1 w4) := by
    refine ((HB2.out.trans ((below_drewN' n3).mono HB2.out.size))).grown HG4.out (by exact HB2.out.size) (fun g hg => ?_)
    exact (HO2.out.lt g hg).1
  go_wp2_with fail
  refine (heldInts_any A2 1 (bitsI x r).length c2 _ HI4.out (by omega) (by omega) (by omega)).mono ?_
  rintro e w5 ⟨rfl, rfl⟩
  go_wp2_with fail
  refine (iBits_any x r _ ((HT.out.below HB1.out).below HB4.out)).mono ?_
  rintro e w6 ⟨v6, rfl, ho6, hb6⟩
  obtain ⟨A6, c6, rfl, hI6⟩ := ho6.form
  have HI6 := Lib.hid hI6
  have HB6 := Lib.hid hb6
  clear hI6 hb6 ho6
  go_wp2_with fail
  refine (eqInts_any A6 A1 _ _ c6 c1 _ HI6.out ((HI1.out.below HB4.out).below HB6.out) (by omega)).mono ?_
  rintro e w7 ⟨rfl, n7, rfl⟩
  go_wp2_with fail
  refine (heldInts_any A2 1 (bitsI x r).length c2 _ ((HI4.out.below HB6.out).below (below_drewN' n7)) (by omega) (by omega) (by omega)).mono ?_
  rintro e w8 ⟨rfl, rfl⟩
  go_wp2_with fail
  go_ret
  refine ⟨rfl, ?_⟩
  exact ((HB1.out.trans (HB4.out.mono HB1.out.size)).trans (HB6.out.mono (Nat.le_trans HB1.out.size HB4.out.size))).trans ((below_drewN' n7).mono (Nat.le_trans (Nat.le_trans HB1.out.size HB4.out.size) HB6.out.size))
end Go.Proofs.YtbdncpbbeodpbaaDoor
