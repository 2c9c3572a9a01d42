/-
  The law FnAdded, walked: it returns true, and turns nothing that lay in memory.
-/
import Derived.Test.YtbdncpbbeodpbaaDoorW9
import Derived.Test.YtbdncpbbeodpbaaDoorM5
import Derived.Test.YtbdncpbbeodpbaaDoorD2
namespace Go.Proofs.YtbdncpbbeodpbaaDoor
open Go.RowKit

theorem good_of {m n : Nat} (h1 : 1 ≤ m) (h2 : m ≤ 16) (hn : n < 2 ^ m) : goodB m n = true := by
  have h4 : ((n : Nat) : Int) < (2 : Int) ^ m := by exact_mod_cast hn
  have h0 : (0 : Int) ≤ (n : Int) := by omega
  simp only [goodB, wideB, Int.toNat_natCast, h4, h0, decide_true, Bool.and_true]
  rw [decide_eq_true (show (1 : Int) ≤ (m : Int) by omega), decide_eq_true (show (m : Int) ≤ 16 by omega)]; rfl
theorem two_of {m a b : Nat} (h1 : 1 ≤ m) (h2 : m ≤ 16) (ha : a < 2 ^ m) (hb : b < 2 ^ m) : twoB m a b = true := by
  rw [twoB, good_of h1 h2 ha, good_of h1 h2 hb]; rfl

def wtI (x r : Int) : Int := if goodB x r = true then (cnt x.toNat r.toNat : Nat) else 0
theorem iWeight_any (x r : Int) (w : World) (ht : Tab w) :
    Calls Tryd.prog 23 #[.int .i64 x, .int .i64 r] w fun e w' => e = .returned (.tuple #[.int .i64 (wtI x r), .bool (goodB x r)]) ∧ w = w' := by
  cases h : goodB x r
  · refine (iWeight_no x r w ht h).mono ?_
    rintro e w' ⟨rfl, rfl⟩
    exact ⟨tup (by simp [wtI, h]), rfl⟩
  · obtain ⟨m, n, rfl, rfl, h1, h2, h3⟩ := good_nat h
    refine (iWeight_ok m n w ht h h2 (lt16 h2 h3)).mono ?_
    rintro e w' ⟨rfl, rfl⟩
    exact ⟨tup (by simp [wtI, h]), rfl⟩
theorem sWeight_any (x r : Int) (w : World) :
    Calls Tryd.prog 25 #[.int .i64 x, .int .i64 r] w fun e w' => e = .returned (.tuple #[.int .i64 (wtI x r), .bool (goodB x r)]) ∧ w = w' := by
  cases h : goodB x r
  · refine (sWeight_no x r w h).mono ?_
    rintro e w' ⟨rfl, rfl⟩
    exact ⟨tup (by simp [wtI, h]), rfl⟩
  · obtain ⟨m, n, rfl, rfl, h1, h2, h3⟩ := good_nat h
    refine (sWeight_ok m n w h h2 h3).mono ?_
    rintro e w' ⟨rfl, rfl⟩
    exact ⟨tup (by simp [wtI, h]), rfl⟩

theorem Byts.below {w w' : World} {A : Option Addr} {zs : List Int} (h : Byts w w.heap.size A zs) (hb : Below w.heap.size w w') : Byts w' w'.heap.size A zs :=
  ⟨h.1, fun hne => by
    obtain ⟨b, o, e, hB, hc⟩ := h.2 hne
    exact ⟨b, o, e, Nat.lt_of_lt_of_le hB hb.size, fun j hj => (hb.cell hB).trans (hc j hj)⟩⟩

set_option maxRecDepth 100000 in
set_option maxHeartbeats 4000000 in
theorem added_small (A B : Option Addr) (za zb : List Int) (ca cb : Nat) (w : World) (ht : Tab w) (ha : Byts w w.heap.size A za) (hb : Byts w w.heap.size B zb) (hl : za.length + zb.length ≤ 1048576) :
    Calls Tryd.prog 3 #[.slice A za.length ca, .slice B zb.length cb] w fun e w' => e = .returned (.bool true) ∧ Below w.heap.size w w' := by
  have HT := Lib.hid ht
  have HA := Lib.hid ha
  have HB := Lib.hid hb
  clear ht ha hb
  go_enter Tryd.func3, Tryd.ntmps3
  go_wp2_with fail
  refine (drawAddRows A za ca _ HA.out).mono ?_
  rintro e w1 ⟨x, a, b, rfl, hb1⟩
  have HT1 := Lib.hid (HT.out.below hb1)
  have HBl := Lib.hid hb1
  have HB1 := Lib.hid (HB.out.below hb1)
  clear hb1 HT HA HB
  cases h : twoB x a b
  · go_wp2_with fail
    refine (iAdd_no x a b _ HT1.out h).mono ?_
    rintro e w2 ⟨rfl, rfl⟩
    go_wp2_with fail
    refine (sAdd_no x a b _ h).mono ?_
    rintro e w2 ⟨rfl, rfl⟩
    go_wp2_with fail
    refine (iFar_no x a b _ HT1.out h).mono ?_
    rintro e w2 ⟨rfl, rfl⟩
    go_wp2_with fail
    refine (sFar_no x a b _ h).mono ?_
    rintro e w2 ⟨rfl, rfl⟩
    go_wp2_with fail
    refine (iDot_no x a b _ HT1.out h).mono ?_
    rintro e w2 ⟨rfl, rfl⟩
    go_wp2_with fail
    refine (sDot_no x a b _ h).mono ?_
    rintro e w2 ⟨rfl, rfl⟩
    go_wp2_with fail
    refine (iGood_any x a _ HT1.out).mono ?_
    rintro e w2 ⟨rfl, rfl⟩
    go_wp2_with fail
    refine (sGood_any x a _).mono ?_
    rintro e w2 ⟨rfl, rfl⟩
    go_wp2_with fail
    refine (drawWeightOf B zb cb _ HB1.out).mono ?_
    rintro e w3 ⟨u, r, rfl, hb3⟩
    have HT3 := Lib.hid (HT1.out.below hb3)
    have HB3 := Lib.hid (below_more HBl.out hb3)
    clear hb3 HT1 HBl HB1
    go_wp2_with fail
    refine (iWeight_any u r _ HT3.out).mono ?_
    rintro e w4 ⟨rfl, rfl⟩
    go_wp2_with fail
    refine (sWeight_any u r _).mono ?_
    rintro e w4 ⟨rfl, rfl⟩
    go_wp2_with fail
    go_ret
    exact ⟨rfl, HB3.out⟩
  · obtain ⟨m, a, b, rfl, rfl, rfl, hm1, hm2, ha, hb⟩ := two_nat h
    have ha' := lt16 hm2 ha
    have hb' := lt16 hm2 hb
    have hx' := lt16 hm2 (xor_lt ha hb)
    have HX := Lib.hid (xor_lt ha hb)
    have HGA := Lib.hid (two_true h).1
    have HA := Lib.hid ha
    have HBB := Lib.hid hb
    have H2 := Lib.hid h
    have hcd := cnt_le m (a &&& b)
    clear ha hb h
    go_wp2_with fail
    refine (iAdd_ok m a b _ HT1.out H2.out ha' hb').mono ?_
    rintro e w2 ⟨rfl, rfl⟩
    go_wp2_with fail
    refine (sAdd_ok m a b _ H2.out ha' hb').mono ?_
    rintro e w2 ⟨rfl, rfl⟩
    go_wp2_with fail
    refine (iFar_ok m a b _ HT1.out H2.out hm2 HA.out HBB.out).mono ?_
    rintro e w2 ⟨rfl, rfl⟩
    go_wp2_with fail
    refine (sFar_ok m a b _ H2.out hm2 HA.out HBB.out).mono ?_
    rintro e w2 ⟨rfl, rfl⟩
    go_wp2_with fail
    refine (iDot_ok m a b _ HT1.out H2.out hm2 HA.out HBB.out).mono ?_
    rintro e w2 ⟨rfl, rfl⟩
    go_wp2_with fail
    refine (sDot_ok m a b _ H2.out hm2 HA.out HBB.out).mono ?_
    rintro e w2 ⟨rfl, rfl⟩
    go_wp2_with fail
    refine (iGood_any m a _ HT1.out).mono ?_
    rintro e w2 ⟨rfl, rfl⟩
    go_wp2_with fail
    refine (sGood_any m a _).mono ?_
    rintro e w2 ⟨rfl, rfl⟩
    go_wp2_with fail
    refine (iAdd_ok m (a ^^^ b) b _ HT1.out (two_of hm1 hm2 HX.out HBB.out) hx' hb').mono ?_
    rintro e w2 ⟨rfl, rfl⟩
    go_wp2_with fail
    refine (numberOf B _ zb cb _ HB1.out (by omega)).mono ?_
    rintro e w2 ⟨r, rfl, hr0, rfl⟩
    obtain ⟨hp1, hp2⟩ := pow_bd m hm2
    obtain ⟨c, hc, hcl⟩ : ∃ c : Nat, r % (2 : Int) ^ m = (c : Int) ∧ c < 2 ^ m := by
      refine ⟨(r % (2 : Int) ^ m).toNat, ?_, ?_⟩
      · rw [Int.toNat_of_nonneg (Int.emod_nonneg _ (by omega))]
      · have h2 := Int.emod_lt_of_pos r (show 0 < (2 : Int) ^ m by omega)
        have h3 := Int.emod_nonneg r (show (2 : Int) ^ m ≠ 0 by omega)
        have h4 : (((r % (2 : Int) ^ m).toNat : Nat) : Int) < ((2 ^ m : Nat) : Int) := by
          rw [Int.toNat_of_nonneg h3]; simpa using h2
        exact_mod_cast h4
    have HCl := Lib.hid hcl
    clear hcl
    go_wp2_with fail
    refine (iFar_ok m a c _ HT1.out (two_of hm1 hm2 HA.out HCl.out) hm2 HA.out HCl.out).mono ?_
    rintro e w2 ⟨rfl, rfl⟩
    go_wp2_with fail
    refine (iFar_ok m c b _ HT1.out (two_of hm1 hm2 HCl.out HBB.out) hm2 HCl.out HBB.out).mono ?_
    rintro e w2 ⟨rfl, rfl⟩
    go_wp2_with fail
    refine (iWeight_ok m (a ^^^ b) _ HT1.out (good_of hm1 hm2 HX.out) hm2 hx').mono ?_
    rintro e w2 ⟨rfl, rfl⟩
    have htri := cnt_tri m a b c
    have hback := xor_back a b
    have hc1 := cnt_le m (a ^^^ c)
    have hc2 := cnt_le m (c ^^^ b)
    go_wp2_with fail
    refine (drawWeightOf B zb cb _ HB1.out).mono ?_
    rintro e w3 ⟨u, q, rfl, hb3⟩
    have HT3 := Lib.hid (HT1.out.below hb3)
    have HB3 := Lib.hid (below_more HBl.out hb3)
    clear hb3 HT1 HBl HB1 htri hback hc1 hc2 hc
    go_wp2_with fail
    refine (iWeight_any u q _ HT3.out).mono ?_
    rintro e w4 ⟨rfl, rfl⟩
    go_wp2_with fail
    refine (sWeight_any u q _).mono ?_
    rintro e w4 ⟨rfl, rfl⟩
    go_wp2_with fail
    go_ret
    exact ⟨rfl, HB3.out⟩

set_option maxRecDepth 100000 in
set_option maxHeartbeats 400000 in
theorem added_law (A : Option Addr) (za : List Int) (ca : Nat) (B : Option Addr) (zb : List Int) (cb : Nat) (w : World) (ht : Tab w) (ha : Byts w w.heap.size A za) (hb : Byts w w.heap.size B zb) (hla : za.length ≤ 140737488355328) (hlb : zb.length ≤ 140737488355328) :
    Calls Tryd.prog 3 #[.slice A za.length ca, .slice B zb.length cb] w fun e w' => e = .returned (.bool true) ∧ Below w.heap.size w w' := by
  by_cases hl : za.length + zb.length ≤ 1048576
  · exact added_small A B za zb ca cb w ht ha hb hl
  · have hl' : (1048576 : Int) < (za.length : Int) + (zb.length : Int) := by omega
    go_enter Tryd.func3, Tryd.ntmps3
    go_wp2_with fail
    go_ret
    exact ⟨rfl, Below.refl _ _⟩
end Go.Proofs.YtbdncpbbeodpbaaDoor
