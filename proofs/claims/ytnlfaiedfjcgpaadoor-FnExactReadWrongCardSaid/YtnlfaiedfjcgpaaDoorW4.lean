/-
  What BitsIn answers, in the program's text and in the model's.
-/
import Derived.Test.YtnlfaiedfjcgpaaDoorW3
import Derived.Test.YtnlfaiedfjcgpaaDoorMG
import Derived.Test.YtnlfaiedfjcgpaaDoorH2
namespace Go.Proofs.YtnlfaiedfjcgpaaDoor
open Go.RowKit

theorem Own.append {w1 : World} {base : Nat} {v' : Value} {zs : List Int} {z : Int} (h : w1.ownsRow base 3 1 v' (zs.length + 1) (zs.map (Value.int .i64) ++ [.int .i64 z])) : Own w1 base v' (zs ++ [z]) := by
  unfold Own; simpa using h

theorem Tab.below {w w' : World} (h : Tab w) (hb : Below w.heap.size w w') : Tab w' := fun i hi => (hb.cell (World.block_lt_of_cell? _ _ (h i hi))).trans (h i hi)

set_option maxRecDepth 100000 in
set_option maxHeartbeats 400000 in
theorem iBits (m n : Nat) (w : World) (ht : Tab w) (h : goodB m n = true) (hm : m ≤ 16) (hn : n < 65536) :
    Calls Tryd.prog 25 #[.int .i64 m, .int .i64 n] w fun e w' => ∃ v, e = .returned (.tuple #[v, .bool true]) ∧ Own w' w.heap.size v (bitsL m n) ∧ Below w.heap.size w w' := by
  obtain ⟨i0, hi, hz0, hz1, hz2⟩ := info_parts intInfo
  go_enter Tryd.func25, Tryd.ntmps25
  go_wp2_with (go_at_call 49; refine (iGood_any _ _ _ ht).mono ?_; rintro e w' ⟨rfl, rfl⟩)
  go_loopw [6, 13] (fun v i wr => ∃ k : Nat, k ≤ m ∧ i = .int .i64 k ∧ Own wr w.heap.size v (bitsL k n) ∧ Below w.heap.size w wr) (fun _ i _ => m - (intOf i).toNat)
  case atStart => exact ⟨0, by omega, rfl, Own.nil _ _, Below.refl _ _⟩
  case round =>
    obtain ⟨k, hk, rfl, hown, hbel⟩ := hrel
    have hle := cnt_le k n
    have hbl := Lib.hid (bitsL_len k n)
    by_cases hlt : k < m
    · have hc := (ht.below hbel) k (by omega)
      have ha := Lib.hid (and_pow_i64 n k hn (by omega))
      clear ht h
      by_cases hb : n / 2 ^ k % 2 = 1
      · have HB := Lib.hid hb
        have hne : (bits .and .i64 (n : Int) ((2 : Int) ^ k) != 0) = true := by
          rw [ha.out]; have := and_pow_ne.2 hb; simp; omega
        clear hb
        have HO : Hid (wr.ownsRow w.heap.size 3 1 u6 (bitsL k n).length ((bitsL k n).map (Value.int .i64))) := hown
        have HBel := Lib.hid hbel
        clear hown hbel
        go_wp2_with (at_builtin; refine wpList_append_own _ rfl _ _ 26 rfl w.heap.size 3 i0 (.int .i64 0) 1 8 Tryd.underlying26 hi hz0 hz1 hz2 rfl (by decide) _ _ _ rfl (HO.out.alloc _) ⟨wr.heap.size, 0, none⟩ 1 1 [.int .i64 k] rfl rfl ?c1 ?c2 ?c3 ?c4 ?c5 ?_)
        case c1 =>
          intro j u hj
          match j, hj with
          | 0, hj => simp at hj; subst hj; simp [Addr.add]
        case c2 => intro u hu; simp at hu; subst hu; rfl
        case c3 => have := hbl.out; unfold maxLen; omega
        case c4 => have := hbl.out; omega
        case c5 => have := HBel.out.size; simp; omega
        · intro v' w1 hown' hgrow _
          have HB1 : Hid (Below w.heap.size w w1) := (HBel.out.alloc HBel.out.size _).grown hgrow (by have := HBel.out.size; simp; omega) (fun g hg => (HO.out.lt g hg).1)
          have HO1 : Hid (Own w1 w.heap.size v' (bitsL (k + 1) n)) := by rw [bitsL_yes HB.out]; exact Own.append hown'
          clear hown' hgrow HO HBel hc
          go_wp2
          go_roundw
          case rel => exact ⟨k + 1, by omega, by go_num, HO1.out, HB1.out⟩
          case measure => simp [intOf]; omega
      · have HB : Hid (n / 2 ^ k % 2 = 0) := by show n / 2 ^ k % 2 = 0; omega
        have hne : (bits .and .i64 (n : Int) ((2 : Int) ^ k) != 0) = false := by
          rw [ha.out]; have h0 : n &&& 2 ^ k = 0 := Classical.byContradiction fun h => hb (and_pow_ne.1 h)
          rw [h0]; rfl
        clear hb
        go_wp2
        go_roundw
        case rel => exact ⟨k + 1, by omega, by go_num, by rw [bitsL_no HB.out]; exact hown, hbel⟩
        case measure => simp [intOf]; omega
    · obtain rfl : k = m := by omega
      go_wp2
      go_ret2
      exact ⟨_, rfl, hown, hbel⟩

set_option maxRecDepth 100000 in
set_option maxHeartbeats 400000 in
theorem iBits_no (x r : Int) (w : World) (ht : Tab w) (h : goodB x r = false) :
    Calls Tryd.prog 25 #[.int .i64 x, .int .i64 r] w fun e w' => e = .returned (.tuple #[.slice none 0 0, .bool false]) ∧ w = w' := by
  go_enter Tryd.func25, Tryd.ntmps25
  go_wp2_with (go_at_call 49; refine (iGood_any _ _ _ ht).mono ?_; rintro e w' ⟨rfl, rfl⟩)
  go_ret2
  exact ⟨rfl, rfl⟩

set_option maxRecDepth 100000 in
set_option maxHeartbeats 400000 in
theorem sBits (m n : Nat) (w : World) (hm : m ≤ 16) (hn : n < 2 ^ m) :
    Calls Tryd.prog 32 #[.int .i64 n] w fun e w' => ∃ v, e = .returned v ∧ Own w' w.heap.size v (bitsL m n) ∧ Below w.heap.size w w' := by
  obtain ⟨i0, hi, hz0, hz1, hz2⟩ := info_parts intInfo
  have hn16 := lt16 hm hn
  go_enter Tryd.func32, Tryd.ntmps32
  go_wp2
  go_loopw [3, 4] (fun v i wr => ∃ k : Nat, k ≤ m ∧ i = .int .i64 k ∧ Own wr w.heap.size v (bitsL k n) ∧ Below w.heap.size w wr) (fun _ i _ => m - (intOf i).toNat)
  case atStart => exact ⟨0, by omega, rfl, Own.nil _ _, Below.refl _ _⟩
  case round =>
    obtain ⟨k, hk, rfl, hown, hbel⟩ := hrel
    have hle := cnt_le k n
    have hbl := Lib.hid (bitsL_len k n)
    have hdiv : ((n : Int) / (2 : Int) ^ k) = ((n / 2 ^ k : Nat) : Int) := by simp
    have hand := and_one_i64 (n / 2 ^ k) (Nat.lt_of_le_of_lt (Nat.div_le_self _ _) hn16)
    by_cases hlt : 0 < n / 2 ^ k
    · have hpos : (0 : Int) < (n : Int) / (2 : Int) ^ k := by rw [hdiv]; omega
      have hkm : k < m := by
        apply Classical.byContradiction; intro h2
        obtain rfl : k = m := by omega
        rw [Nat.div_eq_of_lt hn] at hlt; omega
      by_cases hb : n / 2 ^ k % 2 = 1
      · have HB := Lib.hid hb
        have hbit : (bits .and .i64 ((n : Int) / (2 : Int) ^ k) 1 == 1) = true := by rw [hdiv, hand, hb]; rfl
        have HO : Hid (wr.ownsRow w.heap.size 3 1 u3 (bitsL k n).length ((bitsL k n).map (Value.int .i64))) := hown
        have HBel := Lib.hid hbel
        clear hown hbel hb hand hdiv hlt
        go_wp2_with (at_builtin; refine wpList_append_own _ rfl _ _ 26 rfl w.heap.size 3 i0 (.int .i64 0) 1 8 Tryd.underlying26 hi hz0 hz1 hz2 rfl (by decide) _ _ _ rfl (HO.out.alloc _) ⟨wr.heap.size, 0, none⟩ 1 1 [.int .i64 k] rfl rfl ?c1 ?c2 ?c3 ?c4 ?c5 ?_)
        case c1 =>
          intro j u hj
          match j, hj with
          | 0, hj => simp at hj; subst hj; simp [Addr.add]
        case c2 => intro u hu; simp at hu; subst hu; rfl
        case c3 => have := hbl.out; unfold maxLen; omega
        case c4 => have := hbl.out; omega
        case c5 => have := HBel.out.size; simp; omega
        · intro v' w1 hown' hgrow _
          have HB1 : Hid (Below w.heap.size w w1) := (HBel.out.alloc HBel.out.size _).grown hgrow (by have := HBel.out.size; simp; omega) (fun g hg => (HO.out.lt g hg).1)
          have HO1 : Hid (Own w1 w.heap.size v' (bitsL (k + 1) n)) := by rw [bitsL_yes HB.out]; exact Own.append hown'
          clear hown' hgrow HO HBel
          go_wp2
          go_roundw
          case rel => exact ⟨k + 1, by omega, by go_num, HO1.out, HB1.out⟩
          case measure => simp [intOf]; omega
      · have HB : Hid (n / 2 ^ k % 2 = 0) := by show n / 2 ^ k % 2 = 0; omega
        have hbit : (bits .and .i64 ((n : Int) / (2 : Int) ^ k) 1 == 1) = false := by rw [hdiv, hand, HB.out]; rfl
        clear hb hand hdiv hlt
        go_wp2
        go_roundw
        case rel => exact ⟨k + 1, by omega, by go_num, by rw [bitsL_no HB.out]; exact hown, hbel⟩
        case measure => simp [intOf]; omega
    · have hpos : ¬ (0 : Int) < (n : Int) / (2 : Int) ^ k := by rw [hdiv]; omega
      have HE : Hid (bitsL m n = bitsL k n) := bitsL_stop ((Nat.div_eq_zero_iff_lt (Nat.two_pow_pos k)).1 (Nat.eq_zero_of_not_pos hlt)) hk
      clear hand hdiv hlt
      go_wp2
      go_ret
      exact ⟨_, rfl, by rw [HE.out]; exact hown, hbel⟩

end Go.Proofs.YtnlfaiedfjcgpaaDoor
