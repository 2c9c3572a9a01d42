/-
  The laws' draws of chapter 1: DrawGoodRow, DrawWeightOf, DrawBitsIn, DrawAddRows; the number of some bytes.
-/
import Derived.Test.YtbdncpbbeodpbaaDoorD1
namespace Go.Proofs.YtbdncpbbeodpbaaDoor
open Go.RowKit

/-- A new cursor. -/
theorem Cur.new {w : World} {A : Option Addr} {zs : List Int} {c : Nat} (hb : Byts w w.heap.size A zs) (t : TypeId) :
    Cur (w.alloc (.cells #[.slice A zs.length c, .int .i64 0, .int .u64 0] t)) w.heap.size 0 := by
  have hc := fun j => cell_of_row (w.alloc (.cells #[.slice A zs.length c, .int .i64 0, .int .u64 0] t)) w.heap.size j _ t (0, 0) (heap_alloc_new w _)
  have hf := fun j => frozen_of_row (w.alloc (.cells #[.slice A zs.length c, .int .i64 0, .int .u64 0] t)) w.heap.size j _ t (heap_alloc_new w _)
  exact ⟨A, zs, c, 0, 0, hb.keep fun p hp => World.cell?_alloc_lt w _ p hp, by rw [hc]; rfl, by rw [hc]; rfl, by rw [hc]; rfl, hf 1, hf 2, Nat.le_refl _, by omega, by omega⟩

theorem below_of_grown {w w0 w' : World} {B : Nat} (hb : Below B w w0) (hB : B ≤ w0.heap.size) {g : Nat} (hg : w0.grownBy w' (some g)) (h : B ≤ g) : Below B w w' :=
  hb.grown hg hB (fun k e => by injection e with e; omega)

set_option maxHeartbeats 400000 in
theorem drawGoodRow (A : Option Addr) (zs : List Int) (c : Nat) (w : World) (hb : Byts w w.heap.size A zs) :
    Calls Tryd.prog 48 #[.slice A zs.length c] w fun e w' => ∃ x r : Int, e = .returned (.tuple #[.int .i64 x, .int .i64 r]) ∧ Below w.heap.size w w' := by
  have HC := Lib.hid (Cur.new (c := c) hb 52)
  clear hb
  go_enter Tryd.func48, Tryd.ntmps48
  go_wp2_with fail
  refine (bitWide_any w.heap.size 0 _ HC.out (by omega)).mono ?_
  rintro e w1 ⟨x, rfl, hx0, hx1, hc1, hg1⟩
  have HC1 := Lib.hid hc1
  have HB1 := Lib.hid (below_of_grown ((Below.refl w.heap.size w).alloc (Nat.le_refl _) _) (by simp) hg1 (Nat.le_refl _))
  clear hc1 hg1 HC
  go_wp2_with fail
  refine (row_any w.heap.size (0 + 2) x _ HC1.out (by omega)).mono ?_
  rintro e w2 ⟨r, rfl, hr0, hr1, hc2, hg2⟩
  have HB2 := Lib.hid (below_of_grown HB1.out HB1.out.size hg2 (Nat.le_refl _))
  clear hc2 hg2 HB1 HC1
  go_wp2_with fail
  go_ret2
  exact ⟨x, r, rfl, HB2.out⟩

set_option maxHeartbeats 400000 in
theorem drawWeightOf (A : Option Addr) (zs : List Int) (c : Nat) (w : World) (hb : Byts w w.heap.size A zs) :
    Calls Tryd.prog 24 #[.slice A zs.length c] w fun e w' => ∃ x r : Int, e = .returned (.tuple #[.int .i64 x, .int .i64 r]) ∧ Below w.heap.size w w' := by
  have HB := Lib.hid hb
  clear hb
  go_enter Tryd.func24, Tryd.ntmps24
  go_wp2_with fail
  refine (drawGoodRow A zs c _ HB.out).mono ?_
  rintro e w1 ⟨x, r, rfl, hb1⟩
  have HB1 := Lib.hid hb1
  clear hb1
  go_wp2_with fail
  go_ret2
  exact ⟨x, r, rfl, HB1.out⟩

set_option maxHeartbeats 400000 in
theorem drawAddRows (A : Option Addr) (zs : List Int) (c : Nat) (w : World) (hb : Byts w w.heap.size A zs) :
    Calls Tryd.prog 13 #[.slice A zs.length c] w fun e w' => ∃ x a b : Int, e = .returned (.tuple #[.int .i64 x, .int .i64 a, .int .i64 b]) ∧ Below w.heap.size w w' := by
  have HC := Lib.hid (Cur.new (c := c) hb 52)
  clear hb
  go_enter Tryd.func13, Tryd.ntmps13
  go_wp2_with fail
  refine (bitWide_any w.heap.size 0 _ HC.out (by omega)).mono ?_
  rintro e w1 ⟨x, rfl, hx0, hx1, hc1, hg1⟩
  have HC1 := Lib.hid hc1
  have HB1 := Lib.hid (below_of_grown ((Below.refl w.heap.size w).alloc (Nat.le_refl _) _) (by simp) hg1 (Nat.le_refl _))
  clear hc1 hg1 HC
  go_wp2_with fail
  refine (row_any w.heap.size (0 + 2) x _ HC1.out (by omega)).mono ?_
  rintro e w2 ⟨a, rfl, ha0, ha1, hc2, hg2⟩
  have HC2 := Lib.hid hc2
  have HB2 := Lib.hid (below_of_grown HB1.out HB1.out.size hg2 (Nat.le_refl _))
  clear hc2 hg2 HB1 HC1
  go_wp2_with fail
  refine (row_any w.heap.size (0 + 2 + 8) x _ HC2.out (by omega)).mono ?_
  rintro e w3 ⟨b, rfl, hb0, hb1, hc3, hg3⟩
  have HB3 := Lib.hid (below_of_grown HB2.out HB2.out.size hg3 (Nat.le_refl _))
  clear hc3 hg3 HB2 HC2
  go_wp2_with fail
  go_ret3
  exact ⟨x, a, b, rfl, HB3.out⟩

set_option maxHeartbeats 400000 in
theorem numberOf (A : Option Addr) (B : Nat) (zs : List Int) (c : Nat) (w : World) (hb : Byts w B A zs) (hl : zs.length ≤ 1099511627776) :
    Calls Tryd.prog 22 #[.slice A zs.length c] w fun e w' => ∃ r : Int, e = .returned (.int .i64 r) ∧ 0 ≤ r ∧ w = w' := by
  go_enter Tryd.func22, Tryd.ntmps22
  go_wp2
  go_loop [3, 8] (fun n i => ∃ (k : Nat) (r : Int), k ≤ zs.length ∧ i = .int .i64 k ∧ n = .int .i64 r ∧ 0 ≤ r ∧ r ≤ 1000003) (fun _ i => zs.length - (intOf i).toNat)
  case atStart => exact ⟨0, 0, by omega, rfl, rfl, by omega, by omega⟩
  case round =>
    obtain ⟨k, r, hk, rfl, rfl, hr0, hr1⟩ := hrel
    by_cases hlt : k < zs.length
    · obtain ⟨hz, hcs⟩ := hb
      obtain ⟨b, o, rfl, _, hc⟩ := hcs (by rintro rfl; simp at hlt)
      have hcz := hc k hlt
      rw [show zs.getD k 0 = zs[k] by simp [List.getD, hlt]] at hcz
      obtain ⟨hz1, hz2⟩ := hz zs[k] (List.getElem_mem hlt)
      clear hc hcs hz
      generalize zs[k] = z at *
      go_wp2
      go_round
      case rel => exact ⟨k + 1, _, by omega, by go_num, rfl, by omega, by omega⟩
      case measure => simp [intOf]; omega
    · obtain rfl : k = zs.length := by omega
      go_wp2
      go_ret
      exact ⟨_, rfl, hr0, rfl⟩
end Go.Proofs.YtbdncpbbeodpbaaDoor
