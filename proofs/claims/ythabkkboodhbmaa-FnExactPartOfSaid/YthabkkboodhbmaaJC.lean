/-
  The laws' helpers on blocks: szBlock, szBlockS, toBlock.
-/
import Derived.Test.YthabkkboodhbmaaJB
namespace Go.Proofs.Ythabkkboodhbmaa
open Go.RowKit

set_option maxRecDepth 100000 in
set_option maxHeartbeats 1000000 in
theorem szBlock_ok (x left : Int) (A : Option Addr) (n c : Nat) (w : World) (h0 : left ≤ 1048576) (h : (n : Int) ≤ left) :
    Calls Try.prog 64 #[blkV x (.slice A n c), .int .i64 left] w fun e w' => e = .returned (.int .i64 (left - n)) ∧ Below w.heap.size w w' := by
  have hn : ¬ (left - (n : Int) < 0) := by omega
  go_enter Try.func64, Try.ntmps64
  go_wp2
  go_ret
  exact ⟨rfl, (Below.refl _ w).alloc (Nat.le_refl _) _⟩
set_option maxRecDepth 100000 in
set_option maxHeartbeats 1000000 in
theorem szBlock_no (x left : Int) (A : Option Addr) (n c : Nat) (w : World) (h0 : 0 ≤ left) (h1 : left ≤ 1048576) (h : left < (n : Int)) (h2 : n ≤ 9223372036854775807) :
    Calls Try.prog 64 #[blkV x (.slice A n c), .int .i64 left] w fun e w' => e = .returned (.int .i64 (-1)) ∧ Below w.heap.size w w' := by
  have hn : left - (n : Int) < 0 := by omega
  go_enter Try.func64, Try.ntmps64
  go_wp2
  go_ret
  exact ⟨rfl, (Below.refl _ w).alloc (Nat.le_refl _) _⟩

/-- How many pieces there are in blocks. -/
def sizB (bs : List (Int × List Int)) : Nat := (bs.map fun p => p.2.length).sum
theorem sizB_snoc {bs : List (Int × List Int)} {k : Nat} (h : k < bs.length) : sizB (bs.take (k + 1)) = sizB (bs.take k) + bs[k].2.length := by
  unfold sizB
  rw [List.take_succ_eq_append_getElem h, List.map_append, List.sum_append]; simp
theorem sizB_take (bs : List (Int × List Int)) : ∀ k, sizB (bs.take k) ≤ sizB bs := fun k => by
  unfold sizB
  rw [List.map_take]
  conv => rhs; rw [← List.take_append_drop k (bs.map fun p => p.2.length)]
  rw [List.sum_append]; omega
theorem sizB_mem : ∀ {bs : List (Int × List Int)} {p : Int × List Int}, p ∈ bs → p.2.length ≤ sizB bs
  | q :: bs, p, h => by
    have e : sizB (q :: bs) = q.2.length + sizB bs := by simp [sizB]
    rw [e]
    rcases List.mem_cons.1 h with rfl | h
    · omega
    · have := sizB_mem h; omega

set_option maxRecDepth 100000 in
set_option maxHeartbeats 1000000 in
theorem szBlockS_any (A : Option Addr) (bs : List (Int × List Int)) (c : Nat) (w : World) (ha : Blks w A bs) (hl : bs.length ≤ 9223372036854775807) (hz : ∀ p ∈ bs, p.2.length ≤ 9223372036854775807) :
    Calls Try.prog 42 #[.slice A bs.length c, .int .i64 1048576] w fun e w' =>
      (bs.length + sizB bs ≤ 1048576 → e = .returned (.int .i64 (1048576 - (bs.length + sizB bs : Nat)))) ∧ (1048576 < bs.length + sizB bs → e = .returned (.int .i64 (-1))) ∧ Below w.heap.size w w' := by
  have HA := Lib.hid ha
  have HZ := Lib.hid hz
  clear ha hz
  by_cases hn : bs.length ≤ 1048576
  · have hni : ¬ ((1048576 : Int) - (bs.length : Int) < 0) := by omega
    go_enter Try.func42, Try.ntmps42
    go_wp2_with fail
    go_loopg [1, 5] bs.length (fun gk q i wr => ∃ k : Nat, k + gk = bs.length ∧ i = .int .i64 k ∧ q = .int .i64 (1048576 - (bs.length : Int) - (sizB (bs.take k) : Nat)) ∧ bs.length + sizB (bs.take k) ≤ 1048576 ∧ Below w.heap.size w wr)
    case atStart => exact ⟨0, by omega, rfl, by simp [sizB], by simp [sizB]; omega, Below.refl _ _⟩
    case round =>
      obtain ⟨k, hg, rfl, rfl, htot, hbel⟩ := hrel
      have HBl := Lib.hid hbel
      clear hbel
      by_cases hlt : k < bs.length
      · have hki : (k : Int) < (bs.length : Int) := by omega
        obtain ⟨b1, o1, rfl, hc1⟩ := (HA.out.below HBl.out) (by rintro rfl; simp at hlt)
        obtain ⟨p1, A1, c1, p2, _⟩ := hc1 k hlt
        have hzl := HZ.out bs[k] (List.getElem_mem hlt)
        have hsn := sizB_snoc hlt
        have hst := sizB_take bs (k + 1)
        have HGK : Hid (bs.length - k - 1 < gk ∧ k + 1 + (bs.length - k - 1) = bs.length) := by show _ ∧ _; omega
        clear hc1 hg
        generalize bs[k] = p at *
        generalize hS : sizB (bs.take k) = S at *
        generalize hS' : sizB (bs.take (k + 1)) = S' at *
        have HS' := Lib.hid hS'
        clear hS hS'
        by_cases hfit : (p.2.length : Int) ≤ 1048576 - (bs.length : Int) - (S : Int)
        · have hge : ¬ (1048576 - (bs.length : Int) - (S : Int) - (p.2.length : Int) < 0) := by omega
          have HE : Hid (1048576 - (bs.length : Int) - (S : Int) - (p.2.length : Int) = 1048576 - (bs.length : Int) - (S' : Int)) := by show _ = _; omega
          have HT : Hid (bs.length + S' ≤ 1048576) := by show _ ≤ _; omega
          have HSz := Lib.hid (szBlock_ok p.1 (1048576 - (bs.length : Int) - (S : Int)) A1 p.2.length c1 wr (by omega) hfit)
          clear hsn hst
          go_wp2_with fail
          refine HSz.out.mono ?_
          rintro e w1 ⟨rfl, hb1⟩
          have HB1 := Lib.hid (jMore HBl.out hb1)
          clear hb1
          go_wp2_with fail
          go_roundg (bs.length - k - 1)
          case measure => exact HGK.out.1
          case rel => exact ⟨k + 1, HGK.out.2, by go_num, by rw [HS'.out, HE.out], by rw [HS'.out]; exact HT.out, HB1.out⟩
        · have HT : Hid (1048576 < bs.length + sizB bs) := by show _ < _; omega
          have HSz := Lib.hid (szBlock_no p.1 (1048576 - (bs.length : Int) - (S : Int)) A1 p.2.length c1 wr (by omega) (by omega) (by omega) hzl)
          clear hsn hst
          go_wp2_with fail
          refine HSz.out.mono ?_
          rintro e w1 ⟨rfl, hb1⟩
          go_wp2_with fail
          go_ret
          exact ⟨fun h => absurd h (Nat.not_le_of_lt HT.out), fun _ => rfl, jMore HBl.out hb1⟩
      · obtain rfl : k = bs.length := by omega
        have hki : ¬ (bs.length : Int) < (bs.length : Int) := by omega
        rw [List.take_length] at htot ⊢
        have HTot := Lib.hid htot
        clear htot
        go_wp2_with fail
        go_ret
        exact ⟨fun _ => ret_int (by omega), fun h => absurd h (Nat.not_lt_of_le HTot.out), HBl.out⟩
  · have hni : (1048576 : Int) - (bs.length : Int) < 0 := by omega
    go_enter Try.func42, Try.ntmps42
    go_wp2_with fail
    go_ret
    exact ⟨fun h => absurd h (by omega), fun _ => rfl, Below.refl _ _⟩

theorem ret_blk {fn : Func} {p : Tmp} (h : fn.results = #[.cell p 34]) {R : Ending → World → Prop} {a : Act} {w : World} (g : Nat) (x : Int) (v : Value) (hp : a.tmps.getD p undef = .pointer (some ⟨g, 0, none⟩))
    (hg : w.heap[g]? = some (.cells #[.int .i64 x, v] 34 (0, 0))) (hd : a.defers = []) (hR : R (.returned (blkV x v)) w) : bodyPost Try.prog fn R .ret a w :=
  bodyPost_ret (results_cell_row h _ _ g 34 #[.int .i64 x, v] (0, 0) _ hp hg Try.underlying34 rfl (by kernel_rfl)) hd hR
theorem jSet (w : World) (a : Addr) (u : Value) : w.grownBy (w.setCell a u) (some a.block) :=
  ⟨rfl, rfl, rfl, by simp, fun k _ hk => heap_setCell_other w a k u (fun e => hk (by rw [e]))⟩

set_option maxRecDepth 100000 in
set_option maxHeartbeats 1000000 in
theorem toBlock_any (x : Int) (A : Option Addr) (zs : List Int) (c : Nat) (w : World) (ha : Ints w A zs) (hn : zs.length ≤ 17592186044416) :
    Calls Try.prog 65 #[blkV x (.slice A zs.length c)] w fun e w' => ∃ v, e = .returned (blkV x v) ∧ Own w' w.heap.size v zs ∧ Below w.heap.size w w' := by
  have HA := Lib.hid ha
  clear ha
  go_enter Try.func65, Try.ntmps65
  go_wp2_with fail
  refine (toInts_any A zs c _ (((HA.out.jAlloc _).jAlloc _).jAlloc _) hn).mono ?_
  rintro e w1 ⟨v, rfl, ho, hb⟩
  obtain ⟨B, c1, rfl, _⟩ := ho.form
  have hs : (((w.alloc (.cells #[.int .i64 x, .slice A zs.length c] 80)).alloc (.cells #[.int .i64 0, .slice none 0 0] 34)).alloc (.cells #[.int .i64 x, .slice none 0 0] 34)).heap.size = w.heap.size + 3 := by simp
  have h3 : w1.heap[w.heap.size + 1 + 1]? = some (.cells #[.int .i64 x, .slice none 0 0] 34 (0, 0)) := by
    rw [hb.block _ (by rw [hs]; omega)]
    rw [show w.heap.size + 1 + 1 = ((w.alloc (.cells #[.int .i64 x, .slice A zs.length c] 80)).alloc (.cells #[.int .i64 0, .slice none 0 0] 34)).heap.size by simp]; exact heap_alloc_new _ _
  have h2 : w1.heap[w.heap.size + 1]? = some (.cells #[.int .i64 0, .slice none 0 0] 34 (0, 0)) := by
    rw [hb.block _ (by rw [hs]; omega), Below.heap_alloc _ _ _ (by simp)]
    rw [show w.heap.size + 1 = (w.alloc (.cells #[.int .i64 x, .slice A zs.length c] 80)).heap.size by simp]; exact heap_alloc_new _ _
  have hc0 : w1.cell? ⟨w.heap.size + 1 + 1, 0, none⟩ = some (.int .i64 x) := cell_of_row w1 _ 0 _ _ _ h3
  have hc1 : w1.cell? ⟨w.heap.size + 1 + 1, 1, none⟩ = some (.slice none 0 0) := cell_of_row w1 _ 1 _ _ _ h3
  have hf1 := frozen_of_row w1 _ 1 _ _ h3
  have hd0 : w1.cell? ⟨w.heap.size + 1, 0, none⟩ = some (.int .i64 0) := cell_of_row w1 _ 0 _ _ _ h2
  have hd1 : w1.cell? ⟨w.heap.size + 1, 1, none⟩ = some (.slice none 0 0) := cell_of_row w1 _ 1 _ _ _ h2
  have hg0 := frozen_of_row w1 _ 0 _ _ h2
  have hg1 := frozen_of_row w1 _ 1 _ _ h2
  have H2 := Lib.hid h2
  clear h2 h3
  go_wp2_with fail
  have hgo : (((w1.setCell ⟨w.heap.size + 1 + 1, 1, none⟩ (.slice B zs.length c1)).setCell ⟨w.heap.size + 1, 0, none⟩ (.int .i64 x)).setCell ⟨w.heap.size + 1, 1, none⟩ (.slice B zs.length c1)).heap[w.heap.size + 1]? = some (.cells #[.int .i64 x, .slice B zs.length c1] 34 (0, 0)) :=
    heap_setCell_same _ _ 1 _ _ _ (heap_setCell_same _ _ 0 _ _ _ ((heap_setCell_other w1 ⟨w.heap.size + 1 + 1, 1, none⟩ (w.heap.size + 1) _ (by show w.heap.size + 1 ≠ w.heap.size + 1 + 1; omega)).trans H2.out))
  refine ret_blk rfl (w.heap.size + 1) x _ rfl hgo rfl ?_
  have hlt : w.heap.size + 1 + 1 < w.heap.size + 3 := by omega
  rw [hs] at ho hb
  have o1 := ho.cur hlt (jSet w1 ⟨w.heap.size + 1 + 1, 1, none⟩ (.slice B zs.length c1))
  have o2 := o1.cur (show w.heap.size + 1 < w.heap.size + 3 by omega) (jSet _ ⟨w.heap.size + 1, 0, none⟩ (.int .i64 x))
  have o3 := o2.cur (show w.heap.size + 1 < w.heap.size + 3 by omega) (jSet _ ⟨w.heap.size + 1, 1, none⟩ (.slice B zs.length c1))
  refine ⟨_, rfl, o3.lower (by omega), ?_⟩
  have b0 : Below w.heap.size w w1 := by
    have := ((((Below.refl _ w).alloc (Nat.le_refl _) (.cells #[.int .i64 x, .slice A zs.length c] 80)).alloc (by simp) (.cells #[.int .i64 0, .slice none 0 0] 34)).alloc (by simp; omega) (.cells #[.int .i64 x, .slice none 0 0] 34))
    exact jMore this (by rw [hs]; exact hb)
  exact ((b0.setCell (by show w.heap.size ≤ w.heap.size + 1 + 1; omega) _).setCell (by show w.heap.size ≤ w.heap.size + 1; omega) _).setCell (by show w.heap.size ≤ w.heap.size + 1; omega) _
end Go.Proofs.Ythabkkboodhbmaa
