/-
  K1: The laws' own helpers on codes: szCode, toCode, eqCode, markCode, heldCode, sameCode; each does to the rows what the one on lists does.
  K1b: toCode
  K1c: eqCode, markCode, heldCode, sameCode
-/
import Derived.Test.YtfkojlpihpgnaaaDoorV0
import Derived.Test.YtfkojlpihpgnaaaDoorD4

/- K1 -/
namespace Go.Proofs.YtfkojlpihpgnaaaDoor
open Go.RowKit

/-- A code as a value. -/
abbrev codeV (x : Int) (v : Value) : Value := .agg #[.int .i64 x, v]
theorem infoCode : (Tryd.prog.info? 40).map (·.size) = some 2 := by kernel_rfl

set_option maxRecDepth 100000 in
set_option maxHeartbeats 1000000 in
theorem szCode_ok (x : Int) (A : Option Addr) (n c : Nat) (w : World) (h : n ≤ 1048576) :
    Calls Tryd.prog 55 #[codeV x (.slice A n c), .int .i64 1048576] w fun e w' => e = .returned (.int .i64 (1048576 - n)) ∧ Below w.heap.size w w' := by
  have hn : ¬ ((1048576 : Int) - (n : Int) < 0) := by omega
  go_enter Tryd.func55, Tryd.ntmps55
  go_wp2
  go_ret
  exact ⟨rfl, (Below.refl _ w).alloc (Nat.le_refl _) _⟩
set_option maxRecDepth 100000 in
set_option maxHeartbeats 1000000 in
theorem szCode_no (x : Int) (A : Option Addr) (n c : Nat) (w : World) (h : 1048576 < n) (h2 : n ≤ 9223372036854775807) :
    Calls Tryd.prog 55 #[codeV x (.slice A n c), .int .i64 1048576] w fun e w' => e = .returned (.int .i64 (-1)) ∧ Below w.heap.size w w' := by
  have hn : (1048576 : Int) - (n : Int) < 0 := by omega
  go_enter Tryd.func55, Tryd.ntmps55
  go_wp2
  go_ret
  exact ⟨rfl, (Below.refl _ w).alloc (Nat.le_refl _) _⟩
end Go.Proofs.YtfkojlpihpgnaaaDoor

/- K1b -/
namespace Go.Proofs.YtfkojlpihpgnaaaDoor
open Go.RowKit

theorem ret_code {fn : Func} {p : Tmp} (h : fn.results = #[.cell p 40]) {R : Ending → World → Prop} {a : Act} {w : World} (g : Nat) (x : Int) (v : Value) (hp : a.tmps.getD p undef = .pointer (some ⟨g, 0, none⟩))
    (hg : w.heap[g]? = some (.cells #[.int .i64 x, v] 40 (0, 0))) (hd : a.defers = []) (hR : R (.returned (codeV x v)) w) : bodyPost Tryd.prog fn R .ret a w :=
  bodyPost_ret (results_cell_row h _ _ g 40 #[.int .i64 x, v] (0, 0) _ hp hg Tryd.underlying40 rfl infoCode) hd hR
theorem grown_set (w : World) (a : Addr) (u : Value) : w.grownBy (w.setCell a u) (some a.block) :=
  ⟨rfl, rfl, rfl, by simp, fun k _ hk => heap_setCell_other w a k u (fun e => hk (by rw [e]))⟩

set_option maxRecDepth 100000 in
set_option maxHeartbeats 1000000 in
theorem toCode_any (x : Int) (A : Option Addr) (zs : List Int) (c : Nat) (w : World) (ha : Ints w A zs) (hn : zs.length ≤ 17592186044416) :
    Calls Tryd.prog 56 #[codeV x (.slice A zs.length c)] w fun e w' => ∃ v, e = .returned (codeV x v) ∧ Own w' w.heap.size v zs ∧ Below w.heap.size w w' := by
  have HA := Lib.hid ha
  clear ha
  go_enter Tryd.func56, Tryd.ntmps56
  go_wp2_with fail
  refine (toInts_any A zs c _ (((HA.out.below ((Below.refl _ _).alloc (Nat.le_refl _) _)).below ((Below.refl _ _).alloc (Nat.le_refl _) _)).below ((Below.refl _ _).alloc (Nat.le_refl _) _)) hn).mono ?_
  rintro e w1 ⟨v, rfl, ho, hb⟩
  obtain ⟨B, c1, rfl, _⟩ := ho.form
  have hs : (((w.alloc (.cells #[.int .i64 x, .slice A zs.length c] 59)).alloc (.cells #[.int .i64 0, .slice none 0 0] 40)).alloc (.cells #[.int .i64 x, .slice none 0 0] 40)).heap.size = w.heap.size + 3 := by simp
  have h3 : w1.heap[w.heap.size + 1 + 1]? = some (.cells #[.int .i64 x, .slice none 0 0] 40 (0, 0)) := by
    rw [hb.block _ (by rw [hs]; omega)]
    rw [show w.heap.size + 1 + 1 = ((w.alloc (.cells #[.int .i64 x, .slice A zs.length c] 59)).alloc (.cells #[.int .i64 0, .slice none 0 0] 40)).heap.size by simp]; exact heap_alloc_new _ _
  have h2 : w1.heap[w.heap.size + 1]? = some (.cells #[.int .i64 0, .slice none 0 0] 40 (0, 0)) := by
    rw [hb.block _ (by rw [hs]; omega), heap_alloc_old _ _ _ (by simp)]
    rw [show w.heap.size + 1 = (w.alloc (.cells #[.int .i64 x, .slice A zs.length c] 59)).heap.size by simp]; exact heap_alloc_new _ _
  have hc0 : w1.cell? ⟨w.heap.size + 1 + 1, 0, none⟩ = some (.int .i64 x) := cell_of_row w1 _ 0 _ _ _ h3
  have hc1 : w1.cell? ⟨w.heap.size + 1 + 1, 1, none⟩ = some (.slice none 0 0) := cell_of_row w1 _ 1 _ _ _ h3
  have hf1 := frozen_of_row w1 _ 1 _ _ h3
  have hd0 : w1.cell? ⟨w.heap.size + 1, 0, none⟩ = some (.int .i64 0) := cell_of_row w1 _ 0 _ _ _ h2
  have hd1 : w1.cell? ⟨w.heap.size + 1, 1, none⟩ = some (.slice none 0 0) := cell_of_row w1 _ 1 _ _ _ h2
  have hg0 := frozen_of_row w1 _ 0 _ _ h2
  have hg1 := frozen_of_row w1 _ 1 _ _ h2
  have H2 := Lib.hid h2
  clear h2 h3
  go_wp2_with fail
  have hgo : (((w1.setCell ⟨w.heap.size + 1 + 1, 1, none⟩ (.slice B zs.length c1)).setCell ⟨w.heap.size + 1, 0, none⟩ (.int .i64 x)).setCell ⟨w.heap.size + 1, 1, none⟩ (.slice B zs.length c1)).heap[w.heap.size + 1]? = some (.cells #[.int .i64 x, .slice B zs.length c1] 40 (0, 0)) :=
    heap_setCell_same _ _ 1 _ _ _ (heap_setCell_same _ _ 0 _ _ _ ((heap_setCell_other w1 ⟨w.heap.size + 1 + 1, 1, none⟩ (w.heap.size + 1) _ (by show w.heap.size + 1 ≠ w.heap.size + 1 + 1; omega)).trans H2.out))
  refine ret_code rfl (w.heap.size + 1) x _ rfl hgo rfl ?_
  have hlt : w.heap.size + 1 + 1 < w.heap.size + 3 := by omega
  rw [hs] at ho hb
  have o1 := ho.cur hlt (grown_set w1 ⟨w.heap.size + 1 + 1, 1, none⟩ (.slice B zs.length c1))
  have o2 := o1.cur (show w.heap.size + 1 < w.heap.size + 3 by omega) (grown_set _ ⟨w.heap.size + 1, 0, none⟩ (.int .i64 x))
  have o3 := o2.cur (show w.heap.size + 1 < w.heap.size + 3 by omega) (grown_set _ ⟨w.heap.size + 1, 1, none⟩ (.slice B zs.length c1))
  refine ⟨_, rfl, o3.lower (by omega), ?_⟩
  have b0 : Below w.heap.size w w1 := by
    have := ((((Below.refl _ w).alloc (Nat.le_refl _) (.cells #[.int .i64 x, .slice A zs.length c] 59)).alloc (by simp) (.cells #[.int .i64 0, .slice none 0 0] 40)).alloc (by simp; omega) (.cells #[.int .i64 x, .slice none 0 0] 40))
    exact below_more this (by rw [hs]; exact hb)
  exact ((b0.setCell (by show w.heap.size ≤ w.heap.size + 1 + 1; omega) _).setCell (by show w.heap.size ≤ w.heap.size + 1; omega) _).setCell (by show w.heap.size ≤ w.heap.size + 1; omega) _
end Go.Proofs.YtfkojlpihpgnaaaDoor

/- K1c -/
namespace Go.Proofs.YtfkojlpihpgnaaaDoor
open Go.RowKit

theorem Ints.alloc1 {w : World} {A : Option Addr} {zs : List Int} (h : Ints w A zs) (o : Obj) : Ints (w.alloc o) A zs := h.below ((Below.refl _ _).alloc (Nat.le_refl _) _)
theorem below_alloc2 (w : World) (a b : Obj) : Below w.heap.size w ((w.alloc a).alloc b) := ((Below.refl _ w).alloc (Nat.le_refl _) _).alloc (by simp) _

set_option maxRecDepth 100000 in
set_option maxHeartbeats 1000000 in
theorem eqCode_any (x y : Int) (A B : Option Addr) (za zb : List Int) (ca cb : Nat) (w : World) (ha : Ints w A za) (hb : Ints w B zb) (hl : za.length ≤ 140737488355328) :
    Calls Tryd.prog 57 #[codeV x (.slice A za.length ca), codeV y (.slice B zb.length cb)] w fun e w' => e = .returned (.bool (decide (x = y) && eqL za zb)) ∧ Below w.heap.size w w' := by
  have HA := Lib.hid ha
  have HB := Lib.hid hb
  clear ha hb
  by_cases hxy : x = y
  · subst hxy
    have hx : (x != x) = false := by simp
    go_enter Tryd.func57, Tryd.ntmps57
    go_wp2_with fail
    refine (eqInts_any A B za zb ca cb _ (HA.out.alloc1 _ |>.alloc1 _) (HB.out.alloc1 _ |>.alloc1 _) hl).mono ?_
    rintro e w1 ⟨rfl, n1, rfl⟩
    cases hq : eqL za zb
    · go_wp2_with fail
      go_ret
      exact ⟨by simp [hq], below_more (below_alloc2 _ _ _) (below_drewN' n1)⟩
    · go_wp2_with fail
      go_ret
      exact ⟨by simp [hq], below_more (below_alloc2 _ _ _) (below_drewN' n1)⟩
  · have hx : (x != y) = true := by simp [hxy]
    go_enter Tryd.func57, Tryd.ntmps57
    go_wp2_with fail
    go_ret
    exact ⟨by simp [hxy], below_alloc2 _ _ _⟩

set_option maxRecDepth 100000 in
set_option maxHeartbeats 1000000 in
theorem sameCode_any (x y : Int) (A B : Option Addr) (za zb : List Int) (ca cb : Nat) (w : World) (ha : Ints w A za) (hb : Ints w B zb) (hl : za.length ≤ 140737488355328) :
    Calls Tryd.prog 39 #[codeV x (.slice A za.length ca), codeV y (.slice B zb.length cb)] w fun e w' => e = .returned (.bool (decide (x = y) && eqL za zb)) ∧ Below w.heap.size w w' := by
  have HA := Lib.hid ha
  have HB := Lib.hid hb
  clear ha hb
  by_cases hxy : x = y
  · subst hxy
    have hx : (x == x) = true := by simp
    go_enter Tryd.func39, Tryd.ntmps39
    go_wp2_with fail
    refine (sameInts_any A B za zb ca cb _ (HA.out.alloc1 _ |>.alloc1 _) (HB.out.alloc1 _ |>.alloc1 _) hl).mono ?_
    rintro e w1 ⟨rfl, n1, rfl⟩
    go_wp2_with fail
    go_ret
    exact ⟨by simp, below_more (below_alloc2 _ _ _) (below_drewN' n1)⟩
  · have hx : (x == y) = false := by simp [hxy]
    go_enter Tryd.func39, Tryd.ntmps39
    go_wp2_with fail
    go_ret
    exact ⟨by simp [hxy], below_alloc2 _ _ _⟩

set_option maxRecDepth 100000 in
set_option maxHeartbeats 1000000 in
theorem heldCode_any (x : Int) (A : Option Addr) (k : Int) (n : Nat) (ca : Nat) (w : World) (ha : Ints w A (marks k n)) (hn : n ≤ 140737488355328) (h1 : 0 ≤ k) (h2 : k ≤ 140737488355328) :
    Calls Tryd.prog 59 #[codeV x (.slice A n ca), .int .i64 k] w fun e w' => e = .returned (.int .i64 (k + n)) ∧ Below w.heap.size w w' := by
  have HA := Lib.hid ha
  clear ha
  have hk : ¬ (k + (n : Int) < 0) := by omega
  go_enter Tryd.func59, Tryd.ntmps59
  go_wp2_with fail
  refine (heldInts_any A k n ca _ (HA.out.alloc1 _) hn h1 h2).mono ?_
  rintro e w1 ⟨rfl, rfl⟩
  go_wp2_with fail
  go_ret
  exact ⟨rfl, (Below.refl _ w).alloc (Nat.le_refl _) _⟩

set_option maxRecDepth 100000 in
set_option maxHeartbeats 1000000 in
theorem markCode_any (x : Int) (v : Value) (zs : List Int) (base : Nat) (k : Int) (w : World) (ho : Own w base v zs) (hn : zs.length ≤ 140737488355328) (h1 : 0 ≤ k) (h2 : k ≤ 140737488355328) :
    Calls Tryd.prog 58 #[codeV x v, .int .i64 k] w fun e w' => e = .returned (.int .i64 (k + zs.length)) ∧ Own w' base v (marks k zs.length) ∧ w.grownBy w' v.ownBlock := by
  have HO := Lib.hid ho
  obtain ⟨A, c, rfl, _⟩ := ho.form
  clear ho
  go_enter Tryd.func58, Tryd.ntmps58
  go_wp2_with fail
  refine (markInts_any _ zs base k _ (HO.out.below ((Below.refl _ _).alloc (Nat.le_refl _) _)) hn h1 h2).mono ?_
  rintro e w1 ⟨rfl, ho1, hg1⟩
  go_wp2_with fail
  go_ret
  exact ⟨rfl, ho1, (World.grownBy_alloc _ _ _).trans hg1⟩
end Go.Proofs.YtfkojlpihpgnaaaDoor
