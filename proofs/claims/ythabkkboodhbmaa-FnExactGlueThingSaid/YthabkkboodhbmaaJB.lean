/-
  The draws of chapter 4.
-/
import Derived.Test.YthabkkboodhbmaaJA
namespace Go.Proofs.Ythabkkboodhbmaa
open Go.RowKit

theorem jGrown {w w0 w' : World} {B : Nat} (hb : Below B w w0) (hB : B ≤ w0.heap.size) {g : Nat} (hg : w0.grownBy w' (some g)) (h : B ≤ g) : Below B w w' := hb.grown hg hB (fun k hk => by injection hk with hk; omega)

set_option maxRecDepth 100000 in
set_option maxHeartbeats 400000 in
theorem drawPieces (A : Option Addr) (zs : List Int) (c : Nat) (w : World) (hb : Byts w w.heap.size A zs) :
    Calls Try.prog 22 #[.slice A zs.length c] w fun e w' => ∃ s : ByteArray, e = .returned (.string s) ∧ s.size ≤ 97 ∧ Below w.heap.size w w' := by
  have HC := Lib.hid (Cur.new (c := c) hb 72)
  have HB := Lib.hid (jAlloc1 w (.cells #[.slice A zs.length c, .int .i64 0, .int .u64 0] 72))
  clear hb
  go_enter Try.func22, Try.ntmps22
  go_wp2_with fail
  refine (thing_any w.heap.size 0 _ HC.out (by omega)).mono ?_
  rintro e w1 ⟨s, rfl, hs, hc1, hg1⟩
  have HB1 := Lib.hid (jGrown HB.out (by simp) hg1 (Nat.le_refl _))
  clear hc1 hg1
  go_wp2_with fail
  go_ret
  exact ⟨s, rfl, hs, HB1.out⟩

set_option maxRecDepth 100000 in
set_option maxHeartbeats 400000 in
theorem drawCutT (A : Option Addr) (zs : List Int) (c : Nat) (w : World) (hb : Byts w w.heap.size A zs) :
    Calls Try.prog 12 #[.slice A zs.length c] w fun e w' => ∃ s : ByteArray, e = .returned (.string s) ∧ s.size ≤ 97 ∧ Below w.heap.size w w' := by
  have HD := Lib.hid (drawPieces A zs c w hb)
  clear hb
  go_enter Try.func12, Try.ntmps12
  go_wp2_with fail
  refine HD.out.mono ?_
  rintro e w1 ⟨s, rfl, hs, hb1⟩
  go_wp2_with fail
  go_ret
  exact ⟨s, rfl, hs, hb1⟩

set_option maxRecDepth 100000 in
set_option maxHeartbeats 400000 in
theorem drawPieceAt (A : Option Addr) (zs : List Int) (c : Nat) (w : World) (hb : Byts w w.heap.size A zs) :
    Calls Try.prog 32 #[.slice A zs.length c] w fun e w' => ∃ (s : ByteArray) (k : Int), e = .returned (.tuple #[.string s, .int .i64 k]) ∧ s.size ≤ 97 ∧ Below w.heap.size w w' := by
  have HC := Lib.hid (Cur.new (c := c) hb 72)
  have HB := Lib.hid (jAlloc1 w (.cells #[.slice A zs.length c, .int .i64 0, .int .u64 0] 72))
  clear hb
  go_enter Try.func32, Try.ntmps32
  go_wp2_with fail
  refine (thing_any w.heap.size 0 _ HC.out (by omega)).mono ?_
  rintro e w1 ⟨s, rfl, hs, hc1, hg1⟩
  have HC1 := Lib.hid hc1
  have HB1 := Lib.hid (jGrown HB.out (by simp) hg1 (Nat.le_refl _))
  clear hc1 hg1
  go_wp2_with fail
  refine (pick_any w.heap.size _ 26 _ HC1.out (by omega) (by omega)).mono ?_
  rintro e w2 ⟨r, rfl, ⟨hr0, hr1⟩, hc2, hg2⟩
  have hr2 : r ≤ 26 := by omega
  have HB2 := Lib.hid (jGrown HB1.out HB1.out.size hg2 (Nat.le_refl _))
  clear hc2 hg2
  go_wp2_with fail
  go_ret2
  exact ⟨s, _, rfl, hs, HB2.out⟩

set_option maxRecDepth 100000 in
set_option maxHeartbeats 400000 in
theorem drawBlocksFor (A : Option Addr) (zs : List Int) (c : Nat) (w : World) (hb : Byts w w.heap.size A zs) :
    Calls Try.prog 20 #[.slice A zs.length c] w fun e w' => ∃ n : Int, e = .returned (.int .i64 n) ∧ Below w.heap.size w w' := by
  have HC := Lib.hid (Cur.new (c := c) hb 72)
  have HB := Lib.hid (jAlloc1 w (.cells #[.slice A zs.length c, .int .i64 0, .int .u64 0] 72))
  have hs0 : (w.alloc (.cells #[.slice A zs.length c, .int .i64 0, .int .u64 0] 72)).heap.size = w.heap.size + 1 := by simp
  have HL := Lib.hid (lit_cells (w.alloc (.cells #[.slice A zs.length c, .int .i64 0, .int .u64 0] 72)) [-1, 0, 1, 32, 33, 96, 97] 3)
  rw [hs0] at HL
  clear hb hs0
  go_enter Try.func20, Try.ntmps20
  go_wp2_with fail
  refine (among_any w.heap.size 0 (w.heap.size + 1) 0 7 [-1, 0, 1, 32, 33, 96, 97] _ (HC.out.grown (World.grownBy_alloc _ _ none) (fun g e => by cases e)) (by omega) (by omega) (by decide) (by decide) HL.out).mono ?_
  rintro e w1 ⟨n, rfl, hn, hc1, hg1⟩
  have HB1 := Lib.hid (jGrown (HB.out.alloc (by simp) _) (by simp; omega) hg1 (Nat.le_refl _))
  clear hc1 hg1
  go_wp2_with fail
  go_ret
  exact ⟨n, rfl, HB1.out⟩

set_option maxRecDepth 100000 in
set_option maxHeartbeats 400000 in
theorem drawPartOf (A : Option Addr) (zs : List Int) (c : Nat) (w : World) (hb : Byts w w.heap.size A zs) :
    Calls Try.prog 27 #[.slice A zs.length c] w fun e w' => ∃ n m : Int, e = .returned (.tuple #[.int .i64 n, .int .i64 m]) ∧ Below w.heap.size w w' := by
  have HC := Lib.hid (Cur.new (c := c) hb 72)
  have HB := Lib.hid (jAlloc1 w (.cells #[.slice A zs.length c, .int .i64 0, .int .u64 0] 72))
  have hs0 : (w.alloc (.cells #[.slice A zs.length c, .int .i64 0, .int .u64 0] 72)).heap.size = w.heap.size + 1 := by simp
  have HL := Lib.hid (lit_cells (w.alloc (.cells #[.slice A zs.length c, .int .i64 0, .int .u64 0] 72)) [0, 1, 7, 24, 100, 101] 3)
  rw [hs0] at HL
  clear hb hs0
  go_enter Try.func27, Try.ntmps27
  go_wp2_with fail
  refine (among_any w.heap.size 0 (w.heap.size + 1) 0 6 [0, 1, 7, 24, 100, 101] _ (HC.out.grown (World.grownBy_alloc _ _ none) (fun g e => by cases e)) (by omega) (by omega) (by decide) (by decide) HL.out).mono ?_
  rintro e w1 ⟨n, rfl, hn, hc1, hg1⟩
  have HC1 := Lib.hid hc1
  have HB1 := Lib.hid (jGrown (HB.out.alloc (by simp) _) (by simp; omega) hg1 (Nat.le_refl _))
  clear hc1 hg1
  go_wp2_with fail
  refine (pick_any w.heap.size _ 9 _ HC1.out (by omega) (by omega)).mono ?_
  rintro e w2 ⟨r, rfl, ⟨hr0, hr1⟩, hc2, hg2⟩
  have hr2 : r ≤ 9 := by omega
  have HC2 := Lib.hid hc2
  have HB2 := Lib.hid (jGrown HB1.out HB1.out.size hg2 (Nat.le_refl _))
  clear hc2 hg2
  go_wp2_with fail
  refine (pick_any w.heap.size _ 9 _ HC2.out (by omega) (by omega)).mono ?_
  rintro e w3 ⟨q, rfl, ⟨hq0, hq1⟩, hc3, hg3⟩
  have hq2 : q ≤ 9 := by omega
  have HB3 := Lib.hid (jGrown HB2.out HB2.out.size hg3 (Nat.le_refl _))
  clear hc3 hg3
  go_wp2_with fail
  go_ret2
  exact ⟨n, _, rfl, HB3.out⟩
end Go.Proofs.Ythabkkboodhbmaa
