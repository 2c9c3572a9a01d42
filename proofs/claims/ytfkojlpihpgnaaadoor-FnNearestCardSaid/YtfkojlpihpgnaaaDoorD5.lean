/-
  The laws' draws of chapter 2: DrawStepsOf, DrawTurnRows, DrawSameSpan, DrawCanMake, DrawMakeBy, DrawSpanOf.
-/
import Derived.Test.YtfkojlpihpgnaaaDoorV0
namespace Go.Proofs.YtfkojlpihpgnaaaDoor
open Go.RowKit

/-- What a draw of a number and a list leaves. -/
def DrewRows (w : World) (e : Ending) (w' : World) : Prop := ∃ (x : Int) (v : Value) (l : List Int), e = .returned (.tuple #[.int .i64 x, v]) ∧ Own w' w.heap.size v l ∧ l.length ≤ 1000 ∧ Below w.heap.size w w'

set_option maxRecDepth 100000 in
set_option maxHeartbeats 400000 in
theorem drawSpan (A : Option Addr) (zs : List Int) (c : Nat) (w : World) (hb : Byts w w.heap.size A zs) :
    Calls Tryd.prog 22 #[.slice A zs.length c] w (DrewRows w) := by
  have HC := Lib.hid (Cur.new (c := c) hb 77)
  clear hb
  go_enter Tryd.func22, Tryd.ntmps22
  go_wp2_with fail
  have hsz : (w.alloc (.cells #[.slice A zs.length c, .int .i64 0, .int .u64 0] 77)).heap.size = w.heap.size + 1 := by simp
  have hB0 : Below w.heap.size w (w.alloc (.cells #[.slice A zs.length c, .int .i64 0, .int .u64 0] 77)) := (Below.refl w.heap.size w).alloc (Nat.le_refl _) _
  obtain ⟨W, hW⟩ : ∃ W, w.alloc (.cells #[.slice A zs.length c, .int .i64 0, .int .u64 0] 77) = W := ⟨_, rfl⟩
  rw [hW] at HC hsz hB0 ⊢
  clear hW
  refine (among_any w.heap.size 0 (w.heap.size + 1) 0 6 [1, 3, 4, 6, 8, 9] _ (HC.out.grown (World.grownBy_alloc W _ none) (fun g e => by cases e)) (by omega) (by omega) (by decide) (by decide) (by have := lit_cells W [1, 3, 4, 6, 8, 9] 3; rwa [hsz] at this)).mono ?_
  rintro e w1 ⟨x, rfl, _, hc1, hg1⟩
  have HC1 := Lib.hid hc1
  have HB1 := Lib.hid (below_of_grown (hB0.alloc (by omega) _) (by simp; omega) hg1 (Nat.le_refl _))
  clear hc1 hg1 HC hB0 hsz
  go_wp2_with fail
  refine (rows_any w.heap.size (0 + 2) x _ HC1.out (by omega)).mono ?_
  rintro e w2 ⟨v, l, rfl, ho2, hl2, hc2, hg2⟩
  have HB2 := Lib.hid (below_of_grown HB1.out HB1.out.size hg2 (Nat.le_refl _))
  have HO2 := Lib.hid (ho2.lower HB1.out.size)
  obtain ⟨A2, c2, rfl, _⟩ := ho2.form
  clear hc2 hg2 ho2 HC1
  go_wp2_with fail
  go_ret2
  exact ⟨_, _, l, rfl, HO2.out, by omega, HB2.out⟩

theorem Byts.stay {w w' : World} {A : Option Addr} {zs : List Int} (h : Byts w w.heap.size A zs) (hb : Below w.heap.size w w') : Byts w' w'.heap.size A zs :=
  ⟨h.1, fun hne => by
    obtain ⟨b, o, e, hlt, hc⟩ := h.2 hne
    exact ⟨b, o, e, Nat.lt_of_lt_of_le hlt hb.size, fun j hj => (hb.cell hlt).trans (hc j hj)⟩⟩

/-- What a draw of a number, a list and a number leaves. -/
def DrewWant (w : World) (e : Ending) (w' : World) : Prop := ∃ (x : Int) (v : Value) (l : List Int) (y : Int), e = .returned (.tuple #[.int .i64 x, v, .int .i64 y]) ∧ Own w' w.heap.size v l ∧ l.length ≤ 1000 ∧ Below w.heap.size w w'

set_option maxRecDepth 100000 in
set_option maxHeartbeats 1000000 in
theorem drawCan (A : Option Addr) (zs : List Int) (c : Nat) (w : World) (hb : Byts w w.heap.size A zs) :
    Calls Tryd.prog 60 #[.slice A zs.length c] w (DrewWant w) := by
  have HC := Lib.hid (Cur.new (c := c) hb 77)
  clear hb
  go_enter Tryd.func60, Tryd.ntmps60
  go_wp2_with fail
  refine (bitWide_any w.heap.size 0 _ HC.out (by omega)).mono ?_
  rintro e w1 ⟨x, rfl, hx0, hx1, hc1, hg1⟩
  have HC1 := Lib.hid hc1
  have hB1 := hc1.lt
  have HB1 := Lib.hid (below_of_grown ((Below.refl w.heap.size w).alloc (Nat.le_refl _) _) (by simp) hg1 (Nat.le_refl _))
  clear hc1 hg1 HC
  go_wp2_with fail
  refine (rows_any w.heap.size (0 + 2) x _ HC1.out (by omega)).mono ?_
  rintro e w2 ⟨v, l, rfl, ho2, hl2, hc2, hg2⟩
  have HC2 := Lib.hid hc2
  have HB2 := Lib.hid (below_of_grown HB1.out HB1.out.size hg2 (Nat.le_refl _))
  have HO2 := Lib.hid ho2
  obtain ⟨A2, c2, rfl, _⟩ := ho2.form
  clear hc2 hg2 ho2 HC1
  go_wp2_with fail
  refine (some_any w.heap.size (0 + 2 + 200) l.length _ HC2.out (by omega) (by omega)).mono ?_
  rintro e w3 ⟨v3, l3, rfl, ho3, hl3, hc3, hg3⟩
  have HC3 := Lib.hid hc3
  have HB3 := Lib.hid (below_of_grown HB2.out HB2.out.size hg3 (Nat.le_refl _))
  have HO2' := Lib.hid (HO2.out.cur hB1 hg3)
  obtain ⟨A3, c3, rfl, hI3⟩ := ho3.form
  have HI3 := Lib.hid hI3
  clear hc3 hg3 ho3 hI3 HB2 HO2 HC2
  go_wp2_with fail
  refine (sSum_any x A2 A3 l l3 c2 c3 _ HO2'.out.ints HI3.out (by omega) (by omega)).mono ?_
  rintro e w4 ⟨rfl, rfl⟩
  generalize sumI x l l3 = y at *
  generalize sumOkB x l l3 = ok at *
  have HO3 := Lib.hid (HO2'.out.lower HB1.out.size)
  cases ok
  · go_wp2_with fail
    refine (row_any w.heap.size (0 + 2 + 200 + 2 * l.length + 2) x _ HC3.out (by omega)).mono ?_
    rintro e w5 ⟨r, rfl, hr0, hr1, hc5, hg5⟩
    have HB5 := Lib.hid (below_of_grown HB3.out HB3.out.size hg5 (Nat.le_refl _))
    have HO5 := Lib.hid ((HO2'.out.cur hB1 hg5).lower HB1.out.size)
    clear hc5 hg5
    go_wp2_with fail
    go_ret3
    exact ⟨_, _, l, _, rfl, HO5.out, by omega, HB5.out⟩
  · go_wp2_with fail
    refine (one_any w.heap.size (0 + 2 + 200 + 2 * l.length + 2) 2 _ HC3.out (by omega) (by omega)).mono ?_
    rintro e w5 ⟨bb, rfl, hc5, hg5⟩
    have HC5 := Lib.hid hc5
    have HB5 := Lib.hid (below_of_grown HB3.out HB3.out.size hg5 (Nat.le_refl _))
    have HO5 := Lib.hid (HO2'.out.cur hB1 hg5)
    clear hc5 hg5
    cases bb
    · go_wp2_with fail
      refine (row_any w.heap.size (0 + 2 + 200 + 2 * l.length + 2 + 2) x _ HC5.out (by omega)).mono ?_
      rintro e w6 ⟨r, rfl, hr0, hr1, hc6, hg6⟩
      have HB6 := Lib.hid (below_of_grown HB5.out HB5.out.size hg6 (Nat.le_refl _))
      have HO6 := Lib.hid ((HO5.out.cur hB1 hg6).lower HB1.out.size)
      clear hc6 hg6
      go_wp2_with fail
      go_ret3
      exact ⟨_, _, l, _, rfl, HO6.out, by omega, HB6.out⟩
    · have HO6 := Lib.hid (HO5.out.lower HB1.out.size)
      go_wp2_with fail
      go_ret3
      exact ⟨_, _, l, _, rfl, HO6.out, by omega, HB5.out⟩

set_option maxRecDepth 100000 in
set_option maxHeartbeats 400000 in
theorem drawMake (A : Option Addr) (zs : List Int) (c : Nat) (w : World) (hb : Byts w w.heap.size A zs) :
    Calls Tryd.prog 15 #[.slice A zs.length c] w (DrewWant w) := by
  have HD := Lib.hid (drawCan A zs c w hb)
  clear hb
  go_enter Tryd.func15, Tryd.ntmps15
  go_wp2_with fail
  refine HD.out.mono ?_
  rintro e w1 ⟨x, v, l, y, rfl, ho, hl, hb1⟩
  have HO := Lib.hid ho
  have HB := Lib.hid hb1
  obtain ⟨A2, c2, rfl, _⟩ := ho.form
  clear ho hb1
  go_wp2_with fail
  go_ret3
  exact ⟨_, _, l, _, rfl, HO.out, hl, HB.out⟩

/-- What a draw of a number and two lists leaves. -/
def DrewTwo (w : World) (e : Ending) (w' : World) : Prop := ∃ (x : Int) (v u : Value) (l r : List Int), e = .returned (.tuple #[.int .i64 x, v, u]) ∧ Own w' w.heap.size v l ∧ Own w' w.heap.size u r ∧ l.length ≤ 1000 ∧ r.length ≤ 1000 ∧ Below w.heap.size w w'

end Go.Proofs.YtfkojlpihpgnaaaDoor
