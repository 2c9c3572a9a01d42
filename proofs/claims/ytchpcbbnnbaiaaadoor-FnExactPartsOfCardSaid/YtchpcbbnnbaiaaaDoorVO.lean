/-
  Laws of chapter 5, walked, whatever the program's own texts are: DegreeOf, PartsOf, EnoughOf, LetterFor, GoodLetters. Each takes the contract of the program's function as a premise; K is what that contract asks of the world, and what stays where nothing that lay is turned.
-/
import Derived.Test.YtchpcbbnnbaiaaaDoorJW
namespace Go.Proofs.YtchpcbbnnbaiaaaDoor
open Go.RowKit

def Stays5 (K : World → Prop) : Prop := ∀ w w' : World, K w → Below w.heap.size w w' → K w'
theorem own_ints5 {w : World} {base : Nat} {A : Option Addr} {n c : Nat} {zs : List Int} (h : Own w base (.slice A n c) zs) : Ints w A zs := by
  obtain ⟨A', c', e, hI⟩ := h.form
  injection e with e1
  subst e1; exact hI
theorem apart5 {v u : Value} {s : Nat} (h : ∀ k, v.ownBlock = some k → k < s) (h' : ∀ k, u.ownBlock = some k → s ≤ k) : v.ownBlock = none ∨ v.ownBlock ≠ u.ownBlock := by
  cases hv : v.ownBlock with
  | none => exact Or.inl rfl
  | some k =>
    refine Or.inr fun e => ?_
    have h1 := h k hv
    have h2 := h' k e.symm
    omega

set_option maxRecDepth 100000 in
set_option maxHeartbeats 2000000 in
theorem partsOf_law {K : World → Prop} (hK : Stays5 K) (hI : ∀ (p b : Int) (w : World), K w → Calls Tryd.prog 7 #[.int .i64 p, .int .i64 b] w fun e w' => ∃ v, e = .returned (.tuple #[v, .bool (symOkB p b)]) ∧ Own w' w.heap.size v (partsI p b) ∧ Below w.heap.size w w')
    (p b : Int) (w : World) (hw : K w) : Calls Tryd.prog 3 #[.int .i64 p, .int .i64 b] w fun e w' => e = .returned (.bool true) ∧ Below w.heap.size w w' := by
  have hlen := partsI_len p b
  have HI := Lib.hid (fun w => hI p b w)
  have HS := Lib.hid (sParts_any p b w)
  have HW := Lib.hid hw
  clear hI hw
  generalize partsI p b = V at *
  generalize symOkB p b = bb at *
  have hq : eqL V V = true := by simp [eqL]
  go_enter Tryd.func3, Tryd.ntmps3
  go_wp2_with fail
  refine HS.out.mono ?_
  rintro e w1 ⟨v1, rfl, ho1, hb1⟩
  obtain ⟨A1, c1, rfl, _⟩ := ho1.form
  have HO1 := Lib.hid ho1
  have HB1 := Lib.hid hb1
  clear ho1 hb1 HS
  go_wp2_with fail
  refine (HI.out w1 (hK _ _ HW.out HB1.out)).mono ?_
  rintro e w2 ⟨v2, rfl, ho2, hb2⟩
  obtain ⟨A2, c2, rfl, _⟩ := ho2.form
  have HO2 := Lib.hid ho2
  have HO1' := Lib.hid (HO1.out.below hb2)
  have HB2 := Lib.hid (below_more HB1.out hb2)
  have hs12 := HB1.out.size
  have HL1 := Lib.hid (fun k hk => (HO1.out.lt k hk).2)
  have HG2 := Lib.hid (fun k hk => (ho2.lt k hk).1)
  clear ho2 hb2 HO1 HB1
  go_wp2_with fail
  refine (eqInts_any A2 A1 V V c2 c1 _ (own_ints5 HO2.out) (own_ints5 HO1'.out) (by omega)).mono ?_
  rintro e w3 ⟨rfl, n3, rfl⟩
  have hb3 : Below w2.heap.size w2 (w2.drewN n3) := gDrewN n3
  have HO3 := Lib.hid (HO2.out.below hb3)
  have HO1 := Lib.hid (HO1'.out.below hb3)
  have HB3 := Lib.hid (below_more HB2.out hb3)
  clear hb3 HO2 HO1' HB2
  generalize w2.drewN n3 = w3 at *
  go_wp2_with fail
  refine (markInts_any _ V _ 1 _ HO3.out (by omega) (by omega) (by omega)).mono ?_
  rintro e w4 ⟨rfl, ho4, hg4⟩
  have hml := marks_length 1 V.length
  have HO4 := Lib.hid ho4
  have HO1' : Hid (Own w4 w.heap.size (.slice A1 V.length c1) V) := HO1.out.kept hg4 (apart5 HL1.out HG2.out)
  have HB4 : Hid (Below w.heap.size w w4) := HB3.out.grown hg4 HB3.out.size (fun k hk => Nat.le_trans hs12 (HG2.out k hk))
  clear ho4 hg4 HO3 HO1 HB3
  go_wp2_with fail
  refine (heldInts_any A2 1 V.length c2 _ (own_ints5 HO4.out) (by omega) (by omega) (by omega)).mono ?_
  rintro e w5 ⟨rfl, rfl⟩
  go_wp2_with fail
  refine (HI.out w4 (hK _ _ HW.out HB4.out)).mono ?_
  rintro e w6 ⟨v6, rfl, ho6, hb6⟩
  obtain ⟨A6, c6, rfl, _⟩ := ho6.form
  have HO6 := Lib.hid ho6
  have HO1 := Lib.hid (HO1'.out.below hb6)
  have HO4' := Lib.hid (HO4.out.below hb6)
  have HB6 := Lib.hid (below_more HB4.out hb6)
  clear ho6 hb6 HO1' HO4 HB4
  go_wp2_with fail
  refine (eqInts_any A6 A1 V V c6 c1 _ (own_ints5 HO6.out) (own_ints5 HO1.out) (by omega)).mono ?_
  rintro e w7 ⟨rfl, n7, rfl⟩
  have hb7 : Below w6.heap.size w6 (w6.drewN n7) := gDrewN n7
  have HO4 := Lib.hid (HO4'.out.below hb7)
  have HB7 := Lib.hid (below_more HB6.out hb7)
  clear hb7 HO4' HB6
  generalize w6.drewN n7 = w7 at *
  go_wp2_with fail
  refine (heldInts_any A2 1 V.length c2 _ (own_ints5 HO4.out) (by omega) (by omega) (by omega)).mono ?_
  rintro e w8 ⟨rfl, rfl⟩
  go_wp2_with fail
  go_ret
  exact ⟨rfl, HB7.out⟩

set_option maxRecDepth 100000 in
set_option maxHeartbeats 1000000 in
theorem letterFor_law {K : World → Prop} (hK : Stays5 K) (hI : ∀ (A : Option Addr) (zs : List Int) (ca : Nat) (n : Int) (w : World), K w → Ints w A zs → zs.length ≤ 1048576 → zs.length ≤ ca → Calls Tryd.prog 13 #[.slice A zs.length ca, .int .i64 n] w fun e w' => e = .returned (.tuple #[letV (letNoI zs n) (letSumI zs n), .bool (letOkB zs n)]) ∧ Below w.heap.size w w')
    (A : Option Addr) (zs : List Int) (ca : Nat) (n : Int) (w : World) (hw : K w) (ha : Ints w A zs) : Calls Tryd.prog 4 #[.slice A zs.length ca, .int .i64 n] w fun e w' => e = .returned (.bool true) ∧ Below w.heap.size w w' := by
  by_cases hl : zs.length ≤ 1048576
  · have hli : ¬ (1048576 : Int) < (zs.length : Int) := by omega
    have hq : eqL zs zs = true := by simp [eqL]
    have HI := Lib.hid (fun A ca w hk ha hc => hI A zs ca n w hk ha hl hc)
    have HS := Lib.hid (fun A ca w ha => sLetter_any A zs ca n w ha hl)
    have HW := Lib.hid hw
    have HA := Lib.hid ha
    clear hI hw ha
    generalize letNoI zs n = x at *
    generalize letSumI zs n = y at *
    generalize letOkB zs n = a5 at *
    have HEq := Lib.hid (eqLetter_any x y x y)
    rw [show (decide (x = x) && decide (y = y)) = true by simp] at HEq
    go_enter Tryd.func4, Tryd.ntmps4
    go_wp2_with fail
    refine (toInts_any A zs ca _ HA.out (by omega)).mono ?_
    rintro e w1 ⟨v1, rfl, ho1, hb1⟩
    obtain ⟨A1, c1, rfl, hI1⟩ := ho1.form
    have HI1 := Lib.hid hI1
    have HB1 := Lib.hid hb1
    clear hI1 ho1 hb1
    go_wp2_with fail
    refine (HS.out A1 c1 _ HI1.out).mono ?_
    rintro e w2 ⟨rfl, hb2⟩
    have HBx := Lib.hid (below_more HB1.out hb2)
    have HB2 := Lib.hid (below_more HBx.out (gAlloc w2 (.cells #[.int .i64 x, .int .i64 y] 29)))
    have hx2 : (w2.alloc (.cells #[.int .i64 x, .int .i64 y] 29)).heap[w2.heap.size]? = some (.cells #[.int .i64 x, .int .i64 y] 29 (0, 0)) := heap_alloc_new _ _
    have HX2 := Lib.hid hx2
    have hlt2 : w2.heap.size < (w2.alloc (.cells #[.int .i64 x, .int .i64 y] 29)).heap.size := by simp
    clear hb2 HI1 HB1 HBx hx2
    go_wp2_with fail
    generalize w2.alloc (.cells #[.int .i64 x, .int .i64 y] 29) = W2 at *
    generalize w2.heap.size = g2 at *
    refine (toInts_any A zs ca _ (HA.out.below HB2.out) (by omega)).mono ?_
    rintro e w3 ⟨v3, rfl, ho3, hb3⟩
    obtain ⟨A3, c3, rfl, hcap3, hI3⟩ := gFormC ho3
    have HI3 := Lib.hid hI3
    have HB3 := Lib.hid (below_more HB2.out hb3)
    have HX3 := Lib.hid ((hb3.block _ hlt2).trans HX2.out)
    have hlt3 := Nat.lt_of_lt_of_le hlt2 hb3.size
    clear hI3 ho3 hb3 HB2 HX2 hlt2
    go_wp2_with fail
    refine (HI.out A3 c3 _ (hK _ _ HW.out HB3.out) HI3.out hcap3).mono ?_
    rintro e w4 ⟨rfl, hb4⟩
    have ha4 := gAlloc w4 (.cells #[.int .i64 x, .int .i64 y] 29)
    have HI4 := Lib.hid ((HI3.out.below hb4).below ha4)
    have HB4 := Lib.hid (below_more (below_more HB3.out hb4) ha4)
    have hX4 : (w4.alloc (.cells #[.int .i64 x, .int .i64 y] 29)).heap[g2]? = some (.cells #[.int .i64 x, .int .i64 y] 29 (0, 0)) := (ha4.block _ (Nat.lt_of_lt_of_le hlt3 hb4.size)).trans ((hb4.block _ hlt3).trans HX3.out)
    have hY4 : (w4.alloc (.cells #[.int .i64 x, .int .i64 y] 29)).heap[w4.heap.size]? = some (.cells #[.int .i64 x, .int .i64 y] 29 (0, 0)) := heap_alloc_new _ _
    have q0 := cell_of_row _ _ 0 _ _ _ hX4
    have q1 := cell_of_row _ _ 1 _ _ _ hX4
    have r0 := cell_of_row _ _ 0 _ _ _ hY4
    have r1 := cell_of_row _ _ 1 _ _ _ hY4
    clear hb4 HI3 HB3 HX3 ha4 hX4 hY4
    go_wp2_with fail
    refine (HEq.out _).mono ?_
    rintro e w5 ⟨rfl, hb5⟩
    have HI5 := Lib.hid (HI4.out.below hb5)
    have HB5 := Lib.hid (below_more HB4.out hb5)
    clear hb5 HI4 HB4 q0 q1 r0 r1
    go_wp2_with fail
    refine (toInts_any A zs ca _ (HA.out.below HB5.out) (by omega)).mono ?_
    rintro e w6 ⟨v6, rfl, ho6, hb6⟩
    obtain ⟨A6, c6, rfl, hI6⟩ := ho6.form
    have HI6 := Lib.hid hI6
    have HI5' := Lib.hid (HI5.out.below hb6)
    have HB6 := Lib.hid (below_more HB5.out hb6)
    clear hI6 ho6 hb6 HI5 HB5
    go_wp2_with fail
    refine (eqInts_any A3 A6 zs zs c3 c6 _ HI5'.out HI6.out (by omega)).mono ?_
    rintro e w7 ⟨rfl, n7, rfl⟩
    go_wp2_with fail
    go_ret
    exact ⟨rfl, below_more HB6.out (gDrewN n7)⟩
  · have hli : (1048576 : Int) < (zs.length : Int) := by omega
    clear hI
    go_enter Tryd.func4, Tryd.ntmps4
    go_wp2_with fail
    go_ret
    exact ⟨rfl, Below.refl _ _⟩
end Go.Proofs.YtchpcbbnnbaiaaaDoor
