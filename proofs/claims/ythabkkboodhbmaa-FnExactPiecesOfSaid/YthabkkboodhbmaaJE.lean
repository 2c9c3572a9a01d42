/-
  The draws of chapter 4: pieces and a length; blocks.
-/
import Derived.Test.YthabkkboodhbmaaJD
import Derived.Deep.AppendLies
import Derived.Deep.RegionLaw
namespace Go.Proofs.Ythabkkboodhbmaa
open Go.RowKit

/-- What a draw of pieces and a length leaves. -/
def DrewText (w : World) (e : Ending) (w' : World) : Prop := ∃ (v : Value) (l : List Int) (n : Int), e = .returned (.tuple #[v, .int .i64 n]) ∧ Own w' w.heap.size v l ∧ l.length ≤ 1000 ∧ Below w.heap.size w w'

set_option maxRecDepth 100000 in
set_option maxHeartbeats 1000000 in
theorem drawText (A : Option Addr) (zs : List Int) (c : Nat) (w : World) (hb : Byts w w.heap.size A zs) :
    Calls Try.prog 30 #[.slice A zs.length c] w (DrewText w) := by
  have HC := Lib.hid (Cur.new (c := c) hb 72)
  have HB := Lib.hid (jAlloc1 w (.cells #[.slice A zs.length c, .int .i64 0, .int .u64 0] 72))
  clear hb
  go_enter Try.func30, Try.ntmps30
  go_wp2_with fail
  refine (thing_any w.heap.size 0 _ HC.out (by omega)).mono ?_
  rintro e w1 ⟨s, rfl, hs, hc1, hg1⟩
  have HC1 := Lib.hid hc1
  have HB1 := Lib.hid (jGrown HB.out (by simp) hg1 (Nat.le_refl _))
  have hB1 : w.heap.size < w1.heap.size := by have := hg1.size; simp at this; omega
  clear hc1 hg1 HC HB
  go_wp2_with fail
  refine (sPiecesOf_any s w1).mono ?_
  rintro e w2 ⟨v2, rfl, ho2, hb2⟩
  have hpl := piecesI_len s
  have HC2 := Lib.hid (HC1.out.below hb2)
  have HB2 := Lib.hid (jMore HB1.out hb2)
  have HO2 := Lib.hid ho2
  clear hb2 HC1 HB1
  generalize piecesI s = l at *
  generalize thingB s = tb at *
  rcases ho2.2 with ⟨rfl, hn0⟩ | ⟨g, cap, cur, rfl, hbg, hgc, hle, _⟩
  · obtain rfl : l = [] := List.eq_nil_of_length_eq_zero hn0
    clear ho2 hn0
    go_wp2_with fail
    refine (pick_any w.heap.size _ 9 _ HC2.out (by omega) (by omega)).mono ?_
    rintro e w3 ⟨r, rfl, ⟨hr0, hr1⟩, hc3, hg3⟩
    have hr2 : r ≤ 9 := by omega
    have HB3 := Lib.hid (jGrown HB2.out HB2.out.size hg3 (Nat.le_refl _))
    clear hc3 hg3
    go_wp2_with fail
    go_ret2
    exact ⟨_, [], _, rfl, Own.nil _ _, by simp, HB3.out⟩
  · by_cases hl0 : l.length = 0
    · clear ho2
      have hli : ¬ (0 : Int) < (l.length : Int) := by omega
      have hl3 : l.length ≤ 1000 := by omega
      clear hl0
      go_wp2_with fail
      refine (pick_any w.heap.size _ 9 _ HC2.out (by omega) (by omega)).mono ?_
      rintro e w3 ⟨r, rfl, ⟨hr0, hr1⟩, hc3, hg3⟩
      have hr2 : r ≤ 9 := by omega
      have HB3 := Lib.hid (jGrown HB2.out HB2.out.size hg3 (Nat.le_refl _))
      have HO3 := Lib.hid ((HO2.out.cur hB1 hg3).lower (Nat.le_of_lt hB1))
      clear hc3 hg3
      go_wp2_with fail
      go_ret2
      exact ⟨_, l, _, rfl, HO3.out, hl3, HB3.out⟩
    · clear ho2
      have hli : (0 : Int) < (l.length : Int) := by omega
      go_wp2_with fail
      refine (one_any w.heap.size _ 12 _ HC2.out (by omega) (by omega)).mono ?_
      rintro e w3 ⟨bb, rfl, hc3, hg3⟩
      have HC3 := Lib.hid hc3
      have HB3 := Lib.hid (jGrown HB2.out HB2.out.size hg3 (Nat.le_refl _))
      have HO3 := Lib.hid (HO2.out.cur hB1 hg3)
      have hz3 := hg3.size
      clear hc3 hg3 HC2 HB2 HO2
      cases bb
      · go_wp2_with fail
        refine (pick_any w.heap.size _ 9 _ HC3.out (by omega) (by omega)).mono ?_
        rintro e w4 ⟨r, rfl, ⟨hr0, hr1⟩, hc4, hg4⟩
        have hr2 : r ≤ 9 := by omega
        have HB4 := Lib.hid (jGrown HB3.out HB3.out.size hg4 (Nat.le_refl _))
        have HO4 := Lib.hid ((HO3.out.cur hB1 hg4).lower (Nat.le_of_lt hB1))
        clear hc4 hg4
        go_wp2_with fail
        go_ret2
        exact ⟨_, l, _, rfl, HO4.out, by omega, HB4.out⟩
      · go_wp2_with fail
        refine (among_any w.heap.size _ w3.heap.size 0 3 [-1, 4294967295, 4294967296] _ (HC3.out.grown (World.grownBy_alloc w3 _ none) (fun g e => by cases e)) (by omega) (by have := HC3.out.lt; omega) (by decide) (by decide) (lit_cells w3 [-1, 4294967295, 4294967296] 3)).mono ?_
        rintro e w4 ⟨z, rfl, _, hc4, hg4⟩
        have ho4 := (HO3.out.below (jAlloc1 w3 (.cells #[.int .i64 (-1), .int .i64 4294967295, .int .i64 4294967296] 3))).cur hB1 hg4
        have hst := World.ownsRow.stored ho4 0 (.int .i64 z)
        have hce : ∃ u0, w4.cell? ⟨g, 0, none⟩ = some u0 := ⟨_, (World.ownsRow.cellAt ho4 0 (by omega)).trans (List.getElem?_eq_getElem (by simp; omega))⟩
        obtain ⟨u0, hce⟩ := hce
        have hfz := World.ownsRow.frozenAt ho4 0
        have HO5 : Hid (Own (w4.setCell ⟨g, 0, none⟩ (.int .i64 z)) w1.heap.size (.slice (some ⟨g, 0, none⟩) l.length cap) (l.set 0 z)) := by
          show World.ownsRow _ _ _ _ _ _ _
          rw [List.length_set, List.map_set]; exact hst.1
        have HB4 := Lib.hid (jGrown (HB3.out.alloc (by have := HC3.out.lt; omega) (.cells #[.int .i64 (-1), .int .i64 4294967295, .int .i64 4294967296] 3)) (by have := HC3.out.lt; simp; omega) hg4 (Nat.le_refl _))
        have HB5 : Hid (Below w.heap.size w (w4.setCell ⟨g, 0, none⟩ (.int .i64 z))) := HB4.out.setCell (by show w.heap.size ≤ g; omega) _
        have HC5 := Lib.hid (hc4.grown (jSet w4 ⟨g, 0, none⟩ (.int .i64 z)) (fun k e => by injection e with e; subst e; show w.heap.size < g; omega))
        clear hc4 hg4 ho4 hst
        go_wp2_with fail
        refine (pick_any w.heap.size _ 9 _ HC5.out (by omega) (by omega)).mono ?_
        rintro e w6 ⟨r, rfl, ⟨hr0, hr1⟩, hc6, hg6⟩
        have hr2 : r ≤ 9 := by omega
        have HB6 := Lib.hid (jGrown HB5.out HB5.out.size hg6 (Nat.le_refl _))
        have HO6 := Lib.hid ((HO5.out.cur hB1 hg6).lower (Nat.le_of_lt hB1))
        clear hc6 hg6
        go_wp2_with fail
        go_ret2
        exact ⟨_, l.set 0 z, _, rfl, HO6.out, by rw [List.length_set]; omega, HB6.out⟩

theorem OwnB.cur {w w' : World} {base B : Nat} {v : Value} {L : List (Int × Value × List Int)} (h : OwnB w base v L) (hB : B < base) (hg : w.grownBy w' (some B)) : OwnB w' base v L := by
  refine ⟨World.ownsRow.kept h.1 hg ?_, fun p hp => (h.2.1 p hp).cur hB hg, h.2.2⟩
  cases hv : v.ownBlock with
  | none => exact Or.inl rfl
  | some k =>
    refine Or.inr fun e => ?_
    injection e with e
    have := (World.ownsRow.lt h.1 k hv).1
    omega
theorem cutTI_bd (s : ByteArray) : (cutTI s).length ≤ 3 ∧ ∀ p ∈ cutTI s, 0 ≤ p.1 ∧ p.1 ≤ 96 ∧ p.2.length ≤ 1000 := by
  unfold cutTI
  split
  · rename_i h
    have h2 : s.size ≤ 96 := by simpa [thingB] using h
    have hB := bsL_length s
    refine ⟨by rw [cutI_length, hB]; unfold blkN cntP; omega, fun p hp => ?_⟩
    obtain ⟨k, hk, rfl⟩ := List.mem_iff_getElem.1 hp
    rw [cutI_at]
    refine ⟨Int.natCast_nonneg _, ?_, ?_⟩
    · unfold blockL; simp only; omega
    · rw [zI_length]; unfold blockL; rw [List.length_take, List.length_drop, piecesL_length, hB]; unfold cntP; omega
  · exact ⟨by simp, fun p hp => by cases hp⟩
/-- What a draw of blocks leaves. -/
def DrewBlocks (w : World) (e : Ending) (w' : World) : Prop := ∃ (v : Value) (L : List (Int × Value × List Int)), e = .returned v ∧ OwnB w' w.heap.size v L ∧ L.length ≤ 3 ∧ (∀ p ∈ L, p.2.2.length ≤ 1000) ∧ Below w.heap.size w w'

set_option maxRecDepth 100000 in
set_option maxHeartbeats 1000000 in
theorem drawGlue (A : Option Addr) (zs : List Int) (c : Nat) (w : World) (hb : Byts w w.heap.size A zs) :
    Calls Try.prog 18 #[.slice A zs.length c] w (DrewBlocks w) := by
  have HC := Lib.hid (Cur.new (c := c) hb 72)
  have HB := Lib.hid (jAlloc1 w (.cells #[.slice A zs.length c, .int .i64 0, .int .u64 0] 72))
  clear hb
  go_enter Try.func18, Try.ntmps18
  go_wp2_with fail
  refine (thing_any w.heap.size 0 _ HC.out (by omega)).mono ?_
  rintro e w1 ⟨s, rfl, hs, hc1, hg1⟩
  have HC1 := Lib.hid hc1
  have HB1 := Lib.hid (jGrown HB.out (by simp) hg1 (Nat.le_refl _))
  have hB1 : w.heap.size < w1.heap.size := by have := hg1.size; simp at this; omega
  clear hc1 hg1 HC HB
  go_wp2_with fail
  refine (sCutThing_any s w1).mono ?_
  rintro e w2 ⟨v2, L, rfl, ho2, hbl, hb2⟩
  have HC2 := Lib.hid (HC1.out.below hb2)
  have HB2 := Lib.hid (jMore HB1.out hb2)
  have HO2 := Lib.hid ho2
  obtain ⟨hL3, hLp⟩ := cutTI_bd s
  rw [← hbl] at hL3 hLp
  rw [blks_length] at hL3
  have HLp : Hid (∀ p ∈ L, 0 ≤ p.1 ∧ p.1 ≤ 96 ∧ p.2.2.length ≤ 1000) := fun p hp => hLp (p.1, p.2.2) (List.mem_map.2 ⟨p, hp, rfl⟩)
  clear hb2 HC1 HB1 hLp hbl
  generalize thingB s = tb at *
  rcases ho2.1.2 with ⟨rfl, hn0⟩ | ⟨g, cap, cur, rfl, hbg, hgc, hle, _⟩
  · obtain rfl : L = [] := List.eq_nil_of_length_eq_zero hn0
    clear ho2 hn0
    go_wp2_with fail
    go_ret
    first
      | exact ⟨_, [], rfl, OwnB.nil _ _, by simp, (fun p hp => by cases hp), HB2.out⟩
      | exact ⟨_, rfl, [], OwnB.nil _ _, by simp, (fun p hp => by cases hp), HB2.out⟩
  · by_cases hl0 : L.length = 0
    · clear ho2
      have hli : ¬ (0 : Int) < (L.length : Int) := by omega
      clear hl0
      go_wp2_with fail
      go_ret
      exact ⟨_, L, rfl, HO2.out.lower (Nat.le_of_lt hB1), hL3, (fun p hp => (HLp.out p hp).2.2), HB2.out⟩
    · clear ho2
      have hli : (0 : Int) < (L.length : Int) := by omega
      go_wp2_with fail
      refine (one_any w.heap.size _ 6 _ HC2.out (by omega) (by omega)).mono ?_
      rintro e w3 ⟨bb, rfl, hc3, hg3⟩
      have HC3 := Lib.hid hc3
      have HB3 := Lib.hid (jGrown HB2.out HB2.out.size hg3 (Nat.le_refl _))
      have HO3 := Lib.hid (HO2.out.cur hB1 hg3)
      clear hc3 hg3 HC2 HB2 HO2
      cases bb
      · go_wp2_with fail
        go_ret
        exact ⟨_, L, rfl, HO3.out.lower (Nat.le_of_lt hB1), hL3, (fun p hp => (HLp.out p hp).2.2), HB3.out⟩
      · have h0 : 0 < L.length := by omega
        have hx := HLp.out L[0] (List.getElem_mem h0)
        have hcell : w3.cell? ⟨g, 0, none⟩ = some (.int .i64 L[0].1) := (World.ownsRow.cellAt HO3.out.1 (0 * 2) (by omega)).trans (cellsB_at L 0 h0).1
        have HSt := Lib.hid (fun (w' : World) (h : OwnB w' w1.heap.size (.slice (some ⟨g, 0, none⟩) L.length cap) L) (x : Int) => h.store h0 x)
        have HLs : Hid (∀ x : Int, ∀ p ∈ L.set 0 (x, L[0].2.1, L[0].2.2), p.2.2.length ≤ 1000) := fun x p hp => by
          rcases List.mem_or_eq_of_mem_set hp with hp | rfl
          · exact (HLp.out p hp).2.2
          · exact (HLp.out L[0] (List.getElem_mem h0)).2.2
        have hgl : g < w3.heap.size := World.block_lt_of_cell? _ _ hcell
        have hgB : g ≠ w.heap.size := by omega
        obtain ⟨hx0, hx1, _⟩ := hx
        generalize hL0 : L[0].1 = x0 at *
        clear hL0
        go_wp2_with fail
        go_region_law (first
          | (go_simp; go_at_call 53; refine (pick_any w.heap.size _ 3 w3.drew (HC3.out.below jDrew) (by omega) (by omega)).mono ?_; rintro e w4 ⟨r, rfl, ⟨hr0, hr1⟩, hc4, hg4⟩; have hr2 : r ≤ 3 := (by omega); have hq0 : w4.cell? ⟨g, 0, none⟩ = some (.int .i64 x0) := (World.cell?_of_block (w := w3) (hg4.block g hgl (by intro e; injection e with e; exact hgB e))).trans hcell; have hfz : w4.frozen? ⟨g, 0, none⟩ = false := World.ownsRow.frozenAt (HO3.out.below jDrew |>.cur hB1 hg4).1 0))
        all_goals
          have HO4 := Lib.hid ((HO3.out.below jDrew).cur hB1 hg4)
          have HB4 := Lib.hid (jGrown (jMore HB3.out jDrew) (jMore HB3.out jDrew).size hg4 (Nat.le_refl _))
          clear hc4 hg4
          go_wp2_with fail
          go_ret
          exact ⟨_, L.set 0 (_, L[0].2.1, L[0].2.2), rfl, (HSt.out w4 HO4.out _).1.lower (Nat.le_of_lt hB1), by rw [List.length_set]; exact hL3, HLs.out _, HB4.out.setCell (by show w.heap.size ≤ g; omega) _⟩
end Go.Proofs.Ythabkkboodhbmaa
