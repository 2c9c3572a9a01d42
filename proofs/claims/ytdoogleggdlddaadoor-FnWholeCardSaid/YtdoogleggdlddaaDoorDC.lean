/-
  The draws of chapter 6.
-/
import Derived.Test.YtdoogleggdlddaaDoorJW
import Derived.Test.YtdoogleggdlddaaDoorEX
namespace Go.Proofs.YtdoogleggdlddaaDoor
open Go.RowKit

/-- What a draw of a short block leaves: the block is read wherever the cursor goes. -/
def DrewB (B k : Nat) (w : World) (e : Ending) (w' : World) : Prop := ∃ (A : Option Addr) (l : List Int) (c : Nat), e = .returned (.slice A l.length c) ∧ (∀ w'', w'.grownBy w'' (some B) → Ints w'' A l) ∧ l.length ≤ c ∧ (1 ≤ l.length ∧ l.length ≤ 7) ∧ Cur w' B k ∧ w.grownBy w' (some B)
set_option maxRecDepth 100000 in
set_option maxHeartbeats 1000000 in
theorem short6 (B k : Nat) (w : World) (hcur : Cur w B k) (hk : k ≤ 6871947673) :
    Calls Tryd.prog 37 #[.pointer (some ⟨B, 0, none⟩)] w (DrewB B (k + 2000) w) := by
  have hB := hcur.lt
  have HC := Lib.hid hcur
  clear hcur
  go_enter Tryd.func37, Tryd.ntmps37
  go_wp2_with fail
  refine (blockOf5 B k w HC.out (by omega)).mono ?_
  rintro e w1 ⟨v1, l, rfl, ho1, ⟨hl1, hl8⟩, hc1, hg1⟩
  obtain ⟨A1, c1, rfl, hcap1, _⟩ := gFormC ho1
  have HO1 := Lib.hid ho1
  have HC1 := Lib.hid hc1
  have HG1 := Lib.hid hg1
  clear ho1 hc1 hg1 HC
  go_wp2_with fail
  refine (pick_any B _ 9 _ HC1.out (by omega) (by omega)).mono ?_
  rintro e w2 ⟨r, rfl, ⟨hr0, hr1⟩, hc2, hg2⟩
  have hr9 : r < 9 := by omega
  obtain ⟨m, rfl⟩ := Int.eq_ofNat_of_zero_le hr0
  have HC2 := Lib.hid hc2
  have HG2 := Lib.hid (grownBy_trans HG1.out hg2)
  have HR : Hid (∀ w'', w2.grownBy w'' (some B) → Ints w'' A1 l) := fun w'' hg => by
    obtain ⟨A', c', e', hI'⟩ := ((HO1.out.cur hB hg2).cur hB hg).form
    injection e' with e1
    subst e1
    exact hI'
  clear hc2 hg2 HO1 HC1 HG1 hr0 hr1
  obtain ⟨t, ht⟩ : ∃ t : Nat, min (l.length : Int) (6 + (m : Int) / 8) = t := ⟨(min (l.length : Int) (6 + (m : Int) / 8)).toNat, by omega⟩
  have ht1 : 1 ≤ t ∧ t ≤ 7 ∧ t ≤ l.length := by omega
  have HLs := Lib.hid (gLeast (l.length : Int) (6 + (m : Int) / 8) w2)
  rw [ht] at HLs
  obtain ⟨ht1, ht7, htl⟩ := ht1
  have htk : (l.take t).length = t := by rw [List.length_take]; omega
  have HTk := Lib.hid htk
  have htc : t ≤ c1 := by omega
  clear ht htk
  go_wp2_with (go_at_call 72; refine HLs.out.mono ?_; rintro e w' ⟨rfl, rfl⟩)
  go_ret
  exact ⟨A1, l.take t, c1, by rw [HTk.out]; rfl, fun w'' hg => (HR.out w'' hg).takeZ t, by rw [HTk.out]; exact htc, by rw [HTk.out]; exact ⟨ht1, ht7⟩, HC2.out.mono (by omega), HG2.out⟩

set_option maxRecDepth 100000 in
set_option maxHeartbeats 400000 in
theorem drawExtra6 (A : Option Addr) (zs : List Int) (c : Nat) (w : World) (hb : Byts w w.heap.size A zs) :
    Calls Tryd.prog 22 #[.slice A zs.length c] w fun e w' => ∃ n m : Int, e = .returned (.tuple #[.int .i64 n, .int .i64 m]) ∧ Below w.heap.size w w' := by
  have HC := Lib.hid (Cur.new (c := c) hb 62)
  have HB := Lib.hid (gAlloc w (.cells #[.slice A zs.length c, .int .i64 0, .int .u64 0] 62))
  clear hb
  go_enter Tryd.func22, Tryd.ntmps22
  go_wp2_with fail
  refine (pick_any w.heap.size 0 8 _ HC.out (by omega) (by omega)).mono ?_
  rintro e w1 ⟨r, rfl, ⟨hr0, hr1⟩, hc1, hg1⟩
  have HC1 := Lib.hid hc1
  have HB1 := Lib.hid (gGrown HB.out (by simp) hg1 (Nat.le_refl _))
  clear hc1 hg1
  go_wp2_with fail
  refine (pick_any w.heap.size _ 4 _ HC1.out (by omega) (by omega)).mono ?_
  rintro e w2 ⟨q, rfl, ⟨hq0, hq1⟩, hc2, hg2⟩
  have HB2 := Lib.hid (gGrown HB1.out HB1.out.size hg2 (Nat.le_refl _))
  clear hc2 hg2
  go_wp2_with fail
  go_ret2
  exact ⟨_, _, rfl, HB2.out⟩

set_option maxRecDepth 100000 in
set_option maxHeartbeats 1000000 in
theorem drawRow6 (A : Option Addr) (zs : List Int) (c : Nat) (w : World) (hb : Byts w w.heap.size A zs) :
    Calls Tryd.prog 27 #[.slice A zs.length c] w fun e w' => ∃ n m : Int, e = .returned (.tuple #[.int .i64 n, .int .i64 m]) ∧ Below w.heap.size w w' := by
  have HC := Lib.hid (Cur.new (c := c) hb 62)
  have HB := Lib.hid (gAlloc w (.cells #[.slice A zs.length c, .int .i64 0, .int .u64 0] 62))
  clear hb
  go_enter Tryd.func27, Tryd.ntmps27
  go_wp2_with fail
  refine (pick_any w.heap.size 0 8 _ HC.out (by omega) (by omega)).mono ?_
  rintro e w1 ⟨q, rfl, ⟨hq0, hq1⟩, hc1, hg1⟩
  have HC1 := Lib.hid hc1
  have HB1 := Lib.hid (gGrown HB.out (by simp) hg1 (Nat.le_refl _))
  clear hc1 hg1
  go_wp2_with fail
  refine (pick_any w.heap.size _ 200 _ HC1.out (by omega) (by omega)).mono ?_
  rintro e w5 ⟨r, rfl, ⟨hr0, hr1⟩, hc5, hg5⟩
  have HC5 := Lib.hid hc5
  have hlt5 := hc5.lt
  have HB5 := Lib.hid (gGrown HB1.out HB1.out.size hg5 (Nat.le_refl _))
  have HL := Lib.hid (lit_cells w5 [-1, 0, 999, 1000, r] 3)
  clear hc5 hg5
  go_wp2_with fail
  refine (among_any w.heap.size _ w5.heap.size 0 5 [-1, 0, 999, 1000, r] _ (HC5.out.grown (World.grownBy_alloc _ _ none) (fun g e => by cases e)) (by omega) (by omega) (by simp) (by simp) HL.out).mono ?_
  rintro e w6 ⟨n, rfl, hn, hc6, hg6⟩
  have HB6 := Lib.hid (gGrown (HB5.out.alloc HB5.out.size _) (by have := HB5.out.size; simp; omega) hg6 (Nat.le_refl _))
  clear hc6 hg6 hn
  go_wp2_with fail
  go_ret2
  exact ⟨_, _, rfl, HB6.out⟩

/-- What a draw of a block leaves. -/
def DrewI (w : World) (e : Ending) (w' : World) : Prop := ∃ (A : Option Addr) (l : List Int) (c : Nat), e = .returned (.slice A l.length c) ∧ Ints w' A l ∧ l.length ≤ c ∧ (1 ≤ l.length ∧ l.length ≤ 8) ∧ Below w.heap.size w w'
set_option maxRecDepth 100000 in
set_option maxHeartbeats 400000 in
theorem drawWith6 (A : Option Addr) (zs : List Int) (c : Nat) (w : World) (hb : Byts w w.heap.size A zs) :
    Calls Tryd.prog 7 #[.slice A zs.length c] w (DrewI w) := by
  have HC := Lib.hid (Cur.new (c := c) hb 62)
  have HB := Lib.hid (gAlloc w (.cells #[.slice A zs.length c, .int .i64 0, .int .u64 0] 62))
  clear hb
  go_enter Tryd.func7, Tryd.ntmps7
  go_wp2_with fail
  refine (short6 w.heap.size 0 _ HC.out (by omega)).mono ?_
  rintro e w0 ⟨A0, l, c0, rfl, hI0, hcap0, hl0, hc0, hg0⟩
  have HI0 := Lib.hid hI0
  have HC0 := Lib.hid hc0
  have HB0 := Lib.hid (gGrown HB.out (by simp) hg0 (Nat.le_refl _))
  clear hI0 hc0 hg0
  go_wp2_with fail
  go_ret
  exact ⟨A0, l, c0, rfl, HI0.out _ (World.grownBy.refl _ _), hcap0, ⟨hl0.1, by omega⟩, HB0.out⟩

set_option maxRecDepth 100000 in
set_option maxHeartbeats 1000000 in
theorem drawRaptor6 (A : Option Addr) (zs : List Int) (c : Nat) (w : World) (hb : Byts w w.heap.size A zs) :
    Calls Tryd.prog 19 #[.slice A zs.length c] w fun e w' => ∃ (A' : Option Addr) (l : List Int) (c' : Nat) (n : Int), e = .returned (.tuple #[.slice A' l.length c', .int .i64 n]) ∧ Ints w' A' l ∧ l.length ≤ c' ∧ (1 ≤ l.length ∧ l.length ≤ 8) ∧ Below w.heap.size w w' := by
  have HC := Lib.hid (Cur.new (c := c) hb 62)
  have HB := Lib.hid (gAlloc w (.cells #[.slice A zs.length c, .int .i64 0, .int .u64 0] 62))
  clear hb
  go_enter Tryd.func19, Tryd.ntmps19
  go_wp2_with fail
  refine (short6 w.heap.size 0 _ HC.out (by omega)).mono ?_
  rintro e w0 ⟨A0, l, c0, rfl, hI0, hcap0, hl0, hc0, hg0⟩
  have HI0 := Lib.hid hI0
  have HC0 := Lib.hid hc0
  have HB0 := Lib.hid (gGrown HB.out (by simp) hg0 (Nat.le_refl _))
  clear hI0 hc0 hg0
  go_wp2_with fail
  refine (pick_any w.heap.size _ 200 _ HC0.out (by omega) (by omega)).mono ?_
  rintro e w5 ⟨r, rfl, ⟨hr0, hr1⟩, hc5, hg5⟩
  have HC5 := Lib.hid hc5
  have hlt5 := hc5.lt
  have HG5 := Lib.hid hg5
  have HB5 := Lib.hid (gGrown HB0.out HB0.out.size hg5 (Nat.le_refl _))
  have HL := Lib.hid (lit_cells w5 [-1, 0, 999, 1000, r] 3)
  clear hc5 hg5
  go_wp2_with fail
  refine (among_any w.heap.size _ w5.heap.size 0 5 [-1, 0, 999, 1000, r] _ (HC5.out.grown (World.grownBy_alloc _ _ none) (fun g e => by cases e)) (by omega) (by omega) (by simp) (by simp) HL.out).mono ?_
  rintro e w6 ⟨n, rfl, hn, hc6, hg6⟩
  have HG6 := Lib.hid hg6
  have HB6 := Lib.hid (gGrown (HB5.out.alloc HB5.out.size _) (by have := HB5.out.size; simp; omega) hg6 (Nat.le_refl _))
  clear hc6 hg6 hn
  have HI6 : Hid (Ints w6 A0 l) := HI0.out w6 (grownBy_trans (grownBy_far HG5.out (World.grownBy_alloc _ _ none) (fun g e => by cases e)) HG6.out)
  go_wp2_with fail
  go_ret2
  exact ⟨A0, l, c0, n, rfl, HI6.out, hcap0, ⟨hl0.1, by omega⟩, HB6.out⟩

set_option maxRecDepth 100000 in
set_option maxHeartbeats 1000000 in
theorem drawIs6 (A : Option Addr) (zs : List Int) (c : Nat) (w : World) (hb : Byts w w.heap.size A zs) :
    Calls Tryd.prog 25 #[.slice A zs.length c] w (DrewI w) := by
  have HC := Lib.hid (Cur.new (c := c) hb 62)
  have HB := Lib.hid (gAlloc w (.cells #[.slice A zs.length c, .int .i64 0, .int .u64 0] 62))
  clear hb
  go_enter Tryd.func25, Tryd.ntmps25
  go_wp2_with fail
  refine (short6 w.heap.size 0 _ HC.out (by omega)).mono ?_
  rintro e w0 ⟨A0, l, c0, rfl, hI0, hcap0, hl0, hc0, hg0⟩
  have HI0 := Lib.hid hI0
  have HC0 := Lib.hid hc0
  have HB0 := Lib.hid (gGrown HB.out (by simp) hg0 (Nat.le_refl _))
  clear hI0 hc0 hg0
  have HI00 : Hid (Ints w0 A0 l) := HI0.out _ (World.grownBy.refl _ _)
  have HX := Lib.hid (sWith_any A0 l c0 w0 HI00.out (by omega))
  have hwl := wiI_len l
  have HWl : Hid (wiOkB l = true → 1 ≤ (wiI l).length) := fun h => by
    obtain ⟨B, _, _, _, _, e⟩ := wi_nat h
    rw [e, zI_length, with_length]; omega
  have hlt0 : w.heap.size < w0.heap.size := HC0.out.lt
  generalize wiI l = V at *
  go_wp2_with fail
  refine HX.out.mono ?_
  rintro e w1 ⟨v1, rfl, ho1, hb1⟩
  obtain ⟨A1, c1, rfl, hcap1, _⟩ := gFormC ho1
  have HO1 := Lib.hid ho1
  have HB1 := Lib.hid (below_more HB0.out hb1)
  have HC1 := Lib.hid (HC0.out.below hb1)
  have HG1 := Lib.hid (grownBy_far (B := w.heap.size) (World.grownBy.refl w0 (some w.heap.size)) (gBelowN hb1) (fun g e => by cases e))
  clear ho1 hb1 HX
  generalize wiOkB l = ok at *
  cases ok
  · go_wp2_with fail
    go_ret
    exact ⟨A0, l, c0, rfl, HI0.out w1 HG1.out, hcap0, ⟨hl0.1, by omega⟩, HB1.out⟩
  · have hV1 := HWl.out rfl
    go_wp2_with fail
    refine (one_any w.heap.size _ 3 _ HC1.out (by omega) (by omega)).mono ?_
    rintro e w2 ⟨bb, rfl, hc2, hg2⟩
    have HB2 := Lib.hid (gGrown HB1.out HB1.out.size hg2 (Nat.le_refl _))
    have HI2 := Lib.hid (HI0.out w2 (grownBy_trans HG1.out hg2))
    have HO2 := Lib.hid (HO1.out.cur hlt0 hg2)
    clear hc2 hg2 HO1
    cases bb
    · obtain ⟨A2, c2, e2, _, hI2⟩ := gFormC HO2.out
      injection e2 with e3 _ e4
      subst e3; subst e4
      have HI3 := Lib.hid hI2
      clear hI2
      go_wp2_with fail
      go_ret
      exact ⟨A1, V, c1, rfl, HI3.out, hcap1, ⟨hV1, hwl⟩, HB2.out⟩
    · go_wp2_with fail
      go_ret
      exact ⟨A0, l, c0, rfl, HI2.out, hcap0, ⟨hl0.1, by omega⟩, HB2.out⟩

set_option maxRecDepth 100000 in
set_option maxHeartbeats 400000 in
theorem drawSmall6 (A : Option Addr) (zs : List Int) (c : Nat) (w : World) (hb : Byts w w.heap.size A zs) :
    Calls Tryd.prog 11 #[.slice A zs.length c] w fun e w' => ∃ (n : Int) (v : Value) (l : List Int), e = .returned (.tuple #[.int .i64 n, v]) ∧ Own w' w.heap.size v l ∧ l.length ≤ 41 ∧ Below w.heap.size w w' := by
  have HC := Lib.hid (Cur.new (c := c) hb 62)
  have HB := Lib.hid (gAlloc w (.cells #[.slice A zs.length c, .int .i64 0, .int .u64 0] 62))
  clear hb
  go_enter Tryd.func11, Tryd.ntmps11
  go_wp2_with fail
  refine (pick_any w.heap.size 0 8 _ HC.out (by omega) (by omega)).mono ?_
  rintro e w1 ⟨r, rfl, ⟨hr0, hr1⟩, hc1, hg1⟩
  have HC1 := Lib.hid hc1
  have HB1 := Lib.hid (gGrown HB.out (by simp) hg1 (Nat.le_refl _))
  clear hc1 hg1
  go_wp2_with fail
  refine (nos5_any w.heap.size _ 21 _ HC1.out (by omega) (by omega)).mono ?_
  rintro e w2 ⟨v, N, rfl, ho2, hl2, _, hc2, hg2⟩
  have HO2 := Lib.hid (ho2.lower HB1.out.size)
  have HB2 := Lib.hid (gGrown HB1.out HB1.out.size hg2 (Nat.le_refl _))
  obtain ⟨A2, c2, rfl, _⟩ := ho2.form
  clear hc2 hg2 ho2
  go_wp2_with fail
  go_ret2
  exact ⟨_, _, zI N, rfl, HO2.out, by rw [zI_length]; exact hl2, HB2.out⟩

set_option maxRecDepth 100000 in
set_option maxHeartbeats 2000000 in
theorem drawSolve6 (A : Option Addr) (zs : List Int) (c : Nat) (w : World) (hb : Byts w w.heap.size A zs) :
    Calls Tryd.prog 17 #[.slice A zs.length c] w (DrewNL w) := by
  obtain ⟨i1, hi', hy0, hy1, hy2⟩ := info_parts letInfo
  have HC := Lib.hid (Cur.new (c := c) hb 62)
  have HB := Lib.hid (gAlloc w (.cells #[.slice A zs.length c, .int .i64 0, .int .u64 0] 62))
  clear hb
  go_enter Tryd.func17, Tryd.ntmps17
  go_wp2_with fail
  refine (short6 w.heap.size 0 _ HC.out (by omega)).mono ?_
  rintro e w0 ⟨A0, l, c0, rfl, hI0, hcap0, hl0, hc0, hg0⟩
  have HI0 := Lib.hid hI0
  have HC0 := Lib.hid hc0
  have HB0 := Lib.hid (gGrown HB.out (by simp) hg0 (Nat.le_refl _))
  clear hI0 hc0 hg0
  go_wp2_with fail
  refine (nos5_any w.heap.size _ 14 w0 HC0.out (by omega) (by omega)).mono ?_
  rintro e w1 ⟨v1, N, rfl, ho1, hN41, _, hc1, hg1⟩
  obtain ⟨A1, c1, rfl, hI1⟩ := ho1.form
  rw [zI_length]
  have HI1 := Lib.hid hI1
  have HB1 := Lib.hid (gGrown HB0.out HB0.out.size hg1 (Nat.le_refl _))
  have HA1 := Lib.hid (HI0.out w1 hg1)
  clear ho1 hI1 hc1 hg1 HC HC0 HI0
  go_wp2_with fail
  go_loopg [6, 19] N.length (fun gk v i wr => ∃ (j : Nat) (L : List (Int × Int)), j + gk = N.length ∧ i = .int .i64 j ∧ OwnLt wr w1.heap.size v L ∧ L.length ≤ j ∧ Below w1.heap.size w1 wr)
  case atStart => exact ⟨0, [], by omega, rfl, OwnLt.nil _ _, by simp, Below.refl _ _⟩
  case round =>
    obtain ⟨j, L, hg, rfl, hown, hLl, hbel⟩ := hrel
    have HO := Lib.hid hown
    have HB := Lib.hid hbel
    have hbs := hbel.size
    clear hown hbel
    by_cases hlt : j < N.length
    · have hji : (j : Int) < (N.length : Int) := by omega
      obtain ⟨b3, o3, rfl, hc3⟩ := (HI1.out.below HB.out).cellN hlt
      generalize N[j] = no at *
      have HLt := Lib.hid (sRaptor_any A0 l c0 (no : Int) wr (HA1.out.below HB.out) (by omega))
      generalize raNoI l (no : Int) = x at *
      generalize raSumI l (no : Int) = y at *
      generalize raOkB l (no : Int) = ok at *
      have HGK : Hid (N.length - j - 1 < gk ∧ j + 1 + (N.length - j - 1) = N.length) := by show _ ∧ _; omega
      go_wp2_with fail
      refine HLt.out.mono ?_
      rintro e w2 ⟨rfl, hb2⟩
      have ha2 := gAlloc w2 (.cells #[.int .i64 x, .int .i64 y] 36)
      have HO2 := Lib.hid ((HO.out.below hb2).below ha2)
      have HB2 := Lib.hid (below_more (below_more HB.out hb2) ha2)
      have hs2 := (below_more (below_more HB.out hb2) ha2).size
      have HOR : Hid ((w2.alloc (.cells #[.int .i64 x, .int .i64 y] 36)).ownsRow w1.heap.size 36 2 u6 L.length (cellsL L)) := HO2.out
      have HNews : Hid (∀ j u, [Value.int .i64 x, .int .i64 y][j]? = some u → ((w2.alloc (.cells #[.int .i64 x, .int .i64 y] 36)).alloc (.cells #[.int .i64 x, .int .i64 y] 36)).cell? ((⟨w2.heap.size + 1, 0, none⟩ : Addr).add j) = some u) := by
        have h := let_news (W := w2.alloc (.cells #[.int .i64 x, .int .i64 y] 36)) (x := x) (y := y)
        rw [show (w2.alloc (.cells #[.int .i64 x, .int .i64 y] 36)).heap.size = w2.heap.size + 1 by simp] at h
        exact h
      clear hb2 ha2 HO HB HLt hg
      cases ok
      · go_wp2_with fail
        go_roundg (N.length - j - 1)
        case measure => exact HGK.out.1
        case rel => exact ⟨j + 1, L, HGK.out.2, by go_num, HO2.out, by omega, HB2.out⟩
      · go_wp2_with (at_builtin; (refine wpList_append_own _ rfl _ _ 34 rfl w1.heap.size 36 i1 (.agg #[.int .i64 0, .int .i64 0]) 2 16 Tryd.underlying34 hi' hy0 hy1 hy2 rfl (by decide) _ _ _ rfl (HOR.out.alloc _) ⟨w2.heap.size + 1, 0, none⟩ 1 1 [.int .i64 x, .int .i64 y] rfl rfl HNews.out let_one ?k3 ?k4 ?k5 ?_))
        case k3 => unfold maxLen; omega
        case k4 => omega
        case k5 => simp at hs2 ⊢; omega
        · intro v3 w3 hown3 hgrow3 _
          have HO3 := Lib.hid (OwnLt.more hown3)
          have HB3 : Hid (Below w1.heap.size w1 w3) := (HB2.out.alloc hs2 _).grown hgrow3 (by simp at hs2 ⊢; omega) (fun g hg => (HO2.out.lt g hg).1)
          clear hown3 hgrow3
          go_wp2_with fail
          go_roundg (N.length - j - 1)
          case measure => exact HGK.out.1
          case rel => exact ⟨j + 1, L ++ [(x, y)], HGK.out.2, by go_num, HO3.out, by rw [List.length_append]; simp; omega, HB3.out⟩
    · obtain rfl : j = N.length := by omega
      have hji : ¬ (N.length : Int) < (N.length : Int) := by omega
      have HBx := Lib.hid (below_more HB1.out HB.out)
      obtain ⟨A3, c3, rfl, _, _⟩ := HO.out.form
      have HO3 := Lib.hid (HO.out.lower HB1.out.size)
      clear hg HB HO
      go_wp2_with fail
      go_ret2
      exact ⟨_, _, L, rfl, HO3.out, by omega, HBx.out⟩
end Go.Proofs.YtdoogleggdlddaaDoor
