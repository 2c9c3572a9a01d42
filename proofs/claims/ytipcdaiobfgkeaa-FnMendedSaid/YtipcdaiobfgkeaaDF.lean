/-
  The draws of chapter 8.
-/
import Derived.Test.YtipcdaiobfgkeaaKQ
namespace Go.Proofs.Ytipcdaiobfgkeaa
open Go.RowKit

set_option maxRecDepth 100000 in
set_option maxHeartbeats 4000000 in
theorem mixed8 (B k : Nat) (w : World) (hcur : Cur w B k) (hk : k ≤ 68719476736) :
    Calls Try.prog 38 #[.pointer (some ⟨B, 0, none⟩)] w fun e w' => ∃ v zs, ∃ n : Int, e = .returned (.tuple #[v, .int .i64 n]) ∧ Own w' w.heap.size v zs ∧ zs.length ≤ 36 ∧ (0 ≤ n ∧ n ≤ 11) ∧ Cur w' B (k + 1000) ∧ w.grownBy w' (some B) := by
  obtain ⟨i0, hi, hz0, hz1, hz2⟩ := info_parts intInfo
  have hB := hcur.lt
  have HC := Lib.hid hcur
  clear hcur
  go_enter Try.func38, Try.ntmps38
  go_wp2_with fail
  refine (pick_any B k 6 _ HC.out (by omega) (by omega)).mono ?_
  rintro e w1 ⟨p, rfl, ⟨hp0, hp1⟩, hc1, hg1⟩
  obtain ⟨p, rfl⟩ := Int.eq_ofNat_of_zero_le hp0
  have hp5 : p ≤ 5 := by omega
  have HC1 := Lib.hid hc1
  have HG1 := Lib.hid hg1
  clear hc1 hg1 HC hp1 hp0
  go_wp2_with fail
  refine (pick_any B _ 7 _ HC1.out (by omega) (by omega)).mono ?_
  rintro e w2 ⟨q, rfl, ⟨hq0, hq1⟩, hc2, hg2⟩
  obtain ⟨q, rfl⟩ := Int.eq_ofNat_of_zero_le hq0
  have hq6 : q ≤ 6 := by omega
  have HC2 := Lib.hid hc2
  have HG2 := Lib.hid (grownBy_trans HG1.out hg2)
  obtain ⟨hm0, hm1⟩ := mul8_bd (a := p + 1) (b := q) (A := 6) (B := 6) (by omega) hq6
  have hpi : (1 : Int) + (p : Int) = ((p + 1 : Nat) : Int) := by omega
  have hnn : ((p + 1 : Nat) : Int) * (q : Int) = (((p + 1) * q : Nat) : Int) := by simp
  have hn36 : (p + 1) * q ≤ 36 := by omega
  rw [hpi]
  have hpl : (1 : Int) ≤ ((p + 1 : Nat) : Int) ∧ ((p + 1 : Nat) : Int) ≤ 6 := by omega
  clear hc2 hg2 HC1 HG1 hq1 hq0 hpi
  generalize ((p + 1 : Nat) : Int) = ln at *
  generalize (p + 1) * q = n at *
  go_wp2_with fail
  clear hnn hm0 hm1
  go_loopg [5, 6] n (fun gk v i wr => ∃ zs : List Int, i = .int .i64 gk ∧ zs.length + gk = n ∧ Own wr w.heap.size v zs ∧ Cur wr B (k + 4 + 6 * zs.length) ∧ w.grownBy wr (some B))
  case atStart => exact ⟨[], by go_num, by simp, Own.nil _ _, HC2.out.mono (by simp), HG2.out⟩
  case round =>
    obtain ⟨zs, rfl, hlen, hown, hc, hg⟩ := hrel
    have HO := Lib.hid hown
    have HC := Lib.hid hc
    have HG := Lib.hid hg
    clear hown hc hg HC2 HG2
    cases gk with
    | zero =>
      have hz : ¬ (0 : Int) < ((0 : Nat) : Int) := by omega
      by_cases hl0 : 0 < zs.length
      · have h0i : (0 : Int) < (zs.length : Int) := by omega
        rcases HO.out.2 with ⟨_, hn0⟩ | ⟨g, cap, cur, rfl, hbg, hgc, hle, _⟩
        · omega
        have hne : g ≠ B := by omega
        clear hgc hle
        go_wp2_with fail
        refine (one_any B _ 30 _ HC.out (by omega) (by omega)).mono ?_
        rintro e w2 ⟨bb, rfl, hc2, hg2⟩
        have HO2 := Lib.hid (HO.out.cur hB hg2)
        have HC2 := Lib.hid hc2
        have HG2 := Lib.hid (grownBy_trans HG.out hg2)
        clear hc2 hg2 HO HC HG
        cases bb
        · have HOx := HO2
          have HCx := HC2
          have HGx := HG2
          clear HO2 HC2 HG2
          go_wp2_with fail
          refine (one_any B _ 20 _ HCx.out (by omega) (by omega)).mono ?_
          rintro e w5 ⟨bc, rfl, hc5, hg5⟩
          have HO5 := Lib.hid (HOx.out.cur hB hg5)
          have HC5 := Lib.hid hc5
          have HG5 := Lib.hid (grownBy_trans HGx.out hg5)
          have HL5 : Hid (zs.length ≤ 36) := by show _ ≤ _; omega
          clear hc5 hg5 HOx HCx HGx
          cases bc
          · go_wp2_with fail
            go_ret2
            exact ⟨_, zs, _, rfl, HO5.out, HL5.out, by omega, HC5.out.mono (by omega), HG5.out⟩
          · go_wp2_with fail
            refine (pick_any B _ 12 _ HC5.out (by omega) (by omega)).mono ?_
            rintro e w6 ⟨r6, rfl, ⟨hr60, hr61⟩, hc6, hg6⟩
            have hr6b : 0 ≤ r6 ∧ r6 ≤ 11 := by omega
            have HO6 := Lib.hid (HO5.out.cur hB hg6)
            have HC6 := Lib.hid hc6
            have HG6 := Lib.hid (grownBy_trans HG5.out hg6)
            clear hc6 hg6 HO5 HC5 HG5 hr61
            go_wp2_with fail
            go_ret2
            exact ⟨_, zs, _, rfl, HO6.out, HL5.out, hr6b, HC6.out.mono (by omega), HG6.out⟩
        · have HL := Lib.hid (lit_cells w2 [-1, 255, 256] 3)
          have hltB : B < w2.heap.size := HC2.out.lt
          go_wp2_with fail
          refine (among_any B _ w2.heap.size 0 3 [-1, 255, 256] _ (HC2.out.grown (World.grownBy_alloc _ _ none) (fun g e => by cases e)) (by omega) (by omega) (by simp) (by simp) HL.out).mono ?_
          rintro e w3 ⟨y, rfl, _, hc3, hg3⟩
          have hO3 := (HO2.out.below (gAlloc w2 _)).cur hB hg3
          have hG3 : w.grownBy w3 (some B) := grownBy_trans (grownBy_far HG2.out (World.grownBy_alloc _ _ none) (fun g e => by cases e)) hg3
          have hst := World.ownsRow.stored hO3 0 (.int .i64 y)
          have HOx : Hid (Own (w3.setCell ⟨g, 0, none⟩ (.int .i64 y)) w.heap.size (.slice (some ⟨g, 0, none⟩) zs.length cap) (zs.set 0 y)) := by
            show World.ownsRow _ _ _ _ _ _ _
            rw [List.length_set, List.map_set]
            exact hst.1
          have HCx : Hid (Cur (w3.setCell ⟨g, 0, none⟩ (.int .i64 y)) B (k + 300)) := (hc3.mono (by omega)).grown hst.2 (fun g' e => by injection e with e; omega)
          have HGx : Hid (w.grownBy (w3.setCell ⟨g, 0, none⟩ (.int .i64 y)) (some B)) := grownBy_far hG3 hst.2 (fun g' e => by injection e with e; omega)
          obtain ⟨u0, hc0⟩ : ∃ u0, w3.cell? ⟨g, 0, none⟩ = some u0 := ⟨.int .i64 zs[0], by rw [World.ownsRow.cellAt hO3 0 (by omega)]; simp [hl0]⟩
          have hf0 := World.ownsRow.frozenAt hO3 0
          clear hc3 hg3 hO3 hG3 hst HL HO2 HC2 HG2
          go_wp2_with fail
          refine (one_any B _ 20 _ HCx.out (by omega) (by omega)).mono ?_
          rintro e w5 ⟨bc, rfl, hc5, hg5⟩
          have HO5 := Lib.hid (HOx.out.cur hB hg5)
          have HC5 := Lib.hid hc5
          have HG5 := Lib.hid (grownBy_trans HGx.out hg5)
          have HL5 : Hid ((zs.set 0 y).length ≤ 36) := by show _ ≤ _; rw [List.length_set]; omega
          clear hc5 hg5 HOx HCx HGx
          cases bc
          · go_wp2_with fail
            go_ret2
            exact ⟨_, (zs.set 0 y), _, rfl, HO5.out, HL5.out, by omega, HC5.out.mono (by omega), HG5.out⟩
          · go_wp2_with fail
            refine (pick_any B _ 12 _ HC5.out (by omega) (by omega)).mono ?_
            rintro e w6 ⟨r6, rfl, ⟨hr60, hr61⟩, hc6, hg6⟩
            have hr6b : 0 ≤ r6 ∧ r6 ≤ 11 := by omega
            have HO6 := Lib.hid (HO5.out.cur hB hg6)
            have HC6 := Lib.hid hc6
            have HG6 := Lib.hid (grownBy_trans HG5.out hg6)
            clear hc6 hg6 HO5 HC5 HG5 hr61
            go_wp2_with fail
            go_ret2
            exact ⟨_, (zs.set 0 y), _, rfl, HO6.out, HL5.out, hr6b, HC6.out.mono (by omega), HG6.out⟩
      · have h0i : ¬ (0 : Int) < (zs.length : Int) := by omega
        obtain ⟨A3, c3, rfl, _⟩ := HO.out.form
        have HOx := HO
        have HCx := HC
        have HGx := HG
        clear HO HC HG
        go_wp2_with fail
        refine (one_any B _ 20 _ HCx.out (by omega) (by omega)).mono ?_
        rintro e w5 ⟨bc, rfl, hc5, hg5⟩
        have HO5 := Lib.hid (HOx.out.cur hB hg5)
        have HC5 := Lib.hid hc5
        have HG5 := Lib.hid (grownBy_trans HGx.out hg5)
        have HL5 : Hid (zs.length ≤ 36) := by show _ ≤ _; omega
        clear hc5 hg5 HOx HCx HGx
        cases bc
        · go_wp2_with fail
          go_ret2
          exact ⟨_, zs, _, rfl, HO5.out, HL5.out, by omega, HC5.out.mono (by omega), HG5.out⟩
        · go_wp2_with fail
          refine (pick_any B _ 12 _ HC5.out (by omega) (by omega)).mono ?_
          rintro e w6 ⟨r6, rfl, ⟨hr60, hr61⟩, hc6, hg6⟩
          have hr6b : 0 ≤ r6 ∧ r6 ≤ 11 := by omega
          have HO6 := Lib.hid (HO5.out.cur hB hg6)
          have HC6 := Lib.hid hc6
          have HG6 := Lib.hid (grownBy_trans HG5.out hg6)
          clear hc6 hg6 HO5 HC5 HG5 hr61
          go_wp2_with fail
          go_ret2
          exact ⟨_, zs, _, rfl, HO6.out, HL5.out, hr6b, HC6.out.mono (by omega), HG6.out⟩
    | succ j =>
      have hz : (0 : Int) < ((j + 1 : Nat) : Int) := by omega
      go_wp2_with fail
      refine (pick_any B _ 250 _ HC.out (by omega) (by omega)).mono ?_
      rintro e w4 ⟨r, rfl, ⟨hr0, hr1⟩, hc2, hg2⟩
      have HO4 := Lib.hid (HO.out.cur hB hg2)
      have HC4 := Lib.hid hc2
      have HG4 := Lib.hid (grownBy_trans HG.out hg2)
      have hsz := HG4.out.size
      have HOR : Hid (w4.ownsRow w.heap.size 3 1 u5 zs.length (zs.map (Value.int .i64))) := HO4.out
      clear hc2 hg2 HO HC HG hr1
      go_wp2_with (at_builtin; refine wpList_append_own _ rfl _ _ 23 rfl w.heap.size 3 i0 (.int .i64 0) 1 8 Try.underlying23 hi hz0 hz1 hz2 rfl (by decide) _ _ _ rfl (HOR.out.alloc _) ⟨w4.heap.size, 0, none⟩ 1 1 [.int .i64 r] rfl rfl (cell_one_new _ _ _) ?c2 ?c3 ?c4 ?c5 ?_)
      case c2 => intro u hu; simp at hu; subst hu; rfl
      case c3 => unfold maxLen; omega
      case c4 => omega
      case c5 => simp; omega
      · intro v' w5 hown' hgrow _
        have R := appended hB HO4.out HC4.out HG4.out hown' hgrow
        have HR := Lib.hid R
        clear hown' hgrow R HOR HO4 HC4 HG4
        go_wp2_with fail
        go_roundg j
        case measure => omega
        case rel => exact ⟨zs ++ [r], by go_num, by rw [List.length_append]; simp; omega, HR.out.1, HR.out.2.1.mono (by rw [List.length_append]; simp; omega), HR.out.2.2⟩

theorem results_tmp4 {fn : Func} {t u v x : Tmp} (h : fn.results = #[.tmp t, .tmp u, .tmp v, .tmp x]) (tmps : Array Value) (P : Program) (w : World) :
    (results fn tmps).run P w = .ok (.tuple #[tmps.getD t undef, tmps.getD u undef, tmps.getD v undef, tmps.getD x undef]) w := by
  simp [results, h]
/-- What a draw of a list and a number of lines leaves. -/
def Drew8 (w : World) (e : Ending) (w' : World) : Prop := ∃ A zs c, ∃ n : Int, e = .returned (.tuple #[.slice A (List.length zs) c, .int .i64 n]) ∧ Ints w' A zs ∧ zs.length ≤ c ∧ Lies8 A c ∧ zs.length ≤ 36 ∧ (0 ≤ n ∧ n ≤ 11) ∧ Below w.heap.size w w'
theorem own8_lies {w : World} {base : Nat} {v : Value} {zs : List Int} (h : Own w base v zs) : ∃ A c, v = .slice A zs.length c ∧ zs.length ≤ c ∧ Lies8 A c := by
  rcases h.2 with ⟨rfl, hn⟩ | ⟨g, cap, cur, rfl, _, _, hle, _⟩
  · exact ⟨none, 0, by rw [hn], by omega, Or.inl ⟨rfl, rfl⟩⟩
  · exact ⟨_, cap, rfl, hle, Or.inr ⟨g, 0, rfl⟩⟩
set_option maxRecDepth 100000 in
set_option maxHeartbeats 2000000 in
theorem drawMix8 (A : Option Addr) (zs : List Int) (c : Nat) (w : World) (hb : Byts w w.heap.size A zs) :
    Calls Try.prog 12 #[.slice A zs.length c] w (Drew8 w) := by
  have HC := Lib.hid (Cur.new (c := c) hb 54)
  have HB := Lib.hid (gAlloc w (.cells #[.slice A zs.length c, .int .i64 0, .int .u64 0] 54))
  have hs0 : w.heap.size < (w.alloc (.cells #[.slice A zs.length c, .int .i64 0, .int .u64 0] 54)).heap.size := by simp
  clear hb
  go_enter Try.func12, Try.ntmps12
  go_wp2_with fail
  refine (mixed8 w.heap.size 0 _ HC.out (by omega)).mono ?_
  rintro e w0 ⟨v0, l, n, rfl, ho0, hl0, hn0, hc0, hg0⟩
  obtain ⟨A0, c0, rfl, hcap0, hlie0⟩ := own8_lies ho0
  have HO0 := Lib.hid ho0
  have HC0 := Lib.hid hc0
  have HB0 := Lib.hid (gGrown HB.out (by simp) hg0 (Nat.le_refl _))
  clear ho0 hc0 hg0 HC HB
  go_wp2_with fail
  go_ret2
  exact ⟨A0, l, c0, n, rfl, own8_ints HO0.out, hcap0, hlie0, hl0, hn0, HB0.out⟩
set_option maxRecDepth 100000 in
set_option maxHeartbeats 2000000 in
theorem drawPar8 (A : Option Addr) (zs : List Int) (c : Nat) (w : World) (hb : Byts w w.heap.size A zs) :
    Calls Try.prog 30 #[.slice A zs.length c] w (Drew8 w) := by
  have HD := Lib.hid (drawMix8 A zs c w hb)
  clear hb
  go_enter Try.func30, Try.ntmps30
  go_wp2_with fail
  refine HD.out.mono ?_
  rintro e w0 ⟨A0, l, c0, n, rfl, hI0, hcap0, hlie0, hl0, hn0, hb0⟩
  have HI0 := Lib.hid hI0
  have HB0 := Lib.hid hb0
  clear hI0 hb0
  go_wp2_with fail
  go_ret2
  exact ⟨A0, l, c0, n, rfl, HI0.out, hcap0, hlie0, hl0, hn0, HB0.out⟩
set_option maxRecDepth 100000 in
set_option maxHeartbeats 2000000 in
theorem drawSpread8 (A : Option Addr) (zs : List Int) (c : Nat) (w : World) (hb : Byts w w.heap.size A zs) :
    Calls Try.prog 23 #[.slice A zs.length c] w fun e w' => ∃ a n : Int, e = .returned (.tuple #[.int .i64 a, .int .i64 n]) ∧ Below w.heap.size w w' := by
  have HC := Lib.hid (Cur.new (c := c) hb 54)
  have HB := Lib.hid (gAlloc w (.cells #[.slice A zs.length c, .int .i64 0, .int .u64 0] 54))
  have hs0 : w.heap.size < (w.alloc (.cells #[.slice A zs.length c, .int .i64 0, .int .u64 0] 54)).heap.size := by simp
  clear hb
  go_enter Try.func23, Try.ntmps23
  go_wp2_with fail
  refine (mixed8 w.heap.size 0 _ HC.out (by omega)).mono ?_
  rintro e w0 ⟨v0, l, n, rfl, ho0, hl0, hn0, hc0, hg0⟩
  obtain ⟨A0, c0, rfl, hcap0, hlie0⟩ := own8_lies ho0
  have HO0 := Lib.hid ho0
  have HC0 := Lib.hid hc0
  have HB0 := Lib.hid (gGrown HB.out (by simp) hg0 (Nat.le_refl _))
  clear ho0 hc0 hg0 HC HB
  go_wp2_with fail
  go_ret2
  exact ⟨_, _, rfl, HB0.out⟩
set_option maxRecDepth 100000 in
set_option maxHeartbeats 2000000 in
theorem drawPlace8 (A : Option Addr) (zs : List Int) (c : Nat) (w : World) (hb : Byts w w.heap.size A zs) :
    Calls Try.prog 32 #[.slice A zs.length c] w fun e w' => ∃ a n k : Int, e = .returned (.tuple #[.int .i64 a, .int .i64 n, .int .i64 k]) ∧ Below w.heap.size w w' := by
  have HC := Lib.hid (Cur.new (c := c) hb 54)
  have HB := Lib.hid (gAlloc w (.cells #[.slice A zs.length c, .int .i64 0, .int .u64 0] 54))
  have hs0 : w.heap.size < (w.alloc (.cells #[.slice A zs.length c, .int .i64 0, .int .u64 0] 54)).heap.size := by simp
  clear hb
  go_enter Try.func32, Try.ntmps32
  go_wp2_with fail
  refine (mixed8 w.heap.size 0 _ HC.out (by omega)).mono ?_
  rintro e w0 ⟨v0, l, n, rfl, ho0, hl0, hn0, hc0, hg0⟩
  obtain ⟨A0, c0, rfl, hcap0, hlie0⟩ := own8_lies ho0
  have HO0 := Lib.hid ho0
  have HC0 := Lib.hid hc0
  have HB0 := Lib.hid (gGrown HB.out (by simp) hg0 (Nat.le_refl _))
  clear ho0 hc0 hg0 HC HB
  go_wp2_with fail
  refine (pick_any w.heap.size _ _ _ HC0.out (by omega) (by omega)).mono ?_
  rintro e w1 ⟨r, rfl, ⟨hr0, hr1⟩, hc1, hg1⟩
  have HB1 := Lib.hid (gGrown HB0.out HB0.out.size hg1 (Nat.le_refl _))
  clear hc1 hg1 HO0
  have hr2 : r ≤ 100 := by omega
  go_wp2_with fail
  (try simp only [Exit.inBlock, Exit.then])
  refine bodyPost_ret (results_tmp3 rfl _ _ _) rfl ?_
  exact ⟨_, _, _, rfl, HB1.out⟩
set_option maxRecDepth 100000 in
set_option maxHeartbeats 2000000 in
theorem drawLoss8 (A : Option Addr) (zs : List Int) (c : Nat) (w : World) (hb : Byts w w.heap.size A zs) :
    Calls Try.prog 21 #[.slice A zs.length c] w fun e w' => ∃ a n f k : Int, e = .returned (.tuple #[.int .i64 a, .int .i64 n, .int .i64 f, .int .i64 k]) ∧ f ≤ 9223372036854775807 ∧ Below w.heap.size w w' := by
  have HC := Lib.hid (Cur.new (c := c) hb 54)
  have HB := Lib.hid (gAlloc w (.cells #[.slice A zs.length c, .int .i64 0, .int .u64 0] 54))
  have hs0 : w.heap.size < (w.alloc (.cells #[.slice A zs.length c, .int .i64 0, .int .u64 0] 54)).heap.size := by simp
  clear hb
  go_enter Try.func21, Try.ntmps21
  go_wp2_with fail
  refine (mixed8 w.heap.size 0 _ HC.out (by omega)).mono ?_
  rintro e w0 ⟨v0, l, n, rfl, ho0, hl0, hn0, hc0, hg0⟩
  obtain ⟨A0, c0, rfl, hcap0, hlie0⟩ := own8_lies ho0
  have HO0 := Lib.hid ho0
  have HC0 := Lib.hid hc0
  have HB0 := Lib.hid (gGrown HB.out (by simp) hg0 (Nat.le_refl _))
  clear ho0 hc0 hg0 HC HB
  go_wp2_with fail
  refine (pick_any w.heap.size _ _ _ HC0.out (by omega) (by omega)).mono ?_
  rintro e w1 ⟨r, rfl, ⟨hr0, hr1⟩, hc1, hg1⟩
  have HB1 := Lib.hid (gGrown HB0.out HB0.out.size hg1 (Nat.le_refl _))
  have HC1 := Lib.hid hc1
  have hr2 : r ≤ 100 := by omega
  clear hc1 hg1 HO0 HC0 HB0 hr1
  go_wp2_with fail
  refine (pick_any w.heap.size _ 9 _ HC1.out (by omega) (by omega)).mono ?_
  rintro e w2 ⟨q, rfl, ⟨hq0, hq1⟩, hc2, hg2⟩
  have HB2 := Lib.hid (gGrown HB1.out HB1.out.size hg2 (Nat.le_refl _))
  have HC2 := Lib.hid hc2
  have hq2 : 0 ≤ q / 8 ∧ q / 8 ≤ 100 := by omega
  clear hc2 hg2 HC1 HB1 hq1
  go_wp2_with fail
  refine (pick_any w.heap.size _ 8 _ HC2.out (by omega) (by omega)).mono ?_
  rintro e w3 ⟨s, rfl, ⟨hs0', hs1⟩, hc3, hg3⟩
  have HB3 := Lib.hid (gGrown HB2.out HB2.out.size hg3 (Nat.le_refl _))
  clear hc3 hg3 HC2 HB2
  go_wp2_with fail
  (try simp only [Exit.inBlock, Exit.then])
  refine bodyPost_ret (results_tmp4 rfl _ _ _) rfl ?_
  exact ⟨_, _, _, _, rfl, by omega, HB3.out⟩
/-- What a draw for MendLines leaves: the parity is the list's own. -/
def DrewM8 (w : World) (e : Ending) (w' : World) : Prop := ∃ A zs c, ∃ n : Int, ∃ B c2 C ks c3, e = .returned (.tuple #[.slice A (List.length zs) c, .int .i64 n, .slice B (paI zs n).length c2, .slice C (List.length ks) c3]) ∧ Ints w' A zs ∧ Ints w' B (paI zs n) ∧ Ints w' C ks ∧ zs.length ≤ c ∧ (paI zs n).length ≤ c2 ∧ ks.length ≤ c3 ∧ Lies8 A c ∧ Lies8 B c2 ∧ Lies8 C c3 ∧ zs.length ≤ 36 ∧ ks.length ≤ 36 ∧ Below w.heap.size w w'
set_option maxRecDepth 100000 in
set_option maxHeartbeats 4000000 in
theorem drawMend8 (A : Option Addr) (zs : List Int) (c : Nat) (w : World) (hb : Byts w w.heap.size A zs) :
    Calls Try.prog 26 #[.slice A zs.length c] w (DrewM8 w) := by
  obtain ⟨i0, hi, hz0, hz1, hz2⟩ := info_parts intInfo
  have HC := Lib.hid (Cur.new (c := c) hb 54)
  have HB := Lib.hid (gAlloc w (.cells #[.slice A zs.length c, .int .i64 0, .int .u64 0] 54))
  have hs0 : w.heap.size < (w.alloc (.cells #[.slice A zs.length c, .int .i64 0, .int .u64 0] 54)).heap.size := by simp
  clear hb
  go_enter Try.func26, Try.ntmps26
  go_wp2_with fail
  refine (mixed8 w.heap.size 0 _ HC.out (by omega)).mono ?_
  rintro e w0 ⟨v0, l, n, rfl, ho0, hl0, hn0, hc0, hg0⟩
  obtain ⟨A0, c0, rfl, hcap0, hlie0⟩ := own8_lies ho0
  have HO0 := Lib.hid ho0
  have HC0 := Lib.hid hc0
  have HB0 := Lib.hid (gGrown HB.out (by simp) hg0 (Nat.le_refl _))
  clear ho0 hc0 hg0 HC HB
  have HP := Lib.hid (sParityFor_any A0 l c0 n w0 (own8_ints HO0.out) (by omega))
  have hpl := paI_len l n
  obtain ⟨ps, hps⟩ : ∃ ps, paI l n = ps := ⟨_, rfl⟩
  have HPs := Lib.hid hps
  rw [hps] at HP hpl
  clear hps
  generalize list8 l n = ok at *
  go_wp2_with fail
  refine HP.out.mono ?_
  rintro e w2 ⟨v2, rfl, ho2, hb2⟩
  obtain ⟨A2, c2, rfl, hcap2, hlie2⟩ := own8_lies ho2
  have hlt0 : w.heap.size < w0.heap.size := HC0.out.lt
  have HP2 := Lib.hid ho2
  have HI2 := Lib.hid (HO0.out.below hb2)
  have HC2 := Lib.hid (HC0.out.below hb2)
  have HB2 := Lib.hid (below_more HB0.out hb2)
  have hlt2 : w.heap.size < w2.heap.size := HC2.out.lt
  clear ho2 hb2 HP HO0 HC0 HB0
  go_wp2_with fail
  go_loopg [11, 29] l.length (fun gk v i wr => ∃ (j : Nat) (ks : List Int), j + gk = l.length ∧ i = .int .i64 j ∧ Own wr w2.heap.size v ks ∧ ks.length ≤ j ∧ Cur wr w.heap.size (2000 + 2 * j) ∧ w2.grownBy wr (some w.heap.size))
  case atStart => exact ⟨0, [], by omega, rfl, Own.nil _ _, by simp, HC2.out.mono (by omega), World.grownBy.refl _ _⟩
  case round =>
    obtain ⟨j, ks, hg, rfl, hown, hkl, hc, hgr⟩ := hrel
    have HO := Lib.hid hown
    have HC := Lib.hid hc
    have HG := Lib.hid hgr
    clear hown hc hgr
    by_cases hlt : j < l.length
    · have hji : (j : Int) < (l.length : Int) := by omega
      have HGK : Hid (l.length - j - 1 < gk ∧ j + 1 + (l.length - j - 1) = l.length) := by show _ ∧ _; omega
      clear hg
      go_wp2_with fail
      refine (one_any w.heap.size _ 6 _ HC.out (by omega) (by omega)).mono ?_
      rintro e w4 ⟨bb, rfl, hc4, hg4⟩
      have HO4 := Lib.hid (HO.out.cur hlt2 hg4)
      have HC4 := Lib.hid hc4
      have HG4 := Lib.hid (grownBy_trans HG.out hg4)
      have hsz := HG4.out.size
      clear hc4 hg4 HO HC HG
      cases bb
      · go_wp2_with fail
        go_roundg (l.length - j - 1)
        case measure => exact HGK.out.1
        case rel => exact ⟨j + 1, ks, HGK.out.2, by go_num, HO4.out, by omega, HC4.out.mono (by omega), HG4.out⟩
      · have HOR : Hid (w4.ownsRow w2.heap.size 3 1 u11 ks.length (ks.map (Value.int .i64))) := HO4.out
        go_wp2_with (at_builtin; refine wpList_append_own _ rfl _ _ 23 rfl w2.heap.size 3 i0 (.int .i64 0) 1 8 Try.underlying23 hi hz0 hz1 hz2 rfl (by decide) _ _ _ rfl (HOR.out.alloc _) ⟨w4.heap.size, 0, none⟩ 1 1 [.int .i64 (j : Int)] rfl rfl (cell_one_new _ _ _) ?c2 ?c3 ?c4 ?c5 ?_)
        case c2 => intro u hu; simp at hu; subst hu; rfl
        case c3 => unfold maxLen; omega
        case c4 => omega
        case c5 => simp; omega
        · intro v' w5 hown' hgrow _
          have R := appended hlt2 HO4.out HC4.out HG4.out hown' hgrow
          have HR := Lib.hid R
          clear hown' hgrow R HOR HO4 HC4 HG4
          go_wp2_with fail
          go_roundg (l.length - j - 1)
          case measure => exact HGK.out.1
          case rel => exact ⟨j + 1, ks ++ [(j : Int)], HGK.out.2, by go_num, HR.out.1, by rw [List.length_append]; simp; omega, HR.out.2.1.mono (by omega), HR.out.2.2⟩
    · obtain rfl : j = l.length := by omega
      have hji : ¬ (l.length : Int) < (l.length : Int) := by omega
      obtain ⟨A5, c5, rfl, hcap5, hlie5⟩ := own8_lies HO.out
      have HI5 := Lib.hid (own8_ints HO.out)
      have HBg := Lib.hid (gGrown HB2.out HB2.out.size HG.out (Nat.le_refl _))
      have HIl : Hid (Ints wr A0 l) := own8_ints (HI2.out.cur hs0 HG.out)
      have HIp : Hid (Ints wr A2 ps) := own8_ints (HP2.out.cur hlt0 HG.out)
      go_wp2_with fail
      (try simp only [Exit.inBlock, Exit.then])
      refine bodyPost_ret (results_tmp4 rfl _ _ _) rfl ?_
      refine ⟨A0, l, c0, n, A2, c2, A5, ks, c5, ?_, HIl.out, by rw [HPs.out]; exact HIp.out, HI5.out, hcap0, by rw [HPs.out]; exact hcap2, hcap5, hlie0, hlie2, hlie5, hl0, by omega, HBg.out⟩
      rw [HPs.out]
      rfl
end Go.Proofs.Ytipcdaiobfgkeaa
