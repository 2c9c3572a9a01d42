/-
  D6: The draws of chapter 3: good rows.
  D7: The draws of chapter 3: codes.
  D8: The draws of chapter 3: DrawGoodCode, DrawDualOf, DrawLeastWeight.
  D9: The draws of chapter 3: a code and a number (DrawSyndromeOf, DrawNearest, DrawWordFor).
  D10: The draws of chapter 3: a code and a message (DrawWordFor).
-/
import Derived.Test.YtfkojlpihpgnaaaDoorKB
import Derived.Test.YtfkojlpihpgnaaaDoorD5

/- D6 -/
namespace Go.Proofs.YtfkojlpihpgnaaaDoor
open Go.RowKit

/-- What a draw of a list of good rows leaves. -/
def ListedN (B k m t : Nat) (w : World) (e : Ending) (w' : World) : Prop := ∃ v l, e = .returned v ∧ Own w' w.heap.size v (zI l) ∧ l.length ≤ m ∧ (∀ r ∈ l, r < 2 ^ t) ∧ Cur w' B k ∧ w.grownBy w' (some B)
theorem zI_snoc (l : List Nat) (z : Nat) : zI (l ++ [z]) = zI l ++ [(z : Int)] := by simp [zI]

set_option maxRecDepth 100000 in
set_option maxHeartbeats 1000000 in
theorem goodRows_any (B k t : Nat) (w : World) (hcur : Cur w B k) (hk : k ≤ 68719476736) (ht : t ≤ 16) :
    Calls Tryd.prog 110 #[.pointer (some ⟨B, 0, none⟩), .int .i64 t] w (ListedN B (k + 100) 6 t w) := by
  obtain ⟨i0, hi, hz0, hz1, hz2⟩ := info_parts intInfo
  have hB := hcur.lt
  have HC := Lib.hid hcur
  obtain ⟨hp1, hp2⟩ := pow20 t (by omega)
  have hP : ((2 ^ t : Nat) : Int) = (2 : Int) ^ t := by simp
  have HP := Lib.hid hP
  clear hcur hP
  go_enter Tryd.func110, Tryd.ntmps110
  go_wp2_with fail
  refine (pick_any B k 5 _ HC.out (by omega) (by omega)).mono ?_
  rintro e w1 ⟨n, rfl, ⟨hn0, hn1⟩, hc1, hg1⟩
  have hn2 : n < 5 := by omega
  obtain ⟨n, rfl⟩ := Int.eq_ofNat_of_zero_le hn0
  have HC1 := Lib.hid hc1
  have HG1 := Lib.hid hg1
  clear hc1 hg1 HC hn1 hn0
  go_wp2_with fail
  go_loopw [5, 6] (fun v i wr => ∃ (j : Nat) (l : List Nat), i = .int .i64 j ∧ l.length + j ≤ 6 ∧ (∀ r ∈ l, r < 2 ^ t) ∧ Own wr w.heap.size v (zI l) ∧ Cur wr B (k + 2 + 4 * l.length) ∧ w.grownBy wr (some B)) (fun _ i _ => (intOf i).toNat)
  case atStart => exact ⟨1 + n, [], by go_num, by simp; omega, (fun r hr => by cases hr), Own.nil _ _, HC1.out.mono (by simp), HG1.out⟩
  case round =>
    obtain ⟨j, l, rfl, hlen, hall, hown, hc, hg⟩ := hrel
    have HO := Lib.hid hown
    have HC := Lib.hid hc
    have HG := Lib.hid hg
    have HAll := Lib.hid hall
    clear hown hc hg HC1 HG1 hall
    by_cases hlt : 0 < j
    · go_wp2_with fail
      refine (pick_any B (k + 2 + 4 * l.length) 250 _ HC.out (by omega) (by omega)).mono ?_
      rintro e w1 ⟨a, rfl, ⟨ha0, ha1⟩, hc1, hg1⟩
      have ha2 : a < 250 := by omega
      obtain ⟨a, rfl⟩ := Int.eq_ofNat_of_zero_le ha0
      have HO1 := Lib.hid (HO.out.cur hB hg1)
      have HC1 := Lib.hid hc1
      have HG1 := Lib.hid (grownBy_trans HG.out hg1)
      clear hc1 hg1 HO HC HG ha0 ha1
      go_wp2_with fail
      refine (pick_any B _ 200 _ HC1.out (by omega) (by omega)).mono ?_
      rintro e w2 ⟨b, rfl, ⟨hb0, hb1⟩, hc2, hg2⟩
      have hb2 : b < 200 := by omega
      obtain ⟨b, rfl⟩ := Int.eq_ofNat_of_zero_le hb0
      have HO2 := Lib.hid (HO1.out.cur hB hg2)
      have HC2 := Lib.hid hc2
      have HG2 := Lib.hid (grownBy_trans HG1.out hg2)
      clear hc2 hg2 HO1 HC1 HG1 hb0 hb1
      have HX : Hid (((a : Int) * 257 + (b : Int)) % (2 : Int) ^ t = (((a * 257 + b) % 2 ^ t : Nat) : Int)) := by show _ = _; rw [← HP.out]; push_cast; rfl
      have HZl : Hid ((a * 257 + b) % 2 ^ t < 2 ^ t) := Nat.mod_lt _ (Nat.two_pow_pos t)
      have hdiv : (2 : Int) ^ t ≠ 0 := by omega
      have HOR : Hid (w2.ownsRow w.heap.size 3 1 u5 (zI l).length ((zI l).map (Value.int .i64))) := HO2.out
      have HLl := Lib.hid (zI_length l)
      go_wp2_with (at_builtin; refine wpList_append_own _ rfl _ _ 23 rfl w.heap.size 3 i0 (.int .i64 0) 1 8 Tryd.underlying23 hi hz0 hz1 hz2 rfl (by decide) _ _ _ rfl (HOR.out.alloc _) ⟨w2.heap.size, 0, none⟩ 1 1 [.int .i64 (((a : Int) * 257 + (b : Int)) % (2 : Int) ^ t)] rfl rfl ?c1 ?c2 ?c3 ?c4 ?c5 ?_)
      case c1 =>
        intro j u hj
        match j, hj with
        | 0, hj => simp at hj; subst hj; simp [Addr.add]
      case c2 => intro u hu; simp at hu; subst hu; rfl
      case c3 => rw [HLl.out]; unfold maxLen; omega
      case c4 => rw [HLl.out]; omega
      case c5 => have := HG2.out.size; simp; omega
      · intro v' w3 hown' hgrow _
        have R := appended hB HO2.out HC2.out HG2.out hown' hgrow
        rw [HX.out] at R
        have HR := Lib.hid R
        clear hown' hgrow R HOR HO2 HC2 HG2
        obtain ⟨j, rfl⟩ : ∃ j', j = j' + 1 := ⟨j - 1, by omega⟩
        go_wp2_with fail
        go_roundw
        case rel =>
          refine ⟨j, l ++ [(a * 257 + b) % 2 ^ t], by go_num, by simp; omega, fun r hr => ?_, by rw [zI_snoc]; exact HR.out.1, HR.out.2.1.mono (by simp; omega), HR.out.2.2⟩
          rcases List.mem_append.1 hr with hr | hr
          · exact HAll.out r hr
          · rw [List.mem_singleton] at hr; rw [hr]; exact HZl.out
        case measure => simp [intOf]
    · obtain rfl : j = 0 := by omega
      go_wp2_with fail
      go_ret
      exact ⟨_, l, rfl, HO.out, by omega, HAll.out, HC.out.mono (by omega), HG.out⟩
end Go.Proofs.YtfkojlpihpgnaaaDoor

/- D7 -/
namespace Go.Proofs.YtfkojlpihpgnaaaDoor
open Go.RowKit

theorem own_lit (w : World) (zs : List Int) (h : zs.length ≤ 1000) : Own (w.alloc (.cells (zs.map (Value.int .i64)).toArray 3)) w.heap.size (.slice (some ⟨w.heap.size, 0, none⟩) zs.length zs.length) zs :=
  ⟨by simp, Or.inr ⟨w.heap.size, zs.length, (zs.map (Value.int .i64)).toArray, rfl, Nat.le_refl _, heap_alloc_new _ _, Nat.le_refl _, by unfold maxLen; omega, by simp, by simp; exact List.take_of_length_le (by simp)⟩⟩

/-- What a draw of a code leaves. -/
def Coded (B k : Nat) (w : World) (e : Ending) (w' : World) : Prop := ∃ x v zs, e = .returned (codeV x v) ∧ Own w' w.heap.size v zs ∧ zs.length ≤ 1000 ∧ Cur w' B k ∧ w.grownBy w' (some B)

theorem code_end {w w2 : World} {B k : Nat} {x : Int} {v : Value} {zs : List Int} (hB : B < w.heap.size) (h2 : w2.heap[w.heap.size]? = some (.cells #[.int .i64 0, .slice none 0 0] 40 (0, 0))) (ho : Own w2 (w.heap.size + 1) v zs) (hc : Cur w2 B k) (hg : w.grownBy w2 (some B)) :
    ((w2.setCell ⟨w.heap.size, 0, none⟩ (.int .i64 x)).setCell ⟨w.heap.size, 1, none⟩ v).heap[w.heap.size]? = some (.cells #[.int .i64 x, v] 40 (0, 0)) ∧
    Own ((w2.setCell ⟨w.heap.size, 0, none⟩ (.int .i64 x)).setCell ⟨w.heap.size, 1, none⟩ v) w.heap.size v zs ∧ Cur ((w2.setCell ⟨w.heap.size, 0, none⟩ (.int .i64 x)).setCell ⟨w.heap.size, 1, none⟩ v) B k ∧
    w.grownBy ((w2.setCell ⟨w.heap.size, 0, none⟩ (.int .i64 x)).setCell ⟨w.heap.size, 1, none⟩ v) (some B) := by
  have g1 := grown_set w2 ⟨w.heap.size, 0, none⟩ (.int .i64 x)
  have g2 := grown_set (w2.setCell ⟨w.heap.size, 0, none⟩ (.int .i64 x)) ⟨w.heap.size, 1, none⟩ v
  refine ⟨heap_setCell_same _ _ 1 _ _ _ (heap_setCell_same _ _ 0 _ _ _ h2), ((ho.cur (Nat.lt_succ_self _) g1).cur (Nat.lt_succ_self _) g2).lower (by omega), ?_, ?_⟩
  · exact (hc.grown g1 (fun g e => by injection e with e; subst e; exact hB)).grown g2 (fun g e => by injection e with e; subst e; exact hB)
  · exact grownBy_far (grownBy_far hg g1 (fun g e => by injection e with e; subst e; exact Nat.le_refl _)) g2 (fun g e => by injection e with e; subst e; exact Nat.le_refl _)

theorem code_lit {w w2 : World} {B k : Nat} {x : Int} (zs : List Int) (hl : zs.length ≤ 1000) (hB : B < w.heap.size) (hs : w.heap.size < w2.heap.size) (h2 : w2.heap[w.heap.size]? = some (.cells #[.int .i64 0, .slice none 0 0] 40 (0, 0))) (hc : Cur w2 B k) (hg : w.grownBy w2 (some B))
    {W : World} (hW : W = ((w2.setCell ⟨w.heap.size, 0, none⟩ (.int .i64 x)).setCell ⟨w.heap.size, 1, none⟩ (.slice (some ⟨w2.heap.size, 0, none⟩) zs.length zs.length)).alloc (.cells (zs.map (Value.int .i64)).toArray 3)) :
    W.heap[w.heap.size]? = some (.cells #[.int .i64 x, .slice (some ⟨w2.heap.size, 0, none⟩) zs.length zs.length] 40 (0, 0)) ∧
    Own W w.heap.size (.slice (some ⟨w2.heap.size, 0, none⟩) zs.length zs.length) zs ∧ Cur W B k ∧ w.grownBy W (some B) := by
  subst hW
  have g1 := grown_set w2 ⟨w.heap.size, 0, none⟩ (.int .i64 x)
  have g2 := grown_set (w2.setCell ⟨w.heap.size, 0, none⟩ (.int .i64 x)) ⟨w.heap.size, 1, none⟩ (.slice (some ⟨w2.heap.size, 0, none⟩) zs.length zs.length)
  have hsz : ((w2.setCell ⟨w.heap.size, 0, none⟩ (.int .i64 x)).setCell ⟨w.heap.size, 1, none⟩ (.slice (some ⟨w2.heap.size, 0, none⟩) zs.length zs.length)).heap.size = w2.heap.size := by simp
  have hO := own_lit ((w2.setCell ⟨w.heap.size, 0, none⟩ (.int .i64 x)).setCell ⟨w.heap.size, 1, none⟩ (.slice (some ⟨w2.heap.size, 0, none⟩) zs.length zs.length)) zs hl
  have hG := grownBy_far (grownBy_far hg g1 (fun g e => by injection e with e; subst e; exact Nat.le_refl _)) g2 (fun g e => by injection e with e; subst e; exact Nat.le_refl _)
  have hC := (hc.grown g1 (fun g e => by injection e with e; subst e; exact hB)).grown g2 (fun g e => by injection e with e; subst e; exact hB)
  refine ⟨(heap_alloc_old _ _ _ (by rw [hsz]; exact hs)).trans (heap_setCell_same _ _ 1 _ _ _ (heap_setCell_same _ _ 0 _ _ _ h2)), ?_, hC.grown (World.grownBy_alloc _ _ none) (fun g e => by cases e), grownBy_far hG (World.grownBy_alloc _ _ none) (fun g e => by cases e)⟩
  rw [hsz] at hO
  exact hO.lower (by omega)

set_option maxRecDepth 100000 in
set_option maxHeartbeats 2000000 in
theorem code3_any (B k : Nat) (w : World) (hcur : Cur w B k) (hk : k ≤ 34359738368) :
    Calls Tryd.prog 74 #[.pointer (some ⟨B, 0, none⟩)] w (Coded B (k + 200) w) := by
  have hB := hcur.lt
  have HC := Lib.hid (hcur.grown (World.grownBy_alloc w (.cells #[.int .i64 0, .slice none 0 0] 40) none) (fun g e => by cases e))
  clear hcur
  go_enter Tryd.func74, Tryd.ntmps74
  go_wp2_with fail
  refine (pick_any B k 6 _ HC.out (by omega) (by omega)).mono ?_
  rintro e w2 ⟨n, rfl, ⟨hn0, hn1⟩, hc2, hg2⟩
  have hs2 : w.heap.size < w2.heap.size := by have := hg2.size; simp at this; omega
  have h2 : w2.heap[w.heap.size]? = some (.cells #[.int .i64 0, .slice none 0 0] 40 (0, 0)) := (hg2.block _ (by simp) (by intro e; injection e with e; omega)).trans (heap_alloc_new _ _)
  have HG2 := Lib.hid (grownBy_trans (World.grownBy_alloc w (.cells #[.int .i64 0, .slice none 0 0] 40) (some B)) hg2)
  have HC2 := Lib.hid hc2
  have H2 := Lib.hid h2
  have hd0 : w2.cell? ⟨w.heap.size, 0, none⟩ = some (.int .i64 0) := cell_of_row _ _ 0 _ _ _ h2
  have hd1 : w2.cell? ⟨w.heap.size, 1, none⟩ = some (.slice none 0 0) := cell_of_row _ _ 1 _ _ _ h2
  have hg0 := frozen_of_row _ _ 0 _ _ h2
  have hg1 := frozen_of_row _ _ 1 _ _ h2
  clear hc2 hg2 HC h2
  by_cases e0 : n = 0
  · subst e0
    clear hn0 hn1
    go_wp2_with fail
    (try simp only [Exit.inBlock, Exit.then])
    obtain ⟨q1, q2, q3, q4⟩ := code_lit (x := 7) [11, 22, 44, 88] (by decide) hB hs2 H2.out HC2.out HG2.out rfl
    refine ret_code rfl w.heap.size 7 _ rfl q1 rfl ?_
    exact ⟨_, _, _, rfl, q2, by decide, q3.mono (by omega), q4⟩
  · by_cases e1 : n = 1
    · subst e1
      clear hn0 hn1 e0
      go_wp2_with fail
      (try simp only [Exit.inBlock, Exit.then])
      obtain ⟨q1, q2, q3, q4⟩ := code_lit (x := 5) [31] (by decide) hB hs2 H2.out HC2.out HG2.out rfl
      refine ret_code rfl w.heap.size 5 _ rfl q1 rfl ?_
      exact ⟨_, _, _, rfl, q2, by decide, q3.mono (by omega), q4⟩
    · by_cases e2 : n = 2
      · subst e2
        clear hn0 hn1 e0 e1
        go_wp2_with fail
        refine (among_any B (k + 2) w2.heap.size 0 2 [3, 7] _ (HC2.out.grown (World.grownBy_alloc w2 _ none) (fun g e => by cases e)) (by omega) (by omega) (by decide) (by decide) (lit_cells w2 [3, 7] 3)).mono ?_
        rintro e w3 ⟨r, rfl, hr, hc3, hg3⟩
        have hz3 := hg3.size
        have hs3 : w.heap.size < w3.heap.size := by simp at hz3; omega
        have h3 : w3.heap[w.heap.size]? = some (.cells #[.int .i64 0, .slice none 0 0] 40 (0, 0)) := (hg3.block _ (by simp; omega) (by intro e; injection e with e; omega)).trans ((heap_alloc_old _ _ _ hs2).trans H2.out)
        have HG3 := Lib.hid (grownBy_trans (grownBy_far HG2.out (World.grownBy_alloc w2 (.cells #[.int .i64 3, .int .i64 7] 3) none) (fun g e => by cases e)) hg3)
        have HC3 := Lib.hid hc3
        have H3 := Lib.hid h3
        have hd0 : w3.cell? ⟨w.heap.size, 0, none⟩ = some (.int .i64 0) := cell_of_row _ _ 0 _ _ _ h3
        have hd1 : w3.cell? ⟨w.heap.size, 1, none⟩ = some (.slice none 0 0) := cell_of_row _ _ 1 _ _ _ h3
        have hg0 := frozen_of_row _ _ 0 _ _ h3
        have hg1 := frozen_of_row _ _ 1 _ _ h3
        clear hc3 hg3 h3 hz3 hr H2 HC2 HG2
        go_wp2_with fail
        (try simp only [Exit.inBlock, Exit.then])
        obtain ⟨q1, q2, q3, q4⟩ := code_lit (x := r) [1, 3, 1] (by decide) hB hs3 H3.out HC3.out HG3.out rfl
        refine ret_code rfl w.heap.size r _ rfl q1 rfl ?_
        exact ⟨_, _, _, rfl, q2, by decide, q3.mono (by omega), q4⟩
      · have e0' : (n == 0) = false := by simp [e0]
        have e1' : (n == 1) = false := by simp [e1]
        have e2' : (n == 2) = false := by simp [e2]
        clear hn0 hn1 e0 e1 e2 hd0 hd1 hg0 hg1
        go_wp2_with fail
        refine (among_any B (k + 2) w2.heap.size 0 5 [2, 4, 6, 8, 10] _ (HC2.out.grown (World.grownBy_alloc w2 _ none) (fun g e => by cases e)) (by omega) (by omega) (by decide) (by decide) (lit_cells w2 [2, 4, 6, 8, 10] 3)).mono ?_
        rintro e w3 ⟨r, rfl, hr, hc3, hg3⟩
        have hz3 := hg3.size
        have hs3 : w.heap.size < w3.heap.size := by simp at hz3; omega
        have h3 : w3.heap[w.heap.size]? = some (.cells #[.int .i64 0, .slice none 0 0] 40 (0, 0)) := (hg3.block _ (by simp; omega) (by intro e; injection e with e; omega)).trans ((heap_alloc_old _ _ _ hs2).trans H2.out)
        have HG3 := Lib.hid (grownBy_trans (grownBy_far HG2.out (World.grownBy_alloc w2 (.cells #[.int .i64 2, .int .i64 4, .int .i64 6, .int .i64 8, .int .i64 10] 3) none) (fun g e => by cases e)) hg3)
        have HC3 := Lib.hid hc3
        have H3 := Lib.hid h3
        obtain ⟨t, rfl, ht⟩ : ∃ t : Nat, r = t ∧ t ≤ 10 := ⟨r.toNat, by simp at hr; omega, by simp at hr; omega⟩
        clear hc3 hg3 h3 hz3 hr H2 HC2 HG2
        go_wp2_with fail
        refine (goodRows_any B (k + 2 + 2) t _ HC3.out (by omega) (by omega)).mono ?_
        rintro e w4 ⟨v4, l, rfl, ho4, hl4, ha4, hc4, hg4⟩
        obtain ⟨A4, c4, rfl, hI4⟩ := ho4.form
        have hz4 := hg4.size
        have h4 : w4.heap[w.heap.size]? = some (.cells #[.int .i64 0, .slice none 0 0] 40 (0, 0)) := (hg4.block _ hs3 (by intro e; injection e with e; omega)).trans H3.out
        have hs4 : w.heap.size < w4.heap.size := by omega
        have HG4 := Lib.hid (grownBy_trans HG3.out hg4)
        have HC4 := Lib.hid hc4
        have H4 := Lib.hid h4
        have HI4 := Lib.hid hI4
        have HA4 : Hid (∀ r ∈ l, r < 65536) := lt16s (by omega) ha4
        rw [zI_length]
        clear hc4 hg4 h4 hI4 ho4 ha4 H3 HC3 HG3 hz4
        go_wp2_with fail
        refine (sSteps A4 l c4 _ HI4.out (by omega) HA4.out).mono ?_
        rintro e w5 ⟨v5, rfl, ho5, hb5⟩
        obtain ⟨A5, c5, rfl, _⟩ := ho5.form
        have h5 : w5.heap[w.heap.size]? = some (.cells #[.int .i64 0, .slice none 0 0] 40 (0, 0)) := (hb5.block _ hs4).trans H4.out
        have hd0 : w5.cell? ⟨w.heap.size, 0, none⟩ = some (.int .i64 0) := cell_of_row _ _ 0 _ _ _ h5
        have hd1 : w5.cell? ⟨w.heap.size, 1, none⟩ = some (.slice none 0 0) := cell_of_row _ _ 1 _ _ _ h5
        have hg0 := frozen_of_row _ _ 0 _ _ h5
        have hg1 := frozen_of_row _ _ 1 _ _ h5
        have hgb : w4.grownBy w5 none := ⟨hb5.os, hb5.tape, hb5.output, hb5.size, fun k hk _ => hb5.block k hk⟩
        have HE := Lib.hid (code_end (x := (t : Int)) hB h5 (ho5.lower (base' := w.heap.size + 1) (by omega)) (HC4.out.below hb5) (grownBy_far HG4.out hgb (fun g e => by cases e)))
        have HL : Hid ((zI (steps l)).length ≤ 1000) := by show _ ≤ _; rw [zI_length]; have := rank_le_length l; unfold rank at this; omega
        clear h5 ho5 hb5 hgb
        go_wp2_with fail
        (try simp only [Exit.inBlock, Exit.then])
        refine ret_code rfl w.heap.size t _ rfl HE.out.1 rfl ?_
        exact ⟨_, _, _, rfl, HE.out.2.1, HL.out, HE.out.2.2.1.mono (by omega), HE.out.2.2.2⟩
end Go.Proofs.YtfkojlpihpgnaaaDoor

/- D8 -/
namespace Go.Proofs.YtfkojlpihpgnaaaDoor
open Go.RowKit

/-- What a draw of a code leaves. -/
def DrewCode (w : World) (e : Ending) (w' : World) : Prop := ∃ x v l, e = .returned (codeV x v) ∧ Own w' w.heap.size v l ∧ l.length ≤ 1000 ∧ Below w.heap.size w w'

/-- A code is stored into its result's cell. -/
theorem code_put {w w2 : World} {x : Int} {v : Value} {zs : List Int} {base : Nat} (h2 : w2.heap[w.heap.size]? = some (.cells #[.int .i64 0, .slice none 0 0] 40 (0, 0))) (ho : Own w2 base v zs) (hbase : w.heap.size < base) (hb : Below w.heap.size w w2) :
    ((w2.setCell ⟨w.heap.size, 0, none⟩ (.int .i64 x)).setCell ⟨w.heap.size, 1, none⟩ v).heap[w.heap.size]? = some (.cells #[.int .i64 x, v] 40 (0, 0)) ∧
    Own ((w2.setCell ⟨w.heap.size, 0, none⟩ (.int .i64 x)).setCell ⟨w.heap.size, 1, none⟩ v) w.heap.size v zs ∧
    Below w.heap.size w ((w2.setCell ⟨w.heap.size, 0, none⟩ (.int .i64 x)).setCell ⟨w.heap.size, 1, none⟩ v) :=
  ⟨heap_setCell_same _ _ 1 _ _ _ (heap_setCell_same _ _ 0 _ _ _ h2), ((ho.cur hbase (grown_set w2 ⟨w.heap.size, 0, none⟩ _)).cur hbase (grown_set _ ⟨w.heap.size, 1, none⟩ _)).lower (Nat.le_of_lt hbase),
    (hb.setCell (p := ⟨w.heap.size, 0, none⟩) (Nat.le_refl _) _).setCell (p := ⟨w.heap.size, 1, none⟩) (Nat.le_refl _) _⟩

set_option maxRecDepth 100000 in
set_option maxHeartbeats 1000000 in
theorem drawCode (A : Option Addr) (zs : List Int) (c : Nat) (w : World) (hb : Byts w w.heap.size A zs) :
    Calls Tryd.prog 85 #[.slice A zs.length c] w (DrewCode w) := by
  have hs0 : (w.alloc (.cells #[.int .i64 0, .slice none 0 0] 40)).heap.size = w.heap.size + 1 := by simp
  have HC := Lib.hid (Cur.new (c := c) (hb.stay (below_alloc1 w (.cells #[.int .i64 0, .slice none 0 0] 40))) 77)
  rw [hs0] at HC
  clear hb
  go_enter Tryd.func85, Tryd.ntmps85
  go_wp2_with fail
  refine (code3_any (w.heap.size + 1) 0 _ HC.out (by omega)).mono ?_
  rintro e w1 ⟨x, v, l, rfl, ho1, hl1, hc1, hg1⟩
  have hs1 : ((w.alloc (.cells #[.int .i64 0, .slice none 0 0] 40)).alloc (.cells #[.slice A zs.length c, .int .i64 0, .int .u64 0] 77)).heap.size = w.heap.size + 2 := by simp
  rw [hs1] at ho1
  have h1 : w1.heap[w.heap.size]? = some (.cells #[.int .i64 0, .slice none 0 0] 40 (0, 0)) :=
    (hg1.block _ (by rw [hs1]; omega) (by intro e; injection e with e; omega)).trans ((heap_alloc_old _ _ _ (by rw [hs0]; omega)).trans (heap_alloc_new _ _))
  have hbl := below_of_grown (below_alloc2 w (.cells #[.int .i64 0, .slice none 0 0] 40) (.cells #[.slice A zs.length c, .int .i64 0, .int .u64 0] 77)) (by rw [hs1]; omega) hg1 (by omega)
  obtain ⟨A2, c2, rfl, _⟩ := ho1.form
  have HE := Lib.hid (code_put (x := x) h1 ho1 (by omega) hbl)
  have hd0 : w1.cell? ⟨w.heap.size, 0, none⟩ = some (.int .i64 0) := cell_of_row _ _ 0 _ _ _ h1
  have hd1 : w1.cell? ⟨w.heap.size, 1, none⟩ = some (.slice none 0 0) := cell_of_row _ _ 1 _ _ _ h1
  have hg0 := frozen_of_row _ _ 0 _ _ h1
  have hg1' := frozen_of_row _ _ 1 _ _ h1
  clear hc1 hg1 ho1 h1 hbl HC hs0 hs1
  go_wp2_with fail
  refine ret_code rfl w.heap.size x _ rfl HE.out.1 rfl ?_
  exact ⟨_, _, l, rfl, HE.out.2.1, hl1, HE.out.2.2⟩

set_option maxRecDepth 100000 in
set_option maxHeartbeats 1000000 in
theorem drawDual (A : Option Addr) (zs : List Int) (c : Nat) (w : World) (hb : Byts w w.heap.size A zs) :
    Calls Tryd.prog 34 #[.slice A zs.length c] w (DrewCode w) := by
  have hs0 : (w.alloc (.cells #[.int .i64 0, .slice none 0 0] 40)).heap.size = w.heap.size + 1 := by simp
  have HD := Lib.hid (drawCode A zs c _ (hb.stay (below_alloc1 w (.cells #[.int .i64 0, .slice none 0 0] 40))))
  clear hb
  go_enter Tryd.func34, Tryd.ntmps34
  go_wp2_with fail
  refine HD.out.mono ?_
  rintro e w1 ⟨x, v, l, rfl, ho1, hl1, hb1⟩
  rw [hs0] at ho1
  have h1 : w1.heap[w.heap.size]? = some (.cells #[.int .i64 0, .slice none 0 0] 40 (0, 0)) := (hb1.block _ (by rw [hs0]; omega)).trans (heap_alloc_new _ _)
  have hbl := below_more (below_alloc1 w (.cells #[.int .i64 0, .slice none 0 0] 40)) hb1
  obtain ⟨A2, c2, rfl, _⟩ := ho1.form
  have HE := Lib.hid (code_put (x := x) h1 ho1 (by omega) hbl)
  have hd0 : w1.cell? ⟨w.heap.size, 0, none⟩ = some (.int .i64 0) := cell_of_row _ _ 0 _ _ _ h1
  have hd1 : w1.cell? ⟨w.heap.size, 1, none⟩ = some (.slice none 0 0) := cell_of_row _ _ 1 _ _ _ h1
  have hg0 := frozen_of_row _ _ 0 _ _ h1
  have hg1' := frozen_of_row _ _ 1 _ _ h1
  clear ho1 h1 hbl hb1 HD hs0
  go_wp2_with fail
  refine ret_code rfl w.heap.size x _ rfl HE.out.1 rfl ?_
  exact ⟨_, _, l, rfl, HE.out.2.1, hl1, HE.out.2.2⟩

set_option maxRecDepth 100000 in
set_option maxHeartbeats 1000000 in
theorem drawLeast (A : Option Addr) (zs : List Int) (c : Nat) (w : World) (hb : Byts w w.heap.size A zs) :
    Calls Tryd.prog 49 #[.slice A zs.length c] w (DrewCode w) := by
  have hs0 : (w.alloc (.cells #[.int .i64 0, .slice none 0 0] 40)).heap.size = w.heap.size + 1 := by simp
  have HD := Lib.hid (drawCode A zs c _ (hb.stay (below_alloc1 w (.cells #[.int .i64 0, .slice none 0 0] 40))))
  clear hb
  go_enter Tryd.func49, Tryd.ntmps49
  go_wp2_with fail
  refine HD.out.mono ?_
  rintro e w1 ⟨x, v, l, rfl, ho1, hl1, hb1⟩
  rw [hs0] at ho1
  have h1 : w1.heap[w.heap.size]? = some (.cells #[.int .i64 0, .slice none 0 0] 40 (0, 0)) := (hb1.block _ (by rw [hs0]; omega)).trans (heap_alloc_new _ _)
  have hbl := below_more (below_alloc1 w (.cells #[.int .i64 0, .slice none 0 0] 40)) hb1
  obtain ⟨A2, c2, rfl, _⟩ := ho1.form
  have HE := Lib.hid (code_put (x := x) h1 ho1 (by omega) hbl)
  have hd0 : w1.cell? ⟨w.heap.size, 0, none⟩ = some (.int .i64 0) := cell_of_row _ _ 0 _ _ _ h1
  have hd1 : w1.cell? ⟨w.heap.size, 1, none⟩ = some (.slice none 0 0) := cell_of_row _ _ 1 _ _ _ h1
  have hg0 := frozen_of_row _ _ 0 _ _ h1
  have hg1' := frozen_of_row _ _ 1 _ _ h1
  clear ho1 h1 hbl hb1 HD hs0
  go_wp2_with fail
  refine ret_code rfl w.heap.size x _ rfl HE.out.1 rfl ?_
  exact ⟨_, _, l, rfl, HE.out.2.1, hl1, HE.out.2.2⟩
end Go.Proofs.YtfkojlpihpgnaaaDoor

/- D9 -/
namespace Go.Proofs.YtfkojlpihpgnaaaDoor
open Go.RowKit

/-- What a draw of a code and a number leaves. -/
def DrewCodeN (w : World) (e : Ending) (w' : World) : Prop := ∃ x v l y, e = .returned (.tuple #[codeV x v, .int .i64 y]) ∧ Own w' w.heap.size v l ∧ l.length ≤ 1000 ∧ Below w.heap.size w w'

theorem ret_codeN {fn : Func} {p u : Tmp} (h : fn.results = #[.cell p 40, .tmp u]) {R : Ending → World → Prop} {a : Act} {w : World} (g : Nat) (x : Int) (v : Value) (y : Int) (hp : a.tmps.getD p undef = .pointer (some ⟨g, 0, none⟩)) (hu : a.tmps.getD u undef = .int .i64 y)
    (hg : w.heap[g]? = some (.cells #[.int .i64 x, v] 40 (0, 0))) (hd : a.defers = []) (hR : R (.returned (.tuple #[codeV x v, .int .i64 y])) w) : bodyPost Tryd.prog fn R .ret a w := by
  have hp' : a.tmps[p]?.getD undef = .pointer (some ⟨g, 0, none⟩) := by simpa using hp
  have hu' : a.tmps[u]?.getD undef = .int .i64 y := by simpa using hu
  refine bodyPost_ret (v := .tuple #[codeV x v, .int .i64 y]) ?_ hd hR
  rw [results_cell_tmp h]
  simp [hp', hu', asAddr, run_loadVar_row w g 40 40 #[.int .i64 x, v] (0, 0) _ hg Tryd.underlying40 rfl infoCode]

set_option maxRecDepth 100000 in
set_option maxHeartbeats 1000000 in
theorem drawSyn (A : Option Addr) (zs : List Int) (c : Nat) (w : World) (hb : Byts w w.heap.size A zs) :
    Calls Tryd.prog 26 #[.slice A zs.length c] w (DrewCodeN w) := by
  have hs0 : (w.alloc (.cells #[.int .i64 0, .slice none 0 0] 40)).heap.size = w.heap.size + 1 := by simp
  have HC := Lib.hid (Cur.new (c := c) (hb.stay (below_alloc1 w (.cells #[.int .i64 0, .slice none 0 0] 40))) 77)
  rw [hs0] at HC
  clear hb
  go_enter Tryd.func26, Tryd.ntmps26
  go_wp2_with fail
  refine (code3_any (w.heap.size + 1) 0 _ HC.out (by omega)).mono ?_
  rintro e w1 ⟨x, v, l, rfl, ho1, hl1, hc1, hg1⟩
  have hs1 : ((w.alloc (.cells #[.int .i64 0, .slice none 0 0] 40)).alloc (.cells #[.slice A zs.length c, .int .i64 0, .int .u64 0] 77)).heap.size = w.heap.size + 2 := by simp
  rw [hs1] at ho1
  have h1 : w1.heap[w.heap.size]? = some (.cells #[.int .i64 0, .slice none 0 0] 40 (0, 0)) :=
    (hg1.block _ (by rw [hs1]; omega) (by intro e; injection e with e; omega)).trans ((heap_alloc_old _ _ _ (by rw [hs0]; omega)).trans (heap_alloc_new _ _))
  have hbl := below_of_grown (below_alloc2 w (.cells #[.int .i64 0, .slice none 0 0] 40) (.cells #[.slice A zs.length c, .int .i64 0, .int .u64 0] 77)) (by rw [hs1]; omega) hg1 (by omega)
  have hz1 : w.heap.size + 2 ≤ w1.heap.size := by have := hg1.size; rw [hs1] at this; exact this
  obtain ⟨A2, c2, rfl, _⟩ := ho1.form
  have HD1 := Lib.hid ((below_alloc1 w1 (.cells #[.int .i64 x, .slice A2 l.length c2] 40)).block _ (show w.heap.size < w1.heap.size by omega) |>.trans h1)
  have HX1 := Lib.hid (heap_alloc_new w1 (.cells #[.int .i64 x, .slice A2 l.length c2] 40))
  have HO1 := Lib.hid (ho1.below (below_alloc1 w1 (.cells #[.int .i64 x, .slice A2 l.length c2] 40)))
  have HC1 := Lib.hid (hc1.below (below_alloc1 w1 (.cells #[.int .i64 x, .slice A2 l.length c2] 40)))
  have HB1 := Lib.hid (below_more hbl (below_alloc1 w1 (.cells #[.int .i64 x, .slice A2 l.length c2] 40)))
  have hz2 : w1.heap.size < (w1.alloc (.cells #[.int .i64 x, .slice A2 l.length c2] 40)).heap.size := by simp
  clear hc1 hg1 ho1 h1 hbl HC hs0 hs1
  go_wp2_with fail
  generalize w1.alloc (.cells #[.int .i64 x, .slice A2 l.length c2] 40) = W at *
  have hx0 : W.cell? ⟨w1.heap.size, 0, none⟩ = some (.int .i64 x) := cell_of_row _ _ 0 _ _ _ HX1.out
  have hx1 : W.cell? ⟨w1.heap.size, 1, none⟩ = some (.slice A2 l.length c2) := cell_of_row _ _ 1 _ _ _ HX1.out
  have hd0 : W.cell? ⟨w.heap.size, 0, none⟩ = some (.int .i64 0) := cell_of_row _ _ 0 _ _ _ HD1.out
  have hd1 : W.cell? ⟨w.heap.size, 1, none⟩ = some (.slice none 0 0) := cell_of_row _ _ 1 _ _ _ HD1.out
  have hf0 := frozen_of_row _ _ 0 _ _ HD1.out
  have hf1 := frozen_of_row _ _ 1 _ _ HD1.out
  generalize hgg : w.heap.size = g at *
  generalize hgx : w1.heap.size = g1 at *
  have hne : g ≠ g1 := by omega
  have hk : ∀ (w2 : World) (b : Nat), W.drew.grownBy w2 (some (g + 1)) → b ≠ g + 1 → b < W.heap.size → w2.heap[b]? = W.heap[b]? := fun w2 b hg hb hl => hg.block b hl (by intro e; injection e with e; exact hb e)
  have HK := Lib.hid hk
  clear hk
  go_region_held3 (fun w' => w'.cell? ⟨g1, 0, none⟩ = some (.int .i64 x) ∧ w'.cell? ⟨g1, 1, none⟩ = some (.slice A2 l.length c2)) (first | exact ⟨hx0, hx1⟩ | exact ⟨hq0, hq1⟩ | exact ⟨far2 hq0 hne, far2 hq1 hne⟩ | go_keep) (first
    | (go_at_call 75; refine (row_any (g + 1) (0 + 200) x W.drew (HC1.out.below below_drew1) (by omega)).mono ?_; rintro e w2 ⟨r, rfl, hr1, hr2, hc2, hg2⟩; have HX2 := Lib.hid ((HK.out w2 g1 hg2 (by omega) (by omega)).trans HX1.out); have HD2 := Lib.hid ((HK.out w2 g hg2 (by omega) (by omega)).trans HD1.out); have hq0 : w2.cell? ⟨g1, 0, none⟩ = some (.int .i64 x) := cell_of_row _ _ 0 _ _ _ HX2.out; have hq1 : w2.cell? ⟨g1, 1, none⟩ = some (.slice A2 l.length c2) := cell_of_row _ _ 1 _ _ _ HX2.out; have hd0 : w2.cell? ⟨g, 0, none⟩ = some (.int .i64 0) := cell_of_row _ _ 0 _ _ _ HD2.out; have hd1 : w2.cell? ⟨g, 1, none⟩ = some (.slice none 0 0) := cell_of_row _ _ 1 _ _ _ HD2.out; have hf0 := frozen_of_row _ _ 0 _ _ HD2.out; have hf1 := frozen_of_row _ _ 1 _ _ HD2.out))
  all_goals
    subst hgg
    have HE := Lib.hid (code_put (x := x) HD2.out ((HO1.out.below below_drew1).cur (w := W.drew) (w' := w2) (B := w.heap.size + 1) (by omega) hg2) (by omega) (below_of_grown (below_more HB1.out below_drew1) (show w.heap.size ≤ W.heap.size by omega) hg2 (by omega)))
    clear hg2 hc2
    go_wp2_with fail
    refine ret_codeN rfl w.heap.size x _ r rfl rfl HE.out.1 rfl ?_
    exact ⟨_, _, l, _, rfl, HE.out.2.1, hl1, HE.out.2.2⟩

set_option maxRecDepth 100000 in
set_option maxHeartbeats 1000000 in
theorem drawNear (A : Option Addr) (zs : List Int) (c : Nat) (w : World) (hb : Byts w w.heap.size A zs) :
    Calls Tryd.prog 47 #[.slice A zs.length c] w (DrewCodeN w) := by
  have hs0 : (w.alloc (.cells #[.int .i64 0, .slice none 0 0] 40)).heap.size = w.heap.size + 1 := by simp
  have HD := Lib.hid (drawSyn A zs c _ (hb.stay (below_alloc1 w (.cells #[.int .i64 0, .slice none 0 0] 40))))
  clear hb
  go_enter Tryd.func47, Tryd.ntmps47
  go_wp2_with fail
  refine HD.out.mono ?_
  rintro e w1 ⟨x, v, l, y, rfl, ho1, hl1, hb1⟩
  rw [hs0] at ho1
  have h1 : w1.heap[w.heap.size]? = some (.cells #[.int .i64 0, .slice none 0 0] 40 (0, 0)) := (hb1.block _ (by rw [hs0]; omega)).trans (heap_alloc_new _ _)
  have hbl := below_more (below_alloc1 w (.cells #[.int .i64 0, .slice none 0 0] 40)) hb1
  obtain ⟨A2, c2, rfl, _⟩ := ho1.form
  have HE := Lib.hid (code_put (x := x) h1 ho1 (by omega) hbl)
  have hd0 : w1.cell? ⟨w.heap.size, 0, none⟩ = some (.int .i64 0) := cell_of_row _ _ 0 _ _ _ h1
  have hd1 : w1.cell? ⟨w.heap.size, 1, none⟩ = some (.slice none 0 0) := cell_of_row _ _ 1 _ _ _ h1
  have hg0 := frozen_of_row _ _ 0 _ _ h1
  have hg1' := frozen_of_row _ _ 1 _ _ h1
  clear ho1 h1 hbl hb1 HD hs0
  go_wp2_with fail
  refine ret_codeN rfl w.heap.size x _ y rfl rfl HE.out.1 rfl ?_
  exact ⟨_, _, l, _, rfl, HE.out.2.1, hl1, HE.out.2.2⟩

set_option maxRecDepth 100000 in
set_option maxHeartbeats 400000 in
/-- numberOf, with its bound. -/
theorem numberOf_le (A : Option Addr) (B : Nat) (zs : List Int) (c : Nat) (w : World) (hb : Byts w B A zs) (hl : zs.length ≤ 1099511627776) :
    Calls Tryd.prog 44 #[.slice A zs.length c] w fun e w' => ∃ r : Nat, e = .returned (.int .i64 r) ∧ r ≤ 1000003 ∧ w = w' := by
  go_enter Tryd.func44, Tryd.ntmps44
  go_wp2
  go_loop [3, 8] (fun n i => ∃ (k : Nat) (r : Int), k ≤ zs.length ∧ i = .int .i64 k ∧ n = .int .i64 r ∧ 0 ≤ r ∧ r ≤ 1000003) (fun _ i => zs.length - (intOf i).toNat)
  case atStart => exact ⟨0, 0, by omega, rfl, rfl, by omega, by omega⟩
  case round =>
    obtain ⟨k, r, hk, rfl, rfl, hr0, hr1⟩ := hrel
    by_cases hlt : k < zs.length
    · obtain ⟨hz, hcs⟩ := hb
      obtain ⟨b, o, rfl, _, hc⟩ := hcs (by rintro rfl; simp at hlt)
      have hcz := hc k hlt
      rw [show zs.getD k 0 = zs[k] by simp [List.getD, hlt]] at hcz
      obtain ⟨hz1, hz2⟩ := hz zs[k] (List.getElem_mem hlt)
      clear hc hcs hz
      generalize zs[k] = z at *
      go_wp2
      go_round
      case rel => exact ⟨k + 1, _, by omega, by go_num, rfl, by omega, by omega⟩
      case measure => simp [intOf]; omega
    · obtain rfl : k = zs.length := by omega
      go_wp2
      go_ret
      exact ⟨r.toNat, by rw [Int.toNat_of_nonneg hr0]; rfl, by omega, rfl⟩
end Go.Proofs.YtfkojlpihpgnaaaDoor

/- D10 -/
namespace Go.Proofs.YtfkojlpihpgnaaaDoor
open Go.RowKit

set_option maxRecDepth 100000 in
set_option maxHeartbeats 1000000 in
theorem drawWord (A : Option Addr) (zs : List Int) (c : Nat) (w : World) (hb : Byts w w.heap.size A zs) :
    Calls Tryd.prog 41 #[.slice A zs.length c] w (DrewCodeN w) := by
  have hs0 : (w.alloc (.cells #[.int .i64 0, .slice none 0 0] 40)).heap.size = w.heap.size + 1 := by simp
  have HC := Lib.hid (Cur.new (c := c) (hb.stay (below_alloc1 w (.cells #[.int .i64 0, .slice none 0 0] 40))) 77)
  rw [hs0] at HC
  clear hb
  go_enter Tryd.func41, Tryd.ntmps41
  go_wp2_with fail
  refine (code3_any (w.heap.size + 1) 0 _ HC.out (by omega)).mono ?_
  rintro e w1 ⟨x, v, l, rfl, ho1, hl1, hc1, hg1⟩
  have hs1 : ((w.alloc (.cells #[.int .i64 0, .slice none 0 0] 40)).alloc (.cells #[.slice A zs.length c, .int .i64 0, .int .u64 0] 77)).heap.size = w.heap.size + 2 := by simp
  rw [hs1] at ho1
  have h1 : w1.heap[w.heap.size]? = some (.cells #[.int .i64 0, .slice none 0 0] 40 (0, 0)) :=
    (hg1.block _ (by rw [hs1]; omega) (by intro e; injection e with e; omega)).trans ((heap_alloc_old _ _ _ (by rw [hs0]; omega)).trans (heap_alloc_new _ _))
  have hbl := below_of_grown (below_alloc2 w (.cells #[.int .i64 0, .slice none 0 0] 40) (.cells #[.slice A zs.length c, .int .i64 0, .int .u64 0] 77)) (by rw [hs1]; omega) hg1 (by omega)
  have hz1 : w.heap.size + 2 ≤ w1.heap.size := by have := hg1.size; rw [hs1] at this; exact this
  obtain ⟨A2, c2, rfl, _⟩ := ho1.form
  have HD1 := Lib.hid ((below_alloc1 w1 (.cells #[.int .i64 x, .slice A2 l.length c2] 40)).block _ (show w.heap.size < w1.heap.size by omega) |>.trans h1)
  have HX1 := Lib.hid (heap_alloc_new w1 (.cells #[.int .i64 x, .slice A2 l.length c2] 40))
  have HO1 := Lib.hid (ho1.below (below_alloc1 w1 (.cells #[.int .i64 x, .slice A2 l.length c2] 40)))
  have HC1 := Lib.hid (hc1.below (below_alloc1 w1 (.cells #[.int .i64 x, .slice A2 l.length c2] 40)))
  have HB1 := Lib.hid (below_more hbl (below_alloc1 w1 (.cells #[.int .i64 x, .slice A2 l.length c2] 40)))
  have hz2 : w1.heap.size < (w1.alloc (.cells #[.int .i64 x, .slice A2 l.length c2] 40)).heap.size := by simp
  clear hc1 hg1 ho1 h1 hbl HC hs0 hs1
  go_wp2_with fail
  generalize w1.alloc (.cells #[.int .i64 x, .slice A2 l.length c2] 40) = W at *
  have hx0 : W.cell? ⟨w1.heap.size, 0, none⟩ = some (.int .i64 x) := cell_of_row _ _ 0 _ _ _ HX1.out
  have hx1 : W.cell? ⟨w1.heap.size, 1, none⟩ = some (.slice A2 l.length c2) := cell_of_row _ _ 1 _ _ _ HX1.out
  have hd0 : W.cell? ⟨w.heap.size, 0, none⟩ = some (.int .i64 0) := cell_of_row _ _ 0 _ _ _ HD1.out
  have hd1 : W.cell? ⟨w.heap.size, 1, none⟩ = some (.slice none 0 0) := cell_of_row _ _ 1 _ _ _ HD1.out
  have hf0 := frozen_of_row _ _ 0 _ _ HD1.out
  have hf1 := frozen_of_row _ _ 1 _ _ HD1.out
  generalize hgg : w.heap.size = g at *
  generalize hgx : w1.heap.size = g1 at *
  have hne : g ≠ g1 := by omega
  have hk : ∀ (w2 : World) (b : Nat), W.drew.grownBy w2 (some (g + 1)) → b ≠ g + 1 → b < W.heap.size → w2.heap[b]? = W.heap[b]? := fun w2 b hg hb hl => hg.block b hl (by intro e; injection e with e; exact hb e)
  have HK := Lib.hid hk
  clear hk
  have HLs := Lib.hid (fun w => sLeast 6 l.length w)
  have hmin : min 6 l.length ≤ 6 := Nat.min_le_left _ _
  generalize min 6 l.length = t at *
  obtain ⟨hp1, hp2⟩ := pow20 t (by omega)
  have HSh : Hid (IntKind.i64.wrap (2 ^ min (IntKind.u64.wrap (t : Int)).toNat 64) = (2 : Int) ^ t) := by
    show _ = _
    clear HLs
    rcases (show t = 0 ∨ t = 1 ∨ t = 2 ∨ t = 3 ∨ t = 4 ∨ t = 5 ∨ t = 6 by omega) with rfl | rfl | rfl | rfl | rfl | rfl | rfl <;> decide
  clear hd0 hd1 hf0 hf1
  go_region_held3 (fun w' => w'.cell? ⟨g1, 0, none⟩ = some (.int .i64 x) ∧ w'.cell? ⟨g1, 1, none⟩ = some (.slice A2 l.length c2)) (first | exact ⟨hx0, hx1⟩ | exact ⟨hq0, hq1⟩ | exact ⟨hu0, hu1⟩ | exact ⟨far2 hu0 hne, far2 hu1 hne⟩ | go_keep) (first
    | (go_at_call 90; refine (HLs.out _).mono ?_; rintro e w' ⟨rfl, rfl⟩)
    | (go_at_call 89; refine (pick_any (g + 1) (0 + 200 + 2) 20 w2 hc2 (by omega) (by omega)).mono ?_; rintro e w3 ⟨s, rfl, ⟨hs1, hs2⟩, hc3, hg3⟩; have hs3 : s ≤ 20 := (by omega); have hg3' := grownBy_trans hg2 hg3; have HX3 := Lib.hid ((HK.out w3 g1 hg3' (by omega) (by omega)).trans HX1.out); have HD3 := Lib.hid ((HK.out w3 g hg3' (by omega) (by omega)).trans HD1.out); have hu0 : w3.cell? ⟨g1, 0, none⟩ = some (.int .i64 x) := cell_of_row _ _ 0 _ _ _ HX3.out; have hu1 : w3.cell? ⟨g1, 1, none⟩ = some (.slice A2 l.length c2) := cell_of_row _ _ 1 _ _ _ HX3.out; have hd0 : w3.cell? ⟨g, 0, none⟩ = some (.int .i64 0) := cell_of_row _ _ 0 _ _ _ HD3.out; have hd1 : w3.cell? ⟨g, 1, none⟩ = some (.slice none 0 0) := cell_of_row _ _ 1 _ _ _ HD3.out; have hf0 := frozen_of_row _ _ 0 _ _ HD3.out; have hf1 := frozen_of_row _ _ 1 _ _ HD3.out)
    | (go_at_call 89; rw [HSh.out]; refine (pick_any (g + 1) (0 + 200) ((2 : Int) ^ t) W.drew (HC1.out.below below_drew1) (by omega) (by omega)).mono ?_; rintro e w2 ⟨r, rfl, ⟨hr1, hr2⟩, hc2, hg2⟩; have hr3 : r ≤ 1048576 := (by omega); have HX2 := Lib.hid ((HK.out w2 g1 hg2 (by omega) (by omega)).trans HX1.out); have hq0 : w2.cell? ⟨g1, 0, none⟩ = some (.int .i64 x) := cell_of_row _ _ 0 _ _ _ HX2.out; have hq1 : w2.cell? ⟨g1, 1, none⟩ = some (.slice A2 l.length c2) := cell_of_row _ _ 1 _ _ _ HX2.out))
  all_goals
    subst hgg
    have HE := Lib.hid (code_put (x := x) HD3.out ((HO1.out.below below_drew1).cur (w := W.drew) (w' := w3) (B := w.heap.size + 1) (by omega) hg3') (by omega) (below_of_grown (below_more HB1.out below_drew1) (show w.heap.size ≤ W.heap.size by omega) hg3' (by omega)))
    clear hg2 hc2 hg3 hc3 hg3'
    go_wp2_with fail
    refine ret_codeN rfl w.heap.size x _ _ rfl rfl HE.out.1 rfl ?_
    exact ⟨_, _, l, _, rfl, HE.out.2.1, hl1, HE.out.2.2⟩
end Go.Proofs.YtfkojlpihpgnaaaDoor
