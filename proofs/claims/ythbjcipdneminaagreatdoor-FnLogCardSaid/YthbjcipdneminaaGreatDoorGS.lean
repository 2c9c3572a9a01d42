/-
  GG: The draws of chapter 10.
  GI: The draws of chapter 10: a log on a disk; DrawSumOf, DrawAppend, DrawReadLog, DrawNextNo, DrawCrashLog.
  GN: The draws of chapter 10: DrawReadLog, DrawNextNo, DrawCrashLog, DrawAppend, DrawSumOf.
-/
import Derived.Test.YthbjcipdneminaaGreatDoorGQ

/- GG -/
namespace Go.Proofs.YthbjcipdneminaaGreatDoor
open Go.RowKit

set_option maxRecDepth 100000 in
set_option maxHeartbeats 4000000 in
theorem drawRecText10 (A : Option Addr) (zs : List Int) (c : Nat) (w : World) (hb : Byts w w.heap.size A zs) :
    Calls Tryz.prog 11 #[.slice A zs.length c] w fun e w' => ∃ r : Rec, e = .returned (reV r) ∧ Below w.heap.size w w' := by
  obtain ⟨W, hW⟩ : ∃ W, w.alloc (.cells #[.int .i64 0, .int .i64 0, .int .i64 0, .int .i64 0] 38) = W := ⟨_, rfl⟩
  have hbW : Below w.heap.size w W := by rw [← hW]; exact gAlloc _ _
  have hsW : W.heap.size = w.heap.size + 1 := by rw [← hW]; simp
  have hRW : W.heap[w.heap.size]? = some (.cells #[.int .i64 0, .int .i64 0, .int .i64 0, .int .i64 0] 38 (0, 0)) := by rw [← hW]; exact heap_alloc_new _ _
  have HC := Lib.hid (Cur.new (c := c) (byts_on9 hb hbW) 61)
  have hbC := gAlloc W (.cells #[.slice A zs.length c, .int .i64 0, .int .u64 0] 61)
  have HB := Lib.hid (below_more hbW hbC)
  have HR := Lib.hid ((hbC.block _ (by omega)).trans hRW)
  clear hb hbW hbC hRW
  have HsW := Lib.hid hsW
  clear hsW
  go_enter Tryz.func11, Tryz.ntmps11
  go_wp2_with fail
  refine (pick_any W.heap.size 0 14 _ HC.out (by omega) (by omega)).mono ?_
  rintro e w1 ⟨x1, rfl, -, hc1, hg1⟩
  have HC1 := Lib.hid hc1
  have HR1 := Lib.hid ((hg1.block _ (heap_lt HR.out) (by intro e; injection e with e; have := HsW.out; omega)).trans HR.out)
  have HB1 := Lib.hid (HB.out.grown hg1 HB.out.size (fun k hk => by injection hk with hk; have := HsW.out; omega))
  clear hc1 hg1 HC HR HB hW
  go_wp2_with fail
  refine (pick_any W.heap.size _ 11 _ HC1.out (by omega) (by omega)).mono ?_
  rintro e w2 ⟨x2, rfl, -, hc2, hg2⟩
  have HC2 := Lib.hid hc2
  have HR2 := Lib.hid ((hg2.block _ (heap_lt HR1.out) (by intro e; injection e with e; have := HsW.out; omega)).trans HR1.out)
  have HB2 := Lib.hid (HB1.out.grown hg2 HB1.out.size (fun k hk => by injection hk with hk; have := HsW.out; omega))
  clear hc2 hg2 HC1 HR1 HB1
  have HLit := Lib.hid (lit_cells w2 [-1, 0, 7, 9999, 10000] 3)
  have hbL := gAlloc w2 (.cells #[.int .i64 (-1), .int .i64 0, .int .i64 7, .int .i64 9999, .int .i64 10000] 3)
  have HCL := Lib.hid (HC2.out.below hbL)
  have HRL := Lib.hid ((hbL.block _ (heap_lt HR2.out)).trans HR2.out)
  have HBL := Lib.hid (below_more HB2.out hbL)
  have hne : w2.heap.size ≠ W.heap.size := Nat.ne_of_gt HC2.out.lt
  clear hbL HC2 HR2 HB2
  go_wp2_with fail
  refine (among_any W.heap.size _ w2.heap.size 0 5 [-1, 0, 7, 9999, 10000] _ HCL.out (by omega) hne (by simp) (by simp) HLit.out).mono ?_
  rintro e w3 ⟨x3, rfl, -, hc3, hg3⟩
  have HC3 := Lib.hid hc3
  have HR3 := Lib.hid ((hg3.block _ (heap_lt HRL.out) (by intro e; injection e with e; have := HsW.out; omega)).trans HRL.out)
  have HB3 := Lib.hid (HBL.out.grown hg3 HBL.out.size (fun k hk => by injection hk with hk; have := HsW.out; omega))
  clear hc3 hg3 HCL HRL HBL HLit hne
  go_wp2_with fail
  refine (pick_any W.heap.size _ 99 _ HC3.out (by omega) (by omega)).mono ?_
  rintro e w4 ⟨x4, rfl, -, hc4, hg4⟩
  have HC4 := Lib.hid hc4
  have HR4 := Lib.hid ((hg4.block _ (heap_lt HR3.out) (by intro e; injection e with e; have := HsW.out; omega)).trans HR3.out)
  have HB4 := Lib.hid (HB3.out.grown hg4 HB3.out.size (fun k hk => by injection hk with hk; have := HsW.out; omega))
  clear hc4 hg4 HC3 HR3 HB3
  have p0 : w4.cell? ⟨w.heap.size, 0, none⟩ = some (.int .i64 0) := cell_of_row _ _ 0 _ _ _ HR4.out
  have p1 : w4.cell? ⟨w.heap.size, 1, none⟩ = some (.int .i64 0) := cell_of_row _ _ 1 _ _ _ HR4.out
  have p2 : w4.cell? ⟨w.heap.size, 2, none⟩ = some (.int .i64 0) := cell_of_row _ _ 2 _ _ _ HR4.out
  have p3 : w4.cell? ⟨w.heap.size, 3, none⟩ = some (.int .i64 0) := cell_of_row _ _ 3 _ _ _ HR4.out
  have f0 := frozen_of_row w4 _ 0 _ _ HR4.out
  have f1 := frozen_of_row w4 _ 1 _ _ HR4.out
  have f2 := frozen_of_row w4 _ 2 _ _ HR4.out
  have f3 := frozen_of_row w4 _ 3 _ _ HR4.out
  go_wp2_with fail
  obtain ⟨hk, hbf⟩ := re_stored (x1, x2, x3, x4) HR4.out rfl HB4.out (Nat.le_refl _)
  exact bodyPost_ret (results_cell_row rfl _ _ w.heap.size 38 _ (0, 0) _ rfl hk Tryz.underlying38 rfl infoRe) rfl ⟨(x1, x2, x3, x4), rfl, hbf⟩
/-- A text with up to two of its bytes spoilt. -/
structure Spo (w w' : World) (B k n : Nat) (s : ByteArray) : Prop where
  size : s.size ≤ n
  cur : Cur w' B k
  grown : w.grownBy w' (some B)
set_option maxRecDepth 100000 in
set_option maxHeartbeats 4000000 in
theorem spoilt10 (B k : Nat) (t q : ByteArray) (w : World) (hcur : Cur w B k) (hk : k ≤ 536870912) (ht : t.size ≤ 1048576) (hq0 : 0 < q.size) (hq : q.size ≤ 1048576) :
    Calls Tryz.prog 45 #[.pointer (some ⟨B, 0, none⟩), .string t, .string q] w fun e w' => ∃ s : ByteArray, e = .returned (.string s) ∧ Spo w w' B (k + 14) (t.size + 2) s := by
  have HC := Lib.hid hcur
  clear hcur
  go_enter Tryz.func45, Tryz.ntmps45
  go_wp2_with fail
  refine (pick_any B k 3 _ HC.out (by omega) (by omega)).mono ?_
  rintro e w1 ⟨n, rfl, hn, hc1, hg1⟩
  have HC1 := Lib.hid hc1
  have HG1 := Lib.hid hg1
  have hn3 : 0 ≤ n ∧ n ≤ 2 := by omega
  clear hc1 hg1 HC hn
  go_wp2_with fail
  obtain ⟨m, rfl⟩ := Int.eq_ofNat_of_zero_le hn3.1
  go_loopg [1, 7] m (fun gk tv nv wr => ∃ u : ByteArray, tv = .string u ∧ nv = .int .i64 (gk : Nat) ∧ gk ≤ 2 ∧ u.size + gk ≤ t.size + 2 ∧ Cur wr B (k + 14 - 6 * gk) ∧ w.grownBy wr (some B))
  case atStart => exact ⟨t, rfl, rfl, by omega, by omega, HC1.out.mono (by omega), HG1.out⟩
  case round =>
    obtain ⟨u, rfl, rfl, hgk, hus, hcr, hgr⟩ := hrel
    have HCr := Lib.hid hcr
    have HGr := Lib.hid hgr
    clear hcr hgr HC1 HG1
    by_cases hz : gk = 0
    · have hzi : ¬ (0 : Int) < (gk : Int) := by omega
      have HCe := Lib.hid (HCr.out.mono (show k + 14 - 6 * gk ≤ k + 14 by omega))
      have HU : Hid (u.size ≤ t.size + 2) := by show _ ≤ _; omega
      clear hus hgk hz hn3
      go_wp2_with fail
      go_ret
      exact ⟨u, rfl, HU.out, HCe.out, HGr.out⟩
    · have hzi : (0 : Int) < (gk : Int) := by omega
      by_cases he : u.size = 0
      · have hei : ¬ (0 : Int) < (u.size : Int) := by omega
        have HCe := Lib.hid (HCr.out.mono (show k + 14 - 6 * gk ≤ k + 14 by omega))
        have HU : Hid (u.size ≤ t.size + 2) := by show _ ≤ _; omega
        clear hus hgk hz hn3 he
        go_wp2_with fail
        go_ret
        exact ⟨u, rfl, HU.out, HCe.out, HGr.out⟩
      · have hei : (0 : Int) < (u.size : Int) := by omega
        go_wp2_with fail
        refine (pick_any B _ _ _ HCr.out (by omega) (by omega)).mono ?_
        rintro e w2 ⟨i, rfl, hi, hc2, hg2⟩
        obtain ⟨i, rfl⟩ := Int.eq_ofNat_of_zero_le hi.1
        have hiu : i < u.size := by omega
        have HC2 := Lib.hid hc2
        have HG2 := Lib.hid (grownBy_trans HGr.out hg2)
        clear hc2 hg2 HCr HGr hi
        go_wp2_with fail
        refine (pick_any B _ _ _ HC2.out (by omega) (by omega)).mono ?_
        rintro e w3 ⟨j, rfl, hj, hc3, hg3⟩
        obtain ⟨j, rfl⟩ := Int.eq_ofNat_of_zero_le hj.1
        have hjq : j < q.size := by omega
        have HC3 := Lib.hid hc3
        have HG3 := Lib.hid (grownBy_trans HG2.out hg3)
        clear hc3 hg3 HC2 HG2 hj
        obtain ⟨d, hd⟩ : ∃ d : Nat, q[j].toNat = d := ⟨_, rfl⟩
        have hji : (j : Int) < (q.size : Int) := by omega
        have hcv := convB (w := w3.alloc (.cells #[.int .u8 (d : Int)] 5)) (g := w3.heap.size) (cap := 1) (T := [d]) (fun i hi => by
          obtain rfl : i = 0 := by simp at hi; omega
          exact cell_of_row _ _ 0 _ _ _ (heap_alloc_new _ _))
        rw [List.length_singleton] at hcv
        have hUs : (strB [d]).size = 1 := by rw [strB_size]; rfl
        have HC4 := Lib.hid (HC3.out.below (gAlloc w3 (.cells #[.int .u8 (d : Int)] 5)))
        have HG4 := Lib.hid (grownBy_trans HG3.out (World.grownBy_alloc w3 (.cells #[.int .u8 (d : Int)] 5) (some B)))
        generalize strB [d] = U at *
        clear HC3 HG3
        go_wp2_with fail
        refine (pick_any B _ 3 _ HC4.out (by omega) (by omega)).mono ?_
        rintro e w5 ⟨r, rfl, hr, hc5, hg5⟩
        have HC5 := Lib.hid (hc5.mono (show k + 14 - 6 * gk + 2 + 2 + 2 ≤ k + 14 - 6 * (gk - 1) by omega))
        have HG5 := Lib.hid (grownBy_trans HG4.out hg5)
        clear hc5 hg5 HC4 HG4 hcv hd
        obtain ⟨g, rfl⟩ : ∃ g, gk = g + 1 := ⟨gk - 1, by omega⟩
        have hi0 : (i : Int) ≤ (u.size : Int) := by omega
        obtain ⟨I, hI⟩ : ∃ I : Nat, i + 1 = I := ⟨_, rfl⟩
        have hiI : (i : Int) + 1 = (I : Int) := by omega
        have hi1 : (I : Int) ≤ (u.size : Int) := by omega
        have hiw : IntKind.i64.wrap ((i : Int) + 1) = (I : Int) := by rw [hiI, IntKind.wrap_i64]; omega
        have hiw2 : IntKind.i64.wrap (I : Int) = (I : Int) := by rw [IntKind.wrap_i64]; omega
        have hjb : ¬ (I : Int) < 0 := by omega
        have hjc : ¬ (u.size : Int) < (I : Int) := by omega
        have hi8 : (I : Int) ≤ 9223372036854775807 := by omega
        have hi9 : (0 : Int) ≤ (I : Int) := by omega
        have he1 : (u.extract 0 i).size = i := by simp; omega
        have he2 : (u.extract i u.size).size = u.size - i := by simp
        have he3 : (u.extract I u.size).size = u.size - I := by simp
        obtain ⟨P1, hP1⟩ : ∃ P, u.extract 0 i = P := ⟨_, rfl⟩
        obtain ⟨P2, hP2⟩ : ∃ P, u.extract i u.size = P := ⟨_, rfl⟩
        obtain ⟨P3, hP3⟩ : ∃ P, u.extract I u.size = P := ⟨_, rfl⟩
        rw [hP1] at he1; rw [hP2] at he2; rw [hP3] at he3
        have hb1 : ¬ 9223372036854775807 < P1.size + U.size := by omega
        have hb2 : ¬ 9223372036854775807 < P1.size + U.size + P2.size := by omega
        have hb3 : ¬ 9223372036854775807 < P1.size + U.size + P3.size := by omega
        have hb4 : ¬ 9223372036854775807 < P1.size + P3.size := by omega
        have HN1 : Hid ((P1 ++ U ++ P2).size + g ≤ t.size + 2 ∧ (P1 ++ U ++ P3).size + g ≤ t.size + 2 ∧ (P1 ++ P3).size + g ≤ t.size + 2 ∧ g ≤ 2) := by
          show _ ∧ _
          simp only [ByteArray.size_append]
          omega
        clear he1 he2 he3 hUs hI
        have hr3 : r = 0 ∨ r = 1 ∨ r = 2 := by omega
        clear hr
        rcases hr3 with rfl | rfl | rfl
        · go_wp2_with fail
          go_region_held3 (fun _ => True) (trivial) (fail)
          go_wp2_with fail
          go_roundg g
          case measure => omega
          case rel => exact ⟨P1 ++ U ++ P2, rfl, by go_num, HN1.out.2.2.2, HN1.out.1, HC5.out.below gDrew, grownBy_trans HG5.out ⟨rfl, rfl, rfl, Nat.le_refl _, fun _ _ _ => rfl⟩⟩
        · go_wp2_with fail
          go_region_held3 (fun _ => True) (trivial) (fail)
          go_wp2_with fail
          go_roundg g
          case measure => omega
          case rel => exact ⟨P1 ++ U ++ P3, rfl, by go_num, HN1.out.2.2.2, HN1.out.2.1, HC5.out.below gDrew, grownBy_trans HG5.out ⟨rfl, rfl, rfl, Nat.le_refl _, fun _ _ _ => rfl⟩⟩
        · go_wp2_with fail
          go_region_held3 (fun _ => True) (trivial) (fail)
          go_wp2_with fail
          go_roundg g
          case measure => omega
          case rel => exact ⟨P1 ++ P3, rfl, by go_num, HN1.out.2.2.2, HN1.out.2.2.1, HC5.out.below gDrew, grownBy_trans HG5.out ⟨rfl, rfl, rfl, Nat.le_refl _, fun _ _ _ => rfl⟩⟩
theorem rtI_size (r : Rec) : (rtI r).size ≤ 16 := by
  unfold rtI; split
  · exact Nat.le_of_eq (txR_size r)
  · exact Nat.zero_le _
set_option maxRecDepth 100000 in
set_option maxHeartbeats 4000000 in
theorem drawReadRec10 (A : Option Addr) (zs : List Int) (c : Nat) (w : World) (hb : Byts w w.heap.size A zs) :
    Calls Tryz.prog 14 #[.slice A zs.length c] w fun e w' => ∃ s : ByteArray, e = .returned (.string s) ∧ s.size ≤ 18 ∧ Below w.heap.size w w' := by
  have HC := Lib.hid (Cur.new (c := c) hb 61)
  have HB := Lib.hid (gAlloc w (.cells #[.slice A zs.length c, .int .i64 0, .int .u64 0] 61))
  clear hb
  go_enter Tryz.func14, Tryz.ntmps14
  go_wp2_with fail
  refine (pick_any w.heap.size 0 12 _ HC.out (by omega) (by omega)).mono ?_
  rintro e w1 ⟨x1, rfl, hx1, hc1, hg1⟩
  have hx1' : 0 ≤ x1 ∧ x1 ≤ 12 := by omega
  clear hx1
  have HC1 := Lib.hid hc1
  have HB1 := Lib.hid (HB.out.grown hg1 HB.out.size (fun k hk => by injection hk with hk; omega))
  clear hc1 hg1 HC HB
  go_wp2_with fail
  refine (pick_any w.heap.size _ 9 _ HC1.out (by omega) (by omega)).mono ?_
  rintro e w2 ⟨x2, rfl, hx2, hc2, hg2⟩
  have hx2' : 0 ≤ x2 ∧ x2 ≤ 9 := by omega
  clear hx2
  have HC2 := Lib.hid hc2
  have HB2 := Lib.hid (HB1.out.grown hg2 HB1.out.size (fun k hk => by injection hk with hk; omega))
  clear hc2 hg2 HC1 HB1
  go_wp2_with fail
  refine (pick_any w.heap.size _ 200 _ HC2.out (by omega) (by omega)).mono ?_
  rintro e w3 ⟨x3, rfl, hx3, hc3, hg3⟩
  have hx3' : 0 ≤ x3 ∧ x3 ≤ 200 := by omega
  clear hx3
  have HC3 := Lib.hid hc3
  have HB3 := Lib.hid (HB2.out.grown hg3 HB2.out.size (fun k hk => by injection hk with hk; omega))
  clear hc3 hg3 HC2 HB2
  go_wp2_with fail
  refine (pick_any w.heap.size _ 99 _ HC3.out (by omega) (by omega)).mono ?_
  rintro e w4 ⟨x4, rfl, hx4, hc4, hg4⟩
  have hx4' : 0 ≤ x4 ∧ x4 ≤ 99 := by omega
  clear hx4
  have HC4 := Lib.hid hc4
  have HB4 := Lib.hid (HB3.out.grown hg4 HB3.out.size (fun k hk => by injection hk with hk; omega))
  clear hc4 hg4 HC3 HB3
  go_wp2_with fail
  refine (sRecText_any (_, _, _, _) w4).mono ?_
  rintro e w5 ⟨rfl, hb5⟩
  generalize hs : rtI _ = s
  have hs16 : s.size ≤ 16 := by rw [← hs]; exact rtI_size _
  have HC5 := Lib.hid (HC4.out.below hb5)
  have HB5 := Lib.hid (below_more HB4.out hb5)
  clear hs hb5 HC4 HB4
  go_wp2_with fail
  refine (one_any w.heap.size _ 3 _ HC5.out (by omega) (by omega)).mono ?_
  rintro e w6 ⟨b, rfl, hc6, hg6⟩
  have HC6 := Lib.hid hc6
  have HB6 := Lib.hid (HB5.out.grown hg6 HB5.out.size (fun k hk => by injection hk with hk; omega))
  clear hc6 hg6 HC5 HB5
  cases b with
  | false =>
    go_wp2_with fail
    go_ret
    exact ⟨s, rfl, by omega, HB6.out⟩
  | true =>
    go_wp2_with fail
    refine (spoilt10 w.heap.size _ s ⟨#[48, 49, 50, 51, 59]⟩ _ HC6.out (by omega) (by omega) (by decide) (by decide)).mono ?_
    rintro e w7 ⟨y, rfl, hy, hc7, hg7⟩
    have HB7 := Lib.hid (HB6.out.grown hg7 HB6.out.size (fun k hk => by injection hk with hk; omega))
    clear hg7 hc7
    go_wp2_with fail
    go_ret
    exact ⟨y, rfl, by omega, HB7.out⟩
end Go.Proofs.YthbjcipdneminaaGreatDoor

/- GI -/
namespace Go.Proofs.YthbjcipdneminaaGreatDoor
open Go.RowKit

/-- The orders of a region that draws meet in frames that differ in what was drawn alone. -/
theorem wp_meet_dk {P : Program} {c : Code} {Q : Exit → Act → World → Prop} {a : Act} {w : World} (R : Nat → Int → Int → Int → Option Addr → Nat → Option Addr → Nat → World → Prop) (A : Nat → Int → Int → Int → Option Addr → Nat → Option Addr → Nat → Act)
    (hreg : c.wp P (fun e a' w' => e = .normal ∧ ∃ Y x4 x5 x6 A7 ca7 E7 ce7, a' = A Y x4 x5 x6 A7 ca7 E7 ce7 ∧ R Y x4 x5 x6 A7 ca7 E7 ce7 w') a w) (himp : ∀ Y x4 x5 x6 A7 ca7 E7 ce7 w', R Y x4 x5 x6 A7 ca7 E7 ce7 w' → Q .normal (A Y x4 x5 x6 A7 ca7 E7 ce7) w') : c.wp P Q a w :=
  Code.wp_mono (fun e a' w' ⟨h1, Y, x4, x5, x6, A7, ca7, E7, ce7, h2, h3⟩ => by rw [h1, h2]; exact himp _ _ _ _ _ _ _ _ _ h3) hreg
theorem box_to {w w' : World} {X : Nat} {o : Obj} (hb : Below w.heap.size w w') (h : w.heap[X]? = some o) : w'.heap[X]? = some o := (hb.block _ (heap_lt h)).trans h
theorem box_by {w w' : World} {B X : Nat} {o : Obj} (hg : w.grownBy w' (some B)) (h : w.heap[X]? = some o) (hn : some X ≠ some B) : w'.heap[X]? = some o := (hg.block _ (heap_lt h) hn).trans h
theorem pick_le {x n : Int} (h : 0 ≤ x ∧ (x < n ∨ x = 0)) (hn : 0 ≤ n) : 0 ≤ x ∧ x ≤ n := ⟨h.1, by omega⟩
theorem ap_good {ss : List ByteArray} {ps : List (Int × ByteArray)} {r : Rec} (h : apOkB ss ps r = true) : goodDB (apS ss ps r) (apP ss ps r) = true := by
  simp only [apOkB, Bool.and_eq_true] at h
  rw [apS, if_pos h.1, apP, if_pos h.1]
  exact good_yes h.2
set_option maxRecDepth 100000 in
set_option maxHeartbeats 8000000 in
theorem logDisk10 (B k : Nat) (w : World) (hcur : Cur w B k) (hk : k ≤ 68719476736) :
    Calls Tryz.prog 27 #[.pointer (some ⟨B, 0, none⟩)] w fun e w' => ∃ v1 v2 ss ps, e = .returned (diskV v1 v2) ∧ OwnD w' w.heap.size v1 v2 ss ps ∧ ss.length = 12 ∧ ps.length ≤ 41 ∧ (∀ s ∈ ss, s.size ≤ 16) ∧ (∀ p ∈ ps, p.2.size ≤ 16) ∧ Cur w' B (k + 100) ∧ w.grownBy w' (some B) := by
  have hB := hcur.lt
  have hR : Hid ((w.alloc (.cells #[.slice none 0 0, .slice none 0 0] 26)).heap[w.heap.size]? = some (.cells #[.slice none 0 0, .slice none 0 0] 26 (0, 0))) := heap_alloc_new _ _
  have HC := Lib.hid (hcur.below (gAlloc w (.cells #[.slice none 0 0, .slice none 0 0] 26)))
  have HG := Lib.hid (World.grownBy_alloc w (.cells #[.slice none 0 0, .slice none 0 0] 26) (some B))
  clear hcur
  go_enter Tryz.func27, Tryz.ntmps27
  go_wp2_with fail
  refine (sNewDisk_E _).mono ?_
  rintro e w1 ⟨v1, v2, ss0, ps0, rfl, ho1, hgd0, hb1⟩
  obtain ⟨A1, B1, c1, d1, rfl, rfl, -⟩ := lies1 ho1
  have HGd := Lib.hid hgd0
  clear hgd0
  obtain ⟨w2, hw2⟩ : ∃ w2, w1.alloc (.cells #[.slice A1 ss0.length c1, .slice B1 ps0.length d1] 26) = w2 := ⟨_, rfl⟩
  have hb2 : Below w1.heap.size w1 w2 := by rw [← hw2]; exact gAlloc _ _
  have hD2 : w2.heap[w1.heap.size]? = some (.cells #[.slice A1 ss0.length c1, .slice B1 ps0.length d1] 26 (0, 0)) := by rw [← hw2]; exact heap_alloc_new _ _
  have hs1 := hb1.size
  rw [World.heap_size_alloc9] at hs1
  have HR2 : Hid (w2.heap[w.heap.size]? = some (.cells #[.slice none 0 0, .slice none 0 0] 26 (0, 0))) := (hb2.block _ (by omega)).trans ((hb1.block _ (by rw [World.heap_size_alloc9]; omega)).trans hR.out)
  have HI2 : Hid (Dk9 w2 B (w.heap.size + 1) w1.heap.size (k + 90 - 10 * 7) (.slice A1 ss0.length c1) (.slice B1 ps0.length d1) ss0 ps0) :=
    ⟨(ho1.below hb2).lower (by rw [World.heap_size_alloc9]; omega), HGd.out, (((HC.out.below hb1).below hb2).mono (show k ≤ k + 90 - 10 * 7 by omega)), fun g hg => Nat.ne_of_lt (ho1.sure.lt g hg).2, fun g hg => Nat.ne_of_lt (ho1.later.lt g hg).2⟩
  have HG2 : Hid (w.grownBy w2 (some B)) := grownBy_trans HG.out (gBelowR (below_more hb1 hb2) _)
  have HD2 := Lib.hid hD2
  have hDn : w.heap.size + 1 ≤ w1.heap.size := hs1
  clear ho1 hb1 hb2 hD2 HC HG hR hs1
  go_wp2_with fail
  go_loopg [4] 7 (fun gk i wr => ∃ v1 v2 ss ps, ∃ K : Nat, i = .int .i64 K ∧ K + gk = 8 ∧ 1 ≤ K ∧ Dk9 wr B (w.heap.size + 1) w1.heap.size (k + 90 - 10 * gk) v1 v2 ss ps ∧ wr.heap[w1.heap.size]? = some (.cells #[v1, v2] 26 (0, 0)) ∧ wr.heap[w.heap.size]? = some (.cells #[.slice none 0 0, .slice none 0 0] 26 (0, 0)) ∧ w.grownBy wr (some B))
  case atStart => exact ⟨_, _, _, _, 1, rfl, rfl, Nat.le_refl _, HI2.out, HD2.out, HR2.out, HG2.out⟩
  case round =>
    obtain ⟨v1, v2, ss, ps, K, rfl, hgk, hK1, hI, hD, hR, hG⟩ := hrel
    obtain ⟨A, E, ca, ce, rfl, rfl, -, -, hlA, hlE⟩ := lies1 hI.own
    have HRn := Lib.hid (show Rnd9 w wr B w.heap.size w1.heap.size (k + 90 - 10 * gk) (.slice A ss.length ca) (.slice E ps.length ce) ss ps from ⟨hI, hD, hR, hG⟩)
    have hKs : K ≤ 8 := by omega
    have HK := Lib.hid hgk
    have hgk7 : gk ≤ 7 := by omega
    clear hI hD hR hG HI2 HD2 HR2 HG2 hgk hw2
    go_wp2_with fail
    refine (pick_any B (k + 90 - 10 * gk) 8 _ HRn.out.dk.cur (by omega) (by omega)).mono ?_
    rintro e wc ⟨xc, rfl, hxc, hcc, hgc⟩
    have HRc := Lib.hid (rnd_cur HRn.out hgc hcc hB (by omega))
    have hxc7 : 0 ≤ xc ∧ xc ≤ 7 := ⟨hxc.1, by have := hxc.2; omega⟩
    clear hcc hgc HRn hxc
    have hDl := heap_lt HRc.out.old
    have hc0 : wc.cell? ⟨w1.heap.size, 0, none⟩ = some (.slice A ss.length ca) := cell_of_row _ _ 0 _ _ _ HRc.out.old
    have hc1 : wc.cell? ⟨w1.heap.size, 1, none⟩ = some (.slice E ps.length ce) := cell_of_row _ _ 1 _ _ _ HRc.out.old
    by_cases hle : (K : Int) ≤ xc
    · have HK7 : Hid (K ≤ 7 ∧ 1 ≤ gk) := by show _ ∧ _; have := HK.out; omega
      go_wp2_with fail
      have hnc : w1.heap.size ≠ wc.heap.size := by omega
      have hmc : wc.heap.size ≠ w1.heap.size := by omega
      have hNB : some w1.heap.size ≠ some B := by intro e; injection e with e; omega
      have hNc : some wc.heap.size ≠ some B := by intro e; injection e with e; omega
      have hNs : ∀ {n : Nat}, wc.heap.size ≤ n → some n ≠ some B := fun h => by intro e; injection e with e; omega
      have hk4 : k + 90 - 10 * gk + 2 ≤ 549755813888 := by omega
      have hk5 : k + 90 - 10 * gk + 2 + 2 ≤ 549755813888 := by omega
      have hk6 : k + 90 - 10 * gk + 2 + 2 + 2 ≤ 549755813888 := by omega
      have HAp : Hid (∀ w' no kd a b, wc.grownBy w' (some B) → Calls Tryz.prog 58 #[diskV (.slice A ss.length ca) (.slice E ps.length ce), .int .i64 no, .int .i64 kd, .int .i64 a, .int .i64 b] w' fun e w'' => ∃ A7 ca7 E7 ce7, e = .returned (.tuple #[diskV (.slice A7 (apS ss ps (no, kd, a, b)).length ca7) (.slice E7 (apP ss ps (no, kd, a, b)).length ce7), .bool (apOkB ss ps (no, kd, a, b))]) ∧ OwnD w'' w'.heap.size (.slice A7 (apS ss ps (no, kd, a, b)).length ca7) (.slice E7 (apP ss ps (no, kd, a, b)).length ce7) (apS ss ps (no, kd, a, b)) (apP ss ps (no, kd, a, b)) ∧ Below w'.heap.size w' w'') := fun w' no kd a b hg => (sAppend_any A E ss ps ca ce no kd a b w' (disk_in (OwnR.rd fSt_len (HRc.out.dk.own.sure.cur (show B < w.heap.size + 1 by omega) hg)) (OwnR.rd fPu_len (HRc.out.dk.own.later.cur (show B < w.heap.size + 1 by omega) hg)) HRc.out.dk.good) hlA hlE).mono fun e w'' ⟨v1, v2, he, ho, hb⟩ => by
        obtain ⟨A7, E7, ca7, ce7, rfl, rfl, -⟩ := lies1 ho
        exact ⟨A7, ca7, E7, ce7, he, ho, hb⟩
      apply wp_meet_dk (fun Y x4 x5 x6 A7 ca7 E7 ce7 w' => (0 ≤ x4 ∧ x4 ≤ 3) ∧ (0 ≤ x5 ∧ x5 ≤ 200) ∧ (0 ≤ x6 ∧ x6 ≤ 99) ∧ Mid9 w w' B w.heap.size w1.heap.size Y (k + 90 - 10 * gk + 2 + 2 + 2 + 2) (.slice A ss.length ca) (.slice E ps.length ce) (.slice A7 (apS ss ps ((K : Int), IntKind.i64.wrap (1 + x4), IntKind.i64.wrap (x5 * 30), x6)).length ca7) (.slice E7 (apP ss ps ((K : Int), IntKind.i64.wrap (1 + x4), IntKind.i64.wrap (x5 * 30), x6)).length ce7) ss ps (apS ss ps ((K : Int), IntKind.i64.wrap (1 + x4), IntKind.i64.wrap (x5 * 30), x6)) (apP ss ps ((K : Int), IntKind.i64.wrap (1 + x4), IntKind.i64.wrap (x5 * 30), x6)))
      case hreg =>
        go_region_held3 (fun w' => w'.cell? ⟨w1.heap.size, 0, none⟩ = some (.slice A ss.length ca) ∧ w'.cell? ⟨w1.heap.size, 1, none⟩ = some (.slice E ps.length ce)) (first | exact ⟨hc0, hc1⟩ | exact hq7 | exact hq6 | exact hq5 | exact hq4 | go_keep) (first
          | (go_at_call 58; refine (HAp.out _ _ _ _ _ (by first | exact ht6 | exact grownBy_trans ht6 (World.grownBy_alloc _ _ _))).mono ?_; rintro e w7 ⟨A7, ca7, E7, ce7, rfl, ho7, hb7⟩; have hq7 : w7.cell? ⟨w1.heap.size, 0, none⟩ = some (.slice A ss.length ca) ∧ w7.cell? ⟨w1.heap.size, 1, none⟩ = some (.slice E ps.length ce) := ⟨(hb7.cell (World.block_lt_of_cell? _ _ (by apply And.left; assumption))).trans (by apply And.left; assumption), (hb7.cell (World.block_lt_of_cell? _ _ (by apply And.right; assumption))).trans (by apply And.right; assumption)⟩; (try (have hbc_7 : w7.heap[wc.heap.size]? = some (.cells #[.slice none 0 0, .slice none 0 0] 26 (0, 0)) := box_to hb7 (box_by hg6 (box_by hg5 (box_by hg4 (alloc_atD _ _) hNc) hNc) hNc); have pc0 := cell_of_row w7 _ 0 _ _ _ hbc_7; have pc1 := cell_of_row w7 _ 1 _ _ _ hbc_7; have fc0 := frozen_of_row w7 _ 0 _ _ hbc_7; have fc1 := frozen_of_row w7 _ 1 _ _ hbc_7)); (try (have hb4_7 : w7.heap[w4.heap.size]? = some (.cells #[.slice none 0 0, .slice none 0 0] 26 (0, 0)) := box_to hb7 (box_by hg6 (box_by hg5 (heap_alloc_new _ _) (hNs ht4.size)) (hNs ht4.size)); have p40 := cell_of_row w7 _ 0 _ _ _ hb4_7; have p41 := cell_of_row w7 _ 1 _ _ _ hb4_7; have f40 := frozen_of_row w7 _ 0 _ _ hb4_7; have f41 := frozen_of_row w7 _ 1 _ _ hb4_7)); (try (have hb5_7 : w7.heap[w5.heap.size]? = some (.cells #[.slice none 0 0, .slice none 0 0] 26 (0, 0)) := box_to hb7 (box_by hg6 (heap_alloc_new _ _) (hNs ht5.size)); have p50 := cell_of_row w7 _ 0 _ _ _ hb5_7; have p51 := cell_of_row w7 _ 1 _ _ _ hb5_7; have f50 := frozen_of_row w7 _ 0 _ _ hb5_7; have f51 := frozen_of_row w7 _ 1 _ _ hb5_7)); (try (have hb6_7 : w7.heap[w6.heap.size]? = some (.cells #[.slice none 0 0, .slice none 0 0] 26 (0, 0)) := box_to hb7 (heap_alloc_new _ _); have p60 := cell_of_row w7 _ 0 _ _ _ hb6_7; have p61 := cell_of_row w7 _ 1 _ _ _ hb6_7; have f60 := frozen_of_row w7 _ 0 _ _ hb6_7; have f61 := frozen_of_row w7 _ 1 _ _ hb6_7)))
          | (go_at_call 29; have hpre := hc5; clear hpre; refine (pick_any B _ 99 _ (by first | exact hc5 | exact hc5.below (gAlloc _ _)) hk6 (by decide)).mono ?_; rintro e w6 ⟨x6, rfl, hx6, hc6, hg6⟩; obtain ⟨hy6, hz6⟩ := pick_le hx6 (by decide); have hq6 : w6.cell? ⟨w1.heap.size, 0, none⟩ = some (.slice A ss.length ca) ∧ w6.cell? ⟨w1.heap.size, 1, none⟩ = some (.slice E ps.length ce) := ⟨hg6.cell (by apply And.left; assumption) hNB, hg6.cell (by apply And.right; assumption) hNB⟩; have ht6 : wc.grownBy w6 (some B) := grownBy_trans ht5 (by first | exact hg6 | exact grownBy_trans (World.grownBy_alloc _ _ _) hg6); have hn6 := Nat.ne_of_lt (Nat.lt_of_lt_of_le hDl ht6.size); have hm6 := hn6.symm)
          | (go_at_call 29; have hpre := hc4; clear hpre; refine (pick_any B _ 200 _ (by first | exact hc4 | exact hc4.below (gAlloc _ _)) hk5 (by decide)).mono ?_; rintro e w5 ⟨x5, rfl, hx5, hc5, hg5⟩; obtain ⟨hy5, hz5⟩ := pick_le hx5 (by decide); have hq5 : w5.cell? ⟨w1.heap.size, 0, none⟩ = some (.slice A ss.length ca) ∧ w5.cell? ⟨w1.heap.size, 1, none⟩ = some (.slice E ps.length ce) := ⟨hg5.cell (by apply And.left; assumption) hNB, hg5.cell (by apply And.right; assumption) hNB⟩; have ht5 : wc.grownBy w5 (some B) := grownBy_trans ht4 (by first | exact hg5 | exact grownBy_trans (World.grownBy_alloc _ _ _) hg5); have hn5 := Nat.ne_of_lt (Nat.lt_of_lt_of_le hDl ht5.size); have hm5 := hn5.symm)
          | (go_at_call 29; refine (pick_any B _ 3 _ (by first | exact HRc.out.dk.cur.below gDrew | exact HRc.out.dk.cur.below (below_more (gAlloc _ _) gDrew)) hk4 (by decide)).mono ?_; rintro e w4 ⟨x4, rfl, hx4, hc4, hg4⟩; obtain ⟨hy4, hz4⟩ := pick_le hx4 (by decide); have hq4 : w4.cell? ⟨w1.heap.size, 0, none⟩ = some (.slice A ss.length ca) ∧ w4.cell? ⟨w1.heap.size, 1, none⟩ = some (.slice E ps.length ce) := ⟨hg4.cell (by apply And.left; assumption) hNB, hg4.cell (by apply And.right; assumption) hNB⟩; have ht4 : wc.grownBy w4 (some B) := grownBy_trans (gBelowR (by first | exact gDrew | exact below_more (gAlloc _ _) gDrew) _) hg4; have hn4 := Nat.ne_of_lt (Nat.lt_of_lt_of_le hDl ht4.size); have hm4 := hn4.symm))
        all_goals
          have ht7 : wc.grownBy w7 (some B) := grownBy_trans (show wc.grownBy _ (some B) by first | exact ht6 | exact grownBy_trans ht6 (World.grownBy_alloc _ _ _)) (gBelowR hb7 _)
          have hc7 : Cur w7 B (k + 90 - 10 * gk + 2 + 2 + 2 + 2) := by first | exact hc6.below hb7 | exact (hc6.below (gAlloc _ _)).below hb7
          have hl4 := ht4.size
          have hl5 := ht5.size
          have hl6 := ht6.size
          have hl7 := hb7.size
          (try simp only [World.heap_size_alloc9] at hl7)
          have hs4 := hg4.size
          have hs5 := hg5.size
          have hs6 := hg6.size
          (try simp only [World.heap_size_alloc9] at hs5)
          (try simp only [World.heap_size_alloc9] at hs6)
          (try have hs4' : wc.heap.size + 1 ≤ w4.heap.size := Nat.le_trans (Nat.le_of_eq (World.heap_size_alloc9 wc _).symm) hg4.size)
          have hO7 : w7.heap[w1.heap.size]? = some (.cells #[.slice A ss.length ca, .slice E ps.length ce] 26 (0, 0)) := (ht7.block _ hDl (by intro e; injection e with e; omega)).trans HRc.out.old
          have hR7 : w7.heap[w.heap.size]? = some (.cells #[.slice none 0 0, .slice none 0 0] 26 (0, 0)) := (ht7.block _ (heap_lt HRc.out.res) (by intro e; injection e with e; omega)).trans HRc.out.res
          have hw7 := HRc.out.dk.own.cur9 (show B < w.heap.size + 1 by omega) ht7
          have hg7 := grownBy_trans HRc.out.grown ht7
          have hoff1 : ∀ Z, wc.heap.size ≤ Z → ∀ g, (Value.slice A ss.length ca).ownBlock = some g → g ≠ Z := fun Z hZ g hg => by have := (HRc.out.dk.own.sure.lt g hg).2; omega
          have hoff2 : ∀ Z, wc.heap.size ≤ Z → ∀ g, (Value.slice E ps.length ce).ownBlock = some g → g ≠ Z := fun Z hZ g hg => by have := (HRc.out.dk.own.later.lt g hg).2; omega
          first
            | (have HM := mid_alloc9 hO7 hR7 hw7 (ho7.lower (by omega)) (by omega) hc7 hg7; obtain ⟨Y, hY⟩ : ∃ Y, w7.heap.size = Y := ⟨_, rfl⟩; rw [hY] at HM ⊢; exact ⟨rfl, Y, x4, x5, x6, A7, ca7, E7, ce7, rfl, ⟨hy4, hz4⟩, ⟨hy5, hz5⟩, ⟨hy6, hz6⟩, HM⟩)
            | (have HM := mid_put9 hbc_7 hO7 hR7 hw7 (hoff1 _ (by omega)) (hoff2 _ (by omega)) (ho7.lower (by (try simp only [World.heap_size_alloc9]); omega)) (by omega) (by omega) hB (Nat.le_refl _) hc7 hg7; obtain ⟨Y, hY⟩ : ∃ Y, wc.heap.size = Y := ⟨_, rfl⟩; rw [hY] at HM ⊢; exact ⟨rfl, Y, x4, x5, x6, A7, ca7, E7, ce7, rfl, ⟨hy4, hz4⟩, ⟨hy5, hz5⟩, ⟨hy6, hz6⟩, HM⟩)
            | (have HM := mid_put9 hb4_7 hO7 hR7 hw7 (hoff1 _ (by omega)) (hoff2 _ (by omega)) (ho7.lower (by (try simp only [World.heap_size_alloc9]); omega)) (by omega) (by omega) hB (Nat.le_refl _) hc7 hg7; obtain ⟨Y, hY⟩ : ∃ Y, w4.heap.size = Y := ⟨_, rfl⟩; rw [hY] at HM ⊢; exact ⟨rfl, Y, x4, x5, x6, A7, ca7, E7, ce7, rfl, ⟨hy4, hz4⟩, ⟨hy5, hz5⟩, ⟨hy6, hz6⟩, HM⟩)
            | (have HM := mid_put9 hb6_7 hO7 hR7 hw7 (hoff1 _ (by omega)) (hoff2 _ (by omega)) (ho7.lower (by (try simp only [World.heap_size_alloc9]); omega)) (by omega) (by omega) hB (Nat.le_refl _) hc7 hg7; obtain ⟨Y, hY⟩ : ∃ Y, w6.heap.size = Y := ⟨_, rfl⟩; rw [hY] at HM ⊢; exact ⟨rfl, Y, x4, x5, x6, A7, ca7, E7, ce7, rfl, ⟨hy4, hz4⟩, ⟨hy5, hz5⟩, ⟨hy6, hz6⟩, HM⟩)
            | (have HM := mid_put9 hb5_7 hO7 hR7 hw7 (hoff1 _ (by omega)) (hoff2 _ (by omega)) (ho7.lower (by (try simp only [World.heap_size_alloc9]); omega)) (by omega) (by omega) hB (Nat.le_refl _) hc7 hg7; obtain ⟨Y, hY⟩ : ∃ Y, w5.heap.size = Y := ⟨_, rfl⟩; rw [hY] at HM ⊢; exact ⟨rfl, Y, x4, x5, x6, A7, ca7, E7, ce7, rfl, ⟨hy4, hz4⟩, ⟨hy5, hz5⟩, ⟨hy6, hz6⟩, HM⟩)
      case himp =>
        rintro Y x4 x5 x6 A6 ca6 E6 ce6 wx ⟨hx4, hx5, hx6, hM⟩
        have HM := Lib.hid hM
        have HOa := Lib.hid HRc.out.dk.off1
        have HOb := Lib.hid HRc.out.dk.off2
        have HGa := Lib.hid HRc.out.dk.good
        have HGp : Hid (apOkB ss ps ((K : Int), IntKind.i64.wrap (1 + x4), IntKind.i64.wrap (x5 * 30), x6) = true → goodDB (apS ss ps ((K : Int), IntKind.i64.wrap (1 + x4), IntKind.i64.wrap (x5 * 30), x6)) (apP ss ps ((K : Int), IntKind.i64.wrap (1 + x4), IntKind.i64.wrap (x5 * 30), x6)) = true) := fun h => ap_good h
        have y0 := cell_of_row wx _ 0 _ _ _ hM.box
        have y1 := cell_of_row wx _ 1 _ _ _ hM.box
        have d0 := cell_of_row wx _ 0 _ _ _ hM.old
        have d1 := cell_of_row wx _ 1 _ _ _ hM.old
        have f0 := frozen_of_row wx _ 0 _ _ hM.old
        have f1 := frozen_of_row wx _ 1 _ _ hM.old
        have hYD := hM.ne
        clear hM HAp hx4 hx5 hx6
        generalize apS ss ps ((K : Int), IntKind.i64.wrap (1 + x4), IntKind.i64.wrap (x5 * 30), x6) = us at *
        generalize apP ss ps ((K : Int), IntKind.i64.wrap (1 + x4), IntKind.i64.wrap (x5 * 30), x6) = up at *
        cases hok : apOkB ss ps ((K : Int), IntKind.i64.wrap (1 + x4), IntKind.i64.wrap (x5 * 30), x6)
        · have HR8 := Lib.hid (mid_keep HM.out HGa.out HOa.out HOb.out)
          have HS8 := Lib.hid (sSync_E A E ss ps ca ce wx (OwnR.rd fSt_len HR8.out.dk.own.sure) (OwnR.rd fPu_len HR8.out.dk.own.later) HR8.out.dk.good (ownR_lies HR8.out.dk.own.sure))
          clear HM HOa HOb HGa HGp
          clear y0 y1 f0 f1
          go_wp2_with fail
          refine HS8.out.mono ?_
          rintro e w9 ⟨s1, s2, us9, up9, rfl, ho9, hgd9, hb9⟩
          obtain ⟨A9, E9, ca9, ce9, rfl, rfl, -⟩ := lies1 ho9
          have hs9 := hb9.size
          have hd9 := heap_lt HR8.out.old
          have HM9 := Lib.hid (mid_alloc9 ((hb9.block _ (heap_lt HR8.out.old)).trans HR8.out.old) ((hb9.block _ (heap_lt HR8.out.res)).trans HR8.out.res) (HR8.out.dk.own.below hb9) (ho9.lower hd9) (by omega) (HR8.out.dk.cur.below hb9) (grownBy_trans HR8.out.grown (gBelowR hb9 _)))
          have HG9 := Lib.hid hgd9
          have HO1 := Lib.hid HR8.out.dk.off1
          have HO2 := Lib.hid HR8.out.dk.off2
          have HGd8 := Lib.hid HR8.out.dk.good
          obtain ⟨wy, hwy⟩ : ∃ wy, w9.alloc (.cells #[.slice A9 us9.length ca9, .slice E9 up9.length ce9] 26) = wy := ⟨_, rfl⟩
          rw [hwy] at HM9
          clear hgd9 ho9 hb9 HS8 HR8 d0 d1
          go_wp2_with fail
          refine (one_any B _ 3 _ HM9.out.cur (by omega) (by omega)).mono ?_
          rintro e w10 ⟨b10, rfl, hc10, hg10⟩
          have HM10 := Lib.hid (mid_cur HM9.out hg10 hc10 hB (by omega) (by omega))
          have hb10 := heap_lt HM10.out.box
          have y0 : w10.cell? ⟨w9.heap.size, 0, none⟩ = some (.slice A9 us9.length ca9) := cell_of_row _ _ 0 _ _ _ HM10.out.box
          have y1 : w10.cell? ⟨w9.heap.size, 1, none⟩ = some (.slice E9 up9.length ce9) := cell_of_row _ _ 1 _ _ _ HM10.out.box
          have d0 : w10.cell? ⟨w1.heap.size, 0, none⟩ = some (.slice A ss.length ca) := cell_of_row _ _ 0 _ _ _ HM10.out.old
          have d1 : w10.cell? ⟨w1.heap.size, 1, none⟩ = some (.slice E ps.length ce) := cell_of_row _ _ 1 _ _ _ HM10.out.old
          have f0 := frozen_of_row w10 _ 0 _ _ HM10.out.old
          have f1 := frozen_of_row w10 _ 1 _ _ HM10.out.old
          have hdy : w1.heap.size ≠ w9.heap.size := by omega
          clear hwy hc10 hg10 HM9
          cases b10
          · have HF := Lib.hid (mid_keep HM10.out HGd8.out HO1.out HO2.out)
            go_wp2_with fail
            have hK7 := HK7.out
            go_roundg (gk - 1)
            case measure => omega
            case rel => exact ⟨_, _, _, _, K + 1, by go_num, by have := HK.out; omega, by omega, HF.out.dk.mono (by omega), HF.out.old, HF.out.res, HF.out.grown⟩
          · have HF := Lib.hid (mid_take HM10.out HG9.out hB (by omega) (Nat.le_refl _))
            go_wp2_with fail
            have hK7 := HK7.out
            go_roundg (gk - 1)
            case measure => omega
            case rel => exact ⟨_, _, _, _, K + 1, by go_num, by have := HK.out; omega, by omega, HF.out.dk.mono (by omega), HF.out.old, HF.out.res, HF.out.grown⟩
        · have HR8 := Lib.hid (mid_take HM.out (HGp.out hok) hB (by omega) (Nat.le_refl _))
          have HS8 := Lib.hid (sSync_E A6 E6 us up ca6 ce6 ((wx.setCell ⟨w1.heap.size, 0, none⟩ (.slice A6 us.length ca6)).setCell ⟨w1.heap.size, 1, none⟩ (.slice E6 up.length ce6)) (OwnR.rd fSt_len HR8.out.dk.own.sure) (OwnR.rd fPu_len HR8.out.dk.own.later) HR8.out.dk.good (ownR_lies HR8.out.dk.own.sure))
          clear HM HOa HOb HGa HGp
          go_wp2_with fail
          refine HS8.out.mono ?_
          rintro e w9 ⟨s1, s2, us9, up9, rfl, ho9, hgd9, hb9⟩
          obtain ⟨A9, E9, ca9, ce9, rfl, rfl, -⟩ := lies1 ho9
          have hs9 := hb9.size
          have hd9 := heap_lt HR8.out.old
          have HM9 := Lib.hid (mid_alloc9 ((hb9.block _ (heap_lt HR8.out.old)).trans HR8.out.old) ((hb9.block _ (heap_lt HR8.out.res)).trans HR8.out.res) (HR8.out.dk.own.below hb9) (ho9.lower hd9) (by omega) (HR8.out.dk.cur.below hb9) (grownBy_trans HR8.out.grown (gBelowR hb9 _)))
          have HG9 := Lib.hid hgd9
          have HO1 := Lib.hid HR8.out.dk.off1
          have HO2 := Lib.hid HR8.out.dk.off2
          have HGd8 := Lib.hid HR8.out.dk.good
          obtain ⟨wy, hwy⟩ : ∃ wy, w9.alloc (.cells #[.slice A9 us9.length ca9, .slice E9 up9.length ce9] 26) = wy := ⟨_, rfl⟩
          rw [hwy] at HM9
          clear hgd9 ho9 hb9 HS8 HR8 y0 y1 f0 f1 d0 d1
          go_wp2_with fail
          refine (one_any B _ 3 _ HM9.out.cur (by omega) (by omega)).mono ?_
          rintro e w10 ⟨b10, rfl, hc10, hg10⟩
          have HM10 := Lib.hid (mid_cur HM9.out hg10 hc10 hB (by omega) (by omega))
          have hb10 := heap_lt HM10.out.box
          have y0 : w10.cell? ⟨w9.heap.size, 0, none⟩ = some (.slice A9 us9.length ca9) := cell_of_row _ _ 0 _ _ _ HM10.out.box
          have y1 : w10.cell? ⟨w9.heap.size, 1, none⟩ = some (.slice E9 up9.length ce9) := cell_of_row _ _ 1 _ _ _ HM10.out.box
          have d0 : w10.cell? ⟨w1.heap.size, 0, none⟩ = some (.slice A6 us.length ca6) := cell_of_row _ _ 0 _ _ _ HM10.out.old
          have d1 : w10.cell? ⟨w1.heap.size, 1, none⟩ = some (.slice E6 up.length ce6) := cell_of_row _ _ 1 _ _ _ HM10.out.old
          have f0 := frozen_of_row w10 _ 0 _ _ HM10.out.old
          have f1 := frozen_of_row w10 _ 1 _ _ HM10.out.old
          have hdy : w1.heap.size ≠ w9.heap.size := by omega
          clear hwy hc10 hg10 HM9
          cases b10
          · have HF := Lib.hid (mid_keep HM10.out HGd8.out HO1.out HO2.out)
            go_wp2_with fail
            have hK7 := HK7.out
            go_roundg (gk - 1)
            case measure => omega
            case rel => exact ⟨_, _, _, _, K + 1, by go_num, by have := HK.out; omega, by omega, HF.out.dk.mono (by omega), HF.out.old, HF.out.res, HF.out.grown⟩
          · have HF := Lib.hid (mid_take HM10.out HG9.out hB (by omega) (Nat.le_refl _))
            go_wp2_with fail
            have hK7 := HK7.out
            go_roundg (gk - 1)
            case measure => omega
            case rel => exact ⟨_, _, _, _, K + 1, by go_num, by have := HK.out; omega, by omega, HF.out.dk.mono (by omega), HF.out.old, HF.out.res, HF.out.grown⟩
    · clear hc0 hc1 hlA hlE
      go_wp2_with fail
      refine (one_any B (k + 90 - 10 * gk + 2) 12 _ HRc.out.dk.cur (by omega) (by omega)).mono ?_
      rintro e w3 ⟨q, rfl, hc3, hg3⟩
      have HR3 := Lib.hid (rnd_cur HRc.out hg3 (hc3.mono (show k + 90 - 10 * gk + 2 + 2 ≤ k + 94 by omega)) hB (by omega))
      obtain ⟨hl1, hl2, hl3, hl4⟩ := good_len HRc.out.dk.good
      have HL3 : Hid (∀ s ∈ ss, s.size ≤ 16) := fun s hs => by have := hl3 s hs; omega
      have HL4 : Hid (∀ p ∈ ps, p.2.size ≤ 16) := fun p hp => by have := (hl4 p hp).2; omega
      have HL1 := Lib.hid hl1
      have d0 : w3.cell? ⟨w1.heap.size, 0, none⟩ = some (.slice A ss.length ca) := cell_of_row _ _ 0 _ _ _ HR3.out.old
      have d1 : w3.cell? ⟨w1.heap.size, 1, none⟩ = some (.slice E ps.length ce) := cell_of_row _ _ 1 _ _ _ HR3.out.old
      have x0 : w3.cell? ⟨w.heap.size, 0, none⟩ = some (.slice none 0 0) := cell_of_row _ _ 0 _ _ _ HR3.out.res
      have x1 : w3.cell? ⟨w.heap.size, 1, none⟩ = some (.slice none 0 0) := cell_of_row _ _ 1 _ _ _ HR3.out.res
      have fx0 := frozen_of_row w3 _ 0 _ _ HR3.out.res
      have fx1 := frozen_of_row w3 _ 1 _ _ HR3.out.res
      have hXD : w.heap.size ≠ w1.heap.size := by omega
      clear hc3 hg3 HRc hl1 hl3 hl4 HK hle
      cases q
      · go_wp2_with fail
        have hRF := HR3.out.res
        have hgo : (((w3).setCell ⟨w.heap.size, 0, none⟩ (Value.slice A ss.length ca)).setCell ⟨w.heap.size, 1, none⟩ (Value.slice E ps.length ce)).heap[w.heap.size]? = some (.cells #[Value.slice A ss.length ca, Value.slice E ps.length ce] 26 (0, 0)) := heap_setCell_same _ _ 1 _ _ _ (heap_setCell_same _ _ 0 _ _ _ hRF)
        have hx1 : ∀ g, (Value.slice A ss.length ca).ownBlock = some g → g ≠ w.heap.size := fun g hg => by have := ((HR3.out.dk.own).sure.lt g hg).1; omega
        have hx2 : ∀ g, (Value.slice E ps.length ce).ownBlock = some g → g ≠ w.heap.size := fun g hg => by have := ((HR3.out.dk.own).later.lt g hg).1; omega
        refine ret_dk rfl w.heap.size _ _ rfl hgo rfl ⟨_, _, _, _, rfl, (((HR3.out.dk.own).set9 hx1 hx2 _ _).set9 hx1 hx2 _ _).lower (by omega), ?_, ?_, ?_, ?_, ?_, grown_set9 (grown_set9 (HR3.out.grown) (Nat.le_refl _) _ _) (Nat.le_refl _) _ _⟩
        · exact HL1.out
        · omega
        · exact HL3.out
        · exact HL4.out
        · exact ((HR3.out.dk.cur.mono (by omega)).grown (gSet9 _ _ _ _) (fun g hg => by injection hg with hg; omega)).grown (gSet9 _ _ _ _) (fun g hg => by injection hg with hg; omega)
      · go_wp2_with fail
        have hss : 0 < ss.length := by rw [HL1.out]; decide
        have hss4 : 4 ≤ ss.length := by rw [HL1.out]; decide
        obtain ⟨gA, capA, eA, -, hbA⟩ := HR3.out.dk.own.sure.block hss
        injection eA with eA1 eA2 eA3
        subst eA1; subst eA3
        have hNB : some w1.heap.size ≠ some B := by intro e; injection e with e; omega
        have hNX : some w.heap.size ≠ some B := by intro e; injection e with e; omega
        have hk9 : k + 94 ≤ 549755813888 := by omega
        have hwB : B < w.heap.size + 1 := by omega
        have hDg : w1.heap.size ≠ gA := fun e => HR3.out.dk.off1 gA rfl e.symm
        clear hss
        go_region_held3 (fun w' => w'.cell? ⟨w1.heap.size, 0, none⟩ = some (.slice (some ⟨gA, 0, none⟩) ss.length ca)) (first | exact d0 | exact hq4 | exact (cell_set_other _ ⟨gA, j, none⟩ _ _ hDg).trans hq4 | go_keep) (first
          | (go_at_call 29; refine (pick_any B (k + 94) 4 _ (HR3.out.dk.cur.below gDrew) hk9 (by decide)).mono ?_; rintro e w4 ⟨x4, rfl, hx4, hc4, hg4⟩; obtain ⟨j, rfl⟩ := Int.eq_ofNat_of_zero_le hx4.1; have hj : j < ss.length := (by omega); have hji : (j : Int) < (ss.length : Int) := (by omega); have hq4 : w4.cell? ⟨w1.heap.size, 0, none⟩ = some (.slice (some ⟨gA, 0, none⟩) ss.length ca) := hg4.cell d0 hNB; have HO4 := Lib.hid (HR3.out.dk.own.sure.cur hwB (grownBy_trans (gBelowR gDrew _) hg4)); obtain ⟨sa, sf⟩ := ownSt_at HO4.out hj))
        all_goals
          have ht4 : w3.grownBy w4 (some B) := grownBy_trans (gBelowR gDrew _) hg4
          have HR4 := Lib.hid (rnd_cur HR3.out ht4 hc4 hB (by omega))
          have hP := ownSt_put HR4.out.dk.own.sure hj ⟨#[48, 49, 50, 51, 52, 53, 54, 55, 56, 57, 97, 98, 99, 100, 101, 102]⟩
          have hgD : gA ≠ w1.heap.size := HR4.out.dk.off1 gA rfl
          have hgX : gA ≠ w.heap.size := by omega
          have HP := Lib.hid hP.1
          have HE := Lib.hid (HR4.out.dk.own.later.kept hP.2 (gApart HR4.out.dk.own.apart))
          have HRF : Hid ((w4.setCell ⟨gA, j, none⟩ (.string ⟨#[48, 49, 50, 51, 52, 53, 54, 55, 56, 57, 97, 98, 99, 100, 101, 102]⟩)).heap[w.heap.size]? = some (.cells #[.slice none 0 0, .slice none 0 0] 26 (0, 0))) := (heap_setCell_other w4 ⟨gA, j, none⟩ w.heap.size _ (fun e => hgX e.symm)).trans HR4.out.res
          have HC4 := Lib.hid (HR4.out.dk.cur.grown hP.2 (fun g hg => by injection hg with hg; omega))
          have HS4 : Hid (∀ s ∈ ss.set j ⟨#[48, 49, 50, 51, 52, 53, 54, 55, 56, 57, 97, 98, 99, 100, 101, 102]⟩, s.size ≤ 16) := fun s hs => by
            rcases List.mem_or_eq_of_mem_set hs with hs | rfl
            · exact HL3.out s hs
            · decide
          have d0 : (w4.setCell ⟨gA, j, none⟩ (.string ⟨#[48, 49, 50, 51, 52, 53, 54, 55, 56, 57, 97, 98, 99, 100, 101, 102]⟩)).cell? ⟨w1.heap.size, 0, none⟩ = some (.slice (some ⟨gA, 0, none⟩) ss.length ca) := cell_of_row _ _ 0 _ _ _ ((heap_setCell_other w4 ⟨gA, j, none⟩ w1.heap.size _ (fun e => hgD e.symm)).trans HR4.out.old)
          have d1 : (w4.setCell ⟨gA, j, none⟩ (.string ⟨#[48, 49, 50, 51, 52, 53, 54, 55, 56, 57, 97, 98, 99, 100, 101, 102]⟩)).cell? ⟨w1.heap.size, 1, none⟩ = some (.slice E ps.length ce) := cell_of_row _ _ 1 _ _ _ ((heap_setCell_other w4 ⟨gA, j, none⟩ w1.heap.size _ (fun e => hgD e.symm)).trans HR4.out.old)
          have HG5 := Lib.hid (grown_set9 (Y := gA) HR4.out.grown (show w.heap.size ≤ gA by omega) j (.string ⟨#[48, 49, 50, 51, 52, 53, 54, 55, 56, 57, 97, 98, 99, 100, 101, 102]⟩))
          clear hP hq4 sa sf ht4 hc4 hg4 x0 x1 fx0 fx1
          generalize w4.setCell ⟨gA, j, none⟩ (.string ⟨#[48, 49, 50, 51, 52, 53, 54, 55, 56, 57, 97, 98, 99, 100, 101, 102]⟩) = w5 at *
          have x0 : w5.cell? ⟨w.heap.size, 0, none⟩ = some (.slice none 0 0) := cell_of_row _ _ 0 _ _ _ HRF.out
          have x1 : w5.cell? ⟨w.heap.size, 1, none⟩ = some (.slice none 0 0) := cell_of_row _ _ 1 _ _ _ HRF.out
          have fx0 := frozen_of_row w5 _ 0 _ _ HRF.out
          have fx1 := frozen_of_row w5 _ 1 _ _ HRF.out
          go_wp2_with fail
          have hRF := HRF.out
          have hOw : OwnD w5 (w.heap.size + 1) (.slice (some ⟨gA, 0, none⟩) ss.length ca) (.slice E ps.length ce) (ss.set j ⟨#[48, 49, 50, 51, 52, 53, 54, 55, 56, 57, 97, 98, 99, 100, 101, 102]⟩) ps := ⟨HP.out, HE.out, HR4.out.dk.own.apart⟩
          have hgo : ((w5.setCell ⟨w.heap.size, 0, none⟩ (Value.slice (some ⟨gA, 0, none⟩) ss.length ca)).setCell ⟨w.heap.size, 1, none⟩ (Value.slice E ps.length ce)).heap[w.heap.size]? = some (.cells #[Value.slice (some ⟨gA, 0, none⟩) ss.length ca, Value.slice E ps.length ce] 26 (0, 0)) := heap_setCell_same _ _ 1 _ _ _ (heap_setCell_same _ _ 0 _ _ _ hRF)
          have hx1 : ∀ g, (Value.slice (some ⟨gA, 0, none⟩) ss.length ca).ownBlock = some g → g ≠ w.heap.size := fun g hg => by have := ((hOw).sure.lt g hg).1; omega
          have hx2 : ∀ g, (Value.slice E ps.length ce).ownBlock = some g → g ≠ w.heap.size := fun g hg => by have := ((hOw).later.lt g hg).1; omega
          refine ret_dk rfl w.heap.size _ _ rfl hgo rfl ⟨_, _, _, _, rfl, (((hOw).set9 hx1 hx2 _ _).set9 hx1 hx2 _ _).lower (by omega), ?_, ?_, ?_, ?_, ?_, grown_set9 (grown_set9 HG5.out (Nat.le_refl _) _ _) (Nat.le_refl _) _ _⟩
          · rw [List.length_set]; exact HL1.out
          · omega
          · exact HS4.out
          · exact HL4.out
          · exact ((HC4.out.mono (by omega)).grown (gSet9 _ _ _ _) (fun g hg => by injection hg with hg; omega)).grown (gSet9 _ _ _ _) (fun g hg => by injection hg with hg; omega)
end Go.Proofs.YthbjcipdneminaaGreatDoor

/- GN -/
namespace Go.Proofs.YthbjcipdneminaaGreatDoor
open Go.RowKit

set_option maxRecDepth 100000 in
set_option maxHeartbeats 4000000 in
theorem drawCrash10 (A : Option Addr) (zs : List Int) (c : Nat) (w : World) (hb : Byts w w.heap.size A zs) :
    Calls Tryz.prog 5 #[.slice A zs.length c] w fun e w' => ∃ v1 v2 v3 ss ps ks, ∃ torn bb : Int, e = .returned (.tuple #[diskV v1 v2, v3, .int .i64 torn, .int .i64 bb]) ∧ Drew9 w w' v1 v2 ss ps ∧ Own w' w.heap.size v3 ks ∧ ks.length ≤ 42 ∧ -1 ≤ torn ∧ torn ≤ 41 ∧ 0 ≤ bb ∧ bb ≤ 17 := by
  obtain ⟨W, hW⟩ : ∃ W, w.alloc (.cells #[.slice none 0 0, .slice none 0 0] 26) = W := ⟨_, rfl⟩
  have hbW : Below w.heap.size w W := by rw [← hW]; exact gAlloc _ _
  have hsW : W.heap.size = w.heap.size + 1 := by rw [← hW]; simp
  have hRW : W.heap[w.heap.size]? = some (.cells #[.slice none 0 0, .slice none 0 0] 26 (0, 0)) := by rw [← hW]; exact heap_alloc_new _ _
  have HC := Lib.hid (Cur.new (c := c) (byts_on9 hb hbW) 61)
  have hbC := gAlloc W (.cells #[.slice A zs.length c, .int .i64 0, .int .u64 0] 61)
  have HB := Lib.hid (below_more hbW hbC)
  have HR := Lib.hid ((hbC.block _ (by omega)).trans hRW)
  clear hb hbW hbC hRW
  have HsW := Lib.hid hsW
  clear hsW
  go_enter Tryz.func5, Tryz.ntmps5
  go_wp2_with fail
  refine (logDisk10 W.heap.size 0 _ HC.out (by omega)).mono ?_
  rintro e w3 ⟨v1, v2, ss, ps, rfl, ho3, hl1, hl2, hz1, hz2, hc3, hg3⟩
  obtain ⟨A1, B1, c1, d1, rfl, rfl, -⟩ := lies1 ho3
  have hR3 : w3.heap[w.heap.size]? = some (.cells #[.slice none 0 0, .slice none 0 0] 26 (0, 0)) := (hg3.block _ (heap_lt HR.out) (by intro e; injection e with e; have := HsW.out; omega)).trans HR.out
  have HO3 := Lib.hid (ho3.lower (base' := w.heap.size + 2) (by rw [World.heap_size_alloc9]; have := HsW.out; omega))
  have HL := Lib.hid (⟨hl1, hl2, hz1, hz2⟩ : ss.length = 12 ∧ ps.length ≤ 41 ∧ (∀ s ∈ ss, s.size ≤ 16) ∧ ∀ p ∈ ps, p.2.size ≤ 16)
  have HR3 := Lib.hid hR3
  have HC3 := Lib.hid hc3
  have HB3 := Lib.hid (HB.out.grown hg3 HB.out.size (fun k hk => by injection hk with hk; have := HsW.out; omega))
  have hs3 := hg3.size
  rw [World.heap_size_alloc9] at hs3
  clear ho3 hl1 hl2 hz1 hz2 hc3 hg3 hR3 hW HC HB HR
  obtain ⟨wd, hwd⟩ : ∃ wd, w3.alloc (.cells #[.slice A1 ss.length c1, .slice B1 ps.length d1] 26) = wd := ⟨_, rfl⟩
  have hbd : Below w3.heap.size w3 wd := by rw [← hwd]; exact gAlloc _ _
  have hDd : wd.heap[w3.heap.size]? = some (.cells #[.slice A1 ss.length c1, .slice B1 ps.length d1] 26 (0, 0)) := by rw [← hwd]; exact heap_alloc_new _ _
  have HDd := Lib.hid hDd
  have HOd := Lib.hid (HO3.out.below hbd)
  have HRd := Lib.hid ((hbd.block _ (heap_lt HR3.out)).trans HR3.out)
  have HCd := Lib.hid (HC3.out.below hbd)
  have HBd := Lib.hid (below_more HB3.out hbd)
  have hl41 : ps.length ≤ 41 := HL.out.2.1
  have dd0 : wd.cell? ⟨w3.heap.size, 0, none⟩ = some (.slice A1 ss.length c1) := cell_of_row _ _ 0 _ _ _ hDd
  have dd1 : wd.cell? ⟨w3.heap.size, 1, none⟩ = some (.slice B1 ps.length d1) := cell_of_row _ _ 1 _ _ _ hDd
  clear hbd hDd HO3 HR3 HC3 HB3
  go_wp2_with fail
  refine (some_any W.heap.size _ ps.length _ HCd.out (by omega) (by omega)).mono ?_
  rintro e w4 ⟨v3, ks, rfl, ho4, hk4, hc4, hg4⟩
  clear dd0 dd1 hwd
  have HO4 := Lib.hid (HOd.out.cur9 (show W.heap.size < w.heap.size + 2 by have := HsW.out; omega) hg4)
  have HR4 := Lib.hid ((hg4.block _ (heap_lt HRd.out) (by intro e; injection e with e; have := HsW.out; omega)).trans HRd.out)
  have HD4 := Lib.hid ((hg4.block _ (heap_lt HDd.out) (by intro e; injection e with e; have := HsW.out; omega)).trans HDd.out)
  have HB4 := Lib.hid (HBd.out.grown hg4 HBd.out.size (fun k hk => by injection hk with hk; have := HsW.out; omega))
  have dd0 : w4.cell? ⟨w3.heap.size, 0, none⟩ = some (.slice A1 ss.length c1) := cell_of_row _ _ 0 _ _ _ HD4.out
  have dd1 : w4.cell? ⟨w3.heap.size, 1, none⟩ = some (.slice B1 ps.length d1) := cell_of_row _ _ 1 _ _ _ HD4.out
  have HK4 := Lib.hid (ho4.lower (base' := w.heap.size + 2) (by have := heap_lt HDd.out; have := HsW.out; omega))
  have HKl := Lib.hid (show ks.length ≤ 42 by omega)
  have HC4 := Lib.hid hc4
  obtain ⟨A4, c4, rfl, _⟩ := ho4.form
  clear ho4 hk4 hc4 hg4 HOd HRd HDd HBd HCd
  go_wp2_with fail
  refine (pick_any W.heap.size _ _ _ HC4.out (by omega) (by omega)).mono ?_
  rintro e w5 ⟨r5, rfl, ⟨hr50, hr51⟩, hc5, hg5⟩
  have hr52 : r5 ≤ 41 := by omega
  clear dd0 dd1 hr51
  have HO5 := Lib.hid (HO4.out.cur9 (show W.heap.size < w.heap.size + 2 by have := HsW.out; omega) hg5)
  have HR5 := Lib.hid ((hg5.block _ (heap_lt HR4.out) (by intro e; injection e with e; have := HsW.out; omega)).trans HR4.out)
  have HD5 := Lib.hid ((hg5.block _ (heap_lt HD4.out) (by intro e; injection e with e; have := HsW.out; omega)).trans HD4.out)
  have HB5 := Lib.hid (HB4.out.grown hg5 HB4.out.size (fun k hk => by injection hk with hk; have := HsW.out; omega))
  have dd0 : w5.cell? ⟨w3.heap.size, 0, none⟩ = some (.slice A1 ss.length c1) := cell_of_row _ _ 0 _ _ _ HD5.out
  have dd1 : w5.cell? ⟨w3.heap.size, 1, none⟩ = some (.slice B1 ps.length d1) := cell_of_row _ _ 1 _ _ _ HD5.out
  have HK5 := Lib.hid (HK4.out.cur (show W.heap.size < w.heap.size + 2 by have := HsW.out; omega) hg5)
  have HC5 := Lib.hid hc5
  clear hc5 hg5 HO4 HR4 HD4 HB4 HK4 HC4
  go_wp2_with fail
  refine (pick_any W.heap.size _ 17 _ HC5.out (by omega) (by omega)).mono ?_
  rintro e w6 ⟨r6, rfl, ⟨hr60, hr61⟩, hc6, hg6⟩
  have hr62 : r6 ≤ 17 := by omega
  clear dd0 dd1 hr61
  have HO6 := Lib.hid (HO5.out.cur9 (show W.heap.size < w.heap.size + 2 by have := HsW.out; omega) hg6)
  have HR6 := Lib.hid ((hg6.block _ (heap_lt HR5.out) (by intro e; injection e with e; have := HsW.out; omega)).trans HR5.out)
  have HD6 := Lib.hid ((hg6.block _ (heap_lt HD5.out) (by intro e; injection e with e; have := HsW.out; omega)).trans HD5.out)
  have HB6 := Lib.hid (HB5.out.grown hg6 HB5.out.size (fun k hk => by injection hk with hk; have := HsW.out; omega))
  have dd0 : w6.cell? ⟨w3.heap.size, 0, none⟩ = some (.slice A1 ss.length c1) := cell_of_row _ _ 0 _ _ _ HD6.out
  have dd1 : w6.cell? ⟨w3.heap.size, 1, none⟩ = some (.slice B1 ps.length d1) := cell_of_row _ _ 1 _ _ _ HD6.out
  have HK6 := Lib.hid (HK5.out.cur (show W.heap.size < w.heap.size + 2 by have := HsW.out; omega) hg6)
  clear hc6 hg6 HO5 HR5 HD5 HB5 HK5 HC5
  have x0 : w6.cell? ⟨w.heap.size, 0, none⟩ = some (.slice none 0 0) := cell_of_row _ _ 0 _ _ _ HR6.out
  have x1 : w6.cell? ⟨w.heap.size, 1, none⟩ = some (.slice none 0 0) := cell_of_row _ _ 1 _ _ _ HR6.out
  have f0 := frozen_of_row w6 _ 0 _ _ HR6.out
  have f1 := frozen_of_row w6 _ 1 _ _ HR6.out
  have hgo : ((w6.setCell ⟨w.heap.size, 0, none⟩ (.slice A1 ss.length c1)).setCell ⟨w.heap.size, 1, none⟩ (.slice B1 ps.length d1)).heap[w.heap.size]? = some (.cells #[.slice A1 ss.length c1, .slice B1 ps.length d1] 26 (0, 0)) := heap_setCell_same _ _ 1 _ _ _ (heap_setCell_same _ _ 0 _ _ _ HR6.out)
  have hx1 : ∀ g, (Value.slice A1 ss.length c1).ownBlock = some g → g ≠ w.heap.size := fun g hg => by have := (HO6.out.sure.lt g hg).1; omega
  have hx2 : ∀ g, (Value.slice B1 ps.length d1).ownBlock = some g → g ≠ w.heap.size := fun g hg => by have := (HO6.out.later.lt g hg).1; omega
  have HX1 := Lib.hid hx1
  have HX2 := Lib.hid hx2
  have HGo := Lib.hid hgo
  have HKf : Hid (Own ((w6.setCell ⟨w.heap.size, 0, none⟩ (.slice A1 ss.length c1)).setCell ⟨w.heap.size, 1, none⟩ (.slice B1 ps.length d1)) w.heap.size (.slice A4 ks.length c4) ks) := ((HK6.out.cur (show w.heap.size < w.heap.size + 2 by omega) (gSet9 _ _ _ _)).cur (show w.heap.size < w.heap.size + 2 by omega) (gSet9 _ _ _ _)).lower (by omega)
  clear hx1 hx2 hgo
  by_cases ht : r5 - 1 < 0
  · go_wp2_with fail
    obtain ⟨l1, l2, l3, l4⟩ := HL.out
    exact ret_dk4 rfl w.heap.size _ _ _ _ _ rfl rfl rfl rfl HGo.out rfl ⟨_, _, _, _, _, _, _, _, rfl, ⟨((HO6.out.set9 HX1.out HX2.out _ _).set9 HX1.out HX2.out _ _).lower (by omega), l1, l2, l3, l4, (HB6.out.setCell (Nat.le_refl _) _).setCell (Nat.le_refl _) _⟩, HKf.out, HKl.out, by omega, by omega, by omega, by omega⟩
  · go_wp2_with fail
    obtain ⟨l1, l2, l3, l4⟩ := HL.out
    exact ret_dk4 rfl w.heap.size _ _ _ _ _ rfl rfl rfl rfl HGo.out rfl ⟨_, _, _, _, _, _, _, _, rfl, ⟨((HO6.out.set9 HX1.out HX2.out _ _).set9 HX1.out HX2.out _ _).lower (by omega), l1, l2, l3, l4, (HB6.out.setCell (Nat.le_refl _) _).setCell (Nat.le_refl _) _⟩, HKf.out, HKl.out, by omega, by omega, by omega, by omega⟩
theorem results_dk5 {fn : Func} {p u x y z : Tmp} {ty : TypeId} (h : fn.results = #[.cell p ty, .tmp u, .tmp x, .tmp y, .tmp z]) (tmps : Array Value) (P : Program) (w : World) :
    (results fn tmps).run P w =
      ((asAddr (tmps.getD p undef)).run P w).andThen fun a w₁ => ((loadVar ty a).run P w₁).andThen fun v w₂ => .ok (.tuple #[v, tmps.getD u undef, tmps.getD x undef, tmps.getD y undef, tmps.getD z undef]) w₂ := by
  simp only [results, h]
  simp [Sem.run_bind, Result.andThen]
theorem ret_dk5 {fn : Func} {p q r t s : Tmp} (h : fn.results = #[.cell p 26, .tmp q, .tmp r, .tmp t, .tmp s]) {R : Ending → World → Prop} {a : Act} {w : World} (g : Nat) (u v x y z l : Value) (hp : a.tmps.getD p undef = .pointer (some ⟨g, 0, none⟩)) (hu : a.tmps.getD q undef = x) (hr : a.tmps.getD r undef = y) (ht : a.tmps.getD t undef = z) (hs : a.tmps.getD s undef = l)
    (hg : w.heap[g]? = some (.cells #[u, v] 26 (0, 0))) (hd : a.defers = []) (hR : R (.returned (.tuple #[diskV u v, x, y, z, l])) w) : bodyPost Tryz.prog fn R .ret a w := by
  have hp' : a.tmps[p]?.getD undef = .pointer (some ⟨g, 0, none⟩) := by simpa using hp
  have hu' : a.tmps[q]?.getD undef = x := by simpa using hu
  have hr' : a.tmps[r]?.getD undef = y := by simpa using hr
  have ht' : a.tmps[t]?.getD undef = z := by simpa using ht
  have hs' : a.tmps[s]?.getD undef = l := by simpa using hs
  refine bodyPost_ret (v := .tuple #[diskV u v, x, y, z, l]) ?_ hd hR
  rw [results_dk5 h]
  simp [hp', hu', hr', ht', hs', asAddr, run_loadVar_row w g 26 26 #[u, v] (0, 0) _ hg Tryz.underlying26 rfl infoDk]
/-- make([]byte, n), and its text wherever it stands still. -/
theorem make_by (n : Nat) (hn : n ≤ 1000) (W : World) : ∃ w', (Instr.makeSlice 22 (.int .i64 (n : Nat)) (.int .i64 (n : Nat))).run Tryz.prog W = .ok (.slice (some ⟨W.heap.size, 0, none⟩) n n) w' ∧ W.grownBy w' none ∧
    ∀ w'', w'.grownBy w'' none → (convert 22 9 (.slice (some ⟨W.heap.size, 0, none⟩) n n)).run Tryz.prog w'' = .ok (.string (strB (List.replicate n 0))) w'' := by
  obtain ⟨i1, hi1, hy0, hy1, hy2⟩ := info_parts byteInfo9
  obtain ⟨wM, hrun, r1, r2⟩ := run_make_full (P := Tryz.prog) W W.heap.size 22 5 i1 (.int .u8 0) 1 Tryz.underlying22 hi1 hy0 hy1 .i64 .i64 n (by rw [hy2]; omega) (by unfold maxLen; omega) (Nat.le_refl _)
  refine ⟨wM, hrun, r2, fun w'' hg => ?_⟩
  have r3 := World.ownsRow.kept r1 hg (Or.inr (by simp [Value.ownBlock]))
  have h := convB (w := w'') (g := W.heap.size) (cap := n) (T := List.replicate n 0) (fun i hi => by
    have := World.ownsRow.cellAt r3 i (by simp at hi; omega)
    rw [made_row _ _ rfl] at this
    have hi' : i < n := by simpa using hi
    rw [this, List.getElem?_replicate, if_pos hi', List.getElem_replicate]
    rfl)
  rw [List.length_replicate] at h
  exact h
end Go.Proofs.YthbjcipdneminaaGreatDoor
