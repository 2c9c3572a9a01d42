/-
  The program's chapter 11, first part: copies of slices, good allocators, reservations, a crash, LostIn.
-/
import Derived.Test.YtbegikjoialahaaGY
namespace Go.Proofs.Ytbegikjoialahaa
open Go.RowKit

theorem eqNil11 (a : Addr) (l c : Nat) (w : World) : (binOp .eql 25 (.slice (some a) l c) (.slice none 0 0)).run Try.prog w = .ok (.bool false) w := by
  simp only [binOp]
  simp [run_equal_slice_nil w 25 3 (some a) l c Try.underlying25]
theorem eqNil11n (w : World) : (binOp .eql 25 (.slice none 0 0) (.slice none 0 0)).run Try.prog w = .ok (.bool true) w := by
  simp only [binOp]
  simp [run_equal_slice_nil w 25 3 none 0 0 Try.underlying25]
set_option maxRecDepth 100000 in
set_option maxHeartbeats 1000000 in
theorem iClone11 (A : Option Addr) (zs : List Int) (ca : Nat) (w : World) (ha : Ints w A zs) (hA : Lies9 A ca) (hl : zs.length ≤ 1000000) :
    Calls Try.prog 66 #[.slice A zs.length ca] w fun e w' => ∃ v, e = .returned v ∧ Own w' w.heap.size v zs ∧ Below w.heap.size w w' := by
  rcases hA with ⟨rfl, rfl⟩ | ⟨g, o, rfl⟩
  · have hB0 : zs = [] := by
      cases zs with
      | nil => rfl
      | cons x l => obtain ⟨b, o, e, _⟩ := ha (by simp); cases e
    subst hB0
    have hnil := eqNil11n w
    clear ha
    go_enter Try.func66, Try.ntmps66
    go_wp2_with fail
    go_ret
    exact ⟨_, rfl, Own.nil _ _, Below.refl _ _⟩
  · have hnil := eqNil11 ⟨g, o, none⟩ zs.length ca w
    have HA := Lib.hid ha
    have HL : Hid (Lies9 (some ⟨g, o, none⟩) ca) := Or.inr ⟨g, o, rfl⟩
    clear ha
    go_enter Try.func66, Try.ntmps66
    go_wp2_with (at_builtin; refine app_copyI w zs (some ⟨g, o, none⟩) ca zs.length rfl w.heap.size rfl rfl _ _ rfl rfl rfl HL.out HA.out hl ?_; intro v1 w1 J1; obtain ⟨B1, c1, rfl, _⟩ := J1.out.1.form)
    go_ret
    exact ⟨_, rfl, J1.out.1, J1.out.2⟩

theorem ris_01 {x c : Int} {r : List Int} (h : 1 ≤ x) : risB 0 c (x :: r) = risB 1 c (x :: r) := by
  rw [risB, risB]
  by_cases hc : c ≤ x
  · rw [if_pos (Or.inr hc), if_pos (Or.inr hc)]
  · rw [if_neg (by omega), if_neg (by omega)]
theorem ris_lt {x c : Int} {r : List Int} (h : x < 1) : risB 1 c (x :: r) = false := by rw [risB, if_pos (Or.inl h)]
set_option maxRecDepth 100000 in
set_option maxHeartbeats 1000000 in
theorem iGiven11 (A : Option Addr) (zs : List Int) (ca : Nat) (n : Int) (w : World) (ha : Ints w A zs) (hl : zs.length ≤ 1048576) (hn : n ≤ 1048576) :
    Calls Try.prog 46 #[.slice A zs.length ca, .int .i64 n] w fun e w' => e = .returned (.bool (risB 1 n zs && decide ((zs.length : Int) ≤ 60))) ∧ w = w' := by
  have HRi := Lib.hid (iRising A zs ca n w ha hl hn)
  cases hz : zs with
  | nil =>
    subst hz
    have HE : Hid ((risB 1 n [] && decide ((([] : List Int).length : Int) ≤ 60)) = true) := rfl
    rw [show risB 0 n [] = true from rfl] at HRi
    clear ha
    go_enter Try.func46, Try.ntmps46
    go_wp2_with (go_at_call 65; refine HRi.out.mono ?_; rintro e w' ⟨rfl, rfl⟩)
    go_ret
    exact ⟨ret_bool' HE.out.symm, rfl⟩
  | cons x r =>
    have hne : zs ≠ [] := by rw [hz]; simp
    obtain ⟨g, o, rfl, hcell⟩ := ha hne
    have hc0 : w.cell? ⟨g, o, none⟩ = some (.int .i64 x) := by
      have h0 := hcell 0 (by rw [hz]; simp)
      have h1 : zs[0]?.getD 0 = x := by rw [hz]; rfl
      have h2 : w.cell? ⟨g, o, none⟩ = some (.int .i64 (zs[0]?.getD 0)) := by simpa using h0
      rw [h1] at h2
      exact h2
    have hpos : 0 < zs.length := by rw [hz]; simp
    rw [← hz]
    obtain ⟨N, hN⟩ : ∃ N, zs.length = N := ⟨_, rfl⟩
    have hposi : (0 : Int) < (N : Int) := by omega
    by_cases hx : x < 1
    · have HE : Hid ((risB 1 n zs && decide ((zs.length : Int) ≤ 60)) = false) := by show _ = _; rw [hz, ris_lt hx]; rfl
      rw [hN] at HE HRi hpos ⊢
      clear ha hz hne hcell hl hN HRi
      go_enter Try.func46, Try.ntmps46
      go_wp2_with fail
      go_ret
      exact ⟨ret_bool' HE.out.symm, rfl⟩
    · by_cases h60 : N ≤ 60
      · have h60i : (N : Int) ≤ 60 := by omega
        have HE : Hid ((risB 1 n zs && decide ((zs.length : Int) ≤ 60)) = risB 1 n zs) := by show _ = _; rw [hN]; simp [h60i]
        rw [show risB 0 n zs = risB 1 n zs by rw [hz]; exact ris_01 (by omega)] at HRi
        rw [hN] at HE HRi hpos ⊢
        generalize risB 1 n zs = b at *
        clear ha hz hne hcell hl hN
        go_enter Try.func46, Try.ntmps46
        go_wp2_with (go_at_call 65; refine HRi.out.mono ?_; rintro e w' ⟨rfl, rfl⟩)
        go_ret
        exact ⟨ret_bool' HE.out.symm, rfl⟩
      · have h60i : ¬ (N : Int) ≤ 60 := by omega
        have HE : Hid ((risB 1 n zs && decide ((zs.length : Int) ≤ 60)) = false) := by show _ = _; rw [hN]; simp [h60i]
        rw [hN] at HE HRi hpos ⊢
        clear ha hz hne hcell hl hN HRi
        go_enter Try.func46, Try.ntmps46
        go_wp2_with fail
        go_ret
        exact ⟨ret_bool' HE.out.symm, rfl⟩

theorem gv_bad {n a s : Int} {zs : List Int} (h : ¬ (s ≤ a ∧ a ≤ 1000 ∧ a ≤ s + 4 ∧ 1 ≤ n ∧ n ≤ s + 1)) : goodGB n a s zs = false := by
  cases hg : goodGB n a s zs with
  | false => rfl
  | true =>
    obtain ⟨h1, h2, h3, h4, -⟩ := gvr_ok hg
    exact absurd ⟨h2.2, h1.2, h3, h4.1, h4.2⟩ h
theorem gv_rest {n a s : Int} {zs : List Int} (h1 : s ≤ a) (h2 : a ≤ 1000) (h3 : a ≤ s + 4) (h4 : 1 ≤ n) (h5 : n ≤ s + 1) : goodGB n a s zs = (risB 1 n zs && decide ((zs.length : Int) ≤ 60)) := by
  have e1 : inB a 0 1000 = true := by simp [inB]; omega
  have e2 : inB s 0 a = true := by simp [inB]; omega
  have e3 : inB n 1 (s + 1) = true := by simp [inB]; omega
  rw [goodGB, e1, e2, e3]
  simp [h3]
set_option maxRecDepth 100000 in
set_option maxHeartbeats 4000000 in
theorem iGoodG (n a s : Int) (A : Option Addr) (zs : List Int) (ca : Nat) (w : World) (ha : Ints w A zs) (hl : zs.length ≤ 1048576) (hs : -9223372036854775808 ≤ s) :
    Calls Try.prog 17 #[gvV n a s (.slice A zs.length ca)] w fun e w' => e = .returned (.bool (goodGB n a s zs)) ∧ Below w.heap.size w w' := by
  obtain ⟨W, hW⟩ : ∃ W, w.alloc (.cells #[.int .i64 n, .int .i64 a, .int .i64 s, .slice A zs.length ca] 27) = W := ⟨_, rfl⟩
  have hbW : Below w.heap.size w W := by rw [← hW]; exact gAlloc _ _
  have h1 : W.heap[w.heap.size]? = some (.cells #[.int .i64 n, .int .i64 a, .int .i64 s, .slice A zs.length ca] 27 (0, 0)) := by rw [← hW]; exact heap_alloc_new _ _
  have x0 : W.cell? ⟨w.heap.size, 0, none⟩ = some (.int .i64 n) := cell_of_row _ _ 0 _ _ _ h1
  have x1 : W.cell? ⟨w.heap.size, 1, none⟩ = some (.int .i64 a) := cell_of_row _ _ 1 _ _ _ h1
  have x2 : W.cell? ⟨w.heap.size, 2, none⟩ = some (.int .i64 s) := cell_of_row _ _ 2 _ _ _ h1
  have x3 : W.cell? ⟨w.heap.size, 3, none⟩ = some (.slice A zs.length ca) := cell_of_row _ _ 3 _ _ _ h1
  have HB := Lib.hid hbW
  have HA := Lib.hid (ha.below hbW)
  clear hbW h1 ha
  by_cases c1 : s ≤ a
  case neg =>
    have HE : Hid (goodGB n a s zs = false) := gv_bad (fun h => c1 (by omega))
    clear HA
    go_enter Try.func17, Try.ntmps17
    go_wp2_with fail
    go_ret
    exact ⟨ret_bool' HE.out.symm, HB.out⟩
  by_cases c2 : a ≤ 1000
  case neg =>
    have HE : Hid (goodGB n a s zs = false) := gv_bad (fun h => c2 (by omega))
    clear HA
    go_enter Try.func17, Try.ntmps17
    go_wp2_with fail
    go_ret
    exact ⟨ret_bool' HE.out.symm, HB.out⟩
  by_cases c3 : a ≤ s + 4
  case neg =>
    have HE : Hid (goodGB n a s zs = false) := gv_bad (fun h => c3 (by omega))
    clear HA
    go_enter Try.func17, Try.ntmps17
    go_wp2_with fail
    go_ret
    exact ⟨ret_bool' HE.out.symm, HB.out⟩
  by_cases c4 : 1 ≤ n
  case neg =>
    have HE : Hid (goodGB n a s zs = false) := gv_bad (fun h => c4 (by omega))
    clear HA
    go_enter Try.func17, Try.ntmps17
    go_wp2_with fail
    go_ret
    exact ⟨ret_bool' HE.out.symm, HB.out⟩
  by_cases c5 : n ≤ s + 1
  case neg =>
    have HE : Hid (goodGB n a s zs = false) := gv_bad (fun h => c5 (by omega))
    clear HA
    go_enter Try.func17, Try.ntmps17
    go_wp2_with fail
    go_ret
    exact ⟨ret_bool' HE.out.symm, HB.out⟩
  have HE : Hid (goodGB n a s zs = (risB 1 n zs && decide ((zs.length : Int) ≤ 60))) := gv_rest c1 c2 c3 c4 c5
  have HGi := Lib.hid (iGiven11 A zs ca n W HA.out hl (by omega))
  clear HA
  generalize (risB 1 n zs && decide ((zs.length : Int) ≤ 60)) = b at *
  go_enter Try.func17, Try.ntmps17
  go_wp2_with (go_at_call 46; refine HGi.out.mono ?_; rintro e w' ⟨rfl, rfl⟩)
  go_ret
  exact ⟨ret_bool' HE.out.symm, HB.out⟩
set_option maxRecDepth 100000 in
set_option maxHeartbeats 2000000 in
theorem iLost11 (n a s : Int) (A : Option Addr) (zs : List Int) (ca : Nat) (w : World) (ha : Ints w A zs) (hl : zs.length ≤ 1048576) (hs : -9223372036854775808 ≤ s) :
    Calls Try.prog 16 #[gvV n a s (.slice A zs.length ca)] w fun e w' => e = .returned (.tuple #[.int .i64 (loI n a s zs), .bool (goodGB n a s zs)]) ∧ Below w.heap.size w w' := by
  obtain ⟨W, hW⟩ : ∃ W, w.alloc (.cells #[.int .i64 n, .int .i64 a, .int .i64 s, .slice A zs.length ca] 27) = W := ⟨_, rfl⟩
  have hbW : Below w.heap.size w W := by rw [← hW]; exact gAlloc _ _
  have h1 : W.heap[w.heap.size]? = some (.cells #[.int .i64 n, .int .i64 a, .int .i64 s, .slice A zs.length ca] 27 (0, 0)) := by rw [← hW]; exact heap_alloc_new _ _
  have x0 : W.cell? ⟨w.heap.size, 0, none⟩ = some (.int .i64 n) := cell_of_row _ _ 0 _ _ _ h1
  have x1 : W.cell? ⟨w.heap.size, 1, none⟩ = some (.int .i64 a) := cell_of_row _ _ 1 _ _ _ h1
  have x2 : W.cell? ⟨w.heap.size, 2, none⟩ = some (.int .i64 s) := cell_of_row _ _ 2 _ _ _ h1
  have x3 : W.cell? ⟨w.heap.size, 3, none⟩ = some (.slice A zs.length ca) := cell_of_row _ _ 3 _ _ _ h1
  have HG := Lib.hid (iGoodG n a s A zs ca W (ha.below hbW) hl hs)
  have HB := Lib.hid hbW
  have H1 := Lib.hid h1
  clear hbW h1 ha
  cases hg : goodGB n a s zs
  · have hlo : loI n a s zs = 0 := by rw [loI, hg]; rfl
    rw [hg] at HG
    rw [hlo]
    clear hg hlo
    go_enter Try.func16, Try.ntmps16
    go_wp2_with (go_at_call 17; refine HG.out.mono ?_; rintro e w1 ⟨rfl, hb1⟩)
    go_ret2
    exact ⟨rfl, below_more HB.out hb1⟩
  · have hlo : loI n a s zs = n - 1 - (zs.length : Int) := by rw [loI, hg]; rfl
    obtain ⟨⟨g1, g2⟩, ⟨g3, g4⟩, g5, ⟨g6, g7⟩, -, g9⟩ := gvr_ok hg
    rw [hg] at HG
    rw [hlo]
    have g9i : (zs.length : Int) ≤ 60 := by omega
    clear hg hlo
    go_enter Try.func16, Try.ntmps16
    go_wp2_with (go_at_call 17; refine HG.out.mono ?_; rintro e w1 ⟨rfl, hb1⟩; have H2 := Lib.hid ((hb1.block _ (heap_lt H1.out)).trans H1.out); have y0 : w1.cell? ⟨w.heap.size, 0, none⟩ = some (.int .i64 n) := cell_of_row _ _ 0 _ _ _ H2.out; have y1 : w1.cell? ⟨w.heap.size, 1, none⟩ = some (.int .i64 a) := cell_of_row _ _ 1 _ _ _ H2.out; have y2 : w1.cell? ⟨w.heap.size, 2, none⟩ = some (.int .i64 s) := cell_of_row _ _ 2 _ _ _ H2.out; have y3 : w1.cell? ⟨w.heap.size, 3, none⟩ = some (.slice A zs.length ca) := cell_of_row _ _ 3 _ _ _ H2.out)
    go_ret2
    exact ⟨rfl, below_more HB.out hb1⟩

set_option maxRecDepth 100000 in
set_option maxHeartbeats 2000000 in
theorem iResv (sure next : Int) (A : Option Addr) (zs : List Int) (ca : Nat) (w : World) (ha : Ints w A zs) (hA : Lies9 A ca) (hl : zs.length ≤ 1000000) (h0 : 0 ≤ sure) (h1 : sure ≤ 1000) :
    Calls Try.prog 48 #[.int .i64 sure, .int .i64 next, .slice A zs.length ca] w fun e w' => ∃ v, e = .returned (gvV next (min 1000 (sure + 4)) sure v) ∧ Own w' w.heap.size v zs ∧ Below w.heap.size w w' := by
  obtain ⟨W, hW⟩ : ∃ W, w.alloc (.cells #[.int .i64 0, .int .i64 0, .int .i64 0, .slice none 0 0] 27) = W := ⟨_, rfl⟩
  have hbW : Below w.heap.size w W := by rw [← hW]; exact gAlloc _ _
  have hsW : W.heap.size = w.heap.size + 1 := by rw [← hW]; simp
  have HR : Hid (W.heap[w.heap.size]? = some (.cells #[.int .i64 0, .int .i64 0, .int .i64 0, .slice none 0 0] 27 (0, 0))) := by rw [← hW]; exact heap_alloc_new _ _
  have HCl := Lib.hid (iClone11 A zs ca W (ha.below hbW) hA hl)
  have HB := Lib.hid hbW
  have HS := Lib.hid hsW
  have hm : min (sure + 4) 1000 = min 1000 (sure + 4) := Int.min_comm _ _
  have HM := Lib.hid hm
  clear hbW hsW ha hm
  go_enter Try.func48, Try.ntmps48
  go_wp2_with fail
  refine HCl.out.mono ?_
  rintro e w1 ⟨v, rfl, ho1, hb1⟩
  obtain ⟨B1, c1, rfl, -⟩ := ho1.form
  have hR1 : w1.heap[w.heap.size]? = some (.cells #[.int .i64 0, .int .i64 0, .int .i64 0, .slice none 0 0] 27 (0, 0)) := (hb1.block _ (heap_lt HR.out)).trans HR.out
  have z0 : w1.cell? ⟨w.heap.size, 0, none⟩ = some (.int .i64 0) := cell_of_row _ _ 0 _ _ _ hR1
  have z1 : w1.cell? ⟨w.heap.size, 1, none⟩ = some (.int .i64 0) := cell_of_row _ _ 1 _ _ _ hR1
  have z2 : w1.cell? ⟨w.heap.size, 2, none⟩ = some (.int .i64 0) := cell_of_row _ _ 2 _ _ _ hR1
  have z3 : w1.cell? ⟨w.heap.size, 3, none⟩ = some (.slice none 0 0) := cell_of_row _ _ 3 _ _ _ hR1
  have f0 := frozen_of_row w1 _ 0 _ _ hR1
  have f1 := frozen_of_row w1 _ 1 _ _ hR1
  have f2 := frozen_of_row w1 _ 2 _ _ hR1
  have f3 := frozen_of_row w1 _ 3 _ _ hR1
  have HR1 := Lib.hid hR1
  have HO := Lib.hid ho1
  have HB1 := Lib.hid (below_more HB.out hb1)
  clear hR1 ho1 hb1 hW
  go_wp2_with fail
  have hs := HS.out
  refine ret_gv rfl w.heap.size next (min (sure + 4) 1000) sure _ rfl (gv_stored rfl HR1.out _ _ _ _) rfl ⟨_, by rw [HM.out], ?_, below_gv HB1.out (Nat.le_refl _) _ _ _ _⟩
  exact (own_off HO.out _ _ _ _ (fun g hg => by have := (HO.out.lt g hg).1; omega)).lower (by omega)
set_option maxRecDepth 100000 in
set_option maxHeartbeats 2000000 in
theorem iNewGv (w : World) : Calls Try.prog 20 #[] w fun e w' => ∃ v, e = .returned (gvV 1 4 0 v) ∧ Own w' w.heap.size v [] ∧ Below w.heap.size w w' := by
  obtain ⟨W, hW⟩ : ∃ W, w.alloc (.cells #[.int .i64 0, .int .i64 0, .int .i64 0, .slice none 0 0] 27) = W := ⟨_, rfl⟩
  have hbW : Below w.heap.size w W := by rw [← hW]; exact gAlloc _ _
  have HR : Hid (W.heap[w.heap.size]? = some (.cells #[.int .i64 0, .int .i64 0, .int .i64 0, .slice none 0 0] 27 (0, 0))) := by rw [← hW]; exact heap_alloc_new _ _
  have HRv := Lib.hid (iResv 0 1 none [] 0 W (fun h => absurd rfl h) (Or.inl ⟨rfl, rfl⟩) (by simp) (by decide) (by decide))
  have HB := Lib.hid hbW
  clear hbW
  go_enter Try.func20, Try.ntmps20
  go_wp2_with fail
  refine HRv.out.mono ?_
  rintro e w1 ⟨v, rfl, ho1, hb1⟩
  obtain ⟨B1, c1, rfl, -⟩ := ho1.form
  have hR1 : w1.heap[w.heap.size]? = some (.cells #[.int .i64 0, .int .i64 0, .int .i64 0, .slice none 0 0] 27 (0, 0)) := (hb1.block _ (heap_lt HR.out)).trans HR.out
  have z0 : w1.cell? ⟨w.heap.size, 0, none⟩ = some (.int .i64 0) := cell_of_row _ _ 0 _ _ _ hR1
  have z1 : w1.cell? ⟨w.heap.size, 1, none⟩ = some (.int .i64 0) := cell_of_row _ _ 1 _ _ _ hR1
  have z2 : w1.cell? ⟨w.heap.size, 2, none⟩ = some (.int .i64 0) := cell_of_row _ _ 2 _ _ _ hR1
  have z3 : w1.cell? ⟨w.heap.size, 3, none⟩ = some (.slice none 0 0) := cell_of_row _ _ 3 _ _ _ hR1
  have f0 := frozen_of_row w1 _ 0 _ _ hR1
  have f1 := frozen_of_row w1 _ 1 _ _ hR1
  have f2 := frozen_of_row w1 _ 2 _ _ hR1
  have f3 := frozen_of_row w1 _ 3 _ _ hR1
  have HR1 := Lib.hid hR1
  have HO := Lib.hid ho1
  have hsW : W.heap.size = w.heap.size + 1 := by rw [← hW]; simp
  have HB1 := Lib.hid (below_more HB.out hb1)
  clear hR1 ho1 hb1 hW
  go_wp2_with fail
  refine ret_gv rfl w.heap.size 1 4 0 _ rfl (gv_stored rfl HR1.out _ _ _ _) rfl ⟨_, rfl, ?_, below_gv HB1.out (Nat.le_refl _) _ _ _ _⟩
  exact (own_off HO.out _ _ _ _ (fun g hg => by have := (HO.out.lt g hg).1; omega)).lower (by omega)
set_option maxRecDepth 100000 in
set_option maxHeartbeats 2000000 in
theorem iRestart (n a s : Int) (A : Option Addr) (zs : List Int) (ca : Nat) (p : Bool) (w : World) (ha : Ints w A zs) (hA : Lies9 A ca) (hl : zs.length ≤ 1000000) (h0 : 0 ≤ s) (h1 : s ≤ 1000) (h2 : 0 ≤ a) (h3 : a ≤ 1000) :
    Calls Try.prog 51 #[gvV n a s (.slice A zs.length ca), .bool p] w fun e w' => ∃ v, e = .returned (gvV ((if p = true then a else s) + 1) (min 1000 ((if p = true then a else s) + 4)) (if p = true then a else s) v) ∧ Own w' w.heap.size v zs ∧ Below w.heap.size w w' := by
  obtain ⟨W, hW⟩ : ∃ W, (w.alloc (.cells #[.int .i64 n, .int .i64 a, .int .i64 s, .slice A zs.length ca] 27)).alloc (.cells #[.int .i64 0, .int .i64 0, .int .i64 0, .slice none 0 0] 27) = W := ⟨_, rfl⟩
  have hbW : Below w.heap.size w W := by rw [← hW]; exact gAlloc2 _ _ _
  have hsW : W.heap.size = w.heap.size + 2 := by rw [← hW]; simp
  have hG : W.heap[w.heap.size]? = some (.cells #[.int .i64 n, .int .i64 a, .int .i64 s, .slice A zs.length ca] 27 (0, 0)) := by rw [← hW, heap_alloc_old _ _ _ (by simp)]; exact heap_alloc_new _ _
  have hR : W.heap[w.heap.size + 1]? = some (.cells #[.int .i64 0, .int .i64 0, .int .i64 0, .slice none 0 0] 27 (0, 0)) := by rw [← hW, show w.heap.size + 1 = (w.alloc (.cells #[.int .i64 n, .int .i64 a, .int .i64 s, .slice A zs.length ca] 27)).heap.size by simp]; exact heap_alloc_new _ _
  have x0 : W.cell? ⟨w.heap.size, 0, none⟩ = some (.int .i64 n) := cell_of_row _ _ 0 _ _ _ hG
  have x1 : W.cell? ⟨w.heap.size, 1, none⟩ = some (.int .i64 a) := cell_of_row _ _ 1 _ _ _ hG
  have x2 : W.cell? ⟨w.heap.size, 2, none⟩ = some (.int .i64 s) := cell_of_row _ _ 2 _ _ _ hG
  have x3 : W.cell? ⟨w.heap.size, 3, none⟩ = some (.slice A zs.length ca) := cell_of_row _ _ 3 _ _ _ hG
  have HRv := Lib.hid (fun sure (h0 : 0 ≤ sure) (h1 : sure ≤ 1000) => iResv sure (sure + 1) A zs ca W (ha.below hbW) hA hl h0 h1)
  have HB := Lib.hid hbW
  have HS := Lib.hid hsW
  have HR := Lib.hid hR
  clear hbW hsW ha hG hR
  cases p
  · rw [show (if false = true then a else s) = s from rfl]
    go_enter Try.func51, Try.ntmps51
    go_wp2_with fail
    refine (HRv.out s (by omega) (by omega)).mono ?_
    rintro e w1 ⟨v, rfl, ho1, hb1⟩
    obtain ⟨B1, c1, rfl, -⟩ := ho1.form
    have hR1 : w1.heap[w.heap.size + 1]? = some (.cells #[.int .i64 0, .int .i64 0, .int .i64 0, .slice none 0 0] 27 (0, 0)) := (hb1.block _ (heap_lt HR.out)).trans HR.out
    have z0 : w1.cell? ⟨w.heap.size + 1, 0, none⟩ = some (.int .i64 0) := cell_of_row _ _ 0 _ _ _ hR1
    have z1 : w1.cell? ⟨w.heap.size + 1, 1, none⟩ = some (.int .i64 0) := cell_of_row _ _ 1 _ _ _ hR1
    have z2 : w1.cell? ⟨w.heap.size + 1, 2, none⟩ = some (.int .i64 0) := cell_of_row _ _ 2 _ _ _ hR1
    have z3 : w1.cell? ⟨w.heap.size + 1, 3, none⟩ = some (.slice none 0 0) := cell_of_row _ _ 3 _ _ _ hR1
    have f0 := frozen_of_row w1 _ 0 _ _ hR1
    have f1 := frozen_of_row w1 _ 1 _ _ hR1
    have f2 := frozen_of_row w1 _ 2 _ _ hR1
    have f3 := frozen_of_row w1 _ 3 _ _ hR1
    have HR1 := Lib.hid hR1
    have HO := Lib.hid ho1
    have HB1 := Lib.hid (below_more HB.out hb1)
    clear hR1 ho1 hb1 hW
    go_wp2_with fail
    have hs := HS.out
    refine ret_gv rfl (w.heap.size + 1) (s + 1) (min 1000 (s + 4)) s _ rfl (gv_stored rfl HR1.out _ _ _ _) rfl ⟨_, rfl, ?_, below_gv HB1.out (by omega) _ _ _ _⟩
    exact (own_off HO.out _ _ _ _ (fun g hg => by have := (HO.out.lt g hg).1; omega)).lower (by omega)
  · rw [show (if true = true then a else s) = a from rfl]
    go_enter Try.func51, Try.ntmps51
    go_wp2_with fail
    refine (HRv.out a (by omega) (by omega)).mono ?_
    rintro e w1 ⟨v, rfl, ho1, hb1⟩
    obtain ⟨B1, c1, rfl, -⟩ := ho1.form
    have hR1 : w1.heap[w.heap.size + 1]? = some (.cells #[.int .i64 0, .int .i64 0, .int .i64 0, .slice none 0 0] 27 (0, 0)) := (hb1.block _ (heap_lt HR.out)).trans HR.out
    have z0 : w1.cell? ⟨w.heap.size + 1, 0, none⟩ = some (.int .i64 0) := cell_of_row _ _ 0 _ _ _ hR1
    have z1 : w1.cell? ⟨w.heap.size + 1, 1, none⟩ = some (.int .i64 0) := cell_of_row _ _ 1 _ _ _ hR1
    have z2 : w1.cell? ⟨w.heap.size + 1, 2, none⟩ = some (.int .i64 0) := cell_of_row _ _ 2 _ _ _ hR1
    have z3 : w1.cell? ⟨w.heap.size + 1, 3, none⟩ = some (.slice none 0 0) := cell_of_row _ _ 3 _ _ _ hR1
    have f0 := frozen_of_row w1 _ 0 _ _ hR1
    have f1 := frozen_of_row w1 _ 1 _ _ hR1
    have f2 := frozen_of_row w1 _ 2 _ _ hR1
    have f3 := frozen_of_row w1 _ 3 _ _ hR1
    have HR1 := Lib.hid hR1
    have HO := Lib.hid ho1
    have HB1 := Lib.hid (below_more HB.out hb1)
    clear hR1 ho1 hb1 hW
    go_wp2_with fail
    have hs := HS.out
    refine ret_gv rfl (w.heap.size + 1) (a + 1) (min 1000 (a + 4)) a _ rfl (gv_stored rfl HR1.out _ _ _ _) rfl ⟨_, rfl, ?_, below_gv HB1.out (by omega) _ _ _ _⟩
    exact (own_off HO.out _ _ _ _ (fun g hg => by have := (HO.out.lt g hg).1; omega)).lower (by omega)
end Go.Proofs.Ytbegikjoialahaa
