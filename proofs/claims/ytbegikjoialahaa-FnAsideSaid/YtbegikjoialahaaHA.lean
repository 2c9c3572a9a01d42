/-
  The draws of chapter 11, second part: an allocator (giver).
-/
import Derived.Test.YtbegikjoialahaaGZ
namespace Go.Proofs.Ytbegikjoialahaa
open Go.RowKit

/-- In the midst of the draw: the allocator in block X, the answer's box. -/
structure Gi11 (w wr : World) (B K X : Nat) (n a s : Int) (v : Value) (zs : List Int) : Prop where
  box : wr.heap[X]? = some (.cells #[.int .i64 n, .int .i64 a, .int .i64 s, v] 27 (0, 0))
  own : Own wr (w.heap.size + 1) v zs
  off : ∀ q, v.ownBlock = some q → q ≠ X
  res : wr.heap[w.heap.size]? = some (.cells #[.int .i64 0, .int .i64 0, .int .i64 0, .slice none 0 0] 27 (0, 0))
  cur : Cur wr B K
  grown : w.grownBy wr (some B)
  lt : B < w.heap.size
  le : w.heap.size < X
theorem Gi11.call {w wr w' : World} {B K X : Nat} {n a s : Int} {v : Value} {zs : List Int} (h : Gi11 w wr B K X n a s v zs) (hc : Cur w' B (K + 2)) (hg : wr.grownBy w' (some B)) : Gi11 w w' B (K + 2) X n a s v zs :=
  ⟨(hg.block _ (heap_lt h.box) (by have := h.lt; have := h.le; intro e; injection e with e; omega)).trans h.box, h.own.cur (by have := h.lt; omega) hg, h.off, (hg.block _ (heap_lt h.res) (by have := h.lt; intro e; injection e with e; omega)).trans h.res, hc, grownBy_trans h.grown hg, h.lt, h.le⟩
theorem Gi11.set {w wr : World} {B K X : Nat} {n a s n' a' s' : Int} {v : Value} {zs : List Int} (h : Gi11 w wr B K X n a s v zs) (i : Nat) (u : Value) (e : (#[.int .i64 n, .int .i64 a, .int .i64 s, v] : Array Value).setIfInBounds i u = #[.int .i64 n', .int .i64 a', .int .i64 s', v]) :
    Gi11 w (wr.setCell ⟨X, i, none⟩ u) B K X n' a' s' v zs := by
  have hg : wr.grownBy (wr.setCell ⟨X, i, none⟩ u) (some X) := gSet11 wr X i u
  refine ⟨?_, h.own.kept hg ?_, h.off, (hg.block _ (heap_lt h.res) (by have := h.le; intro e; injection e with e; omega)).trans h.res, h.cur.grown hg (fun g hg => by injection hg with hg; have := h.lt; have := h.le; omega), grown_set h.grown (Nat.le_of_lt h.le) i u, h.lt, h.le⟩
  · rw [← e]; exact heap_setCell_same _ _ _ _ _ _ h.box
  · cases hv : v.ownBlock with
    | none => exact Or.inl rfl
    | some q => exact Or.inr (by intro e; injection e with e; exact h.off q hv e)
theorem Gi11.fin {w wr : World} {B K X : Nat} {n a s : Int} {v : Value} {zs : List Int} (h : Gi11 w wr B K X n a s v zs) (K' : Nat) (hK : K ≤ K') :
    let w' := (((wr.setCell ⟨w.heap.size, 0, none⟩ (.int .i64 n)).setCell ⟨w.heap.size, 1, none⟩ (.int .i64 a)).setCell ⟨w.heap.size, 2, none⟩ (.int .i64 s)).setCell ⟨w.heap.size, 3, none⟩ v
    w'.heap[w.heap.size]? = some (.cells #[.int .i64 n, .int .i64 a, .int .i64 s, v] 27 (0, 0)) ∧ Own w' w.heap.size v zs ∧ Cur w' B K' ∧ w.grownBy w' (some B) :=
  ⟨gv_stored rfl h.res _ _ _ _, (h.own.kept (gGv wr w.heap.size _ _ _ _) (by
    cases hv : v.ownBlock with
    | none => exact Or.inl rfl
    | some q => exact Or.inr (by intro e; injection e with e; have := (h.own.lt q hv).1; omega))).lower (by omega),
   (h.cur.grown (gGv wr w.heap.size _ _ _ _) (fun g hg => by injection hg with hg; have := h.lt; omega)).mono hK, grown_set (grown_set (grown_set (grown_set h.grown (Nat.le_refl _) 0 _) (Nat.le_refl _) 1 _) (Nat.le_refl _) 2 _) (Nat.le_refl _) 3 _⟩
set_option maxRecDepth 100000 in
set_option maxHeartbeats 4000000 in
theorem giver11 (B k : Nat) (w : World) (hcur : Cur w B k) (hk : k ≤ 68719476736) :
    Calls Try.prog 49 #[.pointer (some ⟨B, 0, none⟩)] w fun e w' => ∃ n a s v zs, e = .returned (gvV n a s v) ∧ Own w' w.heap.size v zs ∧ zs.length ≤ 60 ∧ 0 ≤ s ∧ Cur w' B (k + 600) ∧ w.grownBy w' (some B) := by
  have hB := hcur.lt
  have HC := Lib.hid (hcur.below (gAlloc w (.cells #[.int .i64 0, .int .i64 0, .int .i64 0, .slice none 0 0] 27)))
  have HR : Hid ((w.alloc (.cells #[.int .i64 0, .int .i64 0, .int .i64 0, .slice none 0 0] 27)).heap[w.heap.size]? = some (.cells #[.int .i64 0, .int .i64 0, .int .i64 0, .slice none 0 0] 27 (0, 0))) := heap_alloc_new _ _
  clear hcur
  go_enter Try.func49, Try.ntmps49
  go_wp2_with fail
  refine (idSteps11 B k _ HC.out hk).mono ?_
  rintro e w1 ⟨A, c, L, rfl, hO1, hL1, hC1, hG1⟩
  have HR1 : Hid (w1.heap[w.heap.size]? = some (.cells #[.int .i64 0, .int .i64 0, .int .i64 0, .slice none 0 0] 27 (0, 0))) := (hG1.block _ (by rw [World.heap_size_alloc9]; omega) (by intro e; injection e with e; omega)).trans HR.out
  have HG1 := Lib.hid (grownBy_trans (World.grownBy_alloc w _ (some B)) hG1)
  have HC1 := Lib.hid hC1
  have hs1 : w.heap.size + 1 ≤ w1.heap.size := by have := hG1.size; rw [World.heap_size_alloc9] at this; exact this
  have HP := Lib.hid (sPlayG A L c w1 (hO1.rd fId_len) (by omega))
  clear hO1 hC1 hG1 HC HR
  go_wp2_with fail
  refine HP.out.mono ?_
  rintro e w2 ⟨v, dd, rfl, hO2, -, -, hb2⟩
  have hg : L.length ≤ 40 → goodGB (pyG L).1 (pyG L).2.1 (pyG L).2.2.1 (pyG L).2.2.2 = true := fun h => by rw [pyG, if_pos h]; exact pg_good L
  obtain ⟨⟨n, a, s, zs⟩, hp⟩ : ∃ g, pyG L = g := ⟨_, rfl⟩
  have hz : ¬ L.length ≤ 40 → (n, a, s, zs) = ((0, 0, 0, []) : Gvr) := fun h => by rw [← hp, pyG, if_neg h]
  rw [hp] at hO2 hg ⊢
  clear hp HP
  have hO2' : Own w2 w1.heap.size v zs := hO2
  obtain ⟨B1, c1, rfl, -⟩ := hO2'.form
  have HM : Hid (Gi11 w (w2.alloc (.cells #[.int .i64 n, .int .i64 a, .int .i64 s, .slice B1 zs.length c1] 27)) B (k + 500) w2.heap.size n a s (.slice B1 zs.length c1) zs) :=
    ⟨heap_alloc_new _ _, (hO2'.lower hs1).below (gAlloc _ _), fun q hq => by have := (hO2'.lt q hq).2; omega, (heap_alloc_old _ _ _ (Nat.lt_of_lt_of_le (heap_lt HR1.out) hb2.size)).trans ((hb2.block _ (heap_lt HR1.out)).trans HR1.out), (HC1.out.below hb2).below (gAlloc _ _), grownBy_trans (grownBy_trans HG1.out (gBelowR hb2 _)) (World.grownBy_alloc _ _ _), hB, Nat.lt_of_lt_of_le (heap_lt HR1.out) hb2.size⟩
  clear hO2 hO2' HC1 HG1 HR1
  have hne1 : w.heap.size ≠ w2.heap.size := Nat.ne_of_lt HM.out.le
  have hne2 : w2.heap.size ≠ w.heap.size := Nat.ne_of_gt HM.out.le
  by_cases h40 : L.length ≤ 40
  · obtain ⟨⟨-, hd2⟩, ⟨hd3, hd4⟩, -, -, -, hl60⟩ := gvr_ok (show goodGB n a s zs = true from hg h40)
    have hs0 : 0 ≤ s ∧ s ≤ 1000 := ⟨hd3, by omega⟩
    obtain ⟨hsa, hsb⟩ := hs0
    have hdd : decide (L.length ≤ 40) = true := by simp [h40]
    rw [hdd]
    clear hg hz hdd
    go_wp2_with fail
    refine (pick_any B (k + 500) 20 _ HM.out.cur (by omega) (by decide)).mono ?_
    rintro e w5 ⟨x5, rfl, -, hc5, hg5⟩
    have HM5 := Lib.hid (HM.out.call hc5 hg5)
    clear hc5 hg5
    have xe0 : w5.cell? ⟨w2.heap.size, 0, none⟩ = some (.int .i64 (n)) := cell_of_row _ _ 0 _ _ _ HM5.out.box
    have fe0 : w5.frozen? ⟨w2.heap.size, 0, none⟩ = false := frozen_of_row w5 _ 0 _ _ HM5.out.box
    have xe1 : w5.cell? ⟨w2.heap.size, 1, none⟩ = some (.int .i64 (a)) := cell_of_row _ _ 1 _ _ _ HM5.out.box
    have fe1 : w5.frozen? ⟨w2.heap.size, 1, none⟩ = false := frozen_of_row w5 _ 1 _ _ HM5.out.box
    have xe2 : w5.cell? ⟨w2.heap.size, 2, none⟩ = some (.int .i64 (s)) := cell_of_row _ _ 2 _ _ _ HM5.out.box
    have fe2 : w5.frozen? ⟨w2.heap.size, 2, none⟩ = false := frozen_of_row w5 _ 2 _ _ HM5.out.box
    have xe3 : w5.cell? ⟨w2.heap.size, 3, none⟩ = some (.slice B1 zs.length c1) := cell_of_row _ _ 3 _ _ _ HM5.out.box
    have fe3 : w5.frozen? ⟨w2.heap.size, 3, none⟩ = false := frozen_of_row w5 _ 3 _ _ HM5.out.box
    have ze0 : w5.cell? ⟨w.heap.size, 0, none⟩ = some (.int .i64 0) := cell_of_row _ _ 0 _ _ _ HM5.out.res
    have ge0 : w5.frozen? ⟨w.heap.size, 0, none⟩ = false := frozen_of_row w5 _ 0 _ _ HM5.out.res
    have ze1 : w5.cell? ⟨w.heap.size, 1, none⟩ = some (.int .i64 0) := cell_of_row _ _ 1 _ _ _ HM5.out.res
    have ge1 : w5.frozen? ⟨w.heap.size, 1, none⟩ = false := frozen_of_row w5 _ 1 _ _ HM5.out.res
    have ze2 : w5.cell? ⟨w.heap.size, 2, none⟩ = some (.int .i64 0) := cell_of_row _ _ 2 _ _ _ HM5.out.res
    have ge2 : w5.frozen? ⟨w.heap.size, 2, none⟩ = false := frozen_of_row w5 _ 2 _ _ HM5.out.res
    have ze3 : w5.cell? ⟨w.heap.size, 3, none⟩ = some (.slice none 0 0) := cell_of_row _ _ 3 _ _ _ HM5.out.res
    have ge3 : w5.frozen? ⟨w.heap.size, 3, none⟩ = false := frozen_of_row w5 _ 3 _ _ HM5.out.res
    by_cases hx0 : x5 = 0
    · subst hx0
      go_wp2_with fail
      refine (among_lit B ((k + 500) + 2) [0, s + 1, s + 2] w5 HM5.out.cur (by omega) (by simp) (by simp) 3 3 rfl).mono ?_
      rintro e w6 ⟨r, rfl, -, hc6, hg6⟩
      have HM6 := Lib.hid (HM5.out.call hc6 hg6)
      clear hc6 hg6
      have xh0 : w6.cell? ⟨w2.heap.size, 0, none⟩ = some (.int .i64 (n)) := cell_of_row _ _ 0 _ _ _ HM6.out.box
      have fh0 : w6.frozen? ⟨w2.heap.size, 0, none⟩ = false := frozen_of_row w6 _ 0 _ _ HM6.out.box
      have xh1 : w6.cell? ⟨w2.heap.size, 1, none⟩ = some (.int .i64 (a)) := cell_of_row _ _ 1 _ _ _ HM6.out.box
      have fh1 : w6.frozen? ⟨w2.heap.size, 1, none⟩ = false := frozen_of_row w6 _ 1 _ _ HM6.out.box
      have xh2 : w6.cell? ⟨w2.heap.size, 2, none⟩ = some (.int .i64 (s)) := cell_of_row _ _ 2 _ _ _ HM6.out.box
      have fh2 : w6.frozen? ⟨w2.heap.size, 2, none⟩ = false := frozen_of_row w6 _ 2 _ _ HM6.out.box
      have xh3 : w6.cell? ⟨w2.heap.size, 3, none⟩ = some (.slice B1 zs.length c1) := cell_of_row _ _ 3 _ _ _ HM6.out.box
      have fh3 : w6.frozen? ⟨w2.heap.size, 3, none⟩ = false := frozen_of_row w6 _ 3 _ _ HM6.out.box
      have zh0 : w6.cell? ⟨w.heap.size, 0, none⟩ = some (.int .i64 0) := cell_of_row _ _ 0 _ _ _ HM6.out.res
      have gh0 : w6.frozen? ⟨w.heap.size, 0, none⟩ = false := frozen_of_row w6 _ 0 _ _ HM6.out.res
      have zh1 : w6.cell? ⟨w.heap.size, 1, none⟩ = some (.int .i64 0) := cell_of_row _ _ 1 _ _ _ HM6.out.res
      have gh1 : w6.frozen? ⟨w.heap.size, 1, none⟩ = false := frozen_of_row w6 _ 1 _ _ HM6.out.res
      have zh2 : w6.cell? ⟨w.heap.size, 2, none⟩ = some (.int .i64 0) := cell_of_row _ _ 2 _ _ _ HM6.out.res
      have gh2 : w6.frozen? ⟨w.heap.size, 2, none⟩ = false := frozen_of_row w6 _ 2 _ _ HM6.out.res
      have zh3 : w6.cell? ⟨w.heap.size, 3, none⟩ = some (.slice none 0 0) := cell_of_row _ _ 3 _ _ _ HM6.out.res
      have gh3 : w6.frozen? ⟨w.heap.size, 3, none⟩ = false := frozen_of_row w6 _ 3 _ _ HM6.out.res
      have HM7 := Lib.hid (HM6.out.set 0 (.int .i64 r) (n' := r) (a' := a) (s' := s) rfl)
      go_wp2_with fail
      obtain ⟨r1, r2, r3, r4⟩ := HM7.out.fin (k + 600) (by omega)
      refine ret_gv rfl w.heap.size (r) (a) (s) _ rfl r1 rfl ⟨r, a, s, (.slice B1 zs.length c1), zs, rfl, r2, hl60, (by first | exact hsa | exact Int.le_refl 0), r3, r4⟩
    by_cases hx1 : x5 = 1
    · subst hx1
      go_wp2_with fail
      refine (among_lit B ((k + 500) + 2) [-1, 1000, 1001] w5 HM5.out.cur (by omega) (by simp) (by simp) 3 3 rfl).mono ?_
      rintro e w6 ⟨r, rfl, -, hc6, hg6⟩
      have HM6 := Lib.hid (HM5.out.call hc6 hg6)
      clear hc6 hg6
      have xh0 : w6.cell? ⟨w2.heap.size, 0, none⟩ = some (.int .i64 (n)) := cell_of_row _ _ 0 _ _ _ HM6.out.box
      have fh0 : w6.frozen? ⟨w2.heap.size, 0, none⟩ = false := frozen_of_row w6 _ 0 _ _ HM6.out.box
      have xh1 : w6.cell? ⟨w2.heap.size, 1, none⟩ = some (.int .i64 (a)) := cell_of_row _ _ 1 _ _ _ HM6.out.box
      have fh1 : w6.frozen? ⟨w2.heap.size, 1, none⟩ = false := frozen_of_row w6 _ 1 _ _ HM6.out.box
      have xh2 : w6.cell? ⟨w2.heap.size, 2, none⟩ = some (.int .i64 (s)) := cell_of_row _ _ 2 _ _ _ HM6.out.box
      have fh2 : w6.frozen? ⟨w2.heap.size, 2, none⟩ = false := frozen_of_row w6 _ 2 _ _ HM6.out.box
      have xh3 : w6.cell? ⟨w2.heap.size, 3, none⟩ = some (.slice B1 zs.length c1) := cell_of_row _ _ 3 _ _ _ HM6.out.box
      have fh3 : w6.frozen? ⟨w2.heap.size, 3, none⟩ = false := frozen_of_row w6 _ 3 _ _ HM6.out.box
      have zh0 : w6.cell? ⟨w.heap.size, 0, none⟩ = some (.int .i64 0) := cell_of_row _ _ 0 _ _ _ HM6.out.res
      have gh0 : w6.frozen? ⟨w.heap.size, 0, none⟩ = false := frozen_of_row w6 _ 0 _ _ HM6.out.res
      have zh1 : w6.cell? ⟨w.heap.size, 1, none⟩ = some (.int .i64 0) := cell_of_row _ _ 1 _ _ _ HM6.out.res
      have gh1 : w6.frozen? ⟨w.heap.size, 1, none⟩ = false := frozen_of_row w6 _ 1 _ _ HM6.out.res
      have zh2 : w6.cell? ⟨w.heap.size, 2, none⟩ = some (.int .i64 0) := cell_of_row _ _ 2 _ _ _ HM6.out.res
      have gh2 : w6.frozen? ⟨w.heap.size, 2, none⟩ = false := frozen_of_row w6 _ 2 _ _ HM6.out.res
      have zh3 : w6.cell? ⟨w.heap.size, 3, none⟩ = some (.slice none 0 0) := cell_of_row _ _ 3 _ _ _ HM6.out.res
      have gh3 : w6.frozen? ⟨w.heap.size, 3, none⟩ = false := frozen_of_row w6 _ 3 _ _ HM6.out.res
      have HM7 := Lib.hid (HM6.out.set 1 (.int .i64 r) (n' := n) (a' := r) (s' := s) rfl)
      go_wp2_with fail
      obtain ⟨r1, r2, r3, r4⟩ := HM7.out.fin (k + 600) (by omega)
      refine ret_gv rfl w.heap.size (n) (r) (s) _ rfl r1 rfl ⟨n, r, s, (.slice B1 zs.length c1), zs, rfl, r2, hl60, (by first | exact hsa | exact Int.le_refl 0), r3, r4⟩
    go_wp2_with fail
    obtain ⟨r1, r2, r3, r4⟩ := HM5.out.fin (k + 600) (by omega)
    refine ret_gv rfl w.heap.size (n) (a) (s) _ rfl r1 rfl ⟨n, a, s, (.slice B1 zs.length c1), zs, rfl, r2, hl60, (by first | exact hsa | exact Int.le_refl 0), r3, r4⟩
  · have hdd : decide (L.length ≤ 40) = false := by simp [h40]
    rw [hdd]
    clear hg hz hdd
    go_wp2_with fail
    refine (sNewGv _).mono ?_
    rintro e w3 ⟨rfl, hb3⟩
    have hl60 : ([] : List Int).length ≤ 60 := by decide
    have hX3 := (hb3.block _ (heap_lt HM.out.box)).trans HM.out.box
    have hR3 := (hb3.block _ (heap_lt HM.out.res)).trans HM.out.res
    have xd0 : w3.cell? ⟨w2.heap.size, 0, none⟩ = some (.int .i64 n) := cell_of_row _ _ 0 _ _ _ hX3
    have fd0 : w3.frozen? ⟨w2.heap.size, 0, none⟩ = false := frozen_of_row w3 _ 0 _ _ hX3
    have xd1 : w3.cell? ⟨w2.heap.size, 1, none⟩ = some (.int .i64 a) := cell_of_row _ _ 1 _ _ _ hX3
    have fd1 : w3.frozen? ⟨w2.heap.size, 1, none⟩ = false := frozen_of_row w3 _ 1 _ _ hX3
    have xd2 : w3.cell? ⟨w2.heap.size, 2, none⟩ = some (.int .i64 s) := cell_of_row _ _ 2 _ _ _ hX3
    have fd2 : w3.frozen? ⟨w2.heap.size, 2, none⟩ = false := frozen_of_row w3 _ 2 _ _ hX3
    have xd3 : w3.cell? ⟨w2.heap.size, 3, none⟩ = some (.slice B1 zs.length c1) := cell_of_row _ _ 3 _ _ _ hX3
    have fd3 : w3.frozen? ⟨w2.heap.size, 3, none⟩ = false := frozen_of_row w3 _ 3 _ _ hX3
    have HM4 : Hid (Gi11 w ((((w3.setCell ⟨w2.heap.size, 0, none⟩ (.int .i64 1)).setCell ⟨w2.heap.size, 1, none⟩ (.int .i64 4)).setCell ⟨w2.heap.size, 2, none⟩ (.int .i64 0)).setCell ⟨w2.heap.size, 3, none⟩ (.slice none 0 0)) B (k + 500) w2.heap.size 1 4 0 (.slice none 0 0) []) :=
      ⟨gv_stored rfl hX3 _ _ _ _, Own.nil _ _, fun q hq => (by cases hq), ((gGv w3 w2.heap.size _ _ _ _).block _ (heap_lt hR3) (by have := HM.out.le; intro e; injection e with e; omega)).trans hR3, (HM.out.cur.below hb3).grown (gGv w3 w2.heap.size _ _ _ _) (fun g hg => by injection hg with hg; have := HM.out.lt; have := HM.out.le; omega), grown_set (grown_set (grown_set (grown_set (grownBy_trans HM.out.grown (gBelowR hb3 _)) (Nat.le_of_lt HM.out.le) 0 _) (Nat.le_of_lt HM.out.le) 1 _) (Nat.le_of_lt HM.out.le) 2 _) (Nat.le_of_lt HM.out.le) 3 _, HM.out.lt, HM.out.le⟩
    clear hX3 hR3 hb3
    go_wp2_with fail
    refine (pick_any B (k + 500) 20 _ HM4.out.cur (by omega) (by decide)).mono ?_
    rintro e w5 ⟨x5, rfl, -, hc5, hg5⟩
    have HM5 := Lib.hid (HM4.out.call hc5 hg5)
    clear hc5 hg5
    have xe0 : w5.cell? ⟨w2.heap.size, 0, none⟩ = some (.int .i64 (1)) := cell_of_row _ _ 0 _ _ _ HM5.out.box
    have fe0 : w5.frozen? ⟨w2.heap.size, 0, none⟩ = false := frozen_of_row w5 _ 0 _ _ HM5.out.box
    have xe1 : w5.cell? ⟨w2.heap.size, 1, none⟩ = some (.int .i64 (4)) := cell_of_row _ _ 1 _ _ _ HM5.out.box
    have fe1 : w5.frozen? ⟨w2.heap.size, 1, none⟩ = false := frozen_of_row w5 _ 1 _ _ HM5.out.box
    have xe2 : w5.cell? ⟨w2.heap.size, 2, none⟩ = some (.int .i64 (0)) := cell_of_row _ _ 2 _ _ _ HM5.out.box
    have fe2 : w5.frozen? ⟨w2.heap.size, 2, none⟩ = false := frozen_of_row w5 _ 2 _ _ HM5.out.box
    have xe3 : w5.cell? ⟨w2.heap.size, 3, none⟩ = some (.slice none 0 0) := cell_of_row _ _ 3 _ _ _ HM5.out.box
    have fe3 : w5.frozen? ⟨w2.heap.size, 3, none⟩ = false := frozen_of_row w5 _ 3 _ _ HM5.out.box
    have ze0 : w5.cell? ⟨w.heap.size, 0, none⟩ = some (.int .i64 0) := cell_of_row _ _ 0 _ _ _ HM5.out.res
    have ge0 : w5.frozen? ⟨w.heap.size, 0, none⟩ = false := frozen_of_row w5 _ 0 _ _ HM5.out.res
    have ze1 : w5.cell? ⟨w.heap.size, 1, none⟩ = some (.int .i64 0) := cell_of_row _ _ 1 _ _ _ HM5.out.res
    have ge1 : w5.frozen? ⟨w.heap.size, 1, none⟩ = false := frozen_of_row w5 _ 1 _ _ HM5.out.res
    have ze2 : w5.cell? ⟨w.heap.size, 2, none⟩ = some (.int .i64 0) := cell_of_row _ _ 2 _ _ _ HM5.out.res
    have ge2 : w5.frozen? ⟨w.heap.size, 2, none⟩ = false := frozen_of_row w5 _ 2 _ _ HM5.out.res
    have ze3 : w5.cell? ⟨w.heap.size, 3, none⟩ = some (.slice none 0 0) := cell_of_row _ _ 3 _ _ _ HM5.out.res
    have ge3 : w5.frozen? ⟨w.heap.size, 3, none⟩ = false := frozen_of_row w5 _ 3 _ _ HM5.out.res
    by_cases hx0 : x5 = 0
    · subst hx0
      go_wp2_with fail
      refine (among_lit B ((k + 500) + 2) [0, 0 + 1, 0 + 2] w5 HM5.out.cur (by omega) (by simp) (by simp) 3 3 rfl).mono ?_
      rintro e w6 ⟨r, rfl, -, hc6, hg6⟩
      have HM6 := Lib.hid (HM5.out.call hc6 hg6)
      clear hc6 hg6
      have xh0 : w6.cell? ⟨w2.heap.size, 0, none⟩ = some (.int .i64 (1)) := cell_of_row _ _ 0 _ _ _ HM6.out.box
      have fh0 : w6.frozen? ⟨w2.heap.size, 0, none⟩ = false := frozen_of_row w6 _ 0 _ _ HM6.out.box
      have xh1 : w6.cell? ⟨w2.heap.size, 1, none⟩ = some (.int .i64 (4)) := cell_of_row _ _ 1 _ _ _ HM6.out.box
      have fh1 : w6.frozen? ⟨w2.heap.size, 1, none⟩ = false := frozen_of_row w6 _ 1 _ _ HM6.out.box
      have xh2 : w6.cell? ⟨w2.heap.size, 2, none⟩ = some (.int .i64 (0)) := cell_of_row _ _ 2 _ _ _ HM6.out.box
      have fh2 : w6.frozen? ⟨w2.heap.size, 2, none⟩ = false := frozen_of_row w6 _ 2 _ _ HM6.out.box
      have xh3 : w6.cell? ⟨w2.heap.size, 3, none⟩ = some (.slice none 0 0) := cell_of_row _ _ 3 _ _ _ HM6.out.box
      have fh3 : w6.frozen? ⟨w2.heap.size, 3, none⟩ = false := frozen_of_row w6 _ 3 _ _ HM6.out.box
      have zh0 : w6.cell? ⟨w.heap.size, 0, none⟩ = some (.int .i64 0) := cell_of_row _ _ 0 _ _ _ HM6.out.res
      have gh0 : w6.frozen? ⟨w.heap.size, 0, none⟩ = false := frozen_of_row w6 _ 0 _ _ HM6.out.res
      have zh1 : w6.cell? ⟨w.heap.size, 1, none⟩ = some (.int .i64 0) := cell_of_row _ _ 1 _ _ _ HM6.out.res
      have gh1 : w6.frozen? ⟨w.heap.size, 1, none⟩ = false := frozen_of_row w6 _ 1 _ _ HM6.out.res
      have zh2 : w6.cell? ⟨w.heap.size, 2, none⟩ = some (.int .i64 0) := cell_of_row _ _ 2 _ _ _ HM6.out.res
      have gh2 : w6.frozen? ⟨w.heap.size, 2, none⟩ = false := frozen_of_row w6 _ 2 _ _ HM6.out.res
      have zh3 : w6.cell? ⟨w.heap.size, 3, none⟩ = some (.slice none 0 0) := cell_of_row _ _ 3 _ _ _ HM6.out.res
      have gh3 : w6.frozen? ⟨w.heap.size, 3, none⟩ = false := frozen_of_row w6 _ 3 _ _ HM6.out.res
      have HM7 := Lib.hid (HM6.out.set 0 (.int .i64 r) (n' := r) (a' := 4) (s' := 0) rfl)
      go_wp2_with fail
      obtain ⟨r1, r2, r3, r4⟩ := HM7.out.fin (k + 600) (by omega)
      refine ret_gv rfl w.heap.size (r) (4) (0) _ rfl r1 rfl ⟨r, 4, 0, (.slice none 0 0), [], rfl, r2, hl60, (by first | exact hsa | exact Int.le_refl 0), r3, r4⟩
    by_cases hx1 : x5 = 1
    · subst hx1
      go_wp2_with fail
      refine (among_lit B ((k + 500) + 2) [-1, 1000, 1001] w5 HM5.out.cur (by omega) (by simp) (by simp) 3 3 rfl).mono ?_
      rintro e w6 ⟨r, rfl, -, hc6, hg6⟩
      have HM6 := Lib.hid (HM5.out.call hc6 hg6)
      clear hc6 hg6
      have xh0 : w6.cell? ⟨w2.heap.size, 0, none⟩ = some (.int .i64 (1)) := cell_of_row _ _ 0 _ _ _ HM6.out.box
      have fh0 : w6.frozen? ⟨w2.heap.size, 0, none⟩ = false := frozen_of_row w6 _ 0 _ _ HM6.out.box
      have xh1 : w6.cell? ⟨w2.heap.size, 1, none⟩ = some (.int .i64 (4)) := cell_of_row _ _ 1 _ _ _ HM6.out.box
      have fh1 : w6.frozen? ⟨w2.heap.size, 1, none⟩ = false := frozen_of_row w6 _ 1 _ _ HM6.out.box
      have xh2 : w6.cell? ⟨w2.heap.size, 2, none⟩ = some (.int .i64 (0)) := cell_of_row _ _ 2 _ _ _ HM6.out.box
      have fh2 : w6.frozen? ⟨w2.heap.size, 2, none⟩ = false := frozen_of_row w6 _ 2 _ _ HM6.out.box
      have xh3 : w6.cell? ⟨w2.heap.size, 3, none⟩ = some (.slice none 0 0) := cell_of_row _ _ 3 _ _ _ HM6.out.box
      have fh3 : w6.frozen? ⟨w2.heap.size, 3, none⟩ = false := frozen_of_row w6 _ 3 _ _ HM6.out.box
      have zh0 : w6.cell? ⟨w.heap.size, 0, none⟩ = some (.int .i64 0) := cell_of_row _ _ 0 _ _ _ HM6.out.res
      have gh0 : w6.frozen? ⟨w.heap.size, 0, none⟩ = false := frozen_of_row w6 _ 0 _ _ HM6.out.res
      have zh1 : w6.cell? ⟨w.heap.size, 1, none⟩ = some (.int .i64 0) := cell_of_row _ _ 1 _ _ _ HM6.out.res
      have gh1 : w6.frozen? ⟨w.heap.size, 1, none⟩ = false := frozen_of_row w6 _ 1 _ _ HM6.out.res
      have zh2 : w6.cell? ⟨w.heap.size, 2, none⟩ = some (.int .i64 0) := cell_of_row _ _ 2 _ _ _ HM6.out.res
      have gh2 : w6.frozen? ⟨w.heap.size, 2, none⟩ = false := frozen_of_row w6 _ 2 _ _ HM6.out.res
      have zh3 : w6.cell? ⟨w.heap.size, 3, none⟩ = some (.slice none 0 0) := cell_of_row _ _ 3 _ _ _ HM6.out.res
      have gh3 : w6.frozen? ⟨w.heap.size, 3, none⟩ = false := frozen_of_row w6 _ 3 _ _ HM6.out.res
      have HM7 := Lib.hid (HM6.out.set 1 (.int .i64 r) (n' := 1) (a' := r) (s' := 0) rfl)
      go_wp2_with fail
      obtain ⟨r1, r2, r3, r4⟩ := HM7.out.fin (k + 600) (by omega)
      refine ret_gv rfl w.heap.size (1) (r) (0) _ rfl r1 rfl ⟨1, r, 0, (.slice none 0 0), [], rfl, r2, hl60, (by first | exact hsa | exact Int.le_refl 0), r3, r4⟩
    go_wp2_with fail
    obtain ⟨r1, r2, r3, r4⟩ := HM5.out.fin (k + 600) (by omega)
    refine ret_gv rfl w.heap.size (1) (4) (0) _ rfl r1 rfl ⟨1, 4, 0, (.slice none 0 0), [], rfl, r2, hl60, (by first | exact hsa | exact Int.le_refl 0), r3, r4⟩
end Go.Proofs.Ytbegikjoialahaa
