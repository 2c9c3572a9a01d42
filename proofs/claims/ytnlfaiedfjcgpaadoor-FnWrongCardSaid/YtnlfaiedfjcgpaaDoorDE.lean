/-
  The draws of chapter 7.
-/
import Derived.Test.YtnlfaiedfjcgpaaDoorKM
import Derived.ArgAppend
namespace Go.Proofs.YtnlfaiedfjcgpaaDoor
open Go.RowKit

set_option maxRecDepth 100000 in
set_option maxHeartbeats 2000000 in
theorem poly7 (B k m : Nat) (w : World) (hcur : Cur w B k) (hk : k ≤ 68719476736) (hm1 : 1 ≤ m) (hm8 : m ≤ 8) :
    Calls Tryd.prog 40 #[.pointer (some ⟨B, 0, none⟩), .int .i64 m] w fun e w' => ∃ v zs, e = .returned v ∧ Own w' w.heap.size v zs ∧ (1 ≤ zs.length ∧ zs.length ≤ m) ∧ Cur w' B (k + 1000) ∧ w.grownBy w' (some B) := by
  obtain ⟨i0, hi, hz0, hz1, hz2⟩ := info_parts intInfo
  have hB := hcur.lt
  have HC := Lib.hid hcur
  clear hcur
  go_enter Tryd.func40, Tryd.ntmps40
  go_wp2_with fail
  refine (pick_any B k m _ HC.out (by omega) (by omega)).mono ?_
  rintro e w1 ⟨n, rfl, ⟨hn0, hn1⟩, hc1, hg1⟩
  obtain ⟨n, rfl⟩ := Int.eq_ofNat_of_zero_le hn0
  have hn2 : n + 1 ≤ m := by omega
  have HC1 := Lib.hid hc1
  have HG1 := Lib.hid hg1
  clear hc1 hg1 HC hn1 hn0
  go_wp2_with fail
  go_loopg [5, 6] (n + 1) (fun gk v i wr => ∃ zs : List Int, i = .int .i64 gk ∧ zs.length + gk = n + 1 ∧ Own wr w.heap.size v zs ∧ Cur wr B (k + 2 + 6 * zs.length) ∧ w.grownBy wr (some B))
  case atStart => exact ⟨[], by go_num, by simp, Own.nil _ _, HC1.out.mono (by simp), HG1.out⟩
  case round =>
    obtain ⟨zs, rfl, hlen, hown, hc, hg⟩ := hrel
    have HO := Lib.hid hown
    have HC := Lib.hid hc
    have HG := Lib.hid hg
    clear hown hc hg HC1 HG1
    cases gk with
    | zero =>
      have hz : ¬ (0 : Int) < ((0 : Nat) : Int) := by omega
      go_wp2_with fail
      refine (one_any B _ 30 _ HC.out (by omega) (by omega)).mono ?_
      rintro e w2 ⟨bb, rfl, hc2, hg2⟩
      have HO2 := Lib.hid (HO.out.cur hB hg2)
      have HC2 := Lib.hid hc2
      have HG2 := Lib.hid (grownBy_trans HG.out hg2)
      clear hc2 hg2 HO HC HG
      cases bb
      · obtain ⟨A3, c3, rfl, _⟩ := HO2.out.form
        go_wp2_with fail
        go_ret
        first
          | exact ⟨_, zs, rfl, HO2.out, by omega, HC2.out.mono (by omega), HG2.out⟩
          | exact ⟨_, rfl, zs, HO2.out, by omega, HC2.out.mono (by omega), HG2.out⟩
      · rcases HO2.out.2 with ⟨_, hn0⟩ | ⟨g, cap, cur, rfl, hbg, hgc, hle, _⟩
        · omega
        · have hne : g ≠ B := by omega
          have HL := Lib.hid (lit_cells w2 [-1, 256, 257] 3)
          have hltB : B < w2.heap.size := HC2.out.lt
          have hgl : g < w2.heap.size := heap_lt hgc
          clear hgc hle
          have h0 : 0 < zs.length := by omega
          have h0i : (0 : Int) < (zs.length : Int) := by omega
          go_wp2_with fail
          refine (among_any B _ w2.heap.size 0 3 [-1, 256, 257] _ (HC2.out.grown (World.grownBy_alloc _ _ none) (fun g e => by cases e)) (by omega) (by omega) (by simp) (by simp) HL.out).mono ?_
          rintro e w3 ⟨y, rfl, _, hc3, hg3⟩
          have hO3 := (HO2.out.below (gAlloc w2 _)).cur hB hg3
          have hG3 : w.grownBy w3 (some B) := grownBy_trans (grownBy_far HG2.out (World.grownBy_alloc _ _ none) (fun g e => by cases e)) hg3
          have hst := World.ownsRow.stored hO3 0 (.int .i64 y)
          have HSt : Hid (Own (w3.setCell ⟨g, 0, none⟩ (.int .i64 y)) w.heap.size (.slice (some ⟨g, 0, none⟩) zs.length cap) (zs.set 0 y)) := by
            show World.ownsRow _ _ _ _ _ _ _
            rw [List.length_set, List.map_set]
            exact hst.1
          have HC3 : Hid (Cur (w3.setCell ⟨g, 0, none⟩ (.int .i64 y)) B (k + 1000)) := (hc3.mono (by omega)).grown hst.2 (fun g' e => by injection e with e; omega)
          have HG4 : Hid (w.grownBy (w3.setCell ⟨g, 0, none⟩ (.int .i64 y)) (some B)) := grownBy_far hG3 hst.2 (fun g' e => by injection e with e; omega)
          obtain ⟨u0, hc0⟩ : ∃ u0, w3.cell? ⟨g, 0, none⟩ = some u0 := ⟨.int .i64 zs[0], by rw [World.ownsRow.cellAt hO3 0 (by omega)]; simp [h0]⟩
          have hf0 := World.ownsRow.frozenAt hO3 0
          clear hc3 hg3 hO3 hG3 hst
          go_wp2_with fail
          go_ret
          first
            | exact ⟨_, zs.set 0 y, rfl, HSt.out, by rw [List.length_set]; omega, HC3.out, HG4.out⟩
            | exact ⟨_, rfl, zs.set 0 y, HSt.out, by rw [List.length_set]; omega, HC3.out, HG4.out⟩
    | succ j =>
      have hz : (0 : Int) < ((j + 1 : Nat) : Int) := by omega
      go_wp2_with fail
      refine (pick_any B _ 129 _ HC.out (by omega) (by omega)).mono ?_
      rintro e w4 ⟨r, rfl, ⟨hr0, hr1⟩, hc2, hg2⟩
      have hr2 : r ≤ 129 := by omega
      have HO4 := Lib.hid (HO.out.cur hB hg2)
      have HC4 := Lib.hid hc2
      have HG4 := Lib.hid (grownBy_trans HG.out hg2)
      have hsz := HG4.out.size
      have HOR : Hid (w4.ownsRow w.heap.size 3 1 u5 zs.length (zs.map (Value.int .i64))) := HO4.out
      clear hc2 hg2 HO HC HG hr1
      go_wp2_with (at_builtin; refine wpList_append_own _ rfl _ _ 26 rfl w.heap.size 3 i0 (.int .i64 0) 1 8 Tryd.underlying26 hi hz0 hz1 hz2 rfl (by decide) _ _ _ rfl (HOR.out.alloc _) ⟨w4.heap.size, 0, none⟩ 1 1 [.int .i64 (r * 2)] rfl rfl (cell_one_new _ _ _) ?c2 ?c3 ?c4 ?c5 ?_)
      case c2 => intro u hu; simp at hu; subst hu; rfl
      case c3 => unfold maxLen; omega
      case c4 => omega
      case c5 => simp; omega
      · intro v' w5 hown' hgrow _
        have R := appended hB HO4.out HC4.out HG4.out hown' hgrow
        have HR := Lib.hid R
        clear hown' hgrow R HOR HO4 HC4 HG4
        go_wp2_with fail
        go_roundg j
        case measure => omega
        case rel => exact ⟨zs ++ [r * 2], by go_num, by rw [List.length_append]; simp; omega, HR.out.1, HR.out.2.1.mono (by rw [List.length_append]; simp; omega), HR.out.2.2⟩
set_option maxRecDepth 100000 in
set_option maxHeartbeats 400000 in
theorem sMost7 (a b : Int) (w : World) : Calls Tryd.prog 46 #[.int .i64 a, .int .i64 b] w fun e w' => e = .returned (.int .i64 (max a b)) ∧ w = w' := by
  by_cases h : b < a
  · go_enter Tryd.func46, Tryd.ntmps46
    go_wp2_with fail
    go_ret
    exact ⟨ret_int (by omega), rfl⟩
  · go_enter Tryd.func46, Tryd.ntmps46
    go_wp2_with fail
    go_ret
    exact ⟨ret_int (by omega), rfl⟩

/-- A slice of points anywhere in a block that the call made: its elements, and the room behind them. -/
structure SP (w : World) (base g off n c : Nat) (ps : List (Int × Int)) : Prop where
  len : ps.length = n
  le : n ≤ c
  low : base ≤ g
  lt : g < w.heap.size
  cells : ∀ j (h : j < ps.length), w.cell? ⟨g, off + j * 2, none⟩ = some (.int .i64 ps[j].1) ∧ w.cell? ⟨g, off + j * 2 + 1, none⟩ = some (.int .i64 ps[j].2)
  spare : ∀ j, j < (c - n) * 2 → (w.cell? ⟨g, off + n * 2 + j, none⟩).isSome = true ∧ w.frozen? ⟨g, off + n * 2 + j, none⟩ = false
theorem SP.lets {w : World} {base g off n c : Nat} {ps : List (Int × Int)} (h : SP w base g off n c ps) : Lets w (some ⟨g, off, none⟩) ps := fun _ => ⟨g, off, rfl, h.cells⟩
theorem SP.cur {w w' : World} {base g off n c B : Nat} {ps : List (Int × Int)} (h : SP w base g off n c ps) (hB : B < base) (hg : w.grownBy w' (some B)) : SP w' base g off n c ps := by
  have hb : w'.heap[g]? = w.heap[g]? := hg.block g h.lt (by intro e; injection e with e; have := h.low; omega)
  have hc : ∀ o, w'.cell? ⟨g, o, none⟩ = w.cell? ⟨g, o, none⟩ := fun o => World.cell?_of_block (a := ⟨g, o, none⟩) hb
  have hf : ∀ o, w'.frozen? ⟨g, o, none⟩ = w.frozen? ⟨g, o, none⟩ := fun o => World.frozen?_of_block (a := ⟨g, o, none⟩) hb
  exact ⟨h.len, h.le, h.low, Nat.lt_of_lt_of_le h.lt hg.size, fun j hj => by rw [hc, hc]; exact h.cells j hj, fun j hj => by rw [hc, hf]; exact h.spare j hj⟩
theorem SP.of {w : World} {base g n c : Nat} {ps : List (Int × Int)} (h : OwnPt w base (.slice (some ⟨g, 0, none⟩) n c) ps) : SP w base g 0 n c ps := by
  have hl := own_len h
  subst hl
  obtain ⟨hlow, hlt⟩ := h.lt g rfl
  have h0 := h
  rcases h0.2 with ⟨e, _⟩ | ⟨g', cap, cur, e, _, hgc, hle, _, hcs, htk⟩
  · cases e
  · injection e with e1 _ e3
    injection e1 with e1
    injection e1 with e1
    subst e1; subst e3
    refine ⟨rfl, hle, hlow, hlt, fun j hj => ?_, fun j hj => ?_⟩
    · obtain ⟨A', c', e', _, hL⟩ := h.form
      injection e' with e1
      subst e1
      obtain ⟨b', o', e2, hc⟩ := hL (by rintro rfl; simp at hj)
      injection e2 with e2
      injection e2 with e3 e4
      subst e3; subst e4
      exact hc j hj
    · have hsz : 0 + ps.length * 2 + j < cur.size := by rw [hcs]; omega
      refine ⟨?_, frozen_of_row w _ _ _ _ hgc⟩
      rw [cell_of_row w g _ cur _ _ hgc]
      simp
      omega
theorem SP.tail {w : World} {base g off n c : Nat} {ps : List (Int × Int)} (h : SP w base g off n c ps) (hn : 1 ≤ n) : SP w base g (off + 2) (n - 1) (c - 1) (ps.drop 1) := by
  have hl := h.len
  have hle := h.le
  refine ⟨by rw [List.length_drop]; omega, by omega, h.low, h.lt, fun j hj => ?_, fun j hj => ?_⟩
  · rw [List.length_drop] at hj
    have := h.cells (j + 1) (by omega)
    rw [List.getElem_drop]
    rw [show off + 2 + j * 2 = off + (j + 1) * 2 by omega]
    simpa [Nat.add_comm] using this
  · have := h.spare j (by omega)
    rw [show off + 2 + (n - 1) * 2 + j = off + n * 2 + j by omega]
    exact this
/-- What a draw of points leaves: the points are read wherever the cursor goes. -/
def DrewP (B k : Nat) (w : World) (e : Ending) (w' : World) : Prop := ∃ (n : Int) (A : Option Addr) (ps : List (Int × Int)) (c : Nat), e = .returned (.tuple #[.int .i64 n, .slice A ps.length c]) ∧ (∀ w'', w'.grownBy w'' (some B) → Lets w'' A ps) ∧ ps.length ≤ c ∧ ps.length ≤ 17 ∧ Cur w' B k ∧ w.grownBy w' (some B)
theorem SP.keep {w : World} {base g off n c B : Nat} {ps : List (Int × Int)} (h : SP w base g off n c ps) (hB : B < base) : ∀ w', w.grownBy w' (some B) → Lets w' (some ⟨g, off, none⟩) ps := fun _ hg => (h.cur hB hg).lets
theorem own_sp {w : World} {base : Nat} {v : Value} {ps : List (Int × Int)} (h : OwnPt w base v ps) : (v = .slice none 0 0 ∧ ps = []) ∨ ∃ g c, v = .slice (some ⟨g, 0, none⟩) ps.length c ∧ SP w base g 0 ps.length c ps := by
  have h0 := h
  rcases h0.2 with ⟨e, hn⟩ | ⟨g, cap, cur, e, _⟩
  · exact Or.inl ⟨e, List.eq_nil_of_length_eq_zero hn⟩
  · subst e
    exact Or.inr ⟨g, cap, rfl, SP.of h⟩
theorem sp_cells {w : World} {base g off n c : Nat} {ps : List (Int × Int)} (h : SP w base g off n c ps) (j : Nat) (u : Value) (hj : (cellsL ps)[j]? = some u) : w.cell? ⟨g, off + j, none⟩ = some u := by
  have hl : j < (cellsL ps).length := (List.getElem?_eq_some_iff.1 hj).1
  rw [cellsL_length] at hl
  have hk : j / 2 < ps.length := by omega
  obtain ⟨c1, c2⟩ := h.cells (j / 2) hk
  obtain ⟨q1, q2⟩ := cellsL_at ps (j / 2) hk
  by_cases e : j % 2 = 0
  · have ej : j / 2 * 2 = j := by omega
    rw [ej] at q1 c1
    rw [q1] at hj
    rw [c1]; exact hj
  · have ej : j / 2 * 2 + 1 = j := by omega
    rw [ej] at q2
    rw [show off + j / 2 * 2 + 1 = off + j by omega] at c2
    rw [q2] at hj
    rw [c2]; exact hj
theorem sp_room {w W : World} {base g off n c : Nat} {ps : List (Int × Int)} {x y : Int} (h : SP w base g off n c ps) (hW : ∀ o, W.cell? ⟨g, o, none⟩ = w.cell? ⟨g, o, none⟩ ∧ W.frozen? ⟨g, o, none⟩ = w.frozen? ⟨g, o, none⟩) (hr : n + 1 ≤ c) (hlt : g < w.heap.size) (hsz : w.heap.size ≤ W.heap.size := by simp) :
    SP (W.setCells g (off + n * 2) [.int .i64 x, .int .i64 y]) base g off (n + 1) c (ps ++ [(x, y)]) ∧ W.grownBy (W.setCells g (off + n * 2) [.int .i64 x, .int .i64 y]) (some g) := by
  have hl := h.len
  have h0 := h.spare 0 (by omega)
  have h1 := h.spare 1 (by omega)
  have hg : W.grownBy (W.setCells g (off + n * 2) [.int .i64 x, .int .i64 y]) (some g) := grownBy_trans (gSet W ⟨g, off + n * 2, none⟩ (.int .i64 x)) (gSet _ ⟨g, off + n * 2 + 1, none⟩ (.int .i64 y))
  have hin := World.cell?_setCells_in g [.int .i64 x, .int .i64 y] (off + n * 2) W (fun j hj => by
    rw [(hW _).1]
    have : j = 0 ∨ j = 1 := by simp at hj; omega
    rcases this with rfl | rfl
    · exact h0.1
    · exact h1.1)
  refine ⟨⟨by rw [List.length_append, hl]; rfl, hr, h.low, Nat.lt_of_lt_of_le (Nat.lt_of_lt_of_le hlt hsz) hg.size, fun j hj => ?_, fun j hj => ?_⟩, hg⟩
  · by_cases hjn : j < ps.length
    · rw [World.cell?_setCells_out g _ _ _ _ (fun _ _ => Or.inl (show off + j * 2 < off + n * 2 by omega)), World.cell?_setCells_out g _ _ _ _ (fun _ _ => Or.inl (show off + j * 2 + 1 < off + n * 2 by omega)), (hW _).1, (hW _).1, List.getElem_append_left hjn]
      exact h.cells j hjn
    · have hjn2 : j = n := by rw [List.length_append] at hj; simp at hj; omega
      subst hjn2
      have q0 := hin 0 (by simp)
      have q1 := hin 1 (by simp)
      simp only [Nat.add_zero] at q0
      rw [q0, q1]
      simp [hl]
  · have hs := h.spare (j + 2) (by omega)
    rw [World.frozen?_setCells, World.cell?_setCells_out g _ _ _ _ (fun _ _ => Or.inr (show off + n * 2 + 2 ≤ off + (n + 1) * 2 + j by omega)), (hW _).1, (hW _).2, show off + (n + 1) * 2 + j = off + n * 2 + (j + 2) by omega]
    exact hs
theorem World.heap_alloc_size7 (w : World) (o : Obj) : (w.alloc o).heap.size = w.heap.size + 1 := by simp
set_option maxRecDepth 100000 in
set_option maxHeartbeats 16000000 in
theorem points7 (B k : Nat) (w : World) (hcur : Cur w B k) (hk : k ≤ 6871947673) :
    Calls Tryd.prog 21 #[.pointer (some ⟨B, 0, none⟩)] w (DrewP B (k + 3000) w) := by
  obtain ⟨i1, hi', hy0, hy1, hy2⟩ := info_parts ptInfo
  have hB := hcur.lt
  have HC := Lib.hid hcur
  clear hcur
  go_enter Tryd.func21, Tryd.ntmps21
  go_wp2_with fail
  refine (poly7 B k 3 w HC.out (by omega) (by omega) (by omega)).mono ?_
  rintro e w1 ⟨v1, zs, rfl, ho1, hl1, hc1, hg1⟩
  obtain ⟨A1, c1, rfl, _⟩ := ho1.form
  have HO1 := Lib.hid ho1
  have HC1 := Lib.hid hc1
  have HG1 := Lib.hid hg1
  clear ho1 hc1 hg1 HC
  go_wp2_with fail
  refine (pick_any B _ 5 _ HC1.out (by omega) (by omega)).mono ?_
  rintro e w2 ⟨r, rfl, ⟨hr0, hr1⟩, hc2, hg2⟩
  have hr5 : r ≤ 5 := by omega
  have HO2 := Lib.hid (HO1.out.cur hB hg2)
  have HC2 := Lib.hid hc2
  have HG2 := Lib.hid (grownBy_trans HG1.out hg2)
  clear hc2 hg2 HO1 HC1 HG1 hr1
  have HMs := Lib.hid (sMost7 1 ((zs.length : Int) + r) w2)
  obtain ⟨mx, hmx⟩ : ∃ mx, max 1 ((zs.length : Int) + r) = mx := ⟨_, rfl⟩
  rw [hmx] at HMs
  have HPt := Lib.hid (sPoints_any A1 zs c1 mx w2 (own_ints7 HO2.out) (by omega))
  have hpl := poI_len zs mx
  clear hmx
  generalize poI zs mx = L0 at *
  generalize poOkB zs mx = ok at *
  go_wp2_with (go_at_call 46; refine HMs.out.mono ?_; rintro e w' ⟨rfl, rfl⟩)
  refine HPt.out.mono ?_
  rintro e w3 ⟨v3, rfl, ho3, hb3⟩
  have hs2 := HG2.out.size
  have HO3 := Lib.hid (ho3.lower hs2)
  have HC3 := Lib.hid (HC2.out.below hb3)
  have HG3 := Lib.hid (grownBy_far HG2.out (gBelowN hb3) (fun g e => by cases e))
  clear ho3 hb3 HPt HMs HC2 HG2 HO2
  rcases own_sp HO3.out with ⟨rfl, rfl⟩ | ⟨g, cc, rfl, _⟩
  · go_wp2_with fail
    go_loopg [23] 0 (fun gk i wr => gk = 0 ∧ i = .int .i64 0 ∧ w3 = wr)
    case atStart => exact ⟨rfl, rfl, rfl⟩
    case round =>
      obtain ⟨_, rfl, rfl⟩ := hrel
      go_wp2_with fail
      go_ret2
      exact ⟨_, none, [], 0, rfl, (fun _ _ hne => absurd rfl hne), by simp, by simp, HC3.out.mono (by omega), HG3.out⟩
  · have HL0 : Hid (L0.length = L0.length) := rfl
    generalize hnn : L0.length = nn at *
    have HNn := Lib.hid hnn
    clear hnn
    go_wp2_with fail
    go_loopg [23] nn (fun gk i wr => ∃ (j : Nat) (L : List (Int × Int)), j + gk = nn ∧ i = .int .i64 j ∧ OwnPt wr w.heap.size (.slice (some ⟨g, 0, none⟩) nn cc) L ∧ L.length = nn ∧ Cur wr B (k + 1100 + 10 * j) ∧ w.grownBy wr (some B))
    case atStart => exact ⟨0, L0, by omega, rfl, HO3.out, HNn.out, HC3.out.mono (by omega), HG3.out⟩
    case round =>
      obtain ⟨j, ps, hg, rfl, hown, hll, hc, hgr⟩ := hrel
      have HO := Lib.hid hown
      have HPl := Lib.hid hll
      have HC4 := Lib.hid hc
      have HG4 := Lib.hid hgr
      clear hown hll hc hgr HO3 HC3 HG3
      by_cases hlt : j < nn
      · have hji : (j : Int) < (nn : Int) := by omega
        have hjp : j < ps.length := by rw [HPl.out]; exact hlt
        have HGK : Hid (nn - j - 1 < gk ∧ j + 1 + (nn - j - 1) = nn) := by show _ ∧ _; omega
        go_wp2_with fail
        refine (one_any B _ 7 _ HC4.out (by omega) (by omega)).mono ?_
        rintro e w5 ⟨bb, rfl, hc5, hg5⟩
        have HO5 := Lib.hid (HO.out.cur hB hg5)
        have HC5 := Lib.hid hc5
        have HG5 := Lib.hid (grownBy_trans HG4.out hg5)
        clear hc5 hg5 HO HC4 HG4
        cases bb
        · clear hjp hg
          go_wp2_with fail
          go_roundg (nn - j - 1)
          case measure => exact HGK.out.1
          case rel => exact ⟨j + 1, ps, HGK.out.2, by go_num, HO5.out, HPl.out, HC5.out.mono (by omega), HG5.out⟩
        · clear hg
          go_wp2_with fail
          refine (pick_any B _ 257 _ HC5.out (by omega) (by omega)).mono ?_
          rintro e w6 ⟨y, rfl, _, hc6, hg6⟩
          have hO6 := HO5.out.cur hB hg6
          have hG6 := grownBy_trans HG5.out hg6
          have hO6' : w6.ownsRow w.heap.size 36 2 (.slice (some ⟨g, 0, none⟩) nn cc) nn (cellsL ps) := by
            have h := hO6
            unfold OwnPt at h
            rw [HPl.out] at h
            exact h
          have hgl := (hO6.lt g rfl).1
          have hst := World.ownsRow.stored hO6' (j * 2 + 1) (.int .i64 y)
          have HSt : Hid (OwnPt (w6.setCell ⟨g, j * 2 + 1, none⟩ (.int .i64 y)) w.heap.size (.slice (some ⟨g, 0, none⟩) nn cc) (ps.set j (ps[j].1, y))) := by
            show World.ownsRow _ _ _ _ _ _ _
            rw [List.length_set, HPl.out, ← cellsL_put ps j hjp ps[j].1 y, set_same5 (cellsL_at ps j hjp).1]
            exact hst.1
          have HPl2 : Hid ((ps.set j (ps[j].1, y)).length = nn) := by show _ = _; rw [List.length_set]; exact HPl.out
          have HC6 : Hid (Cur (w6.setCell ⟨g, j * 2 + 1, none⟩ (.int .i64 y)) B (k + 1100 + 10 * (j + 1))) := (hc6.mono (by omega)).grown hst.2 (fun g' e => by injection e with e; omega)
          have HG6 : Hid (w.grownBy (w6.setCell ⟨g, j * 2 + 1, none⟩ (.int .i64 y)) (some B)) := grownBy_far hG6 hst.2 (fun g' e => by injection e with e; omega)
          have hc0 : w6.cell? ⟨g, j * 2 + 1, none⟩ = some (.int .i64 ps[j].2) := (World.ownsRow.cellAt hO6' (j * 2 + 1) (by omega)).trans (cellsL_at ps j hjp).2
          have hf0 := World.ownsRow.frozenAt hO6' (j * 2 + 1)
          clear hc6 hg6 hO6 hG6 hst hO6' HO5 HC5 HG5
          generalize ps.set j (ps[j].1, y) = ps2 at *
          generalize ps[j].2 = y0 at *
          clear hjp HPl
          go_wp2_with fail
          go_roundg (nn - j - 1)
          case measure => exact HGK.out.1
          case rel => exact ⟨j + 1, ps2, HGK.out.2, by go_num, HSt.out, HPl2.out, HC6.out, HG6.out⟩
      · have hjn : nn = j := by omega
        subst hjn
        have hji : ¬ (nn : Int) < (nn : Int) := by omega
        have HSP0 := Lib.hid (SP.of HO.out)
        have hle := HSP0.out.le
        have hnn16 : nn ≤ 16 := hpl
        clear HO hg hlt
        by_cases hn0 : nn = 0
        · have h0i : ¬ (0 : Int) < (nn : Int) := by omega
          clear hn0
          go_wp2_with fail
          go_ret2
          refine ⟨(zs.length : Int), some ⟨g, 0, none⟩, ps, cc, ?_, HSP0.out.keep hB, ?_, ?_, HC4.out.mono (by omega), HG4.out⟩
          · rw [HPl.out]; rfl
          · rw [HPl.out]; exact hle
          · rw [HPl.out]; omega
        · have h0i : (0 : Int) < (nn : Int) := by omega
          go_wp2_with fail
          refine (one_any B _ 3 _ HC4.out (by omega) (by omega)).mono ?_
          rintro e w5 ⟨b1, rfl, hc5, hg5⟩
          have HSP5 := Lib.hid (HSP0.out.cur hB hg5)
          have HC5 := Lib.hid hc5
          have HG5 := Lib.hid (grownBy_trans HG4.out hg5)
          clear hc5 hg5 HSP0 HC4 HG4
          cases b1
          · have HSP := HSP5
            clear HSP5
            go_wp2_with fail
            refine (one_any B _ 30 _ HC5.out (by omega) (by omega)).mono ?_
            rintro e w6 ⟨b2, rfl, hc6, hg6⟩
            have HSP6 := Lib.hid (HSP.out.cur hB hg6)
            have HC6 := Lib.hid hc6
            have HG6 := Lib.hid (grownBy_trans HG5.out hg6)
            clear hc6 hg6 HSP HC5 HG5
            cases b2
            · go_wp2_with fail
              go_ret2
              refine ⟨(zs.length : Int), some ⟨g, 0, none⟩, ps, cc, ?_, HSP6.out.keep hB, ?_, ?_, HC6.out.mono (by omega), HG6.out⟩
              · rw [HPl.out]; rfl
              · rw [HPl.out]; exact HSP6.out.le
              · rw [HPl.out]; omega
            · have h0p : 0 < ps.length := by rw [HPl.out]; omega
              obtain ⟨hx0, hx1⟩ := HSP6.out.cells 0 h0p
              have hx0' : w6.cell? ⟨g, 0, none⟩ = some (.int .i64 ps[0].1) := hx0
              have hx1' : w6.cell? ⟨g, 1, none⟩ = some (.int .i64 ps[0].2) := hx1
              clear hx0 hx1
              have h0i : (0 : Int) < (nn : Int) := by omega
              generalize ps[0].1 = x at *
              generalize ps[0].2 = y at *
              have hgw6 := HSP6.out.lt
              have hlow := HSP6.out.low
              have hle6 := HSP6.out.le
              have HW : Hid (∀ o, (w6.alloc (.cells #[.int .i64 x, .int .i64 y] 36)).cell? ⟨g, o, none⟩ = w6.cell? ⟨g, o, none⟩ ∧ (w6.alloc (.cells #[.int .i64 x, .int .i64 y] 36)).frozen? ⟨g, o, none⟩ = w6.frozen? ⟨g, o, none⟩) := fun o => by
                have hb := (gAlloc w6 (.cells #[.int .i64 x, .int .i64 y] 36)).block g hgw6
                exact ⟨World.cell?_of_block (a := ⟨g, o, none⟩) hb, World.frozen?_of_block (a := ⟨g, o, none⟩) hb⟩
              go_wp2_with (at_builtin; (refine wpList_append_arg _ rfl _ _ 23 rfl 36 i1 (.agg #[.int .i64 0, .int .i64 0]) 2 16 Tryd.underlying23 hi' hy0 hy1 hy2 rfl (by decide) g 0 nn cc (cellsL ps) rfl ?loa ?olda ⟨w6.heap.size, 0, none⟩ 1 1 [.int .i64 x, .int .i64 y] rfl rfl pt_news let_one ?spaa ?maxa ?byta ?rooa ?groa))
              case loa => rw [cellsL_length, HPl.out]
              case olda =>
                intro j u hj
                rw [(HW.out (0 + j)).1]
                exact sp_cells HSP6.out j u hj
              case spaa =>
                intro hr j hj
                rw [(HW.out _).1, (HW.out _).2]
                exact HSP6.out.spare j (by simp at hj; omega)
              case maxa => unfold maxLen; omega
              case byta => omega
              case rooa =>
                intro hr
                have HR := Lib.hid (sp_room (x := x) (y := y) HSP6.out HW.out (by omega) hgw6)
                have hsz6 : w6.heap.size ≤ (w6.alloc (.cells #[.int .i64 x, .int .i64 y] 36)).heap.size := by simp
                have HG7 : Hid (w.grownBy ((w6.alloc (.cells #[.int .i64 x, .int .i64 y] 36)).setCells g (0 + nn * 2) [.int .i64 x, .int .i64 y]) (some B)) := grownBy_far (grownBy_far HG6.out (World.grownBy_alloc _ _ none) (fun g e => by cases e)) HR.out.2 (fun g' e => by injection e with e; omega)
                have HC7 := Lib.hid ((HC6.out.grown (World.grownBy_alloc _ (.cells #[.int .i64 x, .int .i64 y] 36) none) (fun g e => by cases e)).grown HR.out.2 (fun g' e => by injection e with e; omega))
                rw [Nat.zero_add] at HR HG7 HC7
                generalize (w6.alloc (.cells #[.int .i64 x, .int .i64 y] 36)).setCells g (nn * 2) [.int .i64 x, .int .i64 y] = w7 at *
                go_wp2_with fail
                go_ret2
                refine ⟨(zs.length : Int), some ⟨g, 0, none⟩, ps ++ [(x, y)], cc, ?_, fun w'' hg => (HR.out.1.cur hB hg).lets, ?_, ?_, HC7.out.mono (by omega), HG7.out⟩
                · rw [List.length_append, HPl.out]; rfl
                · rw [List.length_append, HPl.out]; simp; omega
                · rw [List.length_append, HPl.out]; simp; omega
              case groa =>
                intro hr v7 w7 hown7 hgr7
                have HO7 : Hid (OwnPt w7 w6.heap.size v7 (ps ++ [(x, y)])) := OwnPt.more (by
                  rw [HPl.out]
                  exact row_lower hown7 (by first | omega | simp))
                have HG7 : Hid (w.grownBy w7 (some B)) := grownBy_far (grownBy_far HG6.out (World.grownBy_alloc _ _ none) (fun g e => by cases e)) hgr7 (fun g e => by cases e)
                have HC7 := Lib.hid ((HC6.out.grown (World.grownBy_alloc _ (.cells #[.int .i64 x, .int .i64 y] 36) none) (fun g e => by cases e)).grown hgr7 (fun g e => by cases e))
                clear hown7 hgr7
                have hB6 : B < w6.heap.size := by omega
                obtain ⟨A7, c7, e7, hc7, _⟩ := HO7.out.form
                subst e7
                have HK7 : Hid (∀ w'', w7.grownBy w'' (some B) → Lets w'' A7 (ps ++ [(x, y)])) := fun w'' hg => own_pts7 (HO7.out.cur hB6 hg)
                have HPl2 : Hid ((ps ++ [(x, y)]).length = nn + 1) := by show _ = _; rw [List.length_append, HPl.out]; rfl
                go_wp2_with fail
                go_ret2
                exact ⟨_, A7, ps ++ [(x, y)], c7, rfl, HK7.out, hc7, by rw [HPl2.out]; omega, HC7.out.mono (by omega), HG7.out⟩
          · by_cases hc1 : cc = 1
            · have hn1 : nn = 1 := by omega
              subst hc1
              subst hn1
              go_wp2_with fail
              go_ret2
              refine ⟨(zs.length : Int), some ⟨g, 0, none⟩, [], 0, rfl, (fun _ _ hne => absurd rfl hne), by simp, by simp, HC5.out.mono (by omega), HG5.out⟩
            · have HT := Lib.hid (HSP5.out.tail (by omega))
              have hc1n : ¬ 1 = cc := by omega
              have h1c : 1 ≤ cc := by omega
              have h1n : 1 ≤ nn := by omega
              have h1i : (1 : Int) ≤ (nn : Int) := by omega
              clear hn0
              by_cases hn1 : nn = 1
              · subst hn1
                have HPd : Hid (ps.drop 1 = []) := List.eq_nil_of_length_eq_zero (by rw [List.length_drop, HPl.out])
                go_wp2_with fail
                go_ret2
                exact ⟨(zs.length : Int), some ⟨g, 2, none⟩, [], cc - 1, rfl, (fun _ _ hne => absurd rfl hne), by simp, by simp, HC5.out.mono (by omega), HG5.out⟩
              · have h2i : (0 : Int) < ((nn - 1 : Nat) : Int) := by omega
                have HPl2 : Hid ((ps.drop 1).length = nn - 1) := by show _ = _; rw [List.length_drop, HPl.out]
                have hn216 : nn - 1 ≤ 15 := by omega
                have hn21 : 1 ≤ nn - 1 := by omega
                rw [Nat.zero_add] at HT
                have HC5' := Lib.hid (HC5.out.mono (show k + 1100 + 10 * nn + 2 ≤ k + 2000 by omega))
                clear HC5
                have HC5 := HC5'
                clear HC5'
                go_wp2_with fail
                clear HSP5 HPl hpl hnn16 hle hc1 hc1n h1c h1n h1i h0i HNn
                generalize ps.drop 1 = p2 at *
                generalize nn - 1 = n2 at *
                generalize cc - 1 = c2 at *
                have HSP := HT
                clear HT
                refine (one_any B _ 30 _ HC5.out (by omega) (by omega)).mono ?_
                rintro e w6 ⟨b2, rfl, hc6, hg6⟩
                have HSP6 := Lib.hid (HSP.out.cur hB hg6)
                have HC6 := Lib.hid hc6
                have HG6 := Lib.hid (grownBy_trans HG5.out hg6)
                clear hc6 hg6 HSP HC5 HG5
                cases b2
                · go_wp2_with fail
                  go_ret2
                  refine ⟨(zs.length : Int), some ⟨g, 2, none⟩, p2, c2, ?_, HSP6.out.keep hB, ?_, ?_, HC6.out.mono (by omega), HG6.out⟩
                  · rw [HPl2.out]; rfl
                  · rw [HPl2.out]; exact HSP6.out.le
                  · rw [HPl2.out]; omega
                · have h0p : 0 < p2.length := by rw [HPl2.out]; omega
                  obtain ⟨hx0, hx1⟩ := HSP6.out.cells 0 h0p
                  have hx0' : w6.cell? ⟨g, 2, none⟩ = some (.int .i64 p2[0].1) := hx0
                  have hx1' : w6.cell? ⟨g, 3, none⟩ = some (.int .i64 p2[0].2) := hx1
                  clear hx0 hx1
                  have h0i : (0 : Int) < (n2 : Int) := by omega
                  generalize p2[0].1 = x at *
                  generalize p2[0].2 = y at *
                  have hgw6 := HSP6.out.lt
                  have hlow := HSP6.out.low
                  have hle6 := HSP6.out.le
                  have HW : Hid (∀ o, (w6.alloc (.cells #[.int .i64 x, .int .i64 y] 36)).cell? ⟨g, o, none⟩ = w6.cell? ⟨g, o, none⟩ ∧ (w6.alloc (.cells #[.int .i64 x, .int .i64 y] 36)).frozen? ⟨g, o, none⟩ = w6.frozen? ⟨g, o, none⟩) := fun o => by
                    have hb := (gAlloc w6 (.cells #[.int .i64 x, .int .i64 y] 36)).block g hgw6
                    exact ⟨World.cell?_of_block (a := ⟨g, o, none⟩) hb, World.frozen?_of_block (a := ⟨g, o, none⟩) hb⟩
                  go_wp2_with (at_builtin; (refine wpList_append_arg _ rfl _ _ 23 rfl 36 i1 (.agg #[.int .i64 0, .int .i64 0]) 2 16 Tryd.underlying23 hi' hy0 hy1 hy2 rfl (by decide) g 2 n2 c2 (cellsL p2) rfl ?lob ?oldb ⟨w6.heap.size, 0, none⟩ 1 1 [.int .i64 x, .int .i64 y] rfl rfl pt_news let_one ?spab ?maxb ?bytb ?roob ?grob))
                  case lob => rw [cellsL_length, HPl2.out]
                  case oldb =>
                    intro j u hj
                    rw [(HW.out (2 + j)).1]
                    exact sp_cells HSP6.out j u hj
                  case spab =>
                    intro hr j hj
                    rw [(HW.out _).1, (HW.out _).2]
                    exact HSP6.out.spare j (by simp at hj; omega)
                  case maxb => unfold maxLen; omega
                  case bytb => omega
                  case roob =>
                    intro hr
                    have HR := Lib.hid (sp_room (x := x) (y := y) HSP6.out HW.out (by omega) hgw6)
                    have hsz6 : w6.heap.size ≤ (w6.alloc (.cells #[.int .i64 x, .int .i64 y] 36)).heap.size := by simp
                    have HG7 : Hid (w.grownBy ((w6.alloc (.cells #[.int .i64 x, .int .i64 y] 36)).setCells g (2 + n2 * 2) [.int .i64 x, .int .i64 y]) (some B)) := grownBy_far (grownBy_far HG6.out (World.grownBy_alloc _ _ none) (fun g e => by cases e)) HR.out.2 (fun g' e => by injection e with e; omega)
                    have HC7 := Lib.hid ((HC6.out.grown (World.grownBy_alloc _ (.cells #[.int .i64 x, .int .i64 y] 36) none) (fun g e => by cases e)).grown HR.out.2 (fun g' e => by injection e with e; omega))
                    generalize (w6.alloc (.cells #[.int .i64 x, .int .i64 y] 36)).setCells g (2 + n2 * 2) [.int .i64 x, .int .i64 y] = w7 at *
                    go_wp2_with fail
                    go_ret2
                    refine ⟨(zs.length : Int), some ⟨g, 2, none⟩, p2 ++ [(x, y)], c2, ?_, fun w'' hg => (HR.out.1.cur hB hg).lets, ?_, ?_, HC7.out.mono (by omega), HG7.out⟩
                    · rw [List.length_append, HPl2.out]; rfl
                    · rw [List.length_append, HPl2.out]; simp; omega
                    · rw [List.length_append, HPl2.out]; simp; omega
                  case grob =>
                    intro hr v7 w7 hown7 hgr7
                    have HO7 : Hid (OwnPt w7 w6.heap.size v7 (p2 ++ [(x, y)])) := OwnPt.more (by
                      rw [HPl2.out]
                      exact row_lower hown7 (by first | omega | simp))
                    have HG7 : Hid (w.grownBy w7 (some B)) := grownBy_far (grownBy_far HG6.out (World.grownBy_alloc _ _ none) (fun g e => by cases e)) hgr7 (fun g e => by cases e)
                    have HC7 := Lib.hid ((HC6.out.grown (World.grownBy_alloc _ (.cells #[.int .i64 x, .int .i64 y] 36) none) (fun g e => by cases e)).grown hgr7 (fun g e => by cases e))
                    clear hown7 hgr7
                    have hB6 : B < w6.heap.size := by omega
                    obtain ⟨A7, c7, e7, hc7, _⟩ := HO7.out.form
                    subst e7
                    have HK7 : Hid (∀ w'', w7.grownBy w'' (some B) → Lets w'' A7 (p2 ++ [(x, y)])) := fun w'' hg => own_pts7 (HO7.out.cur hB6 hg)
                    have HPl3 : Hid ((p2 ++ [(x, y)]).length = n2 + 1) := by show _ = _; rw [List.length_append, HPl2.out]; rfl
                    go_wp2_with fail
                    go_ret2
                    exact ⟨_, A7, p2 ++ [(x, y)], c7, rfl, HK7.out, hc7, by rw [HPl3.out]; omega, HC7.out.mono (by omega), HG7.out⟩

/-- What a draw of a polynomial and a number leaves. -/
def DrewPN (w : World) (e : Ending) (w' : World) : Prop := ∃ (A : Option Addr) (l : List Int) (c : Nat) (n : Int), e = .returned (.tuple #[.slice A l.length c, .int .i64 n]) ∧ Ints w' A l ∧ l.length ≤ c ∧ (1 ≤ l.length ∧ l.length ≤ 8) ∧ Below w.heap.size w w'
/-- What a draw of a number and points leaves. -/
def DrewNP (w : World) (e : Ending) (w' : World) : Prop := ∃ (n : Int) (A : Option Addr) (ps : List (Int × Int)) (c : Nat), e = .returned (.tuple #[.int .i64 n, .slice A ps.length c]) ∧ Lets w' A ps ∧ ps.length ≤ c ∧ ps.length ≤ 17 ∧ Below w.heap.size w w'
set_option maxRecDepth 100000 in
set_option maxHeartbeats 1000000 in
theorem drawAgree7 (A : Option Addr) (zs : List Int) (c : Nat) (w : World) (hb : Byts w w.heap.size A zs) :
    Calls Tryd.prog 12 #[.slice A zs.length c] w fun e w' => ∃ (A1 : Option Addr) (l : List Int) (c1 : Nat) (A2 : Option Addr) (ps : List (Int × Int)) (c2 : Nat), e = .returned (.tuple #[.slice A1 l.length c1, .slice A2 ps.length c2]) ∧ Ints w' A1 l ∧ l.length ≤ c1 ∧ l.length ≤ 8 ∧ Lets w' A2 ps ∧ ps.length ≤ c2 ∧ ps.length ≤ 17 ∧ Below w.heap.size w w' := by
  have HC := Lib.hid (Cur.new (c := c) hb 50)
  have HB := Lib.hid (gAlloc w (.cells #[.slice A zs.length c, .int .i64 0, .int .u64 0] 50))
  clear hb
  go_enter Tryd.func12, Tryd.ntmps12
  go_wp2_with fail
  refine (points7 w.heap.size 0 _ HC.out (by omega)).mono ?_
  rintro e w0 ⟨n, A0, ps, c0, rfl, hk0, hcap0, hl0, hc0, hg0⟩
  have HK0 := Lib.hid hk0
  have HC0 := Lib.hid hc0
  have HB0 := Lib.hid (gGrown HB.out (by simp) hg0 (Nat.le_refl _))
  clear hk0 hc0 hg0
  go_wp2_with fail
  refine (poly7 w.heap.size _ 4 _ HC0.out (by omega) (by omega) (by omega)).mono ?_
  rintro e w1 ⟨v1, l, rfl, ho1, hl1, hc1, hg1⟩
  obtain ⟨A1, c1, rfl, hcap1, hI1⟩ := gFormC ho1
  have HI1 := Lib.hid hI1
  have HP1 := Lib.hid (HK0.out w1 hg1)
  have HB1 := Lib.hid (gGrown HB0.out HB0.out.size hg1 (Nat.le_refl _))
  clear ho1 hc1 hg1 hI1
  go_wp2_with fail
  go_ret2
  exact ⟨A1, l, c1, A0, ps, c0, rfl, HI1.out, hcap1, by omega, HP1.out, hcap0, hl0, HB1.out⟩
set_option maxRecDepth 100000 in
set_option maxHeartbeats 1000000 in
theorem drawRead7 (A : Option Addr) (zs : List Int) (c : Nat) (w : World) (hb : Byts w w.heap.size A zs) :
    Calls Tryd.prog 5 #[.slice A zs.length c] w fun e w' => ∃ (n : Int) (A' : Option Addr) (ps : List (Int × Int)) (c' : Nat) (m : Int), e = .returned (.tuple #[.int .i64 n, .slice A' ps.length c', .int .i64 m]) ∧ Lets w' A' ps ∧ ps.length ≤ c' ∧ ps.length ≤ 17 ∧ Below w.heap.size w w' := by
  have HC := Lib.hid (Cur.new (c := c) hb 50)
  have HB := Lib.hid (gAlloc w (.cells #[.slice A zs.length c, .int .i64 0, .int .u64 0] 50))
  clear hb
  go_enter Tryd.func5, Tryd.ntmps5
  go_wp2_with fail
  refine (points7 w.heap.size 0 _ HC.out (by omega)).mono ?_
  rintro e w0 ⟨n, A0, ps, c0, rfl, hk0, hcap0, hl0, hc0, hg0⟩
  have HK0 := Lib.hid hk0
  have HC0 := Lib.hid hc0
  have HB0 := Lib.hid (gGrown HB.out (by simp) hg0 (Nat.le_refl _))
  clear hk0 hc0 hg0
  go_wp2_with fail
  refine (pick_any w.heap.size _ 5 _ HC0.out (by omega) (by omega)).mono ?_
  rintro e w1 ⟨r, rfl, ⟨hr0, hr1⟩, hc1, hg1⟩
  have HC1 := Lib.hid hc1
  have HG1 := Lib.hid hg1
  have HB1 := Lib.hid (gGrown HB0.out HB0.out.size hg1 (Nat.le_refl _))
  clear hc1 hg1
  go_wp2_with fail
  refine (pick_any w.heap.size _ 9 _ HC1.out (by omega) (by omega)).mono ?_
  rintro e w2 ⟨q, rfl, ⟨hq0, hq1⟩, hc2, hg2⟩
  have HP2 := Lib.hid (HK0.out w2 (grownBy_trans HG1.out hg2))
  have HB2 := Lib.hid (gGrown HB1.out HB1.out.size hg2 (Nat.le_refl _))
  clear hc2 hg2
  go_wp2_with fail
  (try simp only [Exit.inBlock, Exit.then])
  refine bodyPost_ret (results_tmp3 rfl _ _ _) rfl ?_
  exact ⟨n, A0, ps, c0, _, rfl, HP2.out, hcap0, hl0, HB2.out⟩
end Go.Proofs.YtnlfaiedfjcgpaaDoor
