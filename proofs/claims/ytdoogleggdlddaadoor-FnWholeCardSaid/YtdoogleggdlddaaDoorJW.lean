/-
  JP: The laws' helpers on letters: eqLetter, eqLetterS, szLetterS, toLetter, toLetterS, markLetterS.
  JQ: The laws' helpers on letters: slices of letters of the call's own, toLetter, toLetterS, markLetterS.
  JR: The laws' helpers on truth values: eqBoolS, sameBools, markBoolS, heldBoolS.
  JS: The draws of chapter 5: nos, blockOf, DrawDegreeOf, DrawPartsOf, DrawLetterFor, DrawEnoughOf.
  JT: The draws of chapter 5: blockOf, DrawLetterFor, letters, DrawGoodLetters, DrawPeelOff, DrawAddUp.
  JU: The draws of chapter 5: letters, DrawGoodLetters, DrawPeelOff, DrawAddUp.
-/
import Derived.Test.YtdoogleggdlddaaDoorJO
import Derived.Deep.RegionHeld3
import Derived.Test.YtdoogleggdlddaaDoorD4
import Derived.Deep.RegionLaw

/- JP -/
namespace Go.Proofs.YtdoogleggdlddaaDoor
open Go.RowKit

theorem gAlloc2 (w : World) (a b : Obj) : Below w.heap.size w ((w.alloc a).alloc b) := ((Below.refl _ w).alloc (Nat.le_refl _) _).alloc (by simp) _
theorem gDrewN {w : World} (n : Nat) : Below w.heap.size w (w.drewN n) := below_drewN (Below.refl _ _) n
theorem gDrew {w : World} : Below w.heap.size w w.drew := gDrewN 1

set_option maxRecDepth 100000 in
set_option maxHeartbeats 1000000 in
theorem eqLetter_any (x y x' y' : Int) (w : World) :
    Calls Tryd.prog 70 #[letV x y, letV x' y'] w fun e w' => e = .returned (.bool (decide (x = x') && decide (y = y'))) ∧ Below w.heap.size w w' := by
  by_cases h1 : x = x'
  · subst h1
    have hx : (x != x) = false := by simp
    by_cases h2 : y = y'
    · subst h2
      have hy : (y != y) = false := by simp
      go_enter Tryd.func70, Tryd.ntmps70
      go_wp2_with fail
      go_ret
      exact ⟨by simp, gAlloc2 _ _ _⟩
    · have hy : (y != y') = true := by simp [h2]
      go_enter Tryd.func70, Tryd.ntmps70
      go_wp2_with fail
      go_ret
      exact ⟨by simp [h2], gAlloc2 _ _ _⟩
  · have hx : (x != x') = true := by simp [h1]
    go_enter Tryd.func70, Tryd.ntmps70
    go_wp2_with fail
    go_ret
    exact ⟨by simp [h1], gAlloc2 _ _ _⟩

def eqLs (a b : List (Int × Int)) : Bool := decide (a = b)
theorem eqLs_self (a : List (Int × Int)) : eqLs a a = true := by simp [eqLs]
theorem eqLs_len {a b : List (Int × Int)} (h : a.length ≠ b.length) : eqLs a b = false := by
  simp [eqLs]; intro e; exact h (by rw [e])
theorem eqLs_at {a b : List (Int × Int)} {k : Nat} (ha : k < a.length) (hb : k < b.length) (h : (decide (a[k].1 = b[k].1) && decide (a[k].2 = b[k].2)) = false) : eqLs a b = false := by
  cases he : eqLs a b
  · rfl
  · have e : a = b := by simpa [eqLs] using he
    subst e
    simp at h
theorem eqLs_take {a b : List (Int × Int)} {k : Nat} (ha : k < a.length) (hb : k < b.length) (h : a.take k = b.take k) (h2 : (decide (a[k].1 = b[k].1) && decide (a[k].2 = b[k].2)) = true) : a.take (k + 1) = b.take (k + 1) := by
  rw [List.take_succ_eq_append_getElem ha, List.take_succ_eq_append_getElem hb, h]
  simp at h2
  rw [show a[k] = b[k] from Prod.ext h2.1 h2.2]
theorem eqLs_all {a b : List (Int × Int)} (hl : a.length = b.length) (h : a.take a.length = b.take a.length) : eqLs a b = true := by
  rw [List.take_length, hl, List.take_length] at h
  simp [eqLs, h]

set_option maxRecDepth 100000 in
set_option maxHeartbeats 2000000 in
theorem eqLetterS_any (A B : Option Addr) (bs cs : List (Int × Int)) (ca cb : Nat) (w : World) (ha : Lets w A bs) (hb : Lets w B cs) (hl : bs.length ≤ 1048576) :
    Calls Tryd.prog 32 #[.slice A bs.length ca, .slice B cs.length cb] w fun e w' => e = .returned (.bool (eqLs bs cs)) ∧ Below w.heap.size w w' := by
  have HA := Lib.hid ha
  have HB := Lib.hid hb
  clear ha hb
  by_cases hlen : bs.length = cs.length
  · have hne : ((bs.length : Int) != (cs.length : Int)) = false := by rw [hlen]; simp
    have HLen := Lib.hid hlen
    clear hlen
    go_enter Tryd.func32, Tryd.ntmps32
    go_wp2_with fail
    go_loopg [5] bs.length (fun gk i wr => ∃ k : Nat, k + gk = bs.length ∧ i = .int .i64 k ∧ bs.take k = cs.take k ∧ Below w.heap.size w wr)
    case atStart => exact ⟨0, by omega, rfl, rfl, Below.refl _ _⟩
    case round =>
      obtain ⟨k, hg, rfl, heq, hbel⟩ := hrel
      have HEq := Lib.hid heq
      have HBl := Lib.hid hbel
      clear heq hbel
      by_cases hlt : k < bs.length
      · have hki : (k : Int) < (bs.length : Int) := by omega
        have hlt2 : k < cs.length := by have := HLen.out; omega
        have hki2 : (k : Int) < (cs.length : Int) := by omega
        obtain ⟨b1, o1, rfl, hc1⟩ := (HA.out.below HBl.out) (by rintro rfl; simp at hlt)
        obtain ⟨b2, o2, rfl, hc2⟩ := (HB.out.below HBl.out) (by rintro rfl; simp at hlt2)
        obtain ⟨p1, p2⟩ := hc1 k hlt
        obtain ⟨q1, q2⟩ := hc2 k hlt2
        have HNo := Lib.hid (fun h => eqLs_at (k := k) hlt hlt2 h)
        have HYes := Lib.hid (fun h => eqLs_take (k := k) hlt hlt2 HEq.out h)
        have HGK : Hid (bs.length - k - 1 < gk ∧ k + 1 + (bs.length - k - 1) = bs.length) := by show _ ∧ _; omega
        clear hc1 hc2 hg
        generalize bs[k] = p at *
        generalize cs[k] = q at *
        cases hpq : (decide (p.1 = q.1) && decide (p.2 = q.2))
        · have HN := Lib.hid (HNo.out hpq)
          go_wp2_with fail
          go_region_held3 (fun w' => w'.cell? ⟨b1, o1 + k * 2, none⟩ = some (.int .i64 p.1) ∧ w'.cell? ⟨b1, o1 + k * 2 + 1, none⟩ = some (.int .i64 p.2) ∧ w'.cell? ⟨b2, o2 + k * 2, none⟩ = some (.int .i64 q.1) ∧ w'.cell? ⟨b2, o2 + k * 2 + 1, none⟩ = some (.int .i64 q.2))
            (first | exact ⟨p1, p2, q1, q2⟩ | exact ⟨r0, r1, r2, r3⟩ | go_keep) (first
            | (go_at_call 70; refine (eqLetter_any p.1 p.2 q.1 q.2 _).mono ?_; rintro e w7 ⟨rfl, hb7⟩; have r0 := (hb7.cell (World.block_lt_of_cell? _ _ p1)).trans p1; have r1 := (hb7.cell (World.block_lt_of_cell? _ _ p2)).trans p2; have r2 := (hb7.cell (World.block_lt_of_cell? _ _ q1)).trans q1; have r3 := (hb7.cell (World.block_lt_of_cell? _ _ q2)).trans q2))
          all_goals
            have HB7 := Lib.hid (below_more HBl.out (below_more gDrew hb7))
            clear hb7
            go_wp2_with fail
            go_ret
            exact ⟨ret_bool' HN.out.symm, HB7.out⟩
        · have HN := Lib.hid (HYes.out hpq)
          go_wp2_with fail
          go_region_held3 (fun w' => w'.cell? ⟨b1, o1 + k * 2, none⟩ = some (.int .i64 p.1) ∧ w'.cell? ⟨b1, o1 + k * 2 + 1, none⟩ = some (.int .i64 p.2) ∧ w'.cell? ⟨b2, o2 + k * 2, none⟩ = some (.int .i64 q.1) ∧ w'.cell? ⟨b2, o2 + k * 2 + 1, none⟩ = some (.int .i64 q.2))
            (first | exact ⟨p1, p2, q1, q2⟩ | exact ⟨r0, r1, r2, r3⟩ | go_keep) (first
            | (go_at_call 70; refine (eqLetter_any p.1 p.2 q.1 q.2 _).mono ?_; rintro e w7 ⟨rfl, hb7⟩; have r0 := (hb7.cell (World.block_lt_of_cell? _ _ p1)).trans p1; have r1 := (hb7.cell (World.block_lt_of_cell? _ _ p2)).trans p2; have r2 := (hb7.cell (World.block_lt_of_cell? _ _ q1)).trans q1; have r3 := (hb7.cell (World.block_lt_of_cell? _ _ q2)).trans q2))
          all_goals
            have HB7 := Lib.hid (below_more HBl.out (below_more gDrew hb7))
            clear hb7
            go_wp2_with fail
            go_roundg (bs.length - k - 1)
            case measure => exact HGK.out.1
            case rel => exact ⟨k + 1, HGK.out.2, by go_num, HN.out, HB7.out⟩
      · obtain rfl : k = bs.length := by omega
        have hki : ¬ (bs.length : Int) < (bs.length : Int) := by omega
        go_wp2_with fail
        go_ret
        exact ⟨ret_bool' (eqLs_all HLen.out HEq.out).symm, HBl.out⟩
  · have hne : ((bs.length : Int) != (cs.length : Int)) = true := by simp; omega
    have HE := Lib.hid (eqLs_len hlen)
    go_enter Tryd.func32, Tryd.ntmps32
    go_wp2_with fail
    go_ret
    exact ⟨ret_bool' HE.out.symm, Below.refl _ _⟩

set_option maxRecDepth 100000 in
set_option maxHeartbeats 400000 in
theorem szLetterS_ok (A : Option Addr) (n ca : Nat) (w : World) (h : n ≤ 1048576) :
    Calls Tryd.prog 29 #[.slice A n ca, .int .i64 1048576] w fun e w' => e = .returned (.int .i64 (1048576 - (n : Int))) ∧ w = w' := by
  have hi : ¬ (1048576 : Int) - (n : Int) < 0 := by omega
  go_enter Tryd.func29, Tryd.ntmps29
  go_wp2_with fail
  go_ret
  exact ⟨rfl, rfl⟩
set_option maxRecDepth 100000 in
set_option maxHeartbeats 400000 in
theorem szLetterS_no (A : Option Addr) (n ca : Nat) (w : World) (hn : n ≤ 9223372036854775807) (h : ¬ n ≤ 1048576) :
    Calls Tryd.prog 29 #[.slice A n ca, .int .i64 1048576] w fun e w' => e = .returned (.int .i64 (-1)) ∧ w = w' := by
  have hi : (1048576 : Int) - (n : Int) < 0 := by omega
  go_enter Tryd.func29, Tryd.ntmps29
  go_wp2_with fail
  go_ret
  exact ⟨rfl, rfl⟩
end Go.Proofs.YtdoogleggdlddaaDoor

/- JQ -/
namespace Go.Proofs.YtdoogleggdlddaaDoor
open Go.RowKit

def cellsL (L : List (Int × Int)) : List Value := L.flatMap fun p => [Value.int .i64 p.1, Value.int .i64 p.2]
theorem cellsL_cons (p : Int × Int) (L : List (Int × Int)) : cellsL (p :: L) = .int .i64 p.1 :: .int .i64 p.2 :: cellsL L := by simp [cellsL]
theorem cellsL_append (L M : List (Int × Int)) : cellsL (L ++ M) = cellsL L ++ cellsL M := by simp [cellsL]
theorem cellsL_length : ∀ L : List (Int × Int), (cellsL L).length = L.length * 2
  | [] => rfl
  | p :: L => by rw [cellsL_cons, List.length_cons, List.length_cons, cellsL_length L, List.length_cons]; omega
theorem cellsL_at : ∀ (L : List (Int × Int)) (j : Nat) (hj : j < L.length), (cellsL L)[j * 2]? = some (.int .i64 L[j].1) ∧ (cellsL L)[j * 2 + 1]? = some (.int .i64 L[j].2)
  | p :: L, 0, _ => by rw [cellsL_cons]; exact ⟨rfl, rfl⟩
  | p :: L, j + 1, hj => by
    have := cellsL_at L j (by simp at hj; omega)
    rw [cellsL_cons, show (j + 1) * 2 = j * 2 + 1 + 1 by omega]
    exact this
theorem cellsL_put : ∀ (L : List (Int × Int)) (j : Nat) (_ : j < L.length) (x y : Int), ((cellsL L).set (j * 2) (.int .i64 x)).set (j * 2 + 1) (.int .i64 y) = cellsL (L.set j (x, y))
  | p :: L, 0, _, x, y => by
    show ((cellsL (p :: L)).set 0 _).set 1 _ = cellsL ((x, y) :: L)
    rw [cellsL_cons, cellsL_cons]; rfl
  | p :: L, j + 1, hj, x, y => by
    have := cellsL_put L j (by simp at hj; omega) x y
    show ((cellsL (p :: L)).set ((j + 1) * 2) _).set ((j + 1) * 2 + 1) _ = cellsL (p :: L.set j (x, y))
    rw [cellsL_cons, cellsL_cons, show (j + 1) * 2 = j * 2 + 1 + 1 by omega, List.set_cons_succ, List.set_cons_succ, List.set_cons_succ, List.set_cons_succ, this]
/-- A slice of letters of the call's own. -/
def OwnLt (w : World) (base : Nat) (v : Value) (L : List (Int × Int)) : Prop := w.ownsRow base 36 2 v L.length (cellsL L)
theorem OwnLt.nil (w : World) (base : Nat) : OwnLt w base (.slice none 0 0) [] := World.ownsRow_nil _ _ _ _
theorem OwnLt.below {w w' : World} {base : Nat} {v : Value} {L : List (Int × Int)} (h : OwnLt w base v L) (hb : Below w.heap.size w w') : OwnLt w' base v L := World.ownsRow.kept h (gBelowN hb) (gNone _)
theorem OwnLt.lower {w : World} {base base' : Nat} {v : Value} {L : List (Int × Int)} (h : OwnLt w base v L) (hb : base' ≤ base) : OwnLt w base' v L := row_lower h hb
theorem OwnLt.lt {w : World} {base : Nat} {v : Value} {L : List (Int × Int)} (h : OwnLt w base v L) : ∀ k, v.ownBlock = some k → base ≤ k ∧ k < w.heap.size := World.ownsRow.lt h
theorem OwnLt.form {w : World} {base : Nat} {v : Value} {L : List (Int × Int)} (h : OwnLt w base v L) : ∃ A c, v = .slice A L.length c ∧ L.length ≤ c ∧ Lets w A L := by
  rcases h.2 with ⟨rfl, hn⟩ | ⟨g, cap, cur, rfl, _, _, hle, _⟩
  · obtain rfl := List.eq_nil_of_length_eq_zero hn
    exact ⟨none, 0, rfl, Nat.le_refl _, fun h => absurd rfl h⟩
  · refine ⟨some ⟨g, 0, none⟩, cap, rfl, hle, fun _ => ⟨g, 0, rfl, fun j hj => ?_⟩⟩
    obtain ⟨h1, h2⟩ := cellsL_at L j hj
    refine ⟨?_, ?_⟩
    · rw [Nat.zero_add, h.cellAt _ (by omega)]; exact h1
    · rw [Nat.zero_add, h.cellAt _ (by omega)]; exact h2
theorem own_len {w : World} {base size g n cap m : Nat} {e : TypeId} {xs : List Value} (h : w.ownsRow base e size (.slice (some ⟨g, 0, none⟩) n cap) m xs) : n = m := by
  rcases h.2 with ⟨e, _⟩ | ⟨g', cap', cur', e, _⟩
  · cases e
  · injection e with _ e2 _
/-- A letter is written whole. -/
theorem OwnLt.put {w : World} {base g n cap : Nat} {L : List (Int × Int)} (h : OwnLt w base (.slice (some ⟨g, 0, none⟩) n cap) L) {j : Nat} (hj : j < L.length) (x y : Int) :
    OwnLt ((w.setCell ⟨g, j * 2, none⟩ (.int .i64 x)).setCell ⟨g, j * 2 + 1, none⟩ (.int .i64 y)) base (.slice (some ⟨g, 0, none⟩) n cap) (L.set j (x, y)) ∧ w.grownBy ((w.setCell ⟨g, j * 2, none⟩ (.int .i64 x)).setCell ⟨g, j * 2 + 1, none⟩ (.int .i64 y)) (some g) := by
  have hl := own_len h
  subst hl
  have hs := World.ownsRow.stored h (j * 2) (.int .i64 x)
  have hs2 := hs.1.stored (j * 2 + 1) (.int .i64 y)
  rw [cellsL_put L j hj x y] at hs2
  exact ⟨by unfold OwnLt; rw [List.length_set]; exact hs2.1, grownBy_trans hs.2 hs2.2⟩

theorem ret_let {fn : Func} {p : Tmp} (h : fn.results = #[.cell p 36]) {R : Ending → World → Prop} {a : Act} {w : World} (g : Nat) (x y : Int) (hp : a.tmps.getD p undef = .pointer (some ⟨g, 0, none⟩))
    (hg : w.heap[g]? = some (.cells #[.int .i64 x, .int .i64 y] 36 (0, 0))) (hd : a.defers = []) (hR : R (.returned (letV x y)) w) : bodyPost Tryd.prog fn R .ret a w :=
  bodyPost_ret (results_cell_row h _ _ g 36 #[.int .i64 x, .int .i64 y] (0, 0) _ hp hg Tryd.underlying36 rfl infoLet) hd hR
set_option maxRecDepth 100000 in
set_option maxHeartbeats 1000000 in
theorem toLetter_any (x y : Int) (w : World) : Calls Tryd.prog 69 #[letV x y] w fun e w' => e = .returned (letV x y) ∧ Below w.heap.size w w' := by
  go_enter Tryd.func69, Tryd.ntmps69
  go_wp2_with fail
  have h1 : (((w.alloc (.cells #[.int .i64 x, .int .i64 y] 81)).alloc (.cells #[.int .i64 x, .int .i64 y] 36)).alloc (.cells #[.int .i64 x, .int .i64 y] 36)).heap[w.heap.size + 1]? = some (.cells #[.int .i64 x, .int .i64 y] 36 (0, 0)) := by
    rw [Below.heap_alloc _ _ _ (by simp), show w.heap.size + 1 = (w.alloc (.cells #[.int .i64 x, .int .i64 y] 81)).heap.size by simp]
    exact heap_alloc_new _ _
  exact ret_let rfl (w.heap.size + 1) x y rfl h1 rfl ⟨rfl, (((Below.refl _ w).alloc (Nat.le_refl _) _).alloc (by simp) _).alloc (by simp; omega) _⟩

theorem made_let : ∀ n : Nat, (madeCells (Value.agg #[.int .i64 0, .int .i64 0]).cells (n * 2)).toList = cellsL (List.replicate n (0, 0))
  | 0 => by simp [madeCells, cellsL]
  | n + 1 => by
    have ih := made_let n
    have hc : (Value.agg #[.int .i64 0, .int .i64 0]).cells = #[.int .i64 0, .int .i64 0] := rfl
    rw [hc] at ih ⊢
    unfold madeCells at ih ⊢
    rw [Array.toList_map, Array.toList_range] at ih ⊢
    rw [show (n + 1) * 2 = n * 2 + 1 + 1 by omega, List.range_succ, List.range_succ, List.map_append, List.map_append, ih, List.replicate_succ', cellsL_append, List.append_assoc]
    congr 1
    have h1 : n * 2 % 2 = 0 := by omega
    have h2 : (n * 2 + 1) % 2 = 1 := by omega
    simp [h1, h2, cellsL]
theorem letInfo : (Tryd.prog.info? 36).map (fun i => (i.zero, i.size, i.bytes)) = some (some (.agg #[.int .i64 0, .int .i64 0]), 2, 16) := by kernel_rfl
theorem mid_set {α : Type} (L : List α) (z y : α) (m : Nat) : (L ++ List.replicate (m + 1) z).set L.length y = L ++ [y] ++ List.replicate m z := by
  rw [List.replicate_succ]; simp

set_option maxRecDepth 100000 in
set_option maxHeartbeats 2000000 in
theorem toLetterS_any (A : Option Addr) (bs : List (Int × Int)) (c : Nat) (w : World) (ha : Lets w A bs) (hl : bs.length ≤ 1048576) :
    Calls Tryd.prog 30 #[.slice A bs.length c] w fun e w' => ∃ v, e = .returned v ∧ OwnLt w' w.heap.size v bs ∧ Below w.heap.size w w' := by
  obtain ⟨i1, hi', hy0, hy1, hy2⟩ := info_parts letInfo
  have HA := Lib.hid ha
  clear ha
  generalize hnn : bs.length = n at *
  have HN := Lib.hid hnn
  clear hnn
  go_enter Tryd.func30, Tryd.ntmps30
  go_wp2_with (at_make; refine wpList_make_full _ rfl _ _ 34 rfl w.heap.size 36 i1 (.agg #[.int .i64 0, .int .i64 0]) 2 Tryd.underlying34 hi' hy0 hy1 .i64 .i64 _ _ n rfl rfl rfl rfl (by rw [hy2]; omega) (by unfold maxLen; omega) (Nat.le_refl _) ?_; intro w1 hown1 hgr1)
  have hb1 : Below w.heap.size w w1 := (Below.refl _ _).grown hgr1 (Nat.le_refl _) (by simp)
  rw [made_let] at hown1
  have HO : Hid (OwnLt w1 w.heap.size (.slice (some ⟨w.heap.size, 0, none⟩) n n) (bs.take 0 ++ List.replicate (n - 0) (0, 0))) := by
    show World.ownsRow _ _ _ _ _ _ _
    simp only [List.take_zero, List.nil_append, Nat.sub_zero, List.length_replicate]
    exact hown1
  have HB := Lib.hid hb1
  clear hgr1 hown1 hb1 hi' hy0 hy1 hy2
  go_loopg [4] n (fun gk i wr => ∃ j : Nat, j + gk = n ∧ i = .int .i64 j ∧ OwnLt wr w.heap.size (.slice (some ⟨w.heap.size, 0, none⟩) n n) (bs.take j ++ List.replicate (n - j) (0, 0)) ∧ Below w.heap.size w wr)
  case atStart => exact ⟨0, by omega, rfl, HO.out, HB.out⟩
  case round =>
    obtain ⟨j, hg, rfl, hown, hbel⟩ := hrel
    have HOw := Lib.hid hown
    have HBl := Lib.hid hbel
    clear hown hbel HO HB
    by_cases hlt : j < n
    · have hji : (j : Int) < (n : Int) := by omega
      have hlt2 : j < bs.length := by have := HN.out; omega
      obtain ⟨b1, o1, rfl, hc1⟩ := (HA.out.below HBl.out) (by rintro rfl; simp at hlt2)
      obtain ⟨p1, p2⟩ := hc1 j hlt2
      have HTk : Hid (bs.take (j + 1) = bs.take j ++ [(bs[j].1, bs[j].2)]) := List.take_succ_eq_append_getElem hlt2
      have HTl : Hid ((bs.take j).length = j) := by show _ = _; rw [List.length_take]; omega
      have HGK : Hid (n - j - 1 < gk ∧ j + 1 + (n - j - 1) = n) := by show _ ∧ _; omega
      clear hc1 hg
      generalize bs[j] = p at *
      generalize bs.take j = TK at *
      go_wp2_with fail
      refine (toLetter_any p.1 p.2 wr).mono ?_
      rintro e w2 ⟨rfl, hb2⟩
      have hM := HOw.out.below hb2
      have hjM : j < (TK ++ List.replicate (n - j) ((0 : Int), (0 : Int))).length := by rw [List.length_append, HTl.out, List.length_replicate]; omega
      obtain ⟨hP, hG⟩ := hM.put hjM p.1 p.2
      rw [show (TK ++ List.replicate (n - j) ((0 : Int), (0 : Int))).set j (p.1, p.2) = (TK ++ [(p.1, p.2)]) ++ List.replicate (n - (j + 1)) (0, 0) by
        have := mid_set TK ((0 : Int), (0 : Int)) (p.1, p.2) (n - (j + 1))
        rw [HTl.out, show n - (j + 1) + 1 = n - j by omega] at this
        exact this] at hP
      have HPut := Lib.hid hP
      have HB2 : Hid (Below w.heap.size w ((w2.setCell ⟨w.heap.size, j * 2, none⟩ (.int .i64 p.1)).setCell ⟨w.heap.size, j * 2 + 1, none⟩ (.int .i64 p.2))) := (below_more HBl.out hb2).grown hG (below_more HBl.out hb2).size (fun k hk => by injection hk with hk; omega)
      have hM1 : w2.ownsRow w.heap.size 36 2 (.slice (some ⟨w.heap.size, 0, none⟩) n n) n (cellsL (TK ++ List.replicate (n - j) (0, 0))) := by
        have h := hM
        unfold OwnLt at h
        rw [show (TK ++ List.replicate (n - j) ((0 : Int), (0 : Int))).length = n by rw [List.length_append, HTl.out, List.length_replicate]; omega] at h
        exact h
      obtain ⟨u0, hc0⟩ : ∃ u0, w2.cell? ⟨w.heap.size, j * 2, none⟩ = some u0 := ⟨_, (hM1.cellAt (j * 2) (by omega)).trans (cellsL_at _ j hjM).1⟩
      obtain ⟨u1, hc1⟩ : ∃ u0, w2.cell? ⟨w.heap.size, j * 2 + 1, none⟩ = some u0 := ⟨_, (hM1.cellAt (j * 2 + 1) (by omega)).trans (cellsL_at _ j hjM).2⟩
      have hf0 := hM1.frozenAt (j * 2)
      have hf1 := hM1.frozenAt (j * 2 + 1)
      clear hM hM1 hP hG hjM hb2 p1 p2
      go_wp2_with fail
      go_roundg (n - j - 1)
      case measure => exact HGK.out.1
      case rel => exact ⟨j + 1, HGK.out.2, by go_num, by rw [HTk.out]; exact HPut.out, HB2.out⟩
    · obtain rfl : j = n := by omega
      have hji : ¬ (j : Int) < (j : Int) := by omega
      have HF : Hid (OwnLt wr w.heap.size (.slice (some ⟨w.heap.size, 0, none⟩) j j) bs) := by
        have := HOw.out
        rw [Nat.sub_self, List.replicate_zero, List.append_nil, List.take_of_length_le (by rw [HN.out]; exact Nat.le_refl _)] at this
        exact this
      go_wp2_with fail
      go_ret
      exact ⟨_, rfl, HF.out, HBl.out⟩

/-- The letters that markLetterS leaves. -/
def markLs (k : Int) (n : Nat) : List (Int × Int) := (List.range n).map fun (i : Nat) => (k + 2 * (i : Int), k + 2 * (i : Int) + 1)
theorem markLs_length (k : Int) (n : Nat) : (markLs k n).length = n := by simp [markLs]
theorem markLs_succ (k : Int) (n : Nat) : markLs k (n + 1) = markLs k n ++ [(k + 2 * (n : Int), k + 2 * (n : Int) + 1)] := by simp [markLs, List.range_succ]
theorem markLs_set (k : Int) {ls : List (Int × Int)} {j : Nat} (hj : j < ls.length) : (markLs k j ++ ls.drop j).set j (k + 2 * (j : Int), k + 2 * (j : Int) + 1) = markLs k (j + 1) ++ ls.drop (j + 1) := by
  rw [List.drop_eq_getElem_cons hj, markLs_succ]
  have h := List.set_append_right (s := markLs k j) (t := ls[j] :: ls.drop (j + 1)) j (k + 2 * (j : Int), k + 2 * (j : Int) + 1) (by rw [markLs_length]; exact Nat.le_refl _)
  rw [h, markLs_length, Nat.sub_self, List.set_cons_zero, List.append_assoc]; rfl
set_option maxRecDepth 100000 in
set_option maxHeartbeats 2000000 in
theorem markLetterS_any (v : Value) (ls : List (Int × Int)) (base : Nat) (k : Int) (w : World) (ho : OwnLt w base v ls) (hl : ls.length ≤ 1048576) (hk0 : 0 ≤ k) (hk1 : k ≤ 1000000000) :
    Calls Tryd.prog 33 #[v, .int .i64 k] w fun e w' => e = .returned (.int .i64 (k + 2 * (ls.length : Int))) ∧ OwnLt w' base v (markLs k ls.length) ∧ w.grownBy w' v.ownBlock := by
  rcases ho.2 with ⟨rfl, hn⟩ | ⟨g, cap, cur, rfl, hbg, hg, hle, _⟩
  · obtain rfl := List.eq_nil_of_length_eq_zero hn
    go_enter Tryd.func33, Tryd.ntmps33
    go_wp2_with fail
    go_loopg [1, 5] 0 (fun _ q i wr => q = .int .i64 k ∧ i = .int .i64 0 ∧ w = wr)
    case atStart => exact ⟨rfl, rfl, rfl⟩
    case round =>
      obtain ⟨rfl, rfl, rfl⟩ := hrel
      go_wp2_with fail
      go_ret
      exact ⟨by simp, OwnLt.nil _ _, ⟨rfl, rfl, rfl, Nat.le_refl _, fun _ _ _ => rfl⟩⟩
  · have HO0 := Lib.hid ho
    clear ho hg hle
    generalize hnn : ls.length = n at *
    have HN := Lib.hid hnn
    clear hnn
    go_enter Tryd.func33, Tryd.ntmps33
    go_wp2_with fail
    go_loopg [1, 5] n (fun gk q i wr => ∃ j : Nat, j + gk = n ∧ q = .int .i64 (k + 2 * (j : Int)) ∧ i = .int .i64 j ∧ OwnLt wr base (.slice (some ⟨g, 0, none⟩) n cap) (markLs k j ++ ls.drop j) ∧ w.grownBy wr (some g))
    case atStart => exact ⟨0, by omega, by simp, rfl, HO0.out, ⟨rfl, rfl, rfl, Nat.le_refl _, fun _ _ _ => rfl⟩⟩
    case round =>
      obtain ⟨j, hg, rfl, rfl, hown, hgr⟩ := hrel
      have HOw := Lib.hid hown
      have HGr := Lib.hid hgr
      clear hown hgr
      by_cases hlt : j < n
      · have hji : (j : Int) < (n : Int) := by omega
        have hlt2 : j < ls.length := by have := HN.out; omega
        have hMl : (markLs k j ++ ls.drop j).length = n := by rw [List.length_append, markLs_length, List.length_drop, HN.out]; omega
        have hjM : j < (markLs k j ++ ls.drop j).length := by omega
        have HPut := Lib.hid (HOw.out.put hjM (k + 2 * (j : Int)) (k + 2 * (j : Int) + 1))
        rw [markLs_set k hlt2] at HPut
        have hM1 : wr.ownsRow base 36 2 (.slice (some ⟨g, 0, none⟩) n cap) n (cellsL (markLs k j ++ ls.drop j)) := by
          have h := HOw.out
          unfold OwnLt at h
          rw [hMl] at h
          exact h
        obtain ⟨u0, hc0⟩ : ∃ u0, wr.cell? ⟨g, j * 2, none⟩ = some u0 := ⟨_, (hM1.cellAt (j * 2) (by omega)).trans (cellsL_at _ j hjM).1⟩
        have hf0 := hM1.frozenAt (j * 2)
        have hs1 := (hM1.stored (j * 2) (.int .i64 (k + 2 * (j : Int)))).1
        obtain ⟨u1, hc1⟩ : ∃ u0, (wr.setCell ⟨g, j * 2, none⟩ (.int .i64 (k + 2 * (j : Int)))).cell? ⟨g, j * 2 + 1, none⟩ = some u0 := by
          have h := hs1.cellAt (j * 2 + 1) (by omega)
          rw [List.getElem?_set_ne (by omega)] at h
          exact ⟨_, h.trans (cellsL_at _ j hjM).2⟩
        have hf1 := hs1.frozenAt (j * 2 + 1)
        have HGK : Hid (n - j - 1 < gk ∧ j + 1 + (n - j - 1) = n) := by show _ ∧ _; omega
        have hjn : (j : Int) ≤ 1048576 := by omega
        clear hMl hjM hM1 hs1 hg
        generalize hq : k + 2 * (j : Int) = q at *
        have HQ := Lib.hid hq
        have hqb : 0 ≤ q ∧ q ≤ 1010000000 := by omega
        obtain ⟨hq0, hq1⟩ := hqb
        clear hq
        go_wp2_with fail
        go_roundg (n - j - 1)
        case measure => exact HGK.out.1
        case rel => exact ⟨j + 1, HGK.out.2, by rw [show k + 2 * ((j + 1 : Nat) : Int) = q + 1 + 1 by have := HQ.out; omega], by go_num, HPut.out.1, grownBy_trans HGr.out HPut.out.2⟩
      · obtain rfl : j = n := by omega
        have hji : ¬ (j : Int) < (j : Int) := by omega
        have HF : Hid (OwnLt wr base (.slice (some ⟨g, 0, none⟩) j cap) (markLs k j)) := by
          have h := HOw.out
          rw [List.drop_of_length_le (by rw [HN.out]; exact Nat.le_refl _), List.append_nil] at h
          exact h
        go_wp2_with fail
        go_ret
        exact ⟨rfl, HF.out, HGr.out⟩
end Go.Proofs.YtdoogleggdlddaaDoor

/- JR -/
namespace Go.Proofs.YtdoogleggdlddaaDoor
open Go.RowKit

/-- A slice of truth values reads as bs. -/
def Bols (w : World) (A : Option Addr) (bs : List Bool) : Prop := bs ≠ [] → ∃ b o, A = some ⟨b, o, none⟩ ∧ ∀ j (h : j < bs.length), w.cell? ⟨b, o + j, none⟩ = some (.bool bs[j])
theorem Bols.below {w w' : World} {A : Option Addr} {bs : List Bool} (h : Bols w A bs) (hb : Below w.heap.size w w') : Bols w' A bs := fun hne => by
  obtain ⟨b, o, e, hc⟩ := h hne
  exact ⟨b, o, e, fun j hj => (hb.cell (World.block_lt_of_cell? _ _ (hc j hj))).trans (hc j hj)⟩
theorem OwnT.form {w : World} {base : Nat} {v : Value} {bs : List Bool} (h : OwnT w base v bs) : ∃ A c, v = .slice A bs.length c ∧ Bols w A bs := by
  rcases h.2 with ⟨rfl, hn⟩ | ⟨g, cap, cur, rfl, _, _, hle, _⟩
  · obtain rfl := List.eq_nil_of_length_eq_zero hn
    exact ⟨none, 0, rfl, fun h => absurd rfl h⟩
  · refine ⟨some ⟨g, 0, none⟩, cap, rfl, fun _ => ⟨g, 0, rfl, fun j hj => ?_⟩⟩
    rw [Nat.zero_add, World.ownsRow.cellAt h j (by omega)]
    simp [hj]
theorem OwnT.lower {w : World} {base base' : Nat} {v : Value} {bs : List Bool} (h : OwnT w base v bs) (hb : base' ≤ base) : OwnT w base' v bs := row_lower h hb
theorem OwnT.lt {w : World} {base : Nat} {v : Value} {bs : List Bool} (h : OwnT w base v bs) : ∀ k, v.ownBlock = some k → base ≤ k ∧ k < w.heap.size := World.ownsRow.lt h
theorem OwnT.kept {w w' : World} {base : Nat} {v : Value} {bs : List Bool} {row : Option Nat} (h : OwnT w base v bs) (hg : w.grownBy w' row) (hne : v.ownBlock = none ∨ v.ownBlock ≠ row) : OwnT w' base v bs := World.ownsRow.kept h hg hne
def eqT (a b : List Bool) : Bool := decide (a = b)
theorem eqT_self (a : List Bool) : eqT a a = true := by simp [eqT]
theorem eqT_len {a b : List Bool} (h : a.length ≠ b.length) : eqT a b = false := by
  simp [eqT]; intro e; exact h (by rw [e])
theorem eqT_at {a b : List Bool} {k : Nat} (ha : k < a.length) (hb : k < b.length) (h : (a[k] != b[k]) = true) : eqT a b = false := by
  cases he : eqT a b
  · rfl
  · have e : a = b := by simpa [eqT] using he
    subst e
    simp at h
theorem eqT_take {a b : List Bool} {k : Nat} (ha : k < a.length) (hb : k < b.length) (h : a.take k = b.take k) (h2 : (a[k] != b[k]) = false) : a.take (k + 1) = b.take (k + 1) := by
  rw [List.take_succ_eq_append_getElem ha, List.take_succ_eq_append_getElem hb, h]
  rw [show a[k] = b[k] by simpa using h2]
theorem eqT_all {a b : List Bool} (hl : a.length = b.length) (h : a.take a.length = b.take a.length) : eqT a b = true := by
  rw [List.take_length, hl, List.take_length] at h
  simp [eqT, h]
/-- What markBoolS leaves. -/
def markT (k : Int) (n : Nat) : List Bool := (List.range n).map fun (i : Nat) => ((k + (i : Int)) % 3 == 0)
theorem markT_length (k : Int) (n : Nat) : (markT k n).length = n := by simp [markT]
theorem markT_succ (k : Int) (n : Nat) : markT k (n + 1) = markT k n ++ [(k + (n : Int)) % 3 == 0] := by simp [markT, List.range_succ]
theorem markT_set (k : Int) {bs : List Bool} {j : Nat} (hj : j < bs.length) : (markT k j ++ bs.drop j).set j ((k + (j : Int)) % 3 == 0) = markT k (j + 1) ++ bs.drop (j + 1) := by
  rw [List.drop_eq_getElem_cons hj, markT_succ]
  have h := List.set_append_right (s := markT k j) (t := bs[j] :: bs.drop (j + 1)) j ((k + (j : Int)) % 3 == 0) (by rw [markT_length]; exact Nat.le_refl _)
  rw [h, markT_length, Nat.sub_self, List.set_cons_zero, List.append_assoc]; rfl
theorem markT_at (k : Int) {n j : Nat} (h : j < (markT k n).length) : (markT k n)[j] = ((k + (j : Int)) % 3 == 0) := by simp [markT]
theorem OwnT.put {w : World} {base g n cap : Nat} {bs : List Bool} (h : OwnT w base (.slice (some ⟨g, 0, none⟩) n cap) bs) {j : Nat} (b : Bool) :
    OwnT (w.setCell ⟨g, j, none⟩ (.bool b)) base (.slice (some ⟨g, 0, none⟩) n cap) (bs.set j b) ∧ w.grownBy (w.setCell ⟨g, j, none⟩ (.bool b)) (some g) := by
  have hl := own_len h
  subst hl
  have hs := World.ownsRow.stored h j (.bool b)
  refine ⟨?_, hs.2⟩
  unfold OwnT
  rw [List.length_set, List.map_set]
  exact hs.1
end Go.Proofs.YtdoogleggdlddaaDoor

/- JS -/
namespace Go.Proofs.YtdoogleggdlddaaDoor
open Go.RowKit

theorem gGrown {w w0 w' : World} {B : Nat} (hb : Below B w w0) (hB : B ≤ w0.heap.size) {g : Nat} (hg : w0.grownBy w' (some g)) (h : B ≤ g) : Below B w w' := hb.grown hg hB (fun k hk => by injection hk with hk; omega)

set_option maxRecDepth 100000 in
set_option maxHeartbeats 2000000 in
theorem nos5_any (B k m : Nat) (w : World) (hcur : Cur w B k) (hk : k ≤ 68719476736) (hm : m ≤ 40) :
    Calls Tryd.prog 44 #[.pointer (some ⟨B, 0, none⟩), .int .i64 m] w fun e w' => ∃ v, ∃ N : List Nat, e = .returned v ∧ Own w' w.heap.size v (zI N) ∧ N.length ≤ 41 ∧ (∀ x ∈ N, x ≤ 999) ∧ Cur w' B (k + 1000) ∧ w.grownBy w' (some B) := by
  have hB := hcur.lt
  have HC := Lib.hid hcur
  clear hcur
  go_enter Tryd.func44, Tryd.ntmps44
  go_wp2_with fail
  refine (pick_any B k ((m : Int) + 1) _ HC.out (by omega) (by omega)).mono ?_
  rintro e w1 ⟨n, rfl, ⟨hn0, hn1⟩, hc1, hg1⟩
  obtain ⟨n, rfl⟩ := Int.eq_ofNat_of_zero_le hn0
  have hn2 : n ≤ 41 := by omega
  have HC1 := Lib.hid hc1
  have HG1 := Lib.hid hg1
  clear hc1 hg1 HC hn1 hn0
  go_wp2_with fail
  go_loopg [5, 6] n (fun gk v i wr => ∃ N : List Nat, i = .int .i64 gk ∧ N.length + gk ≤ n ∧ Own wr w.heap.size v (zI N) ∧ (∀ x ∈ N, x ≤ 999) ∧ Cur wr B (k + 2 + 2 * (n - gk)) ∧ w.grownBy wr (some B))
  case atStart => exact ⟨[], rfl, by simp, Own.nil _ _, (fun x hx => by cases hx), HC1.out.mono (by omega), HG1.out⟩
  case round =>
    obtain ⟨N, rfl, hlen, hown, hN, hc, hg⟩ := hrel
    have HO := Lib.hid hown
    have HC := Lib.hid hc
    have HG := Lib.hid hg
    have HN := Lib.hid hN
    clear hown hc hg hN HC1 HG1
    cases gk with
    | zero =>
      have hz : ¬ (0 : Int) < ((0 : Nat) : Int) := by omega
      obtain ⟨A3, c3, rfl, _⟩ := HO.out.form
      go_wp2_with fail
      go_ret
      first
        | exact ⟨_, N, rfl, HO.out, by omega, HN.out, HC.out.mono (by omega), HG.out⟩
        | exact ⟨_, rfl, N, HO.out, by omega, HN.out, HC.out.mono (by omega), HG.out⟩
    | succ j =>
      have hz : (0 : Int) < ((j + 1 : Nat) : Int) := by omega
      go_wp2_with fail
      refine (pick_any B _ 200 _ HC.out (by omega) (by omega)).mono ?_
      rintro e w2 ⟨r, rfl, ⟨hr0, hr1⟩, hc2, hg2⟩
      obtain ⟨r, rfl⟩ := Int.eq_ofNat_of_zero_le hr0
      have hr2 : r ≤ 999 := by omega
      have HO2 := Lib.hid (HO.out.cur hB hg2)
      have HC2 := Lib.hid hc2
      have HG2 := Lib.hid (grownBy_trans HG.out hg2)
      have hs2 := HG2.out.size
      clear hc2 hg2 HO HC HG hr0 hr1
      obtain ⟨A2, c2, rfl, hI2⟩ := HO2.out.form
      have hzl := zI_length N
      have HHas := Lib.hid (sHas A2 (zI N) c2 (r : Int) w2 hI2 (by rw [hzl]; omega))
      rw [hzl, has_zI] at HHas
      rw [hzl]
      have HO2' : Hid (Own w2 w.heap.size (.slice A2 N.length c2) (zI N)) := by have h := HO2.out; rw [hzl] at h; exact h
      clear hI2 HO2 hzl
      by_cases hm2 : r ∈ N
      · have hmb : decide (r ∈ N) = true := by simpa using hm2
        rw [hmb] at HHas
        go_wp2_with (go_at_call 76; refine HHas.out.mono ?_; rintro e w' ⟨rfl, rfl⟩)
        go_roundg j
        case measure => omega
        case rel => exact ⟨N, by go_num, by omega, HO2'.out, HN.out, HC2.out.mono (by omega), HG2.out⟩
      · have hmb : decide (r ∈ N) = false := by simpa using hm2
        rw [hmb] at HHas
        have HN2 : Hid (∀ x ∈ N ++ [r], x ≤ 999) := fun x hx => by
          rcases List.mem_append.1 hx with h | h
          · exact HN.out x h
          · rw [List.mem_singleton.1 h]; exact hr2
        go_wp2_with (first
          | (go_at_call 76; refine HHas.out.mono ?_; rintro e w' ⟨rfl, rfl⟩)
          | (at_builtin; refine app_law w2 w.heap.size _ N r rfl _ _ rfl rfl rfl HO2'.out hs2 (by omega) w2 (Below.refl _ _) ?_; intro v' w' H'))
        have HC3 : Hid (Cur w' B (k + 2 + 2 * (n - (j + 1)) + 2)) := (HC2.out.grown (World.grownBy_alloc _ _ none) (fun g e => by cases e)).grown H'.out.2.2 (fun g hg => by have := (HO2'.out.lt g hg).1; omega)
        have HG3 : Hid (w.grownBy w' (some B)) := grownBy_far (grownBy_far HG2.out (World.grownBy_alloc _ _ none) (fun g e => by cases e)) H'.out.2.2 (fun g hg => (HO2'.out.lt g hg).1)
        go_roundg j
        case measure => omega
        case rel => exact ⟨N ++ [r], by go_num, by rw [List.length_append]; simp; omega, H'.out.1, HN2.out, HC3.out.mono (by omega), HG3.out⟩
end Go.Proofs.YtdoogleggdlddaaDoor

/- JT -/
namespace Go.Proofs.YtdoogleggdlddaaDoor
open Go.RowKit

theorem grown_tail {w a b : World} {B base : Nat} {v : Value} {zs : List Int} (h : w.grownBy a (some B)) (ho : Own a base v zs) (hb : w.heap.size ≤ base) {o : Obj} (k : (a.alloc o).grownBy b v.ownBlock) : w.grownBy b (some B) :=
  grownBy_far (grownBy_far h (World.grownBy_alloc _ _ none) (fun g e => by cases e)) k (fun g hg => Nat.le_trans hb (ho.lt g hg).1)

set_option maxRecDepth 100000 in
set_option maxHeartbeats 2000000 in
theorem blockOf5 (B k : Nat) (w : World) (hcur : Cur w B k) (hk : k ≤ 68719476736) :
    Calls Tryd.prog 71 #[.pointer (some ⟨B, 0, none⟩)] w fun e w' => ∃ v zs, e = .returned v ∧ Own w' w.heap.size v zs ∧ (1 ≤ zs.length ∧ zs.length ≤ 8) ∧ Cur w' B (k + 1000) ∧ w.grownBy w' (some B) := by
  obtain ⟨i0, hi, hz0, hz1, hz2⟩ := info_parts intInfo
  have hB := hcur.lt
  have HC := Lib.hid hcur
  clear hcur
  go_enter Tryd.func71, Tryd.ntmps71
  go_wp2_with fail
  refine (pick_any B k 8 _ HC.out (by omega) (by omega)).mono ?_
  rintro e w1 ⟨n, rfl, ⟨hn0, hn1⟩, hc1, hg1⟩
  obtain ⟨n, rfl⟩ := Int.eq_ofNat_of_zero_le hn0
  have hn2 : n ≤ 7 := by omega
  have HC1 := Lib.hid hc1
  have HG1 := Lib.hid hg1
  clear hc1 hg1 HC hn1 hn0
  go_wp2_with fail
  go_loopg [3, 4] (n + 1) (fun gk v i wr => ∃ zs : List Int, i = .int .i64 gk ∧ zs.length + gk = n + 1 ∧ Own wr w.heap.size v zs ∧ Cur wr B (k + 2 + 6 * zs.length) ∧ w.grownBy wr (some B))
  case atStart => exact ⟨[], by go_num, by simp, Own.nil _ _, HC1.out.mono (by simp), HG1.out⟩
  case round =>
    obtain ⟨zs, rfl, hlen, hown, hc, hg⟩ := hrel
    have HO := Lib.hid hown
    have HC := Lib.hid hc
    have HG := Lib.hid hg
    clear hown hc hg HC1 HG1
    cases gk with
    | zero =>
      have hz : ¬ (0 : Int) < ((0 : Nat) : Int) := by omega
      go_wp2_with fail
      refine (one_any B _ 30 _ HC.out (by omega) (by omega)).mono ?_
      rintro e w2 ⟨bb, rfl, hc2, hg2⟩
      have HO2 := Lib.hid (HO.out.cur hB hg2)
      have HC2 := Lib.hid hc2
      have HG2 := Lib.hid (grownBy_trans HG.out hg2)
      clear hc2 hg2 HO HC HG
      cases bb
      · obtain ⟨A3, c3, rfl, _⟩ := HO2.out.form
        go_wp2_with fail
        go_ret
        first
          | exact ⟨_, zs, rfl, HO2.out, by omega, HC2.out.mono (by omega), HG2.out⟩
          | exact ⟨_, rfl, zs, HO2.out, by omega, HC2.out.mono (by omega), HG2.out⟩
      · rcases HO2.out.2 with ⟨_, hn0⟩ | ⟨g, cap, cur, rfl, hbg, hgc, hle, _⟩
        · omega
        · have hne : g ≠ B := by omega
          have HL := Lib.hid (lit_cells w2 [-1, 4294967295, 4294967296] 3)
          have hltB : B < w2.heap.size := HC2.out.lt
          have hgl : g < w2.heap.size := heap_lt hgc
          clear hgc hle
          have h0 : 0 < zs.length := by omega
          have h0i : (0 : Int) < (zs.length : Int) := by omega
          go_wp2_with fail
          refine (among_any B _ w2.heap.size 0 3 [-1, 4294967295, 4294967296] _ (HC2.out.grown (World.grownBy_alloc _ _ none) (fun g e => by cases e)) (by omega) (by omega) (by simp) (by simp) HL.out).mono ?_
          rintro e w3 ⟨y, rfl, _, hc3, hg3⟩
          have hO3 := (HO2.out.below (gAlloc w2 _)).cur hB hg3
          have hG3 : w.grownBy w3 (some B) := grownBy_trans (grownBy_far HG2.out (World.grownBy_alloc _ _ none) (fun g e => by cases e)) hg3
          have hst := World.ownsRow.stored hO3 0 (.int .i64 y)
          have HSt : Hid (Own (w3.setCell ⟨g, 0, none⟩ (.int .i64 y)) w.heap.size (.slice (some ⟨g, 0, none⟩) zs.length cap) (zs.set 0 y)) := by
            show World.ownsRow _ _ _ _ _ _ _
            rw [List.length_set, List.map_set]
            exact hst.1
          have HC3 : Hid (Cur (w3.setCell ⟨g, 0, none⟩ (.int .i64 y)) B (k + 1000)) := (hc3.mono (by omega)).grown hst.2 (fun g' e => by injection e with e; omega)
          have HG4 : Hid (w.grownBy (w3.setCell ⟨g, 0, none⟩ (.int .i64 y)) (some B)) := grownBy_far hG3 hst.2 (fun g' e => by injection e with e; omega)
          obtain ⟨u0, hc0⟩ : ∃ u0, w3.cell? ⟨g, 0, none⟩ = some u0 := ⟨.int .i64 zs[0], by rw [World.ownsRow.cellAt hO3 0 (by omega)]; simp [h0]⟩
          have hf0 := World.ownsRow.frozenAt hO3 0
          clear hc3 hg3 hO3 hG3 hst
          go_wp2_with fail
          go_ret
          first
            | exact ⟨_, zs.set 0 y, rfl, HSt.out, by rw [List.length_set]; omega, HC3.out, HG4.out⟩
            | exact ⟨_, rfl, zs.set 0 y, HSt.out, by rw [List.length_set]; omega, HC3.out, HG4.out⟩
    | succ j =>
      have hz : (0 : Int) < ((j + 1 : Nat) : Int) := by omega
      go_wp2_with fail
      refine (pick_any B _ 250 _ HC.out (by omega) (by omega)).mono ?_
      rintro e w2 ⟨r, rfl, ⟨hr0, hr1⟩, hc2, hg2⟩
      have hr2 : r ≤ 250 := by omega
      have HO2 := Lib.hid (HO.out.cur hB hg2)
      have HC2 := Lib.hid hc2
      have HG2 := Lib.hid (grownBy_trans HG.out hg2)
      clear hc2 hg2 HO HC HG hr1
      go_wp2_with fail
      refine (pick_any B _ 250 _ HC2.out (by omega) (by omega)).mono ?_
      rintro e w3 ⟨q, rfl, ⟨hq0, hq1⟩, hc3, hg3⟩
      have hq2 : q ≤ 250 := by omega
      have HO3 := Lib.hid (HO2.out.cur hB hg3)
      have HC3 := Lib.hid hc3
      have HG3 := Lib.hid (grownBy_trans HG2.out hg3)
      clear hc3 hg3 HO2 HC2 HG2 hq1
      go_wp2_with fail
      refine (pick_any B _ 250 _ HC3.out (by omega) (by omega)).mono ?_
      rintro e w4 ⟨s, rfl, ⟨hs0, hs1⟩, hc4, hg4⟩
      have hs2 : s ≤ 250 := by omega
      have HO4 := Lib.hid (HO3.out.cur hB hg4)
      have HC4 := Lib.hid hc4
      have HG4 := Lib.hid (grownBy_trans HG3.out hg4)
      have hsz := HG4.out.size
      have HOR : Hid (w4.ownsRow w.heap.size 3 1 u3 zs.length (zs.map (Value.int .i64))) := HO4.out
      clear hc4 hg4 HO3 HC3 HG3 hs1
      go_wp2_with (at_builtin; refine wpList_append_own _ rfl _ _ 23 rfl w.heap.size 3 i0 (.int .i64 0) 1 8 Tryd.underlying23 hi hz0 hz1 hz2 rfl (by decide) _ _ _ rfl (HOR.out.alloc _) ⟨w4.heap.size, 0, none⟩ 1 1 [.int .i64 (r * 16000000 + q * 60000 + s)] rfl rfl (cell_one_new _ _ _) ?c2 ?c3 ?c4 ?c5 ?_)
      case c2 => intro u hu; simp at hu; subst hu; rfl
      case c3 => unfold maxLen; omega
      case c4 => omega
      case c5 => simp; omega
      · intro v' w5 hown' hgrow _
        have R := appended hB HO4.out HC4.out HG4.out hown' hgrow
        have HR := Lib.hid R
        clear hown' hgrow R HOR HO4 HC4 HG4
        go_wp2_with fail
        go_roundg j
        case measure => omega
        case rel => exact ⟨zs ++ [r * 16000000 + q * 60000 + s], by go_num, by rw [List.length_append]; simp; omega, HR.out.1, HR.out.2.1.mono (by rw [List.length_append]; simp; omega), HR.out.2.2⟩
end Go.Proofs.YtdoogleggdlddaaDoor

/- JU -/
namespace Go.Proofs.YtdoogleggdlddaaDoor
open Go.RowKit

theorem OwnLt.cur {w w' : World} {base B : Nat} {v : Value} {L : List (Int × Int)} (h : OwnLt w base v L) (hB : B < base) (hg : w.grownBy w' (some B)) : OwnLt w' base v L :=
  World.ownsRow.kept h hg (by
    cases hv : v.ownBlock with
    | none => exact Or.inl rfl
    | some g => right; intro e; injection e with e; have := (h.lt g hv).1; omega)
theorem OwnLt.more {w1 : World} {base : Nat} {v' : Value} {L : List (Int × Int)} {x y : Int} (h : w1.ownsRow base 36 2 v' (L.length + 1) (cellsL L ++ [.int .i64 x, .int .i64 y])) : OwnLt w1 base v' (L ++ [(x, y)]) := by
  unfold OwnLt
  rw [List.length_append, List.length_singleton, cellsL_append]
  exact h
theorem let_news {W : World} {x y : Int} : ∀ j u, [Value.int .i64 x, .int .i64 y][j]? = some u → (W.alloc (.cells #[.int .i64 x, .int .i64 y] 36)).cell? ((⟨W.heap.size, 0, none⟩ : Addr).add j) = some u := by
  intro j u hj
  match j, hj with
  | 0, hj => simp at hj; subst hj; simp [Addr.add]
  | 1, hj => simp at hj; subst hj; simp [Addr.add]
  | j + 2, hj => simp at hj
theorem let_one {x y : Int} : ∀ u ∈ [Value.int .i64 x, .int .i64 y], u.oneCell' = true := by
  intro u hu; simp at hu; rcases hu with rfl | rfl <;> rfl

theorem set_same5 {α : Type} {l : List α} {i : Nat} {x : α} (h : l[i]? = some x) : l.set i x = l := by
  apply List.ext_getElem?
  intro k
  rw [List.getElem?_set]
  split
  · rename_i e
    subst e
    obtain ⟨hi, e2⟩ := List.getElem?_eq_some_iff.1 h
    rw [if_pos hi, h]
  · rfl
/-- What a draw of letters leaves. -/
def DrewLs (B k : Nat) (w : World) (e : Ending) (w' : World) : Prop := ∃ (v : Value) (L : List (Int × Int)), e = .returned v ∧ OwnLt w' w.heap.size v L ∧ L.length ≤ 50 ∧ Cur w' B k ∧ w.grownBy w' (some B)

/-- What a draw of a number and letters leaves. -/
def DrewNL (w : World) (e : Ending) (w' : World) : Prop := ∃ (n : Int) (v : Value) (L : List (Int × Int)), e = .returned (.tuple #[.int .i64 n, v]) ∧ OwnLt w' w.heap.size v L ∧ L.length ≤ 50 ∧ Below w.heap.size w w'
end Go.Proofs.YtdoogleggdlddaaDoor
