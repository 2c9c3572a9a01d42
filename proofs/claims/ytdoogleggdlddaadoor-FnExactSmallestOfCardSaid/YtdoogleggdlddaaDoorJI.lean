/-
  The model of chapter 5: slices of letters, GoodLetters.
-/
import Derived.Test.YtdoogleggdlddaaDoorJH
namespace Go.Proofs.YtdoogleggdlddaaDoor
open Go.RowKit

/-- A slice of letters reads as ls. -/
def Lets (w : World) (A : Option Addr) (ls : List (Int × Int)) : Prop := ls ≠ [] → ∃ b o, A = some ⟨b, o, none⟩ ∧ ∀ j (h : j < ls.length), w.cell? ⟨b, o + j * 2, none⟩ = some (.int .i64 ls[j].1) ∧ w.cell? ⟨b, o + j * 2 + 1, none⟩ = some (.int .i64 ls[j].2)
theorem Lets.below {w w' : World} {A : Option Addr} {ls : List (Int × Int)} (h : Lets w A ls) (hb : Below w.heap.size w w') : Lets w' A ls := fun hne => by
  obtain ⟨b, o, e, hc⟩ := h hne
  refine ⟨b, o, e, fun j hj => ?_⟩
  obtain ⟨h1, h2⟩ := hc j hj
  exact ⟨(hb.cell (World.block_lt_of_cell? _ _ h1)).trans h1, (hb.cell (World.block_lt_of_cell? _ _ h2)).trans h2⟩
def pieceB5 (z : Int) : Bool := inB z 0 4294967295
set_option maxRecDepth 100000 in
set_option maxHeartbeats 400000 in
theorem sPiece5 (z : Int) (w : World) : Calls Tryd.prog 86 #[.int .i64 z] w fun e w' => e = .returned (.bool (pieceB5 z)) ∧ w = w' := by
  go_enter Tryd.func86, Tryd.ntmps86
  go_wp2_with (go_at_call 63; refine (l1In_any _ _ _ _).mono ?_; rintro e w' ⟨rfl, rfl⟩)
  go_ret
  exact ⟨rfl, rfl⟩

def letB (x : Int × Int) : Bool := noOkB x.1 && pieceB5 x.2
/-- None of the letters has this number. -/
def newB (ls : List (Int × Int)) (n : Int) : Bool := ls.all fun y => !(y.1 == n)
def okTo (ls : List (Int × Int)) : Nat → Bool
  | 0 => true
  | k + 1 => okTo ls k && (letB (ls.getD k (0, 0)) && newB (ls.take k) (ls.getD k (0, 0)).1)
def goodLB (n : Int) (ls : List (Int × Int)) : Bool := okTo ls ls.length && (pcOkB n && decide (ls.length ≤ 40))
theorem okTo_no {ls : List (Int × Int)} {k : Nat} (h : okTo ls k = false) : ∀ {m : Nat}, k ≤ m → okTo ls m = false
  | 0, hm => by obtain rfl : k = 0 := by omega
                exact h
  | m + 1, hm => by
    by_cases e : k = m + 1
    · subst e; exact h
    · rw [okTo, okTo_no h (show k ≤ m by omega)]; rfl
theorem good_no {n : Int} {ls : List (Int × Int)} {k : Nat} (hk : k ≤ ls.length) (h : okTo ls k = false) : goodLB n ls = false := by rw [goodLB, okTo_no h hk]; rfl
theorem newB_no {ls : List (Int × Int)} {n : Int} {i k : Nat} (hk : k < ls.length) (hi : i < k) (h : (ls[i].1 == n) = true) : newB (ls.take k) n = false := by
  rw [newB, List.all_eq_false]
  refine ⟨ls[i], ?_, by simp [h]⟩
  have hl : i < (ls.take k).length := by rw [List.length_take]; omega
  have := List.getElem_mem hl
  rwa [List.getElem_take] at this
theorem newB_step {ls : List (Int × Int)} {n : Int} {i : Nat} (hi : i < ls.length) (h : newB (ls.take i) n = true) (h2 : (ls[i].1 == n) = false) : newB (ls.take (i + 1)) n = true := by
  rw [newB, List.take_succ_eq_append_getElem hi, List.all_append, ← newB, h]
  simp [h2]

set_option maxRecDepth 100000 in
set_option maxHeartbeats 2000000 in
theorem sGoodL_any (n : Int) (A : Option Addr) (ls : List (Int × Int)) (ca : Nat) (w : World) (ha : Lets w A ls) (hl : ls.length ≤ 1048576) (hca : ls.length ≤ ca) :
    Calls Tryd.prog 57 #[.int .i64 n, .slice A ls.length ca] w fun e w' => e = .returned (.bool (goodLB n ls)) ∧ Below w.heap.size w w' := by
  have HA := Lib.hid ha
  clear ha
  go_enter Tryd.func57, Tryd.ntmps57
  go_wp2_with fail
  go_loopg [11] ls.length (fun gk i wr => ∃ k : Nat, k + gk = ls.length ∧ i = .int .i64 k ∧ okTo ls k = true ∧ Below w.heap.size w wr)
  case atStart => exact ⟨0, by omega, rfl, rfl, Below.refl _ _⟩
  case round =>
    obtain ⟨k, hg, rfl, hok, hbel⟩ := hrel
    have HOk := Lib.hid hok
    have HBl := Lib.hid hbel
    clear hok hbel
    by_cases hlt : k < ls.length
    · have hki : (k : Int) < (ls.length : Int) := by omega
      have HAr := Lib.hid (HA.out.below HBl.out)
      obtain ⟨b1, o1, rfl, hc1⟩ := HAr.out (by rintro rfl; simp at hlt)
      obtain ⟨p1, p2⟩ := hc1 k hlt
      have HNx : Hid (okTo ls (k + 1) = (letB ls[k] && newB (ls.take k) ls[k].1)) := by
        show _ = _
        rw [okTo, HOk.out, show ls.getD k (0, 0) = ls[k] by simp [List.getD, hlt]]; rfl
      have HNo : Hid (okTo ls (k + 1) = false → goodLB n ls = false) := fun h => good_no (by omega) h
      have HNew : Hid (∀ i (h' : i < ls.length), i < k → ((ls[i]'h').1 == ls[k].1) = true → newB (ls.take k) ls[k].1 = false) := fun i _ hi h => newB_no hlt hi h
      have HGK : Hid (ls.length - k - 1 < gk ∧ k + 1 + (ls.length - k - 1) = ls.length) := by show _ ∧ _; omega
      clear hc1 hg
      generalize ls[k] = p at *
      have HW : Hid (Below wr.heap.size wr (wr.alloc (.cells #[.int .i64 p.1, .int .i64 p.2] 36))) := gAlloc _ _
      have hx0 : (wr.alloc (.cells #[.int .i64 p.1, .int .i64 p.2] 36)).cell? ⟨wr.heap.size, 0, none⟩ = some (.int .i64 p.1) := cell_of_row _ _ 0 _ _ _ (heap_alloc_new _ _)
      have hs1 : wr.heap.size < (wr.alloc (.cells #[.int .i64 p.1, .int .i64 p.2] 36)).heap.size := by simp
      have HB1 := Lib.hid (below_more HBl.out HW.out)
      cases hn1 : noOkB p.1
      · have HE := Lib.hid (HNo.out (by rw [HNx.out, letB, hn1]; rfl))
        go_wp2_with (go_at_call 60; refine (sNo _ _).mono ?_; rintro e w' ⟨rfl, rfl⟩)
        go_ret
        exact ⟨ret_bool' HE.out.symm, HB1.out⟩
      · cases hn2 : pieceB5 p.2
        · have HE := Lib.hid (HNo.out (by rw [HNx.out, letB, hn2]; simp))
          go_wp2_with (first
            | (go_at_call 60; refine (sNo _ _).mono ?_; rintro e w' ⟨rfl, rfl⟩)
            | (go_at_call 86; refine (sPiece5 _ _).mono ?_; rintro e w' ⟨rfl, rfl⟩))
          go_ret
          exact ⟨ret_bool' HE.out.symm, HB1.out⟩
        · have HNx2 : Hid (okTo ls (k + 1) = newB (ls.take k) p.1) := by show _ = _; rw [HNx.out, letB, hn1, hn2]; rfl
          have hkc : k ≤ ca := by omega
          go_wp2_with (first
            | (go_at_call 60; refine (sNo _ _).mono ?_; rintro e w' ⟨rfl, rfl⟩)
            | (go_at_call 86; refine (sPiece5 _ _).mono ?_; rintro e w' ⟨rfl, rfl⟩))
          have HAW := Lib.hid (HAr.out.below HW.out)
          clear p1 p2 hn1 hn2 HNx HW HAr HBl
          generalize wr.alloc (.cells #[.int .i64 p.1, .int .i64 p.2] 36) = W at *
          generalize wr.heap.size = N at *
          go_loopg [30] k (fun g2 i wx => ∃ j : Nat, j + g2 = k ∧ i = .int .i64 j ∧ newB (ls.take j) p.1 = true ∧ Below W.heap.size W wx)
          case atStart => exact ⟨0, by omega, rfl, rfl, Below.refl _ _⟩
          case round =>
            obtain ⟨j, hg2, rfl, hnw, hbx⟩ := hrel
            have HNw := Lib.hid hnw
            clear hnw
            by_cases hlt2 : j < k
            · have hji : (j : Int) < (k : Int) := by omega
              have hjl : j < ls.length := by omega
              obtain ⟨g3, o3, e3, hc3⟩ := (HAW.out.below hbx) (by rintro rfl; simp at hlt)
              injection e3 with e3
              injection e3 with e3 e4
              subst e3; subst e4
              obtain ⟨q1, q2⟩ := hc3 j hjl
              have HBad := Lib.hid (fun h => HNew.out j hjl hlt2 h)
              have HGd := Lib.hid (fun h => newB_step hjl HNw.out h)
              have HGK2 : Hid (k - j - 1 < gk ∧ j + 1 + (k - j - 1) = k) := by show _ ∧ _; omega
              generalize ls[j] = q at *
              have hy0 := (hbx.cell (p := ⟨N, 0, none⟩) hs1).trans hx0
              have hy1 := ((gAlloc wr (.cells #[.int .i64 q.1, .int .i64 q.2] 36)).cell (World.block_lt_of_cell? _ _ hy0)).trans hy0
              have HBn := Lib.hid (below_more hbx (gAlloc wr (.cells #[.int .i64 q.1, .int .i64 q.2] 36)))
              clear hc3 hg2 hbx
              cases hqe : (q.1 == p.1)
              · have HN2 := Lib.hid (HGd.out hqe)
                go_wp2_with fail
                go_roundg (k - j - 1)
                case measure => exact HGK2.out.1
                case rel => exact ⟨j + 1, HGK2.out.2, by go_num, HN2.out, HBn.out⟩
              · have HE := Lib.hid (HNo.out (by rw [HNx2.out]; exact HBad.out hqe))
                go_wp2_with fail
                go_ret
                exact ⟨ret_bool' HE.out.symm, below_more HB1.out HBn.out⟩
            · obtain rfl : j = k := by omega
              have HN2 : Hid (okTo ls (j + 1) = true) := by show _ = _; rw [HNx2.out]; exact HNw.out
              have HBn := Lib.hid (below_more HB1.out hbx)
              clear hbx
              go_wp2_with fail
              go_roundg (ls.length - j - 1)
              case measure => exact HGK.out.1
              case rel => exact ⟨j + 1, HGK.out.2, by go_num, HN2.out, HBn.out⟩
    · obtain rfl : k = ls.length := by omega
      have hki : ¬ (ls.length : Int) < (ls.length : Int) := by omega
      cases hp : pcOkB n
      · have HE : Hid (goodLB n ls = false) := by show _ = _; rw [goodLB, hp]; simp
        go_wp2_with (go_at_call 79; refine (sPc _ _).mono ?_; rintro e w' ⟨rfl, rfl⟩)
        go_ret
        exact ⟨ret_bool' HE.out.symm, HBl.out⟩
      · have HE : Hid (goodLB n ls = decide ((ls.length : Int) ≤ 40)) := by show _ = _; rw [goodLB, HOk.out, hp]; simp; omega
        go_wp2_with (go_at_call 79; refine (sPc _ _).mono ?_; rintro e w' ⟨rfl, rfl⟩)
        go_ret
        exact ⟨ret_bool' HE.out.symm, HBl.out⟩
end Go.Proofs.YtdoogleggdlddaaDoor
