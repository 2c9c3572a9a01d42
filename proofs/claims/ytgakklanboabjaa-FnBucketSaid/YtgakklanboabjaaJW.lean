/-
  JP: The laws' helpers on letters: eqLetter, eqLetterS, szLetterS, toLetter, toLetterS, markLetterS.
  JQ: The laws' helpers on letters: slices of letters of the call's own, toLetter, toLetterS, markLetterS.
  JR: The laws' helpers on truth values: eqBoolS, sameBools, markBoolS, heldBoolS.
  JS: The draws of chapter 5: nos, blockOf, DrawDegreeOf, DrawPartsOf, DrawLetterFor, DrawEnoughOf.
  JT: The draws of chapter 5: blockOf, DrawLetterFor, letters, DrawGoodLetters, DrawPeelOff, DrawAddUp.
  JU: The draws of chapter 5: letters, DrawGoodLetters, DrawPeelOff, DrawAddUp.
-/
import Derived.Test.YtgakklanboabjaaJQ
import Derived.Deep.RegionHeld3
import Derived.Test.YtgakklanboabjaaD4
import Derived.Deep.RegionLaw

/- JP -/
namespace Go.Proofs.Ytgakklanboabjaa
open Go.RowKit

theorem gAlloc2 (w : World) (a b : Obj) : Below w.heap.size w ((w.alloc a).alloc b) := ((Below.refl _ w).alloc (Nat.le_refl _) _).alloc (by simp) _
theorem gDrewN {w : World} (n : Nat) : Below w.heap.size w (w.drewN n) := below_drewN (Below.refl _ _) n
theorem gDrew {w : World} : Below w.heap.size w w.drew := gDrewN 1

def eqLs (a b : List (Int × Int)) : Bool := decide (a = b)
theorem eqLs_self (a : List (Int × Int)) : eqLs a a = true := by simp [eqLs]
theorem eqLs_len {a b : List (Int × Int)} (h : a.length ≠ b.length) : eqLs a b = false := by
  simp [eqLs]; intro e; exact h (by rw [e])
theorem eqLs_at {a b : List (Int × Int)} {k : Nat} (ha : k < a.length) (hb : k < b.length) (h : (decide (a[k].1 = b[k].1) && decide (a[k].2 = b[k].2)) = false) : eqLs a b = false := by
  cases he : eqLs a b
  · rfl
  · have e : a = b := by simpa [eqLs] using he
    subst e
    simp at h
theorem eqLs_take {a b : List (Int × Int)} {k : Nat} (ha : k < a.length) (hb : k < b.length) (h : a.take k = b.take k) (h2 : (decide (a[k].1 = b[k].1) && decide (a[k].2 = b[k].2)) = true) : a.take (k + 1) = b.take (k + 1) := by
  rw [List.take_succ_eq_append_getElem ha, List.take_succ_eq_append_getElem hb, h]
  simp at h2
  rw [show a[k] = b[k] from Prod.ext h2.1 h2.2]
theorem eqLs_all {a b : List (Int × Int)} (hl : a.length = b.length) (h : a.take a.length = b.take a.length) : eqLs a b = true := by
  rw [List.take_length, hl, List.take_length] at h
  simp [eqLs, h]

end Go.Proofs.Ytgakklanboabjaa

/- JQ -/
namespace Go.Proofs.Ytgakklanboabjaa
open Go.RowKit

def cellsL (L : List (Int × Int)) : List Value := L.flatMap fun p => [Value.int .i64 p.1, Value.int .i64 p.2]
theorem cellsL_cons (p : Int × Int) (L : List (Int × Int)) : cellsL (p :: L) = .int .i64 p.1 :: .int .i64 p.2 :: cellsL L := by simp [cellsL]
theorem cellsL_append (L M : List (Int × Int)) : cellsL (L ++ M) = cellsL L ++ cellsL M := by simp [cellsL]
theorem cellsL_length : ∀ L : List (Int × Int), (cellsL L).length = L.length * 2
  | [] => rfl
  | p :: L => by rw [cellsL_cons, List.length_cons, List.length_cons, cellsL_length L, List.length_cons]; omega
theorem cellsL_at : ∀ (L : List (Int × Int)) (j : Nat) (hj : j < L.length), (cellsL L)[j * 2]? = some (.int .i64 L[j].1) ∧ (cellsL L)[j * 2 + 1]? = some (.int .i64 L[j].2)
  | p :: L, 0, _ => by rw [cellsL_cons]; exact ⟨rfl, rfl⟩
  | p :: L, j + 1, hj => by
    have := cellsL_at L j (by simp at hj; omega)
    rw [cellsL_cons, show (j + 1) * 2 = j * 2 + 1 + 1 by omega]
    exact this
theorem cellsL_put : ∀ (L : List (Int × Int)) (j : Nat) (_ : j < L.length) (x y : Int), ((cellsL L).set (j * 2) (.int .i64 x)).set (j * 2 + 1) (.int .i64 y) = cellsL (L.set j (x, y))
  | p :: L, 0, _, x, y => by
    show ((cellsL (p :: L)).set 0 _).set 1 _ = cellsL ((x, y) :: L)
    rw [cellsL_cons, cellsL_cons]; rfl
  | p :: L, j + 1, hj, x, y => by
    have := cellsL_put L j (by simp at hj; omega) x y
    show ((cellsL (p :: L)).set ((j + 1) * 2) _).set ((j + 1) * 2 + 1) _ = cellsL (p :: L.set j (x, y))
    rw [cellsL_cons, cellsL_cons, show (j + 1) * 2 = j * 2 + 1 + 1 by omega, List.set_cons_succ, List.set_cons_succ, List.set_cons_succ, List.set_cons_succ, this]
theorem own_len {w : World} {base size g n cap m : Nat} {e : TypeId} {xs : List Value} (h : w.ownsRow base e size (.slice (some ⟨g, 0, none⟩) n cap) m xs) : n = m := by
  rcases h.2 with ⟨e, _⟩ | ⟨g', cap', cur', e, _⟩
  · cases e
  · injection e with _ e2 _
theorem made_let : ∀ n : Nat, (madeCells (Value.agg #[.int .i64 0, .int .i64 0]).cells (n * 2)).toList = cellsL (List.replicate n (0, 0))
  | 0 => by simp [madeCells, cellsL]
  | n + 1 => by
    have ih := made_let n
    have hc : (Value.agg #[.int .i64 0, .int .i64 0]).cells = #[.int .i64 0, .int .i64 0] := rfl
    rw [hc] at ih ⊢
    unfold madeCells at ih ⊢
    rw [Array.toList_map, Array.toList_range] at ih ⊢
    rw [show (n + 1) * 2 = n * 2 + 1 + 1 by omega, List.range_succ, List.range_succ, List.map_append, List.map_append, ih, List.replicate_succ', cellsL_append, List.append_assoc]
    congr 1
    have h1 : n * 2 % 2 = 0 := by omega
    have h2 : (n * 2 + 1) % 2 = 1 := by omega
    simp [h1, h2, cellsL]
theorem mid_set {α : Type} (L : List α) (z y : α) (m : Nat) : (L ++ List.replicate (m + 1) z).set L.length y = L ++ [y] ++ List.replicate m z := by
  rw [List.replicate_succ]; simp

/-- The letters that markLetterS leaves. -/
def markLs (k : Int) (n : Nat) : List (Int × Int) := (List.range n).map fun (i : Nat) => (k + 2 * (i : Int), k + 2 * (i : Int) + 1)
theorem markLs_length (k : Int) (n : Nat) : (markLs k n).length = n := by simp [markLs]
theorem markLs_succ (k : Int) (n : Nat) : markLs k (n + 1) = markLs k n ++ [(k + 2 * (n : Int), k + 2 * (n : Int) + 1)] := by simp [markLs, List.range_succ]
theorem markLs_set (k : Int) {ls : List (Int × Int)} {j : Nat} (hj : j < ls.length) : (markLs k j ++ ls.drop j).set j (k + 2 * (j : Int), k + 2 * (j : Int) + 1) = markLs k (j + 1) ++ ls.drop (j + 1) := by
  rw [List.drop_eq_getElem_cons hj, markLs_succ]
  have h := List.set_append_right (s := markLs k j) (t := ls[j] :: ls.drop (j + 1)) j (k + 2 * (j : Int), k + 2 * (j : Int) + 1) (by rw [markLs_length]; exact Nat.le_refl _)
  rw [h, markLs_length, Nat.sub_self, List.set_cons_zero, List.append_assoc]; rfl
end Go.Proofs.Ytgakklanboabjaa

/- JR -/
namespace Go.Proofs.Ytgakklanboabjaa
open Go.RowKit

/-- A slice of truth values reads as bs. -/
def Bols (w : World) (A : Option Addr) (bs : List Bool) : Prop := bs ≠ [] → ∃ b o, A = some ⟨b, o, none⟩ ∧ ∀ j (h : j < bs.length), w.cell? ⟨b, o + j, none⟩ = some (.bool bs[j])
theorem Bols.below {w w' : World} {A : Option Addr} {bs : List Bool} (h : Bols w A bs) (hb : Below w.heap.size w w') : Bols w' A bs := fun hne => by
  obtain ⟨b, o, e, hc⟩ := h hne
  exact ⟨b, o, e, fun j hj => (hb.cell (World.block_lt_of_cell? _ _ (hc j hj))).trans (hc j hj)⟩
theorem OwnT.form {w : World} {base : Nat} {v : Value} {bs : List Bool} (h : OwnT w base v bs) : ∃ A c, v = .slice A bs.length c ∧ Bols w A bs := by
  rcases h.2 with ⟨rfl, hn⟩ | ⟨g, cap, cur, rfl, _, _, hle, _⟩
  · obtain rfl := List.eq_nil_of_length_eq_zero hn
    exact ⟨none, 0, rfl, fun h => absurd rfl h⟩
  · refine ⟨some ⟨g, 0, none⟩, cap, rfl, fun _ => ⟨g, 0, rfl, fun j hj => ?_⟩⟩
    rw [Nat.zero_add, World.ownsRow.cellAt h j (by omega)]
    simp [hj]
theorem OwnT.lower {w : World} {base base' : Nat} {v : Value} {bs : List Bool} (h : OwnT w base v bs) (hb : base' ≤ base) : OwnT w base' v bs := row_lower h hb
theorem OwnT.lt {w : World} {base : Nat} {v : Value} {bs : List Bool} (h : OwnT w base v bs) : ∀ k, v.ownBlock = some k → base ≤ k ∧ k < w.heap.size := World.ownsRow.lt h
theorem OwnT.kept {w w' : World} {base : Nat} {v : Value} {bs : List Bool} {row : Option Nat} (h : OwnT w base v bs) (hg : w.grownBy w' row) (hne : v.ownBlock = none ∨ v.ownBlock ≠ row) : OwnT w' base v bs := World.ownsRow.kept h hg hne
def eqT (a b : List Bool) : Bool := decide (a = b)
theorem eqT_self (a : List Bool) : eqT a a = true := by simp [eqT]
theorem eqT_len {a b : List Bool} (h : a.length ≠ b.length) : eqT a b = false := by
  simp [eqT]; intro e; exact h (by rw [e])
theorem eqT_at {a b : List Bool} {k : Nat} (ha : k < a.length) (hb : k < b.length) (h : (a[k] != b[k]) = true) : eqT a b = false := by
  cases he : eqT a b
  · rfl
  · have e : a = b := by simpa [eqT] using he
    subst e
    simp at h
theorem eqT_take {a b : List Bool} {k : Nat} (ha : k < a.length) (hb : k < b.length) (h : a.take k = b.take k) (h2 : (a[k] != b[k]) = false) : a.take (k + 1) = b.take (k + 1) := by
  rw [List.take_succ_eq_append_getElem ha, List.take_succ_eq_append_getElem hb, h]
  rw [show a[k] = b[k] by simpa using h2]
theorem eqT_all {a b : List Bool} (hl : a.length = b.length) (h : a.take a.length = b.take a.length) : eqT a b = true := by
  rw [List.take_length, hl, List.take_length] at h
  simp [eqT, h]
set_option maxRecDepth 100000 in
set_option maxHeartbeats 1000000 in
theorem eqBoolS_any (A B : Option Addr) (za zb : List Bool) (ca cb : Nat) (w : World) (ha : Bols w A za) (hb : Bols w B zb) (hl : za.length ≤ 1048576) :
    Calls Try.prog 38 #[.slice A za.length ca, .slice B zb.length cb] w fun e w' => e = .returned (.bool (eqT za zb)) ∧ ∃ n, w' = w.drewN n := by
  have HA := Lib.hid ha
  have HB := Lib.hid hb
  clear ha hb
  by_cases hlen : za.length = zb.length
  · have hneq : ((za.length : Int) != (zb.length : Int)) = false := by simp [hlen]
    have HL := Lib.hid hlen
    clear hlen
    go_enter Try.func38, Try.ntmps38
    go_wp2_with fail
    go_loopg [5] za.length (fun gk i wr => ∃ k n : Nat, k + gk = za.length ∧ i = .int .i64 k ∧ za.take k = zb.take k ∧ wr = w.drewN n)
    case atStart => exact ⟨0, 0, by omega, rfl, rfl, rfl⟩
    case round =>
      obtain ⟨k, n, hg, rfl, htk, rfl⟩ := hrel
      have HT := Lib.hid htk
      clear htk
      by_cases hlt : k < za.length
      · have hlt' : k < zb.length := by have := HL.out; omega
        obtain ⟨b1, o1, rfl, hc1⟩ := HA.out (by rintro rfl; simp at hlt)
        obtain ⟨b2, o2, rfl, hc2⟩ := HB.out (by rintro rfl; simp at hlt')
        have g1 := hc1 k hlt
        have g2 := hc2 k hlt'
        have hi1 : (k : Int) < (za.length : Int) := by omega
        have hi2 : (k : Int) < (zb.length : Int) := by omega
        have HNo := Lib.hid (fun h => eqT_at (k := k) hlt hlt' h)
        have HYes := Lib.hid (fun h => eqT_take (k := k) hlt hlt' HT.out h)
        have HGK : Hid (za.length - k - 1 < gk ∧ k + 1 + (za.length - k - 1) = za.length) := by show _ ∧ _; omega
        clear hc1 hc2 hg
        generalize za[k] = p at *
        generalize zb[k] = q at *
        cases hpq : (p == q)
        rotate_left
        · have HN := Lib.hid (HYes.out (by rw [bne, hpq]; rfl))
          go_wp2_with fail
          go_quiet (fail)
          go_wp2_with fail
          go_roundg (za.length - k - 1)
          case measure => exact HGK.out.1
          case rel => exact ⟨k + 1, n + nq, HGK.out.2, by go_num, HN.out, by simp⟩
        · have HN := Lib.hid (HNo.out (by rw [bne, hpq]; rfl))
          go_wp2_with fail
          go_quiet (fail)
          go_wp2_with fail
          go_ret
          exact ⟨ret_bool' HN.out.symm, n + nq, by simp⟩
      · obtain rfl : k = za.length := by omega
        have hki : ¬ (za.length : Int) < (za.length : Int) := by omega
        go_wp2_with fail
        go_ret
        exact ⟨ret_bool' (eqT_all HL.out HT.out).symm, _, rfl⟩
  · have hneq : ((za.length : Int) != (zb.length : Int)) = true := by simp; omega
    have HE := Lib.hid (eqT_len hlen)
    clear hlen
    go_enter Try.func38, Try.ntmps38
    go_wp2_with fail
    go_ret
    exact ⟨ret_bool' HE.out.symm, 0, rfl⟩
set_option maxRecDepth 100000 in
set_option maxHeartbeats 1000000 in
theorem sameBools_any (A B : Option Addr) (za zb : List Bool) (ca cb : Nat) (w : World) (ha : Bols w A za) (hb : Bols w B zb) (hl : za.length ≤ 1048576) :
    Calls Try.prog 15 #[.slice A za.length ca, .slice B zb.length cb] w fun e w' => e = .returned (.bool (eqT za zb)) ∧ ∃ n, w' = w.drewN n := by
  have HA := Lib.hid ha
  have HB := Lib.hid hb
  clear ha hb
  by_cases hlen : za.length = zb.length
  · have hneq : ((za.length : Int) != (zb.length : Int)) = false := by simp [hlen]
    have HL := Lib.hid hlen
    clear hlen
    go_enter Try.func15, Try.ntmps15
    go_wp2_with fail
    go_loopg [13] za.length (fun gk i wr => ∃ k n : Nat, k + gk = za.length ∧ i = .int .i64 k ∧ za.take k = zb.take k ∧ wr = w.drewN n)
    case atStart => exact ⟨0, 0, by omega, rfl, rfl, rfl⟩
    case round =>
      obtain ⟨k, n, hg, rfl, htk, rfl⟩ := hrel
      have HT := Lib.hid htk
      clear htk
      by_cases hlt : k < za.length
      · have hlt' : k < zb.length := by have := HL.out; omega
        obtain ⟨b1, o1, rfl, hc1⟩ := HA.out (by rintro rfl; simp at hlt)
        obtain ⟨b2, o2, rfl, hc2⟩ := HB.out (by rintro rfl; simp at hlt')
        have g1 := hc1 k hlt
        have g2 := hc2 k hlt'
        have hi1 : (k : Int) < (za.length : Int) := by omega
        have hi2 : (k : Int) < (zb.length : Int) := by omega
        have HNo := Lib.hid (fun h => eqT_at (k := k) hlt hlt' h)
        have HYes := Lib.hid (fun h => eqT_take (k := k) hlt hlt' HT.out h)
        have HGK : Hid (za.length - k - 1 < gk ∧ k + 1 + (za.length - k - 1) = za.length) := by show _ ∧ _; omega
        clear hc1 hc2 hg
        generalize za[k] = p at *
        generalize zb[k] = q at *
        cases hpq : (p == q)
        rotate_left
        · have HN := Lib.hid (HYes.out (by rw [bne, hpq]; rfl))
          go_wp2_with fail
          go_quiet (fail)
          go_wp2_with fail
          go_roundg (za.length - k - 1)
          case measure => exact HGK.out.1
          case rel => exact ⟨k + 1, n + nq, HGK.out.2, by go_num, HN.out, by simp⟩
        · have HN := Lib.hid (HNo.out (by rw [bne, hpq]; rfl))
          go_wp2_with fail
          go_quiet (fail)
          go_wp2_with fail
          go_ret
          exact ⟨ret_bool' HN.out.symm, n + nq, by simp⟩
      · obtain rfl : k = za.length := by omega
        have hki : ¬ (za.length : Int) < (za.length : Int) := by omega
        go_wp2_with fail
        go_ret
        exact ⟨ret_bool' (eqT_all HL.out HT.out).symm, _, rfl⟩
  · have hneq : ((za.length : Int) != (zb.length : Int)) = true := by simp; omega
    have HE := Lib.hid (eqT_len hlen)
    clear hlen
    go_enter Try.func15, Try.ntmps15
    go_wp2_with fail
    go_ret
    exact ⟨ret_bool' HE.out.symm, 0, rfl⟩
/-- What markBoolS leaves. -/
def markT (k : Int) (n : Nat) : List Bool := (List.range n).map fun (i : Nat) => ((k + (i : Int)) % 3 == 0)
theorem markT_length (k : Int) (n : Nat) : (markT k n).length = n := by simp [markT]
theorem markT_succ (k : Int) (n : Nat) : markT k (n + 1) = markT k n ++ [(k + (n : Int)) % 3 == 0] := by simp [markT, List.range_succ]
theorem markT_set (k : Int) {bs : List Bool} {j : Nat} (hj : j < bs.length) : (markT k j ++ bs.drop j).set j ((k + (j : Int)) % 3 == 0) = markT k (j + 1) ++ bs.drop (j + 1) := by
  rw [List.drop_eq_getElem_cons hj, markT_succ]
  have h := List.set_append_right (s := markT k j) (t := bs[j] :: bs.drop (j + 1)) j ((k + (j : Int)) % 3 == 0) (by rw [markT_length]; exact Nat.le_refl _)
  rw [h, markT_length, Nat.sub_self, List.set_cons_zero, List.append_assoc]; rfl
theorem markT_at (k : Int) {n j : Nat} (h : j < (markT k n).length) : (markT k n)[j] = ((k + (j : Int)) % 3 == 0) := by simp [markT]
theorem OwnT.put {w : World} {base g n cap : Nat} {bs : List Bool} (h : OwnT w base (.slice (some ⟨g, 0, none⟩) n cap) bs) {j : Nat} (b : Bool) :
    OwnT (w.setCell ⟨g, j, none⟩ (.bool b)) base (.slice (some ⟨g, 0, none⟩) n cap) (bs.set j b) ∧ w.grownBy (w.setCell ⟨g, j, none⟩ (.bool b)) (some g) := by
  have hl := own_len h
  subst hl
  have hs := World.ownsRow.stored h j (.bool b)
  refine ⟨?_, hs.2⟩
  unfold OwnT
  rw [List.length_set, List.map_set]
  exact hs.1
set_option maxRecDepth 100000 in
set_option maxHeartbeats 2000000 in
theorem markBoolS_any (v : Value) (bs : List Bool) (base : Nat) (k : Int) (w : World) (ho : OwnT w base v bs) (hl : bs.length ≤ 1048576) (hk0 : 0 ≤ k) (hk1 : k ≤ 1000000000) :
    Calls Try.prog 41 #[v, .int .i64 k] w fun e w' => e = .returned (.int .i64 (k + (bs.length : Int))) ∧ OwnT w' base v (markT k bs.length) ∧ w.grownBy w' v.ownBlock := by
  rcases ho.2 with ⟨rfl, hn⟩ | ⟨g, cap, cur, rfl, hbg, hg, hle, _⟩
  · obtain rfl := List.eq_nil_of_length_eq_zero hn
    go_enter Try.func41, Try.ntmps41
    go_wp2_with fail
    go_loopg [1, 5] 0 (fun _ q i wr => q = .int .i64 k ∧ i = .int .i64 0 ∧ w = wr)
    case atStart => exact ⟨rfl, rfl, rfl⟩
    case round =>
      obtain ⟨rfl, rfl, rfl⟩ := hrel
      go_wp2_with fail
      go_ret
      exact ⟨by simp, OwnT.nil _ _, ⟨rfl, rfl, rfl, Nat.le_refl _, fun _ _ _ => rfl⟩⟩
  · have HO0 := Lib.hid ho
    clear ho hg hle
    generalize hnn : bs.length = n at *
    have HN := Lib.hid hnn
    clear hnn
    go_enter Try.func41, Try.ntmps41
    go_wp2_with fail
    go_loopg [1, 5] n (fun gk q i wr => ∃ j : Nat, j + gk = n ∧ q = .int .i64 (k + (j : Int)) ∧ i = .int .i64 j ∧ OwnT wr base (.slice (some ⟨g, 0, none⟩) n cap) (markT k j ++ bs.drop j) ∧ w.grownBy wr (some g))
    case atStart => exact ⟨0, by omega, by simp, rfl, HO0.out, ⟨rfl, rfl, rfl, Nat.le_refl _, fun _ _ _ => rfl⟩⟩
    case round =>
      obtain ⟨j, hg, rfl, rfl, hown, hgr⟩ := hrel
      have HOw := Lib.hid hown
      have HGr := Lib.hid hgr
      clear hown hgr
      by_cases hlt : j < n
      · have hji : (j : Int) < (n : Int) := by omega
        have hlt2 : j < bs.length := by have := HN.out; omega
        have hMl : (markT k j ++ bs.drop j).length = n := by rw [List.length_append, markT_length, List.length_drop, HN.out]; omega
        have HPut := Lib.hid (HOw.out.put (j := j) ((k + (j : Int)) % 3 == 0))
        rw [markT_set k hlt2] at HPut
        have hM1 : wr.ownsRow base 4 1 (.slice (some ⟨g, 0, none⟩) n cap) n ((markT k j ++ bs.drop j).map Value.bool) := by
          have h := HOw.out
          unfold OwnT at h
          rw [hMl] at h
          exact h
        obtain ⟨u0, hc0⟩ : ∃ u0, wr.cell? ⟨g, j, none⟩ = some u0 := ⟨.bool ((markT k j ++ bs.drop j)[j]'(by omega)), by rw [hM1.cellAt j (by omega), List.getElem?_map, List.getElem?_eq_getElem (by omega)]; rfl⟩
        have hf0 := hM1.frozenAt j
        have HGK : Hid (n - j - 1 < gk ∧ j + 1 + (n - j - 1) = n) := by show _ ∧ _; omega
        have hjn : (j : Int) ≤ 1048576 := by omega
        clear hMl hM1 hg
        generalize hq : k + (j : Int) = q at *
        have HQ := Lib.hid hq
        have hqb : 0 ≤ q ∧ q ≤ 1010000000 := by omega
        obtain ⟨hq0, hq1⟩ := hqb
        clear hq
        go_wp2_with fail
        go_roundg (n - j - 1)
        case measure => exact HGK.out.1
        case rel => exact ⟨j + 1, HGK.out.2, by rw [show k + ((j + 1 : Nat) : Int) = q + 1 by have := HQ.out; omega], by go_num, HPut.out.1, grownBy_trans HGr.out HPut.out.2⟩
      · obtain rfl : j = n := by omega
        have hji : ¬ (j : Int) < (j : Int) := by omega
        have HF : Hid (OwnT wr base (.slice (some ⟨g, 0, none⟩) j cap) (markT k j)) := by
          have h := HOw.out
          rw [List.drop_of_length_le (by rw [HN.out]; exact Nat.le_refl _), List.append_nil] at h
          exact h
        go_wp2_with fail
        go_ret
        exact ⟨rfl, HF.out, HGr.out⟩

set_option maxRecDepth 100000 in
set_option maxHeartbeats 1000000 in
theorem heldBoolS_any (A : Option Addr) (k : Int) (n c : Nat) (w : World) (ha : Bols w A (markT k n)) (hn : n ≤ 1048576) (hk0 : 0 ≤ k) (hk1 : k ≤ 1000000000) :
    Calls Try.prog 42 #[.slice A n c, .int .i64 k] w fun e w' => e = .returned (.int .i64 (k + (n : Int))) ∧ w = w' := by
  have HA := Lib.hid ha
  clear ha
  go_enter Try.func42, Try.ntmps42
  go_wp2_with fail
  go_loopg [1, 5] n (fun gk q i wr => ∃ j : Nat, j + gk = n ∧ q = .int .i64 (k + (j : Int)) ∧ i = .int .i64 j ∧ w = wr)
  case atStart => exact ⟨0, by omega, by simp, rfl, rfl⟩
  case round =>
    obtain ⟨j, hg, rfl, rfl, rfl⟩ := hrel
    by_cases hlt : j < n
    · have hji : (j : Int) < (n : Int) := by omega
      have hjm : j < (markT k n).length := by rw [markT_length]; exact hlt
      obtain ⟨b1, o1, rfl, hc1⟩ := HA.out (by intro e0; rw [e0] at hjm; simp at hjm)
      have hc := hc1 j hjm
      rw [markT_at] at hc
      have HGK : Hid (n - j - 1 < gk ∧ j + 1 + (n - j - 1) = n) := by show _ ∧ _; omega
      have hjn : (j : Int) ≤ 1048576 := by omega
      clear hc1 hg hjm
      generalize hq : k + (j : Int) = q at *
      have HQ := Lib.hid hq
      have hqb : 0 ≤ q ∧ q ≤ 1010000000 := by omega
      obtain ⟨hq0, hq1⟩ := hqb
      have hsame : ((q % 3 == 0) != (q % 3 == 0)) = false := by simp
      clear hq
      go_wp2_with fail
      go_roundg (n - j - 1)
      case measure => exact HGK.out.1
      case rel => exact ⟨j + 1, HGK.out.2, by rw [show k + ((j + 1 : Nat) : Int) = q + 1 by have := HQ.out; omega], by go_num, rfl⟩
    · obtain rfl : j = n := by omega
      have hji : ¬ (j : Int) < (j : Int) := by omega
      go_wp2_with fail
      go_ret
      exact ⟨rfl, rfl⟩
end Go.Proofs.Ytgakklanboabjaa

/- JS -/
namespace Go.Proofs.Ytgakklanboabjaa
open Go.RowKit

theorem gGrown {w w0 w' : World} {B : Nat} (hb : Below B w w0) (hB : B ≤ w0.heap.size) {g : Nat} (hg : w0.grownBy w' (some g)) (h : B ≤ g) : Below B w w' := hb.grown hg hB (fun k hk => by injection hk with hk; omega)

end Go.Proofs.Ytgakklanboabjaa

/- JT -/
namespace Go.Proofs.Ytgakklanboabjaa
open Go.RowKit

theorem grown_tail {w a b : World} {B base : Nat} {v : Value} {zs : List Int} (h : w.grownBy a (some B)) (ho : Own a base v zs) (hb : w.heap.size ≤ base) {o : Obj} (k : (a.alloc o).grownBy b v.ownBlock) : w.grownBy b (some B) :=
  grownBy_far (grownBy_far h (World.grownBy_alloc _ _ none) (fun g e => by cases e)) k (fun g hg => Nat.le_trans hb (ho.lt g hg).1)

end Go.Proofs.Ytgakklanboabjaa

/- JU -/
namespace Go.Proofs.Ytgakklanboabjaa
open Go.RowKit

theorem let_one {x y : Int} : ∀ u ∈ [Value.int .i64 x, .int .i64 y], u.oneCell' = true := by
  intro u hu; simp at hu; rcases hu with rfl | rfl <;> rfl

theorem set_same5 {α : Type} {l : List α} {i : Nat} {x : α} (h : l[i]? = some x) : l.set i x = l := by
  apply List.ext_getElem?
  intro k
  rw [List.getElem?_set]
  split
  · rename_i e
    subst e
    obtain ⟨hi, e2⟩ := List.getElem?_eq_some_iff.1 h
    rw [if_pos hi, h]
  · rfl
end Go.Proofs.Ytgakklanboabjaa
