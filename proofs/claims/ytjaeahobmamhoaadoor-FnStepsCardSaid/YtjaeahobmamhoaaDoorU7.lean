/-
  What TurnRows answers, in the program's text and in the model's, at every argument.
-/
import Derived.Test.YtjaeahobmamhoaaDoorU6
namespace Go.Proofs.YtjaeahobmamhoaaDoor
open Go.RowKit

def tabL (m : Nat) (f : Nat → Nat) : List Nat := (List.range m).map f
theorem tabL_length (m : Nat) (f : Nat → Nat) : (tabL m f).length = m := by simp [tabL]
theorem tabL_congr {m : Nat} {f g : Nat → Nat} (h : ∀ j, j < m → f j = g j) : tabL m f = tabL m g :=
  List.map_congr_left fun j hj => h j (List.mem_range.1 hj)
theorem tabL_set (m : Nat) (f : Nat → Nat) (k v : Nat) : (tabL m f).set k v = tabL m (fun j => if j = k then v else f j) := by
  apply List.ext_getElem
  · simp [tabL]
  · intro j h1 h2
    rw [List.getElem_set]
    simp only [tabL, List.getElem_map, List.getElem_range]
    by_cases e : k = j
    · subst e; simp
    · rw [if_neg e, if_neg (fun h => e h.symm)]

/-- A slice of m numbers lies in block B: number j is f j. -/
def Tb (w : World) (B m : Nat) (f : Nat → Nat) : Prop := w.ownsRow B 3 1 (.slice (some ⟨B, 0, none⟩) m m) m ((zI (tabL m f)).map (Value.int .i64))
theorem Tb.cell {w : World} {B m : Nat} {f : Nat → Nat} (h : Tb w B m f) {k : Nat} (hk : k < m) : w.cell? ⟨B, k, none⟩ = some (.int .i64 (f k : Nat)) := by
  rw [World.ownsRow.cellAt h k (by omega)]
  simp [zI, tabL, hk]
theorem Tb.frozen {w : World} {B m : Nat} {f : Nat → Nat} (h : Tb w B m f) (k : Nat) : w.frozen? ⟨B, k, none⟩ = false := World.ownsRow.frozenAt h k
theorem Tb.store {w : World} {B m : Nat} {f : Nat → Nat} (h : Tb w B m f) (k v : Nat) : Tb (w.setCell ⟨B, k, none⟩ (.int .i64 (v : Nat))) B m (fun j => if j = k then v else f j) := by
  have := (World.ownsRow.stored h k (.int .i64 (v : Nat))).1
  unfold Tb
  rw [← tabL_set]
  have e : ((zI (tabL m f)).map (Value.int .i64)).set k (.int .i64 (v : Nat)) = (zI ((tabL m f).set k v)).map (Value.int .i64) := by
    simp [zI, List.map_set]
  rwa [e] at this
theorem Tb.congr {w : World} {B m : Nat} {f g : Nat → Nat} (h : Tb w B m f) (e : ∀ j, j < m → f j = g j) : Tb w B m g := by
  unfold Tb; rw [← tabL_congr e]; exact h
theorem Tb.drewN {w : World} {B m : Nat} {f : Nat → Nat} (h : Tb w B m f) (n : Nat) : Tb (w.drewN n) B m f := h
theorem Tb.own {w : World} {B m : Nat} {f : Nat → Nat} (h : Tb w B m f) : Own w B (.slice (some ⟨B, 0, none⟩) m m) (zI (tabL m f)) := by
  unfold Own; rw [zI_length, tabL_length]; exact h
theorem Tb.made {w : World} {B m : Nat} (h : w.ownsRow B 3 1 (.slice (some ⟨B, 0, none⟩) m m) m (madeCells (Value.int .i64 0).cells (m * 1)).toList) : Tb w B m (fun _ => 0) := by
  unfold Tb
  have e : (madeCells (Value.int .i64 0).cells (m * 1)).toList = (zI (tabL m fun _ => 0)).map (Value.int .i64) := by
    rw [Nat.mul_one]
    show (madeCells #[.int .i64 0] m).toList = _
    rw [toList_madeCells_one]
    simp [zI, tabL, List.map_const']
  rwa [e] at h

theorem col_snoc {R : List Nat} {i : Nat} (hi : i < R.length) (k : Nat) : col (R.take (i + 1)) k = col (R.take i) k ||| (if R[i].testBit k = true then 2 ^ i else 0) := by
  apply Nat.eq_of_testBit_eq
  intro t
  rw [Nat.testBit_or, col_bit, col_bit]
  have hg : ∀ n t, (R.take n).getD t 0 = if t < n then R.getD t 0 else 0 := by
    intro n t
    simp only [List.getD_eq_getElem?_getD, List.getElem?_take]
    split <;> rfl
  rw [hg, hg]
  rcases Nat.lt_trichotomy t i with h | h | h
  · rw [if_pos (by omega), if_pos h]
    have : (if R[i].testBit k = true then 2 ^ i else 0).testBit t = false := by
      split
      · rw [Nat.testBit_two_pow]; simp; omega
      · simp
    rw [this]; simp
  · subst h
    rw [if_pos (by omega), if_neg (by omega)]
    have hgd : R.getD t 0 = R[t] := by simp [List.getD, hi]
    rw [hgd]
    cases hb : R[t].testBit k <;> simp
  · rw [if_neg (by omega), if_neg (by omega)]
    have : (if R[i].testBit k = true then 2 ^ i else 0).testBit t = false := by
      split
      · rw [Nat.testBit_two_pow]; simp; omega
      · simp
    rw [this]; simp
theorem col_take_lt (R : List Nat) (i k : Nat) (h : i ≤ 16) : col (R.take i) k < 65536 :=
  Nat.lt_of_lt_of_le (col_lt (R.take i) k) (Nat.le_trans (Nat.pow_le_pow_right (n := 2) (by decide) (show (R.take i).length ≤ 16 by rw [List.length_take]; omega)) (by decide))

def turnOkB (x : Int) (zs : List Int) : Bool := rowsB x zs && wideB zs.length
def turnI (x : Int) (zs : List Int) : List Int := if turnOkB x zs = true then zI (turn x.toNat (nL zs)) else []
theorem turnOk_true {x : Int} {zs : List Int} (h : turnOkB x zs = true) : rowsB x zs = true ∧ wideB zs.length = true := by simpa [turnOkB] using h
theorem turnOk_false {x : Int} {zs : List Int} (h : turnOkB x zs = false) : rowsB x zs = false ∨ (rowsB x zs = true ∧ wideB zs.length = false) := by
  cases ha : rowsB x zs
  · exact Or.inl rfl
  · exact Or.inr ⟨rfl, by simpa [turnOkB, ha] using h⟩
theorem turnI_ok {m : Nat} {R : List Nat} (h : turnOkB m (zI R) = true) : turnI m (zI R) = zI (tabL m (col R)) := by rw [turnI, if_pos h, nL_zI, Int.toNat_natCast]; rfl
theorem turnI_no {x : Int} {zs : List Int} (h : turnOkB x zs = false) : turnI x zs = [] := by simp [turnI, h]
theorem turnI_len (x : Int) (zs : List Int) : (turnI x zs).length ≤ 16 := by
  unfold turnI; split
  · rename_i h
    obtain ⟨m, R, rfl, rfl, _, h2, _, _⟩ := rows_nat (turnOk_true h).1
    rw [zI_length, nL_zI, Int.toNat_natCast]; simp [turn]; omega
  · simp

set_option maxHeartbeats 4000000 in
theorem sTurn_any (x : Int) (A : Option Addr) (zs : List Int) (ca : Nat) (w : World) (ha : Ints w A zs) (hl : zs.length ≤ 1048576) :
    Calls Tryd.prog 27 #[.int .i64 x, .slice A zs.length ca] w fun e w' => ∃ v, e = .returned (.tuple #[v, .bool (turnOkB x zs)]) ∧ Own w' w.heap.size v (turnI x zs) ∧ Below w.heap.size w w' := by
  cases h : turnOkB x zs
  · have HE := Lib.hid (turnI_no h)
    rcases turnOk_false h with h1 | ⟨h1, h2⟩
    · clear h
      go_enter Tryd.func27, Tryd.ntmps27
      go_wp2_with (go_at_call 46; refine (sRows _ _ _ _ _ ha hl).mono ?_; rintro e w' ⟨rfl, rfl⟩)
      go_ret2
      exact ⟨_, rfl, by rw [HE.out]; exact Own.nil _ _, Below.refl _ _⟩
    · have hi : inB (zs.length : Int) 1 16 = false := h2
      clear h
      go_enter Tryd.func27, Tryd.ntmps27
      go_wp2_with (first
        | (go_at_call 46; refine (sRows _ _ _ _ _ ha hl).mono ?_; rintro e w' ⟨rfl, rfl⟩)
        | (go_at_call 56; refine (l1In_any _ _ _ _).mono ?_; rintro e w' ⟨rfl, rfl⟩))
      go_ret2
      exact ⟨_, rfl, by rw [HE.out]; exact Own.nil _ _, Below.refl _ _⟩
  · obtain ⟨h1, h2⟩ := turnOk_true h
    obtain ⟨m, R, rfl, rfl, h3, h4, h5, h6⟩ := rows_nat h1
    have HE := Lib.hid (turnI_ok h)
    have hr1 := sRows (m : Int) A (zI R) ca w ha hl
    have hin : inB (R.length : Int) 1 16 = true := by rw [zI_length] at h2; exact h2
    have hw : 1 ≤ (R.length : Int) ∧ (R.length : Int) ≤ 16 := by rw [zI_length] at h2; simpa [wideB] using h2
    obtain ⟨hw1, hw2⟩ := hw
    have HA := Lib.hid ha
    have HR := Lib.hid (lt16s h4 h6)
    obtain ⟨i0, hi, hz0, hz1, hz2⟩ := info_parts intInfo
    rw [zI_length] at hr1 ⊢
    clear h6 ha h h2
    go_enter Tryd.func27, Tryd.ntmps27
    go_wp2_with (first
      | (go_at_call 46; refine hr1.mono ?_; rintro e w' ⟨rfl, rfl⟩)
      | (go_at_call 56; refine (l1In_any _ _ _ _).mono ?_; rintro e w' ⟨rfl, rfl⟩)
      | (at_make; refine wpList_make_full _ rfl _ _ 23 rfl w.heap.size 3 i0 (.int .i64 0) 1 Tryd.underlying23 hi hz0 hz1 .i64 .i64 _ _ m rfl rfl rfl rfl (by rw [hz2]; omega) (by unfold maxLen; omega) (Nat.le_refl _) ?_; intro w1 hown1 hgr1))
    have HT0 := Lib.hid (Tb.made hown1)
    have HB0 : Hid (Below w.heap.size w w1) := (Below.refl _ _).grown hgr1 (Nat.le_refl _) (by simp)
    clear hown1 hgr1 hr1 hin hi hz0 hz1 hz2 i0
    go_loopg [24] m (fun g i wr => ∃ k : Nat, k + g = m ∧ i = .int .i64 k ∧ Tb wr w.heap.size m (fun j => if j < k then col R j else 0) ∧ Below w.heap.size w wr)
    case atStart => exact ⟨0, by omega, rfl, HT0.out.congr (fun j _ => by simp), HB0.out⟩
    case round =>
      obtain ⟨k, hg, rfl, hT, hB⟩ := hrel
      have HT := Lib.hid hT
      have HB := Lib.hid hB
      clear hT hB HT0 HB0
      by_cases hlt : k < m
      · have hki : (k : Int) < (m : Int) := by omega
        have HGK : Hid (m - k - 1 < gk ∧ k + 1 + (m - k - 1) = m) := by show _ ∧ _; omega
        clear hg
        go_wp2_with fail
        go_loopg [29] R.length (fun g2 i wx => ∃ t : Nat, t + g2 = R.length ∧ i = .int .i64 t ∧ Tb wx w.heap.size m (fun j => if j < k then col R j else if j = k then col (R.take t) k else 0) ∧ Below w.heap.size w wx)
        case atStart => exact ⟨0, by omega, rfl, HT.out.congr (fun j _ => by simp [col]), HB.out⟩
        case round =>
          obtain ⟨t, hg2, rfl, hT2, hB2⟩ := hrel
          have HT2 := Lib.hid hT2
          have HB2 := Lib.hid hB2
          by_cases hlt2 : t < R.length
          · have hti : (t : Int) < (R.length : Int) := by omega
            have hck := hT2.cell hlt
            rw [if_neg (Nat.lt_irrefl k), if_pos rfl] at hck
            have hfk := hT2.frozen k
            obtain ⟨b, o, rfl, hc⟩ := (HA.out.below hB2).cellN hlt2
            have hr0 := HR.out R[t] (List.getElem_mem hlt2)
            have hcl := col_take_lt R t k (by omega)
            have HX := Lib.hid (col_snoc hlt2 k)
            obtain ⟨hp1, hp2⟩ := pow20 t (by omega)
            clear hT2 hB2
            generalize R[t] = r0 at *
            have hdiv : ((r0 : Int) / (2 : Int) ^ k) = ((r0 / 2 ^ k : Nat) : Int) := by simp
            have hand := and_one_i64 (r0 / 2 ^ k) (Nat.lt_of_le_of_lt (Nat.div_le_self _ _) hr0)
            rw [← hdiv] at hand
            cases hbit : r0.testBit k
            · have hand0 : bits .and .i64 ((r0 : Int) / (2 : Int) ^ k) 1 = 0 := by
                rw [hand]; rw [Nat.testBit_eq_decide_div_mod_eq] at hbit; have : ¬ r0 / 2 ^ k % 2 = 1 := by simpa using hbit
                omega
              rw [hbit] at HX
              have HX' : Hid (col (R.take (t + 1)) k = col (R.take t) k) := by show _ = _; rw [HX.out]; simp
              have hor : bits .or .i64 ((col (R.take t) k : Nat) : Int) 0 = ((col (R.take t) k : Nat) : Int) := by
                have := or_i64 (col (R.take t) k) 0 (by omega) (by omega)
                simpa using this
              clear hand hdiv hbit HX
              generalize hcc : col (R.take t) k = c at *
              go_wp2_with fail
              go_roundg (R.length - t - 1)
              case measure => omega
              case rel =>
                refine ⟨t + 1, by omega, by go_num, (HT2.out.store k c).congr (fun j _ => ?_), HB2.out.setCell (p := ⟨w.heap.size, k, none⟩) (Nat.le_refl _) _⟩
                by_cases e : j = k
                · subst e; simp [HX'.out]
                · simp [e]
            · have hand0 : bits .and .i64 ((r0 : Int) / (2 : Int) ^ k) 1 = 1 := by
                rw [hand]; rw [Nat.testBit_eq_decide_div_mod_eq] at hbit; have : r0 / 2 ^ k % 2 = 1 := by simpa using hbit
                omega
              rw [hbit] at HX
              have HX' : Hid (col (R.take (t + 1)) k = col (R.take t) k ||| 2 ^ t) := by show _ = _; rw [HX.out]; simp
              have hor := or_pow_i64 (col (R.take t) k) t hcl (by omega)
              clear hand hdiv hbit HX
              generalize hcc : col (R.take t) k = c at *
              go_wp2_with fail
              go_roundg (R.length - t - 1)
              case measure => omega
              case rel =>
                refine ⟨t + 1, by omega, by go_num, (HT2.out.store k (c ||| 2 ^ t)).congr (fun j _ => ?_), HB2.out.setCell (p := ⟨w.heap.size, k, none⟩) (Nat.le_refl _) _⟩
                by_cases e : j = k
                · subst e; simp [HX'.out]
                · simp [e]
          · obtain rfl : t = R.length := by omega
            clear hT2 hB2
            go_wp2_with fail
            go_roundg (m - k - 1)
            case measure => exact HGK.out.1
            case rel =>
              refine ⟨k + 1, HGK.out.2, by go_num, HT2.out.congr (fun j _ => ?_), HB2.out⟩
              rw [List.take_length]
              by_cases e : j = k
              · subst e; simp
              · by_cases e2 : j < k
                · rw [if_pos e2, if_pos (by omega)]
                · rw [if_neg e2, if_neg e, if_neg (by omega)]
      · obtain rfl : k = m := by omega
        go_wp2_with fail
        go_ret2
        exact ⟨_, rfl, by rw [HE.out]; exact (HT.out.congr (g := col R) (fun j hj => by rw [if_pos hj])).own, HB.out⟩

set_option maxHeartbeats 4000000 in
theorem iTurn_any (x : Int) (A : Option Addr) (zs : List Int) (ca : Nat) (w : World) (ht : Tab w) (ha : Ints w A zs) (hl : zs.length ≤ 1048576) :
    Calls Tryd.prog 23 #[.int .i64 x, .slice A zs.length ca] w fun e w' => ∃ v, e = .returned (.tuple #[v, .bool (turnOkB x zs)]) ∧ Own w' w.heap.size v (turnI x zs) ∧ Below w.heap.size w w' := by
  cases h : turnOkB x zs
  · have HE := Lib.hid (turnI_no h)
    rcases turnOk_false h with h1 | ⟨h1, h2⟩
    · clear h
      go_enter Tryd.func23, Tryd.ntmps23
      go_wp2_with (go_at_call 43; refine (iRows _ _ _ _ _ ht ha hl).mono ?_; rintro e w' ⟨rfl, rfl⟩)
      go_ret2
      exact ⟨_, rfl, by rw [HE.out]; exact Own.nil _ _, Below.refl _ _⟩
    · clear h
      go_enter Tryd.func23, Tryd.ntmps23
      go_wp2_with (first
        | (go_at_call 43; refine (iRows _ _ _ _ _ ht ha hl).mono ?_; rintro e w' ⟨rfl, rfl⟩)
        | (go_at_call 53; refine (goodWidth_any _ _).mono ?_; rintro e w' ⟨rfl, rfl⟩))
      go_ret2
      exact ⟨_, rfl, by rw [HE.out]; exact Own.nil _ _, Below.refl _ _⟩
  · obtain ⟨h1, h2⟩ := turnOk_true h
    obtain ⟨m, R, rfl, rfl, h3, h4, h5, h6⟩ := rows_nat h1
    have HE := Lib.hid (turnI_ok h)
    have hr1 := iRows (m : Int) A (zI R) ca w ht ha hl
    have hin : wideB (R.length : Int) = true := by rw [zI_length] at h2; exact h2
    have hw : 1 ≤ (R.length : Int) ∧ (R.length : Int) ≤ 16 := by simpa [wideB] using hin
    obtain ⟨hw1, hw2⟩ := hw
    have HA := Lib.hid ha
    have HR := Lib.hid (lt16s h4 h6)
    have HTab := Lib.hid ht
    obtain ⟨i0, hi, hz0, hz1, hz2⟩ := info_parts intInfo
    rw [zI_length] at hr1 ⊢
    clear h6 ha h h2 ht
    go_enter Tryd.func23, Tryd.ntmps23
    go_wp2_with (first
      | (go_at_call 43; refine hr1.mono ?_; rintro e w' ⟨rfl, rfl⟩)
      | (go_at_call 53; refine (goodWidth_any _ _).mono ?_; rintro e w' ⟨rfl, rfl⟩)
      | (at_make; refine wpList_make_full _ rfl _ _ 23 rfl w.heap.size 3 i0 (.int .i64 0) 1 Tryd.underlying23 hi hz0 hz1 .i64 .i64 _ _ m rfl rfl rfl rfl (by rw [hz2]; omega) (by unfold maxLen; omega) (Nat.le_refl _) ?_; intro w1 hown1 hgr1))
    have HT0 := Lib.hid (Tb.made hown1)
    have HB0 : Hid (Below w.heap.size w w1) := (Below.refl _ _).grown hgr1 (Nat.le_refl _) (by simp)
    clear hown1 hgr1 hr1 hin hi hz0 hz1 hz2 i0
    go_loopg [24] R.length (fun g i wr => ∃ t : Nat, t + g = R.length ∧ i = .int .i64 t ∧ Tb wr w.heap.size m (col (R.take t)) ∧ Below w.heap.size w wr)
    case atStart => exact ⟨0, by omega, rfl, HT0.out.congr (fun j _ => by simp [col]), HB0.out⟩
    case round =>
      obtain ⟨t, hg, rfl, hT, hB⟩ := hrel
      have HT := Lib.hid hT
      have HB := Lib.hid hB
      clear hT HT0 HB0
      by_cases hlt : t < R.length
      · have hti : (t : Int) < (R.length : Int) := by omega
        have HGK : Hid (R.length - t - 1 < gk ∧ t + 1 + (R.length - t - 1) = R.length) := by show _ ∧ _; omega
        obtain ⟨b, o, rfl, hc⟩ := (HA.out.below hB).cellN hlt
        have hr0 := HR.out R[t] (List.getElem_mem hlt)
        have HX := Lib.hid (fun k => col_snoc hlt k)
        have ht17 : (t : Int) < 17 := by omega
        clear hg hB
        generalize R[t] = r0 at *
        go_wp2_with fail
        go_loopg [31] m (fun g2 i wx => ∃ k : Nat, k + g2 = m ∧ i = .int .i64 k ∧ Tb wx w.heap.size m (fun j => if j < k then col (R.take (t + 1)) j else col (R.take t) j) ∧ Below w.heap.size w wx)
        case atStart => exact ⟨0, by omega, rfl, HT.out.congr (fun j _ => by simp), HB.out⟩
        case round =>
          obtain ⟨k, hg2, rfl, hT2, hB2⟩ := hrel
          have HT2 := Lib.hid hT2
          have HB2 := Lib.hid hB2
          by_cases hlt2 : k < m
          · have hki : (k : Int) < (m : Int) := by omega
            have hk17 : (k : Int) < 17 := by omega
            have hck := hT2.cell hlt2
            rw [if_neg (Nat.lt_irrefl k)] at hck
            have hfk := hT2.frozen k
            have hc1 := (HTab.out.below hB2) k (by omega)
            have hc2 := (HTab.out.below hB2) t (by omega)
            have hcl := col_take_lt R t k (by omega)
            have HXk := Lib.hid (HX.out k)
            clear hT2 hB2
            cases hbit : r0.testBit k
            · have hne := bit_and_no hr0 (by omega) hbit
              rw [hbit] at HXk
              have HX' : Hid (col (R.take (t + 1)) k = col (R.take t) k) := by show _ = _; rw [HXk.out]; simp
              clear hbit HXk
              generalize hcc : col (R.take t) k = c at *
              have HCC := Lib.hid hcc
              clear hcc
              go_wp2_with fail
              go_roundg (m - k - 1)
              case measure => omega
              case rel =>
                refine ⟨k + 1, by omega, by go_num, HT2.out.congr (fun j _ => ?_), HB2.out⟩
                by_cases e : j = k
                · subst e; simp [HX'.out, HCC.out]
                · by_cases e2 : j < k
                  · rw [if_pos e2, if_pos (by omega)]
                  · rw [if_neg e2, if_neg (by omega)]
            · have hne := bit_and hr0 (by omega) hbit
              rw [hbit] at HXk
              have HX' : Hid (col (R.take (t + 1)) k = col (R.take t) k ||| 2 ^ t) := by show _ = _; rw [HXk.out]; simp
              have hor := or_pow_i64 (col (R.take t) k) t hcl (by omega)
              clear hbit HXk
              generalize hcc : col (R.take t) k = c at *
              have HCC := Lib.hid hcc
              clear hcc
              go_wp2_with fail
              go_region
              all_goals
                go_wp2_with fail
                go_roundg (m - k - 1)
                case measure => omega
                case rel =>
                  refine ⟨k + 1, by omega, by go_num, ((HT2.out.drewN _).store k (c ||| 2 ^ t)).congr (fun j _ => ?_), (below_drewN HB2.out _).setCell (p := ⟨w.heap.size, k, none⟩) (Nat.le_refl _) _⟩
                  by_cases e : j = k
                  · subst e; simp [HX'.out]
                  · rw [if_neg e]
                    by_cases e2 : j < k
                    · rw [if_pos e2, if_pos (by omega)]
                    · rw [if_neg e2, if_neg (by omega)]
          · obtain rfl : k = m := by omega
            clear hT2 hB2
            go_wp2_with fail
            go_roundg (R.length - t - 1)
            case measure => exact HGK.out.1
            case rel => exact ⟨t + 1, HGK.out.2, by go_num, HT2.out.congr (fun j hj => by rw [if_pos hj]), HB2.out⟩
      · obtain rfl : t = R.length := by omega
        clear hB
        go_wp2_with fail
        go_ret2
        exact ⟨_, rfl, by rw [HE.out]; exact (HT.out.congr (g := col R) (fun j _ => by rw [List.take_length])).own, HB.out⟩
end Go.Proofs.YtjaeahobmamhoaaDoor
