/-
  What TurnRows answers, in the program's text and in the model's, at every argument.
-/
import Derived.Test.YtfkojlpihpgnaaaDoorU6
namespace Go.Proofs.YtfkojlpihpgnaaaDoor
open Go.RowKit

def tabL (m : Nat) (f : Nat → Nat) : List Nat := (List.range m).map f
theorem tabL_length (m : Nat) (f : Nat → Nat) : (tabL m f).length = m := by simp [tabL]
theorem tabL_congr {m : Nat} {f g : Nat → Nat} (h : ∀ j, j < m → f j = g j) : tabL m f = tabL m g :=
  List.map_congr_left fun j hj => h j (List.mem_range.1 hj)
theorem tabL_set (m : Nat) (f : Nat → Nat) (k v : Nat) : (tabL m f).set k v = tabL m (fun j => if j = k then v else f j) := by
  apply List.ext_getElem
  · simp [tabL]
  · intro j h1 h2
    rw [List.getElem_set]
    simp only [tabL, List.getElem_map, List.getElem_range]
    by_cases e : k = j
    · subst e; simp
    · rw [if_neg e, if_neg (fun h => e h.symm)]

/-- A slice of m numbers lies in block B: number j is f j. -/
def Tb (w : World) (B m : Nat) (f : Nat → Nat) : Prop := w.ownsRow B 3 1 (.slice (some ⟨B, 0, none⟩) m m) m ((zI (tabL m f)).map (Value.int .i64))
theorem Tb.cell {w : World} {B m : Nat} {f : Nat → Nat} (h : Tb w B m f) {k : Nat} (hk : k < m) : w.cell? ⟨B, k, none⟩ = some (.int .i64 (f k : Nat)) := by
  rw [World.ownsRow.cellAt h k (by omega)]
  simp [zI, tabL, hk]
theorem Tb.frozen {w : World} {B m : Nat} {f : Nat → Nat} (h : Tb w B m f) (k : Nat) : w.frozen? ⟨B, k, none⟩ = false := World.ownsRow.frozenAt h k
theorem Tb.store {w : World} {B m : Nat} {f : Nat → Nat} (h : Tb w B m f) (k v : Nat) : Tb (w.setCell ⟨B, k, none⟩ (.int .i64 (v : Nat))) B m (fun j => if j = k then v else f j) := by
  have := (World.ownsRow.stored h k (.int .i64 (v : Nat))).1
  unfold Tb
  rw [← tabL_set]
  have e : ((zI (tabL m f)).map (Value.int .i64)).set k (.int .i64 (v : Nat)) = (zI ((tabL m f).set k v)).map (Value.int .i64) := by
    simp [zI, List.map_set]
  rwa [e] at this
theorem Tb.congr {w : World} {B m : Nat} {f g : Nat → Nat} (h : Tb w B m f) (e : ∀ j, j < m → f j = g j) : Tb w B m g := by
  unfold Tb; rw [← tabL_congr e]; exact h
theorem Tb.drewN {w : World} {B m : Nat} {f : Nat → Nat} (h : Tb w B m f) (n : Nat) : Tb (w.drewN n) B m f := h
theorem Tb.own {w : World} {B m : Nat} {f : Nat → Nat} (h : Tb w B m f) : Own w B (.slice (some ⟨B, 0, none⟩) m m) (zI (tabL m f)) := by
  unfold Own; rw [zI_length, tabL_length]; exact h
theorem Tb.made {w : World} {B m : Nat} (h : w.ownsRow B 3 1 (.slice (some ⟨B, 0, none⟩) m m) m (madeCells (Value.int .i64 0).cells (m * 1)).toList) : Tb w B m (fun _ => 0) := by
  unfold Tb
  have e : (madeCells (Value.int .i64 0).cells (m * 1)).toList = (zI (tabL m fun _ => 0)).map (Value.int .i64) := by
    rw [Nat.mul_one]
    show (madeCells #[.int .i64 0] m).toList = _
    rw [toList_madeCells_one]
    simp [zI, tabL, List.map_const']
  rwa [e] at h

theorem col_snoc {R : List Nat} {i : Nat} (hi : i < R.length) (k : Nat) : col (R.take (i + 1)) k = col (R.take i) k ||| (if R[i].testBit k = true then 2 ^ i else 0) := by
  apply Nat.eq_of_testBit_eq
  intro t
  rw [Nat.testBit_or, col_bit, col_bit]
  have hg : ∀ n t, (R.take n).getD t 0 = if t < n then R.getD t 0 else 0 := by
    intro n t
    simp only [List.getD_eq_getElem?_getD, List.getElem?_take]
    split <;> rfl
  rw [hg, hg]
  rcases Nat.lt_trichotomy t i with h | h | h
  · rw [if_pos (by omega), if_pos h]
    have : (if R[i].testBit k = true then 2 ^ i else 0).testBit t = false := by
      split
      · rw [Nat.testBit_two_pow]; simp; omega
      · simp
    rw [this]; simp
  · subst h
    rw [if_pos (by omega), if_neg (by omega)]
    have hgd : R.getD t 0 = R[t] := by simp [List.getD, hi]
    rw [hgd]
    cases hb : R[t].testBit k <;> simp
  · rw [if_neg (by omega), if_neg (by omega)]
    have : (if R[i].testBit k = true then 2 ^ i else 0).testBit t = false := by
      split
      · rw [Nat.testBit_two_pow]; simp; omega
      · simp
    rw [this]; simp
theorem col_take_lt (R : List Nat) (i k : Nat) (h : i ≤ 16) : col (R.take i) k < 65536 :=
  Nat.lt_of_lt_of_le (col_lt (R.take i) k) (Nat.le_trans (Nat.pow_le_pow_right (n := 2) (by decide) (show (R.take i).length ≤ 16 by rw [List.length_take]; omega)) (by decide))

def turnOkB (x : Int) (zs : List Int) : Bool := rowsB x zs && wideB zs.length
def turnI (x : Int) (zs : List Int) : List Int := if turnOkB x zs = true then zI (turn x.toNat (nL zs)) else []
theorem turnOk_true {x : Int} {zs : List Int} (h : turnOkB x zs = true) : rowsB x zs = true ∧ wideB zs.length = true := by simpa [turnOkB] using h
theorem turnOk_false {x : Int} {zs : List Int} (h : turnOkB x zs = false) : rowsB x zs = false ∨ (rowsB x zs = true ∧ wideB zs.length = false) := by
  cases ha : rowsB x zs
  · exact Or.inl rfl
  · exact Or.inr ⟨rfl, by simpa [turnOkB, ha] using h⟩
theorem turnI_ok {m : Nat} {R : List Nat} (h : turnOkB m (zI R) = true) : turnI m (zI R) = zI (tabL m (col R)) := by rw [turnI, if_pos h, nL_zI, Int.toNat_natCast]; rfl
theorem turnI_no {x : Int} {zs : List Int} (h : turnOkB x zs = false) : turnI x zs = [] := by simp [turnI, h]
theorem turnI_len (x : Int) (zs : List Int) : (turnI x zs).length ≤ 16 := by
  unfold turnI; split
  · rename_i h
    obtain ⟨m, R, rfl, rfl, _, h2, _, _⟩ := rows_nat (turnOk_true h).1
    rw [zI_length, nL_zI, Int.toNat_natCast]; simp [turn]; omega
  · simp

end Go.Proofs.YtfkojlpihpgnaaaDoor
