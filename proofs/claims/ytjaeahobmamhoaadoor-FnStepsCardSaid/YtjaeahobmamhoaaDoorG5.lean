/-
  Plain mathematics over two elements: the transpose has the same rank; the least list of rows that makes a row.
-/
import Derived.Test.YtjaeahobmamhoaaDoorG4
namespace Go.Proofs.YtjaeahobmamhoaaDoor

/-- Column k: bit i is bit k of row i. -/
def col : List Nat → Nat → Nat
  | [], _ => 0
  | r :: rows, k => 2 * col rows k + (r.testBit k).toNat
def turn (w : Nat) (rows : List Nat) : List Nat := (List.range w).map (col rows)

theorem testBit_double (n : Nat) (b : Bool) (i : Nat) : (2 * n + b.toNat).testBit i = match i with | 0 => b | j + 1 => n.testBit j := by
  cases i with
  | zero => rw [Nat.testBit_zero]; cases b <;> simp <;> omega
  | succ j =>
    rw [Nat.testBit_succ]
    congr 1
    cases b <;> simp <;> omega
theorem col_bit : ∀ (rows : List Nat) (k i : Nat), (col rows k).testBit i = (rows.getD i 0).testBit k
  | [], k, i => by simp [col]
  | r :: rows, k, i => by
    rw [col, testBit_double]
    cases i with
    | zero => simp
    | succ j => simpa using col_bit rows k j
theorem col_lt : ∀ (rows : List Nat) (k : Nat), col rows k < 2 ^ rows.length
  | [], k => by simp [col]
  | r :: rows, k => by
    have := col_lt rows k
    simp only [col, List.length_cons, Nat.pow_succ]
    have : (r.testBit k).toNat ≤ 1 := by cases r.testBit k <;> simp
    omega

/-- The sum of the rows of S whose top bit x has. -/
def sumS : List Nat → Nat → Nat
  | [], _ => 0
  | s :: S, x => (if x.testBit s.log2 then s else 0) ^^^ sumS S x
theorem red_sum : ∀ {S : List Nat} {x : Nat}, Rref S → red S x = x ^^^ sumS S x
  | [], x, _ => by simp [red, sumS]
  | s :: S, x, h => by
    obtain ⟨⟨hs, hlt, hl⟩, hr⟩ := h
    have hR : Rref S := ⟨hl, fun a ha b hb => hr a (by simp [ha]) b (by simp [hb])⟩
    have hsame : ∀ (T : List Nat), (∀ t ∈ T, t ∈ S) → sumS T (x ^^^ s) = sumS T x := by
      intro T
      induction T with
      | nil => intro _; rfl
      | cons t T ih =>
        intro hT
        have htS := hT t (by simp)
        have hne : s ≠ t := fun e => by have := hlt t htS; rw [← e] at this; have := Nat.log2_self_le hs; omega
        have : s.testBit t.log2 = false := hr s (by simp) t (by simp [htS]) hne
        rw [sumS, sumS, ih (fun u hu => hT u (by simp [hu])), Nat.testBit_xor, this, Bool.xor_false]
    rw [red, sumS]
    split
    · rw [red_sum hR, hsame S (fun t ht => ht), Nat.xor_assoc]
    · rw [red_sum hR, Nat.zero_xor]
/-- A number of the span is the sum of the rows whose top bits it has. -/
theorem sum_of_sp {S : List Nat} {x : Nat} (h : Rref S) (hx : Sp S x) : x = sumS S x := by
  have h0 := (sp_red_iff h).2 hx
  rw [red_sum h] at h0
  exact xor_zero_eq h0
theorem sumS_bit (k : Nat) : ∀ (S : List Nat) (x : Nat), (sumS S x).testBit k = S.foldr (fun s b => (x.testBit s.log2 && s.testBit k) ^^ b) false
  | [], x => by simp [sumS]
  | s :: S, x => by
    rw [sumS, Nat.testBit_xor, sumS_bit k S x, List.foldr_cons]
    congr 1
    split
    · rename_i h; simp [h]
    · rename_i h; simp at h; simp [h]

/-- Column k as a sum of the columns at the tops. -/
def colS (rows : List Nat) (k : Nat) : List Nat → Nat
  | [] => 0
  | s :: S => (if s.testBit k then col rows s.log2 else 0) ^^^ colS rows k S
theorem colS_bit (rows : List Nat) (k i : Nat) : ∀ (S : List Nat), (colS rows k S).testBit i = S.foldr (fun s b => ((rows.getD i 0).testBit s.log2 && s.testBit k) ^^ b) false
  | [] => by simp [colS]
  | s :: S => by
    rw [colS, Nat.testBit_xor, colS_bit rows k i S, List.foldr_cons]
    congr 1
    split
    · rename_i h; simp [h, col_bit]
    · rename_i h; simp at h; simp [h]
theorem colS_sp (rows : List Nat) (k : Nat) : ∀ (S : List Nat), Sp (S.map fun s => col rows s.log2) (colS rows k S)
  | [] => rfl
  | s :: S => by
    rw [colS, List.map_cons]
    split
    · right
      rw [Nat.xor_comm (col rows s.log2), xor_cancel]
      exact colS_sp rows k S
    · rw [Nat.zero_xor]; exact Or.inl (colS_sp rows k S)
theorem col_sum (rows : List Nat) (k : Nat) : col rows k = colS rows k (steps rows) := by
  apply Nat.eq_of_testBit_eq
  intro i
  rw [col_bit, colS_bit]
  have hx : Sp (steps rows) (rows.getD i 0) := by
    rw [steps_sp]
    by_cases hi : i < rows.length
    · exact Sp.mem (by simp [List.getD, hi])
    · rw [show rows.getD i 0 = 0 by simp [List.getD, hi]]; exact Sp.zero rows
  rw [← sumS_bit k (steps rows) (rows.getD i 0), ← sum_of_sp (steps_rref rows) hx]

theorem rank_turn_le (w : Nat) (rows : List Nat) : rank (turn w rows) ≤ rank rows := by
  have h1 : rank (turn w rows) ≤ rank ((steps rows).map fun s => col rows s.log2) := rank_mono fun r hr => by
    obtain ⟨k, _, rfl⟩ := List.mem_map.1 hr
    rw [col_sum]; exact colS_sp rows k (steps rows)
  have h2 := rank_le_length ((steps rows).map fun s => col rows s.log2)
  rw [List.length_map] at h2
  exact Nat.le_trans h1 h2

theorem turn_turn {w : Nat} {rows : List Nat} (h : ∀ r ∈ rows, r < 2 ^ w) : turn rows.length (turn w rows) = rows := by
  apply List.ext_getElem
  · simp [turn]
  · intro i h1 h2
    simp only [turn, List.getElem_map, List.getElem_range]
    apply Nat.eq_of_testBit_eq
    intro k
    have e := col_bit (turn w rows) i k
    rw [turn] at e
    rw [e]
    rcases Nat.lt_or_ge k w with hk | hk
    · simp [List.getD, hk, col_bit, h2]
    · have : rows[i] < 2 ^ k := Nat.lt_of_lt_of_le (h _ (List.getElem_mem h2)) (Nat.pow_le_pow_right (by decide) hk)
      rw [bit_of_lt this]
      have hk' : ¬ k < w := by omega
      simp [List.getD, hk']
/-- The transpose has the rank of the rows. -/
theorem rank_turn {w : Nat} {rows : List Nat} (h : ∀ r ∈ rows, r < 2 ^ w) : rank (turn w rows) = rank rows := by
  apply Nat.le_antisymm (rank_turn_le w rows)
  have := rank_turn_le rows.length (turn w rows)
  rwa [turn_turn h] at this

theorem sp_snoc {l : List Nat} {r x : Nat} : Sp (l ++ [r]) x ↔ Sp l x ∨ Sp l (x ^^^ r) := by
  have : Sp (l ++ [r]) x ↔ Sp (r :: l) x :=
    ⟨Sp.mono fun s hs => Sp.mem (by simp at hs ⊢; exact hs.symm), Sp.mono fun s hs => Sp.mem (by simp at hs ⊢; exact hs.symm)⟩
  exact this

/-- The sum of the first k rows whose bits are 1 in m. -/
def sm (rows : List Nat) : Nat → Nat → Nat
  | 0, _ => 0
  | k + 1, m => sm rows k m ^^^ (if m.testBit k then rows.getD k 0 else 0)
theorem sm_congr {rows : List Nat} {m m' : Nat} : ∀ {k : Nat}, (∀ i, i < k → m.testBit i = m'.testBit i) → sm rows k m = sm rows k m'
  | 0, _ => rfl
  | k + 1, h => by rw [sm, sm, sm_congr (fun i hi => h i (by omega)), h k (by omega)]
theorem take_snoc' {rows : List Nat} {k : Nat} (hk : k < rows.length) : rows.take (k + 1) = rows.take k ++ [rows.getD k 0] := by
  rw [List.take_succ_eq_append_getElem hk]; simp [List.getD, hk]
theorem sm_sp {rows : List Nat} {m : Nat} : ∀ {k : Nat}, k ≤ rows.length → Sp (rows.take k) (sm rows k m)
  | 0, _ => Sp.zero _
  | k + 1, h => by
    rw [take_snoc' (by omega), sp_snoc, sm]
    split
    · right; rw [xor_cancel]; exact sm_sp (by omega)
    · left; rw [Nat.xor_zero]; exact sm_sp (by omega)
theorem pow_bit {m k i : Nat} (hm : m < 2 ^ k) : (m + 2 ^ k).testBit i = (m.testBit i || decide (k = i)) := by
  have e : m + 2 ^ k = 2 ^ k ||| m := by
    have := Nat.two_pow_add_eq_or_of_lt hm 1
    rw [Nat.mul_one] at this; omega
  rw [e, Nat.testBit_or, Nat.testBit_two_pow, Bool.or_comm]
theorem sm_up {rows : List Nat} {k m : Nat} (hm : m < 2 ^ k) : sm rows (k + 1) (m + 2 ^ k) = sm rows k m ^^^ rows.getD k 0 := by
  rw [sm, if_pos (by rw [pow_bit hm]; simp)]
  congr 1
  apply sm_congr
  intro i hi
  rw [pow_bit hm, decide_eq_false (by omega), Bool.or_false]
theorem sm_low {rows : List Nat} {k m : Nat} (hm : m < 2 ^ k) : sm rows (k + 1) m = sm rows k m := by
  rw [sm, if_neg (by rw [bit_of_lt hm]; decide), Nat.xor_zero]

/-- The least choice of the first k rows whose sum is 'want', by the greatest index first. -/
def mkM (rows : List Nat) : Nat → Nat → Nat
  | 0, _ => 0
  | k + 1, want => if canB (rows.take k) want = true then mkM rows k want else mkM rows k (want ^^^ rows.getD k 0) + 2 ^ k
theorem mkM_spec {rows : List Nat} : ∀ {k want : Nat}, k ≤ rows.length → Sp (rows.take k) want →
    sm rows k (mkM rows k want) = want ∧ mkM rows k want < 2 ^ k ∧ ∀ m, m < 2 ^ k → sm rows k m = want → mkM rows k want ≤ m
  | 0, want, _, h => by
    have h' : want = 0 := h
    subst h'
    exact ⟨rfl, Nat.zero_lt_one, fun m _ _ => Nat.zero_le _⟩
  | k + 1, want, hk, h => by
    by_cases hc : canB (rows.take k) want = true
    · obtain ⟨h1, h2, h3⟩ := mkM_spec (k := k) (want := want) (by omega) ((canB_iff _ _).1 hc)
      rw [mkM, if_pos hc]
      refine ⟨by rw [sm_low h2]; exact h1, Nat.lt_trans h2 (Nat.pow_lt_pow_right (by decide) (by omega)), fun m hm e => ?_⟩
      rcases Nat.lt_or_ge m (2 ^ k) with hlt | hge
      · exact h3 m hlt (by rw [← sm_low hlt]; exact e)
      · omega
    · rw [take_snoc' (by omega), sp_snoc] at h
      have hx : Sp (rows.take k) (want ^^^ rows.getD k 0) := by
        rcases h with h | h
        · exact absurd ((canB_iff _ _).2 h) hc
        · exact h
      obtain ⟨h1, h2, h3⟩ := mkM_spec (k := k) (want := want ^^^ rows.getD k 0) (by omega) hx
      rw [mkM, if_neg hc]
      refine ⟨by rw [sm_up h2, h1, xor_cancel], by rw [Nat.pow_succ]; omega, fun m hm e => ?_⟩
      rcases Nat.lt_or_ge m (2 ^ k) with hlt | hge
      · exfalso
        rw [sm_low hlt] at e
        exact hc ((canB_iff _ _).2 (by rw [← e]; exact sm_sp (by omega)))
      · have hm' : m - 2 ^ k < 2 ^ k := by rw [Nat.pow_succ] at hm; omega
        have e' : sm rows (k + 1) (m - 2 ^ k + 2 ^ k) = want := by rw [Nat.sub_add_cancel hge]; exact e
        rw [sm_up hm'] at e'
        have := h3 (m - 2 ^ k) hm' (by rw [← e', xor_cancel])
        omega
end Go.Proofs.YtjaeahobmamhoaaDoor
