/-
  What the model's l1Put and MakeBy answer.
-/
import Derived.Test.YtgakklanboabjaaU2
import Derived.Laws.AppendOwnNone
namespace Go.Proofs.Ytgakklanboabjaa
open Go.RowKit

/-- Some numbers appended to a slice of the call's own. -/
theorem app_many {ops : Array Oper} {rest : List Oper} {o : Oper} {a : Act} {Q : Exit → Act → World → Prop} (W : World) (base : Nat) (v : Value) (l : List Nat) (N : List Nat) (b off c : Nat) (hgd : o.guard = none) (s x : Operand)
    (ho : o.op = .call { callee := .builtin .append, args := #[s, x], argTypes := #[81, 81] }) (hs : a.eval s = v) (hx : a.eval x = .slice (some ⟨b, off, none⟩) N.length c)
    (hc : ∀ j, j < N.length → W.cell? ⟨b, off + j, none⟩ = some (.int .i64 ((N.getD j 0 : Nat) : Int)))
    (hown : Own W base v (zI l)) (hbase : base ≤ W.heap.size) (hlen : l.length ≤ 1000000) (hlen2 : N.length ≤ 1000000) (w0 : World) (hb : Below base w0 W)
    (h : ∀ v' w', Hid (Own w' base v' (zI (l ++ N)) ∧ Below base w0 w' ∧ W.grownBy w' v.ownBlock) → wpList Try.prog ops Q rest (a.put o.dst v') w') :
    wpList Try.prog ops Q (o :: rest) a W := by
  obtain ⟨i0, hi, hz0, hz1, hz2⟩ := info_parts intInfo
  refine wpList_append_own _ hgd s x 81 ho base 3 i0 (.int .i64 0) 1 8 Try.underlying81 hi hz0 hz1 hz2 rfl (by decide) v l.length _ hs (ownRow hown) ⟨b, off, none⟩ N.length c ((zI N).map (Value.int .i64)) hx (by simp [zI_length]) ?_ ?_ ?_ ?_ hbase ?_
  · intro j u hj
    have hj' : j < N.length := by
      have := (List.getElem?_eq_some_iff.1 hj).1
      simpa [zI_length] using this
    have e1 : (⟨b, off, none⟩ : Addr).add j = ⟨b, off + j, none⟩ := by simp [Addr.add]
    rw [e1, hc j hj']
    rw [← hj]
    simp [zI, List.getD, hj']
  · intro u hu
    obtain ⟨z, _, rfl⟩ := List.mem_map.1 hu
    rfl
  · unfold maxLen; omega
  · omega
  · intro v' w' h1 h2 _
    refine h v' w' ⟨?_, hb.grown h2 hbase (fun g hg => (hown.lt g hg).1), h2⟩
    unfold Own; simpa [zI] using h1

/-- As app_law, the new cell's block under a name of its own. -/
theorem app_law' {ops : Array Oper} {rest : List Oper} {o : Oper} {a : Act} {Q : Exit → Act → World → Prop} (W : World) (base : Nat) (v : Value) (l : List Nat) (z : Nat) (B : Nat) (hB : B = W.heap.size) (hgd : o.guard = none) (s x : Operand)
    (ho : o.op = .call { callee := .builtin .append, args := #[s, x], argTypes := #[81, 81] }) (hs : a.eval s = v) (hx : a.eval x = .slice (some ⟨B, 0, none⟩) 1 1)
    (hown : Own W base v (zI l)) (hbase : base ≤ W.heap.size) (hlen : l.length ≤ 1000000) (w0 : World) (hb : Below base w0 W)
    (h : ∀ v' w', Hid (Own w' base v' (zI (l ++ [z])) ∧ Below base w0 w' ∧ (W.alloc (.cells #[.int .i64 z] 3)).grownBy w' v.ownBlock) → wpList Try.prog ops Q rest (a.put o.dst v') w') :
    wpList Try.prog ops Q (o :: rest) a (W.alloc (.cells #[.int .i64 z] 3)) := by
  subst hB
  exact app_law W base v l z hgd s x ho hs hx hown hbase hlen w0 hb h

theorem cell_in {w w' : World} {p : Addr} {v : Value} (hb : Below w.heap.size w w') (h : w.cell? p = some v) : w'.cell? p = some v := (hb.cell (World.block_lt_of_cell? _ _ h)).trans h

theorem headD_lt {N : List Nat} {n : Nat} (h : ∀ x ∈ N, n < x) (h0 : 0 < N.length) : n < N.getD 0 0 := by
  cases N with
  | nil => simp at h0
  | cons x N => exact h x (by simp)

theorem own_lit0 (w : World) : Own (w.alloc (.cells #[] 3)) w.heap.size (.slice (some ⟨w.heap.size, 0, none⟩) 0 0) (zI []) :=
  ⟨rfl, Or.inr ⟨w.heap.size, 0, #[], rfl, Nat.le_refl _, heap_alloc_new _ _, Nat.le_refl _, by unfold maxLen; omega, rfl, rfl⟩⟩

def makeI (x : Int) (zs : List Int) (y : Int) : List Int := if canI x zs y = true then zI (idxL (mkM (nL zs) (nL zs).length y.toNat) (nL zs).length) else []
theorem makeI_no {x : Int} {zs : List Int} {y : Int} (h : canI x zs y = false) : makeI x zs y = [] := by simp [makeI, h]
theorem makeI_len (x : Int) (zs : List Int) (y : Int) : (makeI x zs y).length ≤ 20 := by
  unfold makeI; split
  · rename_i h
    have h1 : rowsB x zs = true := by
      have : twoOkB x zs y = true := by
        unfold canI at h; cases h2 : twoOkB x zs y
        · rw [h2] at h; cases h
        · rfl
      exact (twoOk_true this).1
    have := (rowsB_in h1).1
    rw [zI_length, idxL]
    refine Nat.le_trans (List.length_filter_le _ _) ?_
    rw [List.length_range, nL_length]; exact this
  · simp
theorem idxL_low {m k : Nat} (h : m < 2 ^ k) : idxL m (k + 1) = idxL m k := by
  rw [idxL_succ, if_neg (by rw [bit_of_lt h]; decide), List.append_nil]
theorem idxL_up {m k : Nat} (h : m < 2 ^ k) : idxL (m + 2 ^ k) (k + 1) = idxL m k ++ [k] := by
  rw [idxL_succ, if_pos (by rw [pow_bit h]; simp)]
  congr 1
  unfold idxL
  apply List.filter_congr
  intro i hi
  have hik : i < k := List.mem_range.1 hi
  rw [pow_bit h]
  rw [decide_eq_false (by omega)]; simp
theorem Ints.take {w : World} {A : Option Addr} {R : List Nat} (h : Ints w A (zI R)) (k : Nat) : Ints w A (zI (R.take k)) := by
  intro hne
  have hne' : zI R ≠ [] := by
    intro e
    have : R = [] := List.eq_nil_of_length_eq_zero (by rw [← zI_length, e]; rfl)
    subst this; simp [zI] at hne
  obtain ⟨b, o, e, hc⟩ := h hne'
  refine ⟨b, o, e, fun j hj => ?_⟩
  rw [zI_length, List.length_take] at hj
  rw [hc j (by rw [zI_length]; omega), zI_getD, zI_getD]
  have h1 : j < k := by omega
  simp [List.getD, h1]

end Go.Proofs.Ytgakklanboabjaa
