/-
  What the model's l2Top and l2Steps answer.
-/
import Derived.Test.YtgakklanboabjaaMG
import Derived.Test.YtgakklanboabjaaWA
import Derived.Deep.LoopGhost
import Derived.Maps.AppendAt
namespace Go.Proofs.Ytgakklanboabjaa
open Go.RowKit

/-- Natural numbers as the program's. -/
def zI (l : List Nat) : List Int := l.map fun (n : Nat) => (n : Int)
theorem zI_length (l : List Nat) : (zI l).length = l.length := by simp [zI]
theorem zI_getD (l : List Nat) (j : Nat) : (zI l).getD j 0 = (l.getD j 0 : Nat) := by
  simp only [zI, List.getD_eq_getElem?_getD, List.getElem?_map]
  cases l[j]? <;> rfl
theorem zI_at {l : List Nat} {j : Nat} (h : j < l.length) : (zI l).getD j 0 = ((l[j] : Nat) : Int) := by
  rw [zI_getD]; simp [List.getD, h]
theorem zI_append (a b : List Nat) : zI (a ++ b) = zI a ++ zI b := by simp [zI]
theorem zI_inj {a b : List Nat} (h : zI a = zI b) : a = b := by
  induction a generalizing b with
  | nil => cases b with
    | nil => rfl
    | cons => simp [zI] at h
  | cons x a ih => cases b with
    | nil => simp [zI] at h
    | cons y b =>
      simp only [zI, List.map_cons, List.cons.injEq] at h
      rw [ih h.2]; congr 1; omega
theorem eqL_zI (a b : List Nat) : eqL (zI a) (zI b) = decide (a = b) := by
  unfold eqL
  rw [decide_eq_decide]
  exact ⟨zI_inj, fun h => by rw [h]⟩

/-- A slice's cells read as natural numbers. -/
theorem Ints.cellN {w : World} {A : Option Addr} {l : List Nat} (h : Ints w A (zI l)) {j : Nat} (hj : j < l.length) :
    ∃ b o, A = some ⟨b, o, none⟩ ∧ w.cell? ⟨b, o + j, none⟩ = some (.int .i64 (l[j] : Nat)) := by
  obtain ⟨b, o, e, hc⟩ := h (by intro e; have := zI_length l; rw [e] at this; simp at this; omega)
  exact ⟨b, o, e, by rw [hc j (by rw [zI_length]; exact hj), zI_at hj]⟩

theorem log2_div {n k : Nat} : n / 2 ^ k = 0 ↔ n < 2 ^ k := Nat.div_eq_zero_iff_lt (Nat.two_pow_pos k)

/-- What a shifted bit reads as. -/
theorem bit_shr {n k : Nat} (hn : n < 65536) : (bits .and .i64 ((n : Int) / (2 : Int) ^ k) 1 == 1) = n.testBit k := by
  have hdiv : ((n : Int) / (2 : Int) ^ k) = ((n / 2 ^ k : Nat) : Int) := by simp
  rw [hdiv, and_one_i64 (n / 2 ^ k) (Nat.lt_of_le_of_lt (Nat.div_le_self _ _) hn), Nat.testBit_eq_decide_div_mod_eq]
  by_cases h : n / 2 ^ k % 2 = 1
  · rw [h]; rfl
  · have : n / 2 ^ k % 2 = 0 := by omega
    rw [this]; rfl

theorem red_lt {O : List Nat} {r : Nat} (h : ∀ s ∈ O, s < 65536) (hr : r < 65536) : red O r < 65536 := by
  induction O generalizing r with
  | nil => exact hr
  | cons s O ih =>
    rw [red]
    refine ih (fun t ht => h t (by simp [ht])) ?_
    split
    · exact Nat.xor_lt_two_pow (n := 16) hr (h s (by simp))
    · exact hr
theorem red_drop {O : List Nat} {j : Nat} (hj : j < O.length) (r : Nat) : red (O.drop j) r = red (O.drop (j + 1)) (if r.testBit (O[j]).log2 = true then r ^^^ O[j] else r) := by
  rw [List.drop_eq_getElem_cons hj, red]
theorem steps_snoc (R : List Nat) {k : Nat} (hk : k < R.length) : steps (R.take (k + 1)) = ins (steps (R.take k)) R[k] := by
  unfold steps
  rw [List.take_succ_eq_append_getElem hk, List.foldl_append]; rfl

theorem ownRow {w : World} {base : Nat} {v : Value} {l : List Nat} (h : Own w base v (zI l)) : w.ownsRow base 3 1 v l.length ((zI l).map (Value.int .i64)) := by
  have h' : w.ownsRow base 3 1 v (zI l).length ((zI l).map (Value.int .i64)) := h
  rwa [zI_length] at h'
theorem ownApp {w1 : World} {base : Nat} {v' : Value} {l : List Nat} {z : Nat} (h : w1.ownsRow base 3 1 v' (l.length + 1) ((zI l).map (Value.int .i64) ++ [.int .i64 z])) : Own w1 base v' (zI (l ++ [z])) := by
  unfold Own; simpa [zI] using h
/-- What an append leaves of the world. -/
theorem app_below {w0 w1 w2 : World} {B : Nat} {v : Value} {l : List Nat} {o : Obj} (hb : Below B w0 w1) (hB : B ≤ w1.heap.size) (ho : Own w1 B v (zI l)) (hg : (w1.alloc o).grownBy w2 v.ownBlock) : Below B w0 w2 :=
  (hb.alloc hB _).grown hg (by simp; omega) (fun g hg => (ho.lt g hg).1)
/-- One number appended to a slice of the call's own. -/
theorem app_law {ops : Array Oper} {rest : List Oper} {o : Oper} {a : Act} {Q : Exit → Act → World → Prop} (W : World) (base : Nat) (v : Value) (l : List Nat) (z : Nat) (hgd : o.guard = none) (s x : Operand)
    (ho : o.op = .call { callee := .builtin .append, args := #[s, x], argTypes := #[81, 81] }) (hs : a.eval s = v) (hx : a.eval x = .slice (some ⟨W.heap.size, 0, none⟩) 1 1)
    (hown : Own W base v (zI l)) (hbase : base ≤ W.heap.size) (hlen : l.length ≤ 1000000) (w0 : World) (hb : Below base w0 W)
    (h : ∀ v' w', Hid (Own w' base v' (zI (l ++ [z])) ∧ Below base w0 w' ∧ (W.alloc (.cells #[.int .i64 z] 3)).grownBy w' v.ownBlock) → wpList Try.prog ops Q rest (a.put o.dst v') w') :
    wpList Try.prog ops Q (o :: rest) a (W.alloc (.cells #[.int .i64 z] 3)) := by
  obtain ⟨i0, hi, hz0, hz1, hz2⟩ := info_parts intInfo
  refine wpList_append_own _ hgd s x 81 ho base 3 i0 (.int .i64 0) 1 8 Try.underlying81 hi hz0 hz1 hz2 rfl (by decide) v l.length _ hs ((ownRow hown).alloc _) ⟨W.heap.size, 0, none⟩ 1 1 [.int .i64 z] hx rfl (cell_one_new _ _ _) ?_ ?_ ?_ ?_ ?_
  · intro u hu; simp at hu; subst hu; rfl
  · unfold maxLen; omega
  · omega
  · simp; omega
  · intro v' w' h1 h2 _
    exact h v' w' ⟨ownApp h1, app_below hb hbase hown h2, h2⟩
end Go.Proofs.Ytgakklanboabjaa
