/-
  The model of chapter 5: AddUp, EnoughOf.
-/
import Derived.Test.YtkmlgeicmnbkiaaJN
namespace Go.Proofs.Ytkmlgeicmnbkiaa
open Go.RowKit

theorem gApart {a b : Option Nat} (h : a = none ∨ a ≠ b) : b = none ∨ b ≠ a := by
  rcases h with h | h
  · cases b with
    | none => exact Or.inl rfl
    | some k => exact Or.inr (by rw [h]; simp)
  · exact Or.inr h.symm
/-- One number appended to a slice of the call's own, another one lying by. -/
theorem app_two {ops : Array Oper} {rest : List Oper} {o : Oper} {a : Act} {Q : Exit → Act → World → Prop} (W : World) (base : Nat) (v u : Value) (l l2 : List Nat) (z Bn : Nat) (hBn : Bn = W.heap.size) (hgd : o.guard = none) (s x : Operand)
    (ho : o.op = .call { callee := .builtin .append, args := #[s, x], argTypes := #[27, 27] }) (hs : a.eval s = v) (hx : a.eval x = .slice (some ⟨Bn, 0, none⟩) 1 1)
    (hown : Own W base v (zI l)) (hu : Own W base u (zI l2)) (hap : v.ownBlock = none ∨ v.ownBlock ≠ u.ownBlock) (hbase : base ≤ W.heap.size) (hlen : l.length ≤ 1000000) (w0 : World) (hb : Below base w0 W)
    (h : ∀ v' w', Hid (Own w' base v' (zI (l ++ [z])) ∧ Own w' base u (zI l2) ∧ (v'.ownBlock = none ∨ v'.ownBlock ≠ u.ownBlock) ∧ Below base w0 w' ∧ (W.alloc (.cells #[.int .i64 z] 3)).grownBy w' v.ownBlock) → wpList Try.prog ops Q rest (a.put o.dst v') w') :
    wpList Try.prog ops Q (o :: rest) a (W.alloc (.cells #[.int .i64 z] 3)) := by
  subst hBn
  obtain ⟨i0, hi, hz0, hz1, hz2⟩ := info_parts intInfo
  refine wpList_append_own_at _ hgd s x 27 ho base 3 i0 (.int .i64 0) 1 8 Try.underlying27 hi hz0 hz1 hz2 rfl (by decide) v l.length _ hs ((ownRow hown).alloc _) ⟨W.heap.size, 0, none⟩ 1 1 [.int .i64 z] hx rfl (cell_one_new _ _ _) ?_ ?_ ?_ ?_ ?_
  · intro y hy; simp at hy; subst hy; rfl
  · unfold maxLen; omega
  · omega
  · simp; omega
  · intro v' w' h1 h2 _ hat
    have hu2 : Own (W.alloc (.cells #[.int .i64 z] 3)) base u (zI l2) := hu.below (gAlloc _ _)
    refine h v' w' ⟨ownApp h1, hu2.kept h2 (gApart hap), ?_, app_below hb hbase hown h2, h2⟩
    rcases hat with hat | hat
    · rw [hat]; exact hap
    · refine Or.inr fun e => ?_
      rw [hat] at e
      have := (hu.lt _ e.symm).2
      simp at this
      omega
theorem gFormC {w : World} {base : Nat} {v : Value} {zs : List Int} (h : Own w base v zs) : ∃ A c, v = .slice A zs.length c ∧ zs.length ≤ c ∧ Ints w A zs := by
  obtain ⟨A', c', e', hI'⟩ := h.form
  refine ⟨A', c', e', ?_, hI'⟩
  rcases h.2 with ⟨_, hn⟩ | ⟨g, cap, cur, e, _, _, hle, _⟩
  · rw [hn]; exact Nat.zero_le _
  · rw [e'] at e; injection e with _ _ e3; rw [e3]; exact hle
theorem map_snoc {α β : Type} (f : α → β) {L : List α} {k : Nat} (h : k < L.length) : (L.take (k + 1)).map f = (L.take k).map f ++ [f L[k]] := by
  rw [List.take_succ_eq_append_getElem h, List.map_append]; rfl

def rowsOfL (n : Nat) (L : List (Nat × Nat)) : List Nat := (L.map Prod.fst).map (rowOfN n)
def addOkB (n : Int) (ls : List (Int × Int)) : Bool := goodLB n ls && (decide (ls.length ≤ 20) && decide (rank (rowsOfL n.toNat (natL ls)) = n.toNat))
def addI (n : Int) (ls : List (Int × Int)) : List Int := if addOkB n ls = true then zI (solveL n.toNat (rowsOfL n.toNat (natL ls)) ((natL ls).map Prod.snd)) else []

/-- The first k numbers are different. -/
def disTo (zs : List Int) : Nat → Bool
  | 0 => true
  | k + 1 => disTo zs k && !decide (zs.getD k 0 ∈ zs.take k)
theorem disTo_no {zs : List Int} {k : Nat} (h : disTo zs k = false) : ∀ {m : Nat}, k ≤ m → disTo zs m = false
  | 0, hm => by obtain rfl : k = 0 := by omega
                exact h
  | m + 1, hm => by
    by_cases e : k = m + 1
    · subst e; exact h
    · rw [disTo, disTo_no h (show k ≤ m by omega)]; rfl
def enOkB (n : Int) (zs : List Int) : Bool := pcOkB n && (decide (zs.length ≤ 20) && (allIn zs 999 && disTo zs zs.length))
def enI (n : Int) (zs : List Int) : Bool := enOkB n zs && decide (rank ((zs.map Int.toNat).map (rowOfN n.toNat)) = n.toNat)
theorem tupBB {a b c d : Bool} (h : a = b) (k : c = d) : Ending.returned (.tuple #[.bool a, .bool c]) = .returned (.tuple #[.bool b, .bool d]) := by rw [h, k]
theorem en_no {n : Int} {zs : List Int} (h : enOkB n zs = false) : enI n zs = false := by rw [enI, h]; rfl

end Go.Proofs.Ytkmlgeicmnbkiaa
