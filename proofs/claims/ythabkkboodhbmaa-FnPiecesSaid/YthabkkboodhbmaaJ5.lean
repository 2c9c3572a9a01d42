/-
  Slices of blocks of the call's own; the laws' markBlockS, heldBlockS.
-/
import Derived.Test.YthabkkboodhbmaaJ4
namespace Go.Proofs.Ythabkkboodhbmaa
open Go.RowKit

theorem set_same {α : Type} {l : List α} {i : Nat} {x : α} (h : l[i]? = some x) : l.set i x = l := by
  apply List.ext_getElem?
  intro k
  rw [List.getElem?_set]
  split
  · rename_i e
    subst e
    obtain ⟨hi, e2⟩ := List.getElem?_eq_some_iff.1 h
    rw [if_pos hi, h]
  · rfl
def cellsB (L : List (Int × Value × List Int)) : List Value := L.flatMap fun p => [Value.int .i64 p.1, p.2.1]
def blks (L : List (Int × Value × List Int)) : List (Int × List Int) := L.map fun p => (p.1, p.2.2)
theorem blks_length (L : List (Int × Value × List Int)) : (blks L).length = L.length := by simp [blks]
theorem cellsB_cons (p : Int × Value × List Int) (L : List (Int × Value × List Int)) : cellsB (p :: L) = .int .i64 p.1 :: p.2.1 :: cellsB L := by simp [cellsB]
theorem cellsB_append (L M : List (Int × Value × List Int)) : cellsB (L ++ M) = cellsB L ++ cellsB M := by simp [cellsB]
theorem cellsB_length : ∀ L : List (Int × Value × List Int), (cellsB L).length = L.length * 2
  | [] => rfl
  | p :: L => by rw [cellsB_cons, List.length_cons, List.length_cons, cellsB_length L, List.length_cons]; omega
theorem cellsB_at : ∀ (L : List (Int × Value × List Int)) (j : Nat) (hj : j < L.length), (cellsB L)[j * 2]? = some (.int .i64 L[j].1) ∧ (cellsB L)[j * 2 + 1]? = some L[j].2.1
  | p :: L, 0, _ => by rw [cellsB_cons]; exact ⟨rfl, rfl⟩
  | p :: L, j + 1, hj => by
    have := cellsB_at L j (by simp at hj; omega)
    rw [cellsB_cons, show (j + 1) * 2 = j * 2 + 1 + 1 by omega]
    exact this
theorem cellsB_set : ∀ (L : List (Int × Value × List Int)) (j : Nat) (hj : j < L.length) (x : Int) (zs : List Int), (cellsB L).set (j * 2) (.int .i64 x) = cellsB (L.set j (x, L[j].2.1, zs))
  | p :: L, 0, _, x, zs => by
    show (cellsB (p :: L)).set 0 _ = cellsB ((x, p.2.1, zs) :: L)
    rw [cellsB_cons, List.set_cons_zero, cellsB_cons]
  | p :: L, j + 1, hj, x, zs => by
    have := cellsB_set L j (by simp at hj; omega) x zs
    rw [cellsB_cons, show (j + 1) * 2 = j * 2 + 1 + 1 by omega, List.set_cons_succ, List.set_cons_succ, this, List.set_cons_succ, cellsB_cons]
    rfl
theorem cellsB_same (L : List (Int × Value × List Int)) (j : Nat) (hj : j < L.length) (zs : List Int) : cellsB (L.set j (L[j].1, L[j].2.1, zs)) = cellsB L := by
  rw [← cellsB_set L j hj L[j].1 zs]
  have h := (cellsB_at L j hj).1
  exact set_same h

/-- A slice of blocks of the call's own: for each block its length, the value of its pieces and these. -/
def OwnB (w : World) (base : Nat) (v : Value) (L : List (Int × Value × List Int)) : Prop :=
  w.ownsRow base 34 2 v L.length (cellsB L) ∧ (∀ p ∈ L, Own w base p.2.1 p.2.2) ∧ L.Pairwise fun p q => p.2.1.ownBlock = none ∨ p.2.1.ownBlock ≠ q.2.1.ownBlock
theorem apartS {a b : Option Nat} (h : a = none ∨ a ≠ b) : b = none ∨ b ≠ a := by
  rcases h with h | h
  · cases b with
    | none => exact Or.inl rfl
    | some k => exact Or.inr (by rw [h]; simp)
  · exact Or.inr h.symm
theorem OwnB.nil (w : World) (base : Nat) : OwnB w base (.slice none 0 0) [] := ⟨World.ownsRow_nil _ _ _ _, (fun p hp => by cases hp), List.Pairwise.nil⟩
theorem below_none {w w' : World} (hb : Below w.heap.size w w') : w.grownBy w' none := ⟨hb.os, hb.tape, hb.output, hb.size, fun k hk _ => hb.block k hk⟩
theorem none_or (o : Option Nat) : o = none ∨ o ≠ none := by cases o <;> simp
theorem OwnB.below {w w' : World} {base : Nat} {v : Value} {L : List (Int × Value × List Int)} (h : OwnB w base v L) (hb : Below w.heap.size w w') : OwnB w' base v L :=
  ⟨World.ownsRow.kept h.1 (below_none hb) (none_or _), fun p hp => (h.2.1 p hp).below hb, h.2.2⟩
theorem OwnB.lower {w : World} {base base' : Nat} {v : Value} {L : List (Int × Value × List Int)} (h : OwnB w base v L) (hb : base' ≤ base) : OwnB w base' v L :=
  ⟨⟨h.1.1, by
    rcases h.1.2 with hn | ⟨g, cap, cur, e, hg, r⟩
    · exact Or.inl hn
    · exact Or.inr ⟨g, cap, cur, e, Nat.le_trans hb hg, r⟩⟩, fun p hp => (h.2.1 p hp).lower hb, h.2.2⟩
/-- The block of the blocks is none of the pieces'. -/
theorem own_ne {w : World} {base n : Nat} {v u : Value} {xs : List Value} {zs : List Int} (h : w.ownsRow base 34 2 v n xs) (k : Own w base u zs) : u.ownBlock = none ∨ u.ownBlock ≠ v.ownBlock := by
  rcases k.2 with ⟨rfl, _⟩ | ⟨g, cap, cur, rfl, _, hg, _⟩
  · exact Or.inl rfl
  · refine Or.inr fun e => ?_
    rcases h.2 with ⟨rfl, _⟩ | ⟨g', cap', cur', rfl, _, hg', _⟩
    · cases e
    · injection e with e
      simp only at e
      subst e
      rw [hg] at hg'
      simp at hg'
theorem OwnB.form {w : World} {base : Nat} {v : Value} {L : List (Int × Value × List Int)} (h : OwnB w base v L) : ∃ A c, v = .slice A L.length c ∧ Blks w A (blks L) := by
  rcases h.1.2 with ⟨rfl, hn⟩ | ⟨g, cap, cur, rfl, _, _, _⟩
  · obtain rfl := List.eq_nil_of_length_eq_zero hn
    exact ⟨none, 0, rfl, fun h => absurd rfl h⟩
  · refine ⟨some ⟨g, 0, none⟩, cap, rfl, fun _ => ⟨g, 0, rfl, fun j hj => ?_⟩⟩
    rw [blks_length] at hj
    obtain ⟨h1, h2⟩ := cellsB_at L j hj
    obtain ⟨A', c', e, hI⟩ := (h.2.1 L[j] (List.getElem_mem hj)).form
    have e1 : (blks L)[j] = (L[j].1, L[j].2.2) := by simp [blks]
    rw [e1]
    refine ⟨?_, A', c', ?_, hI⟩
    · rw [Nat.zero_add, h.1.cellAt _ (by omega)]; exact h1
    · rw [Nat.zero_add, h.1.cellAt _ (by omega), h2, e]

/-- A block's length is written. -/
theorem OwnB.store {w : World} {base g n cap : Nat} {L : List (Int × Value × List Int)} (h : OwnB w base (.slice (some ⟨g, 0, none⟩) n cap) L) {j : Nat} (hj : j < L.length) (x : Int) :
    OwnB (w.setCell ⟨g, j * 2, none⟩ (.int .i64 x)) base (.slice (some ⟨g, 0, none⟩) n cap) (L.set j (x, L[j].2.1, L[j].2.2)) ∧ w.grownBy (w.setCell ⟨g, j * 2, none⟩ (.int .i64 x)) (some g) := by
  have hl : n = L.length := by
    rcases h.1.2 with ⟨e, _⟩ | ⟨g', cap', cur', e, _⟩
    · cases e
    · injection e with _ e2 _
  subst hl
  have hs := h.1.stored (j * 2) (.int .i64 x)
  rw [cellsB_set L j hj x L[j].2.2] at hs
  refine ⟨⟨by rw [List.length_set]; exact hs.1, fun p hp => ?_, ?_⟩, hs.2⟩
  · rcases List.mem_or_eq_of_mem_set hp with hp | rfl
    · exact (h.2.1 p hp).kept hs.2 (own_ne h.1 (h.2.1 p hp))
    · exact (h.2.1 L[j] (List.getElem_mem hj)).kept hs.2 (own_ne h.1 (h.2.1 L[j] (List.getElem_mem hj)))
  · have e : (L.set j (x, L[j].2.1, L[j].2.2)).map (fun p => p.2.1.ownBlock) = L.map fun p => p.2.1.ownBlock := by
      rw [List.map_set]
      exact set_same (by simp [hj])
    have hp : (L.map fun p => p.2.1.ownBlock).Pairwise (fun a b => a = none ∨ a ≠ b) := List.pairwise_map.2 h.2.2
    rw [← e] at hp
    exact List.pairwise_map.1 hp
/-- A block's pieces are written. -/
theorem OwnB.row {w w' : World} {base : Nat} {v : Value} {L : List (Int × Value × List Int)} (h : OwnB w base v L) {j : Nat} (hj : j < L.length) {zs : List Int} (hg : w.grownBy w' L[j].2.1.ownBlock) (ho : Own w' base L[j].2.1 zs) :
    OwnB w' base v (L.set j (L[j].1, L[j].2.1, zs)) := by
  refine ⟨?_, fun p hp => ?_, ?_⟩
  · rw [List.length_set, cellsB_same L j hj zs]
    exact World.ownsRow.kept h.1 hg (apartS (own_ne h.1 (h.2.1 L[j] (List.getElem_mem hj))))
  · obtain ⟨i, hi, rfl⟩ := List.mem_iff_getElem.1 hp
    rw [List.length_set] at hi
    rw [List.getElem_set]
    split
    · exact ho
    · rename_i hne
      have hpw := List.pairwise_iff_getElem.1 h.2.2
      refine (h.2.1 L[i] (List.getElem_mem hi)).kept hg ?_
      rcases Nat.lt_or_gt_of_ne hne with hlt | hlt
      · exact apartS (hpw j i hj hi hlt)
      · exact hpw i j hi hj hlt
  · have e : (L.set j (L[j].1, L[j].2.1, zs)).map (fun p => p.2.1.ownBlock) = L.map fun p => p.2.1.ownBlock := by
      rw [List.map_set]
      exact set_same (by simp [hj])
    have hp : (L.map fun p => p.2.1.ownBlock).Pairwise (fun a b => a = none ∨ a ≠ b) := List.pairwise_map.2 h.2.2
    rw [← e] at hp
    exact List.pairwise_map.1 hp
end Go.Proofs.Ythabkkboodhbmaa
