/-
  The model of chapter 5: PeelOff.
-/
import Derived.Test.YtkmlgeicmnbkiaaJI
namespace Go.Proofs.Ytkmlgeicmnbkiaa
open Go.RowKit

theorem boolInfo : (Try.prog.info? 4).map (fun i => (i.zero, i.size, i.bytes)) = some (some (.bool false), 1, 1) := by kernel_rfl
/-- What is known, as it lies in memory: a row of numbers and a row of truth values. -/
def PS (w : World) (base a b n : Nat) (S : Know) : Prop :=
  w.ownsRow base 3 1 (.slice (some ⟨a, 0, none⟩) n n) n (S.map fun s => Value.int .i64 ((s.getD 0 : Nat) : Int)) ∧ w.ownsRow base 4 1 (.slice (some ⟨b, 0, none⟩) n n) n (S.map fun s => Value.bool s.isSome) ∧ S.length = n
theorem gBelowN {w w' : World} (hb : Below w.heap.size w w') : w.grownBy w' none := ⟨hb.os, hb.tape, hb.output, hb.size, fun k hk _ => hb.block k hk⟩
theorem gNone (o : Option Nat) : o = none ∨ o ≠ none := by cases o <;> simp
theorem PS.below {w w' : World} {base a b n : Nat} {S : Know} (h : PS w base a b n S) (hb : Below w.heap.size w w') : PS w' base a b n S :=
  ⟨World.ownsRow.kept h.1 (gBelowN hb) (gNone _), World.ownsRow.kept h.2.1 (gBelowN hb) (gNone _), h.2.2⟩
theorem rowHeap {w : World} {base size g n cap : Nat} {e : TypeId} {xs : List Value} (h : w.ownsRow base e size (.slice (some ⟨g, 0, none⟩) n cap) n xs) : ∃ cur, w.heap[g]? = some (.cells cur e (0, 0)) ∧ base ≤ g := by
  rcases h.2 with ⟨e0, _⟩ | ⟨g', cap', cur, e0, hb, hg, _⟩
  · cases e0
  · injection e0 with e1
    injection e1 with e1
    injection e1 with e1
    subst e1
    exact ⟨cur, hg, hb⟩
theorem PS.ne {w : World} {base a b n : Nat} {S : Know} (h : PS w base a b n S) : a ≠ b := by
  obtain ⟨c1, h1, _⟩ := rowHeap h.1
  obtain ⟨c2, h2, _⟩ := rowHeap h.2.1
  rintro rfl
  rw [h1] at h2
  simp at h2
theorem PS.cells {w : World} {base a b n : Nat} {S : Know} (h : PS w base a b n S) {k : Nat} (hk : k < n) : w.cell? ⟨a, k, none⟩ = some (.int .i64 ((knV S k : Nat) : Int)) ∧ w.cell? ⟨b, k, none⟩ = some (.bool (S.getD k none).isSome) := by
  have hl : k < S.length := by rw [h.2.2]; exact hk
  refine ⟨?_, ?_⟩
  · rw [h.1.cellAt k (by omega)]; simp [knV, List.getD, hl]
  · rw [h.2.1.cellAt k (by omega)]; simp [List.getD, hl]
theorem PS.frozen {w : World} {base a b n : Nat} {S : Know} (h : PS w base a b n S) (k : Nat) : w.frozen? ⟨a, k, none⟩ = false ∧ w.frozen? ⟨b, k, none⟩ = false := by
  obtain ⟨c1, h1, _⟩ := rowHeap h.1
  obtain ⟨c2, h2, _⟩ := rowHeap h.2.1
  exact ⟨frozen_of_row w _ k _ _ h1, frozen_of_row w _ k _ _ h2⟩
theorem gSet (w : World) (a : Addr) (u : Value) : w.grownBy (w.setCell a u) (some a.block) :=
  ⟨rfl, rfl, rfl, by simp, fun k _ hk => heap_setCell_other w a k u (fun e => hk (by rw [e]))⟩
theorem PS.put {w w0 : World} {base a b n u B : Nat} {S : Know} (h : PS w base a b n S) (v : Nat) (hB : B ≤ base) (hb : Below B w0 w) :
    PS ((w.setCell ⟨a, u, none⟩ (.int .i64 v)).setCell ⟨b, u, none⟩ (.bool true)) base a b n (S.set u (some v)) ∧ Below B w0 ((w.setCell ⟨a, u, none⟩ (.int .i64 v)).setCell ⟨b, u, none⟩ (.bool true)) := by
  obtain ⟨_, _, h1⟩ := rowHeap h.1
  obtain ⟨_, _, h2⟩ := rowHeap h.2.1
  have hne := h.ne
  have s1 := (h.1.stored u (.int .i64 v)).1
  have k2 := World.ownsRow.kept h.2.1 (gSet w ⟨a, u, none⟩ (.int .i64 v)) (Or.inr (by intro e; injection e with e; exact hne e.symm))
  have s2 := (World.ownsRow.stored k2 u (.bool true)).1
  have k1 := World.ownsRow.kept s1 (gSet (w.setCell ⟨a, u, none⟩ (.int .i64 v)) ⟨b, u, none⟩ (.bool true)) (Or.inr (by intro e; injection e with e; exact hne e))
  refine ⟨⟨?_, ?_, by rw [List.length_set]; exact h.2.2⟩, (hb.setCell (Nat.le_trans hB h1) _).setCell (Nat.le_trans hB h2) _⟩
  · rw [List.map_set]; exact k1
  · rw [List.map_set]; exact s2
theorem row_lower {w : World} {base base' size n : Nat} {e : TypeId} {v : Value} {xs : List Value} (h : w.ownsRow base e size v n xs) (hb : base' ≤ base) : w.ownsRow base' e size v n xs :=
  ⟨h.1, by
    rcases h.2 with hn | ⟨g, cap, cur, e, hg, r⟩
    · exact Or.inl hn
    · exact Or.inr ⟨g, cap, cur, e, Nat.le_trans hb hg, r⟩⟩
theorem PS.lower {w : World} {base base' a b n : Nat} {S : Know} (h : PS w base a b n S) (hb : base' ≤ base) : PS w base' a b n S := ⟨row_lower h.1 hb, row_lower h.2.1 hb, h.2.2⟩
theorem made_row (x : Value) (n : Nat) (h : x.cells = #[x]) : (madeCells x.cells (n * 1)).toList = List.replicate n x := by rw [h, Nat.mul_one, toList_madeCells_one]

def natL (ls : List (Int × Int)) : List (Nat × Nat) := ls.map fun p => (p.1.toNat, p.2.toNat)
def intL (L : List (Nat × Nat)) : List (Int × Int) := L.map fun p => ((p.1 : Int), (p.2 : Int))
theorem natL_intL (L : List (Nat × Nat)) : natL (intL L) = L := by
  unfold natL intL
  rw [List.map_map]
  conv => rhs; rw [← List.map_id L]
  exact List.map_congr_left fun p _ => by simp
theorem intL_length (L : List (Nat × Nat)) : (intL L).length = L.length := by simp [intL]
theorem okTo_at {ls : List (Int × Int)} : ∀ {m : Nat}, okTo ls m = true → ∀ k, k < m → letB (ls.getD k (0, 0)) = true ∧ newB (ls.take k) (ls.getD k (0, 0)).1 = true
  | m + 1, h, k, hk => by
    simp only [okTo, Bool.and_eq_true] at h
    by_cases e : k = m
    · subst e; exact h.2
    · exact okTo_at h.1 k (by omega)
theorem goodL_nat {n : Int} {ls : List (Int × Int)} (h : goodLB n ls = true) : ∃ (m : Nat) (L : List (Nat × Nat)), n = m ∧ ls = intL L ∧ 1 ≤ m ∧ m ≤ 8 ∧ L.length ≤ 40 ∧ ∀ x ∈ L, x.1 ≤ 999 ∧ x.2 < 2 ^ 32 := by
  simp only [goodLB, Bool.and_eq_true, decide_eq_true_eq] at h
  obtain ⟨h1, h2, h3⟩ := h
  have hp : 1 ≤ n ∧ n ≤ 8 := by simpa [pcOkB, inB] using h2
  have hb : ∀ p ∈ ls, (0 ≤ p.1 ∧ p.1 ≤ 999) ∧ (0 ≤ p.2 ∧ p.2 ≤ 4294967295) := fun p hp => by
    obtain ⟨k, hk, rfl⟩ := List.mem_iff_getElem.1 hp
    have := (okTo_at h1 k hk).1
    rw [show ls.getD k (0, 0) = ls[k] by simp [List.getD, hk]] at this
    simpa [letB, noOkB, pieceB5, inB] using this
  have e : intL (natL ls) = ls := by
    unfold natL intL
    rw [List.map_map]
    conv => rhs; rw [← List.map_id ls]
    refine List.map_congr_left fun p hp => ?_
    have := hb p hp
    refine Prod.ext ?_ ?_ <;> simp <;> omega
  refine ⟨n.toNat, natL ls, by omega, e.symm, by omega, by omega, by simpa [natL] using h3, fun x hx => ?_⟩
  obtain ⟨p, hp, rfl⟩ := List.mem_map.1 hx
  have := hb p hp
  exact ⟨by omega, by omega⟩
def peelOI (n : Int) (ls : List (Int × Int)) : List Int := if goodLB n ls = true then zI ((peelL n.toNat (natL ls)).map fun s => s.getD 0) else []
def peelBI (n : Int) (ls : List (Int × Int)) : List Bool := if goodLB n ls = true then (peelL n.toNat (natL ls)).map Option.isSome else []

/-- A slice of truth values of the call's own. -/
def OwnT (w : World) (base : Nat) (v : Value) (bs : List Bool) : Prop := w.ownsRow base 4 1 v bs.length (bs.map Value.bool)
theorem OwnT.nil (w : World) (base : Nat) : OwnT w base (.slice none 0 0) [] := World.ownsRow_nil w base _ _
theorem OwnT.below {w w' : World} {base : Nat} {v : Value} {bs : List Bool} (h : OwnT w base v bs) (hb : Below w.heap.size w w') : OwnT w' base v bs := World.ownsRow.kept h (gBelowN hb) (gNone _)
theorem PS.outs {w : World} {base a b n : Nat} {S : Know} (h : PS w base a b n S) : Own w base (.slice (some ⟨a, 0, none⟩) n n) (zI (S.map fun s => s.getD 0)) ∧ OwnT w base (.slice (some ⟨b, 0, none⟩) n n) (S.map Option.isSome) := by
  refine ⟨?_, ?_⟩
  · unfold Own
    have hl : (zI (S.map fun s => s.getD 0)).length = n := by rw [zI_length, List.length_map]; exact h.2.2
    rw [hl]
    have e : (zI (S.map fun s => s.getD 0)).map (Value.int .i64) = S.map fun s => Value.int .i64 ((s.getD 0 : Nat) : Int) := by simp [zI, List.map_map]
    rw [e]
    exact h.1
  · unfold OwnT
    have hl : (S.map Option.isSome).length = n := by rw [List.length_map]; exact h.2.2
    rw [hl]
    have e : (S.map Option.isSome).map Value.bool = S.map fun s => Value.bool s.isSome := by simp [List.map_map]
    rw [e]
    exact h.2.1

theorem unk_snoc {S : Know} {P : List Nat} {i : Nat} (hi : i < P.length) : unkL S (P.take (i + 1)) = if (S.getD P[i] none).isSome = true then unkL S (P.take i) else unkL S (P.take i) ++ [P[i]] := by
  rw [unkL, List.take_succ_eq_append_getElem hi, List.filter_append, ← unkL]
  have hf : ∀ b : Bool, (S.getD P[i] none).isNone = b → [P[i]].filter (fun k => (S.getD k none).isNone) = if b = true then [P[i]] else [] := fun b hb => by
    rw [List.filter_cons, hb, List.filter_nil]
  cases h : (S.getD P[i] none).isSome
  · rw [hf true (by rw [← Option.not_isSome, h]; rfl)]; rfl
  · rw [hf false (by rw [← Option.not_isSome, h]; rfl)]; simp
theorem kn_snoc {S : Know} {P : List Nat} {i : Nat} (hi : i < P.length) : xorL (knV S) (P.take (i + 1)) = xorL (knV S) (P.take i) ^^^ knV S P[i] := by
  rw [List.take_succ_eq_append_getElem hi, xorL_snoc]
theorem kn_none {S : Know} {k : Nat} (h : (S.getD k none).isSome = false) : knV S k = 0 := by
  cases hg : S.getD k none with
  | none => rw [knV, hg]; rfl
  | some v => rw [hg] at h; cases h
end Go.Proofs.Ytkmlgeicmnbkiaa
