/-
  An argument that is a slice of elements of k cells each, whatever they are (strings, writes), and one that is a disk, opened.
-/
import Derived.Test.YtgakklanboabjaaL2
import Derived.Test.YtgakklanboabjaaRD
import Derived.Lib.SmallJoins
namespace Go.Proofs.Ytgakklanboabjaa
open Go.ChangeShapes Go.WideShapes Go.ChangeAt Go.RowKit

theorem list_of8 {α : Type} {R : Nat → α → Prop} : ∀ (n : Nat), (∀ i, i < n → ∃ x, R i x) → ∃ l : List α, l.length = n ∧ ∀ i (h : i < l.length), R i l[i]
  | 0, _ => ⟨[], rfl, fun i h => by simp at h⟩
  | n + 1, h => by
    obtain ⟨l, hl, hR⟩ := list_of8 n (fun i hi => h i (by omega))
    obtain ⟨x, hx⟩ := h n (by omega)
    refine ⟨l ++ [x], by simp [hl], fun i hi => ?_⟩
    rw [List.length_append, List.length_singleton] at hi
    by_cases hlt : i < l.length
    · rw [List.getElem_append_left hlt]; exact hR i hlt
    · obtain rfl : i = l.length := by omega
      rw [List.getElem_append_right (Nat.le_refl _)]
      simp only [Nat.sub_self, List.getElem_cons_zero]
      rw [hl]; exact hx

set_option maxRecDepth 100000 in
/-- A slice in a cell, opened: hel opens one element. -/
theorem open_row {H : Type} {enc : TypeId × Value → H} {W : World} {α : Type} {f : α → List Value} {k : Nat} {t e : TypeId} {Q : α → Prop} (hk : 0 < k) (hf : ∀ x, (f x).length = k)
    (ht : Try.prog.underlying t = some (.slice e)) (hc : Try.prog.cellsOf e = k)
    (hel0 : ∀ (n : Nat) (cs : List Value) (y : DataW H × List MemPlace), cs.length = k → DataW.trod enc Try.prog W 0 (fun _ => true) true n e cs = some y → ∃ x, cs = f x ∧ Q x)
    {n : Nat} {v : Value} {y : DataW H × List MemPlace} (h : DataW.trod enc Try.prog W 0 (fun _ => true) true n t [v] = some y) :
    ∃ A L c, v = .slice A (List.length L) c ∧ RdR k f W A L ∧ L.length ≤ 9223372036854775807 ∧ ∀ x ∈ L, Q x := by
  rcases DataW.trod_slice ht h with ⟨hcs, _⟩ | ⟨a, len, cap, elems, rest, m, _, hcs, _, _, hl, hm, hlen, hel, _, _⟩
  · obtain rfl : v = .slice none 0 0 := by simpa using hcs
    exact ⟨none, [], 0, rfl, RdR.nil, by simp, fun p hp => by cases hp⟩
  · obtain rfl : v = .slice (some a) len cap := by simpa using hcs
    rw [hc] at hel
    have hall : ∀ i, i < len → ∃ x : α, (∀ u z, (f x)[u]? = some z → W.cell? ((a.add (i * k)).add u) = some z) ∧ Q x := fun i hi => by
      have h1 := hel i hi
      rw [List.getElem?_eq_getElem (by omega)] at h1
      cases hcc : W.cells? 0 (a.add (i * k)) k with
      | none => rw [hcc] at h1; cases h1
      | some cs =>
        rw [hcc] at h1
        have h2 : DataW.trod enc Try.prog W 0 (fun _ => true) true m e cs = some elems[i] := h1
        obtain ⟨_, hcl, hcell⟩ := World.cells?_some hcc
        obtain ⟨x, rfl, hq⟩ := hel0 m cs _ hcl h2
        refine ⟨x, fun u z hz => ?_, hq⟩
        have hu : u < k := by rw [← hf x]; exact (List.getElem?_eq_some_iff.1 hz).1
        have := hcell u hu
        rw [this]; exact hz
    obtain ⟨L, hbl, hR⟩ := list_of8 len hall
    refine ⟨some a, L, cap, by rw [hbl], fun hne => ?_, by rw [hbl]; unfold maxLen at hm; omega, fun p hp => ?_⟩
    · have hpos : 0 < L.length := List.length_pos_iff.2 hne
      obtain ⟨b, off, spot⟩ := a
      have h0 : 0 < (f L[0]).length := by rw [hf]; exact hk
      have hspot : spot = none := by
        have := (hR 0 hpos).1 0 (f L[0])[0] (List.getElem?_eq_getElem h0)
        simpa [Addr.add] using World.cell?_spot this
      subst hspot
      refine ⟨b, off, rfl, fun j hj i u hu => ?_⟩
      have g0 := (hR j hj).1 i u hu
      rw [Go.WideShapes.add_plain] at g0
      rw [Go.WideShapes.add_plain] at g0
      exact g0
    · obtain ⟨i, hi, rfl⟩ := List.getElem_of_mem hp
      exact (hR i hi).2

theorem cellsStr8 : Try.prog.cellsOf 9 = 1 := by kernel_rfl
theorem cellsInt8 : Try.prog.cellsOf 3 = 1 := by kernel_rfl
set_option maxRecDepth 100000 in
theorem open_str8 {H : Type} {enc : TypeId × Value → H} {W : World} (n : Nat) (cs : List Value) (y : DataW H × List MemPlace) (_ : cs.length = 1) (h : DataW.trod enc Try.prog W 0 (fun _ => true) true n 9 cs = some y) :
    ∃ s : ByteArray, cs = fSt s ∧ s.size ≤ 9223372036854775807 := by
  obtain ⟨s, rfl, _, hw⟩ := DataW.trod_string Try.underlying9 h
  exact ⟨s, rfl, by unfold maxLen at hw; omega⟩
end Go.Proofs.Ytgakklanboabjaa
