/-
  An argument that is a slice of blocks (structs of an integer and a slice of integers), opened.
-/
import Derived.Test.YthabkkboodhbmaaL2
import Derived.Test.YthabkkboodhbmaaJ4
import Derived.Lib.SmallJoins
namespace Go.Proofs.Ythabkkboodhbmaa
open Go.ChangeShapes Go.WideShapes Go.ChangeAt Go.RowKit

theorem list_of {α : Type} {R : Nat → α → Prop} : ∀ (n : Nat), (∀ i, i < n → ∃ x, R i x) → ∃ l : List α, l.length = n ∧ ∀ i (h : i < l.length), R i l[i]
  | 0, _ => ⟨[], rfl, fun i h => by simp at h⟩
  | n + 1, h => by
    obtain ⟨l, hl, hR⟩ := list_of n (fun i hi => h i (by omega))
    obtain ⟨x, hx⟩ := h n (by omega)
    refine ⟨l ++ [x], by simp [hl], fun i hi => ?_⟩
    rw [List.length_append, List.length_singleton] at hi
    by_cases hlt : i < l.length
    · rw [List.getElem_append_left hlt]; exact hR i hlt
    · obtain rfl : i = l.length := by omega
      rw [List.getElem_append_right (Nat.le_refl _)]
      simp only [Nat.sub_self, List.getElem_cons_zero]
      rw [hl]; exact hx

theorem cellsBlock : Try.prog.cellsOf 80 = 2 := by kernel_rfl
/-- A slice of integers in a cell, opened. -/
theorem open_icell {H : Type} {enc : TypeId × Value → H} {W : World} {n : Nat} {v1 : Value} {y : DataW H × List MemPlace} (h1 : DataW.trod enc Try.prog W 0 (fun _ => true) true n 32 [v1] = some y) :
    ∃ A zs c, v1 = .slice A (List.length zs) c ∧ Ints W A zs ∧ zs.length ≤ 9223372036854775807 := by
  rcases open_ints Try.underlying32 Try.underlying3 cellsInt h1 with ⟨hcs, _⟩ | ⟨a, len, cap, zs, hcs, _, hl, hm, hz, _, hcell, hwz⟩
  · obtain rfl : v1 = .slice none 0 0 := by simpa using hcs
    exact ⟨none, [], 0, rfl, fun h => absurd rfl h, by simp⟩
  · obtain rfl : v1 = .slice (some a) len cap := by simpa using hcs
    simp only [if_true] at hz
    have hlen : (zs.take len).length = len := by simp; omega
    refine ⟨some a, zs.take len, cap, by rw [hlen], fun hne => ?_, by rw [hlen]; unfold maxLen at hm; omega⟩
    have hpos : 0 < len := by
      rcases Nat.eq_zero_or_pos len with h0 | h0
      · exact absurd (by rw [h0]; rfl) hne
      · exact h0
    obtain ⟨b, off, rfl, hc⟩ := ints_at hcell (by omega)
    refine ⟨b, off, rfl, fun j hj => ?_⟩
    rw [hc j (by omega)]
    have : j < len := by omega
    simp [List.getD, this]
theorem cellsISl : Try.prog.cellsOf 32 = 1 := by kernel_rfl
set_option maxRecDepth 100000 in
theorem open_blocks {H : Type} {enc : TypeId × Value → H} {W : World} {base : Nat} {v : Value} {d : DataW H} {p : List MemPlace}
    (hv : Value.okWide Try.prog W .any base 57 v) (h : DataW.Trod enc Try.prog W 0 (fun _ => true) true 57 v d p) :
    ∃ A bs c, v = .slice A (List.length bs) c ∧ Blks W A bs ∧ bs.length ≤ 9223372036854775807 ∧ ∀ p ∈ bs, p.2.length ≤ 9223372036854775807 := by
  obtain ⟨a0, len, cap, rfl⟩ := okWide_slice Try.underlying57 hv
  obtain ⟨fuel, hf⟩ := h
  rcases DataW.trod_slice Try.underlying57 hf with ⟨hcs, _⟩ | ⟨a, len', cap', elems, rest, n, _, hcs, _, _, hl, hm, hlen, hel, _, _⟩
  · simp [Value.cells] at hcs
    obtain ⟨rfl, rfl, rfl⟩ := hcs
    exact ⟨none, [], 0, rfl, fun h => absurd rfl h, by simp, fun p hp => by cases hp⟩
  · simp [Value.cells] at hcs
    obtain ⟨rfl, rfl, rfl⟩ := hcs
    rw [cellsBlock] at hel
    have hall : ∀ i, i < len → ∃ q : Int × List Int, W.cell? (a.add (i * 2)) = some (.int .i64 q.1) ∧ (∃ A' c', W.cell? ((a.add (i * 2)).add 1) = some (.slice A' q.2.length c') ∧ Ints W A' q.2) ∧ q.2.length ≤ 9223372036854775807 := fun i hi => by
      have h1 := hel i hi
      rw [List.getElem?_eq_getElem (by omega)] at h1
      cases hc : W.cells? 0 (a.add (i * 2)) 2 with
      | none => rw [hc] at h1; cases h1
      | some cs =>
        rw [hc] at h1
        have h2 : DataW.trod enc Try.prog W 0 (fun _ => true) true n 80 cs = some elems[i] := h1
        obtain ⟨_, hcl, hcell⟩ := World.cells?_some hc
        obtain ⟨y0, y1, m, _, _, h30, h31⟩ := trod_struct2 Try.underlying80 h2
        obtain ⟨c0, c1, rfl⟩ : ∃ c0 c1, cs = [c0, c1] := by
          match cs, hcl with
          | [c0, c1], _ => exact ⟨c0, c1, rfl⟩
        have k0 : DataW.trod enc Try.prog W 0 (fun _ => true) true m 3 [c0] = some y0 := by simpa [cellsInt] using h30
        have k1 : DataW.trod enc Try.prog W 0 (fun _ => true) true m 32 [c1] = some y1 := by simpa [cellsISl] using h31
        obtain ⟨x, hx, _⟩ := DataW.trod_int Try.underlying3 k0
        obtain rfl : c0 = .int .i64 x := by simpa using hx
        obtain ⟨A', zs, c', rfl, hI, hz⟩ := open_icell k1
        have e0 := hcell 0 (by omega)
        have e1 := hcell 1 (by omega)
        exact ⟨(x, zs), by simpa [Addr.add] using e0, ⟨A', c', by simpa using e1, hI⟩, hz⟩
    obtain ⟨bs, hbl, hR⟩ := list_of len hall
    refine ⟨some a, bs, cap, by rw [hbl], fun hne => ?_, by rw [hbl]; unfold maxLen at hm; omega, fun p hp => ?_⟩
    · have hpos : 0 < bs.length := List.length_pos_iff.2 hne
      obtain ⟨b, off, spot⟩ := a
      have hspot : spot = none := by
        have := (hR 0 hpos).1
        simpa [Addr.add] using World.cell?_spot this
      subst hspot
      refine ⟨b, off, rfl, fun j hj => ?_⟩
      obtain ⟨g0, ⟨A', c', g1, g2⟩, _⟩ := hR j hj
      rw [Go.WideShapes.add_plain] at g0 g1
      rw [Go.WideShapes.add_plain] at g1
      exact ⟨g0, A', c', g1, g2⟩
    · obtain ⟨i, hi, rfl⟩ := List.mem_iff_getElem.1 hp
      exact (hR i hi).2.2
end Go.Proofs.Ythabkkboodhbmaa
