/-
  An argument that is a slice of letters or of points (structs of two integers), opened.
-/
import Derived.Test.YtjifpedhncgieaaL1
import Derived.Test.YtjifpedhncgieaaJI
import Derived.Lib.SmallJoins
namespace Go.Proofs.Ytjifpedhncgieaa
open Go.ChangeShapes Go.WideShapes Go.ChangeAt Go.RowKit

theorem list_of6 {α : Type} {R : Nat → α → Prop} : ∀ (n : Nat), (∀ i, i < n → ∃ x, R i x) → ∃ l : List α, l.length = n ∧ ∀ i (h : i < l.length), R i l[i]
  | 0, _ => ⟨[], rfl, fun i h => by simp at h⟩
  | n + 1, h => by
    obtain ⟨l, hl, hR⟩ := list_of6 n (fun i hi => h i (by omega))
    obtain ⟨x, hx⟩ := h n (by omega)
    refine ⟨l ++ [x], by simp [hl], fun i hi => ?_⟩
    rw [List.length_append, List.length_singleton] at hi
    by_cases hlt : i < l.length
    · rw [List.getElem_append_left hlt]; exact hR i hlt
    · obtain rfl : i = l.length := by omega
      rw [List.getElem_append_right (Nat.le_refl _)]
      simp only [Nat.sub_self, List.getElem_cons_zero]
      rw [hl]; exact hx

theorem cellsInt6 : Try.prog.cellsOf 3 = 1 := by kernel_rfl
theorem cellsPoint : Try.prog.cellsOf 74 = 2 := by kernel_rfl
set_option maxRecDepth 100000 in
theorem open_points {H : Type} {enc : TypeId × Value → H} {W : World} {base : Nat} {v : Value} {d : DataW H} {p : List MemPlace}
    (hv : Value.okWide Try.prog W .any base 49 v) (h : DataW.Trod enc Try.prog W 0 (fun _ => true) true 49 v d p) :
    ∃ A ls c, v = .slice A (List.length ls) c ∧ Lets W A ls ∧ ls.length ≤ 9223372036854775807 := by
  obtain ⟨a0, len, cap, rfl⟩ := okWide_slice Try.underlying49 hv
  obtain ⟨fuel, hf⟩ := h
  rcases DataW.trod_slice Try.underlying49 hf with ⟨hcs, _⟩ | ⟨a, len', cap', elems, rest, n, _, hcs, _, _, hl, hm, hlen, hel, _, _⟩
  · simp [Value.cells] at hcs
    obtain ⟨rfl, rfl, rfl⟩ := hcs
    exact ⟨none, [], 0, rfl, fun h => absurd rfl h, by simp⟩
  · simp [Value.cells] at hcs
    obtain ⟨rfl, rfl, rfl⟩ := hcs
    rw [cellsPoint] at hel
    have hall : ∀ i, i < len → ∃ q : Int × Int, W.cell? (a.add (i * 2)) = some (.int .i64 q.1) ∧ W.cell? ((a.add (i * 2)).add 1) = some (.int .i64 q.2) := fun i hi => by
      have h1 := hel i hi
      rw [List.getElem?_eq_getElem (by omega)] at h1
      cases hc : W.cells? 0 (a.add (i * 2)) 2 with
      | none => rw [hc] at h1; cases h1
      | some cs =>
        rw [hc] at h1
        have h2 : DataW.trod enc Try.prog W 0 (fun _ => true) true n 74 cs = some elems[i] := h1
        obtain ⟨_, hcl, hcell⟩ := World.cells?_some hc
        obtain ⟨y0, y1, m, _, _, h30, h31⟩ := trod_struct2 Try.underlying74 h2
        obtain ⟨c0, c1, rfl⟩ : ∃ c0 c1, cs = [c0, c1] := by
          match cs, hcl with
          | [c0, c1], _ => exact ⟨c0, c1, rfl⟩
        have k0 : DataW.trod enc Try.prog W 0 (fun _ => true) true m 3 [c0] = some y0 := by simpa [cellsInt6] using h30
        have k1 : DataW.trod enc Try.prog W 0 (fun _ => true) true m 3 [c1] = some y1 := by simpa [cellsInt6] using h31
        obtain ⟨x, hx, _⟩ := DataW.trod_int Try.underlying3 k0
        obtain rfl : c0 = .int .i64 x := by simpa using hx
        obtain ⟨x1, hx1, _⟩ := DataW.trod_int Try.underlying3 k1
        obtain rfl : c1 = .int .i64 x1 := by simpa using hx1
        have e0 := hcell 0 (by omega)
        have e1 := hcell 1 (by omega)
        exact ⟨(x, x1), by simpa [Addr.add] using e0, by simpa using e1⟩
    obtain ⟨bs, hbl, hR⟩ := list_of6 len hall
    refine ⟨some a, bs, cap, by rw [hbl], fun hne => ?_, by rw [hbl]; unfold maxLen at hm; omega⟩
    have hpos : 0 < bs.length := List.length_pos_iff.2 hne
    obtain ⟨b, off, spot⟩ := a
    have hspot : spot = none := by
      have := (hR 0 hpos).1
      simpa [Addr.add] using World.cell?_spot this
    subst hspot
    refine ⟨b, off, rfl, fun j hj => ?_⟩
    obtain ⟨g0, g1⟩ := hR j hj
    rw [Go.WideShapes.add_plain] at g0 g1
    rw [Go.WideShapes.add_plain] at g1
    exact ⟨g0, g1⟩
end Go.Proofs.Ytjifpedhncgieaa
