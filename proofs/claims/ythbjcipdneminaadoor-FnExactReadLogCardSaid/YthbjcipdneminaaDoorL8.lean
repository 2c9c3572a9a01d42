/-
  An argument that is a slice of elements of k cells each, whatever they are (strings, writes), and one that is a disk, opened.
-/
import Derived.Test.YthbjcipdneminaaDoorL2
import Derived.Test.YthbjcipdneminaaDoorRD
import Derived.Lib.SmallJoins
namespace Go.Proofs.YthbjcipdneminaaDoor
open Go.ChangeShapes Go.WideShapes Go.ChangeAt Go.RowKit

theorem list_of8 {α : Type} {R : Nat → α → Prop} : ∀ (n : Nat), (∀ i, i < n → ∃ x, R i x) → ∃ l : List α, l.length = n ∧ ∀ i (h : i < l.length), R i l[i]
  | 0, _ => ⟨[], rfl, fun i h => by simp at h⟩
  | n + 1, h => by
    obtain ⟨l, hl, hR⟩ := list_of8 n (fun i hi => h i (by omega))
    obtain ⟨x, hx⟩ := h n (by omega)
    refine ⟨l ++ [x], by simp [hl], fun i hi => ?_⟩
    rw [List.length_append, List.length_singleton] at hi
    by_cases hlt : i < l.length
    · rw [List.getElem_append_left hlt]; exact hR i hlt
    · obtain rfl : i = l.length := by omega
      rw [List.getElem_append_right (Nat.le_refl _)]
      simp only [Nat.sub_self, List.getElem_cons_zero]
      rw [hl]; exact hx

set_option maxRecDepth 100000 in
/-- A slice in a cell, opened: hel opens one element. -/
theorem open_row {H : Type} {enc : TypeId × Value → H} {W : World} {α : Type} {f : α → List Value} {k : Nat} {t e : TypeId} {Q : α → Prop} (hk : 0 < k) (hf : ∀ x, (f x).length = k)
    (ht : Tryd.prog.underlying t = some (.slice e)) (hc : Tryd.prog.cellsOf e = k)
    (hel0 : ∀ (n : Nat) (cs : List Value) (y : DataW H × List MemPlace), cs.length = k → DataW.trod enc Tryd.prog W 0 (fun _ => true) true n e cs = some y → ∃ x, cs = f x ∧ Q x)
    {n : Nat} {v : Value} {y : DataW H × List MemPlace} (h : DataW.trod enc Tryd.prog W 0 (fun _ => true) true n t [v] = some y) :
    ∃ A L c, v = .slice A (List.length L) c ∧ RdR k f W A L ∧ L.length ≤ 9223372036854775807 ∧ ∀ x ∈ L, Q x := by
  rcases DataW.trod_slice ht h with ⟨hcs, _⟩ | ⟨a, len, cap, elems, rest, m, _, hcs, _, _, hl, hm, hlen, hel, _, _⟩
  · obtain rfl : v = .slice none 0 0 := by simpa using hcs
    exact ⟨none, [], 0, rfl, RdR.nil, by simp, fun p hp => by cases hp⟩
  · obtain rfl : v = .slice (some a) len cap := by simpa using hcs
    rw [hc] at hel
    have hall : ∀ i, i < len → ∃ x : α, (∀ u z, (f x)[u]? = some z → W.cell? ((a.add (i * k)).add u) = some z) ∧ Q x := fun i hi => by
      have h1 := hel i hi
      rw [List.getElem?_eq_getElem (by omega)] at h1
      cases hcc : W.cells? 0 (a.add (i * k)) k with
      | none => rw [hcc] at h1; cases h1
      | some cs =>
        rw [hcc] at h1
        have h2 : DataW.trod enc Tryd.prog W 0 (fun _ => true) true m e cs = some elems[i] := h1
        obtain ⟨_, hcl, hcell⟩ := World.cells?_some hcc
        obtain ⟨x, rfl, hq⟩ := hel0 m cs _ hcl h2
        refine ⟨x, fun u z hz => ?_, hq⟩
        have hu : u < k := by rw [← hf x]; exact (List.getElem?_eq_some_iff.1 hz).1
        have := hcell u hu
        rw [this]; exact hz
    obtain ⟨L, hbl, hR⟩ := list_of8 len hall
    refine ⟨some a, L, cap, by rw [hbl], fun hne => ?_, by rw [hbl]; unfold maxLen at hm; omega, fun p hp => ?_⟩
    · have hpos : 0 < L.length := List.length_pos_iff.2 hne
      obtain ⟨b, off, spot⟩ := a
      have h0 : 0 < (f L[0]).length := by rw [hf]; exact hk
      have hspot : spot = none := by
        have := (hR 0 hpos).1 0 (f L[0])[0] (List.getElem?_eq_getElem h0)
        simpa [Addr.add] using World.cell?_spot this
      subst hspot
      refine ⟨b, off, rfl, fun j hj i u hu => ?_⟩
      have g0 := (hR j hj).1 i u hu
      rw [Go.WideShapes.add_plain] at g0
      rw [Go.WideShapes.add_plain] at g0
      exact g0
    · obtain ⟨i, hi, rfl⟩ := List.getElem_of_mem hp
      exact (hR i hi).2

theorem cellsStr8 : Tryd.prog.cellsOf 9 = 1 := by kernel_rfl
theorem cellsInt8 : Tryd.prog.cellsOf 3 = 1 := by kernel_rfl
theorem cellsPut8 : Tryd.prog.cellsOf 105 = 2 := by kernel_rfl
theorem cellsDisk8 : Tryd.prog.cellsOf 51 = 2 := by kernel_rfl
set_option maxRecDepth 100000 in
theorem open_str8 {H : Type} {enc : TypeId × Value → H} {W : World} (n : Nat) (cs : List Value) (y : DataW H × List MemPlace) (_ : cs.length = 1) (h : DataW.trod enc Tryd.prog W 0 (fun _ => true) true n 9 cs = some y) :
    ∃ s : ByteArray, cs = fSt s ∧ s.size ≤ 9223372036854775807 := by
  obtain ⟨s, rfl, _, hw⟩ := DataW.trod_string Tryd.underlying9 h
  exact ⟨s, rfl, by unfold maxLen at hw; omega⟩
set_option maxRecDepth 100000 in
theorem open_put8 {H : Type} {enc : TypeId × Value → H} {W : World} (n : Nat) (cs : List Value) (y : DataW H × List MemPlace) (hl : cs.length = 2) (h : DataW.trod enc Tryd.prog W 0 (fun _ => true) true n 105 cs = some y) :
    ∃ p : Int × ByteArray, cs = fPu p ∧ p.2.size ≤ 9223372036854775807 := by
  obtain ⟨y0, y1, m, _, _, h30, h31⟩ := trod_struct2 Tryd.underlying105 h
  obtain ⟨c0, c1, rfl⟩ : ∃ c0 c1, cs = [c0, c1] := by
    match cs, hl with
    | [c0, c1], _ => exact ⟨c0, c1, rfl⟩
  have k0 : DataW.trod enc Tryd.prog W 0 (fun _ => true) true m 3 [c0] = some y0 := by simpa [cellsInt8] using h30
  have k1 : DataW.trod enc Tryd.prog W 0 (fun _ => true) true m 9 [c1] = some y1 := by simpa [cellsInt8, cellsStr8] using h31
  obtain ⟨x, hx, _⟩ := DataW.trod_int Tryd.underlying3 k0
  obtain rfl : c0 = .int .i64 x := by simpa using hx
  obtain ⟨s, hs, _, hw⟩ := DataW.trod_string Tryd.underlying9 k1
  obtain rfl : c1 = .string s := by simpa using hs
  exact ⟨(x, s), rfl, by unfold maxLen at hw; show s.size ≤ _; omega⟩
set_option maxRecDepth 100000 in
theorem open_disk {H : Type} {enc : TypeId × Value → H} {W : World} {base : Nat} {v : Value} {d : DataW H} {p : List MemPlace}
    (hv : Value.okWide Tryd.prog W .any base 51 v) (h : DataW.Trod enc Tryd.prog W 0 (fun _ => true) true 51 v d p) :
    ∃ A B ss ps ca cb, v = diskV (.slice A (List.length ss) ca) (.slice B (List.length ps) cb) ∧ Strs W A ss ∧ Puts W B ps ∧ ss.length ≤ 9223372036854775807 ∧ (∀ s ∈ ss, s.size ≤ 9223372036854775807) ∧ ps.length ≤ 9223372036854775807 ∧ ∀ p ∈ ps, p.2.size ≤ 9223372036854775807 := by
  obtain ⟨v0, v1, y0, y1, n, rfl, _, _, h0, h1⟩ := Go.Joins.open_agg2 Tryd.underlying51 (by kernel_rfl) cellsDisk8 hv h
  obtain ⟨A, ss, ca, rfl, hA, hl, hz⟩ := open_row (by decide) fSt_len Tryd.underlying23 cellsStr8 open_str8 h0
  obtain ⟨B, ps, cb, rfl, hB, hl2, hz2⟩ := open_row (by decide) fPu_len Tryd.underlying49 cellsPut8 open_put8 h1
  exact ⟨A, B, ss, ps, ca, cb, rfl, hA, hB, hl, hz, hl2, hz2⟩
end Go.Proofs.YthbjcipdneminaaDoor
