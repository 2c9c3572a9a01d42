/-
  The program's chapter 4: blockOf.
-/
import Derived.Test.YthabkkboodhbmaaI1
import Derived.Test.YthabkkboodhbmaaJC
import Derived.ArgAppend
namespace Go.Proofs.Ythabkkboodhbmaa
open Go.RowKit

set_option maxRecDepth 100000 in
set_option maxHeartbeats 1000000 in
theorem iBlockOf (g o ca : Nat) (ps : List Int) (left : Nat) (w : World) (ha : Ints w (some ⟨g, o, none⟩) ps) (h1 : 1 ≤ ps.length) (hl : ps.length ≤ 24) (hca : ps.length ≤ ca) :
    Calls Try.prog 44 #[.slice (some ⟨g, o, none⟩) ps.length ca, .int .i64 left] w fun e w' => ∃ v, e = .returned (blkV (min left (4 * ps.length) : Nat) v) ∧ Own w' w.heap.size v ps ∧ Below w.heap.size w w' := by
  obtain ⟨i0, hi, hz0, hz1, hz2⟩ := info_parts intInfo
  have hA := ha.jAlloc (.cells #[.int .i64 0, .slice none 0 0] 34)
  have HNw : Hid (∀ i u, (ps.map (Value.int .i64))[i]? = some u → (w.alloc (.cells #[.int .i64 0, .slice none 0 0] 34)).cell? ((⟨g, o, none⟩ : Addr).add i) = some u) := by
    intro i u hu
    rw [List.getElem?_map] at hu
    have him : i < ps.length := by
      rcases Nat.lt_or_ge i ps.length with h | h
      · exact h
      · rw [List.getElem?_eq_none h] at hu; cases hu
    obtain ⟨b', o', e', hc'⟩ := hA (by rintro rfl; simp at h1)
    injection e' with e'
    injection e' with e1 e2
    subst e1; subst e2
    have := hc' i him
    rw [show (⟨g, o, none⟩ : Addr).add i = ⟨g, o + i, none⟩ by unfold Addr.add; split <;> simp_all, this]
    rw [List.getElem?_eq_getElem him] at hu
    simpa [List.getD, him] using hu
  clear ha hA
  go_enter Try.func44, Try.ntmps44
  go_wp2_with (at_builtin; (refine wpList_append_grows _ rfl _ _ 32 rfl 3 i0 (.int .i64 0) 1 8 Try.underlying32 hi hz0 hz1 hz2 rfl (by decide) (some ⟨g, o, none⟩) 0 0 [] rfl (by intro h; cases h) rfl ?l1 ⟨g, o, none⟩ ps.length ca (ps.map (Value.int .i64)) rfl ?l2 HNw.out ?l3 ?l4 ?l5 ?l6 ?_))
  case l1 => intro b _ j u hu; simp at hu
  case l2 => simp
  case l3 => intro u hu; obtain ⟨z, _, rfl⟩ := List.mem_map.1 hu; rfl
  case l4 => omega
  case l5 => unfold maxLen; omega
  case l6 => omega
  · intro v' w2 hown' hgrow
    have hW : (w.alloc (.cells #[.int .i64 0, .slice none 0 0] 34)).heap.size = w.heap.size + 1 := by simp
    have hb2 : Below (w.heap.size + 1) (w.alloc (.cells #[.int .i64 0, .slice none 0 0] 34)) w2 := (Below.refl _ _).grown hgrow (by rw [hW]; exact Nat.le_refl _) (by simp)
    have hO : Own w2 (w.heap.size + 1) v' ps := hown'
    have h2 : w2.heap[w.heap.size]? = some (.cells #[.int .i64 0, .slice none 0 0] 34 (0, 0)) := by
      rw [hb2.block _ (by omega)]
      exact heap_alloc_new _ _
    have hbel : Below w.heap.size w w2 := by
      have h0 := (Below.refl w.heap.size w).alloc (Nat.le_refl _) (.cells #[.int .i64 0, .slice none 0 0] 34)
      exact h0.trans ⟨hb2.os, hb2.tape, hb2.output, hb2.size, fun k hk => hb2.block k (by omega)⟩
    have hd0 : w2.cell? ⟨w.heap.size, 0, none⟩ = some (.int .i64 0) := cell_of_row w2 _ 0 _ _ _ h2
    have hd1 : w2.cell? ⟨w.heap.size, 1, none⟩ = some (.slice none 0 0) := cell_of_row w2 _ 1 _ _ _ h2
    have hg0 := frozen_of_row w2 _ 0 _ _ h2
    have hg1 := frozen_of_row w2 _ 1 _ _ h2
    obtain ⟨B, c1, rfl, _⟩ := hO.form
    have H2 := Lib.hid h2
    have HO := Lib.hid hO
    have HB := Lib.hid hbel
    have HFin : Hid (∀ (x : Int), ((min left (4 * ps.length) : Nat) : Int) = x → ∀ a : Act, a.tmps.getD 4 undef = .pointer (some ⟨w.heap.size, 0, none⟩) → a.defers = [] →
        bodyPost Try.prog Try.f44 (fun e w' => ∃ v, e = .returned (blkV (min left (4 * ps.length) : Nat) v) ∧ Own w' w.heap.size v ps ∧ Below w.heap.size w w') .ret a ((w2.setCell ⟨w.heap.size, 0, none⟩ (.int .i64 x)).setCell ⟨w.heap.size, 1, none⟩ (.slice B ps.length c1))) := fun x hx a hp hd => by
      have hgo : ((w2.setCell ⟨w.heap.size, 0, none⟩ (.int .i64 x)).setCell ⟨w.heap.size, 1, none⟩ (.slice B ps.length c1)).heap[w.heap.size]? = some (.cells #[.int .i64 x, .slice B ps.length c1] 34 (0, 0)) :=
        heap_setCell_same _ _ 1 _ _ _ (heap_setCell_same _ _ 0 _ _ _ H2.out)
      refine ret_blk rfl w.heap.size x _ hp hgo hd ?_
      have o1 := HO.out.cur (Nat.lt_succ_self _) (jSet w2 ⟨w.heap.size, 0, none⟩ (.int .i64 x))
      have o2 := o1.cur (Nat.lt_succ_self _) (jSet _ ⟨w.heap.size, 1, none⟩ (.slice B ps.length c1))
      rw [hx]
      exact ⟨_, rfl, o2.lower (by omega), (HB.out.setCell (Nat.le_refl _) _).setCell (Nat.le_refl _) _⟩
    clear hown' hgrow hW hb2 hO h2 hbel HNw
    go_wp2_with fail
    · exact HFin.out _ (by omega) _ rfl rfl
    · exact HFin.out _ (by omega) _ rfl rfl
end Go.Proofs.Ythabkkboodhbmaa
