/-
  FnAppended walked over the program's own contracts.
-/
import Derived.Test.YthbjcipdneminaaGreatDoorGR
import Derived.Test.YthbjcipdneminaaGreatDoorGS
import Derived.Test.YthbjcipdneminaaGreatDoorYF
namespace Go.Proofs.YthbjcipdneminaaGreatDoor
open Go.RowKit

theorem drew_in {w w' : World} {v1 v2 : Value} {ss : List ByteArray} {ps : List (Int × ByteArray)} (h : Drew9 w w' v1 v2 ss ps) : ∃ A B ca cb, v1 = .slice A ss.length ca ∧ v2 = .slice B ps.length cb ∧ DiskIn w' A B ss ps ∧ Lies9 A ca ∧ Lies9 B cb ∧ (ss.length ≤ 12 ∧ ps.length ≤ 41) ∧ Below w.heap.size w w' := by
  obtain ⟨A, B, ca, cb, e1, e2, hA, hB, hlA, hlB⟩ := lies1 h.own
  have h1 := h.len
  have h2 := h.len2
  exact ⟨A, B, ca, cb, e1, e2, ⟨hA, hB, by omega, by omega, fun s hs => by have := h.size s hs; omega, fun p hp => by have := h.size2 p hp; omega⟩, hlA, hlB, ⟨by omega, h2⟩, h.below⟩
/-- The orders of a region that draws meet: an append's result in a box of its own. -/
theorem wp_meet_ap {P : Program} {c : Code} {Q : Exit → Act → World → Prop} {a : Act} {w : World} (R : Nat → Option Addr → Nat → Option Addr → Nat → World → Prop) (A : Nat → Option Addr → Nat → Option Addr → Nat → Act)
    (hreg : c.wp P (fun e a' w' => e = .normal ∧ ∃ Y A7 k7 E7 j7, a' = A Y A7 k7 E7 j7 ∧ R Y A7 k7 E7 j7 w') a w) (himp : ∀ Y A7 k7 E7 j7 w', R Y A7 k7 E7 j7 w' → Q .normal (A Y A7 k7 E7 j7) w') : c.wp P Q a w :=
  Code.wp_mono (fun e a' w' ⟨h1, Y, A7, k7, E7, j7, h2, h3⟩ => by rw [h1, h2]; exact himp _ _ _ _ _ _ h3) hreg
theorem nn_le (ss : List ByteArray) (ps : List (Int × ByteArray)) : nnI ss ps ≤ 13 := by
  unfold nnI; split
  · have := lgI_len ss ps; omega
  · omega
theorem keepB {w w' : World} {a b : Addr} {x y : Value} (hb : Below w.heap.size w w') (h1 : w.cell? a = some x) (h2 : w.cell? b = some y) : w'.cell? a = some x ∧ w'.cell? b = some y ∧ Below w.heap.size w w' :=
  ⟨(hb.cell (World.block_lt_of_cell? _ _ h1)).trans h1, (hb.cell (World.block_lt_of_cell? _ _ h2)).trans h2, hb⟩
theorem keep1 {w w' : World} {a : Addr} {x : Value} (hb : Below w.heap.size w w') (h1 : w.cell? a = some x) : w'.cell? a = some x ∧ Below w.heap.size w w' :=
  ⟨(hb.cell (World.block_lt_of_cell? _ _ h1)).trans h1, hb⟩
theorem below_set2 {n X : Nat} {w w' : World} (hb : Below n w w') (h : n ≤ X) (a b : Value) : Below n w ((w'.setCell ⟨X, 0, none⟩ a).setCell ⟨X, 1, none⟩ b) := (hb.setCell h _).setCell h _
theorem put_ap {w w7 : World} {base : Nat} {A7 E7 : Option Addr} {k7 j7 : Nat} {S : List ByteArray} {Q : List (Int × ByteArray)} (z7 : w7.heap[w.heap.size]? = some (.cells #[.slice none 0 0, .slice none 0 0] 26 (0, 0)))
    (ho : OwnD w7 base (.slice A7 S.length k7) (.slice E7 Q.length j7) S Q) (hb : Below w.heap.size w w7) (hlt : w.heap.size < base) :
    ((w7.setCell ⟨w.heap.size, 0, none⟩ (.slice A7 S.length k7)).setCell ⟨w.heap.size, 1, none⟩ (.slice E7 Q.length j7)).heap[w.heap.size]? = some (.cells #[.slice A7 S.length k7, .slice E7 Q.length j7] 26 (0, 0)) ∧ Strs ((w7.setCell ⟨w.heap.size, 0, none⟩ (.slice A7 S.length k7)).setCell ⟨w.heap.size, 1, none⟩ (.slice E7 Q.length j7)) A7 S ∧ Puts ((w7.setCell ⟨w.heap.size, 0, none⟩ (.slice A7 S.length k7)).setCell ⟨w.heap.size, 1, none⟩ (.slice E7 Q.length j7)) E7 Q ∧ Below w.heap.size w ((w7.setCell ⟨w.heap.size, 0, none⟩ (.slice A7 S.length k7)).setCell ⟨w.heap.size, 1, none⟩ (.slice E7 Q.length j7)) :=
  ⟨heap_setCell_same _ _ 1 _ _ _ (heap_setCell_same _ _ 0 _ _ _ z7), OwnR.rd fSt_len ((ho.sure.cur hlt (gSet9 _ _ _ _)).cur hlt (gSet9 _ _ _ _)), OwnR.rd fPu_len ((ho.later.cur hlt (gSet9 _ _ _ _)).cur hlt (gSet9 _ _ _ _)), below_set2 hb (Nat.le_refl _) _ _⟩
theorem log_at {w : World} {A : Option Addr} {L R : List Rec} {r : Rec} (h : RdR 4 fRe w A (L ++ r :: R)) : ∃ b o, A = some ⟨b, o, none⟩ ∧ w.cell? ⟨b, o + L.length * 4 + 2, none⟩ = some (.int .i64 r.2.2.1) := by
  obtain ⟨b, o, e, -, -, h2, -⟩ := Re_at h (j := L.length) (by simp)
  exact ⟨b, o, e, by simpa using h2⟩
end Go.Proofs.YthbjcipdneminaaGreatDoor
