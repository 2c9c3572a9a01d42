/-
  Chapter 12's mathematics: who takes a lease as its own has it; a lease that is lent anew is believed by no elder holder.
-/
import Derived.Test.YthmnenejfonfgaaBD
import Derived.Test.YthmnenejfonfgaaBF
namespace Go.Proofs.Ythmnenejfonfgaa
open Go.RowKit

theorem good_cases {a u q : Int} (h : goodZB a u q = true) : (0 ≤ q ∧ q ≤ 1000) ∧ ((a = 0 ∧ u = 0) ∨ ((1 ≤ a ∧ a ≤ 9) ∧ (1 ≤ u ∧ u ≤ 10000))) := by
  simp [goodZB, inB] at h
  omega
theorem bl_held {a u q t : Int} (h : blB a u q t = true) : hdI a u q t = a ∧ a ≠ 0 := by
  have h1 : (goodZB a u q && ckB t) = true ∧ belB u t = true := by rw [blB] at h; simpa using h
  have h2 : goodZB a u q = true ∧ ckB t = true := by simpa using h1.1
  have h3 : t + 3 < u := by have := h1.2; rw [belB] at this; simpa using this
  have h4 : 0 ≤ t ∧ t ≤ 10000 := by have := h2.2; rw [ckB] at this; simpa [inB] using this
  have h5 := good_cases h2.1
  refine ⟨?_, by omega⟩
  rw [hdI, if_pos h1.1, heldL, if_pos (by omega)]
theorem sl_good {a u q k wh nw lg : Int} (h : slOk a u q k wh nw lg = true) : goodZB (slL a u q k wh nw lg).1 (slL a u q k wh nw lg).2.1 (slL a u q k wh nw lg).2.2 = true := by
  rw [slL, if_pos h]
  have h1 : goodZB a u q = true := by rw [slOk] at h; simp at h; exact h.1
  exact lz_good _ _ _ _ h1
/-- What a step leaves of a good lease, as FnLeases asks it. -/
theorem st_facts {t : Zac} (p : Zpc) (hg : goodZ t = true) :
    ¬ (stZl t p).2.2 < t.2.2 ∧ ¬ ((stZl t p).1 ≠ t.1 ∧ (stZl t p).1 > 0 ∧ (stZl t p).2.2 = t.2.2) ∧
    ((stZl t p).1 > 0 → t.1 > 0 → (stZl t p).1 ≠ t.1 → ckB p.2.2.1 = true ∧ t.2.1 ≤ max 0 (p.2.2.1 - 3)) := by
  obtain ⟨a, u, q⟩ := t
  obtain ⟨k, wh, nw, lg⟩ := p
  show ¬ (lzL a u q k wh nw lg).2.2 < q ∧ ¬ ((lzL a u q k wh nw lg).1 ≠ a ∧ (lzL a u q k wh nw lg).1 > 0 ∧ (lzL a u q k wh nw lg).2.2 = q) ∧
    ((lzL a u q k wh nw lg).1 > 0 → a > 0 → (lzL a u q k wh nw lg).1 ≠ a → ckB nw = true ∧ u ≤ max 0 (nw - 3))
  cases h : lzOk a u q k wh nw lg
  · rw [(lz_no h).1]
    exact ⟨Int.lt_irrefl _, fun h => h.1 rfl, fun _ _ h => absurd rfl h⟩
  · rw [(lz_yes h).1]
    have hc : (ckB nw = true ∧ inB wh 1 9 = true) ∧ lzMay a u k wh nw lg = true := by
      rw [lzOk] at h
      simp at h
      exact ⟨h.1, h.2.1⟩
    by_cases h1 : k = 1
    · subst h1
      rw [lzG1]
      refine ⟨by show ¬ q + 1 < q; omega, fun h => by have h9 : q + 1 = q := h.2.2; omega, fun _ ha _ => ⟨hc.1.1, ?_⟩⟩
      have h2 : askB a u nw lg = true := hc.2
      rw [askB, Bool.and_eq_true] at h2
      have h3 : ¬ 0 < heldL a u (max 0 (nw - 3)) := by simpa using h2.2
      rw [heldL] at h3
      by_cases hlt : max 0 (nw - 3) < u
      · rw [if_pos hlt] at h3; exact absurd ha h3
      · omega
    · by_cases h2 : k = 2
      · subst h2
        rw [lzG2]
        exact ⟨Int.lt_irrefl _, fun h => h.1 rfl, fun _ _ h => absurd rfl h⟩
      · have e : lzT a u q k wh nw lg = (0, 0, q) := by rw [lzT, if_neg h1, if_neg h2]
        rw [e]
        exact ⟨Int.lt_irrefl _, fun h => absurd h.2.1 (Int.lt_irrefl 0), fun h => absurd h (Int.lt_irrefl 0)⟩
/-- An elder holder takes the lease as its own no more, and the two do not overlap, at the hour at which it is lent anew. -/
theorem lent_anew {t x : Zac} {nw : Int} (ht : goodZ t = true) (hx : goodZ x = true) (hc : ckB nw = true) (h : t.2.1 ≤ max 0 (nw - 3)) :
    blB t.1 t.2.1 t.2.2 nw = false ∧ hdOkB t.1 t.2.1 t.2.2 nw = true ∧ ovOk [t, x] nw 3 = true ∧ ovB [t, x] nw 3 = false := by
  have hn : 0 ≤ nw ∧ nw ≤ 10000 := by have := hc; rw [ckB] at this; simpa [inB] using this
  have hb : belB t.2.1 nw = false := by simp [belB]; omega
  have hb2 : belB t.2.1 (max 0 (nw - 3)) = false := by simp [belB]; omega
  have ht' : goodZB t.1 t.2.1 t.2.2 = true := ht
  have ho : ovOk [t, x] nw 3 = true := by simp [ovOk, hc, ht, hx, inB]
  refine ⟨by rw [blB, hb]; simp, by rw [hdOkB, ht', hc]; rfl, ho, ?_⟩
  rw [ovB, ho]
  simp [moU, prB, hb2]
theorem plS_at : ∀ (l : List Zpc) (t : Zac) (i : Nat) (h : i + 1 < (plS t l).length) (hl : i + 1 < l.length), (plS t l)[i + 1] = stZl ((plS t l)[i]'(by omega)) l[i + 1]
  | [], _, _, h, _ => by simp [plS] at h
  | [x], _, _, _, hl => by simp at hl
  | x :: y :: r, t, 0, _, _ => rfl
  | x :: y :: r, t, i + 1, h, hl => plS_at (y :: r) (stZl t x) i (by simpa [plS] using h) (by simpa using hl)
theorem plS_good : ∀ (l : List Zpc) (t : Zac), goodZ t = true → ∀ x ∈ plS t l, goodZ x = true
  | [], _, _, x, hx => by simp [plS] at hx
  | y :: r, t, ht, x, hx => by
    rw [plS] at hx
    rcases List.mem_cons.1 hx with rfl | hx
    · exact stZl_good y ht
    · exact plS_good r _ (stZl_good y ht) x hx
theorem pl_good {l : List Zpc} (h : plOk l = true) : goodZ (plL l) = true := by
  rw [(pl_yes h).1]
  exact foldZ_good l _ rfl
end Go.Proofs.Ythmnenejfonfgaa
