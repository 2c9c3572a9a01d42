/-
  Plain mathematics: rank over two elements: how many rows elimination leaves; how many numbers a span has; the null space.
-/
import Derived.Test.YtjaeahobmamhoaaDoorG2
import Derived.Test.YtjaeahobmamhoaaDoorM1
namespace Go.Proofs.YtjaeahobmamhoaaDoor

def rank (rows : List Nat) : Nat := (steps rows).length

/-- The tops of an echelon list fall strictly. -/
theorem Ech.tops {l : List Nat} (h : Ech l) : (l.map Nat.log2).Pairwise (· > ·) := by
  induction l with
  | nil => exact List.Pairwise.nil
  | cons t l ih =>
    obtain ⟨ht, hlt, hl⟩ := h
    refine List.pairwise_cons.2 ⟨fun k hk => ?_, ih hl⟩
    obtain ⟨s, hs, rfl⟩ := List.mem_map.1 hk
    have h1 := hlt s hs
    have h2 := Nat.log2_self_le (hl.ne s hs)
    rcases Nat.lt_or_ge s.log2 t.log2 with h | h
    · exact h
    · have := Nat.pow_le_pow_right (n := 2) (by decide) h; omega

theorem falling_length : ∀ {a b : List Nat}, a.Pairwise (· > ·) → b.Pairwise (· > ·) → (∀ x ∈ a, x ∈ b) → a.length ≤ b.length
  | [], _, _, _, _ => by simp
  | x :: a, [], _, _, h => by have := h x (by simp); cases this
  | x :: a, y :: b, ha, hb, h => by
    rw [List.pairwise_cons] at ha hb
    by_cases e : x = y
    · subst e
      have := falling_length ha.2 hb.2 (fun z hz => by
        rcases List.mem_cons.1 (h z (by simp [hz])) with e | hz'
        · have := ha.1 z hz; omega
        · exact hz')
      simp; omega
    · have := falling_length (a := x :: a) (List.pairwise_cons.2 ha) hb.2 (fun z hz => by
        rcases List.mem_cons.1 (h z hz) with e' | hz'
        · exfalso
          rcases List.mem_cons.1 hz with e'' | hz''
          · exact e (e''.symm.trans e')
          · have h1 := ha.1 z hz''
            rcases List.mem_cons.1 (h x (by simp)) with e3 | h3
            · exact e e3
            · have := hb.1 x h3; omega
        · exact hz')
      simp at this ⊢; omega

/-- A greater span has no lesser rank. -/
theorem rank_mono {a b : List Nat} (h : ∀ r ∈ a, Sp b r) : rank a ≤ rank b := by
  have ha := (steps_rref a).1
  have hb := (steps_rref b).1
  have := falling_length ha.tops hb.tops (fun k hk => by
    obtain ⟨s, hs, rfl⟩ := List.mem_map.1 hk
    have h1 : Sp (steps b) s := (steps_sp b s).2 (Sp.mono h ((steps_sp a s).1 (Sp.mem hs)))
    obtain ⟨t, ht, e⟩ := hb.top h1 (ha.ne s hs)
    exact List.mem_map.2 ⟨t, ht, e⟩)
  simpa [rank] using this

theorem putR_length {r : Nat} : ∀ (l : List Nat), (putR r l).length = l.length + 1
  | [] => rfl
  | s :: l => by
    rw [putR]; split
    · simp
    · simp [putR_length l]
theorem ins_length (out : List Nat) (r : Nat) : (ins out r).length ≤ out.length + 1 := by
  unfold ins; split
  · omega
  · rw [putR_length]; exact Nat.le_refl _
theorem fold_length : ∀ (rows : List Nat) (out : List Nat), (rows.foldl ins out).length ≤ out.length + rows.length
  | [], out => by simp
  | r :: rows, out => by
    have h1 := fold_length rows (ins out r)
    have h2 := ins_length out r
    simp only [List.foldl_cons, List.length_cons]; omega
theorem rank_le_length (rows : List Nat) : rank rows ≤ rows.length := by
  have := fold_length rows []
  simpa [rank, steps] using this

/-- Rows each of which is no sum of those ahead of it keep their number. -/
def Indep : List Nat → List Nat → Prop
  | _, [] => True
  | front, r :: l => ¬ Sp front r ∧ Indep (r :: front) l
theorem fold_indep : ∀ (rows : List Nat) {out front : List Nat}, Rref out → (∀ x, Sp out x ↔ Sp front x) → Indep front rows → (rows.foldl ins out).length = out.length + rows.length
  | [], out, front, _, _, _ => by simp
  | r :: rows, out, front, h, hs, ⟨h1, h2⟩ => by
    have h0 : red out r ≠ 0 := fun e => h1 ((hs r).1 ((sp_red_iff h).1 e))
    have hl : (ins out r).length = out.length + 1 := by unfold ins; rw [if_neg h0, putR_length]
    have := fold_indep rows (ins_rref h r) (fun x => by
      rw [ins_sp h r x]
      constructor
      · refine Sp.mono fun s hs' => ?_
        rcases List.mem_cons.1 hs' with rfl | hs'
        · exact Sp.mem (by simp)
        · exact Or.inl ((hs s).1 (Sp.mem hs'))
      · refine Sp.mono fun s hs' => ?_
        rcases List.mem_cons.1 hs' with rfl | hs'
        · exact Sp.mem (by simp)
        · exact Or.inl ((hs s).2 (Sp.mem hs'))) h2
    simp only [List.foldl_cons, List.length_cons, this, hl]; omega
theorem rank_indep {rows : List Nat} (h : Indep [] rows) : rank rows = rows.length := by
  have := fold_indep rows rref_nil (fun _ => Iff.rfl) h
  simpa [rank, steps] using this

/-- Rows below 2^w have no more than w steps. -/
theorem steps_lt {w : Nat} {rows : List Nat} (h : ∀ r ∈ rows, r < 2 ^ w) : ∀ s ∈ steps rows, s < 2 ^ w :=
  fun s hs => Sp.lt h ((steps_sp rows s).1 (Sp.mem hs))
theorem falling_bound : ∀ {a : List Nat} {w : Nat}, a.Pairwise (· > ·) → (∀ x ∈ a, x < w) → a.length ≤ w
  | [], _, _, _ => by simp
  | x :: a, w, h, hw => by
    rw [List.pairwise_cons] at h
    have := falling_bound h.2 h.1
    have := hw x (by simp)
    simp; omega
theorem log2_lt {x w : Nat} (h0 : x ≠ 0) (h : x < 2 ^ w) : x.log2 < w := by
  rcases Nat.lt_or_ge x.log2 w with h1 | h1
  · exact h1
  · have := Nat.pow_le_pow_right (n := 2) (by decide) h1
    have := Nat.log2_self_le h0; omega
theorem rank_le_width {w : Nat} {rows : List Nat} (h : ∀ r ∈ rows, r < 2 ^ w) : rank rows ≤ w := by
  have hr := (steps_rref rows).1
  have := falling_bound hr.tops (w := w) (fun k hk => by
    obtain ⟨s, hs, rfl⟩ := List.mem_map.1 hk
    exact log2_lt (hr.ne s hs) (steps_lt h s hs))
  simpa [rank] using this
end Go.Proofs.YtjaeahobmamhoaaDoor
