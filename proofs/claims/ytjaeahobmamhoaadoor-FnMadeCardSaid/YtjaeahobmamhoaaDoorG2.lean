/-
  Plain mathematics: Gauss' elimination over two elements: rows brought to steps, one after another.
-/
import Derived.Test.YtjaeahobmamhoaaDoorG1
namespace Go.Proofs.YtjaeahobmamhoaaDoor

/-- r with the top bits of the rows struck, in their order. -/
def red : List Nat → Nat → Nat
  | [], r => r
  | s :: l, r => red l (if r.testBit s.log2 then r ^^^ s else r)
/-- s with r's top bit struck. -/
def clr (r s : Nat) : Nat := if s.testBit r.log2 then s ^^^ r else s
/-- r put in its place among the rows, its top bit struck from them. -/
def putR (r : Nat) : List Nat → List Nat
  | [] => [r]
  | s :: l => if clr r s < r then r :: clr r s :: l.map (clr r) else clr r s :: putR r l
def ins (out : List Nat) (r : Nat) : List Nat := if red out r = 0 then out else putR (red out r) out
def steps (rows : List Nat) : List Nat := rows.foldl ins []

theorem red_sp : ∀ (l : List Nat) (r : Nat), Sp l (r ^^^ red l r)
  | [], r => by show r ^^^ r = 0; exact Nat.xor_self r
  | s :: l, r => by
    simp only [red]
    split
    · right
      have := red_sp l (r ^^^ s)
      rwa [Nat.xor_assoc, Nat.xor_comm s, ← Nat.xor_assoc] at this
    · exact Or.inl (red_sp l r)

theorem red_keep {k : Nat} : ∀ (l : List Nat) (r : Nat), (∀ s ∈ l, s.testBit k = false) → (red l r).testBit k = r.testBit k
  | [], _, _ => rfl
  | s :: l, r, h => by
    rw [red, red_keep l _ (fun t ht => h t (by simp [ht]))]
    split
    · rw [Nat.testBit_xor, h s (by simp)]; simp
    · rfl

theorem red_clear : ∀ (l : List Nat) (r : Nat), Rref l → ∀ s ∈ l, (red l r).testBit s.log2 = false
  | [], _, _, s, hs => by cases hs
  | t :: l, r, h, s, hs => by
    obtain ⟨⟨ht, hlt, hl⟩, hr⟩ := h
    have hl' : Rref l := ⟨hl, fun a ha b hb => hr a (by simp [ha]) b (by simp [hb])⟩
    rcases List.mem_cons.1 hs with rfl | hs
    · rw [red, red_keep l _ (fun u hu => bit_of_lt (hlt u hu))]
      split
      · rename_i hb
        rw [Nat.testBit_xor, hb, log2_bit ht]; rfl
      · rename_i hb; simpa using hb
    · rw [red]; exact red_clear l _ hl' s hs

theorem sp_red_iff {l : List Nat} {r : Nat} (h : Rref l) : red l r = 0 ↔ Sp l r := by
  constructor
  · intro h0
    have := red_sp l r
    rwa [h0, Nat.xor_zero] at this
  · intro hs
    have h1 : Sp l (red l r) := by
      have := hs.xor (red_sp l r)
      rwa [← Nat.xor_assoc, Nat.xor_self, Nat.zero_xor] at this
    apply Classical.byContradiction
    intro h0
    obtain ⟨t, ht, e⟩ := h.1.top h1 h0
    have := red_clear l r h t ht
    rw [e, log2_bit h0] at this; cases this

/-- What red gives where it is not 0: a number of its own top bit, its bits at the rows' tops 0. -/
theorem clr_sp {l : List Nat} {r s : Nat} (hr : Sp l r) (hs : Sp l s) : Sp l (clr r s) := by
  unfold clr; split
  · exact hs.xor hr
  · exact hs
theorem clr_bit {r s : Nat} (h : r ≠ 0) : (clr r s).testBit r.log2 = false := by
  unfold clr; split
  · rename_i hb; rw [Nat.testBit_xor, hb, log2_bit h]; rfl
  · rename_i hb; simpa using hb
theorem clr_back (r s : Nat) : s = clr r s ∨ s = clr r s ^^^ r := by
  unfold clr; split
  · right; exact (xor_cancel s r).symm
  · left; rfl
/-- Striking leaves a row's own top bit, where r has it not. -/
theorem clr_top {r s : Nat} (hs : s ≠ 0) (hb : r.testBit s.log2 = false) (hr : r ≠ 0) : (clr r s).log2 = s.log2 ∧ clr r s ≠ 0 := by
  by_cases h : s.testBit r.log2 = true
  · have hlt : r.log2 < s.log2 := by
      have h1 := ge_of_bit h
      have h2 : r.log2 ≤ s.log2 := by
        rcases Nat.lt_or_ge s.log2 r.log2 with h3 | h3
        · have := Nat.pow_le_pow_right (n := 2) (by decide) (show s.log2 + 1 ≤ r.log2 by omega)
          have := Nat.lt_log2_self (n := s)
          omega
        · exact h3
      rcases Nat.lt_or_eq_of_le h2 with h3 | h3
      · exact h3
      · rw [← h3, log2_bit hr] at hb; cases hb
    have hrl : r < 2 ^ s.log2 := Nat.lt_of_lt_of_le Nat.lt_log2_self (Nat.pow_le_pow_right (by decide) hlt)
    have hbit : (s ^^^ r).testBit s.log2 = true := by
      rw [Nat.testBit_xor, log2_bit hs, bit_of_lt hrl]; rfl
    have hup : s ^^^ r < 2 ^ (s.log2 + 1) := Nat.xor_lt_two_pow Nat.lt_log2_self (Nat.lt_trans hrl (Nat.pow_lt_pow_right (by decide) (by omega)))
    have hlo := ge_of_bit hbit
    unfold clr; rw [if_pos h]
    exact ⟨log2_of hlo hup, by have := Nat.two_pow_pos s.log2; omega⟩
  · unfold clr; rw [if_neg h]
    exact ⟨rfl, hs⟩

theorem putR_mem {r : Nat} : ∀ {l : List Nat} {x : Nat}, x ∈ putR r l ↔ x = r ∨ x ∈ l.map (clr r)
  | [], x => by simp [putR]
  | s :: l, x => by
    rw [putR]
    split
    · simp
    · rw [List.mem_cons, putR_mem (l := l), List.map_cons, List.mem_cons]
      constructor
      · rintro (h | h | h)
        · exact Or.inr (Or.inl h)
        · exact Or.inl h
        · exact Or.inr (Or.inr h)
      · rintro (h | h | h)
        · exact Or.inr (Or.inl h)
        · exact Or.inl h
        · exact Or.inr (Or.inr h)

theorem map_clr_lt {r k : Nat} {l : List Nat} (hr : r < 2 ^ k) (h : ∀ s ∈ l, s < 2 ^ k) : ∀ s ∈ l.map (clr r), s < 2 ^ k := by
  intro s hs
  obtain ⟨t, ht, rfl⟩ := List.mem_map.1 hs
  unfold clr; split
  · exact Nat.xor_lt_two_pow (h t ht) hr
  · exact h t ht

theorem log2_le_of_lt {a b : Nat} (ha : a ≠ 0) (h : a < b) : a.log2 ≤ b.log2 := by
  rcases Nat.lt_or_ge b.log2 a.log2 with h3 | h3
  · have := Nat.pow_le_pow_right (n := 2) (by decide) (show b.log2 + 1 ≤ a.log2 by omega)
    have := Nat.lt_log2_self (n := b)
    have := Nat.log2_self_le ha
    omega
  · exact h3

theorem putR_ech {r : Nat} (hr : r ≠ 0) : ∀ {l : List Nat}, Ech l → (∀ s ∈ l, r.testBit s.log2 = false) → Ech (putR r l)
  | [], _, _ => ⟨hr, (fun s hs => by cases hs), trivial⟩
  | s :: l, ⟨hs, hlt, hl⟩, hb => by
    have hct := clr_top (r := r) hs (hb s (by simp)) hr
    have hne : r.log2 ≠ s.log2 := fun e => by
      have := hb s (by simp); rw [← e, log2_bit hr] at this; cases this
    rw [putR]
    split
    · rename_i hlt2
      have hle : s.log2 < r.log2 := by
        have := log2_le_of_lt hct.2 hlt2
        rw [hct.1] at this; omega
      have hsr : clr r s < 2 ^ r.log2 := by
        have := Nat.lt_log2_self (n := clr r s)
        rw [hct.1] at this
        exact Nat.lt_of_lt_of_le this (Nat.pow_le_pow_right (by decide) hle)
      have hmap : l.map (clr r) = l := by
        have : ∀ u ∈ l, clr r u = u := fun u hu => by
          unfold clr; rw [if_neg]
          rw [bit_of_lt (Nat.lt_of_lt_of_le (hlt u hu) (Nat.pow_le_pow_right (by decide) (Nat.le_of_lt hle)))]; decide
        rw [List.map_congr_left this]; simp
      rw [hmap]
      refine ⟨hr, fun u hu => ?_, hct.2, fun u hu => ?_, hl⟩
      · rcases List.mem_cons.1 hu with rfl | hu
        · exact hsr
        · exact Nat.lt_of_lt_of_le (hlt u hu) (Nat.pow_le_pow_right (by decide) (Nat.le_of_lt hle))
      · rw [hct.1]; exact hlt u hu
    · rename_i hge
      have hle : r.log2 < s.log2 := by
        have h1 : r ≤ clr r s := Nat.le_of_not_lt hge
        have h2 : r ≠ clr r s := fun e => by rw [← e] at hct; exact hne hct.1
        have := log2_le_of_lt hr (Nat.lt_of_le_of_ne h1 h2)
        rw [hct.1] at this; omega
      have hrl : r < 2 ^ s.log2 := Nat.lt_of_lt_of_le Nat.lt_log2_self (Nat.pow_le_pow_right (by decide) hle)
      refine ⟨hct.2, fun u hu => ?_, putR_ech hr hl (fun u hu => hb u (by simp [hu]))⟩
      rw [hct.1]
      rcases putR_mem.1 hu with rfl | hu
      · exact hrl
      · exact map_clr_lt hrl hlt u hu

theorem putR_rref {r : Nat} (hr : r ≠ 0) {l : List Nat} (h : Rref l) (hb : ∀ s ∈ l, r.testBit s.log2 = false) : Rref (putR r l) := by
  refine ⟨putR_ech hr h.1 hb, ?_⟩
  intro s hs t ht hne
  rcases putR_mem.1 hs with rfl | hs <;> rcases putR_mem.1 ht with rfl | ht
  · exact absurd rfl hne
  · obtain ⟨u, hu, rfl⟩ := List.mem_map.1 ht
    rw [(clr_top (h.1.ne u hu) (hb u hu) hr).1]; exact hb u hu
  · obtain ⟨u, hu, rfl⟩ := List.mem_map.1 hs
    exact clr_bit hr
  · obtain ⟨u, hu, rfl⟩ := List.mem_map.1 hs
    obtain ⟨v, hv, rfl⟩ := List.mem_map.1 ht
    rw [(clr_top (h.1.ne v hv) (hb v hv) hr).1]
    have huv : u ≠ v := fun e => hne (by rw [e])
    have h1 := h.2 u hu v hv huv
    unfold clr; split
    · rw [Nat.testBit_xor, h1, hb v hv]; rfl
    · exact h1

theorem putR_sp {r : Nat} {l : List Nat} (x : Nat) : Sp (putR r l) x ↔ Sp (r :: l) x := by
  constructor
  · refine Sp.mono fun s hs => ?_
    rcases putR_mem.1 hs with rfl | hs
    · exact Sp.mem (by simp)
    · obtain ⟨u, hu, rfl⟩ := List.mem_map.1 hs
      exact clr_sp (Sp.mem (by simp)) (Sp.mem (by simp [hu]))
  · refine Sp.mono fun s hs => ?_
    have hr : Sp (putR r l) r := Sp.mem (putR_mem.2 (Or.inl rfl))
    rcases List.mem_cons.1 hs with rfl | hs
    · exact hr
    · have hc : Sp (putR r l) (clr r s) := Sp.mem (putR_mem.2 (Or.inr (List.mem_map.2 ⟨s, hs, rfl⟩)))
      rcases clr_back r s with e | e
      · rw [e]; exact hc
      · rw [e]; exact hc.xor hr

theorem ins_rref {out : List Nat} (h : Rref out) (r : Nat) : Rref (ins out r) := by
  unfold ins; split
  · exact h
  · rename_i h0; exact putR_rref h0 h (red_clear out r h)
theorem ins_sp {out : List Nat} (h : Rref out) (r x : Nat) : Sp (ins out r) x ↔ Sp (r :: out) x := by
  unfold ins; split
  · rename_i h0
    have hs := (sp_red_iff h).1 h0
    constructor
    · exact Or.inl
    · refine Sp.mono fun s hs' => ?_
      rcases List.mem_cons.1 hs' with rfl | hs'
      · exact hs
      · exact Sp.mem hs'
  · rw [putR_sp]
    have hd := red_sp out r
    constructor
    · refine Sp.mono fun s hs => ?_
      rcases List.mem_cons.1 hs with rfl | hs
      · have h1 : Sp (r :: out) r := Sp.mem (by simp)
        have h2 : Sp (r :: out) (r ^^^ red out r) := Or.inl hd
        have := h1.xor h2
        rwa [← Nat.xor_assoc, Nat.xor_self, Nat.zero_xor] at this
      · exact Sp.mem (by simp [hs])
    · refine Sp.mono fun s hs => ?_
      rcases List.mem_cons.1 hs with rfl | hs
      · have h1 : Sp (red out s :: out) (red out s) := Sp.mem (by simp)
        have h2 : Sp (red out s :: out) (s ^^^ red out s) := Or.inl hd
        have := h2.xor h1
        rwa [xor_cancel] at this
      · exact Sp.mem (by simp [hs])

theorem rref_nil : Rref [] := ⟨trivial, fun s hs => by cases hs⟩
theorem fold_ins : ∀ (rows : List Nat) {out : List Nat}, Rref out → Rref (rows.foldl ins out) ∧ ∀ x, Sp (rows.foldl ins out) x ↔ Sp (out ++ rows) x
  | [], out, h => ⟨h, fun x => by simp⟩
  | r :: rows, out, h => by
    obtain ⟨h1, h2⟩ := fold_ins rows (ins_rref h r)
    refine ⟨h1, fun x => ?_⟩
    rw [List.foldl_cons, h2]
    constructor
    · refine Sp.mono fun s hs => ?_
      rcases List.mem_append.1 hs with hs | hs
      · have := (ins_sp h r s).1 (Sp.mem hs)
        exact Sp.mono (fun t ht => by
          rcases List.mem_cons.1 ht with rfl | ht
          · exact Sp.mem (by simp)
          · exact Sp.mem (by simp [ht])) this
      · exact Sp.mem (by simp [hs])
    · refine Sp.mono fun s hs => ?_
      rcases List.mem_append.1 hs with hs | hs
      · exact Sp.append_left ((ins_sp h r s).2 (Sp.mem (by simp [hs])))
      · rcases List.mem_cons.1 hs with rfl | hs
        · exact Sp.append_left ((ins_sp h s s).2 (Sp.mem (by simp)))
        · exact Sp.mem (by simp [hs])
theorem steps_rref (rows : List Nat) : Rref (steps rows) := (fold_ins rows rref_nil).1
theorem steps_sp (rows : List Nat) (x : Nat) : Sp (steps rows) x ↔ Sp rows x := by
  have := (fold_ins rows rref_nil).2 x
  rwa [List.nil_append] at this
/-- Any reduced echelon list of the same span is the one that elimination makes. -/
theorem steps_unique {rows l : List Nat} (h : Rref l) (hs : ∀ x, Sp l x ↔ Sp rows x) : l = steps rows :=
  h.unique (steps_rref rows) fun x => (hs x).trans (steps_sp rows x).symm
theorem steps_steps (rows : List Nat) : steps (steps rows) = steps rows := (steps_unique (steps_rref rows) fun _ => Iff.rfl).symm
theorem steps_congr {a b : List Nat} (h : ∀ x, Sp a x ↔ Sp b x) : steps a = steps b := steps_unique (steps_rref a) fun x => (steps_sp a x).trans (h x)
/-- A row can be made exactly if nothing is left of it. -/
theorem can_iff (rows : List Nat) (x : Nat) : red (steps rows) x = 0 ↔ Sp rows x := (sp_red_iff (steps_rref rows)).trans (steps_sp rows x)
end Go.Proofs.YtjaeahobmamhoaaDoor
