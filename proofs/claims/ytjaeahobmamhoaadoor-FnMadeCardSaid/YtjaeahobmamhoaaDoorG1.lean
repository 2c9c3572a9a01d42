/-
  Plain mathematics: rows over two elements as natural numbers: spans, echelon lists, and that a reduced echelon list is determined by its span.
-/
import Derived.Laws.BitsLemmas
namespace Go.Proofs.YtjaeahobmamhoaaDoor

/-- x is a sum of some of the rows. -/
def Sp : List Nat → Nat → Prop
  | [], x => x = 0
  | r :: l, x => Sp l x ∨ Sp l (x ^^^ r)

theorem Sp.zero : ∀ (l : List Nat), Sp l 0
  | [] => rfl
  | _ :: l => Or.inl (Sp.zero l)
theorem xor_cancel (a b : Nat) : a ^^^ b ^^^ b = a := by rw [Nat.xor_assoc, Nat.xor_self, Nat.xor_zero]
theorem xor_zero_eq {a b : Nat} (h : a ^^^ b = 0) : a = b := by
  have := xor_cancel a b
  rw [h, Nat.zero_xor] at this; exact this.symm
theorem Sp.xor : ∀ {l : List Nat} {x y : Nat}, Sp l x → Sp l y → Sp l (x ^^^ y)
  | [], x, y, hx, hy => by
    have hx' : x = 0 := hx
    have hy' : y = 0 := hy
    subst hx' hy'; exact (show (0 ^^^ 0 : Nat) = 0 from rfl)
  | r :: l, x, y, hx, hy => by
    rcases hx with hx | hx <;> rcases hy with hy | hy
    · exact Or.inl (hx.xor hy)
    · right
      have := hx.xor hy
      rwa [← Nat.xor_assoc] at this
    · right
      have := hx.xor hy
      rwa [Nat.xor_assoc, Nat.xor_comm r y, ← Nat.xor_assoc] at this
    · left
      have := hx.xor hy
      rwa [show x ^^^ r ^^^ (y ^^^ r) = x ^^^ y by rw [Nat.xor_assoc, ← Nat.xor_assoc r, Nat.xor_comm r y, Nat.xor_assoc y, Nat.xor_self, Nat.xor_zero]] at this
theorem Sp.mem : ∀ {l : List Nat} {r : Nat}, r ∈ l → Sp l r
  | [], _, h => by cases h
  | s :: l, r, h => by
    rcases List.mem_cons.1 h with rfl | h
    · right; rw [Nat.xor_self]; exact Sp.zero l
    · exact Or.inl (Sp.mem h)
theorem Sp.mono : ∀ {l l' : List Nat} {x : Nat}, (∀ r ∈ l, Sp l' r) → Sp l x → Sp l' x
  | [], l', x, _, hx => by
    have hx' : x = 0 := hx
    subst hx'; exact Sp.zero l'
  | r :: l, l', x, h, hx => by
    rcases hx with hx | hx
    · exact Sp.mono (fun s hs => h s (by simp [hs])) hx
    · have h1 := Sp.mono (fun s hs => h s (by simp [hs])) hx
      have h2 := h1.xor (h r (by simp))
      rwa [xor_cancel] at h2
theorem Sp.append_left {l r : List Nat} {x : Nat} (h : Sp l x) : Sp (l ++ r) x := Sp.mono (fun s hs => Sp.mem (by simp [hs])) h
theorem Sp.append_right {l r : List Nat} {x : Nat} (h : Sp r x) : Sp (l ++ r) x := Sp.mono (fun s hs => Sp.mem (by simp [hs])) h
theorem Sp.lt {l : List Nat} {k x : Nat} (h : ∀ r ∈ l, r < 2 ^ k) (hx : Sp l x) : x < 2 ^ k := by
  induction l generalizing x with
  | nil => have hx' : x = 0 := hx
           subst hx'; exact Nat.two_pow_pos k
  | cons r l ih =>
    rcases hx with hx | hx
    · exact ih (fun s hs => h s (by simp [hs])) hx
    · have := Nat.xor_lt_two_pow (ih (fun s hs => h s (by simp [hs])) hx) (h r (by simp))
      rwa [xor_cancel] at this
/-- What a linear test says of all rows it says of the span. -/
theorem Sp.all {l : List Nat} {f : Nat → Bool} (hf0 : f 0 = false) (hf : ∀ a b, f (a ^^^ b) = (f a ^^ f b)) (h : ∀ r ∈ l, f r = false) {x : Nat} (hx : Sp l x) : f x = false := by
  induction l generalizing x with
  | nil => have hx' : x = 0 := hx
           subst hx'; exact hf0
  | cons r l ih =>
    rcases hx with hx | hx
    · exact ih (fun s hs => h s (by simp [hs])) hx
    · have h1 := ih (fun s hs => h s (by simp [hs])) hx
      rw [hf, h r (by simp)] at h1
      simpa using h1

theorem log2_bit {t : Nat} (h : t ≠ 0) : t.testBit t.log2 = true :=
  Nat.testBit_of_two_pow_le_and_two_pow_add_one_gt (Nat.log2_self_le h) Nat.lt_log2_self
theorem log2_of {x k : Nat} (h1 : 2 ^ k ≤ x) (h2 : x < 2 ^ (k + 1)) : x.log2 = k :=
  (Nat.log2_eq_iff (by have := Nat.two_pow_pos k; omega)).2 ⟨h1, h2⟩
theorem lt_of_bit {x k : Nat} (h1 : x < 2 ^ (k + 1)) (h2 : x.testBit k = false) : x < 2 ^ k := by
  rcases Nat.lt_or_ge x (2 ^ k) with h | h
  · exact h
  · rw [Nat.testBit_of_two_pow_le_and_two_pow_add_one_gt h h1] at h2; cases h2
theorem ge_of_bit {x k : Nat} (h2 : x.testBit k = true) : 2 ^ k ≤ x := Nat.ge_two_pow_of_testBit h2
theorem bit_of_lt {x k : Nat} (h : x < 2 ^ k) : x.testBit k = false := Nat.testBit_lt_two_pow h

/-- An echelon list: the top bits fall strictly. -/
def Ech : List Nat → Prop
  | [] => True
  | t :: l => t ≠ 0 ∧ (∀ s ∈ l, s < 2 ^ t.log2) ∧ Ech l

theorem Ech.ne {l : List Nat} (h : Ech l) : ∀ t ∈ l, t ≠ 0 := by
  induction l with
  | nil => intro t ht; cases ht
  | cons s l ih =>
    intro t ht
    rcases List.mem_cons.1 ht with rfl | ht
    · exact h.1
    · exact ih h.2.2 t ht

/-- A number of the span that is not 0 has the top bit of a row of the list. -/
theorem Ech.top {l : List Nat} (h : Ech l) {x : Nat} (hx : Sp l x) (h0 : x ≠ 0) : ∃ t ∈ l, t.log2 = x.log2 := by
  induction l generalizing x with
  | nil => exact absurd hx h0
  | cons t l ih =>
    obtain ⟨ht, hlt, hl⟩ := h
    rcases hx with hx | hx
    · obtain ⟨s, hs, e⟩ := ih hl hx h0
      exact ⟨s, by simp [hs], e⟩
    · have hy : x ^^^ t < 2 ^ t.log2 := Sp.lt hlt hx
      refine ⟨t, by simp, (log2_of ?_ ?_).symm⟩
      · apply ge_of_bit
        have h1 := bit_of_lt hy
        rw [Nat.testBit_xor, log2_bit ht] at h1
        simpa using h1
      · have h2 := Nat.xor_lt_two_pow (Nat.lt_trans hy (Nat.pow_lt_pow_right (by decide) (Nat.lt_succ_self _))) (Nat.lt_log2_self (n := t))
        rwa [xor_cancel] at h2

/-- A reduced echelon list: each top bit is 0 in the other rows. -/
def Rref (l : List Nat) : Prop := Ech l ∧ ∀ s ∈ l, ∀ t ∈ l, s ≠ t → s.testBit t.log2 = false

theorem Rref.sub {a b : List Nat} (ha : Rref a) (hb : Rref b) (h : ∀ x, Sp a x ↔ Sp b x) : ∀ s ∈ a, s ∈ b := by
  intro s hs
  have h0 := ha.1.ne s hs
  obtain ⟨t, ht, e⟩ := hb.1.top ((h s).1 (Sp.mem hs)) h0
  have ht0 := hb.1.ne t ht
  by_cases hst : s = t
  · rw [hst]; exact ht
  · exfalso
    have hy : Sp a (s ^^^ t) := (Sp.mem hs).xor ((h t).2 (Sp.mem ht))
    have hy0 : s ^^^ t ≠ 0 := fun e => hst (xor_zero_eq e)
    have hbit := log2_bit hy0
    have hlow : s ^^^ t < 2 ^ s.log2 := by
      apply lt_of_bit
      · exact Nat.xor_lt_two_pow Nat.lt_log2_self (by rw [← e]; exact Nat.lt_log2_self)
      · rw [Nat.testBit_xor, log2_bit h0]
        have := log2_bit ht0
        rw [e] at this
        rw [this]; rfl
    obtain ⟨v, hv, ev⟩ := ha.1.top hy hy0
    obtain ⟨u, hu, eu⟩ := hb.1.top ((h _).1 hy) hy0
    have hle := ge_of_bit hbit
    have hlt : (s ^^^ t).log2 < s.log2 := by
      rcases Nat.lt_or_ge (s ^^^ t).log2 s.log2 with h | h
      · exact h
      · have := Nat.pow_le_pow_right (n := 2) (by decide) h; omega
    have b1 : s.testBit (s ^^^ t).log2 = false := by
      rw [← ev]; exact ha.2 s hs v hv (fun e' => by rw [← e'] at ev; omega)
    have b2 : t.testBit (s ^^^ t).log2 = false := by
      rw [← eu]; exact hb.2 t ht u hu (fun e' => by rw [← e'] at eu; omega)
    rw [Nat.testBit_xor, b1, b2] at hbit
    cases hbit

theorem Ech.sorted {l : List Nat} (h : Ech l) : l.Pairwise (· > ·) := by
  induction l with
  | nil => exact List.Pairwise.nil
  | cons t l ih =>
    obtain ⟨ht, hlt, hl⟩ := h
    exact List.pairwise_cons.2 ⟨fun s hs => Nat.lt_of_lt_of_le (hlt s hs) (Nat.log2_self_le ht), ih hl⟩

theorem sorted_eq : ∀ {a b : List Nat}, a.Pairwise (· > ·) → b.Pairwise (· > ·) → (∀ x, x ∈ a ↔ x ∈ b) → a = b
  | [], [], _, _, _ => rfl
  | [], y :: b, _, _, h => absurd ((h y).2 (by simp)) (by simp)
  | x :: a, [], _, _, h => absurd ((h x).1 (by simp)) (by simp)
  | x :: a, y :: b, ha, hb, h => by
    rw [List.pairwise_cons] at ha hb
    have hxy : x = y := by
      rcases List.mem_cons.1 ((h x).1 (by simp)) with e | hx
      · exact e
      · rcases List.mem_cons.1 ((h y).2 (by simp)) with e | hy
        · exact e.symm
        · have h1 := hb.1 x hx
          have h2 := ha.1 y hy
          omega
    subst hxy
    congr 1
    refine sorted_eq ha.2 hb.2 (fun z => ⟨fun hz => ?_, fun hz => ?_⟩)
    · rcases List.mem_cons.1 ((h z).1 (by simp [hz])) with e | hz'
      · have := ha.1 z hz; omega
      · exact hz'
    · rcases List.mem_cons.1 ((h z).2 (by simp [hz])) with e | hz'
      · have := hb.1 z hz; omega
      · exact hz'

/-- A reduced echelon list is determined by its span. -/
theorem Rref.unique {a b : List Nat} (ha : Rref a) (hb : Rref b) (h : ∀ x, Sp a x ↔ Sp b x) : a = b :=
  sorted_eq ha.1.sorted hb.1.sorted fun x => ⟨ha.sub hb h x, hb.sub ha (fun x => (h x).symm) x⟩
end Go.Proofs.YtjaeahobmamhoaaDoor
