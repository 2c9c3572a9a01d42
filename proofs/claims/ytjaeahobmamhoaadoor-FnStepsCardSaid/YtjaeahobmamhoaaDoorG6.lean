/-
  Plain mathematics: ladders: for each place the step whose top bit is there, with the choice of rows that it is made of.
-/
import Derived.Test.YtjaeahobmamhoaaDoorG5
namespace Go.Proofs.YtjaeahobmamhoaaDoor

abbrev Lad := List (Nat × Nat)
def lat (L : Lad) (k : Nat) : Nat × Nat := L.getD k (0, 0)
def addP (a b : Nat × Nat) : Nat × Nat := (a.1 ^^^ b.1, a.2 ^^^ b.2)

theorem lat_set (L : Lad) (i : Nat) (p : Nat × Nat) (t : Nat) (hi : i < L.length) : lat (L.set i p) t = if i = t then p else lat L t := by
  unfold lat
  simp only [List.getD, List.getElem?_set, hi, if_true]
  split <;> rfl
theorem lat_out {L : Lad} {t : Nat} (h : L.length ≤ t) : lat L t = (0, 0) := by
  simp [lat, List.getD, h]
theorem lad_mem {L : Lad} {x : Nat} : x ∈ L.map Prod.fst ↔ ∃ t, t < L.length ∧ (lat L t).1 = x := by
  constructor
  · intro h
    obtain ⟨p, hp, rfl⟩ := List.mem_map.1 h
    obtain ⟨t, ht, rfl⟩ := List.getElem_of_mem hp
    exact ⟨t, ht, by simp [lat, List.getD, ht]⟩
  · rintro ⟨t, ht, rfl⟩
    exact List.mem_map.2 ⟨L[t], List.getElem_mem ht, by simp [lat, List.getD, ht]⟩
theorem lad_sp (L : Lad) (t : Nat) : Sp (L.map Prod.fst) (lat L t).1 := by
  by_cases ht : t < L.length
  · exact Sp.mem (lad_mem.2 ⟨t, ht, rfl⟩)
  · rw [lat_out (by omega)]; exact Sp.zero _

/-- Row i is no sum of those ahead of it. -/
def New (rows : List Nat) (i : Nat) : Prop := ¬ Sp (rows.take i) (rows.getD i 0)

theorem sm_xor (rows : List Nat) (m m' : Nat) : ∀ k, sm rows k (m ^^^ m') = sm rows k m ^^^ sm rows k m'
  | 0 => by simp [sm]
  | k + 1 => by
    rw [sm, sm, sm, sm_xor rows m m' k, Nat.testBit_xor]
    cases m.testBit k <;> cases m'.testBit k <;> simp
    · rw [Nat.xor_assoc]
    · rw [Nat.xor_assoc, Nat.xor_comm (sm rows k m'), Nat.xor_assoc]
    · rw [Nat.xor_assoc, ← Nat.xor_assoc (rows[k]?.getD 0), Nat.xor_comm (rows[k]?.getD 0), Nat.xor_assoc (sm rows k m'), Nat.xor_self, Nat.xor_zero]
theorem sm_zero (rows : List Nat) : ∀ k, sm rows k 0 = 0
  | 0 => rfl
  | k + 1 => by rw [sm, sm_zero rows k]; simp

/-- p's second half chooses rows, none of them a sum of those ahead of it, whose sum is p's first half. -/
structure Fits (rows : List Nat) (k : Nat) (p : Nat × Nat) : Prop where
  lt : p.2 < 2 ^ k
  sum : sm rows k p.2 = p.1
  new : ∀ i, p.2.testBit i = true → New rows i

theorem Fits.zero (rows : List Nat) (k : Nat) : Fits rows k (0, 0) := ⟨Nat.two_pow_pos k, sm_zero rows k, fun i h => by simp at h⟩
theorem Fits.add {rows : List Nat} {k : Nat} {a b : Nat × Nat} (ha : Fits rows k a) (hb : Fits rows k b) : Fits rows k (addP a b) := by
  refine ⟨Nat.xor_lt_two_pow ha.lt hb.lt, ?_, fun i h => ?_⟩
  · show sm rows k (a.2 ^^^ b.2) = a.1 ^^^ b.1
    rw [sm_xor, ha.sum, hb.sum]
  · have h' : (a.2.testBit i ^^ b.2.testBit i) = true := by rw [← Nat.testBit_xor]; exact h
    cases h1 : a.2.testBit i
    · rw [h1] at h'; exact hb.new i (by simpa using h')
    · exact ha.new i h1
theorem Fits.up {rows : List Nat} {k : Nat} {p : Nat × Nat} (h : Fits rows k p) : Fits rows (k + 1) p :=
  ⟨Nat.lt_trans h.lt (Nat.pow_lt_pow_right (by decide) (Nat.lt_succ_self k)), by rw [sm_low h.lt]; exact h.sum, h.new⟩

/-- A ladder over the first k rows. -/
structure LadB (rows : List Nat) (k : Nat) (L : Lad) : Prop where
  len : L.length = 16
  top : ∀ t, (lat L t).1 ≠ 0 → (lat L t).1.log2 = t
  fits : ∀ t, Fits rows k (lat L t)
  span : ∀ x, Sp (rows.take k) x → Sp (L.map Prod.fst) x

theorem LadB.lt {rows : List Nat} {k : Nat} {L : Lad} (h : LadB rows k L) (t : Nat) : (lat L t).1 < 2 ^ (t + 1) := by
  by_cases h0 : (lat L t).1 = 0
  · rw [h0]; exact Nat.two_pow_pos _
  · have := Nat.lt_log2_self (n := (lat L t).1)
    rwa [h.top t h0] at this
theorem LadB.small {rows : List Nat} {k : Nat} {L : Lad} (h : LadB rows k L) (t : Nat) : (lat L t).1 < 65536 := by
  by_cases ht : t < 16
  · exact Nat.lt_of_lt_of_le (h.lt t) (Nat.le_trans (Nat.pow_le_pow_right (by decide) (show t + 1 ≤ 16 by omega)) (by decide))
  · rw [lat_out (by rw [h.len]; omega)]; decide
theorem LadB.back {rows : List Nat} {k : Nat} {L : Lad} (h : LadB rows k L) (hk : k ≤ rows.length) {x : Nat} (hx : Sp (L.map Prod.fst) x) : Sp (rows.take k) x := by
  refine Sp.mono (fun r hr => ?_) hx
  obtain ⟨t, _, rfl⟩ := lad_mem.1 hr
  rw [← (h.fits t).sum]; exact sm_sp hk

/-- The steps at places below k, the top one first. -/
def down (L : Lad) : Nat → List Nat
  | 0 => []
  | k + 1 => if (lat L k).1 = 0 then down L k else (lat L k).1 :: down L k

theorem down_mem {L : Lad} : ∀ {k x : Nat}, x ∈ down L k ↔ x ≠ 0 ∧ ∃ t, t < k ∧ (lat L t).1 = x
  | 0, x => by simp [down]
  | k + 1, x => by
    rw [down]
    split
    · rename_i h0
      rw [down_mem]
      constructor
      · rintro ⟨h, t, ht, e⟩; exact ⟨h, t, by omega, e⟩
      · rintro ⟨h, t, ht, e⟩
        refine ⟨h, t, ?_, e⟩
        rcases Nat.lt_or_eq_of_le (Nat.le_of_lt_succ ht) with h1 | h1
        · exact h1
        · subst h1; rw [h0] at e; exact absurd e.symm h
    · rename_i h0
      rw [List.mem_cons, down_mem]
      constructor
      · rintro (rfl | ⟨h, t, ht, e⟩)
        · exact ⟨h0, k, by omega, rfl⟩
        · exact ⟨h, t, by omega, e⟩
      · rintro ⟨h, t, ht, e⟩
        rcases Nat.lt_or_eq_of_le (Nat.le_of_lt_succ ht) with h1 | h1
        · exact Or.inr ⟨h, t, h1, e⟩
        · subst h1; exact Or.inl e.symm
def Topped (L : Lad) : Prop := ∀ t, (lat L t).1 ≠ 0 → (lat L t).1.log2 = t
theorem down_lt {L : Lad} (h : Topped L) {k x : Nat} (hx : x ∈ down L k) : x < 2 ^ k := by
  obtain ⟨h0, t, ht, rfl⟩ := down_mem.1 hx
  have h1 := Nat.lt_log2_self (n := (lat L t).1)
  rw [h t h0] at h1
  exact Nat.lt_of_lt_of_le h1 (Nat.pow_le_pow_right (by decide) ht)
theorem down_ech {L : Lad} (h : Topped L) : ∀ k, Ech (down L k)
  | 0 => trivial
  | k + 1 => by
    rw [down]
    split
    · exact down_ech h k
    · rename_i h0
      exact ⟨h0, fun s hs => by rw [h k h0]; exact down_lt h hs, down_ech h k⟩
theorem down_sp {L : Lad} {k : Nat} (hk : L.length ≤ k) (x : Nat) : Sp (down L k) x ↔ Sp (L.map Prod.fst) x := by
  constructor
  · refine Sp.mono fun s hs => ?_
    obtain ⟨_, t, _, rfl⟩ := down_mem.1 hs
    exact lad_sp L t
  · refine Sp.mono fun s hs => ?_
    obtain ⟨t, ht, rfl⟩ := lad_mem.1 hs
    by_cases h0 : (lat L t).1 = 0
    · rw [h0]; exact Sp.zero _
    · exact Sp.mem (down_mem.2 ⟨h0, t, by omega, rfl⟩)
theorem lad_top {L : Lad} (h : Topped L) {x : Nat} (hx : Sp (L.map Prod.fst) x) (h0 : x ≠ 0) : (lat L x.log2).1 ≠ 0 := by
  obtain ⟨t, ht, e⟩ := (down_ech h L.length).top ((down_sp (Nat.le_refl _) x).2 hx) h0
  obtain ⟨h1, j, hj, rfl⟩ := down_mem.1 ht
  rw [← e, h j h1]; exact h1

theorem lad_nil (rows : List Nat) : LadB rows 0 (List.replicate 16 (0, 0)) := by
  have hl : ∀ t, lat (List.replicate 16 (0, 0)) t = (0, 0) := fun t => by
    unfold lat; rw [List.getD_eq_getElem?_getD, List.getElem?_replicate]; split <;> rfl
  refine ⟨by simp, fun t h => by rw [hl t] at h; exact absurd rfl h, fun t => by rw [hl t]; exact Fits.zero rows 0, fun x h => ?_⟩
  have h' : x = 0 := by simpa [Sp] using h
  subst h'; exact Sp.zero _

/-- What is left of row k under way. -/
structure Now (rows : List Nat) (k : Nat) (L : Lad) (p : Nat × Nat) : Prop where
  lt : p.2 < 2 ^ (k + 1)
  sum : sm rows (k + 1) p.2 = p.1
  bit : p.2.testBit k = true
  new : ∀ i, p.2.testBit i = true → i = k ∨ New rows i
  sp : Sp (L.map Prod.fst) (rows.getD k 0 ^^^ p.1)
  small : p.1 < 65536

theorem now_start {rows : List Nat} {k : Nat} (L : Lad) (hs : rows.getD k 0 < 65536) : Now rows k L (rows.getD k 0, 2 ^ k) := by
  refine ⟨Nat.pow_lt_pow_right (by decide) (Nat.lt_succ_self k), ?_, ?_, fun i h => ?_, by rw [Nat.xor_self]; exact Sp.zero _, hs⟩
  · have := sm_up (rows := rows) (k := k) (m := 0) (Nat.two_pow_pos k)
    rwa [sm_zero, Nat.zero_add, Nat.zero_xor] at this
  · simp
  · left; rw [Nat.testBit_two_pow] at h; simpa using (of_decide_eq_true h).symm

theorem xor_top_lt {a b : Nat} (ha : a ≠ 0) (hb : b ≠ 0) (h : b.log2 = a.log2) : a ^^^ b < 2 ^ a.log2 := by
  apply lt_of_bit
  · exact Nat.xor_lt_two_pow Nat.lt_log2_self (by rw [← h]; exact Nat.lt_log2_self)
  · rw [Nat.testBit_xor, log2_bit ha, ← h, log2_bit hb]; rfl

theorem now_step {rows : List Nat} {k : Nat} {L : Lad} {p : Nat × Nat} (hL : LadB rows k L) (h : Now rows k L p) (h0 : p.1 ≠ 0) (ht : (lat L p.1.log2).1 ≠ 0) :
    Now rows k L (addP p (lat L p.1.log2)) ∧ (addP p (lat L p.1.log2)).1 < p.1 := by
  have hf := (hL.fits p.1.log2).up
  have hk := bit_of_lt (hL.fits p.1.log2).lt
  have hlt : p.1 ^^^ (lat L p.1.log2).1 < 2 ^ p.1.log2 := xor_top_lt h0 ht (hL.top _ ht)
  refine ⟨⟨Nat.xor_lt_two_pow h.lt hf.lt, ?_, ?_, fun i hi => ?_, ?_, ?_⟩, Nat.lt_of_lt_of_le hlt (Nat.log2_self_le h0)⟩
  · show sm rows (k + 1) (p.2 ^^^ _) = _
    rw [sm_xor, h.sum, hf.sum]; rfl
  · show (p.2 ^^^ _).testBit k = true
    rw [Nat.testBit_xor, h.bit, hk]; rfl
  · have h' : (p.2.testBit i ^^ (lat L p.1.log2).2.testBit i) = true := by rw [← Nat.testBit_xor]; exact hi
    cases h1 : p.2.testBit i
    · rw [h1] at h'; exact Or.inr ((hL.fits p.1.log2).new i (by simpa using h'))
    · exact h.new i h1
  · show Sp _ (rows.getD k 0 ^^^ (p.1 ^^^ (lat L p.1.log2).1))
    rw [← Nat.xor_assoc]; exact h.sp.xor (lad_sp L _)
  · exact Nat.xor_lt_two_pow (n := 16) h.small (hL.small _)

theorem now_zero {rows : List Nat} {k : Nat} {L : Lad} {p : Nat × Nat} (hL : LadB rows k L) (h : Now rows k L p) (h0 : p.1 = 0) (hk : k < rows.length) : LadB rows (k + 1) L := by
  refine ⟨hL.len, hL.top, fun t => (hL.fits t).up, fun x hx => ?_⟩
  have hr : Sp (L.map Prod.fst) (rows.getD k 0) := by have := h.sp; rwa [h0, Nat.xor_zero] at this
  rw [take_snoc' hk, sp_snoc] at hx
  rcases hx with hx | hx
  · exact hL.span x hx
  · have := (hL.span _ hx).xor hr
    rwa [xor_cancel] at this

theorem now_put {rows : List Nat} {k : Nat} {L : Lad} {p : Nat × Nat} (hL : LadB rows k L) (h : Now rows k L p) (h0 : p.1 ≠ 0) (ht : (lat L p.1.log2).1 = 0) (hk : k < rows.length) :
    p.1.log2 < 16 ∧ LadB rows (k + 1) (L.set p.1.log2 p) := by
  have h16 : p.1.log2 < 16 := log2_lt h0 h.small
  have hi : p.1.log2 < L.length := by rw [hL.len]; exact h16
  have hnew : New rows k := fun hs => by
    have h1 := (hL.span _ hs).xor h.sp
    rw [← Nat.xor_assoc, Nat.xor_self, Nat.zero_xor] at h1
    exact lad_top hL.top h1 h0 ht
  have hp : Fits rows (k + 1) p := ⟨h.lt, h.sum, fun i hi => by
    rcases h.new i hi with rfl | h2
    · exact hnew
    · exact h2⟩
  have hsub : ∀ x, Sp (L.map Prod.fst) x → Sp ((L.set p.1.log2 p).map Prod.fst) x := fun x => Sp.mono fun s hs => by
    obtain ⟨t, ht', rfl⟩ := lad_mem.1 hs
    by_cases e : p.1.log2 = t
    · subst e; rw [ht]; exact Sp.zero _
    · exact Sp.mem (lad_mem.2 ⟨t, by simpa using ht', by rw [lat_set _ _ _ _ hi, if_neg e]⟩)
  have hpin : Sp ((L.set p.1.log2 p).map Prod.fst) p.1 := Sp.mem (lad_mem.2 ⟨p.1.log2, by simpa using hi, by rw [lat_set _ _ _ _ hi, if_pos rfl]⟩)
  refine ⟨h16, by simpa using hL.len, fun t h1 => ?_, fun t => ?_, fun x hx => ?_⟩
  · rw [lat_set _ _ _ _ hi] at h1 ⊢
    by_cases e : p.1.log2 = t
    · rw [if_pos e] at h1 ⊢; exact e
    · rw [if_neg e] at h1 ⊢; exact hL.top t h1
  · rw [lat_set _ _ _ _ hi]; split
    · exact hp
    · exact (hL.fits t).up
  · have hr : Sp ((L.set p.1.log2 p).map Prod.fst) (rows.getD k 0) := by
      have := (hsub _ h.sp).xor hpin
      rwa [xor_cancel] at this
    rw [take_snoc' hk, sp_snoc] at hx
    rcases hx with hx | hx
    · exact hsub _ (hL.span x hx)
    · have := (hsub _ (hL.span _ hx)).xor hr
      rwa [xor_cancel] at this

/-- A ladder being reduced: rows below 'high' are, and row 'high' is at the places below 'low'. -/
structure RedI (rows : List Nat) (n : Nat) (L : Lad) (high low : Nat) : Prop where
  lad : LadB rows n L
  done : ∀ h, h < high → ∀ t, t < h → (lat L t).1 ≠ 0 → (lat L h).1.testBit t = false
  part : ∀ t, t < low → (lat L t).1 ≠ 0 → (lat L high).1.testBit t = false

theorem redI_start {rows : List Nat} {n : Nat} {L : Lad} (h : LadB rows n L) : RedI rows n L 0 0 :=
  ⟨h, fun _ h => absurd h (by omega), fun _ h => absurd h (by omega)⟩
theorem redI_next {rows : List Nat} {n : Nat} {L : Lad} {high : Nat} (h : RedI rows n L high high) : RedI rows n L (high + 1) 0 := by
  refine ⟨h.lad, fun a ha t ht h0 => ?_, fun _ h => absurd h (by omega)⟩
  rcases Nat.lt_or_eq_of_le (Nat.le_of_lt_succ ha) with h1 | h1
  · exact h.done a h1 t ht h0
  · subst h1; exact h.part t ht h0
theorem redI_keep {rows : List Nat} {n : Nat} {L : Lad} {high low : Nat} (h : RedI rows n L high low) (hb : (lat L high).1.testBit low = false) : RedI rows n L high (low + 1) := by
  refine ⟨h.lad, h.done, fun t ht h0 => ?_⟩
  rcases Nat.lt_or_eq_of_le (Nat.le_of_lt_succ ht) with h1 | h1
  · exact h.part t h1 h0
  · subst h1; exact hb
theorem redI_add {rows : List Nat} {n : Nat} {L : Lad} {high low : Nat} (h : RedI rows n L high low) (hlt : low < high) (h16 : high < 16) (hb : (lat L high).1.testBit low = true) :
    RedI rows n (L.set high (addP (lat L high) (lat L low))) high (low + 1) := by
  have hi : high < L.length := by rw [h.lad.len]; exact h16
  have hne : high ≠ low := by omega
  have h0 : (lat L high).1 ≠ 0 := fun e => by rw [e] at hb; simp at hb
  have htop := h.lad.top high h0
  have hlow : (lat L low).1 < 2 ^ high := Nat.lt_of_lt_of_le (h.lad.lt low) (Nat.pow_le_pow_right (by decide) (by omega))
  have hbit : ((lat L high).1 ^^^ (lat L low).1).testBit high = true := by
    rw [Nat.testBit_xor, bit_of_lt hlow]
    have := log2_bit h0
    rw [htop] at this; rw [this]; rfl
  have hup : (lat L high).1 ^^^ (lat L low).1 < 2 ^ (high + 1) :=
    Nat.xor_lt_two_pow (h.lad.lt high) (Nat.lt_trans hlow (Nat.pow_lt_pow_right (by decide) (by omega)))
  have hlog : ((lat L high).1 ^^^ (lat L low).1).log2 = high := log2_of (ge_of_bit hbit) hup
  have hS : ∀ t, lat (L.set high (addP (lat L high) (lat L low))) t = if high = t then addP (lat L high) (lat L low) else lat L t := fun t => lat_set _ _ _ _ hi
  have hlo' : lat (L.set high (addP (lat L high) (lat L low))) low = lat L low := by rw [hS, if_neg hne]
  refine ⟨⟨by simpa using h.lad.len, fun t ht => ?_, fun t => ?_, fun x hx => ?_⟩, fun a ha t ht h1 => ?_, fun t ht h1 => ?_⟩
  · rw [hS] at ht ⊢
    by_cases e : high = t
    · rw [if_pos e]; rw [← e]; exact hlog
    · rw [if_neg e] at ht ⊢; exact h.lad.top t ht
  · rw [hS]; split
    · exact (h.lad.fits high).add (h.lad.fits low)
    · exact h.lad.fits t
  · refine Sp.mono (fun s hs => ?_) (h.lad.span x hx)
    obtain ⟨t, ht, rfl⟩ := lad_mem.1 hs
    by_cases e : high = t
    · subst e
      have h1 := lad_sp (L.set high (addP (lat L high) (lat L low))) high
      have h2 := lad_sp (L.set high (addP (lat L high) (lat L low))) low
      rw [hS, if_pos rfl] at h1
      rw [hlo'] at h2
      have := h1.xor h2
      rwa [show (addP (lat L high) (lat L low)).1 ^^^ (lat L low).1 = (lat L high).1 from xor_cancel _ _] at this
    · have h1 := lad_sp (L.set high (addP (lat L high) (lat L low))) t
      rwa [hS, if_neg e] at h1
  · rw [hS, if_neg (by omega)] at h1 ⊢
    exact h.done a ha t ht h1
  · have hth : high ≠ t := by omega
    rw [hS, if_neg hth] at h1
    rw [hS, if_pos rfl]
    show ((lat L high).1 ^^^ (lat L low).1).testBit t = false
    rw [Nat.testBit_xor]
    rcases Nat.lt_or_eq_of_le (Nat.le_of_lt_succ ht) with h2 | h2
    · rw [h.part t h2 h1, h.done low hlt t h2 h1]; rfl
    · subst h2
      rw [hb]
      have := log2_bit h1
      rw [h.lad.top _ h1] at this
      rw [this]; rfl

/-- A reduced ladder over all rows. -/
structure LadR (rows : List Nat) (L : Lad) : Prop where
  lad : LadB rows rows.length L
  red : ∀ h t, h ≠ t → (lat L t).1 ≠ 0 → (lat L h).1.testBit t = false

theorem ladR_of {rows : List Nat} {L : Lad} (h : RedI rows rows.length L 16 0) : LadR rows L := by
  refine ⟨h.lad, fun a t hne h0 => ?_⟩
  by_cases ha : a < 16
  · rcases Nat.lt_or_ge t a with h1 | h1
    · exact h.done a ha t h1 h0
    · exact bit_of_lt (Nat.lt_of_lt_of_le (h.lad.lt a) (Nat.pow_le_pow_right (by decide) (by omega)))
  · rw [lat_out (by rw [h.lad.len]; omega)]; simp

theorem LadR.sp {rows : List Nat} {L : Lad} (h : LadR rows L) (x : Nat) : Sp (down L 16) x ↔ Sp rows x := by
  rw [down_sp (by rw [h.lad.len]; exact Nat.le_refl _)]
  constructor
  · intro hx
    have := h.lad.back (Nat.le_refl _) hx
    rwa [List.take_length] at this
  · intro hx
    apply h.lad.span; rwa [List.take_length]
theorem LadR.rref {rows : List Nat} {L : Lad} (h : LadR rows L) : Rref (down L 16) := by
  refine ⟨down_ech h.lad.top 16, fun s hs t ht hne => ?_⟩
  obtain ⟨_, a, _, rfl⟩ := down_mem.1 hs
  obtain ⟨h0, b, _, rfl⟩ := down_mem.1 ht
  rw [h.lad.top b h0]
  exact h.red a b (fun e => hne (by rw [e])) h0
theorem LadR.steps {rows : List Nat} {L : Lad} (h : LadR rows L) : down L 16 = steps rows := steps_unique h.rref h.sp
end Go.Proofs.YtjaeahobmamhoaaDoor
