/-
  Plain mathematics over two elements: a span has two to the rank numbers; the null space of rows.
-/
import Derived.Test.YtjaeahobmamhoaaDoorG3
namespace Go.Proofs.YtjaeahobmamhoaaDoor

theorem nodup_length {α : Type} [DecidableEq α] : ∀ {a b : List α}, a.Nodup → (∀ x ∈ a, x ∈ b) → a.length ≤ b.length
  | [], _, _, _ => by simp
  | x :: a, b, ha, h => by
    rw [List.nodup_cons] at ha
    have hx := h x (by simp)
    have := nodup_length (b := b.erase x) ha.2 (fun y hy => by
      have hne : y ≠ x := fun e => ha.1 (e ▸ hy)
      exact (List.mem_erase_of_ne hne).2 (h y (by simp [hy])))
    rw [List.length_erase_of_mem hx] at this
    have : 0 < b.length := List.length_pos_of_mem hx
    simp; omega

/-- All numbers of a span. -/
def spl : List Nat → List Nat
  | [] => [0]
  | t :: l => spl l ++ (spl l).map (· ^^^ t)
theorem mem_spl : ∀ {l : List Nat} {x : Nat}, x ∈ spl l ↔ Sp l x
  | [], x => by simp [spl, Sp]
  | t :: l, x => by
    simp only [spl, List.mem_append, List.mem_map, Sp]
    constructor
    · rintro (h | ⟨y, hy, rfl⟩)
      · exact Or.inl (mem_spl.1 h)
      · right; rw [xor_cancel]; exact mem_spl.1 hy
    · rintro (h | h)
      · exact Or.inl (mem_spl.2 h)
      · exact Or.inr ⟨x ^^^ t, mem_spl.2 h, xor_cancel x t⟩
theorem spl_length : ∀ (l : List Nat), (spl l).length = 2 ^ l.length
  | [] => rfl
  | t :: l => by simp [spl, spl_length l, Nat.pow_succ]; omega
theorem spl_nodup : ∀ {l : List Nat}, Ech l → (spl l).Nodup
  | [], _ => by simp [spl]
  | t :: l, ⟨ht, hlt, hl⟩ => by
    rw [spl, List.nodup_append]
    refine ⟨spl_nodup hl, ?_, ?_⟩
    · have := spl_nodup hl
      rw [List.Nodup, List.pairwise_map]
      exact List.Pairwise.imp (fun {a b} hab e => hab (by have := congrArg (· ^^^ t) e; simpa [xor_cancel] using this)) this
    · intro a ha b hb e
      subst e
      obtain ⟨y, hy, e⟩ := List.mem_map.1 hb
      have h1 := bit_of_lt (Sp.lt hlt (mem_spl.1 ha))
      have h2 := bit_of_lt (Sp.lt hlt (mem_spl.1 hy))
      rw [← e, Nat.testBit_xor, h2, log2_bit ht] at h1
      cases h1

def canB (rows : List Nat) (n : Nat) : Bool := decide (red (steps rows) n = 0)
theorem canB_iff (rows : List Nat) (n : Nat) : canB rows n = true ↔ Sp rows n := by simp [canB, can_iff]

/-- The numbers below 2^w that can be made are as many as two to the rank. -/
theorem span_count {w : Nat} {rows : List Nat} (h : ∀ r ∈ rows, r < 2 ^ w) : ((List.range (2 ^ w)).filter (canB rows)).length = 2 ^ rank rows := by
  rw [rank, ← spl_length]
  have hn1 : ((List.range (2 ^ w)).filter (canB rows)).Nodup := List.Pairwise.filter _ List.nodup_range
  have hn2 := spl_nodup (steps_rref rows).1
  apply Nat.le_antisymm
  · refine nodup_length hn1 fun x hx => ?_
    rw [List.mem_filter] at hx
    exact mem_spl.2 ((steps_sp rows x).2 ((canB_iff rows x).1 hx.2))
  · refine nodup_length hn2 fun x hx => ?_
    have hs := (steps_sp rows x).1 (mem_spl.1 hx)
    exact List.mem_filter.2 ⟨List.mem_range.2 (Sp.lt h hs), (canB_iff rows x).2 hs⟩

/- The parity of the bits that are 1. -/
def par : Nat → Nat → Bool
  | 0, _ => false
  | k + 1, n => par k n ^^ n.testBit k
theorem cnt_par (k n : Nat) : cnt k n % 2 = (par k n).toNat := by
  induction k with
  | zero => rfl
  | succ k ih =>
    simp only [cnt, par]
    rw [← Nat.toNat_testBit]
    cases hp : par k n <;> cases n.testBit k <;> rw [hp] at ih <;> simp at ih ⊢ <;> omega
theorem par_xor (k a b : Nat) : par k (a ^^^ b) = (par k a ^^ par k b) := by
  induction k with
  | zero => rfl
  | succ k ih =>
    simp only [par, ih, Nat.testBit_xor]
    cases par k a <;> cases par k b <;> cases a.testBit k <;> cases b.testBit k <;> rfl
def dotB (w x y : Nat) : Bool := par w (x &&& y)
theorem dotB_cnt (w x y : Nat) : cnt w (x &&& y) % 2 = (dotB w x y).toNat := cnt_par w _
theorem dotB_comm (w x y : Nat) : dotB w x y = dotB w y x := by rw [dotB, dotB, Nat.and_comm]
theorem dotB_xor (w x a b : Nat) : dotB w x (a ^^^ b) = (dotB w x a ^^ dotB w x b) := by
  unfold dotB
  rw [← par_xor]
  congr 1
  apply Nat.eq_of_testBit_eq
  intro i
  simp only [Nat.testBit_and, Nat.testBit_xor]
  cases x.testBit i <;> cases a.testBit i <;> cases b.testBit i <;> rfl
theorem par_zero (k : Nat) : par k 0 = false := by
  induction k with
  | zero => rfl
  | succ k ih => simp [par, ih]
theorem dotB_zero (w x : Nat) : dotB w x 0 = false := by simp [dotB, par_zero]

/-- Orthogonal to all rows. -/
def Nul (w : Nat) (rows : List Nat) (x : Nat) : Prop := x < 2 ^ w ∧ ∀ r ∈ rows, dotB w x r = false
theorem nul_steps (w : Nat) (rows : List Nat) (x : Nat) : Nul w (steps rows) x ↔ Nul w rows x := by
  have key : ∀ {a b : List Nat}, (∀ y, Sp a y → Sp b y) → Nul w b x → Nul w a x := fun {a b} h hn =>
    ⟨hn.1, fun r hr => Sp.all (f := dotB w x) (dotB_zero w x) (dotB_xor w x) hn.2 (h r (Sp.mem hr))⟩
  exact ⟨key fun y hy => (steps_sp rows y).2 hy, key fun y hy => (steps_sp rows y).1 hy⟩

/-- The numbers below w that are no row's top. -/
def freeB (S : List Nat) (k : Nat) : Bool := S.all fun s => s.log2 != k
/-- The null vector of a free place. -/
def nulK (S : List Nat) (k : Nat) : Nat := S.foldl (fun r s => if s.testBit k then r ||| 2 ^ s.log2 else r) (2 ^ k)
def allN (w : Nat) (S : List Nat) : List Nat := ((List.range w).filter (freeB S)).map (nulK S)

theorem nulK_bit (S : List Nat) (k i : Nat) : (nulK S k).testBit i = (decide (k = i) || S.any fun s => s.testBit k && decide (s.log2 = i)) := by
  have gen : ∀ (S : List Nat) (a : Nat), (S.foldl (fun r s => if s.testBit k then r ||| 2 ^ s.log2 else r) a).testBit i = (a.testBit i || S.any fun s => s.testBit k && decide (s.log2 = i)) := by
    intro S
    induction S with
    | nil => intro a; simp
    | cons s S ih =>
      intro a
      rw [List.foldl_cons, ih, List.any_cons]
      by_cases h : s.testBit k = true
      · simp only [h, if_true, Nat.testBit_or, Nat.testBit_two_pow, Bool.true_and, Bool.or_assoc]
      · simp only [h, Bool.false_eq_true, if_false] at *
        simp
  rw [nulK, gen, Nat.testBit_two_pow]

/-- The parity of a number with two bits at most. -/
theorem par_one {w n j : Nat} (hj : j < w) (h : ∀ i, i < w → n.testBit i = decide (i = j)) : par w n = true := by
  have gen : ∀ k, k ≤ w → par k n = decide (j < k) := by
    intro k
    induction k with
    | zero => intro _; simp [par]
    | succ k ih =>
      intro hk
      rw [par, ih (by omega), h k (by omega)]
      by_cases e : k = j
      · subst e; simp
      · rcases Nat.lt_or_ge j k with h1 | h1
        · have h2 : j < k + 1 := by omega
          simp [h1, h2, e]
        · have h2 : ¬ j < k + 1 := by omega
          have h3 : ¬ j < k := by omega
          simp [h2, h3, e]
  rw [gen w (Nat.le_refl _)]; simpa using hj
theorem par_none {w n : Nat} (h : ∀ i, i < w → n.testBit i = false) : par w n = false := by
  induction w with
  | zero => rfl
  | succ k ih => rw [par, ih (fun i hi => h i (by omega)), h k (by omega)]; rfl

theorem free_ne {S : List Nat} {k : Nat} (h : freeB S k = true) : ∀ s ∈ S, s.log2 ≠ k := by
  intro s hs
  have := List.all_eq_true.1 h s hs
  simpa using this

theorem nulK_free {S : List Nat} {k i : Nat} (hi : freeB S i = true) : (nulK S k).testBit i = decide (k = i) := by
  rw [nulK_bit]
  have : (S.any fun s => s.testBit k && decide (s.log2 = i)) = false := by
    rw [List.any_eq_false]
    intro s hs
    have := free_ne hi s hs
    simp [this]
  rw [this, Bool.or_false]

theorem nulK_lt {S : List Nat} {w k : Nat} (hS : ∀ s ∈ S, s ≠ 0 ∧ s < 2 ^ w) (hk : k < w) : nulK S k < 2 ^ w := by
  apply Nat.lt_pow_two_of_testBit
  intro i hi
  rw [nulK_bit]
  have h1 : decide (k = i) = false := decide_eq_false (by omega)
  have h2 : (S.any fun s => s.testBit k && decide (s.log2 = i)) = false := by
    rw [List.any_eq_false]
    intro s hs
    have := log2_lt (hS s hs).1 (hS s hs).2
    have : ¬ s.log2 = i := by omega
    simp [this]
  rw [h1, h2]; rfl

theorem nulK_nul {S : List Nat} {w k : Nat} (hR : Rref S) (hS : ∀ s ∈ S, s < 2 ^ w) (hk : k < w) (hf : freeB S k = true) : Nul w S (nulK S k) := by
  refine ⟨nulK_lt (fun s hs => ⟨hR.1.ne s hs, hS s hs⟩) hk, fun s hs => ?_⟩
  have hs0 := hR.1.ne s hs
  have htop := log2_lt hs0 (hS s hs)
  by_cases hb : s.testBit k = true
  · have e : nulK S k &&& s = 2 ^ k ^^^ 2 ^ s.log2 := by
      apply Nat.eq_of_testBit_eq
      intro i
      rw [Nat.testBit_and, nulK_bit, Nat.testBit_xor, Nat.testBit_two_pow, Nat.testBit_two_pow]
      have hne := free_ne hf s hs
      by_cases h1 : k = i
      · subst h1
        simp [hb, hne]
      · by_cases h2 : s.log2 = i
        · subst h2
          have : (S.any fun t => t.testBit k && decide (t.log2 = s.log2)) = true := List.any_eq_true.2 ⟨s, hs, by simp [hb]⟩
          simp [this, log2_bit hs0, h1]
        · simp only [h1, h2, decide_false, Bool.false_or, Bool.bne_false]
          rw [Bool.and_eq_false_iff]
          by_cases h3 : (S.any fun t => t.testBit k && decide (t.log2 = i)) = true
          · right
            obtain ⟨t, ht, h4⟩ := List.any_eq_true.1 h3
            have h5 : t.log2 = i := by simp at h4; exact h4.2
            rw [← h5]; exact hR.2 s hs t ht (fun e => h2 (by rw [e]; exact h5))
          · left; simpa using h3
    rw [dotB, e, par_xor, par_one hk (fun i _ => by rw [Nat.testBit_two_pow]; exact decide_eq_decide.2 eq_comm), par_one htop (fun i _ => by rw [Nat.testBit_two_pow]; exact decide_eq_decide.2 eq_comm)]
    rfl
  · rw [dotB]
    apply par_none
    intro i _
    rw [Nat.testBit_and, nulK_bit, Bool.and_eq_false_iff]
    by_cases h1 : k = i
    · right; rw [← h1]; simpa using hb
    · by_cases h3 : (S.any fun t => t.testBit k && decide (t.log2 = i)) = true
      · right
        obtain ⟨t, ht, h4⟩ := List.any_eq_true.1 h3
        have h5 : t.testBit k = true ∧ t.log2 = i := by simpa using h4
        rw [← h5.2]; exact hR.2 s hs t ht (fun e => hb (by rw [e]; exact h5.1))
      · left
        simp only [h1, decide_false, Bool.false_or]; simpa using h3

theorem Nul.xor {w : Nat} {S : List Nat} {x y : Nat} (hx : Nul w S x) (hy : Nul w S y) : Nul w S (x ^^^ y) :=
  ⟨Nat.xor_lt_two_pow hx.1 hy.1, fun r hr => by rw [dotB_comm, dotB_xor, dotB_comm w r x, dotB_comm w r y, hx.2 r hr, hy.2 r hr]; rfl⟩
theorem Nul.zero (w : Nat) (S : List Nat) : Nul w S 0 := ⟨Nat.two_pow_pos w, fun r _ => by rw [dotB_comm]; exact dotB_zero w r⟩

/-- What x has at free places, made of the null vectors of these places. -/
def nulSum (S : List Nat) (x : Nat) : List Nat → Nat
  | [] => 0
  | k :: F => (if x.testBit k then nulK S k else 0) ^^^ nulSum S x F
theorem nulSum_sp {S : List Nat} {x : Nat} : ∀ (F : List Nat), Sp (F.map (nulK S)) (nulSum S x F)
  | [] => rfl
  | k :: F => by
    rw [nulSum, List.map_cons]
    split
    · right
      rw [Nat.xor_comm (nulK S k), xor_cancel]
      exact nulSum_sp F
    · rw [Nat.zero_xor]; exact Or.inl (nulSum_sp F)
theorem nulSum_bit {S : List Nat} {x i : Nat} (hi : freeB S i = true) : ∀ {F : List Nat}, F.Nodup → (nulSum S x F).testBit i = (decide (i ∈ F) && x.testBit i)
  | [], _ => by simp [nulSum]
  | k :: F, h => by
    rw [List.nodup_cons] at h
    rw [nulSum, Nat.testBit_xor, nulSum_bit hi h.2]
    by_cases e : k = i
    · subst e
      have hk : decide (k ∈ F) = false := decide_eq_false h.1
      rw [hk]
      split
      · rename_i hb; simp [nulK_free hi, hb]
      · rename_i hb; simp at hb; simp [hb]
    · have h1 : (if x.testBit k then nulK S k else 0).testBit i = false := by
        split
        · rw [nulK_free hi]; exact decide_eq_false e
        · simp
      have h2 : decide (i ∈ k :: F) = decide (i ∈ F) := decide_eq_decide.2 (by
        rw [List.mem_cons]; exact ⟨fun h => h.resolve_left (fun e' => e e'.symm), Or.inr⟩)
      rw [h1, h2]; simp

/-- The null space is the span of the null vectors of the free places. -/
theorem allN_sp {w : Nat} {S : List Nat} (hR : Rref S) (hS : ∀ s ∈ S, s < 2 ^ w) (x : Nat) : Sp (allN w S) x ↔ Nul w S x := by
  have hgood : ∀ r ∈ allN w S, Nul w S r := by
    intro r hr
    obtain ⟨k, hk, rfl⟩ := List.mem_map.1 hr
    rw [List.mem_filter] at hk
    exact nulK_nul hR hS (List.mem_range.1 hk.1) hk.2
  have hspan : ∀ {y}, Sp (allN w S) y → Nul w S y := by
    intro y hy
    have : ∀ (l : List Nat), (∀ r ∈ l, Nul w S r) → ∀ {y}, Sp l y → Nul w S y := by
      intro l
      induction l with
      | nil => intro _ y hy
               have hy' : y = 0 := hy
               subst hy'; exact Nul.zero w S
      | cons r l ih =>
        intro h y hy
        rcases hy with hy | hy
        · exact ih (fun s hs => h s (by simp [hs])) hy
        · have := (ih (fun s hs => h s (by simp [hs])) hy).xor (h r (by simp))
          rwa [xor_cancel] at this
    exact this _ hgood hy
  refine ⟨hspan, fun hx => ?_⟩
  have hF : ((List.range w).filter (freeB S)).Nodup := List.Pairwise.filter _ List.nodup_range
  have hz : Sp (allN w S) (nulSum S x ((List.range w).filter (freeB S))) := nulSum_sp _
  have hy := hx.xor (hspan hz)
  generalize hzz : nulSum S x ((List.range w).filter (freeB S)) = z at *
  have hfree : ∀ i, i < w → freeB S i = true → (x ^^^ z).testBit i = false := by
    intro i hi hf
    rw [Nat.testBit_xor, ← hzz, nulSum_bit hf hF]
    have : decide (i ∈ (List.range w).filter (freeB S)) = true := decide_eq_true (List.mem_filter.2 ⟨List.mem_range.2 hi, hf⟩)
    rw [this]; simp
  have hnf : ∀ i, freeB S i = false → ∃ s ∈ S, s.log2 = i := by
    intro i hi
    apply Classical.byContradiction
    intro hno
    have : freeB S i = true := List.all_eq_true.2 fun s hs => by
      have : s.log2 ≠ i := fun e => hno ⟨s, hs, e⟩
      simpa using this
    rw [this] at hi; cases hi
  have htop : ∀ s ∈ S, (x ^^^ z).testBit s.log2 = false := by
    intro s hs
    apply Classical.byContradiction
    intro hb
    have hb : (x ^^^ z).testBit s.log2 = true := by simpa using hb
    have hd := hy.2 s hs
    have hs0 := hR.1.ne s hs
    rw [dotB, par_one (log2_lt hs0 (hS s hs))] at hd
    · cases hd
    · intro i hi
      rw [Nat.testBit_and]
      by_cases e : i = s.log2
      · subst e; simp [hb, log2_bit hs0]
      · rw [decide_eq_false e, Bool.and_eq_false_iff]
        cases hf : freeB S i
        · right
          obtain ⟨t, ht, rfl⟩ := hnf i hf
          exact hR.2 s hs t ht (fun e' => e (by rw [e']))
        · left; exact hfree i hi hf
  have hzero : x ^^^ z = 0 := by
    apply Nat.eq_of_testBit_eq
    intro i
    rw [Nat.zero_testBit]
    rcases Nat.lt_or_ge i w with hi | hi
    · cases hf : freeB S i
      · obtain ⟨s, hs, rfl⟩ := hnf i hf
        exact htop s hs
      · exact hfree i hi hf
    · exact bit_of_lt (Nat.lt_of_lt_of_le hy.1 (Nat.pow_le_pow_right (by decide) hi))
  rw [xor_zero_eq hzero]; exact hz

theorem allN_indep (S : List Nat) : ∀ (F front : List Nat), F.Nodup → (∀ k ∈ F, freeB S k = true) → (∀ k ∈ F, k ∉ front) → Indep (front.map (nulK S)) (F.map (nulK S))
  | [], _, _, _, _ => trivial
  | k :: F, front, hn, hf, hd => by
    rw [List.nodup_cons] at hn
    refine ⟨fun hs => ?_, ?_⟩
    · have := Sp.all (f := fun x => x.testBit k) (by simp) (fun a b => Nat.testBit_xor ..) (fun r hr => by
        obtain ⟨j, hj, rfl⟩ := List.mem_map.1 hr
        rw [nulK_free (hf k (by simp))]
        exact decide_eq_false (fun e => hd k (by simp) (e ▸ hj))) hs
      rw [nulK_free (hf k (by simp))] at this
      simp at this
    · have := allN_indep S F (k :: front) hn.2 (fun j hj => hf j (by simp [hj])) (fun j hj hm => by
        rcases List.mem_cons.1 hm with rfl | hm
        · exact hn.1 hj
        · exact hd j (by simp [hj]) hm)
      simpa using this

theorem free_count {w : Nat} {S : List Nat} (hE : Ech S) (hS : ∀ s ∈ S, s < 2 ^ w) : ((List.range w).filter (freeB S)).length + S.length = w := by
  have hpart : ∀ (l : List Nat), (l.filter (freeB S)).length + (l.filter fun k => !freeB S k).length = l.length := by
    intro l
    induction l with
    | nil => rfl
    | cons k l ih => cases hf : freeB S k <;> simp [hf] <;> omega
  have h1 := hpart (List.range w)
  have h2 : ((List.range w).filter fun k => !freeB S k).length = (S.map Nat.log2).length := by
    have hn1 : ((List.range w).filter fun k => !freeB S k).Nodup := List.Pairwise.filter _ List.nodup_range
    have hn2 : (S.map Nat.log2).Nodup := List.Pairwise.imp (fun {a b} h => by omega) hE.tops
    apply Nat.le_antisymm
    · refine nodup_length hn1 fun k hk => ?_
      rw [List.mem_filter] at hk
      apply Classical.byContradiction
      intro hno
      have : freeB S k = true := List.all_eq_true.2 fun s hs => by
        have : s.log2 ≠ k := fun e => hno (List.mem_map.2 ⟨s, hs, e⟩)
        simpa using this
      rw [this] at hk; simp at hk
    · refine nodup_length hn2 fun k hk => ?_
      obtain ⟨s, hs, rfl⟩ := List.mem_map.1 hk
      refine List.mem_filter.2 ⟨List.mem_range.2 (log2_lt (hE.ne s hs) (hS s hs)), ?_⟩
      cases hf : freeB S s.log2
      · rfl
      · exact absurd rfl (free_ne hf s hs)
  rw [List.length_map] at h2
  rw [List.length_range] at h1
  omega

def nullL (w : Nat) (rows : List Nat) : List Nat := steps (allN w (steps rows))
theorem null_sp {w : Nat} {rows : List Nat} (h : ∀ r ∈ rows, r < 2 ^ w) (x : Nat) : Sp (nullL w rows) x ↔ Nul w rows x :=
  ((steps_sp _ x).trans (allN_sp (steps_rref rows) (steps_lt h) x)).trans (nul_steps w rows x)
theorem null_length {w : Nat} {rows : List Nat} (h : ∀ r ∈ rows, r < 2 ^ w) : (nullL w rows).length + rank rows = w := by
  have h1 : rank (allN w (steps rows)) = (allN w (steps rows)).length := by
    apply rank_indep
    have := allN_indep (steps rows) ((List.range w).filter (freeB (steps rows))) [] (List.Pairwise.filter _ List.nodup_range) (fun k hk => (List.mem_filter.1 hk).2) (fun k _ hm => by cases hm)
    simpa [allN] using this
  have h2 := free_count (steps_rref rows).1 (steps_lt h)
  have h3 : (nullL w rows).length = rank (allN w (steps rows)) := rfl
  rw [h3, h1, allN, List.length_map]
  exact h2
theorem null_unique {w : Nat} {rows l : List Nat} (h : ∀ r ∈ rows, r < 2 ^ w) (hl : Rref l) (hs : ∀ x, Sp l x ↔ Nul w rows x) : l = nullL w rows :=
  hl.unique (steps_rref _) fun x => (hs x).trans (null_sp h x).symm
end Go.Proofs.YtjaeahobmamhoaaDoor
