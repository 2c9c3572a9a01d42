/-
  Plain mathematics: what the program reads off a reduced ladder: the sum for a wanted row and its choice, the span written out, the null space.
-/
import Derived.Test.YtjaeahobmamhoaaDoorG6
namespace Go.Proofs.YtjaeahobmamhoaaDoor

/-- The sum of the steps below place k whose top bits the wanted row has. -/
def sumF (L : Lad) (want : Nat) : Nat → Nat × Nat
  | 0 => (0, 0)
  | k + 1 => if want.testBit k = true then addP (sumF L want k) (lat L k) else sumF L want k

theorem sumF_fits {rows : List Nat} {n : Nat} {L : Lad} (h : LadB rows n L) (want : Nat) : ∀ k, Fits rows n (sumF L want k)
  | 0 => Fits.zero rows n
  | k + 1 => by
    rw [sumF]; split
    · exact (sumF_fits h want k).add (h.fits k)
    · exact sumF_fits h want k
theorem sumF_lt {L : Lad} {a b : Nat} (h1 : ∀ t, (lat L t).1 < 2 ^ a) (h2 : ∀ t, (lat L t).2 < 2 ^ b) (want : Nat) : ∀ k, (sumF L want k).1 < 2 ^ a ∧ (sumF L want k).2 < 2 ^ b
  | 0 => ⟨Nat.two_pow_pos a, Nat.two_pow_pos b⟩
  | k + 1 => by
    have := sumF_lt h1 h2 want k
    rw [sumF]; split
    · exact ⟨Nat.xor_lt_two_pow this.1 (h1 k), Nat.xor_lt_two_pow this.2 (h2 k)⟩
    · exact this
theorem sumF_sum {L : Lad} (h : Topped L) (want : Nat) : ∀ k, sumS (down L k) want = (sumF L want k).1
  | 0 => rfl
  | k + 1 => by
    rw [down, sumF]
    split
    · rename_i h0
      rw [sumF_sum h want k]
      split
      · show _ = (sumF L want k).1 ^^^ (lat L k).1
        rw [h0, Nat.xor_zero]
      · rfl
    · rename_i h0
      rw [sumS, sumF_sum h want k, h k h0]
      split
      · rw [Nat.xor_comm]; rfl
      · rw [Nat.zero_xor]
theorem ladR_can {rows : List Nat} {L : Lad} (h : LadR rows L) (want : Nat) : (sumF L want 16).1 = want ↔ Sp rows want := by
  rw [← sumF_sum h.lad.top want 16]
  constructor
  · intro e
    have h0 : red (down L 16) want = 0 := by rw [red_sum h.rref, e, Nat.xor_self]
    exact (h.sp want).1 ((sp_red_iff h.rref).1 h0)
  · intro hs
    exact (sum_of_sp h.rref ((h.sp want).2 hs)).symm

/-- Two choices of rows, none of them a sum of those ahead, that have one sum are one. -/
theorem choice_unique {rows : List Nat} : ∀ {k m m' : Nat}, k ≤ rows.length → m < 2 ^ k → m' < 2 ^ k → (∀ i, m.testBit i = true → New rows i) → (∀ i, m'.testBit i = true → New rows i) → sm rows k m = sm rows k m' → m = m'
  | 0, m, m', _, h, h', _, _, _ => by simp at h h'; omega
  | k + 1, m, m', hk, h, h', hn, hn', e => by
    have key : ∀ {m m' : Nat}, (∀ i, m.testBit i = true → New rows i) → sm rows (k + 1) m = sm rows (k + 1) m' → m.testBit k = true → m'.testBit k = true := by
      intro m m' hn e hb
      cases hb' : m'.testBit k
      · exfalso
        apply hn k hb
        rw [sm, sm, if_pos hb, if_neg (by rw [hb']; decide), Nat.xor_zero] at e
        have : rows.getD k 0 = sm rows k m ^^^ sm rows k m' := by
          rw [← e, ← Nat.xor_assoc, Nat.xor_self, Nat.zero_xor]
        rw [this]
        exact (sm_sp (by omega)).xor (sm_sp (by omega))
      · rfl
    have hlow : ∀ {m : Nat}, m < 2 ^ (k + 1) → m % 2 ^ k < 2 ^ k ∧ (∀ i, i < k → (m % 2 ^ k).testBit i = m.testBit i) ∧ (∀ i, (m % 2 ^ k).testBit i = true → m.testBit i = true) := by
      intro m _
      refine ⟨Nat.mod_lt _ (Nat.two_pow_pos k), fun i hi => ?_, fun i hi => ?_⟩
      · rw [Nat.testBit_mod_two_pow]; simp [hi]
      · rw [Nat.testBit_mod_two_pow] at hi; simp at hi; exact hi.2
    have hb : m.testBit k = m'.testBit k := by
      cases hm : m.testBit k
      · cases hm' : m'.testBit k
        · rfl
        · rw [key hn' e.symm hm'] at hm; cases hm
      · rw [key hn e hm]
    have e2 : sm rows k (m % 2 ^ k) = sm rows k (m' % 2 ^ k) := by
      rw [sm_congr (hlow h).2.1, sm_congr (hlow h').2.1]
      rw [sm, sm, hb] at e
      have := congrArg (· ^^^ (if m'.testBit k = true then rows.getD k 0 else 0)) e
      simpa only [xor_cancel] using this
    have h3 := choice_unique (k := k) (by omega) (hlow h).1 (hlow h').1 (fun i hi => hn i ((hlow h).2.2 i hi)) (fun i hi => hn' i ((hlow h').2.2 i hi)) e2
    apply Nat.eq_of_testBit_eq
    intro i
    rcases Nat.lt_trichotomy i k with hi | hi | hi
    · rw [← (hlow h).2.1 i hi, ← (hlow h').2.1 i hi, h3]
    · rw [hi, hb]
    · rw [Nat.testBit_lt_two_pow (Nat.lt_of_lt_of_le h (Nat.pow_le_pow_right (by decide) hi)), Nat.testBit_lt_two_pow (Nat.lt_of_lt_of_le h' (Nat.pow_le_pow_right (by decide) hi))]

theorem mkM_new {rows : List Nat} : ∀ {k want : Nat}, k ≤ rows.length → Sp (rows.take k) want → ∀ i, (mkM rows k want).testBit i = true → New rows i
  | 0, _, _, _, i, h => by simp [mkM] at h
  | k + 1, want, hk, hs, i, h => by
    rw [mkM] at h
    split at h
    · rename_i hc
      exact mkM_new (by omega) ((canB_iff _ _).1 hc) i h
    · rename_i hc
      have hns : ¬ Sp (rows.take k) want := fun hx => hc ((canB_iff _ _).2 hx)
      rw [take_snoc' (by omega), sp_snoc] at hs
      have hs' : Sp (rows.take k) (want ^^^ rows.getD k 0) := hs.resolve_left hns
      rw [pow_bit (mkM_spec (by omega) hs').2.1] at h
      rcases Bool.or_eq_true_iff.1 h with h1 | h1
      · exact mkM_new (by omega) hs' i h1
      · have e : k = i := of_decide_eq_true h1
        subst e
        intro hr
        apply hns
        have := hs'.xor hr
        rwa [xor_cancel] at this

theorem ladR_least {rows : List Nat} {L : Lad} (h : LadR rows L) {want : Nat} (hs : Sp rows want) : (sumF L want 16).2 = mkM rows rows.length want := by
  have hf := sumF_fits h.lad want 16
  have hs' : Sp (rows.take rows.length) want := by rwa [List.take_length]
  have hm := mkM_spec (Nat.le_refl _) hs'
  exact choice_unique (Nat.le_refl _) hf.lt hm.2.1 hf.new (mkM_new (Nat.le_refl _) hs') (by rw [hf.sum, hm.1]; exact (ladR_can h want).2 hs)

/-- The indexes below k of a choice. -/
def idxL (m : Nat) (k : Nat) : List Nat := (List.range k).filter fun i => m.testBit i
theorem idxL_succ (m k : Nat) : idxL m (k + 1) = idxL m k ++ (if m.testBit k = true then [k] else []) := by
  unfold idxL
  rw [List.range_succ, List.filter_append]
  congr 1
  rw [List.filter_cons]
  split <;> rfl

/-- The span, written out place by place. -/
def spanU (L : Lad) : Nat → List Nat
  | 0 => [0]
  | k + 1 => if (lat L k).1 = 0 then spanU L k else spanU L k ++ (spanU L k).map (· ^^^ (lat L k).1)

theorem spanU_mem {L : Lad} : ∀ {k x : Nat}, x ∈ spanU L k ↔ Sp (down L k) x
  | 0, x => by simp [spanU, down, Sp]
  | k + 1, x => by
    rw [spanU, down]
    split
    · exact spanU_mem
    · simp only [List.mem_append, List.mem_map, Sp]
      rw [spanU_mem]
      constructor
      · rintro (h | ⟨y, h, rfl⟩)
        · exact Or.inl h
        · right; rw [xor_cancel]; exact spanU_mem.1 h
      · rintro (h | h)
        · exact Or.inl h
        · exact Or.inr ⟨_, spanU_mem.2 h, xor_cancel _ _⟩
theorem spanU_lt {L : Lad} (h : Topped L) {k x : Nat} (hx : x ∈ spanU L k) : x < 2 ^ k :=
  Sp.lt (fun _ hr => down_lt h hr) (spanU_mem.1 hx)

theorem lt_by_bit {x y : Nat} (i : Nat) (hx : x.testBit i = false) (hy : y.testBit i = true) (h : ∀ j, i < j → x.testBit j = y.testBit j) : x < y := by
  have hq : x / 2 ^ (i + 1) = y / 2 ^ (i + 1) := by
    apply Nat.eq_of_testBit_eq
    intro j
    rw [Nat.testBit_div_two_pow, Nat.testBit_div_two_pow]
    exact h _ (by omega)
  have h1 : x % 2 ^ (i + 1) < 2 ^ i := lt_of_bit (Nat.mod_lt _ (Nat.two_pow_pos _)) (by rw [Nat.testBit_mod_two_pow]; simp [hx])
  have h2 : 2 ^ i ≤ y % 2 ^ (i + 1) := ge_of_bit (by rw [Nat.testBit_mod_two_pow]; simp [hy])
  have e1 := Nat.div_add_mod x (2 ^ (i + 1))
  have e2 := Nat.div_add_mod y (2 ^ (i + 1))
  rw [hq] at e1
  omega

/-- Adding r keeps the order of two numbers whose highest difference r has not. -/
theorem xor_order {x y r : Nat} (h : x < y) (hr : r.testBit (x ^^^ y).log2 = false) : x ^^^ r < y ^^^ r := by
  have hne : x ^^^ y ≠ 0 := fun e => by have := xor_zero_eq e; omega
  have hb := log2_bit hne
  rw [Nat.testBit_xor] at hb
  have hup : ∀ j, (x ^^^ y).log2 < j → x.testBit j = y.testBit j := by
    intro j hj
    have := bit_of_lt (Nat.lt_of_lt_of_le (Nat.lt_log2_self (n := x ^^^ y)) (Nat.pow_le_pow_right (n := 2) (by decide) hj))
    rw [Nat.testBit_xor] at this
    cases hx : x.testBit j <;> cases hy : y.testBit j <;> simp_all
  cases hx : x.testBit (x ^^^ y).log2
  · have hy : y.testBit (x ^^^ y).log2 = true := by rw [hx] at hb; simpa using hb
    refine lt_by_bit (x ^^^ y).log2 ?_ ?_ (fun j hj => ?_)
    · rw [Nat.testBit_xor, hx, hr]; rfl
    · rw [Nat.testBit_xor, hy, hr]; rfl
    · rw [Nat.testBit_xor, Nat.testBit_xor, hup j hj]
  · exfalso
    have hy : y.testBit (x ^^^ y).log2 = false := by rw [hx] at hb; simpa using hb
    have := lt_by_bit (x ^^^ y).log2 hy hx (fun j hj => (hup j hj).symm)
    omega

theorem spanU_sorted {L : Lad} (h : Topped L) (hr : ∀ a t, a ≠ t → (lat L t).1 ≠ 0 → (lat L a).1.testBit t = false) : ∀ k, (spanU L k).Pairwise (· < ·)
  | 0 => by simp [spanU]
  | k + 1 => by
    rw [spanU]
    split
    · exact spanU_sorted h hr k
    · rename_i h0
      rw [List.pairwise_append]
      refine ⟨spanU_sorted h hr k, ?_, ?_⟩
      · rw [List.pairwise_map]
        refine (spanU_sorted h hr k).imp_of_mem ?_
        intro x y hx hy hlt
        apply xor_order hlt
        have hs : Sp (down L k) (x ^^^ y) := (spanU_mem.1 hx).xor (spanU_mem.1 hy)
        obtain ⟨t, ht, e⟩ := (down_ech h k).top hs (fun e => by have := xor_zero_eq e; omega)
        obtain ⟨h1, j, hj, rfl⟩ := down_mem.1 ht
        rw [← e, h j h1]
        exact hr k j (by omega) h1
      · intro x hx y hy
        obtain ⟨z, hz, rfl⟩ := List.mem_map.1 hy
        have h1 := spanU_lt h hx
        have h2 := spanU_lt h hz
        have hb : (z ^^^ (lat L k).1).testBit k = true := by
          rw [Nat.testBit_xor, bit_of_lt h2]
          have := log2_bit h0
          rw [h k h0] at this
          rw [this]; rfl
        exact Nat.lt_of_lt_of_le h1 (ge_of_bit hb)
theorem rising_eq {a b : List Nat} (ha : a.Pairwise (· < ·)) (hb : b.Pairwise (· < ·)) (h : ∀ x, x ∈ a ↔ x ∈ b) : a = b := by
  have := sorted_eq (a := a.reverse) (b := b.reverse) (List.pairwise_reverse.2 ha) (List.pairwise_reverse.2 hb) (fun x => by simp [h x])
  exact List.reverse_inj.1 this
/-- All numbers below 2^w that can be made, rising. -/
def spanL (w : Nat) (rows : List Nat) : List Nat := (List.range (2 ^ w)).filter (canB rows)
theorem ladR_span {rows : List Nat} {L : Lad} (h : LadR rows L) {w : Nat} (hw : ∀ r ∈ rows, r < 2 ^ w) : spanU L 16 = spanL w rows := by
  refine rising_eq (spanU_sorted h.lad.top h.red 16) (List.Pairwise.filter _ List.pairwise_lt_range) fun x => ?_
  rw [spanU_mem, h.sp, spanL, List.mem_filter, canB_iff, List.mem_range]
  exact ⟨fun hx => ⟨Sp.lt hw hx, hx⟩, fun hx => hx.2⟩
theorem spanU_length (L : Lad) : ∀ k, (spanU L k).length ≤ 2 ^ k
  | 0 => Nat.le_refl _
  | k + 1 => by
    have := spanU_length L k
    rw [spanU]; split
    · rw [Nat.pow_succ]; omega
    · simp; rw [Nat.pow_succ]; omega

/-- The null row of a free place, read off a ladder's places below k. -/
def nrow (L : Lad) (free : Nat) : Nat → Nat
  | 0 => 2 ^ free
  | k + 1 => if (lat L k).1.testBit free = true then nrow L free k ||| 2 ^ k else nrow L free k
theorem nrow_bit (L : Lad) (free i : Nat) : ∀ k, (nrow L free k).testBit i = (decide (free = i) || (decide (i < k) && (lat L i).1.testBit free))
  | 0 => by simp [nrow, Nat.testBit_two_pow]
  | k + 1 => by
    rw [nrow]
    by_cases hik : k = i
    · subst hik
      split
      · rename_i hb; rw [Nat.testBit_or, nrow_bit L free k k, Nat.testBit_two_pow, hb]; simp
      · rename_i hb
        rw [nrow_bit L free k k]
        have : (lat L k).1.testBit free = false := by simpa using hb
        rw [this]; simp
    · have hd : decide (i < k + 1) = decide (i < k) := by rw [decide_eq_decide]; omega
      split
      · rw [Nat.testBit_or, nrow_bit L free i k, Nat.testBit_two_pow, decide_eq_false hik, hd]; simp
      · rw [nrow_bit L free i k, hd]
theorem nrow_eq {L : Lad} (h : Topped L) {k : Nat} (free : Nat) : nrow L free k = nulK (down L k) free := by
  apply Nat.eq_of_testBit_eq
  intro i
  rw [nrow_bit, nulK_bit]
  congr 1
  rw [Bool.eq_iff_iff, Bool.and_eq_true, decide_eq_true_eq, List.any_eq_true]
  constructor
  · rintro ⟨hi, hb⟩
    have h0 : (lat L i).1 ≠ 0 := fun e => by rw [e] at hb; simp at hb
    exact ⟨_, down_mem.2 ⟨h0, i, hi, rfl⟩, by rw [hb, h i h0]; simp⟩
  · rintro ⟨s, hs, hb⟩
    obtain ⟨h0, t, ht, rfl⟩ := down_mem.1 hs
    rw [h t h0, Bool.and_eq_true, decide_eq_true_eq] at hb
    obtain ⟨hb, rfl⟩ := hb
    exact ⟨ht, hb⟩
theorem free_lad {L : Lad} (h : Topped L) {k : Nat} (hk : L.length ≤ k) (f : Nat) : freeB (down L k) f = decide ((lat L f).1 = 0) := by
  rw [Bool.eq_iff_iff, decide_eq_true_eq]
  constructor
  · intro hf
    apply Classical.byContradiction
    intro h0
    by_cases hfk : f < k
    · exact free_ne hf _ (down_mem.2 ⟨h0, f, hfk, rfl⟩) (h f h0)
    · exact h0 (by rw [lat_out (by omega)])
  · intro h0
    unfold freeB
    rw [List.all_eq_true]
    intro s hs
    obtain ⟨h1, t, _, rfl⟩ := down_mem.1 hs
    rw [h t h1]
    simp only [bne_iff_ne, ne_eq]
    rintro rfl
    exact h1 h0
/-- The null rows of the free places below k. -/
def nulls (L : Lad) : Nat → List Nat
  | 0 => []
  | k + 1 => if (lat L k).1 = 0 then nulls L k ++ [nrow L k 16] else nulls L k
theorem nulls_eq {L : Lad} (h : Topped L) (hl : L.length = 16) : ∀ w, nulls L w = allN w (down L 16)
  | 0 => rfl
  | w + 1 => by
    rw [nulls, nulls_eq h hl w, allN, allN, List.range_succ, List.filter_append, List.map_append]
    split
    · rename_i h0
      congr 1
      rw [List.filter_cons, if_pos (by rw [free_lad h (by omega)]; simpa using h0)]
      simp [nrow_eq h]
    · rename_i h0
      rw [List.filter_cons, if_neg (by rw [free_lad h (by omega)]; simpa using h0)]
      simp
theorem nulls_length (L : Lad) : ∀ w, (nulls L w).length ≤ w
  | 0 => Nat.le_refl _
  | w + 1 => by
    have := nulls_length L w
    rw [nulls]; split
    · simp; omega
    · omega
theorem ladR_nulls {rows : List Nat} {L : Lad} (h : LadR rows L) (w : Nat) : steps (nulls L w) = nullL w rows := by
  rw [nulls_eq h.lad.top h.lad.len, h.steps]; rfl
theorem nulls_lt {rows : List Nat} {L : Lad} (h : LadR rows L) {w : Nat} (hw : ∀ r ∈ rows, r < 2 ^ w) : ∀ x ∈ nulls L w, x < 2 ^ w := by
  intro x hx
  rw [nulls_eq h.lad.top h.lad.len, h.steps, allN] at hx
  obtain ⟨k, hk, rfl⟩ := List.mem_map.1 hx
  have hk' := List.mem_filter.1 hk
  exact nulK_lt (fun s hs => ⟨(steps_rref rows).1.ne s hs, steps_lt hw s hs⟩) (List.mem_range.1 hk'.1)
theorem nrow_lt (L : Lad) (free : Nat) (hf : free < 16) : ∀ k, k ≤ 16 → nrow L free k < 65536
  | 0, _ => Nat.pow_lt_pow_right (n := 16) (by decide) hf
  | k + 1, hk => by
    have := nrow_lt L free hf k (by omega)
    rw [nrow]; split
    · exact Nat.or_lt_two_pow (n := 16) this (Nat.pow_lt_pow_right (by decide) (by omega))
    · exact this
end Go.Proofs.YtjaeahobmamhoaaDoor
