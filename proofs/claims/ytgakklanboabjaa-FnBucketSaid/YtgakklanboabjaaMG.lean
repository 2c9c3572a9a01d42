/-
  M1: Plain mathematics of rows: the number of bits that are 1, among the first k; what and, or, xor of two numbers below 2^16 are.
  M2: Plain mathematics of rows: the indexes of the bits that are 1, among the first k.
  M3: Plain mathematics of rows: lists of indexes that rise; the row that they make; the sum of rows.
  M4: Plain mathematics of rows: the sum of some rows.
  M5: Plain mathematics of rows: the Hamming distance's triangle; a row made of its own bits.
  G1: Plain mathematics: rows over two elements as natural numbers: spans, echelon lists, and that a reduced echelon list is determined by its span.
  G2: Plain mathematics: Gauss' elimination over two elements: rows brought to steps, one after another.
  G3: Plain mathematics: rank over two elements: how many rows elimination leaves; how many numbers a span has; the null space.
  G4: Plain mathematics over two elements: a span has two to the rank numbers; the null space of rows.
  G5: Plain mathematics over two elements: the transpose has the same rank; the least list of rows that makes a row.
  G6: Plain mathematics: ladders: for each place the step whose top bit is there, with the choice of rows that it is made of.
  G7: Plain mathematics: what the program reads off a reduced ladder: the sum for a wanted row and its choice, the span written out, the null space.
  G8: Block codes, as plain mathematics: the null space of the null space, the syndrome, the words of a code, the least weight, the nearest word.
-/
import Derived.Laws.BitsLemmas

/- M1 -/
namespace Go.Proofs.Ytgakklanboabjaa

/-- How many of the bits 0 .. k - 1 of n are 1. -/
def cnt : Nat → Nat → Nat
  | 0, _ => 0
  | k + 1, n => cnt k n + n / 2 ^ k % 2

theorem cnt_le (k n : Nat) : cnt k n ≤ k := by
  induction k with
  | zero => exact Nat.le_refl _
  | succ k ih => simp only [cnt]; omega

theorem cnt_stop {j n : Nat} (h : n < 2 ^ j) : ∀ {m : Nat}, j ≤ m → cnt m n = cnt j n := by
  intro m hm
  induction m with
  | zero => obtain rfl : j = 0 := by omega
            rfl
  | succ m ih =>
    by_cases e : j = m + 1
    · rw [e]
    · have hjm : j ≤ m := by omega
      have : n / 2 ^ m = 0 := Nat.div_eq_of_lt (Nat.lt_of_lt_of_le h (Nat.pow_le_pow_right (by decide) hjm))
      simp only [cnt, this, ih hjm, Nat.zero_mod, Nat.add_zero]

theorem and_pow (n k : Nat) : n &&& 2 ^ k = n / 2 ^ k % 2 * 2 ^ k := by
  apply Nat.eq_of_testBit_eq
  intro i
  rw [Nat.testBit_and, Nat.testBit_two_pow, Nat.testBit_mul_two_pow]
  by_cases h : k = i
  · subst h
    simp only [decide_true, Bool.and_true, Nat.le_refl, Bool.true_and, Nat.sub_self]
    rw [Nat.testBit_eq_decide_div_mod_eq, Nat.testBit_eq_decide_div_mod_eq]
    congr 1
    simp
  · rw [decide_eq_false h, Bool.and_false]
    by_cases hk : k ≤ i
    · rw [Nat.testBit_lt_two_pow (x := n / 2 ^ k % 2) (i := i - k)]
      · simp
      · have : 2 ≤ 2 ^ (i - k) := by
          have := Nat.pow_le_pow_right (n := 2) (by decide) (show 1 ≤ i - k by omega)
          simpa using this
        have := Nat.mod_lt (n / 2 ^ k) (by decide : 2 > 0)
        omega
    · simp [hk]

theorem and_pow_ne {n k : Nat} : (n &&& 2 ^ k ≠ 0) ↔ n / 2 ^ k % 2 = 1 := by
  rw [and_pow]
  have h1 := Nat.two_pow_pos k
  have h2 := Nat.mod_lt (n / 2 ^ k) (by decide : 2 > 0)
  constructor
  · intro h
    have : n / 2 ^ k % 2 ≠ 0 := fun e => h (by rw [e]; simp)
    omega
  · intro h
    rw [h]; omega

theorem wrap62 (n : Int) (h₀ : 0 ≤ n) (h₁ : n < 2 ^ 62) : IntKind.i64.wrap n = n := by rw [IntKind.wrap_i64]; omega
theorem and_i64 (a b : Nat) (ha : a < 2 ^ 62) (hb : b < 2 ^ 62) : bits .and .i64 (a : Int) (b : Int) = ((a &&& b : Nat) : Int) := (bits_nat .i64 62 (by decide) wrap62 a b ha hb).1
theorem or_i64 (a b : Nat) (ha : a < 2 ^ 62) (hb : b < 2 ^ 62) : bits .or .i64 (a : Int) (b : Int) = ((a ||| b : Nat) : Int) := (bits_nat .i64 62 (by decide) wrap62 a b ha hb).2
theorem xor_i64 (a b : Nat) (ha : a < 2 ^ 62) (hb : b < 2 ^ 62) : bits .xor .i64 (a : Int) (b : Int) = ((a ^^^ b : Nat) : Int) := by
  have hp : (2 : Nat) ^ 62 ≤ 2 ^ IntKind.i64.bits := Nat.pow_le_pow_right (by decide) (by decide)
  have ha' : a % 2 ^ IntKind.i64.bits = a := Nat.mod_eq_of_lt (Nat.lt_of_lt_of_le ha hp)
  have hb' : b % 2 ^ IntKind.i64.bits = b := Nat.mod_eq_of_lt (Nat.lt_of_lt_of_le hb hp)
  simp only [bits, BitVec.ofInt_natCast, BitVec.toNat_xor, BitVec.toNat_ofNat, ha', hb']
  exact wrap62 _ (Int.natCast_nonneg _) (by exact_mod_cast Nat.xor_lt_two_pow ha hb)
theorem two_pow_le (k : Nat) (h : k ≤ 16) : 2 ^ k ≤ 65536 := Nat.le_trans (Nat.pow_le_pow_right (by decide) h) (by decide)
theorem and_pow_i64 (n k : Nat) (hn : n < 65536) (hk : k ≤ 16) : bits .and .i64 (n : Int) ((2 : Int) ^ k) = ((n &&& 2 ^ k : Nat) : Int) := by
  have h := two_pow_le k hk
  rw [show ((2 : Int) ^ k) = ((2 ^ k : Nat) : Int) by simp, and_i64 n _ (by omega) (by omega)]
theorem and_one_i64 (n : Nat) (hn : n < 65536) : bits .and .i64 (n : Int) 1 = ((n % 2 : Nat) : Int) := by
  rw [show (1 : Int) = ((1 : Nat) : Int) from rfl, and_i64 n 1 (by omega) (by decide), Nat.and_one_is_mod]

theorem xor_lt {a b k : Nat} (ha : a < 2 ^ k) (hb : b < 2 ^ k) : a ^^^ b < 2 ^ k := Nat.xor_lt_two_pow ha hb
theorem and_lt {a b k : Nat} (hb : b < 2 ^ k) : a &&& b < 2 ^ k := Nat.and_lt_two_pow _ hb
end Go.Proofs.Ytgakklanboabjaa

/- M2 -/
namespace Go.Proofs.Ytgakklanboabjaa

/-- The indexes of the bits 0 .. k - 1 of n that are 1, increasing. -/
def bitsL : Nat → Nat → List Int
  | 0, _ => []
  | k + 1, n => bitsL k n ++ (if n / 2 ^ k % 2 = 1 then [(k : Int)] else [])

theorem bitsL_len (k n : Nat) : (bitsL k n).length = cnt k n := by
  induction k with
  | zero => rfl
  | succ k ih =>
    simp only [bitsL, cnt, List.length_append, ih]
    split
    · simp; omega
    · simp; omega

theorem bitsL_stop {j n : Nat} (h : n < 2 ^ j) : ∀ {m : Nat}, j ≤ m → bitsL m n = bitsL j n := by
  intro m hm
  induction m with
  | zero => obtain rfl : j = 0 := by omega
            rfl
  | succ m ih =>
    by_cases e : j = m + 1
    · rw [e]
    · have hjm : j ≤ m := by omega
      have : n / 2 ^ m = 0 := Nat.div_eq_of_lt (Nat.lt_of_lt_of_le h (Nat.pow_le_pow_right (by decide) hjm))
      simp [bitsL, this, ih hjm]
theorem bitsL_yes {k n : Nat} (h : n / 2 ^ k % 2 = 1) : bitsL (k + 1) n = bitsL k n ++ [(k : Int)] := by simp [bitsL, h]
theorem bitsL_no {k n : Nat} (h : n / 2 ^ k % 2 = 0) : bitsL (k + 1) n = bitsL k n := by simp [bitsL, h]
end Go.Proofs.Ytgakklanboabjaa

/- M3 -/
namespace Go.Proofs.Ytgakklanboabjaa

/-- The list rises strictly, from 'least' on, below 'count'. -/
def risB (least count : Int) : List Int → Bool
  | [] => true
  | k :: r => if k < least ∨ count ≤ k then false else risB (k + 1) count r

theorem risB_no {l c : Int} {zs : List Int} {j : Nat} (hj : j < zs.length) (h : zs[j] < l ∨ c ≤ zs[j]) : risB l c (zs.drop j) = false := by
  rw [List.drop_eq_getElem_cons hj, risB, if_pos h]
theorem risB_yes {l c : Int} {zs : List Int} {j : Nat} (hj : j < zs.length) (h1 : l ≤ zs[j]) (h2 : zs[j] < c) : risB l c (zs.drop j) = risB (zs[j] + 1) c (zs.drop (j + 1)) := by
  rw [List.drop_eq_getElem_cons hj, risB, if_neg (by omega)]
theorem risB_end {l c : Int} {zs : List Int} : risB l c (zs.drop zs.length) = true := by simp [risB]
theorem risB_in {c : Int} {zs : List Int} {l : Int} (h : risB l c zs = true) : ∀ z ∈ zs, l ≤ z ∧ z < c := by
  induction zs generalizing l with
  | nil => intro z hz; cases hz
  | cons k r ih =>
    rw [risB] at h
    split at h
    · cases h
    · intro z hz
      rcases List.mem_cons.1 hz with rfl | hz
      · omega
      · have := ih h z hz; omega

/-- What an index must reach, behind the first k. -/
def leastOf (zs : List Int) : Nat → Int
  | 0 => 0
  | j + 1 => zs.getD j 0 + 1

/-- The row of the first k indexes. -/
def rowL (zs : List Int) : Nat := zs.foldl (fun a k => a ||| 2 ^ k.toNat) 0
theorem rowL_snoc (zs : List Int) (j : Nat) (hj : j < zs.length) : rowL (zs.take (j + 1)) = rowL (zs.take j) ||| 2 ^ (zs[j]).toNat := by
  rw [List.take_succ_eq_append_getElem hj, rowL, List.foldl_append]; rfl
theorem rowL_lt {zs : List Int} (h : ∀ z ∈ zs, 0 ≤ z ∧ z < 16) : rowL zs < 65536 := by
  have key : ∀ (l : List Int) (a : Nat), a < 2 ^ 16 → (∀ z ∈ l, 0 ≤ z ∧ z < 16) → l.foldl (fun a k => a ||| 2 ^ k.toNat) a < 2 ^ 16 := by
    intro l
    induction l with
    | nil => intro a ha _; exact ha
    | cons k r ih =>
      intro a ha hl
      have hk := hl k (by simp)
      exact ih _ (Nat.or_lt_two_pow ha (Nat.pow_lt_pow_right (by decide) (by omega))) (fun z hz => hl z (by simp [hz]))
  exact key zs 0 (by decide) h

theorem or_i64' (a : Nat) (k : Nat) (ha : a < 65536) (hk : k ≤ 16) : bits .or .i64 (a : Int) ((2 : Int) ^ k) = ((a ||| 2 ^ k : Nat) : Int) := by
  have h := two_pow_le k hk
  rw [show ((2 : Int) ^ k) = ((2 ^ k : Nat) : Int) by simp, or_i64 a _ (by omega) (by omega)]
end Go.Proofs.Ytgakklanboabjaa

/- M4 -/
namespace Go.Proofs.Ytgakklanboabjaa

/-- The sum of the rows whose indexes are in ks. -/
def sumL (rs ks : List Int) : Nat := ks.foldl (fun a k => a ^^^ (rs.getD k.toNat 0).toNat) 0
theorem sumL_snoc (rs ks : List Int) (j : Nat) (hj : j < ks.length) : sumL rs (ks.take (j + 1)) = sumL rs (ks.take j) ^^^ (rs.getD (ks[j]).toNat 0).toNat := by
  rw [List.take_succ_eq_append_getElem hj, sumL, List.foldl_append]; rfl
theorem sumL_lt {rs ks : List Int} (h : ∀ z ∈ rs, 0 ≤ z ∧ z < 65536) : sumL rs ks < 65536 := by
  have hg : ∀ i : Nat, (rs.getD i 0).toNat < 2 ^ 16 := by
    intro i
    by_cases hi : i < rs.length
    · have := h rs[i] (List.getElem_mem hi)
      simp only [List.getD, List.getElem?_eq_getElem hi, Option.getD_some]; omega
    · simp [List.getD, hi]
  have key : ∀ (l : List Int) (a : Nat), a < 2 ^ 16 → l.foldl (fun a k => a ^^^ (rs.getD k.toNat 0).toNat) a < 2 ^ 16 := by
    intro l
    induction l with
    | nil => intro a ha; exact ha
    | cons k r ih => intro a ha; exact ih _ (Nat.xor_lt_two_pow ha (hg _))
  exact key ks 0 (by decide)
theorem all_drop_no {f : Int → Bool} {zs : List Int} {j : Nat} (hj : j < zs.length) (h : f zs[j] = false) : (zs.drop j).all f = false := by
  rw [List.drop_eq_getElem_cons hj, List.all_cons, h]; rfl
theorem all_drop_yes {f : Int → Bool} {zs : List Int} {j : Nat} (hj : j < zs.length) (h : f zs[j] = true) : (zs.drop j).all f = (zs.drop (j + 1)).all f := by
  rw [List.drop_eq_getElem_cons hj, List.all_cons, h, Bool.true_and]
theorem all_drop_end {f : Int → Bool} {zs : List Int} : (zs.drop zs.length).all f = true := by simp
end Go.Proofs.Ytgakklanboabjaa

/- M5 -/
namespace Go.Proofs.Ytgakklanboabjaa

theorem cnt_tri (k a b c : Nat) : cnt k (a ^^^ b) ≤ cnt k (a ^^^ c) + cnt k (c ^^^ b) := by
  induction k with
  | zero => simp [cnt]
  | succ k ih =>
    simp only [cnt]
    have h : (a ^^^ b) / 2 ^ k % 2 ≤ (a ^^^ c) / 2 ^ k % 2 + (c ^^^ b) / 2 ^ k % 2 := by
      rw [← Nat.toNat_testBit, ← Nat.toNat_testBit, ← Nat.toNat_testBit, Nat.testBit_xor, Nat.testBit_xor, Nat.testBit_xor]
      cases a.testBit k <;> cases b.testBit k <;> cases c.testBit k <;> decide
    omega

theorem xor_back (a b : Nat) : a ^^^ b ^^^ b = a := by rw [Nat.xor_assoc, Nat.xor_self, Nat.xor_zero]

theorem rowL_append (l r : List Int) : rowL (l ++ r) = r.foldl (fun a k => a ||| 2 ^ k.toNat) (rowL l) := by
  unfold rowL; rw [List.foldl_append]

/-- The bits of a number make the number again. -/
theorem rowL_bits (k n : Nat) : rowL (bitsL k n) = n % 2 ^ k := by
  induction k with
  | zero => simp [bitsL, rowL, Nat.mod_one]
  | succ k ih =>
    apply Nat.eq_of_testBit_eq
    intro i
    by_cases h : n / 2 ^ k % 2 = 1
    · rw [bitsL_yes h, rowL_append, ih]
      simp only [List.foldl_cons, List.foldl_nil, Int.toNat_natCast, Nat.testBit_or, Nat.testBit_mod_two_pow, Nat.testBit_two_pow]
      by_cases e : k = i
      · subst e
        simp [Nat.testBit_eq_decide_div_mod_eq, h]
      · have : (decide (i < k + 1)) = decide (i < k) := decide_eq_decide.2 (by omega)
        simp [e, this]
    · have h0 : n / 2 ^ k % 2 = 0 := by omega
      rw [bitsL_no h0, ih]
      simp only [Nat.testBit_mod_two_pow]
      by_cases e : k = i
      · subst e
        simp [Nat.testBit_eq_decide_div_mod_eq, h0]
      · have : (decide (i < k + 1)) = decide (i < k) := decide_eq_decide.2 (by omega)
        rw [this]

theorem bitsL_rise (k n : Nat) : ∀ l : Int, l ≤ 0 → risB l k (bitsL k n) = true := by
  have gen : ∀ (k : Nat) (c : Int), (k : Int) ≤ c → ∀ l : Int, l ≤ 0 → ∀ r : List Int, (∀ l' : Int, l' ≤ k → risB l' c r = true) → risB l c (bitsL k n ++ r) = true := by
    intro k
    induction k with
    | zero => intro c _ l hl r hr; simpa [bitsL] using hr l (by omega)
    | succ k ih =>
      intro c hc l hl r hr
      by_cases h : n / 2 ^ k % 2 = 1
      · rw [bitsL_yes h, List.append_assoc]
        refine ih c (by omega) l hl _ (fun l' hl' => ?_)
        rw [List.singleton_append, risB, if_neg (by omega)]
        exact hr _ (by push_cast; omega)
      · rw [bitsL_no (by omega)]
        exact ih c (by omega) l hl _ (fun l' hl' => hr l' (by omega))
  intro l hl
  have := gen k k (Int.le_refl _) l hl [] (fun _ _ => rfl)
  simpa using this
end Go.Proofs.Ytgakklanboabjaa

/- G1 -/
namespace Go.Proofs.Ytgakklanboabjaa

/-- x is a sum of some of the rows. -/
def Sp : List Nat → Nat → Prop
  | [], x => x = 0
  | r :: l, x => Sp l x ∨ Sp l (x ^^^ r)

theorem Sp.zero : ∀ (l : List Nat), Sp l 0
  | [] => rfl
  | _ :: l => Or.inl (Sp.zero l)
theorem xor_cancel (a b : Nat) : a ^^^ b ^^^ b = a := by rw [Nat.xor_assoc, Nat.xor_self, Nat.xor_zero]
theorem xor_zero_eq {a b : Nat} (h : a ^^^ b = 0) : a = b := by
  have := xor_cancel a b
  rw [h, Nat.zero_xor] at this; exact this.symm
theorem Sp.xor : ∀ {l : List Nat} {x y : Nat}, Sp l x → Sp l y → Sp l (x ^^^ y)
  | [], x, y, hx, hy => by
    have hx' : x = 0 := hx
    have hy' : y = 0 := hy
    subst hx' hy'; exact (show (0 ^^^ 0 : Nat) = 0 from rfl)
  | r :: l, x, y, hx, hy => by
    rcases hx with hx | hx <;> rcases hy with hy | hy
    · exact Or.inl (hx.xor hy)
    · right
      have := hx.xor hy
      rwa [← Nat.xor_assoc] at this
    · right
      have := hx.xor hy
      rwa [Nat.xor_assoc, Nat.xor_comm r y, ← Nat.xor_assoc] at this
    · left
      have := hx.xor hy
      rwa [show x ^^^ r ^^^ (y ^^^ r) = x ^^^ y by rw [Nat.xor_assoc, ← Nat.xor_assoc r, Nat.xor_comm r y, Nat.xor_assoc y, Nat.xor_self, Nat.xor_zero]] at this
theorem Sp.mem : ∀ {l : List Nat} {r : Nat}, r ∈ l → Sp l r
  | [], _, h => by cases h
  | s :: l, r, h => by
    rcases List.mem_cons.1 h with rfl | h
    · right; rw [Nat.xor_self]; exact Sp.zero l
    · exact Or.inl (Sp.mem h)
theorem Sp.mono : ∀ {l l' : List Nat} {x : Nat}, (∀ r ∈ l, Sp l' r) → Sp l x → Sp l' x
  | [], l', x, _, hx => by
    have hx' : x = 0 := hx
    subst hx'; exact Sp.zero l'
  | r :: l, l', x, h, hx => by
    rcases hx with hx | hx
    · exact Sp.mono (fun s hs => h s (by simp [hs])) hx
    · have h1 := Sp.mono (fun s hs => h s (by simp [hs])) hx
      have h2 := h1.xor (h r (by simp))
      rwa [xor_cancel] at h2
theorem Sp.append_left {l r : List Nat} {x : Nat} (h : Sp l x) : Sp (l ++ r) x := Sp.mono (fun s hs => Sp.mem (by simp [hs])) h
theorem Sp.append_right {l r : List Nat} {x : Nat} (h : Sp r x) : Sp (l ++ r) x := Sp.mono (fun s hs => Sp.mem (by simp [hs])) h
theorem Sp.lt {l : List Nat} {k x : Nat} (h : ∀ r ∈ l, r < 2 ^ k) (hx : Sp l x) : x < 2 ^ k := by
  induction l generalizing x with
  | nil => have hx' : x = 0 := hx
           subst hx'; exact Nat.two_pow_pos k
  | cons r l ih =>
    rcases hx with hx | hx
    · exact ih (fun s hs => h s (by simp [hs])) hx
    · have := Nat.xor_lt_two_pow (ih (fun s hs => h s (by simp [hs])) hx) (h r (by simp))
      rwa [xor_cancel] at this
/-- What a linear test says of all rows it says of the span. -/
theorem Sp.all {l : List Nat} {f : Nat → Bool} (hf0 : f 0 = false) (hf : ∀ a b, f (a ^^^ b) = (f a ^^ f b)) (h : ∀ r ∈ l, f r = false) {x : Nat} (hx : Sp l x) : f x = false := by
  induction l generalizing x with
  | nil => have hx' : x = 0 := hx
           subst hx'; exact hf0
  | cons r l ih =>
    rcases hx with hx | hx
    · exact ih (fun s hs => h s (by simp [hs])) hx
    · have h1 := ih (fun s hs => h s (by simp [hs])) hx
      rw [hf, h r (by simp)] at h1
      simpa using h1

theorem log2_bit {t : Nat} (h : t ≠ 0) : t.testBit t.log2 = true :=
  Nat.testBit_of_two_pow_le_and_two_pow_add_one_gt (Nat.log2_self_le h) Nat.lt_log2_self
theorem log2_of {x k : Nat} (h1 : 2 ^ k ≤ x) (h2 : x < 2 ^ (k + 1)) : x.log2 = k :=
  (Nat.log2_eq_iff (by have := Nat.two_pow_pos k; omega)).2 ⟨h1, h2⟩
theorem lt_of_bit {x k : Nat} (h1 : x < 2 ^ (k + 1)) (h2 : x.testBit k = false) : x < 2 ^ k := by
  rcases Nat.lt_or_ge x (2 ^ k) with h | h
  · exact h
  · rw [Nat.testBit_of_two_pow_le_and_two_pow_add_one_gt h h1] at h2; cases h2
theorem ge_of_bit {x k : Nat} (h2 : x.testBit k = true) : 2 ^ k ≤ x := Nat.ge_two_pow_of_testBit h2
theorem bit_of_lt {x k : Nat} (h : x < 2 ^ k) : x.testBit k = false := Nat.testBit_lt_two_pow h

/-- An echelon list: the top bits fall strictly. -/
def Ech : List Nat → Prop
  | [] => True
  | t :: l => t ≠ 0 ∧ (∀ s ∈ l, s < 2 ^ t.log2) ∧ Ech l

theorem Ech.ne {l : List Nat} (h : Ech l) : ∀ t ∈ l, t ≠ 0 := by
  induction l with
  | nil => intro t ht; cases ht
  | cons s l ih =>
    intro t ht
    rcases List.mem_cons.1 ht with rfl | ht
    · exact h.1
    · exact ih h.2.2 t ht

/-- A number of the span that is not 0 has the top bit of a row of the list. -/
theorem Ech.top {l : List Nat} (h : Ech l) {x : Nat} (hx : Sp l x) (h0 : x ≠ 0) : ∃ t ∈ l, t.log2 = x.log2 := by
  induction l generalizing x with
  | nil => exact absurd hx h0
  | cons t l ih =>
    obtain ⟨ht, hlt, hl⟩ := h
    rcases hx with hx | hx
    · obtain ⟨s, hs, e⟩ := ih hl hx h0
      exact ⟨s, by simp [hs], e⟩
    · have hy : x ^^^ t < 2 ^ t.log2 := Sp.lt hlt hx
      refine ⟨t, by simp, (log2_of ?_ ?_).symm⟩
      · apply ge_of_bit
        have h1 := bit_of_lt hy
        rw [Nat.testBit_xor, log2_bit ht] at h1
        simpa using h1
      · have h2 := Nat.xor_lt_two_pow (Nat.lt_trans hy (Nat.pow_lt_pow_right (by decide) (Nat.lt_succ_self _))) (Nat.lt_log2_self (n := t))
        rwa [xor_cancel] at h2

/-- A reduced echelon list: each top bit is 0 in the other rows. -/
def Rref (l : List Nat) : Prop := Ech l ∧ ∀ s ∈ l, ∀ t ∈ l, s ≠ t → s.testBit t.log2 = false

theorem Rref.sub {a b : List Nat} (ha : Rref a) (hb : Rref b) (h : ∀ x, Sp a x ↔ Sp b x) : ∀ s ∈ a, s ∈ b := by
  intro s hs
  have h0 := ha.1.ne s hs
  obtain ⟨t, ht, e⟩ := hb.1.top ((h s).1 (Sp.mem hs)) h0
  have ht0 := hb.1.ne t ht
  by_cases hst : s = t
  · rw [hst]; exact ht
  · exfalso
    have hy : Sp a (s ^^^ t) := (Sp.mem hs).xor ((h t).2 (Sp.mem ht))
    have hy0 : s ^^^ t ≠ 0 := fun e => hst (xor_zero_eq e)
    have hbit := log2_bit hy0
    have hlow : s ^^^ t < 2 ^ s.log2 := by
      apply lt_of_bit
      · exact Nat.xor_lt_two_pow Nat.lt_log2_self (by rw [← e]; exact Nat.lt_log2_self)
      · rw [Nat.testBit_xor, log2_bit h0]
        have := log2_bit ht0
        rw [e] at this
        rw [this]; rfl
    obtain ⟨v, hv, ev⟩ := ha.1.top hy hy0
    obtain ⟨u, hu, eu⟩ := hb.1.top ((h _).1 hy) hy0
    have hle := ge_of_bit hbit
    have hlt : (s ^^^ t).log2 < s.log2 := by
      rcases Nat.lt_or_ge (s ^^^ t).log2 s.log2 with h | h
      · exact h
      · have := Nat.pow_le_pow_right (n := 2) (by decide) h; omega
    have b1 : s.testBit (s ^^^ t).log2 = false := by
      rw [← ev]; exact ha.2 s hs v hv (fun e' => by rw [← e'] at ev; omega)
    have b2 : t.testBit (s ^^^ t).log2 = false := by
      rw [← eu]; exact hb.2 t ht u hu (fun e' => by rw [← e'] at eu; omega)
    rw [Nat.testBit_xor, b1, b2] at hbit
    cases hbit

theorem Ech.sorted {l : List Nat} (h : Ech l) : l.Pairwise (· > ·) := by
  induction l with
  | nil => exact List.Pairwise.nil
  | cons t l ih =>
    obtain ⟨ht, hlt, hl⟩ := h
    exact List.pairwise_cons.2 ⟨fun s hs => Nat.lt_of_lt_of_le (hlt s hs) (Nat.log2_self_le ht), ih hl⟩

theorem sorted_eq : ∀ {a b : List Nat}, a.Pairwise (· > ·) → b.Pairwise (· > ·) → (∀ x, x ∈ a ↔ x ∈ b) → a = b
  | [], [], _, _, _ => rfl
  | [], y :: b, _, _, h => absurd ((h y).2 (by simp)) (by simp)
  | x :: a, [], _, _, h => absurd ((h x).1 (by simp)) (by simp)
  | x :: a, y :: b, ha, hb, h => by
    rw [List.pairwise_cons] at ha hb
    have hxy : x = y := by
      rcases List.mem_cons.1 ((h x).1 (by simp)) with e | hx
      · exact e
      · rcases List.mem_cons.1 ((h y).2 (by simp)) with e | hy
        · exact e.symm
        · have h1 := hb.1 x hx
          have h2 := ha.1 y hy
          omega
    subst hxy
    congr 1
    refine sorted_eq ha.2 hb.2 (fun z => ⟨fun hz => ?_, fun hz => ?_⟩)
    · rcases List.mem_cons.1 ((h z).1 (by simp [hz])) with e | hz'
      · have := ha.1 z hz; omega
      · exact hz'
    · rcases List.mem_cons.1 ((h z).2 (by simp [hz])) with e | hz'
      · have := hb.1 z hz; omega
      · exact hz'

/-- A reduced echelon list is determined by its span. -/
theorem Rref.unique {a b : List Nat} (ha : Rref a) (hb : Rref b) (h : ∀ x, Sp a x ↔ Sp b x) : a = b :=
  sorted_eq ha.1.sorted hb.1.sorted fun x => ⟨ha.sub hb h x, hb.sub ha (fun x => (h x).symm) x⟩
end Go.Proofs.Ytgakklanboabjaa

/- G2 -/
namespace Go.Proofs.Ytgakklanboabjaa

/-- r with the top bits of the rows struck, in their order. -/
def red : List Nat → Nat → Nat
  | [], r => r
  | s :: l, r => red l (if r.testBit s.log2 then r ^^^ s else r)
/-- s with r's top bit struck. -/
def clr (r s : Nat) : Nat := if s.testBit r.log2 then s ^^^ r else s
/-- r put in its place among the rows, its top bit struck from them. -/
def putR (r : Nat) : List Nat → List Nat
  | [] => [r]
  | s :: l => if clr r s < r then r :: clr r s :: l.map (clr r) else clr r s :: putR r l
def ins (out : List Nat) (r : Nat) : List Nat := if red out r = 0 then out else putR (red out r) out
def steps (rows : List Nat) : List Nat := rows.foldl ins []

theorem red_sp : ∀ (l : List Nat) (r : Nat), Sp l (r ^^^ red l r)
  | [], r => by show r ^^^ r = 0; exact Nat.xor_self r
  | s :: l, r => by
    simp only [red]
    split
    · right
      have := red_sp l (r ^^^ s)
      rwa [Nat.xor_assoc, Nat.xor_comm s, ← Nat.xor_assoc] at this
    · exact Or.inl (red_sp l r)

theorem red_keep {k : Nat} : ∀ (l : List Nat) (r : Nat), (∀ s ∈ l, s.testBit k = false) → (red l r).testBit k = r.testBit k
  | [], _, _ => rfl
  | s :: l, r, h => by
    rw [red, red_keep l _ (fun t ht => h t (by simp [ht]))]
    split
    · rw [Nat.testBit_xor, h s (by simp)]; simp
    · rfl

theorem red_clear : ∀ (l : List Nat) (r : Nat), Rref l → ∀ s ∈ l, (red l r).testBit s.log2 = false
  | [], _, _, s, hs => by cases hs
  | t :: l, r, h, s, hs => by
    obtain ⟨⟨ht, hlt, hl⟩, hr⟩ := h
    have hl' : Rref l := ⟨hl, fun a ha b hb => hr a (by simp [ha]) b (by simp [hb])⟩
    rcases List.mem_cons.1 hs with rfl | hs
    · rw [red, red_keep l _ (fun u hu => bit_of_lt (hlt u hu))]
      split
      · rename_i hb
        rw [Nat.testBit_xor, hb, log2_bit ht]; rfl
      · rename_i hb; simpa using hb
    · rw [red]; exact red_clear l _ hl' s hs

theorem sp_red_iff {l : List Nat} {r : Nat} (h : Rref l) : red l r = 0 ↔ Sp l r := by
  constructor
  · intro h0
    have := red_sp l r
    rwa [h0, Nat.xor_zero] at this
  · intro hs
    have h1 : Sp l (red l r) := by
      have := hs.xor (red_sp l r)
      rwa [← Nat.xor_assoc, Nat.xor_self, Nat.zero_xor] at this
    apply Classical.byContradiction
    intro h0
    obtain ⟨t, ht, e⟩ := h.1.top h1 h0
    have := red_clear l r h t ht
    rw [e, log2_bit h0] at this; cases this

/-- What red gives where it is not 0: a number of its own top bit, its bits at the rows' tops 0. -/
theorem clr_sp {l : List Nat} {r s : Nat} (hr : Sp l r) (hs : Sp l s) : Sp l (clr r s) := by
  unfold clr; split
  · exact hs.xor hr
  · exact hs
theorem clr_bit {r s : Nat} (h : r ≠ 0) : (clr r s).testBit r.log2 = false := by
  unfold clr; split
  · rename_i hb; rw [Nat.testBit_xor, hb, log2_bit h]; rfl
  · rename_i hb; simpa using hb
theorem clr_back (r s : Nat) : s = clr r s ∨ s = clr r s ^^^ r := by
  unfold clr; split
  · right; exact (xor_cancel s r).symm
  · left; rfl
/-- Striking leaves a row's own top bit, where r has it not. -/
theorem clr_top {r s : Nat} (hs : s ≠ 0) (hb : r.testBit s.log2 = false) (hr : r ≠ 0) : (clr r s).log2 = s.log2 ∧ clr r s ≠ 0 := by
  by_cases h : s.testBit r.log2 = true
  · have hlt : r.log2 < s.log2 := by
      have h1 := ge_of_bit h
      have h2 : r.log2 ≤ s.log2 := by
        rcases Nat.lt_or_ge s.log2 r.log2 with h3 | h3
        · have := Nat.pow_le_pow_right (n := 2) (by decide) (show s.log2 + 1 ≤ r.log2 by omega)
          have := Nat.lt_log2_self (n := s)
          omega
        · exact h3
      rcases Nat.lt_or_eq_of_le h2 with h3 | h3
      · exact h3
      · rw [← h3, log2_bit hr] at hb; cases hb
    have hrl : r < 2 ^ s.log2 := Nat.lt_of_lt_of_le Nat.lt_log2_self (Nat.pow_le_pow_right (by decide) hlt)
    have hbit : (s ^^^ r).testBit s.log2 = true := by
      rw [Nat.testBit_xor, log2_bit hs, bit_of_lt hrl]; rfl
    have hup : s ^^^ r < 2 ^ (s.log2 + 1) := Nat.xor_lt_two_pow Nat.lt_log2_self (Nat.lt_trans hrl (Nat.pow_lt_pow_right (by decide) (by omega)))
    have hlo := ge_of_bit hbit
    unfold clr; rw [if_pos h]
    exact ⟨log2_of hlo hup, by have := Nat.two_pow_pos s.log2; omega⟩
  · unfold clr; rw [if_neg h]
    exact ⟨rfl, hs⟩

theorem putR_mem {r : Nat} : ∀ {l : List Nat} {x : Nat}, x ∈ putR r l ↔ x = r ∨ x ∈ l.map (clr r)
  | [], x => by simp [putR]
  | s :: l, x => by
    rw [putR]
    split
    · simp
    · rw [List.mem_cons, putR_mem (l := l), List.map_cons, List.mem_cons]
      constructor
      · rintro (h | h | h)
        · exact Or.inr (Or.inl h)
        · exact Or.inl h
        · exact Or.inr (Or.inr h)
      · rintro (h | h | h)
        · exact Or.inr (Or.inl h)
        · exact Or.inl h
        · exact Or.inr (Or.inr h)

theorem map_clr_lt {r k : Nat} {l : List Nat} (hr : r < 2 ^ k) (h : ∀ s ∈ l, s < 2 ^ k) : ∀ s ∈ l.map (clr r), s < 2 ^ k := by
  intro s hs
  obtain ⟨t, ht, rfl⟩ := List.mem_map.1 hs
  unfold clr; split
  · exact Nat.xor_lt_two_pow (h t ht) hr
  · exact h t ht

theorem log2_le_of_lt {a b : Nat} (ha : a ≠ 0) (h : a < b) : a.log2 ≤ b.log2 := by
  rcases Nat.lt_or_ge b.log2 a.log2 with h3 | h3
  · have := Nat.pow_le_pow_right (n := 2) (by decide) (show b.log2 + 1 ≤ a.log2 by omega)
    have := Nat.lt_log2_self (n := b)
    have := Nat.log2_self_le ha
    omega
  · exact h3

theorem putR_ech {r : Nat} (hr : r ≠ 0) : ∀ {l : List Nat}, Ech l → (∀ s ∈ l, r.testBit s.log2 = false) → Ech (putR r l)
  | [], _, _ => ⟨hr, (fun s hs => by cases hs), trivial⟩
  | s :: l, ⟨hs, hlt, hl⟩, hb => by
    have hct := clr_top (r := r) hs (hb s (by simp)) hr
    have hne : r.log2 ≠ s.log2 := fun e => by
      have := hb s (by simp); rw [← e, log2_bit hr] at this; cases this
    rw [putR]
    split
    · rename_i hlt2
      have hle : s.log2 < r.log2 := by
        have := log2_le_of_lt hct.2 hlt2
        rw [hct.1] at this; omega
      have hsr : clr r s < 2 ^ r.log2 := by
        have := Nat.lt_log2_self (n := clr r s)
        rw [hct.1] at this
        exact Nat.lt_of_lt_of_le this (Nat.pow_le_pow_right (by decide) hle)
      have hmap : l.map (clr r) = l := by
        have : ∀ u ∈ l, clr r u = u := fun u hu => by
          unfold clr; rw [if_neg]
          rw [bit_of_lt (Nat.lt_of_lt_of_le (hlt u hu) (Nat.pow_le_pow_right (by decide) (Nat.le_of_lt hle)))]; decide
        rw [List.map_congr_left this]; simp
      rw [hmap]
      refine ⟨hr, fun u hu => ?_, hct.2, fun u hu => ?_, hl⟩
      · rcases List.mem_cons.1 hu with rfl | hu
        · exact hsr
        · exact Nat.lt_of_lt_of_le (hlt u hu) (Nat.pow_le_pow_right (by decide) (Nat.le_of_lt hle))
      · rw [hct.1]; exact hlt u hu
    · rename_i hge
      have hle : r.log2 < s.log2 := by
        have h1 : r ≤ clr r s := Nat.le_of_not_lt hge
        have h2 : r ≠ clr r s := fun e => by rw [← e] at hct; exact hne hct.1
        have := log2_le_of_lt hr (Nat.lt_of_le_of_ne h1 h2)
        rw [hct.1] at this; omega
      have hrl : r < 2 ^ s.log2 := Nat.lt_of_lt_of_le Nat.lt_log2_self (Nat.pow_le_pow_right (by decide) hle)
      refine ⟨hct.2, fun u hu => ?_, putR_ech hr hl (fun u hu => hb u (by simp [hu]))⟩
      rw [hct.1]
      rcases putR_mem.1 hu with rfl | hu
      · exact hrl
      · exact map_clr_lt hrl hlt u hu

theorem putR_rref {r : Nat} (hr : r ≠ 0) {l : List Nat} (h : Rref l) (hb : ∀ s ∈ l, r.testBit s.log2 = false) : Rref (putR r l) := by
  refine ⟨putR_ech hr h.1 hb, ?_⟩
  intro s hs t ht hne
  rcases putR_mem.1 hs with rfl | hs <;> rcases putR_mem.1 ht with rfl | ht
  · exact absurd rfl hne
  · obtain ⟨u, hu, rfl⟩ := List.mem_map.1 ht
    rw [(clr_top (h.1.ne u hu) (hb u hu) hr).1]; exact hb u hu
  · obtain ⟨u, hu, rfl⟩ := List.mem_map.1 hs
    exact clr_bit hr
  · obtain ⟨u, hu, rfl⟩ := List.mem_map.1 hs
    obtain ⟨v, hv, rfl⟩ := List.mem_map.1 ht
    rw [(clr_top (h.1.ne v hv) (hb v hv) hr).1]
    have huv : u ≠ v := fun e => hne (by rw [e])
    have h1 := h.2 u hu v hv huv
    unfold clr; split
    · rw [Nat.testBit_xor, h1, hb v hv]; rfl
    · exact h1

theorem putR_sp {r : Nat} {l : List Nat} (x : Nat) : Sp (putR r l) x ↔ Sp (r :: l) x := by
  constructor
  · refine Sp.mono fun s hs => ?_
    rcases putR_mem.1 hs with rfl | hs
    · exact Sp.mem (by simp)
    · obtain ⟨u, hu, rfl⟩ := List.mem_map.1 hs
      exact clr_sp (Sp.mem (by simp)) (Sp.mem (by simp [hu]))
  · refine Sp.mono fun s hs => ?_
    have hr : Sp (putR r l) r := Sp.mem (putR_mem.2 (Or.inl rfl))
    rcases List.mem_cons.1 hs with rfl | hs
    · exact hr
    · have hc : Sp (putR r l) (clr r s) := Sp.mem (putR_mem.2 (Or.inr (List.mem_map.2 ⟨s, hs, rfl⟩)))
      rcases clr_back r s with e | e
      · rw [e]; exact hc
      · rw [e]; exact hc.xor hr

theorem ins_rref {out : List Nat} (h : Rref out) (r : Nat) : Rref (ins out r) := by
  unfold ins; split
  · exact h
  · rename_i h0; exact putR_rref h0 h (red_clear out r h)
theorem ins_sp {out : List Nat} (h : Rref out) (r x : Nat) : Sp (ins out r) x ↔ Sp (r :: out) x := by
  unfold ins; split
  · rename_i h0
    have hs := (sp_red_iff h).1 h0
    constructor
    · exact Or.inl
    · refine Sp.mono fun s hs' => ?_
      rcases List.mem_cons.1 hs' with rfl | hs'
      · exact hs
      · exact Sp.mem hs'
  · rw [putR_sp]
    have hd := red_sp out r
    constructor
    · refine Sp.mono fun s hs => ?_
      rcases List.mem_cons.1 hs with rfl | hs
      · have h1 : Sp (r :: out) r := Sp.mem (by simp)
        have h2 : Sp (r :: out) (r ^^^ red out r) := Or.inl hd
        have := h1.xor h2
        rwa [← Nat.xor_assoc, Nat.xor_self, Nat.zero_xor] at this
      · exact Sp.mem (by simp [hs])
    · refine Sp.mono fun s hs => ?_
      rcases List.mem_cons.1 hs with rfl | hs
      · have h1 : Sp (red out s :: out) (red out s) := Sp.mem (by simp)
        have h2 : Sp (red out s :: out) (s ^^^ red out s) := Or.inl hd
        have := h2.xor h1
        rwa [xor_cancel] at this
      · exact Sp.mem (by simp [hs])

theorem rref_nil : Rref [] := ⟨trivial, fun s hs => by cases hs⟩
theorem fold_ins : ∀ (rows : List Nat) {out : List Nat}, Rref out → Rref (rows.foldl ins out) ∧ ∀ x, Sp (rows.foldl ins out) x ↔ Sp (out ++ rows) x
  | [], out, h => ⟨h, fun x => by simp⟩
  | r :: rows, out, h => by
    obtain ⟨h1, h2⟩ := fold_ins rows (ins_rref h r)
    refine ⟨h1, fun x => ?_⟩
    rw [List.foldl_cons, h2]
    constructor
    · refine Sp.mono fun s hs => ?_
      rcases List.mem_append.1 hs with hs | hs
      · have := (ins_sp h r s).1 (Sp.mem hs)
        exact Sp.mono (fun t ht => by
          rcases List.mem_cons.1 ht with rfl | ht
          · exact Sp.mem (by simp)
          · exact Sp.mem (by simp [ht])) this
      · exact Sp.mem (by simp [hs])
    · refine Sp.mono fun s hs => ?_
      rcases List.mem_append.1 hs with hs | hs
      · exact Sp.append_left ((ins_sp h r s).2 (Sp.mem (by simp [hs])))
      · rcases List.mem_cons.1 hs with rfl | hs
        · exact Sp.append_left ((ins_sp h s s).2 (Sp.mem (by simp)))
        · exact Sp.mem (by simp [hs])
theorem steps_rref (rows : List Nat) : Rref (steps rows) := (fold_ins rows rref_nil).1
theorem steps_sp (rows : List Nat) (x : Nat) : Sp (steps rows) x ↔ Sp rows x := by
  have := (fold_ins rows rref_nil).2 x
  rwa [List.nil_append] at this
/-- Any reduced echelon list of the same span is the one that elimination makes. -/
theorem steps_unique {rows l : List Nat} (h : Rref l) (hs : ∀ x, Sp l x ↔ Sp rows x) : l = steps rows :=
  h.unique (steps_rref rows) fun x => (hs x).trans (steps_sp rows x).symm
theorem steps_steps (rows : List Nat) : steps (steps rows) = steps rows := (steps_unique (steps_rref rows) fun _ => Iff.rfl).symm
theorem steps_congr {a b : List Nat} (h : ∀ x, Sp a x ↔ Sp b x) : steps a = steps b := steps_unique (steps_rref a) fun x => (steps_sp a x).trans (h x)
/-- A row can be made exactly if nothing is left of it. -/
theorem can_iff (rows : List Nat) (x : Nat) : red (steps rows) x = 0 ↔ Sp rows x := (sp_red_iff (steps_rref rows)).trans (steps_sp rows x)
end Go.Proofs.Ytgakklanboabjaa

/- G3 -/
namespace Go.Proofs.Ytgakklanboabjaa

def rank (rows : List Nat) : Nat := (steps rows).length

/-- The tops of an echelon list fall strictly. -/
theorem Ech.tops {l : List Nat} (h : Ech l) : (l.map Nat.log2).Pairwise (· > ·) := by
  induction l with
  | nil => exact List.Pairwise.nil
  | cons t l ih =>
    obtain ⟨ht, hlt, hl⟩ := h
    refine List.pairwise_cons.2 ⟨fun k hk => ?_, ih hl⟩
    obtain ⟨s, hs, rfl⟩ := List.mem_map.1 hk
    have h1 := hlt s hs
    have h2 := Nat.log2_self_le (hl.ne s hs)
    rcases Nat.lt_or_ge s.log2 t.log2 with h | h
    · exact h
    · have := Nat.pow_le_pow_right (n := 2) (by decide) h; omega

theorem falling_length : ∀ {a b : List Nat}, a.Pairwise (· > ·) → b.Pairwise (· > ·) → (∀ x ∈ a, x ∈ b) → a.length ≤ b.length
  | [], _, _, _, _ => by simp
  | x :: a, [], _, _, h => by have := h x (by simp); cases this
  | x :: a, y :: b, ha, hb, h => by
    rw [List.pairwise_cons] at ha hb
    by_cases e : x = y
    · subst e
      have := falling_length ha.2 hb.2 (fun z hz => by
        rcases List.mem_cons.1 (h z (by simp [hz])) with e | hz'
        · have := ha.1 z hz; omega
        · exact hz')
      simp; omega
    · have := falling_length (a := x :: a) (List.pairwise_cons.2 ha) hb.2 (fun z hz => by
        rcases List.mem_cons.1 (h z hz) with e' | hz'
        · exfalso
          rcases List.mem_cons.1 hz with e'' | hz''
          · exact e (e''.symm.trans e')
          · have h1 := ha.1 z hz''
            rcases List.mem_cons.1 (h x (by simp)) with e3 | h3
            · exact e e3
            · have := hb.1 x h3; omega
        · exact hz')
      simp at this ⊢; omega

/-- A greater span has no lesser rank. -/
theorem rank_mono {a b : List Nat} (h : ∀ r ∈ a, Sp b r) : rank a ≤ rank b := by
  have ha := (steps_rref a).1
  have hb := (steps_rref b).1
  have := falling_length ha.tops hb.tops (fun k hk => by
    obtain ⟨s, hs, rfl⟩ := List.mem_map.1 hk
    have h1 : Sp (steps b) s := (steps_sp b s).2 (Sp.mono h ((steps_sp a s).1 (Sp.mem hs)))
    obtain ⟨t, ht, e⟩ := hb.top h1 (ha.ne s hs)
    exact List.mem_map.2 ⟨t, ht, e⟩)
  simpa [rank] using this

theorem putR_length {r : Nat} : ∀ (l : List Nat), (putR r l).length = l.length + 1
  | [] => rfl
  | s :: l => by
    rw [putR]; split
    · simp
    · simp [putR_length l]
theorem ins_length (out : List Nat) (r : Nat) : (ins out r).length ≤ out.length + 1 := by
  unfold ins; split
  · omega
  · rw [putR_length]; exact Nat.le_refl _
theorem fold_length : ∀ (rows : List Nat) (out : List Nat), (rows.foldl ins out).length ≤ out.length + rows.length
  | [], out => by simp
  | r :: rows, out => by
    have h1 := fold_length rows (ins out r)
    have h2 := ins_length out r
    simp only [List.foldl_cons, List.length_cons]; omega
theorem rank_le_length (rows : List Nat) : rank rows ≤ rows.length := by
  have := fold_length rows []
  simpa [rank, steps] using this

/-- Rows each of which is no sum of those ahead of it keep their number. -/
def Indep : List Nat → List Nat → Prop
  | _, [] => True
  | front, r :: l => ¬ Sp front r ∧ Indep (r :: front) l
theorem fold_indep : ∀ (rows : List Nat) {out front : List Nat}, Rref out → (∀ x, Sp out x ↔ Sp front x) → Indep front rows → (rows.foldl ins out).length = out.length + rows.length
  | [], out, front, _, _, _ => by simp
  | r :: rows, out, front, h, hs, ⟨h1, h2⟩ => by
    have h0 : red out r ≠ 0 := fun e => h1 ((hs r).1 ((sp_red_iff h).1 e))
    have hl : (ins out r).length = out.length + 1 := by unfold ins; rw [if_neg h0, putR_length]
    have := fold_indep rows (ins_rref h r) (fun x => by
      rw [ins_sp h r x]
      constructor
      · refine Sp.mono fun s hs' => ?_
        rcases List.mem_cons.1 hs' with rfl | hs'
        · exact Sp.mem (by simp)
        · exact Or.inl ((hs s).1 (Sp.mem hs'))
      · refine Sp.mono fun s hs' => ?_
        rcases List.mem_cons.1 hs' with rfl | hs'
        · exact Sp.mem (by simp)
        · exact Or.inl ((hs s).2 (Sp.mem hs'))) h2
    simp only [List.foldl_cons, List.length_cons, this, hl]; omega
theorem rank_indep {rows : List Nat} (h : Indep [] rows) : rank rows = rows.length := by
  have := fold_indep rows rref_nil (fun _ => Iff.rfl) h
  simpa [rank, steps] using this

/-- Rows below 2^w have no more than w steps. -/
theorem steps_lt {w : Nat} {rows : List Nat} (h : ∀ r ∈ rows, r < 2 ^ w) : ∀ s ∈ steps rows, s < 2 ^ w :=
  fun s hs => Sp.lt h ((steps_sp rows s).1 (Sp.mem hs))
theorem falling_bound : ∀ {a : List Nat} {w : Nat}, a.Pairwise (· > ·) → (∀ x ∈ a, x < w) → a.length ≤ w
  | [], _, _, _ => by simp
  | x :: a, w, h, hw => by
    rw [List.pairwise_cons] at h
    have := falling_bound h.2 h.1
    have := hw x (by simp)
    simp; omega
theorem log2_lt {x w : Nat} (h0 : x ≠ 0) (h : x < 2 ^ w) : x.log2 < w := by
  rcases Nat.lt_or_ge x.log2 w with h1 | h1
  · exact h1
  · have := Nat.pow_le_pow_right (n := 2) (by decide) h1
    have := Nat.log2_self_le h0; omega
theorem rank_le_width {w : Nat} {rows : List Nat} (h : ∀ r ∈ rows, r < 2 ^ w) : rank rows ≤ w := by
  have hr := (steps_rref rows).1
  have := falling_bound hr.tops (w := w) (fun k hk => by
    obtain ⟨s, hs, rfl⟩ := List.mem_map.1 hk
    exact log2_lt (hr.ne s hs) (steps_lt h s hs))
  simpa [rank] using this
end Go.Proofs.Ytgakklanboabjaa

/- G4 -/
namespace Go.Proofs.Ytgakklanboabjaa

theorem nodup_length {α : Type} [DecidableEq α] : ∀ {a b : List α}, a.Nodup → (∀ x ∈ a, x ∈ b) → a.length ≤ b.length
  | [], _, _, _ => by simp
  | x :: a, b, ha, h => by
    rw [List.nodup_cons] at ha
    have hx := h x (by simp)
    have := nodup_length (b := b.erase x) ha.2 (fun y hy => by
      have hne : y ≠ x := fun e => ha.1 (e ▸ hy)
      exact (List.mem_erase_of_ne hne).2 (h y (by simp [hy])))
    rw [List.length_erase_of_mem hx] at this
    have : 0 < b.length := List.length_pos_of_mem hx
    simp; omega

/-- All numbers of a span. -/
def spl : List Nat → List Nat
  | [] => [0]
  | t :: l => spl l ++ (spl l).map (· ^^^ t)
theorem mem_spl : ∀ {l : List Nat} {x : Nat}, x ∈ spl l ↔ Sp l x
  | [], x => by simp [spl, Sp]
  | t :: l, x => by
    simp only [spl, List.mem_append, List.mem_map, Sp]
    constructor
    · rintro (h | ⟨y, hy, rfl⟩)
      · exact Or.inl (mem_spl.1 h)
      · right; rw [xor_cancel]; exact mem_spl.1 hy
    · rintro (h | h)
      · exact Or.inl (mem_spl.2 h)
      · exact Or.inr ⟨x ^^^ t, mem_spl.2 h, xor_cancel x t⟩
theorem spl_length : ∀ (l : List Nat), (spl l).length = 2 ^ l.length
  | [] => rfl
  | t :: l => by simp [spl, spl_length l, Nat.pow_succ]; omega
theorem spl_nodup : ∀ {l : List Nat}, Ech l → (spl l).Nodup
  | [], _ => by simp [spl]
  | t :: l, ⟨ht, hlt, hl⟩ => by
    rw [spl, List.nodup_append]
    refine ⟨spl_nodup hl, ?_, ?_⟩
    · have := spl_nodup hl
      rw [List.Nodup, List.pairwise_map]
      exact List.Pairwise.imp (fun {a b} hab e => hab (by have := congrArg (· ^^^ t) e; simpa [xor_cancel] using this)) this
    · intro a ha b hb e
      subst e
      obtain ⟨y, hy, e⟩ := List.mem_map.1 hb
      have h1 := bit_of_lt (Sp.lt hlt (mem_spl.1 ha))
      have h2 := bit_of_lt (Sp.lt hlt (mem_spl.1 hy))
      rw [← e, Nat.testBit_xor, h2, log2_bit ht] at h1
      cases h1

def canB (rows : List Nat) (n : Nat) : Bool := decide (red (steps rows) n = 0)
theorem canB_iff (rows : List Nat) (n : Nat) : canB rows n = true ↔ Sp rows n := by simp [canB, can_iff]

/-- The numbers below 2^w that can be made are as many as two to the rank. -/
theorem span_count {w : Nat} {rows : List Nat} (h : ∀ r ∈ rows, r < 2 ^ w) : ((List.range (2 ^ w)).filter (canB rows)).length = 2 ^ rank rows := by
  rw [rank, ← spl_length]
  have hn1 : ((List.range (2 ^ w)).filter (canB rows)).Nodup := List.Pairwise.filter _ List.nodup_range
  have hn2 := spl_nodup (steps_rref rows).1
  apply Nat.le_antisymm
  · refine nodup_length hn1 fun x hx => ?_
    rw [List.mem_filter] at hx
    exact mem_spl.2 ((steps_sp rows x).2 ((canB_iff rows x).1 hx.2))
  · refine nodup_length hn2 fun x hx => ?_
    have hs := (steps_sp rows x).1 (mem_spl.1 hx)
    exact List.mem_filter.2 ⟨List.mem_range.2 (Sp.lt h hs), (canB_iff rows x).2 hs⟩

/- The parity of the bits that are 1. -/
def par : Nat → Nat → Bool
  | 0, _ => false
  | k + 1, n => par k n ^^ n.testBit k
theorem cnt_par (k n : Nat) : cnt k n % 2 = (par k n).toNat := by
  induction k with
  | zero => rfl
  | succ k ih =>
    simp only [cnt, par]
    rw [← Nat.toNat_testBit]
    cases hp : par k n <;> cases n.testBit k <;> rw [hp] at ih <;> simp at ih ⊢ <;> omega
theorem par_xor (k a b : Nat) : par k (a ^^^ b) = (par k a ^^ par k b) := by
  induction k with
  | zero => rfl
  | succ k ih =>
    simp only [par, ih, Nat.testBit_xor]
    cases par k a <;> cases par k b <;> cases a.testBit k <;> cases b.testBit k <;> rfl
def dotB (w x y : Nat) : Bool := par w (x &&& y)
theorem dotB_cnt (w x y : Nat) : cnt w (x &&& y) % 2 = (dotB w x y).toNat := cnt_par w _
theorem dotB_comm (w x y : Nat) : dotB w x y = dotB w y x := by rw [dotB, dotB, Nat.and_comm]
theorem dotB_xor (w x a b : Nat) : dotB w x (a ^^^ b) = (dotB w x a ^^ dotB w x b) := by
  unfold dotB
  rw [← par_xor]
  congr 1
  apply Nat.eq_of_testBit_eq
  intro i
  simp only [Nat.testBit_and, Nat.testBit_xor]
  cases x.testBit i <;> cases a.testBit i <;> cases b.testBit i <;> rfl
theorem par_zero (k : Nat) : par k 0 = false := by
  induction k with
  | zero => rfl
  | succ k ih => simp [par, ih]
theorem dotB_zero (w x : Nat) : dotB w x 0 = false := by simp [dotB, par_zero]

/-- Orthogonal to all rows. -/
def Nul (w : Nat) (rows : List Nat) (x : Nat) : Prop := x < 2 ^ w ∧ ∀ r ∈ rows, dotB w x r = false
theorem nul_steps (w : Nat) (rows : List Nat) (x : Nat) : Nul w (steps rows) x ↔ Nul w rows x := by
  have key : ∀ {a b : List Nat}, (∀ y, Sp a y → Sp b y) → Nul w b x → Nul w a x := fun {a b} h hn =>
    ⟨hn.1, fun r hr => Sp.all (f := dotB w x) (dotB_zero w x) (dotB_xor w x) hn.2 (h r (Sp.mem hr))⟩
  exact ⟨key fun y hy => (steps_sp rows y).2 hy, key fun y hy => (steps_sp rows y).1 hy⟩

/-- The numbers below w that are no row's top. -/
def freeB (S : List Nat) (k : Nat) : Bool := S.all fun s => s.log2 != k
/-- The null vector of a free place. -/
def nulK (S : List Nat) (k : Nat) : Nat := S.foldl (fun r s => if s.testBit k then r ||| 2 ^ s.log2 else r) (2 ^ k)
def allN (w : Nat) (S : List Nat) : List Nat := ((List.range w).filter (freeB S)).map (nulK S)

theorem nulK_bit (S : List Nat) (k i : Nat) : (nulK S k).testBit i = (decide (k = i) || S.any fun s => s.testBit k && decide (s.log2 = i)) := by
  have gen : ∀ (S : List Nat) (a : Nat), (S.foldl (fun r s => if s.testBit k then r ||| 2 ^ s.log2 else r) a).testBit i = (a.testBit i || S.any fun s => s.testBit k && decide (s.log2 = i)) := by
    intro S
    induction S with
    | nil => intro a; simp
    | cons s S ih =>
      intro a
      rw [List.foldl_cons, ih, List.any_cons]
      by_cases h : s.testBit k = true
      · simp only [h, if_true, Nat.testBit_or, Nat.testBit_two_pow, Bool.true_and, Bool.or_assoc]
      · simp only [h, Bool.false_eq_true, if_false] at *
        simp
  rw [nulK, gen, Nat.testBit_two_pow]

/-- The parity of a number with two bits at most. -/
theorem par_one {w n j : Nat} (hj : j < w) (h : ∀ i, i < w → n.testBit i = decide (i = j)) : par w n = true := by
  have gen : ∀ k, k ≤ w → par k n = decide (j < k) := by
    intro k
    induction k with
    | zero => intro _; simp [par]
    | succ k ih =>
      intro hk
      rw [par, ih (by omega), h k (by omega)]
      by_cases e : k = j
      · subst e; simp
      · rcases Nat.lt_or_ge j k with h1 | h1
        · have h2 : j < k + 1 := by omega
          simp [h1, h2, e]
        · have h2 : ¬ j < k + 1 := by omega
          have h3 : ¬ j < k := by omega
          simp [h2, h3, e]
  rw [gen w (Nat.le_refl _)]; simpa using hj
theorem par_none {w n : Nat} (h : ∀ i, i < w → n.testBit i = false) : par w n = false := by
  induction w with
  | zero => rfl
  | succ k ih => rw [par, ih (fun i hi => h i (by omega)), h k (by omega)]; rfl

theorem free_ne {S : List Nat} {k : Nat} (h : freeB S k = true) : ∀ s ∈ S, s.log2 ≠ k := by
  intro s hs
  have := List.all_eq_true.1 h s hs
  simpa using this

theorem nulK_free {S : List Nat} {k i : Nat} (hi : freeB S i = true) : (nulK S k).testBit i = decide (k = i) := by
  rw [nulK_bit]
  have : (S.any fun s => s.testBit k && decide (s.log2 = i)) = false := by
    rw [List.any_eq_false]
    intro s hs
    have := free_ne hi s hs
    simp [this]
  rw [this, Bool.or_false]

theorem nulK_lt {S : List Nat} {w k : Nat} (hS : ∀ s ∈ S, s ≠ 0 ∧ s < 2 ^ w) (hk : k < w) : nulK S k < 2 ^ w := by
  apply Nat.lt_pow_two_of_testBit
  intro i hi
  rw [nulK_bit]
  have h1 : decide (k = i) = false := decide_eq_false (by omega)
  have h2 : (S.any fun s => s.testBit k && decide (s.log2 = i)) = false := by
    rw [List.any_eq_false]
    intro s hs
    have := log2_lt (hS s hs).1 (hS s hs).2
    have : ¬ s.log2 = i := by omega
    simp [this]
  rw [h1, h2]; rfl

theorem nulK_nul {S : List Nat} {w k : Nat} (hR : Rref S) (hS : ∀ s ∈ S, s < 2 ^ w) (hk : k < w) (hf : freeB S k = true) : Nul w S (nulK S k) := by
  refine ⟨nulK_lt (fun s hs => ⟨hR.1.ne s hs, hS s hs⟩) hk, fun s hs => ?_⟩
  have hs0 := hR.1.ne s hs
  have htop := log2_lt hs0 (hS s hs)
  by_cases hb : s.testBit k = true
  · have e : nulK S k &&& s = 2 ^ k ^^^ 2 ^ s.log2 := by
      apply Nat.eq_of_testBit_eq
      intro i
      rw [Nat.testBit_and, nulK_bit, Nat.testBit_xor, Nat.testBit_two_pow, Nat.testBit_two_pow]
      have hne := free_ne hf s hs
      by_cases h1 : k = i
      · subst h1
        simp [hb, hne]
      · by_cases h2 : s.log2 = i
        · subst h2
          have : (S.any fun t => t.testBit k && decide (t.log2 = s.log2)) = true := List.any_eq_true.2 ⟨s, hs, by simp [hb]⟩
          simp [this, log2_bit hs0, h1]
        · simp only [h1, h2, decide_false, Bool.false_or, Bool.bne_false]
          rw [Bool.and_eq_false_iff]
          by_cases h3 : (S.any fun t => t.testBit k && decide (t.log2 = i)) = true
          · right
            obtain ⟨t, ht, h4⟩ := List.any_eq_true.1 h3
            have h5 : t.log2 = i := by simp at h4; exact h4.2
            rw [← h5]; exact hR.2 s hs t ht (fun e => h2 (by rw [e]; exact h5))
          · left; simpa using h3
    rw [dotB, e, par_xor, par_one hk (fun i _ => by rw [Nat.testBit_two_pow]; exact decide_eq_decide.2 eq_comm), par_one htop (fun i _ => by rw [Nat.testBit_two_pow]; exact decide_eq_decide.2 eq_comm)]
    rfl
  · rw [dotB]
    apply par_none
    intro i _
    rw [Nat.testBit_and, nulK_bit, Bool.and_eq_false_iff]
    by_cases h1 : k = i
    · right; rw [← h1]; simpa using hb
    · by_cases h3 : (S.any fun t => t.testBit k && decide (t.log2 = i)) = true
      · right
        obtain ⟨t, ht, h4⟩ := List.any_eq_true.1 h3
        have h5 : t.testBit k = true ∧ t.log2 = i := by simpa using h4
        rw [← h5.2]; exact hR.2 s hs t ht (fun e => hb (by rw [e]; exact h5.1))
      · left
        simp only [h1, decide_false, Bool.false_or]; simpa using h3

theorem Nul.xor {w : Nat} {S : List Nat} {x y : Nat} (hx : Nul w S x) (hy : Nul w S y) : Nul w S (x ^^^ y) :=
  ⟨Nat.xor_lt_two_pow hx.1 hy.1, fun r hr => by rw [dotB_comm, dotB_xor, dotB_comm w r x, dotB_comm w r y, hx.2 r hr, hy.2 r hr]; rfl⟩
theorem Nul.zero (w : Nat) (S : List Nat) : Nul w S 0 := ⟨Nat.two_pow_pos w, fun r _ => by rw [dotB_comm]; exact dotB_zero w r⟩

/-- What x has at free places, made of the null vectors of these places. -/
def nulSum (S : List Nat) (x : Nat) : List Nat → Nat
  | [] => 0
  | k :: F => (if x.testBit k then nulK S k else 0) ^^^ nulSum S x F
theorem nulSum_sp {S : List Nat} {x : Nat} : ∀ (F : List Nat), Sp (F.map (nulK S)) (nulSum S x F)
  | [] => rfl
  | k :: F => by
    rw [nulSum, List.map_cons]
    split
    · right
      rw [Nat.xor_comm (nulK S k), xor_cancel]
      exact nulSum_sp F
    · rw [Nat.zero_xor]; exact Or.inl (nulSum_sp F)
theorem nulSum_bit {S : List Nat} {x i : Nat} (hi : freeB S i = true) : ∀ {F : List Nat}, F.Nodup → (nulSum S x F).testBit i = (decide (i ∈ F) && x.testBit i)
  | [], _ => by simp [nulSum]
  | k :: F, h => by
    rw [List.nodup_cons] at h
    rw [nulSum, Nat.testBit_xor, nulSum_bit hi h.2]
    by_cases e : k = i
    · subst e
      have hk : decide (k ∈ F) = false := decide_eq_false h.1
      rw [hk]
      split
      · rename_i hb; simp [nulK_free hi, hb]
      · rename_i hb; simp at hb; simp [hb]
    · have h1 : (if x.testBit k then nulK S k else 0).testBit i = false := by
        split
        · rw [nulK_free hi]; exact decide_eq_false e
        · simp
      have h2 : decide (i ∈ k :: F) = decide (i ∈ F) := decide_eq_decide.2 (by
        rw [List.mem_cons]; exact ⟨fun h => h.resolve_left (fun e' => e e'.symm), Or.inr⟩)
      rw [h1, h2]; simp

/-- The null space is the span of the null vectors of the free places. -/
theorem allN_sp {w : Nat} {S : List Nat} (hR : Rref S) (hS : ∀ s ∈ S, s < 2 ^ w) (x : Nat) : Sp (allN w S) x ↔ Nul w S x := by
  have hgood : ∀ r ∈ allN w S, Nul w S r := by
    intro r hr
    obtain ⟨k, hk, rfl⟩ := List.mem_map.1 hr
    rw [List.mem_filter] at hk
    exact nulK_nul hR hS (List.mem_range.1 hk.1) hk.2
  have hspan : ∀ {y}, Sp (allN w S) y → Nul w S y := by
    intro y hy
    have : ∀ (l : List Nat), (∀ r ∈ l, Nul w S r) → ∀ {y}, Sp l y → Nul w S y := by
      intro l
      induction l with
      | nil => intro _ y hy
               have hy' : y = 0 := hy
               subst hy'; exact Nul.zero w S
      | cons r l ih =>
        intro h y hy
        rcases hy with hy | hy
        · exact ih (fun s hs => h s (by simp [hs])) hy
        · have := (ih (fun s hs => h s (by simp [hs])) hy).xor (h r (by simp))
          rwa [xor_cancel] at this
    exact this _ hgood hy
  refine ⟨hspan, fun hx => ?_⟩
  have hF : ((List.range w).filter (freeB S)).Nodup := List.Pairwise.filter _ List.nodup_range
  have hz : Sp (allN w S) (nulSum S x ((List.range w).filter (freeB S))) := nulSum_sp _
  have hy := hx.xor (hspan hz)
  generalize hzz : nulSum S x ((List.range w).filter (freeB S)) = z at *
  have hfree : ∀ i, i < w → freeB S i = true → (x ^^^ z).testBit i = false := by
    intro i hi hf
    rw [Nat.testBit_xor, ← hzz, nulSum_bit hf hF]
    have : decide (i ∈ (List.range w).filter (freeB S)) = true := decide_eq_true (List.mem_filter.2 ⟨List.mem_range.2 hi, hf⟩)
    rw [this]; simp
  have hnf : ∀ i, freeB S i = false → ∃ s ∈ S, s.log2 = i := by
    intro i hi
    apply Classical.byContradiction
    intro hno
    have : freeB S i = true := List.all_eq_true.2 fun s hs => by
      have : s.log2 ≠ i := fun e => hno ⟨s, hs, e⟩
      simpa using this
    rw [this] at hi; cases hi
  have htop : ∀ s ∈ S, (x ^^^ z).testBit s.log2 = false := by
    intro s hs
    apply Classical.byContradiction
    intro hb
    have hb : (x ^^^ z).testBit s.log2 = true := by simpa using hb
    have hd := hy.2 s hs
    have hs0 := hR.1.ne s hs
    rw [dotB, par_one (log2_lt hs0 (hS s hs))] at hd
    · cases hd
    · intro i hi
      rw [Nat.testBit_and]
      by_cases e : i = s.log2
      · subst e; simp [hb, log2_bit hs0]
      · rw [decide_eq_false e, Bool.and_eq_false_iff]
        cases hf : freeB S i
        · right
          obtain ⟨t, ht, rfl⟩ := hnf i hf
          exact hR.2 s hs t ht (fun e' => e (by rw [e']))
        · left; exact hfree i hi hf
  have hzero : x ^^^ z = 0 := by
    apply Nat.eq_of_testBit_eq
    intro i
    rw [Nat.zero_testBit]
    rcases Nat.lt_or_ge i w with hi | hi
    · cases hf : freeB S i
      · obtain ⟨s, hs, rfl⟩ := hnf i hf
        exact htop s hs
      · exact hfree i hi hf
    · exact bit_of_lt (Nat.lt_of_lt_of_le hy.1 (Nat.pow_le_pow_right (by decide) hi))
  rw [xor_zero_eq hzero]; exact hz

theorem allN_indep (S : List Nat) : ∀ (F front : List Nat), F.Nodup → (∀ k ∈ F, freeB S k = true) → (∀ k ∈ F, k ∉ front) → Indep (front.map (nulK S)) (F.map (nulK S))
  | [], _, _, _, _ => trivial
  | k :: F, front, hn, hf, hd => by
    rw [List.nodup_cons] at hn
    refine ⟨fun hs => ?_, ?_⟩
    · have := Sp.all (f := fun x => x.testBit k) (by simp) (fun a b => Nat.testBit_xor ..) (fun r hr => by
        obtain ⟨j, hj, rfl⟩ := List.mem_map.1 hr
        rw [nulK_free (hf k (by simp))]
        exact decide_eq_false (fun e => hd k (by simp) (e ▸ hj))) hs
      rw [nulK_free (hf k (by simp))] at this
      simp at this
    · have := allN_indep S F (k :: front) hn.2 (fun j hj => hf j (by simp [hj])) (fun j hj hm => by
        rcases List.mem_cons.1 hm with rfl | hm
        · exact hn.1 hj
        · exact hd j (by simp [hj]) hm)
      simpa using this

theorem free_count {w : Nat} {S : List Nat} (hE : Ech S) (hS : ∀ s ∈ S, s < 2 ^ w) : ((List.range w).filter (freeB S)).length + S.length = w := by
  have hpart : ∀ (l : List Nat), (l.filter (freeB S)).length + (l.filter fun k => !freeB S k).length = l.length := by
    intro l
    induction l with
    | nil => rfl
    | cons k l ih => cases hf : freeB S k <;> simp [hf] <;> omega
  have h1 := hpart (List.range w)
  have h2 : ((List.range w).filter fun k => !freeB S k).length = (S.map Nat.log2).length := by
    have hn1 : ((List.range w).filter fun k => !freeB S k).Nodup := List.Pairwise.filter _ List.nodup_range
    have hn2 : (S.map Nat.log2).Nodup := List.Pairwise.imp (fun {a b} h => by omega) hE.tops
    apply Nat.le_antisymm
    · refine nodup_length hn1 fun k hk => ?_
      rw [List.mem_filter] at hk
      apply Classical.byContradiction
      intro hno
      have : freeB S k = true := List.all_eq_true.2 fun s hs => by
        have : s.log2 ≠ k := fun e => hno (List.mem_map.2 ⟨s, hs, e⟩)
        simpa using this
      rw [this] at hk; simp at hk
    · refine nodup_length hn2 fun k hk => ?_
      obtain ⟨s, hs, rfl⟩ := List.mem_map.1 hk
      refine List.mem_filter.2 ⟨List.mem_range.2 (log2_lt (hE.ne s hs) (hS s hs)), ?_⟩
      cases hf : freeB S s.log2
      · rfl
      · exact absurd rfl (free_ne hf s hs)
  rw [List.length_map] at h2
  rw [List.length_range] at h1
  omega

def nullL (w : Nat) (rows : List Nat) : List Nat := steps (allN w (steps rows))
theorem null_sp {w : Nat} {rows : List Nat} (h : ∀ r ∈ rows, r < 2 ^ w) (x : Nat) : Sp (nullL w rows) x ↔ Nul w rows x :=
  ((steps_sp _ x).trans (allN_sp (steps_rref rows) (steps_lt h) x)).trans (nul_steps w rows x)
theorem null_length {w : Nat} {rows : List Nat} (h : ∀ r ∈ rows, r < 2 ^ w) : (nullL w rows).length + rank rows = w := by
  have h1 : rank (allN w (steps rows)) = (allN w (steps rows)).length := by
    apply rank_indep
    have := allN_indep (steps rows) ((List.range w).filter (freeB (steps rows))) [] (List.Pairwise.filter _ List.nodup_range) (fun k hk => (List.mem_filter.1 hk).2) (fun k _ hm => by cases hm)
    simpa [allN] using this
  have h2 := free_count (steps_rref rows).1 (steps_lt h)
  have h3 : (nullL w rows).length = rank (allN w (steps rows)) := rfl
  rw [h3, h1, allN, List.length_map]
  exact h2
theorem null_unique {w : Nat} {rows l : List Nat} (h : ∀ r ∈ rows, r < 2 ^ w) (hl : Rref l) (hs : ∀ x, Sp l x ↔ Nul w rows x) : l = nullL w rows :=
  hl.unique (steps_rref _) fun x => (hs x).trans (null_sp h x).symm
end Go.Proofs.Ytgakklanboabjaa

/- G5 -/
namespace Go.Proofs.Ytgakklanboabjaa

/-- Column k: bit i is bit k of row i. -/
def col : List Nat → Nat → Nat
  | [], _ => 0
  | r :: rows, k => 2 * col rows k + (r.testBit k).toNat
def turn (w : Nat) (rows : List Nat) : List Nat := (List.range w).map (col rows)

theorem testBit_double (n : Nat) (b : Bool) (i : Nat) : (2 * n + b.toNat).testBit i = match i with | 0 => b | j + 1 => n.testBit j := by
  cases i with
  | zero => rw [Nat.testBit_zero]; cases b <;> simp <;> omega
  | succ j =>
    rw [Nat.testBit_succ]
    congr 1
    cases b <;> simp <;> omega
theorem col_bit : ∀ (rows : List Nat) (k i : Nat), (col rows k).testBit i = (rows.getD i 0).testBit k
  | [], k, i => by simp [col]
  | r :: rows, k, i => by
    rw [col, testBit_double]
    cases i with
    | zero => simp
    | succ j => simpa using col_bit rows k j
theorem col_lt : ∀ (rows : List Nat) (k : Nat), col rows k < 2 ^ rows.length
  | [], k => by simp [col]
  | r :: rows, k => by
    have := col_lt rows k
    simp only [col, List.length_cons, Nat.pow_succ]
    have : (r.testBit k).toNat ≤ 1 := by cases r.testBit k <;> simp
    omega

/-- The sum of the rows of S whose top bit x has. -/
def sumS : List Nat → Nat → Nat
  | [], _ => 0
  | s :: S, x => (if x.testBit s.log2 then s else 0) ^^^ sumS S x
theorem red_sum : ∀ {S : List Nat} {x : Nat}, Rref S → red S x = x ^^^ sumS S x
  | [], x, _ => by simp [red, sumS]
  | s :: S, x, h => by
    obtain ⟨⟨hs, hlt, hl⟩, hr⟩ := h
    have hR : Rref S := ⟨hl, fun a ha b hb => hr a (by simp [ha]) b (by simp [hb])⟩
    have hsame : ∀ (T : List Nat), (∀ t ∈ T, t ∈ S) → sumS T (x ^^^ s) = sumS T x := by
      intro T
      induction T with
      | nil => intro _; rfl
      | cons t T ih =>
        intro hT
        have htS := hT t (by simp)
        have hne : s ≠ t := fun e => by have := hlt t htS; rw [← e] at this; have := Nat.log2_self_le hs; omega
        have : s.testBit t.log2 = false := hr s (by simp) t (by simp [htS]) hne
        rw [sumS, sumS, ih (fun u hu => hT u (by simp [hu])), Nat.testBit_xor, this, Bool.xor_false]
    rw [red, sumS]
    split
    · rw [red_sum hR, hsame S (fun t ht => ht), Nat.xor_assoc]
    · rw [red_sum hR, Nat.zero_xor]
/-- A number of the span is the sum of the rows whose top bits it has. -/
theorem sum_of_sp {S : List Nat} {x : Nat} (h : Rref S) (hx : Sp S x) : x = sumS S x := by
  have h0 := (sp_red_iff h).2 hx
  rw [red_sum h] at h0
  exact xor_zero_eq h0
theorem sumS_bit (k : Nat) : ∀ (S : List Nat) (x : Nat), (sumS S x).testBit k = S.foldr (fun s b => (x.testBit s.log2 && s.testBit k) ^^ b) false
  | [], x => by simp [sumS]
  | s :: S, x => by
    rw [sumS, Nat.testBit_xor, sumS_bit k S x, List.foldr_cons]
    congr 1
    split
    · rename_i h; simp [h]
    · rename_i h; simp at h; simp [h]

/-- Column k as a sum of the columns at the tops. -/
def colS (rows : List Nat) (k : Nat) : List Nat → Nat
  | [] => 0
  | s :: S => (if s.testBit k then col rows s.log2 else 0) ^^^ colS rows k S
theorem colS_bit (rows : List Nat) (k i : Nat) : ∀ (S : List Nat), (colS rows k S).testBit i = S.foldr (fun s b => ((rows.getD i 0).testBit s.log2 && s.testBit k) ^^ b) false
  | [] => by simp [colS]
  | s :: S => by
    rw [colS, Nat.testBit_xor, colS_bit rows k i S, List.foldr_cons]
    congr 1
    split
    · rename_i h; simp [h, col_bit]
    · rename_i h; simp at h; simp [h]
theorem colS_sp (rows : List Nat) (k : Nat) : ∀ (S : List Nat), Sp (S.map fun s => col rows s.log2) (colS rows k S)
  | [] => rfl
  | s :: S => by
    rw [colS, List.map_cons]
    split
    · right
      rw [Nat.xor_comm (col rows s.log2), xor_cancel]
      exact colS_sp rows k S
    · rw [Nat.zero_xor]; exact Or.inl (colS_sp rows k S)
theorem col_sum (rows : List Nat) (k : Nat) : col rows k = colS rows k (steps rows) := by
  apply Nat.eq_of_testBit_eq
  intro i
  rw [col_bit, colS_bit]
  have hx : Sp (steps rows) (rows.getD i 0) := by
    rw [steps_sp]
    by_cases hi : i < rows.length
    · exact Sp.mem (by simp [List.getD, hi])
    · rw [show rows.getD i 0 = 0 by simp [List.getD, hi]]; exact Sp.zero rows
  rw [← sumS_bit k (steps rows) (rows.getD i 0), ← sum_of_sp (steps_rref rows) hx]

theorem rank_turn_le (w : Nat) (rows : List Nat) : rank (turn w rows) ≤ rank rows := by
  have h1 : rank (turn w rows) ≤ rank ((steps rows).map fun s => col rows s.log2) := rank_mono fun r hr => by
    obtain ⟨k, _, rfl⟩ := List.mem_map.1 hr
    rw [col_sum]; exact colS_sp rows k (steps rows)
  have h2 := rank_le_length ((steps rows).map fun s => col rows s.log2)
  rw [List.length_map] at h2
  exact Nat.le_trans h1 h2

theorem turn_turn {w : Nat} {rows : List Nat} (h : ∀ r ∈ rows, r < 2 ^ w) : turn rows.length (turn w rows) = rows := by
  apply List.ext_getElem
  · simp [turn]
  · intro i h1 h2
    simp only [turn, List.getElem_map, List.getElem_range]
    apply Nat.eq_of_testBit_eq
    intro k
    have e := col_bit (turn w rows) i k
    rw [turn] at e
    rw [e]
    rcases Nat.lt_or_ge k w with hk | hk
    · simp [List.getD, hk, col_bit, h2]
    · have : rows[i] < 2 ^ k := Nat.lt_of_lt_of_le (h _ (List.getElem_mem h2)) (Nat.pow_le_pow_right (by decide) hk)
      rw [bit_of_lt this]
      have hk' : ¬ k < w := by omega
      simp [List.getD, hk']
/-- The transpose has the rank of the rows. -/
theorem rank_turn {w : Nat} {rows : List Nat} (h : ∀ r ∈ rows, r < 2 ^ w) : rank (turn w rows) = rank rows := by
  apply Nat.le_antisymm (rank_turn_le w rows)
  have := rank_turn_le rows.length (turn w rows)
  rwa [turn_turn h] at this

theorem sp_snoc {l : List Nat} {r x : Nat} : Sp (l ++ [r]) x ↔ Sp l x ∨ Sp l (x ^^^ r) := by
  have : Sp (l ++ [r]) x ↔ Sp (r :: l) x :=
    ⟨Sp.mono fun s hs => Sp.mem (by simp at hs ⊢; exact hs.symm), Sp.mono fun s hs => Sp.mem (by simp at hs ⊢; exact hs.symm)⟩
  exact this

/-- The sum of the first k rows whose bits are 1 in m. -/
def sm (rows : List Nat) : Nat → Nat → Nat
  | 0, _ => 0
  | k + 1, m => sm rows k m ^^^ (if m.testBit k then rows.getD k 0 else 0)
theorem sm_congr {rows : List Nat} {m m' : Nat} : ∀ {k : Nat}, (∀ i, i < k → m.testBit i = m'.testBit i) → sm rows k m = sm rows k m'
  | 0, _ => rfl
  | k + 1, h => by rw [sm, sm, sm_congr (fun i hi => h i (by omega)), h k (by omega)]
theorem take_snoc' {rows : List Nat} {k : Nat} (hk : k < rows.length) : rows.take (k + 1) = rows.take k ++ [rows.getD k 0] := by
  rw [List.take_succ_eq_append_getElem hk]; simp [List.getD, hk]
theorem sm_sp {rows : List Nat} {m : Nat} : ∀ {k : Nat}, k ≤ rows.length → Sp (rows.take k) (sm rows k m)
  | 0, _ => Sp.zero _
  | k + 1, h => by
    rw [take_snoc' (by omega), sp_snoc, sm]
    split
    · right; rw [xor_cancel]; exact sm_sp (by omega)
    · left; rw [Nat.xor_zero]; exact sm_sp (by omega)
theorem pow_bit {m k i : Nat} (hm : m < 2 ^ k) : (m + 2 ^ k).testBit i = (m.testBit i || decide (k = i)) := by
  have e : m + 2 ^ k = 2 ^ k ||| m := by
    have := Nat.two_pow_add_eq_or_of_lt hm 1
    rw [Nat.mul_one] at this; omega
  rw [e, Nat.testBit_or, Nat.testBit_two_pow, Bool.or_comm]
theorem sm_up {rows : List Nat} {k m : Nat} (hm : m < 2 ^ k) : sm rows (k + 1) (m + 2 ^ k) = sm rows k m ^^^ rows.getD k 0 := by
  rw [sm, if_pos (by rw [pow_bit hm]; simp)]
  congr 1
  apply sm_congr
  intro i hi
  rw [pow_bit hm, decide_eq_false (by omega), Bool.or_false]
theorem sm_low {rows : List Nat} {k m : Nat} (hm : m < 2 ^ k) : sm rows (k + 1) m = sm rows k m := by
  rw [sm, if_neg (by rw [bit_of_lt hm]; decide), Nat.xor_zero]

/-- The least choice of the first k rows whose sum is 'want', by the greatest index first. -/
def mkM (rows : List Nat) : Nat → Nat → Nat
  | 0, _ => 0
  | k + 1, want => if canB (rows.take k) want = true then mkM rows k want else mkM rows k (want ^^^ rows.getD k 0) + 2 ^ k
theorem mkM_spec {rows : List Nat} : ∀ {k want : Nat}, k ≤ rows.length → Sp (rows.take k) want →
    sm rows k (mkM rows k want) = want ∧ mkM rows k want < 2 ^ k ∧ ∀ m, m < 2 ^ k → sm rows k m = want → mkM rows k want ≤ m
  | 0, want, _, h => by
    have h' : want = 0 := h
    subst h'
    exact ⟨rfl, Nat.zero_lt_one, fun m _ _ => Nat.zero_le _⟩
  | k + 1, want, hk, h => by
    by_cases hc : canB (rows.take k) want = true
    · obtain ⟨h1, h2, h3⟩ := mkM_spec (k := k) (want := want) (by omega) ((canB_iff _ _).1 hc)
      rw [mkM, if_pos hc]
      refine ⟨by rw [sm_low h2]; exact h1, Nat.lt_trans h2 (Nat.pow_lt_pow_right (by decide) (by omega)), fun m hm e => ?_⟩
      rcases Nat.lt_or_ge m (2 ^ k) with hlt | hge
      · exact h3 m hlt (by rw [← sm_low hlt]; exact e)
      · omega
    · rw [take_snoc' (by omega), sp_snoc] at h
      have hx : Sp (rows.take k) (want ^^^ rows.getD k 0) := by
        rcases h with h | h
        · exact absurd ((canB_iff _ _).2 h) hc
        · exact h
      obtain ⟨h1, h2, h3⟩ := mkM_spec (k := k) (want := want ^^^ rows.getD k 0) (by omega) hx
      rw [mkM, if_neg hc]
      refine ⟨by rw [sm_up h2, h1, xor_cancel], by rw [Nat.pow_succ]; omega, fun m hm e => ?_⟩
      rcases Nat.lt_or_ge m (2 ^ k) with hlt | hge
      · exfalso
        rw [sm_low hlt] at e
        exact hc ((canB_iff _ _).2 (by rw [← e]; exact sm_sp (by omega)))
      · have hm' : m - 2 ^ k < 2 ^ k := by rw [Nat.pow_succ] at hm; omega
        have e' : sm rows (k + 1) (m - 2 ^ k + 2 ^ k) = want := by rw [Nat.sub_add_cancel hge]; exact e
        rw [sm_up hm'] at e'
        have := h3 (m - 2 ^ k) hm' (by rw [← e', xor_cancel])
        omega
end Go.Proofs.Ytgakklanboabjaa

/- G6 -/
namespace Go.Proofs.Ytgakklanboabjaa

abbrev Lad := List (Nat × Nat)
def lat (L : Lad) (k : Nat) : Nat × Nat := L.getD k (0, 0)
def addP (a b : Nat × Nat) : Nat × Nat := (a.1 ^^^ b.1, a.2 ^^^ b.2)

theorem lat_set (L : Lad) (i : Nat) (p : Nat × Nat) (t : Nat) (hi : i < L.length) : lat (L.set i p) t = if i = t then p else lat L t := by
  unfold lat
  simp only [List.getD, List.getElem?_set, hi, if_true]
  split <;> rfl
theorem lat_out {L : Lad} {t : Nat} (h : L.length ≤ t) : lat L t = (0, 0) := by
  simp [lat, List.getD, h]
theorem lad_mem {L : Lad} {x : Nat} : x ∈ L.map Prod.fst ↔ ∃ t, t < L.length ∧ (lat L t).1 = x := by
  constructor
  · intro h
    obtain ⟨p, hp, rfl⟩ := List.mem_map.1 h
    obtain ⟨t, ht, rfl⟩ := List.getElem_of_mem hp
    exact ⟨t, ht, by simp [lat, List.getD, ht]⟩
  · rintro ⟨t, ht, rfl⟩
    exact List.mem_map.2 ⟨L[t], List.getElem_mem ht, by simp [lat, List.getD, ht]⟩
theorem lad_sp (L : Lad) (t : Nat) : Sp (L.map Prod.fst) (lat L t).1 := by
  by_cases ht : t < L.length
  · exact Sp.mem (lad_mem.2 ⟨t, ht, rfl⟩)
  · rw [lat_out (by omega)]; exact Sp.zero _

/-- Row i is no sum of those ahead of it. -/
def New (rows : List Nat) (i : Nat) : Prop := ¬ Sp (rows.take i) (rows.getD i 0)

theorem sm_xor (rows : List Nat) (m m' : Nat) : ∀ k, sm rows k (m ^^^ m') = sm rows k m ^^^ sm rows k m'
  | 0 => by simp [sm]
  | k + 1 => by
    rw [sm, sm, sm, sm_xor rows m m' k, Nat.testBit_xor]
    cases m.testBit k <;> cases m'.testBit k <;> simp
    · rw [Nat.xor_assoc]
    · rw [Nat.xor_assoc, Nat.xor_comm (sm rows k m'), Nat.xor_assoc]
    · rw [Nat.xor_assoc, ← Nat.xor_assoc (rows[k]?.getD 0), Nat.xor_comm (rows[k]?.getD 0), Nat.xor_assoc (sm rows k m'), Nat.xor_self, Nat.xor_zero]
theorem sm_zero (rows : List Nat) : ∀ k, sm rows k 0 = 0
  | 0 => rfl
  | k + 1 => by rw [sm, sm_zero rows k]; simp

/-- p's second half chooses rows, none of them a sum of those ahead of it, whose sum is p's first half. -/
structure Fits (rows : List Nat) (k : Nat) (p : Nat × Nat) : Prop where
  lt : p.2 < 2 ^ k
  sum : sm rows k p.2 = p.1
  new : ∀ i, p.2.testBit i = true → New rows i

theorem Fits.zero (rows : List Nat) (k : Nat) : Fits rows k (0, 0) := ⟨Nat.two_pow_pos k, sm_zero rows k, fun i h => by simp at h⟩
theorem Fits.add {rows : List Nat} {k : Nat} {a b : Nat × Nat} (ha : Fits rows k a) (hb : Fits rows k b) : Fits rows k (addP a b) := by
  refine ⟨Nat.xor_lt_two_pow ha.lt hb.lt, ?_, fun i h => ?_⟩
  · show sm rows k (a.2 ^^^ b.2) = a.1 ^^^ b.1
    rw [sm_xor, ha.sum, hb.sum]
  · have h' : (a.2.testBit i ^^ b.2.testBit i) = true := by rw [← Nat.testBit_xor]; exact h
    cases h1 : a.2.testBit i
    · rw [h1] at h'; exact hb.new i (by simpa using h')
    · exact ha.new i h1
theorem Fits.up {rows : List Nat} {k : Nat} {p : Nat × Nat} (h : Fits rows k p) : Fits rows (k + 1) p :=
  ⟨Nat.lt_trans h.lt (Nat.pow_lt_pow_right (by decide) (Nat.lt_succ_self k)), by rw [sm_low h.lt]; exact h.sum, h.new⟩

/-- A ladder over the first k rows. -/
structure LadB (rows : List Nat) (k : Nat) (L : Lad) : Prop where
  len : L.length = 16
  top : ∀ t, (lat L t).1 ≠ 0 → (lat L t).1.log2 = t
  fits : ∀ t, Fits rows k (lat L t)
  span : ∀ x, Sp (rows.take k) x → Sp (L.map Prod.fst) x

theorem LadB.lt {rows : List Nat} {k : Nat} {L : Lad} (h : LadB rows k L) (t : Nat) : (lat L t).1 < 2 ^ (t + 1) := by
  by_cases h0 : (lat L t).1 = 0
  · rw [h0]; exact Nat.two_pow_pos _
  · have := Nat.lt_log2_self (n := (lat L t).1)
    rwa [h.top t h0] at this
theorem LadB.small {rows : List Nat} {k : Nat} {L : Lad} (h : LadB rows k L) (t : Nat) : (lat L t).1 < 65536 := by
  by_cases ht : t < 16
  · exact Nat.lt_of_lt_of_le (h.lt t) (Nat.le_trans (Nat.pow_le_pow_right (by decide) (show t + 1 ≤ 16 by omega)) (by decide))
  · rw [lat_out (by rw [h.len]; omega)]; decide
theorem LadB.back {rows : List Nat} {k : Nat} {L : Lad} (h : LadB rows k L) (hk : k ≤ rows.length) {x : Nat} (hx : Sp (L.map Prod.fst) x) : Sp (rows.take k) x := by
  refine Sp.mono (fun r hr => ?_) hx
  obtain ⟨t, _, rfl⟩ := lad_mem.1 hr
  rw [← (h.fits t).sum]; exact sm_sp hk

/-- The steps at places below k, the top one first. -/
def down (L : Lad) : Nat → List Nat
  | 0 => []
  | k + 1 => if (lat L k).1 = 0 then down L k else (lat L k).1 :: down L k

theorem down_mem {L : Lad} : ∀ {k x : Nat}, x ∈ down L k ↔ x ≠ 0 ∧ ∃ t, t < k ∧ (lat L t).1 = x
  | 0, x => by simp [down]
  | k + 1, x => by
    rw [down]
    split
    · rename_i h0
      rw [down_mem]
      constructor
      · rintro ⟨h, t, ht, e⟩; exact ⟨h, t, by omega, e⟩
      · rintro ⟨h, t, ht, e⟩
        refine ⟨h, t, ?_, e⟩
        rcases Nat.lt_or_eq_of_le (Nat.le_of_lt_succ ht) with h1 | h1
        · exact h1
        · subst h1; rw [h0] at e; exact absurd e.symm h
    · rename_i h0
      rw [List.mem_cons, down_mem]
      constructor
      · rintro (rfl | ⟨h, t, ht, e⟩)
        · exact ⟨h0, k, by omega, rfl⟩
        · exact ⟨h, t, by omega, e⟩
      · rintro ⟨h, t, ht, e⟩
        rcases Nat.lt_or_eq_of_le (Nat.le_of_lt_succ ht) with h1 | h1
        · exact Or.inr ⟨h, t, h1, e⟩
        · subst h1; exact Or.inl e.symm
def Topped (L : Lad) : Prop := ∀ t, (lat L t).1 ≠ 0 → (lat L t).1.log2 = t
theorem down_lt {L : Lad} (h : Topped L) {k x : Nat} (hx : x ∈ down L k) : x < 2 ^ k := by
  obtain ⟨h0, t, ht, rfl⟩ := down_mem.1 hx
  have h1 := Nat.lt_log2_self (n := (lat L t).1)
  rw [h t h0] at h1
  exact Nat.lt_of_lt_of_le h1 (Nat.pow_le_pow_right (by decide) ht)
theorem down_ech {L : Lad} (h : Topped L) : ∀ k, Ech (down L k)
  | 0 => trivial
  | k + 1 => by
    rw [down]
    split
    · exact down_ech h k
    · rename_i h0
      exact ⟨h0, fun s hs => by rw [h k h0]; exact down_lt h hs, down_ech h k⟩
theorem down_sp {L : Lad} {k : Nat} (hk : L.length ≤ k) (x : Nat) : Sp (down L k) x ↔ Sp (L.map Prod.fst) x := by
  constructor
  · refine Sp.mono fun s hs => ?_
    obtain ⟨_, t, _, rfl⟩ := down_mem.1 hs
    exact lad_sp L t
  · refine Sp.mono fun s hs => ?_
    obtain ⟨t, ht, rfl⟩ := lad_mem.1 hs
    by_cases h0 : (lat L t).1 = 0
    · rw [h0]; exact Sp.zero _
    · exact Sp.mem (down_mem.2 ⟨h0, t, by omega, rfl⟩)
theorem lad_top {L : Lad} (h : Topped L) {x : Nat} (hx : Sp (L.map Prod.fst) x) (h0 : x ≠ 0) : (lat L x.log2).1 ≠ 0 := by
  obtain ⟨t, ht, e⟩ := (down_ech h L.length).top ((down_sp (Nat.le_refl _) x).2 hx) h0
  obtain ⟨h1, j, hj, rfl⟩ := down_mem.1 ht
  rw [← e, h j h1]; exact h1

theorem lad_nil (rows : List Nat) : LadB rows 0 (List.replicate 16 (0, 0)) := by
  have hl : ∀ t, lat (List.replicate 16 (0, 0)) t = (0, 0) := fun t => by
    unfold lat; rw [List.getD_eq_getElem?_getD, List.getElem?_replicate]; split <;> rfl
  refine ⟨by simp, fun t h => by rw [hl t] at h; exact absurd rfl h, fun t => by rw [hl t]; exact Fits.zero rows 0, fun x h => ?_⟩
  have h' : x = 0 := by simpa [Sp] using h
  subst h'; exact Sp.zero _

/-- What is left of row k under way. -/
structure Now (rows : List Nat) (k : Nat) (L : Lad) (p : Nat × Nat) : Prop where
  lt : p.2 < 2 ^ (k + 1)
  sum : sm rows (k + 1) p.2 = p.1
  bit : p.2.testBit k = true
  new : ∀ i, p.2.testBit i = true → i = k ∨ New rows i
  sp : Sp (L.map Prod.fst) (rows.getD k 0 ^^^ p.1)
  small : p.1 < 65536

theorem now_start {rows : List Nat} {k : Nat} (L : Lad) (hs : rows.getD k 0 < 65536) : Now rows k L (rows.getD k 0, 2 ^ k) := by
  refine ⟨Nat.pow_lt_pow_right (by decide) (Nat.lt_succ_self k), ?_, ?_, fun i h => ?_, by rw [Nat.xor_self]; exact Sp.zero _, hs⟩
  · have := sm_up (rows := rows) (k := k) (m := 0) (Nat.two_pow_pos k)
    rwa [sm_zero, Nat.zero_add, Nat.zero_xor] at this
  · simp
  · left; rw [Nat.testBit_two_pow] at h; simpa using (of_decide_eq_true h).symm

theorem xor_top_lt {a b : Nat} (ha : a ≠ 0) (hb : b ≠ 0) (h : b.log2 = a.log2) : a ^^^ b < 2 ^ a.log2 := by
  apply lt_of_bit
  · exact Nat.xor_lt_two_pow Nat.lt_log2_self (by rw [← h]; exact Nat.lt_log2_self)
  · rw [Nat.testBit_xor, log2_bit ha, ← h, log2_bit hb]; rfl

theorem now_step {rows : List Nat} {k : Nat} {L : Lad} {p : Nat × Nat} (hL : LadB rows k L) (h : Now rows k L p) (h0 : p.1 ≠ 0) (ht : (lat L p.1.log2).1 ≠ 0) :
    Now rows k L (addP p (lat L p.1.log2)) ∧ (addP p (lat L p.1.log2)).1 < p.1 := by
  have hf := (hL.fits p.1.log2).up
  have hk := bit_of_lt (hL.fits p.1.log2).lt
  have hlt : p.1 ^^^ (lat L p.1.log2).1 < 2 ^ p.1.log2 := xor_top_lt h0 ht (hL.top _ ht)
  refine ⟨⟨Nat.xor_lt_two_pow h.lt hf.lt, ?_, ?_, fun i hi => ?_, ?_, ?_⟩, Nat.lt_of_lt_of_le hlt (Nat.log2_self_le h0)⟩
  · show sm rows (k + 1) (p.2 ^^^ _) = _
    rw [sm_xor, h.sum, hf.sum]; rfl
  · show (p.2 ^^^ _).testBit k = true
    rw [Nat.testBit_xor, h.bit, hk]; rfl
  · have h' : (p.2.testBit i ^^ (lat L p.1.log2).2.testBit i) = true := by rw [← Nat.testBit_xor]; exact hi
    cases h1 : p.2.testBit i
    · rw [h1] at h'; exact Or.inr ((hL.fits p.1.log2).new i (by simpa using h'))
    · exact h.new i h1
  · show Sp _ (rows.getD k 0 ^^^ (p.1 ^^^ (lat L p.1.log2).1))
    rw [← Nat.xor_assoc]; exact h.sp.xor (lad_sp L _)
  · exact Nat.xor_lt_two_pow (n := 16) h.small (hL.small _)

theorem now_zero {rows : List Nat} {k : Nat} {L : Lad} {p : Nat × Nat} (hL : LadB rows k L) (h : Now rows k L p) (h0 : p.1 = 0) (hk : k < rows.length) : LadB rows (k + 1) L := by
  refine ⟨hL.len, hL.top, fun t => (hL.fits t).up, fun x hx => ?_⟩
  have hr : Sp (L.map Prod.fst) (rows.getD k 0) := by have := h.sp; rwa [h0, Nat.xor_zero] at this
  rw [take_snoc' hk, sp_snoc] at hx
  rcases hx with hx | hx
  · exact hL.span x hx
  · have := (hL.span _ hx).xor hr
    rwa [xor_cancel] at this

theorem now_put {rows : List Nat} {k : Nat} {L : Lad} {p : Nat × Nat} (hL : LadB rows k L) (h : Now rows k L p) (h0 : p.1 ≠ 0) (ht : (lat L p.1.log2).1 = 0) (hk : k < rows.length) :
    p.1.log2 < 16 ∧ LadB rows (k + 1) (L.set p.1.log2 p) := by
  have h16 : p.1.log2 < 16 := log2_lt h0 h.small
  have hi : p.1.log2 < L.length := by rw [hL.len]; exact h16
  have hnew : New rows k := fun hs => by
    have h1 := (hL.span _ hs).xor h.sp
    rw [← Nat.xor_assoc, Nat.xor_self, Nat.zero_xor] at h1
    exact lad_top hL.top h1 h0 ht
  have hp : Fits rows (k + 1) p := ⟨h.lt, h.sum, fun i hi => by
    rcases h.new i hi with rfl | h2
    · exact hnew
    · exact h2⟩
  have hsub : ∀ x, Sp (L.map Prod.fst) x → Sp ((L.set p.1.log2 p).map Prod.fst) x := fun x => Sp.mono fun s hs => by
    obtain ⟨t, ht', rfl⟩ := lad_mem.1 hs
    by_cases e : p.1.log2 = t
    · subst e; rw [ht]; exact Sp.zero _
    · exact Sp.mem (lad_mem.2 ⟨t, by simpa using ht', by rw [lat_set _ _ _ _ hi, if_neg e]⟩)
  have hpin : Sp ((L.set p.1.log2 p).map Prod.fst) p.1 := Sp.mem (lad_mem.2 ⟨p.1.log2, by simpa using hi, by rw [lat_set _ _ _ _ hi, if_pos rfl]⟩)
  refine ⟨h16, by simpa using hL.len, fun t h1 => ?_, fun t => ?_, fun x hx => ?_⟩
  · rw [lat_set _ _ _ _ hi] at h1 ⊢
    by_cases e : p.1.log2 = t
    · rw [if_pos e] at h1 ⊢; exact e
    · rw [if_neg e] at h1 ⊢; exact hL.top t h1
  · rw [lat_set _ _ _ _ hi]; split
    · exact hp
    · exact (hL.fits t).up
  · have hr : Sp ((L.set p.1.log2 p).map Prod.fst) (rows.getD k 0) := by
      have := (hsub _ h.sp).xor hpin
      rwa [xor_cancel] at this
    rw [take_snoc' hk, sp_snoc] at hx
    rcases hx with hx | hx
    · exact hsub _ (hL.span x hx)
    · have := (hsub _ (hL.span _ hx)).xor hr
      rwa [xor_cancel] at this

/-- A ladder being reduced: rows below 'high' are, and row 'high' is at the places below 'low'. -/
structure RedI (rows : List Nat) (n : Nat) (L : Lad) (high low : Nat) : Prop where
  lad : LadB rows n L
  done : ∀ h, h < high → ∀ t, t < h → (lat L t).1 ≠ 0 → (lat L h).1.testBit t = false
  part : ∀ t, t < low → (lat L t).1 ≠ 0 → (lat L high).1.testBit t = false

theorem redI_start {rows : List Nat} {n : Nat} {L : Lad} (h : LadB rows n L) : RedI rows n L 0 0 :=
  ⟨h, fun _ h => absurd h (by omega), fun _ h => absurd h (by omega)⟩
theorem redI_next {rows : List Nat} {n : Nat} {L : Lad} {high : Nat} (h : RedI rows n L high high) : RedI rows n L (high + 1) 0 := by
  refine ⟨h.lad, fun a ha t ht h0 => ?_, fun _ h => absurd h (by omega)⟩
  rcases Nat.lt_or_eq_of_le (Nat.le_of_lt_succ ha) with h1 | h1
  · exact h.done a h1 t ht h0
  · subst h1; exact h.part t ht h0
theorem redI_keep {rows : List Nat} {n : Nat} {L : Lad} {high low : Nat} (h : RedI rows n L high low) (hb : (lat L high).1.testBit low = false) : RedI rows n L high (low + 1) := by
  refine ⟨h.lad, h.done, fun t ht h0 => ?_⟩
  rcases Nat.lt_or_eq_of_le (Nat.le_of_lt_succ ht) with h1 | h1
  · exact h.part t h1 h0
  · subst h1; exact hb
theorem redI_add {rows : List Nat} {n : Nat} {L : Lad} {high low : Nat} (h : RedI rows n L high low) (hlt : low < high) (h16 : high < 16) (hb : (lat L high).1.testBit low = true) :
    RedI rows n (L.set high (addP (lat L high) (lat L low))) high (low + 1) := by
  have hi : high < L.length := by rw [h.lad.len]; exact h16
  have hne : high ≠ low := by omega
  have h0 : (lat L high).1 ≠ 0 := fun e => by rw [e] at hb; simp at hb
  have htop := h.lad.top high h0
  have hlow : (lat L low).1 < 2 ^ high := Nat.lt_of_lt_of_le (h.lad.lt low) (Nat.pow_le_pow_right (by decide) (by omega))
  have hbit : ((lat L high).1 ^^^ (lat L low).1).testBit high = true := by
    rw [Nat.testBit_xor, bit_of_lt hlow]
    have := log2_bit h0
    rw [htop] at this; rw [this]; rfl
  have hup : (lat L high).1 ^^^ (lat L low).1 < 2 ^ (high + 1) :=
    Nat.xor_lt_two_pow (h.lad.lt high) (Nat.lt_trans hlow (Nat.pow_lt_pow_right (by decide) (by omega)))
  have hlog : ((lat L high).1 ^^^ (lat L low).1).log2 = high := log2_of (ge_of_bit hbit) hup
  have hS : ∀ t, lat (L.set high (addP (lat L high) (lat L low))) t = if high = t then addP (lat L high) (lat L low) else lat L t := fun t => lat_set _ _ _ _ hi
  have hlo' : lat (L.set high (addP (lat L high) (lat L low))) low = lat L low := by rw [hS, if_neg hne]
  refine ⟨⟨by simpa using h.lad.len, fun t ht => ?_, fun t => ?_, fun x hx => ?_⟩, fun a ha t ht h1 => ?_, fun t ht h1 => ?_⟩
  · rw [hS] at ht ⊢
    by_cases e : high = t
    · rw [if_pos e]; rw [← e]; exact hlog
    · rw [if_neg e] at ht ⊢; exact h.lad.top t ht
  · rw [hS]; split
    · exact (h.lad.fits high).add (h.lad.fits low)
    · exact h.lad.fits t
  · refine Sp.mono (fun s hs => ?_) (h.lad.span x hx)
    obtain ⟨t, ht, rfl⟩ := lad_mem.1 hs
    by_cases e : high = t
    · subst e
      have h1 := lad_sp (L.set high (addP (lat L high) (lat L low))) high
      have h2 := lad_sp (L.set high (addP (lat L high) (lat L low))) low
      rw [hS, if_pos rfl] at h1
      rw [hlo'] at h2
      have := h1.xor h2
      rwa [show (addP (lat L high) (lat L low)).1 ^^^ (lat L low).1 = (lat L high).1 from xor_cancel _ _] at this
    · have h1 := lad_sp (L.set high (addP (lat L high) (lat L low))) t
      rwa [hS, if_neg e] at h1
  · rw [hS, if_neg (by omega)] at h1 ⊢
    exact h.done a ha t ht h1
  · have hth : high ≠ t := by omega
    rw [hS, if_neg hth] at h1
    rw [hS, if_pos rfl]
    show ((lat L high).1 ^^^ (lat L low).1).testBit t = false
    rw [Nat.testBit_xor]
    rcases Nat.lt_or_eq_of_le (Nat.le_of_lt_succ ht) with h2 | h2
    · rw [h.part t h2 h1, h.done low hlt t h2 h1]; rfl
    · subst h2
      rw [hb]
      have := log2_bit h1
      rw [h.lad.top _ h1] at this
      rw [this]; rfl

/-- A reduced ladder over all rows. -/
structure LadR (rows : List Nat) (L : Lad) : Prop where
  lad : LadB rows rows.length L
  red : ∀ h t, h ≠ t → (lat L t).1 ≠ 0 → (lat L h).1.testBit t = false

theorem ladR_of {rows : List Nat} {L : Lad} (h : RedI rows rows.length L 16 0) : LadR rows L := by
  refine ⟨h.lad, fun a t hne h0 => ?_⟩
  by_cases ha : a < 16
  · rcases Nat.lt_or_ge t a with h1 | h1
    · exact h.done a ha t h1 h0
    · exact bit_of_lt (Nat.lt_of_lt_of_le (h.lad.lt a) (Nat.pow_le_pow_right (by decide) (by omega)))
  · rw [lat_out (by rw [h.lad.len]; omega)]; simp

theorem LadR.sp {rows : List Nat} {L : Lad} (h : LadR rows L) (x : Nat) : Sp (down L 16) x ↔ Sp rows x := by
  rw [down_sp (by rw [h.lad.len]; exact Nat.le_refl _)]
  constructor
  · intro hx
    have := h.lad.back (Nat.le_refl _) hx
    rwa [List.take_length] at this
  · intro hx
    apply h.lad.span; rwa [List.take_length]
theorem LadR.rref {rows : List Nat} {L : Lad} (h : LadR rows L) : Rref (down L 16) := by
  refine ⟨down_ech h.lad.top 16, fun s hs t ht hne => ?_⟩
  obtain ⟨_, a, _, rfl⟩ := down_mem.1 hs
  obtain ⟨h0, b, _, rfl⟩ := down_mem.1 ht
  rw [h.lad.top b h0]
  exact h.red a b (fun e => hne (by rw [e])) h0
theorem LadR.steps {rows : List Nat} {L : Lad} (h : LadR rows L) : down L 16 = steps rows := steps_unique h.rref h.sp
end Go.Proofs.Ytgakklanboabjaa

/- G7 -/
namespace Go.Proofs.Ytgakklanboabjaa

/-- The sum of the steps below place k whose top bits the wanted row has. -/
def sumF (L : Lad) (want : Nat) : Nat → Nat × Nat
  | 0 => (0, 0)
  | k + 1 => if want.testBit k = true then addP (sumF L want k) (lat L k) else sumF L want k

theorem sumF_fits {rows : List Nat} {n : Nat} {L : Lad} (h : LadB rows n L) (want : Nat) : ∀ k, Fits rows n (sumF L want k)
  | 0 => Fits.zero rows n
  | k + 1 => by
    rw [sumF]; split
    · exact (sumF_fits h want k).add (h.fits k)
    · exact sumF_fits h want k
theorem sumF_lt {L : Lad} {a b : Nat} (h1 : ∀ t, (lat L t).1 < 2 ^ a) (h2 : ∀ t, (lat L t).2 < 2 ^ b) (want : Nat) : ∀ k, (sumF L want k).1 < 2 ^ a ∧ (sumF L want k).2 < 2 ^ b
  | 0 => ⟨Nat.two_pow_pos a, Nat.two_pow_pos b⟩
  | k + 1 => by
    have := sumF_lt h1 h2 want k
    rw [sumF]; split
    · exact ⟨Nat.xor_lt_two_pow this.1 (h1 k), Nat.xor_lt_two_pow this.2 (h2 k)⟩
    · exact this
theorem sumF_sum {L : Lad} (h : Topped L) (want : Nat) : ∀ k, sumS (down L k) want = (sumF L want k).1
  | 0 => rfl
  | k + 1 => by
    rw [down, sumF]
    split
    · rename_i h0
      rw [sumF_sum h want k]
      split
      · show _ = (sumF L want k).1 ^^^ (lat L k).1
        rw [h0, Nat.xor_zero]
      · rfl
    · rename_i h0
      rw [sumS, sumF_sum h want k, h k h0]
      split
      · rw [Nat.xor_comm]; rfl
      · rw [Nat.zero_xor]
theorem ladR_can {rows : List Nat} {L : Lad} (h : LadR rows L) (want : Nat) : (sumF L want 16).1 = want ↔ Sp rows want := by
  rw [← sumF_sum h.lad.top want 16]
  constructor
  · intro e
    have h0 : red (down L 16) want = 0 := by rw [red_sum h.rref, e, Nat.xor_self]
    exact (h.sp want).1 ((sp_red_iff h.rref).1 h0)
  · intro hs
    exact (sum_of_sp h.rref ((h.sp want).2 hs)).symm

/-- Two choices of rows, none of them a sum of those ahead, that have one sum are one. -/
theorem choice_unique {rows : List Nat} : ∀ {k m m' : Nat}, k ≤ rows.length → m < 2 ^ k → m' < 2 ^ k → (∀ i, m.testBit i = true → New rows i) → (∀ i, m'.testBit i = true → New rows i) → sm rows k m = sm rows k m' → m = m'
  | 0, m, m', _, h, h', _, _, _ => by simp at h h'; omega
  | k + 1, m, m', hk, h, h', hn, hn', e => by
    have key : ∀ {m m' : Nat}, (∀ i, m.testBit i = true → New rows i) → sm rows (k + 1) m = sm rows (k + 1) m' → m.testBit k = true → m'.testBit k = true := by
      intro m m' hn e hb
      cases hb' : m'.testBit k
      · exfalso
        apply hn k hb
        rw [sm, sm, if_pos hb, if_neg (by rw [hb']; decide), Nat.xor_zero] at e
        have : rows.getD k 0 = sm rows k m ^^^ sm rows k m' := by
          rw [← e, ← Nat.xor_assoc, Nat.xor_self, Nat.zero_xor]
        rw [this]
        exact (sm_sp (by omega)).xor (sm_sp (by omega))
      · rfl
    have hlow : ∀ {m : Nat}, m < 2 ^ (k + 1) → m % 2 ^ k < 2 ^ k ∧ (∀ i, i < k → (m % 2 ^ k).testBit i = m.testBit i) ∧ (∀ i, (m % 2 ^ k).testBit i = true → m.testBit i = true) := by
      intro m _
      refine ⟨Nat.mod_lt _ (Nat.two_pow_pos k), fun i hi => ?_, fun i hi => ?_⟩
      · rw [Nat.testBit_mod_two_pow]; simp [hi]
      · rw [Nat.testBit_mod_two_pow] at hi; simp at hi; exact hi.2
    have hb : m.testBit k = m'.testBit k := by
      cases hm : m.testBit k
      · cases hm' : m'.testBit k
        · rfl
        · rw [key hn' e.symm hm'] at hm; cases hm
      · rw [key hn e hm]
    have e2 : sm rows k (m % 2 ^ k) = sm rows k (m' % 2 ^ k) := by
      rw [sm_congr (hlow h).2.1, sm_congr (hlow h').2.1]
      rw [sm, sm, hb] at e
      have := congrArg (· ^^^ (if m'.testBit k = true then rows.getD k 0 else 0)) e
      simpa only [xor_cancel] using this
    have h3 := choice_unique (k := k) (by omega) (hlow h).1 (hlow h').1 (fun i hi => hn i ((hlow h).2.2 i hi)) (fun i hi => hn' i ((hlow h').2.2 i hi)) e2
    apply Nat.eq_of_testBit_eq
    intro i
    rcases Nat.lt_trichotomy i k with hi | hi | hi
    · rw [← (hlow h).2.1 i hi, ← (hlow h').2.1 i hi, h3]
    · rw [hi, hb]
    · rw [Nat.testBit_lt_two_pow (Nat.lt_of_lt_of_le h (Nat.pow_le_pow_right (by decide) hi)), Nat.testBit_lt_two_pow (Nat.lt_of_lt_of_le h' (Nat.pow_le_pow_right (by decide) hi))]

theorem mkM_new {rows : List Nat} : ∀ {k want : Nat}, k ≤ rows.length → Sp (rows.take k) want → ∀ i, (mkM rows k want).testBit i = true → New rows i
  | 0, _, _, _, i, h => by simp [mkM] at h
  | k + 1, want, hk, hs, i, h => by
    rw [mkM] at h
    split at h
    · rename_i hc
      exact mkM_new (by omega) ((canB_iff _ _).1 hc) i h
    · rename_i hc
      have hns : ¬ Sp (rows.take k) want := fun hx => hc ((canB_iff _ _).2 hx)
      rw [take_snoc' (by omega), sp_snoc] at hs
      have hs' : Sp (rows.take k) (want ^^^ rows.getD k 0) := hs.resolve_left hns
      rw [pow_bit (mkM_spec (by omega) hs').2.1] at h
      rcases Bool.or_eq_true_iff.1 h with h1 | h1
      · exact mkM_new (by omega) hs' i h1
      · have e : k = i := of_decide_eq_true h1
        subst e
        intro hr
        apply hns
        have := hs'.xor hr
        rwa [xor_cancel] at this

theorem ladR_least {rows : List Nat} {L : Lad} (h : LadR rows L) {want : Nat} (hs : Sp rows want) : (sumF L want 16).2 = mkM rows rows.length want := by
  have hf := sumF_fits h.lad want 16
  have hs' : Sp (rows.take rows.length) want := by rwa [List.take_length]
  have hm := mkM_spec (Nat.le_refl _) hs'
  exact choice_unique (Nat.le_refl _) hf.lt hm.2.1 hf.new (mkM_new (Nat.le_refl _) hs') (by rw [hf.sum, hm.1]; exact (ladR_can h want).2 hs)

/-- The indexes below k of a choice. -/
def idxL (m : Nat) (k : Nat) : List Nat := (List.range k).filter fun i => m.testBit i
theorem idxL_succ (m k : Nat) : idxL m (k + 1) = idxL m k ++ (if m.testBit k = true then [k] else []) := by
  unfold idxL
  rw [List.range_succ, List.filter_append]
  congr 1
  rw [List.filter_cons]
  split <;> rfl

/-- The span, written out place by place. -/
def spanU (L : Lad) : Nat → List Nat
  | 0 => [0]
  | k + 1 => if (lat L k).1 = 0 then spanU L k else spanU L k ++ (spanU L k).map (· ^^^ (lat L k).1)

theorem spanU_mem {L : Lad} : ∀ {k x : Nat}, x ∈ spanU L k ↔ Sp (down L k) x
  | 0, x => by simp [spanU, down, Sp]
  | k + 1, x => by
    rw [spanU, down]
    split
    · exact spanU_mem
    · simp only [List.mem_append, List.mem_map, Sp]
      rw [spanU_mem]
      constructor
      · rintro (h | ⟨y, h, rfl⟩)
        · exact Or.inl h
        · right; rw [xor_cancel]; exact spanU_mem.1 h
      · rintro (h | h)
        · exact Or.inl h
        · exact Or.inr ⟨_, spanU_mem.2 h, xor_cancel _ _⟩
theorem spanU_lt {L : Lad} (h : Topped L) {k x : Nat} (hx : x ∈ spanU L k) : x < 2 ^ k :=
  Sp.lt (fun _ hr => down_lt h hr) (spanU_mem.1 hx)

theorem lt_by_bit {x y : Nat} (i : Nat) (hx : x.testBit i = false) (hy : y.testBit i = true) (h : ∀ j, i < j → x.testBit j = y.testBit j) : x < y := by
  have hq : x / 2 ^ (i + 1) = y / 2 ^ (i + 1) := by
    apply Nat.eq_of_testBit_eq
    intro j
    rw [Nat.testBit_div_two_pow, Nat.testBit_div_two_pow]
    exact h _ (by omega)
  have h1 : x % 2 ^ (i + 1) < 2 ^ i := lt_of_bit (Nat.mod_lt _ (Nat.two_pow_pos _)) (by rw [Nat.testBit_mod_two_pow]; simp [hx])
  have h2 : 2 ^ i ≤ y % 2 ^ (i + 1) := ge_of_bit (by rw [Nat.testBit_mod_two_pow]; simp [hy])
  have e1 := Nat.div_add_mod x (2 ^ (i + 1))
  have e2 := Nat.div_add_mod y (2 ^ (i + 1))
  rw [hq] at e1
  omega

/-- Adding r keeps the order of two numbers whose highest difference r has not. -/
theorem xor_order {x y r : Nat} (h : x < y) (hr : r.testBit (x ^^^ y).log2 = false) : x ^^^ r < y ^^^ r := by
  have hne : x ^^^ y ≠ 0 := fun e => by have := xor_zero_eq e; omega
  have hb := log2_bit hne
  rw [Nat.testBit_xor] at hb
  have hup : ∀ j, (x ^^^ y).log2 < j → x.testBit j = y.testBit j := by
    intro j hj
    have := bit_of_lt (Nat.lt_of_lt_of_le (Nat.lt_log2_self (n := x ^^^ y)) (Nat.pow_le_pow_right (n := 2) (by decide) hj))
    rw [Nat.testBit_xor] at this
    cases hx : x.testBit j <;> cases hy : y.testBit j <;> simp_all
  cases hx : x.testBit (x ^^^ y).log2
  · have hy : y.testBit (x ^^^ y).log2 = true := by rw [hx] at hb; simpa using hb
    refine lt_by_bit (x ^^^ y).log2 ?_ ?_ (fun j hj => ?_)
    · rw [Nat.testBit_xor, hx, hr]; rfl
    · rw [Nat.testBit_xor, hy, hr]; rfl
    · rw [Nat.testBit_xor, Nat.testBit_xor, hup j hj]
  · exfalso
    have hy : y.testBit (x ^^^ y).log2 = false := by rw [hx] at hb; simpa using hb
    have := lt_by_bit (x ^^^ y).log2 hy hx (fun j hj => (hup j hj).symm)
    omega

theorem spanU_sorted {L : Lad} (h : Topped L) (hr : ∀ a t, a ≠ t → (lat L t).1 ≠ 0 → (lat L a).1.testBit t = false) : ∀ k, (spanU L k).Pairwise (· < ·)
  | 0 => by simp [spanU]
  | k + 1 => by
    rw [spanU]
    split
    · exact spanU_sorted h hr k
    · rename_i h0
      rw [List.pairwise_append]
      refine ⟨spanU_sorted h hr k, ?_, ?_⟩
      · rw [List.pairwise_map]
        refine (spanU_sorted h hr k).imp_of_mem ?_
        intro x y hx hy hlt
        apply xor_order hlt
        have hs : Sp (down L k) (x ^^^ y) := (spanU_mem.1 hx).xor (spanU_mem.1 hy)
        obtain ⟨t, ht, e⟩ := (down_ech h k).top hs (fun e => by have := xor_zero_eq e; omega)
        obtain ⟨h1, j, hj, rfl⟩ := down_mem.1 ht
        rw [← e, h j h1]
        exact hr k j (by omega) h1
      · intro x hx y hy
        obtain ⟨z, hz, rfl⟩ := List.mem_map.1 hy
        have h1 := spanU_lt h hx
        have h2 := spanU_lt h hz
        have hb : (z ^^^ (lat L k).1).testBit k = true := by
          rw [Nat.testBit_xor, bit_of_lt h2]
          have := log2_bit h0
          rw [h k h0] at this
          rw [this]; rfl
        exact Nat.lt_of_lt_of_le h1 (ge_of_bit hb)
theorem rising_eq {a b : List Nat} (ha : a.Pairwise (· < ·)) (hb : b.Pairwise (· < ·)) (h : ∀ x, x ∈ a ↔ x ∈ b) : a = b := by
  have := sorted_eq (a := a.reverse) (b := b.reverse) (List.pairwise_reverse.2 ha) (List.pairwise_reverse.2 hb) (fun x => by simp [h x])
  exact List.reverse_inj.1 this
/-- All numbers below 2^w that can be made, rising. -/
def spanL (w : Nat) (rows : List Nat) : List Nat := (List.range (2 ^ w)).filter (canB rows)
theorem ladR_span {rows : List Nat} {L : Lad} (h : LadR rows L) {w : Nat} (hw : ∀ r ∈ rows, r < 2 ^ w) : spanU L 16 = spanL w rows := by
  refine rising_eq (spanU_sorted h.lad.top h.red 16) (List.Pairwise.filter _ List.pairwise_lt_range) fun x => ?_
  rw [spanU_mem, h.sp, spanL, List.mem_filter, canB_iff, List.mem_range]
  exact ⟨fun hx => ⟨Sp.lt hw hx, hx⟩, fun hx => hx.2⟩
theorem spanU_length (L : Lad) : ∀ k, (spanU L k).length ≤ 2 ^ k
  | 0 => Nat.le_refl _
  | k + 1 => by
    have := spanU_length L k
    rw [spanU]; split
    · rw [Nat.pow_succ]; omega
    · simp; rw [Nat.pow_succ]; omega

/-- The null row of a free place, read off a ladder's places below k. -/
def nrow (L : Lad) (free : Nat) : Nat → Nat
  | 0 => 2 ^ free
  | k + 1 => if (lat L k).1.testBit free = true then nrow L free k ||| 2 ^ k else nrow L free k
theorem nrow_bit (L : Lad) (free i : Nat) : ∀ k, (nrow L free k).testBit i = (decide (free = i) || (decide (i < k) && (lat L i).1.testBit free))
  | 0 => by simp [nrow, Nat.testBit_two_pow]
  | k + 1 => by
    rw [nrow]
    by_cases hik : k = i
    · subst hik
      split
      · rename_i hb; rw [Nat.testBit_or, nrow_bit L free k k, Nat.testBit_two_pow, hb]; simp
      · rename_i hb
        rw [nrow_bit L free k k]
        have : (lat L k).1.testBit free = false := by simpa using hb
        rw [this]; simp
    · have hd : decide (i < k + 1) = decide (i < k) := by rw [decide_eq_decide]; omega
      split
      · rw [Nat.testBit_or, nrow_bit L free i k, Nat.testBit_two_pow, decide_eq_false hik, hd]; simp
      · rw [nrow_bit L free i k, hd]
theorem nrow_eq {L : Lad} (h : Topped L) {k : Nat} (free : Nat) : nrow L free k = nulK (down L k) free := by
  apply Nat.eq_of_testBit_eq
  intro i
  rw [nrow_bit, nulK_bit]
  congr 1
  rw [Bool.eq_iff_iff, Bool.and_eq_true, decide_eq_true_eq, List.any_eq_true]
  constructor
  · rintro ⟨hi, hb⟩
    have h0 : (lat L i).1 ≠ 0 := fun e => by rw [e] at hb; simp at hb
    exact ⟨_, down_mem.2 ⟨h0, i, hi, rfl⟩, by rw [hb, h i h0]; simp⟩
  · rintro ⟨s, hs, hb⟩
    obtain ⟨h0, t, ht, rfl⟩ := down_mem.1 hs
    rw [h t h0, Bool.and_eq_true, decide_eq_true_eq] at hb
    obtain ⟨hb, rfl⟩ := hb
    exact ⟨ht, hb⟩
theorem free_lad {L : Lad} (h : Topped L) {k : Nat} (hk : L.length ≤ k) (f : Nat) : freeB (down L k) f = decide ((lat L f).1 = 0) := by
  rw [Bool.eq_iff_iff, decide_eq_true_eq]
  constructor
  · intro hf
    apply Classical.byContradiction
    intro h0
    by_cases hfk : f < k
    · exact free_ne hf _ (down_mem.2 ⟨h0, f, hfk, rfl⟩) (h f h0)
    · exact h0 (by rw [lat_out (by omega)])
  · intro h0
    unfold freeB
    rw [List.all_eq_true]
    intro s hs
    obtain ⟨h1, t, _, rfl⟩ := down_mem.1 hs
    rw [h t h1]
    simp only [bne_iff_ne, ne_eq]
    rintro rfl
    exact h1 h0
/-- The null rows of the free places below k. -/
def nulls (L : Lad) : Nat → List Nat
  | 0 => []
  | k + 1 => if (lat L k).1 = 0 then nulls L k ++ [nrow L k 16] else nulls L k
theorem nulls_eq {L : Lad} (h : Topped L) (hl : L.length = 16) : ∀ w, nulls L w = allN w (down L 16)
  | 0 => rfl
  | w + 1 => by
    rw [nulls, nulls_eq h hl w, allN, allN, List.range_succ, List.filter_append, List.map_append]
    split
    · rename_i h0
      congr 1
      rw [List.filter_cons, if_pos (by rw [free_lad h (by omega)]; simpa using h0)]
      simp [nrow_eq h]
    · rename_i h0
      rw [List.filter_cons, if_neg (by rw [free_lad h (by omega)]; simpa using h0)]
      simp
theorem nulls_length (L : Lad) : ∀ w, (nulls L w).length ≤ w
  | 0 => Nat.le_refl _
  | w + 1 => by
    have := nulls_length L w
    rw [nulls]; split
    · simp; omega
    · omega
theorem ladR_nulls {rows : List Nat} {L : Lad} (h : LadR rows L) (w : Nat) : steps (nulls L w) = nullL w rows := by
  rw [nulls_eq h.lad.top h.lad.len, h.steps]; rfl
theorem nulls_lt {rows : List Nat} {L : Lad} (h : LadR rows L) {w : Nat} (hw : ∀ r ∈ rows, r < 2 ^ w) : ∀ x ∈ nulls L w, x < 2 ^ w := by
  intro x hx
  rw [nulls_eq h.lad.top h.lad.len, h.steps, allN] at hx
  obtain ⟨k, hk, rfl⟩ := List.mem_map.1 hx
  have hk' := List.mem_filter.1 hk
  exact nulK_lt (fun s hs => ⟨(steps_rref rows).1.ne s hs, steps_lt hw s hs⟩) (List.mem_range.1 hk'.1)
theorem nrow_lt (L : Lad) (free : Nat) (hf : free < 16) : ∀ k, k ≤ 16 → nrow L free k < 65536
  | 0, _ => Nat.pow_lt_pow_right (n := 16) (by decide) hf
  | k + 1, hk => by
    have := nrow_lt L free hf k (by omega)
    rw [nrow]; split
    · exact Nat.or_lt_two_pow (n := 16) this (Nat.pow_lt_pow_right (by decide) (by omega))
    · exact this
end Go.Proofs.Ytgakklanboabjaa

/- G8 -/
namespace Go.Proofs.Ytgakklanboabjaa

theorem sp_sub_rank {w : Nat} {a b : List Nat} (ha : ∀ r ∈ a, r < 2 ^ w) (hb : ∀ r ∈ b, r < 2 ^ w) (h : ∀ x, Sp a x → Sp b x) (hr : rank a = rank b) (x : Nat) (hx : Sp b x) : Sp a x := by
  apply Classical.byContradiction
  intro hn
  have h1 := span_count ha
  have h2 := span_count hb
  have hnd : (x :: (List.range (2 ^ w)).filter (canB a)).Nodup := by
    rw [List.nodup_cons]
    exact ⟨fun hm => hn ((canB_iff _ _).1 (List.mem_filter.1 hm).2), List.Pairwise.filter _ List.nodup_range⟩
  have := nodup_length (b := (List.range (2 ^ w)).filter (canB b)) hnd (fun y hy => by
    rcases List.mem_cons.1 hy with rfl | hy
    · exact List.mem_filter.2 ⟨List.mem_range.2 (Sp.lt hb hx), (canB_iff _ _).2 hx⟩
    · have := List.mem_filter.1 hy
      exact List.mem_filter.2 ⟨this.1, (canB_iff _ _).2 (h y ((canB_iff _ _).1 this.2))⟩)
  rw [List.length_cons, h1, h2, hr] at this
  omega

theorem null_lt {w : Nat} {R : List Nat} (h : ∀ r ∈ R, r < 2 ^ w) : ∀ s ∈ nullL w R, s < 2 ^ w := fun s hs => ((null_sp h s).1 (Sp.mem hs)).1
theorem rank_null (w : Nat) (R : List Nat) : rank (nullL w R) = (nullL w R).length := by
  show (steps (steps _)).length = _
  rw [steps_steps]; rfl
/-- The null space of the null space is the span. -/
theorem dual_dual {w : Nat} {R : List Nat} (h : ∀ r ∈ R, r < 2 ^ w) (x : Nat) : Sp (nullL w (nullL w R)) x ↔ Sp R x := by
  have hN := null_lt h
  have hNN := null_lt hN
  have hsub : ∀ x, Sp R x → Sp (nullL w (nullL w R)) x := fun x hx => Sp.mono (fun r hr => (null_sp hN r).2 ⟨h r hr, fun s hs => by
    rw [dotB_comm]; exact ((null_sp h s).1 (Sp.mem hs)).2 r hr⟩) hx
  refine ⟨sp_sub_rank h hNN hsub ?_ x, hsub x⟩
  have h1 := null_length h
  have h2 := null_length hN
  rw [rank_null] at h2
  rw [rank_null]; omega
theorem dual_length {w : Nat} {R : List Nat} (h : ∀ r ∈ R, r < 2 ^ w) : (nullL w (nullL w R)).length = rank R := by
  have h1 := null_length h
  have h2 := null_length (null_lt h)
  rw [rank_null] at h2
  omega

/-- The syndrome by the first k checks. -/
def synK (w x : Nat) (N : List Nat) : Nat → Nat
  | 0 => 0
  | k + 1 => synK w x N k ||| (dotB w x (N.getD k 0)).toNat * 2 ^ k
theorem bit_shift (b : Bool) (k i : Nat) : (b.toNat * 2 ^ k).testBit i = (decide (k = i) && b) := by
  cases b
  · simp
  · simp [Nat.testBit_two_pow]
theorem synK_bit (w x : Nat) (N : List Nat) (i : Nat) : ∀ k, (synK w x N k).testBit i = (decide (i < k) && dotB w x (N.getD i 0))
  | 0 => by simp [synK]
  | k + 1 => by
    rw [synK, Nat.testBit_or, synK_bit w x N i k, bit_shift]
    by_cases h : k = i
    · subst h; simp
    · have e : decide (i < k + 1) = decide (i < k) := by rw [decide_eq_decide]; omega
      rw [e]; simp [h]
theorem synK_lt (w x : Nat) (N : List Nat) (k : Nat) : synK w x N k < 2 ^ k := by
  apply Nat.lt_pow_two_of_testBit
  intro i hi
  rw [synK_bit]
  simp; omega
theorem synK_zero (w x : Nat) (N : List Nat) : synK w x N N.length = 0 ↔ ∀ s ∈ N, dotB w x s = false := by
  constructor
  · intro h s hs
    obtain ⟨i, hi, rfl⟩ := List.getElem_of_mem hs
    have := synK_bit w x N i N.length
    rw [h, Nat.zero_testBit, decide_eq_true hi, Bool.true_and] at this
    rw [this]
    simp [List.getD, hi]
  · intro h
    apply Nat.eq_of_testBit_eq
    intro i
    rw [synK_bit, Nat.zero_testBit]
    by_cases hi : i < N.length
    · have : N.getD i 0 = N[i] := by simp [List.getD, hi]
      rw [this, h _ (List.getElem_mem hi)]; simp
    · simp [hi]
/-- The syndrome is 0 exactly for code words. -/
theorem syn_zero {w x : Nat} {R : List Nat} (h : ∀ r ∈ R, r < 2 ^ w) (hx : x < 2 ^ w) : synK w x (nullL w R) (nullL w R).length = 0 ↔ Sp R x := by
  rw [synK_zero, ← dual_dual h, null_sp (null_lt h)]
  exact ⟨fun h' => ⟨hx, h'⟩, fun h' => h'.2⟩

/-- The code word of a message. -/
def wordN (R : List Nat) (n : Nat) : Nat := sm R R.length n
theorem word_sp (R : List Nat) (n : Nat) : Sp R (wordN R n) := by
  have := sm_sp (rows := R) (m := n) (Nat.le_refl R.length)
  rwa [List.take_length] at this
theorem sp_word {R : List Nat} {v : Nat} (h : Sp R v) : mkM R R.length v < 2 ^ R.length ∧ wordN R (mkM R R.length v) = v := by
  have := mkM_spec (rows := R) (k := R.length) (want := v) (Nat.le_refl _) (by rwa [List.take_length])
  exact ⟨this.2.1, this.1⟩
theorem word_lt {w : Nat} {R : List Nat} (h : ∀ r ∈ R, r < 2 ^ w) (n : Nat) : wordN R n < 2 ^ w := Sp.lt h (word_sp R n)
theorem word_zero (R : List Nat) : wordN R 0 = 0 := sm_zero R _
/-- Of independent rows every one is new. -/
theorem indep_new {R : List Nat} (h : rank R = R.length) (i : Nat) (hi : i < R.length) : New R i := by
  intro hs
  have h1 : rank R ≤ rank (R.eraseIdx i) := rank_mono fun r hr => by
    obtain ⟨j, hj, rfl⟩ := List.getElem_of_mem hr
    by_cases hji : j = i
    · subst hji
      have : R.getD j 0 = R[j] := by simp [List.getD, hj]
      rw [this] at hs
      refine Sp.mono (fun s hs' => Sp.mem ?_) hs
      rw [List.eraseIdx_eq_take_drop_succ]
      exact List.mem_append_left _ hs'
    · exact Sp.mem (List.mem_eraseIdx_iff_getElem.2 ⟨j, hj, hji, rfl⟩)
  have h2 := rank_le_length (R.eraseIdx i)
  rw [List.length_eraseIdx_of_lt hi] at h2
  omega
/-- The message of a code word is one. -/
theorem word_inj {R : List Nat} (h : rank R = R.length) {n n' : Nat} (hn : n < 2 ^ R.length) (hn' : n' < 2 ^ R.length) (e : wordN R n = wordN R n') : n = n' := by
  have key : ∀ {n : Nat}, n < 2 ^ R.length → ∀ i, n.testBit i = true → New R i := fun {n} hn i hb => by
    refine indep_new h i ?_
    rcases Nat.lt_or_ge i R.length with hl | hl
    · exact hl
    · rw [bit_of_lt (Nat.lt_of_lt_of_le hn (Nat.pow_le_pow_right (by decide) hl))] at hb; cases hb
  exact choice_unique (Nat.le_refl _) hn hn' (key hn) (key hn') e
theorem word_nonzero {R : List Nat} (h : rank R = R.length) {n : Nat} (hn : n < 2 ^ R.length) (h0 : n ≠ 0) : wordN R n ≠ 0 := fun e =>
  h0 (word_inj h hn (Nat.two_pow_pos _) (by rw [e, word_zero]))
theorem mkM_word {R : List Nat} (h : rank R = R.length) {n : Nat} (hn : n < 2 ^ R.length) : mkM R R.length (wordN R n) = n :=
  word_inj h (sp_word (word_sp R n)).1 hn (sp_word (word_sp R n)).2

/-- The nearest code word, and how far it is. -/
def Near (w : Nat) (R : List Nat) (y b f : Nat) : Prop := Sp R b ∧ f = cnt w (b ^^^ y) ∧ ∀ v, Sp R v → f < cnt w (v ^^^ y) ∨ f = cnt w (v ^^^ y) ∧ b ≤ v
theorem near_unique {w y b f b' f' : Nat} {R : List Nat} (h : Near w R y b f) (h' : Near w R y b' f') : b = b' ∧ f = f' := by
  have h1 := h.2.2 b' h'.1
  have h2 := h'.2.2 b h.1
  have e1 := h.2.1
  have e2 := h'.2.1
  omega
/-- Fewer wrong bits than half of the least weight are found. -/
theorem near_fix {w d c e : Nat} {R : List Nat} (hc : Sp R c) (hd : ∀ v, Sp R v → v ≠ 0 → d ≤ cnt w v) (he : 2 * cnt w e < d) : Near w R (c ^^^ e) c (cnt w e) := by
  have hce : c ^^^ (c ^^^ e) = e := by rw [← Nat.xor_assoc, Nat.xor_self, Nat.zero_xor]
  refine ⟨hc, by rw [hce], fun v hv => ?_⟩
  by_cases hvc : v = c
  · subst hvc; rw [hce]; exact Or.inr ⟨rfl, Nat.le_refl _⟩
  · left
    have h1 := hd (v ^^^ c) (hv.xor hc) (fun h0 => hvc (xor_zero_eq h0))
    have h2 := cnt_tri w v c (c ^^^ e)
    have h3 : (c ^^^ e) ^^^ c = e := by rw [Nat.xor_comm c e, xor_cancel]
    rw [h3] at h2
    omega
def nearK (w : Nat) (R : List Nat) (y : Nat) : Nat → Nat × Nat
  | 0 => (0, cnt w y)
  | n + 1 => if cnt w (wordN R n ^^^ y) < (nearK w R y n).2 ∨ (cnt w (wordN R n ^^^ y) = (nearK w R y n).2 ∧ wordN R n < (nearK w R y n).1) then (wordN R n, cnt w (wordN R n ^^^ y)) else nearK w R y n
theorem nearK_inv (w : Nat) (R : List Nat) (y : Nat) : ∀ n, Sp R (nearK w R y n).1 ∧ (nearK w R y n).2 = cnt w ((nearK w R y n).1 ^^^ y) ∧ ∀ j, j < n → (nearK w R y n).2 < cnt w (wordN R j ^^^ y) ∨ (nearK w R y n).2 = cnt w (wordN R j ^^^ y) ∧ (nearK w R y n).1 ≤ wordN R j
  | 0 => ⟨Sp.zero _, by simp [nearK], fun j hj => absurd hj (by omega)⟩
  | n + 1 => by
    obtain ⟨h1, h2, h3⟩ := nearK_inv w R y n
    rw [nearK]
    split
    · rename_i hc
      refine ⟨word_sp R n, rfl, fun j hj => ?_⟩
      rcases Nat.lt_or_eq_of_le (Nat.le_of_lt_succ hj) with hl | rfl
      · have := h3 j hl
        show _ < _ ∨ _ = _ ∧ _ ≤ _
        omega
      · exact Or.inr ⟨rfl, Nat.le_refl _⟩
    · rename_i hc
      refine ⟨h1, h2, fun j hj => ?_⟩
      rcases Nat.lt_or_eq_of_le (Nat.le_of_lt_succ hj) with hl | rfl
      · exact h3 j hl
      · omega
theorem near_K (w : Nat) (R : List Nat) (y : Nat) : Near w R y (nearK w R y (2 ^ R.length)).1 (nearK w R y (2 ^ R.length)).2 := by
  obtain ⟨h1, h2, h3⟩ := nearK_inv w R y (2 ^ R.length)
  refine ⟨h1, h2, fun v hv => ?_⟩
  obtain ⟨hl, e⟩ := sp_word hv
  have := h3 _ hl
  rwa [e] at this

/-- The least weight of a word that is not zero. -/
def Least (w : Nat) (R : List Nat) (d : Nat) : Prop := (∃ v, Sp R v ∧ v ≠ 0 ∧ cnt w v = d) ∧ ∀ v, Sp R v → v ≠ 0 → d ≤ cnt w v
theorem least_unique {w d d' : Nat} {R : List Nat} (h : Least w R d) (h' : Least w R d') : d = d' := by
  obtain ⟨v, hv, h0, e⟩ := h.1
  obtain ⟨v', hv', h0', e'⟩ := h'.1
  have h1 := h.2 v' hv' h0'
  have h2 := h'.2 v hv h0
  omega
def leastK (w : Nat) (R : List Nat) : Nat → Nat
  | 0 => w
  | n + 1 => if wordN R n = 0 then leastK w R n else min (leastK w R n) (cnt w (wordN R n))
theorem leastK_inv (w : Nat) (R : List Nat) : ∀ n, leastK w R n ≤ w ∧ (leastK w R n = w ∨ ∃ v, Sp R v ∧ v ≠ 0 ∧ cnt w v = leastK w R n) ∧ ∀ j, j < n → wordN R j ≠ 0 → leastK w R n ≤ cnt w (wordN R j)
  | 0 => ⟨Nat.le_refl _, Or.inl rfl, fun j hj => absurd hj (by omega)⟩
  | n + 1 => by
    obtain ⟨h1, h2, h3⟩ := leastK_inv w R n
    rw [leastK]
    split
    · rename_i h0
      refine ⟨h1, h2, fun j hj hn => ?_⟩
      rcases Nat.lt_or_eq_of_le (Nat.le_of_lt_succ hj) with hl | rfl
      · exact h3 j hl hn
      · exact absurd h0 hn
    · rename_i h0
      refine ⟨by omega, ?_, fun j hj hn => ?_⟩
      · rcases Nat.lt_or_ge (cnt w (wordN R n)) (leastK w R n) with hl | hl
        · exact Or.inr ⟨wordN R n, word_sp R n, h0, by omega⟩
        · rw [Nat.min_eq_left hl]; exact h2
      · rcases Nat.lt_or_eq_of_le (Nat.le_of_lt_succ hj) with hl | rfl
        · have := h3 j hl hn; omega
        · omega
theorem least_K {w : Nat} {R : List Nat} (h0 : ∃ v, Sp R v ∧ v ≠ 0) : Least w R (leastK w R (2 ^ R.length)) := by
  obtain ⟨h1, h2, h3⟩ := leastK_inv w R (2 ^ R.length)
  have h4 : ∀ v, Sp R v → v ≠ 0 → leastK w R (2 ^ R.length) ≤ cnt w v := fun v hv hn => by
    obtain ⟨hl, e⟩ := sp_word hv
    have := h3 _ hl (by rw [e]; exact hn)
    rwa [e] at this
  refine ⟨?_, h4⟩
  rcases h2 with h2 | h2
  · obtain ⟨v, hv, hn⟩ := h0
    have := h4 v hv hn
    have := cnt_le w v
    exact ⟨v, hv, hn, by omega⟩
  · exact h2
theorem some_word {R : List Nat} (h : rank R = R.length) (h1 : 1 ≤ R.length) : ∃ v, Sp R v ∧ v ≠ 0 :=
  ⟨wordN R 1, word_sp R 1, word_nonzero h (Nat.one_lt_two_pow (by omega)) (by decide)⟩
end Go.Proofs.Ytgakklanboabjaa
