/-
  Plain mathematics of chapter 5: the parts of a symbol, peeling, and what Gaussian decoding gives for symbols of a block.
-/
import Derived.Test.YtgakklanboabjaaMG
namespace Go.Proofs.Ytgakklanboabjaa

def degT (r : Nat) : Nat := if r < 4 then 1 else if r < 12 then 2 else if r < 16 then 3 else 4
def degN (no n : Nat) : Nat := min (degT ((37 * no + 11) % 20)) n
theorem degT_bd (r : Nat) : 1 ≤ degT r ∧ degT r ≤ 4 := by unfold degT; split <;> (try split) <;> (try split) <;> omega
theorem degN_bd {n : Nat} (no : Nat) (h : 1 ≤ n) : 1 ≤ degN no n ∧ degN no n ≤ 4 ∧ degN no n ≤ n := by
  have := degT_bd ((37 * no + 11) % 20)
  unfold degN
  omega

/-- k put into a rising list. -/
def putL (L : List Nat) (k : Nat) : List Nat := L.takeWhile (fun x => decide (x < k)) ++ k :: L.dropWhile (fun x => decide (x < k))
theorem putL_mem {L : List Nat} {k x : Nat} : x ∈ putL L k ↔ x = k ∨ x ∈ L := by
  have h := List.takeWhile_append_dropWhile (p := fun x => decide (x < k)) (l := L)
  constructor
  · intro hx
    rcases List.mem_append.1 hx with h1 | h1
    · right; rw [← h]; exact List.mem_append_left _ h1
    · rcases List.mem_cons.1 h1 with h2 | h2
      · exact Or.inl h2
      · right; rw [← h]; exact List.mem_append_right _ h2
  · rintro (rfl | hx)
    · exact List.mem_append_right _ (List.mem_cons_self ..)
    · rw [← h] at hx
      rcases List.mem_append.1 hx with h1 | h1
      · exact List.mem_append_left _ h1
      · exact List.mem_append_right _ (List.mem_cons_of_mem _ h1)
theorem putL_length (L : List Nat) (k : Nat) : (putL L k).length = L.length + 1 := by
  have h := congrArg List.length (List.takeWhile_append_dropWhile (p := fun x => decide (x < k)) (l := L))
  rw [List.length_append] at h
  unfold putL
  rw [List.length_append, List.length_cons]
  omega
theorem putL_cons_lt {x k : Nat} (L : List Nat) (h : x < k) : putL (x :: L) k = x :: putL L k := by simp [putL, h]
theorem putL_cons_ge {x k : Nat} (L : List Nat) (h : ¬ x < k) : putL (x :: L) k = k :: x :: L := by simp [putL, h]
theorem putL_rise : ∀ {L : List Nat} {k : Nat}, L.Pairwise (· < ·) → k ∉ L → (putL L k).Pairwise (· < ·)
  | [], k, _, _ => by simp [putL]
  | x :: L, k, hp, hk => by
    obtain ⟨h1, h2⟩ := List.pairwise_cons.1 hp
    simp only [List.mem_cons, not_or] at hk
    by_cases h : x < k
    · rw [putL_cons_lt L h]
      refine List.pairwise_cons.2 ⟨fun y hy => ?_, putL_rise h2 hk.2⟩
      rcases putL_mem.1 hy with rfl | hy
      · exact h
      · exact h1 y hy
    · rw [putL_cons_ge L h]
      refine List.pairwise_cons.2 ⟨fun y hy => ?_, hp⟩
      rcases List.mem_cons.1 hy with rfl | hy
      · omega
      · have := h1 y hy; omega
/-- Where the first element that is not less lies. -/
theorem putL_at {L : List Nat} {k : Nat} : ∀ {j : Nat}, j ≤ L.length → (∀ i (h : i < L.length), i < j → L[i] < k) → (∀ h : j < L.length, ¬ L[j] < k) → putL L k = L.take j ++ k :: L.drop j := by
  induction L with
  | nil => intro j hj _ _; simp at hj; subst hj; simp [putL]
  | cons x L ih =>
    intro j hj h1 h2
    cases j with
    | zero =>
      have h3 : ¬ x < k := h2 (by simp)
      rw [putL_cons_ge L h3]; rfl
    | succ j =>
      have h3 : x < k := h1 0 (by simp) (by omega)
      rw [putL_cons_lt L h3, ih (j := j) (by simp at hj; omega) (fun i h hi => h1 (i + 1) (by simp; omega) (by omega)) (fun h => h2 (by simp; omega))]
      rfl

/-- From k on, cyclically, the first index that does not lie in L. -/
def freeK (L : List Nat) (n : Nat) : Nat → Nat → Nat
  | 0, k => k
  | f + 1, k => if k ∈ L then freeK L n f ((k + 1) % n) else k
theorem freeK_lt {L : List Nat} {n : Nat} (hn : 0 < n) : ∀ (f k : Nat), k < n → freeK L n f k < n
  | 0, _, h => h
  | f + 1, k, h => by
    rw [freeK]; split
    · exact freeK_lt hn f _ (Nat.mod_lt _ hn)
    · exact h
theorem freeK_out {L : List Nat} {n : Nat} : ∀ (f k i : Nat), k < n → i ≤ f → (k + i) % n ∉ L → freeK L n f k ∉ L
  | 0, k, i, hk, hi, h => by
    obtain rfl : i = 0 := by omega
    rw [Nat.add_zero, Nat.mod_eq_of_lt hk] at h
    exact h
  | f + 1, k, i, hk, hi, h => by
    rw [freeK]; split
    · rename_i hm
      cases i with
      | zero => rw [Nat.add_zero, Nat.mod_eq_of_lt hk] at h; exact absurd hm h
      | succ i =>
        refine freeK_out f _ i (Nat.mod_lt _ (by omega)) (by omega) ?_
        rw [Nat.mod_add_mod, show k + 1 + i = k + (i + 1) by omega]
        exact h
    · rename_i hm; exact hm
theorem free_is {L : List Nat} {n k : Nat} (hk : k < n) (hl : L.length < n) : ∃ i, i ≤ n ∧ (k + i) % n ∉ L := by
  rcases Classical.em (∃ i, i ≤ n ∧ (k + i) % n ∉ L) with h | h
  · exact h
  · exfalso
    have hall : ∀ m ∈ List.range n, m ∈ L := fun m hm => by
      have hm' := List.mem_range.1 hm
      rcases Classical.em (m ∈ L) with h1 | h1
      · exact h1
      · exfalso
        refine h ⟨if k ≤ m then m - k else m + n - k, by split <;> omega, ?_⟩
        split
        · rw [show k + (m - k) = m by omega, Nat.mod_eq_of_lt hm']; exact h1
        · rw [show k + (m + n - k) = m + n by omega, Nat.add_mod_right, Nat.mod_eq_of_lt hm']; exact h1
    have := nodup_length List.nodup_range hall
    rw [List.length_range] at this
    omega
theorem free_ok {L : List Nat} {n k : Nat} (hk : k < n) (hl : L.length < n) : freeK L n n k ∉ L ∧ freeK L n n k < n := by
  obtain ⟨i, hi, h⟩ := free_is hk hl
  exact ⟨freeK_out n k i hk hi h, freeK_lt (by omega) n k hk⟩

def partsK (n : Nat) : Nat → List Nat → Nat → List Nat
  | 0, L, _ => L
  | c + 1, L, x => partsK n c (putL L (freeK L n n (x % n))) ((31 * x + 17) % 8191)
def partsL (no n : Nat) : List Nat := partsK n (degN no n) [] ((53 * no + 7) % 8191)
/-- A rising list of indexes below n. -/
def Rise (n : Nat) (L : List Nat) : Prop := L.Pairwise (· < ·) ∧ ∀ k ∈ L, k < n
theorem Rise.put {n x : Nat} {L : List Nat} (h : Rise n L) (hn : 0 < n) (hl : L.length < n) : Rise n (putL L (freeK L n n (x % n))) := by
  obtain ⟨h1, h2⟩ := free_ok (L := L) (Nat.mod_lt x hn) hl
  exact ⟨putL_rise h.1 h1, fun k hk => by
    rcases putL_mem.1 hk with rfl | hk
    · exact h2
    · exact h.2 k hk⟩
theorem partsK_ok {n : Nat} (hn : 0 < n) : ∀ (c : Nat) (L : List Nat) (x : Nat), Rise n L → L.length + c ≤ n → Rise n (partsK n c L x) ∧ (partsK n c L x).length = L.length + c
  | 0, L, x, h, _ => ⟨h, rfl⟩
  | c + 1, L, x, h, hl => by
    have := partsK_ok hn c (putL L (freeK L n n (x % n))) ((31 * x + 17) % 8191) (h.put hn (by omega)) (by rw [putL_length]; omega)
    rw [putL_length] at this
    exact ⟨this.1, by rw [partsK, this.2]; omega⟩
theorem parts_ok {n : Nat} (no : Nat) (hn : 1 ≤ n) : Rise n (partsL no n) ∧ (partsL no n).length = degN no n := by
  have := partsK_ok hn (degN no n) [] ((53 * no + 7) % 8191) ⟨List.Pairwise.nil, fun k hk => by cases hk⟩ (by have := degN_bd no hn; simp; omega)
  simpa [partsL] using this
theorem Rise.nodup {n : Nat} {L : List Nat} (h : Rise n L) : L.Nodup := h.1.imp Nat.ne_of_lt

/-- The sum of f over a list. -/
def xorL (f : Nat → Nat) (P : List Nat) : Nat := P.foldl (fun a k => a ^^^ f k) 0
theorem fold_xor (f : Nat → Nat) : ∀ (P : List Nat) (s : Nat), P.foldl (fun a k => a ^^^ f k) s = s ^^^ xorL f P
  | [], s => by simp [xorL]
  | p :: P, s => by
    have h1 := fold_xor f P (s ^^^ f p)
    have h2 := fold_xor f P (0 ^^^ f p)
    have e : xorL f (p :: P) = f p ^^^ xorL f P := by
      show P.foldl (fun a k => a ^^^ f k) (0 ^^^ f p) = _
      rw [h2, Nat.zero_xor]
    rw [List.foldl_cons, h1, e, Nat.xor_assoc]
theorem xorL_cons (f : Nat → Nat) (p : Nat) (P : List Nat) : xorL f (p :: P) = f p ^^^ xorL f P := by rw [xorL, List.foldl_cons, fold_xor, Nat.zero_xor]
theorem xorL_congr {f g : Nat → Nat} : ∀ {P : List Nat}, (∀ k ∈ P, f k = g k) → xorL f P = xorL g P
  | [], _ => rfl
  | p :: P, h => by rw [xorL_cons, xorL_cons, h p (List.mem_cons_self ..), xorL_congr fun k hk => h k (List.mem_cons_of_mem _ hk)]
theorem xorL_lt {f : Nat → Nat} {b : Nat} : ∀ {P : List Nat}, (∀ k ∈ P, f k < 2 ^ b) → xorL f P < 2 ^ b
  | [], _ => Nat.two_pow_pos b
  | p :: P, h => by rw [xorL_cons]; exact Nat.xor_lt_two_pow (h p (List.mem_cons_self ..)) (xorL_lt fun k hk => h k (List.mem_cons_of_mem _ hk))
/-- f and g differ at u alone, where g is 0. -/
theorem xorL_one {f g : Nat → Nat} {u : Nat} : ∀ {P : List Nat}, P.Nodup → u ∈ P → g u = 0 → (∀ k ∈ P, k ≠ u → f k = g k) → xorL f P ^^^ xorL g P = f u
  | [], _, h, _, _ => by cases h
  | p :: P, hn, hu, h0, h => by
    obtain ⟨h1, h2⟩ := List.nodup_cons.1 hn
    rw [xorL_cons, xorL_cons]
    by_cases hp : p = u
    · subst hp
      have := xorL_congr (P := P) fun k hk => h k (List.mem_cons_of_mem _ hk) (by rintro rfl; exact h1 hk)
      rw [h0, Nat.zero_xor, this, Nat.xor_assoc, Nat.xor_self, Nat.xor_zero]
    · have hu' : u ∈ P := by
        rcases List.mem_cons.1 hu with h3 | h3
        · exact absurd h3.symm hp
        · exact h3
      have ih := xorL_one h2 hu' h0 fun k hk => h k (List.mem_cons_of_mem _ hk)
      rw [h p (List.mem_cons_self ..) hp, ← ih]
      apply Nat.eq_of_testBit_eq
      intro i
      simp only [Nat.testBit_xor]
      cases (g p).testBit i <;> cases (xorL f P).testBit i <;> cases (xorL g P).testBit i <;> rfl

def sumN (B P : List Nat) : Nat := xorL (fun k => B.getD k 0) P
def rowN (P : List Nat) : Nat := P.foldl (fun a k => a ||| 2 ^ k) 0
theorem fold_or_bit (i : Nat) : ∀ (P : List Nat) (s : Nat), (P.foldl (fun a k => a ||| 2 ^ k) s).testBit i = (s.testBit i || decide (i ∈ P))
  | [], s => by simp
  | p :: P, s => by
    rw [List.foldl_cons, fold_or_bit i P, Nat.testBit_or, Nat.testBit_two_pow]
    by_cases h : p = i
    · subst h; simp
    · have h' : ¬ i = p := fun e => h e.symm
      simp [h, h']
theorem rowN_bit (P : List Nat) (i : Nat) : (rowN P).testBit i = decide (i ∈ P) := by rw [rowN, fold_or_bit]; simp
theorem rowN_lt {n : Nat} {P : List Nat} (h : ∀ k ∈ P, k < n) : rowN P < 2 ^ n := by
  apply Nat.lt_pow_two_of_testBit
  intro i hi
  rw [rowN_bit]
  simp
  intro hm
  have := h i hm
  omega
theorem rowN_xor : ∀ {P : List Nat}, P.Nodup → rowN P = xorL (fun k => 2 ^ k) P
  | [], _ => rfl
  | p :: P, hn => by
    obtain ⟨h1, h2⟩ := List.nodup_cons.1 hn
    rw [xorL_cons, ← rowN_xor h2]
    apply Nat.eq_of_testBit_eq
    intro i
    rw [rowN_bit, Nat.testBit_xor, rowN_bit, Nat.testBit_two_pow]
    by_cases h : p = i
    · subst h; simp [h1]
    · have h' : ¬ i = p := fun e => h e.symm
      simp [h, h']
theorem sm_pow (B : List Nat) : ∀ {n k : Nat}, k < n → sm B n (2 ^ k) = B.getD k 0
  | n + 1, k, h => by
    rw [sm]
    by_cases hk : k = n
    · subst hk
      have : sm B k (2 ^ k) = sm B k 0 := sm_congr fun i hi => by rw [Nat.testBit_two_pow, Nat.zero_testBit]; simp; omega
      rw [this, sm_zero, Nat.testBit_two_pow]; simp
    · rw [sm_pow B (show k < n by omega), Nat.testBit_two_pow]
      simp [hk]
theorem sm_row {B : List Nat} {n : Nat} : ∀ {P : List Nat}, P.Nodup → (∀ k ∈ P, k < n) → sm B n (rowN P) = sumN B P
  | [], _, _ => by rw [show rowN [] = 0 from rfl, sm_zero]; rfl
  | p :: P, hn, h => by
    obtain ⟨_, h2⟩ := List.nodup_cons.1 hn
    rw [rowN_xor hn, xorL_cons, ← rowN_xor h2, sm_xor, sm_pow B (h p (List.mem_cons_self ..)), sm_row h2 fun k hk => h k (List.mem_cons_of_mem _ hk), sumN, sumN, xorL_cons]
theorem sm_idx (rows : List Nat) (m : Nat) : ∀ k, sumN rows (idxL m k) = sm rows k m
  | 0 => by simp [idxL, sumN, xorL, sm]
  | k + 1 => by
    rw [idxL_succ, sm, ← sm_idx rows m k, sumN, xorL, List.foldl_append, ← xorL, ← sumN]
    split
    · simp
    · simp
theorem sm_lin {φ : Nat → Nat} (h0 : φ 0 = 0) (hx : ∀ a b, φ (a ^^^ b) = φ a ^^^ φ b) (rows : List Nat) (m : Nat) : ∀ k, sm (rows.map φ) k m = φ (sm rows k m)
  | 0 => h0.symm
  | k + 1 => by
    rw [sm, sm, sm_lin h0 hx rows m k, hx]
    split
    · congr 1
      rcases Nat.lt_or_ge k rows.length with h | h
      · simp [List.getD, h]
      · simp [List.getD, h, h0]
    · rw [h0]

/-- The row of a symbol, and its sum in a block. -/
def rowOfN (n no : Nat) : Nat := rowN (partsL no n)
theorem rowOf_lt {n : Nat} (no : Nat) (hn : 1 ≤ n) : rowOfN n no < 2 ^ n := rowN_lt (parts_ok no hn).1.2
theorem sum_row {B : List Nat} {n : Nat} (no : Nat) (hn : 1 ≤ n) : sumN B (partsL no n) = sm B n (rowOfN n no) := (sm_row (parts_ok no hn).1.nodup (parts_ok no hn).1.2).symm
/-- Gaussian decoding gives the block's pieces. -/
theorem solve_block {B nos : List Nat} {n k : Nat} (hn : 1 ≤ n) (hk : k < n) (hs : Sp (nos.map (rowOfN n)) (2 ^ k)) :
    sumN (nos.map fun no => sumN B (partsL no n)) (idxL (mkM (nos.map (rowOfN n)) nos.length (2 ^ k)) nos.length) = B.getD k 0 := by
  have e : (nos.map fun no => sumN B (partsL no n)) = (nos.map (rowOfN n)).map (sm B n) := by
    rw [List.map_map]
    exact List.map_congr_left fun no _ => sum_row no hn
  have hm := (mkM_spec (rows := nos.map (rowOfN n)) (k := nos.length) (want := 2 ^ k) (by simp) (by rw [List.take_of_length_le (by simp)]; exact hs)).1
  rw [e, sm_idx, sm_lin (sm_zero B n) (fun a b => sm_xor B a b n), hm, sm_pow B hk]
end Go.Proofs.Ytgakklanboabjaa
