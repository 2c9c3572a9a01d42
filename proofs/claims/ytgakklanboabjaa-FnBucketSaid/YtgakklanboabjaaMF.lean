/-
  Plain mathematics of chapter 5: peeling.
-/
import Derived.Test.YtgakklanboabjaaME
namespace Go.Proofs.Ytgakklanboabjaa

/-- What is known: for each piece its value, or none. -/
abbrev Know := List (Option Nat)
def unkL (S : Know) (P : List Nat) : List Nat := P.filter fun k => (S.getD k none).isNone
def knV (S : Know) (k : Nat) : Nat := (S.getD k none).getD 0
def stepS (n : Nat) (S : Know) (x : Nat × Nat) : Option Know :=
  if (unkL S (partsL x.1 n)).length = 1 then some (S.set ((unkL S (partsL x.1 n)).getD 0 0) (some (x.2 ^^^ xorL (knV S) (partsL x.1 n)))) else none
def peel1 (n : Nat) (L : List (Nat × Nat)) (S : Know) : Option Know := L.findSome? (stepS n S)
def peelK (n : Nat) (L : List (Nat × Nat)) : Nat → Know → Know
  | 0, S => S
  | f + 1, S => match peel1 n L S with
    | none => S
    | some S' => peelK n L f S'
def noneN (S : Know) : Nat := S.countP Option.isNone
def peelL (n : Nat) (L : List (Nat × Nat)) : Know := peelK n L (n + 1) (List.replicate n none)
theorem noneN_le (S : Know) : noneN S ≤ S.length := List.countP_le_length
theorem getD_none {S : Know} {k : Nat} (hk : k < S.length) : S.getD k none = S[k] := by simp [List.getD, hk]
theorem noneN_set : ∀ {S : Know} {k : Nat} (v : Nat) (hk : k < S.length), S[k] = none → noneN (S.set k (some v)) + 1 = noneN S
  | s :: S, 0, v, _, h => by
    have h' : s = none := h
    subst h'
    simp [noneN, List.set_cons_zero]
  | s :: S, k + 1, v, hk, h => by
    have ih := noneN_set (S := S) (k := k) v (by simp at hk; omega) h
    rw [List.set_cons_succ]
    unfold noneN at ih ⊢
    rw [List.countP_cons, List.countP_cons]
    omega
theorem step_facts {n : Nat} {S S' : Know} {x : Nat × Nat} (hn : 1 ≤ n) (hS : S.length = n) (h : stepS n S x = some S') :
    ∃ u, u ∈ partsL x.1 n ∧ u < n ∧ S.getD u none = none ∧ (∀ k ∈ partsL x.1 n, k ≠ u → (S.getD k none).isSome = true) ∧ S' = S.set u (some (x.2 ^^^ xorL (knV S) (partsL x.1 n))) ∧ S'.length = n ∧ noneN S' + 1 = noneN S := by
  unfold stepS at h
  split at h
  · rename_i h1
    injection h with h
    have hr := (parts_ok x.1 hn).1
    generalize partsL x.1 n = P at *
    obtain ⟨u, hu⟩ : ∃ u, unkL S P = [u] := by
      match hq : unkL S P, h1 with
      | [u], _ => exact ⟨u, rfl⟩
    have hm : u ∈ unkL S P := by rw [hu]; exact List.mem_singleton.2 rfl
    obtain ⟨hp, hnone⟩ := List.mem_filter.1 hm
    have hun : S.getD u none = none := by simpa using hnone
    rw [hu, show [u].getD 0 0 = u from rfl] at h
    have hul : u < S.length := by rw [hS]; exact hr.2 u hp
    refine ⟨u, hp, hr.2 u hp, hun, fun k hk hne => ?_, h.symm, ?_, ?_⟩
    · cases hb : (S.getD k none).isSome
      · have : k ∈ unkL S P := List.mem_filter.2 ⟨hk, by simpa using hb⟩
        rw [hu] at this
        exact absurd (List.mem_singleton.1 this) hne
      · rfl
    · rw [← h, List.length_set]; exact hS
    · rw [← h]
      exact noneN_set _ hul (by rw [← getD_none hul]; exact hun)
  · cases h
theorem peel1_facts {n : Nat} {L : List (Nat × Nat)} {S S' : Know} (h : peel1 n L S = some S') : ∃ x ∈ L, stepS n S x = some S' := List.exists_of_findSome?_eq_some h
theorem peel1_length {n : Nat} {L : List (Nat × Nat)} {S S' : Know} (hn : 1 ≤ n) (hS : S.length = n) (h : peel1 n L S = some S') : S'.length = n ∧ noneN S' + 1 = noneN S := by
  obtain ⟨x, _, hx⟩ := peel1_facts h
  obtain ⟨_, _, _, _, _, _, h1, h2⟩ := step_facts hn hS hx
  exact ⟨h1, h2⟩
/-- Whatever holds at first and is kept by a step holds at the end. -/
theorem peelK_keeps {n : Nat} {L : List (Nat × Nat)} {I : Know → Prop} (hI : ∀ S S' x, x ∈ L → S.length = n → I S → stepS n S x = some S' → I S') (hn : 1 ≤ n) :
    ∀ (f : Nat) (S : Know), S.length = n → I S → (peelK n L f S).length = n ∧ I (peelK n L f S)
  | 0, S, hS, h => ⟨hS, h⟩
  | f + 1, S, hS, h => by
    rw [peelK]
    cases hp : peel1 n L S with
    | none => exact ⟨hS, h⟩
    | some S' =>
      obtain ⟨x, hx, hst⟩ := peel1_facts hp
      exact peelK_keeps hI hn f S' (peel1_length hn hS hp).1 (hI S S' x hx hS h hst)
theorem peelL_length {n : Nat} {L : List (Nat × Nat)} (hn : 1 ≤ n) : (peelL n L).length = n :=
  (peelK_keeps (I := fun _ => True) (fun _ _ _ _ _ _ _ => trivial) hn (n + 1) _ (by simp) trivial).1
theorem know_none (n k : Nat) : (List.replicate n (none : Option Nat)).getD k none = none := by
  rcases Nat.lt_or_ge k n with h | h
  · simp [List.getD, h]
  · simp [List.getD, h]
theorem getD_set {S : Know} {u k : Nat} {v : Option Nat} (hu : u < S.length) : (S.set u v).getD k none = if k = u then v else S.getD k none := by
  by_cases h : k = u
  · subst h; simp [List.getD, hu]
  · have h' : ¬ u = k := fun e => h e.symm
    simp [List.getD, h, h']
/-- The pieces that peeling recovers are the block's. -/
theorem peel_block {n : Nat} {L : List (Nat × Nat)} {B : List Nat} (hn : 1 ≤ n) (hL : ∀ x ∈ L, x.2 = sumN B (partsL x.1 n)) :
    ∀ k v, (peelL n L).getD k none = some v → v = B.getD k 0 := by
  refine (peelK_keeps (I := fun S => ∀ k v, S.getD k none = some v → v = B.getD k 0) (fun S S' x hx hS h hst => ?_) hn (n + 1) _ (by simp) (fun k v h => by rw [know_none] at h; cases h)).2
  obtain ⟨u, hu, hun, hnone, hsome, rfl, _, _⟩ := step_facts hn hS hst
  intro k v hkv
  rw [getD_set (by rw [hS]; exact hun)] at hkv
  split at hkv
  · rename_i e
    subst e
    injection hkv with hkv
    rw [← hkv, hL x hx, sumN]
    refine xorL_one (parts_ok x.1 hn).1.nodup hu (by rw [knV, hnone]; rfl) fun j hj hne => ?_
    have hs := hsome j hj hne
    obtain ⟨y, hy⟩ := Option.isSome_iff_exists.1 hs
    rw [knV, hy, ← h j y hy]; rfl
  · exact h k v hkv
/-- A known piece's row lies in the span of the symbols' rows. -/
theorem peel_span {n : Nat} {L : List (Nat × Nat)} (hn : 1 ≤ n) : ∀ k, ((peelL n L).getD k none).isSome = true → Sp ((L.map Prod.fst).map (rowOfN n)) (2 ^ k) := by
  refine (peelK_keeps (I := fun S => ∀ k, (S.getD k none).isSome = true → Sp ((L.map Prod.fst).map (rowOfN n)) (2 ^ k)) (fun S S' x hx hS h hst => ?_) hn (n + 1) _ (by simp) (fun k h => by rw [know_none] at h; cases h)).2
  obtain ⟨u, hu, hun, hnone, hsome, rfl, _, _⟩ := step_facts hn hS hst
  intro k hk
  rw [getD_set (by rw [hS]; exact hun)] at hk
  split at hk
  · rename_i e
    subst e
    have hrow : Sp ((L.map Prod.fst).map (rowOfN n)) (rowOfN n x.1) := Sp.mem (List.mem_map.2 ⟨x.1, List.mem_map.2 ⟨x, hx, rfl⟩, rfl⟩)
    have hpo := (parts_ok x.1 hn).1
    have hone := xorL_one (f := fun j => 2 ^ j) (g := fun j => if j = k then 0 else 2 ^ j) hpo.nodup hu (by simp) (fun j _ hne => by simp [hne])
    have hg : Sp ((L.map Prod.fst).map (rowOfN n)) (xorL (fun j => if j = k then 0 else 2 ^ j) (partsL x.1 n)) := by
      have hgen : ∀ P : List Nat, (∀ j ∈ P, j ∈ partsL x.1 n) → Sp ((L.map Prod.fst).map (rowOfN n)) (xorL (fun j => if j = k then 0 else 2 ^ j) P) := fun P => by
        induction P with
        | nil => intro _; exact Sp.zero _
        | cons p P ih =>
          intro hP
          rw [xorL_cons]
          refine Sp.xor ?_ (ih fun j hj => hP j (List.mem_cons_of_mem _ hj))
          split
          · exact Sp.zero _
          · rename_i hne
            exact h p (hsome p (hP p (List.mem_cons_self ..)) hne)
      exact hgen _ fun j hj => hj
    have := hrow.xor hg
    rw [rowOfN, rowN_xor hpo.nodup, hone] at this
    exact this
  · exact h k hk
theorem sp_all {rows : List Nat} : ∀ {n : Nat}, (∀ k, k < n → Sp rows (2 ^ k)) → ∀ x, x < 2 ^ n → Sp rows x
  | 0, _, x, hx => by
    obtain rfl : x = 0 := by simpa using hx
    exact Sp.zero _
  | n + 1, h, x, hx => by
    cases hb : x.testBit n
    · exact sp_all (fun k hk => h k (by omega)) x (lt_of_bit hx hb)
    · have h1 : x ^^^ 2 ^ n < 2 ^ n := by
        apply lt_of_bit
        · exact Nat.xor_lt_two_pow hx (Nat.pow_lt_pow_right (by omega) (by omega))
        · rw [Nat.testBit_xor, hb, Nat.testBit_two_pow]; simp
      have h2 := (sp_all (fun k hk => h k (by omega)) _ h1).xor (h n (by omega))
      rw [xor_cancel] at h2
      exact h2
theorem rank_full {rows : List Nat} {n : Nat} (hr : ∀ r ∈ rows, r < 2 ^ n) (h : ∀ k, k < n → Sp rows (2 ^ k)) : rank rows = n := by
  have hc := span_count hr
  have hf : (List.range (2 ^ n)).filter (canB rows) = List.range (2 ^ n) := List.filter_eq_self.2 fun x hx => (canB_iff rows x).2 (sp_all h x (List.mem_range.1 hx))
  rw [hf, List.length_range] at hc
  exact ((Nat.pow_right_inj (Nat.lt_succ_self 1)).1 hc).symm
theorem full_span {rows : List Nat} {n : Nat} (hr : ∀ r ∈ rows, r < 2 ^ n) (h : rank rows = n) : ∀ k, k < n → Sp rows (2 ^ k) := fun k hk => by
  have hc := span_count hr
  rw [h] at hc
  have hf : (List.range (2 ^ n)).filter (canB rows) = List.range (2 ^ n) := List.filter_sublist.eq_of_length (by rw [hc, List.length_range])
  exact (canB_iff rows _).1 (List.filter_eq_self.1 hf _ (List.mem_range.2 (Nat.pow_lt_pow_right (by omega) hk)))
end Go.Proofs.Ytgakklanboabjaa
