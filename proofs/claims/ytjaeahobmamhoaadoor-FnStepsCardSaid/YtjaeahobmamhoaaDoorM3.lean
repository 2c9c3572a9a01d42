/-
  Plain mathematics of rows: lists of indexes that rise; the row that they make; the sum of rows.
-/
import Derived.Test.YtjaeahobmamhoaaDoorM2
namespace Go.Proofs.YtjaeahobmamhoaaDoor

/-- The list rises strictly, from 'least' on, below 'count'. -/
def risB (least count : Int) : List Int → Bool
  | [] => true
  | k :: r => if k < least ∨ count ≤ k then false else risB (k + 1) count r

theorem risB_no {l c : Int} {zs : List Int} {j : Nat} (hj : j < zs.length) (h : zs[j] < l ∨ c ≤ zs[j]) : risB l c (zs.drop j) = false := by
  rw [List.drop_eq_getElem_cons hj, risB, if_pos h]
theorem risB_yes {l c : Int} {zs : List Int} {j : Nat} (hj : j < zs.length) (h1 : l ≤ zs[j]) (h2 : zs[j] < c) : risB l c (zs.drop j) = risB (zs[j] + 1) c (zs.drop (j + 1)) := by
  rw [List.drop_eq_getElem_cons hj, risB, if_neg (by omega)]
theorem risB_end {l c : Int} {zs : List Int} : risB l c (zs.drop zs.length) = true := by simp [risB]
theorem risB_in {c : Int} {zs : List Int} {l : Int} (h : risB l c zs = true) : ∀ z ∈ zs, l ≤ z ∧ z < c := by
  induction zs generalizing l with
  | nil => intro z hz; cases hz
  | cons k r ih =>
    rw [risB] at h
    split at h
    · cases h
    · intro z hz
      rcases List.mem_cons.1 hz with rfl | hz
      · omega
      · have := ih h z hz; omega

/-- What an index must reach, behind the first k. -/
def leastOf (zs : List Int) : Nat → Int
  | 0 => 0
  | j + 1 => zs.getD j 0 + 1

/-- The row of the first k indexes. -/
def rowL (zs : List Int) : Nat := zs.foldl (fun a k => a ||| 2 ^ k.toNat) 0
theorem rowL_snoc (zs : List Int) (j : Nat) (hj : j < zs.length) : rowL (zs.take (j + 1)) = rowL (zs.take j) ||| 2 ^ (zs[j]).toNat := by
  rw [List.take_succ_eq_append_getElem hj, rowL, List.foldl_append]; rfl
theorem rowL_lt {zs : List Int} (h : ∀ z ∈ zs, 0 ≤ z ∧ z < 16) : rowL zs < 65536 := by
  have key : ∀ (l : List Int) (a : Nat), a < 2 ^ 16 → (∀ z ∈ l, 0 ≤ z ∧ z < 16) → l.foldl (fun a k => a ||| 2 ^ k.toNat) a < 2 ^ 16 := by
    intro l
    induction l with
    | nil => intro a ha _; exact ha
    | cons k r ih =>
      intro a ha hl
      have hk := hl k (by simp)
      exact ih _ (Nat.or_lt_two_pow ha (Nat.pow_lt_pow_right (by decide) (by omega))) (fun z hz => hl z (by simp [hz]))
  exact key zs 0 (by decide) h

theorem or_i64' (a : Nat) (k : Nat) (ha : a < 65536) (hk : k ≤ 16) : bits .or .i64 (a : Int) ((2 : Int) ^ k) = ((a ||| 2 ^ k : Nat) : Int) := by
  have h := two_pow_le k hk
  rw [show ((2 : Int) ^ k) = ((2 ^ k : Nat) : Int) by simp, or_i64 a _ (by omega) (by omega)]
end Go.Proofs.YtjaeahobmamhoaaDoor
