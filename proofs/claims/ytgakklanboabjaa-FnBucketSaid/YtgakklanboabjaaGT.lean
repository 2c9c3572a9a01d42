/-
  The laws' helpers on the steps of an allocator of numbers (flat.py, ARGS=1), and what stands under them.
-/
import Derived.Test.YtgakklanboabjaaRD
import Derived.Test.YtgakklanboabjaaVO
namespace Go.Proofs.Ytgakklanboabjaa
open Go.RowKit

theorem made_k (z : Array Value) (k : Nat) (hk : z.size = k) (h0 : 0 < k) : ∀ n : Nat, (madeCells z (n * k)).toList = (List.replicate n z.toList).flatten
  | 0 => by simp [madeCells]
  | n + 1 => by
    have ih := made_k z k hk h0 n
    unfold madeCells at ih ⊢
    rw [Array.toList_map, Array.toList_range] at ih ⊢
    rw [Nat.succ_mul, List.range_add, List.map_append, ih, List.replicate_succ', List.flatten_append, List.map_map]
    congr 1
    rw [List.flatten_singleton]
    apply List.ext_getElem
    · simp [hk]
    · intro i h1 h2
      have hi : i < k := by simpa using h1
      have h3 : (n * k + i) % k = i := by rw [Nat.mul_comm, Nat.mul_add_mod]; exact Nat.mod_eq_of_lt hi
      simp [hk, h3, hi, getElem!_pos]
/-- A step: two cells. -/
abbrev Idc := Int × Bool
abbrev fId (r : Idc) : List Value := [.int .i64 r.1, .bool r.2]
abbrev idV (r : Idc) : Value := .agg #[.int .i64 r.1, .bool r.2]
theorem fId_len : ∀ x, (fId x).length = 2 := fun _ => rfl
theorem fId_one : ∀ x, ∀ u ∈ fId x, u.oneCell' = true := fun x u hu => by simp at hu; rcases hu with rfl | rfl <;> rfl
theorem Id_at {w : World} {A : Option Addr} {l : List Idc} (h : RdR 2 fId w A l) {j : Nat} (hj : j < l.length) : ∃ b o, A = some ⟨b, o, none⟩ ∧ w.cell? ⟨b, o + j * 2, none⟩ = some (.int .i64 l[j].1) ∧ w.cell? ⟨b, o + j * 2 + 1, none⟩ = some (.bool l[j].2) := by
  obtain ⟨b, o, e, hc⟩ := h (by rintro rfl; simp at hj)
  exact ⟨b, o, e, hc j hj 0 _ rfl, hc j hj 1 _ rfl⟩
/-- What markIdStepS writes. -/
def markId (k n : Nat) : List Idc := (List.range n).map fun j => (((k + 2 * j : Nat) : Int), ((((k + 2 * j : Nat) : Int) + 1) % 3 == 0))
theorem markId_length (k n : Nat) : (markId k n).length = n := by simp [markId]
theorem markId_at (k : Nat) {n j : Nat} (h : j < (markId k n).length) : (markId k n)[j] = (((k + 2 * j : Nat) : Int), ((((k + 2 * j : Nat) : Int) + 1) % 3 == 0)) := by simp [markId]
theorem markId_succ (k n : Nat) : markId k (n + 1) = markId k n ++ [(((k + 2 * n : Nat) : Int), ((((k + 2 * n : Nat) : Int) + 1) % 3 == 0))] := by simp [markId, List.range_succ]
theorem markId_set (k : Nat) {l : List Idc} {j : Nat} (h : j < l.length) : (markId k j ++ l.drop j).set j (((k + 2 * j : Nat) : Int), ((((k + 2 * j : Nat) : Int) + 1) % 3 == 0)) = markId k (j + 1) ++ l.drop (j + 1) := by
  rw [List.set_append_right _ _ (by rw [markId_length]; exact Nat.le_refl _), markId_length, Nat.sub_self, List.drop_eq_getElem_cons h, List.set_cons_zero, markId_succ, List.append_assoc]
  rfl
theorem madeId (n : Nat) : (madeCells (Value.agg #[.int .i64 0, .bool false]).cells (n * 2)).toList = (List.replicate n ((0, false) : Idc)).flatMap fId := by
  rw [show (Value.agg #[.int .i64 0, .bool false]).cells = #[.int .i64 0, .bool false] from rfl, made_k #[.int .i64 0, .bool false] 2 rfl (by decide) n]
  simp [List.flatMap, List.map_replicate]
end Go.Proofs.Ytgakklanboabjaa
