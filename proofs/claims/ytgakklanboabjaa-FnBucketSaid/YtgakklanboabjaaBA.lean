/-
  The laws' helpers on leases and their steps (flat.py, ARGS=1), chapter 12.
-/
import Derived.Test.YtgakklanboabjaaGT
namespace Go.Proofs.Ytgakklanboabjaa
open Go.RowKit

/-- A lease: holder, expiry, grants. -/
abbrev Zac := Int × Int × Int
abbrev fZa (r : Zac) : List Value := [.int .i64 r.1, .int .i64 r.2.1, .int .i64 r.2.2]
abbrev lsV (r : Zac) : Value := .agg #[.int .i64 r.1, .int .i64 r.2.1, .int .i64 r.2.2]
theorem fZa_len : ∀ x, (fZa x).length = 3 := fun _ => rfl
theorem fZa_one : ∀ x, ∀ u ∈ fZa x, u.oneCell' = true := fun x u hu => by simp at hu; rcases hu with rfl | rfl | rfl <;> rfl
theorem Za_at {w : World} {A : Option Addr} {l : List Zac} (h : RdR 3 fZa w A l) {j : Nat} (hj : j < l.length) : ∃ b o, A = some ⟨b, o, none⟩ ∧ w.cell? ⟨b, o + j * 3, none⟩ = some (.int .i64 l[j].1) ∧ w.cell? ⟨b, o + j * 3 + 1, none⟩ = some (.int .i64 l[j].2.1) ∧ w.cell? ⟨b, o + j * 3 + 2, none⟩ = some (.int .i64 l[j].2.2) := by
  obtain ⟨b, o, e, hc⟩ := h (by rintro rfl; simp at hj)
  exact ⟨b, o, e, hc j hj 0 _ rfl, hc j hj 1 _ rfl, hc j hj 2 _ rfl⟩
/-- What markLeaseS writes. -/
def markZa (k n : Nat) : List Zac := (List.range n).map fun j => (((k + 3 * j : Nat) : Int), ((k + 3 * j + 1 : Nat) : Int), ((k + 3 * j + 2 : Nat) : Int))
theorem markZa_length (k n : Nat) : (markZa k n).length = n := by simp [markZa]
theorem markZa_at (k : Nat) {n j : Nat} (h : j < (markZa k n).length) : (markZa k n)[j] = (((k + 3 * j : Nat) : Int), ((k + 3 * j + 1 : Nat) : Int), ((k + 3 * j + 2 : Nat) : Int)) := by simp [markZa]
theorem markZa_succ (k n : Nat) : markZa k (n + 1) = markZa k n ++ [(((k + 3 * n : Nat) : Int), ((k + 3 * n + 1 : Nat) : Int), ((k + 3 * n + 2 : Nat) : Int))] := by simp [markZa, List.range_succ]
theorem markZa_set (k : Nat) {l : List Zac} {j : Nat} (h : j < l.length) : (markZa k j ++ l.drop j).set j (((k + 3 * j : Nat) : Int), ((k + 3 * j + 1 : Nat) : Int), ((k + 3 * j + 2 : Nat) : Int)) = markZa k (j + 1) ++ l.drop (j + 1) := by
  rw [List.set_append_right _ _ (by rw [markZa_length]; exact Nat.le_refl _), markZa_length, Nat.sub_self, List.drop_eq_getElem_cons h, List.set_cons_zero, markZa_succ, List.append_assoc]
  rfl
theorem madeZa (n : Nat) : (madeCells (Value.agg #[.int .i64 0, .int .i64 0, .int .i64 0]).cells (n * 3)).toList = (List.replicate n ((0, 0, 0) : Zac)).flatMap fZa := by
  rw [show (Value.agg #[.int .i64 0, .int .i64 0, .int .i64 0]).cells = #[.int .i64 0, .int .i64 0, .int .i64 0] from rfl, made_k #[.int .i64 0, .int .i64 0, .int .i64 0] 3 rfl (by decide) n]
  simp [List.flatMap, List.map_replicate]
/-- A step of a lease: kind, who, now, long. -/
abbrev Zpc := Int × Int × Int × Int
abbrev fZp (r : Zpc) : List Value := [.int .i64 r.1, .int .i64 r.2.1, .int .i64 r.2.2.1, .int .i64 r.2.2.2]
abbrev lpV (r : Zpc) : Value := .agg #[.int .i64 r.1, .int .i64 r.2.1, .int .i64 r.2.2.1, .int .i64 r.2.2.2]
theorem fZp_len : ∀ x, (fZp x).length = 4 := fun _ => rfl
theorem fZp_one : ∀ x, ∀ u ∈ fZp x, u.oneCell' = true := fun x u hu => by simp at hu; rcases hu with rfl | rfl | rfl | rfl <;> rfl
theorem Zp_at {w : World} {A : Option Addr} {l : List Zpc} (h : RdR 4 fZp w A l) {j : Nat} (hj : j < l.length) : ∃ b o, A = some ⟨b, o, none⟩ ∧ w.cell? ⟨b, o + j * 4, none⟩ = some (.int .i64 l[j].1) ∧ w.cell? ⟨b, o + j * 4 + 1, none⟩ = some (.int .i64 l[j].2.1) ∧ w.cell? ⟨b, o + j * 4 + 2, none⟩ = some (.int .i64 l[j].2.2.1) ∧ w.cell? ⟨b, o + j * 4 + 3, none⟩ = some (.int .i64 l[j].2.2.2) := by
  obtain ⟨b, o, e, hc⟩ := h (by rintro rfl; simp at hj)
  exact ⟨b, o, e, hc j hj 0 _ rfl, hc j hj 1 _ rfl, hc j hj 2 _ rfl, hc j hj 3 _ rfl⟩
/-- What markLeaseStepS writes. -/
def markZp (k n : Nat) : List Zpc := (List.range n).map fun j => (((k + 4 * j : Nat) : Int), ((k + 4 * j + 1 : Nat) : Int), ((k + 4 * j + 2 : Nat) : Int), ((k + 4 * j + 3 : Nat) : Int))
theorem markZp_length (k n : Nat) : (markZp k n).length = n := by simp [markZp]
theorem markZp_at (k : Nat) {n j : Nat} (h : j < (markZp k n).length) : (markZp k n)[j] = (((k + 4 * j : Nat) : Int), ((k + 4 * j + 1 : Nat) : Int), ((k + 4 * j + 2 : Nat) : Int), ((k + 4 * j + 3 : Nat) : Int)) := by simp [markZp]
theorem markZp_succ (k n : Nat) : markZp k (n + 1) = markZp k n ++ [(((k + 4 * n : Nat) : Int), ((k + 4 * n + 1 : Nat) : Int), ((k + 4 * n + 2 : Nat) : Int), ((k + 4 * n + 3 : Nat) : Int))] := by simp [markZp, List.range_succ]
theorem markZp_set (k : Nat) {l : List Zpc} {j : Nat} (h : j < l.length) : (markZp k j ++ l.drop j).set j (((k + 4 * j : Nat) : Int), ((k + 4 * j + 1 : Nat) : Int), ((k + 4 * j + 2 : Nat) : Int), ((k + 4 * j + 3 : Nat) : Int)) = markZp k (j + 1) ++ l.drop (j + 1) := by
  rw [List.set_append_right _ _ (by rw [markZp_length]; exact Nat.le_refl _), markZp_length, Nat.sub_self, List.drop_eq_getElem_cons h, List.set_cons_zero, markZp_succ, List.append_assoc]
  rfl
theorem madeZp (n : Nat) : (madeCells (Value.agg #[.int .i64 0, .int .i64 0, .int .i64 0, .int .i64 0]).cells (n * 4)).toList = (List.replicate n ((0, 0, 0, 0) : Zpc)).flatMap fZp := by
  rw [show (Value.agg #[.int .i64 0, .int .i64 0, .int .i64 0, .int .i64 0]).cells = #[.int .i64 0, .int .i64 0, .int .i64 0, .int .i64 0] from rfl, made_k #[.int .i64 0, .int .i64 0, .int .i64 0, .int .i64 0] 4 rfl (by decide) n]
  simp [List.flatMap, List.map_replicate]
end Go.Proofs.Ytgakklanboabjaa
