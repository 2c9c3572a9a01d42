/-
  Plain mathematics of chapter 4: pieces of four bytes, parts of nearly equal sizes, blocks.
-/
import Derived.Test.YthabkkboodhbmaaRows
namespace Go.Proofs.Ythabkkboodhbmaa

/-- The number of pieces of n bytes. -/
def cntP (n : Nat) : Nat := (n + 3) / 4
/-- The piece that begins at byte i. -/
def pieceN (B : List Nat) (i : Nat) : Nat := ((B.getD i 0 * 256 + B.getD (i + 1) 0) * 256 + B.getD (i + 2) 0) * 256 + B.getD (i + 3) 0
def piecesL (B : List Nat) : List Nat := (List.range (cntP B.length)).map fun j => pieceN B (4 * j)
def byte4 (n : Nat) : List Nat := [n / 16777216 % 256, n / 65536 % 256, n / 256 % 256, n % 256]
def textL (P : List Nat) : List Nat := P.flatMap byte4

theorem getD_lt {B : List Nat} (h : ∀ b ∈ B, b < 256) (i : Nat) : B.getD i 0 < 256 := by
  rw [List.getD_eq_getElem?_getD]
  cases hi : B[i]? with
  | none => simp
  | some b => exact h b (List.mem_of_getElem? hi)
theorem piece_lt {B : List Nat} (h : ∀ b ∈ B, b < 256) (i : Nat) : pieceN B i < 4294967296 := by
  have h0 := getD_lt h i; have h1 := getD_lt h (i + 1); have h2 := getD_lt h (i + 2); have h3 := getD_lt h (i + 3)
  unfold pieceN; omega
theorem byte4_piece {B : List Nat} (h : ∀ b ∈ B, b < 256) (i : Nat) : byte4 (pieceN B i) = [B.getD i 0, B.getD (i + 1) 0, B.getD (i + 2) 0, B.getD (i + 3) 0] := by
  have h0 := getD_lt h i; have h1 := getD_lt h (i + 1); have h2 := getD_lt h (i + 2); have h3 := getD_lt h (i + 3)
  unfold byte4 pieceN
  generalize B.getD i 0 = a at *
  generalize B.getD (i + 1) 0 = b at *
  generalize B.getD (i + 2) 0 = c at *
  generalize B.getD (i + 3) 0 = d at *
  rw [show (((a * 256 + b) * 256 + c) * 256 + d) / 16777216 % 256 = a by omega, show (((a * 256 + b) * 256 + c) * 256 + d) / 65536 % 256 = b by omega,
    show (((a * 256 + b) * 256 + c) * 256 + d) / 256 % 256 = c by omega, show (((a * 256 + b) * 256 + c) * 256 + d) % 256 = d by omega]
theorem piecesL_length (B : List Nat) : (piecesL B).length = cntP B.length := by simp [piecesL]
theorem piecesL_at {B : List Nat} {j : Nat} (h : j < (piecesL B).length) : (piecesL B)[j] = pieceN B (4 * j) := by simp [piecesL]
theorem piecesL_lt {B : List Nat} (h : ∀ b ∈ B, b < 256) : ∀ p ∈ piecesL B, p < 4294967296 := fun p hp => by
  obtain ⟨j, _, rfl⟩ := List.mem_map.1 hp
  exact piece_lt h _
theorem textL_length : ∀ (P : List Nat), (textL P).length = 4 * P.length
  | [] => rfl
  | p :: P => by
    have := textL_length P
    unfold textL at this ⊢
    rw [List.flatMap_cons, List.length_append, this, List.length_cons, byte4]
    simp; omega
theorem textL_append (P Q : List Nat) : textL (P ++ Q) = textL P ++ textL Q := by simp [textL]
theorem textL_lt (P : List Nat) : ∀ b ∈ textL P, b < 256 := fun b hb => by
  obtain ⟨p, _, h⟩ := List.mem_flatMap.1 hb
  simp [byte4] at h
  omega
/-- The bytes of pieces that lie side by side. -/
theorem text_run {B : List Nat} (h : ∀ b ∈ B, b < 256) (s : Nat) : ∀ n, textL ((List.range n).map fun j => pieceN B (4 * (s + j))) = (List.range (4 * n)).map fun i => B.getD (4 * s + i) 0
  | 0 => rfl
  | n + 1 => by
    rw [List.range_succ, List.map_append, textL_append, text_run h s n, show 4 * (n + 1) = 4 * n + 1 + 1 + 1 + 1 by omega, List.range_succ, List.range_succ, List.range_succ, List.range_succ]
    simp only [List.map_append, List.append_assoc, List.map_cons, List.map_nil, List.cons_append, List.nil_append]
    congr 1
    rw [textL, List.flatMap_cons, List.flatMap_nil, byte4_piece h, List.append_nil, show 4 * (s + n) = 4 * s + 4 * n by omega]
    rfl
theorem range_getD (B : List Nat) (s m : Nat) : (List.range m).map (fun i => B.getD (s + i) 0) = (B.drop s).take m ++ List.replicate (m - (B.length - s)) 0 := by
  apply List.ext_getElem?
  intro i
  by_cases hi : i < m
  · rw [List.getElem?_map, List.getElem?_range hi, Option.map_some]
    by_cases h2 : i < B.length - s
    · rw [List.getElem?_append_left (by simp; omega), List.getElem?_take_of_lt hi, List.getElem?_drop, List.getD_eq_getElem?_getD, List.getElem?_eq_getElem (show s + i < B.length by omega)]
      rfl
    · rw [List.getElem?_append_right (by simp; omega), List.getElem?_replicate, if_pos (by simp; omega), List.getD_eq_getElem?_getD, List.getElem?_eq_none (by omega)]
      rfl
  · rw [List.getElem?_eq_none (by simp; omega), List.getElem?_eq_none (by simp; omega)]
/-- Pieces from the one of index s on, n of them: their bytes, as many as there are. -/
theorem text_part {B : List Nat} (h : ∀ b ∈ B, b < 256) {s n long : Nat} (hn : s + n ≤ cntP B.length) (hl : long ≤ 4 * n) (hl2 : 4 * s + long ≤ B.length) :
    (textL (((piecesL B).drop s).take n)).take long = (B.drop (4 * s)).take long := by
  have e : ((piecesL B).drop s).take n = (List.range n).map fun j => pieceN B (4 * (s + j)) := by
    apply List.ext_getElem?
    intro i
    by_cases hi : i < n
    · rw [List.getElem?_take_of_lt hi, List.getElem?_drop, List.getElem?_map, List.getElem?_range hi, List.getElem?_eq_getElem (by rw [piecesL_length]; omega), piecesL_at]
      rfl
    · rw [List.getElem?_eq_none (by simp; omega), List.getElem?_eq_none (by simp; omega)]
  rw [e, text_run h, range_getD, List.take_append_of_le_length (by simp; omega), List.take_take, Nat.min_eq_left hl]
theorem text_pieces {B : List Nat} (h : ∀ b ∈ B, b < 256) : (textL (piecesL B)).take B.length = B := by
  have := text_part h (s := 0) (n := cntP B.length) (long := B.length) (by omega) (by unfold cntP; omega) (by omega)
  rw [List.drop_zero, ← piecesL_length, List.take_length, Nat.mul_zero, List.drop_zero, List.take_length] at this
  exact this

/-- The number of blocks of n bytes. -/
def blkN (n : Nat) : Nat := (cntP n + 7) / 8
/-- Where block k of b begins, among p pieces. -/
def atK (p b k : Nat) : Nat := k * (p / b) + min k (p % b)
def blockL (B : List Nat) (p b k : Nat) : Nat × List Nat := (min (B.length - 4 * atK p b k) (4 * (atK p b (k + 1) - atK p b k)), ((piecesL B).drop (atK p b k)).take (atK p b (k + 1) - atK p b k))
def cutL (B : List Nat) : List (Nat × List Nat) := (List.range (blkN B.length)).map (blockL B (cntP B.length) (blkN B.length))
theorem atK_succ (p b k : Nat) : atK p b (k + 1) = atK p b k + (if k < p % b then p / b + 1 else p / b) := by
  unfold atK
  rw [Nat.succ_mul]
  split <;> omega
theorem atK_zero (p b : Nat) : atK p b 0 = 0 := by simp [atK]
theorem atK_last {p b : Nat} (hb : 0 < b) : atK p b b = p := by
  unfold atK
  rw [Nat.min_eq_right (Nat.le_of_lt (Nat.mod_lt _ hb))]
  exact Nat.div_add_mod p b
theorem atK_mono (p b : Nat) {k j : Nat} (h : k ≤ j) : atK p b k ≤ atK p b j := by
  unfold atK
  exact Nat.add_le_add (Nat.mul_le_mul_right _ h) (by omega)
theorem cutL_length (B : List Nat) : (cutL B).length = blkN B.length := by simp [cutL]
theorem cutL_at {B : List Nat} {k : Nat} (h : k < (cutL B).length) : (cutL B)[k] = blockL B (cntP B.length) (blkN B.length) k := by simp [cutL]
/-- What there is to know of block k of a thing. -/
theorem block_facts {B : List Nat} (hB : B.length ≤ 96) {k : Nat} (hk : k < blkN B.length) :
    1 ≤ atK (cntP B.length) (blkN B.length) (k + 1) - atK (cntP B.length) (blkN B.length) k ∧ atK (cntP B.length) (blkN B.length) (k + 1) - atK (cntP B.length) (blkN B.length) k ≤ 8 ∧
    atK (cntP B.length) (blkN B.length) k ≤ atK (cntP B.length) (blkN B.length) (k + 1) ∧ atK (cntP B.length) (blkN B.length) (k + 1) ≤ cntP B.length ∧
    4 * atK (cntP B.length) (blkN B.length) k < B.length ∧ (k + 1 < blkN B.length → 4 * atK (cntP B.length) (blkN B.length) (k + 1) < B.length) ∧
    (cntP B.length / blkN B.length ≤ atK (cntP B.length) (blkN B.length) (k + 1) - atK (cntP B.length) (blkN B.length) k ∧ atK (cntP B.length) (blkN B.length) (k + 1) - atK (cntP B.length) (blkN B.length) k ≤ cntP B.length / blkN B.length + 1) := by
  have h1 : blkN B.length = (cntP B.length + 7) / 8 := rfl
  have h2 : cntP B.length = (B.length + 3) / 4 := rfl
  have h3 := atK_succ (cntP B.length) (blkN B.length) k
  have h4 := atK_last (p := cntP B.length) (b := blkN B.length) (by omega)
  have h5 := atK_mono (cntP B.length) (blkN B.length) (show k + 1 ≤ blkN B.length by omega)
  have h6 : k + 1 < blkN B.length → atK (cntP B.length) (blkN B.length) (k + 1) < cntP B.length := fun hlt => by
    have h7 := atK_mono (cntP B.length) (blkN B.length) (show k + 1 + 1 ≤ blkN B.length by omega)
    have h8 := atK_succ (cntP B.length) (blkN B.length) (k + 1)
    have h9 : 1 ≤ cntP B.length / blkN B.length := (Nat.le_div_iff_mul_le (by omega)).2 (by omega)
    split at h8 <;> omega
  have h9 : 1 ≤ cntP B.length / blkN B.length := (Nat.le_div_iff_mul_le (by omega)).2 (by omega)
  have h10 : cntP B.length / blkN B.length ≤ 8 := by
    have : cntP B.length / blkN B.length < 9 := (Nat.div_lt_iff_lt_mul (by omega)).2 (by omega)
    omega
  have h11 : k < cntP B.length % blkN B.length → cntP B.length / blkN B.length ≤ 7 := fun hlt => by
    have := Nat.div_add_mod (cntP B.length) (blkN B.length)
    rcases Nat.lt_or_ge (cntP B.length / blkN B.length) 8 with h | h
    · omega
    · have : blkN B.length * 8 ≤ blkN B.length * (cntP B.length / blkN B.length) := Nat.mul_le_mul_left _ h
      omega
  have h12 : k + 1 < blkN B.length → 4 * atK (cntP B.length) (blkN B.length) (k + 1) < B.length := fun hlt => by have := h6 hlt; omega
  by_cases hlt : k < cntP B.length % blkN B.length
  · rw [if_pos hlt] at h3
    have := h11 hlt
    refine ⟨by omega, by omega, by omega, by omega, by omega, h12, by omega, by omega⟩
  · rw [if_neg hlt] at h3
    refine ⟨by omega, by omega, by omega, by omega, by omega, h12, by omega, by omega⟩
end Go.Proofs.Ythabkkboodhbmaa
