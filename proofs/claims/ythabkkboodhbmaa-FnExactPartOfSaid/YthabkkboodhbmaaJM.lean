/-
  What FnCut and FnPieces ask of the model: a thing that is cut is glued again; the text of its pieces is the thing.
-/
import Derived.Test.YthabkkboodhbmaaJ9
namespace Go.Proofs.Ythabkkboodhbmaa
open Go.RowKit

theorem eqBs_self (a : List (Int × List Int)) : eqBs a a = true := by simp [eqBs]
theorem okAll_of (n : Nat) : ∀ (j : Nat) (bs : List (Int × List Int)), (∀ k (hk : k < bs.length), okAt n (j + k) bs[k] = true) → okAll n j bs = true
  | _, [], _ => rfl
  | j, q :: bs, h => by
    have h0 : okAt n j q = true := h 0 (by simp)
    have ih := okAll_of n (j + 1) bs (fun k hk => by
      have := h (k + 1) (by simp; omega)
      rw [show j + (k + 1) = j + 1 + k by omega] at this
      exact this)
    rw [okAll, h0, ih]; rfl
theorem cut_block {B : List Nat} (hB : B.length ≤ 96) (h8 : ∀ b ∈ B, b < 256) {k : Nat} (hk : k < (cutI B).length) :
    okAt (cutI B).length k (cutI B)[k] = true ∧ blkT (cutI B)[k] = (B.drop (4 * atK (cntP B.length) (blkN B.length) k)).take (4 * (atK (cntP B.length) (blkN B.length) (k + 1) - atK (cntP B.length) (blkN B.length) k)) ∧
    1 ≤ (cutI B)[k].2.length ∧ (cutI B)[k].2.length ≤ 8 ∧ cntP B.length / blkN B.length ≤ (cutI B)[k].2.length ∧ (cutI B)[k].2.length ≤ cntP B.length / blkN B.length + 1 := by
  have hk' : k < blkN B.length := by rw [← cutI_length]; exact hk
  obtain ⟨f1, f2, f3, f4, f5, f6, f7⟩ := block_facts hB hk'
  have hl3 := atK_last (p := cntP B.length) (b := blkN B.length) (by omega)
  rw [cutI_at, cutI_length]
  have hpc : cntP B.length = (B.length + 3) / 4 := rfl
  have hlast : ¬ k + 1 < blkN B.length → atK (cntP B.length) (blkN B.length) (k + 1) = cntP B.length := fun h => by rw [show k + 1 = blkN B.length by omega]; exact hl3
  unfold blockL
  generalize atK (cntP B.length) (blkN B.length) k = a at *
  generalize atK (cntP B.length) (blkN B.length) (k + 1) = c at *
  have hlen : (((piecesL B).drop a).take (c - a)).length = c - a := by rw [List.length_take, List.length_drop, piecesL_length]; omega
  have hlong : min (B.length - 4 * a) (4 * (c - a)) ≤ 96 := by omega
  have hcnt : cntP (min (B.length - 4 * a) (4 * (c - a))) = c - a := by
    unfold cntP
    by_cases hl : k + 1 < blkN B.length
    · have := f6 hl; omega
    · have := hlast hl; omega
  have htx : textOkB (zI (((piecesL B).drop a).take (c - a))) ((min (B.length - 4 * a) (4 * (c - a)) : Nat) : Int) = true := by
    have hall : (zI (((piecesL B).drop a).take (c - a))).all pieceB = true := by
      rw [List.all_eq_true]
      intro z hz
      obtain ⟨n, hn, rfl⟩ := List.mem_map.1 hz
      have := piecesL_lt h8 n (List.mem_of_mem_drop (List.mem_of_mem_take hn))
      exact inB_mk (Int.natCast_nonneg _) (by show (n : Int) ≤ 4294967295; omega)
    rw [textOkB, hall, zI_length, hlen, Int.toNat_natCast, hcnt, inB_mk (Int.natCast_nonneg _) (by omega)]
    simp; omega
  refine ⟨?_, ?_, ?_, ?_, ?_, ?_⟩
  · rw [okAt]
    rw [htx, zI_length, hlen, Bool.true_and]
    by_cases hl : k + 1 < blkN B.length
    · have h6 := f6 hl
      rw [show min (B.length - 4 * a) (4 * (c - a)) = 4 * (c - a) by omega]
      simp
    · simp; omega
  · unfold blkT
    show (textL ((zI (((piecesL B).drop a).take (c - a))).map Int.toNat)).take (((min (B.length - 4 * a) (4 * (c - a)) : Nat) : Int)).toNat = _
    rw [zI_nat, Int.toNat_natCast, text_part h8 (by omega) (Nat.min_le_right _ _) (by omega)]
    rcases Nat.le_total (B.length - 4 * a) (4 * (c - a)) with h | h
    · rw [Nat.min_eq_left h, List.take_of_length_le (by simp), List.take_of_length_le (by simp; omega)]
    · rw [Nat.min_eq_right h]
  · show 1 ≤ (zI _).length; rw [zI_length, hlen]; exact f1
  · show (zI _).length ≤ 8; rw [zI_length, hlen]; exact f2
  · show _ ≤ (zI _).length; rw [zI_length, hlen]; exact f7.1
  · show (zI _).length ≤ _; rw [zI_length, hlen]; exact f7.2
theorem glT_cut {B : List Nat} (hB : B.length ≤ 96) (h8 : ∀ b ∈ B, b < 256) : ∀ k, k ≤ (cutI B).length → glT ((cutI B).take k) = B.take (4 * atK (cntP B.length) (blkN B.length) k)
  | 0, _ => by simp [glT, atK_zero]
  | k + 1, hk => by
    have ih := glT_cut hB h8 k (by omega)
    have hc := (cut_block hB h8 (k := k) (by omega)).2.1
    have hf := (block_facts hB (k := k) (by rw [← cutI_length]; omega)).2.2.1
    rw [glT_snoc (by omega), ih, hc, ← List.take_add]
    congr 1
    omega
theorem glue_cut {B : List Nat} (hB : B.length ≤ 96) (h8 : ∀ b ∈ B, b < 256) : glueOkB (cutI B) = true ∧ glT (cutI B) = B := by
  have hall : okAll (cutI B).length 0 (cutI B) = true := okAll_of _ 0 _ (fun k hk => by rw [Nat.zero_add]; exact (cut_block hB h8 hk).1)
  have hg : glT (cutI B) = B := by
    have h1 := glT_cut hB h8 (cutI B).length (Nat.le_refl _)
    rw [List.take_length, cutI_length] at h1
    rcases Nat.eq_zero_or_pos (blkN B.length) with h0 | h0
    · have hl : B.length = 0 := by unfold blkN cntP at h0; omega
      rw [h1, List.eq_nil_of_length_eq_zero hl]; simp
    · rw [h1, atK_last h0]
      exact List.take_of_length_le (by unfold cntP; omega)
  refine ⟨?_, hg⟩
  rw [glueOkB, hall, hg, eqBs_self]
  have h3 : (cutI B).length ≤ 3 := by rw [cutI_length]; unfold blkN cntP; omega
  simp [h3, hB]
theorem strN_bsL (s : ByteArray) : strN (bsL s) = s := by
  unfold strN bsL
  rw [List.map_map]
  have : s.data.toList.map (UInt8.ofNat ∘ UInt8.toNat) = s.data.toList := by
    conv => rhs; rw [← List.map_id s.data.toList]
    exact List.map_congr_left fun u _ => by simp
  rw [this]
/-- A thing that is cut is glued again. -/
theorem glue_thing {s : ByteArray} (h : thingB s = true) : glueOkB (cutTI s) = true ∧ glueI (cutTI s) = s := by
  have h2 : s.size ≤ 96 := by simpa [thingB] using h
  obtain ⟨h3, h4⟩ := glue_cut (B := bsL s) (by rw [bsL_length]; exact h2) (bsL_lt s)
  rw [cutTI, if_pos h]
  exact ⟨h3, by rw [glueI, if_pos h3, h4, strN_bsL]⟩
/-- The text of a thing's pieces is the thing. -/
theorem text_thing {s : ByteArray} (h : thingB s = true) : textOkB (piecesI s) (s.size : Int) = true ∧ textI (piecesI s) (s.size : Int) = s := by
  have h2 : s.size ≤ 96 := by simpa [thingB] using h
  have hl : (piecesL (bsL s)).length = cntP s.size := by rw [piecesL_length, bsL_length]
  have hok : textOkB (zI (piecesL (bsL s))) (s.size : Int) = true := by
    have hall : (zI (piecesL (bsL s))).all pieceB = true := by
      rw [List.all_eq_true]
      intro z hz
      obtain ⟨n, hn, rfl⟩ := List.mem_map.1 hz
      have := piecesL_lt (bsL_lt s) n hn
      exact inB_mk (Int.natCast_nonneg _) (by show (n : Int) ≤ 4294967295; omega)
    have hc : cntP s.size ≤ 24 := by unfold cntP; omega
    rw [textOkB, hall, zI_length, hl, Int.toNat_natCast, inB_mk (Int.natCast_nonneg _) (by omega)]
    simp [hc]
  rw [piecesI, if_pos h]
  refine ⟨hok, ?_⟩
  have ht := text_pieces (bsL_lt s)
  rw [bsL_length] at ht
  rw [textI, if_pos hok, zI_nat, Int.toNat_natCast, ht, strN_bsL]
/-- What was glued is cut into the same blocks. -/
theorem cut_glue {bs : List (Int × List Int)} (h : glueOkB bs = true) : thingB (glueI bs) = true ∧ cutTI (glueI bs) = bs := by
  have h' := h
  simp only [glueOkB, Bool.and_eq_true, decide_eq_true_eq] at h'
  obtain ⟨_, _, h96, he⟩ := h'
  have hg : glueI bs = strN (glT bs) := by rw [glueI, if_pos h]
  have ht : thingB (glueI bs) = true := by rw [hg]; simp [thingB, strN_size]; exact h96
  refine ⟨ht, ?_⟩
  rw [cutTI, if_pos ht, hg, bsL_strN (glT_lt bs)]
  simpa [eqBs] using he
end Go.Proofs.Ythabkkboodhbmaa
