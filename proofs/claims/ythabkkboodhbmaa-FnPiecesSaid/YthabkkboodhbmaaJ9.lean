/-
  The model of chapter 4: GlueThing.
-/
import Derived.Test.YthabkkboodhbmaaJ8
namespace Go.Proofs.Ythabkkboodhbmaa
open Go.RowKit

/-- The bytes of a block. -/
def blkT (p : Int × List Int) : List Nat := (textL (p.2.map Int.toNat)).take p.1.toNat
/-- Block j of n may stand where it stands. -/
def okAt (n j : Nat) (p : Int × List Int) : Bool := textOkB p.2 p.1 && (decide (n ≤ j + 1) || decide (p.1 = 4 * (p.2.length : Int)))
def okAll (n : Nat) : Nat → List (Int × List Int) → Bool
  | _, [] => true
  | j, p :: bs => okAt n j p && okAll n (j + 1) bs
def glT (bs : List (Int × List Int)) : List Nat := bs.flatMap blkT
def glueOkB (bs : List (Int × List Int)) : Bool := decide (bs.length ≤ 3) && (okAll bs.length 0 bs && (decide ((glT bs).length ≤ 96) && eqBs (cutI (glT bs)) bs))
def glueI (bs : List (Int × List Int)) : ByteArray := if glueOkB bs = true then strN (glT bs) else strN []
theorem okAll_snoc (n : Nat) : ∀ (j : Nat) (bs : List (Int × List Int)) (p : Int × List Int), okAll n j (bs ++ [p]) = (okAll n j bs && okAt n (j + bs.length) p)
  | j, [], p => by simp [okAll]
  | j, q :: bs, p => by
    rw [List.cons_append, okAll, okAll_snoc n (j + 1) bs p, okAll, List.length_cons, show j + 1 + bs.length = j + (bs.length + 1) by omega, Bool.and_assoc]
theorem okAll_at (n : Nat) : ∀ (j : Nat) (bs : List (Int × List Int)) (k : Nat) (hk : k < bs.length), okAt n (j + k) bs[k] = false → okAll n j bs = false
  | j, q :: bs, 0, _, h => by
    have h' : okAt n j q = false := h
    rw [okAll, h']; rfl
  | j, q :: bs, k + 1, hk, h => by
    have := okAll_at n (j + 1) bs k (by simp at hk; omega) (by rw [show j + 1 + k = j + (k + 1) by omega]; exact h)
    rw [okAll, this]; simp
theorem glT_snoc {bs : List (Int × List Int)} {k : Nat} (h : k < bs.length) : glT (bs.take (k + 1)) = glT (bs.take k) ++ blkT bs[k] := by
  rw [glT, List.take_succ_eq_append_getElem h, List.flatMap_append, List.flatMap_cons, List.flatMap_nil, List.append_nil]; rfl
theorem strN_append (S T : List Nat) : strN S ++ strN T = strN (S ++ T) := by
  unfold strN
  rw [ByteArray.mk_append_mk, List.map_append]
theorem strN_size (S : List Nat) : (strN S).size = S.length := by simp [strN, ByteArray.size]
theorem bsL_strN {S : List Nat} (h : ∀ b ∈ S, b < 256) : bsL (strN S) = S := by
  unfold bsL strN
  rw [List.map_map]
  conv => rhs; rw [← List.map_id S]
  refine List.map_congr_left fun b hb => ?_
  have := h b hb
  simp [UInt8.toNat_ofNat']
  omega
theorem glT_lt (bs : List (Int × List Int)) : ∀ b ∈ glT bs, b < 256 := fun b hb => by
  obtain ⟨p, _, h⟩ := List.mem_flatMap.1 hb
  exact textL_lt _ b (List.mem_of_mem_take h)
theorem blkT_text {p : Int × List Int} (h : textOkB p.2 p.1 = true) : textI p.2 p.1 = strN (blkT p) ∧ (blkT p).length ≤ 96 := by
  refine ⟨by rw [textI, if_pos h]; rfl, ?_⟩
  obtain ⟨P, n, _, e, _, _, hn, _⟩ := text_ok h
  unfold blkT
  rw [List.length_take, e, Int.toNat_natCast]
  omega
theorem Blks.jAlloc {w : World} {A : Option Addr} {bs : List (Int × List Int)} (h : Blks w A bs) (o : Obj) : Blks (w.alloc o) A bs := h.below ((Below.refl _ _).alloc (Nat.le_refl _) _)
theorem jAlloc1 (w : World) (o : Obj) : Below w.heap.size w (w.alloc o) := (Below.refl _ w).alloc (Nat.le_refl _) _
theorem glue_no {bs : List (Int × List Int)} (h : okAll bs.length 0 bs = false) : glueOkB bs = false := by rw [glueOkB, h]; simp

set_option maxRecDepth 100000 in
set_option maxHeartbeats 4000000 in
theorem sGlue_any (A : Option Addr) (bs : List (Int × List Int)) (ca : Nat) (w : World) (ha : Blks w A bs) (hl : bs.length ≤ 1048576) (hz : ∀ p ∈ bs, p.2.length ≤ 1048576) :
    Calls Try.prog 19 #[.slice A bs.length ca] w fun e w' => e = .returned (.tuple #[.string (glueI bs), .bool (glueOkB bs)]) ∧ Below w.heap.size w w' := by
  have HA := Lib.hid ha
  have HZ := Lib.hid hz
  clear ha hz
  by_cases h3 : bs.length ≤ 3
  · have hi3 : ¬ (3 : Int) < (bs.length : Int) := by omega
    go_enter Try.func19, Try.ntmps19
    go_wp2_with fail
    go_loopg [4, 14] bs.length (fun gk t i wr => ∃ k : Nat, k + gk = bs.length ∧ i = .int .i64 k ∧ t = .string (strN (glT (bs.take k))) ∧ (glT (bs.take k)).length ≤ 96 * k ∧ okAll bs.length 0 (bs.take k) = true ∧ Below w.heap.size w wr)
    case atStart => exact ⟨0, by omega, rfl, rfl, by simp [glT], rfl, Below.refl _ _⟩
    case round =>
      obtain ⟨k, hg, rfl, rfl, hgl, hok, hbel⟩ := hrel
      have HOk := Lib.hid hok
      have HBl := Lib.hid hbel
      clear hok hbel
      by_cases hlt : k < bs.length
      · have hki : (k : Int) < (bs.length : Int) := by omega
        obtain ⟨b1, o1, rfl, hc1⟩ := (HA.out.below HBl.out) (by rintro rfl; simp at hlt)
        obtain ⟨p1, A1, c1, p2, p3⟩ := hc1 k hlt
        have hzl := HZ.out bs[k] (List.getElem_mem hlt)
        have HNo : Hid (okAt bs.length k bs[k] = false → glueOkB bs = false) := fun h => glue_no (okAll_at bs.length 0 bs k hlt (by rw [Nat.zero_add]; exact h))
        have HYes : Hid (okAt bs.length k bs[k] = true → okAll bs.length 0 (bs.take (k + 1)) = true) := fun h => by
          rw [List.take_succ_eq_append_getElem hlt, okAll_snoc, HOk.out, List.length_take, Nat.min_eq_left (by omega), Nat.zero_add, h]; rfl
        have HT := Lib.hid (glT_snoc hlt)
        have HGK : Hid (bs.length - k - 1 < gk ∧ k + 1 + (bs.length - k - 1) = bs.length) := by show _ ∧ _; omega
        have HOt : Hid (∀ q : Int × List Int, okAt bs.length k q = (textOkB q.2 q.1 && (decide (bs.length ≤ k + 1) || decide (q.1 = 4 * (q.2.length : Int))))) := fun q => rfl
        have HI := Lib.hid (p3.jAlloc (.cells #[.int .i64 bs[k].1, .slice A1 bs[k].2.length c1] 34))
        have HB1 := Lib.hid (jMore HBl.out (jAlloc1 wr (.cells #[.int .i64 bs[k].1, .slice A1 bs[k].2.length c1] 34)))
        have hx0 : (wr.alloc (.cells #[.int .i64 bs[k].1, .slice A1 bs[k].2.length c1] 34)).cell? ⟨wr.heap.size, 0, none⟩ = some (.int .i64 bs[k].1) := cell_of_row _ _ 0 _ _ _ (heap_alloc_new _ _)
        have hx1 : (wr.alloc (.cells #[.int .i64 bs[k].1, .slice A1 bs[k].2.length c1] 34)).cell? ⟨wr.heap.size, 1, none⟩ = some (.slice A1 bs[k].2.length c1) := cell_of_row _ _ 1 _ _ _ (heap_alloc_new _ _)
        have hs1 : wr.heap.size < (wr.alloc (.cells #[.int .i64 bs[k].1, .slice A1 bs[k].2.length c1] 34)).heap.size := by simp
        clear hc1 p3 hg
        generalize bs[k] = p at *
        generalize hS : glT (bs.take k) = S at *
        clear hS
        go_wp2_with fail
        clear p1 p2
        generalize wr.alloc (.cells #[.int .i64 p.1, .slice A1 p.2.length c1] 34) = W at *
        refine (sTextOf_any A1 p.2 c1 p.1 W HI.out hzl).mono ?_
        rintro e w2 ⟨rfl, hb2⟩
        have hy0 := (hb2.cell (p := ⟨wr.heap.size, 0, none⟩) hs1).trans hx0
        have hy1 := (hb2.cell (p := ⟨wr.heap.size, 1, none⟩) hs1).trans hx1
        have HB2 := Lib.hid (jMore HB1.out hb2)
        clear hx0 hx1 hs1 hb2 HI HB1
        cases ht : textOkB p.2 p.1
        · have HE := Lib.hid (HNo.out (by rw [HOt.out, ht]; rfl))
          go_wp2_with fail
          go_ret2
          exact ⟨tupS (by rw [glueI, HE.out]; rfl) HE.out.symm, HB2.out⟩
        · obtain ⟨e1, e2⟩ := blkT_text ht
          rw [e1]
          have hz1 := strN_size S
          have hz2 := strN_size (blkT p)
          have HAp := Lib.hid (strN_append S (blkT p))
          have HSl : Hid ((S ++ blkT p).length ≤ 96 * (k + 1)) := by show _ ≤ _; rw [List.length_append]; omega
          have ha1 : ((strN S).size : Int) ≤ 8388608 := by rw [hz1]; omega
          have ha2 : ((strN (blkT p)).size : Int) ≤ 8388608 := by rw [hz2]; omega
          clear e1 e2 hz1 hz2
          by_cases hk1 : bs.length ≤ k + 1
          · have hki1 : ¬ (k : Int) < (bs.length : Int) - 1 := by omega
            have HY := Lib.hid (HYes.out (by rw [HOt.out, ht]; simp [hk1]))
            clear HOt HNo HYes ht
            generalize strN (blkT p) = U at *
            go_wp2_with fail
            go_roundg (bs.length - k - 1)
            case measure => exact HGK.out.1
            case rel => exact ⟨k + 1, HGK.out.2, by go_num, by rw [HT.out, ← HAp.out], by rw [HT.out]; exact HSl.out, HY.out, HB2.out⟩
          · have hki1 : (k : Int) < (bs.length : Int) - 1 := by omega
            by_cases hf : p.1 = 4 * (p.2.length : Int)
            · have hfb : (p.1 != 4 * (p.2.length : Int)) = false := by simp [hf]
              have HY := Lib.hid (HYes.out (by rw [HOt.out, ht]; simp [hf]))
              clear HOt HNo HYes ht hf
              generalize strN (blkT p) = U at *
              go_wp2_with fail
              go_roundg (bs.length - k - 1)
              case measure => exact HGK.out.1
              case rel => exact ⟨k + 1, HGK.out.2, by go_num, by rw [HT.out, ← HAp.out], by rw [HT.out]; exact HSl.out, HY.out, HB2.out⟩
            · have hfb : (p.1 != 4 * (p.2.length : Int)) = true := by simp [hf]
              have HE := Lib.hid (HNo.out (by rw [HOt.out, ht]; simp [hf, hk1]))
              clear HOt HNo HYes ht hf
              generalize strN (blkT p) = U at *
              go_wp2_with fail
              go_ret2
              exact ⟨tupS (by rw [glueI, HE.out]; rfl) HE.out.symm, HB2.out⟩
      · obtain rfl : k = bs.length := by omega
        have hki : ¬ (bs.length : Int) < (bs.length : Int) := by omega
        rw [List.take_length] at HOk hgl ⊢
        have hsz := strN_size (glT bs)
        by_cases h96 : (glT bs).length ≤ 96
        · have hi96 : ¬ (96 : Int) < ((strN (glT bs)).size : Int) := by rw [hsz]; omega
          have HBs := Lib.hid (bsL_strN (glT_lt bs))
          have HEq : Hid (glueOkB bs = eqBs (cutI (glT bs)) bs) := by show _ = _; rw [glueOkB, HOk.out]; simp [h3, h96]
          have HV : Hid (eqBs (cutI (glT bs)) bs = true → glueI bs = strN (glT bs)) := fun h => by rw [glueI, if_pos (by rw [HEq.out]; exact h)]
          have HV2 : Hid (eqBs (cutI (glT bs)) bs = false → glueI bs = strN []) := fun h => by rw [glueI, HEq.out, h]; rfl
          have hcz : ∀ q ∈ cutI (glT bs), q.2.length ≤ 1048576 := fun q hq => by
            obtain ⟨j, hj, rfl⟩ := List.mem_iff_getElem.1 hq
            rw [cutI_at, zI_length]
            unfold blockL
            rw [List.length_take, List.length_drop, piecesL_length]
            unfold cntP
            omega
          have hcl : (cutI (glT bs)).length ≤ 1048576 := by rw [cutI_length]; unfold blkN cntP; omega
          have HC := Lib.hid (sCut (strN (glT bs)) wr (by rw [hsz]; exact h96))
          rw [HBs.out] at HC
          clear hsz
          generalize strN (glT bs) = U at *
          go_wp2_with fail
          refine HC.out.mono ?_
          rintro e w2 ⟨v2, L, rfl, ho2, hbl, hb2⟩
          obtain ⟨A2, c2, rfl, hB2⟩ := ho2.form
          have hLl : L.length = (cutI (glT bs)).length := by rw [← hbl, blks_length]
          rw [hbl] at hB2
          rw [hLl]
          have HB2 := Lib.hid hB2
          have HBb := Lib.hid (HA.out.below (jMore HBl.out hb2))
          have HBel := Lib.hid (jMore HBl.out hb2)
          clear ho2 hbl hb2 hB2 hLl
          generalize cutI (glT bs) = cs at *
          go_wp2_with fail
          refine (sSameB_any A2 A cs bs c2 ca w2 HB2.out HBb.out hcl hcz).mono ?_
          rintro e w3 ⟨rfl, hb3⟩
          cases hq : eqBs cs bs
          · go_wp2_with fail
            go_ret2
            exact ⟨tupS (HV2.out hq).symm (by rw [HEq.out]; exact hq.symm), jMore HBel.out hb3⟩
          · go_wp2_with fail
            go_ret2
            exact ⟨tupS (HV.out hq).symm (by rw [HEq.out]; exact hq.symm), jMore HBel.out hb3⟩
        · have hi96 : (96 : Int) < ((strN (glT bs)).size : Int) := by rw [hsz]; omega
          have HE : Hid (glueOkB bs = false) := by show _ = _; rw [glueOkB]; simp [h96]
          clear hsz
          generalize strN (glT bs) = U at *
          go_wp2_with fail
          go_ret2
          exact ⟨tupS (by rw [glueI, HE.out]; rfl) HE.out.symm, HBl.out⟩
  · have hi3 : (3 : Int) < (bs.length : Int) := by omega
    have HE : Hid (glueOkB bs = false) := by show _ = _; rw [glueOkB]; simp [h3]
    go_enter Try.func19, Try.ntmps19
    go_wp2_with fail
    go_ret2
    exact ⟨tupS (by rw [glueI, HE.out]; rfl) HE.out.symm, Below.refl _ _⟩
end Go.Proofs.Ythabkkboodhbmaa
