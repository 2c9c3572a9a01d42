/-
  The program's chapter 4: GlueThing.
-/
import Derived.Test.YthabkkboodhbmaaI6
import Derived.Test.YthabkkboodhbmaaI9
import Derived.Test.YthabkkboodhbmaaIA
import Derived.Test.YthabkkboodhbmaaJE
namespace Go.Proofs.Ythabkkboodhbmaa
open Go.RowKit

/-- A block's text can be made. -/
def txB (p : Int × List Int) : Bool := textOkB p.2 p.1
theorem txB_no {bs : List (Int × List Int)} {k : Nat} (hk : k < bs.length) (h : txB bs[k] = false) : bs.all txB = false := by
  rw [List.all_eq_false]
  exact ⟨bs[k], List.getElem_mem hk, by simp [h]⟩
theorem txB_take {bs : List (Int × List Int)} {k : Nat} (hk : k < bs.length) (h : (bs.take k).all txB = true) (h2 : txB bs[k] = true) : (bs.take (k + 1)).all txB = true := by
  rw [List.take_succ_eq_append_getElem hk, List.all_append, h]; simp [h2]
theorem okAll_tx (n : Nat) : ∀ (j : Nat) (bs : List (Int × List Int)), okAll n j bs = true → bs.all txB = true
  | _, [], _ => rfl
  | j, q :: bs, h => by
    rw [okAll, Bool.and_eq_true] at h
    have h1 := okAll_tx n (j + 1) bs h.2
    have h2 : txB q = true := by
      have := h.1
      rw [okAt, Bool.and_eq_true] at this
      exact this.1
    rw [List.all_cons, h1, h2]; rfl
theorem glue_tx {bs : List (Int × List Int)} (h : bs.all txB = false) : glueOkB bs = false := by
  refine glue_no ?_
  cases ho : okAll bs.length 0 bs
  · rfl
  · rw [okAll_tx _ _ _ ho] at h; cases h
theorem glue_eq {bs : List (Int × List Int)} (h3 : bs.length ≤ 3) : glueOkB bs = (eqBs (cutTI (strN (glT bs))) bs) := by
  by_cases h96 : (glT bs).length ≤ 96
  · have ht : thingB (strN (glT bs)) = true := by simp [thingB, strN_size]; exact h96
    have hc : cutTI (strN (glT bs)) = cutI (glT bs) := by rw [cutTI, if_pos ht, bsL_strN (glT_lt bs)]
    rw [hc]
    cases he : eqBs (cutI (glT bs)) bs
    · rw [glueOkB, he]; simp
    · have e : cutI (glT bs) = bs := by simpa [eqBs] using he
      have hok : okAll bs.length 0 bs = true := by
        have h0 := okAll_of (cutI (glT bs)).length 0 (cutI (glT bs)) (fun k hk => by rw [Nat.zero_add]; exact (cut_block h96 (glT_lt bs) hk).1)
        rw [e] at h0
        exact h0
      rw [glueOkB, hok, he]; simp [h3, h96]
  · have ht : thingB (strN (glT bs)) = false := by simp [thingB, strN_size]; omega
    have hc : cutTI (strN (glT bs)) = [] := by rw [cutTI, ht]; rfl
    rw [hc]
    have hne : eqBs [] bs = false := by
      cases he : eqBs [] bs
      · rfl
      · have e : [] = bs := by simpa [eqBs] using he
        subst e
        simp [glT] at h96
    rw [hne, glueOkB]; simp [h96]

set_option maxRecDepth 100000 in
set_option maxHeartbeats 4000000 in
theorem iGlue_any (A : Option Addr) (bs : List (Int × List Int)) (ca : Nat) (w : World) (ha : Blks w A bs) (hz : ∀ p ∈ bs, p.2.length ≤ 1048576) :
    Calls Try.prog 16 #[.slice A bs.length ca] w fun e w' => e = .returned (.tuple #[.string (glueI bs), .bool (glueOkB bs)]) ∧ Below w.heap.size w w' := by
  have HA := Lib.hid ha
  have HZ := Lib.hid hz
  clear ha hz
  by_cases h3 : bs.length ≤ 3
  · have hi3 : ¬ (3 : Int) < (bs.length : Int) := by omega
    go_enter Try.func16, Try.ntmps16
    go_wp2_with fail
    go_loopg [4, 16] bs.length (fun gk t i wr => ∃ k : Nat, k + gk = bs.length ∧ i = .int .i64 k ∧ t = .string (strN (glT (bs.take k))) ∧ (glT (bs.take k)).length ≤ 96 * k ∧ (bs.take k).all txB = true ∧ Below w.heap.size w wr)
    case atStart => exact ⟨0, by omega, rfl, rfl, by simp [glT], rfl, Below.refl _ _⟩
    case round =>
      obtain ⟨k, hg, rfl, rfl, hgl, hok, hbel⟩ := hrel
      have HOk := Lib.hid hok
      have HBl := Lib.hid hbel
      clear hok hbel
      by_cases hlt : k < bs.length
      · have hki : (k : Int) < (bs.length : Int) := by omega
        obtain ⟨b1, o1, rfl, hc1⟩ := (HA.out.below HBl.out) (by rintro rfl; simp at hlt)
        obtain ⟨p1, A1, c1, p2, p3⟩ := hc1 k hlt
        have hzl := HZ.out bs[k] (List.getElem_mem hlt)
        have HNo : Hid (txB bs[k] = false → glueOkB bs = false) := fun h => glue_tx (txB_no hlt h)
        have HYes := Lib.hid (fun h => txB_take hlt HOk.out h)
        have HT := Lib.hid (glT_snoc hlt)
        have HGK : Hid (bs.length - k - 1 < gk ∧ k + 1 + (bs.length - k - 1) = bs.length) := by show _ ∧ _; omega
        have HI := Lib.hid (p3.jAlloc (.cells #[.int .i64 bs[k].1, .slice A1 bs[k].2.length c1] 34))
        have HB1 := Lib.hid (jMore HBl.out (jAlloc1 wr (.cells #[.int .i64 bs[k].1, .slice A1 bs[k].2.length c1] 34)))
        clear hc1 p3 hg
        generalize bs[k] = p at *
        generalize hS : glT (bs.take k) = S at *
        clear hS
        go_wp2_with fail
        clear p1 p2
        generalize wr.alloc (.cells #[.int .i64 p.1, .slice A1 p.2.length c1] 34) = W at *
        refine (iTextOf_any A1 p.2 c1 p.1 W HI.out hzl).mono ?_
        rintro e w2 ⟨rfl, hb2⟩
        have HB2 := Lib.hid (jMore HB1.out hb2)
        clear hb2 HI HB1
        cases ht : textOkB p.2 p.1
        · have HE := Lib.hid (HNo.out ht)
          go_wp2_with fail
          go_ret2
          exact ⟨tupS (by rw [glueI, HE.out]; rfl) HE.out.symm, HB2.out⟩
        · obtain ⟨e1, e2⟩ := blkT_text ht
          rw [e1]
          have hz1 := strN_size S
          have hz2 := strN_size (blkT p)
          have HAp := Lib.hid (strN_append S (blkT p))
          have HSl : Hid ((S ++ blkT p).length ≤ 96 * (k + 1)) := by show _ ≤ _; rw [List.length_append]; omega
          have ha1 : ((strN S).size : Int) ≤ 8388608 := by rw [hz1]; omega
          have ha2 : ((strN (blkT p)).size : Int) ≤ 8388608 := by rw [hz2]; omega
          have HY := Lib.hid (HYes.out ht)
          clear e1 e2 hz1 hz2 HNo HYes ht
          generalize strN (blkT p) = U at *
          go_wp2_with fail
          go_roundg (bs.length - k - 1)
          case measure => exact HGK.out.1
          case rel => exact ⟨k + 1, HGK.out.2, by go_num, by rw [HT.out, ← HAp.out], by rw [HT.out]; exact HSl.out, HY.out, HB2.out⟩
      · obtain rfl : k = bs.length := by omega
        have hki : ¬ (bs.length : Int) < (bs.length : Int) := by omega
        rw [List.take_length] at HOk hgl ⊢
        have HEq := Lib.hid (glue_eq h3)
        have HV : Hid (glueI bs = if glueOkB bs = true then strN (glT bs) else strN []) := rfl
        have HC := Lib.hid (iCutThing_any (strN (glT bs)) wr)
        obtain ⟨hc3, hcp⟩ := cutTI_bd (strN (glT bs))
        have HCp : Hid (∀ p ∈ cutTI (strN (glT bs)), p.2.length ≤ 1048576) := fun p hp => Nat.le_trans (hcp p hp).2.2 (by omega)
        clear hcp
        generalize cutTI (strN (glT bs)) = cs at *
        generalize strN (glT bs) = U at *
        generalize thingB U = th at *
        go_wp2_with fail
        refine HC.out.mono ?_
        rintro e w2 ⟨v2, L, rfl, ho2, hbl, hb2⟩
        obtain ⟨A2, c2, e2, hB2⟩ := ho2.form
        have hLl : L.length = cs.length := by rw [← hbl, blks_length]
        rw [hLl] at e2
        rw [hbl] at hB2
        subst e2
        have HB2 := Lib.hid hB2
        have HBb := Lib.hid (HA.out.below (jMore HBl.out hb2))
        have HBel := Lib.hid (jMore HBl.out hb2)
        clear ho2 hbl hb2 hB2 hLl HC
        have HF := Lib.hid (iEqFunc A2 A cs bs c2 ca w2 HB2.out HBb.out (by omega) HCp.out)
        go_wp2_with fail
        refine HF.out.mono ?_
        rintro e w3 ⟨rfl, hb3⟩
        have HB3 := Lib.hid (jMore HBel.out hb3)
        clear hb3 HF HBel
        cases hq : eqBs cs bs
        · have HE : Hid (glueOkB bs = false) := by show _ = _; rw [HEq.out]; exact hq
          go_wp2_with fail
          go_ret2
          exact ⟨tupS (by rw [HV.out, HE.out]; rfl) HE.out.symm, HB3.out⟩
        · have HE : Hid (glueOkB bs = true) := by show _ = _; rw [HEq.out]; exact hq
          go_wp2_with fail
          go_ret2
          exact ⟨tupS (by rw [HV.out, if_pos HE.out]) HE.out.symm, HB3.out⟩
  · have hi3 : (3 : Int) < (bs.length : Int) := by omega
    have HE : Hid (glueOkB bs = false) := by show _ = _; rw [glueOkB]; simp [h3]
    go_enter Try.func16, Try.ntmps16
    go_wp2_with fail
    go_ret2
    exact ⟨tupS (by rw [glueI, HE.out]; rfl) HE.out.symm, Below.refl _ _⟩
end Go.Proofs.Ythabkkboodhbmaa
