/-
  What MakeBy answers, in the program's text and in the model's, at every argument.
-/
import Derived.Test.YtdoogleggdlddaaDoorU3
namespace Go.Proofs.YtdoogleggdlddaaDoor
open Go.RowKit

theorem makeI_ok {m n : Nat} {R : List Nat} (h : canI m (zI R) n = true) : makeI m (zI R) n = zI (idxL (mkM R R.length n) R.length) := by
  rw [makeI, if_pos h, nL_zI, Int.toNat_natCast]

set_option maxRecDepth 100000 in
set_option maxHeartbeats 1000000 in
theorem sMake_any (x : Int) (A : Option Addr) (zs : List Int) (ca : Nat) (y : Int) (w : World) (ha : Ints w A zs) (hl : zs.length ≤ 1048576) (hcap : zs.length ≤ ca) :
    Calls Tryd.prog 87 #[.int .i64 x, .slice A zs.length ca, .int .i64 y] w fun e w' => ∃ v, e = .returned (.tuple #[v, .bool (canI x zs y)]) ∧ Own w' w.heap.size v (makeI x zs y) ∧ Below w.heap.size w w' := by
  cases h : twoOkB x zs y
  · have hc : canI x zs y = false := by rw [canI, h]; rfl
    have HE := Lib.hid (makeI_no hc)
    rw [hc]
    rcases twoOk_false h with h1 | ⟨h1, h2⟩
    · clear h hc
      go_enter Tryd.func87, Tryd.ntmps87
      go_wp2_with (go_at_call 98; refine (sRows _ _ _ _ _ ha hl).mono ?_; rintro e w' ⟨rfl, rfl⟩)
      go_ret2
      exact ⟨_, rfl, by rw [HE.out]; exact Own.nil _ _, Below.refl _ _⟩
    · clear h hc
      go_enter Tryd.func87, Tryd.ntmps87
      go_wp2_with (first
        | (go_at_call 98; refine (sRows _ _ _ _ _ ha hl).mono ?_; rintro e w' ⟨rfl, rfl⟩)
        | (go_at_call 99; refine (sGood_any _ _ _).mono ?_; rintro e w' ⟨rfl, rfl⟩))
      go_ret2
      exact ⟨_, rfl, by rw [HE.out]; exact Own.nil _ _, Below.refl _ _⟩
  · obtain ⟨h1, h2⟩ := twoOk_true h
    obtain ⟨m, R, rfl, rfl, h3, h4, h5, h6⟩ := rows_nat h1
    obtain ⟨m', n, e1, rfl, _, h8, h9⟩ := good_nat h2
    obtain rfl : m = m' := by omega
    have hce : canI m (zI R) n = canB R n := by rw [canI, h, nL_zI]; simp
    cases hcan : canB R n
    · rw [hcan] at hce
      have HE := Lib.hid (makeI_no hce)
      rw [hce]
      have hr1 := sRows (m : Int) A (zI R) ca w ha hl
      have HC := Lib.hid (sCan A R ca n w ha (by omega) (lt16s h4 h6) (lt16 h8 h9))
      rw [hcan] at HC
      rw [zI_length] at hr1 ⊢
      clear h6 ha h h9 hce hcan
      go_enter Tryd.func87, Tryd.ntmps87
      go_wp2_with (first
        | (go_at_call 98; refine hr1.mono ?_; rintro e w' ⟨rfl, rfl⟩)
        | (go_at_call 99; refine (sGood_any _ _ _).mono ?_; rintro e w' ⟨rfl, rfl⟩)
        | (go_at_call 100; refine HC.out.mono ?_; rintro e w' ⟨rfl, hb'⟩))
      go_ret2
      exact ⟨_, rfl, by rw [HE.out]; exact Own.nil _ _, hb'⟩
    · rw [hcan] at hce
      rw [makeI_ok hce, hce, zI_length]
      exact sMake_ok m A R ca n w ha h1 h2 hcan h5 (lt16s h4 h6) (lt16 h8 h9) (by rw [zI_length] at hcap; exact hcap)

theorem and_pow20 (n k : Nat) (hn : n < 1048576) (hk : k ≤ 20) : bits .and .i64 (n : Int) ((2 : Int) ^ k) = ((n &&& 2 ^ k : Nat) : Int) := by
  have h : 2 ^ k ≤ 1048576 := Nat.le_trans (Nat.pow_le_pow_right (by decide) hk) (by decide)
  rw [show ((2 : Int) ^ k) = ((2 ^ k : Nat) : Int) by simp, and_i64 n _ (by omega) (by omega)]
theorem bit_and20 {n k : Nat} (hn : n < 1048576) (hk : k ≤ 20) : (bits .and .i64 (n : Int) ((2 : Int) ^ k) != 0) = n.testBit k := by
  rw [and_pow20 n k hn hk, Nat.testBit_eq_decide_div_mod_eq]
  by_cases h : n / 2 ^ k % 2 = 1
  · have := and_pow_ne.2 h; rw [h]; simp; omega
  · have h0 : n &&& 2 ^ k = 0 := Classical.byContradiction fun h' => h (and_pow_ne.1 h')
    have : n / 2 ^ k % 2 = 0 := by omega
    rw [h0, this]; rfl

set_option maxRecDepth 100000 in
set_option maxHeartbeats 4000000 in
theorem iMake_any (x : Int) (A : Option Addr) (zs : List Int) (ca : Nat) (y : Int) (w : World) (ht : Tab w) (ha : Ints w A zs) (hl : zs.length ≤ 1048576) :
    Calls Tryd.prog 85 #[.int .i64 x, .slice A zs.length ca, .int .i64 y] w fun e w' => ∃ v, e = .returned (.tuple #[v, .bool (canI x zs y)]) ∧ Own w' w.heap.size v (makeI x zs y) ∧ Below w.heap.size w w' := by
  cases h : twoOkB x zs y
  · have hc : canI x zs y = false := by rw [canI, h]; rfl
    have HE := Lib.hid (makeI_no hc)
    rw [hc]
    rcases twoOk_false h with h1 | ⟨h1, h2⟩
    · clear h hc
      go_enter Tryd.func85, Tryd.ntmps85
      go_wp2_with (go_at_call 90; refine (iRows _ _ _ _ _ ht ha hl).mono ?_; rintro e w' ⟨rfl, rfl⟩)
      go_ret2
      exact ⟨_, rfl, by rw [HE.out]; exact Own.nil _ _, Below.refl _ _⟩
    · clear h hc
      go_enter Tryd.func85, Tryd.ntmps85
      go_wp2_with (first
        | (go_at_call 90; refine (iRows _ _ _ _ _ ht ha hl).mono ?_; rintro e w' ⟨rfl, rfl⟩)
        | (go_at_call 96; refine (iGood_any _ _ _ ht).mono ?_; rintro e w' ⟨rfl, rfl⟩))
      go_ret2
      exact ⟨_, rfl, by rw [HE.out]; exact Own.nil _ _, Below.refl _ _⟩
  · obtain ⟨h1, h2⟩ := twoOk_true h
    obtain ⟨m, R, rfl, rfl, h3, h4, h5, h6⟩ := rows_nat h1
    obtain ⟨m', n, e1, rfl, _, h8, h9⟩ := good_nat h2
    obtain rfl : m = m' := by omega
    have HCE : Hid (canI m (zI R) n = canB R n) := by show _ = _; rw [canI, h, nL_zI]; simp
    have HL := Lib.hid (ladderOf_any A R ca w ht ha h5 (lt16s h4 h6))
    have hr1 := iRows (m : Int) A (zI R) ca w ht ha hl
    have HN := Lib.hid (lt16 h8 h9)
    have HT := Lib.hid ht
    have hln := zI_length R
    rw [hln] at hr1 ⊢
    generalize hcv : canI (m : Int) (zI R) (n : Int) = cv at *
    have HV := Lib.hid hcv
    clear h6 ha h h9 hln hcv
    go_enter Tryd.func85, Tryd.ntmps85
    go_wp2_with (first
      | (go_at_call 90; refine hr1.mono ?_; rintro e w' ⟨rfl, rfl⟩)
      | (go_at_call 96; refine (iGood_any _ _ _ ht).mono ?_; rintro e w' ⟨rfl, rfl⟩))
    clear ht
    refine HL.out.mono ?_
    rintro e w1 ⟨L, rfl, hL, hb1⟩
    have HLR := Lib.hid hL
    have HB1 := Lib.hid hb1
    clear hL hb1
    go_wp2_with fail
    refine (sumFor_any L n _ (HT.out.below HB1.out) HLR.out.lad.len (fun t => (steps_small HLR.out.lad h5 t).1) (fun t => Nat.lt_of_lt_of_le (steps_small HLR.out.lad h5 t).2 (by decide)) HN.out).mono ?_
    rintro e w2 ⟨rfl, hb2⟩
    have HB2 := Lib.hid (below_more HB1.out hb2)
    have HC := Lib.hid (ladR_can HLR.out n)
    have HM := Lib.hid (fun hs => ladR_least HLR.out (want := n) hs)
    have hp20 : (sumF L n 16).2 < 1048576 := Nat.lt_of_lt_of_le (sumF_fits HLR.out.lad n 16).lt (Nat.le_trans (Nat.pow_le_pow_right (n := 2) (by decide) h5) (by decide))
    clear hb2 HB1 HL
    unfold stepV
    generalize sumF L n 16 = p at *
    by_cases hpn : p.1 = n
    · have hcan : canB R n = true := (canB_iff R n).2 (HC.out.1 hpn)
      have hne : ((p.1 : Int) != (n : Int)) = false := by simp [hpn]
      obtain rfl : cv = true := HCE.out.trans hcan
      have HE : Hid (makeI m (zI R) n = zI (idxL p.2 R.length)) := by
        show _ = _
        rw [makeI_ok HV.out, HM.out ((canB_iff R n).1 hcan)]
      clear hcan HM HC hpn HCE HV
      go_wp2_with fail
      go_loopw [9, 31] (fun v i wr => ∃ k : Nat, k ≤ R.length ∧ i = .int .i64 k ∧ StepAt wr w2.heap.size p ∧ Own wr (w2.heap.size + 1) v (zI (idxL p.2 k)) ∧ Below w.heap.size w wr ∧ w2.heap.size + 1 ≤ wr.heap.size) (fun _ i _ => R.length - (intOf i).toNat)
      case atStart => exact ⟨0, by omega, rfl, heap_alloc_new _ _, Own.nil _ _, HB2.out.alloc HB2.out.size _, by simp⟩
      case round =>
        obtain ⟨k, hk, rfl, hS, hown, hbel, hsz⟩ := hrel
        have HS := Lib.hid hS
        have HO := Lib.hid hown
        have HB := Lib.hid hbel
        obtain ⟨hc0, hc1⟩ := hS.cell
        clear hS hown hbel
        have hil : (idxL p.2 k).length ≤ k := by unfold idxL; exact Nat.le_trans (List.length_filter_le _ _) (by simp)
        by_cases hlt : k < R.length
        · have hki : (k : Int) < (R.length : Int) := by omega
          obtain ⟨hp1, hp2⟩ := pow20 k (by omega)
          have HX := Lib.hid (idxL_succ p.2 k)
          cases hbit : p.2.testBit k
          · have hb0 := (bit_and20 hp20 (show k ≤ 20 by omega)).trans hbit
            have HX' : Hid (idxL p.2 (k + 1) = idxL p.2 k) := by show _ = _; rw [HX.out, hbit]; simp
            clear hbit HX
            go_wp2_with fail
            go_quiet (fail)
            go_wp2_with fail
            go_roundw
            case rel => exact ⟨k + 1, by omega, by go_num, HS.out, by rw [HX'.out]; exact HO.out.below (below_drewN' _), below_drewN HB.out _, hsz⟩
            case measure => simp [intOf]; omega
          · have hb0 := (bit_and20 hp20 (show k ≤ 20 by omega)).trans hbit
            have HX' : Hid (idxL p.2 (k + 1) = idxL p.2 k ++ [k]) := by show _ = _; rw [HX.out, hbit]; simp
            clear hbit HX
            go_wp2_with fail
            go_quiet (fail)
            have HO' := Lib.hid (HO.out.below (below_drewN' (w := wr) nq))
            have HB' := Lib.hid (below_drewN HB.out nq)
            have HS' : Hid (StepAt (wr.drewN nq) w2.heap.size p) := HS.out
            have hsz' : w2.heap.size + 1 ≤ (wr.drewN nq).heap.size := hsz
            go_wp2_with (at_builtin; refine app_law (wr.drewN nq) (w2.heap.size + 1) _ (idxL p.2 k) k rfl _ _ rfl rfl rfl HO'.out hsz' (by omega) (wr.drewN nq) (Below.refl _ _) ?_)
            intro v' w' H'
            go_wp2_with fail
            go_roundw
            case rel => exact ⟨k + 1, by omega, by go_num, HS'.out.below H'.out.2.1 (Nat.lt_succ_self _), by rw [HX'.out]; exact H'.out.1, HB'.out.trans (H'.out.2.1.mono (Nat.le_trans HB2.out.size (Nat.le_succ _))), Nat.le_trans hsz' H'.out.2.1.size⟩
            case measure => simp [intOf]; omega
        · obtain rfl : k = R.length := by omega
          obtain ⟨A3, c3, rfl, _⟩ := HO.out.form
          go_wp2_with fail
          go_ret2
          exact ⟨_, rfl, by rw [HE.out]; exact HO.out.lower (Nat.le_trans HB2.out.size (Nat.le_succ _)), HB.out⟩
    · have hcan : canB R n = false := by
        cases hc : canB R n
        · rfl
        · exact absurd (HC.out.2 ((canB_iff R n).1 hc)) hpn
      have hne : ((p.1 : Int) != (n : Int)) = true := by simp; omega
      obtain rfl : cv = false := HCE.out.trans hcan
      have HE := Lib.hid (makeI_no HV.out)
      clear hcan HM HC hpn HCE HV
      go_wp2_with fail
      go_ret2
      exact ⟨_, rfl, by rw [HE.out]; exact Own.nil _ _, HB2.out.alloc HB2.out.size _⟩
end Go.Proofs.YtdoogleggdlddaaDoor
