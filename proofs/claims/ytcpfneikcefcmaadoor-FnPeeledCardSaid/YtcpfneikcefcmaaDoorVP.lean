/-
  Laws of chapter 5, walked, whatever the program's own texts are: AddUp, PeelOff.
-/
import Derived.Test.YtcpfneikcefcmaaDoorVO
namespace Go.Proofs.YtcpfneikcefcmaaDoor
open Go.RowKit

theorem OwnLt.kept {w w' : World} {base : Nat} {v : Value} {L : List (Int × Int)} {row : Option Nat} (h : OwnLt w base v L) (hg : w.grownBy w' row) (hne : v.ownBlock = none ∨ v.ownBlock ≠ row) : OwnLt w' base v L := World.ownsRow.kept h hg hne
theorem own_lets5 {w : World} {base : Nat} {A : Option Addr} {n c : Nat} {L : List (Int × Int)} (h : OwnLt w base (.slice A n c) L) : Lets w A L := by
  obtain ⟨A', c', e, _, hI⟩ := h.form
  injection e with e1
  subst e1; exact hI
theorem own_bols5 {w : World} {base : Nat} {A : Option Addr} {n c : Nat} {L : List Bool} (h : OwnT w base (.slice A n c) L) : Bols w A L := by
  obtain ⟨A', c', e, hI⟩ := h.form
  injection e with e1
  subst e1; exact hI
theorem addI_len (n : Int) (ls : List (Int × Int)) : (addI n ls).length ≤ 8 := by
  unfold addI; split
  · rename_i h
    have hg : goodLB n ls = true := by
      simp only [addOkB, Bool.and_eq_true] at h
      exact h.1
    obtain ⟨m, L, rfl, rfl, _, hm8, _, _⟩ := goodL_nat hg
    rw [zI_length, solve_length, Int.toNat_natCast]; exact hm8
  · simp
theorem peel_lens (n : Int) (ls : List (Int × Int)) : (peelOI n ls).length ≤ 8 ∧ (peelBI n ls).length ≤ 8 := by
  cases hg : goodLB n ls
  · simp [peelOI, peelBI, hg]
  · obtain ⟨m, L, rfl, rfl, hm1, hm8, _, _⟩ := goodL_nat hg
    have := peelL_length (L := natL (intL L)) hm1
    simp only [peelOI, peelBI, hg, if_true, zI_length, List.length_map, Int.toNat_natCast]
    omega

set_option maxRecDepth 100000 in
set_option maxHeartbeats 8000000 in
theorem addUp_law {K : World → Prop} (hK : Stays5 K) (hI : ∀ (n : Int) (A : Option Addr) (ls : List (Int × Int)) (ca : Nat) (w : World), K w → Lets w A ls → ls.length ≤ 1048576 → ls.length ≤ ca → Calls Tryd.prog 20 #[.int .i64 n, .slice A ls.length ca] w fun e w' => ∃ v, e = .returned (.tuple #[v, .bool (addOkB n ls)]) ∧ Own w' w.heap.size v (addI n ls) ∧ Below w.heap.size w w')
    (n : Int) (A : Option Addr) (ls : List (Int × Int)) (ca : Nat) (w : World) (hw : K w) (ha : Lets w A ls) (hlm : ls.length ≤ 9223372036854775807) : Calls Tryd.prog 4 #[.int .i64 n, .slice A ls.length ca] w fun e w' => e = .returned (.bool true) ∧ Below w.heap.size w w' := by
  by_cases hl : ls.length ≤ 1048576
  · have hli : ¬ ((1048576 : Int) - (ls.length : Int) < 0) := by omega
    have hVl := addI_len n ls
    have HI := Lib.hid (fun A ca w hk ha hc => hI n A ls ca w hk ha hl hc)
    have HS := Lib.hid (fun A ca w ha hc => sAdd_any n A ls ca w ha hl hc)
    have HW := Lib.hid hw
    have HA := Lib.hid ha
    have hqL := eqLs_self ls
    clear hI hw ha
    generalize addI n ls = V at *
    generalize addOkB n ls = a5 at *
    have hq : eqL V V = true := by simp [eqL]
    have hml := marks_length 1 V.length
    go_enter Tryd.func4, Tryd.ntmps4
    go_wp2_with fail
    refine (szLetterS_ok A ls.length ca w hl).mono ?_
    rintro e w0 ⟨rfl, rfl⟩
    go_wp2_with fail
    refine (toLetterS_any A ls ca _ HA.out hl).mono ?_
    rintro e w1 ⟨vt, rfl, hot, hbt⟩
    obtain ⟨At, ct, rfl, hcapt, _⟩ := hot.form
    have Ht_1 := Lib.hid (hot)
    have HB_3 := Lib.hid (hbt)
    clear hot hbt
    go_wp2_with fail
    refine (HS.out At ct _ (own_lets5 Ht_1.out) hcapt).mono ?_
    rintro e w2 ⟨vp, rfl, hop, hbp⟩
    obtain ⟨Ap, cp, rfl, _⟩ := hop.form
    clear Ht_1
    have Hp_4 := Lib.hid (hop.lower HB_3.out.size)
    have HB_6 := Lib.hid (below_more HB_3.out hbp)
    clear HB_3
    clear hop hbp HS
    go_wp2_with fail
    refine (toLetterS_any A ls ca _ (HA.out.below HB_6.out) hl).mono ?_
    rintro e w3 ⟨vx, rfl, hox, hbx⟩
    obtain ⟨Ax, cx, rfl, hcapx, _⟩ := hox.form
    have HAp_p_x := Lib.hid (apart5 (fun k hk => (Hp_4.out.lt k hk).2) (fun k hk => (hox.lt k hk).1))
    have Hx_7 := Lib.hid (hox.lower HB_6.out.size)
    have Hp_8 := Lib.hid (Hp_4.out.below hbx)
    have HB_9 := Lib.hid (below_more HB_6.out hbx)
    clear Hp_4 HB_6
    clear hox hbx
    go_wp2_with fail
    refine (HI.out Ax cx _ (hK _ _ HW.out HB_9.out) (own_lets5 Hx_7.out) hcapx).mono ?_
    rintro e w4 ⟨vg, rfl, hog, hbg⟩
    obtain ⟨Ag, cg, rfl, _⟩ := hog.form
    have HAp_p_g := Lib.hid (apart5 (fun k hk => (Hp_8.out.lt k hk).2) (fun k hk => (hog.lt k hk).1))
    have HAp_x_g := Lib.hid (apart5 (fun k hk => (Hx_7.out.lt k hk).2) (fun k hk => (hog.lt k hk).1))
    have Hg_10 := Lib.hid (hog.lower HB_9.out.size)
    have Hp_11 := Lib.hid (Hp_8.out.below hbg)
    have Hx_11 := Lib.hid (Hx_7.out.below hbg)
    have HB_12 := Lib.hid (below_more HB_9.out hbg)
    clear Hp_8 Hx_7 HB_9
    clear hog hbg
    go_wp2_with fail
    refine (eqInts_any Ag Ap V V cg cp _ (own_ints5 Hg_10.out) (own_ints5 Hp_11.out) (by omega)).mono ?_
    rintro e w5 ⟨rfl, n13, rfl⟩
    have hdr : Below w4.heap.size w4 (w4.drewN n13) := gDrewN n13
    have Hp_14 := Lib.hid (Hp_11.out.below hdr)
    have Hx_14 := Lib.hid (Hx_11.out.below hdr)
    have Hg_14 := Lib.hid (Hg_10.out.below hdr)
    have HB_15 := Lib.hid (below_more HB_12.out hdr)
    clear Hp_11 Hx_11 Hg_10 HB_12
    clear hdr
    generalize w4.drewN n13 = w5 at *
    go_wp2_with fail
    refine (toLetterS_any A ls ca _ (HA.out.below HB_15.out) hl).mono ?_
    rintro e w6 ⟨vb, rfl, hob, hbb⟩
    obtain ⟨Ab, cb, rfl, hcapb, _⟩ := hob.form
    have HAp_p_b := Lib.hid (apart5 (fun k hk => (Hp_14.out.lt k hk).2) (fun k hk => (hob.lt k hk).1))
    have HAp_x_b := Lib.hid (apart5 (fun k hk => (Hx_14.out.lt k hk).2) (fun k hk => (hob.lt k hk).1))
    have HAp_g_b := Lib.hid (apart5 (fun k hk => (Hg_14.out.lt k hk).2) (fun k hk => (hob.lt k hk).1))
    have Hb_16 := Lib.hid (hob.lower HB_15.out.size)
    have Hp_17 := Lib.hid (Hp_14.out.below hbb)
    have Hx_17 := Lib.hid (Hx_14.out.below hbb)
    have Hg_17 := Lib.hid (Hg_14.out.below hbb)
    have HB_18 := Lib.hid (below_more HB_15.out hbb)
    clear Hp_14 Hx_14 Hg_14 HB_15
    clear hob hbb
    go_wp2_with fail
    refine (eqLetterS_any Ax Ab ls ls cx cb _ (own_lets5 Hx_17.out) (own_lets5 Hb_16.out) hl).mono ?_
    rintro e w7 ⟨rfl, hbq⟩
    have Hp_19 := Lib.hid (Hp_17.out.below hbq)
    have Hx_19 := Lib.hid (Hx_17.out.below hbq)
    have Hg_19 := Lib.hid (Hg_17.out.below hbq)
    have Hb_19 := Lib.hid (Hb_16.out.below hbq)
    have HB_20 := Lib.hid (below_more HB_18.out hbq)
    clear Hp_17 Hx_17 Hg_17 Hb_16 HB_18
    clear hbq
    clear Hb_19
    go_wp2_with fail
    refine (markLetterS_any _ ls _ 1 _ Hx_19.out hl (by omega) (by omega)).mono ?_
    rintro e w8 ⟨rfl, hom, hgm⟩
    have HMb := Lib.hid (fun k hk => (Hx_19.out.lt k hk).1)
    have Hp_21 := Lib.hid (Hp_19.out.kept hgm HAp_p_x.out)
    have Hg_21 := Lib.hid (Hg_19.out.kept hgm (gApart HAp_x_g.out))
    have Hx_21 := Lib.hid hom
    have HB_21 : Hid (Below w.heap.size w w8) := HB_20.out.grown hgm HB_20.out.size HMb.out
    clear HMb hgm hom Hx_19 Hp_19 Hg_19 HB_20
    clear Hx_21
    go_wp2_with fail
    refine (eqInts_any Ag Ap V V cg cp _ (own_ints5 Hg_21.out) (own_ints5 Hp_21.out) (by omega)).mono ?_
    rintro e w9 ⟨rfl, n22, rfl⟩
    have hdr : Below w8.heap.size w8 (w8.drewN n22) := gDrewN n22
    have Hp_23 := Lib.hid (Hp_21.out.below hdr)
    have Hg_23 := Lib.hid (Hg_21.out.below hdr)
    have HB_24 := Lib.hid (below_more HB_21.out hdr)
    clear Hp_21 Hg_21 HB_21
    clear hdr
    generalize w8.drewN n22 = w9 at *
    go_wp2_with fail
    refine (markInts_any _ V _ 1 _ Hg_23.out (by omega) (by omega) (by omega)).mono ?_
    rintro e w10 ⟨rfl, hom, hgm⟩
    have HMb := Lib.hid (fun k hk => (Hg_23.out.lt k hk).1)
    have Hp_25 := Lib.hid (Hp_23.out.kept hgm HAp_p_g.out)
    have Hg_25 := Lib.hid hom
    have HB_25 : Hid (Below w.heap.size w w10) := HB_24.out.grown hgm HB_24.out.size HMb.out
    clear HMb hgm hom Hg_23 Hp_23 HB_24
    go_wp2_with fail
    refine (heldInts_any Ag 1 V.length cg _ (own_ints5 Hg_25.out) (by omega) (by omega) (by omega)).mono ?_
    rintro e wh ⟨rfl, rfl⟩
    go_wp2_with fail
    refine (toLetterS_any A ls ca _ (HA.out.below HB_25.out) hl).mono ?_
    rintro e w11 ⟨vd, rfl, hod, hbd⟩
    obtain ⟨Ad, cd, rfl, hcapd, _⟩ := hod.form
    have HAp_p_d := Lib.hid (apart5 (fun k hk => (Hp_25.out.lt k hk).2) (fun k hk => (hod.lt k hk).1))
    have HAp_g_d := Lib.hid (apart5 (fun k hk => (Hg_25.out.lt k hk).2) (fun k hk => (hod.lt k hk).1))
    have Hd_26 := Lib.hid (hod.lower HB_25.out.size)
    have Hp_27 := Lib.hid (Hp_25.out.below hbd)
    have Hg_27 := Lib.hid (Hg_25.out.below hbd)
    have HB_28 := Lib.hid (below_more HB_25.out hbd)
    clear Hp_25 Hg_25 HB_25
    clear hod hbd
    go_wp2_with fail
    refine (HI.out Ad cd _ (hK _ _ HW.out HB_28.out) (own_lets5 Hd_26.out) hcapd).mono ?_
    rintro e w12 ⟨vh, rfl, hoh, hbh⟩
    obtain ⟨Ah, ch, rfl, _⟩ := hoh.form
    have HAp_p_h := Lib.hid (apart5 (fun k hk => (Hp_27.out.lt k hk).2) (fun k hk => (hoh.lt k hk).1))
    have HAp_g_h := Lib.hid (apart5 (fun k hk => (Hg_27.out.lt k hk).2) (fun k hk => (hoh.lt k hk).1))
    have HAp_d_h := Lib.hid (apart5 (fun k hk => (Hd_26.out.lt k hk).2) (fun k hk => (hoh.lt k hk).1))
    have Hh_29 := Lib.hid (hoh.lower HB_28.out.size)
    have Hp_30 := Lib.hid (Hp_27.out.below hbh)
    have Hg_30 := Lib.hid (Hg_27.out.below hbh)
    have Hd_30 := Lib.hid (Hd_26.out.below hbh)
    have HB_31 := Lib.hid (below_more HB_28.out hbh)
    clear Hp_27 Hg_27 Hd_26 HB_28
    clear hoh hbh
    clear Hd_30
    go_wp2_with fail
    refine (eqInts_any Ah Ap V V ch cp _ (own_ints5 Hh_29.out) (own_ints5 Hp_30.out) (by omega)).mono ?_
    rintro e w13 ⟨rfl, n32, rfl⟩
    have hdr : Below w12.heap.size w12 (w12.drewN n32) := gDrewN n32
    have Hp_33 := Lib.hid (Hp_30.out.below hdr)
    have Hg_33 := Lib.hid (Hg_30.out.below hdr)
    have Hh_33 := Lib.hid (Hh_29.out.below hdr)
    have HB_34 := Lib.hid (below_more HB_31.out hdr)
    clear Hp_30 Hg_30 Hh_29 HB_31
    clear hdr
    generalize w12.drewN n32 = w13 at *
    go_wp2_with fail
    refine (heldInts_any Ag 1 V.length cg _ (own_ints5 Hg_33.out) (by omega) (by omega) (by omega)).mono ?_
    rintro e wh ⟨rfl, rfl⟩
    go_wp2_with fail
    go_ret
    exact ⟨rfl, HB_34.out⟩
  · have hli : ((-1 : Int)) < 0 := by omega
    clear hI
    go_enter Tryd.func4, Tryd.ntmps4
    go_wp2_with fail
    refine (szLetterS_no A ls.length ca w hlm hl).mono ?_
    rintro e w0 ⟨rfl, rfl⟩
    go_wp2_with fail
    go_ret
    exact ⟨rfl, Below.refl _ _⟩

set_option maxRecDepth 100000 in
set_option maxHeartbeats 8000000 in
theorem peelOff_law {K : World → Prop} (hK : Stays5 K) (hI : ∀ (n : Int) (A : Option Addr) (ls : List (Int × Int)) (ca : Nat) (w : World), K w → Lets w A ls → ls.length ≤ 1048576 → ls.length ≤ ca → Calls Tryd.prog 10 #[.int .i64 n, .slice A ls.length ca] w fun e w' => ∃ v u, e = .returned (.tuple #[v, u, .bool (goodLB n ls)]) ∧ Own w' w.heap.size v (peelOI n ls) ∧ OwnT w' w.heap.size u (peelBI n ls) ∧ (v.ownBlock = none ∨ v.ownBlock ≠ u.ownBlock) ∧ Below w.heap.size w w')
    (n : Int) (A : Option Addr) (ls : List (Int × Int)) (ca : Nat) (w : World) (hw : K w) (ha : Lets w A ls) (hlm : ls.length ≤ 9223372036854775807) : Calls Tryd.prog 3 #[.int .i64 n, .slice A ls.length ca] w fun e w' => e = .returned (.bool true) ∧ Below w.heap.size w w' := by
  by_cases hl : ls.length ≤ 1048576
  · have hli : ¬ ((1048576 : Int) - (ls.length : Int) < 0) := by omega
    obtain ⟨hVl, hUl⟩ := peel_lens n ls
    have HI := Lib.hid (fun A ca w hk ha hc => hI n A ls ca w hk ha hl hc)
    have HS := Lib.hid (fun A ca w ha hc => sPeel_any n A ls ca w ha hl hc)
    have HW := Lib.hid hw
    have HA := Lib.hid ha
    have hqL := eqLs_self ls
    clear hI hw ha
    generalize peelOI n ls = V at *
    generalize peelBI n ls = U at *
    generalize goodLB n ls = a5 at *
    have hq : eqL V V = true := by simp [eqL]
    have hqT := eqT_self U
    have hml := marks_length 1 V.length
    go_enter Tryd.func3, Tryd.ntmps3
    go_wp2_with fail
    refine (szLetterS_ok A ls.length ca w hl).mono ?_
    rintro e w0 ⟨rfl, rfl⟩
    go_wp2_with fail
    refine (toLetterS_any A ls ca _ HA.out hl).mono ?_
    rintro e w1 ⟨vt, rfl, hot, hbt⟩
    obtain ⟨At, ct, rfl, hcapt, _⟩ := hot.form
    have Ht_1 := Lib.hid (hot)
    have HB_3 := Lib.hid (hbt)
    clear hot hbt
    go_wp2_with fail
    refine (HS.out At ct _ (own_lets5 Ht_1.out) hcapt).mono ?_
    rintro e w2 ⟨vp, vr, rfl, hop, hor, happ, hbp⟩
    obtain ⟨Ap, cp, rfl, _⟩ := hop.form
    obtain ⟨Ar, cr, rfl, _⟩ := hor.form
    clear Ht_1
    have HAp_p_r := Lib.hid happ
    have Hp_4 := Lib.hid (hop.lower HB_3.out.size)
    have Hr_4 := Lib.hid (hor.lower HB_3.out.size)
    have HB_6 := Lib.hid (below_more HB_3.out hbp)
    clear HB_3
    clear hop hor happ hbp HS
    go_wp2_with fail
    refine (toLetterS_any A ls ca _ (HA.out.below HB_6.out) hl).mono ?_
    rintro e w3 ⟨vx, rfl, hox, hbx⟩
    obtain ⟨Ax, cx, rfl, hcapx, _⟩ := hox.form
    have HAp_p_x := Lib.hid (apart5 (fun k hk => (Hp_4.out.lt k hk).2) (fun k hk => (hox.lt k hk).1))
    have HAp_r_x := Lib.hid (apart5 (fun k hk => (Hr_4.out.lt k hk).2) (fun k hk => (hox.lt k hk).1))
    have Hx_7 := Lib.hid (hox.lower HB_6.out.size)
    have Hp_8 := Lib.hid (Hp_4.out.below hbx)
    have Hr_8 := Lib.hid (Hr_4.out.below hbx)
    have HB_9 := Lib.hid (below_more HB_6.out hbx)
    clear Hp_4 Hr_4 HB_6
    clear hox hbx
    go_wp2_with fail
    refine (HI.out Ax cx _ (hK _ _ HW.out HB_9.out) (own_lets5 Hx_7.out) hcapx).mono ?_
    rintro e w4 ⟨vg, vs, rfl, hog, hos, hapg, hbg⟩
    obtain ⟨Ag, cg, rfl, _⟩ := hog.form
    obtain ⟨As, cs, rfl, _⟩ := hos.form
    have HAp_p_g := Lib.hid (apart5 (fun k hk => (Hp_8.out.lt k hk).2) (fun k hk => (hog.lt k hk).1))
    have HAp_p_s := Lib.hid (apart5 (fun k hk => (Hp_8.out.lt k hk).2) (fun k hk => (hos.lt k hk).1))
    have HAp_r_g := Lib.hid (apart5 (fun k hk => (Hr_8.out.lt k hk).2) (fun k hk => (hog.lt k hk).1))
    have HAp_r_s := Lib.hid (apart5 (fun k hk => (Hr_8.out.lt k hk).2) (fun k hk => (hos.lt k hk).1))
    have HAp_x_g := Lib.hid (apart5 (fun k hk => (Hx_7.out.lt k hk).2) (fun k hk => (hog.lt k hk).1))
    have HAp_x_s := Lib.hid (apart5 (fun k hk => (Hx_7.out.lt k hk).2) (fun k hk => (hos.lt k hk).1))
    have HAp_g_s := Lib.hid hapg
    have Hg_10 := Lib.hid (hog.lower HB_9.out.size)
    have Hs_10 := Lib.hid (hos.lower HB_9.out.size)
    have Hp_11 := Lib.hid (Hp_8.out.below hbg)
    have Hr_11 := Lib.hid (Hr_8.out.below hbg)
    have Hx_11 := Lib.hid (Hx_7.out.below hbg)
    have HB_12 := Lib.hid (below_more HB_9.out hbg)
    clear Hp_8 Hr_8 Hx_7 HB_9
    clear hog hos hapg hbg
    go_wp2_with fail
    refine (eqInts_any Ag Ap V V cg cp _ (own_ints5 Hg_10.out) (own_ints5 Hp_11.out) (by omega)).mono ?_
    rintro e w5 ⟨rfl, n13, rfl⟩
    have hdr : Below w4.heap.size w4 (w4.drewN n13) := gDrewN n13
    have Hp_14 := Lib.hid (Hp_11.out.below hdr)
    have Hr_14 := Lib.hid (Hr_11.out.below hdr)
    have Hx_14 := Lib.hid (Hx_11.out.below hdr)
    have Hg_14 := Lib.hid (Hg_10.out.below hdr)
    have Hs_14 := Lib.hid (Hs_10.out.below hdr)
    have HB_15 := Lib.hid (below_more HB_12.out hdr)
    clear Hp_11 Hr_11 Hx_11 Hg_10 Hs_10 HB_12
    clear hdr
    generalize w4.drewN n13 = w5 at *
    go_wp2_with fail
    refine (eqBoolS_any As Ar U U cs cr _ (own_bols5 Hs_14.out) (own_bols5 Hr_14.out) (by omega)).mono ?_
    rintro e w6 ⟨rfl, n16, rfl⟩
    have hdr : Below w5.heap.size w5 (w5.drewN n16) := gDrewN n16
    have Hp_17 := Lib.hid (Hp_14.out.below hdr)
    have Hr_17 := Lib.hid (Hr_14.out.below hdr)
    have Hx_17 := Lib.hid (Hx_14.out.below hdr)
    have Hg_17 := Lib.hid (Hg_14.out.below hdr)
    have Hs_17 := Lib.hid (Hs_14.out.below hdr)
    have HB_18 := Lib.hid (below_more HB_15.out hdr)
    clear Hp_14 Hr_14 Hx_14 Hg_14 Hs_14 HB_15
    clear hdr
    generalize w5.drewN n16 = w6 at *
    go_wp2_with fail
    refine (toLetterS_any A ls ca _ (HA.out.below HB_18.out) hl).mono ?_
    rintro e w7 ⟨vb, rfl, hob, hbb⟩
    obtain ⟨Ab, cb, rfl, hcapb, _⟩ := hob.form
    have HAp_p_b := Lib.hid (apart5 (fun k hk => (Hp_17.out.lt k hk).2) (fun k hk => (hob.lt k hk).1))
    have HAp_r_b := Lib.hid (apart5 (fun k hk => (Hr_17.out.lt k hk).2) (fun k hk => (hob.lt k hk).1))
    have HAp_x_b := Lib.hid (apart5 (fun k hk => (Hx_17.out.lt k hk).2) (fun k hk => (hob.lt k hk).1))
    have HAp_g_b := Lib.hid (apart5 (fun k hk => (Hg_17.out.lt k hk).2) (fun k hk => (hob.lt k hk).1))
    have HAp_s_b := Lib.hid (apart5 (fun k hk => (Hs_17.out.lt k hk).2) (fun k hk => (hob.lt k hk).1))
    have Hb_19 := Lib.hid (hob.lower HB_18.out.size)
    have Hp_20 := Lib.hid (Hp_17.out.below hbb)
    have Hr_20 := Lib.hid (Hr_17.out.below hbb)
    have Hx_20 := Lib.hid (Hx_17.out.below hbb)
    have Hg_20 := Lib.hid (Hg_17.out.below hbb)
    have Hs_20 := Lib.hid (Hs_17.out.below hbb)
    have HB_21 := Lib.hid (below_more HB_18.out hbb)
    clear Hp_17 Hr_17 Hx_17 Hg_17 Hs_17 HB_18
    clear hob hbb
    go_wp2_with fail
    refine (eqLetterS_any Ax Ab ls ls cx cb _ (own_lets5 Hx_20.out) (own_lets5 Hb_19.out) hl).mono ?_
    rintro e w8 ⟨rfl, hbq⟩
    have Hp_22 := Lib.hid (Hp_20.out.below hbq)
    have Hr_22 := Lib.hid (Hr_20.out.below hbq)
    have Hx_22 := Lib.hid (Hx_20.out.below hbq)
    have Hg_22 := Lib.hid (Hg_20.out.below hbq)
    have Hs_22 := Lib.hid (Hs_20.out.below hbq)
    have Hb_22 := Lib.hid (Hb_19.out.below hbq)
    have HB_23 := Lib.hid (below_more HB_21.out hbq)
    clear Hp_20 Hr_20 Hx_20 Hg_20 Hs_20 Hb_19 HB_21
    clear hbq
    clear Hb_22
    go_wp2_with fail
    refine (markLetterS_any _ ls _ 1 _ Hx_22.out hl (by omega) (by omega)).mono ?_
    rintro e w9 ⟨rfl, hom, hgm⟩
    have HMb := Lib.hid (fun k hk => (Hx_22.out.lt k hk).1)
    have Hp_24 := Lib.hid (Hp_22.out.kept hgm HAp_p_x.out)
    have Hr_24 := Lib.hid (Hr_22.out.kept hgm HAp_r_x.out)
    have Hg_24 := Lib.hid (Hg_22.out.kept hgm (gApart HAp_x_g.out))
    have Hs_24 := Lib.hid (Hs_22.out.kept hgm (gApart HAp_x_s.out))
    have Hx_24 := Lib.hid hom
    have HB_24 : Hid (Below w.heap.size w w9) := HB_23.out.grown hgm HB_23.out.size HMb.out
    clear HMb hgm hom Hx_22 Hp_22 Hr_22 Hg_22 Hs_22 HB_23
    clear Hx_24
    go_wp2_with fail
    refine (eqInts_any Ag Ap V V cg cp _ (own_ints5 Hg_24.out) (own_ints5 Hp_24.out) (by omega)).mono ?_
    rintro e w10 ⟨rfl, n25, rfl⟩
    have hdr : Below w9.heap.size w9 (w9.drewN n25) := gDrewN n25
    have Hp_26 := Lib.hid (Hp_24.out.below hdr)
    have Hr_26 := Lib.hid (Hr_24.out.below hdr)
    have Hg_26 := Lib.hid (Hg_24.out.below hdr)
    have Hs_26 := Lib.hid (Hs_24.out.below hdr)
    have HB_27 := Lib.hid (below_more HB_24.out hdr)
    clear Hp_24 Hr_24 Hg_24 Hs_24 HB_24
    clear hdr
    generalize w9.drewN n25 = w10 at *
    go_wp2_with fail
    refine (eqBoolS_any As Ar U U cs cr _ (own_bols5 Hs_26.out) (own_bols5 Hr_26.out) (by omega)).mono ?_
    rintro e w11 ⟨rfl, n28, rfl⟩
    have hdr : Below w10.heap.size w10 (w10.drewN n28) := gDrewN n28
    have Hp_29 := Lib.hid (Hp_26.out.below hdr)
    have Hr_29 := Lib.hid (Hr_26.out.below hdr)
    have Hg_29 := Lib.hid (Hg_26.out.below hdr)
    have Hs_29 := Lib.hid (Hs_26.out.below hdr)
    have HB_30 := Lib.hid (below_more HB_27.out hdr)
    clear Hp_26 Hr_26 Hg_26 Hs_26 HB_27
    clear hdr
    generalize w10.drewN n28 = w11 at *
    go_wp2_with fail
    refine (markInts_any _ V _ 1 _ Hg_29.out (by omega) (by omega) (by omega)).mono ?_
    rintro e w12 ⟨rfl, hom, hgm⟩
    have HMb := Lib.hid (fun k hk => (Hg_29.out.lt k hk).1)
    have Hp_31 := Lib.hid (Hp_29.out.kept hgm HAp_p_g.out)
    have Hr_31 := Lib.hid (Hr_29.out.kept hgm HAp_r_g.out)
    have Hs_31 := Lib.hid (Hs_29.out.kept hgm (gApart HAp_g_s.out))
    have Hg_31 := Lib.hid hom
    have HB_31 : Hid (Below w.heap.size w w12) := HB_30.out.grown hgm HB_30.out.size HMb.out
    clear HMb hgm hom Hg_29 Hp_29 Hr_29 Hs_29 HB_30
    go_wp2_with fail
    refine (markBoolS_any _ U _ (1 + (V.length : Int)) _ Hs_31.out (by omega) (by omega) (by omega)).mono ?_
    rintro e w13 ⟨rfl, hom, hgm⟩
    have HMb := Lib.hid (fun k hk => (Hs_31.out.lt k hk).1)
    have Hp_32 := Lib.hid (Hp_31.out.kept hgm HAp_p_s.out)
    have Hr_32 := Lib.hid (Hr_31.out.kept hgm HAp_r_s.out)
    have Hg_32 := Lib.hid (Hg_31.out.kept hgm HAp_g_s.out)
    have Hs_32 := Lib.hid hom
    have HB_32 : Hid (Below w.heap.size w w13) := HB_31.out.grown hgm HB_31.out.size HMb.out
    clear HMb hgm hom Hs_31 Hp_31 Hr_31 Hg_31 HB_31
    go_wp2_with fail
    refine (heldInts_any Ag 1 V.length cg _ (own_ints5 Hg_32.out) (by omega) (by omega) (by omega)).mono ?_
    rintro e wh ⟨rfl, rfl⟩
    go_wp2_with fail
    refine (heldBoolS_any As (1 + (V.length : Int)) U.length cs _ (own_bols5 Hs_32.out) (by omega) (by omega) (by omega)).mono ?_
    rintro e wh ⟨rfl, rfl⟩
    go_wp2_with fail
    refine (toLetterS_any A ls ca _ (HA.out.below HB_32.out) hl).mono ?_
    rintro e w14 ⟨vd, rfl, hod, hbd⟩
    obtain ⟨Ad, cd, rfl, hcapd, _⟩ := hod.form
    have HAp_p_d := Lib.hid (apart5 (fun k hk => (Hp_32.out.lt k hk).2) (fun k hk => (hod.lt k hk).1))
    have HAp_r_d := Lib.hid (apart5 (fun k hk => (Hr_32.out.lt k hk).2) (fun k hk => (hod.lt k hk).1))
    have HAp_g_d := Lib.hid (apart5 (fun k hk => (Hg_32.out.lt k hk).2) (fun k hk => (hod.lt k hk).1))
    have HAp_s_d := Lib.hid (apart5 (fun k hk => (Hs_32.out.lt k hk).2) (fun k hk => (hod.lt k hk).1))
    have Hd_33 := Lib.hid (hod.lower HB_32.out.size)
    have Hp_34 := Lib.hid (Hp_32.out.below hbd)
    have Hr_34 := Lib.hid (Hr_32.out.below hbd)
    have Hg_34 := Lib.hid (Hg_32.out.below hbd)
    have Hs_34 := Lib.hid (Hs_32.out.below hbd)
    have HB_35 := Lib.hid (below_more HB_32.out hbd)
    clear Hp_32 Hr_32 Hg_32 Hs_32 HB_32
    clear hod hbd
    go_wp2_with fail
    refine (HI.out Ad cd _ (hK _ _ HW.out HB_35.out) (own_lets5 Hd_33.out) hcapd).mono ?_
    rintro e w15 ⟨vh, vz, rfl, hoh, hoz, haph, hbh⟩
    obtain ⟨Ah, ch, rfl, _⟩ := hoh.form
    obtain ⟨Az, cz, rfl, _⟩ := hoz.form
    have HAp_p_h := Lib.hid (apart5 (fun k hk => (Hp_34.out.lt k hk).2) (fun k hk => (hoh.lt k hk).1))
    have HAp_p_z := Lib.hid (apart5 (fun k hk => (Hp_34.out.lt k hk).2) (fun k hk => (hoz.lt k hk).1))
    have HAp_r_h := Lib.hid (apart5 (fun k hk => (Hr_34.out.lt k hk).2) (fun k hk => (hoh.lt k hk).1))
    have HAp_r_z := Lib.hid (apart5 (fun k hk => (Hr_34.out.lt k hk).2) (fun k hk => (hoz.lt k hk).1))
    have HAp_g_h := Lib.hid (apart5 (fun k hk => (Hg_34.out.lt k hk).2) (fun k hk => (hoh.lt k hk).1))
    have HAp_g_z := Lib.hid (apart5 (fun k hk => (Hg_34.out.lt k hk).2) (fun k hk => (hoz.lt k hk).1))
    have HAp_s_h := Lib.hid (apart5 (fun k hk => (Hs_34.out.lt k hk).2) (fun k hk => (hoh.lt k hk).1))
    have HAp_s_z := Lib.hid (apart5 (fun k hk => (Hs_34.out.lt k hk).2) (fun k hk => (hoz.lt k hk).1))
    have HAp_d_h := Lib.hid (apart5 (fun k hk => (Hd_33.out.lt k hk).2) (fun k hk => (hoh.lt k hk).1))
    have HAp_d_z := Lib.hid (apart5 (fun k hk => (Hd_33.out.lt k hk).2) (fun k hk => (hoz.lt k hk).1))
    have HAp_h_z := Lib.hid haph
    have Hh_36 := Lib.hid (hoh.lower HB_35.out.size)
    have Hz_36 := Lib.hid (hoz.lower HB_35.out.size)
    have Hp_37 := Lib.hid (Hp_34.out.below hbh)
    have Hr_37 := Lib.hid (Hr_34.out.below hbh)
    have Hg_37 := Lib.hid (Hg_34.out.below hbh)
    have Hs_37 := Lib.hid (Hs_34.out.below hbh)
    have Hd_37 := Lib.hid (Hd_33.out.below hbh)
    have HB_38 := Lib.hid (below_more HB_35.out hbh)
    clear Hp_34 Hr_34 Hg_34 Hs_34 Hd_33 HB_35
    clear hoh hoz haph hbh
    clear Hd_37
    go_wp2_with fail
    refine (eqInts_any Ah Ap V V ch cp _ (own_ints5 Hh_36.out) (own_ints5 Hp_37.out) (by omega)).mono ?_
    rintro e w16 ⟨rfl, n39, rfl⟩
    have hdr : Below w15.heap.size w15 (w15.drewN n39) := gDrewN n39
    have Hp_40 := Lib.hid (Hp_37.out.below hdr)
    have Hr_40 := Lib.hid (Hr_37.out.below hdr)
    have Hg_40 := Lib.hid (Hg_37.out.below hdr)
    have Hs_40 := Lib.hid (Hs_37.out.below hdr)
    have Hh_40 := Lib.hid (Hh_36.out.below hdr)
    have Hz_40 := Lib.hid (Hz_36.out.below hdr)
    have HB_41 := Lib.hid (below_more HB_38.out hdr)
    clear Hp_37 Hr_37 Hg_37 Hs_37 Hh_36 Hz_36 HB_38
    clear hdr
    generalize w15.drewN n39 = w16 at *
    go_wp2_with fail
    refine (eqBoolS_any Az Ar U U cz cr _ (own_bols5 Hz_40.out) (own_bols5 Hr_40.out) (by omega)).mono ?_
    rintro e w17 ⟨rfl, n42, rfl⟩
    have hdr : Below w16.heap.size w16 (w16.drewN n42) := gDrewN n42
    have Hp_43 := Lib.hid (Hp_40.out.below hdr)
    have Hr_43 := Lib.hid (Hr_40.out.below hdr)
    have Hg_43 := Lib.hid (Hg_40.out.below hdr)
    have Hs_43 := Lib.hid (Hs_40.out.below hdr)
    have Hh_43 := Lib.hid (Hh_40.out.below hdr)
    have Hz_43 := Lib.hid (Hz_40.out.below hdr)
    have HB_44 := Lib.hid (below_more HB_41.out hdr)
    clear Hp_40 Hr_40 Hg_40 Hs_40 Hh_40 Hz_40 HB_41
    clear hdr
    generalize w16.drewN n42 = w17 at *
    go_wp2_with fail
    refine (heldInts_any Ag 1 V.length cg _ (own_ints5 Hg_43.out) (by omega) (by omega) (by omega)).mono ?_
    rintro e wh ⟨rfl, rfl⟩
    go_wp2_with fail
    refine (heldBoolS_any As (1 + (V.length : Int)) U.length cs _ (own_bols5 Hs_43.out) (by omega) (by omega) (by omega)).mono ?_
    rintro e wh ⟨rfl, rfl⟩
    go_wp2_with fail
    go_ret
    exact ⟨rfl, HB_44.out⟩
  · have hli : ((-1 : Int)) < 0 := by omega
    clear hI
    go_enter Tryd.func3, Tryd.ntmps3
    go_wp2_with fail
    refine (szLetterS_no A ls.length ca w hlm hl).mono ?_
    rintro e w0 ⟨rfl, rfl⟩
    go_wp2_with fail
    go_ret
    exact ⟨rfl, Below.refl _ _⟩
end Go.Proofs.YtcpfneikcefcmaaDoor
