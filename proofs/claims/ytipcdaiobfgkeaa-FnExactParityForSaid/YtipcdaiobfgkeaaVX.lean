/-
  Laws of chapter 8, walked, whatever the program's own texts are: MixBy, UnmixBy, ParityFor, LossesIn, PlaceOf, SpreadOf.
-/
import Derived.Test.YtipcdaiobfgkeaaVO
import Derived.Test.YtipcdaiobfgkeaaKO
namespace Go.Proofs.Ytipcdaiobfgkeaa
open Go.RowKit


set_option maxRecDepth 100000 in
set_option maxHeartbeats 8000000 in
theorem mixBy_law {K : World → Prop} (hK : Stays5 K) (hI : ∀ (A : Option Addr) (zs : List Int) (ca : Nat) (n : Int) (w : World), K w → Ints w A zs → zs.length ≤ 1048576 → zs.length ≤ ca → Calls Try.prog 13 #[.slice A zs.length ca, .int .i64 n] w fun e w' => ∃ v, e = .returned (.tuple #[v, .bool (list8 zs n)]) ∧ Own w' w.heap.size v (mixI zs n) ∧ Below w.heap.size w w')
    (A : Option Addr) (zs : List Int) (ca : Nat) (n : Int) (w : World) (hw : K w) (ha : Ints w A zs) : Calls Try.prog 5 #[.slice A zs.length ca, .int .i64 n] w fun e w' => e = .returned (.bool true) ∧ Below w.heap.size w w' := by
  by_cases hl : zs.length ≤ 1048576
  · have hli : ¬ (1048576 : Int) < (zs.length : Int) := by omega
    have hVl := (mixI_len zs n).1
    have HI := Lib.hid (fun A ca w hk ha hc => hI A zs ca n w hk ha hl hc)
    have HS := Lib.hid (fun A ca w ha => sMix_any A zs ca n w ha hl)
    have HW := Lib.hid hw
    have HA := Lib.hid ha
    have hqz : eqL zs zs = true := by simp [eqL]
    clear hI hw ha
    generalize mixI zs n = V at *
    generalize list8 zs n = a5 at *
    have hq : eqL V V = true := by simp [eqL]
    have hml := marks_length 1 V.length
    go_enter Try.func5, Try.ntmps5
    go_wp2_with fail
    refine (toInts_any A zs ca _ HA.out (by omega)).mono ?_
    rintro e w1 ⟨vt, rfl, hot, hbt⟩
    obtain ⟨At, ct, rfl, hcapt, _⟩ := gFormC hot
    have Ht_1 := Lib.hid (hot)
    have HB_3 := Lib.hid (hbt)
    clear hot hbt
    go_wp2_with fail
    refine (HS.out At ct _ (own_ints5 Ht_1.out)).mono ?_
    rintro e w2 ⟨vp, rfl, hop, hbp⟩
    obtain ⟨Ap, cp, rfl, _⟩ := hop.form
    clear Ht_1
    have Hp_4 := Lib.hid (hop.lower HB_3.out.size)
    have HB_6 := Lib.hid (below_more HB_3.out hbp)
    clear HB_3
    clear hop hbp HS
    go_wp2_with fail
    refine (toInts_any A zs ca _ (HA.out.below HB_6.out) (by omega)).mono ?_
    rintro e w3 ⟨vx, rfl, hox, hbx⟩
    obtain ⟨Ax, cx, rfl, hcapx, _⟩ := gFormC hox
    have HAp_p_x := Lib.hid (apart5 (fun k hk => (Hp_4.out.lt k hk).2) (fun k hk => (hox.lt k hk).1))
    have Hx_7 := Lib.hid (hox.lower HB_6.out.size)
    have Hp_8 := Lib.hid (Hp_4.out.below hbx)
    have HB_9 := Lib.hid (below_more HB_6.out hbx)
    clear Hp_4 HB_6
    clear hox hbx
    go_wp2_with fail
    refine (HI.out Ax cx _ (hK _ _ HW.out HB_9.out) (own_ints5 Hx_7.out) hcapx).mono ?_
    rintro e w4 ⟨vg, rfl, hog, hbg⟩
    obtain ⟨Ag, cg, rfl, _⟩ := hog.form
    have HAp_p_g := Lib.hid (apart5 (fun k hk => (Hp_8.out.lt k hk).2) (fun k hk => (hog.lt k hk).1))
    have HAp_x_g := Lib.hid (apart5 (fun k hk => (Hx_7.out.lt k hk).2) (fun k hk => (hog.lt k hk).1))
    have Hg_10 := Lib.hid (hog.lower HB_9.out.size)
    have Hp_11 := Lib.hid (Hp_8.out.below hbg)
    have Hx_11 := Lib.hid (Hx_7.out.below hbg)
    have HB_12 := Lib.hid (below_more HB_9.out hbg)
    clear Hp_8 Hx_7 HB_9
    clear hog hbg
    go_wp2_with fail
    refine (eqInts_any Ag Ap V V cg cp _ (own_ints5 Hg_10.out) (own_ints5 Hp_11.out) (by omega)).mono ?_
    rintro e w5 ⟨rfl, n13, rfl⟩
    have hdr : Below w4.heap.size w4 (w4.drewN n13) := gDrewN n13
    have Hp_14 := Lib.hid (Hp_11.out.below hdr)
    have Hx_14 := Lib.hid (Hx_11.out.below hdr)
    have Hg_14 := Lib.hid (Hg_10.out.below hdr)
    have HB_15 := Lib.hid (below_more HB_12.out hdr)
    clear Hp_11 Hx_11 Hg_10 HB_12
    clear hdr
    generalize w4.drewN n13 = w5 at *
    go_wp2_with fail
    refine (toInts_any A zs ca _ (HA.out.below HB_15.out) (by omega)).mono ?_
    rintro e w6 ⟨vb, rfl, hob, hbb⟩
    obtain ⟨Ab, cb, rfl, hcapb, _⟩ := gFormC hob
    have HAp_p_b := Lib.hid (apart5 (fun k hk => (Hp_14.out.lt k hk).2) (fun k hk => (hob.lt k hk).1))
    have HAp_x_b := Lib.hid (apart5 (fun k hk => (Hx_14.out.lt k hk).2) (fun k hk => (hob.lt k hk).1))
    have HAp_g_b := Lib.hid (apart5 (fun k hk => (Hg_14.out.lt k hk).2) (fun k hk => (hob.lt k hk).1))
    have Hb_16 := Lib.hid (hob.lower HB_15.out.size)
    have Hp_17 := Lib.hid (Hp_14.out.below hbb)
    have Hx_17 := Lib.hid (Hx_14.out.below hbb)
    have Hg_17 := Lib.hid (Hg_14.out.below hbb)
    have HB_18 := Lib.hid (below_more HB_15.out hbb)
    clear Hp_14 Hx_14 Hg_14 HB_15
    clear hob hbb
    go_wp2_with fail
    refine (eqInts_any Ax Ab zs zs cx cb _ (own_ints5 Hx_17.out) (own_ints5 Hb_16.out) (by omega)).mono ?_
    rintro e w7 ⟨rfl, n19, rfl⟩
    have hdr : Below w6.heap.size w6 (w6.drewN n19) := gDrewN n19
    have Hp_20 := Lib.hid (Hp_17.out.below hdr)
    have Hx_20 := Lib.hid (Hx_17.out.below hdr)
    have Hg_20 := Lib.hid (Hg_17.out.below hdr)
    have Hb_20 := Lib.hid (Hb_16.out.below hdr)
    have HB_21 := Lib.hid (below_more HB_18.out hdr)
    clear Hp_17 Hx_17 Hg_17 Hb_16 HB_18
    clear hdr
    generalize w6.drewN n19 = w7 at *
    clear Hb_20
    go_wp2_with fail
    refine (markInts_any _ zs _ 1 _ Hx_20.out (by omega) (by omega) (by omega)).mono ?_
    rintro e w8 ⟨rfl, hom, hgm⟩
    have HMb := Lib.hid (fun k hk => (Hx_20.out.lt k hk).1)
    have Hp_22 := Lib.hid (Hp_20.out.kept hgm HAp_p_x.out)
    have Hg_22 := Lib.hid (Hg_20.out.kept hgm (gApart HAp_x_g.out))
    have Hx_22 := Lib.hid hom
    have HB_22 : Hid (Below w.heap.size w w8) := HB_21.out.grown hgm HB_21.out.size HMb.out
    clear HMb hgm hom Hx_20 Hp_20 Hg_20 HB_21
    clear Hx_22
    go_wp2_with fail
    refine (eqInts_any Ag Ap V V cg cp _ (own_ints5 Hg_22.out) (own_ints5 Hp_22.out) (by omega)).mono ?_
    rintro e w9 ⟨rfl, n23, rfl⟩
    have hdr : Below w8.heap.size w8 (w8.drewN n23) := gDrewN n23
    have Hp_24 := Lib.hid (Hp_22.out.below hdr)
    have Hg_24 := Lib.hid (Hg_22.out.below hdr)
    have HB_25 := Lib.hid (below_more HB_22.out hdr)
    clear Hp_22 Hg_22 HB_22
    clear hdr
    generalize w8.drewN n23 = w9 at *
    go_wp2_with fail
    refine (markInts_any _ V _ 1 _ Hg_24.out (by omega) (by omega) (by omega)).mono ?_
    rintro e w10 ⟨rfl, hom, hgm⟩
    have HMb := Lib.hid (fun k hk => (Hg_24.out.lt k hk).1)
    have Hp_26 := Lib.hid (Hp_24.out.kept hgm HAp_p_g.out)
    have Hg_26 := Lib.hid hom
    have HB_26 : Hid (Below w.heap.size w w10) := HB_25.out.grown hgm HB_25.out.size HMb.out
    clear HMb hgm hom Hg_24 Hp_24 HB_25
    go_wp2_with fail
    refine (heldInts_any Ag 1 V.length cg _ (own_ints5 Hg_26.out) (by omega) (by omega) (by omega)).mono ?_
    rintro e wh ⟨rfl, rfl⟩
    go_wp2_with fail
    refine (toInts_any A zs ca _ (HA.out.below HB_26.out) (by omega)).mono ?_
    rintro e w11 ⟨vd, rfl, hod, hbd⟩
    obtain ⟨Ad, cd, rfl, hcapd, _⟩ := gFormC hod
    have HAp_p_d := Lib.hid (apart5 (fun k hk => (Hp_26.out.lt k hk).2) (fun k hk => (hod.lt k hk).1))
    have HAp_g_d := Lib.hid (apart5 (fun k hk => (Hg_26.out.lt k hk).2) (fun k hk => (hod.lt k hk).1))
    have Hd_27 := Lib.hid (hod.lower HB_26.out.size)
    have Hp_28 := Lib.hid (Hp_26.out.below hbd)
    have Hg_28 := Lib.hid (Hg_26.out.below hbd)
    have HB_29 := Lib.hid (below_more HB_26.out hbd)
    clear Hp_26 Hg_26 HB_26
    clear hod hbd
    go_wp2_with fail
    refine (HI.out Ad cd _ (hK _ _ HW.out HB_29.out) (own_ints5 Hd_27.out) hcapd).mono ?_
    rintro e w12 ⟨vh, rfl, hoh, hbh⟩
    obtain ⟨Ah, ch, rfl, _⟩ := hoh.form
    have HAp_p_h := Lib.hid (apart5 (fun k hk => (Hp_28.out.lt k hk).2) (fun k hk => (hoh.lt k hk).1))
    have HAp_g_h := Lib.hid (apart5 (fun k hk => (Hg_28.out.lt k hk).2) (fun k hk => (hoh.lt k hk).1))
    have HAp_d_h := Lib.hid (apart5 (fun k hk => (Hd_27.out.lt k hk).2) (fun k hk => (hoh.lt k hk).1))
    have Hh_30 := Lib.hid (hoh.lower HB_29.out.size)
    have Hp_31 := Lib.hid (Hp_28.out.below hbh)
    have Hg_31 := Lib.hid (Hg_28.out.below hbh)
    have Hd_31 := Lib.hid (Hd_27.out.below hbh)
    have HB_32 := Lib.hid (below_more HB_29.out hbh)
    clear Hp_28 Hg_28 Hd_27 HB_29
    clear hoh hbh
    clear Hd_31
    go_wp2_with fail
    refine (eqInts_any Ah Ap V V ch cp _ (own_ints5 Hh_30.out) (own_ints5 Hp_31.out) (by omega)).mono ?_
    rintro e w13 ⟨rfl, n33, rfl⟩
    have hdr : Below w12.heap.size w12 (w12.drewN n33) := gDrewN n33
    have Hp_34 := Lib.hid (Hp_31.out.below hdr)
    have Hg_34 := Lib.hid (Hg_31.out.below hdr)
    have Hh_34 := Lib.hid (Hh_30.out.below hdr)
    have HB_35 := Lib.hid (below_more HB_32.out hdr)
    clear Hp_31 Hg_31 Hh_30 HB_32
    clear hdr
    generalize w12.drewN n33 = w13 at *
    go_wp2_with fail
    refine (heldInts_any Ag 1 V.length cg _ (own_ints5 Hg_34.out) (by omega) (by omega) (by omega)).mono ?_
    rintro e wh ⟨rfl, rfl⟩
    go_wp2_with fail
    go_ret
    exact ⟨rfl, HB_35.out⟩
  · have hli : (1048576 : Int) < (zs.length : Int) := by omega
    clear hI
    go_enter Try.func5, Try.ntmps5
    go_wp2_with fail
    go_ret
    exact ⟨rfl, Below.refl _ _⟩

set_option maxRecDepth 100000 in
set_option maxHeartbeats 8000000 in
theorem unmixBy_law {K : World → Prop} (hK : Stays5 K) (hI : ∀ (A : Option Addr) (zs : List Int) (ca : Nat) (n : Int) (w : World), K w → Ints w A zs → zs.length ≤ 1048576 → zs.length ≤ ca → Calls Try.prog 15 #[.slice A zs.length ca, .int .i64 n] w fun e w' => ∃ v, e = .returned (.tuple #[v, .bool (list8 zs n)]) ∧ Own w' w.heap.size v (unmixI zs n) ∧ Below w.heap.size w w')
    (A : Option Addr) (zs : List Int) (ca : Nat) (n : Int) (w : World) (hw : K w) (ha : Ints w A zs) : Calls Try.prog 6 #[.slice A zs.length ca, .int .i64 n] w fun e w' => e = .returned (.bool true) ∧ Below w.heap.size w w' := by
  by_cases hl : zs.length ≤ 1048576
  · have hli : ¬ (1048576 : Int) < (zs.length : Int) := by omega
    have hVl := (mixI_len zs n).2
    have HI := Lib.hid (fun A ca w hk ha hc => hI A zs ca n w hk ha hl hc)
    have HS := Lib.hid (fun A ca w ha => sUnmix_any A zs ca n w ha hl)
    have HW := Lib.hid hw
    have HA := Lib.hid ha
    have hqz : eqL zs zs = true := by simp [eqL]
    clear hI hw ha
    generalize unmixI zs n = V at *
    generalize list8 zs n = a5 at *
    have hq : eqL V V = true := by simp [eqL]
    have hml := marks_length 1 V.length
    go_enter Try.func6, Try.ntmps6
    go_wp2_with fail
    refine (toInts_any A zs ca _ HA.out (by omega)).mono ?_
    rintro e w1 ⟨vt, rfl, hot, hbt⟩
    obtain ⟨At, ct, rfl, hcapt, _⟩ := gFormC hot
    have Ht_1 := Lib.hid (hot)
    have HB_3 := Lib.hid (hbt)
    clear hot hbt
    go_wp2_with fail
    refine (HS.out At ct _ (own_ints5 Ht_1.out)).mono ?_
    rintro e w2 ⟨vp, rfl, hop, hbp⟩
    obtain ⟨Ap, cp, rfl, _⟩ := hop.form
    clear Ht_1
    have Hp_4 := Lib.hid (hop.lower HB_3.out.size)
    have HB_6 := Lib.hid (below_more HB_3.out hbp)
    clear HB_3
    clear hop hbp HS
    go_wp2_with fail
    refine (toInts_any A zs ca _ (HA.out.below HB_6.out) (by omega)).mono ?_
    rintro e w3 ⟨vx, rfl, hox, hbx⟩
    obtain ⟨Ax, cx, rfl, hcapx, _⟩ := gFormC hox
    have HAp_p_x := Lib.hid (apart5 (fun k hk => (Hp_4.out.lt k hk).2) (fun k hk => (hox.lt k hk).1))
    have Hx_7 := Lib.hid (hox.lower HB_6.out.size)
    have Hp_8 := Lib.hid (Hp_4.out.below hbx)
    have HB_9 := Lib.hid (below_more HB_6.out hbx)
    clear Hp_4 HB_6
    clear hox hbx
    go_wp2_with fail
    refine (HI.out Ax cx _ (hK _ _ HW.out HB_9.out) (own_ints5 Hx_7.out) hcapx).mono ?_
    rintro e w4 ⟨vg, rfl, hog, hbg⟩
    obtain ⟨Ag, cg, rfl, _⟩ := hog.form
    have HAp_p_g := Lib.hid (apart5 (fun k hk => (Hp_8.out.lt k hk).2) (fun k hk => (hog.lt k hk).1))
    have HAp_x_g := Lib.hid (apart5 (fun k hk => (Hx_7.out.lt k hk).2) (fun k hk => (hog.lt k hk).1))
    have Hg_10 := Lib.hid (hog.lower HB_9.out.size)
    have Hp_11 := Lib.hid (Hp_8.out.below hbg)
    have Hx_11 := Lib.hid (Hx_7.out.below hbg)
    have HB_12 := Lib.hid (below_more HB_9.out hbg)
    clear Hp_8 Hx_7 HB_9
    clear hog hbg
    go_wp2_with fail
    refine (eqInts_any Ag Ap V V cg cp _ (own_ints5 Hg_10.out) (own_ints5 Hp_11.out) (by omega)).mono ?_
    rintro e w5 ⟨rfl, n13, rfl⟩
    have hdr : Below w4.heap.size w4 (w4.drewN n13) := gDrewN n13
    have Hp_14 := Lib.hid (Hp_11.out.below hdr)
    have Hx_14 := Lib.hid (Hx_11.out.below hdr)
    have Hg_14 := Lib.hid (Hg_10.out.below hdr)
    have HB_15 := Lib.hid (below_more HB_12.out hdr)
    clear Hp_11 Hx_11 Hg_10 HB_12
    clear hdr
    generalize w4.drewN n13 = w5 at *
    go_wp2_with fail
    refine (toInts_any A zs ca _ (HA.out.below HB_15.out) (by omega)).mono ?_
    rintro e w6 ⟨vb, rfl, hob, hbb⟩
    obtain ⟨Ab, cb, rfl, hcapb, _⟩ := gFormC hob
    have HAp_p_b := Lib.hid (apart5 (fun k hk => (Hp_14.out.lt k hk).2) (fun k hk => (hob.lt k hk).1))
    have HAp_x_b := Lib.hid (apart5 (fun k hk => (Hx_14.out.lt k hk).2) (fun k hk => (hob.lt k hk).1))
    have HAp_g_b := Lib.hid (apart5 (fun k hk => (Hg_14.out.lt k hk).2) (fun k hk => (hob.lt k hk).1))
    have Hb_16 := Lib.hid (hob.lower HB_15.out.size)
    have Hp_17 := Lib.hid (Hp_14.out.below hbb)
    have Hx_17 := Lib.hid (Hx_14.out.below hbb)
    have Hg_17 := Lib.hid (Hg_14.out.below hbb)
    have HB_18 := Lib.hid (below_more HB_15.out hbb)
    clear Hp_14 Hx_14 Hg_14 HB_15
    clear hob hbb
    go_wp2_with fail
    refine (eqInts_any Ax Ab zs zs cx cb _ (own_ints5 Hx_17.out) (own_ints5 Hb_16.out) (by omega)).mono ?_
    rintro e w7 ⟨rfl, n19, rfl⟩
    have hdr : Below w6.heap.size w6 (w6.drewN n19) := gDrewN n19
    have Hp_20 := Lib.hid (Hp_17.out.below hdr)
    have Hx_20 := Lib.hid (Hx_17.out.below hdr)
    have Hg_20 := Lib.hid (Hg_17.out.below hdr)
    have Hb_20 := Lib.hid (Hb_16.out.below hdr)
    have HB_21 := Lib.hid (below_more HB_18.out hdr)
    clear Hp_17 Hx_17 Hg_17 Hb_16 HB_18
    clear hdr
    generalize w6.drewN n19 = w7 at *
    clear Hb_20
    go_wp2_with fail
    refine (markInts_any _ zs _ 1 _ Hx_20.out (by omega) (by omega) (by omega)).mono ?_
    rintro e w8 ⟨rfl, hom, hgm⟩
    have HMb := Lib.hid (fun k hk => (Hx_20.out.lt k hk).1)
    have Hp_22 := Lib.hid (Hp_20.out.kept hgm HAp_p_x.out)
    have Hg_22 := Lib.hid (Hg_20.out.kept hgm (gApart HAp_x_g.out))
    have Hx_22 := Lib.hid hom
    have HB_22 : Hid (Below w.heap.size w w8) := HB_21.out.grown hgm HB_21.out.size HMb.out
    clear HMb hgm hom Hx_20 Hp_20 Hg_20 HB_21
    clear Hx_22
    go_wp2_with fail
    refine (eqInts_any Ag Ap V V cg cp _ (own_ints5 Hg_22.out) (own_ints5 Hp_22.out) (by omega)).mono ?_
    rintro e w9 ⟨rfl, n23, rfl⟩
    have hdr : Below w8.heap.size w8 (w8.drewN n23) := gDrewN n23
    have Hp_24 := Lib.hid (Hp_22.out.below hdr)
    have Hg_24 := Lib.hid (Hg_22.out.below hdr)
    have HB_25 := Lib.hid (below_more HB_22.out hdr)
    clear Hp_22 Hg_22 HB_22
    clear hdr
    generalize w8.drewN n23 = w9 at *
    go_wp2_with fail
    refine (markInts_any _ V _ 1 _ Hg_24.out (by omega) (by omega) (by omega)).mono ?_
    rintro e w10 ⟨rfl, hom, hgm⟩
    have HMb := Lib.hid (fun k hk => (Hg_24.out.lt k hk).1)
    have Hp_26 := Lib.hid (Hp_24.out.kept hgm HAp_p_g.out)
    have Hg_26 := Lib.hid hom
    have HB_26 : Hid (Below w.heap.size w w10) := HB_25.out.grown hgm HB_25.out.size HMb.out
    clear HMb hgm hom Hg_24 Hp_24 HB_25
    go_wp2_with fail
    refine (heldInts_any Ag 1 V.length cg _ (own_ints5 Hg_26.out) (by omega) (by omega) (by omega)).mono ?_
    rintro e wh ⟨rfl, rfl⟩
    go_wp2_with fail
    refine (toInts_any A zs ca _ (HA.out.below HB_26.out) (by omega)).mono ?_
    rintro e w11 ⟨vd, rfl, hod, hbd⟩
    obtain ⟨Ad, cd, rfl, hcapd, _⟩ := gFormC hod
    have HAp_p_d := Lib.hid (apart5 (fun k hk => (Hp_26.out.lt k hk).2) (fun k hk => (hod.lt k hk).1))
    have HAp_g_d := Lib.hid (apart5 (fun k hk => (Hg_26.out.lt k hk).2) (fun k hk => (hod.lt k hk).1))
    have Hd_27 := Lib.hid (hod.lower HB_26.out.size)
    have Hp_28 := Lib.hid (Hp_26.out.below hbd)
    have Hg_28 := Lib.hid (Hg_26.out.below hbd)
    have HB_29 := Lib.hid (below_more HB_26.out hbd)
    clear Hp_26 Hg_26 HB_26
    clear hod hbd
    go_wp2_with fail
    refine (HI.out Ad cd _ (hK _ _ HW.out HB_29.out) (own_ints5 Hd_27.out) hcapd).mono ?_
    rintro e w12 ⟨vh, rfl, hoh, hbh⟩
    obtain ⟨Ah, ch, rfl, _⟩ := hoh.form
    have HAp_p_h := Lib.hid (apart5 (fun k hk => (Hp_28.out.lt k hk).2) (fun k hk => (hoh.lt k hk).1))
    have HAp_g_h := Lib.hid (apart5 (fun k hk => (Hg_28.out.lt k hk).2) (fun k hk => (hoh.lt k hk).1))
    have HAp_d_h := Lib.hid (apart5 (fun k hk => (Hd_27.out.lt k hk).2) (fun k hk => (hoh.lt k hk).1))
    have Hh_30 := Lib.hid (hoh.lower HB_29.out.size)
    have Hp_31 := Lib.hid (Hp_28.out.below hbh)
    have Hg_31 := Lib.hid (Hg_28.out.below hbh)
    have Hd_31 := Lib.hid (Hd_27.out.below hbh)
    have HB_32 := Lib.hid (below_more HB_29.out hbh)
    clear Hp_28 Hg_28 Hd_27 HB_29
    clear hoh hbh
    clear Hd_31
    go_wp2_with fail
    refine (eqInts_any Ah Ap V V ch cp _ (own_ints5 Hh_30.out) (own_ints5 Hp_31.out) (by omega)).mono ?_
    rintro e w13 ⟨rfl, n33, rfl⟩
    have hdr : Below w12.heap.size w12 (w12.drewN n33) := gDrewN n33
    have Hp_34 := Lib.hid (Hp_31.out.below hdr)
    have Hg_34 := Lib.hid (Hg_31.out.below hdr)
    have Hh_34 := Lib.hid (Hh_30.out.below hdr)
    have HB_35 := Lib.hid (below_more HB_32.out hdr)
    clear Hp_31 Hg_31 Hh_30 HB_32
    clear hdr
    generalize w12.drewN n33 = w13 at *
    go_wp2_with fail
    refine (heldInts_any Ag 1 V.length cg _ (own_ints5 Hg_34.out) (by omega) (by omega) (by omega)).mono ?_
    rintro e wh ⟨rfl, rfl⟩
    go_wp2_with fail
    go_ret
    exact ⟨rfl, HB_35.out⟩
  · have hli : (1048576 : Int) < (zs.length : Int) := by omega
    clear hI
    go_enter Try.func6, Try.ntmps6
    go_wp2_with fail
    go_ret
    exact ⟨rfl, Below.refl _ _⟩

set_option maxRecDepth 100000 in
set_option maxHeartbeats 8000000 in
theorem parityFor_law {K : World → Prop} (hK : Stays5 K) (hI : ∀ (A : Option Addr) (zs : List Int) (ca : Nat) (n : Int) (w : World), K w → Ints w A zs → zs.length ≤ 1048576 → zs.length ≤ ca → Calls Try.prog 29 #[.slice A zs.length ca, .int .i64 n] w fun e w' => ∃ v, e = .returned (.tuple #[v, .bool (list8 zs n)]) ∧ Own w' w.heap.size v (paI zs n) ∧ Below w.heap.size w w')
    (A : Option Addr) (zs : List Int) (ca : Nat) (n : Int) (w : World) (hw : K w) (ha : Ints w A zs) : Calls Try.prog 10 #[.slice A zs.length ca, .int .i64 n] w fun e w' => e = .returned (.bool true) ∧ Below w.heap.size w w' := by
  by_cases hl : zs.length ≤ 1048576
  · have hli : ¬ (1048576 : Int) < (zs.length : Int) := by omega
    have hVl := paI_len zs n
    have HI := Lib.hid (fun A ca w hk ha hc => hI A zs ca n w hk ha hl hc)
    have HS := Lib.hid (fun A ca w ha => sParityFor_any A zs ca n w ha hl)
    have HW := Lib.hid hw
    have HA := Lib.hid ha
    have hqz : eqL zs zs = true := by simp [eqL]
    clear hI hw ha
    generalize paI zs n = V at *
    generalize list8 zs n = a5 at *
    have hq : eqL V V = true := by simp [eqL]
    have hml := marks_length 1 V.length
    go_enter Try.func10, Try.ntmps10
    go_wp2_with fail
    refine (toInts_any A zs ca _ HA.out (by omega)).mono ?_
    rintro e w1 ⟨vt, rfl, hot, hbt⟩
    obtain ⟨At, ct, rfl, hcapt, _⟩ := gFormC hot
    have Ht_1 := Lib.hid (hot)
    have HB_3 := Lib.hid (hbt)
    clear hot hbt
    go_wp2_with fail
    refine (HS.out At ct _ (own_ints5 Ht_1.out)).mono ?_
    rintro e w2 ⟨vp, rfl, hop, hbp⟩
    obtain ⟨Ap, cp, rfl, _⟩ := hop.form
    clear Ht_1
    have Hp_4 := Lib.hid (hop.lower HB_3.out.size)
    have HB_6 := Lib.hid (below_more HB_3.out hbp)
    clear HB_3
    clear hop hbp HS
    go_wp2_with fail
    refine (toInts_any A zs ca _ (HA.out.below HB_6.out) (by omega)).mono ?_
    rintro e w3 ⟨vx, rfl, hox, hbx⟩
    obtain ⟨Ax, cx, rfl, hcapx, _⟩ := gFormC hox
    have HAp_p_x := Lib.hid (apart5 (fun k hk => (Hp_4.out.lt k hk).2) (fun k hk => (hox.lt k hk).1))
    have Hx_7 := Lib.hid (hox.lower HB_6.out.size)
    have Hp_8 := Lib.hid (Hp_4.out.below hbx)
    have HB_9 := Lib.hid (below_more HB_6.out hbx)
    clear Hp_4 HB_6
    clear hox hbx
    go_wp2_with fail
    refine (HI.out Ax cx _ (hK _ _ HW.out HB_9.out) (own_ints5 Hx_7.out) hcapx).mono ?_
    rintro e w4 ⟨vg, rfl, hog, hbg⟩
    obtain ⟨Ag, cg, rfl, _⟩ := hog.form
    have HAp_p_g := Lib.hid (apart5 (fun k hk => (Hp_8.out.lt k hk).2) (fun k hk => (hog.lt k hk).1))
    have HAp_x_g := Lib.hid (apart5 (fun k hk => (Hx_7.out.lt k hk).2) (fun k hk => (hog.lt k hk).1))
    have Hg_10 := Lib.hid (hog.lower HB_9.out.size)
    have Hp_11 := Lib.hid (Hp_8.out.below hbg)
    have Hx_11 := Lib.hid (Hx_7.out.below hbg)
    have HB_12 := Lib.hid (below_more HB_9.out hbg)
    clear Hp_8 Hx_7 HB_9
    clear hog hbg
    go_wp2_with fail
    refine (eqInts_any Ag Ap V V cg cp _ (own_ints5 Hg_10.out) (own_ints5 Hp_11.out) (by omega)).mono ?_
    rintro e w5 ⟨rfl, n13, rfl⟩
    have hdr : Below w4.heap.size w4 (w4.drewN n13) := gDrewN n13
    have Hp_14 := Lib.hid (Hp_11.out.below hdr)
    have Hx_14 := Lib.hid (Hx_11.out.below hdr)
    have Hg_14 := Lib.hid (Hg_10.out.below hdr)
    have HB_15 := Lib.hid (below_more HB_12.out hdr)
    clear Hp_11 Hx_11 Hg_10 HB_12
    clear hdr
    generalize w4.drewN n13 = w5 at *
    go_wp2_with fail
    refine (toInts_any A zs ca _ (HA.out.below HB_15.out) (by omega)).mono ?_
    rintro e w6 ⟨vb, rfl, hob, hbb⟩
    obtain ⟨Ab, cb, rfl, hcapb, _⟩ := gFormC hob
    have HAp_p_b := Lib.hid (apart5 (fun k hk => (Hp_14.out.lt k hk).2) (fun k hk => (hob.lt k hk).1))
    have HAp_x_b := Lib.hid (apart5 (fun k hk => (Hx_14.out.lt k hk).2) (fun k hk => (hob.lt k hk).1))
    have HAp_g_b := Lib.hid (apart5 (fun k hk => (Hg_14.out.lt k hk).2) (fun k hk => (hob.lt k hk).1))
    have Hb_16 := Lib.hid (hob.lower HB_15.out.size)
    have Hp_17 := Lib.hid (Hp_14.out.below hbb)
    have Hx_17 := Lib.hid (Hx_14.out.below hbb)
    have Hg_17 := Lib.hid (Hg_14.out.below hbb)
    have HB_18 := Lib.hid (below_more HB_15.out hbb)
    clear Hp_14 Hx_14 Hg_14 HB_15
    clear hob hbb
    go_wp2_with fail
    refine (eqInts_any Ax Ab zs zs cx cb _ (own_ints5 Hx_17.out) (own_ints5 Hb_16.out) (by omega)).mono ?_
    rintro e w7 ⟨rfl, n19, rfl⟩
    have hdr : Below w6.heap.size w6 (w6.drewN n19) := gDrewN n19
    have Hp_20 := Lib.hid (Hp_17.out.below hdr)
    have Hx_20 := Lib.hid (Hx_17.out.below hdr)
    have Hg_20 := Lib.hid (Hg_17.out.below hdr)
    have Hb_20 := Lib.hid (Hb_16.out.below hdr)
    have HB_21 := Lib.hid (below_more HB_18.out hdr)
    clear Hp_17 Hx_17 Hg_17 Hb_16 HB_18
    clear hdr
    generalize w6.drewN n19 = w7 at *
    clear Hb_20
    go_wp2_with fail
    refine (markInts_any _ zs _ 1 _ Hx_20.out (by omega) (by omega) (by omega)).mono ?_
    rintro e w8 ⟨rfl, hom, hgm⟩
    have HMb := Lib.hid (fun k hk => (Hx_20.out.lt k hk).1)
    have Hp_22 := Lib.hid (Hp_20.out.kept hgm HAp_p_x.out)
    have Hg_22 := Lib.hid (Hg_20.out.kept hgm (gApart HAp_x_g.out))
    have Hx_22 := Lib.hid hom
    have HB_22 : Hid (Below w.heap.size w w8) := HB_21.out.grown hgm HB_21.out.size HMb.out
    clear HMb hgm hom Hx_20 Hp_20 Hg_20 HB_21
    clear Hx_22
    go_wp2_with fail
    refine (eqInts_any Ag Ap V V cg cp _ (own_ints5 Hg_22.out) (own_ints5 Hp_22.out) (by omega)).mono ?_
    rintro e w9 ⟨rfl, n23, rfl⟩
    have hdr : Below w8.heap.size w8 (w8.drewN n23) := gDrewN n23
    have Hp_24 := Lib.hid (Hp_22.out.below hdr)
    have Hg_24 := Lib.hid (Hg_22.out.below hdr)
    have HB_25 := Lib.hid (below_more HB_22.out hdr)
    clear Hp_22 Hg_22 HB_22
    clear hdr
    generalize w8.drewN n23 = w9 at *
    go_wp2_with fail
    refine (markInts_any _ V _ 1 _ Hg_24.out (by omega) (by omega) (by omega)).mono ?_
    rintro e w10 ⟨rfl, hom, hgm⟩
    have HMb := Lib.hid (fun k hk => (Hg_24.out.lt k hk).1)
    have Hp_26 := Lib.hid (Hp_24.out.kept hgm HAp_p_g.out)
    have Hg_26 := Lib.hid hom
    have HB_26 : Hid (Below w.heap.size w w10) := HB_25.out.grown hgm HB_25.out.size HMb.out
    clear HMb hgm hom Hg_24 Hp_24 HB_25
    go_wp2_with fail
    refine (heldInts_any Ag 1 V.length cg _ (own_ints5 Hg_26.out) (by omega) (by omega) (by omega)).mono ?_
    rintro e wh ⟨rfl, rfl⟩
    go_wp2_with fail
    refine (toInts_any A zs ca _ (HA.out.below HB_26.out) (by omega)).mono ?_
    rintro e w11 ⟨vd, rfl, hod, hbd⟩
    obtain ⟨Ad, cd, rfl, hcapd, _⟩ := gFormC hod
    have HAp_p_d := Lib.hid (apart5 (fun k hk => (Hp_26.out.lt k hk).2) (fun k hk => (hod.lt k hk).1))
    have HAp_g_d := Lib.hid (apart5 (fun k hk => (Hg_26.out.lt k hk).2) (fun k hk => (hod.lt k hk).1))
    have Hd_27 := Lib.hid (hod.lower HB_26.out.size)
    have Hp_28 := Lib.hid (Hp_26.out.below hbd)
    have Hg_28 := Lib.hid (Hg_26.out.below hbd)
    have HB_29 := Lib.hid (below_more HB_26.out hbd)
    clear Hp_26 Hg_26 HB_26
    clear hod hbd
    go_wp2_with fail
    refine (HI.out Ad cd _ (hK _ _ HW.out HB_29.out) (own_ints5 Hd_27.out) hcapd).mono ?_
    rintro e w12 ⟨vh, rfl, hoh, hbh⟩
    obtain ⟨Ah, ch, rfl, _⟩ := hoh.form
    have HAp_p_h := Lib.hid (apart5 (fun k hk => (Hp_28.out.lt k hk).2) (fun k hk => (hoh.lt k hk).1))
    have HAp_g_h := Lib.hid (apart5 (fun k hk => (Hg_28.out.lt k hk).2) (fun k hk => (hoh.lt k hk).1))
    have HAp_d_h := Lib.hid (apart5 (fun k hk => (Hd_27.out.lt k hk).2) (fun k hk => (hoh.lt k hk).1))
    have Hh_30 := Lib.hid (hoh.lower HB_29.out.size)
    have Hp_31 := Lib.hid (Hp_28.out.below hbh)
    have Hg_31 := Lib.hid (Hg_28.out.below hbh)
    have Hd_31 := Lib.hid (Hd_27.out.below hbh)
    have HB_32 := Lib.hid (below_more HB_29.out hbh)
    clear Hp_28 Hg_28 Hd_27 HB_29
    clear hoh hbh
    clear Hd_31
    go_wp2_with fail
    refine (eqInts_any Ah Ap V V ch cp _ (own_ints5 Hh_30.out) (own_ints5 Hp_31.out) (by omega)).mono ?_
    rintro e w13 ⟨rfl, n33, rfl⟩
    have hdr : Below w12.heap.size w12 (w12.drewN n33) := gDrewN n33
    have Hp_34 := Lib.hid (Hp_31.out.below hdr)
    have Hg_34 := Lib.hid (Hg_31.out.below hdr)
    have Hh_34 := Lib.hid (Hh_30.out.below hdr)
    have HB_35 := Lib.hid (below_more HB_32.out hdr)
    clear Hp_31 Hg_31 Hh_30 HB_32
    clear hdr
    generalize w12.drewN n33 = w13 at *
    go_wp2_with fail
    refine (heldInts_any Ag 1 V.length cg _ (own_ints5 Hg_34.out) (by omega) (by omega) (by omega)).mono ?_
    rintro e wh ⟨rfl, rfl⟩
    go_wp2_with fail
    go_ret
    exact ⟨rfl, HB_35.out⟩
  · have hli : (1048576 : Int) < (zs.length : Int) := by omega
    clear hI
    go_enter Try.func10, Try.ntmps10
    go_wp2_with fail
    go_ret
    exact ⟨rfl, Below.refl _ _⟩

set_option maxRecDepth 100000 in
set_option maxHeartbeats 2000000 in
theorem lossesIn_law {K : World → Prop} (hK : Stays5 K) (hI : ∀ (a n f mn : Int) (w : World), f ≤ 9223372036854775807 → K w → Calls Try.prog 19 #[.int .i64 a, .int .i64 n, .int .i64 f, .int .i64 mn] w fun e w' => ∃ v, e = .returned (.tuple #[v, .bool (lsOkB a n f mn)]) ∧ Own w' w.heap.size v (lsI a n f mn) ∧ Below w.heap.size w w')
    (a n f mn : Int) (w : World) (hf : f ≤ 9223372036854775807) (hw : K w) : Calls Try.prog 8 #[.int .i64 a, .int .i64 n, .int .i64 f, .int .i64 mn] w fun e w' => e = .returned (.bool true) ∧ Below w.heap.size w w' := by
  have hlen := lsI_len a n f mn
  have HI := Lib.hid (fun w => hI a n f mn w hf)
  have HS := Lib.hid (sLosses_any a n f mn w)
  have HW := Lib.hid hw
  clear hI hw hf
  generalize lsI a n f mn = V at *
  generalize lsOkB a n f mn = bb at *
  have hq : eqL V V = true := by simp [eqL]
  go_enter Try.func8, Try.ntmps8
  go_wp2_with fail
  refine HS.out.mono ?_
  rintro e w1 ⟨v1, rfl, ho1, hb1⟩
  obtain ⟨A1, c1, rfl, _⟩ := ho1.form
  have HO1 := Lib.hid ho1
  have HB1 := Lib.hid hb1
  clear ho1 hb1 HS
  go_wp2_with fail
  refine (HI.out w1 (hK _ _ HW.out HB1.out)).mono ?_
  rintro e w2 ⟨v2, rfl, ho2, hb2⟩
  obtain ⟨A2, c2, rfl, _⟩ := ho2.form
  have HO2 := Lib.hid ho2
  have HO1' := Lib.hid (HO1.out.below hb2)
  have HB2 := Lib.hid (below_more HB1.out hb2)
  have hs12 := HB1.out.size
  have HL1 := Lib.hid (fun k hk => (HO1.out.lt k hk).2)
  have HG2 := Lib.hid (fun k hk => (ho2.lt k hk).1)
  clear ho2 hb2 HO1 HB1
  go_wp2_with fail
  refine (eqInts_any A2 A1 V V c2 c1 _ (own_ints5 HO2.out) (own_ints5 HO1'.out) (by omega)).mono ?_
  rintro e w3 ⟨rfl, n3, rfl⟩
  have hb3 : Below w2.heap.size w2 (w2.drewN n3) := gDrewN n3
  have HO3 := Lib.hid (HO2.out.below hb3)
  have HO1 := Lib.hid (HO1'.out.below hb3)
  have HB3 := Lib.hid (below_more HB2.out hb3)
  clear hb3 HO2 HO1' HB2
  generalize w2.drewN n3 = w3 at *
  go_wp2_with fail
  refine (markInts_any _ V _ 1 _ HO3.out (by omega) (by omega) (by omega)).mono ?_
  rintro e w4 ⟨rfl, ho4, hg4⟩
  have hml := marks_length 1 V.length
  have HO4 := Lib.hid ho4
  have HO1' : Hid (Own w4 w.heap.size (.slice A1 V.length c1) V) := HO1.out.kept hg4 (apart5 HL1.out HG2.out)
  have HB4 : Hid (Below w.heap.size w w4) := HB3.out.grown hg4 HB3.out.size (fun k hk => Nat.le_trans hs12 (HG2.out k hk))
  clear ho4 hg4 HO3 HO1 HB3
  go_wp2_with fail
  refine (heldInts_any A2 1 V.length c2 _ (own_ints5 HO4.out) (by omega) (by omega) (by omega)).mono ?_
  rintro e w5 ⟨rfl, rfl⟩
  go_wp2_with fail
  refine (HI.out w4 (hK _ _ HW.out HB4.out)).mono ?_
  rintro e w6 ⟨v6, rfl, ho6, hb6⟩
  obtain ⟨A6, c6, rfl, _⟩ := ho6.form
  have HO6 := Lib.hid ho6
  have HO1 := Lib.hid (HO1'.out.below hb6)
  have HO4' := Lib.hid (HO4.out.below hb6)
  have HB6 := Lib.hid (below_more HB4.out hb6)
  clear ho6 hb6 HO1' HO4 HB4
  go_wp2_with fail
  refine (eqInts_any A6 A1 V V c6 c1 _ (own_ints5 HO6.out) (own_ints5 HO1.out) (by omega)).mono ?_
  rintro e w7 ⟨rfl, n7, rfl⟩
  have hb7 : Below w6.heap.size w6 (w6.drewN n7) := gDrewN n7
  have HO4 := Lib.hid (HO4'.out.below hb7)
  have HB7 := Lib.hid (below_more HB6.out hb7)
  clear hb7 HO4' HB6
  generalize w6.drewN n7 = w7 at *
  go_wp2_with fail
  refine (heldInts_any A2 1 V.length c2 _ (own_ints5 HO4.out) (by omega) (by omega) (by omega)).mono ?_
  rintro e w8 ⟨rfl, rfl⟩
  go_wp2_with fail
  go_ret
  exact ⟨rfl, HB7.out⟩

set_option maxRecDepth 100000 in
set_option maxHeartbeats 1000000 in
theorem placeOf_law {K : World → Prop} (hK : Stays5 K) (hI : ∀ (a n k : Int) (w : World), K w → Calls Try.prog 18 #[.int .i64 a, .int .i64 n, .int .i64 k] w fun e w' => e = .returned (.tuple #[.int .i64 (plI a n k), .bool (plOkB a n k)]) ∧ Below w.heap.size w w')
    (a n k : Int) (w : World) (hw : K w) : Calls Try.prog 7 #[.int .i64 a, .int .i64 n, .int .i64 k] w fun e w' => e = .returned (.bool true) ∧ Below w.heap.size w w' := by
  have HI := Lib.hid (fun w hk => hI a n k w hk)
  have HS := Lib.hid (sPlaceOf_any a n k w)
  have HW := Lib.hid hw
  clear hI hw
  generalize plI a n k = a1 at *
  generalize plOkB a n k = a5 at *
  go_enter Try.func7, Try.ntmps7
  go_wp2_with fail
  refine HS.out.mono ?_
  rintro e w1 ⟨rfl, hb1⟩
  have HB1 := Lib.hid hb1
  clear hb1
  go_wp2_with fail
  refine (HI.out w1 (hK _ _ HW.out HB1.out)).mono ?_
  rintro e w2 ⟨rfl, hb2⟩
  go_wp2_with fail
  go_ret
  exact ⟨rfl, below_more HB1.out hb2⟩

set_option maxRecDepth 100000 in
set_option maxHeartbeats 1000000 in
theorem spreadOf_law {K : World → Prop} (hK : Stays5 K) (hI : ∀ (a n : Int) (w : World), K w → Calls Try.prog 24 #[.int .i64 a, .int .i64 n] w fun e w' => e = .returned (.tuple #[.int .i64 (spI a n), .bool (shape8 a n)]) ∧ Below w.heap.size w w')
    (a n : Int) (w : World) (hw : K w) : Calls Try.prog 9 #[.int .i64 a, .int .i64 n] w fun e w' => e = .returned (.bool true) ∧ Below w.heap.size w w' := by
  have HI := Lib.hid (fun w hk => hI a n w hk)
  have HS := Lib.hid (sSpread_any a n w)
  have HW := Lib.hid hw
  clear hI hw
  generalize spI a n = a1 at *
  generalize shape8 a n = a5 at *
  go_enter Try.func9, Try.ntmps9
  go_wp2_with fail
  refine HS.out.mono ?_
  rintro e w1 ⟨rfl, rfl⟩
  have HB1 := Lib.hid (Below.refl w.heap.size w)
  go_wp2_with fail
  refine (HI.out w (hK _ _ HW.out HB1.out)).mono ?_
  rintro e w2 ⟨rfl, hb2⟩
  go_wp2_with fail
  go_ret
  exact ⟨rfl, below_more HB1.out hb2⟩
end Go.Proofs.Ytipcdaiobfgkeaa
