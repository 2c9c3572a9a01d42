/-
  Laws of chapter 6, walked, whatever the program's own texts are: WithExtra, SolveAll.
-/
import Derived.Test.YtddimdfkapbflaaVP
import Derived.Test.YtddimdfkapbflaaEX
namespace Go.Proofs.Ytddimdfkapbflaa
open Go.RowKit

set_option maxRecDepth 100000 in
set_option maxHeartbeats 8000000 in
theorem withExtra_law {K : World → Prop} (hK : Stays5 K) (hI : ∀ (A : Option Addr) (zs : List Int) (ca : Nat) (w : World), K w → Ints w A zs → zs.length ≤ 1048576 → zs.length ≤ ca → Calls Try.prog 13 #[.slice A zs.length ca] w fun e w' => ∃ v, e = .returned (.tuple #[v, .bool (wiOkB zs)]) ∧ Own w' w.heap.size v (wiI zs) ∧ Below w.heap.size w w')
    (A : Option Addr) (zs : List Int) (ca : Nat) (w : World) (hw : K w) (ha : Ints w A zs) : Calls Try.prog 4 #[.slice A zs.length ca] w fun e w' => e = .returned (.bool true) ∧ Below w.heap.size w w' := by
  by_cases hl : zs.length ≤ 1048576
  · have hli : ¬ (1048576 : Int) < (zs.length : Int) := by omega
    have hVl := wiI_len zs
    have HI := Lib.hid (fun A ca w hk ha hc => hI A zs ca w hk ha hl hc)
    have HS := Lib.hid (fun A ca w ha => sWith_any A zs ca w ha hl)
    have HW := Lib.hid hw
    have HA := Lib.hid ha
    have hqz : eqL zs zs = true := by simp [eqL]
    clear hI hw ha
    generalize wiI zs = V at *
    generalize wiOkB zs = a5 at *
    have hq : eqL V V = true := by simp [eqL]
    have hml := marks_length 1 V.length
    go_enter Try.func4, Try.ntmps4
    go_wp2_with fail
    refine (toInts_any A zs ca _ HA.out (by omega)).mono ?_
    rintro e w1 ⟨vt, rfl, hot, hbt⟩
    obtain ⟨At, ct, rfl, hcapt, _⟩ := gFormC hot
    have Ht_1 := Lib.hid (hot)
    have HB_3 := Lib.hid (hbt)
    clear hot hbt
    go_wp2_with fail
    refine (HS.out At ct _ (own_ints5 Ht_1.out)).mono ?_
    rintro e w2 ⟨vp, rfl, hop, hbp⟩
    obtain ⟨Ap, cp, rfl, _⟩ := hop.form
    clear Ht_1
    have Hp_4 := Lib.hid (hop.lower HB_3.out.size)
    have HB_6 := Lib.hid (below_more HB_3.out hbp)
    clear HB_3
    clear hop hbp HS
    go_wp2_with fail
    refine (toInts_any A zs ca _ (HA.out.below HB_6.out) (by omega)).mono ?_
    rintro e w3 ⟨vx, rfl, hox, hbx⟩
    obtain ⟨Ax, cx, rfl, hcapx, _⟩ := gFormC hox
    have HAp_p_x := Lib.hid (apart5 (fun k hk => (Hp_4.out.lt k hk).2) (fun k hk => (hox.lt k hk).1))
    have Hx_7 := Lib.hid (hox.lower HB_6.out.size)
    have Hp_8 := Lib.hid (Hp_4.out.below hbx)
    have HB_9 := Lib.hid (below_more HB_6.out hbx)
    clear Hp_4 HB_6
    clear hox hbx
    go_wp2_with fail
    refine (HI.out Ax cx _ (hK _ _ HW.out HB_9.out) (own_ints5 Hx_7.out) hcapx).mono ?_
    rintro e w4 ⟨vg, rfl, hog, hbg⟩
    obtain ⟨Ag, cg, rfl, _⟩ := hog.form
    have HAp_p_g := Lib.hid (apart5 (fun k hk => (Hp_8.out.lt k hk).2) (fun k hk => (hog.lt k hk).1))
    have HAp_x_g := Lib.hid (apart5 (fun k hk => (Hx_7.out.lt k hk).2) (fun k hk => (hog.lt k hk).1))
    have Hg_10 := Lib.hid (hog.lower HB_9.out.size)
    have Hp_11 := Lib.hid (Hp_8.out.below hbg)
    have Hx_11 := Lib.hid (Hx_7.out.below hbg)
    have HB_12 := Lib.hid (below_more HB_9.out hbg)
    clear Hp_8 Hx_7 HB_9
    clear hog hbg
    go_wp2_with fail
    refine (eqInts_any Ag Ap V V cg cp _ (own_ints5 Hg_10.out) (own_ints5 Hp_11.out) (by omega)).mono ?_
    rintro e w5 ⟨rfl, n13, rfl⟩
    have hdr : Below w4.heap.size w4 (w4.drewN n13) := gDrewN n13
    have Hp_14 := Lib.hid (Hp_11.out.below hdr)
    have Hx_14 := Lib.hid (Hx_11.out.below hdr)
    have Hg_14 := Lib.hid (Hg_10.out.below hdr)
    have HB_15 := Lib.hid (below_more HB_12.out hdr)
    clear Hp_11 Hx_11 Hg_10 HB_12
    clear hdr
    generalize w4.drewN n13 = w5 at *
    go_wp2_with fail
    refine (toInts_any A zs ca _ (HA.out.below HB_15.out) (by omega)).mono ?_
    rintro e w6 ⟨vb, rfl, hob, hbb⟩
    obtain ⟨Ab, cb, rfl, hcapb, _⟩ := gFormC hob
    have HAp_p_b := Lib.hid (apart5 (fun k hk => (Hp_14.out.lt k hk).2) (fun k hk => (hob.lt k hk).1))
    have HAp_x_b := Lib.hid (apart5 (fun k hk => (Hx_14.out.lt k hk).2) (fun k hk => (hob.lt k hk).1))
    have HAp_g_b := Lib.hid (apart5 (fun k hk => (Hg_14.out.lt k hk).2) (fun k hk => (hob.lt k hk).1))
    have Hb_16 := Lib.hid (hob.lower HB_15.out.size)
    have Hp_17 := Lib.hid (Hp_14.out.below hbb)
    have Hx_17 := Lib.hid (Hx_14.out.below hbb)
    have Hg_17 := Lib.hid (Hg_14.out.below hbb)
    have HB_18 := Lib.hid (below_more HB_15.out hbb)
    clear Hp_14 Hx_14 Hg_14 HB_15
    clear hob hbb
    go_wp2_with fail
    refine (eqInts_any Ax Ab zs zs cx cb _ (own_ints5 Hx_17.out) (own_ints5 Hb_16.out) (by omega)).mono ?_
    rintro e w7 ⟨rfl, n19, rfl⟩
    have hdr : Below w6.heap.size w6 (w6.drewN n19) := gDrewN n19
    have Hp_20 := Lib.hid (Hp_17.out.below hdr)
    have Hx_20 := Lib.hid (Hx_17.out.below hdr)
    have Hg_20 := Lib.hid (Hg_17.out.below hdr)
    have Hb_20 := Lib.hid (Hb_16.out.below hdr)
    have HB_21 := Lib.hid (below_more HB_18.out hdr)
    clear Hp_17 Hx_17 Hg_17 Hb_16 HB_18
    clear hdr
    generalize w6.drewN n19 = w7 at *
    clear Hb_20
    go_wp2_with fail
    refine (markInts_any _ zs _ 1 _ Hx_20.out (by omega) (by omega) (by omega)).mono ?_
    rintro e w8 ⟨rfl, hom, hgm⟩
    have HMb := Lib.hid (fun k hk => (Hx_20.out.lt k hk).1)
    have Hp_22 := Lib.hid (Hp_20.out.kept hgm HAp_p_x.out)
    have Hg_22 := Lib.hid (Hg_20.out.kept hgm (gApart HAp_x_g.out))
    have Hx_22 := Lib.hid hom
    have HB_22 : Hid (Below w.heap.size w w8) := HB_21.out.grown hgm HB_21.out.size HMb.out
    clear HMb hgm hom Hx_20 Hp_20 Hg_20 HB_21
    clear Hx_22
    go_wp2_with fail
    refine (eqInts_any Ag Ap V V cg cp _ (own_ints5 Hg_22.out) (own_ints5 Hp_22.out) (by omega)).mono ?_
    rintro e w9 ⟨rfl, n23, rfl⟩
    have hdr : Below w8.heap.size w8 (w8.drewN n23) := gDrewN n23
    have Hp_24 := Lib.hid (Hp_22.out.below hdr)
    have Hg_24 := Lib.hid (Hg_22.out.below hdr)
    have HB_25 := Lib.hid (below_more HB_22.out hdr)
    clear Hp_22 Hg_22 HB_22
    clear hdr
    generalize w8.drewN n23 = w9 at *
    go_wp2_with fail
    refine (markInts_any _ V _ 1 _ Hg_24.out (by omega) (by omega) (by omega)).mono ?_
    rintro e w10 ⟨rfl, hom, hgm⟩
    have HMb := Lib.hid (fun k hk => (Hg_24.out.lt k hk).1)
    have Hp_26 := Lib.hid (Hp_24.out.kept hgm HAp_p_g.out)
    have Hg_26 := Lib.hid hom
    have HB_26 : Hid (Below w.heap.size w w10) := HB_25.out.grown hgm HB_25.out.size HMb.out
    clear HMb hgm hom Hg_24 Hp_24 HB_25
    go_wp2_with fail
    refine (heldInts_any Ag 1 V.length cg _ (own_ints5 Hg_26.out) (by omega) (by omega) (by omega)).mono ?_
    rintro e wh ⟨rfl, rfl⟩
    go_wp2_with fail
    refine (toInts_any A zs ca _ (HA.out.below HB_26.out) (by omega)).mono ?_
    rintro e w11 ⟨vd, rfl, hod, hbd⟩
    obtain ⟨Ad, cd, rfl, hcapd, _⟩ := gFormC hod
    have HAp_p_d := Lib.hid (apart5 (fun k hk => (Hp_26.out.lt k hk).2) (fun k hk => (hod.lt k hk).1))
    have HAp_g_d := Lib.hid (apart5 (fun k hk => (Hg_26.out.lt k hk).2) (fun k hk => (hod.lt k hk).1))
    have Hd_27 := Lib.hid (hod.lower HB_26.out.size)
    have Hp_28 := Lib.hid (Hp_26.out.below hbd)
    have Hg_28 := Lib.hid (Hg_26.out.below hbd)
    have HB_29 := Lib.hid (below_more HB_26.out hbd)
    clear Hp_26 Hg_26 HB_26
    clear hod hbd
    go_wp2_with fail
    refine (HI.out Ad cd _ (hK _ _ HW.out HB_29.out) (own_ints5 Hd_27.out) hcapd).mono ?_
    rintro e w12 ⟨vh, rfl, hoh, hbh⟩
    obtain ⟨Ah, ch, rfl, _⟩ := hoh.form
    have HAp_p_h := Lib.hid (apart5 (fun k hk => (Hp_28.out.lt k hk).2) (fun k hk => (hoh.lt k hk).1))
    have HAp_g_h := Lib.hid (apart5 (fun k hk => (Hg_28.out.lt k hk).2) (fun k hk => (hoh.lt k hk).1))
    have HAp_d_h := Lib.hid (apart5 (fun k hk => (Hd_27.out.lt k hk).2) (fun k hk => (hoh.lt k hk).1))
    have Hh_30 := Lib.hid (hoh.lower HB_29.out.size)
    have Hp_31 := Lib.hid (Hp_28.out.below hbh)
    have Hg_31 := Lib.hid (Hg_28.out.below hbh)
    have Hd_31 := Lib.hid (Hd_27.out.below hbh)
    have HB_32 := Lib.hid (below_more HB_29.out hbh)
    clear Hp_28 Hg_28 Hd_27 HB_29
    clear hoh hbh
    clear Hd_31
    go_wp2_with fail
    refine (eqInts_any Ah Ap V V ch cp _ (own_ints5 Hh_30.out) (own_ints5 Hp_31.out) (by omega)).mono ?_
    rintro e w13 ⟨rfl, n33, rfl⟩
    have hdr : Below w12.heap.size w12 (w12.drewN n33) := gDrewN n33
    have Hp_34 := Lib.hid (Hp_31.out.below hdr)
    have Hg_34 := Lib.hid (Hg_31.out.below hdr)
    have Hh_34 := Lib.hid (Hh_30.out.below hdr)
    have HB_35 := Lib.hid (below_more HB_32.out hdr)
    clear Hp_31 Hg_31 Hh_30 HB_32
    clear hdr
    generalize w12.drewN n33 = w13 at *
    go_wp2_with fail
    refine (heldInts_any Ag 1 V.length cg _ (own_ints5 Hg_34.out) (by omega) (by omega) (by omega)).mono ?_
    rintro e wh ⟨rfl, rfl⟩
    go_wp2_with fail
    go_ret
    exact ⟨rfl, HB_35.out⟩
  · have hli : (1048576 : Int) < (zs.length : Int) := by omega
    clear hI
    go_enter Try.func4, Try.ntmps4
    go_wp2_with fail
    go_ret
    exact ⟨rfl, Below.refl _ _⟩

end Go.Proofs.Ytddimdfkapbflaa
