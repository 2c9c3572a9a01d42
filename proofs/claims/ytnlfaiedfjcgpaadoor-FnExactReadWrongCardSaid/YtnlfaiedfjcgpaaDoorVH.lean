/-
  Laws of chapter 7, walked, whatever the program's own texts are: InverseOf, ValueAt, PointsFor, FromPoints, GoodPoints, AgreeWith, ReadWrong.
-/
import Derived.Test.YtnlfaiedfjcgpaaDoorVO
import Derived.Test.YtnlfaiedfjcgpaaDoorKM
namespace Go.Proofs.YtnlfaiedfjcgpaaDoor
open Go.RowKit

set_option maxRecDepth 100000 in
set_option maxHeartbeats 8000000 in
theorem readWrong_law {K : World → Prop} (hK : Stays5 K) (hI : ∀ (n : Int) (A : Option Addr) (ls : List (Int × Int)) (ca : Nat) (y : Int) (w : World), K w → Lets w A ls → ls.length ≤ 1048576 → ls.length ≤ ca → Calls Tryd.prog 6 #[.int .i64 n, .slice A ls.length ca, .int .i64 y] w fun e w' => ∃ v, e = .returned (.tuple #[v, .bool (rdOkB n ls y)]) ∧ Own w' w.heap.size v (rdI n ls y) ∧ Below w.heap.size w w')
    (n : Int) (A : Option Addr) (ls : List (Int × Int)) (ca : Nat) (y : Int) (w : World) (hw : K w) (ha : Lets w A ls) (hlm : ls.length ≤ 9223372036854775807) : Calls Tryd.prog 4 #[.int .i64 n, .slice A ls.length ca, .int .i64 y] w fun e w' => e = .returned (.bool true) ∧ Below w.heap.size w w' := by
  by_cases hl : ls.length ≤ 1048576
  · have hli : ¬ ((1048576 : Int) - (ls.length : Int) < 0) := by omega
    have hVl := rdI_len n ls y
    have HI := Lib.hid (fun A ca w hk ha hc => hI n A ls ca y w hk ha hl hc)
    have HS := Lib.hid (fun A ca w ha (_ : ls.length ≤ ca) => sRead_any n A ls ca y w ha hl)
    have HW := Lib.hid hw
    have HA := Lib.hid ha
    have hqL := eqLs_self ls
    clear hI hw ha
    generalize rdI n ls y = V at *
    generalize rdOkB n ls y = a5 at *
    have hq : eqL V V = true := by simp [eqL]
    have hml := marks_length 1 V.length
    go_enter Tryd.func4, Tryd.ntmps4
    go_wp2_with fail
    refine (szPointS_ok A ls.length ca w hl).mono ?_
    rintro e w0 ⟨rfl, rfl⟩
    go_wp2_with fail
    refine (toPointS_any A ls ca _ HA.out hl).mono ?_
    rintro e w1 ⟨vt, rfl, hot, hbt⟩
    obtain ⟨At, ct, rfl, hcapt, _⟩ := hot.form
    have Ht_1 := Lib.hid (hot)
    have HB_3 := Lib.hid (hbt)
    clear hot hbt
    go_wp2_with fail
    refine (HS.out At ct _ (own_pts7 Ht_1.out) hcapt).mono ?_
    rintro e w2 ⟨vp, rfl, hop, hbp⟩
    obtain ⟨Ap, cp, rfl, _⟩ := hop.form
    clear Ht_1
    have Hp_4 := Lib.hid (hop.lower HB_3.out.size)
    have HB_6 := Lib.hid (below_more HB_3.out hbp)
    clear HB_3
    clear hop hbp HS
    go_wp2_with fail
    refine (toPointS_any A ls ca _ (HA.out.below HB_6.out) hl).mono ?_
    rintro e w3 ⟨vx, rfl, hox, hbx⟩
    obtain ⟨Ax, cx, rfl, hcapx, _⟩ := hox.form
    have HAp_p_x := Lib.hid (apart5 (fun k hk => (Hp_4.out.lt k hk).2) (fun k hk => (hox.lt k hk).1))
    have Hx_7 := Lib.hid (hox.lower HB_6.out.size)
    have Hp_8 := Lib.hid (Hp_4.out.below hbx)
    have HB_9 := Lib.hid (below_more HB_6.out hbx)
    clear Hp_4 HB_6
    clear hox hbx
    go_wp2_with fail
    refine (HI.out Ax cx _ (hK _ _ HW.out HB_9.out) (own_pts7 Hx_7.out) hcapx).mono ?_
    rintro e w4 ⟨vg, rfl, hog, hbg⟩
    obtain ⟨Ag, cg, rfl, _⟩ := hog.form
    have HAp_p_g := Lib.hid (apart5 (fun k hk => (Hp_8.out.lt k hk).2) (fun k hk => (hog.lt k hk).1))
    have HAp_x_g := Lib.hid (apart5 (fun k hk => (Hx_7.out.lt k hk).2) (fun k hk => (hog.lt k hk).1))
    have Hg_10 := Lib.hid (hog.lower HB_9.out.size)
    have Hp_11 := Lib.hid (Hp_8.out.below hbg)
    have Hx_11 := Lib.hid (Hx_7.out.below hbg)
    have HB_12 := Lib.hid (below_more HB_9.out hbg)
    clear Hp_8 Hx_7 HB_9
    clear hog hbg
    go_wp2_with fail
    refine (eqInts_any Ag Ap V V cg cp _ (own_ints5 Hg_10.out) (own_ints5 Hp_11.out) (by omega)).mono ?_
    rintro e w5 ⟨rfl, n13, rfl⟩
    have hdr : Below w4.heap.size w4 (w4.drewN n13) := gDrewN n13
    have Hp_14 := Lib.hid (Hp_11.out.below hdr)
    have Hx_14 := Lib.hid (Hx_11.out.below hdr)
    have Hg_14 := Lib.hid (Hg_10.out.below hdr)
    have HB_15 := Lib.hid (below_more HB_12.out hdr)
    clear Hp_11 Hx_11 Hg_10 HB_12
    clear hdr
    generalize w4.drewN n13 = w5 at *
    go_wp2_with fail
    refine (toPointS_any A ls ca _ (HA.out.below HB_15.out) hl).mono ?_
    rintro e w6 ⟨vb, rfl, hob, hbb⟩
    obtain ⟨Ab, cb, rfl, hcapb, _⟩ := hob.form
    have HAp_p_b := Lib.hid (apart5 (fun k hk => (Hp_14.out.lt k hk).2) (fun k hk => (hob.lt k hk).1))
    have HAp_x_b := Lib.hid (apart5 (fun k hk => (Hx_14.out.lt k hk).2) (fun k hk => (hob.lt k hk).1))
    have HAp_g_b := Lib.hid (apart5 (fun k hk => (Hg_14.out.lt k hk).2) (fun k hk => (hob.lt k hk).1))
    have Hb_16 := Lib.hid (hob.lower HB_15.out.size)
    have Hp_17 := Lib.hid (Hp_14.out.below hbb)
    have Hx_17 := Lib.hid (Hx_14.out.below hbb)
    have Hg_17 := Lib.hid (Hg_14.out.below hbb)
    have HB_18 := Lib.hid (below_more HB_15.out hbb)
    clear Hp_14 Hx_14 Hg_14 HB_15
    clear hob hbb
    go_wp2_with fail
    refine (eqPointS_any Ax Ab ls ls cx cb _ (own_pts7 Hx_17.out) (own_pts7 Hb_16.out) hl).mono ?_
    rintro e w7 ⟨rfl, hbq⟩
    have Hp_19 := Lib.hid (Hp_17.out.below hbq)
    have Hx_19 := Lib.hid (Hx_17.out.below hbq)
    have Hg_19 := Lib.hid (Hg_17.out.below hbq)
    have Hb_19 := Lib.hid (Hb_16.out.below hbq)
    have HB_20 := Lib.hid (below_more HB_18.out hbq)
    clear Hp_17 Hx_17 Hg_17 Hb_16 HB_18
    clear hbq
    clear Hb_19
    go_wp2_with fail
    refine (markPointS_any _ ls _ 1 _ Hx_19.out hl (by omega) (by omega)).mono ?_
    rintro e w8 ⟨rfl, hom, hgm⟩
    have HMb := Lib.hid (fun k hk => (Hx_19.out.lt k hk).1)
    have Hp_21 := Lib.hid (Hp_19.out.kept hgm HAp_p_x.out)
    have Hg_21 := Lib.hid (Hg_19.out.kept hgm (gApart HAp_x_g.out))
    have Hx_21 := Lib.hid hom
    have HB_21 : Hid (Below w.heap.size w w8) := HB_20.out.grown hgm HB_20.out.size HMb.out
    clear HMb hgm hom Hx_19 Hp_19 Hg_19 HB_20
    clear Hx_21
    go_wp2_with fail
    refine (eqInts_any Ag Ap V V cg cp _ (own_ints5 Hg_21.out) (own_ints5 Hp_21.out) (by omega)).mono ?_
    rintro e w9 ⟨rfl, n22, rfl⟩
    have hdr : Below w8.heap.size w8 (w8.drewN n22) := gDrewN n22
    have Hp_23 := Lib.hid (Hp_21.out.below hdr)
    have Hg_23 := Lib.hid (Hg_21.out.below hdr)
    have HB_24 := Lib.hid (below_more HB_21.out hdr)
    clear Hp_21 Hg_21 HB_21
    clear hdr
    generalize w8.drewN n22 = w9 at *
    go_wp2_with fail
    refine (markInts_any _ V _ 1 _ Hg_23.out (by omega) (by omega) (by omega)).mono ?_
    rintro e w10 ⟨rfl, hom, hgm⟩
    have HMb := Lib.hid (fun k hk => (Hg_23.out.lt k hk).1)
    have Hp_25 := Lib.hid (Hp_23.out.kept hgm HAp_p_g.out)
    have Hg_25 := Lib.hid hom
    have HB_25 : Hid (Below w.heap.size w w10) := HB_24.out.grown hgm HB_24.out.size HMb.out
    clear HMb hgm hom Hg_23 Hp_23 HB_24
    go_wp2_with fail
    refine (heldInts_any Ag 1 V.length cg _ (own_ints5 Hg_25.out) (by omega) (by omega) (by omega)).mono ?_
    rintro e wh ⟨rfl, rfl⟩
    go_wp2_with fail
    refine (toPointS_any A ls ca _ (HA.out.below HB_25.out) hl).mono ?_
    rintro e w11 ⟨vd, rfl, hod, hbd⟩
    obtain ⟨Ad, cd, rfl, hcapd, _⟩ := hod.form
    have HAp_p_d := Lib.hid (apart5 (fun k hk => (Hp_25.out.lt k hk).2) (fun k hk => (hod.lt k hk).1))
    have HAp_g_d := Lib.hid (apart5 (fun k hk => (Hg_25.out.lt k hk).2) (fun k hk => (hod.lt k hk).1))
    have Hd_26 := Lib.hid (hod.lower HB_25.out.size)
    have Hp_27 := Lib.hid (Hp_25.out.below hbd)
    have Hg_27 := Lib.hid (Hg_25.out.below hbd)
    have HB_28 := Lib.hid (below_more HB_25.out hbd)
    clear Hp_25 Hg_25 HB_25
    clear hod hbd
    go_wp2_with fail
    refine (HI.out Ad cd _ (hK _ _ HW.out HB_28.out) (own_pts7 Hd_26.out) hcapd).mono ?_
    rintro e w12 ⟨vh, rfl, hoh, hbh⟩
    obtain ⟨Ah, ch, rfl, _⟩ := hoh.form
    have HAp_p_h := Lib.hid (apart5 (fun k hk => (Hp_27.out.lt k hk).2) (fun k hk => (hoh.lt k hk).1))
    have HAp_g_h := Lib.hid (apart5 (fun k hk => (Hg_27.out.lt k hk).2) (fun k hk => (hoh.lt k hk).1))
    have HAp_d_h := Lib.hid (apart5 (fun k hk => (Hd_26.out.lt k hk).2) (fun k hk => (hoh.lt k hk).1))
    have Hh_29 := Lib.hid (hoh.lower HB_28.out.size)
    have Hp_30 := Lib.hid (Hp_27.out.below hbh)
    have Hg_30 := Lib.hid (Hg_27.out.below hbh)
    have Hd_30 := Lib.hid (Hd_26.out.below hbh)
    have HB_31 := Lib.hid (below_more HB_28.out hbh)
    clear Hp_27 Hg_27 Hd_26 HB_28
    clear hoh hbh
    clear Hd_30
    go_wp2_with fail
    refine (eqInts_any Ah Ap V V ch cp _ (own_ints5 Hh_29.out) (own_ints5 Hp_30.out) (by omega)).mono ?_
    rintro e w13 ⟨rfl, n32, rfl⟩
    have hdr : Below w12.heap.size w12 (w12.drewN n32) := gDrewN n32
    have Hp_33 := Lib.hid (Hp_30.out.below hdr)
    have Hg_33 := Lib.hid (Hg_30.out.below hdr)
    have Hh_33 := Lib.hid (Hh_29.out.below hdr)
    have HB_34 := Lib.hid (below_more HB_31.out hdr)
    clear Hp_30 Hg_30 Hh_29 HB_31
    clear hdr
    generalize w12.drewN n32 = w13 at *
    go_wp2_with fail
    refine (heldInts_any Ag 1 V.length cg _ (own_ints5 Hg_33.out) (by omega) (by omega) (by omega)).mono ?_
    rintro e wh ⟨rfl, rfl⟩
    go_wp2_with fail
    go_ret
    exact ⟨rfl, HB_34.out⟩
  · have hli : ((-1 : Int)) < 0 := by omega
    clear hI
    go_enter Tryd.func4, Tryd.ntmps4
    go_wp2_with fail
    refine (szPointS_no A ls.length ca w hlm hl).mono ?_
    rintro e w0 ⟨rfl, rfl⟩
    go_wp2_with fail
    go_ret
    exact ⟨rfl, Below.refl _ _⟩

end Go.Proofs.YtnlfaiedfjcgpaaDoor
