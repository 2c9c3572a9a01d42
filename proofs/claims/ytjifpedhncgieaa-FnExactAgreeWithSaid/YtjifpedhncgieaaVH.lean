/-
  Laws of chapter 7, walked, whatever the program's own texts are: InverseOf, ValueAt, PointsFor, FromPoints, GoodPoints, AgreeWith, ReadWrong.
-/
import Derived.Test.YtjifpedhncgieaaVO
import Derived.Test.YtjifpedhncgieaaKM
namespace Go.Proofs.Ytjifpedhncgieaa
open Go.RowKit

set_option maxRecDepth 100000 in
set_option maxHeartbeats 1000000 in
theorem inverseOf_law {K : World → Prop} (hI : ∀ (p : Int) (w : World), K w → Calls Try.prog 26 #[.int .i64 p] w fun e w' => e = .returned (.tuple #[.int .i64 (ivI p), .bool (ivOkB p)]) ∧ Below w.heap.size w w')
    (p : Int) (w : World) (hw : K w) : Calls Try.prog 8 #[.int .i64 p] w fun e w' => e = .returned (.bool true) ∧ Below w.heap.size w w' := by
  have HI := Lib.hid (hI p w hw)
  have HS := Lib.hid (sInv_any p w)
  clear hI hw
  generalize ivI p = a1 at *
  generalize ivOkB p = a5 at *
  go_enter Try.func8, Try.ntmps8
  go_wp2_with fail
  refine HS.out.mono ?_
  rintro e w1 ⟨rfl, rfl⟩
  go_wp2_with fail
  refine HI.out.mono ?_
  rintro e w2 ⟨rfl, hb2⟩
  go_wp2_with fail
  go_ret
  exact ⟨rfl, hb2⟩

set_option maxRecDepth 100000 in
set_option maxHeartbeats 1000000 in
theorem valueAt_law {K : World → Prop} (hK : Stays5 K) (hI : ∀ (n : Int) (A : Option Addr) (zs : List Int) (ca : Nat) (w : World), K w → Ints w A zs → zs.length ≤ 1048576 → zs.length ≤ ca → Calls Try.prog 23 #[.slice A zs.length ca, .int .i64 n] w fun e w' => e = .returned (.tuple #[.int .i64 (vaI zs n), .bool (vaOkB zs n)]) ∧ Below w.heap.size w w')
    (n : Int) (A : Option Addr) (zs : List Int) (ca : Nat) (w : World) (hw : K w) (ha : Ints w A zs) : Calls Try.prog 4 #[.slice A zs.length ca, .int .i64 n] w fun e w' => e = .returned (.bool true) ∧ Below w.heap.size w w' := by
  by_cases hl : zs.length ≤ 1048576
  · have hli : ¬ (1048576 : Int) < (zs.length : Int) := by omega
    have hq : eqL zs zs = true := by simp [eqL]
    have HI := Lib.hid (fun A ca w hk ha hc => hI n A zs ca w hk ha hl hc)
    have HS := Lib.hid (fun A ca w ha => sValue_any A zs ca n w ha hl)
    have HW := Lib.hid hw
    have HA := Lib.hid ha
    clear hI hw ha
    generalize vaI zs n = a1 at *
    generalize vaOkB zs n = a5 at *
    go_enter Try.func4, Try.ntmps4
    go_wp2_with fail
    refine (toInts_any A zs ca _ HA.out (by omega)).mono ?_
    rintro e w1 ⟨v1, rfl, ho1, hb1⟩
    obtain ⟨A1, c1, rfl, hI1⟩ := ho1.form
    have HI1 := Lib.hid hI1
    have HB1 := Lib.hid hb1
    clear hI1 ho1 hb1
    go_wp2_with fail
    refine (HS.out A1 c1 _ HI1.out).mono ?_
    rintro e w2 ⟨rfl, rfl⟩
    have HB2 := HB1
    clear HI1 HB1
    go_wp2_with fail
    refine (toInts_any A zs ca _ (HA.out.below HB2.out) (by omega)).mono ?_
    rintro e w3 ⟨v3, rfl, ho3, hb3⟩
    obtain ⟨A3, c3, rfl, hcap3, hI3⟩ := gFormC ho3
    have HI3 := Lib.hid hI3
    have HB3 := Lib.hid (below_more HB2.out hb3)
    clear hI3 ho3 hb3 HB2
    go_wp2_with fail
    refine (HI.out A3 c3 _ (hK _ _ HW.out HB3.out) HI3.out hcap3).mono ?_
    rintro e w4 ⟨rfl, hb4⟩
    have HI4 := Lib.hid (HI3.out.below hb4)
    have HB4 := Lib.hid (below_more HB3.out hb4)
    clear hb4 HI3 HB3
    go_wp2_with fail
    refine (toInts_any A zs ca _ (HA.out.below HB4.out) (by omega)).mono ?_
    rintro e w5 ⟨v5, rfl, ho5, hb5⟩
    obtain ⟨A5, c5, rfl, hI5⟩ := ho5.form
    have HI5 := Lib.hid hI5
    have HI4' := Lib.hid (HI4.out.below hb5)
    have HB5 := Lib.hid (below_more HB4.out hb5)
    clear hI5 ho5 hb5 HI4 HB4
    go_wp2_with fail
    refine (eqInts_any A3 A5 zs zs c3 c5 _ HI4'.out HI5.out (by omega)).mono ?_
    rintro e w6 ⟨rfl, n6, rfl⟩
    go_wp2_with fail
    go_ret
    exact ⟨rfl, below_more HB5.out (gDrewN n6)⟩
  · have hli : (1048576 : Int) < (zs.length : Int) := by omega
    clear hI
    go_enter Try.func4, Try.ntmps4
    go_wp2_with fail
    go_ret
    exact ⟨rfl, Below.refl _ _⟩


set_option maxRecDepth 100000 in
set_option maxHeartbeats 8000000 in
theorem pointsFor_law {K : World → Prop} (hK : Stays5 K) (hI : ∀ (A : Option Addr) (zs : List Int) (ca : Nat) (n : Int) (w : World), K w → Ints w A zs → zs.length ≤ 1048576 → zs.length ≤ ca → Calls Try.prog 11 #[.slice A zs.length ca, .int .i64 n] w fun e w' => ∃ v, e = .returned (.tuple #[v, .bool (poOkB zs n)]) ∧ OwnPt w' w.heap.size v (poI zs n) ∧ Below w.heap.size w w')
    (A : Option Addr) (zs : List Int) (ca : Nat) (n : Int) (w : World) (hw : K w) (ha : Ints w A zs) : Calls Try.prog 5 #[.slice A zs.length ca, .int .i64 n] w fun e w' => e = .returned (.bool true) ∧ Below w.heap.size w w' := by
  by_cases hl : zs.length ≤ 1048576
  · have hli : ¬ (1048576 : Int) < (zs.length : Int) := by omega
    have hVl := poI_len zs n
    have HI := Lib.hid (fun A ca w hk ha hc => hI A zs ca n w hk ha hl hc)
    have HS := Lib.hid (fun A ca w ha => sPoints_any A zs ca n w ha hl)
    have HW := Lib.hid hw
    have HA := Lib.hid ha
    have hqz : eqL zs zs = true := by simp [eqL]
    clear hI hw ha
    generalize poI zs n = V at *
    generalize poOkB zs n = a5 at *
    have hq := eqLs_self V
    have hml := markLs_length 1 V.length
    go_enter Try.func5, Try.ntmps5
    go_wp2_with fail
    refine (toInts_any A zs ca _ HA.out (by omega)).mono ?_
    rintro e w1 ⟨vt, rfl, hot, hbt⟩
    obtain ⟨At, ct, rfl, hcapt, _⟩ := gFormC hot
    have Ht_1 := Lib.hid (hot)
    have HB_3 := Lib.hid (hbt)
    clear hot hbt
    go_wp2_with fail
    refine (HS.out At ct _ (own_ints5 Ht_1.out)).mono ?_
    rintro e w2 ⟨vp, rfl, hop, hbp⟩
    obtain ⟨Ap, cp, rfl, _⟩ := hop.form
    clear Ht_1
    have Hp_4 := Lib.hid (hop.lower HB_3.out.size)
    have HB_6 := Lib.hid (below_more HB_3.out hbp)
    clear HB_3
    clear hop hbp HS
    go_wp2_with fail
    refine (toInts_any A zs ca _ (HA.out.below HB_6.out) (by omega)).mono ?_
    rintro e w3 ⟨vx, rfl, hox, hbx⟩
    obtain ⟨Ax, cx, rfl, hcapx, _⟩ := gFormC hox
    have HAp_p_x := Lib.hid (apart5 (fun k hk => (Hp_4.out.lt k hk).2) (fun k hk => (hox.lt k hk).1))
    have Hx_7 := Lib.hid (hox.lower HB_6.out.size)
    have Hp_8 := Lib.hid (Hp_4.out.below hbx)
    have HB_9 := Lib.hid (below_more HB_6.out hbx)
    clear Hp_4 HB_6
    clear hox hbx
    go_wp2_with fail
    refine (HI.out Ax cx _ (hK _ _ HW.out HB_9.out) (own_ints5 Hx_7.out) hcapx).mono ?_
    rintro e w4 ⟨vg, rfl, hog, hbg⟩
    obtain ⟨Ag, cg, rfl, _⟩ := hog.form
    have HAp_p_g := Lib.hid (apart5 (fun k hk => (Hp_8.out.lt k hk).2) (fun k hk => (hog.lt k hk).1))
    have HAp_x_g := Lib.hid (apart5 (fun k hk => (Hx_7.out.lt k hk).2) (fun k hk => (hog.lt k hk).1))
    have Hg_10 := Lib.hid (hog.lower HB_9.out.size)
    have Hp_11 := Lib.hid (Hp_8.out.below hbg)
    have Hx_11 := Lib.hid (Hx_7.out.below hbg)
    have HB_12 := Lib.hid (below_more HB_9.out hbg)
    clear Hp_8 Hx_7 HB_9
    clear hog hbg
    go_wp2_with fail
    refine (eqPointS_any Ag Ap V V cg cp _ (own_pts7 Hg_10.out) (own_pts7 Hp_11.out) (by omega)).mono ?_
    rintro e w5 ⟨rfl, hbq⟩
    have Hp_13 := Lib.hid (Hp_11.out.below hbq)
    have Hx_13 := Lib.hid (Hx_11.out.below hbq)
    have Hg_13 := Lib.hid (Hg_10.out.below hbq)
    have HB_14 := Lib.hid (below_more HB_12.out hbq)
    clear Hp_11 Hx_11 Hg_10 HB_12
    clear hbq
    go_wp2_with fail
    refine (toInts_any A zs ca _ (HA.out.below HB_14.out) (by omega)).mono ?_
    rintro e w6 ⟨vb, rfl, hob, hbb⟩
    obtain ⟨Ab, cb, rfl, hcapb, _⟩ := gFormC hob
    have HAp_p_b := Lib.hid (apart5 (fun k hk => (Hp_13.out.lt k hk).2) (fun k hk => (hob.lt k hk).1))
    have HAp_x_b := Lib.hid (apart5 (fun k hk => (Hx_13.out.lt k hk).2) (fun k hk => (hob.lt k hk).1))
    have HAp_g_b := Lib.hid (apart5 (fun k hk => (Hg_13.out.lt k hk).2) (fun k hk => (hob.lt k hk).1))
    have Hb_15 := Lib.hid (hob.lower HB_14.out.size)
    have Hp_16 := Lib.hid (Hp_13.out.below hbb)
    have Hx_16 := Lib.hid (Hx_13.out.below hbb)
    have Hg_16 := Lib.hid (Hg_13.out.below hbb)
    have HB_17 := Lib.hid (below_more HB_14.out hbb)
    clear Hp_13 Hx_13 Hg_13 HB_14
    clear hob hbb
    go_wp2_with fail
    refine (eqInts_any Ax Ab zs zs cx cb _ (own_ints5 Hx_16.out) (own_ints5 Hb_15.out) (by omega)).mono ?_
    rintro e w7 ⟨rfl, n18, rfl⟩
    have hdr : Below w6.heap.size w6 (w6.drewN n18) := gDrewN n18
    have Hp_19 := Lib.hid (Hp_16.out.below hdr)
    have Hx_19 := Lib.hid (Hx_16.out.below hdr)
    have Hg_19 := Lib.hid (Hg_16.out.below hdr)
    have Hb_19 := Lib.hid (Hb_15.out.below hdr)
    have HB_20 := Lib.hid (below_more HB_17.out hdr)
    clear Hp_16 Hx_16 Hg_16 Hb_15 HB_17
    clear hdr
    generalize w6.drewN n18 = w7 at *
    clear Hb_19
    go_wp2_with fail
    refine (markInts_any _ zs _ 1 _ Hx_19.out (by omega) (by omega) (by omega)).mono ?_
    rintro e w8 ⟨rfl, hom, hgm⟩
    have HMb := Lib.hid (fun k hk => (Hx_19.out.lt k hk).1)
    have Hp_21 := Lib.hid (Hp_19.out.kept hgm HAp_p_x.out)
    have Hg_21 := Lib.hid (Hg_19.out.kept hgm (gApart HAp_x_g.out))
    have Hx_21 := Lib.hid hom
    have HB_21 : Hid (Below w.heap.size w w8) := HB_20.out.grown hgm HB_20.out.size HMb.out
    clear HMb hgm hom Hx_19 Hp_19 Hg_19 HB_20
    clear Hx_21
    go_wp2_with fail
    refine (eqPointS_any Ag Ap V V cg cp _ (own_pts7 Hg_21.out) (own_pts7 Hp_21.out) (by omega)).mono ?_
    rintro e w9 ⟨rfl, hbq⟩
    have Hp_22 := Lib.hid (Hp_21.out.below hbq)
    have Hg_22 := Lib.hid (Hg_21.out.below hbq)
    have HB_23 := Lib.hid (below_more HB_21.out hbq)
    clear Hp_21 Hg_21 HB_21
    clear hbq
    go_wp2_with fail
    refine (markPointS_any _ V _ 1 _ Hg_22.out (by omega) (by omega) (by omega)).mono ?_
    rintro e w10 ⟨rfl, hom, hgm⟩
    have HMb := Lib.hid (fun k hk => (Hg_22.out.lt k hk).1)
    have Hp_24 := Lib.hid (Hp_22.out.kept hgm HAp_p_g.out)
    have Hg_24 := Lib.hid hom
    have HB_24 : Hid (Below w.heap.size w w10) := HB_23.out.grown hgm HB_23.out.size HMb.out
    clear HMb hgm hom Hg_22 Hp_22 HB_23
    go_wp2_with fail
    refine (heldPointS_any Ag 1 V.length cg _ (own_pts7 Hg_24.out) (by omega) (by omega) (by omega)).mono ?_
    rintro e wh ⟨rfl, rfl⟩
    go_wp2_with fail
    refine (toInts_any A zs ca _ (HA.out.below HB_24.out) (by omega)).mono ?_
    rintro e w11 ⟨vd, rfl, hod, hbd⟩
    obtain ⟨Ad, cd, rfl, hcapd, _⟩ := gFormC hod
    have HAp_p_d := Lib.hid (apart5 (fun k hk => (Hp_24.out.lt k hk).2) (fun k hk => (hod.lt k hk).1))
    have HAp_g_d := Lib.hid (apart5 (fun k hk => (Hg_24.out.lt k hk).2) (fun k hk => (hod.lt k hk).1))
    have Hd_25 := Lib.hid (hod.lower HB_24.out.size)
    have Hp_26 := Lib.hid (Hp_24.out.below hbd)
    have Hg_26 := Lib.hid (Hg_24.out.below hbd)
    have HB_27 := Lib.hid (below_more HB_24.out hbd)
    clear Hp_24 Hg_24 HB_24
    clear hod hbd
    go_wp2_with fail
    refine (HI.out Ad cd _ (hK _ _ HW.out HB_27.out) (own_ints5 Hd_25.out) hcapd).mono ?_
    rintro e w12 ⟨vh, rfl, hoh, hbh⟩
    obtain ⟨Ah, ch, rfl, _⟩ := hoh.form
    have HAp_p_h := Lib.hid (apart5 (fun k hk => (Hp_26.out.lt k hk).2) (fun k hk => (hoh.lt k hk).1))
    have HAp_g_h := Lib.hid (apart5 (fun k hk => (Hg_26.out.lt k hk).2) (fun k hk => (hoh.lt k hk).1))
    have HAp_d_h := Lib.hid (apart5 (fun k hk => (Hd_25.out.lt k hk).2) (fun k hk => (hoh.lt k hk).1))
    have Hh_28 := Lib.hid (hoh.lower HB_27.out.size)
    have Hp_29 := Lib.hid (Hp_26.out.below hbh)
    have Hg_29 := Lib.hid (Hg_26.out.below hbh)
    have Hd_29 := Lib.hid (Hd_25.out.below hbh)
    have HB_30 := Lib.hid (below_more HB_27.out hbh)
    clear Hp_26 Hg_26 Hd_25 HB_27
    clear hoh hbh
    clear Hd_29
    go_wp2_with fail
    refine (eqPointS_any Ah Ap V V ch cp _ (own_pts7 Hh_28.out) (own_pts7 Hp_29.out) (by omega)).mono ?_
    rintro e w13 ⟨rfl, hbq⟩
    have Hp_31 := Lib.hid (Hp_29.out.below hbq)
    have Hg_31 := Lib.hid (Hg_29.out.below hbq)
    have Hh_31 := Lib.hid (Hh_28.out.below hbq)
    have HB_32 := Lib.hid (below_more HB_30.out hbq)
    clear Hp_29 Hg_29 Hh_28 HB_30
    clear hbq
    go_wp2_with fail
    refine (heldPointS_any Ag 1 V.length cg _ (own_pts7 Hg_31.out) (by omega) (by omega) (by omega)).mono ?_
    rintro e wh ⟨rfl, rfl⟩
    go_wp2_with fail
    go_ret
    exact ⟨rfl, HB_32.out⟩
  · have hli : (1048576 : Int) < (zs.length : Int) := by omega
    clear hI
    go_enter Try.func5, Try.ntmps5
    go_wp2_with fail
    go_ret
    exact ⟨rfl, Below.refl _ _⟩

set_option maxRecDepth 100000 in
set_option maxHeartbeats 8000000 in
theorem fromPoints_law {K : World → Prop} (hK : Stays5 K) (hI : ∀ (n : Int) (A : Option Addr) (ls : List (Int × Int)) (ca : Nat) (w : World), K w → Lets w A ls → ls.length ≤ 1048576 → ls.length ≤ ca → Calls Try.prog 17 #[.int .i64 n, .slice A ls.length ca] w fun e w' => ∃ v, e = .returned (.tuple #[v, .bool (enB7 n ls)]) ∧ Own w' w.heap.size v (frI n ls) ∧ Below w.heap.size w w')
    (n : Int) (A : Option Addr) (ls : List (Int × Int)) (ca : Nat) (w : World) (hw : K w) (ha : Lets w A ls) (hlm : ls.length ≤ 9223372036854775807) : Calls Try.prog 6 #[.int .i64 n, .slice A ls.length ca] w fun e w' => e = .returned (.bool true) ∧ Below w.heap.size w w' := by
  by_cases hl : ls.length ≤ 1048576
  · have hli : ¬ ((1048576 : Int) - (ls.length : Int) < 0) := by omega
    have hVl := frI_len n ls
    have HI := Lib.hid (fun A ca w hk ha hc => hI n A ls ca w hk ha hl hc)
    have HS := Lib.hid (fun A ca w ha hc => sFrom_any n A ls ca w ha hl hc)
    have HW := Lib.hid hw
    have HA := Lib.hid ha
    have hqL := eqLs_self ls
    clear hI hw ha
    generalize frI n ls = V at *
    generalize enB7 n ls = a5 at *
    have hq : eqL V V = true := by simp [eqL]
    have hml := marks_length 1 V.length
    go_enter Try.func6, Try.ntmps6
    go_wp2_with fail
    refine (szPointS_ok A ls.length ca w hl).mono ?_
    rintro e w0 ⟨rfl, rfl⟩
    go_wp2_with fail
    refine (toPointS_any A ls ca _ HA.out hl).mono ?_
    rintro e w1 ⟨vt, rfl, hot, hbt⟩
    obtain ⟨At, ct, rfl, hcapt, _⟩ := hot.form
    have Ht_1 := Lib.hid (hot)
    have HB_3 := Lib.hid (hbt)
    clear hot hbt
    go_wp2_with fail
    refine (HS.out At ct _ (own_pts7 Ht_1.out) hcapt).mono ?_
    rintro e w2 ⟨vp, rfl, hop, hbp⟩
    obtain ⟨Ap, cp, rfl, _⟩ := hop.form
    clear Ht_1
    have Hp_4 := Lib.hid (hop.lower HB_3.out.size)
    have HB_6 := Lib.hid (below_more HB_3.out hbp)
    clear HB_3
    clear hop hbp HS
    go_wp2_with fail
    refine (toPointS_any A ls ca _ (HA.out.below HB_6.out) hl).mono ?_
    rintro e w3 ⟨vx, rfl, hox, hbx⟩
    obtain ⟨Ax, cx, rfl, hcapx, _⟩ := hox.form
    have HAp_p_x := Lib.hid (apart5 (fun k hk => (Hp_4.out.lt k hk).2) (fun k hk => (hox.lt k hk).1))
    have Hx_7 := Lib.hid (hox.lower HB_6.out.size)
    have Hp_8 := Lib.hid (Hp_4.out.below hbx)
    have HB_9 := Lib.hid (below_more HB_6.out hbx)
    clear Hp_4 HB_6
    clear hox hbx
    go_wp2_with fail
    refine (HI.out Ax cx _ (hK _ _ HW.out HB_9.out) (own_pts7 Hx_7.out) hcapx).mono ?_
    rintro e w4 ⟨vg, rfl, hog, hbg⟩
    obtain ⟨Ag, cg, rfl, _⟩ := hog.form
    have HAp_p_g := Lib.hid (apart5 (fun k hk => (Hp_8.out.lt k hk).2) (fun k hk => (hog.lt k hk).1))
    have HAp_x_g := Lib.hid (apart5 (fun k hk => (Hx_7.out.lt k hk).2) (fun k hk => (hog.lt k hk).1))
    have Hg_10 := Lib.hid (hog.lower HB_9.out.size)
    have Hp_11 := Lib.hid (Hp_8.out.below hbg)
    have Hx_11 := Lib.hid (Hx_7.out.below hbg)
    have HB_12 := Lib.hid (below_more HB_9.out hbg)
    clear Hp_8 Hx_7 HB_9
    clear hog hbg
    go_wp2_with fail
    refine (eqInts_any Ag Ap V V cg cp _ (own_ints5 Hg_10.out) (own_ints5 Hp_11.out) (by omega)).mono ?_
    rintro e w5 ⟨rfl, n13, rfl⟩
    have hdr : Below w4.heap.size w4 (w4.drewN n13) := gDrewN n13
    have Hp_14 := Lib.hid (Hp_11.out.below hdr)
    have Hx_14 := Lib.hid (Hx_11.out.below hdr)
    have Hg_14 := Lib.hid (Hg_10.out.below hdr)
    have HB_15 := Lib.hid (below_more HB_12.out hdr)
    clear Hp_11 Hx_11 Hg_10 HB_12
    clear hdr
    generalize w4.drewN n13 = w5 at *
    go_wp2_with fail
    refine (toPointS_any A ls ca _ (HA.out.below HB_15.out) hl).mono ?_
    rintro e w6 ⟨vb, rfl, hob, hbb⟩
    obtain ⟨Ab, cb, rfl, hcapb, _⟩ := hob.form
    have HAp_p_b := Lib.hid (apart5 (fun k hk => (Hp_14.out.lt k hk).2) (fun k hk => (hob.lt k hk).1))
    have HAp_x_b := Lib.hid (apart5 (fun k hk => (Hx_14.out.lt k hk).2) (fun k hk => (hob.lt k hk).1))
    have HAp_g_b := Lib.hid (apart5 (fun k hk => (Hg_14.out.lt k hk).2) (fun k hk => (hob.lt k hk).1))
    have Hb_16 := Lib.hid (hob.lower HB_15.out.size)
    have Hp_17 := Lib.hid (Hp_14.out.below hbb)
    have Hx_17 := Lib.hid (Hx_14.out.below hbb)
    have Hg_17 := Lib.hid (Hg_14.out.below hbb)
    have HB_18 := Lib.hid (below_more HB_15.out hbb)
    clear Hp_14 Hx_14 Hg_14 HB_15
    clear hob hbb
    go_wp2_with fail
    refine (eqPointS_any Ax Ab ls ls cx cb _ (own_pts7 Hx_17.out) (own_pts7 Hb_16.out) hl).mono ?_
    rintro e w7 ⟨rfl, hbq⟩
    have Hp_19 := Lib.hid (Hp_17.out.below hbq)
    have Hx_19 := Lib.hid (Hx_17.out.below hbq)
    have Hg_19 := Lib.hid (Hg_17.out.below hbq)
    have Hb_19 := Lib.hid (Hb_16.out.below hbq)
    have HB_20 := Lib.hid (below_more HB_18.out hbq)
    clear Hp_17 Hx_17 Hg_17 Hb_16 HB_18
    clear hbq
    clear Hb_19
    go_wp2_with fail
    refine (markPointS_any _ ls _ 1 _ Hx_19.out hl (by omega) (by omega)).mono ?_
    rintro e w8 ⟨rfl, hom, hgm⟩
    have HMb := Lib.hid (fun k hk => (Hx_19.out.lt k hk).1)
    have Hp_21 := Lib.hid (Hp_19.out.kept hgm HAp_p_x.out)
    have Hg_21 := Lib.hid (Hg_19.out.kept hgm (gApart HAp_x_g.out))
    have Hx_21 := Lib.hid hom
    have HB_21 : Hid (Below w.heap.size w w8) := HB_20.out.grown hgm HB_20.out.size HMb.out
    clear HMb hgm hom Hx_19 Hp_19 Hg_19 HB_20
    clear Hx_21
    go_wp2_with fail
    refine (eqInts_any Ag Ap V V cg cp _ (own_ints5 Hg_21.out) (own_ints5 Hp_21.out) (by omega)).mono ?_
    rintro e w9 ⟨rfl, n22, rfl⟩
    have hdr : Below w8.heap.size w8 (w8.drewN n22) := gDrewN n22
    have Hp_23 := Lib.hid (Hp_21.out.below hdr)
    have Hg_23 := Lib.hid (Hg_21.out.below hdr)
    have HB_24 := Lib.hid (below_more HB_21.out hdr)
    clear Hp_21 Hg_21 HB_21
    clear hdr
    generalize w8.drewN n22 = w9 at *
    go_wp2_with fail
    refine (markInts_any _ V _ 1 _ Hg_23.out (by omega) (by omega) (by omega)).mono ?_
    rintro e w10 ⟨rfl, hom, hgm⟩
    have HMb := Lib.hid (fun k hk => (Hg_23.out.lt k hk).1)
    have Hp_25 := Lib.hid (Hp_23.out.kept hgm HAp_p_g.out)
    have Hg_25 := Lib.hid hom
    have HB_25 : Hid (Below w.heap.size w w10) := HB_24.out.grown hgm HB_24.out.size HMb.out
    clear HMb hgm hom Hg_23 Hp_23 HB_24
    go_wp2_with fail
    refine (heldInts_any Ag 1 V.length cg _ (own_ints5 Hg_25.out) (by omega) (by omega) (by omega)).mono ?_
    rintro e wh ⟨rfl, rfl⟩
    go_wp2_with fail
    refine (toPointS_any A ls ca _ (HA.out.below HB_25.out) hl).mono ?_
    rintro e w11 ⟨vd, rfl, hod, hbd⟩
    obtain ⟨Ad, cd, rfl, hcapd, _⟩ := hod.form
    have HAp_p_d := Lib.hid (apart5 (fun k hk => (Hp_25.out.lt k hk).2) (fun k hk => (hod.lt k hk).1))
    have HAp_g_d := Lib.hid (apart5 (fun k hk => (Hg_25.out.lt k hk).2) (fun k hk => (hod.lt k hk).1))
    have Hd_26 := Lib.hid (hod.lower HB_25.out.size)
    have Hp_27 := Lib.hid (Hp_25.out.below hbd)
    have Hg_27 := Lib.hid (Hg_25.out.below hbd)
    have HB_28 := Lib.hid (below_more HB_25.out hbd)
    clear Hp_25 Hg_25 HB_25
    clear hod hbd
    go_wp2_with fail
    refine (HI.out Ad cd _ (hK _ _ HW.out HB_28.out) (own_pts7 Hd_26.out) hcapd).mono ?_
    rintro e w12 ⟨vh, rfl, hoh, hbh⟩
    obtain ⟨Ah, ch, rfl, _⟩ := hoh.form
    have HAp_p_h := Lib.hid (apart5 (fun k hk => (Hp_27.out.lt k hk).2) (fun k hk => (hoh.lt k hk).1))
    have HAp_g_h := Lib.hid (apart5 (fun k hk => (Hg_27.out.lt k hk).2) (fun k hk => (hoh.lt k hk).1))
    have HAp_d_h := Lib.hid (apart5 (fun k hk => (Hd_26.out.lt k hk).2) (fun k hk => (hoh.lt k hk).1))
    have Hh_29 := Lib.hid (hoh.lower HB_28.out.size)
    have Hp_30 := Lib.hid (Hp_27.out.below hbh)
    have Hg_30 := Lib.hid (Hg_27.out.below hbh)
    have Hd_30 := Lib.hid (Hd_26.out.below hbh)
    have HB_31 := Lib.hid (below_more HB_28.out hbh)
    clear Hp_27 Hg_27 Hd_26 HB_28
    clear hoh hbh
    clear Hd_30
    go_wp2_with fail
    refine (eqInts_any Ah Ap V V ch cp _ (own_ints5 Hh_29.out) (own_ints5 Hp_30.out) (by omega)).mono ?_
    rintro e w13 ⟨rfl, n32, rfl⟩
    have hdr : Below w12.heap.size w12 (w12.drewN n32) := gDrewN n32
    have Hp_33 := Lib.hid (Hp_30.out.below hdr)
    have Hg_33 := Lib.hid (Hg_30.out.below hdr)
    have Hh_33 := Lib.hid (Hh_29.out.below hdr)
    have HB_34 := Lib.hid (below_more HB_31.out hdr)
    clear Hp_30 Hg_30 Hh_29 HB_31
    clear hdr
    generalize w12.drewN n32 = w13 at *
    go_wp2_with fail
    refine (heldInts_any Ag 1 V.length cg _ (own_ints5 Hg_33.out) (by omega) (by omega) (by omega)).mono ?_
    rintro e wh ⟨rfl, rfl⟩
    go_wp2_with fail
    go_ret
    exact ⟨rfl, HB_34.out⟩
  · have hli : ((-1 : Int)) < 0 := by omega
    clear hI
    go_enter Try.func6, Try.ntmps6
    go_wp2_with fail
    refine (szPointS_no A ls.length ca w hlm hl).mono ?_
    rintro e w0 ⟨rfl, rfl⟩
    go_wp2_with fail
    go_ret
    exact ⟨rfl, Below.refl _ _⟩

set_option maxRecDepth 100000 in
set_option maxHeartbeats 2000000 in
theorem goodPoints_law {K : World → Prop} (hK : Stays5 K) (hI : ∀ (A : Option Addr) (ls : List (Int × Int)) (ca : Nat) (w : World), K w → Lets w A ls → ls.length ≤ 1048576 → ls.length ≤ ca → Calls Try.prog 14 #[.slice A ls.length ca] w fun e w' => e = .returned (.bool (goodPB ls)) ∧ Below w.heap.size w w')
    (A : Option Addr) (ls : List (Int × Int)) (ca : Nat) (w : World) (hw : K w) (ha : Lets w A ls) (hlm : ls.length ≤ 9223372036854775807) : Calls Try.prog 7 #[.slice A ls.length ca] w fun e w' => e = .returned (.bool true) ∧ Below w.heap.size w w' := by
  by_cases hl : ls.length ≤ 1048576
  · have hli : ¬ ((1048576 : Int) - (ls.length : Int) < 0) := by omega
    have HI := Lib.hid (fun A ca w hk ha hc => hI A ls ca w hk ha hl hc)
    have HS := Lib.hid (fun A ca w ha (_ : ls.length ≤ ca) => sGoodP_any A ls ca w ha hl)
    have HW := Lib.hid hw
    have HA := Lib.hid ha
    have hqL := eqLs_self ls
    clear ha hI hw
    generalize goodPB ls = a5 at *
    go_enter Try.func7, Try.ntmps7
    go_wp2_with fail
    refine (szPointS_ok A ls.length ca w hl).mono ?_
    rintro e w0 ⟨rfl, rfl⟩
    go_wp2_with fail
    refine (toPointS_any A ls ca _ HA.out hl).mono ?_
    rintro e w1 ⟨vt, rfl, hot, hbt⟩
    obtain ⟨At, ct, rfl, hcapt, _⟩ := hot.form
    have Ht_1 := Lib.hid (hot)
    have HB_3 := Lib.hid (hbt)
    clear hot hbt
    go_wp2_with fail
    refine (HS.out At ct _ (own_pts7 Ht_1.out) hcapt).mono ?_
    rintro e w2 ⟨rfl, hbp⟩
    clear Ht_1
    have HB_6 := Lib.hid (below_more HB_3.out hbp)
    clear HB_3 hbp HS
    go_wp2_with fail
    refine (toPointS_any A ls ca _ (HA.out.below HB_6.out) hl).mono ?_
    rintro e w3 ⟨vx, rfl, hox, hbx⟩
    obtain ⟨Ax, cx, rfl, hcapx, _⟩ := hox.form
    have Hx_7 := Lib.hid (hox.lower HB_6.out.size)
    have HB_9 := Lib.hid (below_more HB_6.out hbx)
    clear HB_6 hox hbx
    go_wp2_with fail
    refine (HI.out Ax cx _ (hK _ _ HW.out HB_9.out) (own_pts7 Hx_7.out) hcapx).mono ?_
    rintro e w4 ⟨rfl, hbg⟩
    have Hx_11 := Lib.hid (Hx_7.out.below hbg)
    have HB_12 := Lib.hid (below_more HB_9.out hbg)
    clear Hx_7 HB_9 hbg
    go_wp2_with fail
    refine (toPointS_any A ls ca _ (HA.out.below HB_12.out) hl).mono ?_
    rintro e w6 ⟨vb, rfl, hob, hbb⟩
    obtain ⟨Ab, cb, rfl, hcapb, _⟩ := hob.form
    have Hb_16 := Lib.hid (hob.lower HB_12.out.size)
    have Hx_17 := Lib.hid (Hx_11.out.below hbb)
    have HB_18 := Lib.hid (below_more HB_12.out hbb)
    clear Hx_11 HB_12 hob hbb
    go_wp2_with fail
    refine (eqPointS_any Ax Ab ls ls cx cb _ (own_pts7 Hx_17.out) (own_pts7 Hb_16.out) hl).mono ?_
    rintro e w7 ⟨rfl, hbq⟩
    have HB_20 := Lib.hid (below_more HB_18.out hbq)
    clear hbq HB_18
    go_wp2_with fail
    go_ret
    exact ⟨rfl, HB_20.out⟩
  · have hli : ((-1 : Int)) < 0 := by omega
    clear hI
    go_enter Try.func7, Try.ntmps7
    go_wp2_with fail
    refine (szPointS_no A ls.length ca w hlm hl).mono ?_
    rintro e w0 ⟨rfl, rfl⟩
    go_wp2_with fail
    go_ret
    exact ⟨rfl, Below.refl _ _⟩

set_option maxRecDepth 100000 in
set_option maxHeartbeats 4000000 in
theorem agreeWith_law {K : World → Prop} (hK : Stays5 K) (hI : ∀ (A B : Option Addr) (zs : List Int) (ls : List (Int × Int)) (ca cb : Nat) (w : World), K w → Ints w A zs → Lets w B ls → zs.length ≤ 1048576 → ls.length ≤ 1048576 → zs.length ≤ ca → ls.length ≤ cb → Calls Try.prog 18 #[.slice A zs.length ca, .slice B ls.length cb] w fun e w' => e = .returned (.tuple #[.int .i64 (agI zs ls), .bool (agOkB zs ls)]) ∧ Below w.heap.size w w')
    (A : Option Addr) (zs : List Int) (ca : Nat) (B : Option Addr) (ls : List (Int × Int)) (cb : Nat) (w : World) (hw : K w) (ha : Ints w A zs) (hb : Lets w B ls) (hlm : ls.length ≤ 9223372036854775807) : Calls Try.prog 9 #[.slice A zs.length ca, .slice B ls.length cb] w fun e w' => e = .returned (.bool true) ∧ Below w.heap.size w w' := by
  by_cases hl : zs.length ≤ 1048576
  · have hli : ¬ (1048576 : Int) < (zs.length : Int) := by omega
    by_cases hl2 : ls.length ≤ 1048576
    · have hli2 : ¬ ((1048576 : Int) - (ls.length : Int) < 0) := by omega
      have HI := Lib.hid (fun A B ca cb w hk h1 h2 c1 c2 => hI A B zs ls ca cb w hk h1 h2 hl hl2 c1 c2)
      have HS := Lib.hid (fun A B ca cb w h1 h2 => sAgree_any A B zs ls ca cb w h1 h2 hl hl2)
      have HW := Lib.hid hw
      have HA := Lib.hid ha
      have HP := Lib.hid hb
      have hq : eqL zs zs = true := by simp [eqL]
      have hqL := eqLs_self ls
      clear hI hw ha hb
      generalize agI zs ls = a1 at *
      generalize agOkB zs ls = a5 at *
      go_enter Try.func9, Try.ntmps9
      go_wp2_with fail
      refine (szPointS_ok B ls.length cb w hl2).mono ?_
      rintro e w0 ⟨rfl, rfl⟩
      go_wp2_with fail
      refine (toInts_any A zs ca _ HA.out (by omega)).mono ?_
      rintro e w1 ⟨v1, rfl, ho1, hb1⟩
      obtain ⟨A1, c1, rfl, hI1⟩ := ho1.form
      have HI1 := Lib.hid hI1
      have HB1 := Lib.hid hb1
      clear ho1 hI1 hb1
      go_wp2_with fail
      refine (toPointS_any B ls cb _ (HP.out.below HB1.out) hl2).mono ?_
      rintro e w2 ⟨v2, rfl, ho2, hb2⟩
      obtain ⟨A2, c2, rfl, _, hI2⟩ := ho2.form
      have HI2 := Lib.hid hI2
      have HI1' := Lib.hid (HI1.out.below hb2)
      have HB2 := Lib.hid (below_more HB1.out hb2)
      clear ho2 hI2 hb2 HB1 HI1
      go_wp2_with fail
      refine (HS.out A1 A2 c1 c2 _ HI1'.out HI2.out).mono ?_
      rintro e w3 ⟨rfl, hb3⟩
      have HB3 := Lib.hid (below_more HB2.out hb3)
      clear hb3 HB2 HI1' HI2 HS
      go_wp2_with fail
      refine (toInts_any A zs ca _ (HA.out.below HB3.out) (by omega)).mono ?_
      rintro e w4 ⟨v4, rfl, ho4, hb4⟩
      obtain ⟨A4, c4, rfl, hcap4, hI4⟩ := gFormC ho4
      have HI4 := Lib.hid hI4
      have HB4 := Lib.hid (below_more HB3.out hb4)
      clear ho4 hI4 hb4 HB3
      go_wp2_with fail
      refine (toPointS_any B ls cb _ (HP.out.below HB4.out) hl2).mono ?_
      rintro e w5 ⟨v5, rfl, ho5, hb5⟩
      obtain ⟨A5, c5, rfl, hcap5, hI5⟩ := ho5.form
      have HI5 := Lib.hid hI5
      have HI4' := Lib.hid (HI4.out.below hb5)
      have HB5 := Lib.hid (below_more HB4.out hb5)
      clear ho5 hI5 hb5 HB4 HI4
      go_wp2_with fail
      refine (HI.out A4 A5 c4 c5 _ (hK _ _ HW.out HB5.out) HI4'.out HI5.out hcap4 hcap5).mono ?_
      rintro e w6 ⟨rfl, hb6⟩
      have HI4 := Lib.hid (HI4'.out.below hb6)
      have HI5' := Lib.hid (HI5.out.below hb6)
      have HB6 := Lib.hid (below_more HB5.out hb6)
      clear hb6 HB5 HI4' HI5
      go_wp2_with fail
      refine (toInts_any A zs ca _ (HA.out.below HB6.out) (by omega)).mono ?_
      rintro e w7 ⟨v7, rfl, ho7, hb7⟩
      obtain ⟨A7, c7, rfl, hI7⟩ := ho7.form
      have HI7 := Lib.hid hI7
      have HI4' := Lib.hid (HI4.out.below hb7)
      have HI5 := Lib.hid (HI5'.out.below hb7)
      have HB7 := Lib.hid (below_more HB6.out hb7)
      clear ho7 hI7 hb7 HB6 HI4 HI5'
      go_wp2_with fail
      refine (eqInts_any A4 A7 zs zs c4 c7 _ HI4'.out HI7.out (by omega)).mono ?_
      rintro e w8 ⟨rfl, n8, rfl⟩
      have hd8 : Below w7.heap.size w7 (w7.drewN n8) := gDrewN n8
      have HI5' := Lib.hid (HI5.out.below hd8)
      have HB8 := Lib.hid (below_more HB7.out hd8)
      clear hd8 HB7 HI5 HI4' HI7
      generalize w7.drewN n8 = w8 at *
      go_wp2_with fail
      refine (toPointS_any B ls cb _ (HP.out.below HB8.out) hl2).mono ?_
      rintro e w9 ⟨v9, rfl, ho9, hb9⟩
      obtain ⟨A9, c9, rfl, _, hI9⟩ := ho9.form
      have HI9 := Lib.hid hI9
      have HI5 := Lib.hid (HI5'.out.below hb9)
      have HB9 := Lib.hid (below_more HB8.out hb9)
      clear ho9 hI9 hb9 HB8 HI5'
      go_wp2_with fail
      refine (eqPointS_any A5 A9 ls ls c5 c9 _ HI5.out HI9.out hl2).mono ?_
      rintro e w10 ⟨rfl, hb10⟩
      have HB10 := Lib.hid (below_more HB9.out hb10)
      go_wp2_with fail
      go_ret
      exact ⟨rfl, HB10.out⟩
    · have hli2 : ((-1 : Int)) < 0 := by omega
      clear hI
      go_enter Try.func9, Try.ntmps9
      go_wp2_with fail
      refine (szPointS_no B ls.length cb w hlm hl2).mono ?_
      rintro e w0 ⟨rfl, rfl⟩
      go_wp2_with fail
      go_ret
      exact ⟨rfl, Below.refl _ _⟩
  · have hli : (1048576 : Int) < (zs.length : Int) := by omega
    clear hI
    go_enter Try.func9, Try.ntmps9
    go_wp2_with fail
    go_ret
    exact ⟨rfl, Below.refl _ _⟩
end Go.Proofs.Ytjifpedhncgieaa
