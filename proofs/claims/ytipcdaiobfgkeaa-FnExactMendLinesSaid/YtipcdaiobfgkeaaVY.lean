/-
  The exact law of MendLines, walked, whatever the program's own texts are.
-/
import Derived.Test.YtipcdaiobfgkeaaVO
import Derived.Test.YtipcdaiobfgkeaaKQ
namespace Go.Proofs.Ytipcdaiobfgkeaa
open Go.RowKit

theorem own8_lies {w : World} {base : Nat} {v : Value} {zs : List Int} (h : Own w base v zs) : ∀ A c, v = .slice A zs.length c → Lies8 A c := fun A c e => by
  rcases h.2 with ⟨e', _⟩ | ⟨g, cap, cur, e', _⟩
  · rw [e'] at e
    injection e with e1 e2 e3
    exact Or.inl ⟨e1.symm, e3.symm⟩
  · rw [e'] at e
    injection e with e1
    exact Or.inr ⟨g, 0, e1.symm⟩
set_option maxRecDepth 100000 in
set_option maxHeartbeats 16000000 in
theorem mendLines_law {K : World → Prop} (hK : Stays5 K)
    (hI : ∀ (A B C : Option Addr) (zs ps ks : List Int) (ca cb cc : Nat) (n : Int) (w : World), K w → Ints w A zs → Ints w B ps → Ints w C ks → Lies8 A ca → Lies8 B cb → Lies8 C cc → zs.length ≤ 1048576 → ps.length ≤ 1048576 → ks.length ≤ 1048576 → zs.length ≤ ca → ps.length ≤ cb → ks.length ≤ cc → Calls Try.prog 27 #[.slice A zs.length ca, .int .i64 n, .slice B ps.length cb, .slice C ks.length cc] w fun e w' => ∃ v, e = .returned (.tuple #[v, .bool (mdOkB zs n ps ks)]) ∧ Own w' w.heap.size v (mdI zs n ps ks) ∧ Below w.heap.size w w')
    (A : Option Addr) (zs : List Int) (ca : Nat) (n : Int) (B : Option Addr) (ps : List Int) (cb : Nat) (C : Option Addr) (ks : List Int) (cc : Nat) (w : World) (hw : K w) (ha : Ints w A zs) (hb : Ints w B ps) (hc : Ints w C ks) :
    Calls Try.prog 11 #[.slice A zs.length ca, .int .i64 n, .slice B ps.length cb, .slice C ks.length cc] w fun e w' => e = .returned (.bool true) ∧ Below w.heap.size w w' := by
  by_cases hl : zs.length ≤ 1048576
  · have hli : ¬ (1048576 : Int) < (zs.length : Int) := by omega
    by_cases hl2 : ps.length ≤ 1048576
    · have hli2 : ¬ (1048576 : Int) < (ps.length : Int) := by omega
      by_cases hl3 : ks.length ≤ 1048576
      · have hli3 : ¬ (1048576 : Int) < (ks.length : Int) := by omega
        have hVl := mdI_len zs n ps ks
        have HI := Lib.hid (fun A ca B cb C cc w hk ha hb hc l1 l2 l3 h1 h2 h3 => hI A B C zs ps ks ca cb cc n w hk ha hb hc l1 l2 l3 hl hl2 hl3 h1 h2 h3)
        have HS := Lib.hid (fun A ca B cb C cc w ha hb hc (l1 : Lies8 A ca) (_ : Lies8 B cb) (_ : Lies8 C cc) => sMend_any A B C zs ps ks ca cb cc n w ha hb hc l1 hl hl2 hl3)
        have HW := Lib.hid hw
        have HA0 := Lib.hid ha
        have HA1 := Lib.hid hb
        have HA2 := Lib.hid hc
        have hqz : eqL zs zs = true := by simp [eqL]
        have hqp : eqL ps ps = true := by simp [eqL]
        have hqk : eqL ks ks = true := by simp [eqL]
        clear hI hw ha hb hc
        generalize mdI zs n ps ks = V at *
        generalize mdOkB zs n ps ks = a5 at *
        have hq : eqL V V = true := by simp [eqL]
        have hml := marks_length 1 V.length
        go_enter Try.func11, Try.ntmps11
        go_wp2_with fail
        refine (toInts_any A zs ca _ HA0.out (by omega)).mono ?_
        rintro e w1 ⟨vt1, rfl, hot1, hbt1⟩
        have HLit1 := Lib.hid (own8_lies hot1)
        obtain ⟨At1, ct1, rfl, hcapt1, _⟩ := gFormC hot1
        have Ht1_1 := Lib.hid (hot1)
        have HB_3 := Lib.hid (hbt1)
        clear hot1 hbt1
        go_wp2_with fail
        refine (toInts_any B ps cb _ (HA1.out.below HB_3.out) (by omega)).mono ?_
        rintro e w2 ⟨vt2, rfl, hot2, hbt2⟩
        have HLit2 := Lib.hid (own8_lies hot2)
        obtain ⟨At2, ct2, rfl, hcapt2, _⟩ := gFormC hot2
        have HAp_t1_t2 := Lib.hid (apart5 (fun k hk => (Ht1_1.out.lt k hk).2) (fun k hk => (hot2.lt k hk).1))
        have Ht2_4 := Lib.hid (hot2.lower HB_3.out.size)
        have Ht1_5 := Lib.hid (Ht1_1.out.below hbt2)
        have HB_6 := Lib.hid (below_more HB_3.out hbt2)
        clear Ht1_1 HB_3
        clear hot2 hbt2
        go_wp2_with fail
        refine (toInts_any C ks cc _ (HA2.out.below HB_6.out) (by omega)).mono ?_
        rintro e w3 ⟨vt3, rfl, hot3, hbt3⟩
        have HLit3 := Lib.hid (own8_lies hot3)
        obtain ⟨At3, ct3, rfl, hcapt3, _⟩ := gFormC hot3
        have HAp_t1_t3 := Lib.hid (apart5 (fun k hk => (Ht1_5.out.lt k hk).2) (fun k hk => (hot3.lt k hk).1))
        have HAp_t2_t3 := Lib.hid (apart5 (fun k hk => (Ht2_4.out.lt k hk).2) (fun k hk => (hot3.lt k hk).1))
        have Ht3_7 := Lib.hid (hot3.lower HB_6.out.size)
        have Ht1_8 := Lib.hid (Ht1_5.out.below hbt3)
        have Ht2_8 := Lib.hid (Ht2_4.out.below hbt3)
        have HB_9 := Lib.hid (below_more HB_6.out hbt3)
        clear Ht1_5 Ht2_4 HB_6
        clear hot3 hbt3
        go_wp2_with fail
        refine (HS.out At1 ct1 At2 ct2 At3 ct3 _ (own_ints5 Ht1_8.out) (own_ints5 Ht2_8.out) (own_ints5 Ht3_7.out) (HLit1.out _ _ rfl) (HLit2.out _ _ rfl) (HLit3.out _ _ rfl) ).mono ?_
        rintro e w4 ⟨vp, rfl, hop, hbp⟩
        obtain ⟨Ap, cp, rfl, _⟩ := hop.form
        clear Ht1_8 Ht2_8 Ht3_7
        have Hp_10 := Lib.hid (hop.lower HB_9.out.size)
        have HB_12 := Lib.hid (below_more HB_9.out hbp)
        clear HB_9
        clear hop hbp HS
        go_wp2_with fail
        refine (toInts_any A zs ca _ (HA0.out.below HB_12.out) (by omega)).mono ?_
        rintro e w5 ⟨vx1, rfl, hox1, hbx1⟩
        have HLix1 := Lib.hid (own8_lies hox1)
        obtain ⟨Ax1, cx1, rfl, hcapx1, _⟩ := gFormC hox1
        have HAp_p_x1 := Lib.hid (apart5 (fun k hk => (Hp_10.out.lt k hk).2) (fun k hk => (hox1.lt k hk).1))
        have Hx1_13 := Lib.hid (hox1.lower HB_12.out.size)
        have Hp_14 := Lib.hid (Hp_10.out.below hbx1)
        have HB_15 := Lib.hid (below_more HB_12.out hbx1)
        clear Hp_10 HB_12
        clear hox1 hbx1
        go_wp2_with fail
        refine (toInts_any B ps cb _ (HA1.out.below HB_15.out) (by omega)).mono ?_
        rintro e w6 ⟨vx2, rfl, hox2, hbx2⟩
        have HLix2 := Lib.hid (own8_lies hox2)
        obtain ⟨Ax2, cx2, rfl, hcapx2, _⟩ := gFormC hox2
        have HAp_p_x2 := Lib.hid (apart5 (fun k hk => (Hp_14.out.lt k hk).2) (fun k hk => (hox2.lt k hk).1))
        have HAp_x1_x2 := Lib.hid (apart5 (fun k hk => (Hx1_13.out.lt k hk).2) (fun k hk => (hox2.lt k hk).1))
        have Hx2_16 := Lib.hid (hox2.lower HB_15.out.size)
        have Hp_17 := Lib.hid (Hp_14.out.below hbx2)
        have Hx1_17 := Lib.hid (Hx1_13.out.below hbx2)
        have HB_18 := Lib.hid (below_more HB_15.out hbx2)
        clear Hp_14 Hx1_13 HB_15
        clear hox2 hbx2
        go_wp2_with fail
        refine (toInts_any C ks cc _ (HA2.out.below HB_18.out) (by omega)).mono ?_
        rintro e w7 ⟨vx3, rfl, hox3, hbx3⟩
        have HLix3 := Lib.hid (own8_lies hox3)
        obtain ⟨Ax3, cx3, rfl, hcapx3, _⟩ := gFormC hox3
        have HAp_p_x3 := Lib.hid (apart5 (fun k hk => (Hp_17.out.lt k hk).2) (fun k hk => (hox3.lt k hk).1))
        have HAp_x1_x3 := Lib.hid (apart5 (fun k hk => (Hx1_17.out.lt k hk).2) (fun k hk => (hox3.lt k hk).1))
        have HAp_x2_x3 := Lib.hid (apart5 (fun k hk => (Hx2_16.out.lt k hk).2) (fun k hk => (hox3.lt k hk).1))
        have Hx3_19 := Lib.hid (hox3.lower HB_18.out.size)
        have Hp_20 := Lib.hid (Hp_17.out.below hbx3)
        have Hx1_20 := Lib.hid (Hx1_17.out.below hbx3)
        have Hx2_20 := Lib.hid (Hx2_16.out.below hbx3)
        have HB_21 := Lib.hid (below_more HB_18.out hbx3)
        clear Hp_17 Hx1_17 Hx2_16 HB_18
        clear hox3 hbx3
        go_wp2_with fail
        refine (HI.out Ax1 cx1 Ax2 cx2 Ax3 cx3 _ (hK _ _ HW.out HB_21.out) (own_ints5 Hx1_20.out) (own_ints5 Hx2_20.out) (own_ints5 Hx3_19.out) (HLix1.out _ _ rfl) (HLix2.out _ _ rfl) (HLix3.out _ _ rfl) hcapx1 hcapx2 hcapx3).mono ?_
        rintro e w8 ⟨vg, rfl, hog, hbg⟩
        obtain ⟨Ag, cg, rfl, _⟩ := hog.form
        have HAp_p_g := Lib.hid (apart5 (fun k hk => (Hp_20.out.lt k hk).2) (fun k hk => (hog.lt k hk).1))
        have HAp_x1_g := Lib.hid (apart5 (fun k hk => (Hx1_20.out.lt k hk).2) (fun k hk => (hog.lt k hk).1))
        have HAp_x2_g := Lib.hid (apart5 (fun k hk => (Hx2_20.out.lt k hk).2) (fun k hk => (hog.lt k hk).1))
        have HAp_x3_g := Lib.hid (apart5 (fun k hk => (Hx3_19.out.lt k hk).2) (fun k hk => (hog.lt k hk).1))
        have Hg_22 := Lib.hid (hog.lower HB_21.out.size)
        have Hp_23 := Lib.hid (Hp_20.out.below hbg)
        have Hx1_23 := Lib.hid (Hx1_20.out.below hbg)
        have Hx2_23 := Lib.hid (Hx2_20.out.below hbg)
        have Hx3_23 := Lib.hid (Hx3_19.out.below hbg)
        have HB_24 := Lib.hid (below_more HB_21.out hbg)
        clear Hp_20 Hx1_20 Hx2_20 Hx3_19 HB_21
        clear hog hbg
        go_wp2_with fail
        refine (eqInts_any Ag Ap V V cg cp _ (own_ints5 Hg_22.out) (own_ints5 Hp_23.out) (by omega)).mono ?_
        rintro e w9 ⟨rfl, n25, rfl⟩
        have hdr : Below w8.heap.size w8 (w8.drewN n25) := gDrewN n25
        have Hp_26 := Lib.hid (Hp_23.out.below hdr)
        have Hx1_26 := Lib.hid (Hx1_23.out.below hdr)
        have Hx2_26 := Lib.hid (Hx2_23.out.below hdr)
        have Hx3_26 := Lib.hid (Hx3_23.out.below hdr)
        have Hg_26 := Lib.hid (Hg_22.out.below hdr)
        have HB_27 := Lib.hid (below_more HB_24.out hdr)
        clear Hp_23 Hx1_23 Hx2_23 Hx3_23 Hg_22 HB_24
        clear hdr
        generalize w8.drewN n25 = w9 at *
        go_wp2_with fail
        refine (toInts_any A zs ca _ (HA0.out.below HB_27.out) (by omega)).mono ?_
        rintro e w10 ⟨vr1, rfl, hor1, hbr1⟩
        have HLir1 := Lib.hid (own8_lies hor1)
        obtain ⟨Ar1, cr1, rfl, hcapr1, _⟩ := gFormC hor1
        have HAp_p_r1 := Lib.hid (apart5 (fun k hk => (Hp_26.out.lt k hk).2) (fun k hk => (hor1.lt k hk).1))
        have HAp_x1_r1 := Lib.hid (apart5 (fun k hk => (Hx1_26.out.lt k hk).2) (fun k hk => (hor1.lt k hk).1))
        have HAp_x2_r1 := Lib.hid (apart5 (fun k hk => (Hx2_26.out.lt k hk).2) (fun k hk => (hor1.lt k hk).1))
        have HAp_x3_r1 := Lib.hid (apart5 (fun k hk => (Hx3_26.out.lt k hk).2) (fun k hk => (hor1.lt k hk).1))
        have HAp_g_r1 := Lib.hid (apart5 (fun k hk => (Hg_26.out.lt k hk).2) (fun k hk => (hor1.lt k hk).1))
        have Hr1_28 := Lib.hid (hor1.lower HB_27.out.size)
        have Hp_29 := Lib.hid (Hp_26.out.below hbr1)
        have Hx1_29 := Lib.hid (Hx1_26.out.below hbr1)
        have Hx2_29 := Lib.hid (Hx2_26.out.below hbr1)
        have Hx3_29 := Lib.hid (Hx3_26.out.below hbr1)
        have Hg_29 := Lib.hid (Hg_26.out.below hbr1)
        have HB_30 := Lib.hid (below_more HB_27.out hbr1)
        clear Hp_26 Hx1_26 Hx2_26 Hx3_26 Hg_26 HB_27
        clear hor1 hbr1
        go_wp2_with fail
        refine (eqInts_any Ax1 Ar1 zs zs cx1 cr1 _ (own_ints5 Hx1_29.out) (own_ints5 Hr1_28.out) (by omega)).mono ?_
        rintro e w11 ⟨rfl, n31, rfl⟩
        have hdr : Below w10.heap.size w10 (w10.drewN n31) := gDrewN n31
        have Hp_32 := Lib.hid (Hp_29.out.below hdr)
        have Hx1_32 := Lib.hid (Hx1_29.out.below hdr)
        have Hx2_32 := Lib.hid (Hx2_29.out.below hdr)
        have Hx3_32 := Lib.hid (Hx3_29.out.below hdr)
        have Hg_32 := Lib.hid (Hg_29.out.below hdr)
        have Hr1_32 := Lib.hid (Hr1_28.out.below hdr)
        have HB_33 := Lib.hid (below_more HB_30.out hdr)
        clear Hp_29 Hx1_29 Hx2_29 Hx3_29 Hg_29 Hr1_28 HB_30
        clear hdr
        generalize w10.drewN n31 = w11 at *
        clear Hr1_32
        go_wp2_with fail
        refine (toInts_any B ps cb _ (HA1.out.below HB_33.out) (by omega)).mono ?_
        rintro e w12 ⟨vr2, rfl, hor2, hbr2⟩
        have HLir2 := Lib.hid (own8_lies hor2)
        obtain ⟨Ar2, cr2, rfl, hcapr2, _⟩ := gFormC hor2
        have HAp_p_r2 := Lib.hid (apart5 (fun k hk => (Hp_32.out.lt k hk).2) (fun k hk => (hor2.lt k hk).1))
        have HAp_x1_r2 := Lib.hid (apart5 (fun k hk => (Hx1_32.out.lt k hk).2) (fun k hk => (hor2.lt k hk).1))
        have HAp_x2_r2 := Lib.hid (apart5 (fun k hk => (Hx2_32.out.lt k hk).2) (fun k hk => (hor2.lt k hk).1))
        have HAp_x3_r2 := Lib.hid (apart5 (fun k hk => (Hx3_32.out.lt k hk).2) (fun k hk => (hor2.lt k hk).1))
        have HAp_g_r2 := Lib.hid (apart5 (fun k hk => (Hg_32.out.lt k hk).2) (fun k hk => (hor2.lt k hk).1))
        have Hr2_34 := Lib.hid (hor2.lower HB_33.out.size)
        have Hp_35 := Lib.hid (Hp_32.out.below hbr2)
        have Hx1_35 := Lib.hid (Hx1_32.out.below hbr2)
        have Hx2_35 := Lib.hid (Hx2_32.out.below hbr2)
        have Hx3_35 := Lib.hid (Hx3_32.out.below hbr2)
        have Hg_35 := Lib.hid (Hg_32.out.below hbr2)
        have HB_36 := Lib.hid (below_more HB_33.out hbr2)
        clear Hp_32 Hx1_32 Hx2_32 Hx3_32 Hg_32 HB_33
        clear hor2 hbr2
        go_wp2_with fail
        refine (eqInts_any Ax2 Ar2 ps ps cx2 cr2 _ (own_ints5 Hx2_35.out) (own_ints5 Hr2_34.out) (by omega)).mono ?_
        rintro e w13 ⟨rfl, n37, rfl⟩
        have hdr : Below w12.heap.size w12 (w12.drewN n37) := gDrewN n37
        have Hp_38 := Lib.hid (Hp_35.out.below hdr)
        have Hx1_38 := Lib.hid (Hx1_35.out.below hdr)
        have Hx2_38 := Lib.hid (Hx2_35.out.below hdr)
        have Hx3_38 := Lib.hid (Hx3_35.out.below hdr)
        have Hg_38 := Lib.hid (Hg_35.out.below hdr)
        have Hr2_38 := Lib.hid (Hr2_34.out.below hdr)
        have HB_39 := Lib.hid (below_more HB_36.out hdr)
        clear Hp_35 Hx1_35 Hx2_35 Hx3_35 Hg_35 Hr2_34 HB_36
        clear hdr
        generalize w12.drewN n37 = w13 at *
        clear Hr2_38
        go_wp2_with fail
        refine (toInts_any C ks cc _ (HA2.out.below HB_39.out) (by omega)).mono ?_
        rintro e w14 ⟨vr3, rfl, hor3, hbr3⟩
        have HLir3 := Lib.hid (own8_lies hor3)
        obtain ⟨Ar3, cr3, rfl, hcapr3, _⟩ := gFormC hor3
        have HAp_p_r3 := Lib.hid (apart5 (fun k hk => (Hp_38.out.lt k hk).2) (fun k hk => (hor3.lt k hk).1))
        have HAp_x1_r3 := Lib.hid (apart5 (fun k hk => (Hx1_38.out.lt k hk).2) (fun k hk => (hor3.lt k hk).1))
        have HAp_x2_r3 := Lib.hid (apart5 (fun k hk => (Hx2_38.out.lt k hk).2) (fun k hk => (hor3.lt k hk).1))
        have HAp_x3_r3 := Lib.hid (apart5 (fun k hk => (Hx3_38.out.lt k hk).2) (fun k hk => (hor3.lt k hk).1))
        have HAp_g_r3 := Lib.hid (apart5 (fun k hk => (Hg_38.out.lt k hk).2) (fun k hk => (hor3.lt k hk).1))
        have Hr3_40 := Lib.hid (hor3.lower HB_39.out.size)
        have Hp_41 := Lib.hid (Hp_38.out.below hbr3)
        have Hx1_41 := Lib.hid (Hx1_38.out.below hbr3)
        have Hx2_41 := Lib.hid (Hx2_38.out.below hbr3)
        have Hx3_41 := Lib.hid (Hx3_38.out.below hbr3)
        have Hg_41 := Lib.hid (Hg_38.out.below hbr3)
        have HB_42 := Lib.hid (below_more HB_39.out hbr3)
        clear Hp_38 Hx1_38 Hx2_38 Hx3_38 Hg_38 HB_39
        clear hor3 hbr3
        go_wp2_with fail
        refine (eqInts_any Ax3 Ar3 ks ks cx3 cr3 _ (own_ints5 Hx3_41.out) (own_ints5 Hr3_40.out) (by omega)).mono ?_
        rintro e w15 ⟨rfl, n43, rfl⟩
        have hdr : Below w14.heap.size w14 (w14.drewN n43) := gDrewN n43
        have Hp_44 := Lib.hid (Hp_41.out.below hdr)
        have Hx1_44 := Lib.hid (Hx1_41.out.below hdr)
        have Hx2_44 := Lib.hid (Hx2_41.out.below hdr)
        have Hx3_44 := Lib.hid (Hx3_41.out.below hdr)
        have Hg_44 := Lib.hid (Hg_41.out.below hdr)
        have Hr3_44 := Lib.hid (Hr3_40.out.below hdr)
        have HB_45 := Lib.hid (below_more HB_42.out hdr)
        clear Hp_41 Hx1_41 Hx2_41 Hx3_41 Hg_41 Hr3_40 HB_42
        clear hdr
        generalize w14.drewN n43 = w15 at *
        clear Hr3_44
        go_wp2_with fail
        refine (markInts_any _ zs _ 1 _ Hx1_44.out (by omega) (by omega) (by omega)).mono ?_
        rintro e w16 ⟨rfl, hom, hgm⟩
        have HMb := Lib.hid (fun k hk => (Hx1_44.out.lt k hk).1)
        have Hp_46 := Lib.hid (Hp_44.out.kept hgm HAp_p_x1.out)
        have Hx2_46 := Lib.hid (Hx2_44.out.kept hgm (gApart HAp_x1_x2.out))
        have Hx3_46 := Lib.hid (Hx3_44.out.kept hgm (gApart HAp_x1_x3.out))
        have Hg_46 := Lib.hid (Hg_44.out.kept hgm (gApart HAp_x1_g.out))
        have Hx1_46 := Lib.hid hom
        have HB_46 : Hid (Below w.heap.size w w16) := HB_45.out.grown hgm HB_45.out.size HMb.out
        clear HMb hgm hom Hx1_44 Hp_44 Hx2_44 Hx3_44 Hg_44 HB_45
        clear Hx1_46
        go_wp2_with fail
        refine (markInts_any _ ps _ (1 + (zs.length : Int)) _ Hx2_46.out (by omega) (by omega) (by omega)).mono ?_
        rintro e w17 ⟨rfl, hom, hgm⟩
        have HMb := Lib.hid (fun k hk => (Hx2_46.out.lt k hk).1)
        have Hp_47 := Lib.hid (Hp_46.out.kept hgm HAp_p_x2.out)
        have Hx3_47 := Lib.hid (Hx3_46.out.kept hgm (gApart HAp_x2_x3.out))
        have Hg_47 := Lib.hid (Hg_46.out.kept hgm (gApart HAp_x2_g.out))
        have Hx2_47 := Lib.hid hom
        have HB_47 : Hid (Below w.heap.size w w17) := HB_46.out.grown hgm HB_46.out.size HMb.out
        clear HMb hgm hom Hx2_46 Hp_46 Hx3_46 Hg_46 HB_46
        clear Hx2_47
        go_wp2_with fail
        refine (markInts_any _ ks _ (1 + (zs.length : Int) + (ps.length : Int)) _ Hx3_47.out (by omega) (by omega) (by omega)).mono ?_
        rintro e w18 ⟨rfl, hom, hgm⟩
        have HMb := Lib.hid (fun k hk => (Hx3_47.out.lt k hk).1)
        have Hp_48 := Lib.hid (Hp_47.out.kept hgm HAp_p_x3.out)
        have Hg_48 := Lib.hid (Hg_47.out.kept hgm (gApart HAp_x3_g.out))
        have Hx3_48 := Lib.hid hom
        have HB_48 : Hid (Below w.heap.size w w18) := HB_47.out.grown hgm HB_47.out.size HMb.out
        clear HMb hgm hom Hx3_47 Hp_47 Hg_47 HB_47
        clear Hx3_48
        go_wp2_with fail
        refine (eqInts_any Ag Ap V V cg cp _ (own_ints5 Hg_48.out) (own_ints5 Hp_48.out) (by omega)).mono ?_
        rintro e w19 ⟨rfl, n49, rfl⟩
        have hdr : Below w18.heap.size w18 (w18.drewN n49) := gDrewN n49
        have Hp_50 := Lib.hid (Hp_48.out.below hdr)
        have Hg_50 := Lib.hid (Hg_48.out.below hdr)
        have HB_51 := Lib.hid (below_more HB_48.out hdr)
        clear Hp_48 Hg_48 HB_48
        clear hdr
        generalize w18.drewN n49 = w19 at *
        go_wp2_with fail
        refine (markInts_any _ V _ 1 _ Hg_50.out (by omega) (by omega) (by omega)).mono ?_
        rintro e w20 ⟨rfl, hom, hgm⟩
        have HMb := Lib.hid (fun k hk => (Hg_50.out.lt k hk).1)
        have Hp_52 := Lib.hid (Hp_50.out.kept hgm HAp_p_g.out)
        have Hg_52 := Lib.hid hom
        have HB_52 : Hid (Below w.heap.size w w20) := HB_51.out.grown hgm HB_51.out.size HMb.out
        clear HMb hgm hom Hg_50 Hp_50 HB_51
        go_wp2_with fail
        refine (heldInts_any Ag 1 V.length cg _ (own_ints5 Hg_52.out) (by omega) (by omega) (by omega)).mono ?_
        rintro e wh ⟨rfl, rfl⟩
        go_wp2_with fail
        refine (toInts_any A zs ca _ (HA0.out.below HB_52.out) (by omega)).mono ?_
        rintro e w21 ⟨vd1, rfl, hod1, hbd1⟩
        have HLid1 := Lib.hid (own8_lies hod1)
        obtain ⟨Ad1, cd1, rfl, hcapd1, _⟩ := gFormC hod1
        have HAp_p_d1 := Lib.hid (apart5 (fun k hk => (Hp_52.out.lt k hk).2) (fun k hk => (hod1.lt k hk).1))
        have HAp_g_d1 := Lib.hid (apart5 (fun k hk => (Hg_52.out.lt k hk).2) (fun k hk => (hod1.lt k hk).1))
        have Hd1_53 := Lib.hid (hod1.lower HB_52.out.size)
        have Hp_54 := Lib.hid (Hp_52.out.below hbd1)
        have Hg_54 := Lib.hid (Hg_52.out.below hbd1)
        have HB_55 := Lib.hid (below_more HB_52.out hbd1)
        clear Hp_52 Hg_52 HB_52
        clear hod1 hbd1
        go_wp2_with fail
        refine (toInts_any B ps cb _ (HA1.out.below HB_55.out) (by omega)).mono ?_
        rintro e w22 ⟨vd2, rfl, hod2, hbd2⟩
        have HLid2 := Lib.hid (own8_lies hod2)
        obtain ⟨Ad2, cd2, rfl, hcapd2, _⟩ := gFormC hod2
        have HAp_p_d2 := Lib.hid (apart5 (fun k hk => (Hp_54.out.lt k hk).2) (fun k hk => (hod2.lt k hk).1))
        have HAp_g_d2 := Lib.hid (apart5 (fun k hk => (Hg_54.out.lt k hk).2) (fun k hk => (hod2.lt k hk).1))
        have HAp_d1_d2 := Lib.hid (apart5 (fun k hk => (Hd1_53.out.lt k hk).2) (fun k hk => (hod2.lt k hk).1))
        have Hd2_56 := Lib.hid (hod2.lower HB_55.out.size)
        have Hp_57 := Lib.hid (Hp_54.out.below hbd2)
        have Hg_57 := Lib.hid (Hg_54.out.below hbd2)
        have Hd1_57 := Lib.hid (Hd1_53.out.below hbd2)
        have HB_58 := Lib.hid (below_more HB_55.out hbd2)
        clear Hp_54 Hg_54 Hd1_53 HB_55
        clear hod2 hbd2
        go_wp2_with fail
        refine (toInts_any C ks cc _ (HA2.out.below HB_58.out) (by omega)).mono ?_
        rintro e w23 ⟨vd3, rfl, hod3, hbd3⟩
        have HLid3 := Lib.hid (own8_lies hod3)
        obtain ⟨Ad3, cd3, rfl, hcapd3, _⟩ := gFormC hod3
        have HAp_p_d3 := Lib.hid (apart5 (fun k hk => (Hp_57.out.lt k hk).2) (fun k hk => (hod3.lt k hk).1))
        have HAp_g_d3 := Lib.hid (apart5 (fun k hk => (Hg_57.out.lt k hk).2) (fun k hk => (hod3.lt k hk).1))
        have HAp_d1_d3 := Lib.hid (apart5 (fun k hk => (Hd1_57.out.lt k hk).2) (fun k hk => (hod3.lt k hk).1))
        have HAp_d2_d3 := Lib.hid (apart5 (fun k hk => (Hd2_56.out.lt k hk).2) (fun k hk => (hod3.lt k hk).1))
        have Hd3_59 := Lib.hid (hod3.lower HB_58.out.size)
        have Hp_60 := Lib.hid (Hp_57.out.below hbd3)
        have Hg_60 := Lib.hid (Hg_57.out.below hbd3)
        have Hd1_60 := Lib.hid (Hd1_57.out.below hbd3)
        have Hd2_60 := Lib.hid (Hd2_56.out.below hbd3)
        have HB_61 := Lib.hid (below_more HB_58.out hbd3)
        clear Hp_57 Hg_57 Hd1_57 Hd2_56 HB_58
        clear hod3 hbd3
        go_wp2_with fail
        refine (HI.out Ad1 cd1 Ad2 cd2 Ad3 cd3 _ (hK _ _ HW.out HB_61.out) (own_ints5 Hd1_60.out) (own_ints5 Hd2_60.out) (own_ints5 Hd3_59.out) (HLid1.out _ _ rfl) (HLid2.out _ _ rfl) (HLid3.out _ _ rfl) hcapd1 hcapd2 hcapd3).mono ?_
        rintro e w24 ⟨vh, rfl, hoh, hbh⟩
        obtain ⟨Ah, ch, rfl, _⟩ := hoh.form
        have HAp_p_h := Lib.hid (apart5 (fun k hk => (Hp_60.out.lt k hk).2) (fun k hk => (hoh.lt k hk).1))
        have HAp_g_h := Lib.hid (apart5 (fun k hk => (Hg_60.out.lt k hk).2) (fun k hk => (hoh.lt k hk).1))
        have HAp_d1_h := Lib.hid (apart5 (fun k hk => (Hd1_60.out.lt k hk).2) (fun k hk => (hoh.lt k hk).1))
        have HAp_d2_h := Lib.hid (apart5 (fun k hk => (Hd2_60.out.lt k hk).2) (fun k hk => (hoh.lt k hk).1))
        have HAp_d3_h := Lib.hid (apart5 (fun k hk => (Hd3_59.out.lt k hk).2) (fun k hk => (hoh.lt k hk).1))
        have Hh_62 := Lib.hid (hoh.lower HB_61.out.size)
        have Hp_63 := Lib.hid (Hp_60.out.below hbh)
        have Hg_63 := Lib.hid (Hg_60.out.below hbh)
        have Hd1_63 := Lib.hid (Hd1_60.out.below hbh)
        have Hd2_63 := Lib.hid (Hd2_60.out.below hbh)
        have Hd3_63 := Lib.hid (Hd3_59.out.below hbh)
        have HB_64 := Lib.hid (below_more HB_61.out hbh)
        clear Hp_60 Hg_60 Hd1_60 Hd2_60 Hd3_59 HB_61
        clear hoh hbh
        clear Hd1_63 Hd2_63 Hd3_63
        go_wp2_with fail
        refine (eqInts_any Ah Ap V V ch cp _ (own_ints5 Hh_62.out) (own_ints5 Hp_63.out) (by omega)).mono ?_
        rintro e w25 ⟨rfl, n65, rfl⟩
        have hdr : Below w24.heap.size w24 (w24.drewN n65) := gDrewN n65
        have Hp_66 := Lib.hid (Hp_63.out.below hdr)
        have Hg_66 := Lib.hid (Hg_63.out.below hdr)
        have Hh_66 := Lib.hid (Hh_62.out.below hdr)
        have HB_67 := Lib.hid (below_more HB_64.out hdr)
        clear Hp_63 Hg_63 Hh_62 HB_64
        clear hdr
        generalize w24.drewN n65 = w25 at *
        go_wp2_with fail
        refine (heldInts_any Ag 1 V.length cg _ (own_ints5 Hg_66.out) (by omega) (by omega) (by omega)).mono ?_
        rintro e wh ⟨rfl, rfl⟩
        go_wp2_with fail
        go_ret
        exact ⟨rfl, HB_67.out⟩
      · have hli3 : (1048576 : Int) < (ks.length : Int) := by omega
        clear hI
        go_enter Try.func11, Try.ntmps11
        go_wp2_with fail
        go_ret
        exact ⟨rfl, Below.refl _ _⟩
    · have hli2 : (1048576 : Int) < (ps.length : Int) := by omega
      clear hI
      go_enter Try.func11, Try.ntmps11
      go_wp2_with fail
      go_ret
      exact ⟨rfl, Below.refl _ _⟩
  · have hli : (1048576 : Int) < (zs.length : Int) := by omega
    clear hI
    go_enter Try.func11, Try.ntmps11
    go_wp2_with fail
    go_ret
    exact ⟨rfl, Below.refl _ _⟩
end Go.Proofs.Ytipcdaiobfgkeaa
