/-
  FnPeeled, walked, whatever the program's own texts are.
-/
import Derived.Test.YtcpfneikcefcmaaDoorJV
namespace Go.Proofs.YtcpfneikcefcmaaDoor
open Go.RowKit

set_option maxRecDepth 100000 in
set_option maxHeartbeats 8000000 in
theorem fnPeeled_small {K : World → Prop} (hK : Stays5 K)
    (hPe : ∀ (n : Int) (A : Option Addr) (ls : List (Int × Int)) (ca : Nat) (w : World), K w → Lets w A ls → ls.length ≤ 1048576 → ls.length ≤ ca → Calls Tryd.prog 10 #[.int .i64 n, .slice A ls.length ca] w fun e w' => ∃ v u, e = .returned (.tuple #[v, u, .bool (goodLB n ls)]) ∧ Own w' w.heap.size v (peelOI n ls) ∧ OwnT w' w.heap.size u (peelBI n ls) ∧ (v.ownBlock = none ∨ v.ownBlock ≠ u.ownBlock) ∧ Below w.heap.size w w')
    (hG : ∀ (n : Int) (A : Option Addr) (ls : List (Int × Int)) (ca : Nat) (w : World), K w → Lets w A ls → ls.length ≤ 1048576 → ls.length ≤ ca → Calls Tryd.prog 27 #[.int .i64 n, .slice A ls.length ca] w fun e w' => e = .returned (.bool (goodLB n ls)) ∧ Below w.heap.size w w')
    (hL : ∀ (A : Option Addr) (zs : List Int) (ca : Nat) (n : Int) (w : World), K w → Ints w A zs → zs.length ≤ 1048576 → zs.length ≤ ca → Calls Tryd.prog 29 #[.slice A zs.length ca, .int .i64 n] w fun e w' => e = .returned (.tuple #[letV (letNoI zs n) (letSumI zs n), .bool (letOkB zs n)]) ∧ Below w.heap.size w w')
    (hA : ∀ (n : Int) (A : Option Addr) (ls : List (Int × Int)) (ca : Nat) (w : World), K w → Lets w A ls → ls.length ≤ 1048576 → ls.length ≤ ca → Calls Tryd.prog 20 #[.int .i64 n, .slice A ls.length ca] w fun e w' => ∃ v, e = .returned (.tuple #[v, .bool (addOkB n ls)]) ∧ Own w' w.heap.size v (addI n ls) ∧ Below w.heap.size w w')
    (A : Option Addr) (za : List Int) (ca : Nat) (B : Option Addr) (zb : List Int) (cb : Nat) (w : World) (hw : K w) (ha : Byts w w.heap.size A za) (hb : Byts w w.heap.size B zb) (hl : za.length + zb.length ≤ 1048576) :
    Calls Tryd.prog 6 #[.slice A za.length ca, .slice B zb.length cb] w fun e w' => e = .returned (.bool true) ∧ Below w.heap.size w w' := by
  obtain ⟨i1, hi', hy0, hy1, hy2⟩ := info_parts letInfo
  have HA := Lib.hid ha
  have HB := Lib.hid hb
  have HW := Lib.hid hw
  have HIP := Lib.hid hPe
  have HIG := Lib.hid hG
  have HIL := Lib.hid hL
  have HIA := Lib.hid hA
  clear ha hb hw hPe hG hL hA
  go_enter Tryd.func6, Tryd.ntmps6
  go_wp2_with fail
  refine (drawPeel A za ca _ HA.out).mono ?_
  rintro e w1 ⟨n, v1, ls, rfl, ho1, hl1, hb1⟩
  obtain ⟨A1, c1, rfl, hcap1, hI1⟩ := ho1.form
  have HX1 := Lib.hid hI1
  have HB1 := Lib.hid hb1
  clear ho1 hb1 hI1 HA
  have HP1 := Lib.hid (HIP.out n A1 ls c1 w1 (hK _ _ HW.out HB1.out) HX1.out (by omega) hcap1)
  have HS1 := Lib.hid (fun w h => sPeel_any n A1 ls c1 w h (by omega) hcap1)
  have HG1 := Lib.hid (fun w hk h => HIG.out n A1 ls c1 w hk h (by omega) hcap1)
  have hlens := peel_lens n ls
  have HM := Lib.hid (fun (hg : goodLB n ls = true) zs => @peeled_math n ls zs hg)
  generalize peelOI n ls = V at *
  generalize peelBI n ls = U at *
  generalize goodLB n ls = ok at *
  have hq : eqL V V = true := by simp [eqL]
  have hqt : eqT U U = true := by simp [eqT]
  obtain ⟨hlV, hlU⟩ := hlens
  go_wp2_with fail
  refine HP1.out.mono ?_
  rintro e w2 ⟨v2, u2, rfl, ho2, hu2, _, hb2⟩
  obtain ⟨A2, c2, rfl, hI2⟩ := ho2.form
  obtain ⟨D2, d2, rfl, hT2⟩ := hu2.form
  have HI2 := Lib.hid hI2
  have HT2 := Lib.hid hT2
  have HX2 := Lib.hid (HX1.out.below hb2)
  have HB2 := Lib.hid (below_more HB1.out hb2)
  clear ho2 hu2 hb2 hI2 hT2 HB1 HX1 HP1
  go_wp2_with fail
  refine (HS1.out w2 HX2.out).mono ?_
  rintro e w3 ⟨v3, u3, rfl, ho3, hu3, _, hb3⟩
  obtain ⟨A3, c3, rfl, hI3⟩ := ho3.form
  obtain ⟨D3, d3, rfl, hT3⟩ := hu3.form
  have HI3 := Lib.hid hI3
  have HT3 := Lib.hid hT3
  have HI2' := Lib.hid (HI2.out.below hb3)
  have HT2' := Lib.hid (HT2.out.below hb3)
  have HX3 := Lib.hid (HX2.out.below hb3)
  have HB3 := Lib.hid (below_more HB2.out hb3)
  clear ho3 hu3 hb3 hI3 hT3 HB2 HX2 HI2 HT2 HS1
  go_wp2_with fail
  refine (sameInts_any A2 A3 V V c2 c3 _ HI2'.out HI3.out (by omega)).mono ?_
  rintro e w4 ⟨rfl, n4, rfl⟩
  have hdr4 : Below w3.heap.size w3 (w3.drewN n4) := gDrewN n4
  have HT2 := Lib.hid (HT2'.out.below hdr4)
  have HT3' := Lib.hid (HT3.out.below hdr4)
  have HX4 := Lib.hid (HX3.out.below hdr4)
  have HB4 := Lib.hid (below_more HB3.out hdr4)
  clear hdr4 HB3 HX3 HT2' HT3 HI2' HI3
  generalize w3.drewN n4 = w4 at *
  go_wp2_with fail
  refine (sameBools_any D2 D3 U U d2 d3 _ HT2.out HT3'.out (by omega)).mono ?_
  rintro e w5 ⟨rfl, n5, rfl⟩
  have hdr5 : Below w4.heap.size w4 (w4.drewN n5) := gDrewN n5
  have HX5 := Lib.hid (HX4.out.below hdr5)
  have HB5 := Lib.hid (below_more HB4.out hdr5)
  clear hdr5 HB4 HX4 HT2 HT3'
  generalize w4.drewN n5 = w5 at *
  go_wp2_with fail
  refine (HG1.out w5 (hK _ _ HW.out HB5.out) HX5.out).mono ?_
  rintro e w6 ⟨rfl, hb6⟩
  have HX6 := Lib.hid (HX5.out.below hb6)
  have HB6 := Lib.hid (below_more HB5.out hb6)
  clear hb6 HX5 HB5 HG1
  go_wp2_with fail
  refine (drawLetter B zb cb _ (byts_on5 HB.out HB6.out)).mono ?_
  rintro e w7 ⟨v7, bl, kk, rfl, ho7, hl7, hb7⟩
  obtain ⟨A7, c7, rfl, hcap7, hI7⟩ := gFormC ho7
  have HI7 := Lib.hid hI7
  have HX7 := Lib.hid (HX6.out.below hb7)
  have HB7 := Lib.hid (below_more HB6.out hb7)
  clear ho7 hb7 hI7 HX6 HB6
  obtain ⟨hl71, hl78⟩ := hl7
  go_wp2_with fail
  go_loopg [15, 16, 89] ls.length (fun gk v gd i wr => ∃ j : Nat, j + gk = ls.length ∧ i = .int .i64 j ∧ OwnLt wr w7.heap.size v ((ls.take j).map (letF bl)) ∧ gd = .bool ((ls.take j).all fun x => letOkB bl x.1) ∧ Below w7.heap.size w7 wr)
  case atStart => exact ⟨0, by omega, rfl, OwnLt.nil _ _, rfl, Below.refl _ _⟩
  case round =>
    obtain ⟨j, hg, rfl, hown, rfl, hbel⟩ := hrel
    have HO := Lib.hid hown
    have HBl := Lib.hid hbel
    clear hown hbel
    by_cases hlt : j < ls.length
    · have hji : (j : Int) < (ls.length : Int) := by omega
      obtain ⟨b1, o1, rfl, hc1⟩ := (HX7.out.below HBl.out) (by rintro rfl; simp at hlt)
      obtain ⟨p1, p2⟩ := hc1 j hlt
      have HTk : Hid ((ls.take (j + 1)).map (letF bl) = (ls.take j).map (letF bl) ++ [(letNoI bl ls[j].1, letSumI bl ls[j].1)]) := map_snoc _ hlt
      have HAl : Hid (((ls.take (j + 1)).all fun x => letOkB bl x.1) = (((ls.take j).all fun x => letOkB bl x.1) && letOkB bl ls[j].1)) := by
        show _ = _
        rw [List.take_succ_eq_append_getElem hlt, List.all_append]; simp
      have HTl : Hid (((ls.take j).map (letF bl)).length = j) := by show _ = _; rw [List.length_map, List.length_take]; omega
      have HGK : Hid (ls.length - j - 1 < gk ∧ j + 1 + (ls.length - j - 1) = ls.length) := by show _ ∧ _; omega
      clear hc1 hg HM
      generalize ls[j].1 = z1 at *
      generalize ls[j].2 = z2 at *
      have HLt := Lib.hid (fun w hk h => HIL.out A7 bl c7 z1 w hk h (by omega) hcap7)
      generalize (ls.take j).map (letF bl) = L at *
      generalize ((ls.take j).all fun x => letOkB bl x.1) = gd at *
      generalize letNoI bl z1 = x at *
      generalize letSumI bl z1 = y at *
      generalize letOkB bl z1 = one at *
      have ha8 := gAlloc wr (.cells #[.int .i64 z1, .int .i64 z2] 50)
      have HO8 := Lib.hid (HO.out.below ha8)
      have HB8 := Lib.hid (below_more HBl.out ha8)
      have HI8 := Lib.hid (HI7.out.below (below_more HBl.out ha8))
      clear ha8 HO HBl
      go_wp2_with fail
      generalize wr.alloc (.cells #[.int .i64 z1, .int .i64 z2] 50) = w8 at *
      refine (HLt.out w8 (hK _ _ HW.out (below_more HB7.out HB8.out)) HI8.out).mono ?_
      rintro e w2 ⟨rfl, hb2⟩
      have ha2 := gAlloc w2 (.cells #[.int .i64 x, .int .i64 y] 50)
      have HO2 := Lib.hid ((HO8.out.below hb2).below ha2)
      have HB2 := Lib.hid (below_more (below_more HB8.out hb2) ha2)
      have hs2 := (below_more (below_more HB8.out hb2) ha2).size
      have HOR : Hid ((w2.alloc (.cells #[.int .i64 x, .int .i64 y] 50)).ownsRow w7.heap.size 50 2 u15 L.length (cellsL L)) := HO2.out
      have HNews : Hid (∀ j u, [Value.int .i64 x, .int .i64 y][j]? = some u → ((w2.alloc (.cells #[.int .i64 x, .int .i64 y] 50)).alloc (.cells #[.int .i64 x, .int .i64 y] 50)).cell? ((⟨w2.heap.size + 1, 0, none⟩ : Addr).add j) = some u) := by
        have h := let_news (W := w2.alloc (.cells #[.int .i64 x, .int .i64 y] 50)) (x := x) (y := y)
        rw [show (w2.alloc (.cells #[.int .i64 x, .int .i64 y] 50)).heap.size = w2.heap.size + 1 by simp] at h
        exact h
      have hLj : L.length ≤ 50 := by have := HTl.out; omega
      clear hb2 ha2 HO8 HB8 HLt HI8 p1 p2
      go_wp2_with (at_builtin; (refine wpList_append_own _ rfl _ _ 28 rfl w7.heap.size 50 i1 (.agg #[.int .i64 0, .int .i64 0]) 2 16 Tryd.underlying28 hi' hy0 hy1 hy2 rfl (by decide) _ _ _ rfl (HOR.out.alloc _) ⟨w2.heap.size + 1, 0, none⟩ 1 1 [.int .i64 x, .int .i64 y] rfl rfl HNews.out let_one ?k3 ?k4 ?k5 ?_))
      case k3 => unfold maxLen; omega
      case k4 => omega
      case k5 => simp at hs2 ⊢; omega
      · intro v3 w3 hown3 hgrow3 _
        have HO3 := Lib.hid (OwnLt.more hown3)
        have HB3 : Hid (Below w7.heap.size w7 w3) := (HB2.out.alloc hs2 _).grown hgrow3 (by simp at hs2 ⊢; omega) (fun g hg => (HO2.out.lt g hg).1)
        clear hown3 hgrow3 HNews HOR HO2 HB2
        cases gd
        · go_wp2_with fail
          go_roundg (ls.length - j - 1)
          case measure => exact HGK.out.1
          case rel => exact ⟨j + 1, HGK.out.2, by go_num, by rw [HTk.out]; exact HO3.out, by rw [HAl.out]; rfl, HB3.out⟩
        · go_wp2_with fail
          go_roundg (ls.length - j - 1)
          case measure => exact HGK.out.1
          case rel => exact ⟨j + 1, HGK.out.2, by go_num, by rw [HTk.out]; exact HO3.out, by rw [HAl.out]; rfl, HB3.out⟩
    · obtain rfl : j = ls.length := by omega
      have hji : ¬ (ls.length : Int) < (ls.length : Int) := by omega
      rw [List.take_length] at HO ⊢
      have HM2 := Lib.hid (fun (ho : (ls.all fun x => letOkB bl x.1) = true) hok => HM.out hok bl (List.all_eq_true.1 ho) hl71 hl78)
      have HBx0 := Lib.hid (below_more HB7.out HBl.out)
      have HI8 := Lib.hid (HI7.out.below HBl.out)
      have HMl : Hid ((ls.map (letF bl)).length = ls.length) := List.length_map ..
      clear hg HM HB7 HI7 HX7 HBl hlt
      obtain ⟨A8, c8, rfl, hcap8, hI8⟩ := HO.out.form
      have HX8 := Lib.hid hI8
      clear hI8 HO
      have hml : (ls.map (letF bl)).length ≤ 50 := by rw [HMl.out]; omega
      generalize (ls.all fun x => letOkB bl x.1) = gd at *
      cases ok
      · go_wp2_with fail
        have HBx := HBx0
        clear HBx0 HM2
        go_wp2_with fail
        refine (drawAdd B zb cb _ (byts_on5 HB.out HBx.out)).mono ?_
        rintro e w30 ⟨u, v30, ms, rfl, ho30, hl30, hb30⟩
        obtain ⟨A30, c30, rfl, hcap30, hI30⟩ := ho30.form
        have HX30 := Lib.hid hI30
        have HB30 := Lib.hid (below_more HBx.out hb30)
        clear ho30 hb30 hI30 HBx
        have HI30 := Lib.hid (HIA.out u A30 ms c30 w30 (hK _ _ HW.out HB30.out) HX30.out (by omega) hcap30)
        have HS30 := Lib.hid (fun w h => sAdd_any u A30 ms c30 w h (by omega) hcap30)
        have hla := addI_len u ms
        generalize addI u ms = VA at *
        generalize addOkB u ms = ao at *
        have hqa : eqL VA VA = true := by simp [eqL]
        go_wp2_with fail
        refine HI30.out.mono ?_
        rintro e w31 ⟨v31, rfl, ho31, hb31⟩
        obtain ⟨A31, c31, rfl, hI31⟩ := ho31.form
        have HX31 := Lib.hid hI31
        have HY31 := Lib.hid (HX30.out.below hb31)
        have HB31 := Lib.hid (below_more HB30.out hb31)
        clear ho31 hb31 hI31 HX30 HB30 HI30
        go_wp2_with fail
        refine (HS30.out w31 HY31.out).mono ?_
        rintro e w32 ⟨v32, rfl, ho32, hb32⟩
        obtain ⟨A32, c32, rfl, hI32⟩ := ho32.form
        have HX32 := Lib.hid hI32
        have HY32 := Lib.hid (HX31.out.below hb32)
        have HB32 := Lib.hid (below_more HB31.out hb32)
        clear ho32 hb32 hI32 HX31 HY31 HB31 HS30
        go_wp2_with fail
        refine (sameInts_any A31 A32 VA VA c31 c32 _ HY32.out HX32.out (by omega)).mono ?_
        rintro e w33 ⟨rfl, n33, rfl⟩
        have HB33 := Lib.hid (below_more HB32.out (gDrewN n33))
        clear HB32 HX32 HY32
        go_wp2_with fail
        go_ret
        exact ⟨rfl, HB33.out⟩
      · cases gd
        · go_wp2_with fail
          have HBx := HBx0
          clear HBx0 HM2
          go_wp2_with fail
          refine (drawAdd B zb cb _ (byts_on5 HB.out HBx.out)).mono ?_
          rintro e w30 ⟨u, v30, ms, rfl, ho30, hl30, hb30⟩
          obtain ⟨A30, c30, rfl, hcap30, hI30⟩ := ho30.form
          have HX30 := Lib.hid hI30
          have HB30 := Lib.hid (below_more HBx.out hb30)
          clear ho30 hb30 hI30 HBx
          have HI30 := Lib.hid (HIA.out u A30 ms c30 w30 (hK _ _ HW.out HB30.out) HX30.out (by omega) hcap30)
          have HS30 := Lib.hid (fun w h => sAdd_any u A30 ms c30 w h (by omega) hcap30)
          have hla := addI_len u ms
          generalize addI u ms = VA at *
          generalize addOkB u ms = ao at *
          have hqa : eqL VA VA = true := by simp [eqL]
          go_wp2_with fail
          refine HI30.out.mono ?_
          rintro e w31 ⟨v31, rfl, ho31, hb31⟩
          obtain ⟨A31, c31, rfl, hI31⟩ := ho31.form
          have HX31 := Lib.hid hI31
          have HY31 := Lib.hid (HX30.out.below hb31)
          have HB31 := Lib.hid (below_more HB30.out hb31)
          clear ho31 hb31 hI31 HX30 HB30 HI30
          go_wp2_with fail
          refine (HS30.out w31 HY31.out).mono ?_
          rintro e w32 ⟨v32, rfl, ho32, hb32⟩
          obtain ⟨A32, c32, rfl, hI32⟩ := ho32.form
          have HX32 := Lib.hid hI32
          have HY32 := Lib.hid (HX31.out.below hb32)
          have HB32 := Lib.hid (below_more HB31.out hb32)
          clear ho32 hb32 hI32 HX31 HY31 HB31 HS30
          go_wp2_with fail
          refine (sameInts_any A31 A32 VA VA c31 c32 _ HY32.out HX32.out (by omega)).mono ?_
          rintro e w33 ⟨rfl, n33, rfl⟩
          have HB33 := Lib.hid (below_more HB32.out (gDrewN n33))
          clear HB32 HX32 HY32
          go_wp2_with fail
          go_ret
          exact ⟨rfl, HB33.out⟩
        · by_cases h20 : (ls.map (letF bl)).length ≤ 20
          · have h20i : ((ls.map (letF bl)).length : Int) ≤ 20 := by omega
            obtain ⟨m1, m2, m3, m4, m5, m6⟩ := HM2.out rfl rfl (by rw [← HMl.out]; exact h20)
            have HP8 := Lib.hid (fun w hk h => HIP.out (bl.length : Int) A8 (ls.map (letF bl)) c8 w hk h (by omega) hcap8)
            have HA8 := Lib.hid (fun w hk h => HIA.out (bl.length : Int) A8 (ls.map (letF bl)) c8 w hk h (by omega) hcap8)
            rw [m1] at HP8
            clear m1 HM2 HMl
            generalize peelOI (bl.length : Int) (ls.map (letF bl)) = Q at *
            generalize peelBI (bl.length : Int) (ls.map (letF bl)) = R at *
            generalize addI (bl.length : Int) (ls.map (letF bl)) = VB at *
            generalize addOkB (bl.length : Int) (ls.map (letF bl)) = two at *
            generalize ls.map (letF bl) = ms0 at *
            have HQl := Lib.hid m2
            have HRl := Lib.hid m3
            have HQe := Lib.hid m4
            have HAt := Lib.hid m5
            have HVB := Lib.hid m6
            have hn1 : ((R.length : Int) != (bl.length : Int)) = false := by rw [m3]; simp
            have hn2 : ((Q.length : Int) != (bl.length : Int)) = false := by rw [m2]; simp
            clear m2 m3 m4 m5 m6
            go_wp2_with fail
            refine (HP8.out wr (hK _ _ HW.out HBx0.out) HX8.out).mono ?_
            rintro e w9 ⟨v9, u9, rfl, ho9, hu9, _, hb9⟩
            obtain ⟨A9, c9, rfl, hI9⟩ := ho9.form
            obtain ⟨D9, d9, rfl, hT9⟩ := hu9.form
            have HI9 := Lib.hid hI9
            have HT9 := Lib.hid hT9
            have HX9 := Lib.hid (HX8.out.below hb9)
            have HBk9 := Lib.hid (HI8.out.below hb9)
            have HB9 := Lib.hid (below_more HBx0.out hb9)
            clear ho9 hu9 hb9 hI9 hT9 HBx0 HX8 HI8 HP8
            go_wp2_with fail
            refine (HA8.out w9 (hK _ _ HW.out HB9.out) HX9.out).mono ?_
            rintro e w10 ⟨v10, rfl, ho10, hb10⟩
            obtain ⟨A10, c10, rfl, hI10⟩ := ho10.form
            have HI10 := Lib.hid hI10
            have HQ10 := Lib.hid (HI9.out.below hb10)
            have HT10 := Lib.hid (HT9.out.below hb10)
            have HBk10 := Lib.hid (HBk9.out.below hb10)
            have HB10 := Lib.hid (below_more HB9.out hb10)
            clear ho10 hb10 hI10 HI9 HT9 HX9 HBk9 HB9 HA8
            go_wp2_with fail
            go_loopg [26, 151] R.length (fun gk al i wr => ∃ t : Nat, t + gk = R.length ∧ i = .int .i64 t ∧ al = .bool ((R.take t).all id) ∧ ∃ nn, wr = w10.drewN nn)
            case atStart => exact ⟨0, by omega, rfl, rfl, 0, rfl⟩
            case round =>
              obtain ⟨t, hg, rfl, rfl, nn, rfl⟩ := hrel
              have hdr : Below w10.heap.size w10 (w10.drewN nn) := gDrewN nn
              by_cases hlt : t < R.length
              · have hti : (t : Int) < (R.length : Int) := by omega
                have htq : t < Q.length := by have := HQl.out; have := HRl.out; omega
                have htb : t < bl.length := by have := HRl.out; omega
                obtain ⟨b3, o3, rfl, hc3⟩ := HT10.out (by rintro rfl; simp at hlt)
                obtain ⟨b4, o4, rfl, hc4⟩ := HQ10.out (by rintro rfl; simp at htq)
                obtain ⟨b5, o5, rfl, hc5⟩ := HBk10.out (by rintro rfl; simp at htb)
                have q3 := hc3 t hlt
                have q4 := hc4 t htq
                have q5 := hc5 t htb
                rw [show Q.getD t 0 = Q[t] by simp [List.getD, htq]] at q4
                rw [show bl.getD t 0 = bl[t] by simp [List.getD, htb]] at q5
                have HE := Lib.hid (HQe.out t htq hlt htb)
                have HAl : Hid ((R.take (t + 1)).all id = ((R.take t).all id && R[t])) := by
                  show _ = _
                  rw [List.take_succ_eq_append_getElem hlt, List.all_append]; simp
                have HGK : Hid (R.length - t - 1 < gk ∧ t + 1 + (R.length - t - 1) = R.length) := by show _ ∧ _; omega
                have htqi : (t : Int) < (Q.length : Int) := by omega
                have htbi : (t : Int) < (bl.length : Int) := by omega
                clear hc3 hc4 hc5 hg hdr
                generalize R[t] = is at *
                generalize Q[t] = qt at *
                generalize bl[t] = bt at *
                generalize (R.take t).all id = al at *
                cases is
                · cases al
                  all_goals
                    go_wp2_with fail
                    try (go_quiet (fail))
                    try (go_wp2_with fail)
                    go_roundg (R.length - t - 1)
                    case measure => exact HGK.out.1
                    case rel => first | exact ⟨t + 1, HGK.out.2, by go_num, by rw [HAl.out]; rfl, _, rfl⟩ | exact ⟨t + 1, HGK.out.2, by go_num, by rw [HAl.out]; rfl, nn + nq, by simp⟩
                · have HNq : Hid ((qt != bt) = false) := by show _ = _; rw [HE.out rfl]; simp
                  cases al
                  all_goals
                    go_wp2_with fail
                    go_quiet (fail)
                    go_wp2_with fail
                    · exfalso
                      have hne : (qt != bt) = true := by assumption
                      rw [HNq.out] at hne
                      cases hne
                    · go_roundg (R.length - t - 1)
                      case measure => exact HGK.out.1
                      case rel => exact ⟨t + 1, HGK.out.2, by go_num, by rw [HAl.out]; rfl, nn + nq, by simp⟩
              · obtain rfl : t = R.length := by omega
                have hti : ¬ (R.length : Int) < (R.length : Int) := by omega
                have HB11 := Lib.hid (below_more HB10.out hdr)
                have HV11 := Lib.hid (HI10.out.below hdr)
                have HK11 := Lib.hid (HBk10.out.below hdr)
                rw [List.take_length]
                generalize R.all id = al at *
                clear hdr HB10 HI10 HBk10 hg hlt HT10 HQ10
                generalize w10.drewN nn = w11 at *
                cases two
                · cases al
                  · go_wp2_with fail
                    have HBx := HB11
                    clear HB11 HV11 HK11
                    go_wp2_with fail
                    refine (drawAdd B zb cb _ (byts_on5 HB.out HBx.out)).mono ?_
                    rintro e w30 ⟨u, v30, ms, rfl, ho30, hl30, hb30⟩
                    obtain ⟨A30, c30, rfl, hcap30, hI30⟩ := ho30.form
                    have HX30 := Lib.hid hI30
                    have HB30 := Lib.hid (below_more HBx.out hb30)
                    clear ho30 hb30 hI30 HBx
                    have HI30 := Lib.hid (HIA.out u A30 ms c30 w30 (hK _ _ HW.out HB30.out) HX30.out (by omega) hcap30)
                    have HS30 := Lib.hid (fun w h => sAdd_any u A30 ms c30 w h (by omega) hcap30)
                    have hla := addI_len u ms
                    generalize addI u ms = VA at *
                    generalize addOkB u ms = ao at *
                    have hqa : eqL VA VA = true := by simp [eqL]
                    go_wp2_with fail
                    refine HI30.out.mono ?_
                    rintro e w31 ⟨v31, rfl, ho31, hb31⟩
                    obtain ⟨A31, c31, rfl, hI31⟩ := ho31.form
                    have HX31 := Lib.hid hI31
                    have HY31 := Lib.hid (HX30.out.below hb31)
                    have HB31 := Lib.hid (below_more HB30.out hb31)
                    clear ho31 hb31 hI31 HX30 HB30 HI30
                    go_wp2_with fail
                    refine (HS30.out w31 HY31.out).mono ?_
                    rintro e w32 ⟨v32, rfl, ho32, hb32⟩
                    obtain ⟨A32, c32, rfl, hI32⟩ := ho32.form
                    have HX32 := Lib.hid hI32
                    have HY32 := Lib.hid (HX31.out.below hb32)
                    have HB32 := Lib.hid (below_more HB31.out hb32)
                    clear ho32 hb32 hI32 HX31 HY31 HB31 HS30
                    go_wp2_with fail
                    refine (sameInts_any A31 A32 VA VA c31 c32 _ HY32.out HX32.out (by omega)).mono ?_
                    rintro e w33 ⟨rfl, n33, rfl⟩
                    have HB33 := Lib.hid (below_more HB32.out (gDrewN n33))
                    clear HB32 HX32 HY32
                    go_wp2_with fail
                    go_ret
                    exact ⟨rfl, HB33.out⟩
                  · exact absurd (HAt.out rfl) (by simp)
                · obtain rfl := HVB.out rfl
                  have hqv : eqL VB VB = true := by simp [eqL]
                  cases al
                  all_goals
                    go_wp2_with fail
                    refine (sameInts_any A10 A7 VB VB c10 c7 _ HV11.out HK11.out (by omega)).mono ?_
                    rintro e w12 ⟨rfl, n12, rfl⟩
                    have HBx := Lib.hid (below_more HB11.out (gDrewN n12))
                    clear HB11 HV11 HK11
                    generalize w11.drewN n12 = w12 at *
                    go_wp2_with fail
                    refine (drawAdd B zb cb _ (byts_on5 HB.out HBx.out)).mono ?_
                    rintro e w30 ⟨u, v30, ms, rfl, ho30, hl30, hb30⟩
                    obtain ⟨A30, c30, rfl, hcap30, hI30⟩ := ho30.form
                    have HX30 := Lib.hid hI30
                    have HB30 := Lib.hid (below_more HBx.out hb30)
                    clear ho30 hb30 hI30 HBx
                    have HI30 := Lib.hid (HIA.out u A30 ms c30 w30 (hK _ _ HW.out HB30.out) HX30.out (by omega) hcap30)
                    have HS30 := Lib.hid (fun w h => sAdd_any u A30 ms c30 w h (by omega) hcap30)
                    have hla := addI_len u ms
                    generalize addI u ms = VA at *
                    generalize addOkB u ms = ao at *
                    have hqa : eqL VA VA = true := by simp [eqL]
                    go_wp2_with fail
                    refine HI30.out.mono ?_
                    rintro e w31 ⟨v31, rfl, ho31, hb31⟩
                    obtain ⟨A31, c31, rfl, hI31⟩ := ho31.form
                    have HX31 := Lib.hid hI31
                    have HY31 := Lib.hid (HX30.out.below hb31)
                    have HB31 := Lib.hid (below_more HB30.out hb31)
                    clear ho31 hb31 hI31 HX30 HB30 HI30
                    go_wp2_with fail
                    refine (HS30.out w31 HY31.out).mono ?_
                    rintro e w32 ⟨v32, rfl, ho32, hb32⟩
                    obtain ⟨A32, c32, rfl, hI32⟩ := ho32.form
                    have HX32 := Lib.hid hI32
                    have HY32 := Lib.hid (HX31.out.below hb32)
                    have HB32 := Lib.hid (below_more HB31.out hb32)
                    clear ho32 hb32 hI32 HX31 HY31 HB31 HS30
                    go_wp2_with fail
                    refine (sameInts_any A31 A32 VA VA c31 c32 _ HY32.out HX32.out (by omega)).mono ?_
                    rintro e w33 ⟨rfl, n33, rfl⟩
                    have HB33 := Lib.hid (below_more HB32.out (gDrewN n33))
                    clear HB32 HX32 HY32
                    go_wp2_with fail
                    go_ret
                    exact ⟨rfl, HB33.out⟩
          · have h20i : ¬ ((ls.map (letF bl)).length : Int) ≤ 20 := by omega
            have h20j : ¬ (ls.length : Int) ≤ 20 := by have := HMl.out; omega
            go_wp2_with fail
            have HBx := HBx0
            clear HBx0 HM2 HX8
            go_wp2_with fail
            refine (drawAdd B zb cb _ (byts_on5 HB.out HBx.out)).mono ?_
            rintro e w30 ⟨u, v30, ms, rfl, ho30, hl30, hb30⟩
            obtain ⟨A30, c30, rfl, hcap30, hI30⟩ := ho30.form
            have HX30 := Lib.hid hI30
            have HB30 := Lib.hid (below_more HBx.out hb30)
            clear ho30 hb30 hI30 HBx
            have HI30 := Lib.hid (HIA.out u A30 ms c30 w30 (hK _ _ HW.out HB30.out) HX30.out (by omega) hcap30)
            have HS30 := Lib.hid (fun w h => sAdd_any u A30 ms c30 w h (by omega) hcap30)
            have hla := addI_len u ms
            generalize addI u ms = VA at *
            generalize addOkB u ms = ao at *
            have hqa : eqL VA VA = true := by simp [eqL]
            go_wp2_with fail
            refine HI30.out.mono ?_
            rintro e w31 ⟨v31, rfl, ho31, hb31⟩
            obtain ⟨A31, c31, rfl, hI31⟩ := ho31.form
            have HX31 := Lib.hid hI31
            have HY31 := Lib.hid (HX30.out.below hb31)
            have HB31 := Lib.hid (below_more HB30.out hb31)
            clear ho31 hb31 hI31 HX30 HB30 HI30
            go_wp2_with fail
            refine (HS30.out w31 HY31.out).mono ?_
            rintro e w32 ⟨v32, rfl, ho32, hb32⟩
            obtain ⟨A32, c32, rfl, hI32⟩ := ho32.form
            have HX32 := Lib.hid hI32
            have HY32 := Lib.hid (HX31.out.below hb32)
            have HB32 := Lib.hid (below_more HB31.out hb32)
            clear ho32 hb32 hI32 HX31 HY31 HB31 HS30
            go_wp2_with fail
            refine (sameInts_any A31 A32 VA VA c31 c32 _ HY32.out HX32.out (by omega)).mono ?_
            rintro e w33 ⟨rfl, n33, rfl⟩
            have HB33 := Lib.hid (below_more HB32.out (gDrewN n33))
            clear HB32 HX32 HY32
            go_wp2_with fail
            go_ret
            exact ⟨rfl, HB33.out⟩
set_option maxRecDepth 100000 in
theorem fnPeeled_law {K : World → Prop} (hK : Stays5 K)
    (hPe : ∀ (n : Int) (A : Option Addr) (ls : List (Int × Int)) (ca : Nat) (w : World), K w → Lets w A ls → ls.length ≤ 1048576 → ls.length ≤ ca → Calls Tryd.prog 10 #[.int .i64 n, .slice A ls.length ca] w fun e w' => ∃ v u, e = .returned (.tuple #[v, u, .bool (goodLB n ls)]) ∧ Own w' w.heap.size v (peelOI n ls) ∧ OwnT w' w.heap.size u (peelBI n ls) ∧ (v.ownBlock = none ∨ v.ownBlock ≠ u.ownBlock) ∧ Below w.heap.size w w')
    (hG : ∀ (n : Int) (A : Option Addr) (ls : List (Int × Int)) (ca : Nat) (w : World), K w → Lets w A ls → ls.length ≤ 1048576 → ls.length ≤ ca → Calls Tryd.prog 27 #[.int .i64 n, .slice A ls.length ca] w fun e w' => e = .returned (.bool (goodLB n ls)) ∧ Below w.heap.size w w')
    (hL : ∀ (A : Option Addr) (zs : List Int) (ca : Nat) (n : Int) (w : World), K w → Ints w A zs → zs.length ≤ 1048576 → zs.length ≤ ca → Calls Tryd.prog 29 #[.slice A zs.length ca, .int .i64 n] w fun e w' => e = .returned (.tuple #[letV (letNoI zs n) (letSumI zs n), .bool (letOkB zs n)]) ∧ Below w.heap.size w w')
    (hA : ∀ (n : Int) (A : Option Addr) (ls : List (Int × Int)) (ca : Nat) (w : World), K w → Lets w A ls → ls.length ≤ 1048576 → ls.length ≤ ca → Calls Tryd.prog 20 #[.int .i64 n, .slice A ls.length ca] w fun e w' => ∃ v, e = .returned (.tuple #[v, .bool (addOkB n ls)]) ∧ Own w' w.heap.size v (addI n ls) ∧ Below w.heap.size w w')
    (A : Option Addr) (za : List Int) (ca : Nat) (B : Option Addr) (zb : List Int) (cb : Nat) (w : World) (hw : K w) (ha : Byts w w.heap.size A za) (hb : Byts w w.heap.size B zb) (hla : za.length ≤ 140737488355328) (hlb : zb.length ≤ 140737488355328) :
    Calls Tryd.prog 6 #[.slice A za.length ca, .slice B zb.length cb] w fun e w' => e = .returned (.bool true) ∧ Below w.heap.size w w' := by
  by_cases hl : za.length + zb.length ≤ 1048576
  · exact fnPeeled_small hK hPe hG hL hA A za ca B zb cb w hw ha hb hl
  · have hl' : (1048576 : Int) < (za.length : Int) + (zb.length : Int) := by omega
    clear hPe hG hL hA
    go_enter Tryd.func6, Tryd.ntmps6
    go_wp2_with fail
    go_ret
    exact ⟨rfl, Below.refl _ _⟩
end Go.Proofs.YtcpfneikcefcmaaDoor
