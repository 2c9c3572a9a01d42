/-
  FnAny, walked, whatever the program's own texts are.
-/
import Derived.Test.YtjifpedhncgieaaVO
import Derived.Test.YtjifpedhncgieaaDE
namespace Go.Proofs.Ytjifpedhncgieaa
open Go.RowKit

theorem byts_on7 {w w' : World} {A : Option Addr} {zs : List Int} (h : Byts w w.heap.size A zs) (hb : Below w.heap.size w w') : Byts w' w'.heap.size A zs :=
  ⟨h.1, fun hne => by
    obtain ⟨b, o, e, hlt, hc⟩ := h.2 hne
    exact ⟨b, o, e, Nat.lt_of_lt_of_le hlt hb.size, fun j hj => (hb.cell hlt).trans (hc j hj)⟩⟩
theorem iv_prod {n : Int} (h : ivOkB n = true) : 0 ≤ n * ivI n ∧ n * ivI n ≤ 65792 ∧ (n * ivI n % 257 == 1) = true := by
  have hn : 1 ≤ n ∧ n ≤ 256 := by simpa [ivOkB, inB] using h
  obtain ⟨m, rfl⟩ := Int.eq_ofNat_of_zero_le (show 0 ≤ n by omega)
  have hv : ivI (m : Int) = (invN m : Nat) := by rw [ivI, if_pos h, Int.toNat_natCast]
  have hlt : invN m < 257 := powM_lt m 255
  have hok := inv_ok (n := m) (by omega) (by omega)
  obtain ⟨h0, h1⟩ := mul_bd (a := m) (b := invN m) (A := 256) (B := 256) (by omega) (by omega)
  rw [hv]
  refine ⟨h0, by omega, ?_⟩
  have e : (m : Int) * ((invN m : Nat) : Int) % 257 = ((m * invN m % 257 : Nat) : Int) := by simp
  rw [e, hok]; rfl
def selQ (P : List Nat) (S : List Nat) : List (Nat × Nat) := S.map fun i => (i, valN P i)
theorem sel_places {P S : List Nat} (h : S.Pairwise (· < ·)) (hS : ∀ i ∈ S, i < 16) : Places (selQ P S) := by
  refine ⟨?_, fun p hp => ?_⟩
  · rw [selQ, List.pairwise_map]; exact h
  · obtain ⟨i, hi, rfl⟩ := List.mem_map.1 hp
    exact ⟨hS i hi, valN_lt P i⟩
theorem pts_sel (P : List Nat) (n : Nat) : ptsL P n = selQ P (List.range n) := rfl
/-- Any k points of a polynomial with k coefficients determine it. -/
theorem any_math {P S : List Nat} (hP1 : 1 ≤ P.length) (hP8 : P.length ≤ 8) (hP : ∀ c ∈ P, c < 257) (h : S.Pairwise (· < ·)) (hS : ∀ i ∈ S, i < 16) (hl : S.length = P.length) :
    enB7 (P.length : Int) (intL (selQ P S)) = true ∧ frI (P.length : Int) (intL (selQ P S)) = zI P := by
  have hp := sel_places (P := P) h hS
  have hlen : (selQ P S).length = P.length := by rw [selQ, List.length_map, hl]
  have hg := goodP_of hp (by omega)
  have hen : enB7 (P.length : Int) (intL (selQ P S)) = true := by
    rw [enB7, hg, intL_length, hlen]
    simp [inB]; omega
  refine ⟨hen, ?_⟩
  rw [frI, if_pos hen, natL_intL, Int.toNat_natCast, List.take_of_length_le (by omega)]
  rw [from_eq hp ⟨hlen.symm, hP, fun p hpm => by
    obtain ⟨i, _, rfl⟩ := List.mem_map.1 hpm
    rfl⟩]
theorem agree_all (P : List Nat) (S : List Nat) : agreeN P (selQ P S) = S.length := by
  rw [agreeN, List.filter_eq_self.2 (fun q hq => by
    obtain ⟨i, _, rfl⟩ := List.mem_map.1 hq
    simp), selQ, List.length_map]
theorem any_agree {P : List Nat} {n : Nat} (hP1 : 1 ≤ P.length) (hP8 : P.length ≤ 8) (hP : ∀ c ∈ P, c < 257) (hn : n ≤ 16) : agOkB (zI P) (intL (ptsL P n)) = true ∧ agI (zI P) (intL (ptsL P n)) = (n : Int) := by
  have hp : Places (ptsL P n) := sel_places (S := List.range n) List.pairwise_lt_range (fun i hi => by have := List.mem_range.1 hi; omega)
  have hg := goodP_of hp (by rw [pts_length]; exact hn)
  have hal : allIn (zI P) 256 = true := by
    rw [allIn, List.all_eq_true]
    intro z hz
    obtain ⟨c, hc, rfl⟩ := List.mem_map.1 hz
    have := hP c hc
    simp [inB]; omega
  have hpo : polB7 (zI P) = true := by
    rw [polB7, hal, zI_length]
    simp [inB]; omega
  have hok : agOkB (zI P) (intL (ptsL P n)) = true := by rw [agOkB, hpo, hg]; rfl
  refine ⟨hok, ?_⟩
  rw [agI, if_pos hok, zI_back, natL_intL, pts_sel, agree_all, List.length_range]
theorem po_nat {zs : List Int} {n : Int} (h : poOkB zs n = true) : ∃ (P : List Nat) (m : Nat), zs = zI P ∧ n = m ∧ 1 ≤ P.length ∧ P.length ≤ 8 ∧ (∀ c ∈ P, c < 257) ∧ 1 ≤ m ∧ m ≤ 16 ∧ poI zs n = intL (ptsL P m) := by
  have h' := h
  simp only [poOkB, Bool.and_eq_true] at h'
  obtain ⟨P, rfl, h1, h8, hP⟩ := pol_nat h'.1
  have hn : 1 ≤ n ∧ n ≤ 16 := by simpa [inB] using h'.2
  obtain ⟨m, rfl⟩ := Int.eq_ofNat_of_zero_le (show 0 ≤ n by omega)
  exact ⟨P, m, rfl, rfl, h1, h8, hP, by omega, by omega, by rw [poI, if_pos h, zI_back, Int.toNat_natCast]⟩
theorem sel_snoc (P S : List Nat) (j : Nat) : intL (selQ P (S ++ [j])) = intL (selQ P S) ++ [((j : Int), ((valN P j : Nat) : Int))] := by
  rw [selQ, List.map_append, intL_append]; rfl
theorem rise_snoc {S : List Nat} {j : Nat} (h : S.Pairwise (· < ·)) (hS : ∀ i ∈ S, i < j) : (S ++ [j]).Pairwise (· < ·) ∧ ∀ i ∈ S ++ [j], i < j + 1 := by
  refine ⟨?_, fun i hi => ?_⟩
  · rw [List.pairwise_append]
    exact ⟨h, List.pairwise_singleton _ _, fun a ha b hb => by rw [List.mem_singleton.1 hb]; exact hS a ha⟩
  · rcases List.mem_append.1 hi with hi | hi
    · have := hS i hi; omega
    · rw [List.mem_singleton.1 hi]; omega

set_option maxRecDepth 100000 in
set_option maxHeartbeats 16000000 in
theorem fnAny_small {K : World → Prop} (hK : Stays5 K)
    (hPo : ∀ (A : Option Addr) (zs : List Int) (ca : Nat) (n : Int) (w : World), K w → Ints w A zs → zs.length ≤ 1048576 → zs.length ≤ ca → Calls Try.prog 11 #[.slice A zs.length ca, .int .i64 n] w fun e w' => ∃ v, e = .returned (.tuple #[v, .bool (poOkB zs n)]) ∧ OwnPt w' w.heap.size v (poI zs n) ∧ Below w.heap.size w w')
    (hG : ∀ (A : Option Addr) (ls : List (Int × Int)) (ca : Nat) (w : World), K w → Lets w A ls → ls.length ≤ 1048576 → ls.length ≤ ca → Calls Try.prog 14 #[.slice A ls.length ca] w fun e w' => e = .returned (.bool (goodPB ls)) ∧ Below w.heap.size w w')
    (hF : ∀ (n : Int) (A : Option Addr) (ls : List (Int × Int)) (ca : Nat) (w : World), K w → Lets w A ls → ls.length ≤ 1048576 → ls.length ≤ ca → Calls Try.prog 17 #[.int .i64 n, .slice A ls.length ca] w fun e w' => ∃ v, e = .returned (.tuple #[v, .bool (enB7 n ls)]) ∧ Own w' w.heap.size v (frI n ls) ∧ Below w.heap.size w w')
    (hAg : ∀ (A B : Option Addr) (zs : List Int) (ls : List (Int × Int)) (ca cb : Nat) (w : World), K w → Ints w A zs → Lets w B ls → zs.length ≤ 1048576 → ls.length ≤ 1048576 → zs.length ≤ ca → ls.length ≤ cb → Calls Try.prog 18 #[.slice A zs.length ca, .slice B ls.length cb] w fun e w' => e = .returned (.tuple #[.int .i64 (agI zs ls), .bool (agOkB zs ls)]) ∧ Below w.heap.size w w')
    (hV : ∀ (A : Option Addr) (zs : List Int) (ca : Nat) (n : Int) (w : World), K w → Ints w A zs → zs.length ≤ 1048576 → zs.length ≤ ca → Calls Try.prog 23 #[.slice A zs.length ca, .int .i64 n] w fun e w' => e = .returned (.tuple #[.int .i64 (vaI zs n), .bool (vaOkB zs n)]) ∧ Below w.heap.size w w')
    (hIv : ∀ (n : Int) (w : World), K w → Calls Try.prog 26 #[.int .i64 n] w fun e w' => e = .returned (.tuple #[.int .i64 (ivI n), .bool (ivOkB n)]) ∧ Below w.heap.size w w')
    (A : Option Addr) (za : List Int) (ca : Nat) (B : Option Addr) (zb : List Int) (cb : Nat) (w : World) (hw : K w) (ha : Byts w w.heap.size A za) (hb : Byts w w.heap.size B zb) (hl : za.length + zb.length ≤ 1048576) :
    Calls Try.prog 3 #[.slice A za.length ca, .slice B zb.length cb] w fun e w' => e = .returned (.bool true) ∧ Below w.heap.size w w' := by
  have HA := Lib.hid ha
  have HB := Lib.hid hb
  have HW := Lib.hid hw
  have HIP := Lib.hid hPo
  have HIG := Lib.hid hG
  have HIF := Lib.hid hF
  have HIA := Lib.hid hAg
  have HIV := Lib.hid hV
  have HII := Lib.hid hIv
  clear ha hb hw hPo hG hF hAg hV hIv
  go_enter Try.func3, Try.ntmps3
  go_wp2_with fail
  refine (drawPts7 A za ca _ HA.out).mono ?_
  rintro e w1 ⟨A1, bl, c1, n, rfl, hI1, hcap1, hl1, hb1⟩
  have HX1 := Lib.hid hI1
  have HB1 := Lib.hid hb1
  clear hI1 hb1 HA
  have HE1 := Lib.hid (HIP.out A1 bl c1 n w1 (hK _ _ HW.out HB1.out) HX1.out (by omega) hcap1)
  have HS1 := Lib.hid (fun w h => sPoints_any A1 bl c1 n w h (by omega))
  have HPn := Lib.hid (@po_nat bl n)
  have hVl := poI_len bl n
  generalize poI bl n = V at *
  generalize poOkB bl n = ok at *
  have hq := eqLs_self V
  go_wp2_with fail
  refine HE1.out.mono ?_
  rintro e w2 ⟨v2, rfl, ho2, hb2⟩
  obtain ⟨A2, c2, rfl, hcap2, hI2⟩ := ho2.form
  have HV2 := Lib.hid hI2
  have HX2 := Lib.hid (HX1.out.below hb2)
  have HB2 := Lib.hid (below_more HB1.out hb2)
  clear ho2 hI2 hb2 HX1 HB1 HE1
  go_wp2_with fail
  refine (HS1.out w2 HX2.out).mono ?_
  rintro e w3 ⟨v3, rfl, ho3, hb3⟩
  obtain ⟨A3, c3, rfl, _, hI3⟩ := ho3.form
  have HU3 := Lib.hid hI3
  have HV3 := Lib.hid (HV2.out.below hb3)
  have HX3 := Lib.hid (HX2.out.below hb3)
  have HB3 := Lib.hid (below_more HB2.out hb3)
  clear ho3 hI3 hb3 HX2 HB2 HV2 HS1
  go_wp2_with fail
  refine (samePoints_any A2 A3 V V c2 c3 _ HV3.out HU3.out (by omega)).mono ?_
  rintro e w4 ⟨rfl, n4, rfl⟩
  have hdr4 : Below w3.heap.size w3 (w3.drewN n4) := gDrewN n4
  have HV4 := Lib.hid (HV3.out.below hdr4)
  have HX4 := Lib.hid (HX3.out.below hdr4)
  have HB4 := Lib.hid (below_more HB3.out hdr4)
  clear hdr4 HV3 HX3 HB3 HU3
  generalize w3.drewN n4 = w4 at *
  have HG4 := Lib.hid (HIG.out A2 V c2 w4 (hK _ _ HW.out HB4.out) HV4.out (by omega) hcap2)
  have HS4 := Lib.hid (fun w h => sGoodP_any A2 V c2 w h (by omega))
  generalize goodPB V = gp at *
  go_wp2_with fail
  refine HG4.out.mono ?_
  rintro e w5 ⟨rfl, hb5⟩
  have HV5 := Lib.hid (HV4.out.below hb5)
  have HX5 := Lib.hid (HX4.out.below hb5)
  have HB5 := Lib.hid (below_more HB4.out hb5)
  clear hb5 HV4 HX4 HB4 HG4
  go_wp2_with fail
  refine (HS4.out w5 HV5.out).mono ?_
  rintro e w6 ⟨rfl, hb6⟩
  have HV6 := Lib.hid (HV5.out.below hb6)
  have HX6 := Lib.hid (HX5.out.below hb6)
  have HB6 := Lib.hid (below_more HB5.out hb6)
  clear hb6 HV5 HX5 HB5 HS4
  cases ok
  · have HBx := HB6
    clear HB6 HX6 HV6 HPn
    go_wp2_with fail
    refine (drawFrom7 B zb cb _ (byts_on7 HB.out HBx.out)).mono ?_
    rintro e w20 ⟨k2, A20, qs, c20, rfl, hq20, hcq20, hl20, hb20⟩
    have HQ20 := Lib.hid hq20
    have HB20 := Lib.hid (below_more HBx.out hb20)
    clear hq20 hb20 HBx
    have HE20 := Lib.hid (HIF.out k2 A20 qs c20 w20 (hK _ _ HW.out HB20.out) HQ20.out (by omega) hcq20)
    have HS20 := Lib.hid (fun w h => sFrom_any k2 A20 qs c20 w h (by omega) hcq20)
    have hlenF := frI_len k2 qs
    generalize frI k2 qs = VF at *
    generalize enB7 k2 qs = fo at *
    have hqF : eqL VF VF = true := by simp [eqL]
    go_wp2_with fail
    refine HE20.out.mono ?_
    rintro e w21 ⟨v21, rfl, ho21, hb21⟩
    obtain ⟨A21, c21, rfl, hI21⟩ := ho21.form
    have HX21 := Lib.hid hI21
    have HQ21 := Lib.hid (HQ20.out.below hb21)
    have HB21 := Lib.hid (below_more HB20.out hb21)
    clear ho21 hI21 hb21 HB20 HE20 HQ20
    go_wp2_with fail
    refine (HS20.out w21 HQ21.out).mono ?_
    rintro e w22 ⟨v22, rfl, ho22, hb22⟩
    obtain ⟨A22, c22, rfl, hI22⟩ := ho22.form
    have HY22 := Lib.hid hI22
    have HX22 := Lib.hid (HX21.out.below hb22)
    have HB22 := Lib.hid (below_more HB21.out hb22)
    clear ho22 hI22 hb22 HB21 HX21 HS20 HQ21
    go_wp2_with fail
    refine (drawVal7 B zb cb _ (byts_on7 HB.out HB22.out)).mono ?_
    rintro e w23 ⟨A23, u23, c23, at23, rfl, hI23, hcap23, hl23, hb23⟩
    have HZ23 := Lib.hid hI23
    have HX23 := Lib.hid (HX22.out.below hb23)
    have HY23 := Lib.hid (HY22.out.below hb23)
    have HB23 := Lib.hid (below_more HB22.out hb23)
    clear hI23 hb23 HX22 HY22 HB22
    have HE23 := Lib.hid (HIV.out A23 u23 c23 at23 w23 (hK _ _ HW.out HB23.out) HZ23.out (by omega) hcap23)
    have HS23 := Lib.hid (fun w h => sValue_any A23 u23 c23 at23 w h (by omega))
    generalize vaI u23 at23 = vi at *
    generalize vaOkB u23 at23 = vo at *
    go_wp2_with fail
    refine HE23.out.mono ?_
    rintro e w24 ⟨rfl, hb24⟩
    have HZ24 := Lib.hid (HZ23.out.below hb24)
    have HX24 := Lib.hid (HX23.out.below hb24)
    have HY24 := Lib.hid (HY23.out.below hb24)
    have HB24 := Lib.hid (below_more HB23.out hb24)
    clear hb24 HX23 HY23 HB23 HZ23 HE23
    go_wp2_with fail
    refine (HS23.out w24 HZ24.out).mono ?_
    rintro e w25 ⟨rfl, rfl⟩
    clear HS23 HZ24
    go_wp2_with fail
    refine (drawInv7 B zb cb _ (byts_on7 HB.out HB24.out)).mono ?_
    rintro e w26 ⟨iN, rfl, hb26⟩
    have HX26 := Lib.hid (HX24.out.below hb26)
    have HY26 := Lib.hid (HY24.out.below hb26)
    have HB26 := Lib.hid (below_more HB24.out hb26)
    clear hb26 HX24 HY24 HB24
    have HE26 := Lib.hid (HII.out iN w26 (hK _ _ HW.out HB26.out))
    have HS26 := Lib.hid (fun w => sInv_any iN w)
    have HIp := Lib.hid (@iv_prod iN)
    generalize ivI iN = xi at *
    generalize ivOkB iN = xo at *
    go_wp2_with fail
    refine HE26.out.mono ?_
    rintro e w27 ⟨rfl, hb27⟩
    have HX27 := Lib.hid (HX26.out.below hb27)
    have HY27 := Lib.hid (HY26.out.below hb27)
    have HB27 := Lib.hid (below_more HB26.out hb27)
    clear hb27 HX26 HY26 HB26 HE26
    go_wp2_with fail
    refine (HS26.out w27).mono ?_
    rintro e w28 ⟨rfl, rfl⟩
    clear HS26
    cases xo
    · go_wp2_with fail
      refine (sameInts_any A21 A22 VF VF c21 c22 _ HX27.out HY27.out (by omega)).mono ?_
      rintro e w29 ⟨rfl, n29, rfl⟩
      have HB29 := Lib.hid (below_more HB27.out (gDrewN n29))
      go_wp2_with fail
      go_ret
      exact ⟨rfl, HB29.out⟩
    · obtain ⟨hm0, hm1, hm2⟩ := HIp.out rfl
      go_wp2_with fail
      refine (sameInts_any A21 A22 VF VF c21 c22 _ HX27.out HY27.out (by omega)).mono ?_
      rintro e w29 ⟨rfl, n29, rfl⟩
      have HB29 := Lib.hid (below_more HB27.out (gDrewN n29))
      go_wp2_with fail
      go_ret
      exact ⟨rfl, HB29.out⟩
  · by_cases hge : (bl.length : Int) ≤ n
    · obtain ⟨P, m, rfl, rfl, hP1, hP8, hP, hm1, hm16, rfl⟩ := HPn.out rfl
      have HPb := Lib.hid hP
      have HAny := Lib.hid (fun (S : List Nat) h1 h2 h3 => any_math (S := S) hP1 hP8 hP h1 h2 h3)
      have HAg := Lib.hid (any_agree (n := m) hP1 hP8 hP hm16)
      have HLz : Hid ((zI P).length = P.length) := zI_length P
      have HLp : Hid ((intL (ptsL P m)).length = m) := by show _ = _; rw [intL_length, pts_length]
      rw [zI_length] at hge hcap1
      have hgeN : P.length ≤ m := by omega
      rw [HLp.out] at hcap2
      have HAgC := Lib.hid (fun w hk h1 h2 => HIA.out A1 A2 (zI P) (intL (ptsL P m)) c1 c2 w hk h1 h2 (by rw [HLz.out]; omega) (by rw [HLp.out]; omega) (by rw [HLz.out]; exact hcap1) (by rw [HLp.out]; exact hcap2))
      rw [HAg.out.1, HAg.out.2, HLz.out, HLp.out] at HAgC
      have HPt : Hid (∀ j, j < m → ∃ b o, A2 = some ⟨b, o, none⟩ ∧ ∀ w', Lets w' A2 (intL (ptsL P m)) → w'.cell? ⟨b, o + j * 2, none⟩ = some (.int .i64 (j : Nat)) ∧ w'.cell? ⟨b, o + j * 2 + 1, none⟩ = some (.int .i64 (valN P j : Nat))) := fun j hj => by
        have hj' : j < (intL (ptsL P m)).length := by rw [HLp.out]; exact hj
        have hne : intL (ptsL P m) ≠ [] := by intro e0; rw [e0] at hj'; simp at hj'
        obtain ⟨b, o, e, _⟩ := HV6.out hne
        refine ⟨b, o, e, fun w' h' => ?_⟩
        obtain ⟨b', o', e', hc⟩ := h' hne
        rw [e] at e'
        injection e' with e'
        injection e' with e1 e2
        subst e1; subst e2
        have := hc j hj'
        have eq : (intL (ptsL P m))[j] = ((j : Int), ((valN P j : Nat) : Int)) := by simp [intL, ptsL]
        rw [eq] at this
        exact this
      rw [HLz.out, HLp.out]
      clear hP HPn HAg hq hVl
      go_wp2_with fail
      go_loopg [11, 83] m (fun gk v i wr => ∃ (j : Nat) (S : List Nat), j + gk = m ∧ i = .int .i64 j ∧ OwnPt wr w6.heap.size v (intL (selQ P S)) ∧ S.Pairwise (· < ·) ∧ (∀ i ∈ S, i < j) ∧ S.length ≤ P.length ∧ P.length - S.length ≤ m - j ∧ Below w6.heap.size w6 wr)
      case atStart => exact ⟨0, [], by omega, rfl, OwnPt.nil _ _, List.Pairwise.nil, (fun i hi => by cases hi), by simp, by simp; omega, Below.refl _ _⟩
      case round =>
        obtain ⟨j, S, hg, rfl, hown, hsr, hsl, hsP, hrem, hbel⟩ := hrel
        have HO := Lib.hid hown
        have HSr := Lib.hid hsr
        have HSl := Lib.hid hsl
        have HBl := Lib.hid hbel
        clear hown hsr hsl hbel
        by_cases hlt : j < m
        · have hji : (j : Int) < (m : Int) := by omega
          obtain ⟨b1, o1, e1, hcells⟩ := HPt.out j hlt
          subst e1
          obtain ⟨p1, p2⟩ := hcells wr (HV6.out.below HBl.out)
          have HSn := Lib.hid (sel_snoc P S j)
          obtain ⟨hr1, hr2⟩ := rise_snoc HSr.out HSl.out
          have HR1 := Lib.hid hr1
          have HR2 := Lib.hid hr2
          have HSl2 : Hid (∀ i ∈ S, i < j + 1) := fun i hi => by have := HSl.out i hi; omega
          have HGK : Hid (m - j - 1 < gk ∧ j + 1 + (m - j - 1) = m) := by show _ ∧ _; omega
          have HSel : Hid ((intL (selQ P S)).length = S.length) := by show _ = _; rw [intL_length, selQ, List.length_map]
          have hSlen : S.length ≤ 8 := by omega
          obtain ⟨A11, c11, rfl, hcap11, _⟩ := HO.out.form
          rw [HSel.out] at hcap11 ⊢
          have HO' : Hid (OwnPt wr w6.heap.size (.slice A11 S.length c11) (intL (selQ P S))) := by
            have h := HO.out
            rw [HSel.out] at h
            exact h
          have hLLen : (intL (selQ P S)).length ≤ 16 := by rw [HSel.out]; omega
          clear hcells hg hr1 hr2 HO
          generalize valN P j = y at *
          have hW := gAlloc wr (.cells #[.int .i64 (j : Nat), .int .i64 (y : Nat)] 32)
          have HOW := Lib.hid (HO'.out.below hW)
          have HBW := Lib.hid (below_more HBl.out hW)
          have hx0 : (wr.alloc (.cells #[.int .i64 (j : Nat), .int .i64 (y : Nat)] 32)).cell? ⟨wr.heap.size, 0, none⟩ = some (.int .i64 (j : Nat)) := cell_of_row _ _ 0 _ _ _ (heap_alloc_new _ _)
          have hx1 : (wr.alloc (.cells #[.int .i64 (j : Nat), .int .i64 (y : Nat)] 32)).cell? ⟨wr.heap.size, 1, none⟩ = some (.int .i64 (y : Nat)) := cell_of_row _ _ 1 _ _ _ (heap_alloc_new _ _)
          have hsW := (below_more HBl.out hW).size
          have HByt := Lib.hid (byts_on7 HB.out (below_more (below_more HB6.out HBl.out) hW))
          clear hW HO' HBl
          by_cases hc1 : m - j ≤ P.length - S.length
          · have hc1i : (m : Int) - (j : Int) ≤ (P.length : Int) - (S.length : Int) := by omega
            have HLn : Hid ((S ++ [j]).length ≤ P.length ∧ P.length - (S ++ [j]).length ≤ m - (j + 1)) := by show _ ∧ _; rw [List.length_append]; simp; omega
            clear hc1
            go_wp2_with (at_builtin; refine app_pt (wr.alloc (.cells #[.int .i64 (j : Nat), .int .i64 (y : Nat)] 32)) w6.heap.size _ (intL (selQ P S)) (j : Int) (y : Int) (wr.heap.size + 1) (by simp) rfl _ _ rfl rfl rfl HOW.out hsW (by omega) w6 HBW.out ?_)
            intro v' w' H'
            go_wp2_with fail
            go_roundg (m - j - 1)
            case measure => exact HGK.out.1
            case rel => exact ⟨j + 1, S ++ [j], HGK.out.2, by go_num, by rw [HSn.out]; exact H'.out.1, HR1.out, HR2.out, HLn.out.1, HLn.out.2, H'.out.2⟩
          · have hc1i : ¬ (m : Int) - (j : Int) ≤ (P.length : Int) - (S.length : Int) := by omega
            have HLs : Hid (S.length ≤ P.length ∧ P.length - S.length ≤ m - (j + 1)) := by show _ ∧ _; omega
            by_cases hc2 : S.length < P.length
            · have hc2i : (S.length : Int) < (P.length : Int) := by omega
              have HLn : Hid ((S ++ [j]).length ≤ P.length ∧ P.length - (S ++ [j]).length ≤ m - (j + 1)) := by show _ ∧ _; rw [List.length_append]; simp; omega
              clear hc1 hc2
              go_wp2_with fail
              refine (numberOf_any B zb cb _ HByt.out (by omega)).mono ?_
              rintro e w' ⟨⟨nn, rfl, hnn⟩, rfl⟩
              obtain ⟨bt, hbt⟩ : ∃ bt, (bits .and .i64 ((nn : Int) / (2 : Int) ^ j) 1 == 1) = bt := ⟨_, rfl⟩
              obtain ⟨hp1, hp2⟩ := pow_bd j (by omega)
              cases bt
              · go_wp2_with fail
                go_roundg (m - j - 1)
                case measure => exact HGK.out.1
                case rel => exact ⟨j + 1, S, HGK.out.2, by go_num, HOW.out, HSr.out, HSl2.out, HLs.out.1, HLs.out.2, HBW.out⟩
              · skip
                go_wp2_with (at_builtin; refine app_pt (wr.alloc (.cells #[.int .i64 (j : Nat), .int .i64 (y : Nat)] 32)) w6.heap.size _ (intL (selQ P S)) (j : Int) (y : Int) (wr.heap.size + 1) (by simp) rfl _ _ rfl rfl rfl HOW.out hsW (by omega) w6 HBW.out ?_)
                intro v' w' H'
                go_wp2_with fail
                go_roundg (m - j - 1)
                case measure => exact HGK.out.1
                case rel => exact ⟨j + 1, S ++ [j], HGK.out.2, by go_num, by rw [HSn.out]; exact H'.out.1, HR1.out, HR2.out, HLn.out.1, HLn.out.2, H'.out.2⟩
            · have hc2i : ¬ (S.length : Int) < (P.length : Int) := by omega
              clear hc1 hc2
              go_wp2_with fail
              go_roundg (m - j - 1)
              case measure => exact HGK.out.1
              case rel => exact ⟨j + 1, S, HGK.out.2, by go_num, HOW.out, HSr.out, HSl2.out, HLs.out.1, HLs.out.2, HBW.out⟩
        · have hjm : m = j := by omega
          subst hjm
          have hji : ¬ (m : Int) < (m : Int) := by omega
          have hSP : S.length = P.length := by omega
          obtain ⟨a1, a2⟩ := HAny.out S HSr.out (fun i hi => by have := HSl.out i hi; omega) hSP
          obtain ⟨A11, c11, rfl, hcap11, hI11⟩ := HO.out.form
          have HSel : Hid ((intL (selQ P S)).length = S.length) := by show _ = _; rw [intL_length, selQ, List.length_map]
          have HX11 := Lib.hid hI11
          have HFr := Lib.hid (fun w hk h => HIF.out (P.length : Int) A11 (intL (selQ P S)) c11 w hk h (by rw [HSel.out]; omega) hcap11)
          rw [a1, a2] at HFr
          have HB11 := Lib.hid (below_more HB6.out HBl.out)
          have HXb := Lib.hid (HX6.out.below HBl.out)
          have HVb := Lib.hid (HV6.out.below HBl.out)
          have hqb : eqL (zI P) (zI P) = true := by simp [eqL]
          have hnn : ((m : Int) != (m : Int)) = false := by simp
          clear a1 a2 hI11 HO HBl hg hlt HAny HPt HX6 HV6 HB6
          go_wp2_with fail
          refine (HFr.out wr (hK _ _ HW.out HB11.out) HX11.out).mono ?_
          rintro e w12 ⟨v12, rfl, ho12, hb12⟩
          obtain ⟨A12, c12, rfl, hI12⟩ := ho12.form
          rw [HLz.out]
          have HF12 := Lib.hid hI12
          have HX12 := Lib.hid (HXb.out.below hb12)
          have HV12 := Lib.hid (HVb.out.below hb12)
          have HB12 := Lib.hid (below_more HB11.out hb12)
          clear ho12 hI12 hb12 HFr HX11 HXb HVb HB11
          go_wp2_with fail
          refine (HAgC.out w12 (hK _ _ HW.out HB12.out) HX12.out HV12.out).mono ?_
          rintro e w13 ⟨rfl, hb13⟩
          have HF13 := Lib.hid (HF12.out.below hb13)
          have HX13 := Lib.hid (HX12.out.below hb13)
          have HB13 := Lib.hid (below_more HB12.out hb13)
          clear hb13 HAgC HF12 HX12 HV12 HB12
          have HSm := Lib.hid (sameInts_any A12 A1 (zI P) (zI P) c12 c1 w13 HF13.out HX13.out (by rw [HLz.out]; omega))
          rw [hqb, HLz.out] at HSm
          go_wp2_with fail
          refine HSm.out.mono ?_
          rintro e w14 ⟨rfl, n14, rfl⟩
          have HBx := Lib.hid (below_more HB13.out (gDrewN n14))
          clear HB13 HF13 HX13 HSm
          generalize w13.drewN n14 = w14 at *
          go_wp2_with fail
          refine (drawFrom7 B zb cb _ (byts_on7 HB.out HBx.out)).mono ?_
          rintro e w20 ⟨k2, A20, qs, c20, rfl, hq20, hcq20, hl20, hb20⟩
          have HQ20 := Lib.hid hq20
          have HB20 := Lib.hid (below_more HBx.out hb20)
          clear hq20 hb20 HBx
          have HE20 := Lib.hid (HIF.out k2 A20 qs c20 w20 (hK _ _ HW.out HB20.out) HQ20.out (by omega) hcq20)
          have HS20 := Lib.hid (fun w h => sFrom_any k2 A20 qs c20 w h (by omega) hcq20)
          have hlenF := frI_len k2 qs
          generalize frI k2 qs = VF at *
          generalize enB7 k2 qs = fo at *
          have hqF : eqL VF VF = true := by simp [eqL]
          go_wp2_with fail
          refine HE20.out.mono ?_
          rintro e w21 ⟨v21, rfl, ho21, hb21⟩
          obtain ⟨A21, c21, rfl, hI21⟩ := ho21.form
          have HX21 := Lib.hid hI21
          have HQ21 := Lib.hid (HQ20.out.below hb21)
          have HB21 := Lib.hid (below_more HB20.out hb21)
          clear ho21 hI21 hb21 HB20 HE20 HQ20
          go_wp2_with fail
          refine (HS20.out w21 HQ21.out).mono ?_
          rintro e w22 ⟨v22, rfl, ho22, hb22⟩
          obtain ⟨A22, c22, rfl, hI22⟩ := ho22.form
          have HY22 := Lib.hid hI22
          have HX22 := Lib.hid (HX21.out.below hb22)
          have HB22 := Lib.hid (below_more HB21.out hb22)
          clear ho22 hI22 hb22 HB21 HX21 HS20 HQ21
          go_wp2_with fail
          refine (drawVal7 B zb cb _ (byts_on7 HB.out HB22.out)).mono ?_
          rintro e w23 ⟨A23, u23, c23, at23, rfl, hI23, hcap23, hl23, hb23⟩
          have HZ23 := Lib.hid hI23
          have HX23 := Lib.hid (HX22.out.below hb23)
          have HY23 := Lib.hid (HY22.out.below hb23)
          have HB23 := Lib.hid (below_more HB22.out hb23)
          clear hI23 hb23 HX22 HY22 HB22
          have HE23 := Lib.hid (HIV.out A23 u23 c23 at23 w23 (hK _ _ HW.out HB23.out) HZ23.out (by omega) hcap23)
          have HS23 := Lib.hid (fun w h => sValue_any A23 u23 c23 at23 w h (by omega))
          generalize vaI u23 at23 = vi at *
          generalize vaOkB u23 at23 = vo at *
          go_wp2_with fail
          refine HE23.out.mono ?_
          rintro e w24 ⟨rfl, hb24⟩
          have HZ24 := Lib.hid (HZ23.out.below hb24)
          have HX24 := Lib.hid (HX23.out.below hb24)
          have HY24 := Lib.hid (HY23.out.below hb24)
          have HB24 := Lib.hid (below_more HB23.out hb24)
          clear hb24 HX23 HY23 HB23 HZ23 HE23
          go_wp2_with fail
          refine (HS23.out w24 HZ24.out).mono ?_
          rintro e w25 ⟨rfl, rfl⟩
          clear HS23 HZ24
          go_wp2_with fail
          refine (drawInv7 B zb cb _ (byts_on7 HB.out HB24.out)).mono ?_
          rintro e w26 ⟨iN, rfl, hb26⟩
          have HX26 := Lib.hid (HX24.out.below hb26)
          have HY26 := Lib.hid (HY24.out.below hb26)
          have HB26 := Lib.hid (below_more HB24.out hb26)
          clear hb26 HX24 HY24 HB24
          have HE26 := Lib.hid (HII.out iN w26 (hK _ _ HW.out HB26.out))
          have HS26 := Lib.hid (fun w => sInv_any iN w)
          have HIp := Lib.hid (@iv_prod iN)
          generalize ivI iN = xi at *
          generalize ivOkB iN = xo at *
          go_wp2_with fail
          refine HE26.out.mono ?_
          rintro e w27 ⟨rfl, hb27⟩
          have HX27 := Lib.hid (HX26.out.below hb27)
          have HY27 := Lib.hid (HY26.out.below hb27)
          have HB27 := Lib.hid (below_more HB26.out hb27)
          clear hb27 HX26 HY26 HB26 HE26
          go_wp2_with fail
          refine (HS26.out w27).mono ?_
          rintro e w28 ⟨rfl, rfl⟩
          clear HS26
          cases xo
          · go_wp2_with fail
            refine (sameInts_any A21 A22 VF VF c21 c22 _ HX27.out HY27.out (by omega)).mono ?_
            rintro e w29 ⟨rfl, n29, rfl⟩
            have HB29 := Lib.hid (below_more HB27.out (gDrewN n29))
            go_wp2_with fail
            go_ret
            exact ⟨rfl, HB29.out⟩
          · obtain ⟨hm0, hm1, hm2⟩ := HIp.out rfl
            go_wp2_with fail
            refine (sameInts_any A21 A22 VF VF c21 c22 _ HX27.out HY27.out (by omega)).mono ?_
            rintro e w29 ⟨rfl, n29, rfl⟩
            have HB29 := Lib.hid (below_more HB27.out (gDrewN n29))
            go_wp2_with fail
            go_ret
            exact ⟨rfl, HB29.out⟩
    · have HBx := HB6
      clear HB6 HX6 HV6 HPn
      go_wp2_with fail
      refine (drawFrom7 B zb cb _ (byts_on7 HB.out HBx.out)).mono ?_
      rintro e w20 ⟨k2, A20, qs, c20, rfl, hq20, hcq20, hl20, hb20⟩
      have HQ20 := Lib.hid hq20
      have HB20 := Lib.hid (below_more HBx.out hb20)
      clear hq20 hb20 HBx
      have HE20 := Lib.hid (HIF.out k2 A20 qs c20 w20 (hK _ _ HW.out HB20.out) HQ20.out (by omega) hcq20)
      have HS20 := Lib.hid (fun w h => sFrom_any k2 A20 qs c20 w h (by omega) hcq20)
      have hlenF := frI_len k2 qs
      generalize frI k2 qs = VF at *
      generalize enB7 k2 qs = fo at *
      have hqF : eqL VF VF = true := by simp [eqL]
      go_wp2_with fail
      refine HE20.out.mono ?_
      rintro e w21 ⟨v21, rfl, ho21, hb21⟩
      obtain ⟨A21, c21, rfl, hI21⟩ := ho21.form
      have HX21 := Lib.hid hI21
      have HQ21 := Lib.hid (HQ20.out.below hb21)
      have HB21 := Lib.hid (below_more HB20.out hb21)
      clear ho21 hI21 hb21 HB20 HE20 HQ20
      go_wp2_with fail
      refine (HS20.out w21 HQ21.out).mono ?_
      rintro e w22 ⟨v22, rfl, ho22, hb22⟩
      obtain ⟨A22, c22, rfl, hI22⟩ := ho22.form
      have HY22 := Lib.hid hI22
      have HX22 := Lib.hid (HX21.out.below hb22)
      have HB22 := Lib.hid (below_more HB21.out hb22)
      clear ho22 hI22 hb22 HB21 HX21 HS20 HQ21
      go_wp2_with fail
      refine (drawVal7 B zb cb _ (byts_on7 HB.out HB22.out)).mono ?_
      rintro e w23 ⟨A23, u23, c23, at23, rfl, hI23, hcap23, hl23, hb23⟩
      have HZ23 := Lib.hid hI23
      have HX23 := Lib.hid (HX22.out.below hb23)
      have HY23 := Lib.hid (HY22.out.below hb23)
      have HB23 := Lib.hid (below_more HB22.out hb23)
      clear hI23 hb23 HX22 HY22 HB22
      have HE23 := Lib.hid (HIV.out A23 u23 c23 at23 w23 (hK _ _ HW.out HB23.out) HZ23.out (by omega) hcap23)
      have HS23 := Lib.hid (fun w h => sValue_any A23 u23 c23 at23 w h (by omega))
      generalize vaI u23 at23 = vi at *
      generalize vaOkB u23 at23 = vo at *
      go_wp2_with fail
      refine HE23.out.mono ?_
      rintro e w24 ⟨rfl, hb24⟩
      have HZ24 := Lib.hid (HZ23.out.below hb24)
      have HX24 := Lib.hid (HX23.out.below hb24)
      have HY24 := Lib.hid (HY23.out.below hb24)
      have HB24 := Lib.hid (below_more HB23.out hb24)
      clear hb24 HX23 HY23 HB23 HZ23 HE23
      go_wp2_with fail
      refine (HS23.out w24 HZ24.out).mono ?_
      rintro e w25 ⟨rfl, rfl⟩
      clear HS23 HZ24
      go_wp2_with fail
      refine (drawInv7 B zb cb _ (byts_on7 HB.out HB24.out)).mono ?_
      rintro e w26 ⟨iN, rfl, hb26⟩
      have HX26 := Lib.hid (HX24.out.below hb26)
      have HY26 := Lib.hid (HY24.out.below hb26)
      have HB26 := Lib.hid (below_more HB24.out hb26)
      clear hb26 HX24 HY24 HB24
      have HE26 := Lib.hid (HII.out iN w26 (hK _ _ HW.out HB26.out))
      have HS26 := Lib.hid (fun w => sInv_any iN w)
      have HIp := Lib.hid (@iv_prod iN)
      generalize ivI iN = xi at *
      generalize ivOkB iN = xo at *
      go_wp2_with fail
      refine HE26.out.mono ?_
      rintro e w27 ⟨rfl, hb27⟩
      have HX27 := Lib.hid (HX26.out.below hb27)
      have HY27 := Lib.hid (HY26.out.below hb27)
      have HB27 := Lib.hid (below_more HB26.out hb27)
      clear hb27 HX26 HY26 HB26 HE26
      go_wp2_with fail
      refine (HS26.out w27).mono ?_
      rintro e w28 ⟨rfl, rfl⟩
      clear HS26
      cases xo
      · go_wp2_with fail
        refine (sameInts_any A21 A22 VF VF c21 c22 _ HX27.out HY27.out (by omega)).mono ?_
        rintro e w29 ⟨rfl, n29, rfl⟩
        have HB29 := Lib.hid (below_more HB27.out (gDrewN n29))
        go_wp2_with fail
        go_ret
        exact ⟨rfl, HB29.out⟩
      · obtain ⟨hm0, hm1, hm2⟩ := HIp.out rfl
        go_wp2_with fail
        refine (sameInts_any A21 A22 VF VF c21 c22 _ HX27.out HY27.out (by omega)).mono ?_
        rintro e w29 ⟨rfl, n29, rfl⟩
        have HB29 := Lib.hid (below_more HB27.out (gDrewN n29))
        go_wp2_with fail
        go_ret
        exact ⟨rfl, HB29.out⟩
set_option maxRecDepth 100000 in
theorem fnAny_law {K : World → Prop} (hK : Stays5 K)
    (hPo : ∀ (A : Option Addr) (zs : List Int) (ca : Nat) (n : Int) (w : World), K w → Ints w A zs → zs.length ≤ 1048576 → zs.length ≤ ca → Calls Try.prog 11 #[.slice A zs.length ca, .int .i64 n] w fun e w' => ∃ v, e = .returned (.tuple #[v, .bool (poOkB zs n)]) ∧ OwnPt w' w.heap.size v (poI zs n) ∧ Below w.heap.size w w')
    (hG : ∀ (A : Option Addr) (ls : List (Int × Int)) (ca : Nat) (w : World), K w → Lets w A ls → ls.length ≤ 1048576 → ls.length ≤ ca → Calls Try.prog 14 #[.slice A ls.length ca] w fun e w' => e = .returned (.bool (goodPB ls)) ∧ Below w.heap.size w w')
    (hF : ∀ (n : Int) (A : Option Addr) (ls : List (Int × Int)) (ca : Nat) (w : World), K w → Lets w A ls → ls.length ≤ 1048576 → ls.length ≤ ca → Calls Try.prog 17 #[.int .i64 n, .slice A ls.length ca] w fun e w' => ∃ v, e = .returned (.tuple #[v, .bool (enB7 n ls)]) ∧ Own w' w.heap.size v (frI n ls) ∧ Below w.heap.size w w')
    (hAg : ∀ (A B : Option Addr) (zs : List Int) (ls : List (Int × Int)) (ca cb : Nat) (w : World), K w → Ints w A zs → Lets w B ls → zs.length ≤ 1048576 → ls.length ≤ 1048576 → zs.length ≤ ca → ls.length ≤ cb → Calls Try.prog 18 #[.slice A zs.length ca, .slice B ls.length cb] w fun e w' => e = .returned (.tuple #[.int .i64 (agI zs ls), .bool (agOkB zs ls)]) ∧ Below w.heap.size w w')
    (hV : ∀ (A : Option Addr) (zs : List Int) (ca : Nat) (n : Int) (w : World), K w → Ints w A zs → zs.length ≤ 1048576 → zs.length ≤ ca → Calls Try.prog 23 #[.slice A zs.length ca, .int .i64 n] w fun e w' => e = .returned (.tuple #[.int .i64 (vaI zs n), .bool (vaOkB zs n)]) ∧ Below w.heap.size w w')
    (hIv : ∀ (n : Int) (w : World), K w → Calls Try.prog 26 #[.int .i64 n] w fun e w' => e = .returned (.tuple #[.int .i64 (ivI n), .bool (ivOkB n)]) ∧ Below w.heap.size w w')
    (A : Option Addr) (za : List Int) (ca : Nat) (B : Option Addr) (zb : List Int) (cb : Nat) (w : World) (hw : K w) (ha : Byts w w.heap.size A za) (hb : Byts w w.heap.size B zb) (hla : za.length ≤ 140737488355328) (hlb : zb.length ≤ 140737488355328) :
    Calls Try.prog 3 #[.slice A za.length ca, .slice B zb.length cb] w fun e w' => e = .returned (.bool true) ∧ Below w.heap.size w w' := by
  by_cases hl : za.length + zb.length ≤ 1048576
  · exact fnAny_small hK hPo hG hF hAg hV hIv A za ca B zb cb w hw ha hb hl
  · have hl' : (1048576 : Int) < (za.length : Int) + (zb.length : Int) := by omega
    clear hPo hG hF hAg hV hIv
    go_enter Try.func3, Try.ntmps3
    go_wp2_with fail
    go_ret
    exact ⟨rfl, Below.refl _ _⟩
end Go.Proofs.Ytjifpedhncgieaa
