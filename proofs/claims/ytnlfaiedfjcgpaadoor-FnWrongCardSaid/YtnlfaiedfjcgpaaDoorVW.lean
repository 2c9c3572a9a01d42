/-
  FnWrong, walked, whatever the program's own texts are.
-/
import Derived.Test.YtnlfaiedfjcgpaaDoorVC
namespace Go.Proofs.YtnlfaiedfjcgpaaDoor
open Go.RowKit

theorem OwnPt.val {w : World} {base g n cap : Nat} {L : List (Int × Int)} (h : OwnPt w base (.slice (some ⟨g, 0, none⟩) n cap) L) {j : Nat} (hj : j < L.length) (x y : Int) (hx : L[j].1 = x) :
    OwnPt (w.setCell ⟨g, j * 2 + 1, none⟩ (.int .i64 y)) base (.slice (some ⟨g, 0, none⟩) n cap) (L.set j (x, y)) ∧ w.grownBy (w.setCell ⟨g, j * 2 + 1, none⟩ (.int .i64 y)) (some g) ∧ w.cell? ⟨g, j * 2 + 1, none⟩ = some (.int .i64 L[j].2) ∧ w.frozen? ⟨g, j * 2 + 1, none⟩ = false := by
  have hl := own_len h
  subst hl
  have hst := World.ownsRow.stored h (j * 2 + 1) (.int .i64 y)
  refine ⟨?_, hst.2, (World.ownsRow.cellAt h (j * 2 + 1) (by omega)).trans (cellsL_at L j hj).2, World.ownsRow.frozenAt h (j * 2 + 1)⟩
  show World.ownsRow _ _ _ _ _ _ _
  rw [List.length_set, ← cellsL_put L j hj x y, ← hx, set_same5 (cellsL_at L j hj).1]
  exact hst.1
theorem pts_fst {P : List Nat} {n j : Nat} (hj : j < (intL (ptsL P n)).length) : (intL (ptsL P n))[j].1 = (j : Int) := by simp [intL, ptsL]
theorem set_fst {P : List Nat} {n i j : Nat} {u : Int} (hj : j < ((intL (ptsL P n)).set i ((i : Int), u)).length) : ((intL (ptsL P n)).set i ((i : Int), u))[j].1 = (j : Int) := by
  rw [List.getElem_set]
  by_cases h : i = j
  · subst h; simp
  · simp [h, intL, ptsL]
theorem lit_two (w : World) (t : TypeId) (x y : Int) : Ints (w.alloc (.cells #[.int .i64 x, .int .i64 y] t)) (some ⟨w.heap.size, 0, none⟩) [x, y] := fun _ => ⟨w.heap.size, 0, rfl, fun j hj => by
  have : j = 0 ∨ j = 1 := by simp at hj; omega
  rcases this with rfl | rfl
  · exact cell_of_row _ _ 0 _ _ _ (heap_alloc_new _ _)
  · exact cell_of_row _ _ 1 _ _ _ (heap_alloc_new _ _)⟩

set_option maxRecDepth 100000 in
set_option maxHeartbeats 16000000 in
theorem fnWrong_small {K : World → Prop} (hK : Stays5 K)
    (hRd : ∀ (k : Int) (A : Option Addr) (ls : List (Int × Int)) (ca : Nat) (n : Int) (w : World), K w → Lets w A ls → ls.length ≤ 1048576 → ls.length ≤ ca → Calls Tryd.prog 6 #[.int .i64 k, .slice A ls.length ca, .int .i64 n] w fun e w' => ∃ v, e = .returned (.tuple #[v, .bool (rdOkB k ls n)]) ∧ Own w' w.heap.size v (rdI k ls n) ∧ Below w.heap.size w w')
    (hAg : ∀ (A B : Option Addr) (zs : List Int) (ls : List (Int × Int)) (ca cb : Nat) (w : World), K w → Ints w A zs → Lets w B ls → zs.length ≤ 1048576 → ls.length ≤ 1048576 → zs.length ≤ ca → ls.length ≤ cb → Calls Tryd.prog 9 #[.slice A zs.length ca, .slice B ls.length cb] w fun e w' => e = .returned (.tuple #[.int .i64 (agI zs ls), .bool (agOkB zs ls)]) ∧ Below w.heap.size w w')
    (hPo : ∀ (A : Option Addr) (zs : List Int) (ca : Nat) (n : Int) (w : World), K w → Ints w A zs → zs.length ≤ 1048576 → zs.length ≤ ca → Calls Tryd.prog 11 #[.slice A zs.length ca, .int .i64 n] w fun e w' => ∃ v, e = .returned (.tuple #[v, .bool (poOkB zs n)]) ∧ OwnPt w' w.heap.size v (poI zs n) ∧ Below w.heap.size w w')
    (A : Option Addr) (za : List Int) (ca : Nat) (B : Option Addr) (zb : List Int) (cb : Nat) (w : World) (hw : K w) (ha : Byts w w.heap.size A za) (hb : Byts w w.heap.size B zb) (hl : za.length + zb.length ≤ 1048576) :
    Calls Tryd.prog 3 #[.slice A za.length ca, .slice B zb.length cb] w fun e w' => e = .returned (.bool true) ∧ Below w.heap.size w w' := by
  have HA := Lib.hid ha
  have HB := Lib.hid hb
  have HW := Lib.hid hw
  have HIR := Lib.hid hRd
  have HIA := Lib.hid hAg
  have HIP := Lib.hid hPo
  clear ha hb hw hPo hRd hAg
  go_enter Tryd.func3, Tryd.ntmps3
  go_wp2_with fail
  refine (drawRead7 A za ca _ HA.out).mono ?_
  rintro e w1 ⟨k, A1, ps, c1, wr, rfl, hI1, hcap1, hl1, hb1⟩
  have HX1 := Lib.hid hI1
  have HB1 := Lib.hid hb1
  clear hI1 hb1
  have HE1 := Lib.hid (HIR.out k A1 ps c1 wr w1 (hK _ _ HW.out HB1.out) HX1.out (by omega) hcap1)
  have HS1 := Lib.hid (fun w h => sRead_any k A1 ps c1 wr w h (by omega))
  have HOk := Lib.hid (@rd_ok k ps wr)
  have hVl := rdI_len k ps wr
  generalize rdI k ps wr = V at *
  generalize rdOkB k ps wr = ok at *
  have hqF : eqL V V = true := by simp [eqL]
  go_wp2_with fail
  refine HE1.out.mono ?_
  rintro e w2 ⟨v2, rfl, ho2, hb2⟩
  obtain ⟨A2, c2, rfl, hcap2, hI2⟩ := gFormC ho2
  have HV2 := Lib.hid hI2
  have HX2 := Lib.hid (HX1.out.below hb2)
  have HB2 := Lib.hid (below_more HB1.out hb2)
  clear ho2 hI2 hb2 HX1 HB1 HE1
  go_wp2_with fail
  refine (HS1.out w2 HX2.out).mono ?_
  rintro e w3 ⟨v3, rfl, ho3, hb3⟩
  obtain ⟨A3, c3, rfl, hI3⟩ := ho3.form
  have HU3 := Lib.hid hI3
  have HV3 := Lib.hid (HV2.out.below hb3)
  have HX3 := Lib.hid (HX2.out.below hb3)
  have HB3 := Lib.hid (below_more HB2.out hb3)
  clear ho3 hI3 hb3 HX2 HB2 HV2 HS1
  go_wp2_with fail
  refine (sameInts_any A2 A3 V V c2 c3 _ HV3.out HU3.out (by omega)).mono ?_
  rintro e w4 ⟨rfl, n4, rfl⟩
  have hdr4 : Below w3.heap.size w3 (w3.drewN n4) := gDrewN n4
  have HV4 := Lib.hid (HV3.out.below hdr4)
  have HX4 := Lib.hid (HX3.out.below hdr4)
  have HB4 := Lib.hid (below_more HB3.out hdr4)
  clear hdr4 HV3 HX3 HB3 HU3
  generalize w3.drewN n4 = w4 at *
  cases ok
  · have HBx := HB4
    clear HB4 HX4 HV4 HOk
    go_wp2_with fail
    refine (numberOf_any B zb cb _ (byts_on7 HB.out HBx.out) (by omega)).mono ?_
    rintro e w' ⟨⟨n1, rfl, hn1⟩, rfl⟩
    go_wp2_with fail
    refine (numberOf_any A za ca _ (byts_on7 HA.out HBx.out) (by omega)).mono ?_
    rintro e w' ⟨⟨n2, rfl, hn2⟩, rfl⟩
    go_wp2_with fail
    have hz1 : 0 ≤ (n1 : Int) % 257 ∧ (n1 : Int) % 257 < 257 := by omega
    have hz2 : 0 ≤ (n2 : Int) % 257 ∧ (n2 : Int) % 257 < 257 := by omega
    generalize (n1 : Int) % 257 = z1 at *
    generalize (n2 : Int) % 257 = z2 at *
    obtain ⟨a, rfl⟩ := Int.eq_ofNat_of_zero_le hz1.1
    obtain ⟨b, rfl⟩ := Int.eq_ofNat_of_zero_le hz2.1
    have ha7 : a < 257 := by omega
    have hb7 : b < 257 := by omega
    clear hz1 hz2 hn1 hn2
    have HBl := Lib.hid (below_more HBx.out (gAlloc w4 (.cells #[.int .i64 (a : Nat), .int .i64 (b : Nat)] 3)))
    have HLl := Lib.hid (lit_two w4 3 (a : Int) (b : Int))
    have HE6 := Lib.hid (HIP.out (some ⟨w4.heap.size, 0, none⟩) [(a : Int), (b : Int)] 2 6 _ (hK _ _ HW.out HBl.out) HLl.out (by simp) (by simp))
    rw [(po_two ha7 hb7).1, (po_two ha7 hb7).2] at HE6
    generalize w4.alloc (.cells #[.int .i64 (a : Nat), .int .i64 (b : Nat)] 3) = wl at *
    generalize w4.heap.size = gl at *
    refine HE6.out.mono ?_
    rintro e w6 ⟨v6, rfl, ho6, hb6⟩
    clear HBx HE6
    have HLp : Hid ((intL (ptsL [a, b] 6)).length = 6) := by show _ = _; rw [intL_length, pts_length]
    rcases own_sp ho6 with ⟨_, h0⟩ | ⟨g, cc, rfl, hsp⟩
    · have := HLp.out
      rw [h0] at this
      cases this
    have hlow := hsp.low
    have hcap6 := hsp.le
    clear hsp
    rw [HLp.out] at ho6 hcap6 ⊢
    have HO6 := Lib.hid ho6
    have HB6 := Lib.hid hb6
    clear ho6 hb6
    go_wp2_with fail
    refine (numberOf_any B zb cb _ (byts_on7 HB.out (below_more HBl.out HB6.out)) (by omega)).mono ?_
    rintro e w' ⟨⟨n3, rfl, hn3⟩, rfl⟩
    obtain ⟨i, hi, hi6⟩ : ∃ i : Nat, (n3 : Int) % 6 = i ∧ i < 6 := ⟨n3 % 6, by omega, by omega⟩
    go_wp2_with fail
    refine (numberOf_any A za ca _ (byts_on7 HA.out (below_more HBl.out HB6.out)) (by omega)).mono ?_
    rintro e w' ⟨⟨n4, rfl, hn4⟩, rfl⟩
    obtain ⟨u, hu, hu7⟩ : ∃ u : Nat, (n4 : Int) / 3 % 257 = u ∧ u < 257 := ⟨n4 / 3 % 257, by omega, by omega⟩
    obtain ⟨hs1, hg1, hc1, hf1⟩ := HO6.out.val (j := i) (by rw [HLp.out]; exact hi6) (i : Int) (u : Int) (pts_fst _)
    have HO7 := Lib.hid hs1
    have HB7 := Lib.hid (gGrown HB6.out HB6.out.size hg1 hlow)
    clear hs1 hg1 HO6
    generalize (intL (ptsL [a, b] 6))[i].2 = y1 at *
    go_wp2_with fail
    generalize w6.setCell ⟨g, i * 2 + 1, none⟩ (.int .i64 (u : Nat)) = w7 at *
    clear hi hu hn3 hn4 hc1 hf1 HB6
    refine (numberOf_any A za ca _ (byts_on7 HA.out (below_more HBl.out HB7.out)) (by omega)).mono ?_
    rintro e w' ⟨⟨n5, rfl, hn5⟩, rfl⟩
    obtain ⟨j, hj, hj6⟩ : ∃ j : Nat, (n5 : Int) % 6 = j ∧ j < 6 := ⟨n5 % 6, by omega, by omega⟩
    go_wp2_with fail
    refine (numberOf_any B zb cb _ (byts_on7 HB.out (below_more HBl.out HB7.out)) (by omega)).mono ?_
    rintro e w' ⟨⟨n6, rfl, hn6⟩, rfl⟩
    obtain ⟨v, hv, hv7⟩ : ∃ v : Nat, (n6 : Int) / 5 % 257 = v ∧ v < 257 := ⟨n6 / 5 % 257, by omega, by omega⟩
    have hjl : j < ((intL (ptsL [a, b] 6)).set i ((i : Int), (u : Int))).length := by rw [List.length_set, HLp.out]; exact hj6
    obtain ⟨hs2, hg2, hc2, hf2⟩ := HO7.out.val (j := j) hjl (j : Int) (v : Int) (set_fst _)
    rw [two6_set] at hs2
    have HO8 := Lib.hid hs2
    have HB8 := Lib.hid (gGrown HB7.out HB7.out.size hg2 hlow)
    clear hs2 hg2 HO7
    generalize ((intL (ptsL [a, b] 6)).set i ((i : Int), (u : Int)))[j].2 = y2 at *
    clear hjl
    go_wp2_with fail
    generalize w7.setCell ⟨g, j * 2 + 1, none⟩ (.int .i64 (v : Nat)) = w8 at *
    clear hj hv hn5 hn6 hc2 hf2 HB7
    have HLq : Hid ((intL (two6 [a, b] i u j v)).length = 6) := by show _ = _; rw [intL_length, two6_length]
    have HBy := Lib.hid (below_more HBl.out HB8.out)
    have HE8 := Lib.hid (HIR.out 2 (some ⟨g, 0, none⟩) (intL (two6 [a, b] i u j v)) cc 2 w8 (hK _ _ HW.out HBy.out) (own_pts7 HO8.out) (by rw [HLq.out]; omega) (by rw [HLq.out]; exact hcap6))
    rw [HLq.out, (wrong_math ha7 hb7 hi6 hj6 hu7 hv7).1, (wrong_math ha7 hb7 hi6 hj6 hu7 hv7).2] at HE8
    have HL8 := Lib.hid (HLl.out.below HB8.out)
    clear HO8 HB8 HLl HBl HLq HLp
    refine HE8.out.mono ?_
    rintro e w9 ⟨v9, rfl, ho9, hb9⟩
    obtain ⟨A9, c9, rfl, hI9⟩ := ho9.form
    have HB9 := Lib.hid (below_more HBy.out hb9)
    have HSm := Lib.hid (sameInts_any A9 (some ⟨gl, 0, none⟩) [(a : Int), (b : Int)] [(a : Int), (b : Int)] c9 2 w9 hI9 (HL8.out.below hb9) (by simp))
    have e2 : [(a : Int), (b : Int)].length = 2 := rfl
    have hqb : eqL [(a : Int), (b : Int)] [(a : Int), (b : Int)] = true := by simp [eqL]
    rw [e2, hqb] at HSm
    rw [e2]
    clear e2 hqb ho9 hI9 hb9 HBy HE8 HL8
    go_wp2_with fail
    refine HSm.out.mono ?_
    rintro e w10 ⟨rfl, n10, rfl⟩
    have HB10 := Lib.hid (below_more HB9.out (gDrewN n10))
    clear HSm HB9
    generalize w9.drewN n10 = w10 at *
    go_wp2_with fail
    refine (drawAgree7 B zb cb _ (byts_on7 HB.out HB10.out)).mono ?_
    rintro e w11 ⟨A11, l11, c11, A12, q12, c12, rfl, hI11, hcap11, hl11, hI12, hcap12, hl12, hb11⟩
    have HX11 := Lib.hid hI11
    have HY11 := Lib.hid hI12
    have HB11 := Lib.hid (below_more HB10.out hb11)
    clear hI11 hI12 hb11 HB10
    have HE11 := Lib.hid (HIA.out A11 A12 l11 q12 c11 c12 w11 (hK _ _ HW.out HB11.out) HX11.out HY11.out (by omega) (by omega) hcap11 hcap12)
    have HS11 := Lib.hid (fun w h1 h2 => sAgree_any A11 A12 l11 q12 c11 c12 w h1 h2 (by omega) (by omega))
    generalize agI l11 q12 = xi at *
    generalize agOkB l11 q12 = xo at *
    go_wp2_with fail
    refine HE11.out.mono ?_
    rintro e w12 ⟨rfl, hb12⟩
    have HX12 := Lib.hid (HX11.out.below hb12)
    have HY12 := Lib.hid (HY11.out.below hb12)
    have HB12 := Lib.hid (below_more HB11.out hb12)
    clear hb12 HX11 HY11 HB11 HE11
    go_wp2_with fail
    refine (HS11.out w12 HX12.out HY12.out).mono ?_
    rintro e w13 ⟨rfl, hb13⟩
    have HB13 := Lib.hid (below_more HB12.out hb13)
    clear hb13 HX12 HY12 HB12 HS11
    go_wp2_with fail
    go_ret
    exact ⟨rfl, HB13.out⟩
  · obtain ⟨hk1, hk2, hk3, hk4, hk5, hk6⟩ := HOk.out rfl
    have HE4 := Lib.hid (HIA.out A2 A1 V ps c2 c1 w4 (hK _ _ HW.out HB4.out) HV4.out HX4.out (by omega) (by omega) hcap2 hcap1)
    rw [hk1] at HE4
    have hge : ¬ agI V ps < (ps.length : Int) - wr := by omega
    have hnk : ((V.length : Int) != k) = false := by rw [hk4]; simp
    clear hk1 hk4 HOk
    generalize agI V ps = ag at *
    go_wp2_with fail
    refine HE4.out.mono ?_
    rintro e w5 ⟨rfl, hb5⟩
    have HBx := Lib.hid (below_more HB4.out hb5)
    clear hb5 HB4 HX4 HV4 HE4
    go_wp2_with fail
    refine (numberOf_any B zb cb _ (byts_on7 HB.out HBx.out) (by omega)).mono ?_
    rintro e w' ⟨⟨n1, rfl, hn1⟩, rfl⟩
    go_wp2_with fail
    refine (numberOf_any A za ca _ (byts_on7 HA.out HBx.out) (by omega)).mono ?_
    rintro e w' ⟨⟨n2, rfl, hn2⟩, rfl⟩
    go_wp2_with fail
    have hz1 : 0 ≤ (n1 : Int) % 257 ∧ (n1 : Int) % 257 < 257 := by omega
    have hz2 : 0 ≤ (n2 : Int) % 257 ∧ (n2 : Int) % 257 < 257 := by omega
    generalize (n1 : Int) % 257 = z1 at *
    generalize (n2 : Int) % 257 = z2 at *
    obtain ⟨a, rfl⟩ := Int.eq_ofNat_of_zero_le hz1.1
    obtain ⟨b, rfl⟩ := Int.eq_ofNat_of_zero_le hz2.1
    have ha7 : a < 257 := by omega
    have hb7 : b < 257 := by omega
    clear hz1 hz2 hn1 hn2
    have HBl := Lib.hid (below_more HBx.out (gAlloc w5 (.cells #[.int .i64 (a : Nat), .int .i64 (b : Nat)] 3)))
    have HLl := Lib.hid (lit_two w5 3 (a : Int) (b : Int))
    have HE6 := Lib.hid (HIP.out (some ⟨w5.heap.size, 0, none⟩) [(a : Int), (b : Int)] 2 6 _ (hK _ _ HW.out HBl.out) HLl.out (by simp) (by simp))
    rw [(po_two ha7 hb7).1, (po_two ha7 hb7).2] at HE6
    generalize w5.alloc (.cells #[.int .i64 (a : Nat), .int .i64 (b : Nat)] 3) = wl at *
    generalize w5.heap.size = gl at *
    refine HE6.out.mono ?_
    rintro e w6 ⟨v6, rfl, ho6, hb6⟩
    clear HBx HE6
    have HLp : Hid ((intL (ptsL [a, b] 6)).length = 6) := by show _ = _; rw [intL_length, pts_length]
    rcases own_sp ho6 with ⟨_, h0⟩ | ⟨g, cc, rfl, hsp⟩
    · have := HLp.out
      rw [h0] at this
      cases this
    have hlow := hsp.low
    have hcap6 := hsp.le
    clear hsp
    rw [HLp.out] at ho6 hcap6 ⊢
    have HO6 := Lib.hid ho6
    have HB6 := Lib.hid hb6
    clear ho6 hb6
    go_wp2_with fail
    refine (numberOf_any B zb cb _ (byts_on7 HB.out (below_more HBl.out HB6.out)) (by omega)).mono ?_
    rintro e w' ⟨⟨n3, rfl, hn3⟩, rfl⟩
    obtain ⟨i, hi, hi6⟩ : ∃ i : Nat, (n3 : Int) % 6 = i ∧ i < 6 := ⟨n3 % 6, by omega, by omega⟩
    go_wp2_with fail
    refine (numberOf_any A za ca _ (byts_on7 HA.out (below_more HBl.out HB6.out)) (by omega)).mono ?_
    rintro e w' ⟨⟨n4, rfl, hn4⟩, rfl⟩
    obtain ⟨u, hu, hu7⟩ : ∃ u : Nat, (n4 : Int) / 3 % 257 = u ∧ u < 257 := ⟨n4 / 3 % 257, by omega, by omega⟩
    obtain ⟨hs1, hg1, hc1, hf1⟩ := HO6.out.val (j := i) (by rw [HLp.out]; exact hi6) (i : Int) (u : Int) (pts_fst _)
    have HO7 := Lib.hid hs1
    have HB7 := Lib.hid (gGrown HB6.out HB6.out.size hg1 hlow)
    clear hs1 hg1 HO6
    generalize (intL (ptsL [a, b] 6))[i].2 = y1 at *
    go_wp2_with fail
    generalize w6.setCell ⟨g, i * 2 + 1, none⟩ (.int .i64 (u : Nat)) = w7 at *
    clear hi hu hn3 hn4 hc1 hf1 HB6
    refine (numberOf_any A za ca _ (byts_on7 HA.out (below_more HBl.out HB7.out)) (by omega)).mono ?_
    rintro e w' ⟨⟨n5, rfl, hn5⟩, rfl⟩
    obtain ⟨j, hj, hj6⟩ : ∃ j : Nat, (n5 : Int) % 6 = j ∧ j < 6 := ⟨n5 % 6, by omega, by omega⟩
    go_wp2_with fail
    refine (numberOf_any B zb cb _ (byts_on7 HB.out (below_more HBl.out HB7.out)) (by omega)).mono ?_
    rintro e w' ⟨⟨n6, rfl, hn6⟩, rfl⟩
    obtain ⟨v, hv, hv7⟩ : ∃ v : Nat, (n6 : Int) / 5 % 257 = v ∧ v < 257 := ⟨n6 / 5 % 257, by omega, by omega⟩
    have hjl : j < ((intL (ptsL [a, b] 6)).set i ((i : Int), (u : Int))).length := by rw [List.length_set, HLp.out]; exact hj6
    obtain ⟨hs2, hg2, hc2, hf2⟩ := HO7.out.val (j := j) hjl (j : Int) (v : Int) (set_fst _)
    rw [two6_set] at hs2
    have HO8 := Lib.hid hs2
    have HB8 := Lib.hid (gGrown HB7.out HB7.out.size hg2 hlow)
    clear hs2 hg2 HO7
    generalize ((intL (ptsL [a, b] 6)).set i ((i : Int), (u : Int)))[j].2 = y2 at *
    clear hjl
    go_wp2_with fail
    generalize w7.setCell ⟨g, j * 2 + 1, none⟩ (.int .i64 (v : Nat)) = w8 at *
    clear hj hv hn5 hn6 hc2 hf2 HB7
    have HLq : Hid ((intL (two6 [a, b] i u j v)).length = 6) := by show _ = _; rw [intL_length, two6_length]
    have HBy := Lib.hid (below_more HBl.out HB8.out)
    have HE8 := Lib.hid (HIR.out 2 (some ⟨g, 0, none⟩) (intL (two6 [a, b] i u j v)) cc 2 w8 (hK _ _ HW.out HBy.out) (own_pts7 HO8.out) (by rw [HLq.out]; omega) (by rw [HLq.out]; exact hcap6))
    rw [HLq.out, (wrong_math ha7 hb7 hi6 hj6 hu7 hv7).1, (wrong_math ha7 hb7 hi6 hj6 hu7 hv7).2] at HE8
    have HL8 := Lib.hid (HLl.out.below HB8.out)
    clear HO8 HB8 HLl HBl HLq HLp
    refine HE8.out.mono ?_
    rintro e w9 ⟨v9, rfl, ho9, hb9⟩
    obtain ⟨A9, c9, rfl, hI9⟩ := ho9.form
    have HB9 := Lib.hid (below_more HBy.out hb9)
    have HSm := Lib.hid (sameInts_any A9 (some ⟨gl, 0, none⟩) [(a : Int), (b : Int)] [(a : Int), (b : Int)] c9 2 w9 hI9 (HL8.out.below hb9) (by simp))
    have e2 : [(a : Int), (b : Int)].length = 2 := rfl
    have hqb : eqL [(a : Int), (b : Int)] [(a : Int), (b : Int)] = true := by simp [eqL]
    rw [e2, hqb] at HSm
    rw [e2]
    clear e2 hqb ho9 hI9 hb9 HBy HE8 HL8
    go_wp2_with fail
    refine HSm.out.mono ?_
    rintro e w10 ⟨rfl, n10, rfl⟩
    have HB10 := Lib.hid (below_more HB9.out (gDrewN n10))
    clear HSm HB9
    generalize w9.drewN n10 = w10 at *
    go_wp2_with fail
    refine (drawAgree7 B zb cb _ (byts_on7 HB.out HB10.out)).mono ?_
    rintro e w11 ⟨A11, l11, c11, A12, q12, c12, rfl, hI11, hcap11, hl11, hI12, hcap12, hl12, hb11⟩
    have HX11 := Lib.hid hI11
    have HY11 := Lib.hid hI12
    have HB11 := Lib.hid (below_more HB10.out hb11)
    clear hI11 hI12 hb11 HB10
    have HE11 := Lib.hid (HIA.out A11 A12 l11 q12 c11 c12 w11 (hK _ _ HW.out HB11.out) HX11.out HY11.out (by omega) (by omega) hcap11 hcap12)
    have HS11 := Lib.hid (fun w h1 h2 => sAgree_any A11 A12 l11 q12 c11 c12 w h1 h2 (by omega) (by omega))
    generalize agI l11 q12 = xi at *
    generalize agOkB l11 q12 = xo at *
    go_wp2_with fail
    refine HE11.out.mono ?_
    rintro e w12 ⟨rfl, hb12⟩
    have HX12 := Lib.hid (HX11.out.below hb12)
    have HY12 := Lib.hid (HY11.out.below hb12)
    have HB12 := Lib.hid (below_more HB11.out hb12)
    clear hb12 HX11 HY11 HB11 HE11
    go_wp2_with fail
    refine (HS11.out w12 HX12.out HY12.out).mono ?_
    rintro e w13 ⟨rfl, hb13⟩
    have HB13 := Lib.hid (below_more HB12.out hb13)
    clear hb13 HX12 HY12 HB12 HS11
    go_wp2_with fail
    go_ret
    exact ⟨rfl, HB13.out⟩
set_option maxRecDepth 100000 in
theorem fnWrong_law {K : World → Prop} (hK : Stays5 K)
    (hRd : ∀ (k : Int) (A : Option Addr) (ls : List (Int × Int)) (ca : Nat) (n : Int) (w : World), K w → Lets w A ls → ls.length ≤ 1048576 → ls.length ≤ ca → Calls Tryd.prog 6 #[.int .i64 k, .slice A ls.length ca, .int .i64 n] w fun e w' => ∃ v, e = .returned (.tuple #[v, .bool (rdOkB k ls n)]) ∧ Own w' w.heap.size v (rdI k ls n) ∧ Below w.heap.size w w')
    (hAg : ∀ (A B : Option Addr) (zs : List Int) (ls : List (Int × Int)) (ca cb : Nat) (w : World), K w → Ints w A zs → Lets w B ls → zs.length ≤ 1048576 → ls.length ≤ 1048576 → zs.length ≤ ca → ls.length ≤ cb → Calls Tryd.prog 9 #[.slice A zs.length ca, .slice B ls.length cb] w fun e w' => e = .returned (.tuple #[.int .i64 (agI zs ls), .bool (agOkB zs ls)]) ∧ Below w.heap.size w w')
    (hPo : ∀ (A : Option Addr) (zs : List Int) (ca : Nat) (n : Int) (w : World), K w → Ints w A zs → zs.length ≤ 1048576 → zs.length ≤ ca → Calls Tryd.prog 11 #[.slice A zs.length ca, .int .i64 n] w fun e w' => ∃ v, e = .returned (.tuple #[v, .bool (poOkB zs n)]) ∧ OwnPt w' w.heap.size v (poI zs n) ∧ Below w.heap.size w w')
    (A : Option Addr) (za : List Int) (ca : Nat) (B : Option Addr) (zb : List Int) (cb : Nat) (w : World) (hw : K w) (ha : Byts w w.heap.size A za) (hb : Byts w w.heap.size B zb) (hla : za.length ≤ 140737488355328) (hlb : zb.length ≤ 140737488355328) :
    Calls Tryd.prog 3 #[.slice A za.length ca, .slice B zb.length cb] w fun e w' => e = .returned (.bool true) ∧ Below w.heap.size w w' := by
  by_cases hl : za.length + zb.length ≤ 1048576
  · exact fnWrong_small hK hRd hAg hPo A za ca B zb cb w hw ha hb hl
  · have hl' : (1048576 : Int) < (za.length : Int) + (zb.length : Int) := by omega
    clear hRd hAg hPo
    go_enter Tryd.func3, Tryd.ntmps3
    go_wp2_with fail
    go_ret
    exact ⟨rfl, Below.refl _ _⟩
end Go.Proofs.YtnlfaiedfjcgpaaDoor
