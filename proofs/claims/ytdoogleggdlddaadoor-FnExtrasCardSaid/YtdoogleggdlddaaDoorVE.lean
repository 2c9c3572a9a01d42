/-
  FnWhole, walked, whatever the program's own texts are.
-/
import Derived.Test.YtdoogleggdlddaaDoorVD
namespace Go.Proofs.YtdoogleggdlddaaDoor
open Go.RowKit

theorem sm_range {u : Int} {zs : List Int} (h : smOkB u zs = true) : u ≤ smI u zs ∧ smI u zs ≤ (zs.length : Int) := by
  have hp : smPreB u zs = true := by
    cases hq : smPreB u zs
    · rw [(sm_not hq).2] at h; cases h
    · rfl
  obtain ⟨m, N, rfl, rfl, _, _, _, _, hsm⟩ := sm_nat hp
  rw [smOkB, hsm] at h
  obtain ⟨k, hk⟩ := Option.isSome_iff_exists.1 h
  obtain ⟨_, h2, h3, _⟩ := small_facts hk
  rw [List.length_map] at h2
  rw [smI, hsm, hk, zI_length]
  simp
  omega
theorem wi_is {zs : List Int} (h : wiOkB zs = true) : isOkB (wiI zs) = true ∧ isI (wiI zs) = true ∧ (wiI zs).length = zs.length + 2 ∧ 1 ≤ zs.length := by
  obtain ⟨B, rfl, h1, h6, h32, e⟩ := wi_nat h
  have hl : (zI (withL B)).length = B.length + 2 := by rw [zI_length, with_length]
  have hal : allIn (zI (withL B)) 4294967295 = true := by
    rw [allIn, List.all_eq_true]
    intro z hz
    obtain ⟨b, hb, rfl⟩ := List.mem_map.1 hz
    have := with_lt h32 b hb
    simp [inB]; omega
  have hok : isOkB (zI (withL B)) = true := by
    rw [isOkB, blkOkB, hal, hl]
    simp [pcOkB, inB]; omega
  have ht : (zI (withL B)).take ((zI (withL B)).length - 2) = zI B := by
    rw [hl, show B.length + 2 - 2 = B.length by omega]
    simp [zI, withL]
  rw [e]
  refine ⟨hok, ?_, by rw [hl, zI_length], by rw [zI_length]; exact h1⟩
  rw [isI, hok, ht, e]
  simp [eqL]
def raF (zs : List Int) (no : Int) : Int × Int := (raNoI zs no, raSumI zs no)
theorem dis_take {zs : List Int} {k : Nat} : ∀ j, j ≤ k → k ≤ zs.length → disTo (zs.take k) j = disTo zs j
  | 0, _, _ => rfl
  | j + 1, hj, hk => by
    rw [disTo, disTo, dis_take j (by omega) hk]
    have h1 : (zs.take k).getD j 0 = zs.getD j 0 := by
      have : j < k := by omega
      simp [List.getD, this]
    have h2 : (zs.take k).take j = zs.take j := by rw [List.take_take, Nat.min_eq_left (by omega)]
    rw [h1, h2]
theorem dis_to {zs : List Int} {k : Nat} (h : disTo zs zs.length = true) (hk : k ≤ zs.length) : disTo (zs.take k) k = true := by
  rw [dis_take k (Nat.le_refl k) hk]
  cases hq : disTo zs k
  · rw [disTo_no hq hk] at h; cases h
  · rfl
/-- What FnWhole asks of the first symbols whose rows have full rank. -/
theorem whole_math {zs nos : List Int} (h1 : wiOkB zs = true) (h2 : smOkB (zs.length : Int) nos = true) : ∃ k : Nat, smI (zs.length : Int) nos = k ∧ 1 ≤ k ∧ k ≤ nos.length ∧ (∀ no ∈ nos, raOkB zs no = true) ∧
    soOkB (zs.length : Int) ((nos.take k).map (raF zs)) = true ∧ soI (zs.length : Int) ((nos.take k).map (raF zs)) = zs ∧ soOkB (zs.length : Int) (((nos.take k).map (raF zs)).take (k - 1)) = false := by
  have hp : smPreB (zs.length : Int) nos = true := by
    cases hq : smPreB (zs.length : Int) nos
    · rw [(sm_not hq).2] at h2; cases h2
    · rfl
  obtain ⟨B, rfl, hB1, hB6, h32, _⟩ := wi_nat h1
  rw [zI_length] at h2 hp ⊢
  obtain ⟨m, N, em, rfl, _, _, hN20, hN, hsm⟩ := sm_nat hp
  obtain rfl : B.length = m := by omega
  rw [smOkB, hsm] at h2
  obtain ⟨k, hk⟩ := Option.isSome_iff_exists.1 h2
  obtain ⟨f1, f2, f3, f4⟩ := small_facts hk
  rw [List.length_map] at f2
  have hra : ∀ no ∈ N, raOkB (zI B) (no : Int) = true := fun no hno => by
    have := hN no hno
    rw [raOkB, h1]
    simp [noOkB, inB]; omega
  have hF : ∀ no ∈ N, raF (zI B) (no : Int) = ((no : Int), ((sm B B.length (row6 B.length no) : Nat) : Int)) := fun no hno => by
    obtain ⟨q1, q2⟩ := ra_sum (hra no hno)
    rw [raF, q1, q2]
  have hms : ∀ j, ((zI N).take j).map (raF (zI B)) = intL ((N.take j).map fun no => (no, sm B B.length (row6 B.length no))) := fun j => by
    unfold zI intL
    rw [← List.map_take, List.map_map, List.map_map]
    exact List.map_congr_left fun no hno => hF no (List.mem_of_mem_take hno)
  have hrows : ∀ j, rows6L B.length ((N.take j).map fun no => (no, sm B B.length (row6 B.length no))) = (N.map (row6 B.length)).take j := fun j => by
    unfold rows6L
    rw [List.map_map, List.map_map, ← List.map_take]; rfl
  have hp6 : pc6B (B.length : Int) = true := by simp [pc6B, inB]; omega
  have hgood : goodLB (B.length : Int) (intL ((N.take k).map fun no => (no, sm B B.length (row6 B.length no)))) = true := by
    have e1 : (intL ((N.take k).map fun no => (no, sm B B.length (row6 B.length no)))).map Prod.fst = (zI N).take k := by
      unfold intL zI
      rw [List.map_map, List.map_map, ← List.map_take]; rfl
    have e2 : sumsB (intL ((N.take k).map fun no => (no, sm B B.length (row6 B.length no)))) = true := by
      rw [sumsB, List.all_eq_true]
      intro x hx
      unfold intL at hx
      rw [List.map_map] at hx
      obtain ⟨no, _, rfl⟩ := List.mem_map.1 hx
      have := sm_bd h32 (row6 B.length no) B.length
      simp [pieceB5, inB]; omega
    have e3 : allIn ((zI N).take k) 999 = true := by
      rw [allIn, List.all_eq_true]
      intro z hz
      obtain ⟨no, hno, rfl⟩ := List.mem_map.1 (List.mem_of_mem_take hz)
      have := hN no hno
      simp [inB]; omega
    have e4 : ((zI N).take k).length = k := by rw [List.length_take, zI_length]; omega
    have e5 : disTo ((zI N).take k) k = true := by
      simp only [smPreB, Bool.and_eq_true] at hp
      exact dis_to hp.2.2.2 (by rw [zI_length]; exact f2)
    have e6 : pcOkB (B.length : Int) = true := by simp [pcOkB, inB]; omega
    rw [goodLB_split, e1, e2, e3, e4, e5, e6]
    rw [intL_length, List.length_map, List.length_take]
    simp; omega
  have hR : ∀ r ∈ (N.map (row6 B.length)).take k, r < 2 ^ B.length := fun r hr => by
    obtain ⟨no, _, rfl⟩ := List.mem_map.1 (List.mem_of_mem_take hr)
    exact row6_lt B.length no
  have hok : soOkB (B.length : Int) (((zI N).take k).map (raF (zI B))) = true := by
    rw [soOkB, hp6, hms, hgood, natL_intL, Int.toNat_natCast, hrows, f1, intL_length, List.length_map, List.length_take]
    simp; omega
  refine ⟨k, by rw [smI, hsm, hk]; rfl, by omega, by rw [zI_length]; exact f2, fun z hz => ?_, hok, ?_, ?_⟩
  · obtain ⟨no, hno, rfl⟩ := List.mem_map.1 hz
    exact hra no hno
  · rw [soI, if_pos hok, hms, natL_intL, Int.toNat_natCast, hrows]
    congr 1
    have hsp := full_span hR f1
    have hmap : (N.map (row6 B.length)).take k = (N.take k).map (row6 B.length) := by rw [List.map_take]
    have hsums : ((N.take k).map fun no => (no, sm B B.length (row6 B.length no))).map Prod.snd = (N.take k).map fun no => sumN (withL B) (partsL no (B.length + 2)) := by
      rw [List.map_map]
      exact List.map_congr_left fun no _ => (raptor_row no).symm
    rw [hsums, hmap]
    rw [hmap] at hsp
    apply List.ext_getElem
    · rw [solve_length]
    · intro i hi1 hi2
      rw [solve_length] at hi1
      have := solve_raptor (B := B) (nos := N.take k) hi1 (hsp i hi1)
      simp only [solveL, List.getElem_map, List.getElem_range, List.length_map]
      rw [this]
      simp [List.getD, hi1]
  · have ht : ((((zI N).take k).map (raF (zI B))).take (k - 1)) = ((zI N).take (k - 1)).map (raF (zI B)) := by
      rw [← List.map_take, List.take_take, Nat.min_eq_left (by omega)]
    rw [ht, soOkB, hms, natL_intL, Int.toNat_natCast, hrows]
    have := f4 (k - 1) (by omega)
    simp [this]
theorem Lets.takeL {w : World} {A : Option Addr} {ls : List (Int × Int)} (h : Lets w A ls) (k : Nat) : Lets w A (ls.take k) := fun hne => by
  obtain ⟨b, o, e, hc⟩ := h (by rintro rfl; simp at hne)
  refine ⟨b, o, e, fun j hj => ?_⟩
  have hj' : j < ls.length := Nat.lt_of_lt_of_le hj (by rw [List.length_take]; omega)
  rw [List.getElem_take]
  exact hc j hj'

set_option maxRecDepth 100000 in
set_option maxHeartbeats 16000000 in
theorem fnWhole_small {K : World → Prop} (hK : Stays5 K)
    (hWi : ∀ (A : Option Addr) (zs : List Int) (ca : Nat) (w : World), K w → Ints w A zs → zs.length ≤ 1048576 → zs.length ≤ ca → Calls Tryd.prog 8 #[.slice A zs.length ca] w fun e w' => ∃ v, e = .returned (.tuple #[v, .bool (wiOkB zs)]) ∧ Own w' w.heap.size v (wiI zs) ∧ Below w.heap.size w w')
    (hSm : ∀ (n : Int) (A : Option Addr) (zs : List Int) (ca : Nat) (w : World), K w → Ints w A zs → zs.length ≤ 1048576 → zs.length ≤ ca → Calls Tryd.prog 12 #[.int .i64 n, .slice A zs.length ca] w fun e w' => e = .returned (.tuple #[.int .i64 (smI n zs), .bool (smOkB n zs)]) ∧ Below w.heap.size w w')
    (hS : ∀ (A : Option Addr) (zs : List Int) (ca : Nat) (w : World), K w → Ints w A zs → zs.length ≤ 1048576 → zs.length ≤ ca → Calls Tryd.prog 14 #[.slice A zs.length ca] w fun e w' => e = .returned (.tuple #[.bool (isI zs), .bool (isOkB zs)]) ∧ Below w.heap.size w w')
    (hR : ∀ (A : Option Addr) (zs : List Int) (ca : Nat) (n : Int) (w : World), K w → Ints w A zs → zs.length ≤ 1048576 → zs.length ≤ ca → Calls Tryd.prog 15 #[.slice A zs.length ca, .int .i64 n] w fun e w' => e = .returned (.tuple #[letV (raNoI zs n) (raSumI zs n), .bool (raOkB zs n)]) ∧ Below w.heap.size w w')
    (hA : ∀ (n : Int) (A : Option Addr) (ls : List (Int × Int)) (ca : Nat) (w : World), K w → Lets w A ls → ls.length ≤ 1048576 → ls.length ≤ ca → Calls Tryd.prog 16 #[.int .i64 n, .slice A ls.length ca] w fun e w' => ∃ v, e = .returned (.tuple #[v, .bool (soOkB n ls)]) ∧ Own w' w.heap.size v (soI n ls) ∧ Below w.heap.size w w')
    (A : Option Addr) (za : List Int) (ca : Nat) (B : Option Addr) (zb : List Int) (cb : Nat) (w : World) (hw : K w) (ha : Byts w w.heap.size A za) (hb : Byts w w.heap.size B zb) (hl : za.length + zb.length ≤ 1048576) :
    Calls Tryd.prog 3 #[.slice A za.length ca, .slice B zb.length cb] w fun e w' => e = .returned (.bool true) ∧ Below w.heap.size w w' := by
  obtain ⟨i1, hi', hy0, hy1, hy2⟩ := info_parts letInfo
  have HA := Lib.hid ha
  have HB := Lib.hid hb
  have HW := Lib.hid hw
  have HIWi := Lib.hid hWi
  have HISm := Lib.hid hSm
  have HIS := Lib.hid hS
  have HIR := Lib.hid hR
  have HIA := Lib.hid hA
  clear ha hb hw hWi hSm hS hR hA
  go_enter Tryd.func3, Tryd.ntmps3
  go_wp2_with fail
  refine (drawWith6 A za ca _ HA.out).mono ?_
  rintro e w1 ⟨A1, bl, c1, rfl, hI1, hcap1, hl1, hb1⟩
  have HX1 := Lib.hid hI1
  have HB1 := Lib.hid hb1
  clear hI1 hb1 HA
  have HE1 := Lib.hid (HIWi.out A1 bl c1 w1 (hK _ _ HW.out HB1.out) HX1.out (by omega) hcap1)
  have HS1 := Lib.hid (fun w h => sWith_any A1 bl c1 w h (by omega))
  have HWi := Lib.hid (@wi_is bl)
  have HWm := Lib.hid (fun nos => @whole_math bl nos)
  have hVl := wiI_len bl
  have HIs1 := Lib.hid (fun A c w hk h hc => HIS.out A (wiI bl) c w hk h (by omega) hc)
  generalize wiI bl = V at *
  generalize wiOkB bl = ok at *
  have hq : eqL V V = true := by simp [eqL]
  go_wp2_with fail
  refine HE1.out.mono ?_
  rintro e w2 ⟨v2, rfl, ho2, hb2⟩
  obtain ⟨A2, c2, rfl, hcap2, hI2⟩ := gFormC ho2
  have HV2 := Lib.hid hI2
  have HX2 := Lib.hid (HX1.out.below hb2)
  have HB2 := Lib.hid (below_more HB1.out hb2)
  clear ho2 hI2 hb2 HX1 HB1 HE1
  go_wp2_with fail
  refine (HS1.out w2 HX2.out).mono ?_
  rintro e w3 ⟨v3, rfl, ho3, hb3⟩
  obtain ⟨A3, c3, rfl, hI3⟩ := ho3.form
  have HU3 := Lib.hid hI3
  have HV3 := Lib.hid (HV2.out.below hb3)
  have HX3 := Lib.hid (HX2.out.below hb3)
  have HB3 := Lib.hid (below_more HB2.out hb3)
  clear ho3 hI3 hb3 HX2 HB2 HV2 HS1
  go_wp2_with fail
  refine (sameInts_any A2 A3 V V c2 c3 _ HV3.out HU3.out (by omega)).mono ?_
  rintro e w4 ⟨rfl, n4, rfl⟩
  have hdr4 : Below w3.heap.size w3 (w3.drewN n4) := gDrewN n4
  have HV4 := Lib.hid (HV3.out.below hdr4)
  have HX4 := Lib.hid (HX3.out.below hdr4)
  have HB4 := Lib.hid (below_more HB3.out hdr4)
  clear hdr4 HV3 HX3 HB3 HU3
  generalize w3.drewN n4 = w4 at *
  go_wp2_with fail
  refine (drawSmall6 B zb cb _ (byts_on6 HB.out HB4.out)).mono ?_
  rintro e w5 ⟨u, v5, nos, rfl, ho5, hl5, hb5⟩
  obtain ⟨A5, c5, rfl, hcap5, hI5⟩ := gFormC ho5
  have HN5 := Lib.hid hI5
  have HV5 := Lib.hid (HV4.out.below hb5)
  have HX5 := Lib.hid (HX4.out.below hb5)
  have HB5 := Lib.hid (below_more HB4.out hb5)
  clear ho5 hI5 hb5 HV4 HX4 HB4
  have HE5 := Lib.hid (HISm.out u A5 nos c5 w5 (hK _ _ HW.out HB5.out) HN5.out (by omega) hcap5)
  have HS5 := Lib.hid (fun w h => sSmall_any u A5 nos c5 w h (by omega) hcap5)
  have HRg := Lib.hid (@sm_range u nos)
  generalize smI u nos = si at *
  generalize smOkB u nos = so at *
  go_wp2_with fail
  refine HE5.out.mono ?_
  rintro e w6 ⟨rfl, hb6⟩
  have HN6 := Lib.hid (HN5.out.below hb6)
  have HV6 := Lib.hid (HV5.out.below hb6)
  have HX6 := Lib.hid (HX5.out.below hb6)
  have HB6 := Lib.hid (below_more HB5.out hb6)
  clear hb6 HN5 HV5 HX5 HB5 HE5
  go_wp2_with fail
  refine (HS5.out w6 HN6.out).mono ?_
  rintro e w7 ⟨rfl, hb7⟩
  have HN7 := Lib.hid (HN6.out.below hb7)
  have HV7 := Lib.hid (HV6.out.below hb7)
  have HX7 := Lib.hid (HX6.out.below hb7)
  have HB7 := Lib.hid (below_more HB6.out hb7)
  clear hb7 HN6 HV6 HX6 HB6 HS5
  have HSo : Hid (so = true → ¬ si < u ∧ ¬ (nos.length : Int) < si) := fun h => by
    obtain ⟨q1, q2⟩ := HRg.out h
    exact ⟨by omega, by omega⟩
  clear HRg
  cases ok
  · have HBx := HB7
    clear HB7 HX7 HV7 HN7 HWi HWm HIs1
    cases so
    all_goals
      try obtain ⟨hs1, hs2⟩ := HSo.out rfl
      clear HSo
      go_wp2_with fail
      refine (drawSolve6 B zb cb _ (byts_on6 HB.out HBx.out)).mono ?_
      rintro e w20 ⟨m2, v20, ls, rfl, ho20, hls, hb20⟩
      obtain ⟨A20, c20, rfl, hcap20, hI20⟩ := ho20.form
      have HX20 := Lib.hid hI20
      have HB20 := Lib.hid (below_more HBx.out hb20)
      clear ho20 hI20 hb20 HBx
      have HE20 := Lib.hid (HIA.out m2 A20 ls c20 w20 (hK _ _ HW.out HB20.out) HX20.out (by omega) hcap20)
      have HS20 := Lib.hid (fun w h => sSolve6_any m2 A20 ls c20 w h (by omega) hcap20)
      have hlenS := soI_len m2 ls
      generalize soI m2 ls = VS at *
      generalize soOkB m2 ls = eo at *
      have hqS : eqL VS VS = true := by simp [eqL]
      go_wp2_with fail
      refine HE20.out.mono ?_
      rintro e w21 ⟨v21, rfl, ho21, hb21⟩
      obtain ⟨A21, c21, rfl, hI21⟩ := ho21.form
      have HY21 := Lib.hid hI21
      have HX21 := Lib.hid (HX20.out.below hb21)
      have HB21 := Lib.hid (below_more HB20.out hb21)
      clear ho21 hI21 hb21 HB20 HE20 HX20
      go_wp2_with fail
      refine (HS20.out w21 HX21.out).mono ?_
      rintro e w22 ⟨v22, rfl, ho22, hb22⟩
      obtain ⟨A22, c22, rfl, hI22⟩ := ho22.form
      have HZ22 := Lib.hid hI22
      have HY22 := Lib.hid (HY21.out.below hb22)
      have HB22 := Lib.hid (below_more HB21.out hb22)
      clear ho22 hI22 hb22 HB21 HX21 HS20 HY21
      go_wp2_with fail
      refine (sameInts_any A21 A22 VS VS c21 c22 _ HY22.out HZ22.out (by omega)).mono ?_
      rintro e w29 ⟨rfl, n29, rfl⟩
      have HB29 := Lib.hid (below_more HB22.out (gDrewN n29))
      go_wp2_with fail
      go_ret
      exact ⟨rfl, HB29.out⟩
  · obtain ⟨z1, z2, z3, z4⟩ := HWi.out rfl
    have HE7 := Lib.hid (HIs1.out A2 c2 w7 (hK _ _ HW.out HB7.out) HV7.out hcap2)
    rw [z1, z2] at HE7
    have hV3 : (3 : Int) ≤ (V.length : Int) := by omega
    have hVb : ((V.length : Int) != (bl.length : Int) + 2) = false := by rw [z3]; simp
    have HSm7 := Lib.hid (fun w hk h => HISm.out (bl.length : Int) A5 nos c5 w hk h (by omega) hcap5)
    have HWm7 := Lib.hid (HWm.out nos rfl)
    have HZ3 := Lib.hid z3
    clear z1 z2 z3 HWi HWm HIs1
    obtain ⟨kI, hkI⟩ : ∃ kI, smI (bl.length : Int) nos = kI := ⟨_, rfl⟩
    obtain ⟨fo, hfo⟩ : ∃ fo, smOkB (bl.length : Int) nos = fo := ⟨_, rfl⟩
    rw [hkI, hfo] at HSm7 HWm7
    clear hkI hfo
    cases so
    all_goals
      try obtain ⟨hs1, hs2⟩ := HSo.out rfl
      clear HSo
      go_wp2_with fail
      refine HE7.out.mono ?_
      rintro e w8 ⟨rfl, hb8⟩
      have HN8 := Lib.hid (HN7.out.below hb8)
      have HX8 := Lib.hid (HX7.out.below hb8)
      have HB8 := Lib.hid (below_more HB7.out hb8)
      clear hb8 HN7 HV7 HX7 HB7 HE7
      go_wp2_with fail
      refine (HSm7.out w8 (hK _ _ HW.out HB8.out) HN8.out).mono ?_
      rintro e w9 ⟨rfl, hb9⟩
      have HN9 := Lib.hid (HN8.out.below hb9)
      have HX9 := Lib.hid (HX8.out.below hb9)
      have HB9 := Lib.hid (below_more HB8.out hb9)
      clear hb9 HN8 HX8 HB8 HSm7
      cases fo
      · have HBx := HB9
        clear HB9 HX9 HN9 HWm7
        go_wp2_with fail
        refine (drawSolve6 B zb cb _ (byts_on6 HB.out HBx.out)).mono ?_
        rintro e w20 ⟨m2, v20, ls, rfl, ho20, hls, hb20⟩
        obtain ⟨A20, c20, rfl, hcap20, hI20⟩ := ho20.form
        have HX20 := Lib.hid hI20
        have HB20 := Lib.hid (below_more HBx.out hb20)
        clear ho20 hI20 hb20 HBx
        have HE20 := Lib.hid (HIA.out m2 A20 ls c20 w20 (hK _ _ HW.out HB20.out) HX20.out (by omega) hcap20)
        have HS20 := Lib.hid (fun w h => sSolve6_any m2 A20 ls c20 w h (by omega) hcap20)
        have hlenS := soI_len m2 ls
        generalize soI m2 ls = VS at *
        generalize soOkB m2 ls = eo at *
        have hqS : eqL VS VS = true := by simp [eqL]
        go_wp2_with fail
        refine HE20.out.mono ?_
        rintro e w21 ⟨v21, rfl, ho21, hb21⟩
        obtain ⟨A21, c21, rfl, hI21⟩ := ho21.form
        have HY21 := Lib.hid hI21
        have HX21 := Lib.hid (HX20.out.below hb21)
        have HB21 := Lib.hid (below_more HB20.out hb21)
        clear ho21 hI21 hb21 HB20 HE20 HX20
        go_wp2_with fail
        refine (HS20.out w21 HX21.out).mono ?_
        rintro e w22 ⟨v22, rfl, ho22, hb22⟩
        obtain ⟨A22, c22, rfl, hI22⟩ := ho22.form
        have HZ22 := Lib.hid hI22
        have HY22 := Lib.hid (HY21.out.below hb22)
        have HB22 := Lib.hid (below_more HB21.out hb22)
        clear ho22 hI22 hb22 HB21 HX21 HS20 HY21
        go_wp2_with fail
        refine (sameInts_any A21 A22 VS VS c21 c22 _ HY22.out HZ22.out (by omega)).mono ?_
        rintro e w29 ⟨rfl, n29, rfl⟩
        have HB29 := Lib.hid (below_more HB22.out (gDrewN n29))
        go_wp2_with fail
        go_ret
        exact ⟨rfl, HB29.out⟩
      · obtain ⟨k, hk, hk1, hkn, hra, so1, so2, so3⟩ := HWm7.out rfl
        subst hk
        have HRa := Lib.hid hra
        have HSo1 := Lib.hid so1
        have HSo2 := Lib.hid so2
        have HSo3 := Lib.hid so3
        have hkc : k ≤ c5 := by omega
        clear hra so1 so2 so3 HWm7
        go_wp2_with fail
        go_loopg [20, 138] k (fun gk v i wr => ∃ j : Nat, j + gk = k ∧ i = .int .i64 j ∧ OwnLt wr w9.heap.size v ((nos.take j).map (raF bl)) ∧ Below w9.heap.size w9 wr)
        case atStart => exact ⟨0, by omega, rfl, OwnLt.nil _ _, Below.refl _ _⟩
        case round =>
          obtain ⟨j, hg, rfl, hown, hbel⟩ := hrel
          have HO := Lib.hid hown
          have HBl := Lib.hid hbel
          clear hown hbel
          by_cases hlt : j < k
          · have hji : (j : Int) < (k : Int) := by omega
            have hjn : j < nos.length := by omega
            obtain ⟨b1, o1, rfl, hc1⟩ := (HN9.out.below HBl.out) (by rintro rfl; simp at hjn)
            have p1 := hc1 j hjn
            rw [show nos.getD j 0 = nos[j] by simp [List.getD, hjn]] at p1
            have HTk : Hid ((nos.take (j + 1)).map (raF bl) = (nos.take j).map (raF bl) ++ [(raNoI bl nos[j], raSumI bl nos[j])]) := map_snoc _ hjn
            have HTl : Hid (((nos.take j).map (raF bl)).length = j) := by show _ = _; rw [List.length_map, List.length_take]; omega
            have HGK : Hid (k - j - 1 < gk ∧ j + 1 + (k - j - 1) = k) := by show _ ∧ _; omega
            have hrj := HRa.out nos[j] (List.getElem_mem hjn)
            clear hc1 hg
            generalize nos[j] = z1 at *
            have HLt := Lib.hid (fun w hk h => HIR.out A1 bl c1 z1 w hk h (by omega) hcap1)
            rw [hrj] at HLt
            clear hrj
            generalize (nos.take j).map (raF bl) = L at *
            generalize raNoI bl z1 = x at *
            generalize raSumI bl z1 = y at *
            go_wp2_with fail
            refine (HLt.out wr (hK _ _ HW.out (below_more HB9.out HBl.out)) (HX9.out.below HBl.out)).mono ?_
            rintro e w2 ⟨rfl, hb2⟩
            have ha2 := gAlloc w2 (.cells #[.int .i64 x, .int .i64 y] 36)
            have HO2 := Lib.hid ((HO.out.below hb2).below ha2)
            have HB2 := Lib.hid (below_more (below_more HBl.out hb2) ha2)
            have hs2x := (below_more (below_more HBl.out hb2) ha2).size
            have HOR : Hid ((w2.alloc (.cells #[.int .i64 x, .int .i64 y] 36)).ownsRow w9.heap.size 36 2 u20 L.length (cellsL L)) := HO2.out
            have HNews : Hid (∀ j u, [Value.int .i64 x, .int .i64 y][j]? = some u → ((w2.alloc (.cells #[.int .i64 x, .int .i64 y] 36)).alloc (.cells #[.int .i64 x, .int .i64 y] 36)).cell? ((⟨w2.heap.size + 1, 0, none⟩ : Addr).add j) = some u) := by
              have h := let_news (W := w2.alloc (.cells #[.int .i64 x, .int .i64 y] 36)) (x := x) (y := y)
              rw [show (w2.alloc (.cells #[.int .i64 x, .int .i64 y] 36)).heap.size = w2.heap.size + 1 by simp] at h
              exact h
            have hLj : L.length ≤ 50 := by have := HTl.out; omega
            clear hb2 ha2 HO HBl HLt p1
            go_wp2_with (at_builtin; (refine wpList_append_own _ rfl _ _ 34 rfl w9.heap.size 36 i1 (.agg #[.int .i64 0, .int .i64 0]) 2 16 Tryd.underlying34 hi' hy0 hy1 hy2 rfl (by decide) _ _ _ rfl (HOR.out.alloc _) ⟨w2.heap.size + 1, 0, none⟩ 1 1 [.int .i64 x, .int .i64 y] rfl rfl HNews.out let_one ?k3 ?k4 ?k5 ?_))
            case k3 => unfold maxLen; omega
            case k4 => omega
            case k5 => simp at hs2x ⊢; omega
            · intro v3 w3 hown3 hgrow3 _
              have HO3 := Lib.hid (OwnLt.more hown3)
              have HB3 : Hid (Below w9.heap.size w9 w3) := (HB2.out.alloc hs2x _).grown hgrow3 (by simp at hs2x ⊢; omega) (fun g hg => (HO2.out.lt g hg).1)
              clear hown3 hgrow3 HNews HOR HO2 HB2
              go_wp2_with fail
              go_roundg (k - j - 1)
              case measure => exact HGK.out.1
              case rel => exact ⟨j + 1, HGK.out.2, by go_num, by rw [HTk.out]; exact HO3.out, HB3.out⟩
          · obtain rfl : j = k := by omega
            have hji : ¬ (j : Int) < (j : Int) := by omega
            have HMl : Hid (((nos.take j).map (raF bl)).length = j) := by show _ = _; rw [List.length_map, List.length_take]; omega
            have HB10 := Lib.hid (below_more HB9.out HBl.out)
            have HX10 := Lib.hid (HX9.out.below HBl.out)
            obtain ⟨A8, c8, rfl, hcap8, hI8⟩ := HO.out.form
            have HL10 := Lib.hid hI8
            have HSA := Lib.hid (fun w hk h => HIA.out (bl.length : Int) A8 ((nos.take j).map (raF bl)) c8 w hk h (by rw [HMl.out]; omega) hcap8)
            have HSB := Lib.hid (fun w hk (h : Lets w A8 ((nos.take j).map (raF bl))) => HIA.out (bl.length : Int) A8 (((nos.take j).map (raF bl)).take (j - 1)) c8 w hk (h.takeL (j - 1)) (by rw [List.length_take, HMl.out]; omega) (by rw [List.length_take]; omega))
            have htl : (((nos.take j).map (raF bl)).take (j - 1)).length = j - 1 := by rw [List.length_take, HMl.out]; omega
            rw [HSo1.out, HSo2.out, HMl.out] at HSA
            rw [HSo3.out, htl] at HSB
            rw [HMl.out] at hcap8 ⊢
            have hj1 : j - 1 ≤ c8 := by omega
            have hsub : ((j : Int) - 1) = ((j - 1 : Nat) : Int) := by omega
            have hqb : eqL bl bl = true := by simp [eqL]
            clear hI8 HO HBl hg hlt htl HN9 HX9 HB9 HMl HSo1 HSo2 HSo3 HRa
            generalize (nos.take j).map (raF bl) = MS at *
            go_wp2_with fail
            refine (HSA.out wr (hK _ _ HW.out HB10.out) HL10.out).mono ?_
            rintro e w11 ⟨v11, rfl, ho11, hb11⟩
            obtain ⟨A11, c11, rfl, hI11⟩ := ho11.form
            have HV11 := Lib.hid hI11
            have HL11 := Lib.hid (HL10.out.below hb11)
            have HX11 := Lib.hid (HX10.out.below hb11)
            have HB11 := Lib.hid (below_more HB10.out hb11)
            clear ho11 hI11 hb11 HL10 HX10 HB10 HSA
            go_wp2_with fail
            refine (HSB.out w11 (hK _ _ HW.out HB11.out) HL11.out).mono ?_
            rintro e w12 ⟨v12, rfl, ho12, hb12⟩
            obtain ⟨A12, c12, rfl, _⟩ := ho12.form
            have HV12 := Lib.hid (HV11.out.below hb12)
            have HX12 := Lib.hid (HX11.out.below hb12)
            have HB12 := Lib.hid (below_more HB11.out hb12)
            clear ho12 hb12 HL11 HX11 HB11 HV11 HSB
            go_wp2_with fail
            refine (sameInts_any A11 A1 bl bl c11 c1 _ HV12.out HX12.out (by omega)).mono ?_
            rintro e w13 ⟨rfl, n13, rfl⟩
            have HBx := Lib.hid (below_more HB12.out (gDrewN n13))
            clear HB12 HV12 HX12
            generalize w12.drewN n13 = w13 at *
            go_wp2_with fail
            refine (drawSolve6 B zb cb _ (byts_on6 HB.out HBx.out)).mono ?_
            rintro e w20 ⟨m2, v20, ls, rfl, ho20, hls, hb20⟩
            obtain ⟨A20, c20, rfl, hcap20, hI20⟩ := ho20.form
            have HX20 := Lib.hid hI20
            have HB20 := Lib.hid (below_more HBx.out hb20)
            clear ho20 hI20 hb20 HBx
            have HE20 := Lib.hid (HIA.out m2 A20 ls c20 w20 (hK _ _ HW.out HB20.out) HX20.out (by omega) hcap20)
            have HS20 := Lib.hid (fun w h => sSolve6_any m2 A20 ls c20 w h (by omega) hcap20)
            have hlenS := soI_len m2 ls
            generalize soI m2 ls = VS at *
            generalize soOkB m2 ls = eo at *
            have hqS : eqL VS VS = true := by simp [eqL]
            go_wp2_with fail
            refine HE20.out.mono ?_
            rintro e w21 ⟨v21, rfl, ho21, hb21⟩
            obtain ⟨A21, c21, rfl, hI21⟩ := ho21.form
            have HY21 := Lib.hid hI21
            have HX21 := Lib.hid (HX20.out.below hb21)
            have HB21 := Lib.hid (below_more HB20.out hb21)
            clear ho21 hI21 hb21 HB20 HE20 HX20
            go_wp2_with fail
            refine (HS20.out w21 HX21.out).mono ?_
            rintro e w22 ⟨v22, rfl, ho22, hb22⟩
            obtain ⟨A22, c22, rfl, hI22⟩ := ho22.form
            have HZ22 := Lib.hid hI22
            have HY22 := Lib.hid (HY21.out.below hb22)
            have HB22 := Lib.hid (below_more HB21.out hb22)
            clear ho22 hI22 hb22 HB21 HX21 HS20 HY21
            go_wp2_with fail
            refine (sameInts_any A21 A22 VS VS c21 c22 _ HY22.out HZ22.out (by omega)).mono ?_
            rintro e w29 ⟨rfl, n29, rfl⟩
            have HB29 := Lib.hid (below_more HB22.out (gDrewN n29))
            go_wp2_with fail
            go_ret
            exact ⟨rfl, HB29.out⟩
set_option maxRecDepth 100000 in
theorem fnWhole_law {K : World → Prop} (hK : Stays5 K)
    (hWi : ∀ (A : Option Addr) (zs : List Int) (ca : Nat) (w : World), K w → Ints w A zs → zs.length ≤ 1048576 → zs.length ≤ ca → Calls Tryd.prog 8 #[.slice A zs.length ca] w fun e w' => ∃ v, e = .returned (.tuple #[v, .bool (wiOkB zs)]) ∧ Own w' w.heap.size v (wiI zs) ∧ Below w.heap.size w w')
    (hSm : ∀ (n : Int) (A : Option Addr) (zs : List Int) (ca : Nat) (w : World), K w → Ints w A zs → zs.length ≤ 1048576 → zs.length ≤ ca → Calls Tryd.prog 12 #[.int .i64 n, .slice A zs.length ca] w fun e w' => e = .returned (.tuple #[.int .i64 (smI n zs), .bool (smOkB n zs)]) ∧ Below w.heap.size w w')
    (hS : ∀ (A : Option Addr) (zs : List Int) (ca : Nat) (w : World), K w → Ints w A zs → zs.length ≤ 1048576 → zs.length ≤ ca → Calls Tryd.prog 14 #[.slice A zs.length ca] w fun e w' => e = .returned (.tuple #[.bool (isI zs), .bool (isOkB zs)]) ∧ Below w.heap.size w w')
    (hR : ∀ (A : Option Addr) (zs : List Int) (ca : Nat) (n : Int) (w : World), K w → Ints w A zs → zs.length ≤ 1048576 → zs.length ≤ ca → Calls Tryd.prog 15 #[.slice A zs.length ca, .int .i64 n] w fun e w' => e = .returned (.tuple #[letV (raNoI zs n) (raSumI zs n), .bool (raOkB zs n)]) ∧ Below w.heap.size w w')
    (hA : ∀ (n : Int) (A : Option Addr) (ls : List (Int × Int)) (ca : Nat) (w : World), K w → Lets w A ls → ls.length ≤ 1048576 → ls.length ≤ ca → Calls Tryd.prog 16 #[.int .i64 n, .slice A ls.length ca] w fun e w' => ∃ v, e = .returned (.tuple #[v, .bool (soOkB n ls)]) ∧ Own w' w.heap.size v (soI n ls) ∧ Below w.heap.size w w')
    (A : Option Addr) (za : List Int) (ca : Nat) (B : Option Addr) (zb : List Int) (cb : Nat) (w : World) (hw : K w) (ha : Byts w w.heap.size A za) (hb : Byts w w.heap.size B zb) (hla : za.length ≤ 140737488355328) (hlb : zb.length ≤ 140737488355328) :
    Calls Tryd.prog 3 #[.slice A za.length ca, .slice B zb.length cb] w fun e w' => e = .returned (.bool true) ∧ Below w.heap.size w w' := by
  by_cases hl : za.length + zb.length ≤ 1048576
  · exact fnWhole_small hK hWi hSm hS hR hA A za ca B zb cb w hw ha hb hl
  · have hl' : (1048576 : Int) < (za.length : Int) + (zb.length : Int) := by omega
    clear hWi hSm hS hR hA
    go_enter Tryd.func3, Tryd.ntmps3
    go_wp2_with fail
    go_ret
    exact ⟨rfl, Below.refl _ _⟩
end Go.Proofs.YtdoogleggdlddaaDoor
