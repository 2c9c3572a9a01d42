/-
  FnMixed, walked: each contract of the program's a premise.
-/
import Derived.Test.YtipcdaiobfgkeaaVO
import Derived.Test.YtipcdaiobfgkeaaDF
namespace Go.Proofs.Ytipcdaiobfgkeaa
open Go.RowKit

theorem byts_on8 {w w' : World} {A : Option Addr} {zs : List Int} (h : Byts w w.heap.size A zs) (hb : Below w.heap.size w w') : Byts w' w'.heap.size A zs :=
  ⟨h.1, fun hne => by
    obtain ⟨b, o, e, hlt, hc⟩ := h.2 hne
    exact ⟨b, o, e, Nat.lt_of_lt_of_le hlt hb.size, fun j hj => (hb.cell hlt).trans (hc j hj)⟩⟩
theorem perm8_lt {a b : Nat} {L : List Nat} (hL : ∀ c ∈ L, c < 256) : ∀ c ∈ perm8 a b L, c < 256 := fun c hc => by
  obtain ⟨p, _, rfl⟩ := List.mem_map.1 hc
  by_cases h : plN a b p < L.length
  · rw [show L.getD (plN a b p) 0 = L[plN a b p] by simp [List.getD, h]]
    exact hL _ (List.getElem_mem h)
  · rw [show L.getD (plN a b p) 0 = 0 by simp [List.getD, h]]; omega
theorem list8_same {L M : List Nat} {n : Int} (hl : M.length = L.length) (hb : ∀ c ∈ M, c < 256) (h : list8 (zI L) n = true) : list8 (zI M) n = true := by
  simp only [list8, Bool.and_eq_true] at h ⊢
  refine ⟨by rw [zI_length, hl, ← zI_length L]; exact h.1, List.all_eq_true.2 fun z hz => ?_⟩
  obtain ⟨c, hc, rfl⟩ := List.mem_map.1 hz
  have := hb c hc
  exact inB_true (by omega) (by omega)
theorem mix_math {L : List Nat} {per m : Nat} (hL : L.length = per * m) (hm1 : 1 ≤ m) (hb : ∀ c ∈ L, c < 256) (h : list8 (zI L) (m : Int) = true) :
    ∃ M : List Nat, mixI (zI L) (m : Int) = zI M ∧ M.length = L.length ∧ list8 (zI M) (m : Int) = true ∧ unmixI (zI M) (m : Int) = zI L ∧ ∀ k, k < L.length → ∃ p : Nat, plOkB (L.length : Int) (m : Int) (k : Int) = true ∧ plI (L.length : Int) (m : Int) (k : Int) = (p : Int) ∧ p < L.length ∧ M.getD p 0 = L.getD k 0 := by
  have hml : (perm8 m per L).length = L.length := by rw [perm8_length, hL, Nat.mul_comm]
  have h2 := list8_same hml (perm8_lt hb) h
  refine ⟨perm8 m per L, (mixI_nat hL hm1 h).1, hml, h2, ?_, fun k hk => ?_⟩
  · rw [(mixI_nat (hml.trans hL) hm1 h2).2, perm8_back hL]
  · have hsh : shape8 (L.length : Int) (m : Int) = true := by
      simp only [list8, Bool.and_eq_true] at h
      rw [zI_length] at h
      exact h.1
    have hok : plOkB (L.length : Int) (m : Int) (k : Int) = true := by rw [plOkB, hsh, inB_true (by omega) (by omega)]; rfl
    have hk2 : k < per * m := by rw [← hL]; exact hk
    have hp := pl_lt hk2
    refine ⟨plN per m k, hok, ?_, by rw [hL]; exact hp, ?_⟩
    · rw [plI, if_pos hok, Int.toNat_natCast, Int.toNat_natCast, Int.toNat_natCast, hL, Nat.mul_div_cancel _ (by omega)]
    · rw [perm8_at (by rw [Nat.mul_comm]; exact hp), pl_pl hk2]
theorem loss_math {a m f : Nat} (hsh : shape8 (a : Int) (m : Int) = true) (hf : f + m ≤ a) : lsOkB (a : Int) (m : Int) (f : Int) (m : Int) = true ∧ ∃ X : List Nat, lsI (a : Int) (m : Int) (f : Int) (m : Int) = zI X ∧ X.length = m ∧ ∀ r, X.getD r 0 ≤ 1 := by
  have hok : lsOkB (a : Int) (m : Int) (f : Int) (m : Int) = true := by rw [lsOkB, hsh, inB_true (by omega) (by omega), inB_true (by omega) (by omega)]; rfl
  refine ⟨hok, loss8 m f m, ?_, loss8_length _ _ _, fun r => (loss8_one (Nat.le_refl _) r).1⟩
  rw [lsI, if_pos hok, Int.toNat_natCast, Int.toNat_natCast]
set_option maxRecDepth 100000 in
set_option maxHeartbeats 2000000 in
theorem numberOf8 (A : Option Addr) (zs : List Int) (c : Nat) (w : World) (hb : Byts w w.heap.size A zs) (hl : zs.length ≤ 1048576) :
    Calls Try.prog 20 #[.slice A zs.length c] w fun e w' => (∃ n : Nat, e = .returned (.int .i64 n) ∧ n < 1000003) ∧ w = w' := by
  have HA := Lib.hid hb
  clear hb
  go_enter Try.func20, Try.ntmps20
  go_wp2_with fail
  go_loopg [3, 8] zs.length (fun gk s i wr => ∃ (j n : Nat), j + gk = zs.length ∧ i = .int .i64 j ∧ s = .int .i64 n ∧ n < 1000003 ∧ w = wr)
  case atStart => exact ⟨0, 0, by omega, rfl, rfl, by omega, rfl⟩
  case round =>
    obtain ⟨j, n, hg, rfl, rfl, hn, rfl⟩ := hrel
    by_cases hlt : j < zs.length
    · have hji : (j : Int) < (zs.length : Int) := by omega
      obtain ⟨b1, o1, rfl, _, hc1⟩ := HA.out.2 (by rintro rfl; simp at hlt)
      have p1 := hc1 j hlt
      have hz : 0 ≤ zs.getD j 0 ∧ zs.getD j 0 ≤ 255 := HA.out.1 _ (by rw [show zs.getD j 0 = zs[j] by simp [List.getD, hlt]]; exact List.getElem_mem hlt)
      generalize zs.getD j 0 = z at *
      obtain ⟨m, rfl⟩ := Int.eq_ofNat_of_zero_le hz.1
      have hm : m ≤ 255 := by omega
      have HGK : Hid (zs.length - j - 1 < gk ∧ j + 1 + (zs.length - j - 1) = zs.length) := by show _ ∧ _; omega
      have HN : Hid ((31 * (n : Int) + (m : Int)) % 1000003 = (((31 * n + m) % 1000003 : Nat) : Int) ∧ (31 * n + m) % 1000003 < 1000003) := ⟨by omega, by omega⟩
      clear hc1 hg hz
      go_wp2_with fail
      go_roundg (zs.length - j - 1)
      case measure => exact HGK.out.1
      case rel => exact ⟨j + 1, (31 * n + m) % 1000003, HGK.out.2, by go_num, by rw [← HN.out.1], HN.out.2, rfl⟩
    · obtain rfl : j = zs.length := by omega
      have hji : ¬ (zs.length : Int) < (zs.length : Int) := by omega
      go_wp2_with fail
      go_ret
      exact ⟨⟨n, rfl, hn⟩, rfl⟩

set_option maxRecDepth 100000 in
set_option maxHeartbeats 16000000 in
theorem fnMixed_small {K : World → Prop} (hK : Stays5 K)
    (hM : ∀ (A : Option Addr) (zs : List Int) (ca : Nat) (n : Int) (w : World), K w → Ints w A zs → zs.length ≤ 1048576 → zs.length ≤ ca → Calls Try.prog 13 #[.slice A zs.length ca, .int .i64 n] w fun e w' => ∃ v, e = .returned (.tuple #[v, .bool (list8 zs n)]) ∧ Own w' w.heap.size v (mixI zs n) ∧ Below w.heap.size w w')
    (hU : ∀ (A : Option Addr) (zs : List Int) (ca : Nat) (n : Int) (w : World), K w → Ints w A zs → zs.length ≤ 1048576 → zs.length ≤ ca → Calls Try.prog 15 #[.slice A zs.length ca, .int .i64 n] w fun e w' => ∃ v, e = .returned (.tuple #[v, .bool (list8 zs n)]) ∧ Own w' w.heap.size v (unmixI zs n) ∧ Below w.heap.size w w')
    (hP : ∀ (a n k : Int) (w : World), K w → Calls Try.prog 18 #[.int .i64 a, .int .i64 n, .int .i64 k] w fun e w' => e = .returned (.tuple #[.int .i64 (plI a n k), .bool (plOkB a n k)]) ∧ Below w.heap.size w w')
    (hL : ∀ (a n f mn : Int) (w : World), f ≤ 9223372036854775807 → K w → Calls Try.prog 19 #[.int .i64 a, .int .i64 n, .int .i64 f, .int .i64 mn] w fun e w' => ∃ v, e = .returned (.tuple #[v, .bool (lsOkB a n f mn)]) ∧ Own w' w.heap.size v (lsI a n f mn) ∧ Below w.heap.size w w')
    (hS : ∀ (a n : Int) (w : World), K w → Calls Try.prog 24 #[.int .i64 a, .int .i64 n] w fun e w' => e = .returned (.tuple #[.int .i64 (spI a n), .bool (shape8 a n)]) ∧ Below w.heap.size w w')
    (A : Option Addr) (za : List Int) (ca : Nat) (B : Option Addr) (zb : List Int) (cb : Nat) (w : World) (hw : K w) (ha : Byts w w.heap.size A za) (hb : Byts w w.heap.size B zb) (hl : za.length + zb.length ≤ 1048576) :
    Calls Try.prog 3 #[.slice A za.length ca, .slice B zb.length cb] w fun e w' => e = .returned (.bool true) ∧ Below w.heap.size w w' := by
  have HA := Lib.hid ha
  have HB := Lib.hid hb
  have HW := Lib.hid hw
  have HIM := Lib.hid hM
  have HIU := Lib.hid hU
  have HIP := Lib.hid hP
  have HIL := Lib.hid hL
  have HIS := Lib.hid hS
  clear ha hb hw hM hU hP hL hS
  go_enter Try.func3, Try.ntmps3
  go_wp2_with fail
  refine (drawMix8 A za ca _ HA.out).mono ?_
  rintro e w1 ⟨A1, l, c1, n, rfl, hI1, hcap1, hlie1, hl1, hn1, hb1⟩
  have HX1 := Lib.hid hI1
  have HB1 := Lib.hid hb1
  clear hI1 hb1 HA hlie1
  have HE1 := Lib.hid (HIM.out A1 l c1 n w1 (hK _ _ HW.out HB1.out) HX1.out (by omega) hcap1)
  have HS1 := Lib.hid (fun w h => sMix_any A1 l c1 n w h (by omega))
  have HE2 := Lib.hid (fun w hk h => HIU.out A1 l c1 n w hk h (by omega) hcap1)
  have HS2 := Lib.hid (fun w h => sUnmix_any A1 l c1 n w h (by omega))
  have hVl := (mixI_len l n).1
  have hUl := (mixI_len l n).2
  obtain ⟨V, hV⟩ : ∃ V, mixI l n = V := ⟨_, rfl⟩
  obtain ⟨U, hU⟩ : ∃ U, unmixI l n = U := ⟨_, rfl⟩
  obtain ⟨ok, hok⟩ : ∃ ok, list8 l n = ok := ⟨_, rfl⟩
  have HVe := Lib.hid hV
  have HOk := Lib.hid hok
  rw [hV, hok] at HE1 HS1
  rw [hU, hok] at HE2 HS2
  rw [hV] at hVl
  rw [hU] at hUl
  clear hV hU hok
  have hq : eqL V V = true := by simp [eqL]
  have hqU : eqL U U = true := by simp [eqL]
  go_wp2_with fail
  refine HE1.out.mono ?_
  rintro e w2 ⟨v2, rfl, ho2, hb2⟩
  obtain ⟨A2, c2, rfl, hcap2, hI2⟩ := gFormC ho2
  have HV2 := Lib.hid hI2
  have HX2 := Lib.hid (HX1.out.below hb2)
  have HB2 := Lib.hid (below_more HB1.out hb2)
  clear ho2 hI2 hb2 HX1 HB1 HE1
  go_wp2_with fail
  refine (HS1.out w2 HX2.out).mono ?_
  rintro e w3 ⟨v3, rfl, ho3, hb3⟩
  obtain ⟨A3, c3, rfl, hI3⟩ := ho3.form
  have HU3 := Lib.hid hI3
  have HV3 := Lib.hid (HV2.out.below hb3)
  have HX3 := Lib.hid (HX2.out.below hb3)
  have HB3 := Lib.hid (below_more HB2.out hb3)
  clear ho3 hI3 hb3 HX2 HB2 HV2 HS1
  go_wp2_with fail
  refine (HE2.out w3 (hK _ _ HW.out HB3.out) HX3.out).mono ?_
  rintro e w4 ⟨v4, rfl, ho4, hb4⟩
  obtain ⟨A4, c4, rfl, hI4⟩ := ho4.form
  have HP4 := Lib.hid hI4
  have HU4 := Lib.hid (HU3.out.below hb4)
  have HV4 := Lib.hid (HV3.out.below hb4)
  have HX4 := Lib.hid (HX3.out.below hb4)
  have HB4 := Lib.hid (below_more HB3.out hb4)
  clear ho4 hI4 hb4 HX3 HB3 HV3 HU3 HE2
  go_wp2_with fail
  refine (HS2.out w4 HX4.out).mono ?_
  rintro e w5 ⟨v5, rfl, ho5, hb5⟩
  obtain ⟨A5, c5, rfl, hI5⟩ := ho5.form
  have HQ5 := Lib.hid hI5
  have HP5 := Lib.hid (HP4.out.below hb5)
  have HU5 := Lib.hid (HU4.out.below hb5)
  have HV5 := Lib.hid (HV4.out.below hb5)
  have HX5 := Lib.hid (HX4.out.below hb5)
  have HB5 := Lib.hid (below_more HB4.out hb5)
  clear ho5 hI5 hb5 HX4 HB4 HV4 HU4 HP4 HS2
  go_wp2_with fail
  refine (sameInts_any A2 A3 V V c2 c3 _ HV5.out HU5.out (by omega)).mono ?_
  rintro e w6 ⟨rfl, n6, rfl⟩
  have hdr6 : Below w5.heap.size w5 (w5.drewN n6) := gDrewN n6
  have HQ6 := Lib.hid (HQ5.out.below hdr6)
  have HP6 := Lib.hid (HP5.out.below hdr6)
  have HV6 := Lib.hid (HV5.out.below hdr6)
  have HX6 := Lib.hid (HX5.out.below hdr6)
  have HB6 := Lib.hid (below_more HB5.out hdr6)
  clear hdr6 HQ5 HP5 HU5 HV5 HX5 HB5
  generalize w5.drewN n6 = w6 at *
  go_wp2_with fail
  refine (sameInts_any A4 A5 U U c4 c5 _ HP6.out HQ6.out (by omega)).mono ?_
  rintro e w7 ⟨rfl, n7, rfl⟩
  have hdr7 : Below w6.heap.size w6 (w6.drewN n7) := gDrewN n7
  have HV7 := Lib.hid (HV6.out.below hdr7)
  have HX7 := Lib.hid (HX6.out.below hdr7)
  have HB7 := Lib.hid (below_more HB6.out hdr7)
  clear hdr7 HQ6 HP6 HV6 HX6 HB6
  generalize w6.drewN n7 = w7 at *
  cases ok
  · have HBx := HB7
    clear HB7 HX7 HV7 HVe HOk
    go_wp2_with fail
    refine (drawLoss8 B zb cb _ (byts_on8 HB.out HBx.out)).mono ?_
    rintro e w20 ⟨a2, n2, f2, k2, rfl, hf20, hb20⟩
    have HB20 := Lib.hid (below_more HBx.out hb20)
    clear hb20 HBx
    have HE20 := Lib.hid (HIL.out a2 n2 f2 k2 w20 hf20 (hK _ _ HW.out HB20.out))
    have HS20 := Lib.hid (fun w => sLosses_any a2 n2 f2 k2 w)
    have hlenF := lsI_len a2 n2 f2 k2
    generalize lsI a2 n2 f2 k2 = VF at *
    generalize lsOkB a2 n2 f2 k2 = fo at *
    have hqF : eqL VF VF = true := by simp [eqL]
    go_wp2_with fail
    refine HE20.out.mono ?_
    rintro e w21 ⟨v21, rfl, ho21, hb21⟩
    obtain ⟨A21, c21, rfl, hI21⟩ := ho21.form
    have HX21 := Lib.hid hI21
    have HB21 := Lib.hid (below_more HB20.out hb21)
    clear ho21 hI21 hb21 HB20 HE20
    go_wp2_with fail
    refine (HS20.out w21).mono ?_
    rintro e w22 ⟨v22, rfl, ho22, hb22⟩
    obtain ⟨A22, c22, rfl, hI22⟩ := ho22.form
    have HY22 := Lib.hid hI22
    have HX22 := Lib.hid (HX21.out.below hb22)
    have HB22 := Lib.hid (below_more HB21.out hb22)
    clear ho22 hI22 hb22 HB21 HX21 HS20
    go_wp2_with fail
    refine (drawSpread8 B zb cb _ (byts_on8 HB.out HB22.out)).mono ?_
    rintro e w23 ⟨a3, n3, rfl, hb23⟩
    have HX23 := Lib.hid (HX22.out.below hb23)
    have HY23 := Lib.hid (HY22.out.below hb23)
    have HB23 := Lib.hid (below_more HB22.out hb23)
    clear hb23 HX22 HY22 HB22
    have HE23 := Lib.hid (HIS.out a3 n3 w23 (hK _ _ HW.out HB23.out))
    have HS23 := Lib.hid (fun w => sSpread_any a3 n3 w)
    generalize spI a3 n3 = vi at *
    generalize shape8 a3 n3 = vo at *
    go_wp2_with fail
    refine HE23.out.mono ?_
    rintro e w24 ⟨rfl, hb24⟩
    have HX24 := Lib.hid (HX23.out.below hb24)
    have HY24 := Lib.hid (HY23.out.below hb24)
    have HB24 := Lib.hid (below_more HB23.out hb24)
    clear hb24 HX23 HY23 HB23 HE23
    go_wp2_with fail
    refine (HS23.out w24).mono ?_
    rintro e w25 ⟨rfl, rfl⟩
    clear HS23
    go_wp2_with fail
    refine (sameInts_any A21 A22 VF VF c21 c22 _ HX24.out HY24.out (by omega)).mono ?_
    rintro e w29 ⟨rfl, n29, rfl⟩
    have HB29 := Lib.hid (below_more HB24.out (gDrewN n29))
    go_wp2_with fail
    go_ret
    exact ⟨rfl, HB29.out⟩
  · obtain ⟨L, per, m, rfl, hLl, rfl, hm1, hm10, h60, hLb⟩ := list8_nat HOk.out
    obtain ⟨M, hM1, hM2, hM3, hM4, hM5⟩ := mix_math hLl hm1 hLb HOk.out
    have HSh : Hid (shape8 (L.length : Int) (m : Int) = true) := by
      have h := HOk.out
      simp only [list8, Bool.and_eq_true] at h
      rw [zI_length] at h
      exact h.1
    rw [hM1] at HVe
    obtain rfl := HVe.out
    have HMp := Lib.hid hM5
    have HLz : Hid ((zI L).length = L.length) := zI_length L
    have HMz : Hid ((zI M).length = L.length) := by show _ = _; rw [zI_length]; exact hM2
    have HMl := Lib.hid hM2
    rw [HLz.out] at hl1 hcap1
    rw [HMz.out] at hcap2
    have HE8 := Lib.hid (fun w hk h => HIU.out A2 (zI M) c2 (m : Int) w hk h (by rw [HMz.out]; omega) (by rw [HMz.out]; exact hcap2))
    rw [hM3, hM4, HMz.out] at HE8
    have hqL : eqL (zI L) (zI L) = true := by simp [eqL]
    rw [HLz.out, HMz.out]
    clear hM1 hM2 hM3 hM4 hM5 hLb HVe hVl hUl hLl h60 HOk
    go_wp2_with fail
    refine (HE8.out w7 (hK _ _ HW.out HB7.out) HV7.out).mono ?_
    rintro e w8 ⟨v8, rfl, ho8, hb8⟩
    obtain ⟨A8, c8, rfl, hI8⟩ := ho8.form
    have HY8 := Lib.hid hI8
    have HV8 := Lib.hid (HV7.out.below hb8)
    have HX8 := Lib.hid (HX7.out.below hb8)
    have HB8 := Lib.hid (below_more HB7.out hb8)
    clear ho8 hI8 hb8 HX7 HB7 HV7 HE8
    have HSm := Lib.hid (sameInts_any A8 A1 (zI L) (zI L) c8 c1 w8 HY8.out HX8.out (by rw [HLz.out]; omega))
    rw [hqL, HLz.out] at HSm
    rw [HLz.out]
    go_wp2_with fail
    refine HSm.out.mono ?_
    rintro e w9 ⟨rfl, n9, rfl⟩
    have hdr9 : Below w8.heap.size w8 (w8.drewN n9) := gDrewN n9
    have HV9 := Lib.hid (HV8.out.below hdr9)
    have HX9 := Lib.hid (HX8.out.below hdr9)
    have HB9 := Lib.hid (below_more HB8.out hdr9)
    clear hdr9 HV8 HX8 HB8 HY8 HSm hqL
    generalize w8.drewN n9 = w9 at *
    go_wp2_with fail
    go_loopg [111] L.length (fun gk i wr => ∃ j : Nat, j + gk = L.length ∧ i = .int .i64 j ∧ Below w9.heap.size w9 wr)
    case atStart => exact ⟨0, by omega, rfl, Below.refl _ _⟩
    case round =>
      obtain ⟨j, hg, rfl, hbel⟩ := hrel
      have HBl := Lib.hid hbel
      clear hbel
      by_cases hlt : j < L.length
      · have hji : (j : Int) < (L.length : Int) := by omega
        obtain ⟨p, hpo, hpi, hpl, hpe⟩ := HMp.out j hlt
        have HPl := Lib.hid (HIP.out (L.length : Int) (m : Int) (j : Int) wr (hK _ _ HW.out (below_more HB9.out HBl.out)))
        rw [hpo, hpi] at HPl
        obtain ⟨b1, o1, rfl, hc1⟩ := (HX9.out.below HBl.out).cellN hlt
        have HVr := Lib.hid (HV9.out.below HBl.out)
        have hpM : p < M.length := by rw [HMl.out]; exact hpl
        have HPe : Hid (M[p] = L[j]) := by
          rw [show M.getD p 0 = M[p] by simp [List.getD, hpM], show L.getD j 0 = L[j] by simp [List.getD, hlt]] at hpe
          exact hpe
        have HGK : Hid (L.length - j - 1 < gk ∧ j + 1 + (L.length - j - 1) = L.length) := by show _ ∧ _; omega
        have hpL : (p : Int) < (L.length : Int) := by omega
        clear hpo hpi hpe hg
        generalize L[j] = z at *
        have hzz : ((z : Int) != (z : Int)) = false := by simp
        go_wp2_with fail
        refine HPl.out.mono ?_
        rintro e w10 ⟨rfl, hb10⟩
        have HB10 := Lib.hid (below_more HBl.out hb10)
        obtain ⟨b2, o2, e2, hc2⟩ := (HVr.out.below hb10).cellN hpM
        subst e2
        rw [HPe.out] at hc2
        clear hb10 HPl HVr HBl HPe hpM
        go_wp2_with fail
        go_roundg (L.length - j - 1)
        case measure => exact HGK.out.1
        case rel => exact ⟨j + 1, HGK.out.2, by go_num, HB10.out⟩
      · obtain rfl : j = L.length := by omega
        have hji : ¬ (L.length : Int) < (L.length : Int) := by omega
        clear hg HV9 HX9
        by_cases hge : m ≤ L.length
        · have hgi : (m : Int) ≤ (L.length : Int) := by omega
          have HBx1 := Lib.hid (below_more HB9.out HBl.out)
          clear HB9 HBl
          go_wp2_with fail
          refine (numberOf8 B zb cb _ (byts_on8 HB.out HBx1.out) (by omega)).mono ?_
          rintro e w' ⟨⟨nn, rfl, hnn⟩, rfl⟩
          obtain ⟨f, hf, hf2⟩ : ∃ f : Nat, (nn : Int) % ((L.length : Int) - (m : Int) + 1) = (f : Int) ∧ f + m ≤ L.length := by
            have h1 := Int.emod_nonneg (nn : Int) (show (L.length : Int) - (m : Int) + 1 ≠ 0 by omega)
            have h2 := Int.emod_lt_of_pos (nn : Int) (show 0 < (L.length : Int) - (m : Int) + 1 by omega)
            exact ⟨((nn : Int) % ((L.length : Int) - (m : Int) + 1)).toNat, by omega, by omega⟩
          obtain ⟨hlo, X, hX1, hX2, hX3⟩ := loss_math HSh.out hf2
          have HLs := Lib.hid (HIL.out (L.length : Int) (m : Int) (f : Int) (m : Int) wr (by omega) (hK _ _ HW.out HBx1.out))
          rw [hlo, hX1] at HLs
          have HX3 := Lib.hid hX3
          have HX2 := Lib.hid hX2
          have hd1 : ¬ ((L.length : Int) - (m : Int) + 1 = 0) := by omega
          clear hlo hX1 hX2 hX3 hnn
          go_wp2_with fail
          rw [hf]
          clear hf
          refine HLs.out.mono ?_
          rintro e w11 ⟨v11, rfl, ho11, hb11⟩
          obtain ⟨A11, c11, rfl, hI11⟩ := ho11.form
          have HY11 := Lib.hid hI11
          have HB11 := Lib.hid (below_more HBx1.out hb11)
          rw [zI_length, HX2.out]
          clear ho11 hI11 hb11 HBx1 HLs
          go_wp2_with fail
          go_loopg [159] m (fun gk i wr => ∃ j : Nat, j + gk = m ∧ i = .int .i64 j ∧ w11 = wr)
          case atStart => exact ⟨0, by omega, rfl, rfl⟩
          case round =>
            obtain ⟨j, hg, rfl, rfl⟩ := hrel
            by_cases hlt2 : j < m
            · have hji2 : (j : Int) < (m : Int) := by omega
              have hjX : j < X.length := by rw [HX2.out]; exact hlt2
              obtain ⟨b1, o1, rfl, hc1⟩ := HY11.out.cellN hjX
              have hx1 := HX3.out j
              rw [show X.getD j 0 = X[j] by simp [List.getD, hjX]] at hx1
              have HGK : Hid (m - j - 1 < gk ∧ j + 1 + (m - j - 1) = m) := by show _ ∧ _; omega
              clear hg
              generalize X[j] = z at *
              have hzi : ¬ (1 : Int) < (z : Int) := by omega
              go_wp2_with fail
              go_roundg (m - j - 1)
              case measure => exact HGK.out.1
              case rel => exact ⟨j + 1, HGK.out.2, by go_num, rfl⟩
            · obtain rfl : j = m := by omega
              have hji2 : ¬ (j : Int) < (j : Int) := by omega
              have HBx := HB11
              clear HB11 HY11
              go_wp2_with fail
              refine (drawLoss8 B zb cb _ (byts_on8 HB.out HBx.out)).mono ?_
              rintro e w20 ⟨a2, n2, f2, k2, rfl, hf20, hb20⟩
              have HB20 := Lib.hid (below_more HBx.out hb20)
              clear hb20 HBx
              have HE20 := Lib.hid (HIL.out a2 n2 f2 k2 w20 hf20 (hK _ _ HW.out HB20.out))
              have HS20 := Lib.hid (fun w => sLosses_any a2 n2 f2 k2 w)
              have hlenF := lsI_len a2 n2 f2 k2
              generalize lsI a2 n2 f2 k2 = VF at *
              generalize lsOkB a2 n2 f2 k2 = fo at *
              have hqF : eqL VF VF = true := by simp [eqL]
              go_wp2_with fail
              refine HE20.out.mono ?_
              rintro e w21 ⟨v21, rfl, ho21, hb21⟩
              obtain ⟨A21, c21, rfl, hI21⟩ := ho21.form
              have HX21 := Lib.hid hI21
              have HB21 := Lib.hid (below_more HB20.out hb21)
              clear ho21 hI21 hb21 HB20 HE20
              go_wp2_with fail
              refine (HS20.out w21).mono ?_
              rintro e w22 ⟨v22, rfl, ho22, hb22⟩
              obtain ⟨A22, c22, rfl, hI22⟩ := ho22.form
              have HY22 := Lib.hid hI22
              have HX22 := Lib.hid (HX21.out.below hb22)
              have HB22 := Lib.hid (below_more HB21.out hb22)
              clear ho22 hI22 hb22 HB21 HX21 HS20
              go_wp2_with fail
              refine (drawSpread8 B zb cb _ (byts_on8 HB.out HB22.out)).mono ?_
              rintro e w23 ⟨a3, n3, rfl, hb23⟩
              have HX23 := Lib.hid (HX22.out.below hb23)
              have HY23 := Lib.hid (HY22.out.below hb23)
              have HB23 := Lib.hid (below_more HB22.out hb23)
              clear hb23 HX22 HY22 HB22
              have HE23 := Lib.hid (HIS.out a3 n3 w23 (hK _ _ HW.out HB23.out))
              have HS23 := Lib.hid (fun w => sSpread_any a3 n3 w)
              generalize spI a3 n3 = vi at *
              generalize shape8 a3 n3 = vo at *
              go_wp2_with fail
              refine HE23.out.mono ?_
              rintro e w24 ⟨rfl, hb24⟩
              have HX24 := Lib.hid (HX23.out.below hb24)
              have HY24 := Lib.hid (HY23.out.below hb24)
              have HB24 := Lib.hid (below_more HB23.out hb24)
              clear hb24 HX23 HY23 HB23 HE23
              go_wp2_with fail
              refine (HS23.out w24).mono ?_
              rintro e w25 ⟨rfl, rfl⟩
              clear HS23
              go_wp2_with fail
              refine (sameInts_any A21 A22 VF VF c21 c22 _ HX24.out HY24.out (by omega)).mono ?_
              rintro e w29 ⟨rfl, n29, rfl⟩
              have HB29 := Lib.hid (below_more HB24.out (gDrewN n29))
              go_wp2_with fail
              go_ret
              exact ⟨rfl, HB29.out⟩
        · have hgi : ¬ (m : Int) ≤ (L.length : Int) := by omega
          have HBx := Lib.hid (below_more HB9.out HBl.out)
          clear HB9 HBl
          go_wp2_with fail
          refine (drawLoss8 B zb cb _ (byts_on8 HB.out HBx.out)).mono ?_
          rintro e w20 ⟨a2, n2, f2, k2, rfl, hf20, hb20⟩
          have HB20 := Lib.hid (below_more HBx.out hb20)
          clear hb20 HBx
          have HE20 := Lib.hid (HIL.out a2 n2 f2 k2 w20 hf20 (hK _ _ HW.out HB20.out))
          have HS20 := Lib.hid (fun w => sLosses_any a2 n2 f2 k2 w)
          have hlenF := lsI_len a2 n2 f2 k2
          generalize lsI a2 n2 f2 k2 = VF at *
          generalize lsOkB a2 n2 f2 k2 = fo at *
          have hqF : eqL VF VF = true := by simp [eqL]
          go_wp2_with fail
          refine HE20.out.mono ?_
          rintro e w21 ⟨v21, rfl, ho21, hb21⟩
          obtain ⟨A21, c21, rfl, hI21⟩ := ho21.form
          have HX21 := Lib.hid hI21
          have HB21 := Lib.hid (below_more HB20.out hb21)
          clear ho21 hI21 hb21 HB20 HE20
          go_wp2_with fail
          refine (HS20.out w21).mono ?_
          rintro e w22 ⟨v22, rfl, ho22, hb22⟩
          obtain ⟨A22, c22, rfl, hI22⟩ := ho22.form
          have HY22 := Lib.hid hI22
          have HX22 := Lib.hid (HX21.out.below hb22)
          have HB22 := Lib.hid (below_more HB21.out hb22)
          clear ho22 hI22 hb22 HB21 HX21 HS20
          go_wp2_with fail
          refine (drawSpread8 B zb cb _ (byts_on8 HB.out HB22.out)).mono ?_
          rintro e w23 ⟨a3, n3, rfl, hb23⟩
          have HX23 := Lib.hid (HX22.out.below hb23)
          have HY23 := Lib.hid (HY22.out.below hb23)
          have HB23 := Lib.hid (below_more HB22.out hb23)
          clear hb23 HX22 HY22 HB22
          have HE23 := Lib.hid (HIS.out a3 n3 w23 (hK _ _ HW.out HB23.out))
          have HS23 := Lib.hid (fun w => sSpread_any a3 n3 w)
          generalize spI a3 n3 = vi at *
          generalize shape8 a3 n3 = vo at *
          go_wp2_with fail
          refine HE23.out.mono ?_
          rintro e w24 ⟨rfl, hb24⟩
          have HX24 := Lib.hid (HX23.out.below hb24)
          have HY24 := Lib.hid (HY23.out.below hb24)
          have HB24 := Lib.hid (below_more HB23.out hb24)
          clear hb24 HX23 HY23 HB23 HE23
          go_wp2_with fail
          refine (HS23.out w24).mono ?_
          rintro e w25 ⟨rfl, rfl⟩
          clear HS23
          go_wp2_with fail
          refine (sameInts_any A21 A22 VF VF c21 c22 _ HX24.out HY24.out (by omega)).mono ?_
          rintro e w29 ⟨rfl, n29, rfl⟩
          have HB29 := Lib.hid (below_more HB24.out (gDrewN n29))
          go_wp2_with fail
          go_ret
          exact ⟨rfl, HB29.out⟩

set_option maxRecDepth 100000 in
set_option maxHeartbeats 1000000 in
theorem fnMixed_law {K : World → Prop} (hK : Stays5 K)
    (hM : ∀ (A : Option Addr) (zs : List Int) (ca : Nat) (n : Int) (w : World), K w → Ints w A zs → zs.length ≤ 1048576 → zs.length ≤ ca → Calls Try.prog 13 #[.slice A zs.length ca, .int .i64 n] w fun e w' => ∃ v, e = .returned (.tuple #[v, .bool (list8 zs n)]) ∧ Own w' w.heap.size v (mixI zs n) ∧ Below w.heap.size w w')
    (hU : ∀ (A : Option Addr) (zs : List Int) (ca : Nat) (n : Int) (w : World), K w → Ints w A zs → zs.length ≤ 1048576 → zs.length ≤ ca → Calls Try.prog 15 #[.slice A zs.length ca, .int .i64 n] w fun e w' => ∃ v, e = .returned (.tuple #[v, .bool (list8 zs n)]) ∧ Own w' w.heap.size v (unmixI zs n) ∧ Below w.heap.size w w')
    (hP : ∀ (a n k : Int) (w : World), K w → Calls Try.prog 18 #[.int .i64 a, .int .i64 n, .int .i64 k] w fun e w' => e = .returned (.tuple #[.int .i64 (plI a n k), .bool (plOkB a n k)]) ∧ Below w.heap.size w w')
    (hL : ∀ (a n f mn : Int) (w : World), f ≤ 9223372036854775807 → K w → Calls Try.prog 19 #[.int .i64 a, .int .i64 n, .int .i64 f, .int .i64 mn] w fun e w' => ∃ v, e = .returned (.tuple #[v, .bool (lsOkB a n f mn)]) ∧ Own w' w.heap.size v (lsI a n f mn) ∧ Below w.heap.size w w')
    (hS : ∀ (a n : Int) (w : World), K w → Calls Try.prog 24 #[.int .i64 a, .int .i64 n] w fun e w' => e = .returned (.tuple #[.int .i64 (spI a n), .bool (shape8 a n)]) ∧ Below w.heap.size w w')
    (A : Option Addr) (za : List Int) (ca : Nat) (B : Option Addr) (zb : List Int) (cb : Nat) (w : World) (hw : K w) (ha : Byts w w.heap.size A za) (hb : Byts w w.heap.size B zb) (hla : za.length ≤ 140737488355328) (hlb : zb.length ≤ 140737488355328) :
    Calls Try.prog 3 #[.slice A za.length ca, .slice B zb.length cb] w fun e w' => e = .returned (.bool true) ∧ Below w.heap.size w w' := by
  by_cases hl : za.length + zb.length ≤ 1048576
  · exact fnMixed_small hK hM hU hP hL hS A za ca B zb cb w hw ha hb hl
  · have hli : (1048576 : Int) < (za.length : Int) + (zb.length : Int) := by omega
    clear hM hU hP hL hS ha hb
    go_enter Try.func3, Try.ntmps3
    go_wp2_with fail
    go_ret
    exact ⟨rfl, Below.refl _ _⟩
end Go.Proofs.Ytipcdaiobfgkeaa
