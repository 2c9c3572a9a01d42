/-
  FnMended, walked: each contract of the program's a premise.
-/
import Derived.Test.YtipcdaiobfgkeaaVO
import Derived.Test.YtipcdaiobfgkeaaDF
namespace Go.Proofs.Ytipcdaiobfgkeaa
open Go.RowKit

theorem byts_onB8 {w w' : World} {A : Option Addr} {zs : List Int} (h : Byts w w.heap.size A zs) (hb : Below w.heap.size w w') : Byts w' w'.heap.size A zs :=
  ⟨h.1, fun hne => by
    obtain ⟨b, o, e, hlt, hc⟩ := h.2 hne
    exact ⟨b, o, e, Nat.lt_of_lt_of_le hlt hb.size, fun j hj => (hb.cell hlt).trans (hc j hj)⟩⟩
theorem list8_sameB {L M : List Nat} {n : Int} (hl : M.length = L.length) (hb : ∀ c ∈ M, c < 256) (h : list8 (zI L) n = true) : list8 (zI M) n = true := by
  simp only [list8, Bool.and_eq_true] at h ⊢
  refine ⟨by rw [zI_length, hl, ← zI_length L]; exact h.1, List.all_eq_true.2 fun z hz => ?_⟩
  obtain ⟨c, hc, rfl⟩ := List.mem_map.1 hz
  have := hb c hc
  exact inB_true (by omega) (by omega)
theorem zI8_inj {a b : List Nat} (h : zI a = zI b) : a = b := by rw [← zI8_back a, h, zI8_back]
theorem mend_math {zs : List Int} {n : Int} {ps ks : List Int} (hps : paI zs n = ps) (h : mdOkB zs n ps ks = true) :
    ∃ (L S K : List Nat) (m : Nat), zs = zI L ∧ n = m ∧ ps = zI S ∧ ks = zI K ∧ L.length ≤ 60 ∧ S.length = m ∧ m ≤ 10 ∧ (∀ c ∈ L, c < 256) ∧ (∀ k ∈ K, k < L.length) ∧ list8 (zI L) (m : Int) = true ∧ paI (zI L) (m : Int) = zI S ∧ mdI zs n ps ks = zI L ∧ ∀ G : List Nat, G.length = L.length → (∀ c ∈ G, c < 256) → (∀ j, j < L.length → j ∉ K → G.getD j 0 = L.getD j 0) → mdOkB (zI G) (m : Int) (zI S) (zI K) = true ∧ mdI (zI G) (m : Int) (zI S) (zI K) = zI L := by
  cases hp : mdPreB zs n ps ks
  · rw [(md_not hp).2] at h; cases h
  · obtain ⟨L, S, K, per, m, rfl, rfl, rfl, rfl, hL, hm1, hm10, h60, hLb, hS, hSb, hr, hk, e⟩ := md_nat hp
    have hp' := hp
    simp only [mdPreB, Bool.and_eq_true, decide_eq_true_eq] at hp'
    have hli := hp'.1
    have hSp : S = par8 per m L L.length := zI8_inj (hps.symm.trans (paI_nat hL hm1 hli))
    have hSr : ∀ i, i < L.length → S.getD (i / per) 0 = lin8 per L (i / per) L.length := fun i hi => by
      rw [hSp, par8_at (by rw [hL] at hi; exact Nat.div_lt_of_lt_mul hi)]
    have hright : ∀ (G R : List Nat), G.length = L.length → (∀ j, j < L.length → j ∉ K → G.getD j 0 = L.getD j 0) → mend8 per S G (-1) K = some R → R = L := fun G R hg ho hm => mend8_right hSr hg hr hk ho hm
    have hsome : (mend8 per S L (-1) K).isSome = true := by rw [← e]; exact h
    refine ⟨L, S, K, m, rfl, rfl, rfl, rfl, h60, hS, hm10, hLb, hk, hli, hps, ?_, fun G hg hb ho => ?_⟩
    · rw [mdI, e]
      obtain ⟨R, hR⟩ := Option.isSome_iff_exists.1 hsome
      rw [hR, hright L R rfl (fun _ _ _ => rfl) hR]; rfl
    · have hp2 : mdPreB (zI G) (m : Int) (zI S) (zI K) = true := by
        simp only [mdPreB, Bool.and_eq_true, decide_eq_true_eq]
        refine ⟨list8_sameB hg hb hli, hp'.2.1, hp'.2.2.1, ?_⟩
        rw [zI_length, hg, ← zI_length L]; exact hp'.2.2.2
      have e2 : mdN (zI G) (m : Int) (zI S) (zI K) = mend8 per S G (-1) K := by
        rw [mdN, if_pos hp2, zI8_back, zI8_back, zI8_back, zI_length, Int.toNat_natCast, hg, hL, Nat.mul_div_cancel _ (by omega)]
      have hs2 : (mend8 per S G (-1) K).isSome = true := by rw [mend8_some (S' := S) (L' := L)]; exact hsome
      refine ⟨by rw [mdOkB, e2]; exact hs2, ?_⟩
      rw [mdI, e2]
      obtain ⟨R, hR⟩ := Option.isSome_iff_exists.1 hs2
      rw [hR, hright G R hg ho hR]; rfl
/-- append([]int{}, l...): a copy of the call's own. -/
theorem app_copy8 {ops : Array Oper} {rest : List Oper} {o : Oper} {a : Act} {Q : Exit → Act → World → Prop} (W : World) (L : List Nat) (A : Option Addr) (ca m : Nat) (hm : L.length = m) (Bn : Nat) (hBn : Bn = W.heap.size) (hgd : o.guard = none) (s x : Operand)
    (ho : o.op = .call { callee := .builtin .append, args := #[s, x], argTypes := #[23, 23] }) (hs : a.eval s = .slice (some ⟨Bn, 0, none⟩) 0 0) (hx : a.eval x = .slice A m ca)
    (hA : Lies8 A ca) (hI : Ints W A (zI L)) (hl : L.length ≤ 1000000)
    (h : ∀ v' w', Hid (Own w' W.heap.size v' (zI L) ∧ Below W.heap.size W w') → wpList Try.prog ops Q rest (a.put o.dst v') w') :
    wpList Try.prog ops Q (o :: rest) a (W.alloc (.cells #[] 3)) := by
  subst hBn
  subst hm
  have hO := own_lit0 W
  have hB := jAlloc1f W
  obtain ⟨i0, hi, hz0, hz1, hz2⟩ := info_parts intInfo
  rcases hA with ⟨rfl, rfl⟩ | ⟨b0, o0, rfl⟩
  · have hL0 : L = [] := by
      cases L with
      | nil => rfl
      | cons x l =>
        obtain ⟨b, o, e, _⟩ := hI (by simp [zI])
        cases e
    subst hL0
    exact wpList_append_own_none hgd s x 23 ho W.heap.size 3 i0 1 Try.underlying23 hi _ 0 [] hs hO hx (h _ _ ⟨hO, hB⟩)
  · refine app_cnt (W.alloc (.cells #[] 3)) W.heap.size _ [] L L.length rfl b0 o0 ca hgd s x ho hs hx (fun j hj => ?_) hO (by simp) (by simp) hl W hB (fun v' w' H' => h v' w' ⟨H'.out.1, H'.out.2.1⟩)
    obtain ⟨b, o, e, hcell⟩ := hI (by intro e; have := congrArg List.length e; rw [zI_length, List.length_nil] at this; omega)
    injection e with e
    injection e with e1 e2
    subst e1; subst e2
    have h1 := hcell j (by rw [zI_length]; exact hj)
    rw [hB.cell (World.block_lt_of_cell? _ _ h1), h1, zI_getD]
set_option maxRecDepth 100000 in
set_option maxHeartbeats 2000000 in
theorem numberOfB8 (A : Option Addr) (zs : List Int) (c : Nat) (w : World) (hb : Byts w w.heap.size A zs) (hl : zs.length ≤ 1048576) :
    Calls Try.prog 20 #[.slice A zs.length c] w fun e w' => (∃ n : Nat, e = .returned (.int .i64 n) ∧ n < 1000003) ∧ w = w' := by
  have HA := Lib.hid hb
  clear hb
  go_enter Try.func20, Try.ntmps20
  go_wp2_with fail
  go_loopg [3, 8] zs.length (fun gk s i wr => ∃ (j n : Nat), j + gk = zs.length ∧ i = .int .i64 j ∧ s = .int .i64 n ∧ n < 1000003 ∧ w = wr)
  case atStart => exact ⟨0, 0, by omega, rfl, rfl, by omega, rfl⟩
  case round =>
    obtain ⟨j, n, hg, rfl, rfl, hn, rfl⟩ := hrel
    by_cases hlt : j < zs.length
    · have hji : (j : Int) < (zs.length : Int) := by omega
      obtain ⟨b1, o1, rfl, _, hc1⟩ := HA.out.2 (by rintro rfl; simp at hlt)
      have p1 := hc1 j hlt
      have hz : 0 ≤ zs.getD j 0 ∧ zs.getD j 0 ≤ 255 := HA.out.1 _ (by rw [show zs.getD j 0 = zs[j] by simp [List.getD, hlt]]; exact List.getElem_mem hlt)
      generalize zs.getD j 0 = z at *
      obtain ⟨m, rfl⟩ := Int.eq_ofNat_of_zero_le hz.1
      have hm : m ≤ 255 := by omega
      have HGK : Hid (zs.length - j - 1 < gk ∧ j + 1 + (zs.length - j - 1) = zs.length) := by show _ ∧ _; omega
      have HN : Hid ((31 * (n : Int) + (m : Int)) % 1000003 = (((31 * n + m) % 1000003 : Nat) : Int) ∧ (31 * n + m) % 1000003 < 1000003) := ⟨by omega, by omega⟩
      clear hc1 hg hz
      go_wp2_with fail
      go_roundg (zs.length - j - 1)
      case measure => exact HGK.out.1
      case rel => exact ⟨j + 1, (31 * n + m) % 1000003, HGK.out.2, by go_num, by rw [← HN.out.1], HN.out.2, rfl⟩
    · obtain rfl : j = zs.length := by omega
      have hji : ¬ (zs.length : Int) < (zs.length : Int) := by omega
      go_wp2_with fail
      go_ret
      exact ⟨⟨n, rfl, hn⟩, rfl⟩

set_option maxRecDepth 100000 in
set_option maxHeartbeats 16000000 in
theorem fnMended_small {K : World → Prop} (hK : Stays5 K)
    (hM : ∀ (A B C : Option Addr) (zs ps ks : List Int) (ca cb cc : Nat) (n : Int) (w : World), K w → Ints w A zs → Ints w B ps → Ints w C ks → Lies8 A ca → Lies8 B cb → Lies8 C cc → zs.length ≤ 1048576 → ps.length ≤ 1048576 → ks.length ≤ 1048576 → zs.length ≤ ca → ps.length ≤ cb → ks.length ≤ cc → Calls Try.prog 27 #[.slice A zs.length ca, .int .i64 n, .slice B ps.length cb, .slice C ks.length cc] w fun e w' => ∃ v, e = .returned (.tuple #[v, .bool (mdOkB zs n ps ks)]) ∧ Own w' w.heap.size v (mdI zs n ps ks) ∧ Below w.heap.size w w')
    (hQ : ∀ (A : Option Addr) (zs : List Int) (ca : Nat) (n : Int) (w : World), K w → Ints w A zs → zs.length ≤ 1048576 → zs.length ≤ ca → Calls Try.prog 29 #[.slice A zs.length ca, .int .i64 n] w fun e w' => ∃ v, e = .returned (.tuple #[v, .bool (list8 zs n)]) ∧ Own w' w.heap.size v (paI zs n) ∧ Below w.heap.size w w')
    (hP : ∀ (a n k : Int) (w : World), K w → Calls Try.prog 18 #[.int .i64 a, .int .i64 n, .int .i64 k] w fun e w' => e = .returned (.tuple #[.int .i64 (plI a n k), .bool (plOkB a n k)]) ∧ Below w.heap.size w w')
    (A : Option Addr) (za : List Int) (ca : Nat) (B : Option Addr) (zb : List Int) (cb : Nat) (w : World) (hw : K w) (ha : Byts w w.heap.size A za) (hb : Byts w w.heap.size B zb) (hl : za.length + zb.length ≤ 1048576) :
    Calls Try.prog 4 #[.slice A za.length ca, .slice B zb.length cb] w fun e w' => e = .returned (.bool true) ∧ Below w.heap.size w w' := by
  have HA := Lib.hid ha
  have HB := Lib.hid hb
  have HW := Lib.hid hw
  have HIM := Lib.hid hM
  have HIQ := Lib.hid hQ
  have HIP := Lib.hid hP
  clear ha hb hw hM hQ hP
  go_enter Try.func4, Try.ntmps4
  go_wp2_with fail
  refine (drawMend8 A za ca _ HA.out).mono ?_
  rintro e w1 ⟨A1, l, c1, n, A2, c2, A3, ks, c3, rfl, hI1, hI2, hI3, hcap1, hcap2, hcap3, hlie1, hlie2, hlie3, hl1, hk1, hb1⟩
  have hpl := paI_len l n
  obtain ⟨ps, hps⟩ : ∃ ps, paI l n = ps := ⟨_, rfl⟩
  have HPs := Lib.hid hps
  rw [hps] at hI2 hcap2 hpl ⊢
  clear hps
  have HX1 := Lib.hid hI1
  have HY1 := Lib.hid hI2
  have HZ1 := Lib.hid hI3
  have HB1 := Lib.hid hb1
  have HLi1 := Lib.hid hlie1
  have HLi2 := Lib.hid hlie2
  have HLi3 := Lib.hid hlie3
  clear hI1 hI2 hI3 hb1 HA hlie1 hlie2 hlie3
  have HE1 := Lib.hid (HIM.out A1 A2 A3 l ps ks c1 c2 c3 n w1 (hK _ _ HW.out HB1.out) HX1.out HY1.out HZ1.out HLi1.out HLi2.out HLi3.out (by omega) (by omega) (by omega) hcap1 hcap2 hcap3)
  have HS1 := Lib.hid (fun w h1 h2 h3 => sMend_any A1 A2 A3 l ps ks c1 c2 c3 n w h1 h2 h3 HLi1.out (by omega) (by omega) (by omega))
  have hVl := mdI_len l n ps ks
  obtain ⟨V, hV⟩ : ∃ V, mdI l n ps ks = V := ⟨_, rfl⟩
  obtain ⟨ok, hok⟩ : ∃ ok, mdOkB l n ps ks = ok := ⟨_, rfl⟩
  have HVe := Lib.hid hV
  have HOk := Lib.hid hok
  rw [hV, hok] at HE1 HS1
  rw [hV] at hVl
  clear hV hok
  have hq : eqL V V = true := by simp [eqL]
  go_wp2_with fail
  refine HE1.out.mono ?_
  rintro e w2 ⟨v2, rfl, ho2, hb2⟩
  obtain ⟨A4, c4, rfl, hI4⟩ := ho2.form
  have HV2 := Lib.hid hI4
  have HX2 := Lib.hid (HX1.out.below hb2)
  have HY2 := Lib.hid (HY1.out.below hb2)
  have HZ2 := Lib.hid (HZ1.out.below hb2)
  have HB2 := Lib.hid (below_more HB1.out hb2)
  clear ho2 hI4 hb2 HX1 HY1 HZ1 HB1 HE1
  go_wp2_with fail
  refine (HS1.out w2 HX2.out HY2.out HZ2.out).mono ?_
  rintro e w3 ⟨v3, rfl, ho3, hb3⟩
  obtain ⟨A5, c5, rfl, hI5⟩ := ho3.form
  have HU3 := Lib.hid hI5
  have HV3 := Lib.hid (HV2.out.below hb3)
  have HX3 := Lib.hid (HX2.out.below hb3)
  have HY3 := Lib.hid (HY2.out.below hb3)
  have HZ3 := Lib.hid (HZ2.out.below hb3)
  have HB3 := Lib.hid (below_more HB2.out hb3)
  clear ho3 hI5 hb3 HX2 HY2 HZ2 HB2 HV2 HS1
  go_wp2_with fail
  refine (sameInts_any A4 A5 V V c4 c5 _ HV3.out HU3.out (by omega)).mono ?_
  rintro e w4 ⟨rfl, n4, rfl⟩
  have hdr4 : Below w3.heap.size w3 (w3.drewN n4) := gDrewN n4
  have HV4 := Lib.hid (HV3.out.below hdr4)
  have HX4 := Lib.hid (HX3.out.below hdr4)
  have HY4 := Lib.hid (HY3.out.below hdr4)
  have HZ4 := Lib.hid (HZ3.out.below hdr4)
  have HB4 := Lib.hid (below_more HB3.out hdr4)
  clear hdr4 HU3 HV3 HX3 HY3 HZ3 HB3
  generalize w3.drewN n4 = w4 at *
  cases ok
  · have HBx := HB4
    clear HB4 HX4 HY4 HZ4 HV4 HVe HOk HPs
    go_wp2_with fail
    refine (drawPar8 B zb cb _ (byts_onB8 HB.out HBx.out)).mono ?_
    rintro e w20 ⟨A20, q20, c20, n2, rfl, hI20, hcap20, hlie20, hl20, hn20, hb20⟩
    have HQ20 := Lib.hid hI20
    have HB20 := Lib.hid (below_more HBx.out hb20)
    clear hI20 hb20 HBx hlie20
    have HE20 := Lib.hid (HIQ.out A20 q20 c20 n2 w20 (hK _ _ HW.out HB20.out) HQ20.out (by omega) hcap20)
    have HS20 := Lib.hid (fun w h => sParityFor_any A20 q20 c20 n2 w h (by omega))
    have hlenF := paI_len q20 n2
    generalize paI q20 n2 = VF at *
    generalize list8 q20 n2 = fo at *
    have hqF : eqL VF VF = true := by simp [eqL]
    go_wp2_with fail
    refine HE20.out.mono ?_
    rintro e w21 ⟨v21, rfl, ho21, hb21⟩
    obtain ⟨A21, c21, rfl, hI21⟩ := ho21.form
    have HX21 := Lib.hid hI21
    have HQ21 := Lib.hid (HQ20.out.below hb21)
    have HB21 := Lib.hid (below_more HB20.out hb21)
    clear ho21 hI21 hb21 HB20 HE20 HQ20
    go_wp2_with fail
    refine (HS20.out w21 HQ21.out).mono ?_
    rintro e w22 ⟨v22, rfl, ho22, hb22⟩
    obtain ⟨A22, c22, rfl, hI22⟩ := ho22.form
    have HY22 := Lib.hid hI22
    have HX22 := Lib.hid (HX21.out.below hb22)
    have HB22 := Lib.hid (below_more HB21.out hb22)
    clear ho22 hI22 hb22 HB21 HX21 HS20 HQ21
    go_wp2_with fail
    refine (drawPlace8 B zb cb _ (byts_onB8 HB.out HB22.out)).mono ?_
    rintro e w23 ⟨a3, n3, k3, rfl, hb23⟩
    have HX23 := Lib.hid (HX22.out.below hb23)
    have HY23 := Lib.hid (HY22.out.below hb23)
    have HB23 := Lib.hid (below_more HB22.out hb23)
    clear hb23 HX22 HY22 HB22
    have HE23 := Lib.hid (HIP.out a3 n3 k3 w23 (hK _ _ HW.out HB23.out))
    have HS23 := Lib.hid (fun w => sPlaceOf_any a3 n3 k3 w)
    generalize plI a3 n3 k3 = vi at *
    generalize plOkB a3 n3 k3 = vo at *
    go_wp2_with fail
    refine HE23.out.mono ?_
    rintro e w24 ⟨rfl, hb24⟩
    have HX24 := Lib.hid (HX23.out.below hb24)
    have HY24 := Lib.hid (HY23.out.below hb24)
    have HB24 := Lib.hid (below_more HB23.out hb24)
    clear hb24 HX23 HY23 HB23 HE23
    go_wp2_with fail
    refine (HS23.out w24).mono ?_
    rintro e w25 ⟨rfl, hb25⟩
    have HX25 := Lib.hid (HX24.out.below hb25)
    have HY25 := Lib.hid (HY24.out.below hb25)
    have HB25 := Lib.hid (below_more HB24.out hb25)
    clear hb25 HX24 HY24 HB24 HS23
    go_wp2_with fail
    refine (sameInts_any A21 A22 VF VF c21 c22 _ HX25.out HY25.out (by omega)).mono ?_
    rintro e w29 ⟨rfl, n29, rfl⟩
    have HB29 := Lib.hid (below_more HB25.out (gDrewN n29))
    go_wp2_with fail
    go_ret
    exact ⟨rfl, HB29.out⟩
  · obtain ⟨L, S, R, m, rfl, rfl, rfl, rfl, h60, hSm, hm10, hLb, hk, hli, hpa, hmd, hG⟩ := mend_math HPs.out HOk.out
    rw [hmd] at HVe
    obtain rfl := HVe.out
    have HLb := Lib.hid hLb
    have HKb := Lib.hid hk
    have HGd := Lib.hid hG
    have HSm := Lib.hid hSm
    have HLz : Hid ((zI L).length = L.length) := zI_length L
    have HSz : Hid ((zI S).length = m) := by show _ = _; rw [zI_length]; exact hSm
    have HRz : Hid ((zI R).length = R.length) := zI_length R
    rw [HLz.out] at hl1 hcap1
    rw [HSz.out] at hcap2
    rw [HRz.out] at hcap3 hk1
    have HE8 := Lib.hid (fun w hk h => HIQ.out A1 (zI L) c1 (m : Int) w hk h (by rw [HLz.out]; omega) (by rw [HLz.out]; exact hcap1))
    rw [hli, hpa, HLz.out] at HE8
    have HE7 : Hid (∀ (A9 : Option Addr) (c9 : Nat) (G : List Nat) (w : World), K w → Ints w A9 (zI G) → Lies8 A9 c9 → L.length ≤ c9 → Ints w A2 (zI S) → Ints w A3 (zI R) → G.length = L.length → (∀ c ∈ G, c < 256) → (∀ j, j < L.length → j ∉ R → G.getD j 0 = L.getD j 0) → Calls Try.prog 27 #[.slice A9 L.length c9, .int .i64 (m : Int), .slice A2 m c2, .slice A3 R.length c3] w fun e w' => ∃ v, e = .returned (.tuple #[v, .bool true]) ∧ Own w' w.heap.size v (zI L) ∧ Below w.heap.size w w') := fun A9 c9 G w hk hI hl9 hc9 hy hz hg hb ho => by
      have h := HIM.out A9 A2 A3 (zI G) (zI S) (zI R) c9 c2 c3 (m : Int) w hk hI hy hz hl9 HLi2.out HLi3.out (by rw [zI_length, hg]; omega) (by rw [HSz.out]; omega) (by rw [HRz.out]; omega) (by rw [zI_length, hg]; exact hc9) (by rw [HSz.out]; exact hcap2) (by rw [HRz.out]; exact hcap3)
      rw [(hG G hg hb ho).1, (hG G hg hb ho).2, zI_length, hg, HSz.out, HRz.out] at h
      exact h
    have hqL : eqL (zI L) (zI L) = true := by simp [eqL]
    have hqS : eqL (zI S) (zI S) = true := by simp [eqL]
    have HS1 : Hid (∀ (A9 : Option Addr) (c9 : Nat) (w : World), Ints w A9 (zI S) → Ints w A2 (zI S) → Calls Try.prog 17 #[.slice A9 m c9, .slice A2 m c2] w fun e w' => e = .returned (.bool true) ∧ ∃ n, w' = w.drewN n) := fun A9 c9 w h1 h2 => by
      have h := sameInts_any A9 A2 (zI S) (zI S) c9 c2 w h1 h2 (by rw [HSz.out]; omega)
      rw [hqS, HSz.out] at h
      exact h
    have HS2 : Hid (∀ (A9 : Option Addr) (c9 : Nat) (w : World), Ints w A9 (zI L) → Ints w A1 (zI L) → Calls Try.prog 17 #[.slice A9 L.length c9, .slice A1 L.length c1] w fun e w' => e = .returned (.bool true) ∧ ∃ n, w' = w.drewN n) := fun A9 c9 w h1 h2 => by
      have h := sameInts_any A9 A1 (zI L) (zI L) c9 c1 w h1 h2 (by rw [HLz.out]; omega)
      rw [hqL, HLz.out] at h
      exact h
    rw [HLz.out, HSz.out, HRz.out]
    clear hli hpa hmd hG hLb hk hSm HVe hVl HOk HPs hqS
    have hl60 : L.length ≤ 1000000 := by omega
    go_wp2_with (at_builtin; refine app_copy8 w4 L A1 c1 L.length rfl w4.heap.size rfl rfl _ _ rfl rfl rfl HLi1.out HX4.out hl60 ?_)
    intro v9 w9 H9
    have HO9 := Lib.hid H9.out.1
    have HB9 := Lib.hid H9.out.2
    clear H9
    go_wp2_with fail
    go_loopg [77] R.length (fun gk i wr => ∃ (j : Nat) (O : List Nat), j + gk = R.length ∧ i = .int .i64 j ∧ Own wr w4.heap.size v9 (zI O) ∧ O.length = L.length ∧ (∀ c ∈ O, c < 256) ∧ (∀ j, j < L.length → j ∉ R → O.getD j 0 = L.getD j 0) ∧ Below w4.heap.size w4 wr)
    case atStart => exact ⟨0, L, by omega, rfl, HO9.out, rfl, HLb.out, (fun _ _ _ => rfl), HB9.out⟩
    case round =>
      obtain ⟨j, O, hg, rfl, hown, hOl, hOb, hoff, hbel⟩ := hrel
      have HO := Lib.hid hown
      have HBl := Lib.hid hbel
      have HOb := Lib.hid hOb
      have HOf := Lib.hid hoff
      have HOl := Lib.hid hOl
      clear hown hbel hOb hoff hOl HO9 HB9
      by_cases hlt : j < R.length
      · have hji : (j : Int) < (R.length : Int) := by omega
        have HGK : Hid (R.length - j - 1 < gk ∧ j + 1 + (R.length - j - 1) = R.length) := by show _ ∧ _; omega
        obtain ⟨b3, o3, rfl, hc3⟩ := (HZ4.out.below HBl.out).cellN hlt
        have hkk := HKb.out R[j] (List.getElem_mem hlt)
        have HMem : Hid (R[j] ∈ R) := List.getElem_mem hlt
        generalize R[j] = kk at *
        have hkO : kk < O.length := by rw [HOl.out]; exact hkk
        obtain ⟨g, cap, rfl, _, hgl⟩ := own8_block HO.out (by omega)
        obtain ⟨q0, f0, -, -⟩ := own8_at HO.out hkO
        have HPut : Hid (∀ z : Nat, z < 256 → Own (wr.setCell ⟨g, kk, none⟩ (.int .i64 (z : Nat))) w4.heap.size (.slice (some ⟨g, 0, none⟩) O.length cap) (zI (O.set kk z)) ∧ (O.set kk z).length = L.length ∧ (∀ c ∈ O.set kk z, c < 256) ∧ (∀ j, j < L.length → j ∉ R → (O.set kk z).getD j 0 = L.getD j 0) ∧ Below w4.heap.size w4 (wr.setCell ⟨g, kk, none⟩ (.int .i64 (z : Nat)))) := fun z hz => by
          have s1 := (own8_put HO.out (j := kk) (z : Int)).1
          rw [← zI8_set] at s1
          refine ⟨s1, by rw [List.length_set]; exact HOl.out, fun c hc => ?_, fun j hj hn => ?_, HBl.out.setCell hgl _⟩
          · rcases List.mem_or_eq_of_mem_set hc with h | rfl
            · exact HOb.out c h
            · exact hz
          · rw [getD_set8 hkO, if_neg (by rintro rfl; exact hn HMem.out)]
            exact HOf.out j hj hn
        have hki : (kk : Int) < (O.length : Int) := by omega
        generalize O[kk] = y0 at *
        have HByt := Lib.hid (byts_onB8 HB.out (below_more HB4.out HBl.out))
        clear hg HO HBl HOf HOb
        go_wp2_with fail
        refine (numberOfB8 B zb cb _ HByt.out (by omega)).mono ?_
        rintro e w' ⟨⟨nn, rfl, hnn⟩, rfl⟩
        obtain ⟨z, hz, hz2⟩ : ∃ z : Nat, (nn : Int) % 256 = (z : Int) ∧ z < 256 := ⟨nn % 256, by omega, by omega⟩
        clear hnn HByt
        go_wp2_with fail
        go_roundg (R.length - j - 1)
        case measure => exact HGK.out.1
        case rel =>
          obtain ⟨p1, p2, p3, p4, p5⟩ := HPut.out z hz2
          exact ⟨j + 1, _, HGK.out.2, by go_num, p1, p2, p3, p4, p5⟩
      · obtain rfl : j = R.length := by omega
        have hji : ¬ (R.length : Int) < (R.length : Int) := by omega
        obtain ⟨A9, c9, rfl, hcap9, hlie9⟩ := own8_lies HO.out
        have HMd := Lib.hid (HE7.out A9 c9 O wr (hK _ _ HW.out (below_more HB4.out HBl.out)) (own8_ints HO.out) hlie9 (by rw [← HOl.out, ← zI_length O]; exact hcap9) (HY4.out.below HBl.out) (HZ4.out.below HBl.out) HOl.out HOb.out HOf.out)
        rw [zI_length, HOl.out]
        have HBr := Lib.hid (below_more HB4.out HBl.out)
        have HXr := Lib.hid (HX4.out.below HBl.out)
        have HYr := Lib.hid (HY4.out.below HBl.out)
        have HVr := Lib.hid (HV4.out.below HBl.out)
        clear hg HO HBl HOb HOf hcap9 hlie9 HE7
        go_wp2_with fail
        refine HMd.out.mono ?_
        rintro e w10 ⟨v10, rfl, ho10, hb10⟩
        obtain ⟨A10, c10, rfl, hI10⟩ := ho10.form
        have HM10 := Lib.hid hI10
        have HX10 := Lib.hid (HXr.out.below hb10)
        have HY10 := Lib.hid (HYr.out.below hb10)
        have HV10 := Lib.hid (HVr.out.below hb10)
        have HB10 := Lib.hid (below_more HBr.out hb10)
        rw [HLz.out]
        clear ho10 hI10 hb10 HMd HXr HYr HVr HBr
        go_wp2_with fail
        refine (HE8.out w10 (hK _ _ HW.out HB10.out) HX10.out).mono ?_
        rintro e w11 ⟨v11, rfl, ho11, hb11⟩
        obtain ⟨A11, c11, rfl, hI11⟩ := ho11.form
        have HP11 := Lib.hid hI11
        have HM11 := Lib.hid (HM10.out.below hb11)
        have HX11 := Lib.hid (HX10.out.below hb11)
        have HY11 := Lib.hid (HY10.out.below hb11)
        have HV11 := Lib.hid (HV10.out.below hb11)
        have HB11 := Lib.hid (below_more HB10.out hb11)
        rw [HSz.out]
        clear ho11 hI11 hb11 HE8 HM10 HX10 HY10 HV10 HB10
        go_wp2_with fail
        refine (HS1.out A11 c11 w11 HP11.out HY11.out).mono ?_
        rintro e w12 ⟨rfl, n12, rfl⟩
        have hdr12 : Below w11.heap.size w11 (w11.drewN n12) := gDrewN n12
        have HM12 := Lib.hid (HM11.out.below hdr12)
        have HX12 := Lib.hid (HX11.out.below hdr12)
        have HV12 := Lib.hid (HV11.out.below hdr12)
        have HB12 := Lib.hid (below_more HB11.out hdr12)
        clear hdr12 HP11 HM11 HX11 HY11 HV11 HB11
        generalize w11.drewN n12 = w12 at *
        go_wp2_with fail
        refine (HS2.out A10 c10 w12 HM12.out HX12.out).mono ?_
        rintro e w13 ⟨rfl, n13, rfl⟩
        have hdr13 : Below w12.heap.size w12 (w12.drewN n13) := gDrewN n13
        have HX13 := Lib.hid (HX12.out.below hdr13)
        have HV13 := Lib.hid (HV12.out.below hdr13)
        have HB13 := Lib.hid (below_more HB12.out hdr13)
        clear hdr13 HM12 HX12 HV12 HB12
        generalize w12.drewN n13 = w13 at *
        go_wp2_with fail
        refine (HS2.out A4 c4 w13 HV13.out HX13.out).mono ?_
        rintro e w14 ⟨rfl, n14, rfl⟩
        have HBx := Lib.hid (below_more HB13.out (gDrewN n14))
        clear HX13 HV13 HB13
        generalize w13.drewN n14 = w14 at *
        go_wp2_with fail
        refine (drawPar8 B zb cb _ (byts_onB8 HB.out HBx.out)).mono ?_
        rintro e w20 ⟨A20, q20, c20, n2, rfl, hI20, hcap20, hlie20, hl20, hn20, hb20⟩
        have HQ20 := Lib.hid hI20
        have HB20 := Lib.hid (below_more HBx.out hb20)
        clear hI20 hb20 HBx hlie20
        have HE20 := Lib.hid (HIQ.out A20 q20 c20 n2 w20 (hK _ _ HW.out HB20.out) HQ20.out (by omega) hcap20)
        have HS20 := Lib.hid (fun w h => sParityFor_any A20 q20 c20 n2 w h (by omega))
        have hlenF := paI_len q20 n2
        generalize paI q20 n2 = VF at *
        generalize list8 q20 n2 = fo at *
        have hqF : eqL VF VF = true := by simp [eqL]
        go_wp2_with fail
        refine HE20.out.mono ?_
        rintro e w21 ⟨v21, rfl, ho21, hb21⟩
        obtain ⟨A21, c21, rfl, hI21⟩ := ho21.form
        have HX21 := Lib.hid hI21
        have HQ21 := Lib.hid (HQ20.out.below hb21)
        have HB21 := Lib.hid (below_more HB20.out hb21)
        clear ho21 hI21 hb21 HB20 HE20 HQ20
        go_wp2_with fail
        refine (HS20.out w21 HQ21.out).mono ?_
        rintro e w22 ⟨v22, rfl, ho22, hb22⟩
        obtain ⟨A22, c22, rfl, hI22⟩ := ho22.form
        have HY22 := Lib.hid hI22
        have HX22 := Lib.hid (HX21.out.below hb22)
        have HB22 := Lib.hid (below_more HB21.out hb22)
        clear ho22 hI22 hb22 HB21 HX21 HS20 HQ21
        go_wp2_with fail
        refine (drawPlace8 B zb cb _ (byts_onB8 HB.out HB22.out)).mono ?_
        rintro e w23 ⟨a3, n3, k3, rfl, hb23⟩
        have HX23 := Lib.hid (HX22.out.below hb23)
        have HY23 := Lib.hid (HY22.out.below hb23)
        have HB23 := Lib.hid (below_more HB22.out hb23)
        clear hb23 HX22 HY22 HB22
        have HE23 := Lib.hid (HIP.out a3 n3 k3 w23 (hK _ _ HW.out HB23.out))
        have HS23 := Lib.hid (fun w => sPlaceOf_any a3 n3 k3 w)
        generalize plI a3 n3 k3 = vi at *
        generalize plOkB a3 n3 k3 = vo at *
        go_wp2_with fail
        refine HE23.out.mono ?_
        rintro e w24 ⟨rfl, hb24⟩
        have HX24 := Lib.hid (HX23.out.below hb24)
        have HY24 := Lib.hid (HY23.out.below hb24)
        have HB24 := Lib.hid (below_more HB23.out hb24)
        clear hb24 HX23 HY23 HB23 HE23
        go_wp2_with fail
        refine (HS23.out w24).mono ?_
        rintro e w25 ⟨rfl, hb25⟩
        have HX25 := Lib.hid (HX24.out.below hb25)
        have HY25 := Lib.hid (HY24.out.below hb25)
        have HB25 := Lib.hid (below_more HB24.out hb25)
        clear hb25 HX24 HY24 HB24 HS23
        go_wp2_with fail
        refine (sameInts_any A21 A22 VF VF c21 c22 _ HX25.out HY25.out (by omega)).mono ?_
        rintro e w29 ⟨rfl, n29, rfl⟩
        have HB29 := Lib.hid (below_more HB25.out (gDrewN n29))
        go_wp2_with fail
        go_ret
        exact ⟨rfl, HB29.out⟩

set_option maxRecDepth 100000 in
set_option maxHeartbeats 1000000 in
theorem fnMended_law {K : World → Prop} (hK : Stays5 K)
    (hM : ∀ (A B C : Option Addr) (zs ps ks : List Int) (ca cb cc : Nat) (n : Int) (w : World), K w → Ints w A zs → Ints w B ps → Ints w C ks → Lies8 A ca → Lies8 B cb → Lies8 C cc → zs.length ≤ 1048576 → ps.length ≤ 1048576 → ks.length ≤ 1048576 → zs.length ≤ ca → ps.length ≤ cb → ks.length ≤ cc → Calls Try.prog 27 #[.slice A zs.length ca, .int .i64 n, .slice B ps.length cb, .slice C ks.length cc] w fun e w' => ∃ v, e = .returned (.tuple #[v, .bool (mdOkB zs n ps ks)]) ∧ Own w' w.heap.size v (mdI zs n ps ks) ∧ Below w.heap.size w w')
    (hQ : ∀ (A : Option Addr) (zs : List Int) (ca : Nat) (n : Int) (w : World), K w → Ints w A zs → zs.length ≤ 1048576 → zs.length ≤ ca → Calls Try.prog 29 #[.slice A zs.length ca, .int .i64 n] w fun e w' => ∃ v, e = .returned (.tuple #[v, .bool (list8 zs n)]) ∧ Own w' w.heap.size v (paI zs n) ∧ Below w.heap.size w w')
    (hP : ∀ (a n k : Int) (w : World), K w → Calls Try.prog 18 #[.int .i64 a, .int .i64 n, .int .i64 k] w fun e w' => e = .returned (.tuple #[.int .i64 (plI a n k), .bool (plOkB a n k)]) ∧ Below w.heap.size w w')
    (A : Option Addr) (za : List Int) (ca : Nat) (B : Option Addr) (zb : List Int) (cb : Nat) (w : World) (hw : K w) (ha : Byts w w.heap.size A za) (hb : Byts w w.heap.size B zb) (hla : za.length ≤ 140737488355328) (hlb : zb.length ≤ 140737488355328) :
    Calls Try.prog 4 #[.slice A za.length ca, .slice B zb.length cb] w fun e w' => e = .returned (.bool true) ∧ Below w.heap.size w w' := by
  by_cases hl : za.length + zb.length ≤ 1048576
  · exact fnMended_small hK hM hQ hP A za ca B zb cb w hw ha hb hl
  · have hli : (1048576 : Int) < (za.length : Int) + (zb.length : Int) := by omega
    clear hM hQ hP ha hb
    go_enter Try.func4, Try.ntmps4
    go_wp2_with fail
    go_ret
    exact ⟨rfl, Below.refl _ _⟩
end Go.Proofs.Ytipcdaiobfgkeaa
