/-
  Laws of chapter 4, walked, whatever the program's own texts are: FnPieces.
-/
import Derived.Test.YthabkkboodhbmaaVL
namespace Go.Proofs.Ythabkkboodhbmaa
open Go.RowKit

theorem byts_on {w w' : World} {A : Option Addr} {zs : List Int} (h : Byts w w.heap.size A zs) (hb : Below w.heap.size w w') : Byts w' w'.heap.size A zs :=
  ⟨h.1, fun hne => by
    obtain ⟨b, o, e, hlt, hc⟩ := h.2 hne
    exact ⟨b, o, e, Nat.lt_of_lt_of_le hlt hb.size, fun j hj => (hb.cell hlt).trans (hc j hj)⟩⟩

theorem part_sums {a b : Int} (h : partOkB a b = true) : (0 ≤ partM a b ∧ partM a b ≤ 100) ∧ (0 ≤ partR a b ∧ partR a b ≤ 100) ∧ (0 ≤ partG a b ∧ partG a b ≤ 200) ∧ (0 ≤ partS a b ∧ partS a b ≤ 100) ∧ partM a b * partG a b + partR a b * partS a b = a ∧ partM a b + partR a b = b ∧ partG a b - partS a b ≤ 1 ∧ partS a b ≤ partG a b := by
  obtain ⟨m, n, rfl, rfl, h1, h2, h3⟩ := part_nat h
  simp only [partM, partR, partG, partS, h, if_true, Int.toNat_natCast]
  have hd := Nat.div_add_mod m n
  have hm := Nat.mod_lt m (show 0 < n by omega)
  have hS : m / n ≤ m := Nat.div_le_self _ _
  have hG : (m + n - 1) / n = m / n + (if m % n = 0 then 0 else 1) := by
    split
    · rename_i h0
      rw [show m + n - 1 = (n - 1) + n * (m / n) by omega, Nat.add_mul_div_left _ _ (by omega), Nat.div_eq_of_lt (by omega)]; omega
    · rename_i h0
      rw [show m + n - 1 = (m % n - 1) + n * (m / n + 1) by rw [Nat.mul_add]; omega, Nat.add_mul_div_left _ _ (by omega), Nat.div_eq_of_lt (by omega)]; omega
  have hsum : (m % n) * ((m + n - 1) / n) + (n - m % n) * (m / n) = m := by
    rw [hG]
    have e : (m % n) * (m / n) + (n - m % n) * (m / n) = n * (m / n) := by rw [← Nat.add_mul]; congr 1; omega
    split
    · rename_i h0
      rw [h0] at e ⊢; omega
    · rw [Nat.mul_add]; omega
  have hle : (m + n - 1) / n ≤ m / n + 1 ∧ m / n ≤ (m + n - 1) / n := by rw [hG]; split <;> omega
  clear hG h hd
  generalize m / n = S at *
  generalize m % n = M at *
  generalize (m + n - 1) / n = G at *
  refine ⟨by omega, by omega, by omega, by omega, ?_, by omega, by omega, by omega⟩
  rw [← Int.natCast_mul, ← Int.natCast_mul, ← Int.natCast_add, hsum]

set_option maxRecDepth 100000 in
set_option maxHeartbeats 4000000 in
theorem fnPieces_small {K : World → Prop} (hK : Stays K)
    (hP : ∀ (p b : Int) (w : World), K w → Calls Try.prog 28 #[.int .i64 p, .int .i64 b] w fun e w' => e = .returned (.tuple #[.int .i64 (partG p b), .int .i64 (partS p b), .int .i64 (partM p b), .int .i64 (partR p b), .bool (partOkB p b)]) ∧ Below w.heap.size w w')
    (hI : ∀ (s : ByteArray) (w : World), s.size ≤ 1048576 → K w → Calls Try.prog 23 #[.string s] w fun e w' => ∃ v, e = .returned (.tuple #[v, .bool (thingB s)]) ∧ Own w' w.heap.size v (piecesI s) ∧ Below w.heap.size w w')
    (hT : ∀ (A : Option Addr) (zs : List Int) (ca : Nat) (n : Int) (w : World), K w → Ints w A zs → zs.length ≤ 1048576 → zs.length ≤ ca → Calls Try.prog 26 #[.slice A zs.length ca, .int .i64 n] w fun e w' => e = .returned (.tuple #[.string (textI zs n), .bool (textOkB zs n)]) ∧ Below w.heap.size w w')
    (hQ : ∀ (s : ByteArray) (k : Int) (w : World), s.size ≤ 1048576 → K w → Calls Try.prog 33 #[.string s, .int .i64 k] w fun e w' => e = .returned (.tuple #[.int .i64 (pieceI s k), .bool (pieceOkB s k)]) ∧ Below w.heap.size w w')
    (B : Option Addr) (zb : List Int) (cb : Nat) (A : Option Addr) (za : List Int) (ca : Nat) (w : World) (hw : K w) (ha : Byts w w.heap.size A za) (hb : Byts w w.heap.size B zb) (hl : za.length + zb.length ≤ 1048576) :
    Calls Try.prog 4 #[.slice A za.length ca, .slice B zb.length cb] w fun e w' => e = .returned (.bool true) ∧ Below w.heap.size w w' := by
  have HA := Lib.hid ha
  have HB := Lib.hid hb
  have HW := Lib.hid hw
  have HIP := Lib.hid hP
  have HII := Lib.hid hI
  have HIT := Lib.hid hT
  have HIQ := Lib.hid hQ
  clear ha hb hw hP hI hT hQ
  go_enter Try.func4, Try.ntmps4
  go_wp2_with fail
  refine (drawPieces A za ca _ HA.out).mono ?_
  rintro e w1 ⟨s, rfl, hs, hb1⟩
  have HB1 := Lib.hid hb1
  have hlen := piecesI_len s
  have HTh := Lib.hid (@text_thing s)
  clear hb1
  go_wp2_with fail
  refine (HII.out s w1 (by omega) (hK _ _ HW.out HB1.out)).mono ?_
  rintro e w2 ⟨v2, rfl, ho2, hb2⟩
  obtain ⟨A2, c2, rfl, hcap2, hI2⟩ : ∃ A' c', v2 = .slice A' (piecesI s).length c' ∧ (piecesI s).length ≤ c' ∧ Ints w2 A' (piecesI s) := by
    obtain ⟨A', c', e', hI'⟩ := ho2.form
    refine ⟨A', c', e', ?_, hI'⟩
    rcases ho2.2 with ⟨e0, hn⟩ | ⟨g, cap, cur, e0, _, _, hle, _⟩
    · rw [hn]; exact Nat.zero_le _
    · rw [e'] at e0; injection e0 with _ _ e3; rw [e3]; exact hle
  have HX2 := Lib.hid hI2
  have HB2 := Lib.hid (jMore HB1.out hb2)
  clear hI2 ho2 hb2 HB1
  have HS := Lib.hid (sPiecesOf_any s w2)
  have HT2 := Lib.hid (fun w hk ha => HIT.out A2 (piecesI s) c2 (s.size : Int) w hk ha (by omega) hcap2)
  generalize piecesI s = V at *
  have hq : eqL V V = true := by simp [eqL]
  go_wp2_with fail
  refine HS.out.mono ?_
  rintro e w3 ⟨v3, rfl, ho3, hb3⟩
  obtain ⟨A3, c3, rfl, hI3⟩ := ho3.form
  have HX3 := Lib.hid hI3
  have HX2' := Lib.hid (HX2.out.below hb3)
  have HB3 := Lib.hid (jMore HB2.out hb3)
  clear hI3 ho3 hb3 HB2 HX2 HS
  cases hok : thingB s
  · go_wp2_with fail
    refine (sameInts_any A2 A3 V V c2 c3 _ HX2'.out HX3.out (by omega)).mono ?_
    rintro e w4 ⟨rfl, n4, rfl⟩
    have HBx := Lib.hid (jMore HB3.out (jDrewN n4))
    have HX2x := Lib.hid (HX2'.out.below (jDrewN n4))
    clear HB3
    generalize w3.drewN n4 = w4 at *
    clear HX2x HX3 HX2'
    go_wp2_with fail
    refine (drawPartOf B zb cb _ (byts_on HB.out HBx.out)).mono ?_
    rintro e w5 ⟨pa, pb, rfl, hb5⟩
    have HB5 := Lib.hid (jMore HBx.out hb5)
    clear hb5 HBx
    have HP5 := Lib.hid (HIP.out pa pb w5 (hK _ _ HW.out HB5.out))
    have HPS := Lib.hid (fun w => sPart_any pa pb w)
    have HSum := Lib.hid (@part_sums pa pb)
    generalize partG pa pb = x1 at *
    generalize partS pa pb = x2 at *
    generalize partM pa pb = x3 at *
    generalize partR pa pb = x4 at *
    generalize partOkB pa pb = x5 at *
    go_wp2_with fail
    refine HP5.out.mono ?_
    rintro e w6 ⟨rfl, hb6⟩
    have HB6 := Lib.hid (jMore HB5.out hb6)
    clear hb6 HB5 HP5
    go_wp2_with fail
    refine (HPS.out w6).mono ?_
    rintro e w7 ⟨rfl, rfl⟩
    clear HPS
    go_wp2_with fail
    refine (drawText B zb cb _ (byts_on HB.out HB6.out)).mono ?_
    rintro e w8 ⟨v8, l, n, rfl, ho8, hl8, hb8⟩
    obtain ⟨A8, c8, rfl, hcap8, hI8⟩ : ∃ A' c', v8 = .slice A' l.length c' ∧ l.length ≤ c' ∧ Ints w8 A' l := by
      obtain ⟨A', c', e', hI'⟩ := ho8.form
      refine ⟨A', c', e', ?_, hI'⟩
      rcases ho8.2 with ⟨e0, hn⟩ | ⟨g, cap, cur, e0, _, _, hle, _⟩
      · rw [hn]; exact Nat.zero_le _
      · rw [e'] at e0; injection e0 with _ _ e3; rw [e3]; exact hle
    have HX8 := Lib.hid hI8
    have HB8 := Lib.hid (jMore HB6.out hb8)
    clear hI8 ho8 hb8 HB6
    have HT8 := Lib.hid (HIT.out A8 l c8 n w8 (hK _ _ HW.out HB8.out) HX8.out (by omega) hcap8)
    have HS8 := Lib.hid (fun w ha => sTextOf_any A8 l c8 n w ha (by omega))
    generalize textI l n = t1 at *
    generalize textOkB l n = t2 at *
    go_wp2_with fail
    refine HT8.out.mono ?_
    rintro e w9 ⟨rfl, hb9⟩
    have HX9 := Lib.hid (HX8.out.below hb9)
    have HB9 := Lib.hid (jMore HB8.out hb9)
    clear hb9 HB8 HT8 HX8
    go_wp2_with fail
    refine (HS8.out w9 HX9.out).mono ?_
    rintro e w10 ⟨rfl, hb10⟩
    have HB10 := Lib.hid (jMore HB9.out hb10)
    clear hb10 HB9 HS8 HX9
    go_wp2_with fail
    refine (drawPieceAt B zb cb _ (byts_on HB.out HB10.out)).mono ?_
    rintro e w11 ⟨u, k, rfl, hu, hb11⟩
    have HB11 := Lib.hid (jMore HB10.out hb11)
    clear hb11 HB10
    have HQ := Lib.hid (HIQ.out u k w11 (by omega) (hK _ _ HW.out HB11.out))
    have HSQ := Lib.hid (fun w => sPieceAt_any u k w)
    generalize pieceI u k = q1 at *
    generalize pieceOkB u k = q2 at *
    go_wp2_with fail
    refine HQ.out.mono ?_
    rintro e w12 ⟨rfl, hb12⟩
    have HB12 := Lib.hid (jMore HB11.out hb12)
    clear hb12 HB11 HQ
    go_wp2_with fail
    refine (HSQ.out w12).mono ?_
    rintro e w13 ⟨rfl, hb13⟩
    have HB13 := Lib.hid (jMore HB12.out hb13)
    clear hb13 HB12 HSQ
    cases x5
    · go_wp2_with fail
      go_ret
      exact ⟨rfl, HB13.out⟩
    · obtain ⟨⟨i1, i2⟩, ⟨i3, i4⟩, ⟨i5, i6⟩, ⟨i7, i8⟩, e1, e2, e3, e4⟩ := HSum.out rfl
      have j1 : 0 ≤ x3 * x1 ∧ x3 * x1 ≤ 20000 := ⟨Int.mul_nonneg i1 i5, Int.le_trans (Int.mul_le_mul i2 i6 i5 (by omega)) (by omega)⟩
      have j2 : 0 ≤ x4 * x2 ∧ x4 * x2 ≤ 10000 := ⟨Int.mul_nonneg i3 i7, Int.le_trans (Int.mul_le_mul i4 i8 i7 (by omega)) (by omega)⟩
      go_wp2_with fail
      go_ret
      refine ⟨?_, HB13.out⟩
      rfl
  · obtain ⟨th1, th2⟩ := HTh.out hok
    have HT3 := Lib.hid (HT2.out)
    rw [th1, th2] at HT3
    clear th1 th2 HT2
    go_wp2_with fail
    refine (sameInts_any A2 A3 V V c2 c3 _ HX2'.out HX3.out (by omega)).mono ?_
    rintro e w4 ⟨rfl, n4, rfl⟩
    have HB4 := Lib.hid (jMore HB3.out (jDrewN n4))
    have HX2x := Lib.hid (HX2'.out.below (jDrewN n4))
    clear HB3
    generalize w3.drewN n4 = w4 at *
    go_wp2_with fail
    refine (HT3.out w4 (hK _ _ HW.out HB4.out) HX2x.out).mono ?_
    rintro e wx ⟨rfl, hbx⟩
    have HBx := Lib.hid (jMore HB4.out hbx)
    clear hbx HB4
    clear HX2x HX3 HX2'
    go_wp2_with fail
    refine (drawPartOf B zb cb _ (byts_on HB.out HBx.out)).mono ?_
    rintro e w5 ⟨pa, pb, rfl, hb5⟩
    have HB5 := Lib.hid (jMore HBx.out hb5)
    clear hb5 HBx
    have HP5 := Lib.hid (HIP.out pa pb w5 (hK _ _ HW.out HB5.out))
    have HPS := Lib.hid (fun w => sPart_any pa pb w)
    have HSum := Lib.hid (@part_sums pa pb)
    generalize partG pa pb = x1 at *
    generalize partS pa pb = x2 at *
    generalize partM pa pb = x3 at *
    generalize partR pa pb = x4 at *
    generalize partOkB pa pb = x5 at *
    go_wp2_with fail
    refine HP5.out.mono ?_
    rintro e w6 ⟨rfl, hb6⟩
    have HB6 := Lib.hid (jMore HB5.out hb6)
    clear hb6 HB5 HP5
    go_wp2_with fail
    refine (HPS.out w6).mono ?_
    rintro e w7 ⟨rfl, rfl⟩
    clear HPS
    go_wp2_with fail
    refine (drawText B zb cb _ (byts_on HB.out HB6.out)).mono ?_
    rintro e w8 ⟨v8, l, n, rfl, ho8, hl8, hb8⟩
    obtain ⟨A8, c8, rfl, hcap8, hI8⟩ : ∃ A' c', v8 = .slice A' l.length c' ∧ l.length ≤ c' ∧ Ints w8 A' l := by
      obtain ⟨A', c', e', hI'⟩ := ho8.form
      refine ⟨A', c', e', ?_, hI'⟩
      rcases ho8.2 with ⟨e0, hn⟩ | ⟨g, cap, cur, e0, _, _, hle, _⟩
      · rw [hn]; exact Nat.zero_le _
      · rw [e'] at e0; injection e0 with _ _ e3; rw [e3]; exact hle
    have HX8 := Lib.hid hI8
    have HB8 := Lib.hid (jMore HB6.out hb8)
    clear hI8 ho8 hb8 HB6
    have HT8 := Lib.hid (HIT.out A8 l c8 n w8 (hK _ _ HW.out HB8.out) HX8.out (by omega) hcap8)
    have HS8 := Lib.hid (fun w ha => sTextOf_any A8 l c8 n w ha (by omega))
    generalize textI l n = t1 at *
    generalize textOkB l n = t2 at *
    go_wp2_with fail
    refine HT8.out.mono ?_
    rintro e w9 ⟨rfl, hb9⟩
    have HX9 := Lib.hid (HX8.out.below hb9)
    have HB9 := Lib.hid (jMore HB8.out hb9)
    clear hb9 HB8 HT8 HX8
    go_wp2_with fail
    refine (HS8.out w9 HX9.out).mono ?_
    rintro e w10 ⟨rfl, hb10⟩
    have HB10 := Lib.hid (jMore HB9.out hb10)
    clear hb10 HB9 HS8 HX9
    go_wp2_with fail
    refine (drawPieceAt B zb cb _ (byts_on HB.out HB10.out)).mono ?_
    rintro e w11 ⟨u, k, rfl, hu, hb11⟩
    have HB11 := Lib.hid (jMore HB10.out hb11)
    clear hb11 HB10
    have HQ := Lib.hid (HIQ.out u k w11 (by omega) (hK _ _ HW.out HB11.out))
    have HSQ := Lib.hid (fun w => sPieceAt_any u k w)
    generalize pieceI u k = q1 at *
    generalize pieceOkB u k = q2 at *
    go_wp2_with fail
    refine HQ.out.mono ?_
    rintro e w12 ⟨rfl, hb12⟩
    have HB12 := Lib.hid (jMore HB11.out hb12)
    clear hb12 HB11 HQ
    go_wp2_with fail
    refine (HSQ.out w12).mono ?_
    rintro e w13 ⟨rfl, hb13⟩
    have HB13 := Lib.hid (jMore HB12.out hb13)
    clear hb13 HB12 HSQ
    cases x5
    · go_wp2_with fail
      go_ret
      exact ⟨rfl, HB13.out⟩
    · obtain ⟨⟨i1, i2⟩, ⟨i3, i4⟩, ⟨i5, i6⟩, ⟨i7, i8⟩, e1, e2, e3, e4⟩ := HSum.out rfl
      have j1 : 0 ≤ x3 * x1 ∧ x3 * x1 ≤ 20000 := ⟨Int.mul_nonneg i1 i5, Int.le_trans (Int.mul_le_mul i2 i6 i5 (by omega)) (by omega)⟩
      have j2 : 0 ≤ x4 * x2 ∧ x4 * x2 ≤ 10000 := ⟨Int.mul_nonneg i3 i7, Int.le_trans (Int.mul_le_mul i4 i8 i7 (by omega)) (by omega)⟩
      go_wp2_with fail
      go_ret
      refine ⟨?_, HB13.out⟩
      rfl

set_option maxRecDepth 100000 in
theorem fnPieces_law {K : World → Prop} (hK : Stays K)
    (hP : ∀ (p b : Int) (w : World), K w → Calls Try.prog 28 #[.int .i64 p, .int .i64 b] w fun e w' => e = .returned (.tuple #[.int .i64 (partG p b), .int .i64 (partS p b), .int .i64 (partM p b), .int .i64 (partR p b), .bool (partOkB p b)]) ∧ Below w.heap.size w w')
    (hI : ∀ (s : ByteArray) (w : World), s.size ≤ 1048576 → K w → Calls Try.prog 23 #[.string s] w fun e w' => ∃ v, e = .returned (.tuple #[v, .bool (thingB s)]) ∧ Own w' w.heap.size v (piecesI s) ∧ Below w.heap.size w w')
    (hT : ∀ (A : Option Addr) (zs : List Int) (ca : Nat) (n : Int) (w : World), K w → Ints w A zs → zs.length ≤ 1048576 → zs.length ≤ ca → Calls Try.prog 26 #[.slice A zs.length ca, .int .i64 n] w fun e w' => e = .returned (.tuple #[.string (textI zs n), .bool (textOkB zs n)]) ∧ Below w.heap.size w w')
    (hQ : ∀ (s : ByteArray) (k : Int) (w : World), s.size ≤ 1048576 → K w → Calls Try.prog 33 #[.string s, .int .i64 k] w fun e w' => e = .returned (.tuple #[.int .i64 (pieceI s k), .bool (pieceOkB s k)]) ∧ Below w.heap.size w w')
    (B : Option Addr) (zb : List Int) (cb : Nat) (A : Option Addr) (za : List Int) (ca : Nat) (w : World) (hw : K w) (ha : Byts w w.heap.size A za) (hb : Byts w w.heap.size B zb) (hla : za.length ≤ 140737488355328) (hlb : zb.length ≤ 140737488355328) :
    Calls Try.prog 4 #[.slice A za.length ca, .slice B zb.length cb] w fun e w' => e = .returned (.bool true) ∧ Below w.heap.size w w' := by
  by_cases hl : za.length + zb.length ≤ 1048576
  · exact fnPieces_small hK hP hI hT hQ B zb cb A za ca w hw ha hb hl
  · have hl' : (1048576 : Int) < (za.length : Int) + (zb.length : Int) := by omega
    clear hP hI hT hQ
    go_enter Try.func4, Try.ntmps4
    go_wp2_with fail
    go_ret
    exact ⟨rfl, Below.refl _ _⟩
end Go.Proofs.Ythabkkboodhbmaa
