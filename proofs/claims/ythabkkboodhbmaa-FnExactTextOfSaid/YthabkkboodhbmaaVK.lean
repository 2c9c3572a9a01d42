/-
  Laws of chapter 4, walked, whatever the program's own texts are: PiecesOf, CutThing.
-/
import Derived.Test.YthabkkboodhbmaaVJ
namespace Go.Proofs.Ythabkkboodhbmaa
open Go.RowKit

theorem own_ints {w : World} {base : Nat} {A : Option Addr} {n c : Nat} {zs : List Int} (h : Own w base (.slice A n c) zs) : Ints w A zs := by
  obtain ⟨A', c', e, hI⟩ := h.form
  injection e with e1
  subst e1; exact hI
theorem ownB_blks {w : World} {base : Nat} {A : Option Addr} {n c : Nat} {L : List (Int × Value × List Int)} (h : OwnB w base (.slice A n c) L) : Blks w A (blks L) := by
  obtain ⟨A', c', e, hI⟩ := h.form
  injection e with e1
  subst e1; exact hI

set_option maxRecDepth 100000 in
set_option maxHeartbeats 2000000 in
theorem piecesOf_law {K : World → Prop} (hK : Stays K) (hI : ∀ (s : ByteArray) (w : World), s.size ≤ 1048576 → K w → Calls Try.prog 23 #[.string s] w fun e w' => ∃ v, e = .returned (.tuple #[v, .bool (thingB s)]) ∧ Own w' w.heap.size v (piecesI s) ∧ Below w.heap.size w w')
    (s : ByteArray) (w : World) (hw : K w) : Calls Try.prog 6 #[.string s] w fun e w' => e = .returned (.bool true) ∧ Below w.heap.size w w' := by
  by_cases hl : s.size ≤ 1048576
  · have hli : ¬ (1048576 : Int) < (s.size : Int) := by omega
    have hlen := piecesI_len s
    have HI := Lib.hid (fun w => hI s w hl)
    have HS := Lib.hid (sPiecesOf_any s w)
    have HW := Lib.hid hw
    clear hI hw
    generalize piecesI s = V at *
    generalize thingB s = b at *
    have hq : eqL V V = true := by simp [eqL]
    go_enter Try.func6, Try.ntmps6
    go_wp2_with fail
    refine HS.out.mono ?_
    rintro e w1 ⟨v1, rfl, ho1, hb1⟩
    obtain ⟨A1, c1, rfl, _⟩ := ho1.form
    have HO1 := Lib.hid ho1
    have HB1 := Lib.hid hb1
    clear ho1 hb1 HS
    go_wp2_with fail
    refine (HI.out w1 (hK _ _ HW.out HB1.out)).mono ?_
    rintro e w2 ⟨v2, rfl, ho2, hb2⟩
    obtain ⟨A2, c2, rfl, _⟩ := ho2.form
    have HO2 := Lib.hid ho2
    have HO1' := Lib.hid (HO1.out.below hb2)
    have HB2 := Lib.hid (jMore HB1.out hb2)
    have hs12 := HB1.out.size
    have HL1 := Lib.hid (fun k hk => (HO1.out.lt k hk).2)
    have HG2 := Lib.hid (fun k hk => (ho2.lt k hk).1)
    clear ho2 hb2 HO1 HB1
    go_wp2_with fail
    refine (eqInts_any A2 A1 V V c2 c1 _ (own_ints HO2.out) (own_ints HO1'.out) (by omega)).mono ?_
    rintro e w3 ⟨rfl, n3, rfl⟩
    have hb3 : Below w2.heap.size w2 (w2.drewN n3) := jDrewN n3
    have HO3 := Lib.hid (HO2.out.below hb3)
    have HO1 := Lib.hid (HO1'.out.below hb3)
    have HB3 := Lib.hid (jMore HB2.out hb3)
    clear hb3 HO2 HO1' HB2
    generalize w2.drewN n3 = w3 at *
    go_wp2_with fail
    refine (markInts_any _ V _ 1 _ HO3.out (by omega) (by omega) (by omega)).mono ?_
    rintro e w4 ⟨rfl, ho4, hg4⟩
    have hml := marks_length 1 V.length
    have HO4 := Lib.hid ho4
    have HO1' : Hid (Own w4 w.heap.size (.slice A1 V.length c1) V) := HO1.out.kept hg4 (by
      cases hv : (Value.slice A1 V.length c1).ownBlock with
      | none => exact Or.inl rfl
      | some k =>
        refine Or.inr fun e => ?_
        have h1 := HL1.out k hv
        have h2 := HG2.out k e.symm
        omega)
    have HB4 : Hid (Below w.heap.size w w4) := HB3.out.grown hg4 HB3.out.size (fun k hk => Nat.le_trans hs12 (HG2.out k hk))
    clear ho4 hg4 HO3 HO1 HB3
    go_wp2_with fail
    refine (heldInts_any A2 1 V.length c2 _ (own_ints HO4.out) (by omega) (by omega) (by omega)).mono ?_
    rintro e w5 ⟨rfl, rfl⟩
    go_wp2_with fail
    refine (HI.out w4 (hK _ _ HW.out HB4.out)).mono ?_
    rintro e w6 ⟨v6, rfl, ho6, hb6⟩
    obtain ⟨A6, c6, rfl, _⟩ := ho6.form
    have HO6 := Lib.hid ho6
    have HO1 := Lib.hid (HO1'.out.below hb6)
    have HO4' := Lib.hid (HO4.out.below hb6)
    have HB6 := Lib.hid (jMore HB4.out hb6)
    clear ho6 hb6 HO1' HO4 HB4
    go_wp2_with fail
    refine (eqInts_any A6 A1 V V c6 c1 _ (own_ints HO6.out) (own_ints HO1.out) (by omega)).mono ?_
    rintro e w7 ⟨rfl, n7, rfl⟩
    have hb7 : Below w6.heap.size w6 (w6.drewN n7) := jDrewN n7
    have HO4 := Lib.hid (HO4'.out.below hb7)
    have HB7 := Lib.hid (jMore HB6.out hb7)
    clear hb7 HO4' HB6
    generalize w6.drewN n7 = w7 at *
    go_wp2_with fail
    refine (heldInts_any A2 1 V.length c2 _ (own_ints HO4.out) (by omega) (by omega) (by omega)).mono ?_
    rintro e w8 ⟨rfl, rfl⟩
    go_wp2_with fail
    go_ret
    exact ⟨rfl, HB7.out⟩
  · have hli : (1048576 : Int) < (s.size : Int) := by omega
    clear hI
    go_enter Try.func6, Try.ntmps6
    go_wp2_with fail
    go_ret
    exact ⟨rfl, Below.refl _ _⟩

set_option maxRecDepth 100000 in
set_option maxHeartbeats 2000000 in
theorem cutThing_law {K : World → Prop} (hK : Stays K) (hI : ∀ (s : ByteArray) (w : World), s.size ≤ 1048576 → K w → Calls Try.prog 13 #[.string s] w fun e w' => ∃ v L, e = .returned (.tuple #[v, .bool (thingB s)]) ∧ OwnB w' w.heap.size v L ∧ blks L = cutTI s ∧ Below w.heap.size w w')
    (s : ByteArray) (w : World) (hw : K w) : Calls Try.prog 8 #[.string s] w fun e w' => e = .returned (.bool true) ∧ Below w.heap.size w w' := by
  by_cases hl : s.size ≤ 1048576
  · have hli : ¬ (1048576 : Int) < (s.size : Int) := by omega
    obtain ⟨hV3, hVp⟩ := cutTI_bd s
    have HVp := Lib.hid hVp
    have HI := Lib.hid (fun w => hI s w hl)
    have HS := Lib.hid (sCutThing_any s w)
    have HW := Lib.hid hw
    clear hI hw hVp
    generalize cutTI s = V at *
    generalize thingB s = b at *
    have hq := eqBs_self V
    have HLen : Hid (∀ L : List (Int × Value × List Int), blks L = V → L.length = V.length ∧ ∀ p ∈ L, p.2.2.length ≤ 1000) := fun L hL =>
      ⟨by rw [← hL, blks_length], fun p hp => (HVp.out (p.1, p.2.2) (by rw [← hL]; exact List.mem_map.2 ⟨p, hp, rfl⟩)).2.2⟩
    have HV2 : Hid (∀ p ∈ V, p.2.length ≤ 1048576) := fun p hp => Nat.le_trans (HVp.out p hp).2.2 (by omega)
    clear HVp
    go_enter Try.func8, Try.ntmps8
    go_wp2_with fail
    refine HS.out.mono ?_
    rintro e w1 ⟨v1, L1, rfl, ho1, hbl1, hb1⟩
    obtain ⟨A1, c1, rfl, hB1⟩ := ho1.form
    have hl1 := (HLen.out L1 hbl1).1
    rw [hbl1] at hB1
    rw [hl1] at ho1 ⊢
    have HO1 := Lib.hid ho1
    have HX1 := Lib.hid hB1
    have HB1 := Lib.hid hb1
    have HBl1 := Lib.hid hbl1
    clear ho1 hb1 HS hB1 hbl1 hl1
    go_wp2_with fail
    refine (HI.out w1 (hK _ _ HW.out HB1.out)).mono ?_
    rintro e w2 ⟨v2, L2, rfl, ho2, hbl2, hb2⟩
    obtain ⟨A2, c2, rfl, hB2⟩ := ho2.form
    have hl2 := HLen.out L2 hbl2
    have HL2 := Lib.hid hl2
    rw [hbl2] at hB2
    rw [hl2.1] at ho2 ⊢
    have HO2 := Lib.hid ho2
    have HX2 := Lib.hid hB2
    have HC2 := Lib.hid hb2
    have hs12 := HB1.out.size
    have hs2 := hb2.size
    clear ho2 hb2 hB2 hbl2 hl2 HO1
    go_wp2_with fail
    refine (eqBlockS_any A2 A1 V V c2 c1 _ HX2.out (HX1.out.below HC2.out) (by omega) HV2.out).mono ?_
    rintro e w3 ⟨rfl, hb3⟩
    have HO3 := Lib.hid (HO2.out.below hb3)
    have HC3 := Lib.hid (jMore HC2.out hb3)
    have hs3 := hb3.size
    clear hb3 HO2 HX2 HC2
    go_wp2_with fail
    refine (markBlockS_any _ L2 w1.heap.size 1 _ HO3.out (by omega) (by have := HL2.out.1; omega) HL2.out.2 (by omega) (by omega)).mono ?_
    rintro e w4 ⟨rfl, ho4, hb4⟩
    have HX4 : Hid (Blks w4 A2 (blks (markL 1 L2))) := ownB_blks ho4
    have HC4 : Hid (Below w1.heap.size w1 w4) := HC3.out.trans hb4
    clear ho4 hb4 HO3 HC3
    have HH : Hid (∀ w', Blks w' A2 (blks (markL 1 L2)) → Calls Try.prog 41 #[.slice A2 V.length c2, .int .i64 1] w' fun e w'' => e = .returned (.int .i64 (markE 1 L2)) ∧ w' = w'') := fun w' hx => by
      have := heldBlockS_any A2 L2 c2 1 w' hx (by have := HL2.out.1; omega) HL2.out.2 (by omega) (by omega)
      rwa [HL2.out.1] at this
    have hm : ¬ markE 1 L2 < 0 := by
      have := (markE_bd 1 L2 HL2.out.2).1
      omega
    generalize markE 1 L2 = M at *
    go_wp2_with fail
    refine (HH.out w4 HX4.out).mono ?_
    rintro e w5 ⟨rfl, rfl⟩
    go_wp2_with fail
    refine (HI.out w4 (hK _ _ HW.out (jMore HB1.out HC4.out))).mono ?_
    rintro e w6 ⟨v6, L6, rfl, ho6, hbl6, hb6⟩
    obtain ⟨A6, c6, rfl, hB6⟩ := ho6.form
    have hl6 := HLen.out L6 hbl6
    rw [hbl6] at hB6
    rw [hl6.1] at ho6 ⊢
    have HX6 := Lib.hid hB6
    have HX4' := Lib.hid (HX4.out.below hb6)
    have HC6 := Lib.hid (jMore HC4.out hb6)
    clear ho6 hb6 hB6 hbl6 hl6 HX4 HC4
    go_wp2_with fail
    refine (eqBlockS_any A6 A1 V V c6 c1 _ HX6.out (HX1.out.below HC6.out) (by omega) HV2.out).mono ?_
    rintro e w7 ⟨rfl, hb7⟩
    have HX4 := Lib.hid (HX4'.out.below hb7)
    have HC7 := Lib.hid (jMore HC6.out hb7)
    clear hb7 HX4' HC6
    go_wp2_with fail
    refine (HH.out w7 HX4.out).mono ?_
    rintro e w8 ⟨rfl, rfl⟩
    go_wp2_with fail
    go_ret
    exact ⟨rfl, jMore HB1.out HC7.out⟩
  · have hli : (1048576 : Int) < (s.size : Int) := by omega
    clear hI
    go_enter Try.func8, Try.ntmps8
    go_wp2_with fail
    go_ret
    exact ⟨rfl, Below.refl _ _⟩
end Go.Proofs.Ythabkkboodhbmaa
