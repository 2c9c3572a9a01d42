/-
  FnParts, walked, whatever the program's own texts are.
-/
import Derived.Test.YtchpcbbnnbaiaaaDoorVP
namespace Go.Proofs.YtchpcbbnnbaiaaaDoor
open Go.RowKit

theorem byts_on5 {w w' : World} {A : Option Addr} {zs : List Int} (h : Byts w w.heap.size A zs) (hb : Below w.heap.size w w') : Byts w' w'.heap.size A zs :=
  ⟨h.1, fun hne => by
    obtain ⟨b, o, e, hlt, hc⟩ := h.2 hne
    exact ⟨b, o, e, Nat.lt_of_lt_of_le hlt hb.size, fun j hj => (hb.cell hlt).trans (hc j hj)⟩⟩
theorem en_enough {u : Int} {zs : List Int} (h : enI u zs = true) : u ≤ (zs.length : Int) := by
  simp only [enI, Bool.and_eq_true, decide_eq_true_eq] at h
  obtain ⟨h1, h2⟩ := h
  have hr := rank_le_length ((zs.map Int.toNat).map (rowOfN u.toNat))
  rw [List.length_map, List.length_map] at hr
  omega
theorem parts_deg {no n : Int} (h : symOkB no n = true) : ((partsI no n).length : Int) = degI no n := by
  obtain ⟨a, b, rfl, rfl, _, hb, _⟩ := sym_nat h
  rw [partsI, if_pos h, degI, if_pos h, zI_length, Int.toNat_natCast, Int.toNat_natCast, (parts_ok a hb).2]
/-- What FnParts asks of a letter. -/
theorem let_parts {zs : List Int} {n : Int} (h : letOkB zs n = true) : ∃ (Bk P : List Nat), zs = zI Bk ∧ partsI n (zs.length : Int) = zI P ∧ symOkB n (zs.length : Int) = true ∧ P.length ≤ 4 ∧ (∀ k ∈ P, k < Bk.length) ∧ (∀ b ∈ Bk, b < 2 ^ 32) ∧ letNoI zs n = n ∧ letSumI zs n = (sumN Bk P : Nat) := by
  obtain ⟨hb, hn⟩ : blkOkB zs = true ∧ noOkB n = true := by simpa [letOkB] using h
  obtain ⟨Bk, rfl, h1, h8, h32⟩ := blk_nat hb
  obtain ⟨m, rfl⟩ : ∃ m : Nat, n = m := ⟨n.toNat, by simp [noOkB, inB] at hn; omega⟩
  have hs : symOkB (m : Int) ((zI Bk).length : Int) = true := by
    rw [symOkB, hn, zI_length]
    simp [pcOkB, inB]; omega
  obtain ⟨hri, hrl⟩ := parts_ok m h1
  refine ⟨Bk, partsL m Bk.length, rfl, ?_, hs, by rw [hrl]; exact (degN_bd m h1).2.1, hri.2, h32, by rw [letNoI, if_pos h], ?_⟩
  · rw [partsI, if_pos hs, Int.toNat_natCast, zI_length, Int.toNat_natCast]
  · rw [letSumI, if_pos h, zI_toNat, Int.toNat_natCast, zI_length]

set_option maxRecDepth 100000 in
set_option maxHeartbeats 8000000 in
theorem fnParts_small {K : World → Prop} (hK : Stays5 K)
    (hP : ∀ (p b : Int) (w : World), K w → Calls Tryd.prog 7 #[.int .i64 p, .int .i64 b] w fun e w' => ∃ v, e = .returned (.tuple #[v, .bool (symOkB p b)]) ∧ Own w' w.heap.size v (partsI p b) ∧ Below w.heap.size w w')
    (hD : ∀ (p b : Int) (w : World), K w → Calls Tryd.prog 16 #[.int .i64 p, .int .i64 b] w fun e w' => e = .returned (.tuple #[.int .i64 (degI p b), .bool (symOkB p b)]) ∧ Below w.heap.size w w')
    (hL : ∀ (A : Option Addr) (zs : List Int) (ca : Nat) (n : Int) (w : World), K w → Ints w A zs → zs.length ≤ 1048576 → zs.length ≤ ca → Calls Tryd.prog 13 #[.slice A zs.length ca, .int .i64 n] w fun e w' => e = .returned (.tuple #[letV (letNoI zs n) (letSumI zs n), .bool (letOkB zs n)]) ∧ Below w.heap.size w w')
    (hE : ∀ (n : Int) (A : Option Addr) (zs : List Int) (ca : Nat) (w : World), K w → Ints w A zs → zs.length ≤ 1048576 → zs.length ≤ ca → Calls Tryd.prog 21 #[.int .i64 n, .slice A zs.length ca] w fun e w' => e = .returned (.tuple #[.bool (enI n zs), .bool (enOkB n zs)]) ∧ Below w.heap.size w w')
    (A : Option Addr) (za : List Int) (ca : Nat) (B : Option Addr) (zb : List Int) (cb : Nat) (w : World) (hw : K w) (ha : Byts w w.heap.size A za) (hb : Byts w w.heap.size B zb) (hl : za.length + zb.length ≤ 1048576) :
    Calls Tryd.prog 5 #[.slice A za.length ca, .slice B zb.length cb] w fun e w' => e = .returned (.bool true) ∧ Below w.heap.size w w' := by
  have HA := Lib.hid ha
  have HB := Lib.hid hb
  have HW := Lib.hid hw
  have HIP := Lib.hid hP
  have HID := Lib.hid hD
  have HIL := Lib.hid hL
  have HIE := Lib.hid hE
  clear ha hb hw hP hD hL hE
  go_enter Tryd.func5, Tryd.ntmps5
  go_wp2_with fail
  refine (drawParts5 A za ca _ HA.out).mono ?_
  rintro e w1 ⟨no, n, rfl, hb1⟩
  have HB1 := Lib.hid hb1
  clear hb1 HA
  have HP1 := Lib.hid (HIP.out no n w1 (hK _ _ HW.out HB1.out))
  have HS1 := Lib.hid (fun w => sParts_any no n w)
  have HD1 := Lib.hid (HID.out no n)
  have HS2 := Lib.hid (fun w => sDegree_any no n w)
  have HDeg := Lib.hid (@parts_deg no n)
  have hlen := partsI_len no n
  generalize partsI no n = V at *
  generalize degI no n = dg at *
  have hq : eqL V V = true := by simp [eqL]
  have HRest : Hid (∀ ok : Bool, (ok = true → (V.length : Int) = dg) → (ok && ((V.length : Int) != dg)) = false) := fun ok h => by
    cases ok
    · rfl
    · simp [h rfl]
  have hnok := HRest.out (symOkB no n) HDeg.out
  clear HRest HDeg
  generalize symOkB no n = ok at *
  go_wp2_with fail
  refine HP1.out.mono ?_
  rintro e w2 ⟨v2, rfl, ho2, hb2⟩
  obtain ⟨A2, c2, rfl, hI2⟩ := ho2.form
  have HX2 := Lib.hid hI2
  have HB2 := Lib.hid (below_more HB1.out hb2)
  clear ho2 hb2 hI2 HB1 HP1
  go_wp2_with fail
  refine (HS1.out w2).mono ?_
  rintro e w3 ⟨v3, rfl, ho3, hb3⟩
  obtain ⟨A3, c3, rfl, hI3⟩ := ho3.form
  have HX3 := Lib.hid hI3
  have HX2' := Lib.hid (HX2.out.below hb3)
  have HB3 := Lib.hid (below_more HB2.out hb3)
  clear ho3 hb3 hI3 HB2 HX2 HS1
  go_wp2_with fail
  refine (HD1.out w3 (hK _ _ HW.out HB3.out)).mono ?_
  rintro e w4 ⟨rfl, hb4⟩
  have HX3' := Lib.hid (HX3.out.below hb4)
  have HX2 := Lib.hid (HX2'.out.below hb4)
  have HB4 := Lib.hid (below_more HB3.out hb4)
  clear hb4 HB3 HX3 HX2' HD1
  go_wp2_with fail
  refine (HS2.out w4).mono ?_
  rintro e w5 ⟨rfl, rfl⟩
  clear HS2
  go_wp2_with fail
  refine (sameInts_any A2 A3 V V c2 c3 _ HX2.out HX3'.out (by omega)).mono ?_
  rintro e w5 ⟨rfl, n5, rfl⟩
  have HB5 := Lib.hid (below_more HB4.out (gDrewN n5))
  clear HB4 HX2 HX3'
  generalize w4.drewN n5 = w5 at *
  have HMid : Hid True := trivial
  cases ok
  all_goals
    simp only [Bool.true_and, Bool.false_and] at hnok
    go_wp2_with fail
    refine (drawLetter B zb cb _ (byts_on5 HB.out HB5.out)).mono ?_
    rintro e w6 ⟨v6, bl, k, rfl, ho6, hl6, hb6⟩
    obtain ⟨A6, c6, rfl, hcap6, hI6⟩ := gFormC ho6
    have HX6 := Lib.hid hI6
    have HB6 := Lib.hid (below_more HB5.out hb6)
    clear ho6 hb6 hI6 HB5
    have HL6 := Lib.hid (HIL.out A6 bl c6 k w6 (hK _ _ HW.out HB6.out) HX6.out (by omega) hcap6)
    have HS6 := Lib.hid (fun w h => sLetter_any A6 bl c6 k w h (by omega))
    have HLp := Lib.hid (@let_parts bl k)
    generalize letNoI bl k = x at *
    generalize letSumI bl k = y at *
    generalize letOkB bl k = two at *
    go_wp2_with fail
    refine HL6.out.mono ?_
    rintro e w7 ⟨rfl, hb7⟩
    have ha7 := gAlloc w7 (.cells #[.int .i64 x, .int .i64 y] 29)
    have HX7 := Lib.hid ((HX6.out.below hb7).below ha7)
    have HB7 := Lib.hid (below_more (below_more HB6.out hb7) ha7)
    have HY7 : Hid ((w7.alloc (.cells #[.int .i64 x, .int .i64 y] 29)).heap[w7.heap.size]? = some (.cells #[.int .i64 x, .int .i64 y] 29 (0, 0))) := heap_alloc_new _ _
    have hlt7 : w7.heap.size < (w7.alloc (.cells #[.int .i64 x, .int .i64 y] 29)).heap.size := by simp
    clear hb7 ha7 HX6 HB6 HL6
    go_wp2_with fail
    generalize w7.alloc (.cells #[.int .i64 x, .int .i64 y] 29) = W7 at *
    generalize w7.heap.size = g7 at *
    refine (HS6.out W7 HX7.out).mono ?_
    rintro e w8 ⟨rfl, hb8⟩
    have ha8 := gAlloc w8 (.cells #[.int .i64 x, .int .i64 y] 29)
    have HX8 := Lib.hid ((HX7.out.below hb8).below ha8)
    have HB8 := Lib.hid (below_more (below_more HB7.out hb8) ha8)
    have hlt8 : g7 < (w8.alloc (.cells #[.int .i64 x, .int .i64 y] 29)).heap.size := by have := hb8.size; simp; omega
    have hY8 : (w8.alloc (.cells #[.int .i64 x, .int .i64 y] 29)).heap[g7]? = some (.cells #[.int .i64 x, .int .i64 y] 29 (0, 0)) := (ha8.block _ (Nat.lt_of_lt_of_le hlt7 hb8.size)).trans ((hb8.block _ hlt7).trans HY7.out)
    have hZ8 : (w8.alloc (.cells #[.int .i64 x, .int .i64 y] 29)).heap[w8.heap.size]? = some (.cells #[.int .i64 x, .int .i64 y] 29 (0, 0)) := heap_alloc_new _ _
    have HY8 := Lib.hid hY8
    have q0 := cell_of_row _ _ 0 _ _ _ hY8
    have q1 := cell_of_row _ _ 1 _ _ _ hY8
    have r0 := cell_of_row _ _ 0 _ _ _ hZ8
    have r1 := cell_of_row _ _ 1 _ _ _ hZ8
    clear hb8 ha8 HX7 HB7 HS6 HY7 hY8 hZ8 hlt7
    cases two
    · go_wp2_with fail
      generalize w8.alloc (.cells #[.int .i64 x, .int .i64 y] 29) = W8 at *
      have HBx := HB8
      clear HB8 q0 q1 r0 r1 HY8 hlt8 HX8
      go_wp2_with fail
      refine (drawEnough B zb cb _ (byts_on5 HB.out HBx.out)).mono ?_
      rintro e w20 ⟨u, v20, l20, rfl, ho20, hl20, hb20⟩
      obtain ⟨A20, c20, rfl, hcap20, hI20⟩ := gFormC ho20
      have HX20 := Lib.hid hI20
      have HB20 := Lib.hid (below_more HBx.out hb20)
      clear ho20 hb20 hI20 HBx
      have HE20 := Lib.hid (HIE.out u A20 l20 c20 w20 (hK _ _ HW.out HB20.out) HX20.out (by omega) hcap20)
      have HS20 := Lib.hid (fun w h => sEnough_any u A20 l20 c20 w h (by omega) hcap20)
      have HEn := Lib.hid (@en_enough u l20)
      generalize enI u l20 = en at *
      generalize enOkB u l20 = eo at *
      go_wp2_with fail
      refine HE20.out.mono ?_
      rintro e w21 ⟨rfl, hb21⟩
      have HX21 := Lib.hid (HX20.out.below hb21)
      have HB21 := Lib.hid (below_more HB20.out hb21)
      clear hb21 HX20 HB20 HE20
      go_wp2_with fail
      refine (HS20.out w21 HX21.out).mono ?_
      rintro e w22 ⟨rfl, hb22⟩
      have HB22 := Lib.hid (below_more HB21.out hb22)
      clear hb22 HX21 HB21 HS20
      cases en
      · go_wp2_with fail
        go_ret
        exact ⟨rfl, HB22.out⟩
      · have hge := HEn.out rfl
        go_wp2_with fail
        go_ret
        exact ⟨rfl, HB22.out⟩
    · obtain ⟨Bk, P, hzs, hpp, hso, hP4, hPl, hB32, hxn, hyn⟩ := HLp.out rfl
      have HBl := Lib.hid hzs
      have HPl := Lib.hid hPl
      have HB32 := Lib.hid hB32
      have HX8' : Hid (Ints (w8.alloc (.cells #[.int .i64 x, .int .i64 y] 29)) A6 (zI Bk)) := by rw [← hzs]; exact HX8.out
      have hbl : bl.length = Bk.length := by rw [hzs, zI_length]
      have HXn := Lib.hid hxn
      have HYn := Lib.hid hyn
      have HPa := Lib.hid (HIP.out k (bl.length : Int))
      rw [hpp, hso] at HPa
      have HLen := Lib.hid hbl
      clear hzs hpp hso hPl hB32 hxn hyn hbl HX8 HLp
      go_wp2_with fail
      generalize w8.alloc (.cells #[.int .i64 x, .int .i64 y] 29) = W8 at *
      clear q0 q1 r0 r1
      refine (HPa.out W8 (hK _ _ HW.out HB8.out)).mono ?_
      rintro e w9 ⟨v9, rfl, ho9, hb9⟩
      obtain ⟨A9, c9, rfl, hI9⟩ := ho9.form
      rw [zI_length]
      have HI9 := Lib.hid hI9
      have HX9 := Lib.hid (HX8'.out.below hb9)
      have HB9 := Lib.hid (below_more HB8.out hb9)
      have hY9 := (hb9.block _ hlt8).trans HY8.out
      have q0 := cell_of_row _ _ 0 _ _ _ hY9
      have q1 := cell_of_row _ _ 1 _ _ _ hY9
      clear ho9 hI9 hb9 HX8' HB8 HY8 hY9 HPa hlt8
      go_wp2_with fail
      go_loopg [23, 130] P.length (fun gk sm i wr => ∃ t : Nat, t + gk = P.length ∧ i = .int .i64 t ∧ sm = .int .i64 (sumN Bk (P.take t) : Nat) ∧ w9 = wr)
      case atStart => exact ⟨0, by omega, rfl, rfl, rfl⟩
      case round =>
        obtain ⟨t, hg, rfl, rfl, rfl⟩ := hrel
        by_cases hlt : t < P.length
        · have hti : (t : Int) < (P.length : Int) := by omega
          obtain ⟨b5, o5, rfl, hc5⟩ := HI9.out.cellN hlt
          have hqn := HPl.out P[t] (List.getElem_mem hlt)
          have HS := Lib.hid (sumN_snoc (R := Bk) hlt)
          have hs32 := sumN_lt (K := P.take t) HB32.out
          have HGK : Hid (P.length - t - 1 < gk ∧ t + 1 + (P.length - t - 1) = P.length) := by show _ ∧ _; omega
          generalize P[t] = q at *
          obtain ⟨b6, o6, rfl, hc6⟩ := HX9.out.cellN hqn
          have hr32 := HB32.out Bk[q] (List.getElem_mem hqn)
          rw [show Bk.getD q 0 = Bk[q] by simp [List.getD, hqn]] at HS
          have hqi : (q : Int) < (bl.length : Int) := by have := HLen.out; omega
          have hqi2 : ¬ ((bl.length : Int) ≤ (q : Int)) := by omega
          generalize Bk[q] = yy at *
          generalize sumN Bk (P.take t) = sm at *
          have hxr := xor_i64 sm yy (by omega) (by omega)
          clear hg
          go_wp2_with fail
          go_roundg (P.length - t - 1)
          case measure => exact HGK.out.1
          case rel => exact ⟨t + 1, HGK.out.2, by go_num, by rw [HS.out], rfl⟩
        · obtain rfl : t = P.length := by omega
          rw [List.take_length, ← HYn.out]
          have hti : ¬ (P.length : Int) < (P.length : Int) := by omega
          have hyy : (y != y) = false := by simp
          have hkk : (x != k) = false := by rw [HXn.out]; simp
          go_wp2_with fail
          have HBx := HB9
          clear HB9 q0 q1 hyy hkk HI9 HX9 hlt hg hti
          go_wp2_with fail
          refine (drawEnough B zb cb _ (byts_on5 HB.out HBx.out)).mono ?_
          rintro e w20 ⟨u, v20, l20, rfl, ho20, hl20, hb20⟩
          obtain ⟨A20, c20, rfl, hcap20, hI20⟩ := gFormC ho20
          have HX20 := Lib.hid hI20
          have HB20 := Lib.hid (below_more HBx.out hb20)
          clear ho20 hb20 hI20 HBx
          have HE20 := Lib.hid (HIE.out u A20 l20 c20 w20 (hK _ _ HW.out HB20.out) HX20.out (by omega) hcap20)
          have HS20 := Lib.hid (fun w h => sEnough_any u A20 l20 c20 w h (by omega) hcap20)
          have HEn := Lib.hid (@en_enough u l20)
          generalize enI u l20 = en at *
          generalize enOkB u l20 = eo at *
          go_wp2_with fail
          refine HE20.out.mono ?_
          rintro e w21 ⟨rfl, hb21⟩
          have HX21 := Lib.hid (HX20.out.below hb21)
          have HB21 := Lib.hid (below_more HB20.out hb21)
          clear hb21 HX20 HB20 HE20
          go_wp2_with fail
          refine (HS20.out w21 HX21.out).mono ?_
          rintro e w22 ⟨rfl, hb22⟩
          have HB22 := Lib.hid (below_more HB21.out hb22)
          clear hb22 HX21 HB21 HS20
          cases en
          · go_wp2_with fail
            go_ret
            exact ⟨rfl, HB22.out⟩
          · have hge := HEn.out rfl
            go_wp2_with fail
            go_ret
            exact ⟨rfl, HB22.out⟩
set_option maxRecDepth 100000 in
theorem fnParts_law {K : World → Prop} (hK : Stays5 K)
    (hP : ∀ (p b : Int) (w : World), K w → Calls Tryd.prog 7 #[.int .i64 p, .int .i64 b] w fun e w' => ∃ v, e = .returned (.tuple #[v, .bool (symOkB p b)]) ∧ Own w' w.heap.size v (partsI p b) ∧ Below w.heap.size w w')
    (hD : ∀ (p b : Int) (w : World), K w → Calls Tryd.prog 16 #[.int .i64 p, .int .i64 b] w fun e w' => e = .returned (.tuple #[.int .i64 (degI p b), .bool (symOkB p b)]) ∧ Below w.heap.size w w')
    (hL : ∀ (A : Option Addr) (zs : List Int) (ca : Nat) (n : Int) (w : World), K w → Ints w A zs → zs.length ≤ 1048576 → zs.length ≤ ca → Calls Tryd.prog 13 #[.slice A zs.length ca, .int .i64 n] w fun e w' => e = .returned (.tuple #[letV (letNoI zs n) (letSumI zs n), .bool (letOkB zs n)]) ∧ Below w.heap.size w w')
    (hE : ∀ (n : Int) (A : Option Addr) (zs : List Int) (ca : Nat) (w : World), K w → Ints w A zs → zs.length ≤ 1048576 → zs.length ≤ ca → Calls Tryd.prog 21 #[.int .i64 n, .slice A zs.length ca] w fun e w' => e = .returned (.tuple #[.bool (enI n zs), .bool (enOkB n zs)]) ∧ Below w.heap.size w w')
    (A : Option Addr) (za : List Int) (ca : Nat) (B : Option Addr) (zb : List Int) (cb : Nat) (w : World) (hw : K w) (ha : Byts w w.heap.size A za) (hb : Byts w w.heap.size B zb) (hla : za.length ≤ 140737488355328) (hlb : zb.length ≤ 140737488355328) :
    Calls Tryd.prog 5 #[.slice A za.length ca, .slice B zb.length cb] w fun e w' => e = .returned (.bool true) ∧ Below w.heap.size w w' := by
  by_cases hl : za.length + zb.length ≤ 1048576
  · exact fnParts_small hK hP hD hL hE A za ca B zb cb w hw ha hb hl
  · have hl' : (1048576 : Int) < (za.length : Int) + (zb.length : Int) := by omega
    clear hP hD hL hE
    go_enter Tryd.func5, Tryd.ntmps5
    go_wp2_with fail
    go_ret
    exact ⟨rfl, Below.refl _ _⟩
end Go.Proofs.YtchpcbbnnbaiaaaDoor
