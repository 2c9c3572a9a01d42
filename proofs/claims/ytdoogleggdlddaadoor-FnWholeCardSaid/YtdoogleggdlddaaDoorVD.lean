/-
  FnExtras, walked, whatever the program's own texts are.
-/
import Derived.Test.YtdoogleggdlddaaDoorVO
import Derived.Test.YtdoogleggdlddaaDoorDC
namespace Go.Proofs.YtdoogleggdlddaaDoor
open Go.RowKit

theorem byts_on6 {w w' : World} {A : Option Addr} {zs : List Int} (h : Byts w w.heap.size A zs) (hb : Below w.heap.size w w') : Byts w' w'.heap.size A zs :=
  ⟨h.1, fun hne => by
    obtain ⟨b, o, e, hlt, hc⟩ := h.2 hne
    exact ⟨b, o, e, Nat.lt_of_lt_of_le hlt hb.size, fun j hj => (hb.cell hlt).trans (hc j hj)⟩⟩
/-- What FnExtras asks of a precoded symbol. -/
theorem ra_row {zs : List Int} {n : Int} (h : raOkB zs n = true) : ∃ (Bk : List Nat) (r : Nat), zs = zI Bk ∧ (∀ b ∈ Bk, b < 2 ^ 32) ∧ r < 65536 ∧ roI (zs.length : Int) n = (r : Int) ∧ roOkB (zs.length : Int) n = true ∧ raSumI zs n = ((sm Bk Bk.length r : Nat) : Int) := by
  obtain ⟨h1, h2⟩ : wiOkB zs = true ∧ noOkB n = true := by simpa [raOkB] using h
  obtain ⟨Bk, rfl, hB1, hB6, h32, _⟩ := wi_nat h1
  obtain ⟨m, rfl⟩ : ∃ m : Nat, n = m := ⟨n.toNat, by simp [noOkB, inB] at h2; omega⟩
  have hp : pc6B (Bk.length : Int) = true := by simp [pc6B, inB]; omega
  have hro : roOkB (Bk.length : Int) (m : Int) = true := by rw [roOkB, hp, h2]; rfl
  refine ⟨Bk, row6 Bk.length m, rfl, h32, ?_, by rw [zI_length, ro_yes hro], by rw [zI_length]; exact hro, (ra_sum h).2⟩
  exact Nat.lt_of_lt_of_le (row6_lt Bk.length m) (Nat.le_trans (Nat.pow_le_pow_right (by decide) (show Bk.length ≤ 16 by omega)) (by decide))
theorem sm_bd {B : List Nat} (h : ∀ b ∈ B, b < 2 ^ 32) (r : Nat) : ∀ k, sm B k r < 2 ^ 32
  | 0 => by rw [sm]; decide
  | k + 1 => by
    rw [sm]
    refine Nat.xor_lt_two_pow (sm_bd h r k) ?_
    split
    · by_cases hk : k < B.length
      · rw [show B.getD k 0 = B[k] by simp [List.getD, hk]]; exact h _ (List.getElem_mem hk)
      · rw [show B.getD k 0 = 0 by simp [List.getD, hk]]; decide
    · decide

set_option maxRecDepth 100000 in
set_option maxHeartbeats 8000000 in
theorem fnExtras_small {K : World → Prop} (hK : Stays5 K)
    (hR : ∀ (A : Option Addr) (zs : List Int) (ca : Nat) (n : Int) (w : World), K w → Ints w A zs → zs.length ≤ 1048576 → zs.length ≤ ca → Calls Tryd.prog 15 #[.slice A zs.length ca, .int .i64 n] w fun e w' => e = .returned (.tuple #[letV (raNoI zs n) (raSumI zs n), .bool (raOkB zs n)]) ∧ Below w.heap.size w w')
    (hW : ∀ (p b : Int) (w : World), K w → Calls Tryd.prog 21 #[.int .i64 p, .int .i64 b] w fun e w' => e = .returned (.tuple #[.int .i64 (roI p b), .bool (roOkB p b)]) ∧ Below w.heap.size w w')
    (hX : ∀ (p b : Int) (w : World), K w → Calls Tryd.prog 23 #[.int .i64 p, .int .i64 b] w fun e w' => ∃ v, e = .returned (.tuple #[v, .bool (exOkB p b)]) ∧ Own w' w.heap.size v (exI p b) ∧ Below w.heap.size w w')
    (hS : ∀ (A : Option Addr) (zs : List Int) (ca : Nat) (w : World), K w → Ints w A zs → zs.length ≤ 1048576 → zs.length ≤ ca → Calls Tryd.prog 14 #[.slice A zs.length ca] w fun e w' => e = .returned (.tuple #[.bool (isI zs), .bool (isOkB zs)]) ∧ Below w.heap.size w w')
    (A : Option Addr) (za : List Int) (ca : Nat) (B : Option Addr) (zb : List Int) (cb : Nat) (w : World) (hw : K w) (ha : Byts w w.heap.size A za) (hb : Byts w w.heap.size B zb) (hl : za.length + zb.length ≤ 1048576) :
    Calls Tryd.prog 4 #[.slice A za.length ca, .slice B zb.length cb] w fun e w' => e = .returned (.bool true) ∧ Below w.heap.size w w' := by
  have HA := Lib.hid ha
  have HB := Lib.hid hb
  have HW := Lib.hid hw
  have HIR := Lib.hid hR
  have HIW := Lib.hid hW
  have HIX := Lib.hid hX
  have HII := Lib.hid hS
  clear ha hb hw hR hW hX hS
  go_enter Tryd.func4, Tryd.ntmps4
  go_wp2_with fail
  refine (drawRaptor6 A za ca _ HA.out).mono ?_
  rintro e w6 ⟨A6, bl, c6, k, rfl, hI6, hcap6, hl6, hb6⟩
  have HX6 := Lib.hid hI6
  have HB6 := Lib.hid hb6
  clear hI6 hb6 HA
  have HL6 := Lib.hid (HIR.out A6 bl c6 k w6 (hK _ _ HW.out HB6.out) HX6.out (by omega) hcap6)
  have HS6 := Lib.hid (fun w h => sRaptor_any A6 bl c6 k w h (by omega))
  have HLp := Lib.hid (@ra_row bl k)
  generalize raNoI bl k = x at *
  generalize raSumI bl k = y at *
  generalize raOkB bl k = two at *
  go_wp2_with fail
  refine HL6.out.mono ?_
  rintro e w7 ⟨rfl, hb7⟩
  have ha7 := gAlloc w7 (.cells #[.int .i64 x, .int .i64 y] 36)
  have HX7 := Lib.hid ((HX6.out.below hb7).below ha7)
  have HB7 := Lib.hid (below_more (below_more HB6.out hb7) ha7)
  have HY7 : Hid ((w7.alloc (.cells #[.int .i64 x, .int .i64 y] 36)).heap[w7.heap.size]? = some (.cells #[.int .i64 x, .int .i64 y] 36 (0, 0))) := heap_alloc_new _ _
  have hlt7 : w7.heap.size < (w7.alloc (.cells #[.int .i64 x, .int .i64 y] 36)).heap.size := by simp
  clear hb7 ha7 HX6 HB6 HL6
  go_wp2_with fail
  generalize w7.alloc (.cells #[.int .i64 x, .int .i64 y] 36) = W7 at *
  generalize w7.heap.size = g7 at *
  refine (HS6.out W7 HX7.out).mono ?_
  rintro e w8 ⟨rfl, hb8⟩
  have ha8 := gAlloc w8 (.cells #[.int .i64 x, .int .i64 y] 36)
  have HX8 := Lib.hid ((HX7.out.below hb8).below ha8)
  have HB8 := Lib.hid (below_more (below_more HB7.out hb8) ha8)
  have hlt8 : g7 < (w8.alloc (.cells #[.int .i64 x, .int .i64 y] 36)).heap.size := by have := hb8.size; simp; omega
  have hY8 : (w8.alloc (.cells #[.int .i64 x, .int .i64 y] 36)).heap[g7]? = some (.cells #[.int .i64 x, .int .i64 y] 36 (0, 0)) := (ha8.block _ (Nat.lt_of_lt_of_le hlt7 hb8.size)).trans ((hb8.block _ hlt7).trans HY7.out)
  have hZ8 : (w8.alloc (.cells #[.int .i64 x, .int .i64 y] 36)).heap[w8.heap.size]? = some (.cells #[.int .i64 x, .int .i64 y] 36 (0, 0)) := heap_alloc_new _ _
  have HY8 := Lib.hid hY8
  have q0 := cell_of_row _ _ 0 _ _ _ hY8
  have q1 := cell_of_row _ _ 1 _ _ _ hY8
  have r0 := cell_of_row _ _ 0 _ _ _ hZ8
  have r1 := cell_of_row _ _ 1 _ _ _ hZ8
  clear hb8 ha8 HX7 HB7 HS6 HY7 hY8 hZ8 hlt7
  cases two
  · go_wp2_with fail
    generalize w8.alloc (.cells #[.int .i64 x, .int .i64 y] 36) = W8 at *
    have HBx := HB8
    clear HB8 q0 q1 r0 r1 HY8 hlt8 HX8
    go_wp2_with fail
    refine (drawExtra6 B zb cb _ (byts_on6 HB.out HBx.out)).mono ?_
    rintro e w20 ⟨u, k2, rfl, hb20⟩
    have HB20 := Lib.hid (below_more HBx.out hb20)
    clear hb20 HBx
    have HE20 := Lib.hid (HIX.out u k2 w20 (hK _ _ HW.out HB20.out))
    have HS20 := Lib.hid (fun w => sExtra_any u k2 w)
    have hlen := exI_len u k2
    generalize exI u k2 = V at *
    generalize exOkB u k2 = eo at *
    have hq : eqL V V = true := by simp [eqL]
    go_wp2_with fail
    refine HE20.out.mono ?_
    rintro e w21 ⟨v21, rfl, ho21, hb21⟩
    obtain ⟨A21, c21, rfl, hI21⟩ := ho21.form
    have HX21 := Lib.hid hI21
    have HB21 := Lib.hid (below_more HB20.out hb21)
    clear ho21 hI21 hb21 HB20 HE20
    go_wp2_with fail
    refine (HS20.out w21).mono ?_
    rintro e w22 ⟨v22, rfl, ho22, hb22⟩
    obtain ⟨A22, c22, rfl, hI22⟩ := ho22.form
    have HY22 := Lib.hid hI22
    have HX22 := Lib.hid (HX21.out.below hb22)
    have HB22 := Lib.hid (below_more HB21.out hb22)
    clear ho22 hI22 hb22 HB21 HX21 HS20
    go_wp2_with fail
    refine (drawIs6 B zb cb _ (byts_on6 HB.out HB22.out)).mono ?_
    rintro e w23 ⟨A23, l23, c23, rfl, hI23, hcap23, hl23, hb23⟩
    have HZ23 := Lib.hid hI23
    have HX23 := Lib.hid (HX22.out.below hb23)
    have HY23 := Lib.hid (HY22.out.below hb23)
    have HB23 := Lib.hid (below_more HB22.out hb23)
    clear hI23 hb23 HX22 HY22 HB22
    have HE23 := Lib.hid (HII.out A23 l23 c23 w23 (hK _ _ HW.out HB23.out) HZ23.out (by omega) hcap23)
    have HS23 := Lib.hid (fun w h => sIs_any A23 l23 c23 w h (by omega) hcap23)
    generalize isI l23 = iw at *
    generalize isOkB l23 = io at *
    go_wp2_with fail
    refine HE23.out.mono ?_
    rintro e w24 ⟨rfl, hb24⟩
    have HZ24 := Lib.hid (HZ23.out.below hb24)
    have HX24 := Lib.hid (HX23.out.below hb24)
    have HY24 := Lib.hid (HY23.out.below hb24)
    have HB24 := Lib.hid (below_more HB23.out hb24)
    clear hb24 HX23 HY23 HB23 HZ23 HE23
    go_wp2_with fail
    refine (HS23.out w24 HZ24.out).mono ?_
    rintro e w25 ⟨rfl, hb25⟩
    have HX25 := Lib.hid (HX24.out.below hb25)
    have HY25 := Lib.hid (HY24.out.below hb25)
    have HB25 := Lib.hid (below_more HB24.out hb25)
    clear hb25 HX24 HY24 HB24 HZ24 HS23
    go_wp2_with fail
    refine (drawRow6 B zb cb _ (byts_on6 HB.out HB25.out)).mono ?_
    rintro e w26 ⟨m3, n3, rfl, hb26⟩
    have HX26 := Lib.hid (HX25.out.below hb26)
    have HY26 := Lib.hid (HY25.out.below hb26)
    have HB26 := Lib.hid (below_more HB25.out hb26)
    clear hb26 HX25 HY25 HB25
    have HE26 := Lib.hid (HIW.out m3 n3 w26 (hK _ _ HW.out HB26.out))
    have HS26 := Lib.hid (fun w => sRowFor_any m3 n3 w)
    generalize roI m3 n3 = ri at *
    generalize roOkB m3 n3 = rb at *
    go_wp2_with fail
    refine HE26.out.mono ?_
    rintro e w27 ⟨rfl, hb27⟩
    have HX27 := Lib.hid (HX26.out.below hb27)
    have HY27 := Lib.hid (HY26.out.below hb27)
    have HB27 := Lib.hid (below_more HB26.out hb27)
    clear hb27 HX26 HY26 HB26 HE26
    go_wp2_with fail
    refine (HS26.out w27).mono ?_
    rintro e w28 ⟨rfl, hb28⟩
    have HX28 := Lib.hid (HX27.out.below hb28)
    have HY28 := Lib.hid (HY27.out.below hb28)
    have HB28 := Lib.hid (below_more HB27.out hb28)
    clear hb28 HX27 HY27 HB27 HS26
    go_wp2_with fail
    refine (sameInts_any A21 A22 V V c21 c22 _ HX28.out HY28.out (by omega)).mono ?_
    rintro e w29 ⟨rfl, n29, rfl⟩
    have HB29 := Lib.hid (below_more HB28.out (gDrewN n29))
    go_wp2_with fail
    go_ret
    exact ⟨rfl, HB29.out⟩
  · obtain ⟨Bk, rr, hzs, hB32, hr16, hri, hro, hyn⟩ := HLp.out rfl
    have HB32 := Lib.hid hB32
    have HX8' : Hid (Ints (w8.alloc (.cells #[.int .i64 x, .int .i64 y] 36)) A6 (zI Bk)) := by rw [← hzs]; exact HX8.out
    have hbl : bl.length = Bk.length := by rw [hzs, zI_length]
    have HYn := Lib.hid hyn
    have HPa := Lib.hid (HIW.out (bl.length : Int) k)
    rw [hri, hro] at HPa
    have HLen := Lib.hid hbl
    clear hzs hri hro hB32 hyn hbl HX8 HLp
    go_wp2_with fail
    generalize w8.alloc (.cells #[.int .i64 x, .int .i64 y] 36) = W8 at *
    clear q0 q1 r0 r1
    refine (HPa.out W8 (hK _ _ HW.out HB8.out)).mono ?_
    rintro e w9 ⟨rfl, hb9⟩
    have HX9 := Lib.hid (HX8'.out.below hb9)
    have HB9 := Lib.hid (below_more HB8.out hb9)
    have hY9 := (hb9.block _ hlt8).trans HY8.out
    have q0 := cell_of_row _ _ 0 _ _ _ hY9
    have q1 := cell_of_row _ _ 1 _ _ _ hY9
    clear hb9 HX8' HB8 HY8 hY9 HPa hlt8
    go_wp2_with fail
    go_loopg [13, 74] bl.length (fun gk s i wr => ∃ t : Nat, t + gk = bl.length ∧ i = .int .i64 t ∧ s = .int .i64 (sm Bk t rr : Nat) ∧ w9 = wr)
    case atStart => exact ⟨0, by omega, rfl, rfl, rfl⟩
    case round =>
      obtain ⟨t, hg, rfl, rfl, rfl⟩ := hrel
      by_cases hlt : t < bl.length
      · have hti : (t : Int) < (bl.length : Int) := by omega
        have htB : t < Bk.length := by have := HLen.out; omega
        obtain ⟨b5, o5, rfl, hc5⟩ := HX9.out.cellN htB
        have hr32 := HB32.out Bk[t] (List.getElem_mem htB)
        have hs32 := sm_bd HB32.out rr t
        have HS : Hid (sm Bk (t + 1) rr = sm Bk t rr ^^^ (if rr.testBit t = true then Bk[t] else 0)) := by
          show _ = _
          rw [sm, show Bk.getD t 0 = Bk[t] by simp [List.getD, htB]]
        have HGK : Hid (bl.length - t - 1 < gk ∧ t + 1 + (bl.length - t - 1) = bl.length) := by show _ ∧ _; omega
        have hbit := bit_shr (n := rr) (k := t) hr16
        obtain ⟨hp1, hp2⟩ := pow_bd t (by omega)
        generalize Bk[t] = yy at *
        generalize sm Bk t rr = sv at *
        have hxr := xor_i64 sv yy (by omega) (by omega)
        clear hg
        cases hbt : rr.testBit t
        · rw [hbt] at hbit
          have HS2 : Hid (sm Bk (t + 1) rr = sv) := by show _ = _; rw [HS.out, hbt]; simp
          clear HS hbt
          go_wp2_with fail
          go_roundg (bl.length - t - 1)
          case measure => exact HGK.out.1
          case rel => exact ⟨t + 1, HGK.out.2, by go_num, by rw [HS2.out], rfl⟩
        · rw [hbt] at hbit
          have HS2 : Hid (sm Bk (t + 1) rr = sv ^^^ yy) := by show _ = _; rw [HS.out, hbt]; simp
          clear HS hbt
          go_wp2_with fail
          go_roundg (bl.length - t - 1)
          case measure => exact HGK.out.1
          case rel => exact ⟨t + 1, HGK.out.2, by go_num, by rw [HS2.out], rfl⟩
      · obtain rfl : t = bl.length := by omega
        have HLn := Lib.hid HLen.out
        have HYv : Hid (((sm Bk bl.length rr : Nat) : Int) = y) := by show _ = _; rw [HLen.out]; exact HYn.out.symm
        rw [HYv.out]
        have hti : ¬ (bl.length : Int) < (bl.length : Int) := by omega
        have hyy : (y != y) = false := by simp
        clear hg hlt
        go_wp2_with fail
        have HBx := HB9
        clear HB9 q0 q1 hyy HX9 hti
        go_wp2_with fail
        refine (drawExtra6 B zb cb _ (byts_on6 HB.out HBx.out)).mono ?_
        rintro e w20 ⟨u, k2, rfl, hb20⟩
        have HB20 := Lib.hid (below_more HBx.out hb20)
        clear hb20 HBx
        have HE20 := Lib.hid (HIX.out u k2 w20 (hK _ _ HW.out HB20.out))
        have HS20 := Lib.hid (fun w => sExtra_any u k2 w)
        have hlen := exI_len u k2
        generalize exI u k2 = V at *
        generalize exOkB u k2 = eo at *
        have hq : eqL V V = true := by simp [eqL]
        go_wp2_with fail
        refine HE20.out.mono ?_
        rintro e w21 ⟨v21, rfl, ho21, hb21⟩
        obtain ⟨A21, c21, rfl, hI21⟩ := ho21.form
        have HX21 := Lib.hid hI21
        have HB21 := Lib.hid (below_more HB20.out hb21)
        clear ho21 hI21 hb21 HB20 HE20
        go_wp2_with fail
        refine (HS20.out w21).mono ?_
        rintro e w22 ⟨v22, rfl, ho22, hb22⟩
        obtain ⟨A22, c22, rfl, hI22⟩ := ho22.form
        have HY22 := Lib.hid hI22
        have HX22 := Lib.hid (HX21.out.below hb22)
        have HB22 := Lib.hid (below_more HB21.out hb22)
        clear ho22 hI22 hb22 HB21 HX21 HS20
        go_wp2_with fail
        refine (drawIs6 B zb cb _ (byts_on6 HB.out HB22.out)).mono ?_
        rintro e w23 ⟨A23, l23, c23, rfl, hI23, hcap23, hl23, hb23⟩
        have HZ23 := Lib.hid hI23
        have HX23 := Lib.hid (HX22.out.below hb23)
        have HY23 := Lib.hid (HY22.out.below hb23)
        have HB23 := Lib.hid (below_more HB22.out hb23)
        clear hI23 hb23 HX22 HY22 HB22
        have HE23 := Lib.hid (HII.out A23 l23 c23 w23 (hK _ _ HW.out HB23.out) HZ23.out (by omega) hcap23)
        have HS23 := Lib.hid (fun w h => sIs_any A23 l23 c23 w h (by omega) hcap23)
        generalize isI l23 = iw at *
        generalize isOkB l23 = io at *
        go_wp2_with fail
        refine HE23.out.mono ?_
        rintro e w24 ⟨rfl, hb24⟩
        have HZ24 := Lib.hid (HZ23.out.below hb24)
        have HX24 := Lib.hid (HX23.out.below hb24)
        have HY24 := Lib.hid (HY23.out.below hb24)
        have HB24 := Lib.hid (below_more HB23.out hb24)
        clear hb24 HX23 HY23 HB23 HZ23 HE23
        go_wp2_with fail
        refine (HS23.out w24 HZ24.out).mono ?_
        rintro e w25 ⟨rfl, hb25⟩
        have HX25 := Lib.hid (HX24.out.below hb25)
        have HY25 := Lib.hid (HY24.out.below hb25)
        have HB25 := Lib.hid (below_more HB24.out hb25)
        clear hb25 HX24 HY24 HB24 HZ24 HS23
        go_wp2_with fail
        refine (drawRow6 B zb cb _ (byts_on6 HB.out HB25.out)).mono ?_
        rintro e w26 ⟨m3, n3, rfl, hb26⟩
        have HX26 := Lib.hid (HX25.out.below hb26)
        have HY26 := Lib.hid (HY25.out.below hb26)
        have HB26 := Lib.hid (below_more HB25.out hb26)
        clear hb26 HX25 HY25 HB25
        have HE26 := Lib.hid (HIW.out m3 n3 w26 (hK _ _ HW.out HB26.out))
        have HS26 := Lib.hid (fun w => sRowFor_any m3 n3 w)
        generalize roI m3 n3 = ri at *
        generalize roOkB m3 n3 = rb at *
        go_wp2_with fail
        refine HE26.out.mono ?_
        rintro e w27 ⟨rfl, hb27⟩
        have HX27 := Lib.hid (HX26.out.below hb27)
        have HY27 := Lib.hid (HY26.out.below hb27)
        have HB27 := Lib.hid (below_more HB26.out hb27)
        clear hb27 HX26 HY26 HB26 HE26
        go_wp2_with fail
        refine (HS26.out w27).mono ?_
        rintro e w28 ⟨rfl, hb28⟩
        have HX28 := Lib.hid (HX27.out.below hb28)
        have HY28 := Lib.hid (HY27.out.below hb28)
        have HB28 := Lib.hid (below_more HB27.out hb28)
        clear hb28 HX27 HY27 HB27 HS26
        go_wp2_with fail
        refine (sameInts_any A21 A22 V V c21 c22 _ HX28.out HY28.out (by omega)).mono ?_
        rintro e w29 ⟨rfl, n29, rfl⟩
        have HB29 := Lib.hid (below_more HB28.out (gDrewN n29))
        go_wp2_with fail
        go_ret
        exact ⟨rfl, HB29.out⟩
set_option maxRecDepth 100000 in
theorem fnExtras_law {K : World → Prop} (hK : Stays5 K)
    (hR : ∀ (A : Option Addr) (zs : List Int) (ca : Nat) (n : Int) (w : World), K w → Ints w A zs → zs.length ≤ 1048576 → zs.length ≤ ca → Calls Tryd.prog 15 #[.slice A zs.length ca, .int .i64 n] w fun e w' => e = .returned (.tuple #[letV (raNoI zs n) (raSumI zs n), .bool (raOkB zs n)]) ∧ Below w.heap.size w w')
    (hW : ∀ (p b : Int) (w : World), K w → Calls Tryd.prog 21 #[.int .i64 p, .int .i64 b] w fun e w' => e = .returned (.tuple #[.int .i64 (roI p b), .bool (roOkB p b)]) ∧ Below w.heap.size w w')
    (hX : ∀ (p b : Int) (w : World), K w → Calls Tryd.prog 23 #[.int .i64 p, .int .i64 b] w fun e w' => ∃ v, e = .returned (.tuple #[v, .bool (exOkB p b)]) ∧ Own w' w.heap.size v (exI p b) ∧ Below w.heap.size w w')
    (hS : ∀ (A : Option Addr) (zs : List Int) (ca : Nat) (w : World), K w → Ints w A zs → zs.length ≤ 1048576 → zs.length ≤ ca → Calls Tryd.prog 14 #[.slice A zs.length ca] w fun e w' => e = .returned (.tuple #[.bool (isI zs), .bool (isOkB zs)]) ∧ Below w.heap.size w w')
    (A : Option Addr) (za : List Int) (ca : Nat) (B : Option Addr) (zb : List Int) (cb : Nat) (w : World) (hw : K w) (ha : Byts w w.heap.size A za) (hb : Byts w w.heap.size B zb) (hla : za.length ≤ 140737488355328) (hlb : zb.length ≤ 140737488355328) :
    Calls Tryd.prog 4 #[.slice A za.length ca, .slice B zb.length cb] w fun e w' => e = .returned (.bool true) ∧ Below w.heap.size w w' := by
  by_cases hl : za.length + zb.length ≤ 1048576
  · exact fnExtras_small hK hR hW hX hS A za ca B zb cb w hw ha hb hl
  · have hl' : (1048576 : Int) < (za.length : Int) + (zb.length : Int) := by omega
    clear hR hW hX hS
    go_enter Tryd.func4, Tryd.ntmps4
    go_wp2_with fail
    go_ret
    exact ⟨rfl, Below.refl _ _⟩
end Go.Proofs.YtdoogleggdlddaaDoor
