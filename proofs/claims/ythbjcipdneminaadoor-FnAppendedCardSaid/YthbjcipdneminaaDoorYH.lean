/-
  FnAppended walked over the program's own contracts.
-/
import Derived.Test.YthbjcipdneminaaDoorGR
import Derived.Test.YthbjcipdneminaaDoorGS
import Derived.Test.YthbjcipdneminaaDoorYF
namespace Go.Proofs.YthbjcipdneminaaDoor
open Go.RowKit

theorem drew_in {w w' : World} {v1 v2 : Value} {ss : List ByteArray} {ps : List (Int × ByteArray)} (h : Drew9 w w' v1 v2 ss ps) : ∃ A B ca cb, v1 = .slice A ss.length ca ∧ v2 = .slice B ps.length cb ∧ DiskIn w' A B ss ps ∧ Lies9 A ca ∧ Lies9 B cb ∧ (ss.length ≤ 12 ∧ ps.length ≤ 41) ∧ Below w.heap.size w w' := by
  obtain ⟨A, B, ca, cb, e1, e2, hA, hB, hlA, hlB⟩ := lies1 h.own
  have h1 := h.len
  have h2 := h.len2
  exact ⟨A, B, ca, cb, e1, e2, ⟨hA, hB, by omega, by omega, fun s hs => by have := h.size s hs; omega, fun p hp => by have := h.size2 p hp; omega⟩, hlA, hlB, ⟨by omega, h2⟩, h.below⟩
/-- The orders of a region that draws meet: an append's result in a box of its own. -/
theorem wp_meet_ap {P : Program} {c : Code} {Q : Exit → Act → World → Prop} {a : Act} {w : World} (R : Nat → Option Addr → Nat → Option Addr → Nat → World → Prop) (A : Nat → Option Addr → Nat → Option Addr → Nat → Act)
    (hreg : c.wp P (fun e a' w' => e = .normal ∧ ∃ Y A7 k7 E7 j7, a' = A Y A7 k7 E7 j7 ∧ R Y A7 k7 E7 j7 w') a w) (himp : ∀ Y A7 k7 E7 j7 w', R Y A7 k7 E7 j7 w' → Q .normal (A Y A7 k7 E7 j7) w') : c.wp P Q a w :=
  Code.wp_mono (fun e a' w' ⟨h1, Y, A7, k7, E7, j7, h2, h3⟩ => by rw [h1, h2]; exact himp _ _ _ _ _ _ h3) hreg
theorem nn_le (ss : List ByteArray) (ps : List (Int × ByteArray)) : nnI ss ps ≤ 13 := by
  unfold nnI; split
  · have := lgI_len ss ps; omega
  · omega
theorem keepB {w w' : World} {a b : Addr} {x y : Value} (hb : Below w.heap.size w w') (h1 : w.cell? a = some x) (h2 : w.cell? b = some y) : w'.cell? a = some x ∧ w'.cell? b = some y ∧ Below w.heap.size w w' :=
  ⟨(hb.cell (World.block_lt_of_cell? _ _ h1)).trans h1, (hb.cell (World.block_lt_of_cell? _ _ h2)).trans h2, hb⟩
theorem keep1 {w w' : World} {a : Addr} {x : Value} (hb : Below w.heap.size w w') (h1 : w.cell? a = some x) : w'.cell? a = some x ∧ Below w.heap.size w w' :=
  ⟨(hb.cell (World.block_lt_of_cell? _ _ h1)).trans h1, hb⟩
theorem below_set2 {n X : Nat} {w w' : World} (hb : Below n w w') (h : n ≤ X) (a b : Value) : Below n w ((w'.setCell ⟨X, 0, none⟩ a).setCell ⟨X, 1, none⟩ b) := (hb.setCell h _).setCell h _
theorem put_ap {w w7 : World} {base : Nat} {A7 E7 : Option Addr} {k7 j7 : Nat} {S : List ByteArray} {Q : List (Int × ByteArray)} (z7 : w7.heap[w.heap.size]? = some (.cells #[.slice none 0 0, .slice none 0 0] 26 (0, 0)))
    (ho : OwnD w7 base (.slice A7 S.length k7) (.slice E7 Q.length j7) S Q) (hb : Below w.heap.size w w7) (hlt : w.heap.size < base) :
    ((w7.setCell ⟨w.heap.size, 0, none⟩ (.slice A7 S.length k7)).setCell ⟨w.heap.size, 1, none⟩ (.slice E7 Q.length j7)).heap[w.heap.size]? = some (.cells #[.slice A7 S.length k7, .slice E7 Q.length j7] 26 (0, 0)) ∧ Strs ((w7.setCell ⟨w.heap.size, 0, none⟩ (.slice A7 S.length k7)).setCell ⟨w.heap.size, 1, none⟩ (.slice E7 Q.length j7)) A7 S ∧ Puts ((w7.setCell ⟨w.heap.size, 0, none⟩ (.slice A7 S.length k7)).setCell ⟨w.heap.size, 1, none⟩ (.slice E7 Q.length j7)) E7 Q ∧ Below w.heap.size w ((w7.setCell ⟨w.heap.size, 0, none⟩ (.slice A7 S.length k7)).setCell ⟨w.heap.size, 1, none⟩ (.slice E7 Q.length j7)) :=
  ⟨heap_setCell_same _ _ 1 _ _ _ (heap_setCell_same _ _ 0 _ _ _ z7), OwnR.rd fSt_len ((ho.sure.cur hlt (gSet9 _ _ _ _)).cur hlt (gSet9 _ _ _ _)), OwnR.rd fPu_len ((ho.later.cur hlt (gSet9 _ _ _ _)).cur hlt (gSet9 _ _ _ _)), below_set2 hb (Nat.le_refl _) _ _⟩
theorem log_at {w : World} {A : Option Addr} {L R : List Rec} {r : Rec} (h : RdR 4 fRe w A (L ++ r :: R)) : ∃ b o, A = some ⟨b, o, none⟩ ∧ w.cell? ⟨b, o + L.length * 4 + 2, none⟩ = some (.int .i64 r.2.2.1) := by
  obtain ⟨b, o, e, -, -, h2, -⟩ := Re_at h (j := L.length) (by simp)
  exact ⟨b, o, e, by simpa using h2⟩
set_option maxRecDepth 100000 in
set_option maxHeartbeats 8000000 in
theorem fnAppended_small (A : Option Addr) (za : List Int) (ca : Nat) (B : Option Addr) (zb : List Int) (cb : Nat) (w : World) (hw : ESyn w) (ha : Byts w w.heap.size A za) (hb : Byts w w.heap.size B zb) (hl : za.length + zb.length ≤ 1048576) :
    Calls Tryd.prog 3 #[.slice A za.length ca, .slice B zb.length cb] w fun e w' => e = .returned (.bool true) ∧ Below w.heap.size w w' := by
  have HAy := Lib.hid ha
  have HBy := Lib.hid hb
  have HW := Lib.hid hw
  have hli : ¬ (1048576 : Int) < (za.length : Int) + (zb.length : Int) := by omega
  have hlb : zb.length ≤ 1048576 := by omega
  clear ha hb hw
  go_enter Tryd.func3, Tryd.ntmps3
  go_wp2_with fail
  refine (drawNextNo10 A za ca _ HAy.out).mono ?_
  rintro e w1 ⟨vd0, vd1, ss, ps, rfl, hdr⟩
  obtain ⟨A1, E1, c1, d1, rfl, rfl, hD, hlA, hlE, hld, hb1⟩ := drew_in hdr
  clear hdr
  have HD_0 := Lib.hid hD
  have HK_0 := Lib.hid HW.out
  have HLA := Lib.hid hlA
  have HLE := Lib.hid hlE
  clear hD hlA hlE
  have HK_1 := Lib.hid (esyn_stays _ _ HK_0.out hb1)
  have HB_1 := Lib.hid (hb1)
  clear HK_0
  clear hb1
  obtain ⟨w2, hw2⟩ : ∃ wn, w1.alloc (.cells #[.slice A1 ss.length c1, .slice E1 ps.length d1] 26) = wn := ⟨_, rfl⟩
  have hbx2 : Below w1.heap.size w1 w2 := by rw [← hw2]; exact gAlloc _ _
  have KD_20 : Hid (w2.heap[w1.heap.size]? = some (.cells #[.slice A1 ss.length c1, .slice E1 ps.length d1] 26 (0, 0))) := by rw [← hw2]; exact heap_alloc_new _ _
  have HK_3 := Lib.hid (esyn_stays _ _ HK_1.out hbx2)
  have HD_3 := Lib.hid (HD_0.out.below hbx2)
  have HB_3 := Lib.hid (below_more HB_1.out hbx2)
  clear HK_1 HD_0 HB_1 hbx2
  have hnn : nnI ss ps ≤ 13 := nn_le ss ps
  have cKD0 : w2.cell? ⟨w1.heap.size, 0, none⟩ = some (.slice A1 ss.length c1) := cell_of_row _ _ 0 _ _ _ KD_20.out
  have cKD1 : w2.cell? ⟨w1.heap.size, 1, none⟩ = some (.slice E1 ps.length d1) := cell_of_row _ _ 1 _ _ _ KD_20.out
  go_wp2_with fail
  clear hw2
  clear cKD0 cKD1
  refine (iNextNo_any A1 E1 ss ps c1 d1 _ HK_3.out HD_3.out HLA.out).mono ?_
  rintro e w4 ⟨rfl, hb2⟩
  have HK_5 := Lib.hid (esyn_stays _ _ HK_3.out hb2)
  have HD_5 := Lib.hid (HD_3.out.below hb2)
  have KD_5 := Lib.hid ((hb2.block _ (heap_lt KD_20.out)).trans KD_20.out)
  have HB_5 := Lib.hid (below_more HB_3.out hb2)
  clear HK_3 HD_3 KD_20 HB_3 hb2
  have cKD0 : w4.cell? ⟨w1.heap.size, 0, none⟩ = some (.slice A1 ss.length c1) := cell_of_row _ _ 0 _ _ _ KD_5.out
  have cKD1 : w4.cell? ⟨w1.heap.size, 1, none⟩ = some (.slice E1 ps.length d1) := cell_of_row _ _ 1 _ _ _ KD_5.out
  go_wp2_with fail
  clear cKD0 cKD1
  refine (sNextNo_any A1 E1 ss ps c1 d1 _ HD_5.out).mono ?_
  rintro e w6 ⟨rfl, hb3⟩
  have HK_7 := Lib.hid (esyn_stays _ _ HK_5.out hb3)
  have HD_7 := Lib.hid (HD_5.out.below hb3)
  have KD_7 := Lib.hid ((hb3.block _ (heap_lt KD_5.out)).trans KD_5.out)
  have HB_7 := Lib.hid (below_more HB_5.out hb3)
  clear HK_5 HD_5 KD_5 HB_5 hb3
  have cKD0 : w6.cell? ⟨w1.heap.size, 0, none⟩ = some (.slice A1 ss.length c1) := cell_of_row _ _ 0 _ _ _ KD_7.out
  have cKD1 : w6.cell? ⟨w1.heap.size, 1, none⟩ = some (.slice E1 ps.length d1) := cell_of_row _ _ 1 _ _ _ KD_7.out
  go_wp2_with fail
  clear cKD0 cKD1
  refine (iReadLog_any A1 E1 ss ps c1 d1 _ HK_7.out HD_7.out HLA.out).mono ?_
  rintro e w8 ⟨v4, rfl, ho4, hb4⟩
  obtain ⟨A4, c4, rfl, -, hr4⟩ := ho4.form fRe_len
  clear ho4
  have HL4_0 := Lib.hid hr4
  clear hr4
  have HK_9 := Lib.hid (esyn_stays _ _ HK_7.out hb4)
  have HD_9 := Lib.hid (HD_7.out.below hb4)
  have KD_9 := Lib.hid ((hb4.block _ (heap_lt KD_7.out)).trans KD_7.out)
  have HB_9 := Lib.hid (below_more HB_7.out hb4)
  clear HK_7 HD_7 KD_7 HB_7 hb4
  have cKD0 : w8.cell? ⟨w1.heap.size, 0, none⟩ = some (.slice A1 ss.length c1) := cell_of_row _ _ 0 _ _ _ KD_9.out
  have cKD1 : w8.cell? ⟨w1.heap.size, 1, none⟩ = some (.slice E1 ps.length d1) := cell_of_row _ _ 1 _ _ _ KD_9.out
  go_wp2_with fail
  clear cKD0 cKD1
  refine (sReadLog_any A1 E1 ss ps c1 d1 _ HD_9.out).mono ?_
  rintro e w10 ⟨v5, rfl, ho5, hb5⟩
  obtain ⟨A5, c5, rfl, -, hr5⟩ := ho5.form fRe_len
  clear ho5
  have HL5_0 := Lib.hid hr5
  clear hr5
  have HK_11 := Lib.hid (esyn_stays _ _ HK_9.out hb5)
  have HD_11 := Lib.hid (HD_9.out.below hb5)
  have KD_11 := Lib.hid ((hb5.block _ (heap_lt KD_9.out)).trans KD_9.out)
  have HL4_11 := Lib.hid (HL4_0.out.below hb5)
  have HB_11 := Lib.hid (below_more HB_9.out hb5)
  clear HK_9 HD_9 KD_9 HL4_0 HB_9 hb5
  have hll := rl_len ss ps
  have HRL : Hid (∀ B2 c2 w', RdR 4 fRe w' B2 (rlI ss ps) → RdR 4 fRe w' A4 (rlI ss ps) → Calls Tryd.prog 12 #[.slice A4 (rlI ss ps).length c4, .slice B2 (rlI ss ps).length c2] w' fun e w'' => e = .returned (.bool true) ∧ ∃ n, w'' = w'.drewN n) := fun B2 c2 w' h2 h4 => sameRe_self A4 B2 (rlI ss ps) c4 c2 w' h4 h2 (by omega)
  have HNX := Lib.hid (fun (h : nnOkB ss ps = true) (h2 : ps.length < 40) kd a hk ha => app_next (ss := ss) (ps := ps) h h2 (kd := kd) (a := a) hk ha)
  have cKD0 : w10.cell? ⟨w1.heap.size, 0, none⟩ = some (.slice A1 ss.length c1) := cell_of_row _ _ 0 _ _ _ KD_11.out
  have cKD1 : w10.cell? ⟨w1.heap.size, 1, none⟩ = some (.slice E1 ps.length d1) := cell_of_row _ _ 1 _ _ _ KD_11.out
  go_wp2_with fail
  clear cKD0 cKD1
  refine (HRL.out A5 c5 _ HL5_0.out HL4_11.out).mono ?_
  rintro e w12 ⟨rfl, n6, hd6⟩
  have hb6 : Below w10.heap.size w10 w12 := by rw [hd6]; exact gDrewN _
  clear hd6
  have HK_13 := Lib.hid (esyn_stays _ _ HK_11.out hb6)
  have HD_13 := Lib.hid (HD_11.out.below hb6)
  have KD_13 := Lib.hid ((hb6.block _ (heap_lt KD_11.out)).trans KD_11.out)
  have HL4_13 := Lib.hid (HL4_11.out.below hb6)
  have HL5_13 := Lib.hid (HL5_0.out.below hb6)
  have HB_13 := Lib.hid (below_more HB_11.out hb6)
  clear HK_11 HD_11 KD_11 HL4_11 HL5_0 HB_11 hb6
  generalize nnI ss ps = N at *
  cases hok : nnOkB ss ps
  · clear HNX HRL hok
    go_wp2_with fail
    refine (drawAppend10 B zb cb _ (byts_on9 HBy.out HB_13.out)).mono ?_
    rintro e w14 ⟨vu0, vu1, su, pu, no, kd, na, nb, rfl, hdr⟩
    obtain ⟨Au, Eu, cu, du, rfl, rfl, hDu, hlAu, hlEu, hlu, hbu⟩ := drew_in hdr
    clear hdr
    have HDu_0 := Lib.hid hDu
    have HLAu := Lib.hid hlAu
    have HLEu := Lib.hid hlEu
    clear hDu hlAu hlEu
    have HK_15 := Lib.hid (esyn_stays _ _ HK_13.out hbu)
    have HB_15 := Lib.hid (below_more HB_13.out hbu)
    clear HK_13 HB_13 hbu
    have HLu := Lib.hid (ap_len su pu (no, kd, na, nb))
    have hlu1 := hlu.1
    have hlu2 := hlu.2
    obtain ⟨w16, hw16⟩ : ∃ wn, w14.alloc (.cells #[.slice Au su.length cu, .slice Eu pu.length du] 26) = wn := ⟨_, rfl⟩
    have hbx16 : Below w14.heap.size w14 w16 := by rw [← hw16]; exact gAlloc _ _
    have KU_160 : Hid (w16.heap[w14.heap.size]? = some (.cells #[.slice Au su.length cu, .slice Eu pu.length du] 26 (0, 0))) := by rw [← hw16]; exact heap_alloc_new _ _
    have HK_17 := Lib.hid (esyn_stays _ _ HK_15.out hbx16)
    have HDu_17 := Lib.hid (HDu_0.out.below hbx16)
    have HB_17 := Lib.hid (below_more HB_15.out hbx16)
    clear HK_15 HDu_0 HB_15 hbx16
    have HIA := Lib.hid (fun w hd => iAppend_any Au Eu su pu cu du no kd na nb w hd HLAu.out HLEu.out)
    have HSA := Lib.hid (fun w hd => sAppend_any Au Eu su pu cu du no kd na nb w hd HLAu.out HLEu.out)
    generalize apOkB su pu (no, kd, na, nb) = ub at *
    generalize apS su pu (no, kd, na, nb) = US at *
    generalize apP su pu (no, kd, na, nb) = UP at *
    have cKU0 : w16.cell? ⟨w14.heap.size, 0, none⟩ = some (.slice Au su.length cu) := cell_of_row _ _ 0 _ _ _ KU_160.out
    have cKU1 : w16.cell? ⟨w14.heap.size, 1, none⟩ = some (.slice Eu pu.length du) := cell_of_row _ _ 1 _ _ _ KU_160.out
    go_wp2_with fail
    clear hw16
    clear cKU0 cKU1
    refine (HIA.out _ HDu_17.out).mono ?_
    rintro e w18 ⟨va0, va1, rfl, hoa, hba⟩
    obtain ⟨Aa, Ea, ka, ja, rfl, rfl, hra, hea, -, -⟩ := lies1 hoa
    clear hoa
    have HAa_0 := Lib.hid hra
    have HEa_0 := Lib.hid hea
    clear hra hea
    have HK_19 := Lib.hid (esyn_stays _ _ HK_17.out hba)
    have HDu_19 := Lib.hid (HDu_17.out.below hba)
    have KU_19 := Lib.hid ((hba.block _ (heap_lt KU_160.out)).trans KU_160.out)
    have HB_19 := Lib.hid (below_more HB_17.out hba)
    clear HK_17 HDu_17 KU_160 HB_17 hba
    obtain ⟨w20, hw20⟩ : ∃ wn, w18.alloc (.cells #[.slice Aa US.length ka, .slice Ea UP.length ja] 26) = wn := ⟨_, rfl⟩
    have hbx20 : Below w18.heap.size w18 w20 := by rw [← hw20]; exact gAlloc _ _
    have KA_200 : Hid (w20.heap[w18.heap.size]? = some (.cells #[.slice Aa US.length ka, .slice Ea UP.length ja] 26 (0, 0))) := by rw [← hw20]; exact heap_alloc_new _ _
    have HK_21 := Lib.hid (esyn_stays _ _ HK_19.out hbx20)
    have HDu_21 := Lib.hid (HDu_19.out.below hbx20)
    have KU_21 := Lib.hid ((hbx20.block _ (heap_lt KU_19.out)).trans KU_19.out)
    have HAa_21 := Lib.hid (HAa_0.out.below hbx20)
    have HEa_21 := Lib.hid (HEa_0.out.below hbx20)
    have HB_21 := Lib.hid (below_more HB_19.out hbx20)
    clear HK_19 HDu_19 KU_19 HAa_0 HEa_0 HB_19 hbx20
    have cKU0 : w20.cell? ⟨w14.heap.size, 0, none⟩ = some (.slice Au su.length cu) := cell_of_row _ _ 0 _ _ _ KU_21.out
    have cKU1 : w20.cell? ⟨w14.heap.size, 1, none⟩ = some (.slice Eu pu.length du) := cell_of_row _ _ 1 _ _ _ KU_21.out
    have cKA0 : w20.cell? ⟨w18.heap.size, 0, none⟩ = some (.slice Aa US.length ka) := cell_of_row _ _ 0 _ _ _ KA_200.out
    have cKA1 : w20.cell? ⟨w18.heap.size, 1, none⟩ = some (.slice Ea UP.length ja) := cell_of_row _ _ 1 _ _ _ KA_200.out
    go_wp2_with fail
    clear hw20
    clear cKU0 cKU1 cKA0 cKA1
    refine (HSA.out _ HDu_21.out).mono ?_
    rintro e w22 ⟨vb0, vb1, rfl, hob, hbb⟩
    obtain ⟨Ab, Eb, kb, jb, rfl, rfl, hrb, heb, -, -⟩ := lies1 hob
    clear hob
    have HAb_0 := Lib.hid hrb
    have HEb_0 := Lib.hid heb
    clear hrb heb
    have HK_23 := Lib.hid (esyn_stays _ _ HK_21.out hbb)
    have HDu_23 := Lib.hid (HDu_21.out.below hbb)
    have KU_23 := Lib.hid ((hbb.block _ (heap_lt KU_21.out)).trans KU_21.out)
    have HAa_23 := Lib.hid (HAa_21.out.below hbb)
    have HEa_23 := Lib.hid (HEa_21.out.below hbb)
    have KA_23 := Lib.hid ((hbb.block _ (heap_lt KA_200.out)).trans KA_200.out)
    have HB_23 := Lib.hid (below_more HB_21.out hbb)
    clear HK_21 HDu_21 KU_21 HAa_21 HEa_21 KA_200 HB_21 hbb
    obtain ⟨w24, hw24⟩ : ∃ wn, w22.alloc (.cells #[.slice Ab US.length kb, .slice Eb UP.length jb] 26) = wn := ⟨_, rfl⟩
    have hbx24 : Below w22.heap.size w22 w24 := by rw [← hw24]; exact gAlloc _ _
    have KB_240 : Hid (w24.heap[w22.heap.size]? = some (.cells #[.slice Ab US.length kb, .slice Eb UP.length jb] 26 (0, 0))) := by rw [← hw24]; exact heap_alloc_new _ _
    have HK_25 := Lib.hid (esyn_stays _ _ HK_23.out hbx24)
    have HDu_25 := Lib.hid (HDu_23.out.below hbx24)
    have KU_25 := Lib.hid ((hbx24.block _ (heap_lt KU_23.out)).trans KU_23.out)
    have HAa_25 := Lib.hid (HAa_23.out.below hbx24)
    have HEa_25 := Lib.hid (HEa_23.out.below hbx24)
    have KA_25 := Lib.hid ((hbx24.block _ (heap_lt KA_23.out)).trans KA_23.out)
    have HAb_25 := Lib.hid (HAb_0.out.below hbx24)
    have HEb_25 := Lib.hid (HEb_0.out.below hbx24)
    have HB_25 := Lib.hid (below_more HB_23.out hbx24)
    clear HK_23 HDu_23 KU_23 HAa_23 HEa_23 KA_23 HAb_0 HEb_0 HB_23 hbx24
    have cKA0 : w24.cell? ⟨w18.heap.size, 0, none⟩ = some (.slice Aa US.length ka) := cell_of_row _ _ 0 _ _ _ KA_25.out
    have cKA1 : w24.cell? ⟨w18.heap.size, 1, none⟩ = some (.slice Ea UP.length ja) := cell_of_row _ _ 1 _ _ _ KA_25.out
    have cKB0 : w24.cell? ⟨w22.heap.size, 0, none⟩ = some (.slice Ab US.length kb) := cell_of_row _ _ 0 _ _ _ KB_240.out
    have cKB1 : w24.cell? ⟨w22.heap.size, 1, none⟩ = some (.slice Eb UP.length jb) := cell_of_row _ _ 1 _ _ _ KB_240.out
    go_wp2_with fail
    clear hw24
    clear cKA0 cKA1 cKB0 cKB1
    refine (drawSumOf10 B zb cb _ (byts_on9 HBy.out HB_25.out)).mono ?_
    rintro e w26 ⟨y, rfl, hy, hbs⟩
    have HK_27 := Lib.hid (esyn_stays _ _ HK_25.out hbs)
    have HAa_27 := Lib.hid (HAa_25.out.below hbs)
    have HEa_27 := Lib.hid (HEa_25.out.below hbs)
    have KA_27 := Lib.hid ((hbs.block _ (heap_lt KA_25.out)).trans KA_25.out)
    have HAb_27 := Lib.hid (HAb_25.out.below hbs)
    have HEb_27 := Lib.hid (HEb_25.out.below hbs)
    have KB_27 := Lib.hid ((hbs.block _ (heap_lt KB_240.out)).trans KB_240.out)
    have HB_27 := Lib.hid (below_more HB_25.out hbs)
    clear HK_25 HAa_25 HEa_25 KA_25 HAb_25 HEb_25 KB_240 HB_25 hbs
    have HIS := Lib.hid (fun w => iSumOf_any y w (by omega))
    have HSS := Lib.hid (fun w => sSumOf_any y w (by omega))
    generalize suI y = un at *
    generalize suOkB y = uok at *
    have cKA0 : w26.cell? ⟨w18.heap.size, 0, none⟩ = some (.slice Aa US.length ka) := cell_of_row _ _ 0 _ _ _ KA_27.out
    have cKA1 : w26.cell? ⟨w18.heap.size, 1, none⟩ = some (.slice Ea UP.length ja) := cell_of_row _ _ 1 _ _ _ KA_27.out
    have cKB0 : w26.cell? ⟨w22.heap.size, 0, none⟩ = some (.slice Ab US.length kb) := cell_of_row _ _ 0 _ _ _ KB_27.out
    have cKB1 : w26.cell? ⟨w22.heap.size, 1, none⟩ = some (.slice Eb UP.length jb) := cell_of_row _ _ 1 _ _ _ KB_27.out
    go_wp2_with fail
    clear cKA0 cKA1 cKB0 cKB1
    refine (HIS.out _).mono ?_
    rintro e w28 ⟨rfl, hbi⟩
    have HK_29 := Lib.hid (esyn_stays _ _ HK_27.out hbi)
    have HAa_29 := Lib.hid (HAa_27.out.below hbi)
    have HEa_29 := Lib.hid (HEa_27.out.below hbi)
    have KA_29 := Lib.hid ((hbi.block _ (heap_lt KA_27.out)).trans KA_27.out)
    have HAb_29 := Lib.hid (HAb_27.out.below hbi)
    have HEb_29 := Lib.hid (HEb_27.out.below hbi)
    have KB_29 := Lib.hid ((hbi.block _ (heap_lt KB_27.out)).trans KB_27.out)
    have HB_29 := Lib.hid (below_more HB_27.out hbi)
    clear HK_27 HAa_27 HEa_27 KA_27 HAb_27 HEb_27 KB_27 HB_27 hbi
    have cKA0 : w28.cell? ⟨w18.heap.size, 0, none⟩ = some (.slice Aa US.length ka) := cell_of_row _ _ 0 _ _ _ KA_29.out
    have cKA1 : w28.cell? ⟨w18.heap.size, 1, none⟩ = some (.slice Ea UP.length ja) := cell_of_row _ _ 1 _ _ _ KA_29.out
    have cKB0 : w28.cell? ⟨w22.heap.size, 0, none⟩ = some (.slice Ab US.length kb) := cell_of_row _ _ 0 _ _ _ KB_29.out
    have cKB1 : w28.cell? ⟨w22.heap.size, 1, none⟩ = some (.slice Eb UP.length jb) := cell_of_row _ _ 1 _ _ _ KB_29.out
    go_wp2_with fail
    refine (HSS.out _).mono ?_
    rintro e w' ⟨rfl, rfl⟩
    go_wp2_with fail
    clear cKA0 cKA1 cKB0 cKB1
    refine (sameDisk_self Aa Ea Ab Eb US UP ka ja kb jb _ HAa_29.out HEa_29.out HAb_29.out HEb_29.out (by have := HLu.out.1; omega) (by have := HLu.out.2; omega)).mono ?_
    rintro e wz ⟨rfl, hbz⟩
    have HBz := Lib.hid (below_more HB_29.out hbz)
    clear hbz
    go_wp2_with fail
    go_ret
    exact ⟨rfl, HBz.out⟩
  · by_cases h40 : ps.length < 40
    · have h40i : (ps.length : Int) < 40 := by omega
      obtain ⟨v, hv⟩ : ∃ v, nuI zb zb.length = v := ⟨_, rfl⟩
      have hvl := nuI_lt zb zb.length
      rw [hv] at hvl
      obtain ⟨m, hm⟩ : ∃ m, v % 9 = m := ⟨_, rfl⟩
      obtain ⟨q, hq⟩ : ∃ q, v % 10000 = q := ⟨_, rfl⟩
      have hmi : (v : Int) % 9 = (m : Int) := by omega
      have hqi : (v : Int) % 10000 = (q : Int) := by omega
      have hkd1 : IntKind.i64.wrap (1 + (v : Int).tmod 9) = 1 + (m : Int) := by rw [Int.tmod_eq_emod_of_nonneg (by omega), IntKind.wrap_i64]; omega
      have hkd2 : IntKind.i64.wrap (1 + (v : Int) % 9) = 1 + (m : Int) := by rw [IntKind.wrap_i64]; omega
      have hkd3 : IntKind.i64.wrap (1 + (m : Int)) = 1 + (m : Int) := by rw [IntKind.wrap_i64]; omega
      have haq1 : (v : Int).tmod 10000 = (q : Int) := by rw [Int.tmod_eq_emod_of_nonneg (by omega)]; omega
      have hm8 : m ≤ 8 := by omega
      have hq9 : q ≤ 9999 := by omega
      clear hm hq
      have HNu : Hid (∀ w', Below w12.heap.size w12 w' → Calls Tryd.prog 14 #[.slice B zb.length cb] w' fun e w'' => e = .returned (.int .i64 (v : Nat)) ∧ w' = w'') := fun w' h => by rw [← hv]; exact numberOf_is B zb cb w' (byts_on9 HBy.out (below_more HB_13.out h)) hlb
      clear hv
      obtain ⟨ha1, ha2, hl3, hn4, hn12, R, hR⟩ := HNX.out hok h40 (1 + (m : Int)) (q : Int) ⟨by omega, by omega⟩ ⟨by omega, by omega⟩
      rw [← hl3] at hn4 hR
      clear hl3 HNX hok h40
      have HAp : Hid (∀ w', Below w12.heap.size w12 w' → ∀ kd a, kd = 1 + (m : Int) → a = (q : Int) → Calls Tryd.prog 13 #[diskV (.slice A1 ss.length c1) (.slice E1 ps.length d1), .int .i64 N, .int .i64 kd, .int .i64 a, .int .i64 7] w' fun e w'' => ∃ A7 k7 E7 j7, e = .returned (.tuple #[diskV (.slice A7 (apS ss ps ((N : Int), 1 + (m : Int), (q : Int), 7)).length k7) (.slice E7 (apP ss ps ((N : Int), 1 + (m : Int), (q : Int), 7)).length j7), .bool true]) ∧ OwnD w'' w'.heap.size (.slice A7 (apS ss ps ((N : Int), 1 + (m : Int), (q : Int), 7)).length k7) (.slice E7 (apP ss ps ((N : Int), 1 + (m : Int), (q : Int), 7)).length j7) (apS ss ps ((N : Int), 1 + (m : Int), (q : Int), 7)) (apP ss ps ((N : Int), 1 + (m : Int), (q : Int), 7)) ∧ Lies9 A7 k7 ∧ Below w'.heap.size w' w'') := fun w' h kd a hkd haq => by
        rw [hkd, haq]
        refine (iAppend_any A1 E1 ss ps c1 d1 _ _ _ _ w' (HD_13.out.below h) HLA.out HLE.out).mono ?_
        rintro e w'' ⟨v1, v2, he, ho, hb⟩
        obtain ⟨A7, E7, k7, j7, rfl, rfl, -, -, hl7, -⟩ := lies1 ho
        exact ⟨A7, k7, E7, j7, he.trans (by rw [ha1]), ho, hl7, hb⟩
      have HG7 := Lib.hid ha2
      have HR7 := Lib.hid hR
      clear ha1 ha2 hR
      generalize apS ss ps ((N : Int), 1 + (m : Int), (q : Int), 7) = S at *
      generalize apP ss ps ((N : Int), 1 + (m : Int), (q : Int), 7) = Q at *
      have HRS : Hid (∀ C2 c2 D2 e2 w', RdR 4 fRe w' C2 (rlI ss ps) → RdR 4 fRe w' D2 (rlI ss ps) → Calls Tryd.prog 12 #[.slice C2 (rlI ss ps).length c2, .slice D2 (rlI ss ps).length e2] w' fun e w'' => e = .returned (.bool true) ∧ ∃ n, w'' = w'.drewN n) := fun C2 c2 D2 e2 w' h2 h4 => sameRe_self C2 D2 (rlI ss ps) c2 e2 w' h2 h4 (by omega)
      clear HRL
      generalize rlI ss ps = L at *
      obtain ⟨p, hp⟩ : ∃ p, L.length = p := ⟨_, rfl⟩
      have HLp := Lib.hid hp
      rw [hp] at HRS hn4 hll
      have hN1 : (N : Int) - 1 = (p : Int) := by omega
      have hNp : (p : Int) + 1 = (N : Int) := by omega
      have hwp : IntKind.i64.wrap (p : Int) = (p : Int) := by rw [IntKind.wrap_i64]; omega
      rw [hp]
      clear hp hn4
      have cKD0 : w12.cell? ⟨w1.heap.size, 0, none⟩ = some (.slice A1 ss.length c1) := cell_of_row _ _ 0 _ _ _ KD_13.out
      have cKD1 : w12.cell? ⟨w1.heap.size, 1, none⟩ = some (.slice E1 ps.length d1) := cell_of_row _ _ 1 _ _ _ KD_13.out
      go_wp2_with fail
      apply wp_meet_ap (fun Y A7 k7 E7 j7 V => V.heap[Y]? = some (.cells #[.slice A7 S.length k7, .slice E7 Q.length j7] 26 (0, 0)) ∧ Strs V A7 S ∧ Puts V E7 Q ∧ Lies9 A7 k7 ∧ Below w12.heap.size w12 V)
      case hreg =>
        go_region_held3 (fun w' => w'.cell? ⟨w1.heap.size, 0, none⟩ = some (.slice A1 ss.length c1) ∧ w'.cell? ⟨w1.heap.size, 1, none⟩ = some (.slice E1 ps.length d1) ∧ Below w12.heap.size w12 w') (first | exact keepB gDrew cKD0 cKD1 | exact keepB (below_more gDrew (gAlloc _ _)) cKD0 cKD1 | exact keepB (below_more (gAlloc _ _) gDrew) cKD0 cKD1 | exact keepB hB7 cKD0 cKD1 | exact keepB (below_more hB7 (gAlloc _ _)) cKD0 cKD1 | exact keepB (below_set2 hB7 (Nat.le_refl _) _ _) cKD0 cKD1) (first
          | (go_at_call 14; refine (HNu.out _ (by first | exact gDrew | exact below_more gDrew (gAlloc _ _) | exact below_more (gAlloc _ _) gDrew)).mono ?_; rintro e w' ⟨rfl, rfl⟩)
          | (go_at_call 13; refine (HAp.out _ (by first | exact gDrew | exact below_more gDrew (gAlloc _ _) | exact below_more (gAlloc _ _) gDrew) _ _ (by first | rfl | exact hkd1 | exact hkd2 | exact hkd3) (by first | rfl | exact haq1)).mono ?_; rintro e w7 ⟨A7, k7, E7, j7, rfl, ho7, hl7, hb7⟩; have hB7 : Below w12.heap.size w12 w7 := (by first | exact below_more gDrew hb7 | exact below_more (below_more gDrew (gAlloc _ _)) hb7 | exact below_more (below_more (gAlloc _ _) gDrew) hb7); (try (have z7 : w7.heap[w12.heap.size]? = some (.cells #[.slice none 0 0, .slice none 0 0] 26 (0, 0)) := (by first | exact box_to hb7 (heap_alloc_new _ _) | exact box_to hb7 (alloc_atD _ _)); have r0 := cell_of_row w7 _ 0 _ _ _ z7; have r1 := cell_of_row w7 _ 1 _ _ _ z7; have f0 := frozen_of_row w7 _ 0 _ _ z7; have f1 := frozen_of_row w7 _ 1 _ _ z7))))
        all_goals
          first
            | (obtain ⟨Y, hY⟩ : ∃ Y, w7.heap.size = Y := ⟨_, rfl⟩; have e1 := heap_alloc_new w7 (.cells #[.slice A7 S.length k7, .slice E7 Q.length j7] 26); rw [hY] at e1 ⊢; exact ⟨rfl, Y, A7, k7, E7, j7, rfl, e1, (OwnR.rd fSt_len ho7.sure).below (gAlloc _ _), (OwnR.rd fPu_len ho7.later).below (gAlloc _ _), hl7, below_more hB7 (gAlloc _ _)⟩)
            | (obtain ⟨e1, e2, e3, e4⟩ := put_ap z7 ho7 hB7 (by simp); obtain ⟨Y, hY⟩ : ∃ Y, w12.heap.size = Y := ⟨_, rfl⟩; rw [hY] at e1 e2 e3 e4 ⊢; exact ⟨rfl, Y, A7, k7, E7, j7, rfl, e1, e2, e3, hl7, by rw [← hY] at e4 ⊢; exact e4⟩)
      case himp =>
        clear cKD0 cKD1
        rintro Y A7 k7 E7 j7 V ⟨hbx, hrs, hrq, hl7, hbV⟩
        have HDA_0 := Lib.hid (disk_in hrs hrq HG7.out)
        have HL7 := Lib.hid hl7
        have KA_0 := Lib.hid hbx
        clear hrs hrq hl7 hbx HAp
        have HK_14 := Lib.hid (esyn_stays _ _ HK_13.out hbV)
        have HL4_14 := Lib.hid (HL4_13.out.below hbV)
        have HB_14 := Lib.hid (below_more HB_13.out hbV)
        clear HK_13 HL4_13 HB_13
        have HNv : Hid (∀ w', Below V.heap.size V w' → Calls Tryd.prog 14 #[.slice B zb.length cb] w' fun e w'' => e = .returned (.int .i64 (v : Nat)) ∧ w' = w'') := fun w' h => HNu.out w' (below_more hbV h)
        clear HNu hbV
        have HIX := Lib.hid (fun w hk hd => iReadLog_any A7 E7 S Q k7 j7 w hk hd HL7.out)
        rw [HG7.out, HR7.out] at HIX
        clear HG7 HR7
        have cKA0 : V.cell? ⟨Y, 0, none⟩ = some (.slice A7 S.length k7) := cell_of_row _ _ 0 _ _ _ KA_0.out
        have cKA1 : V.cell? ⟨Y, 1, none⟩ = some (.slice E7 Q.length j7) := cell_of_row _ _ 1 _ _ _ KA_0.out
        go_wp2_with fail
        clear cKA0 cKA1
        refine (HIX.out _ HK_14.out HDA_0.out).mono ?_
        rintro e w15 ⟨v8, rfl, ho8, hb8⟩
        obtain ⟨A8, c8, rfl, hle8, hr8⟩ := ho8.form fRe_len
        clear ho8
        have HNw : Hid (∀ w', Below w15.heap.size w15 w' → Calls Tryd.prog 14 #[.slice B zb.length cb] w' fun e w'' => e = .returned (.int .i64 (v : Nat)) ∧ w' = w'') := fun w' h => HNv.out w' (below_more hb8 h)
        clear HNv
        have HK_16 := Lib.hid (esyn_stays _ _ HK_14.out hb8)
        have HL4_16 := Lib.hid (HL4_14.out.below hb8)
        have HB_16 := Lib.hid (below_more HB_14.out hb8)
        clear HK_14 HL4_14 HB_14 hb8
        obtain ⟨n8, hn8⟩ : ∃ n8, (L ++ ((N : Int), 1 + (m : Int), (q : Int), 7) :: R).length = n8 := ⟨_, rfl⟩
        have hn8p : p + 1 ≤ n8 := by rw [← hn8, List.length_append, HLp.out, List.length_cons]; omega
        obtain ⟨b8, o8, rfl, h8c⟩ := log_at hr8
        rw [HLp.out] at h8c
        simp only at h8c
        have HSm : Hid (∀ n, Calls Tryd.prog 12 #[.slice (some ⟨b8, o8, none⟩) p c8, .slice A4 p c4] (w15.drewN n) fun e w'' => e = .returned (.bool true) ∧ ∃ m, w'' = (w15.drewN n).drewN m) := fun n => HRS.out _ c8 A4 c4 _ (hr8.pre.below (gDrewN _)) (HL4_16.out.below (gDrewN _))
        have HNq : Hid (∀ n, Calls Tryd.prog 14 #[.slice B zb.length cb] (w15.drewN n) fun e w'' => e = .returned (.int .i64 (v : Nat)) ∧ w'' = w15.drewN n) := fun n => (HNw.out _ (gDrewN _)).mono fun _ _ ⟨he, hn⟩ => ⟨he, hn.symm⟩
        rw [hn8] at hle8 ⊢
        clear hr8 HRS hn8 HIX HNw
        have hx1 : decide ((n8 : Int) < (N : Int)) = false := by rw [decide_eq_false_iff_not]; omega
        have hx1n : decide (n8 < N) = false := by rw [decide_eq_false_iff_not]; omega
        have hx2 : (p : Int) ≤ (c8 : Int) := by omega
        have hx3 : (p : Int) < (n8 : Int) := by omega
        have hx4 : (0 : Int) ≤ (p : Int) := by omega
        have hx5 : ¬ (p : Int) < 0 := by omega
        have hx6 : ¬ (c8 : Int) < (p : Int) := by omega
        go_wp2_with fail
        go_quiet (first
          | (go_at_call 12; exact Calls.quiet_of (HSm.out _))
          | (go_at_call 14; exact Calls.quiet_of_same (HNq.out _)))
        have hbq : Below w15.heap.size w15 (w15.drewN nq) := gDrewN _
        clear HSm HNq hle8 hx1 hx1n hx2 hx3 hx4 hx5 hx6 hn8p h8c hmi hqi hkd1 hkd2 hkd3 haq1 hm8 hq9 hN1 hNp hwp HLp
        skip
        have HK_17 := Lib.hid (esyn_stays _ _ HK_16.out hbq)
        have HB_17 := Lib.hid (below_more HB_16.out hbq)
        clear HK_16 HB_16 hbq
        go_wp2_with fail
        refine (drawAppend10 B zb cb _ (byts_on9 HBy.out HB_17.out)).mono ?_
        rintro e w18 ⟨vu0, vu1, su, pu, no, kd, na, nb, rfl, hdr⟩
        obtain ⟨Au, Eu, cu, du, rfl, rfl, hDu, hlAu, hlEu, hlu, hbu⟩ := drew_in hdr
        clear hdr
        have HDu_0 := Lib.hid hDu
        have HLAu := Lib.hid hlAu
        have HLEu := Lib.hid hlEu
        clear hDu hlAu hlEu
        have HK_19 := Lib.hid (esyn_stays _ _ HK_17.out hbu)
        have HB_19 := Lib.hid (below_more HB_17.out hbu)
        clear HK_17 HB_17 hbu
        have HLu := Lib.hid (ap_len su pu (no, kd, na, nb))
        have hlu1 := hlu.1
        have hlu2 := hlu.2
        obtain ⟨w20, hw20⟩ : ∃ wn, w18.alloc (.cells #[.slice Au su.length cu, .slice Eu pu.length du] 26) = wn := ⟨_, rfl⟩
        have hbx20 : Below w18.heap.size w18 w20 := by rw [← hw20]; exact gAlloc _ _
        have KU_200 : Hid (w20.heap[w18.heap.size]? = some (.cells #[.slice Au su.length cu, .slice Eu pu.length du] 26 (0, 0))) := by rw [← hw20]; exact heap_alloc_new _ _
        have HK_21 := Lib.hid (esyn_stays _ _ HK_19.out hbx20)
        have HDu_21 := Lib.hid (HDu_0.out.below hbx20)
        have HB_21 := Lib.hid (below_more HB_19.out hbx20)
        clear HK_19 HDu_0 HB_19 hbx20
        have HIA := Lib.hid (fun w hd => iAppend_any Au Eu su pu cu du no kd na nb w hd HLAu.out HLEu.out)
        have HSA := Lib.hid (fun w hd => sAppend_any Au Eu su pu cu du no kd na nb w hd HLAu.out HLEu.out)
        generalize apOkB su pu (no, kd, na, nb) = ub at *
        generalize apS su pu (no, kd, na, nb) = US at *
        generalize apP su pu (no, kd, na, nb) = UP at *
        have cKU0 : w20.cell? ⟨w18.heap.size, 0, none⟩ = some (.slice Au su.length cu) := cell_of_row _ _ 0 _ _ _ KU_200.out
        have cKU1 : w20.cell? ⟨w18.heap.size, 1, none⟩ = some (.slice Eu pu.length du) := cell_of_row _ _ 1 _ _ _ KU_200.out
        go_wp2_with fail
        clear hw20
        clear cKU0 cKU1
        refine (HIA.out _ HDu_21.out).mono ?_
        rintro e w22 ⟨va0, va1, rfl, hoa, hba⟩
        obtain ⟨Aa, Ea, ka, ja, rfl, rfl, hra, hea, -, -⟩ := lies1 hoa
        clear hoa
        have HAa_0 := Lib.hid hra
        have HEa_0 := Lib.hid hea
        clear hra hea
        have HK_23 := Lib.hid (esyn_stays _ _ HK_21.out hba)
        have HDu_23 := Lib.hid (HDu_21.out.below hba)
        have KU_23 := Lib.hid ((hba.block _ (heap_lt KU_200.out)).trans KU_200.out)
        have HB_23 := Lib.hid (below_more HB_21.out hba)
        clear HK_21 HDu_21 KU_200 HB_21 hba
        obtain ⟨w24, hw24⟩ : ∃ wn, w22.alloc (.cells #[.slice Aa US.length ka, .slice Ea UP.length ja] 26) = wn := ⟨_, rfl⟩
        have hbx24 : Below w22.heap.size w22 w24 := by rw [← hw24]; exact gAlloc _ _
        have KA_240 : Hid (w24.heap[w22.heap.size]? = some (.cells #[.slice Aa US.length ka, .slice Ea UP.length ja] 26 (0, 0))) := by rw [← hw24]; exact heap_alloc_new _ _
        have HK_25 := Lib.hid (esyn_stays _ _ HK_23.out hbx24)
        have HDu_25 := Lib.hid (HDu_23.out.below hbx24)
        have KU_25 := Lib.hid ((hbx24.block _ (heap_lt KU_23.out)).trans KU_23.out)
        have HAa_25 := Lib.hid (HAa_0.out.below hbx24)
        have HEa_25 := Lib.hid (HEa_0.out.below hbx24)
        have HB_25 := Lib.hid (below_more HB_23.out hbx24)
        clear HK_23 HDu_23 KU_23 HAa_0 HEa_0 HB_23 hbx24
        have cKU0 : w24.cell? ⟨w18.heap.size, 0, none⟩ = some (.slice Au su.length cu) := cell_of_row _ _ 0 _ _ _ KU_25.out
        have cKU1 : w24.cell? ⟨w18.heap.size, 1, none⟩ = some (.slice Eu pu.length du) := cell_of_row _ _ 1 _ _ _ KU_25.out
        have cKA0 : w24.cell? ⟨w22.heap.size, 0, none⟩ = some (.slice Aa US.length ka) := cell_of_row _ _ 0 _ _ _ KA_240.out
        have cKA1 : w24.cell? ⟨w22.heap.size, 1, none⟩ = some (.slice Ea UP.length ja) := cell_of_row _ _ 1 _ _ _ KA_240.out
        go_wp2_with fail
        clear hw24
        clear cKU0 cKU1 cKA0 cKA1
        refine (HSA.out _ HDu_25.out).mono ?_
        rintro e w26 ⟨vb0, vb1, rfl, hob, hbb⟩
        obtain ⟨Ab, Eb, kb, jb, rfl, rfl, hrb, heb, -, -⟩ := lies1 hob
        clear hob
        have HAb_0 := Lib.hid hrb
        have HEb_0 := Lib.hid heb
        clear hrb heb
        have HK_27 := Lib.hid (esyn_stays _ _ HK_25.out hbb)
        have HDu_27 := Lib.hid (HDu_25.out.below hbb)
        have KU_27 := Lib.hid ((hbb.block _ (heap_lt KU_25.out)).trans KU_25.out)
        have HAa_27 := Lib.hid (HAa_25.out.below hbb)
        have HEa_27 := Lib.hid (HEa_25.out.below hbb)
        have KA_27 := Lib.hid ((hbb.block _ (heap_lt KA_240.out)).trans KA_240.out)
        have HB_27 := Lib.hid (below_more HB_25.out hbb)
        clear HK_25 HDu_25 KU_25 HAa_25 HEa_25 KA_240 HB_25 hbb
        obtain ⟨w28, hw28⟩ : ∃ wn, w26.alloc (.cells #[.slice Ab US.length kb, .slice Eb UP.length jb] 26) = wn := ⟨_, rfl⟩
        have hbx28 : Below w26.heap.size w26 w28 := by rw [← hw28]; exact gAlloc _ _
        have KB_280 : Hid (w28.heap[w26.heap.size]? = some (.cells #[.slice Ab US.length kb, .slice Eb UP.length jb] 26 (0, 0))) := by rw [← hw28]; exact heap_alloc_new _ _
        have HK_29 := Lib.hid (esyn_stays _ _ HK_27.out hbx28)
        have HDu_29 := Lib.hid (HDu_27.out.below hbx28)
        have KU_29 := Lib.hid ((hbx28.block _ (heap_lt KU_27.out)).trans KU_27.out)
        have HAa_29 := Lib.hid (HAa_27.out.below hbx28)
        have HEa_29 := Lib.hid (HEa_27.out.below hbx28)
        have KA_29 := Lib.hid ((hbx28.block _ (heap_lt KA_27.out)).trans KA_27.out)
        have HAb_29 := Lib.hid (HAb_0.out.below hbx28)
        have HEb_29 := Lib.hid (HEb_0.out.below hbx28)
        have HB_29 := Lib.hid (below_more HB_27.out hbx28)
        clear HK_27 HDu_27 KU_27 HAa_27 HEa_27 KA_27 HAb_0 HEb_0 HB_27 hbx28
        have cKA0 : w28.cell? ⟨w22.heap.size, 0, none⟩ = some (.slice Aa US.length ka) := cell_of_row _ _ 0 _ _ _ KA_29.out
        have cKA1 : w28.cell? ⟨w22.heap.size, 1, none⟩ = some (.slice Ea UP.length ja) := cell_of_row _ _ 1 _ _ _ KA_29.out
        have cKB0 : w28.cell? ⟨w26.heap.size, 0, none⟩ = some (.slice Ab US.length kb) := cell_of_row _ _ 0 _ _ _ KB_280.out
        have cKB1 : w28.cell? ⟨w26.heap.size, 1, none⟩ = some (.slice Eb UP.length jb) := cell_of_row _ _ 1 _ _ _ KB_280.out
        go_wp2_with fail
        clear hw28
        clear cKA0 cKA1 cKB0 cKB1
        refine (drawSumOf10 B zb cb _ (byts_on9 HBy.out HB_29.out)).mono ?_
        rintro e w30 ⟨y, rfl, hy, hbs⟩
        have HK_31 := Lib.hid (esyn_stays _ _ HK_29.out hbs)
        have HAa_31 := Lib.hid (HAa_29.out.below hbs)
        have HEa_31 := Lib.hid (HEa_29.out.below hbs)
        have KA_31 := Lib.hid ((hbs.block _ (heap_lt KA_29.out)).trans KA_29.out)
        have HAb_31 := Lib.hid (HAb_29.out.below hbs)
        have HEb_31 := Lib.hid (HEb_29.out.below hbs)
        have KB_31 := Lib.hid ((hbs.block _ (heap_lt KB_280.out)).trans KB_280.out)
        have HB_31 := Lib.hid (below_more HB_29.out hbs)
        clear HK_29 HAa_29 HEa_29 KA_29 HAb_29 HEb_29 KB_280 HB_29 hbs
        have HIS := Lib.hid (fun w => iSumOf_any y w (by omega))
        have HSS := Lib.hid (fun w => sSumOf_any y w (by omega))
        generalize suI y = un at *
        generalize suOkB y = uok at *
        have cKA0 : w30.cell? ⟨w22.heap.size, 0, none⟩ = some (.slice Aa US.length ka) := cell_of_row _ _ 0 _ _ _ KA_31.out
        have cKA1 : w30.cell? ⟨w22.heap.size, 1, none⟩ = some (.slice Ea UP.length ja) := cell_of_row _ _ 1 _ _ _ KA_31.out
        have cKB0 : w30.cell? ⟨w26.heap.size, 0, none⟩ = some (.slice Ab US.length kb) := cell_of_row _ _ 0 _ _ _ KB_31.out
        have cKB1 : w30.cell? ⟨w26.heap.size, 1, none⟩ = some (.slice Eb UP.length jb) := cell_of_row _ _ 1 _ _ _ KB_31.out
        go_wp2_with fail
        clear cKA0 cKA1 cKB0 cKB1
        refine (HIS.out _).mono ?_
        rintro e w32 ⟨rfl, hbi⟩
        have HK_33 := Lib.hid (esyn_stays _ _ HK_31.out hbi)
        have HAa_33 := Lib.hid (HAa_31.out.below hbi)
        have HEa_33 := Lib.hid (HEa_31.out.below hbi)
        have KA_33 := Lib.hid ((hbi.block _ (heap_lt KA_31.out)).trans KA_31.out)
        have HAb_33 := Lib.hid (HAb_31.out.below hbi)
        have HEb_33 := Lib.hid (HEb_31.out.below hbi)
        have KB_33 := Lib.hid ((hbi.block _ (heap_lt KB_31.out)).trans KB_31.out)
        have HB_33 := Lib.hid (below_more HB_31.out hbi)
        clear HK_31 HAa_31 HEa_31 KA_31 HAb_31 HEb_31 KB_31 HB_31 hbi
        have cKA0 : w32.cell? ⟨w22.heap.size, 0, none⟩ = some (.slice Aa US.length ka) := cell_of_row _ _ 0 _ _ _ KA_33.out
        have cKA1 : w32.cell? ⟨w22.heap.size, 1, none⟩ = some (.slice Ea UP.length ja) := cell_of_row _ _ 1 _ _ _ KA_33.out
        have cKB0 : w32.cell? ⟨w26.heap.size, 0, none⟩ = some (.slice Ab US.length kb) := cell_of_row _ _ 0 _ _ _ KB_33.out
        have cKB1 : w32.cell? ⟨w26.heap.size, 1, none⟩ = some (.slice Eb UP.length jb) := cell_of_row _ _ 1 _ _ _ KB_33.out
        go_wp2_with fail
        refine (HSS.out _).mono ?_
        rintro e w' ⟨rfl, rfl⟩
        go_wp2_with fail
        clear cKA0 cKA1 cKB0 cKB1
        refine (sameDisk_self Aa Ea Ab Eb US UP ka ja kb jb _ HAa_33.out HEa_33.out HAb_33.out HEb_33.out (by have := HLu.out.1; omega) (by have := HLu.out.2; omega)).mono ?_
        rintro e wz ⟨rfl, hbz⟩
        have HBz := Lib.hid (below_more HB_33.out hbz)
        clear hbz
        go_wp2_with fail
        go_ret
        exact ⟨rfl, HBz.out⟩
    · have h40i : ¬ (ps.length : Int) < 40 := by omega
      clear HNX HRL hok h40
      have cKD0 : w12.cell? ⟨w1.heap.size, 0, none⟩ = some (.slice A1 ss.length c1) := cell_of_row _ _ 0 _ _ _ KD_13.out
      have cKD1 : w12.cell? ⟨w1.heap.size, 1, none⟩ = some (.slice E1 ps.length d1) := cell_of_row _ _ 1 _ _ _ KD_13.out
      go_wp2_with fail
      clear cKD0 cKD1
      refine (drawAppend10 B zb cb _ (byts_on9 HBy.out HB_13.out)).mono ?_
      rintro e w14 ⟨vu0, vu1, su, pu, no, kd, na, nb, rfl, hdr⟩
      obtain ⟨Au, Eu, cu, du, rfl, rfl, hDu, hlAu, hlEu, hlu, hbu⟩ := drew_in hdr
      clear hdr
      have HDu_0 := Lib.hid hDu
      have HLAu := Lib.hid hlAu
      have HLEu := Lib.hid hlEu
      clear hDu hlAu hlEu
      have HK_15 := Lib.hid (esyn_stays _ _ HK_13.out hbu)
      have KD_15 := Lib.hid ((hbu.block _ (heap_lt KD_13.out)).trans KD_13.out)
      have HB_15 := Lib.hid (below_more HB_13.out hbu)
      clear HK_13 KD_13 HB_13 hbu
      have HLu := Lib.hid (ap_len su pu (no, kd, na, nb))
      have hlu1 := hlu.1
      have hlu2 := hlu.2
      obtain ⟨w16, hw16⟩ : ∃ wn, w14.alloc (.cells #[.slice Au su.length cu, .slice Eu pu.length du] 26) = wn := ⟨_, rfl⟩
      have hbx16 : Below w14.heap.size w14 w16 := by rw [← hw16]; exact gAlloc _ _
      have KU_160 : Hid (w16.heap[w14.heap.size]? = some (.cells #[.slice Au su.length cu, .slice Eu pu.length du] 26 (0, 0))) := by rw [← hw16]; exact heap_alloc_new _ _
      have HK_17 := Lib.hid (esyn_stays _ _ HK_15.out hbx16)
      have HDu_17 := Lib.hid (HDu_0.out.below hbx16)
      have HB_17 := Lib.hid (below_more HB_15.out hbx16)
      clear HK_15 HDu_0 HB_15 hbx16
      have HIA := Lib.hid (fun w hd => iAppend_any Au Eu su pu cu du no kd na nb w hd HLAu.out HLEu.out)
      have HSA := Lib.hid (fun w hd => sAppend_any Au Eu su pu cu du no kd na nb w hd HLAu.out HLEu.out)
      generalize apOkB su pu (no, kd, na, nb) = ub at *
      generalize apS su pu (no, kd, na, nb) = US at *
      generalize apP su pu (no, kd, na, nb) = UP at *
      have cKU0 : w16.cell? ⟨w14.heap.size, 0, none⟩ = some (.slice Au su.length cu) := cell_of_row _ _ 0 _ _ _ KU_160.out
      have cKU1 : w16.cell? ⟨w14.heap.size, 1, none⟩ = some (.slice Eu pu.length du) := cell_of_row _ _ 1 _ _ _ KU_160.out
      go_wp2_with fail
      clear hw16
      clear cKU0 cKU1
      refine (HIA.out _ HDu_17.out).mono ?_
      rintro e w18 ⟨va0, va1, rfl, hoa, hba⟩
      obtain ⟨Aa, Ea, ka, ja, rfl, rfl, hra, hea, -, -⟩ := lies1 hoa
      clear hoa
      have HAa_0 := Lib.hid hra
      have HEa_0 := Lib.hid hea
      clear hra hea
      have HK_19 := Lib.hid (esyn_stays _ _ HK_17.out hba)
      have HDu_19 := Lib.hid (HDu_17.out.below hba)
      have KU_19 := Lib.hid ((hba.block _ (heap_lt KU_160.out)).trans KU_160.out)
      have HB_19 := Lib.hid (below_more HB_17.out hba)
      clear HK_17 HDu_17 KU_160 HB_17 hba
      obtain ⟨w20, hw20⟩ : ∃ wn, w18.alloc (.cells #[.slice Aa US.length ka, .slice Ea UP.length ja] 26) = wn := ⟨_, rfl⟩
      have hbx20 : Below w18.heap.size w18 w20 := by rw [← hw20]; exact gAlloc _ _
      have KA_200 : Hid (w20.heap[w18.heap.size]? = some (.cells #[.slice Aa US.length ka, .slice Ea UP.length ja] 26 (0, 0))) := by rw [← hw20]; exact heap_alloc_new _ _
      have HK_21 := Lib.hid (esyn_stays _ _ HK_19.out hbx20)
      have HDu_21 := Lib.hid (HDu_19.out.below hbx20)
      have KU_21 := Lib.hid ((hbx20.block _ (heap_lt KU_19.out)).trans KU_19.out)
      have HAa_21 := Lib.hid (HAa_0.out.below hbx20)
      have HEa_21 := Lib.hid (HEa_0.out.below hbx20)
      have HB_21 := Lib.hid (below_more HB_19.out hbx20)
      clear HK_19 HDu_19 KU_19 HAa_0 HEa_0 HB_19 hbx20
      have cKU0 : w20.cell? ⟨w14.heap.size, 0, none⟩ = some (.slice Au su.length cu) := cell_of_row _ _ 0 _ _ _ KU_21.out
      have cKU1 : w20.cell? ⟨w14.heap.size, 1, none⟩ = some (.slice Eu pu.length du) := cell_of_row _ _ 1 _ _ _ KU_21.out
      have cKA0 : w20.cell? ⟨w18.heap.size, 0, none⟩ = some (.slice Aa US.length ka) := cell_of_row _ _ 0 _ _ _ KA_200.out
      have cKA1 : w20.cell? ⟨w18.heap.size, 1, none⟩ = some (.slice Ea UP.length ja) := cell_of_row _ _ 1 _ _ _ KA_200.out
      go_wp2_with fail
      clear hw20
      clear cKU0 cKU1 cKA0 cKA1
      refine (HSA.out _ HDu_21.out).mono ?_
      rintro e w22 ⟨vb0, vb1, rfl, hob, hbb⟩
      obtain ⟨Ab, Eb, kb, jb, rfl, rfl, hrb, heb, -, -⟩ := lies1 hob
      clear hob
      have HAb_0 := Lib.hid hrb
      have HEb_0 := Lib.hid heb
      clear hrb heb
      have HK_23 := Lib.hid (esyn_stays _ _ HK_21.out hbb)
      have HDu_23 := Lib.hid (HDu_21.out.below hbb)
      have KU_23 := Lib.hid ((hbb.block _ (heap_lt KU_21.out)).trans KU_21.out)
      have HAa_23 := Lib.hid (HAa_21.out.below hbb)
      have HEa_23 := Lib.hid (HEa_21.out.below hbb)
      have KA_23 := Lib.hid ((hbb.block _ (heap_lt KA_200.out)).trans KA_200.out)
      have HB_23 := Lib.hid (below_more HB_21.out hbb)
      clear HK_21 HDu_21 KU_21 HAa_21 HEa_21 KA_200 HB_21 hbb
      obtain ⟨w24, hw24⟩ : ∃ wn, w22.alloc (.cells #[.slice Ab US.length kb, .slice Eb UP.length jb] 26) = wn := ⟨_, rfl⟩
      have hbx24 : Below w22.heap.size w22 w24 := by rw [← hw24]; exact gAlloc _ _
      have KB_240 : Hid (w24.heap[w22.heap.size]? = some (.cells #[.slice Ab US.length kb, .slice Eb UP.length jb] 26 (0, 0))) := by rw [← hw24]; exact heap_alloc_new _ _
      have HK_25 := Lib.hid (esyn_stays _ _ HK_23.out hbx24)
      have HDu_25 := Lib.hid (HDu_23.out.below hbx24)
      have KU_25 := Lib.hid ((hbx24.block _ (heap_lt KU_23.out)).trans KU_23.out)
      have HAa_25 := Lib.hid (HAa_23.out.below hbx24)
      have HEa_25 := Lib.hid (HEa_23.out.below hbx24)
      have KA_25 := Lib.hid ((hbx24.block _ (heap_lt KA_23.out)).trans KA_23.out)
      have HAb_25 := Lib.hid (HAb_0.out.below hbx24)
      have HEb_25 := Lib.hid (HEb_0.out.below hbx24)
      have HB_25 := Lib.hid (below_more HB_23.out hbx24)
      clear HK_23 HDu_23 KU_23 HAa_23 HEa_23 KA_23 HAb_0 HEb_0 HB_23 hbx24
      have cKA0 : w24.cell? ⟨w18.heap.size, 0, none⟩ = some (.slice Aa US.length ka) := cell_of_row _ _ 0 _ _ _ KA_25.out
      have cKA1 : w24.cell? ⟨w18.heap.size, 1, none⟩ = some (.slice Ea UP.length ja) := cell_of_row _ _ 1 _ _ _ KA_25.out
      have cKB0 : w24.cell? ⟨w22.heap.size, 0, none⟩ = some (.slice Ab US.length kb) := cell_of_row _ _ 0 _ _ _ KB_240.out
      have cKB1 : w24.cell? ⟨w22.heap.size, 1, none⟩ = some (.slice Eb UP.length jb) := cell_of_row _ _ 1 _ _ _ KB_240.out
      go_wp2_with fail
      clear hw24
      clear cKA0 cKA1 cKB0 cKB1
      refine (drawSumOf10 B zb cb _ (byts_on9 HBy.out HB_25.out)).mono ?_
      rintro e w26 ⟨y, rfl, hy, hbs⟩
      have HK_27 := Lib.hid (esyn_stays _ _ HK_25.out hbs)
      have HAa_27 := Lib.hid (HAa_25.out.below hbs)
      have HEa_27 := Lib.hid (HEa_25.out.below hbs)
      have KA_27 := Lib.hid ((hbs.block _ (heap_lt KA_25.out)).trans KA_25.out)
      have HAb_27 := Lib.hid (HAb_25.out.below hbs)
      have HEb_27 := Lib.hid (HEb_25.out.below hbs)
      have KB_27 := Lib.hid ((hbs.block _ (heap_lt KB_240.out)).trans KB_240.out)
      have HB_27 := Lib.hid (below_more HB_25.out hbs)
      clear HK_25 HAa_25 HEa_25 KA_25 HAb_25 HEb_25 KB_240 HB_25 hbs
      have HIS := Lib.hid (fun w => iSumOf_any y w (by omega))
      have HSS := Lib.hid (fun w => sSumOf_any y w (by omega))
      generalize suI y = un at *
      generalize suOkB y = uok at *
      have cKA0 : w26.cell? ⟨w18.heap.size, 0, none⟩ = some (.slice Aa US.length ka) := cell_of_row _ _ 0 _ _ _ KA_27.out
      have cKA1 : w26.cell? ⟨w18.heap.size, 1, none⟩ = some (.slice Ea UP.length ja) := cell_of_row _ _ 1 _ _ _ KA_27.out
      have cKB0 : w26.cell? ⟨w22.heap.size, 0, none⟩ = some (.slice Ab US.length kb) := cell_of_row _ _ 0 _ _ _ KB_27.out
      have cKB1 : w26.cell? ⟨w22.heap.size, 1, none⟩ = some (.slice Eb UP.length jb) := cell_of_row _ _ 1 _ _ _ KB_27.out
      go_wp2_with fail
      clear cKA0 cKA1 cKB0 cKB1
      refine (HIS.out _).mono ?_
      rintro e w28 ⟨rfl, hbi⟩
      have HK_29 := Lib.hid (esyn_stays _ _ HK_27.out hbi)
      have HAa_29 := Lib.hid (HAa_27.out.below hbi)
      have HEa_29 := Lib.hid (HEa_27.out.below hbi)
      have KA_29 := Lib.hid ((hbi.block _ (heap_lt KA_27.out)).trans KA_27.out)
      have HAb_29 := Lib.hid (HAb_27.out.below hbi)
      have HEb_29 := Lib.hid (HEb_27.out.below hbi)
      have KB_29 := Lib.hid ((hbi.block _ (heap_lt KB_27.out)).trans KB_27.out)
      have HB_29 := Lib.hid (below_more HB_27.out hbi)
      clear HK_27 HAa_27 HEa_27 KA_27 HAb_27 HEb_27 KB_27 HB_27 hbi
      have cKA0 : w28.cell? ⟨w18.heap.size, 0, none⟩ = some (.slice Aa US.length ka) := cell_of_row _ _ 0 _ _ _ KA_29.out
      have cKA1 : w28.cell? ⟨w18.heap.size, 1, none⟩ = some (.slice Ea UP.length ja) := cell_of_row _ _ 1 _ _ _ KA_29.out
      have cKB0 : w28.cell? ⟨w22.heap.size, 0, none⟩ = some (.slice Ab US.length kb) := cell_of_row _ _ 0 _ _ _ KB_29.out
      have cKB1 : w28.cell? ⟨w22.heap.size, 1, none⟩ = some (.slice Eb UP.length jb) := cell_of_row _ _ 1 _ _ _ KB_29.out
      go_wp2_with fail
      refine (HSS.out _).mono ?_
      rintro e w' ⟨rfl, rfl⟩
      go_wp2_with fail
      clear cKA0 cKA1 cKB0 cKB1
      refine (sameDisk_self Aa Ea Ab Eb US UP ka ja kb jb _ HAa_29.out HEa_29.out HAb_29.out HEb_29.out (by have := HLu.out.1; omega) (by have := HLu.out.2; omega)).mono ?_
      rintro e wz ⟨rfl, hbz⟩
      have HBz := Lib.hid (below_more HB_29.out hbz)
      clear hbz
      go_wp2_with fail
      go_ret
      exact ⟨rfl, HBz.out⟩
end Go.Proofs.YthbjcipdneminaaDoor
