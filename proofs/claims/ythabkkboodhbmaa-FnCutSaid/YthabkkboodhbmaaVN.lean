/-
  FnCut, walked.
-/
import Derived.Test.YthabkkboodhbmaaVZ
namespace Go.Proofs.Ythabkkboodhbmaa
open Go.RowKit

theorem cut_sizes {s : ByteArray} (h : thingB s = true) : blocksI (s.size : Int) = ((cutTI s).length : Int) ∧ longOkB (s.size : Int) = true ∧ (∀ p ∈ cutTI s, 1 ≤ p.2.length ∧ p.2.length ≤ 8) ∧ ∀ p ∈ cutTI s, ∀ q ∈ cutTI s, p.2.length ≤ q.2.length + 1 := by
  have h2 : s.size ≤ 96 := by simpa [thingB] using h
  have hlo : longOkB (s.size : Int) = true := inB_mk (by omega) (by omega)
  have hB : (bsL s).length ≤ 96 := by rw [bsL_length]; exact h2
  have hc : cutTI s = cutI (bsL s) := by rw [cutTI, if_pos h]
  rw [hc]
  refine ⟨?_, hlo, fun p hp => ?_, fun p hp q hq => ?_⟩
  · rw [blocksI, if_pos hlo, Int.toNat_natCast, cutI_length, bsL_length]
  · obtain ⟨k, hk, rfl⟩ := List.mem_iff_getElem.1 hp
    have := cut_block hB (bsL_lt s) hk
    exact ⟨this.2.2.1, this.2.2.2.1⟩
  · obtain ⟨k, hk, rfl⟩ := List.mem_iff_getElem.1 hp
    obtain ⟨j, hj, rfl⟩ := List.mem_iff_getElem.1 hq
    have h3 := (cut_block hB (bsL_lt s) hk).2.2.2.2.2
    have h4 := (cut_block hB (bsL_lt s) hj).2.2.2.2.1
    omega

set_option maxRecDepth 100000 in
set_option maxHeartbeats 8000000 in
theorem fnCut_small (A : Option Addr) (za : List Int) (ca : Nat) (B : Option Addr) (zb : List Int) (cb : Nat) (w : World) (ha : Byts w w.heap.size A za) (hb : Byts w w.heap.size B zb) (hl : za.length + zb.length ≤ 1048576) :
    Calls Try.prog 3 #[.slice A za.length ca, .slice B zb.length cb] w fun e w' => e = .returned (.bool true) ∧ Below w.heap.size w w' := by
  have HA := Lib.hid ha
  have HB := Lib.hid hb
  clear ha hb
  go_enter Try.func3, Try.ntmps3
  go_wp2_with fail
  refine (drawCutT A za ca _ HA.out).mono ?_
  rintro e w1 ⟨s, rfl, hs, hb1⟩
  have HB1 := Lib.hid hb1
  have HGl := Lib.hid (@glue_thing s)
  have HSz := Lib.hid (@cut_sizes s)
  have HI2 := Lib.hid (iCutThing_any s w1)
  have HS2 := Lib.hid (fun w => sCutThing_any s w)
  obtain ⟨hV3, hVp⟩ := cutTI_bd s
  have HVz : Hid (∀ p ∈ cutTI s, p.2.length ≤ 1048576) := fun p hp => Nat.le_trans (hVp p hp).2.2 (by omega)
  clear hb1 hVp HA
  generalize cutTI s = V at *
  have hqV := eqBs_self V
  go_wp2_with fail
  refine HI2.out.mono ?_
  rintro e w2 ⟨v2, L2, rfl, ho2, hbl2, hb2⟩
  obtain ⟨A2, c2, rfl, hX2⟩ := ownB_as ho2 hbl2
  have HX2 := Lib.hid hX2
  have HB2 := Lib.hid (jMore HB1.out hb2)
  clear ho2 hbl2 hb2 hX2 HI2 HB1
  go_wp2_with fail
  refine (HS2.out w2).mono ?_
  rintro e w3 ⟨v3, L3, rfl, ho3, hbl3, hb3⟩
  obtain ⟨A3, c3, rfl, hX3⟩ := ownB_as ho3 hbl3
  have HX3 := Lib.hid hX3
  have HX23 := Lib.hid (HX2.out.below hb3)
  have HB3 := Lib.hid (jMore HB2.out hb3)
  clear ho3 hbl3 hb3 hX3 HS2 HB2 HX2
  have HSame := Lib.hid (sameBlocks_any A2 A3 V V c2 c3 w3 HX23.out HX3.out (by omega) HVz.out)
  rw [hqV] at HSame
  cases hok : thingB s
  · clear HGl HSz
    go_wp2_with fail
    refine HSame.out.mono ?_
    rintro e w4 ⟨rfl, hb4⟩
    have HBx := Lib.hid (jMore HB3.out hb4)
    clear hb4 HB3 HSame HX3 HX23
    go_wp2_with fail
    refine (drawGlue B zb cb _ (byts_on HB.out HBx.out)).mono ?_
    rintro e w6 ⟨v6, L6, rfl, ho6, hl6, hz6, hb6⟩
    have hU3 : (blks L6).length ≤ 3 := by rw [blks_length]; exact hl6
    have HUz : Hid (∀ p ∈ blks L6, p.2.length ≤ 1048576) := fun p hp => by
      obtain ⟨q, hq, rfl⟩ := List.mem_map.1 hp
      exact Nat.le_trans (hz6 q hq) (by omega)
    obtain ⟨A6, c6, rfl, hI6⟩ := ownB_as ho6 rfl
    have HX6 := Lib.hid hI6
    have HB6 := Lib.hid (jMore HBx.out hb6)
    clear ho6 hl6 hz6 hb6 hI6 HBx
    generalize blks L6 = U at *
    have HCG := Lib.hid (@cut_glue U)
    have hqU := eqBs_self U
    have HG6 := Lib.hid (iGlue_any A6 U c6 w6 HX6.out HUz.out)
    have HS6 := Lib.hid (fun w h => sGlue_any A6 U c6 w h (by omega) HUz.out)
    generalize glueI U = g1 at *
    generalize glueOkB U = g2 at *
    go_wp2_with fail
    refine HG6.out.mono ?_
    rintro e w7 ⟨rfl, hb7⟩
    have HX7 := Lib.hid (HX6.out.below hb7)
    have HB7 := Lib.hid (jMore HB6.out hb7)
    clear hb7 HX6 HB6 HG6
    go_wp2_with fail
    refine (HS6.out w7 HX7.out).mono ?_
    rintro e w8 ⟨rfl, hb8⟩
    have HX8 := Lib.hid (HX7.out.below hb8)
    have HB8 := Lib.hid (jMore HB7.out hb8)
    clear hb8 HX7 HB7 HS6
    go_wp2_with fail
    refine (drawBlocksFor B zb cb _ (byts_on HB.out HB8.out)).mono ?_
    rintro e w9 ⟨n, rfl, hb9⟩
    have HX9 := Lib.hid (HX8.out.below hb9)
    have HB9 := Lib.hid (jMore HB8.out hb9)
    clear hb9 HX8 HB8
    have HI9 := Lib.hid (iBlocks_any n w9)
    have HS9 := Lib.hid (sBlocks_any n w9)
    generalize blocksI n = b1 at *
    generalize longOkB n = b2 at *
    go_wp2_with fail
    refine HI9.out.mono ?_
    rintro e w10 ⟨rfl, rfl⟩
    go_wp2_with fail
    refine HS9.out.mono ?_
    rintro e w10 ⟨rfl, rfl⟩
    clear HI9 HS9
    cases g2
    · go_wp2_with fail
      go_ret
      exact ⟨rfl, HB9.out⟩
    · obtain ⟨hth, hcu⟩ := HCG.out rfl
      have HC := Lib.hid (iCutThing_any g1 w9)
      rw [hth, hcu] at HC
      clear hth hcu HCG
      go_wp2_with fail
      refine HC.out.mono ?_
      rintro e w10 ⟨v10, L10, rfl, ho10, hbl10, hb10⟩
      obtain ⟨A10, c10, rfl, hI10⟩ := ownB_as ho10 hbl10
      have HX10 := Lib.hid hI10
      have HXu := Lib.hid (HX9.out.below hb10)
      have HB10 := Lib.hid (jMore HB9.out hb10)
      clear ho10 hbl10 hb10 hI10 HC HX9 HB9
      go_wp2_with fail
      refine (sameBlocks_any A10 A6 U U c10 c6 _ HX10.out HXu.out (by omega) HUz.out).mono ?_
      rintro e w11 ⟨rfl, hb11⟩
      have HB11 := Lib.hid (jMore HB10.out hb11)
      clear hb11 HB10
      go_wp2_with fail
      go_ret
      exact ⟨rfl, HB11.out⟩
  · obtain ⟨hg1, hg2⟩ := HGl.out hok
    obtain ⟨hz1, hz2, hz3, hz4⟩ := HSz.out hok
    have HZ3 := Lib.hid hz3
    have HZ4 := Lib.hid hz4
    have HG := Lib.hid (fun w h => iGlue_any A2 V c2 w h HVz.out)
    rw [hg1, hg2] at HG
    have HBk := Lib.hid (iBlocks_any (s.size : Int))
    rw [hz1, hz2] at HBk
    clear HGl HSz hg1 hg2 hz1 hz2 hz3 hz4 hok
    go_wp2_with fail
    refine HSame.out.mono ?_
    rintro e w4 ⟨rfl, hb4⟩
    have HX4 := Lib.hid (HX23.out.below hb4)
    have HB4 := Lib.hid (jMore HB3.out hb4)
    clear hb4 HB3 HSame HX3 HX23
    go_wp2_with fail
    refine (HG.out w4 HX4.out).mono ?_
    rintro e w5 ⟨rfl, hb5⟩
    have HX5 := Lib.hid (HX4.out.below hb5)
    have HB5 := Lib.hid (jMore HB4.out hb5)
    clear hb5 HB4 HX4 HG
    go_wp2_with fail
    refine (HBk.out w5).mono ?_
    rintro e w6 ⟨rfl, rfl⟩
    clear HBk
    go_wp2_with fail
    go_loopg [88] V.length (fun g i wr => ∃ j : Nat, j + g = V.length ∧ i = .int .i64 j ∧ Below w5.heap.size w5 wr)
    case atStart => exact ⟨0, by omega, rfl, Below.refl _ _⟩
    case round =>
      obtain ⟨j, hg, rfl, hbr⟩ := hrel
      have HBr := Lib.hid hbr
      have HXr := Lib.hid (HX5.out.below hbr)
      clear hbr
      by_cases hlt : j < V.length
      · have hji : (j : Int) < (V.length : Int) := by omega
        obtain ⟨g1, o1, rfl, hc1⟩ := HXr.out (by rintro rfl; simp at hlt)
        obtain ⟨p1, A1, c1, p2, _⟩ := hc1 j hlt
        obtain ⟨hp1, hp8⟩ := HZ3.out V[j] (List.getElem_mem hlt)
        have HZj := Lib.hid (HZ4.out V[j] (List.getElem_mem hlt))
        have HGK : Hid (V.length - j - 1 < gk ∧ j + 1 + (V.length - j - 1) = V.length) := by show _ ∧ _; omega
        generalize V[j] = p at *
        clear hg hc1
        have hp8i : ¬ (8 : Int) < (p.2.length : Int) := by omega
        have hp0 : ((p.2.length : Int) == 0) = false := by rw [beq_eq_false_iff_ne]; omega
        have HW : Hid (Below wr.heap.size wr (wr.alloc (.cells #[.int .i64 p.1, .slice A1 p.2.length c1] 34))) := jAlloc1 _ _
        have hx1 : (wr.alloc (.cells #[.int .i64 p.1, .slice A1 p.2.length c1] 34)).cell? ⟨wr.heap.size, 1, none⟩ = some (.slice A1 p.2.length c1) := cell_of_row _ _ 1 _ _ _ (heap_alloc_new _ _)
        have hs1 : wr.heap.size < (wr.alloc (.cells #[.int .i64 p.1, .slice A1 p.2.length c1] 34)).heap.size := by simp
        go_wp2_with fail
        clear p1 p2
        have HXW := Lib.hid (HXr.out.below HW.out)
        have HBW := Lib.hid (jMore HBr.out HW.out)
        clear HW HXr HBr
        generalize wr.alloc (.cells #[.int .i64 p.1, .slice A1 p.2.length c1] 34) = W at *
        generalize wr.heap.size = N at *
        go_loopg [104] V.length (fun g2 i wx => ∃ k : Nat, k + g2 = V.length ∧ i = .int .i64 k ∧ Below W.heap.size W wx)
        case atStart => exact ⟨0, by omega, rfl, Below.refl _ _⟩
        case round =>
          obtain ⟨k, hg2, rfl, hbx⟩ := hrel
          by_cases hlt2 : k < V.length
          · have hki : (k : Int) < (V.length : Int) := by omega
            obtain ⟨g3, o3, e3, hc3⟩ := (HXW.out.below hbx) (by rintro rfl; simp at hlt2)
            injection e3 with e3
            injection e3 with e3 e4
            subst e3; subst e4
            obtain ⟨q1, A4, c4, q2, _⟩ := hc3 k hlt2
            have hpq := HZj.out V[k] (List.getElem_mem hlt2)
            have hq8 := (HZ3.out V[k] (List.getElem_mem hlt2)).2
            have HGK2 : Hid (V.length - k - 1 < gk ∧ k + 1 + (V.length - k - 1) = V.length) := by show _ ∧ _; omega
            generalize V[k] = q at *
            have hpqi : ¬ (q.2.length : Int) + 1 < (p.2.length : Int) := by omega
            have hy1 := (hbx.cell (p := ⟨N, 1, none⟩) hs1).trans hx1
            have hy2 := ((jAlloc1 wr (.cells #[.int .i64 q.1, .slice A4 q.2.length c4] 34)).cell (World.block_lt_of_cell? _ _ hy1)).trans hy1
            have HBn := Lib.hid (jMore hbx (jAlloc1 wr (.cells #[.int .i64 q.1, .slice A4 q.2.length c4] 34)))
            clear hc3 hg2 hbx
            go_wp2_with fail
            go_roundg (V.length - k - 1)
            case measure => exact HGK2.out.1
            case rel => exact ⟨k + 1, HGK2.out.2, by go_num, HBn.out⟩
          · obtain rfl : k = V.length := by omega
            have HBn := Lib.hid (jMore HBW.out hbx)
            clear hbx
            go_wp2_with fail
            go_roundg (V.length - j - 1)
            case measure => exact HGK.out.1
            case rel => exact ⟨j + 1, HGK.out.2, by go_num, HBn.out⟩
      · obtain rfl : j = V.length := by omega
        have HBx := Lib.hid (jMore HB5.out HBr.out)
        clear HB5 HBr HXr HX5 HZ3 HZ4 hlt hg
        go_wp2_with fail
        refine (drawGlue B zb cb _ (byts_on HB.out HBx.out)).mono ?_
        rintro e w6 ⟨v6, L6, rfl, ho6, hl6, hz6, hb6⟩
        have hU3 : (blks L6).length ≤ 3 := by rw [blks_length]; exact hl6
        have HUz : Hid (∀ p ∈ blks L6, p.2.length ≤ 1048576) := fun p hp => by
          obtain ⟨q, hq, rfl⟩ := List.mem_map.1 hp
          exact Nat.le_trans (hz6 q hq) (by omega)
        obtain ⟨A6, c6, rfl, hI6⟩ := ownB_as ho6 rfl
        have HX6 := Lib.hid hI6
        have HB6 := Lib.hid (jMore HBx.out hb6)
        clear ho6 hl6 hz6 hb6 hI6 HBx
        generalize blks L6 = U at *
        have HCG := Lib.hid (@cut_glue U)
        have hqU := eqBs_self U
        have HG6 := Lib.hid (iGlue_any A6 U c6 w6 HX6.out HUz.out)
        have HS6 := Lib.hid (fun w h => sGlue_any A6 U c6 w h (by omega) HUz.out)
        generalize glueI U = g1 at *
        generalize glueOkB U = g2 at *
        go_wp2_with fail
        refine HG6.out.mono ?_
        rintro e w7 ⟨rfl, hb7⟩
        have HX7 := Lib.hid (HX6.out.below hb7)
        have HB7 := Lib.hid (jMore HB6.out hb7)
        clear hb7 HX6 HB6 HG6
        go_wp2_with fail
        refine (HS6.out w7 HX7.out).mono ?_
        rintro e w8 ⟨rfl, hb8⟩
        have HX8 := Lib.hid (HX7.out.below hb8)
        have HB8 := Lib.hid (jMore HB7.out hb8)
        clear hb8 HX7 HB7 HS6
        go_wp2_with fail
        refine (drawBlocksFor B zb cb _ (byts_on HB.out HB8.out)).mono ?_
        rintro e w9 ⟨n, rfl, hb9⟩
        have HX9 := Lib.hid (HX8.out.below hb9)
        have HB9 := Lib.hid (jMore HB8.out hb9)
        clear hb9 HX8 HB8
        have HI9 := Lib.hid (iBlocks_any n w9)
        have HS9 := Lib.hid (sBlocks_any n w9)
        generalize blocksI n = b1 at *
        generalize longOkB n = b2 at *
        go_wp2_with fail
        refine HI9.out.mono ?_
        rintro e w10 ⟨rfl, rfl⟩
        go_wp2_with fail
        refine HS9.out.mono ?_
        rintro e w10 ⟨rfl, rfl⟩
        clear HI9 HS9
        cases g2
        · go_wp2_with fail
          go_ret
          exact ⟨rfl, HB9.out⟩
        · obtain ⟨hth, hcu⟩ := HCG.out rfl
          have HC := Lib.hid (iCutThing_any g1 w9)
          rw [hth, hcu] at HC
          clear hth hcu HCG
          go_wp2_with fail
          refine HC.out.mono ?_
          rintro e w10 ⟨v10, L10, rfl, ho10, hbl10, hb10⟩
          obtain ⟨A10, c10, rfl, hI10⟩ := ownB_as ho10 hbl10
          have HX10 := Lib.hid hI10
          have HXu := Lib.hid (HX9.out.below hb10)
          have HB10 := Lib.hid (jMore HB9.out hb10)
          clear ho10 hbl10 hb10 hI10 HC HX9 HB9
          go_wp2_with fail
          refine (sameBlocks_any A10 A6 U U c10 c6 _ HX10.out HXu.out (by omega) HUz.out).mono ?_
          rintro e w11 ⟨rfl, hb11⟩
          have HB11 := Lib.hid (jMore HB10.out hb11)
          clear hb11 HB10
          go_wp2_with fail
          go_ret
          exact ⟨rfl, HB11.out⟩

set_option maxRecDepth 100000 in
theorem dFnCut (A : Option Addr) (za : List Int) (ca : Nat) (B : Option Addr) (zb : List Int) (cb : Nat) (w : World) (ha : Byts w w.heap.size A za) (hb : Byts w w.heap.size B zb) (hla : za.length ≤ 140737488355328) (hlb : zb.length ≤ 140737488355328) :
    Calls Try.prog 3 #[.slice A za.length ca, .slice B zb.length cb] w fun e w' => e = .returned (.bool true) ∧ Below w.heap.size w w' := by
  by_cases hl : za.length + zb.length ≤ 1048576
  · exact fnCut_small A za ca B zb cb w ha hb hl
  · have hl' : (1048576 : Int) < (za.length : Int) + (zb.length : Int) := by omega
    go_enter Try.func3, Try.ntmps3
    go_wp2_with fail
    go_ret
    exact ⟨rfl, Below.refl _ _⟩
end Go.Proofs.Ythabkkboodhbmaa
