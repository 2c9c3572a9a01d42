/-
  What NullOf answers, in the program's text and in the model's, at every argument.
-/
import Derived.Test.YtfkojlpihpgnaaaDoorU4
namespace Go.Proofs.YtfkojlpihpgnaaaDoor
open Go.RowKit

theorem free_snoc {S : List Nat} {j : Nat} (hj : j < S.length) (k : Nat) : freeB (S.take (j + 1)) k = (freeB (S.take j) k && (S[j].log2 != k)) := by
  unfold freeB
  rw [List.take_succ_eq_append_getElem hj, List.all_append]; simp
theorem nulK_snoc {S : List Nat} {j : Nat} (hj : j < S.length) (k : Nat) : nulK (S.take (j + 1)) k = if S[j].testBit k = true then nulK (S.take j) k ||| 2 ^ S[j].log2 else nulK (S.take j) k := by
  unfold nulK
  rw [List.take_succ_eq_append_getElem hj, List.foldl_append]; rfl
theorem allN_succ (S : List Nat) (k : Nat) : allN (k + 1) S = allN k S ++ (if freeB S k = true then [nulK S k] else []) := by
  unfold allN
  rw [List.range_succ, List.filter_append, List.map_append]
  congr 1
  rw [List.filter_cons]
  split <;> rfl
theorem allN_len (S : List Nat) (k : Nat) : (allN k S).length ≤ k := by
  unfold allN; rw [List.length_map]; exact Nat.le_trans (List.length_filter_le _ _) (by simp)

set_option maxRecDepth 100000 in
set_option maxHeartbeats 4000000 in
theorem sNull (m : Nat) (A : Option Addr) (R : List Nat) (ca : Nat) (w : World) (ha : Ints w A (zI R)) (hl : R.length ≤ 1048576) (hm : m ≤ 16) (hR : ∀ r ∈ R, r < 2 ^ m) :
    Calls Tryd.prog 78 #[.int .i64 m, .slice A R.length ca] w fun e w' => ∃ v, e = .returned v ∧ Own w' w.heap.size v (zI (nullL m R)) ∧ Below w.heap.size w w' := by
  have HS := Lib.hid (sSteps A R ca w ha hl (lt16s hm hR))
  have HO : Hid (∀ s ∈ steps R, s ≠ 0 ∧ s < 65536) := fun s hs => ⟨(steps_rref _).1.ne s hs, steps_lt (w := 16) (lt16s hm hR) s hs⟩
  have hOl : (steps R).length ≤ 16 := rank_le_width (w := 16) (lt16s hm hR)
  have HC : Hid (nullL m R = steps (allN m (steps R))) := rfl
  have HAL : Hid (∀ x ∈ allN m (steps R), x < 65536) := by
    intro x hx
    obtain ⟨k, hk, rfl⟩ := List.mem_map.1 hx
    have hk' := List.mem_filter.1 hk
    exact lt16 hm (nulK_lt (fun s hs => ⟨(steps_rref R).1.ne s hs, steps_lt hR s hs⟩) (List.mem_range.1 hk'.1))
  clear ha hR
  generalize steps R = S at *
  go_enter Tryd.func78, Tryd.ntmps78
  go_wp2_with fail
  refine HS.out.mono ?_
  rintro e w2 ⟨v, rfl, ho2, hb2⟩
  have HB2 := Lib.hid hb2
  obtain ⟨A2, c2, rfl, hI2⟩ := ho2.form
  have HI2 := Lib.hid hI2
  rw [zI_length]
  clear ho2 hb2 hI2 HS
  go_wp2_with fail
  go_loopg [5, 7] m (fun g v i wr => ∃ k : Nat, k + g = m ∧ i = .int .i64 k ∧ Own wr w2.heap.size v (zI (allN k S)) ∧ Below w2.heap.size w2 wr)
  case atStart => exact ⟨0, by omega, rfl, Own.nil _ _, Below.refl _ _⟩
  case round =>
    obtain ⟨k, hg, rfl, hown, hbel⟩ := hrel
    have HOw := Lib.hid hown
    have HBl := Lib.hid hbel
    have HI := Lib.hid (HI2.out.below hbel)
    have hbs := hbel.size
    clear hown hbel
    by_cases hlt : k < m
    · have hki : (k : Int) < (m : Int) := by omega
      have HGK : Hid (m - k - 1 < gk ∧ k + 1 + (m - k - 1) = m) := by show _ ∧ _; omega
      have hal := allN_len S k
      obtain ⟨hp1, hp2⟩ := pow20 k (by omega)
      clear hg
      go_wp2_with fail
      go_loopg [8, 23] S.length (fun g2 b i wx => ∃ j : Nat, j + g2 = S.length ∧ i = .int .i64 j ∧ b = .bool (freeB (S.take j) k) ∧ wr = wx)
      case atStart => exact ⟨0, by omega, rfl, rfl, rfl⟩
      case round =>
        obtain ⟨j, hg2, rfl, rfl, rfl⟩ := hrel
        by_cases hlt2 : j < S.length
        · have hi2 : (j : Int) < (S.length : Int) := by omega
          obtain ⟨b3, o3, rfl, hc3⟩ := HI.out.cellN hlt2
          obtain ⟨hs0, hs1⟩ := HO.out S[j] (List.getElem_mem hlt2)
          have HF := Lib.hid (free_snoc hlt2 k)
          generalize S[j] = s at *
          cases hfb : freeB (S.take j) k
          · rw [hfb] at HF
            clear hfb
            go_wp2_with fail
            go_roundg (S.length - j - 1)
            case measure => omega
            case rel => exact ⟨j + 1, by omega, by go_num, by rw [HF.out]; rfl, rfl⟩
          · rw [hfb] at HF
            clear hfb
            go_wp2_with (go_at_call 109; refine (sTop s _ hs0 hs1).mono ?_; rintro e w' ⟨rfl, rfl⟩)
            go_roundg (S.length - j - 1)
            case measure => omega
            case rel =>
              refine ⟨j + 1, by omega, by go_num, ?_, rfl⟩
              rw [HF.out]
              congr 1
              rw [Bool.eq_iff_iff]; simp; omega
        · obtain rfl : j = S.length := by omega
          rw [List.take_length]
          have HX := Lib.hid (allN_succ S k)
          cases hfb : freeB S k
          · have HX' : Hid (allN (k + 1) S = allN k S) := by show _ = _; rw [HX.out, hfb]; simp
            clear hfb HX
            go_wp2_with fail
            go_roundg (m - k - 1)
            case measure => exact HGK.out.1
            case rel => exact ⟨k + 1, HGK.out.2, by go_num, by rw [HX'.out]; exact HOw.out, HBl.out⟩
          · have HX' : Hid (allN (k + 1) S = allN k S ++ [nulK S k]) := by show _ = _; rw [HX.out, hfb]; simp
            clear hfb HX
            go_wp2_with fail
            go_loopg [11, 42] S.length (fun g3 u i wx => ∃ j : Nat, j + g3 = S.length ∧ i = .int .i64 j ∧ u = .int .i64 (nulK (S.take j) k : Nat) ∧ wr = wx)
            case atStart => exact ⟨0, by omega, rfl, by simp [nulK], rfl⟩
            case round =>
              obtain ⟨j, hg3, rfl, rfl, rfl⟩ := hrel
              have hnl : nulK (S.take j) k < 65536 := nulK_lt (w := 16) (fun s hs => HO.out s (List.mem_of_mem_take hs)) (by omega)
              by_cases hlt3 : j < S.length
              · have hi3 : (j : Int) < (S.length : Int) := by omega
                obtain ⟨b3, o3, rfl, hc3⟩ := HI.out.cellN hlt3
                obtain ⟨hs0, hs1⟩ := HO.out S[j] (List.getElem_mem hlt3)
                have HF := Lib.hid (nulK_snoc hlt3 k)
                generalize S[j] = s at *
                generalize nulK (S.take j) k = u at *
                have hsl := log2_lt (w := 16) hs0 hs1
                obtain ⟨hq1, hq2⟩ := pow20 s.log2 (by omega)
                have hor := or_pow_i64 u s.log2 hnl (by omega)
                cases hbit : s.testBit k
                · have hb := (bit_shr (k := k) hs1).trans hbit
                  rw [hbit] at HF
                  clear hbit
                  go_wp2_with fail
                  go_roundg (S.length - j - 1)
                  case measure => omega
                  case rel => exact ⟨j + 1, by omega, by go_num, by rw [HF.out]; rfl, rfl⟩
                · have hb := (bit_shr (k := k) hs1).trans hbit
                  rw [hbit] at HF
                  clear hbit
                  go_wp2_with (go_at_call 109; refine (sTop s _ hs0 hs1).mono ?_; rintro e w' ⟨rfl, rfl⟩)
                  go_roundg (S.length - j - 1)
                  case measure => omega
                  case rel => exact ⟨j + 1, by omega, by go_num, by rw [HF.out]; rfl, rfl⟩
              · obtain rfl : j = S.length := by omega
                rw [List.take_length] at *
                go_wp2_with (at_builtin; refine app_law wr w2.heap.size _ (allN k S) (nulK S k) rfl _ _ rfl rfl rfl HOw.out hbs (by omega) w2 HBl.out ?_)
                intro v' w' H'
                go_wp2_with fail
                go_roundg (m - k - 1)
                case measure => exact HGK.out.1
                case rel => exact ⟨k + 1, HGK.out.2, by go_num, by rw [HX'.out]; exact H'.out.1, H'.out.2.1⟩
    · obtain rfl : k = m := by omega
      have hal := allN_len S k
      obtain ⟨A3, c3, rfl, hI3⟩ := HOw.out.form
      rw [zI_length]
      have HI3 := Lib.hid hI3
      clear hI3
      go_wp2_with fail
      refine (sSteps A3 (allN k S) c3 _ HI3.out (by omega) HAL.out).mono ?_
      rintro e w4 ⟨v4, rfl, ho4, hb4⟩
      obtain ⟨A4, c4, rfl, _⟩ := ho4.form
      have HO4 := Lib.hid (ho4.lower (Nat.le_trans HB2.out.size hbs))
      have HB4 := Lib.hid (below_more (below_more HB2.out HBl.out) hb4)
      clear ho4 hb4
      go_wp2_with fail
      go_ret
      exact ⟨_, rfl, by rw [HC.out]; exact HO4.out, HB4.out⟩

def nullI (x : Int) (zs : List Int) : List Int := if rowsB x zs = true then zI (nullL x.toNat (nL zs)) else []
theorem nullI_ok {m : Nat} {R : List Nat} (h : rowsB m (zI R) = true) : nullI m (zI R) = zI (nullL m R) := by rw [nullI, if_pos h, nL_zI, Int.toNat_natCast]
theorem nullI_no {x : Int} {zs : List Int} (h : rowsB x zs = false) : nullI x zs = [] := by simp [nullI, h]
theorem nullI_len (x : Int) (zs : List Int) : (nullI x zs).length ≤ 16 := by
  unfold nullI; split
  · rename_i h
    obtain ⟨m, R, rfl, rfl, _, h2, _, h4⟩ := rows_nat h
    rw [zI_length, nL_zI, Int.toNat_natCast]
    have := null_length h4; omega
  · simp

set_option maxRecDepth 100000 in
set_option maxHeartbeats 4000000 in
theorem iNull_any (x : Int) (A : Option Addr) (zs : List Int) (ca : Nat) (w : World) (ht : Tab w) (ha : Ints w A zs) (hl : zs.length ≤ 1048576) :
    Calls Tryd.prog 86 #[.int .i64 x, .slice A zs.length ca] w fun e w' => ∃ v, e = .returned (.tuple #[v, .bool (rowsB x zs)]) ∧ Own w' w.heap.size v (nullI x zs) ∧ Below w.heap.size w w' := by
  cases h : rowsB x zs
  · have HE := Lib.hid (nullI_no h)
    go_enter Tryd.func86, Tryd.ntmps86
    go_wp2_with (go_at_call 61; refine (iRows _ _ _ _ _ ht ha hl).mono ?_; rintro e w' ⟨rfl, rfl⟩)
    go_ret2
    exact ⟨_, rfl, by rw [HE.out]; exact Own.nil _ _, Below.refl _ _⟩
  · obtain ⟨m, R, rfl, rfl, h1, h2, h3, h4⟩ := rows_nat h
    have HE := Lib.hid (nullI_ok h)
    have hr1 := iRows (m : Int) A (zI R) ca w ht ha hl
    have HL := Lib.hid (ladderOf_any A R ca w ht ha h3 (lt16s h2 h4))
    have H4 := Lib.hid h4
    have HT := Lib.hid ht
    rw [zI_length] at hr1 ⊢
    clear h4 ha ht
    go_enter Tryd.func86, Tryd.ntmps86
    go_wp2_with (go_at_call 61; refine hr1.mono ?_; rintro e w' ⟨rfl, rfl⟩)
    refine HL.out.mono ?_
    rintro e w1 ⟨L, rfl, hL, hb1⟩
    have HLR := Lib.hid hL
    have HB1 := Lib.hid hb1
    have hll := hL.lad.len
    clear hL hb1 HL hr1 h
    go_wp2_with (refine wpList_store_row rfl 70 _ _ rfl w1.heap.size (ladCells L) rfl rfl 70 (ladCells lad0) (heap_alloc_new _ _) (by rw [ladCells_size hll]; exact infoLad) (by rw [ladCells_size hll]; rfl) (ladCells_one _) ?_)
    have hA0 : LadAt ((w1.alloc (.cells (ladCells lad0) 70)).setRow w1.heap.size (ladCells L)) w1.heap.size L := setRow_heap _ _ _ _ _ _ (heap_alloc_new _ _)
    have hB0 : Below w.heap.size w ((w1.alloc (.cells (ladCells lad0) 70)).setRow w1.heap.size (ladCells L)) := below_setRow (HB1.out.alloc HB1.out.size _) HB1.out.size _
    have hs0 : w1.heap.size + 1 ≤ ((w1.alloc (.cells (ladCells lad0) 70)).setRow w1.heap.size (ladCells L)).heap.size := by simp
    have HA0 := Lib.hid hA0
    have HB0 := Lib.hid hB0
    have HS0 := Lib.hid hs0
    clear hA0 hB0 hs0
    go_loopw [7, 16] (fun v i wr => ∃ k : Nat, k ≤ m ∧ i = .int .i64 k ∧ LadAt wr w1.heap.size L ∧ Own wr (w1.heap.size + 1) v (zI (nulls L k)) ∧ Below w.heap.size w wr ∧ w1.heap.size + 1 ≤ wr.heap.size) (fun _ i _ => m - (intOf i).toNat)
    case atStart => exact ⟨0, by omega, rfl, HA0.out, Own.nil _ _, HB0.out, HS0.out⟩
    case round =>
      obtain ⟨k, hk, rfl, hA, hown, hbel, hsz⟩ := hrel
      have HA := Lib.hid hA
      have HO := Lib.hid hown
      have HB := Lib.hid hbel
      have hnl := nulls_length L k
      clear hown hbel HA0 HB0 HS0
      by_cases hlt : k < m
      · have hki : (k : Int) < (m : Int) := by omega
        have hk16 : (k : Int) < 16 := by omega
        obtain ⟨hc0, hc1⟩ := hA.cell (k := k) (by omega)
        have HX : Hid (nulls L (k + 1) = if (lat L k).1 = 0 then nulls L k ++ [nrow L k 16] else nulls L k) := rfl
        clear hA
        by_cases h0 : (lat L k).1 = 0
        · have hz : ((((lat L k).1 : Nat) : Int) == 0) = true := by simp [h0]
          have HX' : Hid (nulls L (k + 1) = nulls L k ++ [nrow L k 16]) := by show _ = _; rw [HX.out, if_pos h0]
          clear HX h0
          generalize lat L k = q at *
          go_wp2_with (refine wpList_load_row rfl 70 _ rfl w1.heap.size rfl 70 (ladCells L) (0, 0) _ HA.out Tryd.underlying70 rfl (by rw [ladCells_size hll]; exact infoLad) ?_)
          refine (nullRow_any L k _ (HT.out.below HB.out) hll (fun t => HLR.out.lad.small t) (by omega)).mono ?_
          rintro e w2 ⟨rfl, hb2⟩
          have HA2 := Lib.hid (HA.out.below hb2 (by omega))
          have HB2 := Lib.hid (below_more HB.out hb2)
          have HO2 := Lib.hid (HO.out.below hb2)
          have hs2 := Nat.le_trans hsz hb2.size
          clear hb2 HA HB HO
          go_wp2_with (at_builtin; refine app_law w2 (w1.heap.size + 1) _ (nulls L k) (nrow L k 16) rfl _ _ rfl rfl rfl HO2.out hs2 (by omega) w2 (Below.refl _ _) ?_)
          intro v' w' H'
          go_wp2_with fail
          go_roundw
          case rel => exact ⟨k + 1, by omega, by go_num, HA2.out.below H'.out.2.1 (Nat.lt_succ_self _), by rw [HX'.out]; exact H'.out.1, HB2.out.trans (H'.out.2.1.mono (Nat.le_trans HB1.out.size (Nat.le_succ _))), Nat.le_trans hs2 H'.out.2.1.size⟩
          case measure => simp [intOf]; omega
        · have hz : ((((lat L k).1 : Nat) : Int) == 0) = false := by simpa using h0
          have HX' : Hid (nulls L (k + 1) = nulls L k) := by show _ = _; rw [HX.out, if_neg h0]
          clear HX h0
          generalize lat L k = q at *
          go_wp2_with fail
          go_roundw
          case rel => exact ⟨k + 1, by omega, by go_num, HA.out, by rw [HX'.out]; exact HO.out, HB.out, hsz⟩
          case measure => simp [intOf]; omega
      · obtain rfl : k = m := by omega
        clear hA
        obtain ⟨A3, c3, rfl, hI3⟩ := HO.out.form
        rw [zI_length]
        have HI3 := Lib.hid hI3
        have HNL := Lib.hid (lt16s h2 (nulls_lt HLR.out H4.out))
        have HNE := Lib.hid (ladR_nulls HLR.out k)
        clear hI3
        go_wp2_with fail
        refine (ladderOf_any A3 (nulls L k) c3 _ (HT.out.below HB.out) HI3.out (by omega) HNL.out).mono ?_
        rintro e w4 ⟨L4, rfl, hL4, hb4⟩
        have HL4 := Lib.hid hL4
        have HB4 := Lib.hid (below_more HB.out hb4)
        clear hL4 hb4
        go_wp2_with fail
        refine (rowsOn_any L4 HL4.out.lad.len _).mono ?_
        rintro e w5 ⟨v5, rfl, ho5, hb5⟩
        have HO5 := Lib.hid (ho5.lower HB4.out.size)
        have HB5 := Lib.hid (below_more HB4.out hb5)
        obtain ⟨A5, c5, rfl, _⟩ := ho5.form
        clear ho5 hb5
        go_wp2_with fail
        go_ret2
        exact ⟨_, rfl, by rw [HE.out, ← HNE.out, ← HL4.out.steps]; exact HO5.out, HB5.out⟩
end Go.Proofs.YtfkojlpihpgnaaaDoor
