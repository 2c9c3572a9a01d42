/-
  The program's chapter 4: CutThing.
-/
import Derived.Test.YthabkkboodhbmaaI2
import Derived.Test.YthabkkboodhbmaaI5
import Derived.Test.YthabkkboodhbmaaI7
namespace Go.Proofs.Ythabkkboodhbmaa
open Go.RowKit

theorem Ints.take {w : World} {A : Option Addr} {zs : List Int} (h : Ints w A zs) (n : Nat) : Ints w A (zs.take n) := fun hne => by
  obtain ⟨b, o, e, hc⟩ := h (by rintro rfl; simp at hne)
  refine ⟨b, o, e, fun j hj => ?_⟩
  rw [List.length_take] at hj
  rw [hc j (by omega)]
  simp [List.getD, show j < n by omega]
theorem Ints.drop {w : World} {b o : Nat} {zs : List Int} (h : Ints w (some ⟨b, o, none⟩) zs) (n : Nat) : Ints w (some ⟨b, o + n, none⟩) (zs.drop n) := fun hne => by
  obtain ⟨b', o', e, hc⟩ := h (by rintro rfl; simp at hne)
  injection e with e
  injection e with e1 e2
  subst e1; subst e2
  refine ⟨b, o + n, rfl, fun j hj => ?_⟩
  rw [List.length_drop] at hj
  rw [Nat.add_assoc, hc (n + j) (by omega)]
  simp [List.getD]

set_option maxRecDepth 100000 in
set_option maxHeartbeats 4000000 in
theorem iCut (s : ByteArray) (w : World) (hs : s.size ≤ 96) (h1s : 1 ≤ s.size) :
    Calls Try.prog 13 #[.string s] w fun e w' => ∃ v L, e = .returned (.tuple #[v, .bool true]) ∧ OwnB w' w.heap.size v L ∧ blks L = cutI (bsL s) ∧ Below w.heap.size w w' := by
  obtain ⟨i1, hi', hy0, hy1, hy2⟩ := info_parts blockInfo
  have hB := bsL_length s
  have hlo : longOkB (s.size : Int) = true := inB_mk (by omega) (by omega)
  have HBk := Lib.hid (iBlocks_any (s.size : Int))
  rw [hlo, show blocksI (s.size : Int) = ((blkN s.size : Nat) : Int) by rw [blocksI, if_pos hlo, Int.toNat_natCast]] at HBk
  have hPl : (piecesL (bsL s)).length = cntP s.size := by rw [piecesL_length, hB]
  have hc96 : cntP s.size ≤ 24 := by unfold cntP; omega
  have hbp : 1 ≤ blkN s.size ∧ blkN s.size ≤ cntP s.size ∧ blkN s.size ≤ 3 := by unfold blkN cntP; omega
  have hpok : partOkB (cntP s.size : Nat) (blkN s.size : Nat) = true := by
    rw [partOkB, inB_mk (by omega) (by omega), inB_mk (by omega) (by omega)]; rfl
  have HPt := Lib.hid (iPart_any (cntP s.size : Nat) (blkN s.size : Nat))
  simp only [partG, partS, partM, partR, hpok, if_true, Int.toNat_natCast] at HPt
  have HFacts := Lib.hid (fun k hk => block_facts (B := bsL s) (by omega) (k := k) hk)
  simp only [hB] at HFacts
  have HAt := Lib.hid (fun k => atK_succ (cntP s.size) (blkN s.size) k)
  have HMod : Hid (cntP s.size % blkN s.size < blkN s.size) := Nat.mod_lt _ (by omega)
  have HGr : Hid (0 < cntP s.size % blkN s.size → (cntP s.size + blkN s.size - 1) / blkN s.size = cntP s.size / blkN s.size + 1) := by
    intro h
    have h1 := Nat.div_add_mod (cntP s.size) (blkN s.size)
    have h2 := HMod.out
    rw [show cntP s.size + blkN s.size - 1 = (cntP s.size % blkN s.size - 1) + blkN s.size * (cntP s.size / blkN s.size + 1) by rw [Nat.mul_add]; omega, Nat.add_mul_div_left _ _ (by omega), Nat.div_eq_of_lt (by omega)]
    omega
  have HPc := Lib.hid (iPieces s w hs)
  go_enter Try.func13, Try.ntmps13
  go_wp2_with fail
  refine HPc.out.mono ?_
  rintro e w1 ⟨v1, rfl, ho1, hb1⟩
  obtain ⟨A1, c1, rfl, hcp1, hI1⟩ : ∃ A1 c1, v1 = .slice A1 (cntP s.size) c1 ∧ cntP s.size ≤ c1 ∧ Ints w1 A1 (zI (piecesL (bsL s))) := by
    obtain ⟨A', c', e', hI'⟩ := ho1.form
    rw [zI_length, hPl] at e'
    refine ⟨A', c', e', ?_, hI'⟩
    rcases ho1.2 with ⟨_, hn⟩ | ⟨g, cap, cur, e, hbg, hg, hle, r⟩
    · rw [zI_length, hPl] at hn; omega
    · rw [e'] at e; injection e with e1 e2 e3
      rw [zI_length, hPl] at hle; omega
  have HI1 := Lib.hid hI1
  have HB1 := Lib.hid hb1
  clear ho1 hb1 hI1 HPc
  go_wp2_with fail
  refine (HBk.out _).mono ?_
  rintro e w2 ⟨rfl, rfl⟩
  go_wp2_with fail
  refine (HPt.out _).mono ?_
  rintro e wp ⟨rfl, hbp1⟩
  have HIp0 := Lib.hid (HI1.out.below hbp1)
  have HB1p := Lib.hid (jMore HB1.out hbp1)
  clear HPt HBk hbp1 HI1 HB1
  generalize hp : cntP s.size = p at *
  generalize hb : blkN s.size = b at *
  generalize (p + b - 1) / b = gr at *
  generalize p / b = q at *
  generalize p % b = r at *
  go_wp2_with fail
  go_loopg [4, 13, 14, 42] b (fun gk rest left v i wr => ∃ (j : Nat) (L : List (Int × Value × List Int)), j + gk = b ∧ i = .int .i64 j ∧ (∃ A c, rest = .slice A (p - atK p b j) c ∧ p - atK p b j ≤ c ∧ Ints wp A ((zI (piecesL (bsL s))).drop (atK p b j))) ∧ left = .int .i64 ((s.size - 4 * atK p b j : Nat) : Int) ∧ OwnB wr wp.heap.size v L ∧ L.length = j ∧ blks L = (cutI (bsL s)).take j ∧ Below wp.heap.size wp wr)
  case atStart => exact ⟨0, [], by omega, rfl, ⟨A1, c1, by rw [atK_zero]; rfl, by omega, by rw [atK_zero, List.drop_zero]; exact HIp0.out⟩, by rw [atK_zero]; rfl, OwnB.nil _ _, rfl, rfl, Below.refl _ _⟩
  case round =>
    obtain ⟨j, L, hg, rfl, ⟨A, c, rfl, hrc, hIp⟩, rfl, hown, hLl, hbl, hbel⟩ := hrel
    have HO := Lib.hid hown
    have HBl := Lib.hid hbel
    have HBk := Lib.hid hbl
    have HLl := Lib.hid hLl
    have HIp := Lib.hid hIp
    have HIr := Lib.hid (hIp.below hbel)
    have hws := hbel.size
    clear hown hbel hbl hLl hIp HIp0
    by_cases hlt : j < b
    · have hji : (j : Int) < (b : Int) := by omega
      obtain ⟨f1, f2, f3, f4, f5, f6, f7⟩ := HFacts.out j hlt
      have hsu := HAt.out j
      generalize hat : atK p b j = a at *
      by_cases hm : j < r
      · have hmi : (j : Int) < ((r : Nat) : Int) := by omega
        have hgr2 := HGr.out (by omega)
        rw [if_pos hm, ← hgr2] at hsu
        clear hgr2
        skip
        have hS1 : 1 ≤ gr := by omega
        have hSp : a + gr ≤ p := by omega
        have hm4 : (4 : Int) * ((gr : Nat) : Int) ≤ 100 := by omega
        have HGK : Hid (b - j - 1 < gk ∧ j + 1 + (b - j - 1) = b) := by show _ ∧ _; omega
        have HCu : Hid ((cutI (bsL s)).take (j + 1) = (cutI (bsL s)).take j ++ [(((min (s.size - 4 * a) (4 * gr) : Nat) : Int), ((zI (piecesL (bsL s))).drop a).take gr)]) := by
          show _ = _
          have hjc : j < (cutI (bsL s)).length := by rw [cutI_length, hB, hb]; exact hlt
          rw [List.take_succ_eq_append_getElem hjc, cutI_at, hB, hp, hb]
          unfold blockL
          rw [hat, hsu, hB, show a + gr - a = gr by omega]
          simp [zI, List.map_take, List.map_drop]
        have HNl : Hid ((((zI (piecesL (bsL s))).drop a).take gr).length = gr) := by show _ = _; rw [List.length_take, List.length_drop, zI_length, hPl]; omega
        have HAt' : Hid (atK p b (j + 1) = a + gr) := hsu
        obtain ⟨g, o, rfl, _⟩ := HIr.out (by intro e0; have := congrArg List.length e0; rw [List.length_drop, zI_length, hPl, List.length_nil] at this; omega)
        have hcS : gr ≤ c := by omega
        have HFr : Hid (Ints wr (some ⟨g, o, none⟩) (((zI (piecesL (bsL s))).drop a).take gr)) := Ints.take HIr.out gr
        have HNx : Hid (∃ A' c', (if gr = c then (Value.slice (some ⟨g, o, none⟩) 0 0) else .slice (some ⟨g, o + gr, none⟩) (p - a - gr) (c - gr)) = .slice A' (p - (a + gr)) c' ∧ p - (a + gr) ≤ c' ∧ Ints wp A' ((zI (piecesL (bsL s))).drop (a + gr))) := by
          by_cases hSc : gr = c
          · refine ⟨some ⟨g, o, none⟩, 0, ?_, by omega, fun hne => absurd ?_ hne⟩
            · rw [if_pos hSc, show p - (a + gr) = 0 by omega]
            · exact List.drop_of_length_le (by rw [zI_length, hPl]; omega)
          · refine ⟨some ⟨g, o + gr, none⟩, c - gr, ?_, by omega, ?_⟩
            · rw [if_neg hSc, Nat.sub_sub]
            · rw [← List.drop_drop]; exact Ints.drop HIp.out gr
        have HBo := Lib.hid (iBlockOf g o c (((zI (piecesL (bsL s))).drop a).take gr) (s.size - 4 * a) wr HFr.out (by rw [HNl.out]; exact hS1) (by rw [HNl.out]; omega) (by rw [HNl.out]; exact hcS))
        rw [HNl.out] at HBo
        clear HFacts HAt hsu f6 f7 HFr
        generalize ((zI (piecesL (bsL s))).drop a).take gr = ps at *
        go_wp2_with fail
        refine HBo.out.mono ?_
        rintro e w2 ⟨v', rfl, hO', hb2⟩
        obtain ⟨A', c', rfl, _⟩ := hO'.form
        have HO' := Lib.hid hO'
        have HB2 := Lib.hid hb2
        have hs2 := hb2.size
        have hmin : ((min (s.size - 4 * a) (4 * gr) : Nat) : Int) ≤ 96 := by omega
        have HMin : Hid (((s.size - 4 * a : Nat) : Int) - ((min (s.size - 4 * a) (4 * gr) : Nat) : Int) = ((s.size - 4 * (a + gr) : Nat) : Int)) := by show _ = _; omega
        have hle0 : 0 ≤ ((min (s.size - 4 * a) (4 * gr) : Nat) : Int) := Int.natCast_nonneg _
        have hlex : ((min (s.size - 4 * a) (4 * gr) : Nat) : Int) ≤ ((s.size - 4 * a : Nat) : Int) := by omega
        generalize ((min (s.size - 4 * a) (4 * gr) : Nat) : Int) = x at *
        have ha1 : Below w2.heap.size w2 (w2.alloc (.cells #[.int .i64 x, .slice A' ps.length c'] 34)) := jAlloc1 _ _
        have HOb : Hid ((w2.alloc (.cells #[.int .i64 x, .slice A' ps.length c'] 34)).ownsRow wp.heap.size 34 2 u14 L.length (cellsB L)) := ((HO.out.below hb2).below ha1).1
        have HO2 : Hid (Own (w2.alloc (.cells #[.int .i64 x, .slice A' ps.length c'] 34)) wr.heap.size (.slice A' ps.length c') ps) := hO'.below ha1
        have HB2' : Hid (Below wr.heap.size wr (w2.alloc (.cells #[.int .i64 x, .slice A' ps.length c'] 34))) := jMore hb2 ha1
        have hsz : (w2.alloc (.cells #[.int .i64 x, .slice A' ps.length c'] 34)).heap.size = w2.heap.size + 1 := by simp
        have HSz := Lib.hid hsz
        have HX1 : Hid ((w2.alloc (.cells #[.int .i64 x, .slice A' ps.length c'] 34)).heap[w2.heap.size]? = some (.cells #[.int .i64 x, .slice A' ps.length c'] 34 (0, 0))) := heap_alloc_new _ _
        clear hO' hb2 ha1 HBo hsz
        go_wp2_with (at_builtin; (refine wpList_append_own _ rfl _ _ 24 rfl wp.heap.size 34 i1 (.agg #[.int .i64 0, .slice none 0 0]) 2 32 Try.underlying24 hi' hy0 hy1 hy2 rfl (by decide) _ _ _ rfl (HOb.out.alloc _) ⟨w2.heap.size + 1, 0, none⟩ 1 1 [.int .i64 x, .slice A' ps.length c'] rfl rfl ?k1 ?k2 ?k3 ?k4 ?k5 ?_))
        case k1 =>
          intro i u hi
          match i, hi with
          | 0, hi => simp at hi; subst hi; simp [Addr.add]
          | 1, hi => simp at hi; subst hi; simp [Addr.add]
          | i + 2, hi => simp at hi
        case k2 => intro u hu; simp at hu; rcases hu with rfl | rfl <;> rfl
        case k3 => have := HLl.out; unfold maxLen; omega
        case k4 => have := HLl.out; omega
        case k5 => simp; omega
        · intro v3 w3 hown3 hgrow3 _
          have HO3 := Lib.hid (HO.out.push HB2'.out hws HO2.out hown3 hgrow3)
          have HB3 : Hid (Below wp.heap.size wp w3) := grown_below (jMore HBl.out HB2'.out) (by rw [HSz.out]; omega) HOb.out hgrow3
          have hx3 : w3.heap[w2.heap.size]? = some (.cells #[.int .i64 x, .slice A' ps.length c'] 34 (0, 0)) := by
            have h0 := hgrow3.block w2.heap.size (by simp; omega) (fun e => by
              have := (World.ownsRow.lt HO.out.1 _ e.symm).2
              omega)
            rw [h0, Below.heap_alloc _ _ _ (by rw [HSz.out]; omega)]
            exact HX1.out
          have hcx : w3.cell? ⟨w2.heap.size, 0, none⟩ = some (.int .i64 x) := cell_of_row w3 _ 0 _ _ _ hx3
          clear hown3 hgrow3 hx3 HX1 HOb HO2 HB2'
          by_cases hSc : gr = c
          · rw [if_pos hSc] at HNx
            subst hSc
            go_wp2_with fail
            go_quiet (fail)
            go_wp2_with fail
            go_roundg (b - j - 1)
            case measure => exact HGK.out.1
            case rel =>
              obtain ⟨A4, c4, e4, h4, hI4⟩ := HNx.out
              exact ⟨j + 1, _, HGK.out.2, by go_num, ⟨A4, c4, by rw [HAt'.out]; exact e4, by rw [HAt'.out]; exact h4, by rw [HAt'.out]; exact hI4⟩, by rw [HAt'.out, ← HMin.out], HO3.out.below (jDrewN _), by rw [List.length_append, HLl.out]; rfl, by rw [blks_snoc, HBk.out, HCu.out], jMore HB3.out (jDrewN _)⟩
          · rw [if_neg hSc] at HNx
            have hSc' : gr < c := by omega
            go_wp2_with fail
            go_quiet (fail)
            go_wp2_with fail
            go_roundg (b - j - 1)
            case measure => exact HGK.out.1
            case rel =>
              obtain ⟨A4, c4, e4, h4, hI4⟩ := HNx.out
              exact ⟨j + 1, _, HGK.out.2, by go_num, ⟨A4, c4, by rw [HAt'.out]; exact e4, by rw [HAt'.out]; exact h4, by rw [HAt'.out]; exact hI4⟩, by rw [HAt'.out, ← HMin.out], HO3.out.below (jDrewN _), by rw [List.length_append, HLl.out]; rfl, by rw [blks_snoc, HBk.out, HCu.out], jMore HB3.out (jDrewN _)⟩
      · have hmi : ¬ (j : Int) < ((r : Nat) : Int) := by omega
        rw [if_neg hm] at hsu
        skip
        have hS1 : 1 ≤ q := by omega
        have hSp : a + q ≤ p := by omega
        have hm4 : (4 : Int) * ((q : Nat) : Int) ≤ 100 := by omega
        have HGK : Hid (b - j - 1 < gk ∧ j + 1 + (b - j - 1) = b) := by show _ ∧ _; omega
        have HCu : Hid ((cutI (bsL s)).take (j + 1) = (cutI (bsL s)).take j ++ [(((min (s.size - 4 * a) (4 * q) : Nat) : Int), ((zI (piecesL (bsL s))).drop a).take q)]) := by
          show _ = _
          have hjc : j < (cutI (bsL s)).length := by rw [cutI_length, hB, hb]; exact hlt
          rw [List.take_succ_eq_append_getElem hjc, cutI_at, hB, hp, hb]
          unfold blockL
          rw [hat, hsu, hB, show a + q - a = q by omega]
          simp [zI, List.map_take, List.map_drop]
        have HNl : Hid ((((zI (piecesL (bsL s))).drop a).take q).length = q) := by show _ = _; rw [List.length_take, List.length_drop, zI_length, hPl]; omega
        have HAt' : Hid (atK p b (j + 1) = a + q) := hsu
        obtain ⟨g, o, rfl, _⟩ := HIr.out (by intro e0; have := congrArg List.length e0; rw [List.length_drop, zI_length, hPl, List.length_nil] at this; omega)
        have hcS : q ≤ c := by omega
        have HFr : Hid (Ints wr (some ⟨g, o, none⟩) (((zI (piecesL (bsL s))).drop a).take q)) := Ints.take HIr.out q
        have HNx : Hid (∃ A' c', (if q = c then (Value.slice (some ⟨g, o, none⟩) 0 0) else .slice (some ⟨g, o + q, none⟩) (p - a - q) (c - q)) = .slice A' (p - (a + q)) c' ∧ p - (a + q) ≤ c' ∧ Ints wp A' ((zI (piecesL (bsL s))).drop (a + q))) := by
          by_cases hSc : q = c
          · refine ⟨some ⟨g, o, none⟩, 0, ?_, by omega, fun hne => absurd ?_ hne⟩
            · rw [if_pos hSc, show p - (a + q) = 0 by omega]
            · exact List.drop_of_length_le (by rw [zI_length, hPl]; omega)
          · refine ⟨some ⟨g, o + q, none⟩, c - q, ?_, by omega, ?_⟩
            · rw [if_neg hSc, Nat.sub_sub]
            · rw [← List.drop_drop]; exact Ints.drop HIp.out q
        have HBo := Lib.hid (iBlockOf g o c (((zI (piecesL (bsL s))).drop a).take q) (s.size - 4 * a) wr HFr.out (by rw [HNl.out]; exact hS1) (by rw [HNl.out]; omega) (by rw [HNl.out]; exact hcS))
        rw [HNl.out] at HBo
        clear HFacts HAt hsu f6 f7 HFr
        generalize ((zI (piecesL (bsL s))).drop a).take q = ps at *
        go_wp2_with fail
        refine HBo.out.mono ?_
        rintro e w2 ⟨v', rfl, hO', hb2⟩
        obtain ⟨A', c', rfl, _⟩ := hO'.form
        have HO' := Lib.hid hO'
        have HB2 := Lib.hid hb2
        have hs2 := hb2.size
        have hmin : ((min (s.size - 4 * a) (4 * q) : Nat) : Int) ≤ 96 := by omega
        have HMin : Hid (((s.size - 4 * a : Nat) : Int) - ((min (s.size - 4 * a) (4 * q) : Nat) : Int) = ((s.size - 4 * (a + q) : Nat) : Int)) := by show _ = _; omega
        have hle0 : 0 ≤ ((min (s.size - 4 * a) (4 * q) : Nat) : Int) := Int.natCast_nonneg _
        have hlex : ((min (s.size - 4 * a) (4 * q) : Nat) : Int) ≤ ((s.size - 4 * a : Nat) : Int) := by omega
        generalize ((min (s.size - 4 * a) (4 * q) : Nat) : Int) = x at *
        have ha1 : Below w2.heap.size w2 (w2.alloc (.cells #[.int .i64 x, .slice A' ps.length c'] 34)) := jAlloc1 _ _
        have HOb : Hid ((w2.alloc (.cells #[.int .i64 x, .slice A' ps.length c'] 34)).ownsRow wp.heap.size 34 2 u14 L.length (cellsB L)) := ((HO.out.below hb2).below ha1).1
        have HO2 : Hid (Own (w2.alloc (.cells #[.int .i64 x, .slice A' ps.length c'] 34)) wr.heap.size (.slice A' ps.length c') ps) := hO'.below ha1
        have HB2' : Hid (Below wr.heap.size wr (w2.alloc (.cells #[.int .i64 x, .slice A' ps.length c'] 34))) := jMore hb2 ha1
        have hsz : (w2.alloc (.cells #[.int .i64 x, .slice A' ps.length c'] 34)).heap.size = w2.heap.size + 1 := by simp
        have HSz := Lib.hid hsz
        have HX1 : Hid ((w2.alloc (.cells #[.int .i64 x, .slice A' ps.length c'] 34)).heap[w2.heap.size]? = some (.cells #[.int .i64 x, .slice A' ps.length c'] 34 (0, 0))) := heap_alloc_new _ _
        clear hO' hb2 ha1 HBo hsz
        go_wp2_with (at_builtin; (refine wpList_append_own _ rfl _ _ 24 rfl wp.heap.size 34 i1 (.agg #[.int .i64 0, .slice none 0 0]) 2 32 Try.underlying24 hi' hy0 hy1 hy2 rfl (by decide) _ _ _ rfl (HOb.out.alloc _) ⟨w2.heap.size + 1, 0, none⟩ 1 1 [.int .i64 x, .slice A' ps.length c'] rfl rfl ?k1 ?k2 ?k3 ?k4 ?k5 ?_))
        case k1 =>
          intro i u hi
          match i, hi with
          | 0, hi => simp at hi; subst hi; simp [Addr.add]
          | 1, hi => simp at hi; subst hi; simp [Addr.add]
          | i + 2, hi => simp at hi
        case k2 => intro u hu; simp at hu; rcases hu with rfl | rfl <;> rfl
        case k3 => have := HLl.out; unfold maxLen; omega
        case k4 => have := HLl.out; omega
        case k5 => simp; omega
        · intro v3 w3 hown3 hgrow3 _
          have HO3 := Lib.hid (HO.out.push HB2'.out hws HO2.out hown3 hgrow3)
          have HB3 : Hid (Below wp.heap.size wp w3) := grown_below (jMore HBl.out HB2'.out) (by rw [HSz.out]; omega) HOb.out hgrow3
          have hx3 : w3.heap[w2.heap.size]? = some (.cells #[.int .i64 x, .slice A' ps.length c'] 34 (0, 0)) := by
            have h0 := hgrow3.block w2.heap.size (by simp; omega) (fun e => by
              have := (World.ownsRow.lt HO.out.1 _ e.symm).2
              omega)
            rw [h0, Below.heap_alloc _ _ _ (by rw [HSz.out]; omega)]
            exact HX1.out
          have hcx : w3.cell? ⟨w2.heap.size, 0, none⟩ = some (.int .i64 x) := cell_of_row w3 _ 0 _ _ _ hx3
          clear hown3 hgrow3 hx3 HX1 HOb HO2 HB2'
          by_cases hSc : q = c
          · rw [if_pos hSc] at HNx
            subst hSc
            go_wp2_with fail
            go_quiet (fail)
            go_wp2_with fail
            go_roundg (b - j - 1)
            case measure => exact HGK.out.1
            case rel =>
              obtain ⟨A4, c4, e4, h4, hI4⟩ := HNx.out
              exact ⟨j + 1, _, HGK.out.2, by go_num, ⟨A4, c4, by rw [HAt'.out]; exact e4, by rw [HAt'.out]; exact h4, by rw [HAt'.out]; exact hI4⟩, by rw [HAt'.out, ← HMin.out], HO3.out.below (jDrewN _), by rw [List.length_append, HLl.out]; rfl, by rw [blks_snoc, HBk.out, HCu.out], jMore HB3.out (jDrewN _)⟩
          · rw [if_neg hSc] at HNx
            have hSc' : q < c := by omega
            go_wp2_with fail
            go_quiet (fail)
            go_wp2_with fail
            go_roundg (b - j - 1)
            case measure => exact HGK.out.1
            case rel =>
              obtain ⟨A4, c4, e4, h4, hI4⟩ := HNx.out
              exact ⟨j + 1, _, HGK.out.2, by go_num, ⟨A4, c4, by rw [HAt'.out]; exact e4, by rw [HAt'.out]; exact h4, by rw [HAt'.out]; exact hI4⟩, by rw [HAt'.out, ← HMin.out], HO3.out.below (jDrewN _), by rw [List.length_append, HLl.out]; rfl, by rw [blks_snoc, HBk.out, HCu.out], jMore HB3.out (jDrewN _)⟩
    · obtain rfl : j = b := by omega
      have hji : ¬ (j : Int) < (j : Int) := by omega
      have HBk' : Hid (blks L = cutI (bsL s)) := by
        show _ = _
        rw [HBk.out]
        exact List.take_of_length_le (by rw [cutI_length, hB, hb]; exact Nat.le_refl _)
      obtain ⟨A3, c3, rfl, _⟩ := HO.out.form
      clear HFacts HAt
      go_wp2_with fail
      go_ret2
      first
        | exact ⟨_, L, rfl, HO.out.lower HB1p.out.size, HBk'.out, jMore HB1p.out HBl.out⟩
        | exact ⟨_, rfl, L, HO.out.lower HB1p.out.size, HBk'.out, jMore HB1p.out HBl.out⟩
end Go.Proofs.Ythabkkboodhbmaa
