/-
  The model of chapter 4: a thing cut into blocks.
-/
import Derived.Test.YthabkkboodhbmaaJ6
namespace Go.Proofs.Ythabkkboodhbmaa
open Go.RowKit

set_option maxRecDepth 100000 in
set_option maxHeartbeats 400000 in
theorem jLeast (a b : Int) (w : World) : Calls Try.prog 66 #[.int .i64 a, .int .i64 b] w fun e w' => e = .returned (.int .i64 (min a b)) ∧ w = w' := by
  by_cases h : a < b
  · go_enter Try.func66, Try.ntmps66
    go_wp2_with fail
    go_ret
    exact ⟨ret_int (by omega), rfl⟩
  · go_enter Try.func66, Try.ntmps66
    go_wp2_with fail
    go_ret
    exact ⟨ret_int (by omega), rfl⟩
/-- The blocks of a thing, as numbers. -/
def cutI (B : List Nat) : List (Int × List Int) := (cutL B).map fun p => ((p.1 : Int), zI p.2)
theorem cutI_length (B : List Nat) : (cutI B).length = blkN B.length := by simp [cutI, cutL_length]
theorem cutI_at {B : List Nat} {k : Nat} (h : k < (cutI B).length) : (cutI B)[k] = (((blockL B (cntP B.length) (blkN B.length) k).1 : Int), zI (blockL B (cntP B.length) (blkN B.length) k).2) := by
  simp only [cutI, List.getElem_map]
  rw [cutL_at]

theorem blockInfo : (Try.prog.info? 34).map (fun i => (i.zero, i.size, i.bytes)) = some (some (.agg #[.int .i64 0, .slice none 0 0]), 2, 32) := by kernel_rfl
theorem blks_snoc (L : List (Int × Value × List Int)) (x : Int) (u : Value) (zs : List Int) : blks (L ++ [(x, u, zs)]) = blks L ++ [(x, zs)] := by simp [blks]
/-- A block more is appended to the call's own. -/
theorem OwnB.push {wr w2 w3 : World} {base : Nat} {v v3 u : Value} {L : List (Int × Value × List Int)} {x : Int} {zs : List Int} {o : Obj} (h : OwnB wr base v L) (hb : Below wr.heap.size wr w2) (hbase : base ≤ wr.heap.size) (hu : Own w2 wr.heap.size u zs)
    (h3 : w3.ownsRow base 34 2 v3 (L.length + 1) (cellsB L ++ [.int .i64 x, u])) (hg : (w2.alloc o).grownBy w3 v.ownBlock) : OwnB w3 base v3 (L ++ [(x, u, zs)]) := by
  have ha : Below w2.heap.size w2 (w2.alloc o) := (Below.refl _ _).alloc (Nat.le_refl _) _
  have h2 := (h.below hb).below ha
  have hu2 := (hu.lower hbase).below ha
  refine ⟨?_, fun p hp => ?_, ?_⟩
  · rw [List.length_append, List.length_singleton, cellsB_append]
    exact h3
  · rcases List.mem_append.1 hp with hp | hp
    · exact (h2.2.1 p hp).kept hg (own_ne h2.1 (h2.2.1 p hp))
    · rw [List.mem_singleton] at hp; subst hp
      exact hu2.kept hg (own_ne h2.1 hu2)
  · refine List.pairwise_append.2 ⟨h.2.2, List.pairwise_singleton _ _, fun p hp q hq => ?_⟩
    rw [List.mem_singleton] at hq; subst hq
    cases hv : p.2.1.ownBlock with
    | none => exact Or.inl rfl
    | some k =>
      refine Or.inr fun e => ?_
      have h1 := ((h.2.1 p hp).lt k hv).2
      have h2 := (hu.lt k e.symm).1
      omega

set_option maxRecDepth 100000 in
set_option maxHeartbeats 2000000 in
theorem sCut (s : ByteArray) (w : World) (hs : s.size ≤ 96) :
    Calls Try.prog 45 #[.string s] w fun e w' => ∃ v L, e = .returned v ∧ OwnB w' w.heap.size v L ∧ blks L = cutI (bsL s) ∧ Below w.heap.size w w' := by
  obtain ⟨i0, hi, hz0, hz1, hz2⟩ := info_parts intInfo
  obtain ⟨i1, hi', hy0, hy1, hy2⟩ := info_parts blockInfo
  have hB := bsL_length s
  have hlo : longOkB (s.size : Int) = true := inB_mk (by omega) (by omega)
  have HBf : Hid (blocksI (s.size : Int) = (blkN s.size : Nat)) := by show _ = _; rw [blocksI, if_pos hlo, Int.toNat_natCast]
  have HBk := Lib.hid (sBlocks_any (s.size : Int))
  rw [hlo, HBf.out] at HBk
  have hPl : (piecesL (bsL s)).length = cntP s.size := by rw [piecesL_length, hB]
  have hc96 : cntP s.size ≤ 24 := by unfold cntP; omega
  by_cases hb0 : blkN s.size = 0
  · have HE : Hid (cutI (bsL s) = []) := by
      show _ = _
      apply List.eq_nil_of_length_eq_zero
      rw [cutI_length, hB, hb0]
    have hb0' : ((((blkN s.size : Nat) : Int)) == 0) = true := by rw [hb0]; rfl
    go_enter Try.func45, Try.ntmps45
    go_wp2_with fail
    refine (sPieces s w hs).mono ?_
    rintro e w1 ⟨v1, rfl, ho1, hb1⟩
    obtain ⟨A1, c1, rfl, hI1⟩ := ho1.form
    go_wp2_with fail
    refine (HBk.out _).mono ?_
    rintro e w2 ⟨rfl, rfl⟩
    go_wp2_with fail
    go_ret
    exact ⟨_, [], rfl, OwnB.nil _ _, HE.out.symm, hb1⟩
  · have hb0' : ((((blkN s.size : Nat) : Int)) == 0) = false := by simp; omega
    have hbp : 1 ≤ blkN s.size ∧ blkN s.size ≤ cntP s.size ∧ blkN s.size ≤ 3 := by unfold blkN at hb0 ⊢; omega
    have hpok : partOkB (cntP s.size : Nat) (blkN s.size : Nat) = true := by
      rw [partOkB, inB_mk (by omega) (by omega), inB_mk (by omega) (by omega)]; rfl
    have HPt := Lib.hid (sPart_any (cntP s.size : Nat) (blkN s.size : Nat))
    simp only [partG, partS, partM, partR, hpok, if_true, Int.toNat_natCast] at HPt
    have HFacts := Lib.hid (fun k hk => block_facts (B := bsL s) (by omega) (k := k) hk)
    simp only [hB] at HFacts
    have HAt := Lib.hid (fun k => atK_succ (cntP s.size) (blkN s.size) k)
    have HMod : Hid (cntP s.size % blkN s.size < blkN s.size) := Nat.mod_lt _ (by omega)
    have HGr : Hid (0 < cntP s.size % blkN s.size → (cntP s.size + blkN s.size - 1) / blkN s.size = cntP s.size / blkN s.size + 1) := by
      intro h
      have h1 := Nat.div_add_mod (cntP s.size) (blkN s.size)
      have h2 := HMod.out
      rw [show cntP s.size + blkN s.size - 1 = (cntP s.size % blkN s.size - 1) + blkN s.size * (cntP s.size / blkN s.size + 1) by rw [Nat.mul_add]; omega, Nat.add_mul_div_left _ _ (by omega), Nat.div_eq_of_lt (by omega)]
      omega
    go_enter Try.func45, Try.ntmps45
    go_wp2_with fail
    refine (sPieces s w hs).mono ?_
    rintro e w1 ⟨v1, rfl, ho1, hb1⟩
    obtain ⟨g1, c1, rfl, hcp1, hI1⟩ : ∃ g1 c1, v1 = .slice (some ⟨g1, 0, none⟩) (cntP s.size) c1 ∧ cntP s.size ≤ c1 ∧ Ints w1 (some ⟨g1, 0, none⟩) (zI (piecesL (bsL s))) := by
      rcases ho1.2 with ⟨_, hn⟩ | ⟨g, cap, cur, e, hbg, hg, hle, r⟩
      · rw [zI_length, hPl] at hn; omega
      · obtain ⟨A', c', e', hI'⟩ := ho1.form
        rw [e] at e'
        injection e' with e1 e2 e3
        subst e1
        rw [zI_length, hPl] at e hle
        exact ⟨g, cap, e, hle, hI'⟩
    have HI1 := Lib.hid hI1
    have HB1 := Lib.hid hb1
    clear ho1 hb1 hI1
    go_wp2_with fail
    refine (HBk.out _).mono ?_
    rintro e w2 ⟨rfl, rfl⟩
    go_wp2_with fail
    refine (HPt.out _).mono ?_
    rintro e w2 ⟨rfl, rfl⟩
    clear HPt HBk
    generalize hp : cntP s.size = p at *
    generalize hb : blkN s.size = b at *
    generalize (p + b - 1) / b = gr at *
    generalize p / b = q at *
    generalize p % b = r at *
    go_wp2_with fail
    go_loopg [6, 12, 13] b (fun gk v a i wr => ∃ (j : Nat) (L : List (Int × Value × List Int)), j + gk = b ∧ i = .int .i64 j ∧ a = .int .i64 (atK p b j : Nat) ∧ OwnB wr w1.heap.size v L ∧ L.length = j ∧ blks L = (cutI (bsL s)).take j ∧ Below w1.heap.size w1 wr)
    case atStart => exact ⟨0, [], by omega, rfl, by rw [atK_zero]; rfl, OwnB.nil _ _, rfl, rfl, Below.refl _ _⟩
    case round =>
      obtain ⟨j, L, hg, rfl, rfl, hown, hLl, hbl, hbel⟩ := hrel
      have HO := Lib.hid hown
      have HBl := Lib.hid hbel
      have HBk := Lib.hid hbl
      have HLl := Lib.hid hLl
      have hws := hbel.size
      have HIr := Lib.hid (HI1.out.below hbel)
      clear hown hbel hbl hLl
      by_cases hlt : j < b
      · have hji : (j : Int) < (b : Int) := by omega
        obtain ⟨f1, f2, f3, f4, f5, f6, f7⟩ := HFacts.out j hlt
        have hsu := HAt.out j
        generalize hat : atK p b j = a at *
        by_cases hm : j < r
        · have hmi : (j : Int) < ((r : Nat) : Int) := by omega
          have hgr2 := HGr.out (by omega)
          rw [if_pos hm, ← hgr2] at hsu
          clear hgr2
          have hm4 : ((gr : Nat) : Int) * 4 ≤ 100 := by omega
          have hcl : a + gr ≤ c1 := by omega
          have hca : ¬ c1 = a := by omega
          have HGK : Hid (b - j - 1 < gk ∧ j + 1 + (b - j - 1) = b) := by show _ ∧ _; omega
          have HCu : Hid ((cutI (bsL s)).take (j + 1) = (cutI (bsL s)).take j ++ [(((min (s.size - 4 * a) (4 * gr) : Nat) : Int), ((zI (piecesL (bsL s))).drop a).take gr)]) := by
            show _ = _
            have hjc : j < (cutI (bsL s)).length := by rw [cutI_length, hB, hb]; exact hlt
            rw [List.take_succ_eq_append_getElem hjc, cutI_at, hB, hp, hb]
            unfold blockL
            rw [hat, hsu, hB, show a + gr - a = gr by omega]
            simp [zI, List.map_take, List.map_drop]
          have HNl : Hid ((((zI (piecesL (bsL s))).drop a).take gr).length = gr) := by show _ = _; rw [List.length_take, List.length_drop, zI_length, hPl]; omega
          have HAt' : Hid (atK p b (j + 1) = a + gr) := hsu
          have HNw : Hid (∀ i u, ((((zI (piecesL (bsL s))).drop a).take gr).map (Value.int .i64))[i]? = some u → (wr.alloc (.cells #[] 3)).cell? ((⟨g1, a, none⟩ : Addr).add i) = some u) := by
            intro i u hu
            rw [List.getElem?_map] at hu
            have him : i < gr := by
              rcases Nat.lt_or_ge i gr with h | h
              · exact h
              · rw [List.getElem?_eq_none (by rw [HNl.out]; exact h)] at hu; cases hu
            rw [List.getElem?_take_of_lt him, List.getElem?_drop, List.getElem?_eq_getElem (by rw [zI_length, hPl]; omega)] at hu
            obtain ⟨b', o', e', hc'⟩ := HIr.out.jAlloc (.cells #[] 3) (by intro e0; have := congrArg List.length e0; rw [zI_length, hPl, List.length_nil] at this; omega)
            injection e' with e'
            injection e' with e1 e2
            subst e1; subst e2
            have := hc' (a + i) (by rw [zI_length, hPl]; omega)
            rw [show (⟨g1, a, none⟩ : Addr).add i = ⟨g1, 0 + (a + i), none⟩ by unfold Addr.add; split <;> simp_all, this]
            rw [show (zI (piecesL (bsL s))).getD (a + i) 0 = (zI (piecesL (bsL s)))[a + i]'(by rw [zI_length, hPl]; omega) by simp [List.getD, show a + i < (zI (piecesL (bsL s))).length by rw [zI_length, hPl]; omega]]
            simpa using hu
          have HOe : Hid ((wr.alloc (.cells #[] 3)).ownsRow wr.heap.size 3 1 (.slice (some ⟨wr.heap.size, 0, none⟩) 0 0) 0 []) := ⟨rfl, Or.inr ⟨wr.heap.size, 0, #[], rfl, Nat.le_refl _, heap_alloc_new _ _, Nat.le_refl _, by unfold maxLen; omega, rfl, rfl⟩⟩
          clear HFacts HAt hsu f6 f7
          generalize ((zI (piecesL (bsL s))).drop a).take gr = ps at *
          go_wp2_with (first
            | (go_at_call 66; refine (jLeast _ _ _).mono ?_; rintro e w' ⟨rfl, rfl⟩)
            | (at_builtin; (refine wpList_append_own _ rfl _ _ 32 rfl wr.heap.size 3 i0 (.int .i64 0) 1 8 Try.underlying32 hi hz0 hz1 hz2 rfl (by decide) _ _ _ rfl HOe.out ⟨g1, a, none⟩ (a + gr - a) (c1 - a) (ps.map (Value.int .i64)) rfl ?l1 HNw.out ?l2 ?l3 ?l4 ?l5 ?_)))
          case l1 => rw [List.length_map, HNl.out]; omega
          case l2 => intro u hu; obtain ⟨z, _, rfl⟩ := List.mem_map.1 hu; rfl
          case l3 => unfold maxLen; omega
          case l4 => omega
          case l5 => simp
          · intro v' w2 hown' hgrow _
            have hO' : Own w2 wr.heap.size v' ps := by
              show w2.ownsRow _ _ _ _ _ _
              rw [HNl.out]
              exact hown'
            have hb2 : Below wr.heap.size wr w2 := ((Below.refl _ wr).alloc (Nat.le_refl _) (.cells #[] 3)).grown hgrow (by simp) (fun k hk => by injection hk with hk; exact Nat.le_of_eq hk)
            obtain ⟨A', c', rfl, _⟩ := hO'.form
            have HO' := Lib.hid hO'
            have HB2 := Lib.hid hb2
            have hs2 := hb2.size
            have HOb : Hid (w2.ownsRow w1.heap.size 34 2 u6 L.length (cellsB L)) := (HO.out.below hb2).1
            clear hown' hgrow hO' hb2
            go_wp2_with (at_builtin; (refine wpList_append_own _ rfl _ _ 24 rfl w1.heap.size 34 i1 (.agg #[.int .i64 0, .slice none 0 0]) 2 32 Try.underlying24 hi' hy0 hy1 hy2 rfl (by decide) _ _ _ rfl (HOb.out.alloc _) ⟨w2.heap.size, 0, none⟩ 1 1 [.int .i64 (min ((s.size : Int) - (a : Int) * 4) ((gr : Int) * 4)), .slice A' ps.length c'] rfl rfl ?k1 ?k2 ?k3 ?k4 ?k5 ?_))
            case k1 =>
              intro i u hi
              match i, hi with
              | 0, hi => simp at hi; subst hi; simp [Addr.add]
              | 1, hi => simp at hi; subst hi; simp [Addr.add]
              | i + 2, hi => simp at hi
            case k2 => intro u hu; simp at hu; rcases hu with rfl | rfl <;> rfl
            case k3 => have := HLl.out; unfold maxLen; omega
            case k4 => have := HLl.out; omega
            case k5 => simp; omega
            · intro v3 w3 hown3 hgrow3 _
              have hmin : min ((s.size : Int) - (a : Int) * 4) ((gr : Int) * 4) = ((min (s.size - 4 * a) (4 * gr) : Nat) : Int) := by omega
              rw [hmin] at hown3
              have HO3 := Lib.hid (HO.out.push HB2.out hws HO'.out hown3 hgrow3)
              have HB3 : Hid (Below w1.heap.size w1 w3) := grown_below (jMore HBl.out HB2.out) (Nat.le_trans hws hs2) HOb.out hgrow3
              clear hown3 hgrow3 hmin
              go_wp2_with fail
              go_roundg (b - j - 1)
              case measure => exact HGK.out.1
              case rel => exact ⟨j + 1, _, HGK.out.2, by go_num, by rw [HAt'.out]; go_num, HO3.out, by rw [List.length_append, HLl.out]; rfl, by rw [blks_snoc, HBk.out, HCu.out], HB3.out⟩
        · have hmi : ¬ (j : Int) < ((r : Nat) : Int) := by omega
          rw [if_neg hm] at hsu
          have ha2 : (a : Int) * 4 ≤ 96 := by omega
          have hm4 : ((q : Nat) : Int) * 4 ≤ 100 := by omega
          have hcl : a + q ≤ c1 := by omega
          have hca : ¬ c1 = a := by omega
          have HGK : Hid (b - j - 1 < gk ∧ j + 1 + (b - j - 1) = b) := by show _ ∧ _; omega
          have HCu : Hid ((cutI (bsL s)).take (j + 1) = (cutI (bsL s)).take j ++ [(((min (s.size - 4 * a) (4 * q) : Nat) : Int), ((zI (piecesL (bsL s))).drop a).take q)]) := by
            show _ = _
            have hjc : j < (cutI (bsL s)).length := by rw [cutI_length, hB, hb]; exact hlt
            rw [List.take_succ_eq_append_getElem hjc, cutI_at, hB, hp, hb]
            unfold blockL
            rw [hat, hsu, hB, show a + q - a = q by omega]
            simp [zI, List.map_take, List.map_drop]
          have HNl : Hid ((((zI (piecesL (bsL s))).drop a).take q).length = q) := by show _ = _; rw [List.length_take, List.length_drop, zI_length, hPl]; omega
          have HAt' : Hid (atK p b (j + 1) = a + q) := hsu
          have HNw : Hid (∀ i u, ((((zI (piecesL (bsL s))).drop a).take q).map (Value.int .i64))[i]? = some u → (wr.alloc (.cells #[] 3)).cell? ((⟨g1, a, none⟩ : Addr).add i) = some u) := by
            intro i u hu
            rw [List.getElem?_map] at hu
            have him : i < q := by
              rcases Nat.lt_or_ge i q with h | h
              · exact h
              · rw [List.getElem?_eq_none (by rw [HNl.out]; exact h)] at hu; cases hu
            rw [List.getElem?_take_of_lt him, List.getElem?_drop, List.getElem?_eq_getElem (by rw [zI_length, hPl]; omega)] at hu
            obtain ⟨b', o', e', hc'⟩ := HIr.out.jAlloc (.cells #[] 3) (by intro e0; have := congrArg List.length e0; rw [zI_length, hPl, List.length_nil] at this; omega)
            injection e' with e'
            injection e' with e1 e2
            subst e1; subst e2
            have := hc' (a + i) (by rw [zI_length, hPl]; omega)
            rw [show (⟨g1, a, none⟩ : Addr).add i = ⟨g1, 0 + (a + i), none⟩ by unfold Addr.add; split <;> simp_all, this]
            rw [show (zI (piecesL (bsL s))).getD (a + i) 0 = (zI (piecesL (bsL s)))[a + i]'(by rw [zI_length, hPl]; omega) by simp [List.getD, show a + i < (zI (piecesL (bsL s))).length by rw [zI_length, hPl]; omega]]
            simpa using hu
          have HOe : Hid ((wr.alloc (.cells #[] 3)).ownsRow wr.heap.size 3 1 (.slice (some ⟨wr.heap.size, 0, none⟩) 0 0) 0 []) := ⟨rfl, Or.inr ⟨wr.heap.size, 0, #[], rfl, Nat.le_refl _, heap_alloc_new _ _, Nat.le_refl _, by unfold maxLen; omega, rfl, rfl⟩⟩
          clear HFacts HAt hsu f6 f7
          generalize ((zI (piecesL (bsL s))).drop a).take q = ps at *
          go_wp2_with (first
            | (go_at_call 66; refine (jLeast _ _ _).mono ?_; rintro e w' ⟨rfl, rfl⟩)
            | (at_builtin; (refine wpList_append_own _ rfl _ _ 32 rfl wr.heap.size 3 i0 (.int .i64 0) 1 8 Try.underlying32 hi hz0 hz1 hz2 rfl (by decide) _ _ _ rfl HOe.out ⟨g1, a, none⟩ (a + q - a) (c1 - a) (ps.map (Value.int .i64)) rfl ?l1 HNw.out ?l2 ?l3 ?l4 ?l5 ?_)))
          case l1 => rw [List.length_map, HNl.out]; omega
          case l2 => intro u hu; obtain ⟨z, _, rfl⟩ := List.mem_map.1 hu; rfl
          case l3 => unfold maxLen; omega
          case l4 => omega
          case l5 => simp
          · intro v' w2 hown' hgrow _
            have hO' : Own w2 wr.heap.size v' ps := by
              show w2.ownsRow _ _ _ _ _ _
              rw [HNl.out]
              exact hown'
            have hb2 : Below wr.heap.size wr w2 := ((Below.refl _ wr).alloc (Nat.le_refl _) (.cells #[] 3)).grown hgrow (by simp) (fun k hk => by injection hk with hk; exact Nat.le_of_eq hk)
            obtain ⟨A', c', rfl, _⟩ := hO'.form
            have HO' := Lib.hid hO'
            have HB2 := Lib.hid hb2
            have hs2 := hb2.size
            have HOb : Hid (w2.ownsRow w1.heap.size 34 2 u6 L.length (cellsB L)) := (HO.out.below hb2).1
            clear hown' hgrow hO' hb2
            go_wp2_with (at_builtin; (refine wpList_append_own _ rfl _ _ 24 rfl w1.heap.size 34 i1 (.agg #[.int .i64 0, .slice none 0 0]) 2 32 Try.underlying24 hi' hy0 hy1 hy2 rfl (by decide) _ _ _ rfl (HOb.out.alloc _) ⟨w2.heap.size, 0, none⟩ 1 1 [.int .i64 (min ((s.size : Int) - (a : Int) * 4) ((q : Int) * 4)), .slice A' ps.length c'] rfl rfl ?k1 ?k2 ?k3 ?k4 ?k5 ?_))
            case k1 =>
              intro i u hi
              match i, hi with
              | 0, hi => simp at hi; subst hi; simp [Addr.add]
              | 1, hi => simp at hi; subst hi; simp [Addr.add]
              | i + 2, hi => simp at hi
            case k2 => intro u hu; simp at hu; rcases hu with rfl | rfl <;> rfl
            case k3 => have := HLl.out; unfold maxLen; omega
            case k4 => have := HLl.out; omega
            case k5 => simp; omega
            · intro v3 w3 hown3 hgrow3 _
              have hmin : min ((s.size : Int) - (a : Int) * 4) ((q : Int) * 4) = ((min (s.size - 4 * a) (4 * q) : Nat) : Int) := by omega
              rw [hmin] at hown3
              have HO3 := Lib.hid (HO.out.push HB2.out hws HO'.out hown3 hgrow3)
              have HB3 : Hid (Below w1.heap.size w1 w3) := grown_below (jMore HBl.out HB2.out) (Nat.le_trans hws hs2) HOb.out hgrow3
              clear hown3 hgrow3 hmin
              go_wp2_with fail
              go_roundg (b - j - 1)
              case measure => exact HGK.out.1
              case rel => exact ⟨j + 1, _, HGK.out.2, by go_num, by rw [HAt'.out]; go_num, HO3.out, by rw [List.length_append, HLl.out]; rfl, by rw [blks_snoc, HBk.out, HCu.out], HB3.out⟩
      · obtain rfl : j = b := by omega
        have hji : ¬ (j : Int) < (j : Int) := by omega
        have HBk' : Hid (blks L = cutI (bsL s)) := by
          show _ = _
          rw [HBk.out]
          exact List.take_of_length_le (by rw [cutI_length, hB, hb]; exact Nat.le_refl _)
        obtain ⟨A3, c3, rfl, _⟩ := HO.out.form
        clear HFacts HAt
        go_wp2_with fail
        go_ret
        exact ⟨_, rfl, L, HO.out.lower HB1.out.size, HBk'.out, jMore HB1.out HBl.out⟩
end Go.Proofs.Ythabkkboodhbmaa
