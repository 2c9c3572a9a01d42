/-
  The laws' toBlockS: a copy of blocks, of the call's own.
-/
import Derived.Test.YthabkkboodhbmaaJC
namespace Go.Proofs.Ythabkkboodhbmaa
open Go.RowKit

abbrev zeroB : Int × Value × List Int := (0, .slice none 0 0, [])
theorem made_zero : ∀ n : Nat, (madeCells (Value.agg #[.int .i64 0, .slice none 0 0]).cells (n * 2)).toList = cellsB (List.replicate n zeroB)
  | 0 => by simp [madeCells, cellsB]
  | n + 1 => by
    have ih := made_zero n
    have hc : (Value.agg #[.int .i64 0, .slice none 0 0]).cells = #[.int .i64 0, .slice none 0 0] := rfl
    rw [hc] at ih ⊢
    unfold madeCells at ih ⊢
    rw [Array.toList_map, Array.toList_range] at ih ⊢
    rw [show (n + 1) * 2 = n * 2 + 1 + 1 by omega, List.range_succ, List.range_succ, List.map_append, List.map_append, ih, List.replicate_succ', cellsB_append, List.append_assoc]
    congr 1
    have h1 : n * 2 % 2 = 0 := by omega
    have h2 : (n * 2 + 1) % 2 = 1 := by omega
    simp [h1, h2, cellsB]
theorem cellsB_put : ∀ (L : List (Int × Value × List Int)) (j : Nat) (_ : j < L.length) (x : Int) (u : Value) (zs : List Int), ((cellsB L).set (j * 2) (.int .i64 x)).set (j * 2 + 1) u = cellsB (L.set j (x, u, zs))
  | p :: L, 0, _, x, u, zs => by
    show ((cellsB (p :: L)).set 0 _).set 1 _ = cellsB ((x, u, zs) :: L)
    rw [cellsB_cons, cellsB_cons]; rfl
  | p :: L, j + 1, hj, x, u, zs => by
    have := cellsB_put L j (by simp at hj; omega) x u zs
    show ((cellsB (p :: L)).set ((j + 1) * 2) _).set ((j + 1) * 2 + 1) _ = cellsB (p :: L.set j (x, u, zs))
    rw [cellsB_cons, cellsB_cons, show (j + 1) * 2 = j * 2 + 1 + 1 by omega, List.set_cons_succ, List.set_cons_succ, List.set_cons_succ, List.set_cons_succ, this]
/-- A block is written whole. -/
theorem OwnB.put {w : World} {base g n cap : Nat} {L : List (Int × Value × List Int)} (h : OwnB w base (.slice (some ⟨g, 0, none⟩) n cap) L) {j : Nat} (hj : j < L.length) (x : Int) {u : Value} {zs : List Int} (hu : Own w base u zs)
    (hap : ∀ p ∈ L, p.2.1.ownBlock = none ∨ p.2.1.ownBlock ≠ u.ownBlock) :
    OwnB ((w.setCell ⟨g, j * 2, none⟩ (.int .i64 x)).setCell ⟨g, j * 2 + 1, none⟩ u) base (.slice (some ⟨g, 0, none⟩) n cap) (L.set j (x, u, zs)) ∧ w.grownBy ((w.setCell ⟨g, j * 2, none⟩ (.int .i64 x)).setCell ⟨g, j * 2 + 1, none⟩ u) (some g) := by
  have hl : n = L.length := by
    rcases h.1.2 with ⟨e, _⟩ | ⟨g', cap', cur', e, _⟩
    · cases e
    · injection e with _ e2 _
  subst hl
  have hs := h.1.stored (j * 2) (.int .i64 x)
  have hs2 := hs.1.stored (j * 2 + 1) u
  rw [cellsB_put L j hj x u zs] at hs2
  have hg := grownBy_trans hs.2 hs2.2
  refine ⟨⟨by rw [List.length_set]; exact hs2.1, fun p hp => ?_, ?_⟩, hg⟩
  · rcases List.mem_or_eq_of_mem_set hp with hp | rfl
    · exact (h.2.1 p hp).kept hg (own_ne h.1 (h.2.1 p hp))
    · exact hu.kept hg (own_ne h.1 hu)
  · refine List.pairwise_iff_getElem.2 fun a b ha hb hab => ?_
    rw [List.length_set] at ha hb
    have hpw := List.pairwise_iff_getElem.1 h.2.2
    rw [List.getElem_set, List.getElem_set]
    split
    · split
      · omega
      · exact apartS (hap _ (List.getElem_mem hb))
    · split
      · exact hap _ (List.getElem_mem ha)
      · exact hpw a b ha hb hab
theorem zeros_own (w : World) (base n : Nat) : (∀ p ∈ List.replicate n zeroB, Own w base p.2.1 p.2.2) ∧ (List.replicate n zeroB).Pairwise fun p q => p.2.1.ownBlock = none ∨ p.2.1.ownBlock ≠ q.2.1.ownBlock := by
  refine ⟨fun p hp => ?_, ?_⟩
  · rw [List.eq_of_mem_replicate hp]; exact Own.nil _ _
  · refine List.pairwise_iff_getElem.2 fun a b ha hb hab => Or.inl ?_
    rw [List.getElem_replicate]; rfl
theorem mid_put {α : Type} (L : List α) (z y : α) (m : Nat) : (L ++ List.replicate (m + 1) z).set L.length y = L ++ [y] ++ List.replicate m z := by
  rw [List.replicate_succ]; simp

set_option maxRecDepth 100000 in
set_option maxHeartbeats 2000000 in
theorem toBlockS_any (A : Option Addr) (bs : List (Int × List Int)) (c : Nat) (w : World) (ha : Blks w A bs) (hl : bs.length ≤ 1048576) (hz : ∀ p ∈ bs, p.2.length ≤ 1048576) :
    Calls Try.prog 43 #[.slice A bs.length c] w fun e w' => ∃ v L, e = .returned v ∧ OwnB w' w.heap.size v L ∧ blks L = bs ∧ Below w.heap.size w w' := by
  obtain ⟨i1, hi', hy0, hy1, hy2⟩ := info_parts blockInfo
  have HA := Lib.hid ha
  have HZ := Lib.hid hz
  clear ha hz
  generalize hnn : bs.length = n at *
  have HN := Lib.hid hnn
  clear hnn
  go_enter Try.func43, Try.ntmps43
  go_wp2_with (at_make; refine wpList_make_full _ rfl _ _ 24 rfl w.heap.size 34 i1 (.agg #[.int .i64 0, .slice none 0 0]) 2 Try.underlying24 hi' hy0 hy1 .i64 .i64 _ _ n rfl rfl rfl rfl (by rw [hy2]; omega) (by unfold maxLen; omega) (Nat.le_refl _) ?_; intro w1 hown1 hgr1)
  have hb1 : Below w.heap.size w w1 := (Below.refl _ _).grown hgr1 (Nat.le_refl _) (by simp)
  rw [made_zero] at hown1
  have HO : Hid (OwnB w1 w.heap.size (.slice (some ⟨w.heap.size, 0, none⟩) n n) ([] ++ List.replicate (n - 0) zeroB)) := by
    refine ⟨?_, (zeros_own w1 w.heap.size n).1, (zeros_own w1 w.heap.size n).2⟩
    simp only [List.nil_append, Nat.sub_zero, List.length_replicate]
    exact hown1
  have HB := Lib.hid hb1
  clear hgr1 hown1 hb1 hi' hy0 hy1 hy2
  go_loopg [4] n (fun gk i wr => ∃ (j : Nat) (L : List (Int × Value × List Int)), j + gk = n ∧ i = .int .i64 j ∧ L.length = j ∧ blks L = bs.take j ∧ OwnB wr w.heap.size (.slice (some ⟨w.heap.size, 0, none⟩) n n) (L ++ List.replicate (n - j) zeroB) ∧ Below w.heap.size w wr)
  case atStart => exact ⟨0, [], by omega, rfl, rfl, rfl, HO.out, HB.out⟩
  case round =>
    obtain ⟨j, L, hg, rfl, hLl, hbl, hown, hbel⟩ := hrel
    have HOw := Lib.hid hown
    have HBl := Lib.hid hbel
    have HLl := Lib.hid hLl
    have HBk := Lib.hid hbl
    clear hown hbel hLl hbl HO HB
    by_cases hlt : j < n
    · have hji : (j : Int) < (n : Int) := by omega
      have hlt2 : j < bs.length := by have := HN.out; omega
      obtain ⟨b1, o1, rfl, hc1⟩ := (HA.out.below HBl.out) (by rintro rfl; simp at hlt2)
      obtain ⟨p1, A1, c1, p2, p3⟩ := hc1 j hlt2
      have hzl := HZ.out bs[j] (List.getElem_mem hlt2)
      have HP3 := Lib.hid p3
      have HTk : Hid (bs.take (j + 1) = bs.take j ++ [(bs[j].1, bs[j].2)]) := List.take_succ_eq_append_getElem hlt2
      have HGK : Hid (n - j - 1 < gk ∧ j + 1 + (n - j - 1) = n) := by show _ ∧ _; omega
      clear hc1 p3 hg
      generalize bs[j] = p at *
      go_wp2_with fail
      refine (toBlock_any p.1 A1 p.2 c1 wr HP3.out (by omega)).mono ?_
      rintro e w2 ⟨v2, rfl, ho2, hb2⟩
      have hM := HOw.out.below hb2
      have hjM : j < (L ++ List.replicate (n - j) zeroB).length := by rw [List.length_append, HLl.out, List.length_replicate]; omega
      have hws := HBl.out.size
      obtain ⟨hP, hG⟩ := hM.put hjM p.1 (ho2.lower hws) (fun q hq => by
        cases hv : q.2.1.ownBlock with
        | none => exact Or.inl rfl
        | some k =>
          refine Or.inr fun e => ?_
          have h1 := ((HOw.out.2.1 q hq).lt k hv).2
          have h2 := (ho2.lt k e.symm).1
          omega)
      rw [show (L ++ List.replicate (n - j) zeroB).set j (p.1, v2, p.2) = (L ++ [(p.1, v2, p.2)]) ++ List.replicate (n - (j + 1)) zeroB by
        have := mid_put L zeroB (p.1, v2, p.2) (n - (j + 1))
        rw [HLl.out, show n - (j + 1) + 1 = n - j by omega] at this
        exact this] at hP
      have HPut := Lib.hid hP
      have HB2 : Hid (Below w.heap.size w ((w2.setCell ⟨w.heap.size, j * 2, none⟩ (.int .i64 p.1)).setCell ⟨w.heap.size, j * 2 + 1, none⟩ v2)) := (jMore HBl.out hb2).grown hG (jMore HBl.out hb2).size (fun k hk => by injection hk with hk; omega)
      have hM1 := hM.1
      rw [show (L ++ List.replicate (n - j) zeroB).length = n by rw [List.length_append, HLl.out, List.length_replicate]; omega] at hM1
      have hc0 : ∃ u0, w2.cell? ⟨w.heap.size, j * 2, none⟩ = some u0 := ⟨_, (hM1.cellAt (j * 2) (by omega)).trans (cellsB_at _ j hjM).1⟩
      have hc1 : ∃ u0, w2.cell? ⟨w.heap.size, j * 2 + 1, none⟩ = some u0 := ⟨_, (hM1.cellAt (j * 2 + 1) (by omega)).trans (cellsB_at _ j hjM).2⟩
      obtain ⟨u0, hc0⟩ := hc0
      obtain ⟨u1, hc1⟩ := hc1
      have hf0 := hM1.frozenAt (j * 2)
      have hf1 := hM1.frozenAt (j * 2 + 1)
      obtain ⟨A2, c2, rfl, _⟩ := ho2.form
      clear hM hM1 hP hG hjM ho2 hb2 p1 p2
      go_wp2_with fail
      go_roundg (n - j - 1)
      case measure => exact HGK.out.1
      case rel => exact ⟨j + 1, L ++ [(p.1, .slice A2 p.2.length c2, p.2)], HGK.out.2, by go_num, by rw [List.length_append, HLl.out]; rfl, by rw [blks_snoc, HBk.out, HTk.out], HPut.out, HB2.out⟩
    · obtain rfl : j = n := by omega
      have hji : ¬ (j : Int) < (j : Int) := by omega
      have HF : Hid (OwnB wr w.heap.size (.slice (some ⟨w.heap.size, 0, none⟩) j j) L) := by
        have := HOw.out
        rw [Nat.sub_self, List.replicate_zero, List.append_nil] at this
        exact this
      have HF2 : Hid (blks L = bs) := by show _ = _; rw [HBk.out]; exact List.take_of_length_le (by rw [HN.out]; exact Nat.le_refl _)
      go_wp2_with fail
      go_ret
      first
        | exact ⟨_, L, rfl, HF.out, HF2.out, HBl.out⟩
        | exact ⟨_, rfl, L, HF.out, HF2.out, HBl.out⟩
end Go.Proofs.Ythabkkboodhbmaa
