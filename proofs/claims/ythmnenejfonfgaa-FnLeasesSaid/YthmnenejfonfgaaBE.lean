/-
  The draws of chapter 12, first part: steps of a lease (leaseSteps).
-/
import Derived.Test.YthmnenejfonfgaaBD
import Derived.Test.YthmnenejfonfgaaGZ
namespace Go.Proofs.Ythmnenejfonfgaa
open Go.RowKit

theorem app_Zp {ops : Array Oper} {rest : List Oper} {o : Oper} {a : Act} {Q : Exit → Act → World → Prop} (W : World) (base : Nat) (v : Value) (L : List Zpc) (p : Zpc) (Bn : Nat) (hBn : Bn = W.heap.size) (hgd : o.guard = none) (s x : Operand)
    (ho : o.op = .call { callee := .builtin .append, args := #[s, x], argTypes := #[23, 23] }) (hs : a.eval s = v) (hx : a.eval x = .slice (some ⟨Bn, 0, none⟩) 1 1)
    (hown : OwnR 34 4 fZp W base v L) (hbase : base ≤ W.heap.size) (hlen : L.length ≤ 2000000) (w0 : World) (hb : Below base w0 W)
    (h : ∀ v' w', Hid (OwnR 34 4 fZp w' base v' (L ++ [p]) ∧ Below base w0 w' ∧ (W.alloc (.cells #[.int .i64 p.1, .int .i64 p.2.1, .int .i64 p.2.2.1, .int .i64 p.2.2.2] 34)).grownBy w' v.ownBlock) → wpList Try.prog ops Q rest (a.put o.dst v') w') :
    wpList Try.prog ops Q (o :: rest) a (W.alloc (.cells #[.int .i64 p.1, .int .i64 p.2.1, .int .i64 p.2.2.1, .int .i64 p.2.2.2] 34)) := by
  obtain ⟨i0, hi, hz0, hz1, hz2⟩ := info_parts ZpInfo
  exact app_row fZp_len (by decide) fZp_one Try.underlying23 hi hz0 hz1 hz2 rfl (by decide) W base v L p Bn hBn hgd s x ho hs hx hown hbase hlen w0 hb h
theorem own_some12 {w : World} {base n c : Nat} {A : Option Addr} {L : List Zpc} (h : OwnR 34 4 fZp w base (.slice A n c) L) (hne : L ≠ []) : ∃ g, A = some ⟨g, 0, none⟩ := by
  rcases h.2 with ⟨e, hn⟩ | ⟨g, cap, cur, e, _⟩
  · exact absurd (List.eq_nil_of_length_eq_zero hn) hne
  · injection e with e1
    exact ⟨g, e1⟩
/-- In the midst of a round: the step p in block X, the steps so far. -/
structure Mz12 (w wr : World) (B K X : Nat) (d : Value) (L : List Zpc) (p : Zpc) : Prop where
  box : wr.heap[X]? = some (.cells #[.int .i64 p.1, .int .i64 p.2.1, .int .i64 p.2.2.1, .int .i64 p.2.2.2] 34 (0, 0))
  own : OwnR 34 4 fZp wr w.heap.size d L
  off : ∀ q, d.ownBlock = some q → q ≠ X
  cur : Cur wr B K
  grown : w.grownBy wr (some B)
  lt : B < w.heap.size
  le : w.heap.size ≤ X
theorem Mz12.call {w wr w' : World} {B K X : Nat} {d : Value} {L : List Zpc} {p : Zpc} (h : Mz12 w wr B K X d L p) (hc : Cur w' B (K + 2)) (hg : wr.grownBy w' (some B)) : Mz12 w w' B (K + 2) X d L p :=
  ⟨(hg.block _ (heap_lt h.box) (by have := h.lt; have := h.le; intro e; injection e with e; omega)).trans h.box, h.own.cur h.lt hg, h.off, hc, grownBy_trans h.grown hg, h.lt, h.le⟩
theorem Mz12.set {w wr : World} {B K X : Nat} {d : Value} {L : List Zpc} {p : Zpc} (h : Mz12 w wr B K X d L p) (z : Int) :
    Mz12 w (wr.setCell ⟨X, 3, none⟩ (.int .i64 z)) B K X d L (p.1, p.2.1, p.2.2.1, z) := by
  have hg : wr.grownBy (wr.setCell ⟨X, 3, none⟩ (.int .i64 z)) (some X) := gSetL wr X 3 _
  refine ⟨heap_setCell_same _ _ 3 _ _ _ h.box, h.own.kept hg ?_, h.off, h.cur.grown hg (fun g hg => by injection hg with hg; have := h.lt; have := h.le; omega), ?_, h.lt, h.le⟩
  · cases hv : d.ownBlock with
    | none => exact Or.inl rfl
    | some q => exact Or.inr (by intro e; injection e with e; exact h.off q hv e)
  · exact grown_set h.grown h.le 3 _
theorem mz_new {w wr : World} {B K : Nat} {d : Value} {L : List Zpc} (ho : OwnR 34 4 fZp wr w.heap.size d L) (hc : Cur wr B K) (hg : w.grownBy wr (some B)) (hl : B < w.heap.size) (p : Zpc) : Mz12 w (wr.alloc (.cells #[.int .i64 p.1, .int .i64 p.2.1, .int .i64 p.2.2.1, .int .i64 p.2.2.2] 34)) B K wr.heap.size d L p :=
  ⟨heap_alloc_new _ _, ho.below (gAlloc _ _), fun q hq => by have := (ho.lt q hq).2; omega, hc.below (gAlloc _ _), grownBy_trans hg (World.grownBy_alloc _ _ _), hl, hg.size⟩
theorem Mz12.fin {w wr w' : World} {B K X : Nat} {d d' : Value} {L : List Zpc} {p : Zpc} (h : Mz12 w wr B K X d L p) {o : Obj}
    (J : OwnR 34 4 fZp w' w.heap.size d' (L ++ [p]) ∧ Below w.heap.size wr w' ∧ (wr.alloc o).grownBy w' d.ownBlock) : OwnR 34 4 fZp w' w.heap.size d' (L ++ [p]) ∧ Cur w' B K ∧ w.grownBy w' (some B) :=
  ⟨J.1, (h.cur.below (gAlloc wr o)).grown J.2.2 (fun g hg => Nat.lt_of_lt_of_le h.lt (h.own.lt g hg).1), J.2.1.os.trans h.grown.os, J.2.1.tape.trans h.grown.tape, J.2.1.output.trans h.grown.output, Nat.le_trans h.grown.size J.2.1.size, fun k hk hne => (J.2.1.block k hk).trans (h.grown.block k hk hne)⟩

set_option maxRecDepth 100000 in
set_option maxHeartbeats 4000000 in
theorem leaseSteps12 (B k : Nat) (w : World) (hcur : Cur w B k) (hk : k ≤ 68719476736) :
    Calls Try.prog 39 #[.pointer (some ⟨B, 0, none⟩)] w fun e w' => ∃ A c L, e = .returned (.slice A (List.length L) c) ∧ OwnR 34 4 fZp w' w.heap.size (.slice A L.length c) L ∧ L.length ≤ 41 ∧ Cur w' B (k + 600) ∧ w.grownBy w' (some B) := by
  have hB := hcur.lt
  have HC := Lib.hid hcur
  clear hcur
  go_enter Try.func39, Try.ntmps39
  go_wp2_with fail
  refine (pick_any B k 14 _ HC.out (by omega) (by decide)).mono ?_
  rintro e wa ⟨xa, rfl, hxa, hca, hga⟩
  obtain ⟨ha0, ha1⟩ := pick_to hxa (by decide)
  have HCa := Lib.hid hca
  have HGa := Lib.hid hga
  clear hca hga hxa
  go_wp2_with fail
  refine (one_any B (k + 2) 20 _ HCa.out (by omega) (by decide)).mono ?_
  rintro e wb ⟨bb, rfl, hcb, hgb⟩
  have HCb := Lib.hid hcb
  have HGb := Lib.hid (grownBy_trans HGa.out hgb)
  clear hcb hgb HCa HGa
  cases bb
  · obtain ⟨N, rfl⟩ := Int.eq_ofNat_of_zero_le ha0
    have hN : N ≤ 14 := by omega
    go_wp2_with fail
    go_loopg [5, 3, 4] N (fun gk i d tt wr => ∃ (L : List Zpc) (T : Int), i = .int .i64 (gk : Nat) ∧ tt = .int .i64 T ∧ 0 ≤ T ∧ T ≤ 9 * (L.length : Int) ∧ OwnR 34 4 fZp wr w.heap.size d L ∧ L.length + gk = N ∧ Cur wr B (k + 6 + 12 * L.length) ∧ w.grownBy wr (some B))
    case atStart => exact ⟨[], 0, rfl, rfl, Int.le_refl _, by simp, OwnR.nil _ _, by simp, HCb.out.mono (by show _ ≤ k + 6 + 12 * 0; omega), HGb.out⟩
    case round =>
      obtain ⟨L, T, rfl, rfl, hT0, hT1, hO, hLM, hC, hG⟩ := hrel
      obtain ⟨A, c, rfl, hlc, -⟩ := hO.form fZp_len
      have HO := Lib.hid hO
      have HCr := Lib.hid hC
      have HGr := Lib.hid hG
      have HL : Hid (L.length + gk = N ∧ N ≤ 41) := ⟨hLM, by omega⟩
      clear hO hC hG hLM HCb HGb
      have hL41 : L.length ≤ 41 := by have := HL.out; omega
      have hT2 : T ≤ 369 := by omega
      by_cases hgk : 0 < gk
      case neg =>
        have hgi : ¬ (0 : Int) < (gk : Int) := by omega
        by_cases hne : L = []
        case pos =>
          subst hne
          have h0 : ¬ (0 : Int) < ((([] : List Zpc).length : Nat) : Int) := by simp
          go_wp2_with fail
          go_ret
          exact ⟨A, c, [], rfl, HO.out, by simp, HCr.out.mono (by simp), HGr.out⟩
        case neg =>
          obtain ⟨m, hm⟩ : ∃ m, Hid (L.length = m + 1) := ⟨L.length - 1, Lib.hid (by have := List.length_pos_iff.2 hne; omega)⟩
          have h0 : (0 : Int) < (L.length : Int) := by have := hm.out; omega
          go_wp2_with fail
          refine (one_any B (k + 6 + 12 * L.length) 30 wr HCr.out (by omega) (by decide)).mono ?_
          rintro e w1 ⟨b1, rfl, hc1, hg1⟩
          have HC1 := Lib.hid hc1
          have HG1 := Lib.hid (grownBy_trans HGr.out hg1)
          have HO1 := Lib.hid (HO.out.cur hB hg1)
          clear hc1 hg1 HCr HGr HO
          cases b1
          · go_wp2_with fail
            go_ret
            exact ⟨A, c, L, rfl, HO1.out, by have := HL.out; omega, HC1.out.mono (by have := HL.out; omega), HG1.out⟩
          · obtain ⟨Y, hY⟩ : ∃ Y, L.length = Y := ⟨_, rfl⟩
            have hsub : (L.length : Int) - 1 = (m : Int) := by have := hm.out; omega
            have hmlt : (m : Int) < (L.length : Int) := by have := hm.out; omega
            have hm0 : (0 : Int) ≤ (m : Int) := by omega
            clear hY
            go_wp2_with fail
            refine (among_lit B (k + 6 + 12 * L.length + 2) [-1, 10000, 10001] w1 HC1.out (by omega) (by decide) (by decide) 3 3 rfl).mono ?_
            rintro e w2 ⟨x2, rfl, -, hc2, hg2⟩
            have hO2 := HO1.out.cur hB hg2
            obtain ⟨g, rfl⟩ : ∃ g, A = some ⟨g, 0, none⟩ := own_some12 hO2 hne
            have hml : m < L.length := by have := hm.out; omega
            obtain ⟨-, -, ⟨hcc, hff⟩, -⟩ := Zp_own_at hO2 hml
            obtain ⟨hP, hgp⟩ := hO2.put fZp_len hml (i := 2) (by decide) (u := .int .i64 x2) (y := ((L[m]).1, (L[m]).2.1, x2, (L[m]).2.2.2)) rfl
            have HP := Lib.hid hP
            have HC3 := Lib.hid (hc2.grown hgp (fun q hq => by injection hq with hq; have := (hO2.lt g rfl).1; omega))
            have HG3 := Lib.hid (grown_set (grownBy_trans HG1.out hg2) (show w.heap.size ≤ g from (hO2.lt g rfl).1) (m * 4 + 2) (.int .i64 x2))
            generalize L[m] = lm at *
            clear hc2 hg2 hO2 hP hgp HC1 HG1 HO1
            go_wp2_with fail
            go_ret
            exact ⟨some ⟨g, 0, none⟩, c, L.set m (lm.1, lm.2.1, x2, lm.2.2.2), by rw [List.length_set]; rfl, by rw [List.length_set]; exact HP.out, by rw [List.length_set]; have := HL.out; omega, HC3.out.mono (by have := HL.out; omega), HG3.out⟩
      have hgi : (0 : Int) < (gk : Int) := by omega
      have hgk2 : (gk : Int) ≤ 41 := by have := HL.out; omega
      go_wp2_with fail
      refine (pick_any B (k + 6 + 12 * L.length) 9 wr HCr.out (by omega) (by decide)).mono ?_
      rintro e w1 ⟨x1, rfl, hx1, hc1, hg1⟩
      obtain ⟨a0, a1⟩ := pick_to hx1 (by decide)
      have HC1 := Lib.hid hc1
      have HG1 := Lib.hid (grownBy_trans HGr.out hg1)
      have HO1 := Lib.hid (HO.out.cur hB hg1)
      clear hx1 hc1 hg1 HCr HGr HO
      go_wp2_with fail
      refine (among_lit B (k + 6 + 12 * L.length + 2) [1, 1, 1, 2, 3] w1 HC1.out (by omega) (by decide) (by decide) 5 5 rfl).mono ?_
      rintro e w2 ⟨r, rfl, hr, hc2, hg2⟩
      have HC2 := Lib.hid hc2
      have HG2 := Lib.hid (grownBy_trans HG1.out hg2)
      have HO2 := Lib.hid (HO1.out.cur hB hg2)
      clear hr hc2 hg2 HC1 HG1 HO1
      go_wp2_with fail
      refine (pick_any B (k + 6 + 12 * L.length + 2 + 2) 3 w2 HC2.out (by omega) (by decide)).mono ?_
      rintro e w3 ⟨x3, rfl, hx3, hc3, hg3⟩
      obtain ⟨b0, b1⟩ := pick_to hx3 (by decide)
      have HC3 := Lib.hid hc3
      have HG3 := Lib.hid (grownBy_trans HG2.out hg3)
      have HO3 := Lib.hid (HO2.out.cur hB hg3)
      clear hx3 hc3 hg3 HC2 HG2 HO2
      go_wp2_with fail
      refine (pick_any B (k + 6 + 12 * L.length + 2 + 2 + 2) 20 w3 HC3.out (by omega) (by decide)).mono ?_
      rintro e w4 ⟨x4, rfl, hx4, hc4, hg4⟩
      obtain ⟨d0, d1⟩ := pick_to hx4 (by decide)
      have HMf := Lib.hid (fun p => mz_new (HO3.out.cur hB hg4) hc4 (grownBy_trans HG3.out hg4) hB p)
      have HM := Lib.hid (HMf.out (r, 1 + x3, T + x1, 1 + x4))
      clear hx4 hc4 hg4 HC3 HG3 HO3
      have hwl : w4.heap.size = w4.heap.size := rfl
      clear hwl
      have xa0 : (w4.alloc (.cells #[.int .i64 r, .int .i64 (1 + x3), .int .i64 (T + x1), .int .i64 (1 + x4)] 34)).cell? ⟨w4.heap.size, 0, none⟩ = some (.int .i64 (r)) := cell_of_row _ _ 0 _ _ _ HM.out.box
      have fa0 : (w4.alloc (.cells #[.int .i64 r, .int .i64 (1 + x3), .int .i64 (T + x1), .int .i64 (1 + x4)] 34)).frozen? ⟨w4.heap.size, 0, none⟩ = false := frozen_of_row (w4.alloc (.cells #[.int .i64 r, .int .i64 (1 + x3), .int .i64 (T + x1), .int .i64 (1 + x4)] 34)) _ 0 _ _ HM.out.box
      have xa1 : (w4.alloc (.cells #[.int .i64 r, .int .i64 (1 + x3), .int .i64 (T + x1), .int .i64 (1 + x4)] 34)).cell? ⟨w4.heap.size, 1, none⟩ = some (.int .i64 (1 + x3)) := cell_of_row _ _ 1 _ _ _ HM.out.box
      have fa1 : (w4.alloc (.cells #[.int .i64 r, .int .i64 (1 + x3), .int .i64 (T + x1), .int .i64 (1 + x4)] 34)).frozen? ⟨w4.heap.size, 1, none⟩ = false := frozen_of_row (w4.alloc (.cells #[.int .i64 r, .int .i64 (1 + x3), .int .i64 (T + x1), .int .i64 (1 + x4)] 34)) _ 1 _ _ HM.out.box
      have xa2 : (w4.alloc (.cells #[.int .i64 r, .int .i64 (1 + x3), .int .i64 (T + x1), .int .i64 (1 + x4)] 34)).cell? ⟨w4.heap.size, 2, none⟩ = some (.int .i64 (T + x1)) := cell_of_row _ _ 2 _ _ _ HM.out.box
      have fa2 : (w4.alloc (.cells #[.int .i64 r, .int .i64 (1 + x3), .int .i64 (T + x1), .int .i64 (1 + x4)] 34)).frozen? ⟨w4.heap.size, 2, none⟩ = false := frozen_of_row (w4.alloc (.cells #[.int .i64 r, .int .i64 (1 + x3), .int .i64 (T + x1), .int .i64 (1 + x4)] 34)) _ 2 _ _ HM.out.box
      have xa3 : (w4.alloc (.cells #[.int .i64 r, .int .i64 (1 + x3), .int .i64 (T + x1), .int .i64 (1 + x4)] 34)).cell? ⟨w4.heap.size, 3, none⟩ = some (.int .i64 (1 + x4)) := cell_of_row _ _ 3 _ _ _ HM.out.box
      have fa3 : (w4.alloc (.cells #[.int .i64 r, .int .i64 (1 + x3), .int .i64 (T + x1), .int .i64 (1 + x4)] 34)).frozen? ⟨w4.heap.size, 3, none⟩ = false := frozen_of_row (w4.alloc (.cells #[.int .i64 r, .int .i64 (1 + x3), .int .i64 (T + x1), .int .i64 (1 + x4)] 34)) _ 3 _ _ HM.out.box
      by_cases h3 : r = 3
      · subst h3
        have HM5 := Lib.hid (HMf.out (3, 1 + x3, T + x1, 0))
        go_wp2_with fail
        refine (one_any B (k + 6 + 12 * L.length + 2 + 2 + 2 + 2) 40 _ HM5.out.cur (by omega) (by decide)).mono ?_
        rintro e w6 ⟨b6, rfl, hc6, hg6⟩
        have HM6 := Lib.hid (HM5.out.call hc6 hg6)
        clear hc6 hg6
        have xs0 : w6.cell? ⟨w4.heap.size, 0, none⟩ = some (.int .i64 (3)) := cell_of_row _ _ 0 _ _ _ HM6.out.box
        have fs0 : w6.frozen? ⟨w4.heap.size, 0, none⟩ = false := frozen_of_row w6 _ 0 _ _ HM6.out.box
        have xs1 : w6.cell? ⟨w4.heap.size, 1, none⟩ = some (.int .i64 (1 + x3)) := cell_of_row _ _ 1 _ _ _ HM6.out.box
        have fs1 : w6.frozen? ⟨w4.heap.size, 1, none⟩ = false := frozen_of_row w6 _ 1 _ _ HM6.out.box
        have xs2 : w6.cell? ⟨w4.heap.size, 2, none⟩ = some (.int .i64 (T + x1)) := cell_of_row _ _ 2 _ _ _ HM6.out.box
        have fs2 : w6.frozen? ⟨w4.heap.size, 2, none⟩ = false := frozen_of_row w6 _ 2 _ _ HM6.out.box
        have xs3 : w6.cell? ⟨w4.heap.size, 3, none⟩ = some (.int .i64 (0)) := cell_of_row _ _ 3 _ _ _ HM6.out.box
        have fs3 : w6.frozen? ⟨w4.heap.size, 3, none⟩ = false := frozen_of_row w6 _ 3 _ _ HM6.out.box
        cases b6
        · skip
          go_wp2_with (at_builtin; refine app_Zp w6 w.heap.size _ L (3, 1 + x3, T + x1, 0) w6.heap.size rfl rfl _ _ rfl rfl rfl HM6.out.own HM6.out.grown.size (by omega) w6 (Below.refl _ _) ?_; intro d' wz J)
          go_roundg (gk - 1)
          case measure => omega
          case rel => exact ⟨L ++ [(3, 1 + x3, T + x1, 0)], T + x1, by go_num, rfl, by omega, by simp; omega, (HM6.out.fin J.out).1, by have := HL.out; simp; omega, (HM6.out.fin J.out).2.1.mono (by simp; omega), (HM6.out.fin J.out).2.2⟩
        · go_wp2_with fail
          refine (among_lit B ((k + 6 + 12 * L.length + 2 + 2 + 2 + 2) + 2) [0, 100, 101] w6 HM6.out.cur (by omega) (by decide) (by decide) 3 3 rfl).mono ?_
          rintro e w7 ⟨x7, rfl, -, hc7, hg7⟩
          have HM7 := Lib.hid (HM6.out.call hc7 hg7)
          clear hc7 hg7
          have xt0 : w7.cell? ⟨w4.heap.size, 0, none⟩ = some (.int .i64 (3)) := cell_of_row _ _ 0 _ _ _ HM7.out.box
          have ft0 : w7.frozen? ⟨w4.heap.size, 0, none⟩ = false := frozen_of_row w7 _ 0 _ _ HM7.out.box
          have xt1 : w7.cell? ⟨w4.heap.size, 1, none⟩ = some (.int .i64 (1 + x3)) := cell_of_row _ _ 1 _ _ _ HM7.out.box
          have ft1 : w7.frozen? ⟨w4.heap.size, 1, none⟩ = false := frozen_of_row w7 _ 1 _ _ HM7.out.box
          have xt2 : w7.cell? ⟨w4.heap.size, 2, none⟩ = some (.int .i64 (T + x1)) := cell_of_row _ _ 2 _ _ _ HM7.out.box
          have ft2 : w7.frozen? ⟨w4.heap.size, 2, none⟩ = false := frozen_of_row w7 _ 2 _ _ HM7.out.box
          have xt3 : w7.cell? ⟨w4.heap.size, 3, none⟩ = some (.int .i64 (0)) := cell_of_row _ _ 3 _ _ _ HM7.out.box
          have ft3 : w7.frozen? ⟨w4.heap.size, 3, none⟩ = false := frozen_of_row w7 _ 3 _ _ HM7.out.box
          have HM8 := Lib.hid (HM7.out.set x7)
          go_wp2_with (at_builtin; refine app_Zp (w7.setCell ⟨w4.heap.size, 3, none⟩ (.int .i64 x7)) w.heap.size _ L (3, 1 + x3, T + x1, x7) w7.heap.size (by simp) rfl _ _ rfl rfl rfl HM8.out.own HM8.out.grown.size (by omega) (w7.setCell ⟨w4.heap.size, 3, none⟩ (.int .i64 x7)) (Below.refl _ _) ?_; intro d' wz J)
          go_roundg (gk - 1)
          case measure => omega
          case rel => exact ⟨L ++ [(3, 1 + x3, T + x1, x7)], T + x1, by go_num, rfl, by omega, by simp; omega, (HM8.out.fin J.out).1, by have := HL.out; simp; omega, (HM8.out.fin J.out).2.1.mono (by simp; omega), (HM8.out.fin J.out).2.2⟩
      · have hr3 : (r == 3) = false := by simpa using h3
        go_wp2_with fail
        refine (one_any B (k + 6 + 12 * L.length + 2 + 2 + 2 + 2) 40 _ HM.out.cur (by omega) (by decide)).mono ?_
        rintro e w6 ⟨b6, rfl, hc6, hg6⟩
        have HM6 := Lib.hid (HM.out.call hc6 hg6)
        clear hc6 hg6
        have xs0 : w6.cell? ⟨w4.heap.size, 0, none⟩ = some (.int .i64 (r)) := cell_of_row _ _ 0 _ _ _ HM6.out.box
        have fs0 : w6.frozen? ⟨w4.heap.size, 0, none⟩ = false := frozen_of_row w6 _ 0 _ _ HM6.out.box
        have xs1 : w6.cell? ⟨w4.heap.size, 1, none⟩ = some (.int .i64 (1 + x3)) := cell_of_row _ _ 1 _ _ _ HM6.out.box
        have fs1 : w6.frozen? ⟨w4.heap.size, 1, none⟩ = false := frozen_of_row w6 _ 1 _ _ HM6.out.box
        have xs2 : w6.cell? ⟨w4.heap.size, 2, none⟩ = some (.int .i64 (T + x1)) := cell_of_row _ _ 2 _ _ _ HM6.out.box
        have fs2 : w6.frozen? ⟨w4.heap.size, 2, none⟩ = false := frozen_of_row w6 _ 2 _ _ HM6.out.box
        have xs3 : w6.cell? ⟨w4.heap.size, 3, none⟩ = some (.int .i64 (1 + x4)) := cell_of_row _ _ 3 _ _ _ HM6.out.box
        have fs3 : w6.frozen? ⟨w4.heap.size, 3, none⟩ = false := frozen_of_row w6 _ 3 _ _ HM6.out.box
        cases b6
        · skip
          go_wp2_with (at_builtin; refine app_Zp w6 w.heap.size _ L (r, 1 + x3, T + x1, 1 + x4) w6.heap.size rfl rfl _ _ rfl rfl rfl HM6.out.own HM6.out.grown.size (by omega) w6 (Below.refl _ _) ?_; intro d' wz J)
          go_roundg (gk - 1)
          case measure => omega
          case rel => exact ⟨L ++ [(r, 1 + x3, T + x1, 1 + x4)], T + x1, by go_num, rfl, by omega, by simp; omega, (HM6.out.fin J.out).1, by have := HL.out; simp; omega, (HM6.out.fin J.out).2.1.mono (by simp; omega), (HM6.out.fin J.out).2.2⟩
        · go_wp2_with fail
          refine (among_lit B ((k + 6 + 12 * L.length + 2 + 2 + 2 + 2) + 2) [0, 100, 101] w6 HM6.out.cur (by omega) (by decide) (by decide) 3 3 rfl).mono ?_
          rintro e w7 ⟨x7, rfl, -, hc7, hg7⟩
          have HM7 := Lib.hid (HM6.out.call hc7 hg7)
          clear hc7 hg7
          have xt0 : w7.cell? ⟨w4.heap.size, 0, none⟩ = some (.int .i64 (r)) := cell_of_row _ _ 0 _ _ _ HM7.out.box
          have ft0 : w7.frozen? ⟨w4.heap.size, 0, none⟩ = false := frozen_of_row w7 _ 0 _ _ HM7.out.box
          have xt1 : w7.cell? ⟨w4.heap.size, 1, none⟩ = some (.int .i64 (1 + x3)) := cell_of_row _ _ 1 _ _ _ HM7.out.box
          have ft1 : w7.frozen? ⟨w4.heap.size, 1, none⟩ = false := frozen_of_row w7 _ 1 _ _ HM7.out.box
          have xt2 : w7.cell? ⟨w4.heap.size, 2, none⟩ = some (.int .i64 (T + x1)) := cell_of_row _ _ 2 _ _ _ HM7.out.box
          have ft2 : w7.frozen? ⟨w4.heap.size, 2, none⟩ = false := frozen_of_row w7 _ 2 _ _ HM7.out.box
          have xt3 : w7.cell? ⟨w4.heap.size, 3, none⟩ = some (.int .i64 (1 + x4)) := cell_of_row _ _ 3 _ _ _ HM7.out.box
          have ft3 : w7.frozen? ⟨w4.heap.size, 3, none⟩ = false := frozen_of_row w7 _ 3 _ _ HM7.out.box
          have HM8 := Lib.hid (HM7.out.set x7)
          go_wp2_with (at_builtin; refine app_Zp (w7.setCell ⟨w4.heap.size, 3, none⟩ (.int .i64 x7)) w.heap.size _ L (r, 1 + x3, T + x1, x7) w7.heap.size (by simp) rfl _ _ rfl rfl rfl HM8.out.own HM8.out.grown.size (by omega) (w7.setCell ⟨w4.heap.size, 3, none⟩ (.int .i64 x7)) (Below.refl _ _) ?_; intro d' wz J)
          go_roundg (gk - 1)
          case measure => omega
          case rel => exact ⟨L ++ [(r, 1 + x3, T + x1, x7)], T + x1, by go_num, rfl, by omega, by simp; omega, (HM8.out.fin J.out).1, by have := HL.out; simp; omega, (HM8.out.fin J.out).2.1.mono (by simp; omega), (HM8.out.fin J.out).2.2⟩
  · go_wp2_with fail
    refine (pick_any B (k + 2 + 2) 2 _ HCb.out (by omega) (by decide)).mono ?_
    rintro e wc ⟨xc, rfl, hxc, hcc, hgc⟩
    obtain ⟨hc0, hc1⟩ := pick_to hxc (by decide)
    have HCc := Lib.hid hcc
    have HGc := Lib.hid (grownBy_trans HGb.out hgc)
    clear hcc hgc hxc
    obtain ⟨N, rfl⟩ := Int.eq_ofNat_of_zero_le hc0
    have hN : N ≤ 1 := by omega
    go_wp2_with fail
    go_loopg [5, 3, 4] (N + 40) (fun gk i d tt wr => ∃ (L : List Zpc) (T : Int), i = .int .i64 (gk : Nat) ∧ tt = .int .i64 T ∧ 0 ≤ T ∧ T ≤ 9 * (L.length : Int) ∧ OwnR 34 4 fZp wr w.heap.size d L ∧ L.length + gk = (N + 40) ∧ Cur wr B (k + 6 + 12 * L.length) ∧ w.grownBy wr (some B))
    case atStart => exact ⟨[], 0, by go_num, rfl, Int.le_refl _, by simp, OwnR.nil _ _, by simp, HCc.out.mono (by show _ ≤ k + 6 + 12 * 0; omega), HGc.out⟩
    case round =>
      obtain ⟨L, T, rfl, rfl, hT0, hT1, hO, hLM, hC, hG⟩ := hrel
      obtain ⟨A, c, rfl, hlc, -⟩ := hO.form fZp_len
      have HO := Lib.hid hO
      have HCr := Lib.hid hC
      have HGr := Lib.hid hG
      have HL : Hid (L.length + gk = (N + 40) ∧ (N + 40) ≤ 41) := ⟨hLM, by omega⟩
      clear hO hC hG hLM HCc HGc
      have hL41 : L.length ≤ 41 := by have := HL.out; omega
      have hT2 : T ≤ 369 := by omega
      by_cases hgk : 0 < gk
      case neg =>
        have hgi : ¬ (0 : Int) < (gk : Int) := by omega
        by_cases hne : L = []
        case pos =>
          subst hne
          have h0 : ¬ (0 : Int) < ((([] : List Zpc).length : Nat) : Int) := by simp
          go_wp2_with fail
          go_ret
          exact ⟨A, c, [], rfl, HO.out, by simp, HCr.out.mono (by simp), HGr.out⟩
        case neg =>
          obtain ⟨m, hm⟩ : ∃ m, Hid (L.length = m + 1) := ⟨L.length - 1, Lib.hid (by have := List.length_pos_iff.2 hne; omega)⟩
          have h0 : (0 : Int) < (L.length : Int) := by have := hm.out; omega
          go_wp2_with fail
          refine (one_any B (k + 6 + 12 * L.length) 30 wr HCr.out (by omega) (by decide)).mono ?_
          rintro e w1 ⟨b1, rfl, hc1, hg1⟩
          have HC1 := Lib.hid hc1
          have HG1 := Lib.hid (grownBy_trans HGr.out hg1)
          have HO1 := Lib.hid (HO.out.cur hB hg1)
          clear hc1 hg1 HCr HGr HO
          cases b1
          · go_wp2_with fail
            go_ret
            exact ⟨A, c, L, rfl, HO1.out, by have := HL.out; omega, HC1.out.mono (by have := HL.out; omega), HG1.out⟩
          · obtain ⟨Y, hY⟩ : ∃ Y, L.length = Y := ⟨_, rfl⟩
            have hsub : (L.length : Int) - 1 = (m : Int) := by have := hm.out; omega
            have hmlt : (m : Int) < (L.length : Int) := by have := hm.out; omega
            have hm0 : (0 : Int) ≤ (m : Int) := by omega
            clear hY
            go_wp2_with fail
            refine (among_lit B (k + 6 + 12 * L.length + 2) [-1, 10000, 10001] w1 HC1.out (by omega) (by decide) (by decide) 3 3 rfl).mono ?_
            rintro e w2 ⟨x2, rfl, -, hc2, hg2⟩
            have hO2 := HO1.out.cur hB hg2
            obtain ⟨g, rfl⟩ : ∃ g, A = some ⟨g, 0, none⟩ := own_some12 hO2 hne
            have hml : m < L.length := by have := hm.out; omega
            obtain ⟨-, -, ⟨hcc, hff⟩, -⟩ := Zp_own_at hO2 hml
            obtain ⟨hP, hgp⟩ := hO2.put fZp_len hml (i := 2) (by decide) (u := .int .i64 x2) (y := ((L[m]).1, (L[m]).2.1, x2, (L[m]).2.2.2)) rfl
            have HP := Lib.hid hP
            have HC3 := Lib.hid (hc2.grown hgp (fun q hq => by injection hq with hq; have := (hO2.lt g rfl).1; omega))
            have HG3 := Lib.hid (grown_set (grownBy_trans HG1.out hg2) (show w.heap.size ≤ g from (hO2.lt g rfl).1) (m * 4 + 2) (.int .i64 x2))
            generalize L[m] = lm at *
            clear hc2 hg2 hO2 hP hgp HC1 HG1 HO1
            go_wp2_with fail
            go_ret
            exact ⟨some ⟨g, 0, none⟩, c, L.set m (lm.1, lm.2.1, x2, lm.2.2.2), by rw [List.length_set]; rfl, by rw [List.length_set]; exact HP.out, by rw [List.length_set]; have := HL.out; omega, HC3.out.mono (by have := HL.out; omega), HG3.out⟩
      have hgi : (0 : Int) < (gk : Int) := by omega
      have hgk2 : (gk : Int) ≤ 41 := by have := HL.out; omega
      go_wp2_with fail
      refine (pick_any B (k + 6 + 12 * L.length) 9 wr HCr.out (by omega) (by decide)).mono ?_
      rintro e w1 ⟨x1, rfl, hx1, hc1, hg1⟩
      obtain ⟨a0, a1⟩ := pick_to hx1 (by decide)
      have HC1 := Lib.hid hc1
      have HG1 := Lib.hid (grownBy_trans HGr.out hg1)
      have HO1 := Lib.hid (HO.out.cur hB hg1)
      clear hx1 hc1 hg1 HCr HGr HO
      go_wp2_with fail
      refine (among_lit B (k + 6 + 12 * L.length + 2) [1, 1, 1, 2, 3] w1 HC1.out (by omega) (by decide) (by decide) 5 5 rfl).mono ?_
      rintro e w2 ⟨r, rfl, hr, hc2, hg2⟩
      have HC2 := Lib.hid hc2
      have HG2 := Lib.hid (grownBy_trans HG1.out hg2)
      have HO2 := Lib.hid (HO1.out.cur hB hg2)
      clear hr hc2 hg2 HC1 HG1 HO1
      go_wp2_with fail
      refine (pick_any B (k + 6 + 12 * L.length + 2 + 2) 3 w2 HC2.out (by omega) (by decide)).mono ?_
      rintro e w3 ⟨x3, rfl, hx3, hc3, hg3⟩
      obtain ⟨b0, b1⟩ := pick_to hx3 (by decide)
      have HC3 := Lib.hid hc3
      have HG3 := Lib.hid (grownBy_trans HG2.out hg3)
      have HO3 := Lib.hid (HO2.out.cur hB hg3)
      clear hx3 hc3 hg3 HC2 HG2 HO2
      go_wp2_with fail
      refine (pick_any B (k + 6 + 12 * L.length + 2 + 2 + 2) 20 w3 HC3.out (by omega) (by decide)).mono ?_
      rintro e w4 ⟨x4, rfl, hx4, hc4, hg4⟩
      obtain ⟨d0, d1⟩ := pick_to hx4 (by decide)
      have HMf := Lib.hid (fun p => mz_new (HO3.out.cur hB hg4) hc4 (grownBy_trans HG3.out hg4) hB p)
      have HM := Lib.hid (HMf.out (r, 1 + x3, T + x1, 1 + x4))
      clear hx4 hc4 hg4 HC3 HG3 HO3
      have hwl : w4.heap.size = w4.heap.size := rfl
      clear hwl
      have xa0 : (w4.alloc (.cells #[.int .i64 r, .int .i64 (1 + x3), .int .i64 (T + x1), .int .i64 (1 + x4)] 34)).cell? ⟨w4.heap.size, 0, none⟩ = some (.int .i64 (r)) := cell_of_row _ _ 0 _ _ _ HM.out.box
      have fa0 : (w4.alloc (.cells #[.int .i64 r, .int .i64 (1 + x3), .int .i64 (T + x1), .int .i64 (1 + x4)] 34)).frozen? ⟨w4.heap.size, 0, none⟩ = false := frozen_of_row (w4.alloc (.cells #[.int .i64 r, .int .i64 (1 + x3), .int .i64 (T + x1), .int .i64 (1 + x4)] 34)) _ 0 _ _ HM.out.box
      have xa1 : (w4.alloc (.cells #[.int .i64 r, .int .i64 (1 + x3), .int .i64 (T + x1), .int .i64 (1 + x4)] 34)).cell? ⟨w4.heap.size, 1, none⟩ = some (.int .i64 (1 + x3)) := cell_of_row _ _ 1 _ _ _ HM.out.box
      have fa1 : (w4.alloc (.cells #[.int .i64 r, .int .i64 (1 + x3), .int .i64 (T + x1), .int .i64 (1 + x4)] 34)).frozen? ⟨w4.heap.size, 1, none⟩ = false := frozen_of_row (w4.alloc (.cells #[.int .i64 r, .int .i64 (1 + x3), .int .i64 (T + x1), .int .i64 (1 + x4)] 34)) _ 1 _ _ HM.out.box
      have xa2 : (w4.alloc (.cells #[.int .i64 r, .int .i64 (1 + x3), .int .i64 (T + x1), .int .i64 (1 + x4)] 34)).cell? ⟨w4.heap.size, 2, none⟩ = some (.int .i64 (T + x1)) := cell_of_row _ _ 2 _ _ _ HM.out.box
      have fa2 : (w4.alloc (.cells #[.int .i64 r, .int .i64 (1 + x3), .int .i64 (T + x1), .int .i64 (1 + x4)] 34)).frozen? ⟨w4.heap.size, 2, none⟩ = false := frozen_of_row (w4.alloc (.cells #[.int .i64 r, .int .i64 (1 + x3), .int .i64 (T + x1), .int .i64 (1 + x4)] 34)) _ 2 _ _ HM.out.box
      have xa3 : (w4.alloc (.cells #[.int .i64 r, .int .i64 (1 + x3), .int .i64 (T + x1), .int .i64 (1 + x4)] 34)).cell? ⟨w4.heap.size, 3, none⟩ = some (.int .i64 (1 + x4)) := cell_of_row _ _ 3 _ _ _ HM.out.box
      have fa3 : (w4.alloc (.cells #[.int .i64 r, .int .i64 (1 + x3), .int .i64 (T + x1), .int .i64 (1 + x4)] 34)).frozen? ⟨w4.heap.size, 3, none⟩ = false := frozen_of_row (w4.alloc (.cells #[.int .i64 r, .int .i64 (1 + x3), .int .i64 (T + x1), .int .i64 (1 + x4)] 34)) _ 3 _ _ HM.out.box
      by_cases h3 : r = 3
      · subst h3
        have HM5 := Lib.hid (HMf.out (3, 1 + x3, T + x1, 0))
        go_wp2_with fail
        refine (one_any B (k + 6 + 12 * L.length + 2 + 2 + 2 + 2) 40 _ HM5.out.cur (by omega) (by decide)).mono ?_
        rintro e w6 ⟨b6, rfl, hc6, hg6⟩
        have HM6 := Lib.hid (HM5.out.call hc6 hg6)
        clear hc6 hg6
        have xs0 : w6.cell? ⟨w4.heap.size, 0, none⟩ = some (.int .i64 (3)) := cell_of_row _ _ 0 _ _ _ HM6.out.box
        have fs0 : w6.frozen? ⟨w4.heap.size, 0, none⟩ = false := frozen_of_row w6 _ 0 _ _ HM6.out.box
        have xs1 : w6.cell? ⟨w4.heap.size, 1, none⟩ = some (.int .i64 (1 + x3)) := cell_of_row _ _ 1 _ _ _ HM6.out.box
        have fs1 : w6.frozen? ⟨w4.heap.size, 1, none⟩ = false := frozen_of_row w6 _ 1 _ _ HM6.out.box
        have xs2 : w6.cell? ⟨w4.heap.size, 2, none⟩ = some (.int .i64 (T + x1)) := cell_of_row _ _ 2 _ _ _ HM6.out.box
        have fs2 : w6.frozen? ⟨w4.heap.size, 2, none⟩ = false := frozen_of_row w6 _ 2 _ _ HM6.out.box
        have xs3 : w6.cell? ⟨w4.heap.size, 3, none⟩ = some (.int .i64 (0)) := cell_of_row _ _ 3 _ _ _ HM6.out.box
        have fs3 : w6.frozen? ⟨w4.heap.size, 3, none⟩ = false := frozen_of_row w6 _ 3 _ _ HM6.out.box
        cases b6
        · skip
          go_wp2_with (at_builtin; refine app_Zp w6 w.heap.size _ L (3, 1 + x3, T + x1, 0) w6.heap.size rfl rfl _ _ rfl rfl rfl HM6.out.own HM6.out.grown.size (by omega) w6 (Below.refl _ _) ?_; intro d' wz J)
          go_roundg (gk - 1)
          case measure => omega
          case rel => exact ⟨L ++ [(3, 1 + x3, T + x1, 0)], T + x1, by go_num, rfl, by omega, by simp; omega, (HM6.out.fin J.out).1, by have := HL.out; simp; omega, (HM6.out.fin J.out).2.1.mono (by simp; omega), (HM6.out.fin J.out).2.2⟩
        · go_wp2_with fail
          refine (among_lit B ((k + 6 + 12 * L.length + 2 + 2 + 2 + 2) + 2) [0, 100, 101] w6 HM6.out.cur (by omega) (by decide) (by decide) 3 3 rfl).mono ?_
          rintro e w7 ⟨x7, rfl, -, hc7, hg7⟩
          have HM7 := Lib.hid (HM6.out.call hc7 hg7)
          clear hc7 hg7
          have xt0 : w7.cell? ⟨w4.heap.size, 0, none⟩ = some (.int .i64 (3)) := cell_of_row _ _ 0 _ _ _ HM7.out.box
          have ft0 : w7.frozen? ⟨w4.heap.size, 0, none⟩ = false := frozen_of_row w7 _ 0 _ _ HM7.out.box
          have xt1 : w7.cell? ⟨w4.heap.size, 1, none⟩ = some (.int .i64 (1 + x3)) := cell_of_row _ _ 1 _ _ _ HM7.out.box
          have ft1 : w7.frozen? ⟨w4.heap.size, 1, none⟩ = false := frozen_of_row w7 _ 1 _ _ HM7.out.box
          have xt2 : w7.cell? ⟨w4.heap.size, 2, none⟩ = some (.int .i64 (T + x1)) := cell_of_row _ _ 2 _ _ _ HM7.out.box
          have ft2 : w7.frozen? ⟨w4.heap.size, 2, none⟩ = false := frozen_of_row w7 _ 2 _ _ HM7.out.box
          have xt3 : w7.cell? ⟨w4.heap.size, 3, none⟩ = some (.int .i64 (0)) := cell_of_row _ _ 3 _ _ _ HM7.out.box
          have ft3 : w7.frozen? ⟨w4.heap.size, 3, none⟩ = false := frozen_of_row w7 _ 3 _ _ HM7.out.box
          have HM8 := Lib.hid (HM7.out.set x7)
          go_wp2_with (at_builtin; refine app_Zp (w7.setCell ⟨w4.heap.size, 3, none⟩ (.int .i64 x7)) w.heap.size _ L (3, 1 + x3, T + x1, x7) w7.heap.size (by simp) rfl _ _ rfl rfl rfl HM8.out.own HM8.out.grown.size (by omega) (w7.setCell ⟨w4.heap.size, 3, none⟩ (.int .i64 x7)) (Below.refl _ _) ?_; intro d' wz J)
          go_roundg (gk - 1)
          case measure => omega
          case rel => exact ⟨L ++ [(3, 1 + x3, T + x1, x7)], T + x1, by go_num, rfl, by omega, by simp; omega, (HM8.out.fin J.out).1, by have := HL.out; simp; omega, (HM8.out.fin J.out).2.1.mono (by simp; omega), (HM8.out.fin J.out).2.2⟩
      · have hr3 : (r == 3) = false := by simpa using h3
        go_wp2_with fail
        refine (one_any B (k + 6 + 12 * L.length + 2 + 2 + 2 + 2) 40 _ HM.out.cur (by omega) (by decide)).mono ?_
        rintro e w6 ⟨b6, rfl, hc6, hg6⟩
        have HM6 := Lib.hid (HM.out.call hc6 hg6)
        clear hc6 hg6
        have xs0 : w6.cell? ⟨w4.heap.size, 0, none⟩ = some (.int .i64 (r)) := cell_of_row _ _ 0 _ _ _ HM6.out.box
        have fs0 : w6.frozen? ⟨w4.heap.size, 0, none⟩ = false := frozen_of_row w6 _ 0 _ _ HM6.out.box
        have xs1 : w6.cell? ⟨w4.heap.size, 1, none⟩ = some (.int .i64 (1 + x3)) := cell_of_row _ _ 1 _ _ _ HM6.out.box
        have fs1 : w6.frozen? ⟨w4.heap.size, 1, none⟩ = false := frozen_of_row w6 _ 1 _ _ HM6.out.box
        have xs2 : w6.cell? ⟨w4.heap.size, 2, none⟩ = some (.int .i64 (T + x1)) := cell_of_row _ _ 2 _ _ _ HM6.out.box
        have fs2 : w6.frozen? ⟨w4.heap.size, 2, none⟩ = false := frozen_of_row w6 _ 2 _ _ HM6.out.box
        have xs3 : w6.cell? ⟨w4.heap.size, 3, none⟩ = some (.int .i64 (1 + x4)) := cell_of_row _ _ 3 _ _ _ HM6.out.box
        have fs3 : w6.frozen? ⟨w4.heap.size, 3, none⟩ = false := frozen_of_row w6 _ 3 _ _ HM6.out.box
        cases b6
        · skip
          go_wp2_with (at_builtin; refine app_Zp w6 w.heap.size _ L (r, 1 + x3, T + x1, 1 + x4) w6.heap.size rfl rfl _ _ rfl rfl rfl HM6.out.own HM6.out.grown.size (by omega) w6 (Below.refl _ _) ?_; intro d' wz J)
          go_roundg (gk - 1)
          case measure => omega
          case rel => exact ⟨L ++ [(r, 1 + x3, T + x1, 1 + x4)], T + x1, by go_num, rfl, by omega, by simp; omega, (HM6.out.fin J.out).1, by have := HL.out; simp; omega, (HM6.out.fin J.out).2.1.mono (by simp; omega), (HM6.out.fin J.out).2.2⟩
        · go_wp2_with fail
          refine (among_lit B ((k + 6 + 12 * L.length + 2 + 2 + 2 + 2) + 2) [0, 100, 101] w6 HM6.out.cur (by omega) (by decide) (by decide) 3 3 rfl).mono ?_
          rintro e w7 ⟨x7, rfl, -, hc7, hg7⟩
          have HM7 := Lib.hid (HM6.out.call hc7 hg7)
          clear hc7 hg7
          have xt0 : w7.cell? ⟨w4.heap.size, 0, none⟩ = some (.int .i64 (r)) := cell_of_row _ _ 0 _ _ _ HM7.out.box
          have ft0 : w7.frozen? ⟨w4.heap.size, 0, none⟩ = false := frozen_of_row w7 _ 0 _ _ HM7.out.box
          have xt1 : w7.cell? ⟨w4.heap.size, 1, none⟩ = some (.int .i64 (1 + x3)) := cell_of_row _ _ 1 _ _ _ HM7.out.box
          have ft1 : w7.frozen? ⟨w4.heap.size, 1, none⟩ = false := frozen_of_row w7 _ 1 _ _ HM7.out.box
          have xt2 : w7.cell? ⟨w4.heap.size, 2, none⟩ = some (.int .i64 (T + x1)) := cell_of_row _ _ 2 _ _ _ HM7.out.box
          have ft2 : w7.frozen? ⟨w4.heap.size, 2, none⟩ = false := frozen_of_row w7 _ 2 _ _ HM7.out.box
          have xt3 : w7.cell? ⟨w4.heap.size, 3, none⟩ = some (.int .i64 (1 + x4)) := cell_of_row _ _ 3 _ _ _ HM7.out.box
          have ft3 : w7.frozen? ⟨w4.heap.size, 3, none⟩ = false := frozen_of_row w7 _ 3 _ _ HM7.out.box
          have HM8 := Lib.hid (HM7.out.set x7)
          go_wp2_with (at_builtin; refine app_Zp (w7.setCell ⟨w4.heap.size, 3, none⟩ (.int .i64 x7)) w.heap.size _ L (r, 1 + x3, T + x1, x7) w7.heap.size (by simp) rfl _ _ rfl rfl rfl HM8.out.own HM8.out.grown.size (by omega) (w7.setCell ⟨w4.heap.size, 3, none⟩ (.int .i64 x7)) (Below.refl _ _) ?_; intro d' wz J)
          go_roundg (gk - 1)
          case measure => omega
          case rel => exact ⟨L ++ [(r, 1 + x3, T + x1, x7)], T + x1, by go_num, rfl, by omega, by simp; omega, (HM8.out.fin J.out).1, by have := HL.out; simp; omega, (HM8.out.fin J.out).2.1.mono (by simp; omega), (HM8.out.fin J.out).2.2⟩
end Go.Proofs.Ythmnenejfonfgaa
