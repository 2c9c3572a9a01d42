/-
  The draws of chapter 11, first part: steps of an allocator (idSteps).
-/
import Derived.Test.YtbegikjoialahaaGY
namespace Go.Proofs.Ytbegikjoialahaa
open Go.RowKit

theorem app_Id {ops : Array Oper} {rest : List Oper} {o : Oper} {a : Act} {Q : Exit → Act → World → Prop} (W : World) (base : Nat) (v : Value) (L : List Idc) (k : Int) (p : Bool) (Bn : Nat) (hBn : Bn = W.heap.size) (hgd : o.guard = none) (s x : Operand)
    (ho : o.op = .call { callee := .builtin .append, args := #[s, x], argTypes := #[23, 23] }) (hs : a.eval s = v) (hx : a.eval x = .slice (some ⟨Bn, 0, none⟩) 1 1)
    (hown : OwnR 34 2 fId W base v L) (hbase : base ≤ W.heap.size) (hlen : L.length ≤ 2000000) (w0 : World) (hb : Below base w0 W)
    (h : ∀ v' w', Hid (OwnR 34 2 fId w' base v' (L ++ [(k, p)]) ∧ Below base w0 w' ∧ (W.alloc (.cells #[.int .i64 k, .bool p] 34)).grownBy w' v.ownBlock) → wpList Try.prog ops Q rest (a.put o.dst v') w') :
    wpList Try.prog ops Q (o :: rest) a (W.alloc (.cells #[.int .i64 k, .bool p] 34)) := by
  obtain ⟨i0, hi, hz0, hz1, hz2⟩ := info_parts IdInfo
  exact app_row fId_len (by decide) fId_one Try.underlying23 hi hz0 hz1 hz2 rfl (by decide) W base v L (k, p) Bn hBn hgd s x ho hs hx hown hbase hlen w0 hb h
/-- A choice out of a list that the call itself lays. -/
theorem among_lit (B k : Nat) (L : List Int) (w : World) (hcur : Cur w B k) (hk : k ≤ 549755813888) (h0 : 0 < L.length) (hl : L.length ≤ 1048576) (n c : Nat) (hn : L.length = n) :
    Calls Try.prog 64 #[.pointer (some ⟨B, 0, none⟩), .slice (some ⟨w.heap.size, 0, none⟩) n c] (w.alloc (.cells (L.map (Value.int .i64)).toArray 3)) fun e w' => ∃ r : Int, e = .returned (.int .i64 r) ∧ r ∈ L ∧ Cur w' B (k + 2) ∧ w.grownBy w' (some B) := by
  subst hn
  have hB := hcur.lt
  refine (among_any B k w.heap.size 0 c L _ (hcur.below (gAlloc w _)) hk (by omega) h0 hl (fun j hj => ?_)).mono ?_
  · rw [Nat.zero_add]
    rw [cell_of_row _ _ j _ _ _ (heap_alloc_new w (.cells (L.map (Value.int .i64)).toArray 3))]
    simp [List.getD, hj]
  · rintro e w' ⟨r, he, hr, hc, hg⟩
    exact ⟨r, he, hr, hc, grownBy_trans (World.grownBy_alloc w _ _) hg⟩
/-- In the midst of a round: the step (r, p) in block X, the steps so far. -/
structure Mi11 (w wr : World) (B K X : Nat) (d : Value) (L : List Idc) (r : Int) (p : Bool) : Prop where
  box : wr.heap[X]? = some (.cells #[.int .i64 r, .bool p] 34 (0, 0))
  own : OwnR 34 2 fId wr w.heap.size d L
  off : ∀ q, d.ownBlock = some q → q ≠ X
  cur : Cur wr B K
  grown : w.grownBy wr (some B)
  lt : B < w.heap.size
  le : w.heap.size ≤ X
theorem Mi11.call {w wr w' : World} {B K X : Nat} {d : Value} {L : List Idc} {r : Int} {p : Bool} (h : Mi11 w wr B K X d L r p) (hc : Cur w' B (K + 2)) (hg : wr.grownBy w' (some B)) : Mi11 w w' B (K + 2) X d L r p :=
  ⟨(hg.block _ (heap_lt h.box) (by have := h.lt; have := h.le; intro e; injection e with e; omega)).trans h.box, h.own.cur h.lt hg, h.off, hc, grownBy_trans h.grown hg, h.lt, h.le⟩
theorem Mi11.set {w wr : World} {B K X : Nat} {d : Value} {L : List Idc} {r : Int} {p : Bool} (h : Mi11 w wr B K X d L r p) (i : Nat) (u : Value) {r' : Int} {p' : Bool} (e : (#[.int .i64 r, .bool p] : Array Value).setIfInBounds i u = #[.int .i64 r', .bool p']) :
    Mi11 w (wr.setCell ⟨X, i, none⟩ u) B K X d L r' p' := by
  have hg : wr.grownBy (wr.setCell ⟨X, i, none⟩ u) (some X) := gSet11 wr X i u
  refine ⟨?_, h.own.kept hg ?_, h.off, h.cur.grown hg (fun g hg => by injection hg with hg; have := h.lt; have := h.le; omega), ?_, h.lt, h.le⟩
  · rw [← e]; exact heap_setCell_same _ _ _ _ _ _ h.box
  · cases hv : d.ownBlock with
    | none => exact Or.inl rfl
    | some q => exact Or.inr (by intro e; injection e with e; exact h.off q hv e)
  · exact grown_set h.grown h.le i u
theorem mid_new {w wr : World} {B K : Nat} {d : Value} {L : List Idc} (ho : OwnR 34 2 fId wr w.heap.size d L) (hc : Cur wr B K) (hg : w.grownBy wr (some B)) (hl : B < w.heap.size) (r : Int) (p : Bool) : Mi11 w (wr.alloc (.cells #[.int .i64 r, .bool p] 34)) B K wr.heap.size d L r p :=
  ⟨heap_alloc_new _ _, ho.below (gAlloc _ _), fun q hq => by have := (ho.lt q hq).2; omega, hc.below (gAlloc _ _), grownBy_trans hg (World.grownBy_alloc _ _ _), hl, hg.size⟩
theorem Mi11.fin {w wr w' : World} {B K X : Nat} {d d' : Value} {L : List Idc} {r : Int} {p : Bool} (h : Mi11 w wr B K X d L r p) {o : Obj}
    (J : OwnR 34 2 fId w' w.heap.size d' (L ++ [(r, p)]) ∧ Below w.heap.size wr w' ∧ (wr.alloc o).grownBy w' d.ownBlock) : OwnR 34 2 fId w' w.heap.size d' (L ++ [(r, p)]) ∧ Cur w' B K ∧ w.grownBy w' (some B) :=
  ⟨J.1, (h.cur.below (gAlloc wr o)).grown J.2.2 (fun g hg => Nat.lt_of_lt_of_le h.lt (h.own.lt g hg).1), J.2.1.os.trans h.grown.os, J.2.1.tape.trans h.grown.tape, J.2.1.output.trans h.grown.output, Nat.le_trans h.grown.size J.2.1.size, fun k hk hne => (J.2.1.block k hk).trans (h.grown.block k hk hne)⟩
theorem pick_to {x n : Int} (h : 0 ≤ x ∧ (x < n ∨ x = 0)) (hn : 0 < n) : 0 ≤ x ∧ x < n := ⟨h.1, by omega⟩

set_option maxRecDepth 100000 in
set_option maxHeartbeats 4000000 in
theorem idSteps11 (B k : Nat) (w : World) (hcur : Cur w B k) (hk : k ≤ 68719476736) :
    Calls Try.prog 42 #[.pointer (some ⟨B, 0, none⟩)] w fun e w' => ∃ A c L, e = .returned (.slice A L.length c) ∧ OwnR 34 2 fId w' w.heap.size (.slice A L.length c) L ∧ L.length ≤ 41 ∧ Cur w' B (k + 500) ∧ w.grownBy w' (some B) := by
  have HN : ∀ (N : Nat) (w0 : World), N ≤ 41 → Cur w0 B (k + 6) → w.grownBy w0 (some B) → True := fun _ _ _ _ _ => trivial
  clear HN
  have hB := hcur.lt
  have HC := Lib.hid hcur
  clear hcur
  go_enter Try.func42, Try.ntmps42
  go_wp2_with fail
  refine (pick_any B k 24 _ HC.out (by omega) (by decide)).mono ?_
  rintro e wa ⟨xa, rfl, hxa, hca, hga⟩
  obtain ⟨ha0, ha1⟩ := pick_to hxa (by decide)
  have HCa := Lib.hid hca
  have HGa := Lib.hid hga
  clear hca hga hxa
  go_wp2_with fail
  refine (one_any B (k + 2) 20 _ HCa.out (by omega) (by decide)).mono ?_
  rintro e wb ⟨bb, rfl, hcb, hgb⟩
  have HCb := Lib.hid hcb
  have HGb := Lib.hid (grownBy_trans HGa.out hgb)
  clear hcb hgb HCa HGa
  cases bb
  · obtain ⟨N, rfl⟩ := Int.eq_ofNat_of_zero_le ha0
    have hN : N ≤ 24 := by omega
    go_wp2_with fail
    go_loopg [4, 3] N (fun gk i d wr => ∃ L : List Idc, i = .int .i64 (gk : Nat) ∧ OwnR 34 2 fId wr w.heap.size d L ∧ L.length + gk = N ∧ Cur wr B (k + 6 + 10 * L.length) ∧ w.grownBy wr (some B))
    case atStart => exact ⟨[], rfl, OwnR.nil _ _, by simp, HCb.out.mono (by show _ ≤ k + 6 + 10 * 0; omega), HGb.out⟩
    case round =>
      obtain ⟨L, rfl, hO, hLM, hC, hG⟩ := hrel
      obtain ⟨A, c, rfl, hlc, -⟩ := hO.form fId_len
      have HO := Lib.hid hO
      have HCr := Lib.hid hC
      have HGr := Lib.hid hG
      have HL : Hid (L.length + gk = N ∧ N ≤ 41) := ⟨hLM, by omega⟩
      clear hO hC hG hLM HCb HGb
      by_cases hgk : 0 < gk
      case neg =>
        have hgi : ¬ (0 : Int) < (gk : Int) := by omega
        go_wp2_with fail
        go_ret
        exact ⟨A, c, L, rfl, HO.out, by have := HL.out; omega, HCr.out.mono (by have := HL.out; omega), HGr.out⟩
      have hgi : (0 : Int) < (gk : Int) := by omega
      have hgk2 : (gk : Int) ≤ 41 := by have := HL.out; omega
      have hL41 : L.length ≤ 41 := by have := HL.out; omega
      go_wp2_with fail
      refine (among_lit B (k + 6 + 10 * L.length) [1, 1, 1, 2, 3] wr HCr.out (by omega) (by decide) (by decide) 5 5 rfl).mono ?_
      rintro e w2 ⟨r, rfl, hr, hc2, hg2⟩
      have HM := Lib.hid (mid_new (HO.out.cur hB hg2) hc2 (grownBy_trans HGr.out hg2) hB r false)
      have hX : w2.heap.size = w2.heap.size := rfl
      clear hr hc2 hg2 hX
      by_cases h3 : r = 3
      · subst h3
        go_wp2_with fail
        refine (one_any B (k + 6 + 10 * L.length + 2) 2 _ HM.out.cur (by omega) (by decide)).mono ?_
        rintro e w4 ⟨p4, rfl, hc4, hg4⟩
        have HM4 := Lib.hid (HM.out.call hc4 hg4)
        clear hc4 hg4
        have xu0 : w4.cell? ⟨w2.heap.size, 0, none⟩ = some (.int .i64 3) := cell_of_row _ _ 0 _ _ _ HM4.out.box
        have fu0 : w4.frozen? ⟨w2.heap.size, 0, none⟩ = false := frozen_of_row w4 _ 0 _ _ HM4.out.box
        have xu1 : w4.cell? ⟨w2.heap.size, 1, none⟩ = some (.bool false) := cell_of_row _ _ 1 _ _ _ HM4.out.box
        have fu1 : w4.frozen? ⟨w2.heap.size, 1, none⟩ = false := frozen_of_row w4 _ 1 _ _ HM4.out.box
        have HM5 := Lib.hid (HM4.out.set 1 (.bool p4) (r' := 3) (p' := p4) rfl)
        go_wp2_with fail
        refine (one_any B ((k + 6 + 10 * L.length + 2) + 2) 40 _ HM5.out.cur (by omega) (by decide)).mono ?_
        rintro e w6 ⟨b6, rfl, hc6, hg6⟩
        have HM6 := Lib.hid (HM5.out.call hc6 hg6)
        clear hc6 hg6
        have xs0 : w6.cell? ⟨w2.heap.size, 0, none⟩ = some (.int .i64 3) := cell_of_row _ _ 0 _ _ _ HM6.out.box
        have fs0 : w6.frozen? ⟨w2.heap.size, 0, none⟩ = false := frozen_of_row w6 _ 0 _ _ HM6.out.box
        have xs1 : w6.cell? ⟨w2.heap.size, 1, none⟩ = some (.bool p4) := cell_of_row _ _ 1 _ _ _ HM6.out.box
        have fs1 : w6.frozen? ⟨w2.heap.size, 1, none⟩ = false := frozen_of_row w6 _ 1 _ _ HM6.out.box
        cases b6
        · skip
          go_wp2_with (at_builtin; refine app_Id w6 w.heap.size _ L 3 p4 w6.heap.size rfl rfl _ _ rfl rfl rfl HM6.out.own HM6.out.grown.size (by omega) w6 (Below.refl _ _) ?_; intro d' wz J)
          go_roundg (gk - 1)
          case measure => omega
          case rel => exact ⟨L ++ [(3, p4)], by go_num, (HM6.out.fin J.out).1, by have := HL.out; simp; omega, (HM6.out.fin J.out).2.1.mono (by simp; omega), (HM6.out.fin J.out).2.2⟩
        · go_wp2_with fail
          refine (pick_any B (((k + 6 + 10 * L.length + 2) + 2) + 2) 5 _ HM6.out.cur (by omega) (by decide)).mono ?_
          rintro e w7 ⟨x7, rfl, -, hc7, hg7⟩
          have HM7 := Lib.hid (HM6.out.call hc7 hg7)
          clear hc7 hg7
          have xt0 : w7.cell? ⟨w2.heap.size, 0, none⟩ = some (.int .i64 3) := cell_of_row _ _ 0 _ _ _ HM7.out.box
          have ft0 : w7.frozen? ⟨w2.heap.size, 0, none⟩ = false := frozen_of_row w7 _ 0 _ _ HM7.out.box
          have xt1 : w7.cell? ⟨w2.heap.size, 1, none⟩ = some (.bool p4) := cell_of_row _ _ 1 _ _ _ HM7.out.box
          have ft1 : w7.frozen? ⟨w2.heap.size, 1, none⟩ = false := frozen_of_row w7 _ 1 _ _ HM7.out.box
          have HM8 := Lib.hid (HM7.out.set 0 (.int .i64 x7) (r' := x7) (p' := p4) rfl)
          go_wp2_with (at_builtin; refine app_Id (w7.setCell ⟨w2.heap.size, 0, none⟩ (.int .i64 x7)) w.heap.size _ L x7 p4 w7.heap.size (by simp) rfl _ _ rfl rfl rfl HM8.out.own HM8.out.grown.size (by omega) (w7.setCell ⟨w2.heap.size, 0, none⟩ (.int .i64 x7)) (Below.refl _ _) ?_; intro d' wz J)
          go_roundg (gk - 1)
          case measure => omega
          case rel => exact ⟨L ++ [(x7, p4)], by go_num, (HM8.out.fin J.out).1, by have := HL.out; simp; omega, (HM8.out.fin J.out).2.1.mono (by simp; omega), (HM8.out.fin J.out).2.2⟩
      · go_wp2_with fail
        refine (one_any B (k + 6 + 10 * L.length + 2) 40 _ HM.out.cur (by omega) (by decide)).mono ?_
        rintro e w3 ⟨b3, rfl, hc3, hg3⟩
        have HM3 := Lib.hid (HM.out.call hc3 hg3)
        clear hc3 hg3
        have xq0 : w3.cell? ⟨w2.heap.size, 0, none⟩ = some (.int .i64 r) := cell_of_row _ _ 0 _ _ _ HM3.out.box
        have fq0 : w3.frozen? ⟨w2.heap.size, 0, none⟩ = false := frozen_of_row w3 _ 0 _ _ HM3.out.box
        have xq1 : w3.cell? ⟨w2.heap.size, 1, none⟩ = some (.bool false) := cell_of_row _ _ 1 _ _ _ HM3.out.box
        have fq1 : w3.frozen? ⟨w2.heap.size, 1, none⟩ = false := frozen_of_row w3 _ 1 _ _ HM3.out.box
        cases b3
        · go_wp2_with fail
          refine (one_any B ((k + 6 + 10 * L.length + 2) + 2) 40 _ HM3.out.cur (by omega) (by decide)).mono ?_
          rintro e w6 ⟨b6, rfl, hc6, hg6⟩
          have HM6 := Lib.hid (HM3.out.call hc6 hg6)
          clear hc6 hg6
          have xs0 : w6.cell? ⟨w2.heap.size, 0, none⟩ = some (.int .i64 r) := cell_of_row _ _ 0 _ _ _ HM6.out.box
          have fs0 : w6.frozen? ⟨w2.heap.size, 0, none⟩ = false := frozen_of_row w6 _ 0 _ _ HM6.out.box
          have xs1 : w6.cell? ⟨w2.heap.size, 1, none⟩ = some (.bool false) := cell_of_row _ _ 1 _ _ _ HM6.out.box
          have fs1 : w6.frozen? ⟨w2.heap.size, 1, none⟩ = false := frozen_of_row w6 _ 1 _ _ HM6.out.box
          cases b6
          · skip
            go_wp2_with (at_builtin; refine app_Id w6 w.heap.size _ L r false w6.heap.size rfl rfl _ _ rfl rfl rfl HM6.out.own HM6.out.grown.size (by omega) w6 (Below.refl _ _) ?_; intro d' wz J)
            go_roundg (gk - 1)
            case measure => omega
            case rel => exact ⟨L ++ [(r, false)], by go_num, (HM6.out.fin J.out).1, by have := HL.out; simp; omega, (HM6.out.fin J.out).2.1.mono (by simp; omega), (HM6.out.fin J.out).2.2⟩
          · go_wp2_with fail
            refine (pick_any B (((k + 6 + 10 * L.length + 2) + 2) + 2) 5 _ HM6.out.cur (by omega) (by decide)).mono ?_
            rintro e w7 ⟨x7, rfl, -, hc7, hg7⟩
            have HM7 := Lib.hid (HM6.out.call hc7 hg7)
            clear hc7 hg7
            have xt0 : w7.cell? ⟨w2.heap.size, 0, none⟩ = some (.int .i64 r) := cell_of_row _ _ 0 _ _ _ HM7.out.box
            have ft0 : w7.frozen? ⟨w2.heap.size, 0, none⟩ = false := frozen_of_row w7 _ 0 _ _ HM7.out.box
            have xt1 : w7.cell? ⟨w2.heap.size, 1, none⟩ = some (.bool false) := cell_of_row _ _ 1 _ _ _ HM7.out.box
            have ft1 : w7.frozen? ⟨w2.heap.size, 1, none⟩ = false := frozen_of_row w7 _ 1 _ _ HM7.out.box
            have HM8 := Lib.hid (HM7.out.set 0 (.int .i64 x7) (r' := x7) (p' := false) rfl)
            go_wp2_with (at_builtin; refine app_Id (w7.setCell ⟨w2.heap.size, 0, none⟩ (.int .i64 x7)) w.heap.size _ L x7 false w7.heap.size (by simp) rfl _ _ rfl rfl rfl HM8.out.own HM8.out.grown.size (by omega) (w7.setCell ⟨w2.heap.size, 0, none⟩ (.int .i64 x7)) (Below.refl _ _) ?_; intro d' wz J)
            go_roundg (gk - 1)
            case measure => omega
            case rel => exact ⟨L ++ [(x7, false)], by go_num, (HM8.out.fin J.out).1, by have := HL.out; simp; omega, (HM8.out.fin J.out).2.1.mono (by simp; omega), (HM8.out.fin J.out).2.2⟩
        · go_wp2_with fail
          refine (one_any B ((k + 6 + 10 * L.length + 2) + 2) 2 _ HM3.out.cur (by omega) (by decide)).mono ?_
          rintro e w4 ⟨p4, rfl, hc4, hg4⟩
          have HM4 := Lib.hid (HM3.out.call hc4 hg4)
          clear hc4 hg4
          have xu0 : w4.cell? ⟨w2.heap.size, 0, none⟩ = some (.int .i64 r) := cell_of_row _ _ 0 _ _ _ HM4.out.box
          have fu0 : w4.frozen? ⟨w2.heap.size, 0, none⟩ = false := frozen_of_row w4 _ 0 _ _ HM4.out.box
          have xu1 : w4.cell? ⟨w2.heap.size, 1, none⟩ = some (.bool false) := cell_of_row _ _ 1 _ _ _ HM4.out.box
          have fu1 : w4.frozen? ⟨w2.heap.size, 1, none⟩ = false := frozen_of_row w4 _ 1 _ _ HM4.out.box
          have HM5 := Lib.hid (HM4.out.set 1 (.bool p4) (r' := r) (p' := p4) rfl)
          go_wp2_with fail
          refine (one_any B (((k + 6 + 10 * L.length + 2) + 2) + 2) 40 _ HM5.out.cur (by omega) (by decide)).mono ?_
          rintro e w6 ⟨b6, rfl, hc6, hg6⟩
          have HM6 := Lib.hid (HM5.out.call hc6 hg6)
          clear hc6 hg6
          have xs0 : w6.cell? ⟨w2.heap.size, 0, none⟩ = some (.int .i64 r) := cell_of_row _ _ 0 _ _ _ HM6.out.box
          have fs0 : w6.frozen? ⟨w2.heap.size, 0, none⟩ = false := frozen_of_row w6 _ 0 _ _ HM6.out.box
          have xs1 : w6.cell? ⟨w2.heap.size, 1, none⟩ = some (.bool p4) := cell_of_row _ _ 1 _ _ _ HM6.out.box
          have fs1 : w6.frozen? ⟨w2.heap.size, 1, none⟩ = false := frozen_of_row w6 _ 1 _ _ HM6.out.box
          cases b6
          · skip
            go_wp2_with (at_builtin; refine app_Id w6 w.heap.size _ L r p4 w6.heap.size rfl rfl _ _ rfl rfl rfl HM6.out.own HM6.out.grown.size (by omega) w6 (Below.refl _ _) ?_; intro d' wz J)
            go_roundg (gk - 1)
            case measure => omega
            case rel => exact ⟨L ++ [(r, p4)], by go_num, (HM6.out.fin J.out).1, by have := HL.out; simp; omega, (HM6.out.fin J.out).2.1.mono (by simp; omega), (HM6.out.fin J.out).2.2⟩
          · go_wp2_with fail
            refine (pick_any B ((((k + 6 + 10 * L.length + 2) + 2) + 2) + 2) 5 _ HM6.out.cur (by omega) (by decide)).mono ?_
            rintro e w7 ⟨x7, rfl, -, hc7, hg7⟩
            have HM7 := Lib.hid (HM6.out.call hc7 hg7)
            clear hc7 hg7
            have xt0 : w7.cell? ⟨w2.heap.size, 0, none⟩ = some (.int .i64 r) := cell_of_row _ _ 0 _ _ _ HM7.out.box
            have ft0 : w7.frozen? ⟨w2.heap.size, 0, none⟩ = false := frozen_of_row w7 _ 0 _ _ HM7.out.box
            have xt1 : w7.cell? ⟨w2.heap.size, 1, none⟩ = some (.bool p4) := cell_of_row _ _ 1 _ _ _ HM7.out.box
            have ft1 : w7.frozen? ⟨w2.heap.size, 1, none⟩ = false := frozen_of_row w7 _ 1 _ _ HM7.out.box
            have HM8 := Lib.hid (HM7.out.set 0 (.int .i64 x7) (r' := x7) (p' := p4) rfl)
            go_wp2_with (at_builtin; refine app_Id (w7.setCell ⟨w2.heap.size, 0, none⟩ (.int .i64 x7)) w.heap.size _ L x7 p4 w7.heap.size (by simp) rfl _ _ rfl rfl rfl HM8.out.own HM8.out.grown.size (by omega) (w7.setCell ⟨w2.heap.size, 0, none⟩ (.int .i64 x7)) (Below.refl _ _) ?_; intro d' wz J)
            go_roundg (gk - 1)
            case measure => omega
            case rel => exact ⟨L ++ [(x7, p4)], by go_num, (HM8.out.fin J.out).1, by have := HL.out; simp; omega, (HM8.out.fin J.out).2.1.mono (by simp; omega), (HM8.out.fin J.out).2.2⟩
  · go_wp2_with fail
    refine (pick_any B (k + 2 + 2) 2 _ HCb.out (by omega) (by decide)).mono ?_
    rintro e wc ⟨xc, rfl, hxc, hcc, hgc⟩
    obtain ⟨hc0, hc1⟩ := pick_to hxc (by decide)
    have HCc := Lib.hid hcc
    have HGc := Lib.hid (grownBy_trans HGb.out hgc)
    clear hcc hgc hxc
    obtain ⟨N, rfl⟩ := Int.eq_ofNat_of_zero_le hc0
    have hN : N ≤ 1 := by omega
    go_wp2_with fail
    go_loopg [4, 3] (N + 40) (fun gk i d wr => ∃ L : List Idc, i = .int .i64 (gk : Nat) ∧ OwnR 34 2 fId wr w.heap.size d L ∧ L.length + gk = (N + 40) ∧ Cur wr B (k + 6 + 10 * L.length) ∧ w.grownBy wr (some B))
    case atStart => exact ⟨[], by go_num, OwnR.nil _ _, by simp, HCc.out.mono (by show _ ≤ k + 6 + 10 * 0; omega), HGc.out⟩
    case round =>
      obtain ⟨L, rfl, hO, hLM, hC, hG⟩ := hrel
      obtain ⟨A, c, rfl, hlc, -⟩ := hO.form fId_len
      have HO := Lib.hid hO
      have HCr := Lib.hid hC
      have HGr := Lib.hid hG
      have HL : Hid (L.length + gk = (N + 40) ∧ (N + 40) ≤ 41) := ⟨hLM, by omega⟩
      clear hO hC hG hLM HCc HGc
      by_cases hgk : 0 < gk
      case neg =>
        have hgi : ¬ (0 : Int) < (gk : Int) := by omega
        go_wp2_with fail
        go_ret
        exact ⟨A, c, L, rfl, HO.out, by have := HL.out; omega, HCr.out.mono (by have := HL.out; omega), HGr.out⟩
      have hgi : (0 : Int) < (gk : Int) := by omega
      have hgk2 : (gk : Int) ≤ 41 := by have := HL.out; omega
      have hL41 : L.length ≤ 41 := by have := HL.out; omega
      go_wp2_with fail
      refine (among_lit B (k + 6 + 10 * L.length) [1, 1, 1, 2, 3] wr HCr.out (by omega) (by decide) (by decide) 5 5 rfl).mono ?_
      rintro e w2 ⟨r, rfl, hr, hc2, hg2⟩
      have HM := Lib.hid (mid_new (HO.out.cur hB hg2) hc2 (grownBy_trans HGr.out hg2) hB r false)
      have hX : w2.heap.size = w2.heap.size := rfl
      clear hr hc2 hg2 hX
      by_cases h3 : r = 3
      · subst h3
        go_wp2_with fail
        refine (one_any B (k + 6 + 10 * L.length + 2) 2 _ HM.out.cur (by omega) (by decide)).mono ?_
        rintro e w4 ⟨p4, rfl, hc4, hg4⟩
        have HM4 := Lib.hid (HM.out.call hc4 hg4)
        clear hc4 hg4
        have xu0 : w4.cell? ⟨w2.heap.size, 0, none⟩ = some (.int .i64 3) := cell_of_row _ _ 0 _ _ _ HM4.out.box
        have fu0 : w4.frozen? ⟨w2.heap.size, 0, none⟩ = false := frozen_of_row w4 _ 0 _ _ HM4.out.box
        have xu1 : w4.cell? ⟨w2.heap.size, 1, none⟩ = some (.bool false) := cell_of_row _ _ 1 _ _ _ HM4.out.box
        have fu1 : w4.frozen? ⟨w2.heap.size, 1, none⟩ = false := frozen_of_row w4 _ 1 _ _ HM4.out.box
        have HM5 := Lib.hid (HM4.out.set 1 (.bool p4) (r' := 3) (p' := p4) rfl)
        go_wp2_with fail
        refine (one_any B ((k + 6 + 10 * L.length + 2) + 2) 40 _ HM5.out.cur (by omega) (by decide)).mono ?_
        rintro e w6 ⟨b6, rfl, hc6, hg6⟩
        have HM6 := Lib.hid (HM5.out.call hc6 hg6)
        clear hc6 hg6
        have xs0 : w6.cell? ⟨w2.heap.size, 0, none⟩ = some (.int .i64 3) := cell_of_row _ _ 0 _ _ _ HM6.out.box
        have fs0 : w6.frozen? ⟨w2.heap.size, 0, none⟩ = false := frozen_of_row w6 _ 0 _ _ HM6.out.box
        have xs1 : w6.cell? ⟨w2.heap.size, 1, none⟩ = some (.bool p4) := cell_of_row _ _ 1 _ _ _ HM6.out.box
        have fs1 : w6.frozen? ⟨w2.heap.size, 1, none⟩ = false := frozen_of_row w6 _ 1 _ _ HM6.out.box
        cases b6
        · skip
          go_wp2_with (at_builtin; refine app_Id w6 w.heap.size _ L 3 p4 w6.heap.size rfl rfl _ _ rfl rfl rfl HM6.out.own HM6.out.grown.size (by omega) w6 (Below.refl _ _) ?_; intro d' wz J)
          go_roundg (gk - 1)
          case measure => omega
          case rel => exact ⟨L ++ [(3, p4)], by go_num, (HM6.out.fin J.out).1, by have := HL.out; simp; omega, (HM6.out.fin J.out).2.1.mono (by simp; omega), (HM6.out.fin J.out).2.2⟩
        · go_wp2_with fail
          refine (pick_any B (((k + 6 + 10 * L.length + 2) + 2) + 2) 5 _ HM6.out.cur (by omega) (by decide)).mono ?_
          rintro e w7 ⟨x7, rfl, -, hc7, hg7⟩
          have HM7 := Lib.hid (HM6.out.call hc7 hg7)
          clear hc7 hg7
          have xt0 : w7.cell? ⟨w2.heap.size, 0, none⟩ = some (.int .i64 3) := cell_of_row _ _ 0 _ _ _ HM7.out.box
          have ft0 : w7.frozen? ⟨w2.heap.size, 0, none⟩ = false := frozen_of_row w7 _ 0 _ _ HM7.out.box
          have xt1 : w7.cell? ⟨w2.heap.size, 1, none⟩ = some (.bool p4) := cell_of_row _ _ 1 _ _ _ HM7.out.box
          have ft1 : w7.frozen? ⟨w2.heap.size, 1, none⟩ = false := frozen_of_row w7 _ 1 _ _ HM7.out.box
          have HM8 := Lib.hid (HM7.out.set 0 (.int .i64 x7) (r' := x7) (p' := p4) rfl)
          go_wp2_with (at_builtin; refine app_Id (w7.setCell ⟨w2.heap.size, 0, none⟩ (.int .i64 x7)) w.heap.size _ L x7 p4 w7.heap.size (by simp) rfl _ _ rfl rfl rfl HM8.out.own HM8.out.grown.size (by omega) (w7.setCell ⟨w2.heap.size, 0, none⟩ (.int .i64 x7)) (Below.refl _ _) ?_; intro d' wz J)
          go_roundg (gk - 1)
          case measure => omega
          case rel => exact ⟨L ++ [(x7, p4)], by go_num, (HM8.out.fin J.out).1, by have := HL.out; simp; omega, (HM8.out.fin J.out).2.1.mono (by simp; omega), (HM8.out.fin J.out).2.2⟩
      · go_wp2_with fail
        refine (one_any B (k + 6 + 10 * L.length + 2) 40 _ HM.out.cur (by omega) (by decide)).mono ?_
        rintro e w3 ⟨b3, rfl, hc3, hg3⟩
        have HM3 := Lib.hid (HM.out.call hc3 hg3)
        clear hc3 hg3
        have xq0 : w3.cell? ⟨w2.heap.size, 0, none⟩ = some (.int .i64 r) := cell_of_row _ _ 0 _ _ _ HM3.out.box
        have fq0 : w3.frozen? ⟨w2.heap.size, 0, none⟩ = false := frozen_of_row w3 _ 0 _ _ HM3.out.box
        have xq1 : w3.cell? ⟨w2.heap.size, 1, none⟩ = some (.bool false) := cell_of_row _ _ 1 _ _ _ HM3.out.box
        have fq1 : w3.frozen? ⟨w2.heap.size, 1, none⟩ = false := frozen_of_row w3 _ 1 _ _ HM3.out.box
        cases b3
        · go_wp2_with fail
          refine (one_any B ((k + 6 + 10 * L.length + 2) + 2) 40 _ HM3.out.cur (by omega) (by decide)).mono ?_
          rintro e w6 ⟨b6, rfl, hc6, hg6⟩
          have HM6 := Lib.hid (HM3.out.call hc6 hg6)
          clear hc6 hg6
          have xs0 : w6.cell? ⟨w2.heap.size, 0, none⟩ = some (.int .i64 r) := cell_of_row _ _ 0 _ _ _ HM6.out.box
          have fs0 : w6.frozen? ⟨w2.heap.size, 0, none⟩ = false := frozen_of_row w6 _ 0 _ _ HM6.out.box
          have xs1 : w6.cell? ⟨w2.heap.size, 1, none⟩ = some (.bool false) := cell_of_row _ _ 1 _ _ _ HM6.out.box
          have fs1 : w6.frozen? ⟨w2.heap.size, 1, none⟩ = false := frozen_of_row w6 _ 1 _ _ HM6.out.box
          cases b6
          · skip
            go_wp2_with (at_builtin; refine app_Id w6 w.heap.size _ L r false w6.heap.size rfl rfl _ _ rfl rfl rfl HM6.out.own HM6.out.grown.size (by omega) w6 (Below.refl _ _) ?_; intro d' wz J)
            go_roundg (gk - 1)
            case measure => omega
            case rel => exact ⟨L ++ [(r, false)], by go_num, (HM6.out.fin J.out).1, by have := HL.out; simp; omega, (HM6.out.fin J.out).2.1.mono (by simp; omega), (HM6.out.fin J.out).2.2⟩
          · go_wp2_with fail
            refine (pick_any B (((k + 6 + 10 * L.length + 2) + 2) + 2) 5 _ HM6.out.cur (by omega) (by decide)).mono ?_
            rintro e w7 ⟨x7, rfl, -, hc7, hg7⟩
            have HM7 := Lib.hid (HM6.out.call hc7 hg7)
            clear hc7 hg7
            have xt0 : w7.cell? ⟨w2.heap.size, 0, none⟩ = some (.int .i64 r) := cell_of_row _ _ 0 _ _ _ HM7.out.box
            have ft0 : w7.frozen? ⟨w2.heap.size, 0, none⟩ = false := frozen_of_row w7 _ 0 _ _ HM7.out.box
            have xt1 : w7.cell? ⟨w2.heap.size, 1, none⟩ = some (.bool false) := cell_of_row _ _ 1 _ _ _ HM7.out.box
            have ft1 : w7.frozen? ⟨w2.heap.size, 1, none⟩ = false := frozen_of_row w7 _ 1 _ _ HM7.out.box
            have HM8 := Lib.hid (HM7.out.set 0 (.int .i64 x7) (r' := x7) (p' := false) rfl)
            go_wp2_with (at_builtin; refine app_Id (w7.setCell ⟨w2.heap.size, 0, none⟩ (.int .i64 x7)) w.heap.size _ L x7 false w7.heap.size (by simp) rfl _ _ rfl rfl rfl HM8.out.own HM8.out.grown.size (by omega) (w7.setCell ⟨w2.heap.size, 0, none⟩ (.int .i64 x7)) (Below.refl _ _) ?_; intro d' wz J)
            go_roundg (gk - 1)
            case measure => omega
            case rel => exact ⟨L ++ [(x7, false)], by go_num, (HM8.out.fin J.out).1, by have := HL.out; simp; omega, (HM8.out.fin J.out).2.1.mono (by simp; omega), (HM8.out.fin J.out).2.2⟩
        · go_wp2_with fail
          refine (one_any B ((k + 6 + 10 * L.length + 2) + 2) 2 _ HM3.out.cur (by omega) (by decide)).mono ?_
          rintro e w4 ⟨p4, rfl, hc4, hg4⟩
          have HM4 := Lib.hid (HM3.out.call hc4 hg4)
          clear hc4 hg4
          have xu0 : w4.cell? ⟨w2.heap.size, 0, none⟩ = some (.int .i64 r) := cell_of_row _ _ 0 _ _ _ HM4.out.box
          have fu0 : w4.frozen? ⟨w2.heap.size, 0, none⟩ = false := frozen_of_row w4 _ 0 _ _ HM4.out.box
          have xu1 : w4.cell? ⟨w2.heap.size, 1, none⟩ = some (.bool false) := cell_of_row _ _ 1 _ _ _ HM4.out.box
          have fu1 : w4.frozen? ⟨w2.heap.size, 1, none⟩ = false := frozen_of_row w4 _ 1 _ _ HM4.out.box
          have HM5 := Lib.hid (HM4.out.set 1 (.bool p4) (r' := r) (p' := p4) rfl)
          go_wp2_with fail
          refine (one_any B (((k + 6 + 10 * L.length + 2) + 2) + 2) 40 _ HM5.out.cur (by omega) (by decide)).mono ?_
          rintro e w6 ⟨b6, rfl, hc6, hg6⟩
          have HM6 := Lib.hid (HM5.out.call hc6 hg6)
          clear hc6 hg6
          have xs0 : w6.cell? ⟨w2.heap.size, 0, none⟩ = some (.int .i64 r) := cell_of_row _ _ 0 _ _ _ HM6.out.box
          have fs0 : w6.frozen? ⟨w2.heap.size, 0, none⟩ = false := frozen_of_row w6 _ 0 _ _ HM6.out.box
          have xs1 : w6.cell? ⟨w2.heap.size, 1, none⟩ = some (.bool p4) := cell_of_row _ _ 1 _ _ _ HM6.out.box
          have fs1 : w6.frozen? ⟨w2.heap.size, 1, none⟩ = false := frozen_of_row w6 _ 1 _ _ HM6.out.box
          cases b6
          · skip
            go_wp2_with (at_builtin; refine app_Id w6 w.heap.size _ L r p4 w6.heap.size rfl rfl _ _ rfl rfl rfl HM6.out.own HM6.out.grown.size (by omega) w6 (Below.refl _ _) ?_; intro d' wz J)
            go_roundg (gk - 1)
            case measure => omega
            case rel => exact ⟨L ++ [(r, p4)], by go_num, (HM6.out.fin J.out).1, by have := HL.out; simp; omega, (HM6.out.fin J.out).2.1.mono (by simp; omega), (HM6.out.fin J.out).2.2⟩
          · go_wp2_with fail
            refine (pick_any B ((((k + 6 + 10 * L.length + 2) + 2) + 2) + 2) 5 _ HM6.out.cur (by omega) (by decide)).mono ?_
            rintro e w7 ⟨x7, rfl, -, hc7, hg7⟩
            have HM7 := Lib.hid (HM6.out.call hc7 hg7)
            clear hc7 hg7
            have xt0 : w7.cell? ⟨w2.heap.size, 0, none⟩ = some (.int .i64 r) := cell_of_row _ _ 0 _ _ _ HM7.out.box
            have ft0 : w7.frozen? ⟨w2.heap.size, 0, none⟩ = false := frozen_of_row w7 _ 0 _ _ HM7.out.box
            have xt1 : w7.cell? ⟨w2.heap.size, 1, none⟩ = some (.bool p4) := cell_of_row _ _ 1 _ _ _ HM7.out.box
            have ft1 : w7.frozen? ⟨w2.heap.size, 1, none⟩ = false := frozen_of_row w7 _ 1 _ _ HM7.out.box
            have HM8 := Lib.hid (HM7.out.set 0 (.int .i64 x7) (r' := x7) (p' := p4) rfl)
            go_wp2_with (at_builtin; refine app_Id (w7.setCell ⟨w2.heap.size, 0, none⟩ (.int .i64 x7)) w.heap.size _ L x7 p4 w7.heap.size (by simp) rfl _ _ rfl rfl rfl HM8.out.own HM8.out.grown.size (by omega) (w7.setCell ⟨w2.heap.size, 0, none⟩ (.int .i64 x7)) (Below.refl _ _) ?_; intro d' wz J)
            go_roundg (gk - 1)
            case measure => omega
            case rel => exact ⟨L ++ [(x7, p4)], by go_num, (HM8.out.fin J.out).1, by have := HL.out; simp; omega, (HM8.out.fin J.out).2.1.mono (by simp; omega), (HM8.out.fin J.out).2.2⟩
end Go.Proofs.Ytbegikjoialahaa
