/-
  The draws of chapter 13, first part: a bucket, requests.
-/
import Derived.Test.YtgakklanboabjaaCE
namespace Go.Proofs.Ytgakklanboabjaa
open Go.RowKit

/-- In the midst of a bucket's draw: the bucket in block X, the answer's box. -/
structure Dk13 (w wr : World) (B K X : Nat) (r q f c : Int) : Prop where
  box : wr.heap[X]? = some (.cells #[.int .i64 r, .int .i64 q, .int .i64 f, .int .i64 c] 24 (0, 0))
  res : wr.heap[w.heap.size]? = some (.cells #[.int .i64 0, .int .i64 0, .int .i64 0, .int .i64 0] 24 (0, 0))
  cur : Cur wr B K
  grown : w.grownBy wr (some B)
  lt : B < w.heap.size
  le : w.heap.size < X
theorem Dk13.call {w wr w' : World} {B K X : Nat} {r q f c : Int} (h : Dk13 w wr B K X r q f c) (hc : Cur w' B (K + 2)) (hg : wr.grownBy w' (some B)) : Dk13 w w' B (K + 2) X r q f c :=
  ⟨(hg.block _ (heap_lt h.box) (by have := h.lt; have := h.le; intro e; injection e with e; omega)).trans h.box, (hg.block _ (heap_lt h.res) (by have := h.lt; intro e; injection e with e; omega)).trans h.res, hc, grownBy_trans h.grown hg, h.lt, h.le⟩
theorem Dk13.fill {w wr : World} {B K X : Nat} {r q f c : Int} (h : Dk13 w wr B K X r q f c) (z : Int) : Dk13 w (wr.setCell ⟨X, 2, none⟩ (.int .i64 z)) B K X r q z c :=
  ⟨heap_setCell_same _ _ 2 _ _ _ h.box, (heap_setCell_other wr ⟨X, 2, none⟩ _ _ (Nat.ne_of_lt h.le)).trans h.res, h.cur.grown (gSet11 wr X 2 _) (fun g hg => by injection hg with hg; have := h.lt; have := h.le; omega), grown_set h.grown (Nat.le_of_lt h.le) 2 _, h.lt, h.le⟩
theorem Dk13.clock {w wr : World} {B K X : Nat} {r q f c : Int} (h : Dk13 w wr B K X r q f c) (z : Int) : Dk13 w (wr.setCell ⟨X, 3, none⟩ (.int .i64 z)) B K X r q f z :=
  ⟨heap_setCell_same _ _ 3 _ _ _ h.box, (heap_setCell_other wr ⟨X, 3, none⟩ _ _ (Nat.ne_of_lt h.le)).trans h.res, h.cur.grown (gSet11 wr X 3 _) (fun g hg => by injection hg with hg; have := h.lt; have := h.le; omega), grown_set h.grown (Nat.le_of_lt h.le) 3 _, h.lt, h.le⟩
theorem Dk13.fin {w wr : World} {B K X M : Nat} {r q f c : Int} (h : Dk13 w wr B K X r q f c) (hk : K ≤ M) :
    let w' := (((wr.setCell ⟨w.heap.size, 0, none⟩ (.int .i64 r)).setCell ⟨w.heap.size, 1, none⟩ (.int .i64 q)).setCell ⟨w.heap.size, 2, none⟩ (.int .i64 f)).setCell ⟨w.heap.size, 3, none⟩ (.int .i64 c)
    w'.heap[w.heap.size]? = some (.cells #[.int .i64 r, .int .i64 q, .int .i64 f, .int .i64 c] 24 (0, 0)) ∧ Cur w' B M ∧ w.grownBy w' (some B) :=
  ⟨gv_stored rfl h.res _ _ _ _, (h.cur.grown (gGv _ _ _ _ _ _) (fun g hg => by injection hg with hg; have := h.lt; omega)).mono hk, grown_set (grown_set (grown_set (grown_set h.grown (Nat.le_refl _) 0 _) (Nat.le_refl _) 1 _) (Nat.le_refl _) 2 _) (Nat.le_refl _) 3 _⟩
set_option maxRecDepth 100000 in
set_option maxHeartbeats 4000000 in
theorem bucket13 (B k : Nat) (w : World) (hcur : Cur w B k) (hk : k ≤ 34359738368) :
    Calls Try.prog 44 #[.pointer (some ⟨B, 0, none⟩)] w fun e w' => ∃ r q f c, e = .returned (bkW r q f c) ∧ Cur w' B (k + 10) ∧ w.grownBy w' (some B) := by
  have hB := hcur.lt
  have HC := Lib.hid (hcur.below (gAlloc w (.cells #[.int .i64 0, .int .i64 0, .int .i64 0, .int .i64 0] 24)))
  have HR : Hid ((w.alloc (.cells #[.int .i64 0, .int .i64 0, .int .i64 0, .int .i64 0] 24)).heap[w.heap.size]? = some (.cells #[.int .i64 0, .int .i64 0, .int .i64 0, .int .i64 0] 24 (0, 0))) := heap_alloc_new _ _
  clear hcur
  go_enter Try.func44, Try.ntmps44
  go_wp2_with fail
  refine (pick_any B k 40 _ HC.out (by omega) (by decide)).mono ?_
  rintro e w1 ⟨x1, rfl, hx1, hc1, hg1⟩
  obtain ⟨a0, a1⟩ := pick_to hx1 (by decide)
  have HR1 : Hid (w1.heap[w.heap.size]? = some (.cells #[.int .i64 0, .int .i64 0, .int .i64 0, .int .i64 0] 24 (0, 0))) := (hg1.block _ (by rw [World.heap_size_alloc9]; omega) (by intro e; injection e with e; omega)).trans HR.out
  have HG1 := Lib.hid (grownBy_trans (World.grownBy_alloc w _ (some B)) hg1)
  have HC1 := Lib.hid hc1
  clear hx1 hc1 hg1 HC HR
  go_wp2_with fail
  refine (pick_any B (k + 2) 6 _ HC1.out (by omega) (by decide)).mono ?_
  rintro e w2 ⟨x2, rfl, hx2, hc2, hg2⟩
  obtain ⟨b0, b1⟩ := pick_to hx2 (by decide)
  have HR2 : Hid (w2.heap[w.heap.size]? = some (.cells #[.int .i64 0, .int .i64 0, .int .i64 0, .int .i64 0] 24 (0, 0))) := (hg2.block _ (heap_lt HR1.out) (by intro e; injection e with e; omega)).trans HR1.out
  have HG2 := Lib.hid (grownBy_trans HG1.out hg2)
  have HC2 := Lib.hid hc2
  clear hx2 hc2 hg2 HC1 HR1 HG1
  have hn := sNewBk (1 + x1) (1 + x2) w2
  have hok : nbOk (1 + x1) (1 + x2) = true := gbk_mk (by omega) (by omega) (by omega) (by omega)
  rw [nb_yes hok, hok] at hn
  have HN := Lib.hid hn
  clear hn hok
  go_wp2_with fail
  refine HN.out.mono ?_
  rintro e w3 ⟨rfl, hb3⟩
  have hlt3 := Nat.lt_of_lt_of_le (heap_lt HR2.out) hb3.size
  have HM : Hid (Dk13 w (w3.alloc (.cells #[.int .i64 (1 + x1), .int .i64 (1 + x2), .int .i64 (1 + x1), .int .i64 0] 24)) B (k + 2 + 2) w3.heap.size (1 + x1) (1 + x2) (1 + x1) 0) :=
    ⟨heap_alloc_new _ _, (heap_alloc_old _ _ _ hlt3).trans ((hb3.block _ (heap_lt HR2.out)).trans HR2.out), (HC2.out.below hb3).below (gAlloc _ _), grownBy_trans (grownBy_trans HG2.out (gBelowR hb3 _)) (World.grownBy_alloc _ _ _), hB, hlt3⟩
  clear HN HR2 HG2 HC2 hb3
  have hne1 : w.heap.size ≠ w3.heap.size := Nat.ne_of_lt hlt3
  have hne2 : w3.heap.size ≠ w.heap.size := Nat.ne_of_gt hlt3
  go_wp2_with fail
  refine (pick_any B (k + 2 + 2) (1 + x1 + 1) _ HM.out.cur (by omega) (by omega)).mono ?_
  rintro e w5 ⟨x5, rfl, -, hc5, hg5⟩
  have HM5 := Lib.hid (HM.out.call hc5 hg5)
  clear hc5 hg5 HM
  have xeb0 : w5.cell? ⟨w3.heap.size, 0, none⟩ = some (.int .i64 (1 + x1)) := cell_of_row _ _ 0 _ _ _ HM5.out.box
  have feb0 := frozen_of_row w5 _ 0 _ _ HM5.out.box
  have xeb1 : w5.cell? ⟨w3.heap.size, 1, none⟩ = some (.int .i64 (1 + x2)) := cell_of_row _ _ 1 _ _ _ HM5.out.box
  have feb1 := frozen_of_row w5 _ 1 _ _ HM5.out.box
  have xeb2 : w5.cell? ⟨w3.heap.size, 2, none⟩ = some (.int .i64 (1 + x1)) := cell_of_row _ _ 2 _ _ _ HM5.out.box
  have feb2 := frozen_of_row w5 _ 2 _ _ HM5.out.box
  have xeb3 : w5.cell? ⟨w3.heap.size, 3, none⟩ = some (.int .i64 0) := cell_of_row _ _ 3 _ _ _ HM5.out.box
  have feb3 := frozen_of_row w5 _ 3 _ _ HM5.out.box
  have xer0 : w5.cell? ⟨w.heap.size, 0, none⟩ = some (.int .i64 0) := cell_of_row _ _ 0 _ _ _ HM5.out.res
  have fer0 := frozen_of_row w5 _ 0 _ _ HM5.out.res
  have xer1 : w5.cell? ⟨w.heap.size, 1, none⟩ = some (.int .i64 0) := cell_of_row _ _ 1 _ _ _ HM5.out.res
  have fer1 := frozen_of_row w5 _ 1 _ _ HM5.out.res
  have xer2 : w5.cell? ⟨w.heap.size, 2, none⟩ = some (.int .i64 0) := cell_of_row _ _ 2 _ _ _ HM5.out.res
  have fer2 := frozen_of_row w5 _ 2 _ _ HM5.out.res
  have xer3 : w5.cell? ⟨w.heap.size, 3, none⟩ = some (.int .i64 0) := cell_of_row _ _ 3 _ _ _ HM5.out.res
  have fer3 := frozen_of_row w5 _ 3 _ _ HM5.out.res
  have HM6 := Lib.hid (HM5.out.fill x5)
  go_wp2_with fail
  refine (one_any B (k + 2 + 2 + 2) 20 _ HM6.out.cur (by omega) (by decide)).mono ?_
  rintro e w7 ⟨b7, rfl, hc7, hg7⟩
  have HM7 := Lib.hid (HM6.out.call hc7 hg7)
  clear hc7 hg7 HM6 HM5
  have xgb0 : w7.cell? ⟨w3.heap.size, 0, none⟩ = some (.int .i64 (1 + x1)) := cell_of_row _ _ 0 _ _ _ HM7.out.box
  have fgb0 := frozen_of_row w7 _ 0 _ _ HM7.out.box
  have xgb1 : w7.cell? ⟨w3.heap.size, 1, none⟩ = some (.int .i64 (1 + x2)) := cell_of_row _ _ 1 _ _ _ HM7.out.box
  have fgb1 := frozen_of_row w7 _ 1 _ _ HM7.out.box
  have xgb2 : w7.cell? ⟨w3.heap.size, 2, none⟩ = some (.int .i64 x5) := cell_of_row _ _ 2 _ _ _ HM7.out.box
  have fgb2 := frozen_of_row w7 _ 2 _ _ HM7.out.box
  have xgb3 : w7.cell? ⟨w3.heap.size, 3, none⟩ = some (.int .i64 0) := cell_of_row _ _ 3 _ _ _ HM7.out.box
  have fgb3 := frozen_of_row w7 _ 3 _ _ HM7.out.box
  have xgr0 : w7.cell? ⟨w.heap.size, 0, none⟩ = some (.int .i64 0) := cell_of_row _ _ 0 _ _ _ HM7.out.res
  have fgr0 := frozen_of_row w7 _ 0 _ _ HM7.out.res
  have xgr1 : w7.cell? ⟨w.heap.size, 1, none⟩ = some (.int .i64 0) := cell_of_row _ _ 1 _ _ _ HM7.out.res
  have fgr1 := frozen_of_row w7 _ 1 _ _ HM7.out.res
  have xgr2 : w7.cell? ⟨w.heap.size, 2, none⟩ = some (.int .i64 0) := cell_of_row _ _ 2 _ _ _ HM7.out.res
  have fgr2 := frozen_of_row w7 _ 2 _ _ HM7.out.res
  have xgr3 : w7.cell? ⟨w.heap.size, 3, none⟩ = some (.int .i64 0) := cell_of_row _ _ 3 _ _ _ HM7.out.res
  have fgr3 := frozen_of_row w7 _ 3 _ _ HM7.out.res
  cases b7
  · go_wp2_with fail
    obtain ⟨r1, r2, r3⟩ := HM7.out.fin (M := k + 10) (by omega)
    exact ret_Bu rfl w.heap.size _ rfl rfl r1 rfl ⟨_, _, _, _, rfl, r2, r3⟩
  · go_wp2_with fail
    refine (among_lit B (k + 2 + 2 + 2 + 2) [-1, 10000, 10001] _ HM7.out.cur (by omega) (by decide) (by decide) 3 3 rfl).mono ?_
    rintro e w8 ⟨x8, rfl, -, hc8, hg8⟩
    have HM8 := Lib.hid (HM7.out.call hc8 hg8)
    clear hc8 hg8 HM7
    have xhb0 : w8.cell? ⟨w3.heap.size, 0, none⟩ = some (.int .i64 (1 + x1)) := cell_of_row _ _ 0 _ _ _ HM8.out.box
    have fhb0 := frozen_of_row w8 _ 0 _ _ HM8.out.box
    have xhb1 : w8.cell? ⟨w3.heap.size, 1, none⟩ = some (.int .i64 (1 + x2)) := cell_of_row _ _ 1 _ _ _ HM8.out.box
    have fhb1 := frozen_of_row w8 _ 1 _ _ HM8.out.box
    have xhb2 : w8.cell? ⟨w3.heap.size, 2, none⟩ = some (.int .i64 x5) := cell_of_row _ _ 2 _ _ _ HM8.out.box
    have fhb2 := frozen_of_row w8 _ 2 _ _ HM8.out.box
    have xhb3 : w8.cell? ⟨w3.heap.size, 3, none⟩ = some (.int .i64 0) := cell_of_row _ _ 3 _ _ _ HM8.out.box
    have fhb3 := frozen_of_row w8 _ 3 _ _ HM8.out.box
    have xhr0 : w8.cell? ⟨w.heap.size, 0, none⟩ = some (.int .i64 0) := cell_of_row _ _ 0 _ _ _ HM8.out.res
    have fhr0 := frozen_of_row w8 _ 0 _ _ HM8.out.res
    have xhr1 : w8.cell? ⟨w.heap.size, 1, none⟩ = some (.int .i64 0) := cell_of_row _ _ 1 _ _ _ HM8.out.res
    have fhr1 := frozen_of_row w8 _ 1 _ _ HM8.out.res
    have xhr2 : w8.cell? ⟨w.heap.size, 2, none⟩ = some (.int .i64 0) := cell_of_row _ _ 2 _ _ _ HM8.out.res
    have fhr2 := frozen_of_row w8 _ 2 _ _ HM8.out.res
    have xhr3 : w8.cell? ⟨w.heap.size, 3, none⟩ = some (.int .i64 0) := cell_of_row _ _ 3 _ _ _ HM8.out.res
    have fhr3 := frozen_of_row w8 _ 3 _ _ HM8.out.res
    have HM9 := Lib.hid (HM8.out.clock x8)
    go_wp2_with fail
    obtain ⟨r1, r2, r3⟩ := HM9.out.fin (M := k + 10) (by omega)
    exact ret_Bu rfl w.heap.size _ rfl rfl r1 rfl ⟨_, _, _, _, rfl, r2, r3⟩
theorem app_Wt {ops : Array Oper} {rest : List Oper} {o : Oper} {a : Act} {Q : Exit → Act → World → Prop} (W : World) (base : Nat) (v : Value) (L : List Wtc) (p : Wtc) (Bn : Nat) (hBn : Bn = W.heap.size) (hgd : o.guard = none) (s x : Operand)
    (ho : o.op = .call { callee := .builtin .append, args := #[s, x], argTypes := #[25, 25] }) (hs : a.eval s = v) (hx : a.eval x = .slice (some ⟨Bn, 0, none⟩) 1 1)
    (hown : OwnR 34 2 fWt W base v L) (hbase : base ≤ W.heap.size) (hlen : L.length ≤ 2000000) (w0 : World) (hb : Below base w0 W)
    (h : ∀ v' w', Hid (OwnR 34 2 fWt w' base v' (L ++ [p]) ∧ Below base w0 w' ∧ (W.alloc (.cells #[.int .i64 p.1, .int .i64 p.2] 34)).grownBy w' v.ownBlock) → wpList Try.prog ops Q rest (a.put o.dst v') w') :
    wpList Try.prog ops Q (o :: rest) a (W.alloc (.cells #[.int .i64 p.1, .int .i64 p.2] 34)) := by
  obtain ⟨i0, hi, hz0, hz1, hz2⟩ := info_parts WtInfo
  exact app_row fWt_len (by decide) fWt_one Try.underlying25 hi hz0 hz1 hz2 rfl (by decide) W base v L p Bn hBn hgd s x ho hs hx hown hbase hlen w0 hb h
theorem wt_fin {w wr w' : World} {B K : Nat} {d d' : Value} {L : List Wtc} {p : Wtc} {o : Obj} (ho : OwnR 34 2 fWt wr w.heap.size d L) (hc : Cur wr B K) (hg : w.grownBy wr (some B)) (hl : B < w.heap.size)
    (J : OwnR 34 2 fWt w' w.heap.size d' (L ++ [p]) ∧ Below w.heap.size wr w' ∧ (wr.alloc o).grownBy w' d.ownBlock) : OwnR 34 2 fWt w' w.heap.size d' (L ++ [p]) ∧ Cur w' B K ∧ w.grownBy w' (some B) :=
  ⟨J.1, (hc.below (gAlloc wr o)).grown J.2.2 (fun g hq => Nat.lt_of_lt_of_le hl (ho.lt g hq).1), J.2.1.os.trans hg.os, J.2.1.tape.trans hg.tape, J.2.1.output.trans hg.output, Nat.le_trans hg.size J.2.1.size, fun k hk hne => (J.2.1.block k hk).trans (hg.block k hk hne)⟩
theorem own_some13 {w : World} {base n c : Nat} {A : Option Addr} {L : List Wtc} (h : OwnR 34 2 fWt w base (.slice A n c) L) (hne : L ≠ []) : ∃ g, A = some ⟨g, 0, none⟩ := by
  rcases h.2 with ⟨e, hn⟩ | ⟨g, cap, cur, e, _⟩
  · exact absurd (List.eq_nil_of_length_eq_zero hn) hne
  · injection e with e1
    exact ⟨g, e1⟩
set_option maxRecDepth 100000 in
set_option maxHeartbeats 4000000 in
theorem wants13 (B k : Nat) (w : World) (hcur : Cur w B k) (hk : k ≤ 34359738368) :
    Calls Try.prog 45 #[.pointer (some ⟨B, 0, none⟩)] w fun e w' => ∃ A c L, e = .returned (.slice A (List.length L) c) ∧ OwnR 34 2 fWt w' w.heap.size (.slice A L.length c) L ∧ L.length ≤ 14 ∧ Cur w' B (k + 100) ∧ w.grownBy w' (some B) := by
  have hB := hcur.lt
  have HC := Lib.hid hcur
  clear hcur
  go_enter Try.func45, Try.ntmps45
  go_wp2_with fail
  refine (pick_any B k 14 _ HC.out (by omega) (by decide)).mono ?_
  rintro e wa ⟨xa, rfl, hxa, hca, hga⟩
  obtain ⟨ha0, ha1⟩ := pick_to hxa (by decide)
  have HCa := Lib.hid hca
  have HGa := Lib.hid hga
  clear hca hga hxa HC
  obtain ⟨N, rfl⟩ := Int.eq_ofNat_of_zero_le ha0
  have hN : N ≤ 14 := by omega
  go_wp2_with fail
  go_loopg [5, 3, 4] N (fun gk i d tt wr => ∃ (L : List Wtc) (T : Int), i = .int .i64 (gk : Nat) ∧ tt = .int .i64 T ∧ 0 ≤ T ∧ T ≤ 5 * (L.length : Int) ∧ OwnR 34 2 fWt wr w.heap.size d L ∧ L.length + gk = N ∧ Cur wr B (k + 2 + 4 * L.length) ∧ w.grownBy wr (some B))
  case atStart => exact ⟨[], 0, rfl, rfl, Int.le_refl _, by simp, OwnR.nil _ _, by simp, HCa.out.mono (by show _ ≤ k + 2 + 4 * 0; omega), HGa.out⟩
  case round =>
    obtain ⟨L, T, rfl, rfl, hT0, hT1, hO, hLM, hC, hG⟩ := hrel
    obtain ⟨A, c, rfl, hlc, -⟩ := hO.form fWt_len
    have HO := Lib.hid hO
    have HCr := Lib.hid hC
    have HGr := Lib.hid hG
    have HL : Hid (L.length + gk = N ∧ N ≤ 14) := ⟨hLM, by omega⟩
    clear hO hC hG hLM HCa HGa
    have hL14 : L.length ≤ 14 := by have := HL.out; omega
    have hT2 : T ≤ 70 := by omega
    by_cases hgk : 0 < gk
    case neg =>
      have hgi : ¬ (0 : Int) < (gk : Int) := by omega
      by_cases hne : L = []
      case pos =>
        subst hne
        have h0 : ¬ (0 : Int) < ((([] : List Wtc).length : Nat) : Int) := by simp
        go_wp2_with fail
        go_ret
        exact ⟨A, c, [], rfl, HO.out, by simp, HCr.out.mono (by simp), HGr.out⟩
      case neg =>
        obtain ⟨m, hm⟩ : ∃ m, Hid (L.length = m + 1) := ⟨L.length - 1, Lib.hid (by have := List.length_pos_iff.2 hne; omega)⟩
        have h0 : (0 : Int) < (L.length : Int) := by have := hm.out; omega
        go_wp2_with fail
        refine (one_any B (k + 2 + 4 * L.length) 20 wr HCr.out (by omega) (by decide)).mono ?_
        rintro e w1 ⟨b1, rfl, hc1, hg1⟩
        have HC1 := Lib.hid hc1
        have HG1 := Lib.hid (grownBy_trans HGr.out hg1)
        have HO1 := Lib.hid (HO.out.cur hB hg1)
        clear hc1 hg1 HCr HGr HO
        cases b1
        · go_wp2_with fail
          go_ret
          exact ⟨A, c, L, rfl, HO1.out, by have := HL.out; omega, HC1.out.mono (by have := HL.out; omega), HG1.out⟩
        · go_wp2_with fail
          refine (among_lit B (k + 2 + 4 * L.length + 2) [0, 100, 101] w1 HC1.out (by omega) (by decide) (by decide) 3 3 rfl).mono ?_
          rintro e w2 ⟨x2, rfl, -, hc2, hg2⟩
          have hO2 := HO1.out.cur hB hg2
          obtain ⟨g, rfl⟩ : ∃ g, A = some ⟨g, 0, none⟩ := own_some13 hO2 hne
          have hml : 0 < L.length := by have := hm.out; omega
          obtain ⟨-, ⟨hcc, hff⟩⟩ := Wt_own_at hO2 hml
          obtain ⟨hP, hgp⟩ := hO2.put fWt_len hml (i := 1) (by decide) (u := .int .i64 x2) (y := ((L[0]).1, x2)) rfl
          have HP := Lib.hid hP
          have HC3 := Lib.hid (hc2.grown hgp (fun q hq => by injection hq with hq; have := (hO2.lt g rfl).1; omega))
          have HG3 := Lib.hid (grown_set (grownBy_trans HG1.out hg2) (show w.heap.size ≤ g from (hO2.lt g rfl).1) 1 (.int .i64 x2))
          generalize L[0] = lm at *
          clear hc2 hg2 hO2 hP hgp HC1 HG1 HO1
          go_wp2_with fail
          go_ret
          exact ⟨some ⟨g, 0, none⟩, c, L.set 0 (lm.1, x2), by rw [List.length_set]; rfl, by rw [List.length_set]; exact HP.out, by rw [List.length_set]; have := HL.out; omega, HC3.out.mono (by have := HL.out; omega), HG3.out⟩
    have hgi : (0 : Int) < (gk : Int) := by omega
    have hgk2 : (gk : Int) ≤ 14 := by have := HL.out; omega
    go_wp2_with fail
    refine (pick_any B (k + 2 + 4 * L.length) 5 wr HCr.out (by omega) (by decide)).mono ?_
    rintro e w1 ⟨x1, rfl, hx1, hc1, hg1⟩
    obtain ⟨a0, a1⟩ := pick_to hx1 (by decide)
    have HC1 := Lib.hid hc1
    have HG1 := Lib.hid (grownBy_trans HGr.out hg1)
    have HO1 := Lib.hid (HO.out.cur hB hg1)
    clear hx1 hc1 hg1 HCr HGr HO
    go_wp2_with fail
    refine (pick_any B (k + 2 + 4 * L.length + 2) 20 w1 HC1.out (by omega) (by decide)).mono ?_
    rintro e w2 ⟨x2, rfl, hx2, hc2, hg2⟩
    obtain ⟨b0, b1⟩ := pick_to hx2 (by decide)
    have HC2 := Lib.hid hc2
    have HG2 := Lib.hid (grownBy_trans HG1.out hg2)
    have HO2 := Lib.hid (HO1.out.cur hB hg2)
    clear hx2 hc2 hg2 HC1 HG1 HO1
    go_wp2_with (at_builtin; refine app_Wt w2 w.heap.size _ L (T + x1, 1 + x2) w2.heap.size rfl rfl _ _ rfl rfl rfl HO2.out HG2.out.size (by omega) w2 (Below.refl _ _) ?_; intro d' wz J)
    go_roundg (gk - 1)
    case measure => omega
    case rel => exact ⟨L ++ [(T + x1, 1 + x2)], T + x1, by go_num, rfl, by omega, by simp; omega, (wt_fin HO2.out HC2.out HG2.out hB J.out).1, by have := HL.out; simp; omega, (wt_fin HO2.out HC2.out HG2.out hB J.out).2.1.mono (by simp; omega), (wt_fin HO2.out HC2.out HG2.out hB J.out).2.2⟩
end Go.Proofs.Ytgakklanboabjaa
