/-
  FnLeases: no elder holder takes the lease as its own when it is lent anew.
-/
import Derived.Test.YthmnenejfonfgaaBI
import Derived.Test.YthmnenejfonfgaaBK
import Derived.Test.YthmnenejfonfgaaBP
import Derived.Test.YthmnenejfonfgaaBG
import Derived.BigQuiet
namespace Go.Proofs.Ythmnenejfonfgaa
open Go.RowKit

/-- What lies ready in the law: the steps, both lists of leases, the last lease, the second byte string. -/
structure Fl12 (w wr : World) (L : List Zpc) (X : List Zac) (AS A1 A2 : Option Addr) (K : Nat) (ta tu tq : Int) (B : Option Addr) (zb : List Int) : Prop where
  s : RdR 4 fZp wr AS L
  d1 : RdR 3 fZa wr A1 X
  d2 : RdR 3 fZa wr A2 X
  box : wr.heap[K]? = some (.cells #[.int .i64 ta, .int .i64 tu, .int .i64 tq] 26 (0, 0))
  byts : Byts wr wr.heap.size B zb
  bel : Below w.heap.size w wr
theorem Fl12.on {w wr w2 : World} {L : List Zpc} {X : List Zac} {AS A1 A2 : Option Addr} {K : Nat} {ta tu tq : Int} {B : Option Addr} {zb : List Int} (h : Fl12 w wr L X AS A1 A2 K ta tu tq B zb) (hb : Below wr.heap.size wr w2) : Fl12 w w2 L X AS A1 A2 K ta tu tq B zb :=
  ⟨h.s.below hb, h.d1.below hb, h.d2.below hb, (hb.block _ (heap_lt h.box)).trans h.box, byts_on12 h.byts hb, below_more h.bel hb⟩
theorem cell_on {w w2 : World} (hb : Below w.heap.size w w2) {c : Addr} {v : Value} (h : w.cell? c = some v) : w2.cell? c = some v := (hb.cell (World.block_lt_of_cell? _ _ h)).trans h
theorem wp_meet_at {P : Program} {c : Code} {Q : Exit → Act → World → Prop} {a : Act} {w : World} (R : World → Prop) (A : Act) (hreg : c.wp P (fun e a' w' => e = .normal ∧ a' = A ∧ R w') a w) (himp : ∀ w', R w' → Q .normal A w') : c.wp P Q a w :=
  Code.wp_mono (fun e a' w' ⟨h1, h2, h3⟩ => by rw [h1, h2]; exact himp _ h3) hreg
/-- Two leases laid in a row. -/
theorem two_lit12 (w : World) (a b c d e f : Int) : RdR 3 fZa (w.alloc (.cells #[.int .i64 a, .int .i64 b, .int .i64 c, .int .i64 d, .int .i64 e, .int .i64 f] 26)) (some ⟨w.heap.size, 0, none⟩) [(a, b, c), (d, e, f)] := by
  intro _
  refine ⟨_, _, rfl, fun j hj i v hv => ?_⟩
  have hr := heap_alloc_new w (.cells #[.int .i64 a, .int .i64 b, .int .i64 c, .int .i64 d, .int .i64 e, .int .i64 f] 26)
  match j, hj with
  | 0, _ =>
    match i, hv with
    | 0, hv => injection hv with hv; subst hv; exact cell_of_row _ _ 0 _ _ _ hr
    | 1, hv => injection hv with hv; subst hv; exact cell_of_row _ _ 1 _ _ _ hr
    | 2, hv => injection hv with hv; subst hv; exact cell_of_row _ _ 2 _ _ _ hr
    | n + 3, hv => cases hv
  | 1, _ =>
    match i, hv with
    | 0, hv => injection hv with hv; subst hv; exact cell_of_row _ _ 3 _ _ _ hr
    | 1, hv => injection hv with hv; subst hv; exact cell_of_row _ _ 4 _ _ _ hr
    | 2, hv => injection hv with hv; subst hv; exact cell_of_row _ _ 5 _ _ _ hr
    | n + 3, hv => cases hv
set_option maxRecDepth 100000 in
set_option maxHeartbeats 8000000 in
theorem fnLeases_small (A : Option Addr) (za : List Int) (ca : Nat) (B : Option Addr) (zb : List Int) (cb : Nat) (w : World) (ha : Byts w w.heap.size A za) (hb : Byts w w.heap.size B zb) (hl : za.length + zb.length ≤ 1048576) :
    Calls Try.prog 3 #[.slice A za.length ca, .slice B zb.length cb] w fun e w' => e = .returned (.bool true) ∧ Below w.heap.size w w' := by
  have hli : ¬ (1048576 : Int) < (za.length : Int) + (zb.length : Int) := by omega
  have hlb : zb.length ≤ 1048576 := by omega
  have HAy := Lib.hid ha
  have HBy := Lib.hid hb
  clear ha hb
  go_enter Try.func3, Try.ntmps3
  go_wp2_with fail
  refine (drawPlay12 A za ca _ HAy.out).mono ?_
  rintro e w1 ⟨AS, cS, L, rfl, hoS, hL41, hb1⟩
  have HS1 := Lib.hid (OwnR.rd fZp_len hoS)
  have HB1 := Lib.hid hb1
  have HQ : Hid (plOk L = true → goodZB (plL L).1 (plL L).2.1 (plL L).2.2 = true) := fun h => pl_good h
  obtain ⟨X, hX⟩ : ∃ X, plAll L = X := ⟨_, rfl⟩
  have HX40 : Hid (X.length ≤ 40) := by rw [← hX]; exact plAll_len L
  have HXl : Hid (plOk L = true → X.length = L.length) := fun h => by rw [← hX, (pl_yes h).2.1, plS_len]
  have HXg : Hid (∀ (i : Nat) (h : i < X.length), plOk L = true → goodZ X[i] = true) := fun i h hp => by
    have h2 : ∀ x ∈ X, goodZ x = true := by rw [← hX, (pl_yes hp).2.1]; exact plS_good L _ (by decide)
    exact h2 _ (List.getElem_mem h)
  have HXs : Hid (∀ (i : Nat) (h : i + 1 < X.length) (hL : i + 1 < L.length), plOk L = true → X[i + 1] = stZl (X[i]'(by omega)) L[i + 1]) := fun i h hL hp => by
    have e := (pl_yes hp).2.1
    subst hX
    simp only [e] at h ⊢
    exact plS_at L _ i h hL
  have HI := Lib.hid (fun w h => iPlayL AS L cS w h (by omega))
  have HSp := Lib.hid (fun w h => sPlayL AS L cS w h (by omega))
  rw [hX] at HI HSp
  clear hX
  obtain ⟨⟨ta, tu, tq⟩, hT⟩ : ∃ t, plL L = t := ⟨_, rfl⟩
  rw [hT] at HQ HI HSp
  clear hT
  generalize plOk L = p at *
  clear hoS hb1
  go_wp2_with fail
  refine (HI.out _ HS1.out).mono ?_
  rintro e w2 ⟨d1, rfl, ho1, hb2⟩
  obtain ⟨A1, c1, hd1, -, hR1⟩ := OwnR.form fZa_len ho1
  subst hd1
  clear HI ho1
  have hx40 := HX40.out
  obtain ⟨w3, hw3⟩ : ∃ w3, w2.alloc (.cells #[.int .i64 ta, .int .i64 tu, .int .i64 tq] 26) = w3 := ⟨_, rfl⟩
  have hb3 : Below w2.heap.size w2 w3 := by rw [← hw3]; exact gAlloc _ _
  have h3 : w3.heap[w2.heap.size]? = some (.cells #[.int .i64 ta, .int .i64 tu, .int .i64 tq] 26 (0, 0)) := by rw [← hw3]; exact heap_alloc_new _ _
  have HF3 := Lib.hid (And.intro (HS1.out.below (below_more hb2 hb3)) (And.intro (hR1.below hb3) (And.intro h3 (below_more HB1.out (below_more hb2 hb3)))))
  clear hb2 hb3 hR1 h3 HS1 HB1
  go_wp2_with fail
  refine (HSp.out _ HF3.out.1).mono ?_
  rintro e w4 ⟨d2, rfl, ho2, hb4⟩
  obtain ⟨A2, c2, hd2, -, hR2⟩ := OwnR.form fZa_len ho2
  subst hd2
  clear HSp ho2 hw3
  obtain ⟨K, hK⟩ : ∃ K, w2.heap.size = K := ⟨_, rfl⟩
  rw [hK] at HF3
  obtain ⟨w5, hw5⟩ : ∃ w5, w4.alloc (.cells #[.int .i64 ta, .int .i64 tu, .int .i64 tq] 26) = w5 := ⟨_, rfl⟩
  have HF5 : Hid (Fl12 w w5 L X AS A1 A2 K ta tu tq B zb) := by
    have hb5 : Below w4.heap.size w4 w5 := by rw [← hw5]; exact gAlloc _ _
    have hb45 := below_more hb4 hb5
    exact ⟨HF3.out.1.below hb45, HF3.out.2.1.below hb45, hR2.below hb5, (hb45.block _ (heap_lt HF3.out.2.2.1)).trans HF3.out.2.2.1, byts_on12 HBy.out (below_more HF3.out.2.2.2 hb45), below_more HF3.out.2.2.2 hb45⟩
  have h9 : w5.heap[w4.heap.size]? = some (.cells #[.int .i64 ta, .int .i64 tu, .int .i64 tq] 26 (0, 0)) := by rw [← hw5]; exact heap_alloc_new _ _
  have x0 : w5.cell? ⟨K, 0, none⟩ = some (.int .i64 ta) := cell_of_row _ _ 0 _ _ _ HF5.out.box
  have x1 : w5.cell? ⟨K, 1, none⟩ = some (.int .i64 tu) := cell_of_row _ _ 1 _ _ _ HF5.out.box
  have x2 : w5.cell? ⟨K, 2, none⟩ = some (.int .i64 tq) := cell_of_row _ _ 2 _ _ _ HF5.out.box
  have y0 : w5.cell? ⟨w4.heap.size, 0, none⟩ = some (.int .i64 ta) := cell_of_row _ _ 0 _ _ _ h9
  have y1 : w5.cell? ⟨w4.heap.size, 1, none⟩ = some (.int .i64 tu) := cell_of_row _ _ 1 _ _ _ h9
  have y2 : w5.cell? ⟨w4.heap.size, 2, none⟩ = some (.int .i64 tq) := cell_of_row _ _ 2 _ _ _ h9
  clear HF3 hb4 hR2 h9
  have hpp : (p != p) = false := by simp
  go_wp2_with fail
  clear hw5 hK x0 x1 x2 y0 y1 y2 hpp
  go_loopg [63] X.length (fun gk i wr => ∃ j : Nat, j + gk = X.length ∧ i = .int .i64 j ∧ Fl12 w wr L X AS A1 A2 K ta tu tq B zb)
  case atStart => exact ⟨0, by omega, rfl, HF5.out⟩
  case round =>
    obtain ⟨j, hgk, rfl, hF⟩ := hrel
    have HF := Lib.hid hF
    clear hF HF5
    by_cases hlt : j < X.length
    case pos =>
      have hji : (j : Int) < (X.length : Int) := by omega
      have HGK : Hid (X.length - j - 1 < gk ∧ j + 1 + (X.length - j - 1) = X.length) := by show _ ∧ _; omega
      clear hgk
      obtain ⟨b1, o1, rfl, q0, q1, q2⟩ := Za_at HF.out.d1 hlt
      obtain ⟨b2, o2, rfl, r0, r1, r2⟩ := Za_at HF.out.d2 hlt
      obtain ⟨⟨xa, xu, xq⟩, hx⟩ : ∃ x, X[j] = x := ⟨_, rfl⟩
      rw [hx] at q0 q1 q2 r0 r1 r2
      clear hx
      have oq0 := on_cell q0
      have oq1 := on_cell q1
      have oq2 := on_cell q2
      have or0 := on_cell r0
      have or1 := on_cell r1
      have or2 := on_cell r2
      go_wp2_with fail
      refine wp_region_on (by kernel_rfl) (by kernel_rfl) ?_
      repeat (go_big_quiet_step (first | fail))
      with_reducible refine wpQuiet_nil ?_
      rintro w2 ⟨⟨w2x, hb2⟩, hw2x⟩
      obtain rfl : w2 = w2x := hw2x
      have HF2 := Lib.hid (HF.out.on hb2)
      clear q0 q1 q2 r0 r1 r2 oq0 oq1 oq2 or0 or1 or2 hb2
      go_wp2_with fail
      go_roundg (X.length - j - 1)
      case measure => exact HGK.out.1
      case rel => exact ⟨j + 1, HGK.out.2, by go_num, HF2.out⟩
    obtain rfl : j = X.length := by omega
    have hji : ¬ (X.length : Int) < (X.length : Int) := by omega
    clear hgk hlt
    cases p
    · clear HQ HXl HXg HXs HX40
      go_wp2_with fail
      refine (drawOver12 B zb cb _ HF.out.byts).mono ?_
      rintro e v1 ⟨d, M, nw9, dr9, rfl, hoM, hM41, hc1⟩
      obtain ⟨AM, cM, hdM, hcM, -⟩ := OwnR.form fZa_len hoM
      subst hdM
      have HB1 := Lib.hid (below_more HF.out.bel hc1)
      have HO1 := Lib.hid hoM
      clear hoM hc1
      go_wp2_with fail
      refine (iOver12 AM M cM nw9 dr9 _ (OwnR.rd fZa_len HO1.out) (by omega)).mono ?_
      rintro e v2 ⟨rfl, hc2⟩
      have HB2 := Lib.hid (below_more HB1.out hc2)
      have HO2 := Lib.hid (HO1.out.below hc2)
      clear hc2 HO1 HB1
      go_wp2_with fail
      refine (sOver12 AM M cM nw9 dr9 _ (OwnR.rd fZa_len HO2.out) (by omega) hcM).mono ?_
      rintro e v3 ⟨rfl, hc3⟩
      have HB3 := Lib.hid (below_more HB2.out hc3)
      clear hc3 HO2 HB2
      generalize ovB M nw9 dr9 = q1
      generalize ovOk M nw9 dr9 = q2
      cases q2
      · go_wp2_with fail
        go_ret
        exact ⟨rfl, HB3.out⟩
      · go_wp2_with fail
        go_ret
        exact ⟨by first | rfl | simp, HB3.out⟩
    have hQ := HQ.out rfl
    have HG := Lib.hid (fun w => iGoodL ta tu tq w)
    rw [hQ] at HG
    clear hQ HQ
    have x0 : wr.cell? ⟨K, 0, none⟩ = some (.int .i64 ta) := cell_of_row _ _ 0 _ _ _ HF.out.box
    have x1 : wr.cell? ⟨K, 1, none⟩ = some (.int .i64 tu) := cell_of_row _ _ 1 _ _ _ HF.out.box
    have x2 : wr.cell? ⟨K, 2, none⟩ = some (.int .i64 tq) := cell_of_row _ _ 2 _ _ _ HF.out.box
    go_wp2_with fail
    refine (HG.out _).mono ?_
    rintro e wG ⟨rfl, hbG⟩
    have HFG := Lib.hid (HF.out.on hbG)
    clear x0 x1 x2 HG hbG HF
    go_wp2_with fail
    go_loopg [82] X.length (fun gk i wr => ∃ j : Nat, j + gk = X.length ∧ i = .int .i64 j ∧ Fl12 w wr L X AS A1 A2 K ta tu tq B zb)
    case atStart => exact ⟨0, by omega, rfl, HFG.out⟩
    case round =>
      obtain ⟨j, hgk, rfl, hF⟩ := hrel
      have HF := Lib.hid hF
      clear hF HFG
      by_cases hlt : j < X.length
      case neg =>
        obtain rfl : j = X.length := by omega
        have hji : ¬ (X.length : Int) < (X.length : Int) := by omega
        clear hgk hlt HXl HXg HXs HX40
        go_wp2_with fail
        refine (drawOver12 B zb cb _ HF.out.byts).mono ?_
        rintro e v1 ⟨d, M, nw9, dr9, rfl, hoM, hM41, hc1⟩
        obtain ⟨AM, cM, hdM, hcM, -⟩ := OwnR.form fZa_len hoM
        subst hdM
        have HB1 := Lib.hid (below_more HF.out.bel hc1)
        have HO1 := Lib.hid hoM
        clear hoM hc1
        go_wp2_with fail
        refine (iOver12 AM M cM nw9 dr9 _ (OwnR.rd fZa_len HO1.out) (by omega)).mono ?_
        rintro e v2 ⟨rfl, hc2⟩
        have HB2 := Lib.hid (below_more HB1.out hc2)
        have HO2 := Lib.hid (HO1.out.below hc2)
        clear hc2 HO1 HB1
        go_wp2_with fail
        refine (sOver12 AM M cM nw9 dr9 _ (OwnR.rd fZa_len HO2.out) (by omega) hcM).mono ?_
        rintro e v3 ⟨rfl, hc3⟩
        have HB3 := Lib.hid (below_more HB2.out hc3)
        clear hc3 HO2 HB2
        generalize ovB M nw9 dr9 = q1
        generalize ovOk M nw9 dr9 = q2
        cases q2
        · go_wp2_with fail
          go_ret
          exact ⟨rfl, HB3.out⟩
        · go_wp2_with fail
          go_ret
          exact ⟨by first | rfl | simp, HB3.out⟩
      have hji : (j : Int) < (X.length : Int) := by omega
      have HGK : Hid (X.length - j - 1 < gk ∧ j + 1 + (X.length - j - 1) = X.length) := by show _ ∧ _; omega
      clear hgk
      obtain ⟨b1, o1, rfl, q0, q1, q2⟩ := Za_at HF.out.d1 hlt
      cases j with
      | zero =>
        have hdec : decide ((0 : Int) < ((0 : Nat) : Int)) = false := by simp
        have hdec2 : ¬ (0 : Int) < ((0 : Nat) : Int) := by simp
        obtain ⟨⟨xa, xu, xq⟩, hx⟩ : ∃ x, X[0] = x := ⟨_, rfl⟩
        rw [hx] at q0 q1 q2
        simp only [Nat.zero_mul, Nat.add_zero] at q0 q1 q2
        clear hx HXl HXg HXs HX40
        obtain ⟨wg, hwg⟩ : ∃ wg, wr.alloc (.cells #[.int .i64 xa, .int .i64 xu, .int .i64 xq] 26) = wg := ⟨_, rfl⟩
        have hbg : Below wr.heap.size wr wg := by rw [← hwg]; exact gAlloc _ _
        have hgb : wg.heap[wr.heap.size]? = some (.cells #[.int .i64 xa, .int .i64 xu, .int .i64 xq] 26 (0, 0)) := by rw [← hwg]; exact heap_alloc_new _ _
        have x0 : wg.cell? ⟨wr.heap.size, 0, none⟩ = some (.int .i64 xa) := cell_of_row _ _ 0 _ _ _ hgb
        have x1 : wg.cell? ⟨wr.heap.size, 1, none⟩ = some (.int .i64 xu) := cell_of_row _ _ 1 _ _ _ hgb
        have x2 : wg.cell? ⟨wr.heap.size, 2, none⟩ = some (.int .i64 xq) := cell_of_row _ _ 2 _ _ _ hgb
        clear hgb
        have HFg := Lib.hid (HF.out.on hbg)
        clear HF
        have HF := HFg
        clear HFg
        go_wp2_with fail
        clear q0 q1 q2 hwg hbg x0 x1 x2
        refine wp_region_on (by kernel_rfl) (by kernel_rfl) ?_
        repeat (go_big_quiet_step (first | fail))
        with_reducible refine wpQuiet_nil ?_
        rintro w2 ⟨⟨w2x, hb2⟩, hw2x⟩
        obtain rfl : w2 = w2x := hw2x
        have HF2 := Lib.hid (HF.out.on hb2)
        clear HF
        have HF := HF2
        clear HF2
        clear hb2
        go_wp2_with fail
        refine wp_region_on (by kernel_rfl) (by kernel_rfl) ?_
        repeat (go_big_quiet_step (first | fail))
        with_reducible refine wpQuiet_nil ?_
        rintro w2 ⟨⟨w2x, hb2⟩, hw2x⟩
        obtain rfl : w2 = w2x := hw2x
        have HF2 := Lib.hid (HF.out.on hb2)
        clear HF
        have HF := HF2
        clear HF2
        clear hb2
        go_wp2_with fail
        go_roundg (X.length - 0 - 1)
        case measure => exact HGK.out.1
        case rel => exact ⟨0 + 1, HGK.out.2, by go_num, HF.out⟩
      | succ j =>
        obtain ⟨b1', o1', e, p0, p1, p2⟩ := Za_at HF.out.d1 (j := j) (by omega)
        injection e with e
        injection e with e1 e2
        subst e1 e2
        have hLl := HXl.out (by trivial)
        obtain ⟨bs, os, rfl, -, -, n2, -⟩ := Zp_at HF.out.s (j := j + 1) (by omega)
        have hst := HXs.out j hlt (by omega) (by trivial)
        have hgy := HXg.out j (by omega) (by trivial)
        have hgx := HXg.out (j + 1) hlt (by trivial)
        have hf := st_facts L[j + 1] hgy
        rw [← hst] at hf
        clear hst
        obtain ⟨⟨xa, xu, xq⟩, hx⟩ : ∃ x, X[j + 1] = x := ⟨_, rfl⟩
        obtain ⟨⟨ya, yu, yq⟩, hy⟩ : ∃ y, X[j] = y := ⟨_, rfl⟩
        obtain ⟨nw, hn⟩ : ∃ n, L[j + 1].2.2.1 = n := ⟨_, rfl⟩
        rw [hx] at q0 q1 q2 hf hgx
        rw [hy] at p0 p1 p2 hf hgy
        rw [hn] at n2 hf
        have f1 : ¬ xq < yq := hf.1
        have f2 : ¬ (xa ≠ ya ∧ xa > 0 ∧ xq = yq) := hf.2.1
        have f3 : xa > 0 → ya > 0 → xa ≠ ya → ckB nw = true ∧ yu ≤ max 0 (nw - 3) := hf.2.2
        have hLi : ((j + 1 : Nat) : Int) < (L.length : Int) := by omega
        have hsub : ((j + 1 : Nat) : Int) - 1 = (j : Int) := by omega
        have hsub2 : (j : Int) + 1 - 1 = (j : Int) := by omega
        have hwj : IntKind.i64.wrap (j : Int) = (j : Int) := wrap12 _ (by omega) (by omega)
        have hwj2 : IntKind.i64.wrap ((j : Int) + 1) = (j : Int) + 1 := wrap12 _ (by omega) (by omega)
        have hpos2 : (0 : Int) < (j : Int) + 1 := by omega
        have hLi2 : (j : Int) + 1 < (L.length : Int) := by omega
        have hpos : (0 : Int) < ((j + 1 : Nat) : Int) := by omega
        have hjl : (j : Int) < (X.length : Int) := by omega
        clear hf hx hy hn HXl HXg HXs HX40 hLl
        obtain ⟨wg, hwg⟩ : ∃ wg, wr.alloc (.cells #[.int .i64 xa, .int .i64 xu, .int .i64 xq] 26) = wg := ⟨_, rfl⟩
        have hbg : Below wr.heap.size wr wg := by rw [← hwg]; exact gAlloc _ _
        have hgb : wg.heap[wr.heap.size]? = some (.cells #[.int .i64 xa, .int .i64 xu, .int .i64 xq] 26 (0, 0)) := by rw [← hwg]; exact heap_alloc_new _ _
        have x0 : wg.cell? ⟨wr.heap.size, 0, none⟩ = some (.int .i64 xa) := cell_of_row _ _ 0 _ _ _ hgb
        have x1 : wg.cell? ⟨wr.heap.size, 1, none⟩ = some (.int .i64 xu) := cell_of_row _ _ 1 _ _ _ hgb
        have x2 : wg.cell? ⟨wr.heap.size, 2, none⟩ = some (.int .i64 xq) := cell_of_row _ _ 2 _ _ _ hgb
        clear hgb
        have HFg := Lib.hid (HF.out.on hbg)
        clear HF
        have HF := HFg
        clear HFg
        replace p0 := cell_on hbg p0
        replace p1 := cell_on hbg p1
        replace p2 := cell_on hbg p2
        replace n2 := cell_on hbg n2
        have hd1 : decide (xq < yq) = false := by simpa using f1
        by_cases hne : xa = ya
        · subst hne
          clear f2 f3 hgx hgy n2
          by_cases h0 : 0 < xa
          · go_wp2_with fail
            clear q0 q1 q2 hwg hbg p1 x1 hlt
            have hm : (xa != xa) = false := by simp
            have ox0 := on_cell x0
            have ox2 := on_cell x2
            have op0 := on_cell p0
            have op2 := on_cell p2
            refine wp_region_on (by kernel_rfl) (by kernel_rfl) ?_
            repeat (go_big_quiet_step (first | fail))
            with_reducible refine wpQuiet_nil ?_
            rintro w2 ⟨⟨w2x, hb2⟩, hw2x⟩
            obtain rfl : w2 = w2x := hw2x
            clear ox0 ox2 op0 op2
            have HF2 := Lib.hid (HF.out.on hb2)
            clear HF
            have HF := HF2
            clear HF2
            replace x0 := cell_on hb2 x0
            replace x2 := cell_on hb2 x2
            replace p0 := cell_on hb2 p0
            replace p2 := cell_on hb2 p2
            clear hb2
            go_wp2_with fail
            have ox0 := on_cell x0
            have ox2 := on_cell x2
            have op0 := on_cell p0
            have op2 := on_cell p2
            refine wp_region_on (by kernel_rfl) (by kernel_rfl) ?_
            repeat (go_big_quiet_step (first | fail))
            with_reducible refine wpQuiet_nil ?_
            rintro w2 ⟨⟨w2x, hb2⟩, hw2x⟩
            obtain rfl : w2 = w2x := hw2x
            clear ox0 ox2 op0 op2
            have HF2 := Lib.hid (HF.out.on hb2)
            clear HF
            have HF := HF2
            clear HF2
            replace x0 := cell_on hb2 x0
            replace x2 := cell_on hb2 x2
            replace p0 := cell_on hb2 p0
            replace p2 := cell_on hb2 p2
            clear hb2
            go_wp2_with fail
            go_roundg (X.length - (j + 1) - 1)
            case measure => exact HGK.out.1
            case rel => exact ⟨(j + 1) + 1, HGK.out.2, by go_num, HF.out⟩
          · go_wp2_with fail
            clear q0 q1 q2 hwg hbg p1 x1 hlt
            have hm : (xa != xa) = false := by simp
            have h0d : decide (0 < xa) = false := by simpa using h0
            have ox0 := on_cell x0
            have ox2 := on_cell x2
            have op0 := on_cell p0
            have op2 := on_cell p2
            refine wp_region_on (by kernel_rfl) (by kernel_rfl) ?_
            repeat (go_big_quiet_step (first | fail))
            with_reducible refine wpQuiet_nil ?_
            rintro w2 ⟨⟨w2x, hb2⟩, hw2x⟩
            obtain rfl : w2 = w2x := hw2x
            clear ox0 ox2 op0 op2
            have HF2 := Lib.hid (HF.out.on hb2)
            clear HF
            have HF := HF2
            clear HF2
            replace x0 := cell_on hb2 x0
            replace x2 := cell_on hb2 x2
            replace p0 := cell_on hb2 p0
            replace p2 := cell_on hb2 p2
            clear hb2
            go_wp2_with fail
            have ox0 := on_cell x0
            have ox2 := on_cell x2
            have op0 := on_cell p0
            have op2 := on_cell p2
            refine wp_region_on (by kernel_rfl) (by kernel_rfl) ?_
            repeat (go_big_quiet_step (first | fail))
            with_reducible refine wpQuiet_nil ?_
            rintro w2 ⟨⟨w2x, hb2⟩, hw2x⟩
            obtain rfl : w2 = w2x := hw2x
            clear ox0 ox2 op0 op2
            have HF2 := Lib.hid (HF.out.on hb2)
            clear HF
            have HF := HF2
            clear HF2
            replace x0 := cell_on hb2 x0
            replace x2 := cell_on hb2 x2
            replace p0 := cell_on hb2 p0
            replace p2 := cell_on hb2 p2
            clear hb2
            go_wp2_with fail
            go_roundg (X.length - (j + 1) - 1)
            case measure => exact HGK.out.1
            case rel => exact ⟨(j + 1) + 1, HGK.out.2, by go_num, HF.out⟩
        · have hm : (xa != ya) = true := by simpa using hne
          by_cases h0 : 0 < xa
          case neg =>
            clear f2 f3 hgx hgy n2
            have h0d : decide (0 < xa) = false := by simpa using h0
            go_wp2_with fail
            clear q0 q1 q2 hwg hbg p1 x1 hlt hne
            have ox0 := on_cell x0
            have ox2 := on_cell x2
            have op0 := on_cell p0
            have op2 := on_cell p2
            refine wp_region_on (by kernel_rfl) (by kernel_rfl) ?_
            repeat (go_big_quiet_step (first | fail))
            with_reducible refine wpQuiet_nil ?_
            rintro w2 ⟨⟨w2x, hb2⟩, hw2x⟩
            obtain rfl : w2 = w2x := hw2x
            clear ox0 ox2 op0 op2
            have HF2 := Lib.hid (HF.out.on hb2)
            clear HF
            have HF := HF2
            clear HF2
            replace x0 := cell_on hb2 x0
            replace x2 := cell_on hb2 x2
            replace p0 := cell_on hb2 p0
            replace p2 := cell_on hb2 p2
            clear hb2
            go_wp2_with fail
            have ox0 := on_cell x0
            have ox2 := on_cell x2
            have op0 := on_cell p0
            have op2 := on_cell p2
            refine wp_region_on (by kernel_rfl) (by kernel_rfl) ?_
            repeat (go_big_quiet_step (first | fail))
            with_reducible refine wpQuiet_nil ?_
            rintro w2 ⟨⟨w2x, hb2⟩, hw2x⟩
            obtain rfl : w2 = w2x := hw2x
            clear ox0 ox2 op0 op2
            have HF2 := Lib.hid (HF.out.on hb2)
            clear HF
            have HF := HF2
            clear HF2
            replace x0 := cell_on hb2 x0
            replace x2 := cell_on hb2 x2
            replace p0 := cell_on hb2 p0
            replace p2 := cell_on hb2 p2
            clear hb2
            go_wp2_with fail
            go_roundg (X.length - (j + 1) - 1)
            case measure => exact HGK.out.1
            case rel => exact ⟨(j + 1) + 1, HGK.out.2, by go_num, HF.out⟩
          have h0d : decide (0 < xa) = true := by simpa using h0
          have hq : (xq == yq) = false := by simp; exact fun h => f2 ⟨hne, h0, h⟩
          by_cases h1 : 0 < ya
          case neg =>
            clear f2 f3 hgx hgy n2
            have h1d : decide (0 < ya) = false := by simpa using h1
            go_wp2_with fail
            clear q0 q1 q2 hwg hbg p1 x1 hlt hne
            have ox0 := on_cell x0
            have ox2 := on_cell x2
            have op0 := on_cell p0
            have op2 := on_cell p2
            refine wp_region_on (by kernel_rfl) (by kernel_rfl) ?_
            repeat (go_big_quiet_step (first | fail))
            with_reducible refine wpQuiet_nil ?_
            rintro w2 ⟨⟨w2x, hb2⟩, hw2x⟩
            obtain rfl : w2 = w2x := hw2x
            clear ox0 ox2 op0 op2
            have HF2 := Lib.hid (HF.out.on hb2)
            clear HF
            have HF := HF2
            clear HF2
            replace x0 := cell_on hb2 x0
            replace x2 := cell_on hb2 x2
            replace p0 := cell_on hb2 p0
            replace p2 := cell_on hb2 p2
            clear hb2
            go_wp2_with fail
            have ox0 := on_cell x0
            have ox2 := on_cell x2
            have op0 := on_cell p0
            have op2 := on_cell p2
            refine wp_region_on (by kernel_rfl) (by kernel_rfl) ?_
            repeat (go_big_quiet_step (first | fail))
            with_reducible refine wpQuiet_nil ?_
            rintro w2 ⟨⟨w2x, hb2⟩, hw2x⟩
            obtain rfl : w2 = w2x := hw2x
            clear ox0 ox2 op0 op2
            have HF2 := Lib.hid (HF.out.on hb2)
            clear HF
            have HF := HF2
            clear HF2
            replace x0 := cell_on hb2 x0
            replace x2 := cell_on hb2 x2
            replace p0 := cell_on hb2 p0
            replace p2 := cell_on hb2 p2
            clear hb2
            go_wp2_with fail
            go_roundg (X.length - (j + 1) - 1)
            case measure => exact HGK.out.1
            case rel => exact ⟨(j + 1) + 1, HGK.out.2, by go_num, HF.out⟩
          have h1d : decide (0 < ya) = true := by simpa using h1
          obtain ⟨hck, hyu⟩ := f3 h0 h1 hne
          obtain ⟨l1, l2, l3, l4⟩ := lent_anew hgy hgx hck hyu
          have HBl := Lib.hid (fun w => iBelAt ya yu yq nw w)
          have HOv := Lib.hid (fun A w h => iOver12 A [(ya, yu, yq), (xa, xu, xq)] 2 nw 3 w h (by show 2 ≤ 1048576; omega))
          have l1' : blB ya yu yq nw = false := l1
          have l2' : hdOkB ya yu yq nw = true := l2
          rw [l1', l2'] at HBl
          rw [l3, l4] at HOv
          clear l1 l2 l3 l4 l1' l2' hck hyu f2 f3 hgx hgy hne
          go_wp2_with fail
          clear q0 q1 q2 hwg hbg hlt
          have op0 := on_cell p0
          have op1 := on_cell p1
          have op2 := on_cell p2
          have ox0 := on_cell x0
          have ox1 := on_cell x1
          have ox2 := on_cell x2
          have on2 := on_cell n2
          refine wp_region_on (by kernel_rfl) (by kernel_rfl) ?_
          repeat (go_big_quiet_step (first | fail))
          with_reducible refine wpQuiet_nil ?_
          rintro w2 ⟨⟨w2x, hb2⟩, hw2x⟩
          obtain rfl : w2 = w2x := hw2x
          clear op0 op1 op2 ox0 ox1 ox2 on2
          have HF2 := Lib.hid (HF.out.on hb2)
          clear HF
          have HF := HF2
          clear HF2
          replace p0 := cell_on hb2 p0
          replace p1 := cell_on hb2 p1
          replace p2 := cell_on hb2 p2
          replace x0 := cell_on hb2 x0
          replace x1 := cell_on hb2 x1
          replace x2 := cell_on hb2 x2
          replace n2 := cell_on hb2 n2
          clear hb2
          go_wp2_with fail
          have op0 := on_cell p0
          have op1 := on_cell p1
          have op2 := on_cell p2
          have ox0 := on_cell x0
          have ox1 := on_cell x1
          have ox2 := on_cell x2
          have on2 := on_cell n2
          refine wp_region_on (by kernel_rfl) (by kernel_rfl) ?_
          repeat (go_big_quiet_step (first | fail))
          with_reducible refine wpQuiet_nil ?_
          rintro w2 ⟨⟨w2x, hb2⟩, hw2x⟩
          obtain rfl : w2 = w2x := hw2x
          clear op0 op1 op2 ox0 ox1 ox2 on2
          have HF2 := Lib.hid (HF.out.on hb2)
          clear HF
          have HF := HF2
          clear HF2
          replace p0 := cell_on hb2 p0
          replace p1 := cell_on hb2 p1
          replace p2 := cell_on hb2 p2
          replace x0 := cell_on hb2 x0
          replace x1 := cell_on hb2 x1
          replace x2 := cell_on hb2 x2
          replace n2 := cell_on hb2 n2
          clear hb2
          go_wp2_with fail
          have op0 := on_cell p0
          have op1 := on_cell p1
          have op2 := on_cell p2
          have ox0 := on_cell x0
          have ox1 := on_cell x1
          have ox2 := on_cell x2
          have on2 := on_cell n2
          refine wp_region_on (by kernel_rfl) (by kernel_rfl) ?_
          repeat (go_big_quiet_step (first | (go_at_call 15; with_reducible exact on_of (HBl.out _))))
          with_reducible refine wpQuiet_nil ?_
          rintro w2 ⟨⟨w2x, hb2⟩, hw2x⟩
          obtain rfl : w2 = w2x := hw2x
          clear op0 op1 op2 ox0 ox1 ox2 on2
          have HF2 := Lib.hid (HF.out.on hb2)
          clear HF
          have HF := HF2
          clear HF2
          replace p0 := cell_on hb2 p0
          replace p1 := cell_on hb2 p1
          replace p2 := cell_on hb2 p2
          replace x0 := cell_on hb2 x0
          replace x1 := cell_on hb2 x1
          replace x2 := cell_on hb2 x2
          replace n2 := cell_on hb2 n2
          clear hb2
          clear HBl
          go_wp2_with fail
          have hnn : (0 : Int) ≤ (j : Int) + 1 := by omega
          have htn : ((j : Int) + 1).toNat = j + 1 := by omega
          have hD : Below w2.heap.size w2 (World.drew w2) := gDrew
          have hA : Below w2.heap.size w2 (World.drew (w2.alloc (.cells #[.int .i64 ya, .int .i64 yu, .int .i64 yq, .int .i64 xa, .int .i64 xu, .int .i64 xq] 26))) := below_more (gAlloc _ _) gDrew
          have hR := (two_lit12 w2 ya yu yq xa xu xq).below (gDrew (w := w2.alloc (.cells #[.int .i64 ya, .int .i64 yu, .int .i64 yq, .int .i64 xa, .int .i64 xu, .int .i64 xq] 26)))
          have hq0 : (World.drew w2).cell? ⟨b1, o1 + j * 3, none⟩ = some (.int .i64 ya) ∧ (World.drew w2).cell? ⟨b1, o1 + j * 3 + 1, none⟩ = some (.int .i64 yu) ∧ (World.drew w2).cell? ⟨b1, o1 + j * 3 + 2, none⟩ = some (.int .i64 yq) ∧ (World.drew w2).cell? ⟨wr.heap.size, 0, none⟩ = some (.int .i64 xa) ∧ (World.drew w2).cell? ⟨wr.heap.size, 1, none⟩ = some (.int .i64 xu) ∧ (World.drew w2).cell? ⟨wr.heap.size, 2, none⟩ = some (.int .i64 xq) ∧ (World.drew w2).cell? ⟨bs, os + (j + 1) * 4 + 2, none⟩ = some (.int .i64 nw) := ⟨cell_on hD p0, cell_on hD p1, cell_on hD p2, cell_on hD x0, cell_on hD x1, cell_on hD x2, cell_on hD n2⟩
          have hq1 : (World.drew (w2.alloc (.cells #[.int .i64 ya, .int .i64 yu, .int .i64 yq, .int .i64 xa, .int .i64 xu, .int .i64 xq] 26))).cell? ⟨b1, o1 + j * 3, none⟩ = some (.int .i64 ya) ∧ (World.drew (w2.alloc (.cells #[.int .i64 ya, .int .i64 yu, .int .i64 yq, .int .i64 xa, .int .i64 xu, .int .i64 xq] 26))).cell? ⟨b1, o1 + j * 3 + 1, none⟩ = some (.int .i64 yu) ∧ (World.drew (w2.alloc (.cells #[.int .i64 ya, .int .i64 yu, .int .i64 yq, .int .i64 xa, .int .i64 xu, .int .i64 xq] 26))).cell? ⟨b1, o1 + j * 3 + 2, none⟩ = some (.int .i64 yq) ∧ (World.drew (w2.alloc (.cells #[.int .i64 ya, .int .i64 yu, .int .i64 yq, .int .i64 xa, .int .i64 xu, .int .i64 xq] 26))).cell? ⟨wr.heap.size, 0, none⟩ = some (.int .i64 xa) ∧ (World.drew (w2.alloc (.cells #[.int .i64 ya, .int .i64 yu, .int .i64 yq, .int .i64 xa, .int .i64 xu, .int .i64 xq] 26))).cell? ⟨wr.heap.size, 1, none⟩ = some (.int .i64 xu) ∧ (World.drew (w2.alloc (.cells #[.int .i64 ya, .int .i64 yu, .int .i64 yq, .int .i64 xa, .int .i64 xu, .int .i64 xq] 26))).cell? ⟨wr.heap.size, 2, none⟩ = some (.int .i64 xq) ∧ (World.drew (w2.alloc (.cells #[.int .i64 ya, .int .i64 yu, .int .i64 yq, .int .i64 xa, .int .i64 xu, .int .i64 xq] 26))).cell? ⟨bs, os + (j + 1) * 4 + 2, none⟩ = some (.int .i64 nw) := ⟨cell_on hA p0, cell_on hA p1, cell_on hA p2, cell_on hA x0, cell_on hA x1, cell_on hA x2, cell_on hA n2⟩
          apply wp_meet_at (fun w' => Below w2.heap.size w2 w')
          case hreg =>
            go_region_held3 (fun w' => w'.cell? ⟨b1, o1 + j * 3, none⟩ = some (.int .i64 ya) ∧ w'.cell? ⟨b1, o1 + j * 3 + 1, none⟩ = some (.int .i64 yu) ∧ w'.cell? ⟨b1, o1 + j * 3 + 2, none⟩ = some (.int .i64 yq) ∧ w'.cell? ⟨wr.heap.size, 0, none⟩ = some (.int .i64 xa) ∧ w'.cell? ⟨wr.heap.size, 1, none⟩ = some (.int .i64 xu) ∧ w'.cell? ⟨wr.heap.size, 2, none⟩ = some (.int .i64 xq) ∧ w'.cell? ⟨bs, os + (j + 1) * 4 + 2, none⟩ = some (.int .i64 nw)) (first | with_reducible exact hq0 | with_reducible exact hq1 | with_reducible exact hq2) (first
              | (go_at_call 16; refine (HOv.out _ _ hR).mono ?_; rintro e v ⟨rfl, hbv⟩; have hB := below_more hA hbv; have hq2 : v.cell? ⟨b1, o1 + j * 3, none⟩ = some (.int .i64 ya) ∧ v.cell? ⟨b1, o1 + j * 3 + 1, none⟩ = some (.int .i64 yu) ∧ v.cell? ⟨b1, o1 + j * 3 + 2, none⟩ = some (.int .i64 yq) ∧ v.cell? ⟨wr.heap.size, 0, none⟩ = some (.int .i64 xa) ∧ v.cell? ⟨wr.heap.size, 1, none⟩ = some (.int .i64 xu) ∧ v.cell? ⟨wr.heap.size, 2, none⟩ = some (.int .i64 xq) ∧ v.cell? ⟨bs, os + (j + 1) * 4 + 2, none⟩ = some (.int .i64 nw) := ⟨cell_on hB p0, cell_on hB p1, cell_on hB p2, cell_on hB x0, cell_on hB x1, cell_on hB x2, cell_on hB n2⟩))
            all_goals exact ⟨rfl, rfl, hB⟩
          case himp =>
            intro v hB
            have HF2 := Lib.hid (HF.out.on hB)
            clear HF p0 p1 p2 x0 x1 x2 n2 hq0 hq1 hD hA hR HOv hB
            have HF := HF2
            clear HF2
            go_wp2_with fail
            go_roundg (X.length - (j + 1) - 1)
            case measure => exact HGK.out.1
            case rel => exact ⟨(j + 1) + 1, HGK.out.2, by go_num, HF.out⟩
end Go.Proofs.Ythmnenejfonfgaa
