/-
  FnBucket: in no interval are more tokens taken than the capacity and what arrives in it.
-/
import Derived.Test.YtgakklanboabjaaCN
import Derived.Test.YtgakklanboabjaaCL
namespace Go.Proofs.Ytgakklanboabjaa
open Go.RowKit

/-- What lies ready in the law: the requests, the grants, the bucket, the bucket at the end, the second byte string. -/
structure Fb13 (w wr : World) (L : List Wtc) (ts : List Bool) (AS AT : Option Addr) (K1 K2 : Nat) (r q f c e0 e1 e2 e3 : Int) (B : Option Addr) (zb : List Int) : Prop where
  s : RdR 2 fWt wr AS L
  t : Bols wr AT ts
  box : wr.heap[K1]? = some (.cells #[.int .i64 r, .int .i64 q, .int .i64 f, .int .i64 c] 24 (0, 0))
  fin : wr.heap[K2]? = some (.cells #[.int .i64 e0, .int .i64 e1, .int .i64 e2, .int .i64 e3] 24 (0, 0))
  byts : Byts wr wr.heap.size B zb
  bel : Below w.heap.size w wr
theorem Fb13.on {w wr w2 : World} {L : List Wtc} {ts : List Bool} {AS AT : Option Addr} {K1 K2 : Nat} {r q f c e0 e1 e2 e3 : Int} {B : Option Addr} {zb : List Int} (h : Fb13 w wr L ts AS AT K1 K2 r q f c e0 e1 e2 e3 B zb) (hb : Below wr.heap.size wr w2) : Fb13 w w2 L ts AS AT K1 K2 r q f c e0 e1 e2 e3 B zb :=
  ⟨h.s.below hb, h.t.below hb, block_onU hb h.box, block_onU hb h.fin, byts_on13 h.byts hb, below_more h.bel hb⟩
set_option maxRecDepth 100000 in
set_option maxHeartbeats 8000000 in
theorem fnBucket_small (A : Option Addr) (za : List Int) (ca : Nat) (B : Option Addr) (zb : List Int) (cb : Nat) (w : World) (ha : Byts w w.heap.size A za) (hb : Byts w w.heap.size B zb) (hl : za.length + zb.length ≤ 1048576) :
    Calls Try.prog 3 #[.slice A za.length ca, .slice B zb.length cb] w fun e w' => e = .returned (.bool true) ∧ Below w.heap.size w w' := by
  have hli : ¬ (1048576 : Int) < (za.length : Int) + (zb.length : Int) := by omega
  have hlb : zb.length ≤ 1048576 := by omega
  have HAy := Lib.hid ha
  have HBy := Lib.hid hb
  clear ha hb
  go_enter Try.func3, Try.ntmps3
  go_wp2_with fail
  refine (drawPlay13 A za ca _ HAy.out).mono ?_
  rintro e w1 ⟨r, q, f, c, AS, cS, L, rfl, hoS, hL14, hb1⟩
  have HcS : Hid (L.length ≤ cS) := by
    obtain ⟨A', c', e, hle, -⟩ := OwnR.form fWt_len hoS
    injection e with e1 e2 e3
    show _ ≤ _
    rw [e3]; exact hle
  obtain ⟨w2, hw2⟩ : ∃ w2, w1.alloc (.cells #[.int .i64 r, .int .i64 q, .int .i64 f, .int .i64 c] 24) = w2 := ⟨_, rfl⟩
  have hb2 : Below w1.heap.size w1 w2 := by rw [← hw2]; exact gAlloc _ _
  have h2 : w2.heap[w1.heap.size]? = some (.cells #[.int .i64 r, .int .i64 q, .int .i64 f, .int .i64 c] 24 (0, 0)) := by rw [← hw2]; exact heap_alloc_new _ _
  have HF2 := Lib.hid (And.intro ((OwnR.rd fWt_len hoS).below hb2) (And.intro h2 (below_more hb1 hb2)))
  have HM : Hid (pbOk (r, q, f, c) L = true → ∀ (i j : Nat) (hij : i ≤ j) (hj : j < L.length), suOk L (pbT (r, q, f, c) L) (L[i]'(by omega)).1 L[j].1 = true ∧ suI L (pbT (r, q, f, c) L) (L[i]'(by omega)).1 L[j].1 ≤ r + q * (L[j].1 - (L[i]'(by omega)).1) ∧ (0 ≤ q * (L[j].1 - (L[i]'(by omega)).1) ∧ q * (L[j].1 - (L[i]'(by omega)).1) ≤ 200000) ∧ (0 ≤ (L[i]'(by omega)).1 ∧ (L[i]'(by omega)).1 ≤ 10000) ∧ (0 ≤ L[j].1 ∧ L[j].1 ≤ 10000) ∧ (0 ≤ r ∧ r ≤ 100)) :=
    fun h i j hij hj => bucket_math h i j hij hj
  have HG : Hid (pbOk (r, q, f, c) L = true → goodBB (pbL (r, q, f, c) L).1 (pbL (r, q, f, c) L).2.1 (pbL (r, q, f, c) L).2.2.1 (pbL (r, q, f, c) L).2.2.2 = true) := fun h => pb_good h
  have HI := Lib.hid (fun w h => iPlayBk r q f c AS L cS w h (by omega))
  have HSp := Lib.hid (fun w h => sPlayBk r q f c AS L cS w h (by omega))
  have HT40 := Lib.hid (pbT_len13 (r, q, f, c) L)
  have HGi := Lib.hid (fun w => iGoodBk r q f c w)
  have HGs := Lib.hid (fun w => sGoodBk r q f c w)
  generalize goodBB r q f c = gb at *
  generalize (pbL (r, q, f, c) L).1 = e0 at *
  generalize (pbL (r, q, f, c) L).2.1 = e1 at *
  generalize (pbL (r, q, f, c) L).2.2.1 = e2 at *
  generalize (pbL (r, q, f, c) L).2.2.2 = e3 at *
  generalize pbT (r, q, f, c) L = ts at *
  generalize pbOk (r, q, f, c) L = p at *
  have ht40 := HT40.out
  clear hoS hb1 hb2 h2 HT40
  have x0 : w2.cell? ⟨w1.heap.size, 0, none⟩ = some (.int .i64 r) := cell_of_row _ _ 0 _ _ _ HF2.out.2.1
  have x1 : w2.cell? ⟨w1.heap.size, 1, none⟩ = some (.int .i64 q) := cell_of_row _ _ 1 _ _ _ HF2.out.2.1
  have x2 : w2.cell? ⟨w1.heap.size, 2, none⟩ = some (.int .i64 f) := cell_of_row _ _ 2 _ _ _ HF2.out.2.1
  have x3 : w2.cell? ⟨w1.heap.size, 3, none⟩ = some (.int .i64 c) := cell_of_row _ _ 3 _ _ _ HF2.out.2.1
  go_wp2_with fail
  refine (HI.out _ HF2.out.1).mono ?_
  clear hw2 x0 x1 x2 x3 HI
  rintro e w3 ⟨d1, rfl, ho1, hb3⟩
  obtain ⟨AT, cT, hd1, hR1⟩ := OwnT.form ho1
  subst hd1
  obtain ⟨w4, hw4⟩ : ∃ w4, w3.alloc (.cells #[.int .i64 e0, .int .i64 e1, .int .i64 e2, .int .i64 e3] 24) = w4 := ⟨_, rfl⟩
  have hb4 : Below w3.heap.size w3 w4 := by rw [← hw4]; exact gAlloc _ _
  have h4 : w4.heap[w3.heap.size]? = some (.cells #[.int .i64 e0, .int .i64 e1, .int .i64 e2, .int .i64 e3] 24 (0, 0)) := by rw [← hw4]; exact heap_alloc_new _ _
  have hb34 := below_more hb3 hb4
  have HF4 : Hid (Fb13 w w4 L ts AS AT w1.heap.size w3.heap.size r q f c e0 e1 e2 e3 B zb) :=
    ⟨HF2.out.1.below hb34, hR1.below hb4, block_onU hb34 HF2.out.2.1, h4, byts_on13 HBy.out (below_more HF2.out.2.2 hb34), below_more HF2.out.2.2 hb34⟩
  clear ho1 hb3 hR1 hb4 h4 hb34 HF2
  obtain ⟨K1, hK1⟩ : ∃ K, w1.heap.size = K := ⟨_, rfl⟩
  obtain ⟨K2, hK2⟩ : ∃ K, w3.heap.size = K := ⟨_, rfl⟩
  have HF4' := Lib.hid HF4.out
  rw [hK1, hK2] at HF4'
  have x0 : w4.cell? ⟨K1, 0, none⟩ = some (.int .i64 r) := cell_of_row _ _ 0 _ _ _ HF4'.out.box
  have x1 : w4.cell? ⟨K1, 1, none⟩ = some (.int .i64 q) := cell_of_row _ _ 1 _ _ _ HF4'.out.box
  have x2 : w4.cell? ⟨K1, 2, none⟩ = some (.int .i64 f) := cell_of_row _ _ 2 _ _ _ HF4'.out.box
  have x3 : w4.cell? ⟨K1, 3, none⟩ = some (.int .i64 c) := cell_of_row _ _ 3 _ _ _ HF4'.out.box
  go_wp2_with fail
  refine (HSp.out _ HF4.out.s).mono ?_
  clear hw4 x0 x1 x2 x3 HSp HF4
  rintro e w5 ⟨d2, rfl, ho2, hb5⟩
  obtain ⟨A2, c2, hd2, hR2⟩ := OwnT.form ho2
  subst hd2
  obtain ⟨w6, hw6⟩ : ∃ w6, w5.alloc (.cells #[.int .i64 e0, .int .i64 e1, .int .i64 e2, .int .i64 e3] 24) = w6 := ⟨_, rfl⟩
  have hb6 : Below w5.heap.size w5 w6 := by rw [← hw6]; exact gAlloc _ _
  have h6 : w6.heap[w5.heap.size]? = some (.cells #[.int .i64 e0, .int .i64 e1, .int .i64 e2, .int .i64 e3] 24 (0, 0)) := by rw [← hw6]; exact heap_alloc_new _ _
  have HF6 := Lib.hid (HF4'.out.on (below_more hb5 hb6))
  have HR6 := Lib.hid (hR2.below hb6)
  have x0 : w6.cell? ⟨K1, 0, none⟩ = some (.int .i64 r) := cell_of_row _ _ 0 _ _ _ HF6.out.box
  have x1 : w6.cell? ⟨K1, 1, none⟩ = some (.int .i64 q) := cell_of_row _ _ 1 _ _ _ HF6.out.box
  have x2 : w6.cell? ⟨K1, 2, none⟩ = some (.int .i64 f) := cell_of_row _ _ 2 _ _ _ HF6.out.box
  have x3 : w6.cell? ⟨K1, 3, none⟩ = some (.int .i64 c) := cell_of_row _ _ 3 _ _ _ HF6.out.box
  have y0 : w6.cell? ⟨K2, 0, none⟩ = some (.int .i64 e0) := cell_of_row _ _ 0 _ _ _ HF6.out.fin
  have y1 : w6.cell? ⟨K2, 1, none⟩ = some (.int .i64 e1) := cell_of_row _ _ 1 _ _ _ HF6.out.fin
  have y2 : w6.cell? ⟨K2, 2, none⟩ = some (.int .i64 e2) := cell_of_row _ _ 2 _ _ _ HF6.out.fin
  have y3 : w6.cell? ⟨K2, 3, none⟩ = some (.int .i64 e3) := cell_of_row _ _ 3 _ _ _ HF6.out.fin
  have z0 : w6.cell? ⟨w5.heap.size, 0, none⟩ = some (.int .i64 e0) := cell_of_row _ _ 0 _ _ _ h6
  have z1 : w6.cell? ⟨w5.heap.size, 1, none⟩ = some (.int .i64 e1) := cell_of_row _ _ 1 _ _ _ h6
  have z2 : w6.cell? ⟨w5.heap.size, 2, none⟩ = some (.int .i64 e2) := cell_of_row _ _ 2 _ _ _ h6
  have z3 : w6.cell? ⟨w5.heap.size, 3, none⟩ = some (.int .i64 e3) := cell_of_row _ _ 3 _ _ _ h6
  clear ho2 hb5 hb6 h6 hR2 HF4'
  have hpp : (p != p) = false := by simp
  have hgg : (gb != gb) = false := by simp
  have ox0 := onU_cell x0
  have ox1 := onU_cell x1
  have ox2 := onU_cell x2
  have ox3 := onU_cell x3
  have oy0 := onU_cell y0
  have oy1 := onU_cell y1
  have oy2 := onU_cell y2
  have oy3 := onU_cell y3
  have oz0 := onU_cell z0
  have oz1 := onU_cell z1
  have oz2 := onU_cell z2
  have oz3 := onU_cell z3
  have hSB : ∀ u : OnU w6, Calls Try.prog 15 #[.slice AT ts.length cT, .slice A2 ts.length c2] u.w' fun e w' => e = .returned (.bool true) ∧ Below u.w'.heap.size u.w' w' := fun u =>
    (sameBools_any AT A2 ts ts cT c2 u.w' (HF6.out.t.below u.h) (HR6.out.below u.h) (by omega)).mono (fun _ _ ⟨he, n, hw⟩ => ⟨by rw [he, eqT_self], by rw [hw]; exact gDrewN n⟩)
  have HSB := Lib.hid hSB
  clear hSB
  go_wp2_with fail
  refine wp_region_onU (by kernel_rfl) (by kernel_rfl) ?_
  repeat (go_big_quiet_step (first | (go_at_call 15; with_reducible exact onU_of (HSB.out _)) | (go_at_call 16; with_reducible exact onU_of (HGi.out _)) | (go_at_call 17; with_reducible exact onU_of (HGs.out _))))
  with_reducible refine wpQuiet_nil ?_
  rintro w7 ⟨⟨w2x, hb7⟩, hw2x⟩
  obtain rfl : w7 = w2x := hw2x
  have HF7 := Lib.hid (HF6.out.on hb7)
  clear hb7 HF6 HR6 HSB HGi HGs hpp hgg hw6 hK1 hK2 hli
  clear x0 x1 x2 x3 y0 y1 y2 y3 z0 z1 z2 z3 ox0 ox1 ox2 ox3 oy0 oy1 oy2 oy3 oz0 oz1 oz2 oz3
  cases p
  · clear HM HG
    go_wp2_with fail
    refine (drawSum13 B zb cb _ HF7.out.byts).mono ?_
    rintro e v1 ⟨A9, c9, M, d9, t9, u9, w9, rfl, hoM, hoT, hM14, hT40, hc1⟩
    obtain ⟨AD, cD, hdD, hbD⟩ := OwnT.form hoT
    subst hdD
    have HB1 := Lib.hid (below_more HF7.out.bel hc1)
    have HO1 := Lib.hid (OwnR.rd fWt_len hoM)
    have HT1 := Lib.hid hbD
    have HBz := Lib.hid (byts_on13 HF7.out.byts hc1)
    clear hoM hoT hc1 hbD
    go_wp2_with fail
    refine (iSumTaken A9 AD M t9 c9 cD u9 w9 _ HO1.out HT1.out (by omega) (by omega)).mono ?_
    rintro e v2 ⟨rfl, hc2⟩
    have HB2 := Lib.hid (below_more HB1.out hc2)
    have HO2 := Lib.hid (HO1.out.below hc2)
    have HT2 := Lib.hid (HT1.out.below hc2)
    have HBz2 := Lib.hid (byts_on13 HBz.out hc2)
    clear hc2 HO1 HB1 HT1 HBz
    go_wp2_with fail
    refine (sSumTaken A9 AD M t9 c9 cD u9 w9 _ HO2.out HT2.out (by omega) (by omega)).mono ?_
    rintro e v3 ⟨rfl, hc3⟩
    have HB3 := Lib.hid (below_more HB2.out hc3)
    have HBz3 := Lib.hid (byts_on13 HBz2.out hc3)
    clear hc3 HO2 HB2 HT2 HBz2
    generalize suI M t9 u9 w9 = q1
    generalize suOk M t9 u9 w9 = q2
    go_wp2_with fail
    refine (drawNew13 B zb cb _ HBz3.out).mono ?_
    rintro e v4 ⟨x9, y9, rfl, hc4⟩
    have HB4 := Lib.hid (below_more HB3.out hc4)
    have HNi := Lib.hid (fun w => iNewBk x9 y9 w)
    have HNs := Lib.hid (fun w => sNewBk x9 y9 w)
    clear hc4 HB3 HBz3
    generalize (nbL x9 y9).1 = n0 at *
    generalize (nbL x9 y9).2.1 = n1 at *
    generalize (nbL x9 y9).2.2.1 = n2 at *
    generalize (nbL x9 y9).2.2.2 = n3 at *
    generalize nbOk x9 y9 = nb at *
    go_wp2_with fail
    refine (HNi.out _).mono ?_
    rintro e v5 ⟨rfl, hc5⟩
    obtain ⟨v6, hv6⟩ : ∃ v6, v5.alloc (.cells #[.int .i64 n0, .int .i64 n1, .int .i64 n2, .int .i64 n3] 24) = v6 := ⟨_, rfl⟩
    have hb6 : Below v5.heap.size v5 v6 := by rw [← hv6]; exact gAlloc _ _
    have h6 : v6.heap[v5.heap.size]? = some (.cells #[.int .i64 n0, .int .i64 n1, .int .i64 n2, .int .i64 n3] 24 (0, 0)) := by rw [← hv6]; exact heap_alloc_new _ _
    have HB6 := Lib.hid (below_more (below_more HB4.out hc5) hb6)
    have H6 := Lib.hid h6
    clear hc5 hb6 h6 HB4 HNi
    go_wp2_with fail
    refine (HNs.out _).mono ?_
    clear hv6
    rintro e v7 ⟨rfl, hc7⟩
    have HB7 := Lib.hid (below_more HB6.out hc7)
    obtain ⟨v8, hv8⟩ : ∃ v8, v7.alloc (.cells #[.int .i64 n0, .int .i64 n1, .int .i64 n2, .int .i64 n3] 24) = v8 := ⟨_, rfl⟩
    have hb8 : Below v7.heap.size v7 v8 := by rw [← hv8]; exact gAlloc _ _
    have h8 : v8.heap[v7.heap.size]? = some (.cells #[.int .i64 n0, .int .i64 n1, .int .i64 n2, .int .i64 n3] 24 (0, 0)) := by rw [← hv8]; exact heap_alloc_new _ _
    have h68 := block_onU hb8 (block_onU hc7 H6.out)
    have y0 : v8.cell? ⟨v5.heap.size, 0, none⟩ = some (.int .i64 n0) := cell_of_row _ _ 0 _ _ _ h68
    have y1 : v8.cell? ⟨v5.heap.size, 1, none⟩ = some (.int .i64 n1) := cell_of_row _ _ 1 _ _ _ h68
    have y2 : v8.cell? ⟨v5.heap.size, 2, none⟩ = some (.int .i64 n2) := cell_of_row _ _ 2 _ _ _ h68
    have y3 : v8.cell? ⟨v5.heap.size, 3, none⟩ = some (.int .i64 n3) := cell_of_row _ _ 3 _ _ _ h68
    have z0 : v8.cell? ⟨v7.heap.size, 0, none⟩ = some (.int .i64 n0) := cell_of_row _ _ 0 _ _ _ h8
    have z1 : v8.cell? ⟨v7.heap.size, 1, none⟩ = some (.int .i64 n1) := cell_of_row _ _ 1 _ _ _ h8
    have z2 : v8.cell? ⟨v7.heap.size, 2, none⟩ = some (.int .i64 n2) := cell_of_row _ _ 2 _ _ _ h8
    have z3 : v8.cell? ⟨v7.heap.size, 3, none⟩ = some (.int .i64 n3) := cell_of_row _ _ 3 _ _ _ h8
    have HB8 := Lib.hid (below_more HB7.out hb8)
    clear hc7 hb8 h8 h68 H6 HB6 HB7 HNs
    go_wp2_with fail
    go_ret
    exact ⟨by first | rfl | simp, HB8.out⟩
  have HGe := Lib.hid (fun w => iGoodBk e0 e1 e2 e3 w)
  rw [HG.out rfl] at HGe
  have y0 : w7.cell? ⟨K2, 0, none⟩ = some (.int .i64 e0) := cell_of_row _ _ 0 _ _ _ HF7.out.fin
  have y1 : w7.cell? ⟨K2, 1, none⟩ = some (.int .i64 e1) := cell_of_row _ _ 1 _ _ _ HF7.out.fin
  have y2 : w7.cell? ⟨K2, 2, none⟩ = some (.int .i64 e2) := cell_of_row _ _ 2 _ _ _ HF7.out.fin
  have y3 : w7.cell? ⟨K2, 3, none⟩ = some (.int .i64 e3) := cell_of_row _ _ 3 _ _ _ HF7.out.fin
  go_wp2_with fail
  refine (HGe.out _).mono ?_
  rintro e w8 ⟨rfl, hb8⟩
  have HF8 := Lib.hid (HF7.out.on hb8)
  clear hb8 y0 y1 y2 y3 HGe HG HF7
  have HMt := Lib.hid (HM.out (by trivial))
  clear HM
  go_wp2_with fail
  go_loopg [85] L.length (fun gk i wr => ∃ j : Nat, j + gk = L.length ∧ i = .int .i64 j ∧ Fb13 w wr L ts AS AT K1 K2 r q f c e0 e1 e2 e3 B zb)
  case atStart => exact ⟨0, by omega, rfl, HF8.out⟩
  case round =>
    obtain ⟨i, hgk, rfl, hF⟩ := hrel
    have HF := Lib.hid hF
    clear hF HF8
    by_cases hlt : i < L.length
    case neg =>
      obtain rfl : i = L.length := by omega
      have hji : ¬ (L.length : Int) < (L.length : Int) := by omega
      clear hgk hlt HMt
      go_wp2_with fail
      refine (drawSum13 B zb cb _ HF.out.byts).mono ?_
      rintro e v1 ⟨A9, c9, M, d9, t9, u9, w9, rfl, hoM, hoT, hM14, hT40, hc1⟩
      obtain ⟨AD, cD, hdD, hbD⟩ := OwnT.form hoT
      subst hdD
      have HB1 := Lib.hid (below_more HF.out.bel hc1)
      have HO1 := Lib.hid (OwnR.rd fWt_len hoM)
      have HT1 := Lib.hid hbD
      have HBz := Lib.hid (byts_on13 HF.out.byts hc1)
      clear hoM hoT hc1 hbD
      go_wp2_with fail
      refine (iSumTaken A9 AD M t9 c9 cD u9 w9 _ HO1.out HT1.out (by omega) (by omega)).mono ?_
      rintro e v2 ⟨rfl, hc2⟩
      have HB2 := Lib.hid (below_more HB1.out hc2)
      have HO2 := Lib.hid (HO1.out.below hc2)
      have HT2 := Lib.hid (HT1.out.below hc2)
      have HBz2 := Lib.hid (byts_on13 HBz.out hc2)
      clear hc2 HO1 HB1 HT1 HBz
      go_wp2_with fail
      refine (sSumTaken A9 AD M t9 c9 cD u9 w9 _ HO2.out HT2.out (by omega) (by omega)).mono ?_
      rintro e v3 ⟨rfl, hc3⟩
      have HB3 := Lib.hid (below_more HB2.out hc3)
      have HBz3 := Lib.hid (byts_on13 HBz2.out hc3)
      clear hc3 HO2 HB2 HT2 HBz2
      generalize suI M t9 u9 w9 = q1
      generalize suOk M t9 u9 w9 = q2
      go_wp2_with fail
      refine (drawNew13 B zb cb _ HBz3.out).mono ?_
      rintro e v4 ⟨x9, y9, rfl, hc4⟩
      have HB4 := Lib.hid (below_more HB3.out hc4)
      have HNi := Lib.hid (fun w => iNewBk x9 y9 w)
      have HNs := Lib.hid (fun w => sNewBk x9 y9 w)
      clear hc4 HB3 HBz3
      generalize (nbL x9 y9).1 = n0 at *
      generalize (nbL x9 y9).2.1 = n1 at *
      generalize (nbL x9 y9).2.2.1 = n2 at *
      generalize (nbL x9 y9).2.2.2 = n3 at *
      generalize nbOk x9 y9 = nb at *
      go_wp2_with fail
      refine (HNi.out _).mono ?_
      rintro e v5 ⟨rfl, hc5⟩
      obtain ⟨v6, hv6⟩ : ∃ v6, v5.alloc (.cells #[.int .i64 n0, .int .i64 n1, .int .i64 n2, .int .i64 n3] 24) = v6 := ⟨_, rfl⟩
      have hb6 : Below v5.heap.size v5 v6 := by rw [← hv6]; exact gAlloc _ _
      have h6 : v6.heap[v5.heap.size]? = some (.cells #[.int .i64 n0, .int .i64 n1, .int .i64 n2, .int .i64 n3] 24 (0, 0)) := by rw [← hv6]; exact heap_alloc_new _ _
      have HB6 := Lib.hid (below_more (below_more HB4.out hc5) hb6)
      have H6 := Lib.hid h6
      clear hc5 hb6 h6 HB4 HNi
      go_wp2_with fail
      refine (HNs.out _).mono ?_
      clear hv6
      rintro e v7 ⟨rfl, hc7⟩
      have HB7 := Lib.hid (below_more HB6.out hc7)
      obtain ⟨v8, hv8⟩ : ∃ v8, v7.alloc (.cells #[.int .i64 n0, .int .i64 n1, .int .i64 n2, .int .i64 n3] 24) = v8 := ⟨_, rfl⟩
      have hb8 : Below v7.heap.size v7 v8 := by rw [← hv8]; exact gAlloc _ _
      have h8 : v8.heap[v7.heap.size]? = some (.cells #[.int .i64 n0, .int .i64 n1, .int .i64 n2, .int .i64 n3] 24 (0, 0)) := by rw [← hv8]; exact heap_alloc_new _ _
      have h68 := block_onU hb8 (block_onU hc7 H6.out)
      have y0 : v8.cell? ⟨v5.heap.size, 0, none⟩ = some (.int .i64 n0) := cell_of_row _ _ 0 _ _ _ h68
      have y1 : v8.cell? ⟨v5.heap.size, 1, none⟩ = some (.int .i64 n1) := cell_of_row _ _ 1 _ _ _ h68
      have y2 : v8.cell? ⟨v5.heap.size, 2, none⟩ = some (.int .i64 n2) := cell_of_row _ _ 2 _ _ _ h68
      have y3 : v8.cell? ⟨v5.heap.size, 3, none⟩ = some (.int .i64 n3) := cell_of_row _ _ 3 _ _ _ h68
      have z0 : v8.cell? ⟨v7.heap.size, 0, none⟩ = some (.int .i64 n0) := cell_of_row _ _ 0 _ _ _ h8
      have z1 : v8.cell? ⟨v7.heap.size, 1, none⟩ = some (.int .i64 n1) := cell_of_row _ _ 1 _ _ _ h8
      have z2 : v8.cell? ⟨v7.heap.size, 2, none⟩ = some (.int .i64 n2) := cell_of_row _ _ 2 _ _ _ h8
      have z3 : v8.cell? ⟨v7.heap.size, 3, none⟩ = some (.int .i64 n3) := cell_of_row _ _ 3 _ _ _ h8
      have HB8 := Lib.hid (below_more HB7.out hb8)
      clear hc7 hb8 h8 h68 H6 HB6 HB7 HNs
      go_wp2_with fail
      go_ret
      exact ⟨by first | rfl | simp, HB8.out⟩
    have hji : (i : Int) < (L.length : Int) := by omega
    have hil : (i : Int) ≤ (L.length : Int) := by omega
    have hci : ¬ cS = i := by have := HcS.out; omega
    have HGK : Hid (L.length - i - 1 < gk ∧ i + 1 + (L.length - i - 1) = L.length) := by show _ ∧ _; omega
    clear hgk
    obtain ⟨b1, o1, hA, q0, q1⟩ := Wt_at HF.out.s hlt
    subst hA
    have HMi : Hid (∀ (j : Nat) (hij : i ≤ j) (hj : j < L.length), suOk L ts L[i].1 L[j].1 = true ∧ suI L ts L[i].1 L[j].1 ≤ r + q * (L[j].1 - L[i].1) ∧ (0 ≤ q * (L[j].1 - L[i].1) ∧ q * (L[j].1 - L[i].1) ≤ 200000) ∧ (0 ≤ L[i].1 ∧ L[i].1 ≤ 10000) ∧ (0 ≤ L[j].1 ∧ L[j].1 ≤ 10000) ∧ (0 ≤ r ∧ r ≤ 100)) := fun j hij hj => HMt.out i j hij hj
    obtain ⟨⟨xa, xs⟩, hx⟩ : ∃ x, L[i] = x := ⟨_, rfl⟩
    rw [hx] at q0 q1 HMi
    obtain ⟨wg, hwg⟩ : ∃ wg, wr.alloc (.cells #[.int .i64 xa, .int .i64 xs] 34) = wg := ⟨_, rfl⟩
    have hbg : Below wr.heap.size wr wg := by rw [← hwg]; exact gAlloc _ _
    have hgb : wg.heap[wr.heap.size]? = some (.cells #[.int .i64 xa, .int .i64 xs] 34 (0, 0)) := by rw [← hwg]; exact heap_alloc_new _ _
    have HFg := Lib.hid (HF.out.on hbg)
    have HXg := Lib.hid hgb
    obtain ⟨X, hX⟩ : ∃ X, wr.heap.size = X := ⟨_, rfl⟩
    rw [hX] at HXg
    clear hgb hbg hx
    go_wp2_with fail
    clear hwg hX q0 q1 HF
    go_loopg [94] (L.length - i) (fun gk2 t wi => ∃ n : Nat, n + gk2 = L.length - i ∧ t = .int .i64 n ∧ Fb13 w wi L ts (some ⟨b1, o1, none⟩) AT K1 K2 r q f c e0 e1 e2 e3 B zb ∧ wi.heap[X]? = some (.cells #[.int .i64 xa, .int .i64 xs] 34 (0, 0)))
    case atStart => exact ⟨0, by omega, rfl, HFg.out, HXg.out⟩
    case round =>
      obtain ⟨n, hgk, rfl, hF, hX2⟩ := hrel
      have HF := Lib.hid hF
      have HX := Lib.hid hX2
      clear hF hX2 HFg HXg
      by_cases hlt2 : n < L.length - i
      case neg =>
        obtain rfl : n = L.length - i := by omega
        have hni : ¬ ((L.length - i : Nat) : Int) < ((L.length - i : Nat) : Int) := by omega
        clear hgk hlt2 HMi
        go_wp2_with fail
        go_roundg (L.length - i - 1)
        case measure => exact HGK.out.1
        case rel => exact ⟨i + 1, HGK.out.2, by go_num, HF.out⟩
      have hni : (n : Int) < ((L.length - i : Nat) : Int) := by omega
      have hj : i + n < L.length := by omega
      have HGK2 : Hid (L.length - i - n - 1 < gk ∧ n + 1 + (L.length - i - n - 1) = L.length - i) := by show _ ∧ _; omega
      clear hgk
      obtain ⟨b', o', hA, p0, p1⟩ := Wt_at HF.out.s hj
      injection hA with hA
      injection hA with hA1 hA2
      subst hA1 hA2
      rw [show o1 + (i + n) * 2 = o1 + i * 2 + n * 2 by omega] at p0 p1
      obtain ⟨g1, g2, ⟨g3, g4⟩, ⟨g5, g6⟩, ⟨g7, g8⟩, g9, g10⟩ := HMi.out (i + n) (by omega) hj
      obtain ⟨⟨ya, ys⟩, hy⟩ : ∃ y, L[i + n] = y := ⟨_, rfl⟩
      rw [hy] at p0 p1 g1 g2 g3 g4 g7 g8
      replace g1 : suOk L ts xa ya = true := g1
      replace g2 : suI L ts xa ya ≤ r + q * (ya - xa) := g2
      replace g3 : 0 ≤ q * (ya - xa) := g3
      replace g4 : q * (ya - xa) ≤ 200000 := g4
      replace g5 : 0 ≤ xa := g5
      replace g6 : xa ≤ 10000 := g6
      replace g7 : 0 ≤ ya := g7
      replace g8 : ya ≤ 10000 := g8
      obtain ⟨wh, hwh⟩ : ∃ wh, wr.alloc (.cells #[.int .i64 ya, .int .i64 ys] 34) = wh := ⟨_, rfl⟩
      have hbh : Below wr.heap.size wr wh := by rw [← hwh]; exact gAlloc _ _
      have hh : wh.heap[wr.heap.size]? = some (.cells #[.int .i64 ya, .int .i64 ys] 34 (0, 0)) := by rw [← hwh]; exact heap_alloc_new _ _
      have HFh := Lib.hid (HF.out.on hbh)
      have HXh := Lib.hid (block_onU hbh HX.out)
      have HYh := Lib.hid hh
      have HSu := Lib.hid (iSumTaken (some ⟨b1, o1, none⟩) AT L ts cS cT xa ya wh HFh.out.s HFh.out.t (by omega) (by omega))
      have hsl := (su_yes g1).1
      have hsb := (suS_bounds xa ya L ts (by have h := g1; rw [suOk] at h; simp only [Bool.and_eq_true] at h; exact h.2))
      rw [← hsl] at hsb
      obtain ⟨s0, s1⟩ := hsb
      have s2 : suI L ts xa ya ≤ 1400 := by omega
      rw [g1] at HSu
      generalize suI L ts xa ya = S at *
      have hw1 : IntKind.i64.wrap (ya - xa) = ya - xa := wrap13 _ (by omega) (by omega)
      obtain ⟨m, hm⟩ : ∃ m, q * (ya - xa) = m := ⟨_, rfl⟩
      rw [hm] at g2 g3 g4
      have hw2 : IntKind.i64.wrap m = m := wrap13 _ (by omega) (by omega)
      have hw3 : IntKind.i64.wrap (r + m) = r + m := wrap13 _ (by omega) (by omega)
      have hgt : ¬ r + m < S := by omega
      clear hh hbh hy hsl s0 s1 s2 g1 HF HX
      have x0 : wh.cell? ⟨X, 0, none⟩ = some (.int .i64 xa) := cell_of_row _ _ 0 _ _ _ HXh.out
      have x1 : wh.cell? ⟨X, 1, none⟩ = some (.int .i64 xs) := cell_of_row _ _ 1 _ _ _ HXh.out
      have y0 : wh.cell? ⟨wr.heap.size, 0, none⟩ = some (.int .i64 ya) := cell_of_row _ _ 0 _ _ _ HYh.out
      have y1 : wh.cell? ⟨wr.heap.size, 1, none⟩ = some (.int .i64 ys) := cell_of_row _ _ 1 _ _ _ HYh.out
      go_wp2_with fail
      refine HSu.out.mono ?_
      clear hwh p0 p1 x0 x1 y0 y1 HSu
      rintro e wj ⟨rfl, hbj⟩
      have HFj := Lib.hid (HFh.out.on hbj)
      have HXj := Lib.hid (block_onU hbj HXh.out)
      have HYj := Lib.hid (block_onU hbj HYh.out)
      clear hbj HFh HXh HYh
      have x0 : wj.cell? ⟨X, 0, none⟩ = some (.int .i64 xa) := cell_of_row _ _ 0 _ _ _ HXj.out
      have x1 : wj.cell? ⟨X, 1, none⟩ = some (.int .i64 xs) := cell_of_row _ _ 1 _ _ _ HXj.out
      have y0 : wj.cell? ⟨wr.heap.size, 0, none⟩ = some (.int .i64 ya) := cell_of_row _ _ 0 _ _ _ HYj.out
      have y1 : wj.cell? ⟨wr.heap.size, 1, none⟩ = some (.int .i64 ys) := cell_of_row _ _ 1 _ _ _ HYj.out
      have k0 : wj.cell? ⟨K1, 0, none⟩ = some (.int .i64 r) := cell_of_row _ _ 0 _ _ _ HFj.out.box
      have k1 : wj.cell? ⟨K1, 1, none⟩ = some (.int .i64 q) := cell_of_row _ _ 1 _ _ _ HFj.out.box
      have k2 : wj.cell? ⟨K1, 2, none⟩ = some (.int .i64 f) := cell_of_row _ _ 2 _ _ _ HFj.out.box
      have k3 : wj.cell? ⟨K1, 3, none⟩ = some (.int .i64 c) := cell_of_row _ _ 3 _ _ _ HFj.out.box
      go_wp2_with fail
      go_roundg (L.length - i - n - 1)
      case measure => exact HGK2.out.1
      case rel => exact ⟨n + 1, HGK2.out.2, by go_num, HFj.out, HXj.out⟩
set_option maxRecDepth 100000 in
theorem dFnBucket (A : Option Addr) (za : List Int) (ca : Nat) (B : Option Addr) (zb : List Int) (cb : Nat) (w : World) (ha : Byts w w.heap.size A za) (hb : Byts w w.heap.size B zb) (hla : za.length ≤ 140737488355328) (hlb : zb.length ≤ 140737488355328) :
    Calls Try.prog 3 #[.slice A za.length ca, .slice B zb.length cb] w fun e w' => e = .returned (.bool true) ∧ Below w.heap.size w w' := by
  by_cases hl : za.length + zb.length ≤ 1048576
  · exact fnBucket_small A za ca B zb cb w ha hb hl
  · have hli : (1048576 : Int) < (za.length : Int) + (zb.length : Int) := by omega
    clear ha hb
    go_enter Try.func3, Try.ntmps3
    go_wp2_with fail
    go_ret
    exact ⟨rfl, Below.refl _ _⟩
end Go.Proofs.Ytgakklanboabjaa
