/-
  The model of chapter 12, third part: PlayLease.
-/
import Derived.Test.YthmnenejfonfgaaBC
import Derived.Test.YthmnenejfonfgaaKY
namespace Go.Proofs.Ythmnenejfonfgaa
open Go.RowKit

theorem app_Za {ops : Array Oper} {rest : List Oper} {o : Oper} {a : Act} {Q : Exit → Act → World → Prop} (W : World) (base : Nat) (v : Value) (L : List Zac) (x : Zac) (Bn : Nat) (hBn : Bn = W.heap.size) (hgd : o.guard = none) (s y : Operand)
    (ho : o.op = .call { callee := .builtin .append, args := #[s, y], argTypes := #[27, 27] }) (hs : a.eval s = v) (hx : a.eval y = .slice (some ⟨Bn, 0, none⟩) 1 1)
    (hown : OwnR 26 3 fZa W base v L) (hbase : base ≤ W.heap.size) (hlen : L.length ≤ 2000000) (w0 : World) (hb : Below base w0 W)
    (h : ∀ v' w', Hid (OwnR 26 3 fZa w' base v' (L ++ [x]) ∧ Below base w0 w' ∧ (W.alloc (.cells #[.int .i64 x.1, .int .i64 x.2.1, .int .i64 x.2.2] 26)).grownBy w' v.ownBlock ∧ (v'.ownBlock = v.ownBlock ∨ v'.ownBlock = some (W.heap.size + 1))) → wpList Try.prog ops Q rest (a.put o.dst v') w') :
    wpList Try.prog ops Q (o :: rest) a (W.alloc (.cells #[.int .i64 x.1, .int .i64 x.2.1, .int .i64 x.2.2] 26)) := by
  obtain ⟨i0, hi, hz0, hz1, hz2⟩ := info_parts ZaInfo
  exact app_rowL fZa_len (by decide) fZa_one Try.underlying27 hi hz0 hz1 hz2 rfl (by decide) W base v L x Bn hBn hgd s y ho hs hx hown hbase hlen w0 hb h
def stZl (t : Zac) (x : Zpc) : Zac := lzL t.1 t.2.1 t.2.2 x.1 x.2.1 x.2.2.1 x.2.2.2
def goodZ (t : Zac) : Bool := goodZB t.1 t.2.1 t.2.2
theorem stZl_good {t : Zac} (x : Zpc) (h : goodZ t = true) : goodZ (stZl t x) = true := lz_good _ _ _ _ h
def plT (l : List Zpc) : Zac := l.foldl stZl (0, 0, 0)
def plS (t : Zac) : List Zpc → List Zac
  | [] => []
  | x :: r => stZl t x :: plS (stZl t x) r
theorem plT_snoc {l : List Zpc} {j : Nat} (hj : j < l.length) : plT (l.take (j + 1)) = stZl (plT (l.take j)) l[j] := by
  rw [plT, List.take_succ_eq_append_getElem hj, List.foldl_append]; rfl
theorem plS_app (x : Zpc) : ∀ (L : List Zpc) (t : Zac), plS t (L ++ [x]) = plS t L ++ [stZl (L.foldl stZl t) x]
  | [], _ => rfl
  | y :: L, t => by
    show stZl t y :: plS (stZl t y) (L ++ [x]) = _
    rw [plS_app x L]; rfl
theorem plS_snoc {l : List Zpc} {j : Nat} (hj : j < l.length) : plS (0, 0, 0) (l.take (j + 1)) = plS (0, 0, 0) (l.take j) ++ [stZl (plT (l.take j)) l[j]] := by
  rw [List.take_succ_eq_append_getElem hj, plS_app]; rfl
theorem plS_len : ∀ (L : List Zpc) (t : Zac), (plS t L).length = L.length
  | [], _ => rfl
  | x :: L, t => by rw [plS, List.length_cons, plS_len L, List.length_cons]
theorem foldZ_good : ∀ (L : List Zpc) (t : Zac), goodZ t = true → goodZ (L.foldl stZl t) = true
  | [], _, h => h
  | x :: L, t, h => foldZ_good L (stZl t x) (stZl_good x h)
theorem plT_good (L : List Zpc) : goodZ (plT L) = true := foldZ_good L _ (by decide)
/-- The times do not decrease, up to place n. -/
def monU (l : List Zpc) : Nat → Bool
  | 0 => true
  | n + 1 => monU l n && (n == 0 || decide (((l.getD (n - 1) (0, 0, 0, 0)).2.2.1 : Int) ≤ (l.getD n (0, 0, 0, 0)).2.2.1))
def monB (l : List Zpc) : Bool := monU l l.length
theorem monU_no {l : List Zpc} {j : Nat} (h : monU l (j + 1) = false) : ∀ {n : Nat}, j < n → monU l n = false
  | 0, hn => by omega
  | n + 1, hn => by
    by_cases e : n = j
    · rw [e]; exact h
    · rw [monU, monU_no h (n := n) (by omega)]; rfl
theorem monU_step {l : List Zpc} {j : Nat} (h : monU l (j + 1) = true) (hj : j + 1 < l.length) : monU l (j + 1 + 1) = decide (l[j].2.2.1 ≤ l[j + 1].2.2.1) := by
  rw [monU, h, List.getD_eq_getElem?_getD, List.getD_eq_getElem?_getD, show j + 1 - 1 = j by omega, List.getElem?_eq_getElem (show j < l.length by omega), List.getElem?_eq_getElem hj]
  simp
/-- What PlayLease answers. -/
def plOk (l : List Zpc) : Bool := decide (l.length ≤ 40) && monB l
def plL (l : List Zpc) : Zac := if plOk l = true then plT l else (0, 0, 0)
def plAll (l : List Zpc) : List Zac := if plOk l = true then plS (0, 0, 0) l else []
theorem pl_no {l : List Zpc} (h : plOk l = false) : plL l = (0, 0, 0) ∧ plAll l = [] ∧ plOk l = false := ⟨by rw [plL, h]; rfl, by rw [plAll, h]; rfl, h⟩
theorem pl_yes {l : List Zpc} (h : plOk l = true) : plL l = plT l ∧ plAll l = plS (0, 0, 0) l ∧ plOk l = true := ⟨by rw [plL, h]; rfl, by rw [plAll, h]; rfl, h⟩
theorem results_ls3 {fn : Func} {a b c : Tmp} (h : fn.results = #[.cell a 26, .tmp b, .tmp c]) (tmps : Array Value) (P : Program) (w : World) (g : Nat) (cs : Array Value) (hp : tmps.getD a undef = .pointer (some ⟨g, 0, none⟩)) (hl : (loadVar 26 ⟨g, 0, none⟩).run P w = .ok (.agg cs) w) :
    (results fn tmps).run P w = .ok (.tuple #[.agg cs, tmps.getD b undef, tmps.getD c undef]) w := by
  have hp' : tmps[a]?.getD undef = .pointer (some ⟨g, 0, none⟩) := by simpa using hp
  simp [results, h, hp', asAddr, hl]
theorem ret_ls3 {fn : Func} {p q r : Tmp} (h : fn.results = #[.cell p 26, .tmp q, .tmp r]) {R : Ending → World → Prop} {c : Act} {w : World} (g : Nat) (a u s : Int) (x y : Value) (hp : c.tmps.getD p undef = .pointer (some ⟨g, 0, none⟩)) (hu : c.tmps.getD q undef = x) (hr : c.tmps.getD r undef = y)
    (hg : w.heap[g]? = some (.cells #[.int .i64 a, .int .i64 u, .int .i64 s] 26 (0, 0))) (hd : c.defers = []) (hR : R (.returned (.tuple #[lsW a u s, x, y])) w) : bodyPost Try.prog fn R .ret c w := by
  subst hu hr
  exact bodyPost_ret (results_ls3 h _ _ _ g _ hp (by simp [run_loadVar_row w g 26 26 #[.int .i64 a, .int .i64 u, .int .i64 s] (0, 0) _ hg Try.underlying26 rfl infoLs])) hd hR
/-- What lies ready between two steps: the lease in block D, the leases so far, the answer's box. -/
structure Pz12 (w wr : World) (D : Nat) (t : Zac) (d : Value) (L : List Zac) : Prop where
  box : wr.heap[D]? = some (.cells #[.int .i64 t.1, .int .i64 t.2.1, .int .i64 t.2.2] 26 (0, 0))
  all : OwnR 26 3 fZa wr (w.heap.size + 1) d L
  off : ∀ q, d.ownBlock = some q → q ≠ D
  res : wr.heap[w.heap.size]? = some (.cells #[.int .i64 0, .int .i64 0, .int .i64 0] 26 (0, 0))
  bel : Below w.heap.size w wr
  lt : w.heap.size < D
theorem Pz12.on {w wr w2 : World} {D : Nat} {t : Zac} {d : Value} {L : List Zac} (h : Pz12 w wr D t d L) (hb : Below wr.heap.size wr w2) : Pz12 w w2 D t d L :=
  ⟨(hb.block _ (heap_lt h.box)).trans h.box, h.all.below hb, h.off, (hb.block _ (heap_lt h.res)).trans h.res, below_more h.bel hb, h.lt⟩
theorem Pz12.put {w w2 : World} {D : Nat} {t : Zac} {d : Value} {L : List Zac} (h : Pz12 w w2 D t d L) (t' : Zac) :
    Pz12 w (((w2.setCell ⟨D, 0, none⟩ (.int .i64 t'.1)).setCell ⟨D, 1, none⟩ (.int .i64 t'.2.1)).setCell ⟨D, 2, none⟩ (.int .i64 t'.2.2)) D t' d L :=
  ⟨ls_stored h.box _ _ _, h.all.kept (gLs w2 D _ _ _) (by
    cases hq : d.ownBlock with
    | none => exact Or.inl rfl
    | some q => exact Or.inr (by intro e; injection e with e; exact h.off q hq e)), h.off, ((gLs w2 D _ _ _).block _ (heap_lt h.res) (by have := h.lt; intro e; injection e with e; omega)).trans h.res, below_ls h.bel (Nat.le_of_lt h.lt) _ _ _, h.lt⟩
theorem Pz12.app {w wr w' : World} {D : Nat} {t : Zac} {d d' : Value} {L : List Zac} {z : Zac} {o : Obj} (h : Pz12 w wr D t d L)
    (J : OwnR 26 3 fZa w' (w.heap.size + 1) d' (L ++ [z]) ∧ Below (w.heap.size + 1) wr w' ∧ (wr.alloc o).grownBy w' d.ownBlock ∧ (d'.ownBlock = d.ownBlock ∨ d'.ownBlock = some (wr.heap.size + 1))) : Pz12 w w' D t d' (L ++ [z]) := by
  have hD := heap_lt h.box
  have hr := heap_lt h.res
  have hal : ∀ k, k < wr.heap.size → some k ≠ d.ownBlock → w'.heap[k]? = wr.heap[k]? := fun k hk hne => (J.2.2.1.block k (by rw [World.heap_size_alloc9]; omega) hne).trans (heap_alloc_old _ _ _ hk)
  refine ⟨(hal _ hD (fun e => h.off _ e.symm rfl)).trans h.box, J.1, fun q hq => ?_, (hal _ hr (fun e => by have := (h.all.lt _ e.symm).1; omega)).trans h.res, h.bel.trans (J.2.1.mono (by omega)), h.lt⟩
  rcases J.2.2.2 with e | e
  · exact h.off q (e ▸ hq)
  · rw [e] at hq; injection hq with hq; omega

set_option maxRecDepth 100000 in
set_option maxHeartbeats 4000000 in
theorem sPlayL (A : Option Addr) (l : List Zpc) (ca : Nat) (w : World) (ha : RdR 4 fZp w A l) (hl : l.length ≤ 1048576) :
    Calls Try.prog 13 #[.slice A l.length ca] w fun e w' => ∃ d, e = .returned (.tuple #[lsW (plL l).1 (plL l).2.1 (plL l).2.2, d, .bool (plOk l)]) ∧ OwnR 26 3 fZa w' w.heap.size d (plAll l) ∧ Below w.heap.size w w' := by
  obtain ⟨W, hW⟩ : ∃ W, w.alloc (.cells #[.int .i64 0, .int .i64 0, .int .i64 0] 26) = W := ⟨_, rfl⟩
  have hR : W.heap[w.heap.size]? = some (.cells #[.int .i64 0, .int .i64 0, .int .i64 0] 26 (0, 0)) := by rw [← hW]; exact heap_alloc_new _ _
  have hB : Below w.heap.size w W := by rw [← hW]; exact gAlloc _ _
  have a0 := cell_of_row W _ 0 _ _ _ hR
  have e0 := frozen_of_row W _ 0 _ _ hR
  have a1 := cell_of_row W _ 1 _ _ _ hR
  have e1 := frozen_of_row W _ 1 _ _ hR
  have a2 := cell_of_row W _ 2 _ _ _ hR
  have e2 := frozen_of_row W _ 2 _ _ hR
  have HR := Lib.hid hR
  have HB := Lib.hid hB
  have HA := Lib.hid (ha.below hB)
  have HA0 := Lib.hid ha
  clear hR hB ha
  by_cases h40 : l.length ≤ 40
  case neg =>
    have hi : ¬ (l.length : Int) ≤ 40 := by omega
    have hi2 : (40 : Int) < (l.length : Int) := by omega
    have HE := Lib.hid (pl_no (l := l) (by rw [plOk]; simp [h40]))
    rw [HE.out.1, HE.out.2.1, HE.out.2.2]
    clear h40 HA
    go_enter Try.func13, Try.ntmps13
    go_wp2_with fail
    exact ret_ls3 rfl w.heap.size 0 0 0 _ _ rfl rfl rfl (ls_stored HR.out _ _ _) rfl ⟨.slice none 0 0, rfl, OwnR.nil _ _, below_ls HB.out (Nat.le_refl _) _ _ _⟩
  have hi : (l.length : Int) ≤ 40 := by omega
  have hi2 : ¬ (40 : Int) < (l.length : Int) := by omega
  go_enter Try.func13, Try.ntmps13
  go_wp2_with fail
  go_loopg [16] l.length (fun gk i wr => ∃ j : Nat, j + gk = l.length ∧ i = .int .i64 j ∧ monU l j = true ∧ ∃ n, wr = W.drewN n)
  case atStart => exact ⟨0, by omega, rfl, rfl, 0, rfl⟩
  case round =>
    obtain ⟨j, hgk, rfl, hm, n, rfl⟩ := hrel
    have hRn : (W.drewN n).heap[w.heap.size]? = some (.cells #[.int .i64 0, .int .i64 0, .int .i64 0] 26 (0, 0)) := ((gDrewN (w := W) n).block _ (heap_lt HR.out)).trans HR.out
    by_cases hlt : j < l.length
    case pos =>
      have hji : (j : Int) < (l.length : Int) := by omega
      have HGK : Hid (l.length - j - 1 < gk ∧ j + 1 + (l.length - j - 1) = l.length) := by show _ ∧ _; omega
      obtain ⟨b, o, rfl, p0, p1, p2, p3⟩ := Zp_at HA.out hlt
      clear hgk
      cases j with
      | zero =>
        have hdec : decide ((0 : Int) < ((0 : Nat) : Int)) = false := by simp
        have hdec2 : ¬ (0 : Int) < ((0 : Nat) : Int) := by simp
        clear p0 p1 p2 p3 hRn
        go_wp2_with fail
        go_quiet (fail)
        go_wp2_with fail
        go_roundg (l.length - 0 - 1)
        case measure => exact HGK.out.1
        case rel => exact ⟨0 + 1, HGK.out.2, by go_num, rfl, n + nq, by simp⟩
      | succ j =>
        obtain ⟨b', o', e, r0, r1, r2, r3⟩ := Zp_at HA.out (j := j) (by omega)
        injection e with e
        injection e with e1 e2
        subst e1 e2
        have hst := monU_step hm hlt
        have hsub : ((j + 1 : Nat) : Int) - 1 = (j : Int) := by omega
        have hpos : (0 : Int) < ((j + 1 : Nat) : Int) := by omega
        have hjl : (j : Int) < (l.length : Int) := by omega
        have HNo := Lib.hid (fun (h : monU l (j + 1 + 1) = false) => pl_no (l := l) (by rw [plOk, monB, monU_no h (by omega), Bool.and_false]))
        clear p0 p1 p3 r0 r1 r3
        generalize l[j + 1].2.2.1 = y at *
        generalize l[j].2.2.1 = x at *
        by_cases hxy : y < x
        · have HE := Lib.hid (HNo.out (by rw [hst]; simpa using hxy))
          clear HNo hst hm hRn
          go_wp2_with fail
          go_quiet (fail)
          have hRn := ((gDrewN (w := W) (n + nq)).block _ (heap_lt HR.out)).trans HR.out
          go_wp2_with fail
          exact ret_ls3 rfl w.heap.size 0 0 0 (.slice none 0 0) (.bool false) rfl rfl rfl (ls_stored hRn _ _ _) rfl ⟨.slice none 0 0, by rw [HE.out.1, HE.out.2.2], by rw [HE.out.2.1]; exact OwnR.nil _ _, below_ls (below_more HB.out (gDrewN _)) (Nat.le_refl _) _ _ _⟩
        · have HM2 : Hid (monU l (j + 1 + 1) = true) := by show _ = _; rw [hst]; simp; omega
          clear HNo hst hm hRn
          go_wp2_with fail
          go_quiet (fail)
          go_wp2_with fail
          go_roundg (l.length - (j + 1) - 1)
          case measure => exact HGK.out.1
          case rel => exact ⟨j + 1 + 1, HGK.out.2, by go_num, HM2.out, n + nq, by simp⟩
    obtain rfl : j = l.length := by omega
    have hji : ¬ (l.length : Int) < (l.length : Int) := by omega
    have HE := Lib.hid (pl_yes (l := l) (by rw [plOk, monB, hm]; simp [h40]))
    have HBn := Lib.hid (below_more HB.out (gDrewN (w := W) n))
    have HAn := Lib.hid (HA.out.below (gDrewN (w := W) n))
    have HRn := Lib.hid hRn
    clear hm hgk hlt hRn HR HB HA hW
    generalize W.drewN n = V at *
    have hVl := heap_lt HRn.out
    obtain ⟨X, hX⟩ : ∃ X, V.alloc (.cells #[.int .i64 0, .int .i64 0, .int .i64 0] 26) = X := ⟨_, rfl⟩
    obtain ⟨D, hD⟩ : ∃ D, V.heap.size = D := ⟨_, rfl⟩
    have HI : Hid (Pz12 w X D (0, 0, 0) (.slice none 0 0) []) := by
      rw [← hX, ← hD]
      exact ⟨heap_alloc_new _ _, OwnR.nil _ _, fun q h => by (cases h), (heap_alloc_old _ _ _ hVl).trans HRn.out, below_more HBn.out (gAlloc _ _), hVl⟩
    clear HAn HBn HRn hVl
    go_wp2_with fail
    clear hX hD
    go_loopg [39, 7] l.length (fun gk i d wr => ∃ j : Nat, j + gk = l.length ∧ i = .int .i64 j ∧ Pz12 w wr D (plT (l.take j)) d (plS (0, 0, 0) (l.take j)))
    case atStart => exact ⟨0, by omega, rfl, HI.out⟩
    case round =>
      obtain ⟨j, hgk, rfl, hP⟩ := hrel
      by_cases hlt : j < l.length
      case neg =>
        obtain rfl : j = l.length := by omega
        have hji : ¬ (l.length : Int) < (l.length : Int) := by omega
        rw [List.take_of_length_le (Nat.le_refl _)] at hP
        obtain ⟨⟨ta, tu, tq⟩, hT⟩ : ∃ t, plT l = t := ⟨_, rfl⟩
        rw [hT] at hP
        have HT := Lib.hid hT
        have HP := Lib.hid hP
        have x0 : wr.cell? ⟨D, 0, none⟩ = some (.int .i64 ta) := cell_of_row _ _ 0 _ _ _ hP.box
        have x1 : wr.cell? ⟨D, 1, none⟩ = some (.int .i64 tu) := cell_of_row _ _ 1 _ _ _ hP.box
        have x2 : wr.cell? ⟨D, 2, none⟩ = some (.int .i64 tq) := cell_of_row _ _ 2 _ _ _ hP.box
        have b0 := cell_of_row wr _ 0 _ _ _ hP.res
        have b1 := cell_of_row wr _ 1 _ _ _ hP.res
        have b2 := cell_of_row wr _ 2 _ _ _ hP.res
        have f0 := frozen_of_row wr _ 0 _ _ hP.res
        have f1 := frozen_of_row wr _ 1 _ _ hP.res
        have f2 := frozen_of_row wr _ 2 _ _ hP.res
        clear hP hT HI hgk hlt
        go_wp2_with fail
        refine ret_ls3 rfl w.heap.size ta tu tq u7 (.bool true) rfl rfl rfl (ls_stored HP.out.res _ _ _) rfl ⟨u7, by rw [HE.out.1, HE.out.2.2, HT.out], ?_, below_ls HP.out.bel (Nat.le_refl _) _ _ _⟩
        rw [HE.out.2.1]
        refine (HP.out.all.kept (gLs wr w.heap.size _ _ _) ?_).lower (by omega)
        cases hq : u7.ownBlock with
        | none => exact Or.inl rfl
        | some q => exact Or.inr (by intro e; injection e with e; have := (HP.out.all.lt q hq).1; omega)
      have hji : (j : Int) < (l.length : Int) := by omega
      have hgood := plT_good (l.take j)
      have hbl := plS_len (l.take j) (0, 0, 0)
      rw [List.length_take] at hbl
      have HG1 := Lib.hid (plT_snoc hlt)
      have HD1 := Lib.hid (plS_snoc hlt)
      obtain ⟨b, o, rfl, q0, q1, q2, q3⟩ := Zp_at (HA0.out.below hP.bel) hlt
      obtain ⟨⟨k, wh, nw, lg⟩, hx⟩ : ∃ x, l[j] = x := ⟨_, rfl⟩
      rw [hx] at q0 q1 q2 q3 HG1 HD1
      obtain ⟨⟨ta, tu, tq⟩, hT⟩ : ∃ t, plT (l.take j) = t := ⟨_, rfl⟩
      obtain ⟨bs, hbs⟩ : ∃ x, plS (0, 0, 0) (l.take j) = x := ⟨_, rfl⟩
      rw [hT] at hP hgood HG1 HD1
      rw [hbs] at hP hbl HD1
      have hbs40 : bs.length ≤ 40 := by omega
      clear hx hT hbs hbl HI
      have HP := Lib.hid hP
      have HGK : Hid (l.length - j - 1 < gk ∧ j + 1 + (l.length - j - 1) = l.length) := by show _ ∧ _; omega
      clear hP hgk
      obtain ⟨wg, hwg⟩ : ∃ wg, wr.alloc (.cells #[.int .i64 k, .int .i64 wh, .int .i64 nw, .int .i64 lg] 34) = wg := ⟨_, rfl⟩
      have hbg : Below wr.heap.size wr wg := by rw [← hwg]; exact gAlloc _ _
      have HPg := Lib.hid (HP.out.on hbg)
      have HSt := Lib.hid (sStep12 ta tu tq k wh nw lg wg hgood)
      have y0 : wg.cell? ⟨D, 0, none⟩ = some (.int .i64 ta) := cell_of_row _ _ 0 _ _ _ HPg.out.box
      have y1 : wg.cell? ⟨D, 1, none⟩ = some (.int .i64 tu) := cell_of_row _ _ 1 _ _ _ HPg.out.box
      have y2 : wg.cell? ⟨D, 2, none⟩ = some (.int .i64 tq) := cell_of_row _ _ 2 _ _ _ HPg.out.box
      have G2 : wg.heap[wr.heap.size]? = some (.cells #[.int .i64 k, .int .i64 wh, .int .i64 nw, .int .i64 lg] 34 (0, 0)) := by rw [← hwg]; exact heap_alloc_new _ _
      have v0 : wg.cell? ⟨wr.heap.size, 0, none⟩ = some (.int .i64 k) := cell_of_row _ _ 0 _ _ _ G2
      have v1 : wg.cell? ⟨wr.heap.size, 1, none⟩ = some (.int .i64 wh) := cell_of_row _ _ 1 _ _ _ G2
      have v2 : wg.cell? ⟨wr.heap.size, 2, none⟩ = some (.int .i64 nw) := cell_of_row _ _ 2 _ _ _ G2
      have v3 : wg.cell? ⟨wr.heap.size, 3, none⟩ = some (.int .i64 lg) := cell_of_row _ _ 3 _ _ _ G2
      clear hbg HP G2 hgood
      have HE2 : Hid (plT (l.take (j + 1)) = lzL ta tu tq k wh nw lg ∧ plS (0, 0, 0) (l.take (j + 1)) = bs ++ [lzL ta tu tq k wh nw lg]) := ⟨HG1.out, HD1.out⟩
      clear HG1 HD1
      obtain ⟨⟨na, nu, nq⟩, hN⟩ : ∃ T, lzL ta tu tq k wh nw lg = T := ⟨_, rfl⟩
      rw [hN] at HE2 HSt
      generalize lzOk ta tu tq k wh nw lg = ok at *
      clear hN
      go_wp2_with fail
      refine HSt.out.mono ?_
      clear HSt hwg q0 q1 q2 q3 y0 y1 y2 v0 v1 v2 v3
      rintro e w2 ⟨rfl, hb2⟩
      have HP2 := Lib.hid (HPg.out.on hb2)
      have f0 := frozen_of_row w2 _ 0 _ _ HP2.out.box
      have f1 := frozen_of_row w2 _ 1 _ _ HP2.out.box
      have f2 := frozen_of_row w2 _ 2 _ _ HP2.out.box
      have c0 := cell_of_row w2 _ 0 _ _ _ HP2.out.box
      have c1 := cell_of_row w2 _ 1 _ _ _ HP2.out.box
      have c2 := cell_of_row w2 _ 2 _ _ _ HP2.out.box
      have HP3 := Lib.hid (HP2.out.put (na, nu, nq))
      obtain ⟨w3, hw3⟩ : ∃ w3, (((w2.setCell ⟨D, 0, none⟩ (.int .i64 na)).setCell ⟨D, 1, none⟩ (.int .i64 nu)).setCell ⟨D, 2, none⟩ (.int .i64 nq)) = w3 := ⟨_, rfl⟩
      have HP4 : Hid (Pz12 w w3 D (na, nu, nq) u7 bs) := by rw [← hw3]; exact HP3.out
      have t0 : w3.cell? ⟨D, 0, none⟩ = some (.int .i64 na) := cell_of_row _ _ 0 _ _ _ HP4.out.box
      have t1 : w3.cell? ⟨D, 1, none⟩ = some (.int .i64 nu) := cell_of_row _ _ 1 _ _ _ HP4.out.box
      have t2 : w3.cell? ⟨D, 2, none⟩ = some (.int .i64 nq) := cell_of_row _ _ 2 _ _ _ HP4.out.box
      clear HP3
      go_wp2_with (at_builtin; go_loud (refine app_Za w3 (w.heap.size + 1) _ bs (na, nu, nq) w3.heap.size rfl rfl _ _ rfl rfl rfl HP4.out.all (by have := HP4.out.lt; have := heap_lt HP4.out.box; omega) (by omega) w3 (Below.refl _ _) ?_; intro d' w4 J))
      go_roundg (l.length - j - 1)
      case measure => exact HGK.out.1
      case rel => exact ⟨j + 1, HGK.out.2, by go_num, by rw [HE2.out.1, HE2.out.2]; exact HP4.out.app J.out⟩
end Go.Proofs.Ythmnenejfonfgaa
