/-
  The model of chapter 11: PlayGiver.
-/
import Derived.Test.YtbegikjoialahaaGX
namespace Go.Proofs.Ytbegikjoialahaa
open Go.RowKit

abbrev fB1 (b : Bool) : List Value := [.bool b]
theorem fB1_len : ∀ x, (fB1 x).length = 1 := fun _ => rfl
theorem fB1_one : ∀ x, ∀ u ∈ fB1 x, u.oneCell' = true := fun x u hu => by simp at hu; subst hu; rfl
theorem fB1_map (bs : List Bool) : bs.flatMap fB1 = bs.map Value.bool := by
  induction bs with
  | nil => rfl
  | cons x L ih => rw [List.flatMap_cons, ih]; rfl
theorem bo_own {w : World} {base : Nat} {v : Value} {bs : List Bool} (h : OwnR 4 1 fB1 w base v bs) : OwnT w base v bs := by
  have h' : w.ownsRow base 4 1 v bs.length (bs.flatMap fB1) := h
  rw [fB1_map] at h'
  exact h'
theorem own_bo {w : World} {base : Nat} {v : Value} {bs : List Bool} (h : OwnT w base v bs) : OwnR 4 1 fB1 w base v bs := by
  show w.ownsRow base 4 1 v bs.length (bs.flatMap fB1)
  rw [fB1_map]
  exact h
theorem boI9 : (Try.prog.info? 4).map (fun i => (i.zero, i.size, i.bytes)) = some (some (.bool false), 1, 1) := by kernel_rfl
/-- One truth value appended to a slice of the call's own; where the slice then lies. -/
theorem app_BL {ops : Array Oper} {rest : List Oper} {o : Oper} {a : Act} {Q : Exit → Act → World → Prop} (W : World) (base : Nat) (v : Value) (L : List Bool) (z : Bool) (Bn : Nat) (hBn : Bn = W.heap.size) (hgd : o.guard = none) (s x : Operand)
    (ho : o.op = .call { callee := .builtin .append, args := #[s, x], argTypes := #[28, 28] }) (hs : a.eval s = v) (hx : a.eval x = .slice (some ⟨Bn, 0, none⟩) 1 1)
    (hown : OwnT W base v L) (hbase : base ≤ W.heap.size) (hlen : L.length ≤ 2000000) (w0 : World) (hb : Below base w0 W)
    (h : ∀ v' w', Hid (OwnT w' base v' (L ++ [z]) ∧ Below base w0 w' ∧ (W.alloc (.cells #[.bool z] 4)).grownBy w' v.ownBlock ∧ (v'.ownBlock = v.ownBlock ∨ v'.ownBlock = some (W.heap.size + 1))) → wpList Try.prog ops Q rest (a.put o.dst v') w') :
    wpList Try.prog ops Q (o :: rest) a (W.alloc (.cells #[.bool z] 4)) := by
  obtain ⟨i0, hi, hz0, hz1, hz2⟩ := info_parts boI9
  exact app_rowL fB1_len (by decide) fB1_one Try.underlying28 hi hz0 hz1 hz2 rfl (by decide) W base v L z Bn hBn hgd s x ho hs hx (own_bo hown) hbase hlen w0 hb (fun v' w' H => h v' w' ⟨bo_own H.out.1, H.out.2⟩)

/-- An allocator: next, asked, sure, given. -/
abbrev Gvr := Int × Int × Int × List Int
def stG (g : Gvr) (x : Idc) : Gvr := (stN g.1 g.2.1 g.2.2.1 g.2.2.2 x.1 x.2, stA g.1 g.2.1 g.2.2.1 g.2.2.2 x.1 x.2, stS g.1 g.2.1 g.2.2.1 g.2.2.2 x.1 x.2, stZ g.1 g.2.2.1 g.2.2.2 x.1 x.2)
def stGok (g : Gvr) (x : Idc) : Bool := stOkB g.1 g.2.2.1 g.2.2.2 x.1 x.2
def goodG (g : Gvr) : Bool := goodGB g.1 g.2.1 g.2.2.1 g.2.2.2
theorem stG_good {g : Gvr} (x : Idc) (h : goodG g = true) : goodG (stG g x) = true := st_good x.1 x.2 h
theorem stG_no {g : Gvr} {x : Idc} (h : stGok g x = false) : stG g x = g := by
  obtain ⟨n, a, s, zs⟩ := g
  simp only [stGok, stOkB, Bool.or_eq_false_iff, decide_eq_false_iff_not] at h
  obtain ⟨e1, e2, e3, e4, -⟩ := st_none (n := n) (a := a) (s := s) (zs := zs) h.1 h.2.1 h.2.2
  simp only [stG, e1, e2, e3, e4]
def pgG (l : List Idc) : Gvr := l.foldl stG (1, 4, 0, [])
def pgD (g : Gvr) : List Idc → List Bool
  | [] => []
  | x :: r => stGok g x :: pgD (stG g x) r
theorem pgG_snoc {l : List Idc} {j : Nat} (hj : j < l.length) : pgG (l.take (j + 1)) = stG (pgG (l.take j)) l[j] := by
  rw [pgG, List.take_succ_eq_append_getElem hj, List.foldl_append]; rfl
theorem pgD_app (x : Idc) : ∀ (L : List Idc) (g : Gvr), pgD g (L ++ [x]) = pgD g L ++ [stGok (L.foldl stG g) x]
  | [], _ => rfl
  | y :: L, g => by
    show stGok g y :: pgD (stG g y) (L ++ [x]) = _
    rw [pgD_app x L]; rfl
theorem pgD_snoc {l : List Idc} {j : Nat} (hj : j < l.length) : pgD (1, 4, 0, []) (l.take (j + 1)) = pgD (1, 4, 0, []) (l.take j) ++ [stGok (pgG (l.take j)) l[j]] := by
  rw [List.take_succ_eq_append_getElem hj, pgD_app]; rfl
theorem pgD_len : ∀ (L : List Idc) (g : Gvr), (pgD g L).length = L.length
  | [], _ => rfl
  | x :: L, g => by rw [pgD, List.length_cons, pgD_len L, List.length_cons]
theorem fold_good : ∀ (L : List Idc) (g : Gvr), goodG g = true → goodG (L.foldl stG g) = true
  | [], _, h => h
  | x :: L, g, h => fold_good L (stG g x) (stG_good x h)
theorem pg_good (L : List Idc) : goodG (pgG L) = true := fold_good L _ (by decide)
/-- What PlayGiver answers. -/
def pyG (l : List Idc) : Gvr := if l.length ≤ 40 then pgG l else (0, 0, 0, [])
def pyD (l : List Idc) : List Bool := if l.length ≤ 40 then pgD (1, 4, 0, []) l else []

theorem results_gv3 {fn : Func} {a b c : Tmp} (h : fn.results = #[.cell a 27, .tmp b, .tmp c]) (tmps : Array Value) (P : Program) (w : World) (g : Nat) (cs : Array Value) (hp : tmps.getD a undef = .pointer (some ⟨g, 0, none⟩)) (hl : (loadVar 27 ⟨g, 0, none⟩).run P w = .ok (.agg cs) w) :
    (results fn tmps).run P w = .ok (.tuple #[.agg cs, tmps.getD b undef, tmps.getD c undef]) w := by
  have hp' : tmps[a]?.getD undef = .pointer (some ⟨g, 0, none⟩) := by simpa using hp
  simp [results, h, hp', asAddr, hl]
theorem ret_gv3 {fn : Func} {p q r : Tmp} (h : fn.results = #[.cell p 27, .tmp q, .tmp r]) {R : Ending → World → Prop} {c : Act} {w : World} (g : Nat) (n a s : Int) (v x y : Value) (hp : c.tmps.getD p undef = .pointer (some ⟨g, 0, none⟩)) (hu : c.tmps.getD q undef = x) (hr : c.tmps.getD r undef = y)
    (hg : w.heap[g]? = some (.cells #[.int .i64 n, .int .i64 a, .int .i64 s, v] 27 (0, 0))) (hd : c.defers = []) (hR : R (.returned (.tuple #[gvV n a s v, x, y])) w) : bodyPost Try.prog fn R .ret c w := by
  subst hu hr
  exact bodyPost_ret (results_gv3 h _ _ _ g _ hp (by simp [run_loadVar_row w g 27 27 #[.int .i64 n, .int .i64 a, .int .i64 s, v] (0, 0) _ hg Try.underlying27 rfl infoGv])) hd hR

/-- What lies ready between two steps: the allocator in block D, what was done, the answer's box. -/
structure Pl11 (w wr : World) (D : Nat) (g : Gvr) (v d : Value) (bs : List Bool) : Prop where
  box : wr.heap[D]? = some (.cells #[.int .i64 g.1, .int .i64 g.2.1, .int .i64 g.2.2.1, v] 27 (0, 0))
  own : Own wr (w.heap.size + 1) v g.2.2.2
  did : OwnT wr (w.heap.size + 1) d bs
  off : ∀ q, v.ownBlock = some q → q ≠ D ∧ d.ownBlock ≠ some q
  off2 : ∀ q, d.ownBlock = some q → q ≠ D
  res : wr.heap[w.heap.size]? = some (.cells #[.int .i64 0, .int .i64 0, .int .i64 0, .slice none 0 0] 27 (0, 0))
  bel : Below w.heap.size w wr
  lt : w.heap.size < D
theorem Pl11.on {w wr w2 : World} {D : Nat} {g : Gvr} {v d : Value} {bs : List Bool} (h : Pl11 w wr D g v d bs) (hb : Below wr.heap.size wr w2) : Pl11 w w2 D g v d bs :=
  ⟨(hb.block _ (heap_lt h.box)).trans h.box, h.own.below hb, h.did.below hb, h.off, h.off2, (hb.block _ (heap_lt h.res)).trans h.res, below_more h.bel hb, h.lt⟩
theorem Pl11.put {w w2 : World} {D : Nat} {g g' : Gvr} {v v' d : Value} {bs : List Bool} (h : Pl11 w w2 D g v d bs) (ho : Own w2 (w.heap.size + 1) v' g'.2.2.2) (hv : ∀ q, v'.ownBlock = some q → q ≠ D ∧ d.ownBlock ≠ some q) :
    Pl11 w ((((w2.setCell ⟨D, 0, none⟩ (.int .i64 g'.1)).setCell ⟨D, 1, none⟩ (.int .i64 g'.2.1)).setCell ⟨D, 2, none⟩ (.int .i64 g'.2.2.1)).setCell ⟨D, 3, none⟩ v') D g' v' d bs :=
  ⟨gv_stored rfl h.box _ _ _ _, ho.kept (gGv w2 D _ _ _ _) (by
    cases hq : v'.ownBlock with
    | none => exact Or.inl rfl
    | some q => exact Or.inr (by intro e; injection e with e; exact (hv q hq).1 e)), h.did.kept (gGv w2 D _ _ _ _) (by
    cases hq : d.ownBlock with
    | none => exact Or.inl rfl
    | some q => exact Or.inr (by intro e; injection e with e; exact h.off2 q hq e)), hv, h.off2, ((gGv w2 D _ _ _ _).block _ (heap_lt h.res) (by have := h.lt; intro e; injection e with e; omega)).trans h.res, below_gv h.bel (Nat.le_of_lt h.lt) _ _ _ _, h.lt⟩
theorem Pl11.app {w wr w' : World} {D : Nat} {g : Gvr} {v d d' : Value} {bs : List Bool} {z : Bool} {o : Obj} (h : Pl11 w wr D g v d bs)
    (J : OwnT w' (w.heap.size + 1) d' (bs ++ [z]) ∧ Below (w.heap.size + 1) wr w' ∧ (wr.alloc o).grownBy w' d.ownBlock ∧ (d'.ownBlock = d.ownBlock ∨ d'.ownBlock = some (wr.heap.size + 1))) : Pl11 w w' D g v d' (bs ++ [z]) := by
  have hD := heap_lt h.box
  have hr := heap_lt h.res
  have hal : ∀ k, k < wr.heap.size → some k ≠ d.ownBlock → w'.heap[k]? = wr.heap[k]? := fun k hk hne => (J.2.2.1.block k (by rw [World.heap_size_alloc9]; omega) hne).trans (heap_alloc_old _ _ _ hk)
  refine ⟨(hal _ hD (fun e => h.off2 _ e.symm rfl)).trans h.box, (h.own.below (gAlloc wr o)).kept J.2.2.1 ?_, J.1, fun q hq => ⟨(h.off q hq).1, ?_⟩, fun q hq => ?_, (hal _ hr (fun e => by have := (h.did.lt _ e.symm).1; omega)).trans h.res, h.bel.trans (J.2.1.mono (by omega)), h.lt⟩
  · cases hq : v.ownBlock with
    | none => exact Or.inl rfl
    | some q => exact Or.inr (fun e => (h.off q hq).2 e.symm)
  · rcases J.2.2.2 with e | e
    · rw [e]; exact (h.off q hq).2
    · rw [e]; intro e2; injection e2 with e2; have := (h.own.lt q hq).2; omega
  · rcases J.2.2.2 with e | e
    · exact h.off2 q (e ▸ hq)
    · rw [e] at hq; injection hq with hq; omega
theorem sNewGv' (w : World) : Calls Try.prog 21 #[] w fun e w' => e = .returned (gvV 1 4 0 (.slice none 0 0)) ∧ Below w.heap.size w w' := sNewGv w

set_option maxRecDepth 100000 in
set_option maxHeartbeats 4000000 in
theorem sPlayG (A : Option Addr) (l : List Idc) (ca : Nat) (w : World) (ha : RdR 2 fId w A l) (hl : l.length ≤ 1048576) :
    Calls Try.prog 13 #[.slice A l.length ca] w fun e w' => ∃ v d, e = .returned (.tuple #[gvV (pyG l).1 (pyG l).2.1 (pyG l).2.2.1 v, d, .bool (decide (l.length ≤ 40))]) ∧ Own w' w.heap.size v (pyG l).2.2.2 ∧ OwnT w' w.heap.size d (pyD l) ∧ (∀ q, v.ownBlock = some q → d.ownBlock ≠ some q) ∧ Below w.heap.size w w' := by
  by_cases h40 : l.length ≤ 40
  case neg =>
    have hi : ¬ (l.length : Int) ≤ 40 := by omega
    have hi2 : (40 : Int) < (l.length : Int) := by omega
    have HE : Hid (pyG l = (0, 0, 0, []) ∧ pyD l = [] ∧ decide (l.length ≤ 40) = false) := ⟨by rw [pyG, if_neg h40], by rw [pyD, if_neg h40], by simp [h40]⟩
    rw [HE.out.1, HE.out.2.1, HE.out.2.2]
    clear h40
    go_enter Try.func13, Try.ntmps13
    go_wp2_with fail
    exact ret_gv3 rfl w.heap.size 0 0 0 _ _ _ rfl rfl rfl (heap_alloc_new _ _) rfl ⟨.slice none 0 0, .slice none 0 0, rfl, Own.nil _ _, OwnT.nil _ _, fun q h => by (cases h), gAlloc _ _⟩
  have hi : (l.length : Int) ≤ 40 := by omega
  have HE : Hid (pyG l = pgG l ∧ pyD l = pgD (1, 4, 0, []) l ∧ decide (l.length ≤ 40) = true) := ⟨by rw [pyG, if_pos h40], by rw [pyD, if_pos h40], by simp [h40]⟩
  rw [HE.out.1, HE.out.2.1, HE.out.2.2]
  have HA := Lib.hid ha
  clear ha
  go_enter Try.func13, Try.ntmps13
  go_wp2_with fail
  refine (sNewGv _).mono ?_
  rintro e w1 ⟨rfl, hb1⟩
  have HI : Hid (Pl11 w (w1.alloc (.cells #[.int .i64 1, .int .i64 4, .int .i64 0, .slice none 0 0] 27)) w1.heap.size (1, 4, 0, []) (.slice none 0 0) (.slice none 0 0) []) := by
    have hs1 := hb1.size
    rw [World.heap_size_alloc9] at hs1
    refine ⟨heap_alloc_new _ _, Own.nil _ _, OwnT.nil _ _, fun q h => by (cases h), fun q h => by (cases h), ?_, ?_, by omega⟩
    · rw [heap_alloc_old _ _ _ (by omega)]
      exact (hb1.block _ (by rw [World.heap_size_alloc9]; omega)).trans (heap_alloc_new _ _)
    · exact below_more (below_more (gAlloc _ _) hb1) (gAlloc _ _)
  clear hb1
  go_wp2_with fail
  obtain ⟨W, hW⟩ : ∃ W, w1.alloc (.cells #[.int .i64 1, .int .i64 4, .int .i64 0, .slice none 0 0] 27) = W := ⟨_, rfl⟩
  rw [hW] at HI ⊢
  clear hW
  obtain ⟨D, hD⟩ : ∃ D, w1.heap.size = D := ⟨_, rfl⟩
  rw [hD] at HI ⊢
  clear hD
  go_loopg [18, 6] l.length (fun gk i d wr => ∃ j : Nat, j + gk = l.length ∧ i = .int .i64 j ∧ ∃ v, Pl11 w wr D (pgG (l.take j)) v d (pgD (1, 4, 0, []) (l.take j)))
  case atStart => exact ⟨0, by omega, rfl, _, HI.out⟩
  case round =>
    obtain ⟨j, hgk, rfl, v, hP⟩ := hrel
    by_cases hlt : j < l.length
    case neg =>
      obtain rfl : j = l.length := by omega
      have hji : ¬ (l.length : Int) < (l.length : Int) := by omega
      rw [List.take_of_length_le (Nat.le_refl _)] at hP
      have hgood := pg_good l
      obtain ⟨⟨n, a, s, zs⟩, hG⟩ : ∃ g, pgG l = g := ⟨_, rfl⟩
      rw [hG] at hP hgood
      have HG := Lib.hid hG
      have hz60 : zs.length ≤ 60 := (gvr_ok hgood).2.2.2.2.2
      obtain ⟨B, c, rfl, -⟩ := hP.own.form
      have HP := Lib.hid hP
      have x0 : wr.cell? ⟨D, 0, none⟩ = some (.int .i64 n) := cell_of_row _ _ 0 _ _ _ hP.box
      have x1 : wr.cell? ⟨D, 1, none⟩ = some (.int .i64 a) := cell_of_row _ _ 1 _ _ _ hP.box
      have x2 : wr.cell? ⟨D, 2, none⟩ = some (.int .i64 s) := cell_of_row _ _ 2 _ _ _ hP.box
      have x3 : wr.cell? ⟨D, 3, none⟩ = some (.slice B zs.length c) := cell_of_row _ _ 3 _ _ _ hP.box
      have HO := Lib.hid (sOwn11' n a s B zs c wr (own_ints hP.own) (own9_lies hP.own) (by omega))
      clear hP hgood hG HI hgk hlt
      go_wp2_with (go_at_call 44; refine HO.out.mono ?_; rintro e w3 ⟨B3, c3, rfl, ho3, hb3⟩; have K := (hb3.block _ (heap_lt HP.out.res)).trans HP.out.res; have a0 := cell_of_row w3 _ 0 _ _ _ K; have a1 := cell_of_row w3 _ 1 _ _ _ K; have a2 := cell_of_row w3 _ 2 _ _ _ K; have a3 := cell_of_row w3 _ 3 _ _ _ K; have e0 := frozen_of_row w3 _ 0 _ _ K; have e1 := frozen_of_row w3 _ 1 _ _ K; have e2 := frozen_of_row w3 _ 2 _ _ K; have e3 := frozen_of_row w3 _ 3 _ _ K)
      have hwr := HP.out.bel.size
      have hrl := heap_lt HP.out.res
      refine ret_gv3 rfl w.heap.size n a s _ u6 (.bool true) rfl rfl rfl (gv_stored rfl K _ _ _ _) rfl ⟨.slice B3 zs.length c3, u6, by rw [HG.out], by rw [HG.out]; exact (own_off ho3 _ _ _ _ (fun g hg => by have := (ho3.lt g hg).1; omega)).lower hwr, ?_, ?_, below_gv (below_more HP.out.bel hb3) (Nat.le_refl _) _ _ _ _⟩
      · refine ((HP.out.did.below hb3).kept (gGv w3 w.heap.size _ _ _ _) ?_).lower (by omega)
        cases hq : u6.ownBlock with
        | none => exact Or.inl rfl
        | some q => exact Or.inr (by intro e; injection e with e; have := (HP.out.did.lt q hq).1; omega)
      · intro q hq e
        have := (ho3.lt q hq).1
        have := (HP.out.did.lt q e).2
        omega
    have hji : (j : Int) < (l.length : Int) := by omega
    have hgood := pg_good (l.take j)
    have hbl := pgD_len (l.take j) (1, 4, 0, [])
    have HG1 := Lib.hid (pgG_snoc hlt)
    have HD1 := Lib.hid (pgD_snoc hlt)
    obtain ⟨b, o, rfl, q0, q1⟩ := Id_at (HA.out.below hP.bel) hlt
    obtain ⟨⟨k, p⟩, hx⟩ : ∃ x, l[j] = x := ⟨_, rfl⟩
    rw [hx] at q0 q1 HG1 HD1
    obtain ⟨⟨n, a, s, zs⟩, hG⟩ : ∃ g, pgG (l.take j) = g := ⟨_, rfl⟩
    obtain ⟨bs, hbs⟩ : ∃ x, pgD (1, 4, 0, []) (l.take j) = x := ⟨_, rfl⟩
    rw [hG] at hP hgood HG1 HD1
    rw [hbs] at hP hbl HD1
    rw [List.length_take] at hbl
    have hbs40 : bs.length ≤ 40 := by omega
    clear hx hG hbs hbl HI
    have hz60 : zs.length ≤ 60 := (gvr_ok hgood).2.2.2.2.2
    have hZ60 : (stZ n s zs k p).length ≤ 60 := (gvr_ok (st_good k p hgood)).2.2.2.2.2
    obtain ⟨B, c, rfl, -⟩ := hP.own.form
    have HP := Lib.hid hP
    have hDl := heap_lt hP.box
    have HSt := Lib.hid (fun (B1 : Option Addr) (c1 base : Nat) (w' : World) (h1 : Own w' base (.slice B1 zs.length c1) zs) (h2 : base ≤ w'.heap.size) => sStep11' n a s B1 zs c1 k p base w' h1 h2 hgood)
    have HNo : Hid (stOkB n s zs k p = false → stG (n, a, s, zs) (k, p) = (n, a, s, zs)) := fun h => stG_no h
    have HGE : Hid (pgG (l.take (j + 1)) = (stN n a s zs k p, stA n a s zs k p, stS n a s zs k p, stZ n s zs k p) ∧ pgD (1, 4, 0, []) (l.take (j + 1)) = bs ++ [stOkB n s zs k p]) := ⟨HG1.out, HD1.out⟩
    have HNE : Hid (stOkB n s zs k p = false → (stN n a s zs k p, stA n a s zs k p, stS n a s zs k p, stZ n s zs k p) = (n, a, s, zs)) := fun h => HNo.out h
    have HGK : Hid (l.length - j - 1 < gk ∧ j + 1 + (l.length - j - 1) = l.length) := by show _ ∧ _; omega
    clear hP hgood HG1 HD1 HNo hgk
    generalize stN n a s zs k p = N at *
    generalize stA n a s zs k p = As at *
    generalize stS n a s zs k p = Su at *
    generalize stZ n s zs k p = Z at *
    generalize stOkB n s zs k p = ok at *
    go_wp2_with fail
    obtain ⟨wg, hwg⟩ : ∃ wg, wr.alloc (.cells #[.int .i64 k, .bool p] 34) = wg := ⟨_, rfl⟩
    have hbg : Below wr.heap.size wr wg := by rw [← hwg]; exact gAlloc _ _
    have hsg : wg.heap.size = wr.heap.size + 1 := by rw [← hwg]; simp
    have G2 : wg.heap[wr.heap.size]? = some (.cells #[.int .i64 k, .bool p] 34 (0, 0)) := by rw [← hwg]; exact heap_alloc_new _ _
    rw [hwg]
    clear hwg q0 q1
    have HPg := Lib.hid (HP.out.on hbg)
    have y0 : wg.cell? ⟨D, 0, none⟩ = some (.int .i64 n) := cell_of_row _ _ 0 _ _ _ HPg.out.box
    have y1 : wg.cell? ⟨D, 1, none⟩ = some (.int .i64 a) := cell_of_row _ _ 1 _ _ _ HPg.out.box
    have y2 : wg.cell? ⟨D, 2, none⟩ = some (.int .i64 s) := cell_of_row _ _ 2 _ _ _ HPg.out.box
    have y3 : wg.cell? ⟨D, 3, none⟩ = some (.slice B zs.length c) := cell_of_row _ _ 3 _ _ _ HPg.out.box
    have v0 : wg.cell? ⟨wr.heap.size, 0, none⟩ = some (.int .i64 k) := cell_of_row _ _ 0 _ _ _ G2
    have v1 : wg.cell? ⟨wr.heap.size, 1, none⟩ = some (.bool p) := cell_of_row _ _ 1 _ _ _ G2
    have HOw : Hid (∀ w', Below wg.heap.size wg w' → Calls Try.prog 44 #[gvV n a s (.slice B zs.length c)] w' fun e w'' => ∃ B1 c1, e = .returned (gvV n a s (.slice B1 zs.length c1)) ∧ Own w'' w'.heap.size (.slice B1 zs.length c1) zs ∧ Below w'.heap.size w' w'') := fun w' h => sOwn11' n a s B zs c w' ((own_ints HPg.out.own).below h) (own9_lies HPg.out.own) (by omega)
    have hXY : ∀ {Z : Nat}, wg.heap.size ≤ Z → D ≠ Z ∧ wr.heap.size ≠ Z := fun h => ⟨by omega, by omega⟩
    have HSg := Lib.hid hsg
    have hq0 : wg.drew.cell? ⟨D, 0, none⟩ = some (.int .i64 n) ∧ wg.drew.cell? ⟨D, 1, none⟩ = some (.int .i64 a) ∧ wg.drew.cell? ⟨D, 2, none⟩ = some (.int .i64 s) ∧ wg.drew.cell? ⟨D, 3, none⟩ = some (.slice B zs.length c) ∧ wg.drew.cell? ⟨wr.heap.size, 0, none⟩ = some (.int .i64 k) ∧ wg.drew.cell? ⟨wr.heap.size, 1, none⟩ = some (.bool p) := six11 gDrew ⟨y0, y1, y2, y3, v0, v1⟩
    have hnc := hXY (Nat.le_refl _)
    clear G2 hbg HP hsg
    apply wp_meet_gv (fun Y B1 c1 B2 c2 w' => w'.heap[Y]? = some (.cells #[.int .i64 N, .int .i64 As, .int .i64 Su, .slice B2 Z.length c2] 27 (0, 0)) ∧ Own w' wg.heap.size (.slice B2 Z.length c2) Z ∧ Below wg.heap.size wg w' ∧ wg.heap.size ≤ Y)
    case hreg =>
      go_region_held3 (fun w' => w'.cell? ⟨D, 0, none⟩ = some (.int .i64 n) ∧ w'.cell? ⟨D, 1, none⟩ = some (.int .i64 a) ∧ w'.cell? ⟨D, 2, none⟩ = some (.int .i64 s) ∧ w'.cell? ⟨D, 3, none⟩ = some (.slice B zs.length c) ∧ w'.cell? ⟨wr.heap.size, 0, none⟩ = some (.int .i64 k) ∧ w'.cell? ⟨wr.heap.size, 1, none⟩ = some (.bool p)) (first | with_reducible exact hq0 | with_reducible exact hq1 | with_reducible exact hq2 | with_reducible exact six11 (gAlloc _ _) hq0 | with_reducible exact six11 (gAlloc _ _) hq1 | with_reducible exact six11 (gAlloc _ _) hq2 | with_reducible exact six_set11 hq2 hnc | with_reducible exact six_set11 hq2 hnd | go_keep) (first
        | (go_at_call 43; have hpre := hB1; clear hpre; refine (HSt.out B1 c1 wg.heap.size _ (by first | exact hO1 | exact hO1.below (gAlloc _ _)) (by first | exact hB1.size | exact (below_more hB1 (gAlloc _ _)).size)).mono ?_; rintro e w2 ⟨B2, c2, rfl, ho2, hb2, hg2, hs2⟩; have hB2 : Below wg.heap.size wg w2 := (by first | exact hB1.trans hb2 | exact (below_more hB1 (gAlloc _ _)).trans hb2); have hq2 : w2.cell? ⟨D, 0, none⟩ = some (.int .i64 n) ∧ w2.cell? ⟨D, 1, none⟩ = some (.int .i64 a) ∧ w2.cell? ⟨D, 2, none⟩ = some (.int .i64 s) ∧ w2.cell? ⟨D, 3, none⟩ = some (.slice B zs.length c) ∧ w2.cell? ⟨wr.heap.size, 0, none⟩ = some (.int .i64 k) ∧ w2.cell? ⟨wr.heap.size, 1, none⟩ = some (.bool p) := six11 hB2 ⟨y0, y1, y2, y3, v0, v1⟩; (try (have hzc : w2.heap[wg.heap.size]? = some (.cells #[.int .i64 0, .int .i64 0, .int .i64 0, .slice none 0 0] 27 (0, 0)) := (hg2.block _ (Nat.lt_of_lt_of_le (heap_lt (alloc_atD11 wg _)) hb1.size) (by intro e; have := (ho1.lt _ e.symm).1; rw [size_atD11] at this; omega)).trans ((hb1.block _ (heap_lt (alloc_atD11 wg _))).trans (alloc_atD11 wg _)); have pc0 := cell_of_row w2 _ 0 _ _ _ hzc; have pc1 := cell_of_row w2 _ 1 _ _ _ hzc; have pc2 := cell_of_row w2 _ 2 _ _ _ hzc; have pc3 := cell_of_row w2 _ 3 _ _ _ hzc; have fc0 := frozen_of_row w2 _ 0 _ _ hzc; have fc1 := frozen_of_row w2 _ 1 _ _ hzc; have fc2 := frozen_of_row w2 _ 2 _ _ hzc; have fc3 := frozen_of_row w2 _ 3 _ _ hzc)); (try (have hzd : w2.heap[w1.heap.size]? = some (.cells #[.int .i64 0, .int .i64 0, .int .i64 0, .slice none 0 0] 27 (0, 0)) := (hg2.block _ (by rw [World.heap_size_alloc9]; exact Nat.lt_succ_self _) (by intro e; have := (ho1.lt _ e.symm).2; omega)).trans (heap_alloc_new _ _); have pd0 := cell_of_row w2 _ 0 _ _ _ hzd; have pd1 := cell_of_row w2 _ 1 _ _ _ hzd; have pd2 := cell_of_row w2 _ 2 _ _ _ hzd; have pd3 := cell_of_row w2 _ 3 _ _ _ hzd; have fd0 := frozen_of_row w2 _ 0 _ _ hzd; have fd1 := frozen_of_row w2 _ 1 _ _ hzd; have fd2 := frozen_of_row w2 _ 2 _ _ hzd; have fd3 := frozen_of_row w2 _ 3 _ _ hzd)))
        | (go_at_call 44; refine (HOw.out _ (by first | exact gDrew | exact below_more (gAlloc _ _) gDrew)).mono ?_; rintro e w1 ⟨B1, c1, rfl, ho1, hb1⟩; have hB1 : Below wg.heap.size wg w1 := (by first | exact below_more gDrew hb1 | exact below_more (below_more (gAlloc _ _) gDrew) hb1); have hO1 := ho1.lower (show wg.heap.size ≤ _ by first | exact (gDrew (w := wg)).size | exact (below_more (gAlloc wg _) gDrew).size); have hq1 : w1.cell? ⟨D, 0, none⟩ = some (.int .i64 n) ∧ w1.cell? ⟨D, 1, none⟩ = some (.int .i64 a) ∧ w1.cell? ⟨D, 2, none⟩ = some (.int .i64 s) ∧ w1.cell? ⟨D, 3, none⟩ = some (.slice B zs.length c) ∧ w1.cell? ⟨wr.heap.size, 0, none⟩ = some (.int .i64 k) ∧ w1.cell? ⟨wr.heap.size, 1, none⟩ = some (.bool p) := six11 hB1 ⟨y0, y1, y2, y3, v0, v1⟩; have hnd := hXY hB1.size))
      all_goals
        first
        | (have HM := gv_stored rfl hzc (.int .i64 N) (.int .i64 As) (.int .i64 Su) (.slice B2 Z.length c2); have HO' := own_off ho2 (Y := wg.heap.size) (.int .i64 N) (.int .i64 As) (.int .i64 Su) (.slice B2 Z.length c2) (fun g hg => (by intro e; rcases hs2 g hg with h | h; (have h4 := (ho1.lt g h).1; rw [size_atD11] at h4; omega); (have h5 := hb1.size; rw [size_atD11] at h5; omega))); have HB' := below_gv hB2 (show wg.heap.size ≤ wg.heap.size by first | exact Nat.le_refl _ | exact hB1.size) (.int .i64 N) (.int .i64 As) (.int .i64 Su) (.slice B2 Z.length c2); have hle : wg.heap.size ≤ wg.heap.size := (by first | exact Nat.le_refl _ | exact hB1.size); obtain ⟨Y, hY⟩ : ∃ Y, wg.heap.size = Y := ⟨_, rfl⟩; rw [hY] at HM hle ⊢; (try rw [hY] at HO'); (try rw [hY] at HB'); exact ⟨rfl, Y, B1, c1, B2, c2, rfl, HM, HO', HB', hle⟩)
        | (have HM := gv_stored rfl hzd (.int .i64 N) (.int .i64 As) (.int .i64 Su) (.slice B2 Z.length c2); have HO' := own_off ho2 (Y := w1.heap.size) (.int .i64 N) (.int .i64 As) (.int .i64 Su) (.slice B2 Z.length c2) (fun g hg => (by intro e; rcases hs2 g hg with h | h; (have h4 := (ho1.lt g h).2; omega); (rw [World.heap_size_alloc9] at h; omega))); have HB' := below_gv hB2 (show wg.heap.size ≤ w1.heap.size by first | exact Nat.le_refl _ | exact hB1.size) (.int .i64 N) (.int .i64 As) (.int .i64 Su) (.slice B2 Z.length c2); have hle : wg.heap.size ≤ w1.heap.size := (by first | exact Nat.le_refl _ | exact hB1.size); obtain ⟨Y, hY⟩ : ∃ Y, w1.heap.size = Y := ⟨_, rfl⟩; rw [hY] at HM hle ⊢; (try rw [hY] at HO'); (try rw [hY] at HB'); exact ⟨rfl, Y, B1, c1, B2, c2, rfl, HM, HO', HB', hle⟩)
        | (have HM : (w2.alloc (.cells #[.int .i64 N, .int .i64 As, .int .i64 Su, .slice B2 Z.length c2] 27)).heap[w2.heap.size]? = some (.cells #[.int .i64 N, .int .i64 As, .int .i64 Su, .slice B2 Z.length c2] 27 (0, 0)) := heap_alloc_new _ _; have HO' := ho2.below (gAlloc w2 (.cells #[.int .i64 N, .int .i64 As, .int .i64 Su, .slice B2 Z.length c2] 27)); have HB' := below_more hB2 (gAlloc w2 (.cells #[.int .i64 N, .int .i64 As, .int .i64 Su, .slice B2 Z.length c2] 27)); have hle : wg.heap.size ≤ w2.heap.size := hB2.size; obtain ⟨Y, hY⟩ : ∃ Y, w2.heap.size = Y := ⟨_, rfl⟩; rw [hY] at HM hle ⊢; (try rw [hY] at HO'); (try rw [hY] at HB'); exact ⟨rfl, Y, B1, c1, B2, c2, rfl, HM, HO', HB', hle⟩)
    case himp =>
      intro Y B1 c1 B2 c2 w2 hR
      obtain ⟨r1, r2, r3, r4⟩ := hR
      have HR := Lib.hid (And.intro r1 (And.intro r2 (And.intro r3 r4)))
      have HP2 := Lib.hid (HPg.out.on r3)
      have p0 : w2.cell? ⟨Y, 0, none⟩ = some (.int .i64 N) := cell_of_row _ _ 0 _ _ _ r1
      have p1 : w2.cell? ⟨Y, 1, none⟩ = some (.int .i64 As) := cell_of_row _ _ 1 _ _ _ r1
      have p2 : w2.cell? ⟨Y, 2, none⟩ = some (.int .i64 Su) := cell_of_row _ _ 2 _ _ _ r1
      have p3 : w2.cell? ⟨Y, 3, none⟩ = some (.slice B2 Z.length c2) := cell_of_row _ _ 3 _ _ _ r1
      have hw2 := r3.size
      clear r1 r2 r3 r4 y0 y1 y2 y3 v0 v1 hq0 hnc hXY HOw HSt
      cases ok
      · have hE := HNE.out rfl
        have HE2 : Hid (pgG (l.take (j + 1)) = (n, a, s, zs) ∧ pgD (1, 4, 0, []) (l.take (j + 1)) = bs ++ [false]) := ⟨HGE.out.1.trans hE, HGE.out.2⟩
        clear hE HNE HGE
        go_wp2_with (at_builtin; refine app_BL w2 (w.heap.size + 1) _ bs false _ rfl rfl _ _ rfl rfl rfl HP2.out.did (by have := HP2.out.lt; have := heap_lt HP2.out.box; omega) (by omega) w2 (Below.refl _ _) ?_; intro d' w4 J)
        go_roundg (l.length - j - 1)
        case measure => exact HGK.out.1
        case rel => exact ⟨j + 1, HGK.out.2, by go_num, _, by rw [HE2.out.1, HE2.out.2]; exact HP2.out.app J.out⟩
      · have HE2 : Hid (pgG (l.take (j + 1)) = (N, As, Su, Z) ∧ pgD (1, 4, 0, []) (l.take (j + 1)) = bs ++ [true]) := HGE.out
        have u0 := cell_of_row w2 _ 0 _ _ _ HP2.out.box
        have u1 := cell_of_row w2 _ 1 _ _ _ HP2.out.box
        have u2 := cell_of_row w2 _ 2 _ _ _ HP2.out.box
        have u3 := cell_of_row w2 _ 3 _ _ _ HP2.out.box
        have f0 := frozen_of_row w2 _ 0 _ _ HP2.out.box
        have f1 := frozen_of_row w2 _ 1 _ _ HP2.out.box
        have f2 := frozen_of_row w2 _ 2 _ _ HP2.out.box
        have f3 := frozen_of_row w2 _ 3 _ _ HP2.out.box
        have HP3 := Lib.hid (HP2.out.put (g' := (N, As, Su, Z)) (v' := .slice B2 Z.length c2) (HR.out.2.1.lower (by have := HP2.out.lt; have := HSg.out; omega)) (fun q hq => ⟨by have := (HR.out.2.1.lt q hq).1; have := HSg.out; omega, fun e => by have := (HR.out.2.1.lt q hq).1; have := (HPg.out.did.lt q e).2; omega⟩))
        clear HNE HGE
        go_wp2_with (at_builtin; refine app_BL ((((w2.setCell ⟨D, 0, none⟩ (.int .i64 N)).setCell ⟨D, 1, none⟩ (.int .i64 As)).setCell ⟨D, 2, none⟩ (.int .i64 Su)).setCell ⟨D, 3, none⟩ (.slice B2 Z.length c2)) (w.heap.size + 1) _ bs true w2.heap.size (by simp) rfl _ _ rfl rfl rfl HP3.out.did (by have := HP2.out.lt; have := heap_lt HP2.out.box; have := (gGv w2 D (.int .i64 N) (.int .i64 As) (.int .i64 Su) (.slice B2 Z.length c2)).size; omega) (by omega) _ (Below.refl _ _) ?_; intro d' w4 J)
        go_roundg (l.length - j - 1)
        case measure => exact HGK.out.1
        case rel => exact ⟨j + 1, HGK.out.2, by go_num, _, by rw [HE2.out.1, HE2.out.2]; exact HP3.out.app J.out⟩
end Go.Proofs.Ytbegikjoialahaa
