/-
  What SpanOf answers, in the program's text and in the model's, at every argument.
-/
import Derived.Test.YtfkojlpihpgnaaaDoorU5
namespace Go.Proofs.YtfkojlpihpgnaaaDoor
open Go.RowKit

set_option maxRecDepth 100000 in
/-- One number appended to a slice of the call's own; the cells that the slice had, and every other block, read on as they read. -/
theorem app_keep {ops : Array Oper} {rest : List Oper} {o : Oper} {a : Act} {Q : Exit → Act → World → Prop} (W : World) (base : Nat) (g cap : Nat) (l : List Nat) (z : Nat) (hgd : o.guard = none) (s x : Operand)
    (ho : o.op = .call { callee := .builtin .append, args := #[s, x], argTypes := #[23, 23] }) (hs : a.eval s = .slice (some ⟨g, 0, none⟩) l.length cap) (hx : a.eval x = .slice (some ⟨W.heap.size, 0, none⟩) 1 1)
    (hown : Own W base (.slice (some ⟨g, 0, none⟩) l.length cap) (zI l)) (hbase : base ≤ W.heap.size) (hlen : l.length ≤ 1000000) (w0 : World) (hb : Below base w0 W)
    (h : ∀ v' w', Hid (Own w' base v' (zI (l ++ [z])) ∧ Below base w0 w' ∧ (W.alloc (.cells #[.int .i64 z] 3)).grownBy w' (some g) ∧ ∀ j, j < l.length → w'.cell? ⟨g, j, none⟩ = W.cell? ⟨g, j, none⟩) → wpList Tryd.prog ops Q rest (a.put o.dst v') w') :
    wpList Tryd.prog ops Q (o :: rest) a (W.alloc (.cells #[.int .i64 z] 3)) := by
  obtain ⟨i0, hi, hz0, hz1, hz2⟩ := info_parts intInfo
  have hrow := (ownRow hown).alloc (.cells #[.int .i64 (z : Int)] 3)
  obtain ⟨v', w', hr, h2, h3, _⟩ := run_append_own (P := Tryd.prog) (W.alloc (.cells #[.int .i64 z] 3)) base 23 o.type 3 i0 (.int .i64 0) 1 8 Tryd.underlying23 hi hz0 hz1 hz2 rfl (by decide) _ _ _ hrow ⟨W.heap.size, 0, none⟩ 1 1 [.int .i64 z] rfl (cell_one_new _ _ _) (by intro u hu; simp at hu; subst hu; rfl) (by unfold maxLen; omega) (by omega) (by simp; omega)
  have hgl : g < W.heap.size := ((ownRow hown).lt g rfl).2
  have hkeep : ∀ j, j < l.length → w'.cell? ⟨g, j, none⟩ = W.cell? ⟨g, j, none⟩ := by
    intro j hj
    rcases hrow.2 with ⟨h0, _⟩ | ⟨g', cap', cur, e, hbg, hg, hnc, hcm, hcs, htake⟩
    · cases h0
    · injection e with e1 e2 e3
      injection e1 with e1
      injection e1 with e1
      subst e1; subst e3
      have hold : W.cell? ⟨g, j, none⟩ = (W.alloc (.cells #[.int .i64 (z : Int)] 3)).cell? ⟨g, j, none⟩ := (World.cell?_alloc_lt W _ ⟨g, j, none⟩ hgl).symm
      rw [hold]
      by_cases hroom : l.length + 1 ≤ cap
      · have hr2 := run_append_room (P := Tryd.prog) (W.alloc (.cells #[.int .i64 (z : Int)] 3)) 23 o.type 3 i0 Tryd.underlying23 hi g l.length cap cur hg ⟨W.heap.size, 0, none⟩ 1 1 [.int .i64 z] (by rw [hz1]; rfl) (cell_one_new _ _ _) (by intro u hu; simp at hu; subst hu; rfl) hroom (by rw [hz1, hcs]; simp; omega)
        have hw := (Result.ok.inj (hr.symm.trans hr2)).2
        rw [hw, cell_setRow_same _ g j cur _ _ _ hg, cell_of_row _ g j cur _ _ hg]
        have hcl : j < cur.size := by rw [hcs]; omega
        rw [hz1]
        simp only [List.getElem?_toArray, Nat.mul_one]
        rw [List.append_assoc, List.getElem?_append_left (by simp; omega), List.getElem?_take_of_lt hj]
        simp
      · have holds : ∀ i u, ((zI l).map (Value.int .i64))[i]? = some u → (W.alloc (.cells #[.int .i64 (z : Int)] 3)).cell? ((⟨g, 0, none⟩ : Addr).add i) = some u := hrow.cells (g := g) rfl
        have hr2 := run_append_grow (P := Tryd.prog) (W.alloc (.cells #[.int .i64 (z : Int)] 3)) 23 o.type 3 i0 (.int .i64 0) Tryd.underlying23 hi hz0 ⟨g, 0, none⟩ l.length cap ((zI l).map (Value.int .i64)) (by rw [hz1]; simp [zI_length]) holds ⟨W.heap.size, 0, none⟩ 1 1 [.int .i64 z] (by rw [hz1]; rfl) (cell_one_new _ _ _) (by omega) (by omega) (growslice_fits (by omega) (by rw [hz2]; omega))
        have hw := (Result.ok.inj (hr.symm.trans hr2)).2
        rw [hw]
        exact World.cell?_alloc_lt _ _ ⟨g, j, none⟩ (by simp; omega)
  refine wpList_plain hgd fun K hK => ?_
  unfold Oper.wp execOp
  simp only [ho, resolve, invoke, builtin, Sem.run_bind, Sem.run_pure, Result.andThen_ok, List.map_toArray, List.map_cons, List.map_nil, hs, hx, hr]
  exact hK _ _ (h v' w' ⟨ownApp h2, app_below hb hbase hown h3, h3, hkeep⟩)

theorem Own.downTo {w : World} {base base' : Nat} {v : Value} {zs : List Int} (h : Own w base v zs) (hb : base' ≤ base) : Own w base' v zs := by
  refine ⟨h.1, ?_⟩
  rcases h.2 with hn | ⟨g, cap, cur, e, hg, r⟩
  · exact Or.inl hn
  · exact Or.inr ⟨g, cap, cur, e, Nat.le_trans hb hg, r⟩

def spanOkB (x : Int) (zs : List Int) : Bool := rowsB x zs && decide (x ≤ 8)
def spanI (x : Int) (zs : List Int) : List Int := if spanOkB x zs = true then zI (spanL x.toNat (nL zs)) else []
theorem spanOk_true {x : Int} {zs : List Int} (h : spanOkB x zs = true) : rowsB x zs = true ∧ x ≤ 8 := by simpa [spanOkB] using h
theorem spanOk_false {x : Int} {zs : List Int} (h : spanOkB x zs = false) : rowsB x zs = false ∨ (rowsB x zs = true ∧ 8 < x) := by
  cases ha : rowsB x zs
  · exact Or.inl rfl
  · refine Or.inr ⟨rfl, ?_⟩
    have : ¬ x ≤ 8 := by simpa [spanOkB, ha] using h
    omega
theorem spanI_ok {m : Nat} {R : List Nat} (h : spanOkB m (zI R) = true) : spanI m (zI R) = zI (spanL m R) := by rw [spanI, if_pos h, nL_zI, Int.toNat_natCast]
theorem spanI_no {x : Int} {zs : List Int} (h : spanOkB x zs = false) : spanI x zs = [] := by simp [spanI, h]
theorem spanL_len (m : Nat) (R : List Nat) (hm : m ≤ 8) : (spanL m R).length ≤ 256 := by
  unfold spanL
  refine Nat.le_trans (List.length_filter_le _ _) ?_
  rw [List.length_range]
  exact Nat.le_trans (Nat.pow_le_pow_right (n := 2) (by decide) hm) (by decide)
theorem spanI_len (x : Int) (zs : List Int) : (spanI x zs).length ≤ 256 := by
  unfold spanI; split
  · rename_i h
    obtain ⟨h1, h2⟩ := spanOk_true h
    obtain ⟨m, R, rfl, rfl, _, _, _, _⟩ := rows_nat h1
    rw [zI_length, nL_zI, Int.toNat_natCast]
    exact spanL_len m R (by omega)
  · simp
def spanK (R : List Nat) (k : Nat) : List Nat := (List.range k).filter (canB R)
theorem spanK_succ (R : List Nat) (k : Nat) : spanK R (k + 1) = spanK R k ++ (if canB R k = true then [k] else []) := by
  unfold spanK
  rw [List.range_succ, List.filter_append]
  congr 1
  rw [List.filter_cons]
  split <;> rfl
theorem spanK_len (R : List Nat) (k : Nat) : (spanK R k).length ≤ k := by
  unfold spanK; exact Nat.le_trans (List.length_filter_le _ _) (by simp)

set_option maxRecDepth 100000 in
set_option maxHeartbeats 1000000 in
theorem sSpan_any (x : Int) (A : Option Addr) (zs : List Int) (ca : Nat) (w : World) (ha : Ints w A zs) (hl : zs.length ≤ 1048576) :
    Calls Tryd.prog 24 #[.int .i64 x, .slice A zs.length ca] w fun e w' => ∃ v, e = .returned (.tuple #[v, .bool (spanOkB x zs)]) ∧ Own w' w.heap.size v (spanI x zs) ∧ Below w.heap.size w w' := by
  cases h : spanOkB x zs
  · have HE := Lib.hid (spanI_no h)
    rcases spanOk_false h with h1 | ⟨h1, h2⟩
    · clear h
      go_enter Tryd.func24, Tryd.ntmps24
      go_wp2_with (go_at_call 65; refine (sRows _ _ _ _ _ ha hl).mono ?_; rintro e w' ⟨rfl, rfl⟩)
      go_ret2
      exact ⟨_, rfl, by rw [HE.out]; exact Own.nil _ _, Below.refl _ _⟩
    · clear h
      go_enter Tryd.func24, Tryd.ntmps24
      go_wp2_with (go_at_call 65; refine (sRows _ _ _ _ _ ha hl).mono ?_; rintro e w' ⟨rfl, rfl⟩)
      go_ret2
      exact ⟨_, rfl, by rw [HE.out]; exact Own.nil _ _, Below.refl _ _⟩
  · obtain ⟨h1, h2⟩ := spanOk_true h
    obtain ⟨m, R, rfl, rfl, h3, h4, h5, h6⟩ := rows_nat h1
    have HE := Lib.hid (spanI_ok h)
    have HS : Hid (spanL m R = spanK R (2 ^ m)) := rfl
    have hr1 := sRows (m : Int) A (zI R) ca w ha hl
    have HC := Lib.hid (fun w' (hb : Below w.heap.size w w') n (hn : n < 65536) => sCan A R ca n w' (ha.below hb) (by omega) (lt16s h4 h6) hn)
    obtain ⟨hp1, hp2⟩ := pow_bd m (by omega)
    have hp3 : 2 ^ m ≤ 256 := Nat.le_trans (Nat.pow_le_pow_right (n := 2) (by decide) (show m ≤ 8 by omega)) (by decide)
    have hpc : ((2 ^ m : Nat) : Int) = (2 : Int) ^ m := by simp
    rw [zI_length] at hr1 ⊢
    clear h6 ha h
    go_enter Tryd.func24, Tryd.ntmps24
    go_wp2_with (go_at_call 65; refine hr1.mono ?_; rintro e w' ⟨rfl, rfl⟩)
    clear hr1
    generalize 2 ^ m = M at *
    have HPC := Lib.hid hpc
    clear hpc
    go_loopw [6, 7] (fun v i wr => ∃ k : Nat, k ≤ M ∧ i = .int .i64 k ∧ Own wr w.heap.size v (zI (spanK R k)) ∧ Below w.heap.size w wr) (fun _ i _ => M - (intOf i).toNat)
    case atStart => exact ⟨0, by omega, rfl, Own.nil _ _, Below.refl _ _⟩
    case round =>
      obtain ⟨k, hk, rfl, hown, hbel⟩ := hrel
      have HO := Lib.hid hown
      have HB := Lib.hid hbel
      have hkl := spanK_len R k
      clear hown hbel
      by_cases hlt : k < M
      · have hki : (k : Int) < (2 : Int) ^ m := by rw [← HPC.out]; omega
        have HX := Lib.hid (spanK_succ R k)
        have HCk := Lib.hid (HC.out wr HB.out k (by omega))
        cases hc : canB R k
        · have HX' : Hid (spanK R (k + 1) = spanK R k) := by show _ = _; rw [HX.out, hc]; simp
          rw [hc] at HCk
          clear hc HX
          go_wp2_with (go_at_call 67; refine HCk.out.mono ?_; rintro e w1 ⟨rfl, hb1⟩)
          go_roundw
          case rel => exact ⟨k + 1, by omega, by go_num, by rw [HX'.out]; exact HO.out.below hb1, below_more HB.out hb1⟩
          case measure => simp [intOf]; omega
        · have HX' : Hid (spanK R (k + 1) = spanK R k ++ [k]) := by show _ = _; rw [HX.out, hc]; simp
          rw [hc] at HCk
          clear hc HX
          go_wp2_with (first
            | (go_at_call 67; refine HCk.out.mono ?_; rintro e w1 ⟨rfl, hb1⟩)
            | (at_builtin; refine app_law w1 w.heap.size _ (spanK R k) k rfl _ _ rfl rfl rfl (HO.out.below hb1) (below_more HB.out hb1).size (by omega) w (below_more HB.out hb1) ?_))
          intro v' w' H'
          go_wp2_with fail
          go_roundw
          case rel => exact ⟨k + 1, by omega, by go_num, by rw [HX'.out]; exact H'.out.1, H'.out.2.1⟩
          case measure => simp [intOf]; omega
      · obtain rfl : k = M := by omega
        have hki : ¬ (k : Int) < (2 : Int) ^ m := by rw [← HPC.out]; omega
        obtain ⟨A3, c3, rfl, _⟩ := HO.out.form
        go_wp2_with fail
        go_ret2
        exact ⟨_, rfl, by rw [HE.out, HS.out]; exact HO.out, HB.out⟩

theorem map_snoc {S : List Nat} {j : Nat} (hj : j < S.length) (r : Nat) : (S.take (j + 1)).map (· ^^^ r) = (S.take j).map (· ^^^ r) ++ [S[j] ^^^ r] := by
  rw [List.take_succ_eq_append_getElem hj, List.map_append]; rfl
/-- A slice of the call's own that is not empty, written out. -/
theorem Own.block {w : World} {base : Nat} {v : Value} {l : List Nat} (h : Own w base v (zI l)) (h0 : l ≠ []) : ∃ g cap, v = .slice (some ⟨g, 0, none⟩) l.length cap ∧ base ≤ g ∧ (∀ j (hj : j < l.length), w.cell? ⟨g, j, none⟩ = some (.int .i64 (l[j] : Nat))) ∧ ∃ cur, w.heap[g]? = some (.cells cur 3 (0, 0)) := by
  have h' := ownRow h
  rcases h'.2 with ⟨_, hn⟩ | ⟨g, cap, cur, rfl, hb, hg, _⟩
  · exact absurd (List.eq_nil_of_length_eq_zero hn) h0
  · refine ⟨g, cap, rfl, hb, fun j hj => ?_, cur, hg⟩
    rw [h'.cellAt j (by omega)]
    simp [zI, hj]
theorem spanU_ne (L : Lad) : ∀ k, spanU L k ≠ []
  | 0 => by simp [spanU]
  | k + 1 => by
    rw [spanU]; split
    · exact spanU_ne L k
    · intro h; exact spanU_ne L k (List.append_eq_nil_iff.1 h).1

set_option maxRecDepth 100000 in
set_option maxHeartbeats 4000000 in
theorem spanOn_any (L : Lad) (R : List Nat) (w : World) (hL : LadR R L) :
    Calls Tryd.prog 72 #[.agg (ladCells L)] w fun e w' => ∃ v, e = .returned v ∧ Own w' w.heap.size v (zI (spanU L 16)) ∧ Below w.heap.size w w' := by
  have hl := hL.lad.len
  have HLR := Lib.hid hL
  have hx := Lib.hid (fun k hk w => run_index_lad L hL.lad.len k hk w)
  have HSm := Lib.hid (fun t => hL.lad.small t)
  have hs1 : (w.alloc (.cells (ladCells L) 70)).heap.size = w.heap.size + 1 := by simp
  have HB1 : Hid (Below w.heap.size w ((w.alloc (.cells (ladCells L) 70)).alloc (.cells #[.int .i64 0] 3))) := ((Below.refl _ w).alloc (Nat.le_refl _) _).alloc (by simp) _
  have HO1 : Hid (Own ((w.alloc (.cells (ladCells L) 70)).alloc (.cells #[.int .i64 0] 3)) w.heap.size (.slice (some ⟨w.heap.size + 1, 0, none⟩) 1 1) (zI [0])) :=
    ⟨rfl, Or.inr ⟨w.heap.size + 1, 1, #[.int .i64 0], rfl, by omega, by rw [← hs1]; exact heap_alloc_new _ _, Nat.le_refl _, by unfold maxLen; omega, rfl, rfl⟩⟩
  clear hL hs1
  go_enter Tryd.func72, Tryd.ntmps72
  go_wp2_with (refine wpList_load_row rfl 70 _ rfl w.heap.size rfl 70 (ladCells L) (0, 0) _ (by rw [Below.heap_alloc _ _ _ (by simp)]; exact heap_alloc_new _ _) Tryd.underlying70 rfl (by rw [ladCells_size hl]; exact infoLad) ?_)
  go_loopg [3, 10] 16 (fun g v i wr => ∃ k : Nat, k + g = 16 ∧ i = .int .i64 k ∧ Own wr w.heap.size v (zI (spanU L k)) ∧ Below w.heap.size w wr)
  case atStart => exact ⟨0, by omega, rfl, HO1.out, HB1.out⟩
  case round =>
    obtain ⟨k, hg, rfl, hown, hbel⟩ := hrel
    have HB := Lib.hid hbel
    have hbs := hbel.size
    clear hbel HO1 HB1
    by_cases hlt : k < 16
    · have hki : (k : Int) < 16 := by omega
      have HGK : Hid (15 - k < gk ∧ k + 1 + (15 - k) = 16) := by show _ ∧ _; omega
      have hxk := fun w => hx.out k hlt w
      unfold stepV at hxk
      have hsm := HSm.out k
      have HX : Hid (spanU L (k + 1) = if (lat L k).1 = 0 then spanU L k else spanU L k ++ (spanU L k).map (· ^^^ (lat L k).1)) := rfl
      have hsl : (spanU L k).length ≤ 65536 := Nat.le_trans (spanU_length L k) (Nat.le_trans (Nat.pow_le_pow_right (n := 2) (by decide) (show k ≤ 16 by omega)) (by decide))
      have hS16 : Hid (∀ y ∈ spanU L k, y < 65536) := fun y hy => Nat.lt_of_lt_of_le (spanU_lt HLR.out.lad.top hy) (Nat.le_trans (Nat.pow_le_pow_right (n := 2) (by decide) (show k ≤ 16 by omega)) (by decide))
      have hSne := spanU_ne L k
      generalize spanU L k = S at *
      generalize lat L k = q at *
      clear hg
      by_cases h0 : q.1 = 0
      · have hz : (((q.1 : Nat) : Int) == 0) = true := by simp [h0]
        have HX' : Hid (spanU L (k + 1) = S) := by show _ = _; rw [HX.out, if_pos h0]
        have HO := Lib.hid hown
        clear HX h0 hown
        go_wp2_with fail
        go_roundg (15 - k)
        case measure => exact HGK.out.1
        case rel => exact ⟨k + 1, HGK.out.2, by go_num, by rw [HX'.out]; exact HO.out.below ((Below.refl _ _).alloc (Nat.le_refl _) _), HB.out.alloc hbs _⟩
      · have hz : (((q.1 : Nat) : Int) == 0) = false := by simpa using h0
        have HX' : Hid (spanU L (k + 1) = S ++ S.map (· ^^^ q.1)) := by show _ = _; rw [HX.out, if_neg h0]
        obtain ⟨g0, cap0, rfl, hbg, hcs, cur0, hcur⟩ := hown.block hSne
        have HO := Lib.hid hown
        have HCS := Lib.hid hcs
        have hgl : g0 < wr.heap.size := heap_lt hcur
        clear HX h0 hown hcs hcur
        go_wp2_with fail
        generalize hC : wr.heap.size = C at *
        have HC := Lib.hid hC
        clear hC
        go_loopg [3, 18] S.length (fun g2 v i wx => ∃ j : Nat, j + g2 = S.length ∧ i = .int .i64 j ∧ Own wx w.heap.size v (zI (S ++ (S.take j).map (· ^^^ q.1))) ∧ (∀ i (hi : i < S.length), wx.cell? ⟨g0, i, none⟩ = some (.int .i64 (S[i] : Nat))) ∧ StepAt wx C q ∧ Below w.heap.size w wx)
        case atStart =>
          refine ⟨0, by omega, rfl, by simpa using HO.out.below ((Below.refl _ _).alloc (Nat.le_refl _) _), fun i hi => ?_, by rw [← HC.out]; exact heap_alloc_new _ _, HB.out.alloc (by rw [HC.out]; exact hbs) _⟩
          exact (World.cell?_alloc_lt _ _ ⟨g0, i, none⟩ (by rw [HC.out]; exact hgl)).trans (HCS.out i hi)
        case round =>
          obtain ⟨j, hg2, rfl, hown2, hold, hstep, hbel2⟩ := hrel
          have hbs2 := hbel2.size
          obtain ⟨hq1, hq2⟩ := hstep.cell
          have HB2 := Lib.hid hbel2
          have HSt := Lib.hid hstep
          have HOld := Lib.hid hold
          clear hold hstep hbel2
          by_cases hlt2 : j < S.length
          · have hji : (j : Int) < (S.length : Int) := by omega
            have hcj := HOld.out j hlt2
            have hs1 := hS16.out S[j] (List.getElem_mem hlt2)
            have HMs := Lib.hid (map_snoc hlt2 q.1)
            generalize S[j] = y at *
            have hxo := xor_i64 y q.1 (by omega) (by omega)
            have hml : (S ++ (S.take j).map (· ^^^ q.1)).length ≤ 200000 := by simp; omega
            have hle1 : S.length ≤ (S ++ (S.take j).map (· ^^^ q.1)).length := by simp
            have hne1 : S ++ (S.take j).map (· ^^^ q.1) ≠ [] := by
              intro e; exact hSne (List.append_eq_nil_iff.1 e).1
            have HTl : Hid (S ++ (S.take (j + 1)).map (· ^^^ q.1) = (S ++ (S.take j).map (· ^^^ q.1)) ++ [y ^^^ q.1]) := by show _ = _; rw [HMs.out, List.append_assoc]
            have HPre : Hid (∀ i (hi : i < S.length), (S ++ (S.take j).map (· ^^^ q.1))[i]? = some S[i]) := fun i hi => by
              rw [List.getElem?_append_left hi, List.getElem?_eq_getElem hi]
            generalize S ++ (S.take j).map (· ^^^ q.1) = T at *
            obtain ⟨g1, cap1, rfl, hbg1, hcs1, cur1, hcur1⟩ := hown2.block hne1
            have HO2 := Lib.hid hown2
            have hgne : C ≠ g1 := by
              intro e
              have h3 := HSt.out
              rw [StepAt, e, hcur1] at h3
              simp at h3
            have hCl : C < wr.heap.size := HSt.out.lt
            have hg1l : g1 < wr.heap.size := heap_lt hcur1
            clear hown2 hcs1 hcur1 HMs
            go_wp2_with (at_builtin; refine app_keep wr w.heap.size g1 cap1 T (y ^^^ q.1) rfl _ _ rfl rfl rfl HO2.out hbs2 (by omega) w HB2.out ?_)
            intro v' w' H'
            have hblk : ∀ b, b < wr.heap.size → b ≠ g1 → w'.heap[b]? = wr.heap[b]? := fun b hb hne => (H'.out.2.2.1.block b (by simp; omega) (fun e => hne (by injection e))).trans (Below.heap_alloc _ _ _ hb)
            go_wp2_with fail
            go_roundg (S.length - j - 1)
            case measure => omega
            case rel =>
              refine ⟨j + 1, by omega, by go_num, by rw [HTl.out]; exact H'.out.1, fun i hi => ?_, (hblk C hCl hgne).trans HSt.out, H'.out.2.1⟩
              have hold := HOld.out i hi
              by_cases hgg : g0 = g1
              · subst hgg
                rw [H'.out.2.2.2 i (by omega)]; exact hold
              · exact (World.cell?_of_block (w := wr) (hblk g0 (World.block_lt_of_cell? _ _ hold) hgg)).trans hold
          · obtain rfl : j = S.length := by omega
            rw [List.take_length] at hown2
            have HO2 := Lib.hid hown2
            clear hown2
            go_wp2_with fail
            go_roundg (15 - k)
            case measure => exact HGK.out.1
            case rel => exact ⟨k + 1, HGK.out.2, by go_num, by rw [HX'.out]; exact HO2.out, HB2.out⟩
    · obtain rfl : k = 16 := by omega
      have HO := Lib.hid hown
      obtain ⟨A3, c3, rfl, _⟩ := hown.form
      clear hown
      go_wp2_with fail
      go_ret
      exact ⟨_, rfl, HO.out, HB.out⟩

set_option maxRecDepth 100000 in
set_option maxHeartbeats 4000000 in
theorem iSpan_any (x : Int) (A : Option Addr) (zs : List Int) (ca : Nat) (w : World) (ht : Tab w) (ha : Ints w A zs) (hl : zs.length ≤ 1048576) :
    Calls Tryd.prog 23 #[.int .i64 x, .slice A zs.length ca] w fun e w' => ∃ v, e = .returned (.tuple #[v, .bool (spanOkB x zs)]) ∧ Own w' w.heap.size v (spanI x zs) ∧ Below w.heap.size w w' := by
  cases h : spanOkB x zs
  · have HE := Lib.hid (spanI_no h)
    by_cases h8 : 8 < x
    · clear h
      go_enter Tryd.func23, Tryd.ntmps23
      go_wp2_with fail
      go_ret2
      exact ⟨_, rfl, by rw [HE.out]; exact Own.nil _ _, Below.refl _ _⟩
    · have h1 : rowsB x zs = false := (spanOk_false h).resolve_right (fun h => h8 h.2)
      clear h
      go_enter Tryd.func23, Tryd.ntmps23
      go_wp2_with (go_at_call 61; refine (iRows _ _ _ _ _ ht ha hl).mono ?_; rintro e w' ⟨rfl, rfl⟩)
      go_ret2
      exact ⟨_, rfl, by rw [HE.out]; exact Own.nil _ _, Below.refl _ _⟩
  · obtain ⟨h1, h2⟩ := spanOk_true h
    obtain ⟨m, R, rfl, rfl, h3, h4, h5, h6⟩ := rows_nat h1
    have HE := Lib.hid (spanI_ok h)
    have hr1 := iRows (m : Int) A (zI R) ca w ht ha hl
    have HL := Lib.hid (ladderOf_any A R ca _ ht ha h5 (lt16s h4 h6))
    have H6 := Lib.hid h6
    have h8 : ¬ 8 < (m : Int) := by omega
    rw [zI_length] at hr1 ⊢
    clear h6 ha h ht
    go_enter Tryd.func23, Tryd.ntmps23
    go_wp2_with (go_at_call 61; refine hr1.mono ?_; rintro e w' ⟨rfl, rfl⟩)
    refine HL.out.mono ?_
    rintro e w1 ⟨L, rfl, hL, hb1⟩
    have HLR := Lib.hid hL
    have HB1 := Lib.hid hb1
    have HSp := Lib.hid (ladR_span hL H6.out)
    clear hL hb1 HL hr1
    go_wp2_with fail
    refine (spanOn_any L R w1 HLR.out).mono ?_
    rintro e w2 ⟨v2, rfl, ho2, hb2⟩
    have HB2 := Lib.hid (below_more HB1.out hb2)
    rw [HSp.out] at ho2
    have HO2 := Lib.hid (ho2.downTo HB1.out.size)
    obtain ⟨A3, c3, rfl, _⟩ := ho2.form
    clear ho2 hb2
    go_wp2_with fail
    go_ret2
    exact ⟨_, rfl, by rw [HE.out]; exact HO2.out, HB2.out⟩
end Go.Proofs.YtfkojlpihpgnaaaDoor
