/-
  What ladderOf makes of rows.
-/
import Derived.Test.YtdoogleggdlddaaDoorS4
import Derived.Test.YtdoogleggdlddaaDoorT1
import Derived.WalkMore
import Derived.ScopeJumps
namespace Go.Proofs.YtdoogleggdlddaaDoor
open Go.RowKit

/-- A step lies in block C. -/
def StepAt (w : World) (C : Nat) (p : Nat × Nat) : Prop := w.heap[C]? = some (.cells (stepCells p) 93 (0, 0))
theorem StepAt.cell {w : World} {C : Nat} {p : Nat × Nat} (h : StepAt w C p) : w.cell? ⟨C, 0, none⟩ = some (.int .i64 p.1) ∧ w.cell? ⟨C, 1, none⟩ = some (.int .i64 p.2) :=
  ⟨(cell_of_row w C _ _ _ _ h).trans rfl, (cell_of_row w C _ _ _ _ h).trans rfl⟩
theorem StepAt.frozen {w : World} {C : Nat} {p : Nat × Nat} (h : StepAt w C p) (j : Nat) : w.frozen? ⟨C, j, none⟩ = false := frozen_of_row w C j _ _ h
theorem StepAt.below {w w' : World} {C : Nat} {p : Nat × Nat} (h : StepAt w C p) {n : Nat} (hb : Below n w w') (hn : C < n) : StepAt w' C p := (hb.block C hn).trans h
theorem StepAt.drewN {w : World} {C : Nat} {p : Nat × Nat} (h : StepAt w C p) (n : Nat) : StepAt (w.drewN n) C p := h
theorem StepAt.lt {w : World} {C : Nat} {p : Nat × Nat} (h : StepAt w C p) : C < w.heap.size := heap_lt h
theorem StepAt.set {w : World} {C : Nat} {p : Nat × Nat} (h : StepAt w C p) (q : Nat × Nat) :
    StepAt ((w.setCell ⟨C, 0, none⟩ (.int .i64 q.1)).setCell ⟨C, 1, none⟩ (.int .i64 q.2)) C q := by
  have e1 := setCell_eq_setRow w C 0 _ _ _ (.int .i64 (q.1 : Int)) h
  have h1 := setRow_heap w C _ ((stepCells p).setIfInBounds 0 (.int .i64 q.1)) _ _ h
  rw [e1]
  have e2 := setCell_eq_setRow _ C 1 _ _ _ (.int .i64 (q.2 : Int)) h1
  rw [e2]
  exact setRow_heap _ C _ (((stepCells p).setIfInBounds 0 (.int .i64 q.1)).setIfInBounds 1 (.int .i64 q.2)) _ _ h1

/-- addSteps beside a step that lies in memory. -/
theorem addSteps_now (a b p : Nat × Nat) (W : World) (C : Nat) (hA : StepAt W C p) (h1 : a.1 < 65536) (h2 : a.2 < 2097152) (h3 : b.1 < 65536) (h4 : b.2 < 2097152) :
    Calls Tryd.prog 106 #[.agg #[.int .i64 a.1, .int .i64 a.2], .agg #[.int .i64 b.1, .int .i64 b.2]] W fun e w' =>
      e = .returned (.agg #[.int .i64 (addP a b).1, .int .i64 (addP a b).2]) ∧ Hid (Below W.heap.size W w' ∧ StepAt w' C p) ∧
        w'.cell? ⟨C, 0, none⟩ = some (.int .i64 p.1) ∧ w'.cell? ⟨C, 1, none⟩ = some (.int .i64 p.2) ∧ w'.frozen? ⟨C, 0, none⟩ = false ∧ w'.frozen? ⟨C, 1, none⟩ = false := by
  refine (addSteps_any a b W (by omega) (by omega) (by omega) (by omega)).mono ?_
  rintro e w' ⟨rfl, hb⟩
  have hA' : StepAt w' C p := hA.below hb hA.lt
  exact ⟨rfl, ⟨hb, hA'⟩, hA'.cell.1, hA'.cell.2, hA'.frozen _, hA'.frozen _⟩

theorem len_top (x m : Nat) (w : World) (h : x < 65536) (h0 : x ≠ 0) (hm : x.log2 = m) :
    Calls Tryd.prog 105 #[.int .u64 x] w fun e w' => e = .returned (.int .i64 ((m : Int) + 1)) ∧ w = w' := by
  refine (len_any x w h).mono ?_
  rintro e w' ⟨rfl, rfl⟩
  exact ⟨by rw [blen, if_neg h0, hm]; rfl, rfl⟩
theorem len_zero (w : World) : Calls Tryd.prog 105 #[.int .u64 0] w fun e w' => e = .returned (.int .i64 0) ∧ w = w' := len_any 0 w (by omega)

/-- What the number in a cell is. -/
def cellNat (w : World) (C : Nat) : Nat := match w.cell? ⟨C, 0, none⟩ with
  | some (.int _ n) => n.toNat
  | _ => 0
theorem StepAt.nat {w : World} {C : Nat} {p : Nat × Nat} (h : StepAt w C p) : cellNat w C = p.1 := by
  unfold cellNat; rw [h.cell.1]; simp

theorem wp_scope_pass {P : Program} {a : Act} {w : World} {Q : Exit → Act → World → Prop} {c X : Code} (l : Nat) (J : Act → World → Prop) (μ : Act → World → Nat) (hf : findLabel c l = some (Code.skip.seq X))
    (pass : ∀ a w, J a w → X.wp P (Exit.jump l (fun a' w' => J a' w' ∧ μ a' w' < μ a w) Q) a w)
    (first : Hid (∀ a w, J a w → X.wp P (Exit.jump l J Q) a w) → c.wp P (Exit.jump l J Q) a w) : (Code.scope c).wp P Q a w := by
  refine wp_scope_jumps l J μ hf (first fun a w h => wp_mono (pass a w h) ?_) (fun a w h => wp_seq (wp_skip (pass a w h)))
  intro e a' w' hq
  cases e with
  | goto l' => exact ⟨hq.1, hq.2.1⟩
  | _ => exact hq

theorem pow20 (n : Nat) (h : n ≤ 20) : 1 ≤ (2 : Int) ^ n ∧ (2 : Int) ^ n ≤ 1048576 :=
  (by decide +kernel : ∀ n < 21, 1 ≤ (2 : Int) ^ n ∧ (2 : Int) ^ n ≤ 1048576) n (by omega)

set_option maxRecDepth 100000 in
set_option maxHeartbeats 4000000 in
theorem ladderOf_any (A : Option Addr) (R : List Nat) (ca : Nat) (w : World) (ht : Tab w) (ha : Ints w A (zI R)) (hl : R.length ≤ 20) (hR : ∀ r ∈ R, r < 65536) :
    Calls Tryd.prog 92 #[.slice A R.length ca] w fun e w' => ∃ L, e = .returned (.agg (ladCells L)) ∧ LadR R L ∧ Below w.heap.size w w' := by
  have HT := Lib.hid ht
  have HA := Lib.hid ha
  have HR := Lib.hid hR
  clear ht ha hR
  go_enter Tryd.func92, Tryd.ntmps92
  go_wp2_with fail
  go_step3
  go_wp2_with fail
  go_step3
  go_wp2_with fail
  go_loopg [10] R.length (fun g i wr => ∃ (k : Nat) (L : Lad), k + g = R.length ∧ i = .int .i64 k ∧ LadB R k L ∧ LadAt wr (w.heap.size + 1) L ∧ LadAt wr w.heap.size lad0 ∧ Below w.heap.size w wr)
  case atStart =>
    refine ⟨0, lad0, by omega, rfl, lad_nil R, ?_, ?_, ?_⟩
    · unfold LadAt
      rw [show w.heap.size + 1 = (w.alloc (.cells (ladCells lad0) 95)).heap.size by simp]; exact heap_alloc_new _ _
    · exact (Below.heap_alloc _ _ _ (by simp)).trans (heap_alloc_new _ _)
    · exact ((Below.refl _ w).alloc (Nat.le_refl _) _).alloc (by simp) _
  case round =>
    obtain ⟨k, L, hg, rfl, hLB, hA, hZ, hB⟩ := hrel
    have HLB := Lib.hid hLB
    have HLA := Lib.hid hA
    have HZ := Lib.hid hZ
    have HB := Lib.hid hB
    have hbz := hA.lt
    clear hLB hA hZ hB
    by_cases hlt : k < R.length
    · have hi1 : (k : Int) < (R.length : Int) := by omega
      have HGK : Hid (R.length - k - 1 < gk ∧ k + 1 + (R.length - k - 1) = R.length) := by show _ ∧ _; omega
      obtain ⟨b, o, rfl, hc⟩ := (HA.out.below HB.out).cellN hlt
      have hr0 := HR.out R[k] (List.getElem_mem hlt)
      generalize hrk : R[k] = r0 at *
      have HRK := Lib.hid hrk
      clear hrk hg
      go_wp2_with fail
      obtain ⟨J, hJ⟩ : ∃ J : Act → World → Prop, J = (fun (a' : Act) (w' : World) => ∃ (p : Nat × Nat) (u7 u15 u16 u17 u18 u19 u20 u21 u22 u23 u24 u25 u26 u27 u28 u29 u30 u31 u32 u33 u34 u35 u36 u37 : Value),
        a' = { tmps := #[.slice (some ⟨b, o, none⟩) R.length ca, undef, .pointer (some ⟨w.heap.size, 0, none⟩), .pointer (some ⟨w.heap.size + 1, 0, none⟩), .int .i64 k, .int .i64 r0, .pointer (some ⟨wr.heap.size, 0, none⟩), u7, .slice (some ⟨b, o, none⟩) R.length ca, .int .i64 R.length, .int .i64 k, .bool true, .int .i64 k, .pointer (some ⟨b, o + k, none⟩), .int .i64 r0, u15, u16, u17, u18, u19, u20, u21, u22, u23, u24, u25, u26, u27, u28, u29, u30, u31, u32, u33, u34, u35, u36, u37, u38, u39, u40, u41, undef, undef], defers := [] } ∧
          Now R k L p ∧ StepAt w' wr.heap.size p ∧ Below wr.heap.size wr w') := ⟨_, rfl⟩
      have HJ := Lib.hid hJ
      clear hJ
      refine wp_scope_pass 0 J (fun _ w' => cellNat w' wr.heap.size) rfl ?_ ?_
      · intro a' w' hJ'
        rw [HJ.out] at hJ'
        obtain ⟨p, u7, u15, u16, u17, u18, u19, u20, u21, u22, u23, u24, u25, u26, u27, u28, u29, u30, u31, u32, u33, u34, u35, u36, u37, rfl, hN, hS, hB'⟩ := hJ'
        have hps := hN.small
        have hpl : p.2 < 2097152 := Nat.lt_of_lt_of_le hN.lt (Nat.le_trans (Nat.pow_le_pow_right (n := 2) (by decide) (show k + 1 ≤ 21 by omega)) (by decide))
        have hcN := Lib.hid hS.nat
        have HN := Lib.hid hN
        have HS := Lib.hid hS
        have HB' := Lib.hid hB'
        obtain ⟨hc0, hc1⟩ := hS.cell
        have HLA' := Lib.hid (HLA.out.below hB' hbz)
        have HZ' := Lib.hid (HZ.out.below hB' (by omega))
        clear hN hS hB'
        by_cases h0 : p.1 = 0
        · have HL' := Lib.hid (now_zero HLB.out HN.out h0 hlt)
          rw [h0] at hc0
          clear h0
          go_wp2_with (go_at_call 105; refine (len_zero _).mono ?_; rintro e w'' ⟨rfl, rfl⟩)
          simp only [Exit.jump]
          go_wp2_with fail
          go_roundg (R.length - k - 1)
          case measure => exact HGK.out.1
          case rel => exact ⟨k + 1, L, HGK.out.2, by go_num, HL'.out, HLA'.out, HZ'.out, HB.out.trans (HB'.out.mono (by omega))⟩
        · have hm16 : p.1.log2 < 16 := log2_lt (w := 16) h0 hps
          obtain ⟨hq1, hq2⟩ := HLA'.out.cell (k := p.1.log2) (by rw [HLB.out.len]; exact hm16)
          obtain ⟨hs3, hs4⟩ := steps_small HLB.out (by omega) p.1.log2
          have HStep := Lib.hid (now_step HLB.out HN.out h0)
          have HPut := Lib.hid (fun h => now_put HLB.out HN.out h0 h hlt)
          have hll := HLB.out.len
          generalize hmm : p.1.log2 = m at *
          have HM := Lib.hid hmm
          clear hmm
          have hmi : (m : Int) < 16 := by omega
          by_cases hq0 : (lat L m).1 = 0
          · have HP2 := Lib.hid (HPut.out hq0)
            have hne : ((((lat L m).1 : Nat) : Int) != 0) = false := by simp [hq0]
            have hf1 := HLA'.out.frozen (m * 2)
            have hf2 := HLA'.out.frozen (m * 2 + 1)
            clear hq0 HStep HPut
            generalize lat L m = q at *
            go_wp2_with (go_at_call 105; refine (len_top p.1 m _ hps h0 HM.out).mono ?_; rintro e w'' ⟨rfl, rfl⟩)
            simp only [Exit.jump]
            go_wp2_with fail
            go_roundg (R.length - k - 1)
            case measure => exact HGK.out.1
            case rel =>
              refine ⟨k + 1, L.set m p, HGK.out.2, by go_num, HP2.out.2, HLA'.out.set (by omega) p, ?_, ?_⟩
              · exact (Below.heap_setCell _ _ _ _ (by simp)).trans ((Below.heap_setCell _ _ _ _ (by simp)).trans HZ'.out)
              · have h1 : Below w.heap.size w w' := HB.out.trans (HB'.out.mono (by omega))
                exact (h1.setCell (p := ⟨w.heap.size + 1, m * 2, none⟩) (Nat.le_succ _) _).setCell (p := ⟨w.heap.size + 1, m * 2 + 1, none⟩) (Nat.le_succ _) _
          · have HP2 := Lib.hid (HStep.out hq0)
            have hne : ((((lat L m).1 : Nat) : Int) != 0) = true := by simpa using hq0
            clear hq0 HStep HPut
            generalize lat L m = q at *
            go_wp2_with (go_at_call 105; refine (len_top p.1 m _ hps h0 HM.out).mono ?_; rintro e w'' ⟨rfl, rfl⟩)
            go_region_with (go_at_call 106; refine (addSteps_now p q p _ wr.heap.size (HS.out.drewN _) hps hpl hs3 (by omega)).mono ?_; rintro e w2 ⟨rfl, hb2, c1, c2, f1, f2⟩)
            all_goals
              go_wp2_with fail
              go_step3
              have hset := hb2.out.2.set (addP p q)
              refine ⟨rfl, ?_, ?_⟩
              · rw [HJ.out]
                refine ⟨addP p q, _, _, _, _, _, _, _, _, _, _, _, _, _, _, _, _, _, _, _, _, _, _, _, _, rfl, HP2.out.1, hset, ?_⟩
                have h1 : Below wr.heap.size wr w2 := (below_drewN HB'.out _).trans (hb2.out.1.mono HB'.out.size)
                exact (h1.setCell (p := ⟨wr.heap.size, 0, none⟩) (Nat.le_refl _) _).setCell (p := ⟨wr.heap.size, 1, none⟩) (Nat.le_refl _) _
              · rw [hset.nat, hcN.out]; exact HP2.out.2
      · intro HP
        obtain ⟨hp1, hp2⟩ := pow20 k (by omega)
        go_wp2_with fail
        go_step3
        rename_i hK
        refine hK _ _ (HP.out _ _ ?_)
        rw [HJ.out]
        refine ⟨(r0, 2 ^ k), _, _, _, _, _, _, _, _, _, _, _, _, _, _, _, _, _, _, _, _, _, _, _, _, rfl, ?_, ?_, (Below.refl _ wr).alloc (Nat.le_refl _) _⟩
        · have := now_start (rows := R) (k := k) L (by simp [List.getD, hlt, HRK.out, hr0])
          rwa [show R.getD k 0 = r0 by simp [List.getD, hlt, HRK.out]] at this
        · refine (heap_alloc_new _ _).trans ?_
          simp [stepCells]
    · obtain rfl : k = R.length := by omega
      have hll := HLB.out.len
      go_wp2_with (first
        | (refine wpList_load_row rfl 95 _ rfl (w.heap.size + 1) rfl 95 (ladCells L) (0, 0) _ HLA.out Tryd.underlying95 rfl (by rw [ladCells_size hll]; exact infoLad) ?_))
      refine (reduced_any R R.length L _ (HT.out.below HB.out) HLB.out (by omega)).mono ?_
      rintro e w2 ⟨L2, rfl, hR2, hb2⟩
      have HZ2 := Lib.hid (HZ.out.below hb2 (by omega))
      have HB2 := Lib.hid (HB.out.trans (hb2.mono (by omega)))
      have HL2 := Lib.hid (ladR_of hR2)
      have hl2 := hR2.lad.len
      clear hR2 hb2
      go_wp2_with (refine wpList_store_row rfl 95 _ _ rfl w.heap.size (ladCells L2) rfl rfl 95 (ladCells lad0) HZ2.out (by rw [ladCells_size hl2]; exact infoLad) (by rw [ladCells_size hl2]; rfl) (ladCells_one _) ?_)
      rw [Exit.noGoto_ret]
      refine ret_lad rfl w.heap.size L2 hl2 rfl ?_ rfl ⟨L2, rfl, HL2.out, ?_⟩
      · exact setRow_heap _ _ _ _ _ _ HZ2.out
      · exact below_setRow HB2.out (Nat.le_refl _) _
end Go.Proofs.YtdoogleggdlddaaDoor
