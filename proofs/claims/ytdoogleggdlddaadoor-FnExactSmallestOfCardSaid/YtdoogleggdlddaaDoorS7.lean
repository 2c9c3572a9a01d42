/-
  What rowsOn answers: the rows of a ladder, the top one first.
-/
import Derived.Test.YtdoogleggdlddaaDoorS6
namespace Go.Proofs.YtdoogleggdlddaaDoor
open Go.RowKit Go.Shelf

attribute [local go_sem] Oper.semAt_some

set_option maxRecDepth 100000 in
set_option maxHeartbeats 4000000 in
theorem rowsOn_in (F : Fence) (n : Nat) (h44 : F.fn 91) (h66 : F.fn 104) (h75 : F.fn 108) (hro : F.round = none) (hn : 3 ≤ n) (L : Lad) (hl : L.length = 16) (w : World) :
    CallsIn F n Tryd.prog 91 #[.agg (ladCells L)] w fun e W' => ∃ v, e = .returned v ∧ Own W' w.heap.size v (zI (down L 16)) ∧ Below w.heap.size w W' := by
  have h1 : 1 ≤ n := by omega
  obtain ⟨i0, hi, hz0, hz1, hz2⟩ := info_parts intInfo
  refine callsIn_of_wp_marks Tryd.func91 rfl h44 ?_ hro
  simp only [Tryd.ntmps91, List.size_toArray, List.length_cons, List.length_nil, Nat.reduceAdd, Nat.reduceSub, Array.replicate_succ, Array.replicate_zero, List.push_toArray, List.append_toArray, List.nil_append, List.cons_append]
  gi_wp2_with (gi_at_call 104; refine (back_in F (n - 1) h66 hro _ _ _ _).mono ?_; rintro e w' ⟨rfl, rfl⟩)
  have bO := (Boxed.new (w.alloc (.cells (ladCells L) 95)) 23 (.slice none 0 0)).alloc (.cells #[.slice (some ⟨w.heap.size, 0, none⟩) 16 16] 104)
  have bN := Boxed.new ((w.alloc (.cells (ladCells L) 95)).alloc (.cells #[.slice none 0 0] 23)) 104 (.slice (some ⟨w.heap.size, 0, none⟩) 16 16)
  simp only [World.size_alloc] at bO bN
  have hB0 : Below w.heap.size w (((w.alloc (.cells (ladCells L) 95)).alloc (.cells #[.slice none 0 0] 23)).alloc (.cells #[.slice (some ⟨w.heap.size, 0, none⟩) 16 16] 104)) := (((Below.refl _ w).alloc (Nat.le_refl _) _).alloc (by simp) _).alloc (by simp; omega) _
  have hA0 : LadAt (((w.alloc (.cells (ladCells L) 95)).alloc (.cells #[.slice none 0 0] 23)).alloc (.cells #[.slice (some ⟨w.heap.size, 0, none⟩) 16 16] 104)) w.heap.size L := by
    unfold LadAt
    rw [Below.heap_alloc _ _ _ (by simp; omega), Below.heap_alloc _ _ _ (by simp)]; exact heap_alloc_new _ _
  have hsz : (((w.alloc (.cells (ladCells L) 95)).alloc (.cells #[.slice none 0 0] 23)).alloc (.cells #[.slice (some ⟨w.heap.size, 0, none⟩) 16 16] 104)).heap.size = w.heap.size + 3 := by simp
  obtain ⟨W0, hW0⟩ : ∃ W0, ((w.alloc (.cells (ladCells L) 95)).alloc (.cells #[.slice none 0 0] 23)).alloc (.cells #[.slice (some ⟨w.heap.size, 0, none⟩) 16 16] 104) = W0 := ⟨_, rfl⟩
  rw [hW0] at bO bN hB0 hA0 hsz ⊢
  clear hW0
  refine wpIn_rangeFunc_ownH hro h1 (gf := 108) (lb := #[.pointer (some ⟨w.heap.size + 1 + 1, 0, none⟩)]) rfl h75 (enters_of Tryd.func108 (by kernel_rfl) rfl)
    (back_stops F (n - 1) h75 hro (by omega) (w.heap.size + 1 + 1) w.heap.size L hl W0 bN hA0) KeepTwo.trans
    (fun W l o o' h2 _ _ _ => ⟨World.putObj_heap_other (by omega), World.putObj_heap_other (by omega)⟩) (Below.refl _ _) (fun _ => rfl)
    (fun pre W => (∃ v, Boxed W (w.heap.size + 1) 23 v ∧ W.ownsRow W0.heap.size 3 1 v (coll pre).length ((zI (coll pre)).map (Value.int .i64)) ∧ True) ∧ (Below w.heap.size w W ∧ W0.heap.size ≤ W.heap.size))
    (fun _ _ _ => False)
    (OwnFrom.and (Go.Own.from (holdsRow_own W0.heap.size (w.heap.size + 1) 23 3 1 (fun pre => (coll pre).length) (fun pre => (zI (coll pre)).map (Value.int .i64)) (fun _ _ => True)) _) (OwnFrom.and (ownFrom_below (Nat.le_refl _) (by omega)) (fun _ _ _ _ hs hg _ => Nat.le_trans hs hg.size)))
    (fun _ _ _ _ _ hs _ _ => hs)
    ⟨⟨_, bO, World.ownsRow_nil _ _ _ _, trivial⟩, hB0, Nat.le_refl _⟩
    (fun x a' W => ∃ Bx, w.heap.size + 3 ≤ Bx ∧ StepAt W Bx x.2 ∧ a' = { tmps := #[.agg (ladCells L), .pointer (some ⟨w.heap.size, 0, none⟩), .slice none 0 0, .pointer (some ⟨w.heap.size + 1, 0, none⟩), undef, .pointer (some ⟨Bx, 0, none⟩), .slice (some ⟨w.heap.size, 0, none⟩) 16 16, .func (.func 108) #[] #[.pointer (some ⟨w.heap.size + 1 + 1, 0, none⟩)], .int .i64 (x.1 : Int), .agg #[.int .i64 (x.2.1 : Int), .int .i64 (x.2.2 : Int)], undef, undef, undef, undef, undef, undef, undef, undef, undef], defers := [] })
    (fun x a' _ X Y row hs hg hr => by
      obtain ⟨Bx, h2, h3, h4⟩ := hs
      refine ⟨Bx, h2, (hg.block Bx h3.lt (fun e => ?_)).trans h3, h4⟩
      obtain ⟨_, o, ho, hc⟩ := hr Bx e.symm
      rw [show X.heap[Bx]? = _ from h3] at ho; cases ho; cases hc)
    ?assign ?body ?done ?stop
  case assign =>
    rintro l pre x W K ⟨⟨v, hv, hrow, _⟩, hB, hsW⟩ hK
    gi_wp2
    exact hK _ _ ((KeepsOthers.alloc _ _).from _) ⟨Below.heap_alloc _ _ _ (by omega), Below.heap_alloc _ _ _ (by omega)⟩ ⟨⟨v, hv.alloc _, hrow.alloc _, trivial⟩, hB.alloc hB.size _, by simp; omega⟩ ⟨W.heap.size, by omega, heap_alloc_new _ _, rfl⟩
  case body =>
    rintro l pre x a' W hlw ⟨r, hr⟩ ⟨⟨v, hv, hrow, _⟩, hB, hsW⟩ ⟨Bx, hBx, bX, rfl⟩ hlt
    have hcO := hv.cell
    obtain ⟨hc1, hc2⟩ := bX.cell
    have hcl : (coll pre).length ≤ pre.length := by unfold coll; exact Nat.le_trans (List.length_filter_le _ _) (by simp)
    by_cases h0 : x.2.1 = 0
    · have hne : (((x.2.1 : Nat) : Int) != 0) = false := by simp [h0]
      have HM := Lib.hid (coll_miss pre h0)
      have HR := Lib.hid hrow
      clear h0 hrow hr
      gi_wp2
      exact ⟨KeepsFrom.refl _ _, ⟨rfl, rfl⟩, ⟨v, hv, by rw [HM.out]; exact HR.out, trivial⟩, hB, hsW⟩
    · have hne : (((x.2.1 : Nat) : Int) != 0) = true := by simpa using h0
      have HM := Lib.hid (coll_hit pre h0)
      have HR : Hid (Own W W0.heap.size v (zI (coll pre))) := by
        show W.ownsRow _ _ _ _ _ _
        rw [zI_length]; exact hrow
      clear h0 hr
      gi_wp2_with (gi_at_builtin; refine wpListIn_append_own _ rfl _ _ 23 rfl W0.heap.size 3 i0 (.int .i64 0) 1 8 Tryd.underlying23 hi hz0 hz1 hz2 rfl (by decide) _ _ _ rfl (hrow.alloc _) ⟨W.heap.size, 0, none⟩ 1 1 [.int .i64 x.2.1] rfl rfl (cell_one_new _ _ _) (by simp [Value.oneCell']) (by unfold maxLen; omega) (by omega) (by simp; omega) ?_; intro v' w1 hown' hgrow _; obtain ⟨g', cap', rfl⟩ := ownsRow_succ hown'; obtain ⟨hv1, hv2, hr2, hk2, hb2, hb3⟩ := box_app hv HR.out hB.size (Nat.le_succ _) (by omega) (ownApp hown') hgrow; have hc3 := hv1.cell; have hf3 := hv1.frozen)
      refine ⟨hk2.from _, ⟨hb3 _ (by omega) (by omega) (by omega), hb3 _ (by omega) (by omega) (by omega)⟩, ⟨_, hv2, ?_, trivial⟩, hB.trans hb2, Nat.le_trans hsW hb2.size⟩
      rw [HM.out]; exact ownRow hr2
  case done =>
    rintro D ys W hD rfl ⟨⟨v, hv, hrow, _⟩, hB, hsW⟩ hK
    have hc := hv.cell
    gi_wp2
    refine ⟨by simp, .inl ⟨_, _, rfl, run_takeDeferred hK, ?_⟩⟩
    refine ⟨_, results_tmp rfl _ _ _, v, rfl, ?_, hB.trans (belowK_b (w := w) (Nat.le_refl _) W D _ _ (by omega) hK rfl rfl)⟩
    have h2 := ownsRow_putObj hrow (.deferred none) hK rfl
    rw [coll_all] at h2
    have h3 : Own (W.putObj D (.deferred none)) W0.heap.size v (zI (down L 16)) := by
      show World.ownsRow _ _ _ _ _ _ _
      rw [zI_length]; exact h2
    refine ⟨h3.1, ?_⟩
    rcases h3.2 with hn | ⟨g, cap, cur, e, hg, r⟩
    · exact Or.inl hn
    · exact Or.inr ⟨g, cap, cur, e, by omega, r⟩
  case stop =>
    rintro D c pre W _ _ h _
    exact h.elim

theorem rowsOn_any (L : Lad) (hl : L.length = 16) (w : World) :
    Calls Tryd.prog 91 #[.agg (ladCells L)] w fun e W' => ∃ v, e = .returned v ∧ Own W' w.heap.size v (zI (down L 16)) ∧ Below w.heap.size w W' :=
  (callsIn_wide (n := 3)).1 (rowsOn_in Fence.wide 3 trivial trivial trivial rfl (by omega) L hl w)
end Go.Proofs.YtdoogleggdlddaaDoor
