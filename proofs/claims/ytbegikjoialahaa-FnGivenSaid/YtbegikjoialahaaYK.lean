/-
  Exact laws of chapter 11, walked, whatever the program's own texts are: NewGiver, GoodGiver, LostIn, RoomIn, PlayGiver.
-/
import Derived.Test.YtbegikjoialahaaGY
import Derived.Test.YtbegikjoialahaaVO
namespace Go.Proofs.Ytbegikjoialahaa
open Go.RowKit

theorem own_bols11 {w : World} {base n c : Nat} {A : Option Addr} {L : List Bool} (h : OwnR 4 1 fB1 w base (.slice A n c) L) : Bols w A L := by
  obtain ⟨A', c', e, hb⟩ := (bo_own h).form
  injection e with e1
  subst e1
  exact hb
theorem eqBo_self (A B : Option Addr) (l : List Bool) (ca cb : Nat) (w : World) (ha : Bols w A l) (hb : Bols w B l) (hl : l.length ≤ 1048576) :
    Calls Try.prog 37 #[.slice A l.length ca, .slice B l.length cb] w fun e w' => e = .returned (.bool true) ∧ Below w.heap.size w w' :=
  (eqBoolS_any A B l l ca cb w ha hb hl).mono (fun _ _ h => by obtain ⟨he, n, rfl⟩ := h; exact ⟨by rw [he, eqT_self], gDrewN n⟩)
theorem markBo_any (v : Value) (l : List Bool) (base : Nat) (k : Int) (w : World) (ho : OwnR 4 1 fB1 w base v l) (hl : l.length ≤ 1048576) (hk0 : 0 ≤ k) (hk1 : k ≤ 1000000000) :
    Calls Try.prog 40 #[v, .int .i64 k] w fun e w' => e = .returned (.int .i64 (k + (l.length : Int))) ∧ OwnR 4 1 fB1 w' base v (markT k l.length) ∧ w.grownBy w' v.ownBlock :=
  (markBoolS_any v l base k w (bo_own ho) hl hk0 hk1).mono (fun _ _ h => ⟨h.1, own_bo h.2.1, h.2.2⟩)
theorem heldBo_any (A : Option Addr) (k : Int) (n c : Nat) (w : World) (ha : Bols w A (markT k n)) (hn : n ≤ 1048576) (hk0 : 0 ≤ k) (hk1 : k ≤ 1000000000) :
    Calls Try.prog 41 #[.slice A n c, .int .i64 k] w fun e w' => e = .returned (.int .i64 (k + (n : Int))) ∧ Below w.heap.size w w' :=
  (heldBoolS_any A k n c w ha hn hk0 hk1).mono (fun _ _ h => ⟨h.1, h.2 ▸ Below.refl _ _⟩)
theorem sNewGv5 (w : World) : Calls Try.prog 21 #[] w fun e w' => ∃ v, e = .returned (gvV 1 4 0 v) ∧ Own w' w.heap.size v [] ∧ Below w.heap.size w w' :=
  (sNewGv w).mono (fun _ _ h => ⟨_, h.1, Own.nil _ _, h.2⟩)
theorem play5 {l : List Idc} {w : World} {e : Ending} {w' : World} (h : ∃ v d, e = .returned (.tuple #[gvV (pyG l).1 (pyG l).2.1 (pyG l).2.2.1 v, d, .bool (decide (l.length ≤ 40))]) ∧ Own w' w.heap.size v (pyG l).2.2.2 ∧ OwnT w' w.heap.size d (pyD l) ∧ (∀ q, v.ownBlock = some q → d.ownBlock ≠ some q) ∧ Below w.heap.size w w') :
    ∃ v1 v2, e = .returned (.tuple #[gvV (pyG l).1 (pyG l).2.1 (pyG l).2.2.1 v1, v2, .bool (decide (l.length ≤ 40))]) ∧ (Own w' w.heap.size v1 (pyG l).2.2.2 ∧ OwnR 4 1 fB1 w' w.heap.size v2 (pyD l) ∧ (v1.ownBlock = none ∨ v1.ownBlock ≠ v2.ownBlock)) ∧ Below w.heap.size w w' := by
  obtain ⟨v, d, he, h1, h2, h3, h4⟩ := h
  refine ⟨v, d, he, ⟨h1, own_bo h2, ?_⟩, h4⟩
  cases hv : v.ownBlock with
  | none => exact Or.inl rfl
  | some q => exact Or.inr (fun e => h3 q hv e.symm)
theorem sPlay5 (A : Option Addr) (l : List Idc) (ca : Nat) (w : World) (ha : RdR 2 fId w A l) (hl : l.length ≤ 1048576) :
    Calls Try.prog 13 #[.slice A l.length ca] w fun e w' => ∃ v1 v2, e = .returned (.tuple #[gvV (pyG l).1 (pyG l).2.1 (pyG l).2.2.1 v1, v2, .bool (decide (l.length ≤ 40))]) ∧ (Own w' w.heap.size v1 (pyG l).2.2.2 ∧ OwnR 4 1 fB1 w' w.heap.size v2 (pyD l) ∧ (v1.ownBlock = none ∨ v1.ownBlock ≠ v2.ownBlock)) ∧ Below w.heap.size w w' :=
  (sPlayG A l ca w ha hl).mono (fun _ _ h => play5 h)
theorem py_len (l : List Idc) : (pyG l).2.2.2.length ≤ 60 := by
  rw [pyG]; split
  · exact (gvr_ok (pg_good l)).2.2.2.2.2
  · simp
theorem pyD_len (l : List Idc) : (pyD l).length ≤ 40 := by
  rw [pyD]; split
  · rw [pgD_len]; assumption
  · simp

set_option maxRecDepth 100000 in
set_option maxHeartbeats 8000000 in
theorem newGiver_law {K : World → Prop} (hK : Stays5 K) (hI : ∀ (w : World), K w → Calls Try.prog 20 #[] w fun e w' => ∃ v1, e = .returned (gvV 1 4 0 v1) ∧ Own w' w.heap.size v1 ([]) ∧ Below w.heap.size w w')
     (w : World) (hw : K w) : Calls Try.prog 5 #[] w fun e w' => e = .returned (.bool true) ∧ Below w.heap.size w w' := by
  have HI := Lib.hid (fun w hk => hI w hk)
  have HW := Lib.hid hw
  have HS0 := Lib.hid (fun w => sNewGv5 w)
  clear hI hw
  have hV : ([] : List Int).length ≤ 60 := by decide
  generalize ([] : List Int) = V at *
  go_enter Try.func5, Try.ntmps5
  go_wp2_with fail
  refine (HS0.out _).mono ?_
  rintro e w1 ⟨vr10, rfl, hor10, hbr1⟩
  obtain ⟨Ar10, cr10, hvr10, hcapr10, _⟩ := gFormC hor10
  subst hvr10
  have Hr10_1 := Lib.hid (hor10)
  have HB_1 := Lib.hid (hbr1)
  clear hor10 hbr1
  obtain ⟨w2, hw2⟩ : ∃ wn, w1.alloc (.cells #[.int .i64 1, .int .i64 4, .int .i64 0, .slice Ar10 V.length cr10] 27) = wn := ⟨_, rfl⟩
  have hbx : Below w1.heap.size w1 w2 := by rw [← hw2]; exact gAlloc _ _
  have KX : w2.heap[w1.heap.size]? = some (.cells #[.int .i64 1, .int .i64 4, .int .i64 0, .slice Ar10 V.length cr10] 27 (0, 0)) := by rw [← hw2]; exact heap_alloc_new _ _
  have HNX_w0_r10 := Lib.hid (fun g hg => Nat.ne_of_lt (Hr10_1.out.lt g hg).2)
  have Hr10_3 := Lib.hid (Hr10_1.out.below hbx)
  have HB_3 := Lib.hid (below_more HB_1.out hbx)
  clear Hr10_1 HB_1
  have Kw0_2 := Lib.hid KX
  clear hbx KX
  have cw0_0 : w2.cell? ⟨w1.heap.size, 0, none⟩ = some (.int .i64 1) := cell_of_row _ _ 0 _ _ _ Kw0_2.out
  have cw0_1 : w2.cell? ⟨w1.heap.size, 1, none⟩ = some (.int .i64 4) := cell_of_row _ _ 1 _ _ _ Kw0_2.out
  have cw0_2 : w2.cell? ⟨w1.heap.size, 2, none⟩ = some (.int .i64 0) := cell_of_row _ _ 2 _ _ _ Kw0_2.out
  have cw0_3 : w2.cell? ⟨w1.heap.size, 3, none⟩ = some (.slice Ar10 V.length cr10) := cell_of_row _ _ 3 _ _ _ Kw0_2.out
  go_wp2_with fail
  clear cw0_0 cw0_1 cw0_2 cw0_3 hw2
  refine (HI.out _ (hK _ _ HW.out HB_3.out)).mono ?_
  rintro e w3 ⟨vr20, rfl, hor20, hbr2⟩
  obtain ⟨Ar20, cr20, hvr20, hcapr20, _⟩ := gFormC hor20
  subst hvr20
  have HAp_r10_r20 := Lib.hid (apart5 (fun k hk => (Hr10_3.out.lt k hk).2) (fun k hk => (hor20.lt k hk).1))
  have HNX_w0_r20 := Lib.hid (fun g hg => Nat.ne_of_gt (Nat.lt_of_lt_of_le (heap_lt Kw0_2.out) (hor20.lt g hg).1))
  have Hr10_4 := Lib.hid (Hr10_3.out.below hbr2)
  have Hr20_4 := Lib.hid (hor20.lower HB_3.out.size)
  have Kw0_4 := Lib.hid ((hbr2.block _ (heap_lt Kw0_2.out)).trans Kw0_2.out)
  have HB_4 := Lib.hid (below_more HB_3.out hbr2)
  clear Hr10_3 Kw0_2 HB_3 hor20 hbr2
  obtain ⟨w4, hw5⟩ : ∃ wn, w3.alloc (.cells #[.int .i64 1, .int .i64 4, .int .i64 0, .slice Ar20 V.length cr20] 27) = wn := ⟨_, rfl⟩
  have hbx : Below w3.heap.size w3 w4 := by rw [← hw5]; exact gAlloc _ _
  have KX : w4.heap[w3.heap.size]? = some (.cells #[.int .i64 1, .int .i64 4, .int .i64 0, .slice Ar20 V.length cr20] 27 (0, 0)) := by rw [← hw5]; exact heap_alloc_new _ _
  have HNX_g0_r10 := Lib.hid (fun g hg => Nat.ne_of_lt (Hr10_4.out.lt g hg).2)
  have HNX_g0_r20 := Lib.hid (fun g hg => Nat.ne_of_lt (Hr20_4.out.lt g hg).2)
  have Hr10_6 := Lib.hid (Hr10_4.out.below hbx)
  have Hr20_6 := Lib.hid (Hr20_4.out.below hbx)
  have Kw0_6 := Lib.hid ((hbx.block _ (heap_lt Kw0_4.out)).trans Kw0_4.out)
  have HB_6 := Lib.hid (below_more HB_4.out hbx)
  clear Hr10_4 Hr20_4 Kw0_4 HB_4
  have Kg0_5 := Lib.hid KX
  clear hbx KX
  have cw0_0 : w4.cell? ⟨w1.heap.size, 0, none⟩ = some (.int .i64 1) := cell_of_row _ _ 0 _ _ _ Kw0_6.out
  have cw0_1 : w4.cell? ⟨w1.heap.size, 1, none⟩ = some (.int .i64 4) := cell_of_row _ _ 1 _ _ _ Kw0_6.out
  have cw0_2 : w4.cell? ⟨w1.heap.size, 2, none⟩ = some (.int .i64 0) := cell_of_row _ _ 2 _ _ _ Kw0_6.out
  have cw0_3 : w4.cell? ⟨w1.heap.size, 3, none⟩ = some (.slice Ar10 V.length cr10) := cell_of_row _ _ 3 _ _ _ Kw0_6.out
  have cg0_0 : w4.cell? ⟨w3.heap.size, 0, none⟩ = some (.int .i64 1) := cell_of_row _ _ 0 _ _ _ Kg0_5.out
  have cg0_1 : w4.cell? ⟨w3.heap.size, 1, none⟩ = some (.int .i64 4) := cell_of_row _ _ 1 _ _ _ Kg0_5.out
  have cg0_2 : w4.cell? ⟨w3.heap.size, 2, none⟩ = some (.int .i64 0) := cell_of_row _ _ 2 _ _ _ Kg0_5.out
  have cg0_3 : w4.cell? ⟨w3.heap.size, 3, none⟩ = some (.slice Ar20 V.length cr20) := cell_of_row _ _ 3 _ _ _ Kg0_5.out
  go_wp2_with fail
  clear cw0_0 cw0_1 cw0_2 cw0_3 cg0_0 cg0_1 cg0_2 cg0_3 hw5
  refine (eqGv_self 1 4 0 Ar20 Ar10 V cr20 cr10 _ (own_ints5 Hr20_6.out) (own_ints5 Hr10_6.out) (by omega)).mono ?_
  rintro e w5 ⟨rfl, hbq⟩
  have Hr10_7 := Lib.hid (Hr10_6.out.below hbq)
  have Hr20_7 := Lib.hid (Hr20_6.out.below hbq)
  have Kw0_7 := Lib.hid ((hbq.block _ (heap_lt Kw0_6.out)).trans Kw0_6.out)
  have Kg0_7 := Lib.hid ((hbq.block _ (heap_lt Kg0_5.out)).trans Kg0_5.out)
  have HB_7 := Lib.hid (below_more HB_6.out hbq)
  clear Hr10_6 Hr20_6 Kw0_6 Kg0_5 HB_6
  clear hbq
  have cw0_0 : w5.cell? ⟨w1.heap.size, 0, none⟩ = some (.int .i64 1) := cell_of_row _ _ 0 _ _ _ Kw0_7.out
  have cw0_1 : w5.cell? ⟨w1.heap.size, 1, none⟩ = some (.int .i64 4) := cell_of_row _ _ 1 _ _ _ Kw0_7.out
  have cw0_2 : w5.cell? ⟨w1.heap.size, 2, none⟩ = some (.int .i64 0) := cell_of_row _ _ 2 _ _ _ Kw0_7.out
  have cw0_3 : w5.cell? ⟨w1.heap.size, 3, none⟩ = some (.slice Ar10 V.length cr10) := cell_of_row _ _ 3 _ _ _ Kw0_7.out
  have cg0_0 : w5.cell? ⟨w3.heap.size, 0, none⟩ = some (.int .i64 1) := cell_of_row _ _ 0 _ _ _ Kg0_7.out
  have cg0_1 : w5.cell? ⟨w3.heap.size, 1, none⟩ = some (.int .i64 4) := cell_of_row _ _ 1 _ _ _ Kg0_7.out
  have cg0_2 : w5.cell? ⟨w3.heap.size, 2, none⟩ = some (.int .i64 0) := cell_of_row _ _ 2 _ _ _ Kg0_7.out
  have cg0_3 : w5.cell? ⟨w3.heap.size, 3, none⟩ = some (.slice Ar20 V.length cr20) := cell_of_row _ _ 3 _ _ _ Kg0_7.out
  go_wp2_with fail
  clear cw0_0 cw0_1 cw0_2 cw0_3 cg0_0 cg0_1 cg0_2 cg0_3
  refine (markGv_any 1 4 0 _ V _ 1 _ Hr20_7.out (by omega) (by omega) (by omega)).mono ?_
  rintro e w6 ⟨rfl, hm0, hg0⟩
  have Hr10_8 := Lib.hid (Hr10_7.out.kept hg0 HAp_r10_r20.out)
  have Kw0_8 := Lib.hid ((hg0.block _ (heap_lt Kw0_7.out) (fun e => HNX_w0_r20.out _ e.symm rfl)).trans Kw0_7.out)
  have Kg0_8 := Lib.hid ((hg0.block _ (heap_lt Kg0_7.out) (fun e => HNX_g0_r20.out _ e.symm rfl)).trans Kg0_7.out)
  have HMb0 := Lib.hid (fun k hk => (Hr20_7.out.lt k hk).1)
  have HB_8 : Hid (Below w.heap.size w w6) := (HB_7.out.grown hg0 HB_7.out.size HMb0.out)
  have Hr20_8 := Lib.hid hm0
  clear Hr10_7 Kw0_7 Kg0_7 HB_7 Hr20_7 hm0 hg0 HMb0
  have cw0_0 : w6.cell? ⟨w1.heap.size, 0, none⟩ = some (.int .i64 1) := cell_of_row _ _ 0 _ _ _ Kw0_8.out
  have cw0_1 : w6.cell? ⟨w1.heap.size, 1, none⟩ = some (.int .i64 4) := cell_of_row _ _ 1 _ _ _ Kw0_8.out
  have cw0_2 : w6.cell? ⟨w1.heap.size, 2, none⟩ = some (.int .i64 0) := cell_of_row _ _ 2 _ _ _ Kw0_8.out
  have cw0_3 : w6.cell? ⟨w1.heap.size, 3, none⟩ = some (.slice Ar10 V.length cr10) := cell_of_row _ _ 3 _ _ _ Kw0_8.out
  have cg0_0 : w6.cell? ⟨w3.heap.size, 0, none⟩ = some (.int .i64 1) := cell_of_row _ _ 0 _ _ _ Kg0_8.out
  have cg0_1 : w6.cell? ⟨w3.heap.size, 1, none⟩ = some (.int .i64 4) := cell_of_row _ _ 1 _ _ _ Kg0_8.out
  have cg0_2 : w6.cell? ⟨w3.heap.size, 2, none⟩ = some (.int .i64 0) := cell_of_row _ _ 2 _ _ _ Kg0_8.out
  have cg0_3 : w6.cell? ⟨w3.heap.size, 3, none⟩ = some (.slice Ar20 V.length cr20) := cell_of_row _ _ 3 _ _ _ Kg0_8.out
  go_wp2_with fail
  clear cw0_0 cw0_1 cw0_2 cw0_3 cg0_0 cg0_1 cg0_2 cg0_3
  refine (heldGv_any 1 4 0 Ar20 1 V.length cr20 _ (own_ints5 Hr20_8.out) (by omega) (by omega) (by omega)).mono ?_
  rintro e w7 ⟨rfl, hbq⟩
  have Hr10_9 := Lib.hid (Hr10_8.out.below hbq)
  have Hr20_9 := Lib.hid (Hr20_8.out.below hbq)
  have Kw0_9 := Lib.hid ((hbq.block _ (heap_lt Kw0_8.out)).trans Kw0_8.out)
  have Kg0_9 := Lib.hid ((hbq.block _ (heap_lt Kg0_8.out)).trans Kg0_8.out)
  have HB_9 := Lib.hid (below_more HB_8.out hbq)
  clear Hr10_8 Hr20_8 Kw0_8 Kg0_8 HB_8
  clear hbq
  have cw0_0 : w7.cell? ⟨w1.heap.size, 0, none⟩ = some (.int .i64 1) := cell_of_row _ _ 0 _ _ _ Kw0_9.out
  have cw0_1 : w7.cell? ⟨w1.heap.size, 1, none⟩ = some (.int .i64 4) := cell_of_row _ _ 1 _ _ _ Kw0_9.out
  have cw0_2 : w7.cell? ⟨w1.heap.size, 2, none⟩ = some (.int .i64 0) := cell_of_row _ _ 2 _ _ _ Kw0_9.out
  have cw0_3 : w7.cell? ⟨w1.heap.size, 3, none⟩ = some (.slice Ar10 V.length cr10) := cell_of_row _ _ 3 _ _ _ Kw0_9.out
  have cg0_0 : w7.cell? ⟨w3.heap.size, 0, none⟩ = some (.int .i64 1) := cell_of_row _ _ 0 _ _ _ Kg0_9.out
  have cg0_1 : w7.cell? ⟨w3.heap.size, 1, none⟩ = some (.int .i64 4) := cell_of_row _ _ 1 _ _ _ Kg0_9.out
  have cg0_2 : w7.cell? ⟨w3.heap.size, 2, none⟩ = some (.int .i64 0) := cell_of_row _ _ 2 _ _ _ Kg0_9.out
  have cg0_3 : w7.cell? ⟨w3.heap.size, 3, none⟩ = some (.slice Ar20 V.length cr20) := cell_of_row _ _ 3 _ _ _ Kg0_9.out
  go_wp2_with fail
  clear cw0_0 cw0_1 cw0_2 cw0_3 cg0_0 cg0_1 cg0_2 cg0_3
  refine (HI.out _ (hK _ _ HW.out HB_9.out)).mono ?_
  rintro e w8 ⟨vr30, rfl, hor30, hbr3⟩
  obtain ⟨Ar30, cr30, hvr30, hcapr30, _⟩ := gFormC hor30
  subst hvr30
  have HAp_r10_r30 := Lib.hid (apart5 (fun k hk => (Hr10_9.out.lt k hk).2) (fun k hk => (hor30.lt k hk).1))
  have HAp_r20_r30 := Lib.hid (apart5 (fun k hk => (Hr20_9.out.lt k hk).2) (fun k hk => (hor30.lt k hk).1))
  have HNX_w0_r30 := Lib.hid (fun g hg => Nat.ne_of_gt (Nat.lt_of_lt_of_le (heap_lt Kw0_9.out) (hor30.lt g hg).1))
  have HNX_g0_r30 := Lib.hid (fun g hg => Nat.ne_of_gt (Nat.lt_of_lt_of_le (heap_lt Kg0_9.out) (hor30.lt g hg).1))
  have Hr10_10 := Lib.hid (Hr10_9.out.below hbr3)
  have Hr20_10 := Lib.hid (Hr20_9.out.below hbr3)
  have Hr30_10 := Lib.hid (hor30.lower HB_9.out.size)
  have Kw0_10 := Lib.hid ((hbr3.block _ (heap_lt Kw0_9.out)).trans Kw0_9.out)
  have Kg0_10 := Lib.hid ((hbr3.block _ (heap_lt Kg0_9.out)).trans Kg0_9.out)
  have HB_10 := Lib.hid (below_more HB_9.out hbr3)
  clear Hr10_9 Hr20_9 Kw0_9 Kg0_9 HB_9 hor30 hbr3
  obtain ⟨w9, hw11⟩ : ∃ wn, w8.alloc (.cells #[.int .i64 1, .int .i64 4, .int .i64 0, .slice Ar30 V.length cr30] 27) = wn := ⟨_, rfl⟩
  have hbx : Below w8.heap.size w8 w9 := by rw [← hw11]; exact gAlloc _ _
  have KX : w9.heap[w8.heap.size]? = some (.cells #[.int .i64 1, .int .i64 4, .int .i64 0, .slice Ar30 V.length cr30] 27 (0, 0)) := by rw [← hw11]; exact heap_alloc_new _ _
  have HNX_h0_r10 := Lib.hid (fun g hg => Nat.ne_of_lt (Hr10_10.out.lt g hg).2)
  have HNX_h0_r20 := Lib.hid (fun g hg => Nat.ne_of_lt (Hr20_10.out.lt g hg).2)
  have HNX_h0_r30 := Lib.hid (fun g hg => Nat.ne_of_lt (Hr30_10.out.lt g hg).2)
  have Hr10_12 := Lib.hid (Hr10_10.out.below hbx)
  have Hr20_12 := Lib.hid (Hr20_10.out.below hbx)
  have Hr30_12 := Lib.hid (Hr30_10.out.below hbx)
  have Kw0_12 := Lib.hid ((hbx.block _ (heap_lt Kw0_10.out)).trans Kw0_10.out)
  have Kg0_12 := Lib.hid ((hbx.block _ (heap_lt Kg0_10.out)).trans Kg0_10.out)
  have HB_12 := Lib.hid (below_more HB_10.out hbx)
  clear Hr10_10 Hr20_10 Hr30_10 Kw0_10 Kg0_10 HB_10
  have Kh0_11 := Lib.hid KX
  clear hbx KX
  have cw0_0 : w9.cell? ⟨w1.heap.size, 0, none⟩ = some (.int .i64 1) := cell_of_row _ _ 0 _ _ _ Kw0_12.out
  have cw0_1 : w9.cell? ⟨w1.heap.size, 1, none⟩ = some (.int .i64 4) := cell_of_row _ _ 1 _ _ _ Kw0_12.out
  have cw0_2 : w9.cell? ⟨w1.heap.size, 2, none⟩ = some (.int .i64 0) := cell_of_row _ _ 2 _ _ _ Kw0_12.out
  have cw0_3 : w9.cell? ⟨w1.heap.size, 3, none⟩ = some (.slice Ar10 V.length cr10) := cell_of_row _ _ 3 _ _ _ Kw0_12.out
  have cg0_0 : w9.cell? ⟨w3.heap.size, 0, none⟩ = some (.int .i64 1) := cell_of_row _ _ 0 _ _ _ Kg0_12.out
  have cg0_1 : w9.cell? ⟨w3.heap.size, 1, none⟩ = some (.int .i64 4) := cell_of_row _ _ 1 _ _ _ Kg0_12.out
  have cg0_2 : w9.cell? ⟨w3.heap.size, 2, none⟩ = some (.int .i64 0) := cell_of_row _ _ 2 _ _ _ Kg0_12.out
  have cg0_3 : w9.cell? ⟨w3.heap.size, 3, none⟩ = some (.slice Ar20 V.length cr20) := cell_of_row _ _ 3 _ _ _ Kg0_12.out
  have ch0_0 : w9.cell? ⟨w8.heap.size, 0, none⟩ = some (.int .i64 1) := cell_of_row _ _ 0 _ _ _ Kh0_11.out
  have ch0_1 : w9.cell? ⟨w8.heap.size, 1, none⟩ = some (.int .i64 4) := cell_of_row _ _ 1 _ _ _ Kh0_11.out
  have ch0_2 : w9.cell? ⟨w8.heap.size, 2, none⟩ = some (.int .i64 0) := cell_of_row _ _ 2 _ _ _ Kh0_11.out
  have ch0_3 : w9.cell? ⟨w8.heap.size, 3, none⟩ = some (.slice Ar30 V.length cr30) := cell_of_row _ _ 3 _ _ _ Kh0_11.out
  go_wp2_with fail
  clear cw0_0 cw0_1 cw0_2 cw0_3 cg0_0 cg0_1 cg0_2 cg0_3 ch0_0 ch0_1 ch0_2 ch0_3 hw11
  refine (eqGv_self 1 4 0 Ar30 Ar10 V cr30 cr10 _ (own_ints5 Hr30_12.out) (own_ints5 Hr10_12.out) (by omega)).mono ?_
  rintro e w10 ⟨rfl, hbq⟩
  have Hr10_13 := Lib.hid (Hr10_12.out.below hbq)
  have Hr20_13 := Lib.hid (Hr20_12.out.below hbq)
  have Hr30_13 := Lib.hid (Hr30_12.out.below hbq)
  have Kw0_13 := Lib.hid ((hbq.block _ (heap_lt Kw0_12.out)).trans Kw0_12.out)
  have Kg0_13 := Lib.hid ((hbq.block _ (heap_lt Kg0_12.out)).trans Kg0_12.out)
  have Kh0_13 := Lib.hid ((hbq.block _ (heap_lt Kh0_11.out)).trans Kh0_11.out)
  have HB_13 := Lib.hid (below_more HB_12.out hbq)
  clear Hr10_12 Hr20_12 Hr30_12 Kw0_12 Kg0_12 Kh0_11 HB_12
  clear hbq
  clear Hr10_13
  clear Kw0_13
  clear Hr30_13
  clear Kh0_13
  have cg0_0 : w10.cell? ⟨w3.heap.size, 0, none⟩ = some (.int .i64 1) := cell_of_row _ _ 0 _ _ _ Kg0_13.out
  have cg0_1 : w10.cell? ⟨w3.heap.size, 1, none⟩ = some (.int .i64 4) := cell_of_row _ _ 1 _ _ _ Kg0_13.out
  have cg0_2 : w10.cell? ⟨w3.heap.size, 2, none⟩ = some (.int .i64 0) := cell_of_row _ _ 2 _ _ _ Kg0_13.out
  have cg0_3 : w10.cell? ⟨w3.heap.size, 3, none⟩ = some (.slice Ar20 V.length cr20) := cell_of_row _ _ 3 _ _ _ Kg0_13.out
  go_wp2_with fail
  clear cg0_0 cg0_1 cg0_2 cg0_3
  refine (heldGv_any 1 4 0 Ar20 1 V.length cr20 _ (own_ints5 Hr20_13.out) (by omega) (by omega) (by omega)).mono ?_
  rintro e w11 ⟨rfl, hbq⟩
  have Hr20_14 := Lib.hid (Hr20_13.out.below hbq)
  have Kg0_14 := Lib.hid ((hbq.block _ (heap_lt Kg0_13.out)).trans Kg0_13.out)
  have HB_14 := Lib.hid (below_more HB_13.out hbq)
  clear Hr20_13 Kg0_13 HB_13
  clear hbq
  go_wp2_with fail
  go_ret
  exact ⟨rfl, HB_14.out⟩

set_option maxRecDepth 100000 in
set_option maxHeartbeats 8000000 in
theorem goodGiver_law {K : World → Prop} (hK : Stays5 K) (hI : ∀ (n a s : Int) (A : Option Addr) (zs : List Int) (ca : Nat) (w : World), K w → Ints w A zs → Lies9 A ca → zs.length ≤ 1048576 → -9223372036854775808 ≤ s → Calls Try.prog 17 #[gvV n a s (.slice A zs.length ca)] w fun e w' => e = .returned (.bool (goodGB n a s zs)) ∧ Below w.heap.size w w')
    (n a s : Int) (A : Option Addr) (zs : List Int) (ca : Nat) (w : World) (hw : K w) (hA : Ints w A zs) (hl : zs.length ≤ 9223372036854775807) (hs : -9223372036854775808 ≤ s) : Calls Try.prog 6 #[gvV n a s (.slice A zs.length ca)] w fun e w' => e = .returned (.bool true) ∧ Below w.heap.size w w' := by
  have HRA := Lib.hid hA
  have HI := Lib.hid (fun A c w hk hA hL hz => hI n a s A zs c w hk hA hL hz hs)
  have HW := Lib.hid hw
  have HS0 := Lib.hid (fun A c w h hl => sGoodG_any n a s A zs c w h hl)
  clear hI hw hA
  generalize goodGB n a s zs = bb at *
  obtain ⟨w1, hw1⟩ : ∃ wn, w.alloc (.cells #[.int .i64 n, .int .i64 a, .int .i64 s, .slice A zs.length ca] 47) = wn := ⟨_, rfl⟩
  have hbx : Below w.heap.size w w1 := by rw [← hw1]; exact gAlloc _ _
  have KX : w1.heap[w.heap.size]? = some (.cells #[.int .i64 n, .int .i64 a, .int .i64 s, .slice A zs.length ca] 47 (0, 0)) := by rw [← hw1]; exact heap_alloc_new _ _
  have HB_2 := Lib.hid (hbx)
  have KaG_1 := Lib.hid KX
  clear hbx KX
  go_enter Try.func6, Try.ntmps6
  have caG_0 : w1.cell? ⟨w.heap.size, 0, none⟩ = some (.int .i64 n) := cell_of_row _ _ 0 _ _ _ KaG_1.out
  have caG_1 : w1.cell? ⟨w.heap.size, 1, none⟩ = some (.int .i64 a) := cell_of_row _ _ 1 _ _ _ KaG_1.out
  have caG_2 : w1.cell? ⟨w.heap.size, 2, none⟩ = some (.int .i64 s) := cell_of_row _ _ 2 _ _ _ KaG_1.out
  have caG_3 : w1.cell? ⟨w.heap.size, 3, none⟩ = some (.slice A zs.length ca) := cell_of_row _ _ 3 _ _ _ KaG_1.out
  go_wp2_with fail
  clear caG_0 caG_1 caG_2 caG_3 hw1
  refine (szGv_any n a s A zs.length ca 1048576 _ hl (by omega) (by omega)).mono ?_
  rintro e w2 ⟨⟨rz, rfl, hrz⟩, hbq⟩
  have KaG_3 := Lib.hid ((hbq.block _ (heap_lt KaG_1.out)).trans KaG_1.out)
  have HB_3 := Lib.hid (below_more HB_2.out hbq)
  clear KaG_1 HB_2
  clear hbq
  rcases hrz with hrz | ⟨hrz0, hrz1⟩
  · go_wp2_with fail
    go_ret
    exact ⟨rfl, HB_3.out⟩
  have hlz : zs.length ≤ 1048576 := by omega
  have hrzn : ¬ rz < 0 := by omega
  clear hl hrz1
  have caG_0 : w2.cell? ⟨w.heap.size, 0, none⟩ = some (.int .i64 n) := cell_of_row _ _ 0 _ _ _ KaG_3.out
  have caG_1 : w2.cell? ⟨w.heap.size, 1, none⟩ = some (.int .i64 a) := cell_of_row _ _ 1 _ _ _ KaG_3.out
  have caG_2 : w2.cell? ⟨w.heap.size, 2, none⟩ = some (.int .i64 s) := cell_of_row _ _ 2 _ _ _ KaG_3.out
  have caG_3 : w2.cell? ⟨w.heap.size, 3, none⟩ = some (.slice A zs.length ca) := cell_of_row _ _ 3 _ _ _ KaG_3.out
  go_wp2_with fail
  clear caG_0 caG_1 caG_2 caG_3
  refine (toGv_any n a s A zs ca _ (HRA.out.below HB_3.out) (by omega)).mono ?_
  rintro e w3 ⟨vt10, rfl, hot10, hbt1⟩
  obtain ⟨At10, ct10, hvt10, hcapt10, _⟩ := gFormC hot10
  subst hvt10
  have HNX_aG_t10 := Lib.hid (fun g hg => Nat.ne_of_gt (Nat.lt_of_lt_of_le (heap_lt KaG_3.out) (hot10.lt g hg).1))
  have Ht10_4 := Lib.hid (hot10.lower HB_3.out.size)
  have KaG_4 := Lib.hid ((hbt1.block _ (heap_lt KaG_3.out)).trans KaG_3.out)
  have HB_4 := Lib.hid (below_more HB_3.out hbt1)
  clear KaG_3 HB_3 hot10 hbt1
  have caG_0 : w3.cell? ⟨w.heap.size, 0, none⟩ = some (.int .i64 n) := cell_of_row _ _ 0 _ _ _ KaG_4.out
  have caG_1 : w3.cell? ⟨w.heap.size, 1, none⟩ = some (.int .i64 a) := cell_of_row _ _ 1 _ _ _ KaG_4.out
  have caG_2 : w3.cell? ⟨w.heap.size, 2, none⟩ = some (.int .i64 s) := cell_of_row _ _ 2 _ _ _ KaG_4.out
  have caG_3 : w3.cell? ⟨w.heap.size, 3, none⟩ = some (.slice A zs.length ca) := cell_of_row _ _ 3 _ _ _ KaG_4.out
  go_wp2_with fail
  clear caG_0 caG_1 caG_2 caG_3
  refine (HS0.out At10 ct10 _ (own_ints5 Ht10_4.out) (by omega)).mono ?_
  rintro e w4 ⟨rfl, hbq⟩
  have Ht10_5 := Lib.hid (Ht10_4.out.below hbq)
  have KaG_5 := Lib.hid ((hbq.block _ (heap_lt KaG_4.out)).trans KaG_4.out)
  have HB_5 := Lib.hid (below_more HB_4.out hbq)
  clear Ht10_4 KaG_4 HB_4
  clear hbq
  clear Ht10_5
  have caG_0 : w4.cell? ⟨w.heap.size, 0, none⟩ = some (.int .i64 n) := cell_of_row _ _ 0 _ _ _ KaG_5.out
  have caG_1 : w4.cell? ⟨w.heap.size, 1, none⟩ = some (.int .i64 a) := cell_of_row _ _ 1 _ _ _ KaG_5.out
  have caG_2 : w4.cell? ⟨w.heap.size, 2, none⟩ = some (.int .i64 s) := cell_of_row _ _ 2 _ _ _ KaG_5.out
  have caG_3 : w4.cell? ⟨w.heap.size, 3, none⟩ = some (.slice A zs.length ca) := cell_of_row _ _ 3 _ _ _ KaG_5.out
  go_wp2_with fail
  clear caG_0 caG_1 caG_2 caG_3
  refine (toGv_any n a s A zs ca _ (HRA.out.below HB_5.out) (by omega)).mono ?_
  rintro e w5 ⟨vx00, rfl, hox00, hbx0⟩
  obtain ⟨Ax00, cx00, hvx00, hcapx00, _⟩ := gFormC hox00
  subst hvx00
  have HNX_aG_x00 := Lib.hid (fun g hg => Nat.ne_of_gt (Nat.lt_of_lt_of_le (heap_lt KaG_5.out) (hox00.lt g hg).1))
  have Hx00_6 := Lib.hid (hox00.lower HB_5.out.size)
  have KaG_6 := Lib.hid ((hbx0.block _ (heap_lt KaG_5.out)).trans KaG_5.out)
  have HB_6 := Lib.hid (below_more HB_5.out hbx0)
  clear KaG_5 HB_5 hox00 hbx0
  obtain ⟨w6, hw7⟩ : ∃ wn, w5.alloc (.cells #[.int .i64 n, .int .i64 a, .int .i64 s, .slice Ax00 zs.length cx00] 27) = wn := ⟨_, rfl⟩
  have hbx : Below w5.heap.size w5 w6 := by rw [← hw7]; exact gAlloc _ _
  have KX : w6.heap[w5.heap.size]? = some (.cells #[.int .i64 n, .int .i64 a, .int .i64 s, .slice Ax00 zs.length cx00] 27 (0, 0)) := by rw [← hw7]; exact heap_alloc_new _ _
  have HNX_x0_x00 := Lib.hid (fun g hg => Nat.ne_of_lt (Hx00_6.out.lt g hg).2)
  have Hx00_8 := Lib.hid (Hx00_6.out.below hbx)
  have KaG_8 := Lib.hid ((hbx.block _ (heap_lt KaG_6.out)).trans KaG_6.out)
  have HB_8 := Lib.hid (below_more HB_6.out hbx)
  clear Hx00_6 KaG_6 HB_6
  have Kx0_7 := Lib.hid KX
  clear hbx KX
  have caG_0 : w6.cell? ⟨w.heap.size, 0, none⟩ = some (.int .i64 n) := cell_of_row _ _ 0 _ _ _ KaG_8.out
  have caG_1 : w6.cell? ⟨w.heap.size, 1, none⟩ = some (.int .i64 a) := cell_of_row _ _ 1 _ _ _ KaG_8.out
  have caG_2 : w6.cell? ⟨w.heap.size, 2, none⟩ = some (.int .i64 s) := cell_of_row _ _ 2 _ _ _ KaG_8.out
  have caG_3 : w6.cell? ⟨w.heap.size, 3, none⟩ = some (.slice A zs.length ca) := cell_of_row _ _ 3 _ _ _ KaG_8.out
  have cx0_0 : w6.cell? ⟨w5.heap.size, 0, none⟩ = some (.int .i64 n) := cell_of_row _ _ 0 _ _ _ Kx0_7.out
  have cx0_1 : w6.cell? ⟨w5.heap.size, 1, none⟩ = some (.int .i64 a) := cell_of_row _ _ 1 _ _ _ Kx0_7.out
  have cx0_2 : w6.cell? ⟨w5.heap.size, 2, none⟩ = some (.int .i64 s) := cell_of_row _ _ 2 _ _ _ Kx0_7.out
  have cx0_3 : w6.cell? ⟨w5.heap.size, 3, none⟩ = some (.slice Ax00 zs.length cx00) := cell_of_row _ _ 3 _ _ _ Kx0_7.out
  go_wp2_with fail
  clear caG_0 caG_1 caG_2 caG_3 cx0_0 cx0_1 cx0_2 cx0_3 hw7
  refine (HI.out Ax00 cx00 _ (hK _ _ HW.out HB_8.out) (own_ints5 Hx00_8.out) (own9_lies Hx00_8.out) (by omega)).mono ?_
  rintro e w7 ⟨rfl, hbq⟩
  have Hx00_9 := Lib.hid (Hx00_8.out.below hbq)
  have KaG_9 := Lib.hid ((hbq.block _ (heap_lt KaG_8.out)).trans KaG_8.out)
  have Kx0_9 := Lib.hid ((hbq.block _ (heap_lt Kx0_7.out)).trans Kx0_7.out)
  have HB_9 := Lib.hid (below_more HB_8.out hbq)
  clear Hx00_8 KaG_8 Kx0_7 HB_8
  clear hbq
  have caG_0 : w7.cell? ⟨w.heap.size, 0, none⟩ = some (.int .i64 n) := cell_of_row _ _ 0 _ _ _ KaG_9.out
  have caG_1 : w7.cell? ⟨w.heap.size, 1, none⟩ = some (.int .i64 a) := cell_of_row _ _ 1 _ _ _ KaG_9.out
  have caG_2 : w7.cell? ⟨w.heap.size, 2, none⟩ = some (.int .i64 s) := cell_of_row _ _ 2 _ _ _ KaG_9.out
  have caG_3 : w7.cell? ⟨w.heap.size, 3, none⟩ = some (.slice A zs.length ca) := cell_of_row _ _ 3 _ _ _ KaG_9.out
  have cx0_0 : w7.cell? ⟨w5.heap.size, 0, none⟩ = some (.int .i64 n) := cell_of_row _ _ 0 _ _ _ Kx0_9.out
  have cx0_1 : w7.cell? ⟨w5.heap.size, 1, none⟩ = some (.int .i64 a) := cell_of_row _ _ 1 _ _ _ Kx0_9.out
  have cx0_2 : w7.cell? ⟨w5.heap.size, 2, none⟩ = some (.int .i64 s) := cell_of_row _ _ 2 _ _ _ Kx0_9.out
  have cx0_3 : w7.cell? ⟨w5.heap.size, 3, none⟩ = some (.slice Ax00 zs.length cx00) := cell_of_row _ _ 3 _ _ _ Kx0_9.out
  go_wp2_with fail
  go_region_held3 (fun w' => w'.cell? ⟨w5.heap.size, 0, none⟩ = some (.int .i64 n) ∧ w'.cell? ⟨w5.heap.size, 1, none⟩ = some (.int .i64 a) ∧ w'.cell? ⟨w5.heap.size, 2, none⟩ = some (.int .i64 s) ∧ w'.cell? ⟨w5.heap.size, 3, none⟩ = some (.slice Ax00 zs.length cx00) ∧ w'.cell? ⟨w.heap.size, 0, none⟩ = some (.int .i64 n) ∧ w'.cell? ⟨w.heap.size, 1, none⟩ = some (.int .i64 a) ∧ w'.cell? ⟨w.heap.size, 2, none⟩ = some (.int .i64 s) ∧ w'.cell? ⟨w.heap.size, 3, none⟩ = some (.slice A zs.length ca)) (first | exact ⟨cx0_0, cx0_1, cx0_2, cx0_3, caG_0, caG_1, caG_2, caG_3⟩ | exact ⟨rr0, rr1, rr2, rr3, rr4, rr5, rr6, rr7⟩ | exact ⟨srr0, srr1, srr2, srr3, srr4, srr5, srr6, srr7⟩ | go_keep) (first
    | (go_at_call 33; refine (toGv_any n a s A zs ca _ ((HRA.out.below HB_9.out).below gDrew) (by omega)).mono ?_; rintro e we ⟨ve0, rfl, hoe0, hbe⟩; have rr0 := (hbe.cell (World.block_lt_of_cell? _ _ cx0_0)).trans cx0_0; have rr1 := (hbe.cell (World.block_lt_of_cell? _ _ cx0_1)).trans cx0_1; have rr2 := (hbe.cell (World.block_lt_of_cell? _ _ cx0_2)).trans cx0_2; have rr3 := (hbe.cell (World.block_lt_of_cell? _ _ cx0_3)).trans cx0_3; have rr4 := (hbe.cell (World.block_lt_of_cell? _ _ caG_0)).trans caG_0; have rr5 := (hbe.cell (World.block_lt_of_cell? _ _ caG_1)).trans caG_1; have rr6 := (hbe.cell (World.block_lt_of_cell? _ _ caG_2)).trans caG_2; have rr7 := (hbe.cell (World.block_lt_of_cell? _ _ caG_3)).trans caG_3; obtain ⟨Ae0, ce0, rfl, hcape0, _⟩ := gFormC hoe0)
    | (go_at_call 29; refine (eqGv_self n a s Ax00 Ae0 zs cx00 ce0 _ (own_ints5 (Lib.hid ((Hx00_9.out.below gDrew).below hbe)).out) (own_ints5 (Lib.hid hoe0).out) (by omega)).mono ?_; rintro e w8 ⟨rfl, hbf⟩; have srr0 := (hbf.cell (World.block_lt_of_cell? _ _ rr0)).trans rr0; have srr1 := (hbf.cell (World.block_lt_of_cell? _ _ rr1)).trans rr1; have srr2 := (hbf.cell (World.block_lt_of_cell? _ _ rr2)).trans rr2; have srr3 := (hbf.cell (World.block_lt_of_cell? _ _ rr3)).trans rr3; have srr4 := (hbf.cell (World.block_lt_of_cell? _ _ rr4)).trans rr4; have srr5 := (hbf.cell (World.block_lt_of_cell? _ _ rr5)).trans rr5; have srr6 := (hbf.cell (World.block_lt_of_cell? _ _ rr6)).trans rr6; have srr7 := (hbf.cell (World.block_lt_of_cell? _ _ rr7)).trans rr7))
  have hbq := below_more gDrew (below_more hbe hbf)
  clear srr0 srr1 srr2 srr3 srr4 srr5 srr6 srr7 rr0 rr1 rr2 rr3 rr4 rr5 rr6 rr7 caG_0 caG_1 caG_2 caG_3 cx0_0 cx0_1 cx0_2 cx0_3 hoe0
  have Hx00_10 := Lib.hid (Hx00_9.out.below hbq)
  have KaG_10 := Lib.hid ((hbq.block _ (heap_lt KaG_9.out)).trans KaG_9.out)
  have Kx0_10 := Lib.hid ((hbq.block _ (heap_lt Kx0_9.out)).trans Kx0_9.out)
  have HB_10 := Lib.hid (below_more HB_9.out hbq)
  clear Hx00_9 KaG_9 Kx0_9 HB_9
  clear hbq hbe hbf
  clear Hx00_10
  clear Kx0_10
  go_wp2_with fail
  go_ret
  exact ⟨rfl, HB_10.out⟩

set_option maxRecDepth 100000 in
set_option maxHeartbeats 8000000 in
theorem lostIn_law {K : World → Prop} (hK : Stays5 K) (hI : ∀ (n a s : Int) (A : Option Addr) (zs : List Int) (ca : Nat) (w : World), K w → Ints w A zs → Lies9 A ca → zs.length ≤ 1048576 → -9223372036854775808 ≤ s → Calls Try.prog 16 #[gvV n a s (.slice A zs.length ca)] w fun e w' => e = .returned (.tuple #[.int .i64 (loI n a s zs), .bool (goodGB n a s zs)]) ∧ Below w.heap.size w w')
    (n a s : Int) (A : Option Addr) (zs : List Int) (ca : Nat) (w : World) (hw : K w) (hA : Ints w A zs) (hl : zs.length ≤ 9223372036854775807) (hs : -9223372036854775808 ≤ s) : Calls Try.prog 9 #[gvV n a s (.slice A zs.length ca)] w fun e w' => e = .returned (.bool true) ∧ Below w.heap.size w w' := by
  have HRA := Lib.hid hA
  have HI := Lib.hid (fun A c w hk hA hL hz => hI n a s A zs c w hk hA hL hz hs)
  have HW := Lib.hid hw
  have HS0 := Lib.hid (fun A c w h hl => sLost n a s A zs c w h hl)
  clear hI hw hA
  generalize loI n a s zs = rr at *
  generalize goodGB n a s zs = bb at *
  obtain ⟨w1, hw1⟩ : ∃ wn, w.alloc (.cells #[.int .i64 n, .int .i64 a, .int .i64 s, .slice A zs.length ca] 47) = wn := ⟨_, rfl⟩
  have hbx : Below w.heap.size w w1 := by rw [← hw1]; exact gAlloc _ _
  have KX : w1.heap[w.heap.size]? = some (.cells #[.int .i64 n, .int .i64 a, .int .i64 s, .slice A zs.length ca] 47 (0, 0)) := by rw [← hw1]; exact heap_alloc_new _ _
  have HB_2 := Lib.hid (hbx)
  have KaG_1 := Lib.hid KX
  clear hbx KX
  go_enter Try.func9, Try.ntmps9
  have caG_0 : w1.cell? ⟨w.heap.size, 0, none⟩ = some (.int .i64 n) := cell_of_row _ _ 0 _ _ _ KaG_1.out
  have caG_1 : w1.cell? ⟨w.heap.size, 1, none⟩ = some (.int .i64 a) := cell_of_row _ _ 1 _ _ _ KaG_1.out
  have caG_2 : w1.cell? ⟨w.heap.size, 2, none⟩ = some (.int .i64 s) := cell_of_row _ _ 2 _ _ _ KaG_1.out
  have caG_3 : w1.cell? ⟨w.heap.size, 3, none⟩ = some (.slice A zs.length ca) := cell_of_row _ _ 3 _ _ _ KaG_1.out
  go_wp2_with fail
  clear caG_0 caG_1 caG_2 caG_3 hw1
  refine (szGv_any n a s A zs.length ca 1048576 _ hl (by omega) (by omega)).mono ?_
  rintro e w2 ⟨⟨rz, rfl, hrz⟩, hbq⟩
  have KaG_3 := Lib.hid ((hbq.block _ (heap_lt KaG_1.out)).trans KaG_1.out)
  have HB_3 := Lib.hid (below_more HB_2.out hbq)
  clear KaG_1 HB_2
  clear hbq
  rcases hrz with hrz | ⟨hrz0, hrz1⟩
  · go_wp2_with fail
    go_ret
    exact ⟨rfl, HB_3.out⟩
  have hlz : zs.length ≤ 1048576 := by omega
  have hrzn : ¬ rz < 0 := by omega
  clear hl hrz1
  have caG_0 : w2.cell? ⟨w.heap.size, 0, none⟩ = some (.int .i64 n) := cell_of_row _ _ 0 _ _ _ KaG_3.out
  have caG_1 : w2.cell? ⟨w.heap.size, 1, none⟩ = some (.int .i64 a) := cell_of_row _ _ 1 _ _ _ KaG_3.out
  have caG_2 : w2.cell? ⟨w.heap.size, 2, none⟩ = some (.int .i64 s) := cell_of_row _ _ 2 _ _ _ KaG_3.out
  have caG_3 : w2.cell? ⟨w.heap.size, 3, none⟩ = some (.slice A zs.length ca) := cell_of_row _ _ 3 _ _ _ KaG_3.out
  go_wp2_with fail
  clear caG_0 caG_1 caG_2 caG_3
  refine (toGv_any n a s A zs ca _ (HRA.out.below HB_3.out) (by omega)).mono ?_
  rintro e w3 ⟨vt10, rfl, hot10, hbt1⟩
  obtain ⟨At10, ct10, hvt10, hcapt10, _⟩ := gFormC hot10
  subst hvt10
  have HNX_aG_t10 := Lib.hid (fun g hg => Nat.ne_of_gt (Nat.lt_of_lt_of_le (heap_lt KaG_3.out) (hot10.lt g hg).1))
  have Ht10_4 := Lib.hid (hot10.lower HB_3.out.size)
  have KaG_4 := Lib.hid ((hbt1.block _ (heap_lt KaG_3.out)).trans KaG_3.out)
  have HB_4 := Lib.hid (below_more HB_3.out hbt1)
  clear KaG_3 HB_3 hot10 hbt1
  have caG_0 : w3.cell? ⟨w.heap.size, 0, none⟩ = some (.int .i64 n) := cell_of_row _ _ 0 _ _ _ KaG_4.out
  have caG_1 : w3.cell? ⟨w.heap.size, 1, none⟩ = some (.int .i64 a) := cell_of_row _ _ 1 _ _ _ KaG_4.out
  have caG_2 : w3.cell? ⟨w.heap.size, 2, none⟩ = some (.int .i64 s) := cell_of_row _ _ 2 _ _ _ KaG_4.out
  have caG_3 : w3.cell? ⟨w.heap.size, 3, none⟩ = some (.slice A zs.length ca) := cell_of_row _ _ 3 _ _ _ KaG_4.out
  go_wp2_with fail
  clear caG_0 caG_1 caG_2 caG_3
  refine (HS0.out At10 ct10 _ (own_ints5 Ht10_4.out) (by omega)).mono ?_
  rintro e w4 ⟨rfl, hbq⟩
  have Ht10_5 := Lib.hid (Ht10_4.out.below hbq)
  have KaG_5 := Lib.hid ((hbq.block _ (heap_lt KaG_4.out)).trans KaG_4.out)
  have HB_5 := Lib.hid (below_more HB_4.out hbq)
  clear Ht10_4 KaG_4 HB_4
  clear hbq
  clear Ht10_5
  have caG_0 : w4.cell? ⟨w.heap.size, 0, none⟩ = some (.int .i64 n) := cell_of_row _ _ 0 _ _ _ KaG_5.out
  have caG_1 : w4.cell? ⟨w.heap.size, 1, none⟩ = some (.int .i64 a) := cell_of_row _ _ 1 _ _ _ KaG_5.out
  have caG_2 : w4.cell? ⟨w.heap.size, 2, none⟩ = some (.int .i64 s) := cell_of_row _ _ 2 _ _ _ KaG_5.out
  have caG_3 : w4.cell? ⟨w.heap.size, 3, none⟩ = some (.slice A zs.length ca) := cell_of_row _ _ 3 _ _ _ KaG_5.out
  go_wp2_with fail
  clear caG_0 caG_1 caG_2 caG_3
  refine (toGv_any n a s A zs ca _ (HRA.out.below HB_5.out) (by omega)).mono ?_
  rintro e w5 ⟨vx00, rfl, hox00, hbx0⟩
  obtain ⟨Ax00, cx00, hvx00, hcapx00, _⟩ := gFormC hox00
  subst hvx00
  have HNX_aG_x00 := Lib.hid (fun g hg => Nat.ne_of_gt (Nat.lt_of_lt_of_le (heap_lt KaG_5.out) (hox00.lt g hg).1))
  have Hx00_6 := Lib.hid (hox00.lower HB_5.out.size)
  have KaG_6 := Lib.hid ((hbx0.block _ (heap_lt KaG_5.out)).trans KaG_5.out)
  have HB_6 := Lib.hid (below_more HB_5.out hbx0)
  clear KaG_5 HB_5 hox00 hbx0
  obtain ⟨w6, hw7⟩ : ∃ wn, w5.alloc (.cells #[.int .i64 n, .int .i64 a, .int .i64 s, .slice Ax00 zs.length cx00] 27) = wn := ⟨_, rfl⟩
  have hbx : Below w5.heap.size w5 w6 := by rw [← hw7]; exact gAlloc _ _
  have KX : w6.heap[w5.heap.size]? = some (.cells #[.int .i64 n, .int .i64 a, .int .i64 s, .slice Ax00 zs.length cx00] 27 (0, 0)) := by rw [← hw7]; exact heap_alloc_new _ _
  have HNX_x0_x00 := Lib.hid (fun g hg => Nat.ne_of_lt (Hx00_6.out.lt g hg).2)
  have Hx00_8 := Lib.hid (Hx00_6.out.below hbx)
  have KaG_8 := Lib.hid ((hbx.block _ (heap_lt KaG_6.out)).trans KaG_6.out)
  have HB_8 := Lib.hid (below_more HB_6.out hbx)
  clear Hx00_6 KaG_6 HB_6
  have Kx0_7 := Lib.hid KX
  clear hbx KX
  have caG_0 : w6.cell? ⟨w.heap.size, 0, none⟩ = some (.int .i64 n) := cell_of_row _ _ 0 _ _ _ KaG_8.out
  have caG_1 : w6.cell? ⟨w.heap.size, 1, none⟩ = some (.int .i64 a) := cell_of_row _ _ 1 _ _ _ KaG_8.out
  have caG_2 : w6.cell? ⟨w.heap.size, 2, none⟩ = some (.int .i64 s) := cell_of_row _ _ 2 _ _ _ KaG_8.out
  have caG_3 : w6.cell? ⟨w.heap.size, 3, none⟩ = some (.slice A zs.length ca) := cell_of_row _ _ 3 _ _ _ KaG_8.out
  have cx0_0 : w6.cell? ⟨w5.heap.size, 0, none⟩ = some (.int .i64 n) := cell_of_row _ _ 0 _ _ _ Kx0_7.out
  have cx0_1 : w6.cell? ⟨w5.heap.size, 1, none⟩ = some (.int .i64 a) := cell_of_row _ _ 1 _ _ _ Kx0_7.out
  have cx0_2 : w6.cell? ⟨w5.heap.size, 2, none⟩ = some (.int .i64 s) := cell_of_row _ _ 2 _ _ _ Kx0_7.out
  have cx0_3 : w6.cell? ⟨w5.heap.size, 3, none⟩ = some (.slice Ax00 zs.length cx00) := cell_of_row _ _ 3 _ _ _ Kx0_7.out
  go_wp2_with fail
  clear caG_0 caG_1 caG_2 caG_3 cx0_0 cx0_1 cx0_2 cx0_3 hw7
  refine (HI.out Ax00 cx00 _ (hK _ _ HW.out HB_8.out) (own_ints5 Hx00_8.out) (own9_lies Hx00_8.out) (by omega)).mono ?_
  rintro e w7 ⟨rfl, hbq⟩
  have Hx00_9 := Lib.hid (Hx00_8.out.below hbq)
  have KaG_9 := Lib.hid ((hbq.block _ (heap_lt KaG_8.out)).trans KaG_8.out)
  have Kx0_9 := Lib.hid ((hbq.block _ (heap_lt Kx0_7.out)).trans Kx0_7.out)
  have HB_9 := Lib.hid (below_more HB_8.out hbq)
  clear Hx00_8 KaG_8 Kx0_7 HB_8
  clear hbq
  have caG_0 : w7.cell? ⟨w.heap.size, 0, none⟩ = some (.int .i64 n) := cell_of_row _ _ 0 _ _ _ KaG_9.out
  have caG_1 : w7.cell? ⟨w.heap.size, 1, none⟩ = some (.int .i64 a) := cell_of_row _ _ 1 _ _ _ KaG_9.out
  have caG_2 : w7.cell? ⟨w.heap.size, 2, none⟩ = some (.int .i64 s) := cell_of_row _ _ 2 _ _ _ KaG_9.out
  have caG_3 : w7.cell? ⟨w.heap.size, 3, none⟩ = some (.slice A zs.length ca) := cell_of_row _ _ 3 _ _ _ KaG_9.out
  have cx0_0 : w7.cell? ⟨w5.heap.size, 0, none⟩ = some (.int .i64 n) := cell_of_row _ _ 0 _ _ _ Kx0_9.out
  have cx0_1 : w7.cell? ⟨w5.heap.size, 1, none⟩ = some (.int .i64 a) := cell_of_row _ _ 1 _ _ _ Kx0_9.out
  have cx0_2 : w7.cell? ⟨w5.heap.size, 2, none⟩ = some (.int .i64 s) := cell_of_row _ _ 2 _ _ _ Kx0_9.out
  have cx0_3 : w7.cell? ⟨w5.heap.size, 3, none⟩ = some (.slice Ax00 zs.length cx00) := cell_of_row _ _ 3 _ _ _ Kx0_9.out
  go_wp2_with fail
  go_region_held3 (fun w' => w'.cell? ⟨w5.heap.size, 0, none⟩ = some (.int .i64 n) ∧ w'.cell? ⟨w5.heap.size, 1, none⟩ = some (.int .i64 a) ∧ w'.cell? ⟨w5.heap.size, 2, none⟩ = some (.int .i64 s) ∧ w'.cell? ⟨w5.heap.size, 3, none⟩ = some (.slice Ax00 zs.length cx00) ∧ w'.cell? ⟨w.heap.size, 0, none⟩ = some (.int .i64 n) ∧ w'.cell? ⟨w.heap.size, 1, none⟩ = some (.int .i64 a) ∧ w'.cell? ⟨w.heap.size, 2, none⟩ = some (.int .i64 s) ∧ w'.cell? ⟨w.heap.size, 3, none⟩ = some (.slice A zs.length ca)) (first | exact ⟨cx0_0, cx0_1, cx0_2, cx0_3, caG_0, caG_1, caG_2, caG_3⟩ | exact ⟨rr0, rr1, rr2, rr3, rr4, rr5, rr6, rr7⟩ | exact ⟨srr0, srr1, srr2, srr3, srr4, srr5, srr6, srr7⟩ | go_keep) (first
    | (go_at_call 33; refine (toGv_any n a s A zs ca _ ((HRA.out.below HB_9.out).below gDrew) (by omega)).mono ?_; rintro e we ⟨ve0, rfl, hoe0, hbe⟩; have rr0 := (hbe.cell (World.block_lt_of_cell? _ _ cx0_0)).trans cx0_0; have rr1 := (hbe.cell (World.block_lt_of_cell? _ _ cx0_1)).trans cx0_1; have rr2 := (hbe.cell (World.block_lt_of_cell? _ _ cx0_2)).trans cx0_2; have rr3 := (hbe.cell (World.block_lt_of_cell? _ _ cx0_3)).trans cx0_3; have rr4 := (hbe.cell (World.block_lt_of_cell? _ _ caG_0)).trans caG_0; have rr5 := (hbe.cell (World.block_lt_of_cell? _ _ caG_1)).trans caG_1; have rr6 := (hbe.cell (World.block_lt_of_cell? _ _ caG_2)).trans caG_2; have rr7 := (hbe.cell (World.block_lt_of_cell? _ _ caG_3)).trans caG_3; obtain ⟨Ae0, ce0, rfl, hcape0, _⟩ := gFormC hoe0)
    | (go_at_call 29; refine (eqGv_self n a s Ax00 Ae0 zs cx00 ce0 _ (own_ints5 (Lib.hid ((Hx00_9.out.below gDrew).below hbe)).out) (own_ints5 (Lib.hid hoe0).out) (by omega)).mono ?_; rintro e w8 ⟨rfl, hbf⟩; have srr0 := (hbf.cell (World.block_lt_of_cell? _ _ rr0)).trans rr0; have srr1 := (hbf.cell (World.block_lt_of_cell? _ _ rr1)).trans rr1; have srr2 := (hbf.cell (World.block_lt_of_cell? _ _ rr2)).trans rr2; have srr3 := (hbf.cell (World.block_lt_of_cell? _ _ rr3)).trans rr3; have srr4 := (hbf.cell (World.block_lt_of_cell? _ _ rr4)).trans rr4; have srr5 := (hbf.cell (World.block_lt_of_cell? _ _ rr5)).trans rr5; have srr6 := (hbf.cell (World.block_lt_of_cell? _ _ rr6)).trans rr6; have srr7 := (hbf.cell (World.block_lt_of_cell? _ _ rr7)).trans rr7))
  have hbq := below_more gDrew (below_more hbe hbf)
  clear srr0 srr1 srr2 srr3 srr4 srr5 srr6 srr7 rr0 rr1 rr2 rr3 rr4 rr5 rr6 rr7 caG_0 caG_1 caG_2 caG_3 cx0_0 cx0_1 cx0_2 cx0_3 hoe0
  have Hx00_10 := Lib.hid (Hx00_9.out.below hbq)
  have KaG_10 := Lib.hid ((hbq.block _ (heap_lt KaG_9.out)).trans KaG_9.out)
  have Kx0_10 := Lib.hid ((hbq.block _ (heap_lt Kx0_9.out)).trans Kx0_9.out)
  have HB_10 := Lib.hid (below_more HB_9.out hbq)
  clear Hx00_9 KaG_9 Kx0_9 HB_9
  clear hbq hbe hbf
  clear Hx00_10
  clear Kx0_10
  go_wp2_with fail
  go_ret
  exact ⟨rfl, HB_10.out⟩

set_option maxRecDepth 100000 in
set_option maxHeartbeats 8000000 in
theorem roomIn_law {K : World → Prop} (hK : Stays5 K) (hI : ∀ (n a s : Int) (A : Option Addr) (zs : List Int) (ca : Nat) (w : World), K w → Ints w A zs → Lies9 A ca → zs.length ≤ 1048576 → -9223372036854775808 ≤ s → Calls Try.prog 27 #[gvV n a s (.slice A zs.length ca)] w fun e w' => e = .returned (.tuple #[.int .i64 (roI11 n a s zs), .bool (goodGB n a s zs)]) ∧ Below w.heap.size w w')
    (n a s : Int) (A : Option Addr) (zs : List Int) (ca : Nat) (w : World) (hw : K w) (hA : Ints w A zs) (hl : zs.length ≤ 9223372036854775807) (hs : -9223372036854775808 ≤ s) : Calls Try.prog 10 #[gvV n a s (.slice A zs.length ca)] w fun e w' => e = .returned (.bool true) ∧ Below w.heap.size w w' := by
  have HRA := Lib.hid hA
  have HI := Lib.hid (fun A c w hk hA hL hz => hI n a s A zs c w hk hA hL hz hs)
  have HW := Lib.hid hw
  have HS0 := Lib.hid (fun A c w h hl => sRoom n a s A zs c w h hl)
  clear hI hw hA
  generalize roI11 n a s zs = rr at *
  generalize goodGB n a s zs = bb at *
  obtain ⟨w1, hw1⟩ : ∃ wn, w.alloc (.cells #[.int .i64 n, .int .i64 a, .int .i64 s, .slice A zs.length ca] 47) = wn := ⟨_, rfl⟩
  have hbx : Below w.heap.size w w1 := by rw [← hw1]; exact gAlloc _ _
  have KX : w1.heap[w.heap.size]? = some (.cells #[.int .i64 n, .int .i64 a, .int .i64 s, .slice A zs.length ca] 47 (0, 0)) := by rw [← hw1]; exact heap_alloc_new _ _
  have HB_2 := Lib.hid (hbx)
  have KaG_1 := Lib.hid KX
  clear hbx KX
  go_enter Try.func10, Try.ntmps10
  have caG_0 : w1.cell? ⟨w.heap.size, 0, none⟩ = some (.int .i64 n) := cell_of_row _ _ 0 _ _ _ KaG_1.out
  have caG_1 : w1.cell? ⟨w.heap.size, 1, none⟩ = some (.int .i64 a) := cell_of_row _ _ 1 _ _ _ KaG_1.out
  have caG_2 : w1.cell? ⟨w.heap.size, 2, none⟩ = some (.int .i64 s) := cell_of_row _ _ 2 _ _ _ KaG_1.out
  have caG_3 : w1.cell? ⟨w.heap.size, 3, none⟩ = some (.slice A zs.length ca) := cell_of_row _ _ 3 _ _ _ KaG_1.out
  go_wp2_with fail
  clear caG_0 caG_1 caG_2 caG_3 hw1
  refine (szGv_any n a s A zs.length ca 1048576 _ hl (by omega) (by omega)).mono ?_
  rintro e w2 ⟨⟨rz, rfl, hrz⟩, hbq⟩
  have KaG_3 := Lib.hid ((hbq.block _ (heap_lt KaG_1.out)).trans KaG_1.out)
  have HB_3 := Lib.hid (below_more HB_2.out hbq)
  clear KaG_1 HB_2
  clear hbq
  rcases hrz with hrz | ⟨hrz0, hrz1⟩
  · go_wp2_with fail
    go_ret
    exact ⟨rfl, HB_3.out⟩
  have hlz : zs.length ≤ 1048576 := by omega
  have hrzn : ¬ rz < 0 := by omega
  clear hl hrz1
  have caG_0 : w2.cell? ⟨w.heap.size, 0, none⟩ = some (.int .i64 n) := cell_of_row _ _ 0 _ _ _ KaG_3.out
  have caG_1 : w2.cell? ⟨w.heap.size, 1, none⟩ = some (.int .i64 a) := cell_of_row _ _ 1 _ _ _ KaG_3.out
  have caG_2 : w2.cell? ⟨w.heap.size, 2, none⟩ = some (.int .i64 s) := cell_of_row _ _ 2 _ _ _ KaG_3.out
  have caG_3 : w2.cell? ⟨w.heap.size, 3, none⟩ = some (.slice A zs.length ca) := cell_of_row _ _ 3 _ _ _ KaG_3.out
  go_wp2_with fail
  clear caG_0 caG_1 caG_2 caG_3
  refine (toGv_any n a s A zs ca _ (HRA.out.below HB_3.out) (by omega)).mono ?_
  rintro e w3 ⟨vt10, rfl, hot10, hbt1⟩
  obtain ⟨At10, ct10, hvt10, hcapt10, _⟩ := gFormC hot10
  subst hvt10
  have HNX_aG_t10 := Lib.hid (fun g hg => Nat.ne_of_gt (Nat.lt_of_lt_of_le (heap_lt KaG_3.out) (hot10.lt g hg).1))
  have Ht10_4 := Lib.hid (hot10.lower HB_3.out.size)
  have KaG_4 := Lib.hid ((hbt1.block _ (heap_lt KaG_3.out)).trans KaG_3.out)
  have HB_4 := Lib.hid (below_more HB_3.out hbt1)
  clear KaG_3 HB_3 hot10 hbt1
  have caG_0 : w3.cell? ⟨w.heap.size, 0, none⟩ = some (.int .i64 n) := cell_of_row _ _ 0 _ _ _ KaG_4.out
  have caG_1 : w3.cell? ⟨w.heap.size, 1, none⟩ = some (.int .i64 a) := cell_of_row _ _ 1 _ _ _ KaG_4.out
  have caG_2 : w3.cell? ⟨w.heap.size, 2, none⟩ = some (.int .i64 s) := cell_of_row _ _ 2 _ _ _ KaG_4.out
  have caG_3 : w3.cell? ⟨w.heap.size, 3, none⟩ = some (.slice A zs.length ca) := cell_of_row _ _ 3 _ _ _ KaG_4.out
  go_wp2_with fail
  clear caG_0 caG_1 caG_2 caG_3
  refine (HS0.out At10 ct10 _ (own_ints5 Ht10_4.out) (by omega)).mono ?_
  rintro e w4 ⟨rfl, hbq⟩
  have Ht10_5 := Lib.hid (Ht10_4.out.below hbq)
  have KaG_5 := Lib.hid ((hbq.block _ (heap_lt KaG_4.out)).trans KaG_4.out)
  have HB_5 := Lib.hid (below_more HB_4.out hbq)
  clear Ht10_4 KaG_4 HB_4
  clear hbq
  clear Ht10_5
  have caG_0 : w4.cell? ⟨w.heap.size, 0, none⟩ = some (.int .i64 n) := cell_of_row _ _ 0 _ _ _ KaG_5.out
  have caG_1 : w4.cell? ⟨w.heap.size, 1, none⟩ = some (.int .i64 a) := cell_of_row _ _ 1 _ _ _ KaG_5.out
  have caG_2 : w4.cell? ⟨w.heap.size, 2, none⟩ = some (.int .i64 s) := cell_of_row _ _ 2 _ _ _ KaG_5.out
  have caG_3 : w4.cell? ⟨w.heap.size, 3, none⟩ = some (.slice A zs.length ca) := cell_of_row _ _ 3 _ _ _ KaG_5.out
  go_wp2_with fail
  clear caG_0 caG_1 caG_2 caG_3
  refine (toGv_any n a s A zs ca _ (HRA.out.below HB_5.out) (by omega)).mono ?_
  rintro e w5 ⟨vx00, rfl, hox00, hbx0⟩
  obtain ⟨Ax00, cx00, hvx00, hcapx00, _⟩ := gFormC hox00
  subst hvx00
  have HNX_aG_x00 := Lib.hid (fun g hg => Nat.ne_of_gt (Nat.lt_of_lt_of_le (heap_lt KaG_5.out) (hox00.lt g hg).1))
  have Hx00_6 := Lib.hid (hox00.lower HB_5.out.size)
  have KaG_6 := Lib.hid ((hbx0.block _ (heap_lt KaG_5.out)).trans KaG_5.out)
  have HB_6 := Lib.hid (below_more HB_5.out hbx0)
  clear KaG_5 HB_5 hox00 hbx0
  obtain ⟨w6, hw7⟩ : ∃ wn, w5.alloc (.cells #[.int .i64 n, .int .i64 a, .int .i64 s, .slice Ax00 zs.length cx00] 27) = wn := ⟨_, rfl⟩
  have hbx : Below w5.heap.size w5 w6 := by rw [← hw7]; exact gAlloc _ _
  have KX : w6.heap[w5.heap.size]? = some (.cells #[.int .i64 n, .int .i64 a, .int .i64 s, .slice Ax00 zs.length cx00] 27 (0, 0)) := by rw [← hw7]; exact heap_alloc_new _ _
  have HNX_x0_x00 := Lib.hid (fun g hg => Nat.ne_of_lt (Hx00_6.out.lt g hg).2)
  have Hx00_8 := Lib.hid (Hx00_6.out.below hbx)
  have KaG_8 := Lib.hid ((hbx.block _ (heap_lt KaG_6.out)).trans KaG_6.out)
  have HB_8 := Lib.hid (below_more HB_6.out hbx)
  clear Hx00_6 KaG_6 HB_6
  have Kx0_7 := Lib.hid KX
  clear hbx KX
  have caG_0 : w6.cell? ⟨w.heap.size, 0, none⟩ = some (.int .i64 n) := cell_of_row _ _ 0 _ _ _ KaG_8.out
  have caG_1 : w6.cell? ⟨w.heap.size, 1, none⟩ = some (.int .i64 a) := cell_of_row _ _ 1 _ _ _ KaG_8.out
  have caG_2 : w6.cell? ⟨w.heap.size, 2, none⟩ = some (.int .i64 s) := cell_of_row _ _ 2 _ _ _ KaG_8.out
  have caG_3 : w6.cell? ⟨w.heap.size, 3, none⟩ = some (.slice A zs.length ca) := cell_of_row _ _ 3 _ _ _ KaG_8.out
  have cx0_0 : w6.cell? ⟨w5.heap.size, 0, none⟩ = some (.int .i64 n) := cell_of_row _ _ 0 _ _ _ Kx0_7.out
  have cx0_1 : w6.cell? ⟨w5.heap.size, 1, none⟩ = some (.int .i64 a) := cell_of_row _ _ 1 _ _ _ Kx0_7.out
  have cx0_2 : w6.cell? ⟨w5.heap.size, 2, none⟩ = some (.int .i64 s) := cell_of_row _ _ 2 _ _ _ Kx0_7.out
  have cx0_3 : w6.cell? ⟨w5.heap.size, 3, none⟩ = some (.slice Ax00 zs.length cx00) := cell_of_row _ _ 3 _ _ _ Kx0_7.out
  go_wp2_with fail
  clear caG_0 caG_1 caG_2 caG_3 cx0_0 cx0_1 cx0_2 cx0_3 hw7
  refine (HI.out Ax00 cx00 _ (hK _ _ HW.out HB_8.out) (own_ints5 Hx00_8.out) (own9_lies Hx00_8.out) (by omega)).mono ?_
  rintro e w7 ⟨rfl, hbq⟩
  have Hx00_9 := Lib.hid (Hx00_8.out.below hbq)
  have KaG_9 := Lib.hid ((hbq.block _ (heap_lt KaG_8.out)).trans KaG_8.out)
  have Kx0_9 := Lib.hid ((hbq.block _ (heap_lt Kx0_7.out)).trans Kx0_7.out)
  have HB_9 := Lib.hid (below_more HB_8.out hbq)
  clear Hx00_8 KaG_8 Kx0_7 HB_8
  clear hbq
  have caG_0 : w7.cell? ⟨w.heap.size, 0, none⟩ = some (.int .i64 n) := cell_of_row _ _ 0 _ _ _ KaG_9.out
  have caG_1 : w7.cell? ⟨w.heap.size, 1, none⟩ = some (.int .i64 a) := cell_of_row _ _ 1 _ _ _ KaG_9.out
  have caG_2 : w7.cell? ⟨w.heap.size, 2, none⟩ = some (.int .i64 s) := cell_of_row _ _ 2 _ _ _ KaG_9.out
  have caG_3 : w7.cell? ⟨w.heap.size, 3, none⟩ = some (.slice A zs.length ca) := cell_of_row _ _ 3 _ _ _ KaG_9.out
  have cx0_0 : w7.cell? ⟨w5.heap.size, 0, none⟩ = some (.int .i64 n) := cell_of_row _ _ 0 _ _ _ Kx0_9.out
  have cx0_1 : w7.cell? ⟨w5.heap.size, 1, none⟩ = some (.int .i64 a) := cell_of_row _ _ 1 _ _ _ Kx0_9.out
  have cx0_2 : w7.cell? ⟨w5.heap.size, 2, none⟩ = some (.int .i64 s) := cell_of_row _ _ 2 _ _ _ Kx0_9.out
  have cx0_3 : w7.cell? ⟨w5.heap.size, 3, none⟩ = some (.slice Ax00 zs.length cx00) := cell_of_row _ _ 3 _ _ _ Kx0_9.out
  go_wp2_with fail
  go_region_held3 (fun w' => w'.cell? ⟨w5.heap.size, 0, none⟩ = some (.int .i64 n) ∧ w'.cell? ⟨w5.heap.size, 1, none⟩ = some (.int .i64 a) ∧ w'.cell? ⟨w5.heap.size, 2, none⟩ = some (.int .i64 s) ∧ w'.cell? ⟨w5.heap.size, 3, none⟩ = some (.slice Ax00 zs.length cx00) ∧ w'.cell? ⟨w.heap.size, 0, none⟩ = some (.int .i64 n) ∧ w'.cell? ⟨w.heap.size, 1, none⟩ = some (.int .i64 a) ∧ w'.cell? ⟨w.heap.size, 2, none⟩ = some (.int .i64 s) ∧ w'.cell? ⟨w.heap.size, 3, none⟩ = some (.slice A zs.length ca)) (first | exact ⟨cx0_0, cx0_1, cx0_2, cx0_3, caG_0, caG_1, caG_2, caG_3⟩ | exact ⟨rr0, rr1, rr2, rr3, rr4, rr5, rr6, rr7⟩ | exact ⟨srr0, srr1, srr2, srr3, srr4, srr5, srr6, srr7⟩ | go_keep) (first
    | (go_at_call 33; refine (toGv_any n a s A zs ca _ ((HRA.out.below HB_9.out).below gDrew) (by omega)).mono ?_; rintro e we ⟨ve0, rfl, hoe0, hbe⟩; have rr0 := (hbe.cell (World.block_lt_of_cell? _ _ cx0_0)).trans cx0_0; have rr1 := (hbe.cell (World.block_lt_of_cell? _ _ cx0_1)).trans cx0_1; have rr2 := (hbe.cell (World.block_lt_of_cell? _ _ cx0_2)).trans cx0_2; have rr3 := (hbe.cell (World.block_lt_of_cell? _ _ cx0_3)).trans cx0_3; have rr4 := (hbe.cell (World.block_lt_of_cell? _ _ caG_0)).trans caG_0; have rr5 := (hbe.cell (World.block_lt_of_cell? _ _ caG_1)).trans caG_1; have rr6 := (hbe.cell (World.block_lt_of_cell? _ _ caG_2)).trans caG_2; have rr7 := (hbe.cell (World.block_lt_of_cell? _ _ caG_3)).trans caG_3; obtain ⟨Ae0, ce0, rfl, hcape0, _⟩ := gFormC hoe0)
    | (go_at_call 29; refine (eqGv_self n a s Ax00 Ae0 zs cx00 ce0 _ (own_ints5 (Lib.hid ((Hx00_9.out.below gDrew).below hbe)).out) (own_ints5 (Lib.hid hoe0).out) (by omega)).mono ?_; rintro e w8 ⟨rfl, hbf⟩; have srr0 := (hbf.cell (World.block_lt_of_cell? _ _ rr0)).trans rr0; have srr1 := (hbf.cell (World.block_lt_of_cell? _ _ rr1)).trans rr1; have srr2 := (hbf.cell (World.block_lt_of_cell? _ _ rr2)).trans rr2; have srr3 := (hbf.cell (World.block_lt_of_cell? _ _ rr3)).trans rr3; have srr4 := (hbf.cell (World.block_lt_of_cell? _ _ rr4)).trans rr4; have srr5 := (hbf.cell (World.block_lt_of_cell? _ _ rr5)).trans rr5; have srr6 := (hbf.cell (World.block_lt_of_cell? _ _ rr6)).trans rr6; have srr7 := (hbf.cell (World.block_lt_of_cell? _ _ rr7)).trans rr7))
  have hbq := below_more gDrew (below_more hbe hbf)
  clear srr0 srr1 srr2 srr3 srr4 srr5 srr6 srr7 rr0 rr1 rr2 rr3 rr4 rr5 rr6 rr7 caG_0 caG_1 caG_2 caG_3 cx0_0 cx0_1 cx0_2 cx0_3 hoe0
  have Hx00_10 := Lib.hid (Hx00_9.out.below hbq)
  have KaG_10 := Lib.hid ((hbq.block _ (heap_lt KaG_9.out)).trans KaG_9.out)
  have Kx0_10 := Lib.hid ((hbq.block _ (heap_lt Kx0_9.out)).trans Kx0_9.out)
  have HB_10 := Lib.hid (below_more HB_9.out hbq)
  clear Hx00_9 KaG_9 Kx0_9 HB_9
  clear hbq hbe hbf
  clear Hx00_10
  clear Kx0_10
  go_wp2_with fail
  go_ret
  exact ⟨rfl, HB_10.out⟩

set_option maxRecDepth 100000 in
set_option maxHeartbeats 8000000 in
theorem playGiver_law {K : World → Prop} (hK : Stays5 K) (hI : ∀ (A : Option Addr) (l : List Idc) (ca : Nat) (w : World), K w → RdR 2 fId w A l → Lies9 A ca → l.length ≤ 1048576 → Calls Try.prog 12 #[.slice A l.length ca] w fun e w' => ∃ v1 v2, e = .returned (.tuple #[gvV (pyG l).1 (pyG l).2.1 (pyG l).2.2.1 v1, v2, .bool (decide (l.length ≤ 40))]) ∧ (Own w' w.heap.size v1 ((pyG l).2.2.2) ∧ OwnR 4 1 fB1 w' w.heap.size v2 (pyD l) ∧ (v1.ownBlock = none ∨ v1.ownBlock ≠ v2.ownBlock)) ∧ Below w.heap.size w w')
    (A : Option Addr) (l : List Idc) (ca : Nat) (w : World) (hw : K w) (hA : RdR 2 fId w A l) (hl : l.length ≤ 9223372036854775807) : Calls Try.prog 8 #[.slice A l.length ca] w fun e w' => e = .returned (.bool true) ∧ Below w.heap.size w w' := by
  have HRA := Lib.hid hA
  have HI := Lib.hid (fun A c w hk hA hL hz => hI A l c w hk hA hL hz)
  have HW := Lib.hid hw
  have HS0 := Lib.hid (fun A c w h hl => sPlay5 A l c w h hl)
  clear hI hw hA
  have hV := py_len l
  have hU := pyD_len l
  generalize (pyG l).2.2.2 = V at *
  generalize (pyG l).1 = N at *
  generalize (pyG l).2.1 = As at *
  generalize (pyG l).2.2.1 = Su at *
  generalize pyD l = U at *
  generalize decide (l.length ≤ 40) = bb at *
  go_enter Try.func8, Try.ntmps8
  go_wp2_with fail
  refine (szIdS_any A l ca 1048576 _ hl (by omega) (by omega)).mono ?_
  rintro e wq ⟨⟨rz, rfl, hrz⟩, rfl⟩
  rcases hrz with hrz | ⟨hrz0, hrz1⟩
  · go_wp2_with fail
    go_ret
    exact ⟨rfl, Below.refl _ _⟩
  have hlz : l.length ≤ 1048576 := by omega
  have hrzn : ¬ rz < 0 := by omega
  clear hl hrz1
  go_wp2_with fail
  refine (toIdS_any A l ca _ HRA.out (by omega)).mono ?_
  rintro e w1 ⟨vt10, rfl, hot10, hbt1⟩
  obtain ⟨At10, ct10, hvt10, hcapt10, _⟩ := OwnR.form fId_len hot10
  subst hvt10
  have Ht10_1 := Lib.hid (hot10)
  have HB_1 := Lib.hid (hbt1)
  clear hot10 hbt1
  go_wp2_with fail
  refine (HS0.out At10 ct10 _ (OwnR.rd fId_len Ht10_1.out) (by omega)).mono ?_
  rintro e w2 ⟨vr20, vr21, rfl, hpk, hbr2⟩
  obtain ⟨hor20, hor21, har2⟩ := hpk
  obtain ⟨Ar20, cr20, hvr20, hcapr20, _⟩ := gFormC hor20
  subst hvr20
  obtain ⟨Ar21, cr21, hvr21, hcapr21, _⟩ := OwnR.form fB1_len hor21
  subst hvr21
  have HAp_t10_r20 := Lib.hid (apart5 (fun k hk => (Ht10_1.out.lt k hk).2) (fun k hk => (hor20.lt k hk).1))
  have HAp_t10_r21 := Lib.hid (apart5 (fun k hk => (Ht10_1.out.lt k hk).2) (fun k hk => (hor21.lt k hk).1))
  have HAp_r20_r21 := Lib.hid har2
  have Ht10_2 := Lib.hid (Ht10_1.out.below hbr2)
  have Hr20_2 := Lib.hid (hor20.lower HB_1.out.size)
  have Hr21_2 := Lib.hid (hor21.lower HB_1.out.size)
  have HB_2 := Lib.hid (below_more HB_1.out hbr2)
  clear Ht10_1 HB_1 hor20 hor21 har2 hbr2
  obtain ⟨w3, hw3⟩ : ∃ wn, w2.alloc (.cells #[.int .i64 N, .int .i64 As, .int .i64 Su, .slice Ar20 V.length cr20] 27) = wn := ⟨_, rfl⟩
  have hbx : Below w2.heap.size w2 w3 := by rw [← hw3]; exact gAlloc _ _
  have KX : w3.heap[w2.heap.size]? = some (.cells #[.int .i64 N, .int .i64 As, .int .i64 Su, .slice Ar20 V.length cr20] 27 (0, 0)) := by rw [← hw3]; exact heap_alloc_new _ _
  have HNX_w0_t10 := Lib.hid (fun g hg => Nat.ne_of_lt (Ht10_2.out.lt g hg).2)
  have HNX_w0_r20 := Lib.hid (fun g hg => Nat.ne_of_lt (Hr20_2.out.lt g hg).2)
  have HNX_w0_r21 := Lib.hid (fun g hg => Nat.ne_of_lt (Hr21_2.out.lt g hg).2)
  have Ht10_4 := Lib.hid (Ht10_2.out.below hbx)
  have Hr20_4 := Lib.hid (Hr20_2.out.below hbx)
  have Hr21_4 := Lib.hid (Hr21_2.out.below hbx)
  have HB_4 := Lib.hid (below_more HB_2.out hbx)
  clear Ht10_2 Hr20_2 Hr21_2 HB_2
  have Kw0_3 := Lib.hid KX
  clear hbx KX
  clear Ht10_4
  have cw0_0 : w3.cell? ⟨w2.heap.size, 0, none⟩ = some (.int .i64 N) := cell_of_row _ _ 0 _ _ _ Kw0_3.out
  have cw0_1 : w3.cell? ⟨w2.heap.size, 1, none⟩ = some (.int .i64 As) := cell_of_row _ _ 1 _ _ _ Kw0_3.out
  have cw0_2 : w3.cell? ⟨w2.heap.size, 2, none⟩ = some (.int .i64 Su) := cell_of_row _ _ 2 _ _ _ Kw0_3.out
  have cw0_3 : w3.cell? ⟨w2.heap.size, 3, none⟩ = some (.slice Ar20 V.length cr20) := cell_of_row _ _ 3 _ _ _ Kw0_3.out
  go_wp2_with fail
  clear cw0_0 cw0_1 cw0_2 cw0_3 hw3
  refine (toIdS_any A l ca _ (HRA.out.below HB_4.out) (by omega)).mono ?_
  rintro e w4 ⟨vx00, rfl, hox00, hbx0⟩
  obtain ⟨Ax00, cx00, hvx00, hcapx00, _⟩ := OwnR.form fId_len hox00
  subst hvx00
  have HAp_r20_x00 := Lib.hid (apart5 (fun k hk => (Hr20_4.out.lt k hk).2) (fun k hk => (hox00.lt k hk).1))
  have HAp_r21_x00 := Lib.hid (apart5 (fun k hk => (Hr21_4.out.lt k hk).2) (fun k hk => (hox00.lt k hk).1))
  have HNX_w0_x00 := Lib.hid (fun g hg => Nat.ne_of_gt (Nat.lt_of_lt_of_le (heap_lt Kw0_3.out) (hox00.lt g hg).1))
  have Hr20_5 := Lib.hid (Hr20_4.out.below hbx0)
  have Hr21_5 := Lib.hid (Hr21_4.out.below hbx0)
  have Hx00_5 := Lib.hid (hox00.lower HB_4.out.size)
  have Kw0_5 := Lib.hid ((hbx0.block _ (heap_lt Kw0_3.out)).trans Kw0_3.out)
  have HB_5 := Lib.hid (below_more HB_4.out hbx0)
  clear Hr20_4 Hr21_4 Kw0_3 HB_4 hox00 hbx0
  have cw0_0 : w4.cell? ⟨w2.heap.size, 0, none⟩ = some (.int .i64 N) := cell_of_row _ _ 0 _ _ _ Kw0_5.out
  have cw0_1 : w4.cell? ⟨w2.heap.size, 1, none⟩ = some (.int .i64 As) := cell_of_row _ _ 1 _ _ _ Kw0_5.out
  have cw0_2 : w4.cell? ⟨w2.heap.size, 2, none⟩ = some (.int .i64 Su) := cell_of_row _ _ 2 _ _ _ Kw0_5.out
  have cw0_3 : w4.cell? ⟨w2.heap.size, 3, none⟩ = some (.slice Ar20 V.length cr20) := cell_of_row _ _ 3 _ _ _ Kw0_5.out
  go_wp2_with fail
  clear cw0_0 cw0_1 cw0_2 cw0_3
  refine (HI.out Ax00 cx00 _ (hK _ _ HW.out HB_5.out) (OwnR.rd fId_len Hx00_5.out) (ownR_lies Hx00_5.out) (by omega)).mono ?_
  rintro e w5 ⟨vr30, vr31, rfl, hpk, hbr3⟩
  obtain ⟨hor30, hor31, har3⟩ := hpk
  obtain ⟨Ar30, cr30, hvr30, hcapr30, _⟩ := gFormC hor30
  subst hvr30
  obtain ⟨Ar31, cr31, hvr31, hcapr31, _⟩ := OwnR.form fB1_len hor31
  subst hvr31
  have HAp_r20_r30 := Lib.hid (apart5 (fun k hk => (Hr20_5.out.lt k hk).2) (fun k hk => (hor30.lt k hk).1))
  have HAp_r21_r30 := Lib.hid (apart5 (fun k hk => (Hr21_5.out.lt k hk).2) (fun k hk => (hor30.lt k hk).1))
  have HAp_x00_r30 := Lib.hid (apart5 (fun k hk => (Hx00_5.out.lt k hk).2) (fun k hk => (hor30.lt k hk).1))
  have HAp_r20_r31 := Lib.hid (apart5 (fun k hk => (Hr20_5.out.lt k hk).2) (fun k hk => (hor31.lt k hk).1))
  have HAp_r21_r31 := Lib.hid (apart5 (fun k hk => (Hr21_5.out.lt k hk).2) (fun k hk => (hor31.lt k hk).1))
  have HAp_x00_r31 := Lib.hid (apart5 (fun k hk => (Hx00_5.out.lt k hk).2) (fun k hk => (hor31.lt k hk).1))
  have HNX_w0_r30 := Lib.hid (fun g hg => Nat.ne_of_gt (Nat.lt_of_lt_of_le (heap_lt Kw0_5.out) (hor30.lt g hg).1))
  have HNX_w0_r31 := Lib.hid (fun g hg => Nat.ne_of_gt (Nat.lt_of_lt_of_le (heap_lt Kw0_5.out) (hor31.lt g hg).1))
  have HAp_r30_r31 := Lib.hid har3
  have Hr20_6 := Lib.hid (Hr20_5.out.below hbr3)
  have Hr21_6 := Lib.hid (Hr21_5.out.below hbr3)
  have Hx00_6 := Lib.hid (Hx00_5.out.below hbr3)
  have Hr30_6 := Lib.hid (hor30.lower HB_5.out.size)
  have Hr31_6 := Lib.hid (hor31.lower HB_5.out.size)
  have Kw0_6 := Lib.hid ((hbr3.block _ (heap_lt Kw0_5.out)).trans Kw0_5.out)
  have HB_6 := Lib.hid (below_more HB_5.out hbr3)
  clear Hr20_5 Hr21_5 Hx00_5 Kw0_5 HB_5 hor30 hor31 har3 hbr3
  obtain ⟨w6, hw7⟩ : ∃ wn, w5.alloc (.cells #[.int .i64 N, .int .i64 As, .int .i64 Su, .slice Ar30 V.length cr30] 27) = wn := ⟨_, rfl⟩
  have hbx : Below w5.heap.size w5 w6 := by rw [← hw7]; exact gAlloc _ _
  have KX : w6.heap[w5.heap.size]? = some (.cells #[.int .i64 N, .int .i64 As, .int .i64 Su, .slice Ar30 V.length cr30] 27 (0, 0)) := by rw [← hw7]; exact heap_alloc_new _ _
  have HNX_g0_r20 := Lib.hid (fun g hg => Nat.ne_of_lt (Hr20_6.out.lt g hg).2)
  have HNX_g0_r21 := Lib.hid (fun g hg => Nat.ne_of_lt (Hr21_6.out.lt g hg).2)
  have HNX_g0_x00 := Lib.hid (fun g hg => Nat.ne_of_lt (Hx00_6.out.lt g hg).2)
  have HNX_g0_r30 := Lib.hid (fun g hg => Nat.ne_of_lt (Hr30_6.out.lt g hg).2)
  have HNX_g0_r31 := Lib.hid (fun g hg => Nat.ne_of_lt (Hr31_6.out.lt g hg).2)
  have Hr20_8 := Lib.hid (Hr20_6.out.below hbx)
  have Hr21_8 := Lib.hid (Hr21_6.out.below hbx)
  have Hx00_8 := Lib.hid (Hx00_6.out.below hbx)
  have Hr30_8 := Lib.hid (Hr30_6.out.below hbx)
  have Hr31_8 := Lib.hid (Hr31_6.out.below hbx)
  have Kw0_8 := Lib.hid ((hbx.block _ (heap_lt Kw0_6.out)).trans Kw0_6.out)
  have HB_8 := Lib.hid (below_more HB_6.out hbx)
  clear Hr20_6 Hr21_6 Hx00_6 Hr30_6 Hr31_6 Kw0_6 HB_6
  have Kg0_7 := Lib.hid KX
  clear hbx KX
  have cw0_0 : w6.cell? ⟨w2.heap.size, 0, none⟩ = some (.int .i64 N) := cell_of_row _ _ 0 _ _ _ Kw0_8.out
  have cw0_1 : w6.cell? ⟨w2.heap.size, 1, none⟩ = some (.int .i64 As) := cell_of_row _ _ 1 _ _ _ Kw0_8.out
  have cw0_2 : w6.cell? ⟨w2.heap.size, 2, none⟩ = some (.int .i64 Su) := cell_of_row _ _ 2 _ _ _ Kw0_8.out
  have cw0_3 : w6.cell? ⟨w2.heap.size, 3, none⟩ = some (.slice Ar20 V.length cr20) := cell_of_row _ _ 3 _ _ _ Kw0_8.out
  have cg0_0 : w6.cell? ⟨w5.heap.size, 0, none⟩ = some (.int .i64 N) := cell_of_row _ _ 0 _ _ _ Kg0_7.out
  have cg0_1 : w6.cell? ⟨w5.heap.size, 1, none⟩ = some (.int .i64 As) := cell_of_row _ _ 1 _ _ _ Kg0_7.out
  have cg0_2 : w6.cell? ⟨w5.heap.size, 2, none⟩ = some (.int .i64 Su) := cell_of_row _ _ 2 _ _ _ Kg0_7.out
  have cg0_3 : w6.cell? ⟨w5.heap.size, 3, none⟩ = some (.slice Ar30 V.length cr30) := cell_of_row _ _ 3 _ _ _ Kg0_7.out
  go_wp2_with fail
  clear cw0_0 cw0_1 cw0_2 cw0_3 cg0_0 cg0_1 cg0_2 cg0_3 hw7
  refine (eqGv_self N As Su Ar30 Ar20 V cr30 cr20 _ (own_ints5 Hr30_8.out) (own_ints5 Hr20_8.out) (by omega)).mono ?_
  rintro e w7 ⟨rfl, hbq⟩
  have Hr20_9 := Lib.hid (Hr20_8.out.below hbq)
  have Hr21_9 := Lib.hid (Hr21_8.out.below hbq)
  have Hx00_9 := Lib.hid (Hx00_8.out.below hbq)
  have Hr30_9 := Lib.hid (Hr30_8.out.below hbq)
  have Hr31_9 := Lib.hid (Hr31_8.out.below hbq)
  have Kw0_9 := Lib.hid ((hbq.block _ (heap_lt Kw0_8.out)).trans Kw0_8.out)
  have Kg0_9 := Lib.hid ((hbq.block _ (heap_lt Kg0_7.out)).trans Kg0_7.out)
  have HB_9 := Lib.hid (below_more HB_8.out hbq)
  clear Hr20_8 Hr21_8 Hx00_8 Hr30_8 Hr31_8 Kw0_8 Kg0_7 HB_8
  clear hbq
  have cw0_0 : w7.cell? ⟨w2.heap.size, 0, none⟩ = some (.int .i64 N) := cell_of_row _ _ 0 _ _ _ Kw0_9.out
  have cw0_1 : w7.cell? ⟨w2.heap.size, 1, none⟩ = some (.int .i64 As) := cell_of_row _ _ 1 _ _ _ Kw0_9.out
  have cw0_2 : w7.cell? ⟨w2.heap.size, 2, none⟩ = some (.int .i64 Su) := cell_of_row _ _ 2 _ _ _ Kw0_9.out
  have cw0_3 : w7.cell? ⟨w2.heap.size, 3, none⟩ = some (.slice Ar20 V.length cr20) := cell_of_row _ _ 3 _ _ _ Kw0_9.out
  have cg0_0 : w7.cell? ⟨w5.heap.size, 0, none⟩ = some (.int .i64 N) := cell_of_row _ _ 0 _ _ _ Kg0_9.out
  have cg0_1 : w7.cell? ⟨w5.heap.size, 1, none⟩ = some (.int .i64 As) := cell_of_row _ _ 1 _ _ _ Kg0_9.out
  have cg0_2 : w7.cell? ⟨w5.heap.size, 2, none⟩ = some (.int .i64 Su) := cell_of_row _ _ 2 _ _ _ Kg0_9.out
  have cg0_3 : w7.cell? ⟨w5.heap.size, 3, none⟩ = some (.slice Ar30 V.length cr30) := cell_of_row _ _ 3 _ _ _ Kg0_9.out
  go_wp2_with fail
  clear cw0_0 cw0_1 cw0_2 cw0_3 cg0_0 cg0_1 cg0_2 cg0_3
  refine (eqBo_self Ar31 Ar21 U cr31 cr21 _ (own_bols11 Hr31_9.out) (own_bols11 Hr21_9.out) (by omega)).mono ?_
  rintro e w8 ⟨rfl, hbq⟩
  have Hr20_10 := Lib.hid (Hr20_9.out.below hbq)
  have Hr21_10 := Lib.hid (Hr21_9.out.below hbq)
  have Hx00_10 := Lib.hid (Hx00_9.out.below hbq)
  have Hr30_10 := Lib.hid (Hr30_9.out.below hbq)
  have Hr31_10 := Lib.hid (Hr31_9.out.below hbq)
  have Kw0_10 := Lib.hid ((hbq.block _ (heap_lt Kw0_9.out)).trans Kw0_9.out)
  have Kg0_10 := Lib.hid ((hbq.block _ (heap_lt Kg0_9.out)).trans Kg0_9.out)
  have HB_10 := Lib.hid (below_more HB_9.out hbq)
  clear Hr20_9 Hr21_9 Hx00_9 Hr30_9 Hr31_9 Kw0_9 Kg0_9 HB_9
  clear hbq
  have cw0_0 : w8.cell? ⟨w2.heap.size, 0, none⟩ = some (.int .i64 N) := cell_of_row _ _ 0 _ _ _ Kw0_10.out
  have cw0_1 : w8.cell? ⟨w2.heap.size, 1, none⟩ = some (.int .i64 As) := cell_of_row _ _ 1 _ _ _ Kw0_10.out
  have cw0_2 : w8.cell? ⟨w2.heap.size, 2, none⟩ = some (.int .i64 Su) := cell_of_row _ _ 2 _ _ _ Kw0_10.out
  have cw0_3 : w8.cell? ⟨w2.heap.size, 3, none⟩ = some (.slice Ar20 V.length cr20) := cell_of_row _ _ 3 _ _ _ Kw0_10.out
  have cg0_0 : w8.cell? ⟨w5.heap.size, 0, none⟩ = some (.int .i64 N) := cell_of_row _ _ 0 _ _ _ Kg0_10.out
  have cg0_1 : w8.cell? ⟨w5.heap.size, 1, none⟩ = some (.int .i64 As) := cell_of_row _ _ 1 _ _ _ Kg0_10.out
  have cg0_2 : w8.cell? ⟨w5.heap.size, 2, none⟩ = some (.int .i64 Su) := cell_of_row _ _ 2 _ _ _ Kg0_10.out
  have cg0_3 : w8.cell? ⟨w5.heap.size, 3, none⟩ = some (.slice Ar30 V.length cr30) := cell_of_row _ _ 3 _ _ _ Kg0_10.out
  go_wp2_with fail
  clear cw0_0 cw0_1 cw0_2 cw0_3 cg0_0 cg0_1 cg0_2 cg0_3
  refine (toIdS_any A l ca _ (HRA.out.below HB_10.out) (by omega)).mono ?_
  rintro e w9 ⟨ve40, rfl, hoe40, hbe4⟩
  obtain ⟨Ae40, ce40, hve40, hcape40, _⟩ := OwnR.form fId_len hoe40
  subst hve40
  have HAp_r20_e40 := Lib.hid (apart5 (fun k hk => (Hr20_10.out.lt k hk).2) (fun k hk => (hoe40.lt k hk).1))
  have HAp_r21_e40 := Lib.hid (apart5 (fun k hk => (Hr21_10.out.lt k hk).2) (fun k hk => (hoe40.lt k hk).1))
  have HAp_x00_e40 := Lib.hid (apart5 (fun k hk => (Hx00_10.out.lt k hk).2) (fun k hk => (hoe40.lt k hk).1))
  have HAp_r30_e40 := Lib.hid (apart5 (fun k hk => (Hr30_10.out.lt k hk).2) (fun k hk => (hoe40.lt k hk).1))
  have HAp_r31_e40 := Lib.hid (apart5 (fun k hk => (Hr31_10.out.lt k hk).2) (fun k hk => (hoe40.lt k hk).1))
  have HNX_w0_e40 := Lib.hid (fun g hg => Nat.ne_of_gt (Nat.lt_of_lt_of_le (heap_lt Kw0_10.out) (hoe40.lt g hg).1))
  have HNX_g0_e40 := Lib.hid (fun g hg => Nat.ne_of_gt (Nat.lt_of_lt_of_le (heap_lt Kg0_10.out) (hoe40.lt g hg).1))
  have Hr20_11 := Lib.hid (Hr20_10.out.below hbe4)
  have Hr21_11 := Lib.hid (Hr21_10.out.below hbe4)
  have Hx00_11 := Lib.hid (Hx00_10.out.below hbe4)
  have Hr30_11 := Lib.hid (Hr30_10.out.below hbe4)
  have Hr31_11 := Lib.hid (Hr31_10.out.below hbe4)
  have He40_11 := Lib.hid (hoe40.lower HB_10.out.size)
  have Kw0_11 := Lib.hid ((hbe4.block _ (heap_lt Kw0_10.out)).trans Kw0_10.out)
  have Kg0_11 := Lib.hid ((hbe4.block _ (heap_lt Kg0_10.out)).trans Kg0_10.out)
  have HB_11 := Lib.hid (below_more HB_10.out hbe4)
  clear Hr20_10 Hr21_10 Hx00_10 Hr30_10 Hr31_10 Kw0_10 Kg0_10 HB_10 hoe40 hbe4
  have cw0_0 : w9.cell? ⟨w2.heap.size, 0, none⟩ = some (.int .i64 N) := cell_of_row _ _ 0 _ _ _ Kw0_11.out
  have cw0_1 : w9.cell? ⟨w2.heap.size, 1, none⟩ = some (.int .i64 As) := cell_of_row _ _ 1 _ _ _ Kw0_11.out
  have cw0_2 : w9.cell? ⟨w2.heap.size, 2, none⟩ = some (.int .i64 Su) := cell_of_row _ _ 2 _ _ _ Kw0_11.out
  have cw0_3 : w9.cell? ⟨w2.heap.size, 3, none⟩ = some (.slice Ar20 V.length cr20) := cell_of_row _ _ 3 _ _ _ Kw0_11.out
  have cg0_0 : w9.cell? ⟨w5.heap.size, 0, none⟩ = some (.int .i64 N) := cell_of_row _ _ 0 _ _ _ Kg0_11.out
  have cg0_1 : w9.cell? ⟨w5.heap.size, 1, none⟩ = some (.int .i64 As) := cell_of_row _ _ 1 _ _ _ Kg0_11.out
  have cg0_2 : w9.cell? ⟨w5.heap.size, 2, none⟩ = some (.int .i64 Su) := cell_of_row _ _ 2 _ _ _ Kg0_11.out
  have cg0_3 : w9.cell? ⟨w5.heap.size, 3, none⟩ = some (.slice Ar30 V.length cr30) := cell_of_row _ _ 3 _ _ _ Kg0_11.out
  go_wp2_with fail
  clear cw0_0 cw0_1 cw0_2 cw0_3 cg0_0 cg0_1 cg0_2 cg0_3
  refine (eqIdS_self Ax00 Ae40 l cx00 ce40 _ (OwnR.rd fId_len Hx00_11.out) (OwnR.rd fId_len He40_11.out) (by omega)).mono ?_
  rintro e w10 ⟨rfl, hbq⟩
  have Hr20_12 := Lib.hid (Hr20_11.out.below hbq)
  have Hr21_12 := Lib.hid (Hr21_11.out.below hbq)
  have Hx00_12 := Lib.hid (Hx00_11.out.below hbq)
  have Hr30_12 := Lib.hid (Hr30_11.out.below hbq)
  have Hr31_12 := Lib.hid (Hr31_11.out.below hbq)
  have He40_12 := Lib.hid (He40_11.out.below hbq)
  have Kw0_12 := Lib.hid ((hbq.block _ (heap_lt Kw0_11.out)).trans Kw0_11.out)
  have Kg0_12 := Lib.hid ((hbq.block _ (heap_lt Kg0_11.out)).trans Kg0_11.out)
  have HB_12 := Lib.hid (below_more HB_11.out hbq)
  clear Hr20_11 Hr21_11 Hx00_11 Hr30_11 Hr31_11 He40_11 Kw0_11 Kg0_11 HB_11
  clear hbq
  clear He40_12
  have cw0_0 : w10.cell? ⟨w2.heap.size, 0, none⟩ = some (.int .i64 N) := cell_of_row _ _ 0 _ _ _ Kw0_12.out
  have cw0_1 : w10.cell? ⟨w2.heap.size, 1, none⟩ = some (.int .i64 As) := cell_of_row _ _ 1 _ _ _ Kw0_12.out
  have cw0_2 : w10.cell? ⟨w2.heap.size, 2, none⟩ = some (.int .i64 Su) := cell_of_row _ _ 2 _ _ _ Kw0_12.out
  have cw0_3 : w10.cell? ⟨w2.heap.size, 3, none⟩ = some (.slice Ar20 V.length cr20) := cell_of_row _ _ 3 _ _ _ Kw0_12.out
  have cg0_0 : w10.cell? ⟨w5.heap.size, 0, none⟩ = some (.int .i64 N) := cell_of_row _ _ 0 _ _ _ Kg0_12.out
  have cg0_1 : w10.cell? ⟨w5.heap.size, 1, none⟩ = some (.int .i64 As) := cell_of_row _ _ 1 _ _ _ Kg0_12.out
  have cg0_2 : w10.cell? ⟨w5.heap.size, 2, none⟩ = some (.int .i64 Su) := cell_of_row _ _ 2 _ _ _ Kg0_12.out
  have cg0_3 : w10.cell? ⟨w5.heap.size, 3, none⟩ = some (.slice Ar30 V.length cr30) := cell_of_row _ _ 3 _ _ _ Kg0_12.out
  go_wp2_with fail
  clear cw0_0 cw0_1 cw0_2 cw0_3 cg0_0 cg0_1 cg0_2 cg0_3
  refine (markIdS_any _ l _ 1 _ Hx00_12.out (by omega) (by omega) (by omega)).mono ?_
  rintro e w11 ⟨rfl, hm0, hg0⟩
  have Hr20_13 := Lib.hid (Hr20_12.out.kept hg0 HAp_r20_x00.out)
  have Hr21_13 := Lib.hid (Hr21_12.out.kept hg0 HAp_r21_x00.out)
  have Hr30_13 := Lib.hid (Hr30_12.out.kept hg0 (gApart HAp_x00_r30.out))
  have Hr31_13 := Lib.hid (Hr31_12.out.kept hg0 (gApart HAp_x00_r31.out))
  have Kw0_13 := Lib.hid ((hg0.block _ (heap_lt Kw0_12.out) (fun e => HNX_w0_x00.out _ e.symm rfl)).trans Kw0_12.out)
  have Kg0_13 := Lib.hid ((hg0.block _ (heap_lt Kg0_12.out) (fun e => HNX_g0_x00.out _ e.symm rfl)).trans Kg0_12.out)
  have HMb0 := Lib.hid (fun k hk => (Hx00_12.out.lt k hk).1)
  have HB_13 : Hid (Below w.heap.size w w11) := (HB_12.out.grown hg0 HB_12.out.size HMb0.out)
  have Hx00_13 := Lib.hid hm0
  clear Hr20_12 Hr21_12 Hr30_12 Hr31_12 Kw0_12 Kg0_12 HB_12 Hx00_12 hm0 hg0 HMb0
  clear Hx00_13
  have cw0_0 : w11.cell? ⟨w2.heap.size, 0, none⟩ = some (.int .i64 N) := cell_of_row _ _ 0 _ _ _ Kw0_13.out
  have cw0_1 : w11.cell? ⟨w2.heap.size, 1, none⟩ = some (.int .i64 As) := cell_of_row _ _ 1 _ _ _ Kw0_13.out
  have cw0_2 : w11.cell? ⟨w2.heap.size, 2, none⟩ = some (.int .i64 Su) := cell_of_row _ _ 2 _ _ _ Kw0_13.out
  have cw0_3 : w11.cell? ⟨w2.heap.size, 3, none⟩ = some (.slice Ar20 V.length cr20) := cell_of_row _ _ 3 _ _ _ Kw0_13.out
  have cg0_0 : w11.cell? ⟨w5.heap.size, 0, none⟩ = some (.int .i64 N) := cell_of_row _ _ 0 _ _ _ Kg0_13.out
  have cg0_1 : w11.cell? ⟨w5.heap.size, 1, none⟩ = some (.int .i64 As) := cell_of_row _ _ 1 _ _ _ Kg0_13.out
  have cg0_2 : w11.cell? ⟨w5.heap.size, 2, none⟩ = some (.int .i64 Su) := cell_of_row _ _ 2 _ _ _ Kg0_13.out
  have cg0_3 : w11.cell? ⟨w5.heap.size, 3, none⟩ = some (.slice Ar30 V.length cr30) := cell_of_row _ _ 3 _ _ _ Kg0_13.out
  go_wp2_with fail
  clear cw0_0 cw0_1 cw0_2 cw0_3 cg0_0 cg0_1 cg0_2 cg0_3
  refine (eqGv_self N As Su Ar30 Ar20 V cr30 cr20 _ (own_ints5 Hr30_13.out) (own_ints5 Hr20_13.out) (by omega)).mono ?_
  rintro e w12 ⟨rfl, hbq⟩
  have Hr20_14 := Lib.hid (Hr20_13.out.below hbq)
  have Hr21_14 := Lib.hid (Hr21_13.out.below hbq)
  have Hr30_14 := Lib.hid (Hr30_13.out.below hbq)
  have Hr31_14 := Lib.hid (Hr31_13.out.below hbq)
  have Kw0_14 := Lib.hid ((hbq.block _ (heap_lt Kw0_13.out)).trans Kw0_13.out)
  have Kg0_14 := Lib.hid ((hbq.block _ (heap_lt Kg0_13.out)).trans Kg0_13.out)
  have HB_14 := Lib.hid (below_more HB_13.out hbq)
  clear Hr20_13 Hr21_13 Hr30_13 Hr31_13 Kw0_13 Kg0_13 HB_13
  clear hbq
  have cw0_0 : w12.cell? ⟨w2.heap.size, 0, none⟩ = some (.int .i64 N) := cell_of_row _ _ 0 _ _ _ Kw0_14.out
  have cw0_1 : w12.cell? ⟨w2.heap.size, 1, none⟩ = some (.int .i64 As) := cell_of_row _ _ 1 _ _ _ Kw0_14.out
  have cw0_2 : w12.cell? ⟨w2.heap.size, 2, none⟩ = some (.int .i64 Su) := cell_of_row _ _ 2 _ _ _ Kw0_14.out
  have cw0_3 : w12.cell? ⟨w2.heap.size, 3, none⟩ = some (.slice Ar20 V.length cr20) := cell_of_row _ _ 3 _ _ _ Kw0_14.out
  have cg0_0 : w12.cell? ⟨w5.heap.size, 0, none⟩ = some (.int .i64 N) := cell_of_row _ _ 0 _ _ _ Kg0_14.out
  have cg0_1 : w12.cell? ⟨w5.heap.size, 1, none⟩ = some (.int .i64 As) := cell_of_row _ _ 1 _ _ _ Kg0_14.out
  have cg0_2 : w12.cell? ⟨w5.heap.size, 2, none⟩ = some (.int .i64 Su) := cell_of_row _ _ 2 _ _ _ Kg0_14.out
  have cg0_3 : w12.cell? ⟨w5.heap.size, 3, none⟩ = some (.slice Ar30 V.length cr30) := cell_of_row _ _ 3 _ _ _ Kg0_14.out
  go_wp2_with fail
  clear cw0_0 cw0_1 cw0_2 cw0_3 cg0_0 cg0_1 cg0_2 cg0_3
  refine (eqBo_self Ar31 Ar21 U cr31 cr21 _ (own_bols11 Hr31_14.out) (own_bols11 Hr21_14.out) (by omega)).mono ?_
  rintro e w13 ⟨rfl, hbq⟩
  have Hr20_15 := Lib.hid (Hr20_14.out.below hbq)
  have Hr21_15 := Lib.hid (Hr21_14.out.below hbq)
  have Hr30_15 := Lib.hid (Hr30_14.out.below hbq)
  have Hr31_15 := Lib.hid (Hr31_14.out.below hbq)
  have Kw0_15 := Lib.hid ((hbq.block _ (heap_lt Kw0_14.out)).trans Kw0_14.out)
  have Kg0_15 := Lib.hid ((hbq.block _ (heap_lt Kg0_14.out)).trans Kg0_14.out)
  have HB_15 := Lib.hid (below_more HB_14.out hbq)
  clear Hr20_14 Hr21_14 Hr30_14 Hr31_14 Kw0_14 Kg0_14 HB_14
  clear hbq
  have cw0_0 : w13.cell? ⟨w2.heap.size, 0, none⟩ = some (.int .i64 N) := cell_of_row _ _ 0 _ _ _ Kw0_15.out
  have cw0_1 : w13.cell? ⟨w2.heap.size, 1, none⟩ = some (.int .i64 As) := cell_of_row _ _ 1 _ _ _ Kw0_15.out
  have cw0_2 : w13.cell? ⟨w2.heap.size, 2, none⟩ = some (.int .i64 Su) := cell_of_row _ _ 2 _ _ _ Kw0_15.out
  have cw0_3 : w13.cell? ⟨w2.heap.size, 3, none⟩ = some (.slice Ar20 V.length cr20) := cell_of_row _ _ 3 _ _ _ Kw0_15.out
  have cg0_0 : w13.cell? ⟨w5.heap.size, 0, none⟩ = some (.int .i64 N) := cell_of_row _ _ 0 _ _ _ Kg0_15.out
  have cg0_1 : w13.cell? ⟨w5.heap.size, 1, none⟩ = some (.int .i64 As) := cell_of_row _ _ 1 _ _ _ Kg0_15.out
  have cg0_2 : w13.cell? ⟨w5.heap.size, 2, none⟩ = some (.int .i64 Su) := cell_of_row _ _ 2 _ _ _ Kg0_15.out
  have cg0_3 : w13.cell? ⟨w5.heap.size, 3, none⟩ = some (.slice Ar30 V.length cr30) := cell_of_row _ _ 3 _ _ _ Kg0_15.out
  go_wp2_with fail
  clear cw0_0 cw0_1 cw0_2 cw0_3 cg0_0 cg0_1 cg0_2 cg0_3
  refine (markGv_any N As Su _ V _ 1 _ Hr30_15.out (by omega) (by omega) (by omega)).mono ?_
  rintro e w14 ⟨rfl, hm0, hg0⟩
  have Hr20_16 := Lib.hid (Hr20_15.out.kept hg0 HAp_r20_r30.out)
  have Hr21_16 := Lib.hid (Hr21_15.out.kept hg0 HAp_r21_r30.out)
  have Hr31_16 := Lib.hid (Hr31_15.out.kept hg0 (gApart HAp_r30_r31.out))
  have Kw0_16 := Lib.hid ((hg0.block _ (heap_lt Kw0_15.out) (fun e => HNX_w0_r30.out _ e.symm rfl)).trans Kw0_15.out)
  have Kg0_16 := Lib.hid ((hg0.block _ (heap_lt Kg0_15.out) (fun e => HNX_g0_r30.out _ e.symm rfl)).trans Kg0_15.out)
  have HMb0 := Lib.hid (fun k hk => (Hr30_15.out.lt k hk).1)
  have HB_16 : Hid (Below w.heap.size w w14) := (HB_15.out.grown hg0 HB_15.out.size HMb0.out)
  have Hr30_16 := Lib.hid hm0
  clear Hr20_15 Hr21_15 Hr31_15 Kw0_15 Kg0_15 HB_15 Hr30_15 hm0 hg0 HMb0
  have cw0_0 : w14.cell? ⟨w2.heap.size, 0, none⟩ = some (.int .i64 N) := cell_of_row _ _ 0 _ _ _ Kw0_16.out
  have cw0_1 : w14.cell? ⟨w2.heap.size, 1, none⟩ = some (.int .i64 As) := cell_of_row _ _ 1 _ _ _ Kw0_16.out
  have cw0_2 : w14.cell? ⟨w2.heap.size, 2, none⟩ = some (.int .i64 Su) := cell_of_row _ _ 2 _ _ _ Kw0_16.out
  have cw0_3 : w14.cell? ⟨w2.heap.size, 3, none⟩ = some (.slice Ar20 V.length cr20) := cell_of_row _ _ 3 _ _ _ Kw0_16.out
  have cg0_0 : w14.cell? ⟨w5.heap.size, 0, none⟩ = some (.int .i64 N) := cell_of_row _ _ 0 _ _ _ Kg0_16.out
  have cg0_1 : w14.cell? ⟨w5.heap.size, 1, none⟩ = some (.int .i64 As) := cell_of_row _ _ 1 _ _ _ Kg0_16.out
  have cg0_2 : w14.cell? ⟨w5.heap.size, 2, none⟩ = some (.int .i64 Su) := cell_of_row _ _ 2 _ _ _ Kg0_16.out
  have cg0_3 : w14.cell? ⟨w5.heap.size, 3, none⟩ = some (.slice Ar30 V.length cr30) := cell_of_row _ _ 3 _ _ _ Kg0_16.out
  go_wp2_with fail
  clear cw0_0 cw0_1 cw0_2 cw0_3 cg0_0 cg0_1 cg0_2 cg0_3
  refine (markBo_any _ U _ (1 + (V.length : Int)) _ Hr31_16.out (by omega) (by omega) (by omega)).mono ?_
  rintro e w15 ⟨rfl, hm0, hg0⟩
  have Hr20_17 := Lib.hid (Hr20_16.out.kept hg0 HAp_r20_r31.out)
  have Hr21_17 := Lib.hid (Hr21_16.out.kept hg0 HAp_r21_r31.out)
  have Hr30_17 := Lib.hid (Hr30_16.out.kept hg0 HAp_r30_r31.out)
  have Kw0_17 := Lib.hid ((hg0.block _ (heap_lt Kw0_16.out) (fun e => HNX_w0_r31.out _ e.symm rfl)).trans Kw0_16.out)
  have Kg0_17 := Lib.hid ((hg0.block _ (heap_lt Kg0_16.out) (fun e => HNX_g0_r31.out _ e.symm rfl)).trans Kg0_16.out)
  have HMb0 := Lib.hid (fun k hk => (Hr31_16.out.lt k hk).1)
  have HB_17 : Hid (Below w.heap.size w w15) := (HB_16.out.grown hg0 HB_16.out.size HMb0.out)
  have Hr31_17 := Lib.hid hm0
  clear Hr20_16 Hr21_16 Hr30_16 Kw0_16 Kg0_16 HB_16 Hr31_16 hm0 hg0 HMb0
  have cw0_0 : w15.cell? ⟨w2.heap.size, 0, none⟩ = some (.int .i64 N) := cell_of_row _ _ 0 _ _ _ Kw0_17.out
  have cw0_1 : w15.cell? ⟨w2.heap.size, 1, none⟩ = some (.int .i64 As) := cell_of_row _ _ 1 _ _ _ Kw0_17.out
  have cw0_2 : w15.cell? ⟨w2.heap.size, 2, none⟩ = some (.int .i64 Su) := cell_of_row _ _ 2 _ _ _ Kw0_17.out
  have cw0_3 : w15.cell? ⟨w2.heap.size, 3, none⟩ = some (.slice Ar20 V.length cr20) := cell_of_row _ _ 3 _ _ _ Kw0_17.out
  have cg0_0 : w15.cell? ⟨w5.heap.size, 0, none⟩ = some (.int .i64 N) := cell_of_row _ _ 0 _ _ _ Kg0_17.out
  have cg0_1 : w15.cell? ⟨w5.heap.size, 1, none⟩ = some (.int .i64 As) := cell_of_row _ _ 1 _ _ _ Kg0_17.out
  have cg0_2 : w15.cell? ⟨w5.heap.size, 2, none⟩ = some (.int .i64 Su) := cell_of_row _ _ 2 _ _ _ Kg0_17.out
  have cg0_3 : w15.cell? ⟨w5.heap.size, 3, none⟩ = some (.slice Ar30 V.length cr30) := cell_of_row _ _ 3 _ _ _ Kg0_17.out
  go_wp2_with fail
  clear cw0_0 cw0_1 cw0_2 cw0_3 cg0_0 cg0_1 cg0_2 cg0_3
  refine (heldGv_any N As Su Ar30 1 V.length cr30 _ (own_ints5 Hr30_17.out) (by omega) (by omega) (by omega)).mono ?_
  rintro e w16 ⟨rfl, hbq⟩
  have Hr20_18 := Lib.hid (Hr20_17.out.below hbq)
  have Hr21_18 := Lib.hid (Hr21_17.out.below hbq)
  have Hr30_18 := Lib.hid (Hr30_17.out.below hbq)
  have Hr31_18 := Lib.hid (Hr31_17.out.below hbq)
  have Kw0_18 := Lib.hid ((hbq.block _ (heap_lt Kw0_17.out)).trans Kw0_17.out)
  have Kg0_18 := Lib.hid ((hbq.block _ (heap_lt Kg0_17.out)).trans Kg0_17.out)
  have HB_18 := Lib.hid (below_more HB_17.out hbq)
  clear Hr20_17 Hr21_17 Hr30_17 Hr31_17 Kw0_17 Kg0_17 HB_17
  clear hbq
  have cw0_0 : w16.cell? ⟨w2.heap.size, 0, none⟩ = some (.int .i64 N) := cell_of_row _ _ 0 _ _ _ Kw0_18.out
  have cw0_1 : w16.cell? ⟨w2.heap.size, 1, none⟩ = some (.int .i64 As) := cell_of_row _ _ 1 _ _ _ Kw0_18.out
  have cw0_2 : w16.cell? ⟨w2.heap.size, 2, none⟩ = some (.int .i64 Su) := cell_of_row _ _ 2 _ _ _ Kw0_18.out
  have cw0_3 : w16.cell? ⟨w2.heap.size, 3, none⟩ = some (.slice Ar20 V.length cr20) := cell_of_row _ _ 3 _ _ _ Kw0_18.out
  have cg0_0 : w16.cell? ⟨w5.heap.size, 0, none⟩ = some (.int .i64 N) := cell_of_row _ _ 0 _ _ _ Kg0_18.out
  have cg0_1 : w16.cell? ⟨w5.heap.size, 1, none⟩ = some (.int .i64 As) := cell_of_row _ _ 1 _ _ _ Kg0_18.out
  have cg0_2 : w16.cell? ⟨w5.heap.size, 2, none⟩ = some (.int .i64 Su) := cell_of_row _ _ 2 _ _ _ Kg0_18.out
  have cg0_3 : w16.cell? ⟨w5.heap.size, 3, none⟩ = some (.slice Ar30 V.length cr30) := cell_of_row _ _ 3 _ _ _ Kg0_18.out
  go_wp2_with fail
  clear cw0_0 cw0_1 cw0_2 cw0_3 cg0_0 cg0_1 cg0_2 cg0_3
  refine (heldBo_any Ar31 (1 + (V.length : Int)) U.length cr31 _ (own_bols11 Hr31_18.out) (by omega) (by omega) (by omega)).mono ?_
  rintro e w17 ⟨rfl, hbq⟩
  have Hr20_19 := Lib.hid (Hr20_18.out.below hbq)
  have Hr21_19 := Lib.hid (Hr21_18.out.below hbq)
  have Hr30_19 := Lib.hid (Hr30_18.out.below hbq)
  have Hr31_19 := Lib.hid (Hr31_18.out.below hbq)
  have Kw0_19 := Lib.hid ((hbq.block _ (heap_lt Kw0_18.out)).trans Kw0_18.out)
  have Kg0_19 := Lib.hid ((hbq.block _ (heap_lt Kg0_18.out)).trans Kg0_18.out)
  have HB_19 := Lib.hid (below_more HB_18.out hbq)
  clear Hr20_18 Hr21_18 Hr30_18 Hr31_18 Kw0_18 Kg0_18 HB_18
  clear hbq
  have cw0_0 : w17.cell? ⟨w2.heap.size, 0, none⟩ = some (.int .i64 N) := cell_of_row _ _ 0 _ _ _ Kw0_19.out
  have cw0_1 : w17.cell? ⟨w2.heap.size, 1, none⟩ = some (.int .i64 As) := cell_of_row _ _ 1 _ _ _ Kw0_19.out
  have cw0_2 : w17.cell? ⟨w2.heap.size, 2, none⟩ = some (.int .i64 Su) := cell_of_row _ _ 2 _ _ _ Kw0_19.out
  have cw0_3 : w17.cell? ⟨w2.heap.size, 3, none⟩ = some (.slice Ar20 V.length cr20) := cell_of_row _ _ 3 _ _ _ Kw0_19.out
  have cg0_0 : w17.cell? ⟨w5.heap.size, 0, none⟩ = some (.int .i64 N) := cell_of_row _ _ 0 _ _ _ Kg0_19.out
  have cg0_1 : w17.cell? ⟨w5.heap.size, 1, none⟩ = some (.int .i64 As) := cell_of_row _ _ 1 _ _ _ Kg0_19.out
  have cg0_2 : w17.cell? ⟨w5.heap.size, 2, none⟩ = some (.int .i64 Su) := cell_of_row _ _ 2 _ _ _ Kg0_19.out
  have cg0_3 : w17.cell? ⟨w5.heap.size, 3, none⟩ = some (.slice Ar30 V.length cr30) := cell_of_row _ _ 3 _ _ _ Kg0_19.out
  go_wp2_with fail
  clear cw0_0 cw0_1 cw0_2 cw0_3 cg0_0 cg0_1 cg0_2 cg0_3
  refine (toIdS_any A l ca _ (HRA.out.below HB_19.out) (by omega)).mono ?_
  rintro e w18 ⟨vt50, rfl, hot50, hbt5⟩
  obtain ⟨At50, ct50, hvt50, hcapt50, _⟩ := OwnR.form fId_len hot50
  subst hvt50
  have HAp_r20_t50 := Lib.hid (apart5 (fun k hk => (Hr20_19.out.lt k hk).2) (fun k hk => (hot50.lt k hk).1))
  have HAp_r21_t50 := Lib.hid (apart5 (fun k hk => (Hr21_19.out.lt k hk).2) (fun k hk => (hot50.lt k hk).1))
  have HAp_r30_t50 := Lib.hid (apart5 (fun k hk => (Hr30_19.out.lt k hk).2) (fun k hk => (hot50.lt k hk).1))
  have HAp_r31_t50 := Lib.hid (apart5 (fun k hk => (Hr31_19.out.lt k hk).2) (fun k hk => (hot50.lt k hk).1))
  have HNX_w0_t50 := Lib.hid (fun g hg => Nat.ne_of_gt (Nat.lt_of_lt_of_le (heap_lt Kw0_19.out) (hot50.lt g hg).1))
  have HNX_g0_t50 := Lib.hid (fun g hg => Nat.ne_of_gt (Nat.lt_of_lt_of_le (heap_lt Kg0_19.out) (hot50.lt g hg).1))
  have Hr20_20 := Lib.hid (Hr20_19.out.below hbt5)
  have Hr21_20 := Lib.hid (Hr21_19.out.below hbt5)
  have Hr30_20 := Lib.hid (Hr30_19.out.below hbt5)
  have Hr31_20 := Lib.hid (Hr31_19.out.below hbt5)
  have Ht50_20 := Lib.hid (hot50.lower HB_19.out.size)
  have Kw0_20 := Lib.hid ((hbt5.block _ (heap_lt Kw0_19.out)).trans Kw0_19.out)
  have Kg0_20 := Lib.hid ((hbt5.block _ (heap_lt Kg0_19.out)).trans Kg0_19.out)
  have HB_20 := Lib.hid (below_more HB_19.out hbt5)
  clear Hr20_19 Hr21_19 Hr30_19 Hr31_19 Kw0_19 Kg0_19 HB_19 hot50 hbt5
  have cw0_0 : w18.cell? ⟨w2.heap.size, 0, none⟩ = some (.int .i64 N) := cell_of_row _ _ 0 _ _ _ Kw0_20.out
  have cw0_1 : w18.cell? ⟨w2.heap.size, 1, none⟩ = some (.int .i64 As) := cell_of_row _ _ 1 _ _ _ Kw0_20.out
  have cw0_2 : w18.cell? ⟨w2.heap.size, 2, none⟩ = some (.int .i64 Su) := cell_of_row _ _ 2 _ _ _ Kw0_20.out
  have cw0_3 : w18.cell? ⟨w2.heap.size, 3, none⟩ = some (.slice Ar20 V.length cr20) := cell_of_row _ _ 3 _ _ _ Kw0_20.out
  have cg0_0 : w18.cell? ⟨w5.heap.size, 0, none⟩ = some (.int .i64 N) := cell_of_row _ _ 0 _ _ _ Kg0_20.out
  have cg0_1 : w18.cell? ⟨w5.heap.size, 1, none⟩ = some (.int .i64 As) := cell_of_row _ _ 1 _ _ _ Kg0_20.out
  have cg0_2 : w18.cell? ⟨w5.heap.size, 2, none⟩ = some (.int .i64 Su) := cell_of_row _ _ 2 _ _ _ Kg0_20.out
  have cg0_3 : w18.cell? ⟨w5.heap.size, 3, none⟩ = some (.slice Ar30 V.length cr30) := cell_of_row _ _ 3 _ _ _ Kg0_20.out
  go_wp2_with fail
  clear cw0_0 cw0_1 cw0_2 cw0_3 cg0_0 cg0_1 cg0_2 cg0_3
  refine (HI.out At50 ct50 _ (hK _ _ HW.out HB_20.out) (OwnR.rd fId_len Ht50_20.out) (ownR_lies Ht50_20.out) (by omega)).mono ?_
  rintro e w19 ⟨vr60, vr61, rfl, hpk, hbr6⟩
  obtain ⟨hor60, hor61, har6⟩ := hpk
  obtain ⟨Ar60, cr60, hvr60, hcapr60, _⟩ := gFormC hor60
  subst hvr60
  obtain ⟨Ar61, cr61, hvr61, hcapr61, _⟩ := OwnR.form fB1_len hor61
  subst hvr61
  have HAp_r20_r60 := Lib.hid (apart5 (fun k hk => (Hr20_20.out.lt k hk).2) (fun k hk => (hor60.lt k hk).1))
  have HAp_r21_r60 := Lib.hid (apart5 (fun k hk => (Hr21_20.out.lt k hk).2) (fun k hk => (hor60.lt k hk).1))
  have HAp_r30_r60 := Lib.hid (apart5 (fun k hk => (Hr30_20.out.lt k hk).2) (fun k hk => (hor60.lt k hk).1))
  have HAp_r31_r60 := Lib.hid (apart5 (fun k hk => (Hr31_20.out.lt k hk).2) (fun k hk => (hor60.lt k hk).1))
  have HAp_t50_r60 := Lib.hid (apart5 (fun k hk => (Ht50_20.out.lt k hk).2) (fun k hk => (hor60.lt k hk).1))
  have HAp_r20_r61 := Lib.hid (apart5 (fun k hk => (Hr20_20.out.lt k hk).2) (fun k hk => (hor61.lt k hk).1))
  have HAp_r21_r61 := Lib.hid (apart5 (fun k hk => (Hr21_20.out.lt k hk).2) (fun k hk => (hor61.lt k hk).1))
  have HAp_r30_r61 := Lib.hid (apart5 (fun k hk => (Hr30_20.out.lt k hk).2) (fun k hk => (hor61.lt k hk).1))
  have HAp_r31_r61 := Lib.hid (apart5 (fun k hk => (Hr31_20.out.lt k hk).2) (fun k hk => (hor61.lt k hk).1))
  have HAp_t50_r61 := Lib.hid (apart5 (fun k hk => (Ht50_20.out.lt k hk).2) (fun k hk => (hor61.lt k hk).1))
  have HNX_w0_r60 := Lib.hid (fun g hg => Nat.ne_of_gt (Nat.lt_of_lt_of_le (heap_lt Kw0_20.out) (hor60.lt g hg).1))
  have HNX_g0_r60 := Lib.hid (fun g hg => Nat.ne_of_gt (Nat.lt_of_lt_of_le (heap_lt Kg0_20.out) (hor60.lt g hg).1))
  have HNX_w0_r61 := Lib.hid (fun g hg => Nat.ne_of_gt (Nat.lt_of_lt_of_le (heap_lt Kw0_20.out) (hor61.lt g hg).1))
  have HNX_g0_r61 := Lib.hid (fun g hg => Nat.ne_of_gt (Nat.lt_of_lt_of_le (heap_lt Kg0_20.out) (hor61.lt g hg).1))
  have HAp_r60_r61 := Lib.hid har6
  have Hr20_21 := Lib.hid (Hr20_20.out.below hbr6)
  have Hr21_21 := Lib.hid (Hr21_20.out.below hbr6)
  have Hr30_21 := Lib.hid (Hr30_20.out.below hbr6)
  have Hr31_21 := Lib.hid (Hr31_20.out.below hbr6)
  have Ht50_21 := Lib.hid (Ht50_20.out.below hbr6)
  have Hr60_21 := Lib.hid (hor60.lower HB_20.out.size)
  have Hr61_21 := Lib.hid (hor61.lower HB_20.out.size)
  have Kw0_21 := Lib.hid ((hbr6.block _ (heap_lt Kw0_20.out)).trans Kw0_20.out)
  have Kg0_21 := Lib.hid ((hbr6.block _ (heap_lt Kg0_20.out)).trans Kg0_20.out)
  have HB_21 := Lib.hid (below_more HB_20.out hbr6)
  clear Hr20_20 Hr21_20 Hr30_20 Hr31_20 Ht50_20 Kw0_20 Kg0_20 HB_20 hor60 hor61 har6 hbr6
  obtain ⟨w20, hw22⟩ : ∃ wn, w19.alloc (.cells #[.int .i64 N, .int .i64 As, .int .i64 Su, .slice Ar60 V.length cr60] 27) = wn := ⟨_, rfl⟩
  have hbx : Below w19.heap.size w19 w20 := by rw [← hw22]; exact gAlloc _ _
  have KX : w20.heap[w19.heap.size]? = some (.cells #[.int .i64 N, .int .i64 As, .int .i64 Su, .slice Ar60 V.length cr60] 27 (0, 0)) := by rw [← hw22]; exact heap_alloc_new _ _
  have HNX_h0_r20 := Lib.hid (fun g hg => Nat.ne_of_lt (Hr20_21.out.lt g hg).2)
  have HNX_h0_r21 := Lib.hid (fun g hg => Nat.ne_of_lt (Hr21_21.out.lt g hg).2)
  have HNX_h0_r30 := Lib.hid (fun g hg => Nat.ne_of_lt (Hr30_21.out.lt g hg).2)
  have HNX_h0_r31 := Lib.hid (fun g hg => Nat.ne_of_lt (Hr31_21.out.lt g hg).2)
  have HNX_h0_t50 := Lib.hid (fun g hg => Nat.ne_of_lt (Ht50_21.out.lt g hg).2)
  have HNX_h0_r60 := Lib.hid (fun g hg => Nat.ne_of_lt (Hr60_21.out.lt g hg).2)
  have HNX_h0_r61 := Lib.hid (fun g hg => Nat.ne_of_lt (Hr61_21.out.lt g hg).2)
  have Hr20_23 := Lib.hid (Hr20_21.out.below hbx)
  have Hr21_23 := Lib.hid (Hr21_21.out.below hbx)
  have Hr30_23 := Lib.hid (Hr30_21.out.below hbx)
  have Hr31_23 := Lib.hid (Hr31_21.out.below hbx)
  have Ht50_23 := Lib.hid (Ht50_21.out.below hbx)
  have Hr60_23 := Lib.hid (Hr60_21.out.below hbx)
  have Hr61_23 := Lib.hid (Hr61_21.out.below hbx)
  have Kw0_23 := Lib.hid ((hbx.block _ (heap_lt Kw0_21.out)).trans Kw0_21.out)
  have Kg0_23 := Lib.hid ((hbx.block _ (heap_lt Kg0_21.out)).trans Kg0_21.out)
  have HB_23 := Lib.hid (below_more HB_21.out hbx)
  clear Hr20_21 Hr21_21 Hr30_21 Hr31_21 Ht50_21 Hr60_21 Hr61_21 Kw0_21 Kg0_21 HB_21
  have Kh0_22 := Lib.hid KX
  clear hbx KX
  clear Ht50_23
  have cw0_0 : w20.cell? ⟨w2.heap.size, 0, none⟩ = some (.int .i64 N) := cell_of_row _ _ 0 _ _ _ Kw0_23.out
  have cw0_1 : w20.cell? ⟨w2.heap.size, 1, none⟩ = some (.int .i64 As) := cell_of_row _ _ 1 _ _ _ Kw0_23.out
  have cw0_2 : w20.cell? ⟨w2.heap.size, 2, none⟩ = some (.int .i64 Su) := cell_of_row _ _ 2 _ _ _ Kw0_23.out
  have cw0_3 : w20.cell? ⟨w2.heap.size, 3, none⟩ = some (.slice Ar20 V.length cr20) := cell_of_row _ _ 3 _ _ _ Kw0_23.out
  have cg0_0 : w20.cell? ⟨w5.heap.size, 0, none⟩ = some (.int .i64 N) := cell_of_row _ _ 0 _ _ _ Kg0_23.out
  have cg0_1 : w20.cell? ⟨w5.heap.size, 1, none⟩ = some (.int .i64 As) := cell_of_row _ _ 1 _ _ _ Kg0_23.out
  have cg0_2 : w20.cell? ⟨w5.heap.size, 2, none⟩ = some (.int .i64 Su) := cell_of_row _ _ 2 _ _ _ Kg0_23.out
  have cg0_3 : w20.cell? ⟨w5.heap.size, 3, none⟩ = some (.slice Ar30 V.length cr30) := cell_of_row _ _ 3 _ _ _ Kg0_23.out
  have ch0_0 : w20.cell? ⟨w19.heap.size, 0, none⟩ = some (.int .i64 N) := cell_of_row _ _ 0 _ _ _ Kh0_22.out
  have ch0_1 : w20.cell? ⟨w19.heap.size, 1, none⟩ = some (.int .i64 As) := cell_of_row _ _ 1 _ _ _ Kh0_22.out
  have ch0_2 : w20.cell? ⟨w19.heap.size, 2, none⟩ = some (.int .i64 Su) := cell_of_row _ _ 2 _ _ _ Kh0_22.out
  have ch0_3 : w20.cell? ⟨w19.heap.size, 3, none⟩ = some (.slice Ar60 V.length cr60) := cell_of_row _ _ 3 _ _ _ Kh0_22.out
  go_wp2_with fail
  clear cw0_0 cw0_1 cw0_2 cw0_3 cg0_0 cg0_1 cg0_2 cg0_3 ch0_0 ch0_1 ch0_2 ch0_3 hw22
  refine (eqGv_self N As Su Ar60 Ar20 V cr60 cr20 _ (own_ints5 Hr60_23.out) (own_ints5 Hr20_23.out) (by omega)).mono ?_
  rintro e w21 ⟨rfl, hbq⟩
  have Hr20_24 := Lib.hid (Hr20_23.out.below hbq)
  have Hr21_24 := Lib.hid (Hr21_23.out.below hbq)
  have Hr30_24 := Lib.hid (Hr30_23.out.below hbq)
  have Hr31_24 := Lib.hid (Hr31_23.out.below hbq)
  have Hr60_24 := Lib.hid (Hr60_23.out.below hbq)
  have Hr61_24 := Lib.hid (Hr61_23.out.below hbq)
  have Kw0_24 := Lib.hid ((hbq.block _ (heap_lt Kw0_23.out)).trans Kw0_23.out)
  have Kg0_24 := Lib.hid ((hbq.block _ (heap_lt Kg0_23.out)).trans Kg0_23.out)
  have Kh0_24 := Lib.hid ((hbq.block _ (heap_lt Kh0_22.out)).trans Kh0_22.out)
  have HB_24 := Lib.hid (below_more HB_23.out hbq)
  clear Hr20_23 Hr21_23 Hr30_23 Hr31_23 Hr60_23 Hr61_23 Kw0_23 Kg0_23 Kh0_22 HB_23
  clear hbq
  have cw0_0 : w21.cell? ⟨w2.heap.size, 0, none⟩ = some (.int .i64 N) := cell_of_row _ _ 0 _ _ _ Kw0_24.out
  have cw0_1 : w21.cell? ⟨w2.heap.size, 1, none⟩ = some (.int .i64 As) := cell_of_row _ _ 1 _ _ _ Kw0_24.out
  have cw0_2 : w21.cell? ⟨w2.heap.size, 2, none⟩ = some (.int .i64 Su) := cell_of_row _ _ 2 _ _ _ Kw0_24.out
  have cw0_3 : w21.cell? ⟨w2.heap.size, 3, none⟩ = some (.slice Ar20 V.length cr20) := cell_of_row _ _ 3 _ _ _ Kw0_24.out
  have cg0_0 : w21.cell? ⟨w5.heap.size, 0, none⟩ = some (.int .i64 N) := cell_of_row _ _ 0 _ _ _ Kg0_24.out
  have cg0_1 : w21.cell? ⟨w5.heap.size, 1, none⟩ = some (.int .i64 As) := cell_of_row _ _ 1 _ _ _ Kg0_24.out
  have cg0_2 : w21.cell? ⟨w5.heap.size, 2, none⟩ = some (.int .i64 Su) := cell_of_row _ _ 2 _ _ _ Kg0_24.out
  have cg0_3 : w21.cell? ⟨w5.heap.size, 3, none⟩ = some (.slice Ar30 V.length cr30) := cell_of_row _ _ 3 _ _ _ Kg0_24.out
  have ch0_0 : w21.cell? ⟨w19.heap.size, 0, none⟩ = some (.int .i64 N) := cell_of_row _ _ 0 _ _ _ Kh0_24.out
  have ch0_1 : w21.cell? ⟨w19.heap.size, 1, none⟩ = some (.int .i64 As) := cell_of_row _ _ 1 _ _ _ Kh0_24.out
  have ch0_2 : w21.cell? ⟨w19.heap.size, 2, none⟩ = some (.int .i64 Su) := cell_of_row _ _ 2 _ _ _ Kh0_24.out
  have ch0_3 : w21.cell? ⟨w19.heap.size, 3, none⟩ = some (.slice Ar60 V.length cr60) := cell_of_row _ _ 3 _ _ _ Kh0_24.out
  go_wp2_with fail
  clear cw0_0 cw0_1 cw0_2 cw0_3 cg0_0 cg0_1 cg0_2 cg0_3 ch0_0 ch0_1 ch0_2 ch0_3
  refine (eqBo_self Ar61 Ar21 U cr61 cr21 _ (own_bols11 Hr61_24.out) (own_bols11 Hr21_24.out) (by omega)).mono ?_
  rintro e w22 ⟨rfl, hbq⟩
  have Hr20_25 := Lib.hid (Hr20_24.out.below hbq)
  have Hr21_25 := Lib.hid (Hr21_24.out.below hbq)
  have Hr30_25 := Lib.hid (Hr30_24.out.below hbq)
  have Hr31_25 := Lib.hid (Hr31_24.out.below hbq)
  have Hr60_25 := Lib.hid (Hr60_24.out.below hbq)
  have Hr61_25 := Lib.hid (Hr61_24.out.below hbq)
  have Kw0_25 := Lib.hid ((hbq.block _ (heap_lt Kw0_24.out)).trans Kw0_24.out)
  have Kg0_25 := Lib.hid ((hbq.block _ (heap_lt Kg0_24.out)).trans Kg0_24.out)
  have Kh0_25 := Lib.hid ((hbq.block _ (heap_lt Kh0_24.out)).trans Kh0_24.out)
  have HB_25 := Lib.hid (below_more HB_24.out hbq)
  clear Hr20_24 Hr21_24 Hr30_24 Hr31_24 Hr60_24 Hr61_24 Kw0_24 Kg0_24 Kh0_24 HB_24
  clear hbq
  clear Hr20_25
  clear Kw0_25
  clear Hr21_25
  clear Hr60_25
  clear Kh0_25
  clear Hr61_25
  have cg0_0 : w22.cell? ⟨w5.heap.size, 0, none⟩ = some (.int .i64 N) := cell_of_row _ _ 0 _ _ _ Kg0_25.out
  have cg0_1 : w22.cell? ⟨w5.heap.size, 1, none⟩ = some (.int .i64 As) := cell_of_row _ _ 1 _ _ _ Kg0_25.out
  have cg0_2 : w22.cell? ⟨w5.heap.size, 2, none⟩ = some (.int .i64 Su) := cell_of_row _ _ 2 _ _ _ Kg0_25.out
  have cg0_3 : w22.cell? ⟨w5.heap.size, 3, none⟩ = some (.slice Ar30 V.length cr30) := cell_of_row _ _ 3 _ _ _ Kg0_25.out
  go_wp2_with fail
  clear cg0_0 cg0_1 cg0_2 cg0_3
  refine (heldGv_any N As Su Ar30 1 V.length cr30 _ (own_ints5 Hr30_25.out) (by omega) (by omega) (by omega)).mono ?_
  rintro e w23 ⟨rfl, hbq⟩
  have Hr30_26 := Lib.hid (Hr30_25.out.below hbq)
  have Hr31_26 := Lib.hid (Hr31_25.out.below hbq)
  have Kg0_26 := Lib.hid ((hbq.block _ (heap_lt Kg0_25.out)).trans Kg0_25.out)
  have HB_26 := Lib.hid (below_more HB_25.out hbq)
  clear Hr30_25 Hr31_25 Kg0_25 HB_25
  clear hbq
  have cg0_0 : w23.cell? ⟨w5.heap.size, 0, none⟩ = some (.int .i64 N) := cell_of_row _ _ 0 _ _ _ Kg0_26.out
  have cg0_1 : w23.cell? ⟨w5.heap.size, 1, none⟩ = some (.int .i64 As) := cell_of_row _ _ 1 _ _ _ Kg0_26.out
  have cg0_2 : w23.cell? ⟨w5.heap.size, 2, none⟩ = some (.int .i64 Su) := cell_of_row _ _ 2 _ _ _ Kg0_26.out
  have cg0_3 : w23.cell? ⟨w5.heap.size, 3, none⟩ = some (.slice Ar30 V.length cr30) := cell_of_row _ _ 3 _ _ _ Kg0_26.out
  go_wp2_with fail
  clear cg0_0 cg0_1 cg0_2 cg0_3
  refine (heldBo_any Ar31 (1 + (V.length : Int)) U.length cr31 _ (own_bols11 Hr31_26.out) (by omega) (by omega) (by omega)).mono ?_
  rintro e w24 ⟨rfl, hbq⟩
  have Hr30_27 := Lib.hid (Hr30_26.out.below hbq)
  have Hr31_27 := Lib.hid (Hr31_26.out.below hbq)
  have Kg0_27 := Lib.hid ((hbq.block _ (heap_lt Kg0_26.out)).trans Kg0_26.out)
  have HB_27 := Lib.hid (below_more HB_26.out hbq)
  clear Hr30_26 Hr31_26 Kg0_26 HB_26
  clear hbq
  go_wp2_with fail
  go_ret
  exact ⟨rfl, HB_27.out⟩
end Go.Proofs.Ytbegikjoialahaa
