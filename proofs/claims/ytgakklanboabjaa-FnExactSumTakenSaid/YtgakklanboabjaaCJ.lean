/-
  FnExactPlayBucket and FnExactSumTaken, walked, and over the program's contracts.
-/
import Derived.Test.YtgakklanboabjaaCE
import Derived.Test.YtgakklanboabjaaCG
import Derived.Test.YtgakklanboabjaaVO
namespace Go.Proofs.Ytgakklanboabjaa
open Go.RowKit

theorem own_bols11 {w : World} {base n c : Nat} {A : Option Addr} {L : List Bool} (h : OwnR 4 1 fB1 w base (.slice A n c) L) : Bols w A L := by
  obtain ⟨A', c', e, hb⟩ := (bo_own h).form
  injection e with e1
  subst e1
  exact hb
theorem eqBo_self (A B : Option Addr) (l : List Bool) (ca cb : Nat) (w : World) (ha : Bols w A l) (hb : Bols w B l) (hl : l.length ≤ 1048576) :
    Calls Try.prog 38 #[.slice A l.length ca, .slice B l.length cb] w fun e w' => e = .returned (.bool true) ∧ Below w.heap.size w w' :=
  (eqBoolS_any A B l l ca cb w ha hb hl).mono (fun _ _ h => by obtain ⟨he, n, rfl⟩ := h; exact ⟨by rw [he, eqT_self], gDrewN n⟩)
theorem markBo_any (v : Value) (l : List Bool) (base : Nat) (k : Int) (w : World) (ho : OwnR 4 1 fB1 w base v l) (hl : l.length ≤ 1048576) (hk0 : 0 ≤ k) (hk1 : k ≤ 1000000000) :
    Calls Try.prog 41 #[v, .int .i64 k] w fun e w' => e = .returned (.int .i64 (k + (l.length : Int))) ∧ OwnR 4 1 fB1 w' base v (markT k l.length) ∧ w.grownBy w' v.ownBlock :=
  (markBoolS_any v l base k w (bo_own ho) hl hk0 hk1).mono (fun _ _ h => ⟨h.1, own_bo h.2.1, h.2.2⟩)
theorem heldBo_any (A : Option Addr) (k : Int) (n c : Nat) (w : World) (ha : Bols w A (markT k n)) (hn : n ≤ 1048576) (hk0 : 0 ≤ k) (hk1 : k ≤ 1000000000) :
    Calls Try.prog 42 #[.slice A n c, .int .i64 k] w fun e w' => e = .returned (.int .i64 (k + (n : Int))) ∧ Below w.heap.size w w' :=
  (heldBoolS_any A k n c w ha hn hk0 hk1).mono (fun _ _ h => ⟨h.1, h.2 ▸ Below.refl _ _⟩)
theorem copy_setT (zs : List Bool) (ys : List Value) (j : Nat) (hj : j < zs.length) (hy : ys.length = zs.length) :
    ((zs.take j).map (Value.bool) ++ ys.drop j).set j (.bool (zs[j])) = (zs.take (j + 1)).map (Value.bool) ++ ys.drop (j + 1) := by
  rw [List.drop_eq_getElem_cons (show j < ys.length by omega), set_mid _ _ _ _ _ (by simp; omega), List.take_succ_eq_append_getElem hj]
  simp only [List.map_append, List.map_cons, List.map_nil, List.append_assoc, List.singleton_append]

set_option maxRecDepth 100000 in
set_option maxHeartbeats 400000 in
theorem toBoT_any (A : Option Addr) (zs : List Bool) (ca : Nat) (w : World) (ha : Bols w A zs) (hn : zs.length ≤ 17592186044416) :
    Calls Try.prog 43 #[.slice A zs.length ca] w fun e w' => ∃ v, e = .returned v ∧ OwnT w' w.heap.size v zs ∧ Below w.heap.size w w' := by
  obtain ⟨i0, hi, hz0, hz1, hz2⟩ := info_parts boolInfo
  generalize hnn : zs.length = n at *
  have HN := Lib.hid hnn
  clear hnn
  go_enter Try.func43, Try.ntmps43
  go_wp2_with (at_make; refine wpList_make_full _ rfl _ _ 28 rfl w.heap.size 4 i0 (.bool false) 1 Try.underlying28 hi hz0 hz1 .i64 .i64 _ _ n rfl rfl rfl rfl (by rw [hz2]; omega) (by unfold maxLen; omega) (Nat.le_refl _) ?_; intro w1 hown1 hgr1)
  have hmade : (madeCells (Value.bool false).cells (n * 1)).toList.length = n := by have := hown1.1; omega
  generalize hys : (madeCells (Value.bool false).cells (n * 1)).toList = ys at *
  have hb1 : Below w.heap.size w w1 := (Below.refl _ _).grown hgr1 (Nat.le_refl _) (by simp)
  have hs1 : w.heap.size < w1.heap.size := by
    have := (hown1.lt w.heap.size rfl).2; omega
  have HA := Lib.hid ha
  have HY := Lib.hid hmade
  have HO : Hid (w1.ownsRow w.heap.size 4 1 (.slice (some ⟨w.heap.size, 0, none⟩) n n) n ((zs.take 0).map (Value.bool) ++ ys.drop 0)) := by
    show w1.ownsRow _ _ _ _ _ _; simpa using hown1
  have HB := Lib.hid hb1
  clear hys hgr1 hown1 hb1 hmade ha hs1 hi hz0 hz1 hz2
  go_loopw [4] (fun i wr => ∃ j : Nat, j ≤ n ∧ i = .int .i64 j ∧ wr.ownsRow w.heap.size 4 1 (.slice (some ⟨w.heap.size, 0, none⟩) n n) n ((zs.take j).map (Value.bool) ++ ys.drop j) ∧ Below w.heap.size w wr) (fun i _ => n - (intOf i).toNat)
  case atStart => exact ⟨0, by omega, rfl, HO.out, HB.out⟩
  case round =>
    obtain ⟨j, hj, rfl, hown, hbel⟩ := hrel
    clear HO HB
    by_cases hlt : j < n
    · have hlz : j < zs.length := by have := HN.out; omega
      obtain ⟨b, o, rfl, hcs⟩ := HA.out (by rintro rfl; simp at hlz)
      have hc1 := hcs j hlz
      have hc2 : wr.cell? ⟨b, o + j, none⟩ = some (.bool (zs[j])) := by
        rw [hbel.cell (World.block_lt_of_cell? _ _ hc1), hc1]
      have hc0 := hown.cellAt j (by omega)
      have hlj : j < ((zs.take j).map (Value.bool) ++ ys.drop j).length := by
        have := HN.out; have := HY.out; simp; omega
      rw [List.getElem?_eq_getElem hlj] at hc0
      have hf := hown.frozenAt j
      have HS := hown.stored j (.bool (zs[j]))
      rw [copy_setT zs ys j hlz (by have := HN.out; have := HY.out; omega)] at HS
      have HS' := Lib.hid HS
      have HB := Lib.hid hbel
      generalize ((zs.take j).map (Value.bool) ++ ys.drop j)[j]'hlj = u0 at hc0
      generalize hzj : zs[j] = z at *
      clear HS hbel hown hcs hc1 hlj hzj
      go_wp2
      go_roundw
      case rel => exact ⟨j + 1, by omega, by go_num, HS'.out.1, HB.out.setCell (Nat.le_refl _) _⟩
      case measure => simp [intOf]; omega
    · obtain rfl : j = n := by omega
      go_wp2
      go_ret
      refine ⟨_, rfl, ?_, hbel⟩
      have hd : ys.drop j = [] := by rw [List.drop_eq_nil_iff]; have := HY.out; omega
      rw [hd, List.append_nil, List.take_of_length_le (by have := HN.out; omega)] at hown
      unfold OwnT
      rw [HN.out]
      exact hown
theorem toBo_any (A : Option Addr) (zs : List Bool) (ca : Nat) (w : World) (ha : Bols w A zs) (hn : zs.length ≤ 17592186044416) :
    Calls Try.prog 43 #[.slice A zs.length ca] w fun e w' => ∃ v, e = .returned v ∧ OwnR 4 1 fB1 w' w.heap.size v zs ∧ Below w.heap.size w w' :=
  (toBoT_any A zs ca w ha hn).mono (fun _ _ ⟨v, h1, h2, h3⟩ => ⟨v, h1, own_bo h2, h3⟩)
theorem pbT_len (b : Buc) (l : List Wtc) : (pbT b l).length ≤ 40 := by
  rw [pbT]
  split
  · rename_i h
    rw [tkS_len]
    rw [pbOk] at h
    simp at h
    omega
  · simp
theorem sPlay13 (r q f c : Int) (A : Option Addr) (l : List Wtc) (ca : Nat) (w : World) (ha : RdR 2 fWt w A l) (hl : l.length ≤ 1048576) :
    Calls Try.prog 14 #[bkW r q f c, .slice A l.length ca] w fun e w' => ∃ v1, e = .returned (.tuple #[bkW (pbL (r, q, f, c) l).1 (pbL (r, q, f, c) l).2.1 (pbL (r, q, f, c) l).2.2.1 (pbL (r, q, f, c) l).2.2.2, v1, .bool (pbOk (r, q, f, c) l)]) ∧ OwnR 4 1 fB1 w' w.heap.size v1 (pbT (r, q, f, c) l) ∧ Below w.heap.size w w' :=
  (sPlayBk r q f c A l ca w ha hl).mono (fun _ _ ⟨v, h1, h2, h3⟩ => ⟨v, h1, own_bo h2, h3⟩)
theorem iPlay13 (r q f c : Int) (A : Option Addr) (l : List Wtc) (ca : Nat) (w : World) (ha : RdR 2 fWt w A l) (hl : l.length ≤ 1048576) :
    Calls Try.prog 13 #[bkW r q f c, .slice A l.length ca] w fun e w' => ∃ v1, e = .returned (.tuple #[bkW (pbL (r, q, f, c) l).1 (pbL (r, q, f, c) l).2.1 (pbL (r, q, f, c) l).2.2.1 (pbL (r, q, f, c) l).2.2.2, v1, .bool (pbOk (r, q, f, c) l)]) ∧ OwnR 4 1 fB1 w' w.heap.size v1 (pbT (r, q, f, c) l) ∧ Below w.heap.size w w' :=
  (iPlayBk r q f c A l ca w ha hl).mono (fun _ _ ⟨v, h1, h2, h3⟩ => ⟨v, h1, own_bo h2, h3⟩)
set_option maxRecDepth 100000 in
set_option maxHeartbeats 8000000 in
theorem playBucket_law {K : World → Prop} (hK : Stays5 K) (hI : ∀ (r q f c : Int) (A : Option Addr) (l : List Wtc) (ca : Nat) (w : World), K w → True → RdR 2 fWt w A l → Lies9 A ca → l.length ≤ 1048576 → Calls Try.prog 13 #[bkW r q f c, .slice A l.length ca] w fun e w' => ∃ v1, e = .returned (.tuple #[bkW (pbL (r, q, f, c) l).1 (pbL (r, q, f, c) l).2.1 (pbL (r, q, f, c) l).2.2.1 (pbL (r, q, f, c) l).2.2.2, v1, .bool (pbOk (r, q, f, c) l)]) ∧ OwnR 4 1 fB1 w' w.heap.size v1 (pbT (r, q, f, c) l) ∧ Below w.heap.size w w')
    (r q f c : Int) (A : Option Addr) (l : List Wtc) (ca : Nat) (w : World) (hw : K w)  (hA : RdR 2 fWt w A l) (hl : l.length ≤ 9223372036854775807) : Calls Try.prog 9 #[bkW r q f c, .slice A l.length ca] w fun e w' => e = .returned (.bool true) ∧ Below w.heap.size w w' := by
  have HRA := Lib.hid hA
  have HI := Lib.hid (fun A ca w hk hA hL hz => hI r q f c A l ca w hk trivial hA hL hz)
  have HW := Lib.hid hw
  have HS0 := Lib.hid (fun A ca w h hl => sPlay13 r q f c A l ca w h hl)
  clear hI hw  hA
  have hV := pbT_len (r, q, f, c) l
  generalize pbT (r, q, f, c) l = V at *
  generalize (pbL (r, q, f, c) l).1 = N0 at *
  generalize (pbL (r, q, f, c) l).2.1 = N1 at *
  generalize (pbL (r, q, f, c) l).2.2.1 = N2 at *
  generalize (pbL (r, q, f, c) l).2.2.2 = N3 at *
  generalize pbOk (r, q, f, c) l = bb at *
  obtain ⟨w1, hw1⟩ : ∃ wn, w.alloc (.cells #[.int .i64 r, .int .i64 q, .int .i64 f, .int .i64 c] 53) = wn := ⟨_, rfl⟩
  have hbx : Below w.heap.size w w1 := by rw [← hw1]; exact gAlloc _ _
  have KX : w1.heap[w.heap.size]? = some (.cells #[.int .i64 r, .int .i64 q, .int .i64 f, .int .i64 c] 53 (0, 0)) := by rw [← hw1]; exact heap_alloc_new _ _
  have HB_2 := Lib.hid (hbx)
  have KaB_1 := Lib.hid KX
  clear hbx KX
  go_enter Try.func9, Try.ntmps9
  have caB_0 : w1.cell? ⟨w.heap.size, 0, none⟩ = some (.int .i64 r) := cell_of_row _ _ 0 _ _ _ KaB_1.out
  have caB_1 : w1.cell? ⟨w.heap.size, 1, none⟩ = some (.int .i64 q) := cell_of_row _ _ 1 _ _ _ KaB_1.out
  have caB_2 : w1.cell? ⟨w.heap.size, 2, none⟩ = some (.int .i64 f) := cell_of_row _ _ 2 _ _ _ KaB_1.out
  have caB_3 : w1.cell? ⟨w.heap.size, 3, none⟩ = some (.int .i64 c) := cell_of_row _ _ 3 _ _ _ KaB_1.out
  go_wp2_with fail
  clear caB_0 caB_1 caB_2 caB_3 hw1
  refine (szWtS_any A l ca 1048576 _ hl (by omega) (by omega)).mono ?_
  rintro e wq ⟨⟨rz, rfl, hrz⟩, rfl⟩
  rcases hrz with hrz | ⟨hrz0, hrz1⟩
  · go_wp2_with fail
    go_ret
    exact ⟨rfl, HB_2.out⟩
  have hlz : l.length ≤ 1048576 := by omega
  have hrzn : ¬ rz < 0 := by omega
  clear hl hrz1
  have caB_0 : w1.cell? ⟨w.heap.size, 0, none⟩ = some (.int .i64 r) := cell_of_row _ _ 0 _ _ _ KaB_1.out
  have caB_1 : w1.cell? ⟨w.heap.size, 1, none⟩ = some (.int .i64 q) := cell_of_row _ _ 1 _ _ _ KaB_1.out
  have caB_2 : w1.cell? ⟨w.heap.size, 2, none⟩ = some (.int .i64 f) := cell_of_row _ _ 2 _ _ _ KaB_1.out
  have caB_3 : w1.cell? ⟨w.heap.size, 3, none⟩ = some (.int .i64 c) := cell_of_row _ _ 3 _ _ _ KaB_1.out
  go_wp2_with fail
  clear caB_0 caB_1 caB_2 caB_3
  refine (toBu_any r q f c _).mono ?_
  rintro e w2 ⟨rfl, hbt1⟩
  have KaB_3 := Lib.hid ((hbt1.block _ (heap_lt KaB_1.out)).trans KaB_1.out)
  have HB_3 := Lib.hid (below_more HB_2.out hbt1)
  clear KaB_1 HB_2 hbt1
  have caB_0 : w2.cell? ⟨w.heap.size, 0, none⟩ = some (.int .i64 r) := cell_of_row _ _ 0 _ _ _ KaB_3.out
  have caB_1 : w2.cell? ⟨w.heap.size, 1, none⟩ = some (.int .i64 q) := cell_of_row _ _ 1 _ _ _ KaB_3.out
  have caB_2 : w2.cell? ⟨w.heap.size, 2, none⟩ = some (.int .i64 f) := cell_of_row _ _ 2 _ _ _ KaB_3.out
  have caB_3 : w2.cell? ⟨w.heap.size, 3, none⟩ = some (.int .i64 c) := cell_of_row _ _ 3 _ _ _ KaB_3.out
  go_wp2_with fail
  clear caB_0 caB_1 caB_2 caB_3
  refine (toWtS_any A l ca _ (HRA.out.below HB_3.out) (by omega)).mono ?_
  rintro e w3 ⟨vt20, rfl, hot20, hbt2⟩
  obtain ⟨At20, ct20, hvt20, hcapt20, _⟩ := OwnR.form fWt_len hot20
  subst hvt20
  have HNX_aB_t20 := Lib.hid (fun g hg => Nat.ne_of_gt (Nat.lt_of_lt_of_le (heap_lt KaB_3.out) (hot20.lt g hg).1))
  have Ht20_4 := Lib.hid (hot20.lower HB_3.out.size)
  have KaB_4 := Lib.hid ((hbt2.block _ (heap_lt KaB_3.out)).trans KaB_3.out)
  have HB_4 := Lib.hid (below_more HB_3.out hbt2)
  clear KaB_3 HB_3 hot20 hbt2
  have caB_0 : w3.cell? ⟨w.heap.size, 0, none⟩ = some (.int .i64 r) := cell_of_row _ _ 0 _ _ _ KaB_4.out
  have caB_1 : w3.cell? ⟨w.heap.size, 1, none⟩ = some (.int .i64 q) := cell_of_row _ _ 1 _ _ _ KaB_4.out
  have caB_2 : w3.cell? ⟨w.heap.size, 2, none⟩ = some (.int .i64 f) := cell_of_row _ _ 2 _ _ _ KaB_4.out
  have caB_3 : w3.cell? ⟨w.heap.size, 3, none⟩ = some (.int .i64 c) := cell_of_row _ _ 3 _ _ _ KaB_4.out
  go_wp2_with fail
  clear caB_0 caB_1 caB_2 caB_3
  refine (HS0.out At20 ct20 _ (OwnR.rd fWt_len Ht20_4.out) (by omega)).mono ?_
  rintro e w4 ⟨vr30, rfl, hor30, hbr3⟩
  obtain ⟨Ar30, cr30, hvr30, hcapr30, _⟩ := OwnR.form fB1_len hor30
  subst hvr30
  have HAp_t20_r30 := Lib.hid (apart5 (fun k hk => (Ht20_4.out.lt k hk).2) (fun k hk => (hor30.lt k hk).1))
  have HNX_aB_r30 := Lib.hid (fun g hg => Nat.ne_of_gt (Nat.lt_of_lt_of_le (heap_lt KaB_4.out) (hor30.lt g hg).1))
  have Ht20_5 := Lib.hid (Ht20_4.out.below hbr3)
  have Hr30_5 := Lib.hid (hor30.lower HB_4.out.size)
  have KaB_5 := Lib.hid ((hbr3.block _ (heap_lt KaB_4.out)).trans KaB_4.out)
  have HB_5 := Lib.hid (below_more HB_4.out hbr3)
  clear Ht20_4 KaB_4 HB_4 hor30 hbr3
  obtain ⟨w5, hw6⟩ : ∃ wn, w4.alloc (.cells #[.int .i64 N0, .int .i64 N1, .int .i64 N2, .int .i64 N3] 24) = wn := ⟨_, rfl⟩
  have hbx : Below w4.heap.size w4 w5 := by rw [← hw6]; exact gAlloc _ _
  have KX : w5.heap[w4.heap.size]? = some (.cells #[.int .i64 N0, .int .i64 N1, .int .i64 N2, .int .i64 N3] 24 (0, 0)) := by rw [← hw6]; exact heap_alloc_new _ _
  have HNX_w0_t20 := Lib.hid (fun g hg => Nat.ne_of_lt (Ht20_5.out.lt g hg).2)
  have HNX_w0_r30 := Lib.hid (fun g hg => Nat.ne_of_lt (Hr30_5.out.lt g hg).2)
  have Ht20_7 := Lib.hid (Ht20_5.out.below hbx)
  have Hr30_7 := Lib.hid (Hr30_5.out.below hbx)
  have KaB_7 := Lib.hid ((hbx.block _ (heap_lt KaB_5.out)).trans KaB_5.out)
  have HB_7 := Lib.hid (below_more HB_5.out hbx)
  clear Ht20_5 Hr30_5 KaB_5 HB_5
  have Kw0_6 := Lib.hid KX
  clear hbx KX
  clear Ht20_7
  have caB_0 : w5.cell? ⟨w.heap.size, 0, none⟩ = some (.int .i64 r) := cell_of_row _ _ 0 _ _ _ KaB_7.out
  have caB_1 : w5.cell? ⟨w.heap.size, 1, none⟩ = some (.int .i64 q) := cell_of_row _ _ 1 _ _ _ KaB_7.out
  have caB_2 : w5.cell? ⟨w.heap.size, 2, none⟩ = some (.int .i64 f) := cell_of_row _ _ 2 _ _ _ KaB_7.out
  have caB_3 : w5.cell? ⟨w.heap.size, 3, none⟩ = some (.int .i64 c) := cell_of_row _ _ 3 _ _ _ KaB_7.out
  have cw0_0 : w5.cell? ⟨w4.heap.size, 0, none⟩ = some (.int .i64 N0) := cell_of_row _ _ 0 _ _ _ Kw0_6.out
  have cw0_1 : w5.cell? ⟨w4.heap.size, 1, none⟩ = some (.int .i64 N1) := cell_of_row _ _ 1 _ _ _ Kw0_6.out
  have cw0_2 : w5.cell? ⟨w4.heap.size, 2, none⟩ = some (.int .i64 N2) := cell_of_row _ _ 2 _ _ _ Kw0_6.out
  have cw0_3 : w5.cell? ⟨w4.heap.size, 3, none⟩ = some (.int .i64 N3) := cell_of_row _ _ 3 _ _ _ Kw0_6.out
  go_wp2_with fail
  clear caB_0 caB_1 caB_2 caB_3 cw0_0 cw0_1 cw0_2 cw0_3 hw6
  refine (toWtS_any A l ca _ (HRA.out.below HB_7.out) (by omega)).mono ?_
  rintro e w6 ⟨vx10, rfl, hox10, hbx1⟩
  obtain ⟨Ax10, cx10, hvx10, hcapx10, _⟩ := OwnR.form fWt_len hox10
  subst hvx10
  have HAp_r30_x10 := Lib.hid (apart5 (fun k hk => (Hr30_7.out.lt k hk).2) (fun k hk => (hox10.lt k hk).1))
  have HNX_aB_x10 := Lib.hid (fun g hg => Nat.ne_of_gt (Nat.lt_of_lt_of_le (heap_lt KaB_7.out) (hox10.lt g hg).1))
  have HNX_w0_x10 := Lib.hid (fun g hg => Nat.ne_of_gt (Nat.lt_of_lt_of_le (heap_lt Kw0_6.out) (hox10.lt g hg).1))
  have Hr30_8 := Lib.hid (Hr30_7.out.below hbx1)
  have Hx10_8 := Lib.hid (hox10.lower HB_7.out.size)
  have KaB_8 := Lib.hid ((hbx1.block _ (heap_lt KaB_7.out)).trans KaB_7.out)
  have Kw0_8 := Lib.hid ((hbx1.block _ (heap_lt Kw0_6.out)).trans Kw0_6.out)
  have HB_8 := Lib.hid (below_more HB_7.out hbx1)
  clear Hr30_7 KaB_7 Kw0_6 HB_7 hox10 hbx1
  have caB_0 : w6.cell? ⟨w.heap.size, 0, none⟩ = some (.int .i64 r) := cell_of_row _ _ 0 _ _ _ KaB_8.out
  have caB_1 : w6.cell? ⟨w.heap.size, 1, none⟩ = some (.int .i64 q) := cell_of_row _ _ 1 _ _ _ KaB_8.out
  have caB_2 : w6.cell? ⟨w.heap.size, 2, none⟩ = some (.int .i64 f) := cell_of_row _ _ 2 _ _ _ KaB_8.out
  have caB_3 : w6.cell? ⟨w.heap.size, 3, none⟩ = some (.int .i64 c) := cell_of_row _ _ 3 _ _ _ KaB_8.out
  have cw0_0 : w6.cell? ⟨w4.heap.size, 0, none⟩ = some (.int .i64 N0) := cell_of_row _ _ 0 _ _ _ Kw0_8.out
  have cw0_1 : w6.cell? ⟨w4.heap.size, 1, none⟩ = some (.int .i64 N1) := cell_of_row _ _ 1 _ _ _ Kw0_8.out
  have cw0_2 : w6.cell? ⟨w4.heap.size, 2, none⟩ = some (.int .i64 N2) := cell_of_row _ _ 2 _ _ _ Kw0_8.out
  have cw0_3 : w6.cell? ⟨w4.heap.size, 3, none⟩ = some (.int .i64 N3) := cell_of_row _ _ 3 _ _ _ Kw0_8.out
  go_wp2_with fail
  clear caB_0 caB_1 caB_2 caB_3 cw0_0 cw0_1 cw0_2 cw0_3
  refine (toBu_any r q f c _).mono ?_
  rintro e w7 ⟨rfl, hbt4⟩
  have Hr30_9 := Lib.hid (Hr30_8.out.below hbt4)
  have Hx10_9 := Lib.hid (Hx10_8.out.below hbt4)
  have KaB_9 := Lib.hid ((hbt4.block _ (heap_lt KaB_8.out)).trans KaB_8.out)
  have Kw0_9 := Lib.hid ((hbt4.block _ (heap_lt Kw0_8.out)).trans Kw0_8.out)
  have HB_9 := Lib.hid (below_more HB_8.out hbt4)
  clear Hr30_8 Hx10_8 KaB_8 Kw0_8 HB_8 hbt4
  have caB_0 : w7.cell? ⟨w.heap.size, 0, none⟩ = some (.int .i64 r) := cell_of_row _ _ 0 _ _ _ KaB_9.out
  have caB_1 : w7.cell? ⟨w.heap.size, 1, none⟩ = some (.int .i64 q) := cell_of_row _ _ 1 _ _ _ KaB_9.out
  have caB_2 : w7.cell? ⟨w.heap.size, 2, none⟩ = some (.int .i64 f) := cell_of_row _ _ 2 _ _ _ KaB_9.out
  have caB_3 : w7.cell? ⟨w.heap.size, 3, none⟩ = some (.int .i64 c) := cell_of_row _ _ 3 _ _ _ KaB_9.out
  have cw0_0 : w7.cell? ⟨w4.heap.size, 0, none⟩ = some (.int .i64 N0) := cell_of_row _ _ 0 _ _ _ Kw0_9.out
  have cw0_1 : w7.cell? ⟨w4.heap.size, 1, none⟩ = some (.int .i64 N1) := cell_of_row _ _ 1 _ _ _ Kw0_9.out
  have cw0_2 : w7.cell? ⟨w4.heap.size, 2, none⟩ = some (.int .i64 N2) := cell_of_row _ _ 2 _ _ _ Kw0_9.out
  have cw0_3 : w7.cell? ⟨w4.heap.size, 3, none⟩ = some (.int .i64 N3) := cell_of_row _ _ 3 _ _ _ Kw0_9.out
  go_wp2_with fail
  clear caB_0 caB_1 caB_2 caB_3 cw0_0 cw0_1 cw0_2 cw0_3
  refine (HI.out Ax10 cx10 _ (hK _ _ HW.out HB_9.out) (OwnR.rd fWt_len Hx10_9.out) (ownR_lies Hx10_9.out) (by omega)).mono ?_
  rintro e w8 ⟨vr50, rfl, hor50, hbr5⟩
  obtain ⟨Ar50, cr50, hvr50, hcapr50, _⟩ := OwnR.form fB1_len hor50
  subst hvr50
  have HAp_r30_r50 := Lib.hid (apart5 (fun k hk => (Hr30_9.out.lt k hk).2) (fun k hk => (hor50.lt k hk).1))
  have HAp_x10_r50 := Lib.hid (apart5 (fun k hk => (Hx10_9.out.lt k hk).2) (fun k hk => (hor50.lt k hk).1))
  have HNX_aB_r50 := Lib.hid (fun g hg => Nat.ne_of_gt (Nat.lt_of_lt_of_le (heap_lt KaB_9.out) (hor50.lt g hg).1))
  have HNX_w0_r50 := Lib.hid (fun g hg => Nat.ne_of_gt (Nat.lt_of_lt_of_le (heap_lt Kw0_9.out) (hor50.lt g hg).1))
  have Hr30_10 := Lib.hid (Hr30_9.out.below hbr5)
  have Hx10_10 := Lib.hid (Hx10_9.out.below hbr5)
  have Hr50_10 := Lib.hid (hor50.lower HB_9.out.size)
  have KaB_10 := Lib.hid ((hbr5.block _ (heap_lt KaB_9.out)).trans KaB_9.out)
  have Kw0_10 := Lib.hid ((hbr5.block _ (heap_lt Kw0_9.out)).trans Kw0_9.out)
  have HB_10 := Lib.hid (below_more HB_9.out hbr5)
  clear Hr30_9 Hx10_9 KaB_9 Kw0_9 HB_9 hor50 hbr5
  obtain ⟨w9, hw11⟩ : ∃ wn, w8.alloc (.cells #[.int .i64 N0, .int .i64 N1, .int .i64 N2, .int .i64 N3] 24) = wn := ⟨_, rfl⟩
  have hbx : Below w8.heap.size w8 w9 := by rw [← hw11]; exact gAlloc _ _
  have KX : w9.heap[w8.heap.size]? = some (.cells #[.int .i64 N0, .int .i64 N1, .int .i64 N2, .int .i64 N3] 24 (0, 0)) := by rw [← hw11]; exact heap_alloc_new _ _
  have HNX_g0_r30 := Lib.hid (fun g hg => Nat.ne_of_lt (Hr30_10.out.lt g hg).2)
  have HNX_g0_x10 := Lib.hid (fun g hg => Nat.ne_of_lt (Hx10_10.out.lt g hg).2)
  have HNX_g0_r50 := Lib.hid (fun g hg => Nat.ne_of_lt (Hr50_10.out.lt g hg).2)
  have Hr30_12 := Lib.hid (Hr30_10.out.below hbx)
  have Hx10_12 := Lib.hid (Hx10_10.out.below hbx)
  have Hr50_12 := Lib.hid (Hr50_10.out.below hbx)
  have KaB_12 := Lib.hid ((hbx.block _ (heap_lt KaB_10.out)).trans KaB_10.out)
  have Kw0_12 := Lib.hid ((hbx.block _ (heap_lt Kw0_10.out)).trans Kw0_10.out)
  have HB_12 := Lib.hid (below_more HB_10.out hbx)
  clear Hr30_10 Hx10_10 Hr50_10 KaB_10 Kw0_10 HB_10
  have Kg0_11 := Lib.hid KX
  clear hbx KX
  have caB_0 : w9.cell? ⟨w.heap.size, 0, none⟩ = some (.int .i64 r) := cell_of_row _ _ 0 _ _ _ KaB_12.out
  have caB_1 : w9.cell? ⟨w.heap.size, 1, none⟩ = some (.int .i64 q) := cell_of_row _ _ 1 _ _ _ KaB_12.out
  have caB_2 : w9.cell? ⟨w.heap.size, 2, none⟩ = some (.int .i64 f) := cell_of_row _ _ 2 _ _ _ KaB_12.out
  have caB_3 : w9.cell? ⟨w.heap.size, 3, none⟩ = some (.int .i64 c) := cell_of_row _ _ 3 _ _ _ KaB_12.out
  have cw0_0 : w9.cell? ⟨w4.heap.size, 0, none⟩ = some (.int .i64 N0) := cell_of_row _ _ 0 _ _ _ Kw0_12.out
  have cw0_1 : w9.cell? ⟨w4.heap.size, 1, none⟩ = some (.int .i64 N1) := cell_of_row _ _ 1 _ _ _ Kw0_12.out
  have cw0_2 : w9.cell? ⟨w4.heap.size, 2, none⟩ = some (.int .i64 N2) := cell_of_row _ _ 2 _ _ _ Kw0_12.out
  have cw0_3 : w9.cell? ⟨w4.heap.size, 3, none⟩ = some (.int .i64 N3) := cell_of_row _ _ 3 _ _ _ Kw0_12.out
  have cg0_0 : w9.cell? ⟨w8.heap.size, 0, none⟩ = some (.int .i64 N0) := cell_of_row _ _ 0 _ _ _ Kg0_11.out
  have cg0_1 : w9.cell? ⟨w8.heap.size, 1, none⟩ = some (.int .i64 N1) := cell_of_row _ _ 1 _ _ _ Kg0_11.out
  have cg0_2 : w9.cell? ⟨w8.heap.size, 2, none⟩ = some (.int .i64 N2) := cell_of_row _ _ 2 _ _ _ Kg0_11.out
  have cg0_3 : w9.cell? ⟨w8.heap.size, 3, none⟩ = some (.int .i64 N3) := cell_of_row _ _ 3 _ _ _ Kg0_11.out
  go_wp2_with fail
  clear caB_0 caB_1 caB_2 caB_3 cw0_0 cw0_1 cw0_2 cw0_3 cg0_0 cg0_1 cg0_2 cg0_3 hw11
  refine (eqBu_self N0 N1 N2 N3 _).mono ?_
  rintro e w10 ⟨rfl, hbq⟩
  have Hr30_13 := Lib.hid (Hr30_12.out.below hbq)
  have Hx10_13 := Lib.hid (Hx10_12.out.below hbq)
  have Hr50_13 := Lib.hid (Hr50_12.out.below hbq)
  have KaB_13 := Lib.hid ((hbq.block _ (heap_lt KaB_12.out)).trans KaB_12.out)
  have Kw0_13 := Lib.hid ((hbq.block _ (heap_lt Kw0_12.out)).trans Kw0_12.out)
  have Kg0_13 := Lib.hid ((hbq.block _ (heap_lt Kg0_11.out)).trans Kg0_11.out)
  have HB_13 := Lib.hid (below_more HB_12.out hbq)
  clear Hr30_12 Hx10_12 Hr50_12 KaB_12 Kw0_12 Kg0_11 HB_12
  clear hbq
  have caB_0 : w10.cell? ⟨w.heap.size, 0, none⟩ = some (.int .i64 r) := cell_of_row _ _ 0 _ _ _ KaB_13.out
  have caB_1 : w10.cell? ⟨w.heap.size, 1, none⟩ = some (.int .i64 q) := cell_of_row _ _ 1 _ _ _ KaB_13.out
  have caB_2 : w10.cell? ⟨w.heap.size, 2, none⟩ = some (.int .i64 f) := cell_of_row _ _ 2 _ _ _ KaB_13.out
  have caB_3 : w10.cell? ⟨w.heap.size, 3, none⟩ = some (.int .i64 c) := cell_of_row _ _ 3 _ _ _ KaB_13.out
  have cw0_0 : w10.cell? ⟨w4.heap.size, 0, none⟩ = some (.int .i64 N0) := cell_of_row _ _ 0 _ _ _ Kw0_13.out
  have cw0_1 : w10.cell? ⟨w4.heap.size, 1, none⟩ = some (.int .i64 N1) := cell_of_row _ _ 1 _ _ _ Kw0_13.out
  have cw0_2 : w10.cell? ⟨w4.heap.size, 2, none⟩ = some (.int .i64 N2) := cell_of_row _ _ 2 _ _ _ Kw0_13.out
  have cw0_3 : w10.cell? ⟨w4.heap.size, 3, none⟩ = some (.int .i64 N3) := cell_of_row _ _ 3 _ _ _ Kw0_13.out
  have cg0_0 : w10.cell? ⟨w8.heap.size, 0, none⟩ = some (.int .i64 N0) := cell_of_row _ _ 0 _ _ _ Kg0_13.out
  have cg0_1 : w10.cell? ⟨w8.heap.size, 1, none⟩ = some (.int .i64 N1) := cell_of_row _ _ 1 _ _ _ Kg0_13.out
  have cg0_2 : w10.cell? ⟨w8.heap.size, 2, none⟩ = some (.int .i64 N2) := cell_of_row _ _ 2 _ _ _ Kg0_13.out
  have cg0_3 : w10.cell? ⟨w8.heap.size, 3, none⟩ = some (.int .i64 N3) := cell_of_row _ _ 3 _ _ _ Kg0_13.out
  go_wp2_with fail
  clear caB_0 caB_1 caB_2 caB_3 cw0_0 cw0_1 cw0_2 cw0_3 cg0_0 cg0_1 cg0_2 cg0_3
  refine (eqBo_self Ar50 Ar30 V cr50 cr30 _ (own_bols11 Hr50_13.out) (own_bols11 Hr30_13.out) (by omega)).mono ?_
  rintro e w11 ⟨rfl, hbq⟩
  have Hr30_14 := Lib.hid (Hr30_13.out.below hbq)
  have Hx10_14 := Lib.hid (Hx10_13.out.below hbq)
  have Hr50_14 := Lib.hid (Hr50_13.out.below hbq)
  have KaB_14 := Lib.hid ((hbq.block _ (heap_lt KaB_13.out)).trans KaB_13.out)
  have Kw0_14 := Lib.hid ((hbq.block _ (heap_lt Kw0_13.out)).trans Kw0_13.out)
  have Kg0_14 := Lib.hid ((hbq.block _ (heap_lt Kg0_13.out)).trans Kg0_13.out)
  have HB_14 := Lib.hid (below_more HB_13.out hbq)
  clear Hr30_13 Hx10_13 Hr50_13 KaB_13 Kw0_13 Kg0_13 HB_13
  clear hbq
  have caB_0 : w11.cell? ⟨w.heap.size, 0, none⟩ = some (.int .i64 r) := cell_of_row _ _ 0 _ _ _ KaB_14.out
  have caB_1 : w11.cell? ⟨w.heap.size, 1, none⟩ = some (.int .i64 q) := cell_of_row _ _ 1 _ _ _ KaB_14.out
  have caB_2 : w11.cell? ⟨w.heap.size, 2, none⟩ = some (.int .i64 f) := cell_of_row _ _ 2 _ _ _ KaB_14.out
  have caB_3 : w11.cell? ⟨w.heap.size, 3, none⟩ = some (.int .i64 c) := cell_of_row _ _ 3 _ _ _ KaB_14.out
  have cw0_0 : w11.cell? ⟨w4.heap.size, 0, none⟩ = some (.int .i64 N0) := cell_of_row _ _ 0 _ _ _ Kw0_14.out
  have cw0_1 : w11.cell? ⟨w4.heap.size, 1, none⟩ = some (.int .i64 N1) := cell_of_row _ _ 1 _ _ _ Kw0_14.out
  have cw0_2 : w11.cell? ⟨w4.heap.size, 2, none⟩ = some (.int .i64 N2) := cell_of_row _ _ 2 _ _ _ Kw0_14.out
  have cw0_3 : w11.cell? ⟨w4.heap.size, 3, none⟩ = some (.int .i64 N3) := cell_of_row _ _ 3 _ _ _ Kw0_14.out
  have cg0_0 : w11.cell? ⟨w8.heap.size, 0, none⟩ = some (.int .i64 N0) := cell_of_row _ _ 0 _ _ _ Kg0_14.out
  have cg0_1 : w11.cell? ⟨w8.heap.size, 1, none⟩ = some (.int .i64 N1) := cell_of_row _ _ 1 _ _ _ Kg0_14.out
  have cg0_2 : w11.cell? ⟨w8.heap.size, 2, none⟩ = some (.int .i64 N2) := cell_of_row _ _ 2 _ _ _ Kg0_14.out
  have cg0_3 : w11.cell? ⟨w8.heap.size, 3, none⟩ = some (.int .i64 N3) := cell_of_row _ _ 3 _ _ _ Kg0_14.out
  go_wp2_with fail
  clear caB_0 caB_1 caB_2 caB_3 cw0_0 cw0_1 cw0_2 cw0_3 cg0_0 cg0_1 cg0_2 cg0_3
  refine (toWtS_any A l ca _ (HRA.out.below HB_14.out) (by omega)).mono ?_
  rintro e w12 ⟨ve60, rfl, hoe60, hbe6⟩
  obtain ⟨Ae60, ce60, hve60, hcape60, _⟩ := OwnR.form fWt_len hoe60
  subst hve60
  have HAp_r30_e60 := Lib.hid (apart5 (fun k hk => (Hr30_14.out.lt k hk).2) (fun k hk => (hoe60.lt k hk).1))
  have HAp_x10_e60 := Lib.hid (apart5 (fun k hk => (Hx10_14.out.lt k hk).2) (fun k hk => (hoe60.lt k hk).1))
  have HAp_r50_e60 := Lib.hid (apart5 (fun k hk => (Hr50_14.out.lt k hk).2) (fun k hk => (hoe60.lt k hk).1))
  have HNX_aB_e60 := Lib.hid (fun g hg => Nat.ne_of_gt (Nat.lt_of_lt_of_le (heap_lt KaB_14.out) (hoe60.lt g hg).1))
  have HNX_w0_e60 := Lib.hid (fun g hg => Nat.ne_of_gt (Nat.lt_of_lt_of_le (heap_lt Kw0_14.out) (hoe60.lt g hg).1))
  have HNX_g0_e60 := Lib.hid (fun g hg => Nat.ne_of_gt (Nat.lt_of_lt_of_le (heap_lt Kg0_14.out) (hoe60.lt g hg).1))
  have Hr30_15 := Lib.hid (Hr30_14.out.below hbe6)
  have Hx10_15 := Lib.hid (Hx10_14.out.below hbe6)
  have Hr50_15 := Lib.hid (Hr50_14.out.below hbe6)
  have He60_15 := Lib.hid (hoe60.lower HB_14.out.size)
  have KaB_15 := Lib.hid ((hbe6.block _ (heap_lt KaB_14.out)).trans KaB_14.out)
  have Kw0_15 := Lib.hid ((hbe6.block _ (heap_lt Kw0_14.out)).trans Kw0_14.out)
  have Kg0_15 := Lib.hid ((hbe6.block _ (heap_lt Kg0_14.out)).trans Kg0_14.out)
  have HB_15 := Lib.hid (below_more HB_14.out hbe6)
  clear Hr30_14 Hx10_14 Hr50_14 KaB_14 Kw0_14 Kg0_14 HB_14 hoe60 hbe6
  have caB_0 : w12.cell? ⟨w.heap.size, 0, none⟩ = some (.int .i64 r) := cell_of_row _ _ 0 _ _ _ KaB_15.out
  have caB_1 : w12.cell? ⟨w.heap.size, 1, none⟩ = some (.int .i64 q) := cell_of_row _ _ 1 _ _ _ KaB_15.out
  have caB_2 : w12.cell? ⟨w.heap.size, 2, none⟩ = some (.int .i64 f) := cell_of_row _ _ 2 _ _ _ KaB_15.out
  have caB_3 : w12.cell? ⟨w.heap.size, 3, none⟩ = some (.int .i64 c) := cell_of_row _ _ 3 _ _ _ KaB_15.out
  have cw0_0 : w12.cell? ⟨w4.heap.size, 0, none⟩ = some (.int .i64 N0) := cell_of_row _ _ 0 _ _ _ Kw0_15.out
  have cw0_1 : w12.cell? ⟨w4.heap.size, 1, none⟩ = some (.int .i64 N1) := cell_of_row _ _ 1 _ _ _ Kw0_15.out
  have cw0_2 : w12.cell? ⟨w4.heap.size, 2, none⟩ = some (.int .i64 N2) := cell_of_row _ _ 2 _ _ _ Kw0_15.out
  have cw0_3 : w12.cell? ⟨w4.heap.size, 3, none⟩ = some (.int .i64 N3) := cell_of_row _ _ 3 _ _ _ Kw0_15.out
  have cg0_0 : w12.cell? ⟨w8.heap.size, 0, none⟩ = some (.int .i64 N0) := cell_of_row _ _ 0 _ _ _ Kg0_15.out
  have cg0_1 : w12.cell? ⟨w8.heap.size, 1, none⟩ = some (.int .i64 N1) := cell_of_row _ _ 1 _ _ _ Kg0_15.out
  have cg0_2 : w12.cell? ⟨w8.heap.size, 2, none⟩ = some (.int .i64 N2) := cell_of_row _ _ 2 _ _ _ Kg0_15.out
  have cg0_3 : w12.cell? ⟨w8.heap.size, 3, none⟩ = some (.int .i64 N3) := cell_of_row _ _ 3 _ _ _ Kg0_15.out
  go_wp2_with fail
  clear caB_0 caB_1 caB_2 caB_3 cw0_0 cw0_1 cw0_2 cw0_3 cg0_0 cg0_1 cg0_2 cg0_3
  refine (eqWtS_self Ax10 Ae60 l cx10 ce60 _ (OwnR.rd fWt_len Hx10_15.out) (OwnR.rd fWt_len He60_15.out) (by omega)).mono ?_
  rintro e w13 ⟨rfl, hbq⟩
  have Hr30_16 := Lib.hid (Hr30_15.out.below hbq)
  have Hx10_16 := Lib.hid (Hx10_15.out.below hbq)
  have Hr50_16 := Lib.hid (Hr50_15.out.below hbq)
  have He60_16 := Lib.hid (He60_15.out.below hbq)
  have KaB_16 := Lib.hid ((hbq.block _ (heap_lt KaB_15.out)).trans KaB_15.out)
  have Kw0_16 := Lib.hid ((hbq.block _ (heap_lt Kw0_15.out)).trans Kw0_15.out)
  have Kg0_16 := Lib.hid ((hbq.block _ (heap_lt Kg0_15.out)).trans Kg0_15.out)
  have HB_16 := Lib.hid (below_more HB_15.out hbq)
  clear Hr30_15 Hx10_15 Hr50_15 He60_15 KaB_15 Kw0_15 Kg0_15 HB_15
  clear hbq
  clear He60_16
  have caB_0 : w13.cell? ⟨w.heap.size, 0, none⟩ = some (.int .i64 r) := cell_of_row _ _ 0 _ _ _ KaB_16.out
  have caB_1 : w13.cell? ⟨w.heap.size, 1, none⟩ = some (.int .i64 q) := cell_of_row _ _ 1 _ _ _ KaB_16.out
  have caB_2 : w13.cell? ⟨w.heap.size, 2, none⟩ = some (.int .i64 f) := cell_of_row _ _ 2 _ _ _ KaB_16.out
  have caB_3 : w13.cell? ⟨w.heap.size, 3, none⟩ = some (.int .i64 c) := cell_of_row _ _ 3 _ _ _ KaB_16.out
  have cw0_0 : w13.cell? ⟨w4.heap.size, 0, none⟩ = some (.int .i64 N0) := cell_of_row _ _ 0 _ _ _ Kw0_16.out
  have cw0_1 : w13.cell? ⟨w4.heap.size, 1, none⟩ = some (.int .i64 N1) := cell_of_row _ _ 1 _ _ _ Kw0_16.out
  have cw0_2 : w13.cell? ⟨w4.heap.size, 2, none⟩ = some (.int .i64 N2) := cell_of_row _ _ 2 _ _ _ Kw0_16.out
  have cw0_3 : w13.cell? ⟨w4.heap.size, 3, none⟩ = some (.int .i64 N3) := cell_of_row _ _ 3 _ _ _ Kw0_16.out
  have cg0_0 : w13.cell? ⟨w8.heap.size, 0, none⟩ = some (.int .i64 N0) := cell_of_row _ _ 0 _ _ _ Kg0_16.out
  have cg0_1 : w13.cell? ⟨w8.heap.size, 1, none⟩ = some (.int .i64 N1) := cell_of_row _ _ 1 _ _ _ Kg0_16.out
  have cg0_2 : w13.cell? ⟨w8.heap.size, 2, none⟩ = some (.int .i64 N2) := cell_of_row _ _ 2 _ _ _ Kg0_16.out
  have cg0_3 : w13.cell? ⟨w8.heap.size, 3, none⟩ = some (.int .i64 N3) := cell_of_row _ _ 3 _ _ _ Kg0_16.out
  go_wp2_with fail
  clear caB_0 caB_1 caB_2 caB_3 cw0_0 cw0_1 cw0_2 cw0_3 cg0_0 cg0_1 cg0_2 cg0_3
  refine (markWtS_any _ l _ 1 _ Hx10_16.out (by omega) (by omega) (by omega)).mono ?_
  rintro e w14 ⟨rfl, hm0, hg0⟩
  have Hr30_17 := Lib.hid (Hr30_16.out.kept hg0 HAp_r30_x10.out)
  have Hr50_17 := Lib.hid (Hr50_16.out.kept hg0 (gApart HAp_x10_r50.out))
  have KaB_17 := Lib.hid ((hg0.block _ (heap_lt KaB_16.out) (fun e => HNX_aB_x10.out _ e.symm rfl)).trans KaB_16.out)
  have Kw0_17 := Lib.hid ((hg0.block _ (heap_lt Kw0_16.out) (fun e => HNX_w0_x10.out _ e.symm rfl)).trans Kw0_16.out)
  have Kg0_17 := Lib.hid ((hg0.block _ (heap_lt Kg0_16.out) (fun e => HNX_g0_x10.out _ e.symm rfl)).trans Kg0_16.out)
  have HMb0 := Lib.hid (fun k hk => (Hx10_16.out.lt k hk).1)
  have HB_17 : Hid (Below w.heap.size w w14) := (HB_16.out.grown hg0 HB_16.out.size HMb0.out)
  have Hx10_17 := Lib.hid hm0
  clear Hr30_16 Hr50_16 KaB_16 Kw0_16 Kg0_16 HB_16 Hx10_16 hm0 hg0 HMb0
  clear Hx10_17
  have caB_0 : w14.cell? ⟨w.heap.size, 0, none⟩ = some (.int .i64 r) := cell_of_row _ _ 0 _ _ _ KaB_17.out
  have caB_1 : w14.cell? ⟨w.heap.size, 1, none⟩ = some (.int .i64 q) := cell_of_row _ _ 1 _ _ _ KaB_17.out
  have caB_2 : w14.cell? ⟨w.heap.size, 2, none⟩ = some (.int .i64 f) := cell_of_row _ _ 2 _ _ _ KaB_17.out
  have caB_3 : w14.cell? ⟨w.heap.size, 3, none⟩ = some (.int .i64 c) := cell_of_row _ _ 3 _ _ _ KaB_17.out
  have cw0_0 : w14.cell? ⟨w4.heap.size, 0, none⟩ = some (.int .i64 N0) := cell_of_row _ _ 0 _ _ _ Kw0_17.out
  have cw0_1 : w14.cell? ⟨w4.heap.size, 1, none⟩ = some (.int .i64 N1) := cell_of_row _ _ 1 _ _ _ Kw0_17.out
  have cw0_2 : w14.cell? ⟨w4.heap.size, 2, none⟩ = some (.int .i64 N2) := cell_of_row _ _ 2 _ _ _ Kw0_17.out
  have cw0_3 : w14.cell? ⟨w4.heap.size, 3, none⟩ = some (.int .i64 N3) := cell_of_row _ _ 3 _ _ _ Kw0_17.out
  have cg0_0 : w14.cell? ⟨w8.heap.size, 0, none⟩ = some (.int .i64 N0) := cell_of_row _ _ 0 _ _ _ Kg0_17.out
  have cg0_1 : w14.cell? ⟨w8.heap.size, 1, none⟩ = some (.int .i64 N1) := cell_of_row _ _ 1 _ _ _ Kg0_17.out
  have cg0_2 : w14.cell? ⟨w8.heap.size, 2, none⟩ = some (.int .i64 N2) := cell_of_row _ _ 2 _ _ _ Kg0_17.out
  have cg0_3 : w14.cell? ⟨w8.heap.size, 3, none⟩ = some (.int .i64 N3) := cell_of_row _ _ 3 _ _ _ Kg0_17.out
  go_wp2_with fail
  clear caB_0 caB_1 caB_2 caB_3 cw0_0 cw0_1 cw0_2 cw0_3 cg0_0 cg0_1 cg0_2 cg0_3
  refine (eqBu_self N0 N1 N2 N3 _).mono ?_
  rintro e w15 ⟨rfl, hbq⟩
  have Hr30_18 := Lib.hid (Hr30_17.out.below hbq)
  have Hr50_18 := Lib.hid (Hr50_17.out.below hbq)
  have KaB_18 := Lib.hid ((hbq.block _ (heap_lt KaB_17.out)).trans KaB_17.out)
  have Kw0_18 := Lib.hid ((hbq.block _ (heap_lt Kw0_17.out)).trans Kw0_17.out)
  have Kg0_18 := Lib.hid ((hbq.block _ (heap_lt Kg0_17.out)).trans Kg0_17.out)
  have HB_18 := Lib.hid (below_more HB_17.out hbq)
  clear Hr30_17 Hr50_17 KaB_17 Kw0_17 Kg0_17 HB_17
  clear hbq
  have caB_0 : w15.cell? ⟨w.heap.size, 0, none⟩ = some (.int .i64 r) := cell_of_row _ _ 0 _ _ _ KaB_18.out
  have caB_1 : w15.cell? ⟨w.heap.size, 1, none⟩ = some (.int .i64 q) := cell_of_row _ _ 1 _ _ _ KaB_18.out
  have caB_2 : w15.cell? ⟨w.heap.size, 2, none⟩ = some (.int .i64 f) := cell_of_row _ _ 2 _ _ _ KaB_18.out
  have caB_3 : w15.cell? ⟨w.heap.size, 3, none⟩ = some (.int .i64 c) := cell_of_row _ _ 3 _ _ _ KaB_18.out
  have cw0_0 : w15.cell? ⟨w4.heap.size, 0, none⟩ = some (.int .i64 N0) := cell_of_row _ _ 0 _ _ _ Kw0_18.out
  have cw0_1 : w15.cell? ⟨w4.heap.size, 1, none⟩ = some (.int .i64 N1) := cell_of_row _ _ 1 _ _ _ Kw0_18.out
  have cw0_2 : w15.cell? ⟨w4.heap.size, 2, none⟩ = some (.int .i64 N2) := cell_of_row _ _ 2 _ _ _ Kw0_18.out
  have cw0_3 : w15.cell? ⟨w4.heap.size, 3, none⟩ = some (.int .i64 N3) := cell_of_row _ _ 3 _ _ _ Kw0_18.out
  have cg0_0 : w15.cell? ⟨w8.heap.size, 0, none⟩ = some (.int .i64 N0) := cell_of_row _ _ 0 _ _ _ Kg0_18.out
  have cg0_1 : w15.cell? ⟨w8.heap.size, 1, none⟩ = some (.int .i64 N1) := cell_of_row _ _ 1 _ _ _ Kg0_18.out
  have cg0_2 : w15.cell? ⟨w8.heap.size, 2, none⟩ = some (.int .i64 N2) := cell_of_row _ _ 2 _ _ _ Kg0_18.out
  have cg0_3 : w15.cell? ⟨w8.heap.size, 3, none⟩ = some (.int .i64 N3) := cell_of_row _ _ 3 _ _ _ Kg0_18.out
  go_wp2_with fail
  clear caB_0 caB_1 caB_2 caB_3 cw0_0 cw0_1 cw0_2 cw0_3 cg0_0 cg0_1 cg0_2 cg0_3
  refine (eqBo_self Ar50 Ar30 V cr50 cr30 _ (own_bols11 Hr50_18.out) (own_bols11 Hr30_18.out) (by omega)).mono ?_
  rintro e w16 ⟨rfl, hbq⟩
  have Hr30_19 := Lib.hid (Hr30_18.out.below hbq)
  have Hr50_19 := Lib.hid (Hr50_18.out.below hbq)
  have KaB_19 := Lib.hid ((hbq.block _ (heap_lt KaB_18.out)).trans KaB_18.out)
  have Kw0_19 := Lib.hid ((hbq.block _ (heap_lt Kw0_18.out)).trans Kw0_18.out)
  have Kg0_19 := Lib.hid ((hbq.block _ (heap_lt Kg0_18.out)).trans Kg0_18.out)
  have HB_19 := Lib.hid (below_more HB_18.out hbq)
  clear Hr30_18 Hr50_18 KaB_18 Kw0_18 Kg0_18 HB_18
  clear hbq
  have caB_0 : w16.cell? ⟨w.heap.size, 0, none⟩ = some (.int .i64 r) := cell_of_row _ _ 0 _ _ _ KaB_19.out
  have caB_1 : w16.cell? ⟨w.heap.size, 1, none⟩ = some (.int .i64 q) := cell_of_row _ _ 1 _ _ _ KaB_19.out
  have caB_2 : w16.cell? ⟨w.heap.size, 2, none⟩ = some (.int .i64 f) := cell_of_row _ _ 2 _ _ _ KaB_19.out
  have caB_3 : w16.cell? ⟨w.heap.size, 3, none⟩ = some (.int .i64 c) := cell_of_row _ _ 3 _ _ _ KaB_19.out
  have cw0_0 : w16.cell? ⟨w4.heap.size, 0, none⟩ = some (.int .i64 N0) := cell_of_row _ _ 0 _ _ _ Kw0_19.out
  have cw0_1 : w16.cell? ⟨w4.heap.size, 1, none⟩ = some (.int .i64 N1) := cell_of_row _ _ 1 _ _ _ Kw0_19.out
  have cw0_2 : w16.cell? ⟨w4.heap.size, 2, none⟩ = some (.int .i64 N2) := cell_of_row _ _ 2 _ _ _ Kw0_19.out
  have cw0_3 : w16.cell? ⟨w4.heap.size, 3, none⟩ = some (.int .i64 N3) := cell_of_row _ _ 3 _ _ _ Kw0_19.out
  have cg0_0 : w16.cell? ⟨w8.heap.size, 0, none⟩ = some (.int .i64 N0) := cell_of_row _ _ 0 _ _ _ Kg0_19.out
  have cg0_1 : w16.cell? ⟨w8.heap.size, 1, none⟩ = some (.int .i64 N1) := cell_of_row _ _ 1 _ _ _ Kg0_19.out
  have cg0_2 : w16.cell? ⟨w8.heap.size, 2, none⟩ = some (.int .i64 N2) := cell_of_row _ _ 2 _ _ _ Kg0_19.out
  have cg0_3 : w16.cell? ⟨w8.heap.size, 3, none⟩ = some (.int .i64 N3) := cell_of_row _ _ 3 _ _ _ Kg0_19.out
  go_wp2_with fail
  clear caB_0 caB_1 caB_2 caB_3 cw0_0 cw0_1 cw0_2 cw0_3 cg0_0 cg0_1 cg0_2 cg0_3
  refine (markBo_any _ V _ 1 _ Hr50_19.out (by omega) (by omega) (by omega)).mono ?_
  rintro e w17 ⟨rfl, hm0, hg0⟩
  have Hr30_20 := Lib.hid (Hr30_19.out.kept hg0 HAp_r30_r50.out)
  have KaB_20 := Lib.hid ((hg0.block _ (heap_lt KaB_19.out) (fun e => HNX_aB_r50.out _ e.symm rfl)).trans KaB_19.out)
  have Kw0_20 := Lib.hid ((hg0.block _ (heap_lt Kw0_19.out) (fun e => HNX_w0_r50.out _ e.symm rfl)).trans Kw0_19.out)
  have Kg0_20 := Lib.hid ((hg0.block _ (heap_lt Kg0_19.out) (fun e => HNX_g0_r50.out _ e.symm rfl)).trans Kg0_19.out)
  have HMb0 := Lib.hid (fun k hk => (Hr50_19.out.lt k hk).1)
  have HB_20 : Hid (Below w.heap.size w w17) := (HB_19.out.grown hg0 HB_19.out.size HMb0.out)
  have Hr50_20 := Lib.hid hm0
  clear Hr30_19 KaB_19 Kw0_19 Kg0_19 HB_19 Hr50_19 hm0 hg0 HMb0
  have caB_0 : w17.cell? ⟨w.heap.size, 0, none⟩ = some (.int .i64 r) := cell_of_row _ _ 0 _ _ _ KaB_20.out
  have caB_1 : w17.cell? ⟨w.heap.size, 1, none⟩ = some (.int .i64 q) := cell_of_row _ _ 1 _ _ _ KaB_20.out
  have caB_2 : w17.cell? ⟨w.heap.size, 2, none⟩ = some (.int .i64 f) := cell_of_row _ _ 2 _ _ _ KaB_20.out
  have caB_3 : w17.cell? ⟨w.heap.size, 3, none⟩ = some (.int .i64 c) := cell_of_row _ _ 3 _ _ _ KaB_20.out
  have cw0_0 : w17.cell? ⟨w4.heap.size, 0, none⟩ = some (.int .i64 N0) := cell_of_row _ _ 0 _ _ _ Kw0_20.out
  have cw0_1 : w17.cell? ⟨w4.heap.size, 1, none⟩ = some (.int .i64 N1) := cell_of_row _ _ 1 _ _ _ Kw0_20.out
  have cw0_2 : w17.cell? ⟨w4.heap.size, 2, none⟩ = some (.int .i64 N2) := cell_of_row _ _ 2 _ _ _ Kw0_20.out
  have cw0_3 : w17.cell? ⟨w4.heap.size, 3, none⟩ = some (.int .i64 N3) := cell_of_row _ _ 3 _ _ _ Kw0_20.out
  have cg0_0 : w17.cell? ⟨w8.heap.size, 0, none⟩ = some (.int .i64 N0) := cell_of_row _ _ 0 _ _ _ Kg0_20.out
  have cg0_1 : w17.cell? ⟨w8.heap.size, 1, none⟩ = some (.int .i64 N1) := cell_of_row _ _ 1 _ _ _ Kg0_20.out
  have cg0_2 : w17.cell? ⟨w8.heap.size, 2, none⟩ = some (.int .i64 N2) := cell_of_row _ _ 2 _ _ _ Kg0_20.out
  have cg0_3 : w17.cell? ⟨w8.heap.size, 3, none⟩ = some (.int .i64 N3) := cell_of_row _ _ 3 _ _ _ Kg0_20.out
  go_wp2_with fail
  clear caB_0 caB_1 caB_2 caB_3 cw0_0 cw0_1 cw0_2 cw0_3 cg0_0 cg0_1 cg0_2 cg0_3
  refine (heldBo_any Ar50 1 V.length cr50 _ (own_bols11 Hr50_20.out) (by omega) (by omega) (by omega)).mono ?_
  rintro e w18 ⟨rfl, hbq⟩
  have Hr30_21 := Lib.hid (Hr30_20.out.below hbq)
  have Hr50_21 := Lib.hid (Hr50_20.out.below hbq)
  have KaB_21 := Lib.hid ((hbq.block _ (heap_lt KaB_20.out)).trans KaB_20.out)
  have Kw0_21 := Lib.hid ((hbq.block _ (heap_lt Kw0_20.out)).trans Kw0_20.out)
  have Kg0_21 := Lib.hid ((hbq.block _ (heap_lt Kg0_20.out)).trans Kg0_20.out)
  have HB_21 := Lib.hid (below_more HB_20.out hbq)
  clear Hr30_20 Hr50_20 KaB_20 Kw0_20 Kg0_20 HB_20
  clear hbq
  have caB_0 : w18.cell? ⟨w.heap.size, 0, none⟩ = some (.int .i64 r) := cell_of_row _ _ 0 _ _ _ KaB_21.out
  have caB_1 : w18.cell? ⟨w.heap.size, 1, none⟩ = some (.int .i64 q) := cell_of_row _ _ 1 _ _ _ KaB_21.out
  have caB_2 : w18.cell? ⟨w.heap.size, 2, none⟩ = some (.int .i64 f) := cell_of_row _ _ 2 _ _ _ KaB_21.out
  have caB_3 : w18.cell? ⟨w.heap.size, 3, none⟩ = some (.int .i64 c) := cell_of_row _ _ 3 _ _ _ KaB_21.out
  have cw0_0 : w18.cell? ⟨w4.heap.size, 0, none⟩ = some (.int .i64 N0) := cell_of_row _ _ 0 _ _ _ Kw0_21.out
  have cw0_1 : w18.cell? ⟨w4.heap.size, 1, none⟩ = some (.int .i64 N1) := cell_of_row _ _ 1 _ _ _ Kw0_21.out
  have cw0_2 : w18.cell? ⟨w4.heap.size, 2, none⟩ = some (.int .i64 N2) := cell_of_row _ _ 2 _ _ _ Kw0_21.out
  have cw0_3 : w18.cell? ⟨w4.heap.size, 3, none⟩ = some (.int .i64 N3) := cell_of_row _ _ 3 _ _ _ Kw0_21.out
  have cg0_0 : w18.cell? ⟨w8.heap.size, 0, none⟩ = some (.int .i64 N0) := cell_of_row _ _ 0 _ _ _ Kg0_21.out
  have cg0_1 : w18.cell? ⟨w8.heap.size, 1, none⟩ = some (.int .i64 N1) := cell_of_row _ _ 1 _ _ _ Kg0_21.out
  have cg0_2 : w18.cell? ⟨w8.heap.size, 2, none⟩ = some (.int .i64 N2) := cell_of_row _ _ 2 _ _ _ Kg0_21.out
  have cg0_3 : w18.cell? ⟨w8.heap.size, 3, none⟩ = some (.int .i64 N3) := cell_of_row _ _ 3 _ _ _ Kg0_21.out
  go_wp2_with fail
  clear caB_0 caB_1 caB_2 caB_3 cw0_0 cw0_1 cw0_2 cw0_3 cg0_0 cg0_1 cg0_2 cg0_3
  refine (toBu_any r q f c _).mono ?_
  rintro e w19 ⟨rfl, hbt7⟩
  have Hr30_22 := Lib.hid (Hr30_21.out.below hbt7)
  have Hr50_22 := Lib.hid (Hr50_21.out.below hbt7)
  have KaB_22 := Lib.hid ((hbt7.block _ (heap_lt KaB_21.out)).trans KaB_21.out)
  have Kw0_22 := Lib.hid ((hbt7.block _ (heap_lt Kw0_21.out)).trans Kw0_21.out)
  have Kg0_22 := Lib.hid ((hbt7.block _ (heap_lt Kg0_21.out)).trans Kg0_21.out)
  have HB_22 := Lib.hid (below_more HB_21.out hbt7)
  clear Hr30_21 Hr50_21 KaB_21 Kw0_21 Kg0_21 HB_21 hbt7
  have caB_0 : w19.cell? ⟨w.heap.size, 0, none⟩ = some (.int .i64 r) := cell_of_row _ _ 0 _ _ _ KaB_22.out
  have caB_1 : w19.cell? ⟨w.heap.size, 1, none⟩ = some (.int .i64 q) := cell_of_row _ _ 1 _ _ _ KaB_22.out
  have caB_2 : w19.cell? ⟨w.heap.size, 2, none⟩ = some (.int .i64 f) := cell_of_row _ _ 2 _ _ _ KaB_22.out
  have caB_3 : w19.cell? ⟨w.heap.size, 3, none⟩ = some (.int .i64 c) := cell_of_row _ _ 3 _ _ _ KaB_22.out
  have cw0_0 : w19.cell? ⟨w4.heap.size, 0, none⟩ = some (.int .i64 N0) := cell_of_row _ _ 0 _ _ _ Kw0_22.out
  have cw0_1 : w19.cell? ⟨w4.heap.size, 1, none⟩ = some (.int .i64 N1) := cell_of_row _ _ 1 _ _ _ Kw0_22.out
  have cw0_2 : w19.cell? ⟨w4.heap.size, 2, none⟩ = some (.int .i64 N2) := cell_of_row _ _ 2 _ _ _ Kw0_22.out
  have cw0_3 : w19.cell? ⟨w4.heap.size, 3, none⟩ = some (.int .i64 N3) := cell_of_row _ _ 3 _ _ _ Kw0_22.out
  have cg0_0 : w19.cell? ⟨w8.heap.size, 0, none⟩ = some (.int .i64 N0) := cell_of_row _ _ 0 _ _ _ Kg0_22.out
  have cg0_1 : w19.cell? ⟨w8.heap.size, 1, none⟩ = some (.int .i64 N1) := cell_of_row _ _ 1 _ _ _ Kg0_22.out
  have cg0_2 : w19.cell? ⟨w8.heap.size, 2, none⟩ = some (.int .i64 N2) := cell_of_row _ _ 2 _ _ _ Kg0_22.out
  have cg0_3 : w19.cell? ⟨w8.heap.size, 3, none⟩ = some (.int .i64 N3) := cell_of_row _ _ 3 _ _ _ Kg0_22.out
  go_wp2_with fail
  clear caB_0 caB_1 caB_2 caB_3 cw0_0 cw0_1 cw0_2 cw0_3 cg0_0 cg0_1 cg0_2 cg0_3
  refine (toWtS_any A l ca _ (HRA.out.below HB_22.out) (by omega)).mono ?_
  rintro e w20 ⟨vt80, rfl, hot80, hbt8⟩
  obtain ⟨At80, ct80, hvt80, hcapt80, _⟩ := OwnR.form fWt_len hot80
  subst hvt80
  have HAp_r30_t80 := Lib.hid (apart5 (fun k hk => (Hr30_22.out.lt k hk).2) (fun k hk => (hot80.lt k hk).1))
  have HAp_r50_t80 := Lib.hid (apart5 (fun k hk => (Hr50_22.out.lt k hk).2) (fun k hk => (hot80.lt k hk).1))
  have HNX_aB_t80 := Lib.hid (fun g hg => Nat.ne_of_gt (Nat.lt_of_lt_of_le (heap_lt KaB_22.out) (hot80.lt g hg).1))
  have HNX_w0_t80 := Lib.hid (fun g hg => Nat.ne_of_gt (Nat.lt_of_lt_of_le (heap_lt Kw0_22.out) (hot80.lt g hg).1))
  have HNX_g0_t80 := Lib.hid (fun g hg => Nat.ne_of_gt (Nat.lt_of_lt_of_le (heap_lt Kg0_22.out) (hot80.lt g hg).1))
  have Hr30_23 := Lib.hid (Hr30_22.out.below hbt8)
  have Hr50_23 := Lib.hid (Hr50_22.out.below hbt8)
  have Ht80_23 := Lib.hid (hot80.lower HB_22.out.size)
  have KaB_23 := Lib.hid ((hbt8.block _ (heap_lt KaB_22.out)).trans KaB_22.out)
  have Kw0_23 := Lib.hid ((hbt8.block _ (heap_lt Kw0_22.out)).trans Kw0_22.out)
  have Kg0_23 := Lib.hid ((hbt8.block _ (heap_lt Kg0_22.out)).trans Kg0_22.out)
  have HB_23 := Lib.hid (below_more HB_22.out hbt8)
  clear Hr30_22 Hr50_22 KaB_22 Kw0_22 Kg0_22 HB_22 hot80 hbt8
  have caB_0 : w20.cell? ⟨w.heap.size, 0, none⟩ = some (.int .i64 r) := cell_of_row _ _ 0 _ _ _ KaB_23.out
  have caB_1 : w20.cell? ⟨w.heap.size, 1, none⟩ = some (.int .i64 q) := cell_of_row _ _ 1 _ _ _ KaB_23.out
  have caB_2 : w20.cell? ⟨w.heap.size, 2, none⟩ = some (.int .i64 f) := cell_of_row _ _ 2 _ _ _ KaB_23.out
  have caB_3 : w20.cell? ⟨w.heap.size, 3, none⟩ = some (.int .i64 c) := cell_of_row _ _ 3 _ _ _ KaB_23.out
  have cw0_0 : w20.cell? ⟨w4.heap.size, 0, none⟩ = some (.int .i64 N0) := cell_of_row _ _ 0 _ _ _ Kw0_23.out
  have cw0_1 : w20.cell? ⟨w4.heap.size, 1, none⟩ = some (.int .i64 N1) := cell_of_row _ _ 1 _ _ _ Kw0_23.out
  have cw0_2 : w20.cell? ⟨w4.heap.size, 2, none⟩ = some (.int .i64 N2) := cell_of_row _ _ 2 _ _ _ Kw0_23.out
  have cw0_3 : w20.cell? ⟨w4.heap.size, 3, none⟩ = some (.int .i64 N3) := cell_of_row _ _ 3 _ _ _ Kw0_23.out
  have cg0_0 : w20.cell? ⟨w8.heap.size, 0, none⟩ = some (.int .i64 N0) := cell_of_row _ _ 0 _ _ _ Kg0_23.out
  have cg0_1 : w20.cell? ⟨w8.heap.size, 1, none⟩ = some (.int .i64 N1) := cell_of_row _ _ 1 _ _ _ Kg0_23.out
  have cg0_2 : w20.cell? ⟨w8.heap.size, 2, none⟩ = some (.int .i64 N2) := cell_of_row _ _ 2 _ _ _ Kg0_23.out
  have cg0_3 : w20.cell? ⟨w8.heap.size, 3, none⟩ = some (.int .i64 N3) := cell_of_row _ _ 3 _ _ _ Kg0_23.out
  go_wp2_with fail
  clear caB_0 caB_1 caB_2 caB_3 cw0_0 cw0_1 cw0_2 cw0_3 cg0_0 cg0_1 cg0_2 cg0_3
  refine (HI.out At80 ct80 _ (hK _ _ HW.out HB_23.out) (OwnR.rd fWt_len Ht80_23.out) (ownR_lies Ht80_23.out) (by omega)).mono ?_
  rintro e w21 ⟨vr90, rfl, hor90, hbr9⟩
  obtain ⟨Ar90, cr90, hvr90, hcapr90, _⟩ := OwnR.form fB1_len hor90
  subst hvr90
  have HAp_r30_r90 := Lib.hid (apart5 (fun k hk => (Hr30_23.out.lt k hk).2) (fun k hk => (hor90.lt k hk).1))
  have HAp_r50_r90 := Lib.hid (apart5 (fun k hk => (Hr50_23.out.lt k hk).2) (fun k hk => (hor90.lt k hk).1))
  have HAp_t80_r90 := Lib.hid (apart5 (fun k hk => (Ht80_23.out.lt k hk).2) (fun k hk => (hor90.lt k hk).1))
  have HNX_aB_r90 := Lib.hid (fun g hg => Nat.ne_of_gt (Nat.lt_of_lt_of_le (heap_lt KaB_23.out) (hor90.lt g hg).1))
  have HNX_w0_r90 := Lib.hid (fun g hg => Nat.ne_of_gt (Nat.lt_of_lt_of_le (heap_lt Kw0_23.out) (hor90.lt g hg).1))
  have HNX_g0_r90 := Lib.hid (fun g hg => Nat.ne_of_gt (Nat.lt_of_lt_of_le (heap_lt Kg0_23.out) (hor90.lt g hg).1))
  have Hr30_24 := Lib.hid (Hr30_23.out.below hbr9)
  have Hr50_24 := Lib.hid (Hr50_23.out.below hbr9)
  have Ht80_24 := Lib.hid (Ht80_23.out.below hbr9)
  have Hr90_24 := Lib.hid (hor90.lower HB_23.out.size)
  have KaB_24 := Lib.hid ((hbr9.block _ (heap_lt KaB_23.out)).trans KaB_23.out)
  have Kw0_24 := Lib.hid ((hbr9.block _ (heap_lt Kw0_23.out)).trans Kw0_23.out)
  have Kg0_24 := Lib.hid ((hbr9.block _ (heap_lt Kg0_23.out)).trans Kg0_23.out)
  have HB_24 := Lib.hid (below_more HB_23.out hbr9)
  clear Hr30_23 Hr50_23 Ht80_23 KaB_23 Kw0_23 Kg0_23 HB_23 hor90 hbr9
  obtain ⟨w22, hw25⟩ : ∃ wn, w21.alloc (.cells #[.int .i64 N0, .int .i64 N1, .int .i64 N2, .int .i64 N3] 24) = wn := ⟨_, rfl⟩
  have hbx : Below w21.heap.size w21 w22 := by rw [← hw25]; exact gAlloc _ _
  have KX : w22.heap[w21.heap.size]? = some (.cells #[.int .i64 N0, .int .i64 N1, .int .i64 N2, .int .i64 N3] 24 (0, 0)) := by rw [← hw25]; exact heap_alloc_new _ _
  have HNX_h0_r30 := Lib.hid (fun g hg => Nat.ne_of_lt (Hr30_24.out.lt g hg).2)
  have HNX_h0_r50 := Lib.hid (fun g hg => Nat.ne_of_lt (Hr50_24.out.lt g hg).2)
  have HNX_h0_t80 := Lib.hid (fun g hg => Nat.ne_of_lt (Ht80_24.out.lt g hg).2)
  have HNX_h0_r90 := Lib.hid (fun g hg => Nat.ne_of_lt (Hr90_24.out.lt g hg).2)
  have Hr30_26 := Lib.hid (Hr30_24.out.below hbx)
  have Hr50_26 := Lib.hid (Hr50_24.out.below hbx)
  have Ht80_26 := Lib.hid (Ht80_24.out.below hbx)
  have Hr90_26 := Lib.hid (Hr90_24.out.below hbx)
  have KaB_26 := Lib.hid ((hbx.block _ (heap_lt KaB_24.out)).trans KaB_24.out)
  have Kw0_26 := Lib.hid ((hbx.block _ (heap_lt Kw0_24.out)).trans Kw0_24.out)
  have Kg0_26 := Lib.hid ((hbx.block _ (heap_lt Kg0_24.out)).trans Kg0_24.out)
  have HB_26 := Lib.hid (below_more HB_24.out hbx)
  clear Hr30_24 Hr50_24 Ht80_24 Hr90_24 KaB_24 Kw0_24 Kg0_24 HB_24
  have Kh0_25 := Lib.hid KX
  clear hbx KX
  clear Ht80_26
  have caB_0 : w22.cell? ⟨w.heap.size, 0, none⟩ = some (.int .i64 r) := cell_of_row _ _ 0 _ _ _ KaB_26.out
  have caB_1 : w22.cell? ⟨w.heap.size, 1, none⟩ = some (.int .i64 q) := cell_of_row _ _ 1 _ _ _ KaB_26.out
  have caB_2 : w22.cell? ⟨w.heap.size, 2, none⟩ = some (.int .i64 f) := cell_of_row _ _ 2 _ _ _ KaB_26.out
  have caB_3 : w22.cell? ⟨w.heap.size, 3, none⟩ = some (.int .i64 c) := cell_of_row _ _ 3 _ _ _ KaB_26.out
  have cw0_0 : w22.cell? ⟨w4.heap.size, 0, none⟩ = some (.int .i64 N0) := cell_of_row _ _ 0 _ _ _ Kw0_26.out
  have cw0_1 : w22.cell? ⟨w4.heap.size, 1, none⟩ = some (.int .i64 N1) := cell_of_row _ _ 1 _ _ _ Kw0_26.out
  have cw0_2 : w22.cell? ⟨w4.heap.size, 2, none⟩ = some (.int .i64 N2) := cell_of_row _ _ 2 _ _ _ Kw0_26.out
  have cw0_3 : w22.cell? ⟨w4.heap.size, 3, none⟩ = some (.int .i64 N3) := cell_of_row _ _ 3 _ _ _ Kw0_26.out
  have cg0_0 : w22.cell? ⟨w8.heap.size, 0, none⟩ = some (.int .i64 N0) := cell_of_row _ _ 0 _ _ _ Kg0_26.out
  have cg0_1 : w22.cell? ⟨w8.heap.size, 1, none⟩ = some (.int .i64 N1) := cell_of_row _ _ 1 _ _ _ Kg0_26.out
  have cg0_2 : w22.cell? ⟨w8.heap.size, 2, none⟩ = some (.int .i64 N2) := cell_of_row _ _ 2 _ _ _ Kg0_26.out
  have cg0_3 : w22.cell? ⟨w8.heap.size, 3, none⟩ = some (.int .i64 N3) := cell_of_row _ _ 3 _ _ _ Kg0_26.out
  have ch0_0 : w22.cell? ⟨w21.heap.size, 0, none⟩ = some (.int .i64 N0) := cell_of_row _ _ 0 _ _ _ Kh0_25.out
  have ch0_1 : w22.cell? ⟨w21.heap.size, 1, none⟩ = some (.int .i64 N1) := cell_of_row _ _ 1 _ _ _ Kh0_25.out
  have ch0_2 : w22.cell? ⟨w21.heap.size, 2, none⟩ = some (.int .i64 N2) := cell_of_row _ _ 2 _ _ _ Kh0_25.out
  have ch0_3 : w22.cell? ⟨w21.heap.size, 3, none⟩ = some (.int .i64 N3) := cell_of_row _ _ 3 _ _ _ Kh0_25.out
  go_wp2_with fail
  clear caB_0 caB_1 caB_2 caB_3 cw0_0 cw0_1 cw0_2 cw0_3 cg0_0 cg0_1 cg0_2 cg0_3 ch0_0 ch0_1 ch0_2 ch0_3 hw25
  refine (eqBu_self N0 N1 N2 N3 _).mono ?_
  rintro e w23 ⟨rfl, hbq⟩
  have Hr30_27 := Lib.hid (Hr30_26.out.below hbq)
  have Hr50_27 := Lib.hid (Hr50_26.out.below hbq)
  have Hr90_27 := Lib.hid (Hr90_26.out.below hbq)
  have KaB_27 := Lib.hid ((hbq.block _ (heap_lt KaB_26.out)).trans KaB_26.out)
  have Kw0_27 := Lib.hid ((hbq.block _ (heap_lt Kw0_26.out)).trans Kw0_26.out)
  have Kg0_27 := Lib.hid ((hbq.block _ (heap_lt Kg0_26.out)).trans Kg0_26.out)
  have Kh0_27 := Lib.hid ((hbq.block _ (heap_lt Kh0_25.out)).trans Kh0_25.out)
  have HB_27 := Lib.hid (below_more HB_26.out hbq)
  clear Hr30_26 Hr50_26 Hr90_26 KaB_26 Kw0_26 Kg0_26 Kh0_25 HB_26
  clear hbq
  have caB_0 : w23.cell? ⟨w.heap.size, 0, none⟩ = some (.int .i64 r) := cell_of_row _ _ 0 _ _ _ KaB_27.out
  have caB_1 : w23.cell? ⟨w.heap.size, 1, none⟩ = some (.int .i64 q) := cell_of_row _ _ 1 _ _ _ KaB_27.out
  have caB_2 : w23.cell? ⟨w.heap.size, 2, none⟩ = some (.int .i64 f) := cell_of_row _ _ 2 _ _ _ KaB_27.out
  have caB_3 : w23.cell? ⟨w.heap.size, 3, none⟩ = some (.int .i64 c) := cell_of_row _ _ 3 _ _ _ KaB_27.out
  have cw0_0 : w23.cell? ⟨w4.heap.size, 0, none⟩ = some (.int .i64 N0) := cell_of_row _ _ 0 _ _ _ Kw0_27.out
  have cw0_1 : w23.cell? ⟨w4.heap.size, 1, none⟩ = some (.int .i64 N1) := cell_of_row _ _ 1 _ _ _ Kw0_27.out
  have cw0_2 : w23.cell? ⟨w4.heap.size, 2, none⟩ = some (.int .i64 N2) := cell_of_row _ _ 2 _ _ _ Kw0_27.out
  have cw0_3 : w23.cell? ⟨w4.heap.size, 3, none⟩ = some (.int .i64 N3) := cell_of_row _ _ 3 _ _ _ Kw0_27.out
  have cg0_0 : w23.cell? ⟨w8.heap.size, 0, none⟩ = some (.int .i64 N0) := cell_of_row _ _ 0 _ _ _ Kg0_27.out
  have cg0_1 : w23.cell? ⟨w8.heap.size, 1, none⟩ = some (.int .i64 N1) := cell_of_row _ _ 1 _ _ _ Kg0_27.out
  have cg0_2 : w23.cell? ⟨w8.heap.size, 2, none⟩ = some (.int .i64 N2) := cell_of_row _ _ 2 _ _ _ Kg0_27.out
  have cg0_3 : w23.cell? ⟨w8.heap.size, 3, none⟩ = some (.int .i64 N3) := cell_of_row _ _ 3 _ _ _ Kg0_27.out
  have ch0_0 : w23.cell? ⟨w21.heap.size, 0, none⟩ = some (.int .i64 N0) := cell_of_row _ _ 0 _ _ _ Kh0_27.out
  have ch0_1 : w23.cell? ⟨w21.heap.size, 1, none⟩ = some (.int .i64 N1) := cell_of_row _ _ 1 _ _ _ Kh0_27.out
  have ch0_2 : w23.cell? ⟨w21.heap.size, 2, none⟩ = some (.int .i64 N2) := cell_of_row _ _ 2 _ _ _ Kh0_27.out
  have ch0_3 : w23.cell? ⟨w21.heap.size, 3, none⟩ = some (.int .i64 N3) := cell_of_row _ _ 3 _ _ _ Kh0_27.out
  go_wp2_with fail
  clear caB_0 caB_1 caB_2 caB_3 cw0_0 cw0_1 cw0_2 cw0_3 cg0_0 cg0_1 cg0_2 cg0_3 ch0_0 ch0_1 ch0_2 ch0_3
  refine (eqBo_self Ar90 Ar30 V cr90 cr30 _ (own_bols11 Hr90_27.out) (own_bols11 Hr30_27.out) (by omega)).mono ?_
  rintro e w24 ⟨rfl, hbq⟩
  have Hr30_28 := Lib.hid (Hr30_27.out.below hbq)
  have Hr50_28 := Lib.hid (Hr50_27.out.below hbq)
  have Hr90_28 := Lib.hid (Hr90_27.out.below hbq)
  have KaB_28 := Lib.hid ((hbq.block _ (heap_lt KaB_27.out)).trans KaB_27.out)
  have Kw0_28 := Lib.hid ((hbq.block _ (heap_lt Kw0_27.out)).trans Kw0_27.out)
  have Kg0_28 := Lib.hid ((hbq.block _ (heap_lt Kg0_27.out)).trans Kg0_27.out)
  have Kh0_28 := Lib.hid ((hbq.block _ (heap_lt Kh0_27.out)).trans Kh0_27.out)
  have HB_28 := Lib.hid (below_more HB_27.out hbq)
  clear Hr30_27 Hr50_27 Hr90_27 KaB_27 Kw0_27 Kg0_27 Kh0_27 HB_27
  clear hbq
  clear Hr30_28
  clear Hr90_28
  have caB_0 : w24.cell? ⟨w.heap.size, 0, none⟩ = some (.int .i64 r) := cell_of_row _ _ 0 _ _ _ KaB_28.out
  have caB_1 : w24.cell? ⟨w.heap.size, 1, none⟩ = some (.int .i64 q) := cell_of_row _ _ 1 _ _ _ KaB_28.out
  have caB_2 : w24.cell? ⟨w.heap.size, 2, none⟩ = some (.int .i64 f) := cell_of_row _ _ 2 _ _ _ KaB_28.out
  have caB_3 : w24.cell? ⟨w.heap.size, 3, none⟩ = some (.int .i64 c) := cell_of_row _ _ 3 _ _ _ KaB_28.out
  have cw0_0 : w24.cell? ⟨w4.heap.size, 0, none⟩ = some (.int .i64 N0) := cell_of_row _ _ 0 _ _ _ Kw0_28.out
  have cw0_1 : w24.cell? ⟨w4.heap.size, 1, none⟩ = some (.int .i64 N1) := cell_of_row _ _ 1 _ _ _ Kw0_28.out
  have cw0_2 : w24.cell? ⟨w4.heap.size, 2, none⟩ = some (.int .i64 N2) := cell_of_row _ _ 2 _ _ _ Kw0_28.out
  have cw0_3 : w24.cell? ⟨w4.heap.size, 3, none⟩ = some (.int .i64 N3) := cell_of_row _ _ 3 _ _ _ Kw0_28.out
  have cg0_0 : w24.cell? ⟨w8.heap.size, 0, none⟩ = some (.int .i64 N0) := cell_of_row _ _ 0 _ _ _ Kg0_28.out
  have cg0_1 : w24.cell? ⟨w8.heap.size, 1, none⟩ = some (.int .i64 N1) := cell_of_row _ _ 1 _ _ _ Kg0_28.out
  have cg0_2 : w24.cell? ⟨w8.heap.size, 2, none⟩ = some (.int .i64 N2) := cell_of_row _ _ 2 _ _ _ Kg0_28.out
  have cg0_3 : w24.cell? ⟨w8.heap.size, 3, none⟩ = some (.int .i64 N3) := cell_of_row _ _ 3 _ _ _ Kg0_28.out
  have ch0_0 : w24.cell? ⟨w21.heap.size, 0, none⟩ = some (.int .i64 N0) := cell_of_row _ _ 0 _ _ _ Kh0_28.out
  have ch0_1 : w24.cell? ⟨w21.heap.size, 1, none⟩ = some (.int .i64 N1) := cell_of_row _ _ 1 _ _ _ Kh0_28.out
  have ch0_2 : w24.cell? ⟨w21.heap.size, 2, none⟩ = some (.int .i64 N2) := cell_of_row _ _ 2 _ _ _ Kh0_28.out
  have ch0_3 : w24.cell? ⟨w21.heap.size, 3, none⟩ = some (.int .i64 N3) := cell_of_row _ _ 3 _ _ _ Kh0_28.out
  go_wp2_with fail
  clear caB_0 caB_1 caB_2 caB_3 cw0_0 cw0_1 cw0_2 cw0_3 cg0_0 cg0_1 cg0_2 cg0_3 ch0_0 ch0_1 ch0_2 ch0_3
  refine (heldBo_any Ar50 1 V.length cr50 _ (own_bols11 Hr50_28.out) (by omega) (by omega) (by omega)).mono ?_
  rintro e w25 ⟨rfl, hbq⟩
  have Hr50_29 := Lib.hid (Hr50_28.out.below hbq)
  have KaB_29 := Lib.hid ((hbq.block _ (heap_lt KaB_28.out)).trans KaB_28.out)
  have Kw0_29 := Lib.hid ((hbq.block _ (heap_lt Kw0_28.out)).trans Kw0_28.out)
  have Kg0_29 := Lib.hid ((hbq.block _ (heap_lt Kg0_28.out)).trans Kg0_28.out)
  have Kh0_29 := Lib.hid ((hbq.block _ (heap_lt Kh0_28.out)).trans Kh0_28.out)
  have HB_29 := Lib.hid (below_more HB_28.out hbq)
  clear Hr50_28 KaB_28 Kw0_28 Kg0_28 Kh0_28 HB_28
  clear hbq
  go_wp2_with fail
  go_ret
  exact ⟨rfl, HB_29.out⟩

set_option maxRecDepth 100000 in
set_option maxHeartbeats 8000000 in
theorem sumTaken_law {K : World → Prop} (hK : Stays5 K) (hI : ∀ (A : Option Addr) (l : List Wtc) (ca : Nat) (B : Option Addr) (ts : List Bool) (cb : Nat) (u : Int) (v : Int) (w : World), K w → RdR 2 fWt w A l → Lies9 A ca → l.length ≤ 1048576 → Bols w B ts → Lies9 B cb → ts.length ≤ 1048576 → Calls Try.prog 18 #[.slice A l.length ca, .slice B ts.length cb, .int .i64 u, .int .i64 v] w fun e w' => e = .returned (.tuple #[.int .i64 (suI l ts u v), .bool (suOk l ts u v)]) ∧ Below w.heap.size w w')
    (A : Option Addr) (l : List Wtc) (ca : Nat) (B : Option Addr) (ts : List Bool) (cb : Nat) (u : Int) (v : Int) (w : World) (hw : K w) (hA : RdR 2 fWt w A l) (hl : l.length ≤ 9223372036854775807) (hB : Bols w B ts) : Calls Try.prog 11 #[.slice A l.length ca, .slice B ts.length cb, .int .i64 u, .int .i64 v] w fun e w' => e = .returned (.bool true) ∧ Below w.heap.size w w' := by
  by_cases hlb0 : ts.length ≤ 1048576
  case neg =>
    have hli : (1048576 : Int) < (ts.length : Int) := by omega
    clear hI
    go_enter Try.func11, Try.ntmps11
    go_wp2_with fail
    go_ret
    exact ⟨rfl, by first | exact Below.refl _ _ | exact gAlloc _ _⟩
  have hli0 : ¬ (1048576 : Int) < (ts.length : Int) := by omega
  have HRA := Lib.hid hA
  have HRB := Lib.hid hB
  have HI := Lib.hid (fun A ca B cb w hk hA h1 h2 hB h3 h4 => hI A l ca B ts cb u v w hk hA h1 h2 hB h3 h4)
  have HW := Lib.hid hw
  have HS0 := Lib.hid (fun A ca B cb w hA hB h1 h2 => sSumTaken A B l ts ca cb u v w hA hB h1 h2)
  clear hI hw hA hB
  generalize suI l ts u v = rr at *
  generalize suOk l ts u v = bb at *
  go_enter Try.func11, Try.ntmps11
  go_wp2_with fail
  refine (szWtS_any A l ca 1048576 _ hl (by omega) (by omega)).mono ?_
  rintro e wq ⟨⟨rz, rfl, hrz⟩, rfl⟩
  rcases hrz with hrz | ⟨hrz0, hrz1⟩
  · go_wp2_with fail
    go_ret
    exact ⟨rfl, Below.refl _ _⟩
  have hlz : l.length ≤ 1048576 := by omega
  have hrzn : ¬ rz < 0 := by omega
  clear hl hrz1
  go_wp2_with fail
  refine (toWtS_any A l ca _ HRA.out (by omega)).mono ?_
  rintro e w1 ⟨vt10, rfl, hot10, hbt1⟩
  obtain ⟨At10, ct10, hvt10, hcapt10, _⟩ := OwnR.form fWt_len hot10
  subst hvt10
  have Ht10_1 := Lib.hid (hot10)
  have HB_1 := Lib.hid (hbt1)
  clear hot10 hbt1
  go_wp2_with fail
  refine (toBo_any B ts cb _ (HRB.out.below HB_1.out) (by omega)).mono ?_
  rintro e w2 ⟨vt20, rfl, hot20, hbt2⟩
  obtain ⟨At20, ct20, hvt20, hcapt20, _⟩ := OwnR.form fB1_len hot20
  subst hvt20
  have HAp_t10_t20 := Lib.hid (apart5 (fun k hk => (Ht10_1.out.lt k hk).2) (fun k hk => (hot20.lt k hk).1))
  have Ht10_2 := Lib.hid (Ht10_1.out.below hbt2)
  have Ht20_2 := Lib.hid (hot20.lower HB_1.out.size)
  have HB_2 := Lib.hid (below_more HB_1.out hbt2)
  clear Ht10_1 HB_1 hot20 hbt2
  go_wp2_with fail
  refine (HS0.out At10 ct10 At20 ct20 _ (OwnR.rd fWt_len Ht10_2.out) (own_bols11 Ht20_2.out) (by omega) (by omega)).mono ?_
  rintro e w3 ⟨rfl, hbq⟩
  have Ht10_3 := Lib.hid (Ht10_2.out.below hbq)
  have Ht20_3 := Lib.hid (Ht20_2.out.below hbq)
  have HB_3 := Lib.hid (below_more HB_2.out hbq)
  clear Ht10_2 Ht20_2 HB_2
  clear hbq
  clear Ht10_3 Ht20_3
  go_wp2_with fail
  refine (toWtS_any A l ca _ (HRA.out.below HB_3.out) (by omega)).mono ?_
  rintro e w4 ⟨vx00, rfl, hox00, hbx0⟩
  obtain ⟨Ax00, cx00, hvx00, hcapx00, _⟩ := OwnR.form fWt_len hox00
  subst hvx00
  have Hx00_4 := Lib.hid (hox00.lower HB_3.out.size)
  have HB_4 := Lib.hid (below_more HB_3.out hbx0)
  clear HB_3 hox00 hbx0
  go_wp2_with fail
  refine (toBo_any B ts cb _ (HRB.out.below HB_4.out) (by omega)).mono ?_
  rintro e w5 ⟨vx10, rfl, hox10, hbx1⟩
  obtain ⟨Ax10, cx10, hvx10, hcapx10, _⟩ := OwnR.form fB1_len hox10
  subst hvx10
  have HAp_x00_x10 := Lib.hid (apart5 (fun k hk => (Hx00_4.out.lt k hk).2) (fun k hk => (hox10.lt k hk).1))
  have Hx00_5 := Lib.hid (Hx00_4.out.below hbx1)
  have Hx10_5 := Lib.hid (hox10.lower HB_4.out.size)
  have HB_5 := Lib.hid (below_more HB_4.out hbx1)
  clear Hx00_4 HB_4 hox10 hbx1
  go_wp2_with fail
  refine (HI.out Ax00 cx00 Ax10 cx10 _ (hK _ _ HW.out HB_5.out) (OwnR.rd fWt_len Hx00_5.out) (ownR_lies Hx00_5.out) (by omega) (own_bols11 Hx10_5.out) (ownR_lies Hx10_5.out) (by omega)).mono ?_
  rintro e w6 ⟨rfl, hbq⟩
  have Hx00_6 := Lib.hid (Hx00_5.out.below hbq)
  have Hx10_6 := Lib.hid (Hx10_5.out.below hbq)
  have HB_6 := Lib.hid (below_more HB_5.out hbq)
  clear Hx00_5 Hx10_5 HB_5
  clear hbq
  go_wp2_with fail
  refine (toWtS_any A l ca _ (HRA.out.below HB_6.out) (by omega)).mono ?_
  rintro e w7 ⟨ve30, rfl, hoe30, hbe3⟩
  obtain ⟨Ae30, ce30, hve30, hcape30, _⟩ := OwnR.form fWt_len hoe30
  subst hve30
  have HAp_x00_e30 := Lib.hid (apart5 (fun k hk => (Hx00_6.out.lt k hk).2) (fun k hk => (hoe30.lt k hk).1))
  have HAp_x10_e30 := Lib.hid (apart5 (fun k hk => (Hx10_6.out.lt k hk).2) (fun k hk => (hoe30.lt k hk).1))
  have Hx00_7 := Lib.hid (Hx00_6.out.below hbe3)
  have Hx10_7 := Lib.hid (Hx10_6.out.below hbe3)
  have He30_7 := Lib.hid (hoe30.lower HB_6.out.size)
  have HB_7 := Lib.hid (below_more HB_6.out hbe3)
  clear Hx00_6 Hx10_6 HB_6 hoe30 hbe3
  go_wp2_with fail
  refine (eqWtS_self Ax00 Ae30 l cx00 ce30 _ (OwnR.rd fWt_len Hx00_7.out) (OwnR.rd fWt_len He30_7.out) (by omega)).mono ?_
  rintro e w8 ⟨rfl, hbq⟩
  have Hx00_8 := Lib.hid (Hx00_7.out.below hbq)
  have Hx10_8 := Lib.hid (Hx10_7.out.below hbq)
  have He30_8 := Lib.hid (He30_7.out.below hbq)
  have HB_8 := Lib.hid (below_more HB_7.out hbq)
  clear Hx00_7 Hx10_7 He30_7 HB_7
  clear hbq
  clear He30_8
  clear Hx00_8
  go_wp2_with fail
  refine (toBo_any B ts cb _ (HRB.out.below HB_8.out) (by omega)).mono ?_
  rintro e w9 ⟨ve40, rfl, hoe40, hbe4⟩
  obtain ⟨Ae40, ce40, hve40, hcape40, _⟩ := OwnR.form fB1_len hoe40
  subst hve40
  have HAp_x10_e40 := Lib.hid (apart5 (fun k hk => (Hx10_8.out.lt k hk).2) (fun k hk => (hoe40.lt k hk).1))
  have Hx10_9 := Lib.hid (Hx10_8.out.below hbe4)
  have He40_9 := Lib.hid (hoe40.lower HB_8.out.size)
  have HB_9 := Lib.hid (below_more HB_8.out hbe4)
  clear Hx10_8 HB_8 hoe40 hbe4
  go_wp2_with fail
  refine (eqBo_self Ax10 Ae40 ts cx10 ce40 _ (own_bols11 Hx10_9.out) (own_bols11 He40_9.out) (by omega)).mono ?_
  rintro e w10 ⟨rfl, hbq⟩
  have Hx10_10 := Lib.hid (Hx10_9.out.below hbq)
  have He40_10 := Lib.hid (He40_9.out.below hbq)
  have HB_10 := Lib.hid (below_more HB_9.out hbq)
  clear Hx10_9 He40_9 HB_9
  clear hbq
  clear He40_10
  clear Hx10_10
  go_wp2_with fail
  go_ret
  exact ⟨rfl, HB_10.out⟩

theorem anyStaysJ : Stays5 (fun _ : World => True) := fun _ _ _ _ => trivial
theorem dPlayBucket (r q f c : Int) (A : Option Addr) (l : List Wtc) (ca : Nat) (w : World) (hA : RdR 2 fWt w A l) (hl : l.length ≤ 9223372036854775807) : Calls Try.prog 9 #[bkW r q f c, .slice A l.length ca] w fun e w' => e = .returned (.bool true) ∧ Below w.heap.size w w' :=
  playBucket_law anyStaysJ (fun r q f c A l ca w _ _ ha _ hl => iPlay13 r q f c A l ca w ha hl) r q f c A l ca w trivial hA hl
theorem dSumTaken (A : Option Addr) (l : List Wtc) (ca : Nat) (B : Option Addr) (ts : List Bool) (cb : Nat) (u v : Int) (w : World) (hA : RdR 2 fWt w A l) (hl : l.length ≤ 9223372036854775807) (hB : Bols w B ts) (_ : ts.length ≤ 9223372036854775807) : Calls Try.prog 11 #[.slice A l.length ca, .slice B ts.length cb, .int .i64 u, .int .i64 v] w fun e w' => e = .returned (.bool true) ∧ Below w.heap.size w w' :=
  sumTaken_law anyStaysJ (fun A l ca B ts cb u v w _ ha _ h1 hb _ h2 => iSumTaken A B l ts ca cb u v w ha hb h1 h2) A l ca B ts cb u v w trivial hA hl hB
end Go.Proofs.Ytgakklanboabjaa
