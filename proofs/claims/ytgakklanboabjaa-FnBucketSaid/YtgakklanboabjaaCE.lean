/-
  The program's chapter 13, second part: PlayBucket.
-/
import Derived.Test.YtgakklanboabjaaCD
namespace Go.Proofs.Ytgakklanboabjaa
open Go.RowKit

theorem iFill_ok {r q f c t : Int} (hg : goodBB r q f c = true) (h0 : c ≤ t) (h1 : t ≤ 10000) (w : World) : Calls Try.prog 29 #[bkW r q f c, .int .i64 t] w fun e w' => e = .returned (.tuple #[bkW r q (fillI r q f c t) t, .bool true]) ∧ Below w.heap.size w w' := by
  have h := iFillTo r q f c t w
  have hk : ftOk r q f c t = true := by rw [ftOk, hg, inB_mkL h0 h1]; rfl
  rw [ft_yes hk, hk] at h
  exact h
theorem iWant_ok {r q f c : Int} (hg : goodBB r q f c = true) (a s : Int) (w : World) : Calls Try.prog 46 #[bkW r q f c, wnW a s] w fun e w' => e = .returned (.bool (wantB c a s)) ∧ Below w.heap.size w w' :=
  iWant13 r q f c a s (gbk_ok hg).2.2.2.1 w
set_option maxRecDepth 100000 in
set_option maxHeartbeats 2000000 in
theorem iPlayBk (r q f c : Int) (A : Option Addr) (l : List Wtc) (ca : Nat) (w : World) (ha : RdR 2 fWt w A l) (hl : l.length ≤ 1048576) :
    Calls Try.prog 13 #[bkW r q f c, .slice A l.length ca] w fun e w' => ∃ d, e = .returned (.tuple #[bkW (pbL (r, q, f, c) l).1 (pbL (r, q, f, c) l).2.1 (pbL (r, q, f, c) l).2.2.1 (pbL (r, q, f, c) l).2.2.2, d, .bool (pbOk (r, q, f, c) l)]) ∧ OwnT w' w.heap.size d (pbT (r, q, f, c) l) ∧ Below w.heap.size w w' := by
  obtain ⟨W, hW⟩ : ∃ W, (w.alloc (.cells #[.int .i64 r, .int .i64 q, .int .i64 f, .int .i64 c] 24)).alloc (.cells #[.int .i64 0, .int .i64 0, .int .i64 0, .int .i64 0] 24) = W := ⟨_, rfl⟩
  have hsW : W.heap.size = w.heap.size + 2 := by rw [← hW]; simp
  have hbW : Below w.heap.size w W := by rw [← hW]; exact (gAlloc w _).alloc (by simp) _
  have h1 : W.heap[w.heap.size]? = some (.cells #[.int .i64 r, .int .i64 q, .int .i64 f, .int .i64 c] 24 (0, 0)) := by rw [← hW, heap_alloc_old _ _ _ (by simp)]; exact heap_alloc_new _ _
  have h2 : W.heap[w.heap.size + 1]? = some (.cells #[.int .i64 0, .int .i64 0, .int .i64 0, .int .i64 0] 24 (0, 0)) := by rw [← hW, show w.heap.size + 1 = (w.alloc (.cells #[.int .i64 r, .int .i64 q, .int .i64 f, .int .i64 c] 24)).heap.size by simp]; exact heap_alloc_new _ _
  have x0 : W.cell? ⟨w.heap.size, 0, none⟩ = some (.int .i64 r) := cell_of_row _ _ 0 _ _ _ h1
  have x1 : W.cell? ⟨w.heap.size, 1, none⟩ = some (.int .i64 q) := cell_of_row _ _ 1 _ _ _ h1
  have x2 : W.cell? ⟨w.heap.size, 2, none⟩ = some (.int .i64 f) := cell_of_row _ _ 2 _ _ _ h1
  have x3 : W.cell? ⟨w.heap.size, 3, none⟩ = some (.int .i64 c) := cell_of_row _ _ 3 _ _ _ h1
  have z0 : W.cell? ⟨w.heap.size + 1, 0, none⟩ = some (.int .i64 0) := cell_of_row _ _ 0 _ _ _ h2
  have zf0 := frozen_of_row W _ 0 _ _ h2
  have z1 : W.cell? ⟨w.heap.size + 1, 1, none⟩ = some (.int .i64 0) := cell_of_row _ _ 1 _ _ _ h2
  have zf1 := frozen_of_row W _ 1 _ _ h2
  have z2 : W.cell? ⟨w.heap.size + 1, 2, none⟩ = some (.int .i64 0) := cell_of_row _ _ 2 _ _ _ h2
  have zf2 := frozen_of_row W _ 2 _ _ h2
  have z3 : W.cell? ⟨w.heap.size + 1, 3, none⟩ = some (.int .i64 0) := cell_of_row _ _ 3 _ _ _ h2
  have zf3 := frozen_of_row W _ 3 _ _ h2
  have H1 := Lib.hid h1
  have H2 := Lib.hid h2
  have HB := Lib.hid hbW
  clear hbW h1 h2
  have HA0 := Lib.hid ha
  have HG := Lib.hid (iGoodBk r q f c W)
  clear ha
  cases hg : goodBB r q f c
  · have HE := Lib.hid (pb_no (b := (r, q, f, c)) (l := l) (by rw [pbOk, show goodBk (r, q, f, c) = false from hg]; rfl))
    rw [hg] at HG
    clear hg
    go_enter Try.func13, Try.ntmps13
    go_wp2_with (first | (go_at_call 16; go_loud (refine (HG.out).mono ?_); rintro e w1 ⟨rfl, hb1⟩; have x0 : w1.cell? ⟨w.heap.size, 0, none⟩ = some (.int .i64 r) := cell_of_row _ _ 0 _ _ _ (block_onU hb1 H1.out); have x1 : w1.cell? ⟨w.heap.size, 1, none⟩ = some (.int .i64 q) := cell_of_row _ _ 1 _ _ _ (block_onU hb1 H1.out); have x2 : w1.cell? ⟨w.heap.size, 2, none⟩ = some (.int .i64 f) := cell_of_row _ _ 2 _ _ _ (block_onU hb1 H1.out); have x3 : w1.cell? ⟨w.heap.size, 3, none⟩ = some (.int .i64 c) := cell_of_row _ _ 3 _ _ _ (block_onU hb1 H1.out); have z0 : w1.cell? ⟨w.heap.size + 1, 0, none⟩ = some (.int .i64 0) := cell_of_row _ _ 0 _ _ _ (block_onU hb1 H2.out); have zf0 := frozen_of_row w1 _ 0 _ _ (block_onU hb1 H2.out); have z1 : w1.cell? ⟨w.heap.size + 1, 1, none⟩ = some (.int .i64 0) := cell_of_row _ _ 1 _ _ _ (block_onU hb1 H2.out); have zf1 := frozen_of_row w1 _ 1 _ _ (block_onU hb1 H2.out); have z2 : w1.cell? ⟨w.heap.size + 1, 2, none⟩ = some (.int .i64 0) := cell_of_row _ _ 2 _ _ _ (block_onU hb1 H2.out); have zf2 := frozen_of_row w1 _ 2 _ _ (block_onU hb1 H2.out); have z3 : w1.cell? ⟨w.heap.size + 1, 3, none⟩ = some (.int .i64 0) := cell_of_row _ _ 3 _ _ _ (block_onU hb1 H2.out); have zf3 := frozen_of_row w1 _ 3 _ _ (block_onU hb1 H2.out)))
    exact ret_bk3 rfl (w.heap.size + 1) 0 0 0 0 (.slice none 0 0) (.bool false) rfl rfl rfl (gv_stored rfl (block_onU hb1 H2.out) _ _ _ _) rfl ⟨.slice none 0 0, by rw [HE.out.1, HE.out.2.2], by rw [HE.out.2.1]; exact OwnT.nil _ _, below_gv (below_more HB.out hb1) (Nat.le_succ _) _ _ _ _⟩
  · rw [hg] at HG
    by_cases h40 : l.length ≤ 40
    case neg =>
      have hi : ¬ (l.length : Int) ≤ 40 := by omega
      have hi2 : (40 : Int) < (l.length : Int) := by omega
      have HE := Lib.hid (pb_no (b := (r, q, f, c)) (l := l) (by rw [pbOk]; simp [h40]))
      clear hg h40
      go_enter Try.func13, Try.ntmps13
      go_wp2_with (first | (go_at_call 16; go_loud (refine (HG.out).mono ?_); rintro e w1 ⟨rfl, hb1⟩; have x0 : w1.cell? ⟨w.heap.size, 0, none⟩ = some (.int .i64 r) := cell_of_row _ _ 0 _ _ _ (block_onU hb1 H1.out); have x1 : w1.cell? ⟨w.heap.size, 1, none⟩ = some (.int .i64 q) := cell_of_row _ _ 1 _ _ _ (block_onU hb1 H1.out); have x2 : w1.cell? ⟨w.heap.size, 2, none⟩ = some (.int .i64 f) := cell_of_row _ _ 2 _ _ _ (block_onU hb1 H1.out); have x3 : w1.cell? ⟨w.heap.size, 3, none⟩ = some (.int .i64 c) := cell_of_row _ _ 3 _ _ _ (block_onU hb1 H1.out); have z0 : w1.cell? ⟨w.heap.size + 1, 0, none⟩ = some (.int .i64 0) := cell_of_row _ _ 0 _ _ _ (block_onU hb1 H2.out); have zf0 := frozen_of_row w1 _ 0 _ _ (block_onU hb1 H2.out); have z1 : w1.cell? ⟨w.heap.size + 1, 1, none⟩ = some (.int .i64 0) := cell_of_row _ _ 1 _ _ _ (block_onU hb1 H2.out); have zf1 := frozen_of_row w1 _ 1 _ _ (block_onU hb1 H2.out); have z2 : w1.cell? ⟨w.heap.size + 1, 2, none⟩ = some (.int .i64 0) := cell_of_row _ _ 2 _ _ _ (block_onU hb1 H2.out); have zf2 := frozen_of_row w1 _ 2 _ _ (block_onU hb1 H2.out); have z3 : w1.cell? ⟨w.heap.size + 1, 3, none⟩ = some (.int .i64 0) := cell_of_row _ _ 3 _ _ _ (block_onU hb1 H2.out); have zf3 := frozen_of_row w1 _ 3 _ _ (block_onU hb1 H2.out)))
      exact ret_bk3 rfl (w.heap.size + 1) 0 0 0 0 (.slice none 0 0) (.bool false) rfl rfl rfl (gv_stored rfl (block_onU hb1 H2.out) _ _ _ _) rfl ⟨.slice none 0 0, by rw [HE.out.1, HE.out.2.2], by rw [HE.out.2.1]; exact OwnT.nil _ _, below_gv (below_more HB.out hb1) (Nat.le_succ _) _ _ _ _⟩
    have hi : (l.length : Int) ≤ 40 := by omega
    have hi2 : ¬ (40 : Int) < (l.length : Int) := by omega
    have hgg : goodBk (r, q, f, c) = true := hg
    clear hg
    go_enter Try.func13, Try.ntmps13
    go_wp2_with (first | (go_at_call 16; go_loud (refine (HG.out).mono ?_); rintro e w1 ⟨rfl, hb1⟩; have HP := Lib.hid (show Pl13 w w1 (r, q, f, c) (.slice none 0 0) [] from ⟨block_onU hb1 H1.out, block_onU hb1 H2.out, OwnT.nil _ _, below_more HB.out hb1⟩)))
    clear x0 x1 x2 x3 z0 zf0 z1 zf1 z2 zf2 z3 zf3 HG H1 H2 HB hb1 hW
    go_loopg [23, 7] l.length (fun gk i d wr => ∃ j : Nat, j + gk = l.length ∧ i = .int .i64 j ∧ okW (r, q, f, c) (l.take j) = true ∧ Pl13 w wr ((l.take j).foldl stBk (r, q, f, c)) d (tkS (r, q, f, c) (l.take j)))
    case atStart => exact ⟨0, by omega, rfl, rfl, HP.out⟩
    case round =>
      obtain ⟨j, hgk, rfl, hm, hP⟩ := hrel
      by_cases hlt : j < l.length
      case neg =>
        obtain rfl : j = l.length := by omega
        have hji : ¬ (l.length : Int) < (l.length : Int) := by omega
        rw [List.take_of_length_le (Nat.le_refl _)] at hP hm
        have HE := Lib.hid (pb_yes (b := (r, q, f, c)) (l := l) (by rw [pbOk, hgg, hm]; simp [h40]))
        obtain ⟨⟨tr, tq, tf, tc⟩, hT⟩ : ∃ t, l.foldl stBk (r, q, f, c) = t := ⟨_, rfl⟩
        rw [hT] at hP
        have HT := Lib.hid hT
        have HPj := Lib.hid hP
        clear hP hT hgk hlt hm hgg HP
        have x0 : wr.cell? ⟨w.heap.size, 0, none⟩ = some (.int .i64 tr) := cell_of_row _ _ 0 _ _ _ HPj.out.box
        have x1 : wr.cell? ⟨w.heap.size, 1, none⟩ = some (.int .i64 tq) := cell_of_row _ _ 1 _ _ _ HPj.out.box
        have x2 : wr.cell? ⟨w.heap.size, 2, none⟩ = some (.int .i64 tf) := cell_of_row _ _ 2 _ _ _ HPj.out.box
        have x3 : wr.cell? ⟨w.heap.size, 3, none⟩ = some (.int .i64 tc) := cell_of_row _ _ 3 _ _ _ HPj.out.box
        have z0 : wr.cell? ⟨w.heap.size + 1, 0, none⟩ = some (.int .i64 0) := cell_of_row _ _ 0 _ _ _ HPj.out.res
        have z1 : wr.cell? ⟨w.heap.size + 1, 1, none⟩ = some (.int .i64 0) := cell_of_row _ _ 1 _ _ _ HPj.out.res
        have z2 : wr.cell? ⟨w.heap.size + 1, 2, none⟩ = some (.int .i64 0) := cell_of_row _ _ 2 _ _ _ HPj.out.res
        have z3 : wr.cell? ⟨w.heap.size + 1, 3, none⟩ = some (.int .i64 0) := cell_of_row _ _ 3 _ _ _ HPj.out.res
        have zf0 := frozen_of_row wr _ 0 _ _ HPj.out.res
        have zf1 := frozen_of_row wr _ 1 _ _ HPj.out.res
        have zf2 := frozen_of_row wr _ 2 _ _ HPj.out.res
        have zf3 := frozen_of_row wr _ 3 _ _ HPj.out.res
        go_wp2_with fail
        refine ret_bk3 rfl (w.heap.size + 1) tr tq tf tc u7 (.bool true) rfl rfl rfl (gv_stored rfl HPj.out.res _ _ _ _) rfl ⟨u7, by rw [HE.out.1, HE.out.2.2, HT.out], ?_, below_gv HPj.out.bel (Nat.le_succ _) _ _ _ _⟩
        rw [HE.out.2.1]
        refine (HPj.out.all.kept (gGv wr (w.heap.size + 1) _ _ _ _) ?_).lower (by omega)
        cases hq : u7.ownBlock with
        | none => exact Or.inl rfl
        | some k => exact Or.inr (by intro e; injection e with e; have := (HPj.out.all.lt k hq).1; omega)
      have hji : (j : Int) < (l.length : Int) := by omega
      have hgood := foldB_good (l.take j) (r, q, f, c) hgg hm
      have hbl := tkS_len (l.take j) (r, q, f, c)
      rw [List.length_take] at hbl
      have HG1 := Lib.hid (foldB_snoc hlt (r, q, f, c))
      have HD1 := Lib.hid (tkS_snoc hlt (r, q, f, c))
      have HW1 := Lib.hid (okW_snoc hlt hm)
      have HNo := Lib.hid (fun (h : okW (r, q, f, c) (l.take (j + 1)) = false) => pb_no (b := (r, q, f, c)) (l := l) (by rw [pbOk, okW_pre (j + 1) h, Bool.and_false]))
      obtain ⟨ba, oa, rfl, q0, q1⟩ := Wt_at (HA0.out.below hP.bel) hlt
      obtain ⟨⟨a, s⟩, hx⟩ : ∃ x, l[j] = x := ⟨_, rfl⟩
      rw [hx] at q0 q1 HG1 HD1 HW1
      obtain ⟨⟨br, bq, bf, bc⟩, hT⟩ : ∃ t, (l.take j).foldl stBk (r, q, f, c) = t := ⟨_, rfl⟩
      obtain ⟨bs, hbs⟩ : ∃ x, tkS (r, q, f, c) (l.take j) = x := ⟨_, rfl⟩
      rw [hT] at hP hgood HG1 HD1 HW1
      rw [hbs] at hP hbl HD1
      have hbs40 : bs.length ≤ 40 := by omega
      clear hx hT hbs hbl hm hgg HP
      have HP := Lib.hid hP
      have HGK : Hid (l.length - j - 1 < gk ∧ j + 1 + (l.length - j - 1) = l.length) := by show _ ∧ _; omega
      clear hP hgk
      obtain ⟨wg, hwg⟩ : ∃ wg, wr.alloc (.cells #[.int .i64 a, .int .i64 s] 34) = wg := ⟨_, rfl⟩
      have hbg : Below wr.heap.size wr wg := by rw [← hwg]; exact gAlloc _ _
      have HPg := Lib.hid (HP.out.on hbg)
      have G2 : wg.heap[wr.heap.size]? = some (.cells #[.int .i64 a, .int .i64 s] 34 (0, 0)) := by rw [← hwg]; exact heap_alloc_new _ _
      have HG2 := Lib.hid G2
      have hsz : w.heap.size + 1 < wr.heap.size := heap_lt HP.out.res
      clear hbg HP G2
      have x0 : wg.cell? ⟨w.heap.size, 0, none⟩ = some (.int .i64 br) := cell_of_row _ _ 0 _ _ _ HPg.out.box
      have x1 : wg.cell? ⟨w.heap.size, 1, none⟩ = some (.int .i64 bq) := cell_of_row _ _ 1 _ _ _ HPg.out.box
      have x2 : wg.cell? ⟨w.heap.size, 2, none⟩ = some (.int .i64 bf) := cell_of_row _ _ 2 _ _ _ HPg.out.box
      have x3 : wg.cell? ⟨w.heap.size, 3, none⟩ = some (.int .i64 bc) := cell_of_row _ _ 3 _ _ _ HPg.out.box
      have v0 : wg.cell? ⟨wr.heap.size, 0, none⟩ = some (.int .i64 a) := cell_of_row _ _ 0 _ _ _ HG2.out
      have v1 : wg.cell? ⟨wr.heap.size, 1, none⟩ = some (.int .i64 s) := cell_of_row _ _ 1 _ _ _ HG2.out
      have HWt := Lib.hid (fun w => iWant_ok (show goodBB br bq bf bc = true from hgood) a s w)
      have HTk := Lib.hid (fun w => iTakeFrom br bq bf bc a s w)
      cases hw : wantB bc a s
      · have HE := Lib.hid (HNo.out (by rw [HW1.out]; exact hw))
        rw [hw] at HWt
        clear HNo HW1 hw HTk HG1 HD1 hgood
        go_wp2_with fail
        refine (HWt.out _).mono ?_
        clear hwg q0 q1 x0 x1 x2 x3 v0 v1
        rintro e w2 ⟨rfl, hb2⟩
        have HP2 := Lib.hid (HPg.out.on hb2)
        have z0 : w2.cell? ⟨w.heap.size + 1, 0, none⟩ = some (.int .i64 0) := cell_of_row _ _ 0 _ _ _ HP2.out.res
        have z1 : w2.cell? ⟨w.heap.size + 1, 1, none⟩ = some (.int .i64 0) := cell_of_row _ _ 1 _ _ _ HP2.out.res
        have z2 : w2.cell? ⟨w.heap.size + 1, 2, none⟩ = some (.int .i64 0) := cell_of_row _ _ 2 _ _ _ HP2.out.res
        have z3 : w2.cell? ⟨w.heap.size + 1, 3, none⟩ = some (.int .i64 0) := cell_of_row _ _ 3 _ _ _ HP2.out.res
        have zf0 := frozen_of_row w2 _ 0 _ _ HP2.out.res
        have zf1 := frozen_of_row w2 _ 1 _ _ HP2.out.res
        have zf2 := frozen_of_row w2 _ 2 _ _ HP2.out.res
        have zf3 := frozen_of_row w2 _ 3 _ _ HP2.out.res
        go_wp2_with fail
        exact ret_bk3 rfl (w.heap.size + 1) 0 0 0 0 (.slice none 0 0) (.bool false) rfl rfl rfl (gv_stored rfl HP2.out.res _ _ _ _) rfl ⟨.slice none 0 0, by rw [HE.out.1, HE.out.2.2], by rw [HE.out.2.1]; exact OwnT.nil _ _, below_gv HP2.out.bel (Nat.le_succ _) _ _ _ _⟩
      · have hmj : Hid (okW (r, q, f, c) (l.take (j + 1)) = true) := by show _ = _; rw [HW1.out]; exact hw
        have hwi : inB a bc 10000 = true ∧ inB s 1 100 = true := by simpa [wantB] using hw
        obtain ⟨a0, a1⟩ := inB_andL hwi.1
        have HFl := Lib.hid (fun w => iFill_ok (show goodBB br bq bf bc = true from hgood) a0 a1 w)
        rw [hw] at HWt
        clear HNo HW1 hw hwi hgood a0 a1
        go_wp2_with fail
        refine (HWt.out _).mono ?_
        clear hwg q0 q1 x0 x1 x2 x3 v0 v1
        rintro e w2 ⟨rfl, hb2⟩
        have HP2 := Lib.hid (HPg.out.on hb2)
        have HG3 := Lib.hid (block_onU hb2 HG2.out)
        clear hb2 HPg HG2 HWt
        have x0 : w2.cell? ⟨w.heap.size, 0, none⟩ = some (.int .i64 br) := cell_of_row _ _ 0 _ _ _ HP2.out.box
        have x1 : w2.cell? ⟨w.heap.size, 1, none⟩ = some (.int .i64 bq) := cell_of_row _ _ 1 _ _ _ HP2.out.box
        have x2 : w2.cell? ⟨w.heap.size, 2, none⟩ = some (.int .i64 bf) := cell_of_row _ _ 2 _ _ _ HP2.out.box
        have x3 : w2.cell? ⟨w.heap.size, 3, none⟩ = some (.int .i64 bc) := cell_of_row _ _ 3 _ _ _ HP2.out.box
        have v0 : w2.cell? ⟨wr.heap.size, 0, none⟩ = some (.int .i64 a) := cell_of_row _ _ 0 _ _ _ HG3.out
        have v1 : w2.cell? ⟨wr.heap.size, 1, none⟩ = some (.int .i64 s) := cell_of_row _ _ 1 _ _ _ HG3.out
        cases ht : tkOk br bq bf bc a s
        · have HE2 : Hid ((l.take (j + 1)).foldl stBk (r, q, f, c) = (br, bq, fillI br bq bf bc a, a) ∧ tkS (r, q, f, c) (l.take (j + 1)) = bs ++ [false]) := ⟨by rw [HG1.out]; exact stBk_no ht, by rw [HD1.out]; exact congrArg (fun z => bs ++ [z]) ht⟩
          rw [ht, tk_no ht] at HTk
          clear ht HG1 HD1
          generalize fillI br bq bf bc a = F at *
          go_wp2_with fail
          refine (HTk.out _).mono ?_
          clear x0 x1 x2 x3 v0 v1 HTk
          rintro e w3 ⟨rfl, hb3⟩
          have HP3 := Lib.hid (HP2.out.on hb3)
          have HG4 := Lib.hid (block_onU hb3 HG3.out)
          clear hb3 HP2 HG3
          have hb4 : Below w3.heap.size w3 (w3.alloc (.cells #[.int .i64 0, .int .i64 0, .int .i64 0, .int .i64 0] 24)) := gAlloc _ _
          have HP4 := Lib.hid (HP3.out.on hb4)
          have HG5 := Lib.hid (block_onU hb4 HG4.out)
          have H4 : Hid ((w3.alloc (.cells #[.int .i64 0, .int .i64 0, .int .i64 0, .int .i64 0] 24)).heap[w3.heap.size]? = some (.cells #[.int .i64 0, .int .i64 0, .int .i64 0, .int .i64 0] 24 (0, 0))) := heap_alloc_new _ _
          have hn3 : w.heap.size + 1 < w3.heap.size := heap_lt HP3.out.res
          have hn1 : w3.heap.size ≠ w.heap.size := by omega
          have hn2 : w.heap.size ≠ w3.heap.size := by omega
          have x0 : (w3.alloc (.cells #[.int .i64 0, .int .i64 0, .int .i64 0, .int .i64 0] 24)).cell? ⟨w.heap.size, 0, none⟩ = some (.int .i64 br) := cell_of_row _ _ 0 _ _ _ HP4.out.box
          have x1 : (w3.alloc (.cells #[.int .i64 0, .int .i64 0, .int .i64 0, .int .i64 0] 24)).cell? ⟨w.heap.size, 1, none⟩ = some (.int .i64 bq) := cell_of_row _ _ 1 _ _ _ HP4.out.box
          have x2 : (w3.alloc (.cells #[.int .i64 0, .int .i64 0, .int .i64 0, .int .i64 0] 24)).cell? ⟨w.heap.size, 2, none⟩ = some (.int .i64 bf) := cell_of_row _ _ 2 _ _ _ HP4.out.box
          have x3 : (w3.alloc (.cells #[.int .i64 0, .int .i64 0, .int .i64 0, .int .i64 0] 24)).cell? ⟨w.heap.size, 3, none⟩ = some (.int .i64 bc) := cell_of_row _ _ 3 _ _ _ HP4.out.box
          have v0 : (w3.alloc (.cells #[.int .i64 0, .int .i64 0, .int .i64 0, .int .i64 0] 24)).cell? ⟨wr.heap.size, 0, none⟩ = some (.int .i64 a) := cell_of_row _ _ 0 _ _ _ HG5.out
          have v1 : (w3.alloc (.cells #[.int .i64 0, .int .i64 0, .int .i64 0, .int .i64 0] 24)).cell? ⟨wr.heap.size, 1, none⟩ = some (.int .i64 s) := cell_of_row _ _ 1 _ _ _ HG5.out
          clear hb4 HG4
          go_wp2_with fail
          refine (HFl.out _).mono ?_
          clear x0 x1 x2 x3 v0 v1 HFl
          rintro e w5 ⟨rfl, hb5⟩
          have HP5 := Lib.hid (HP4.out.on hb5)
          have H5 := Lib.hid (block_onU hb5 H4.out)
          clear hb5 HP4 H4 HG5
          have t0 : w5.cell? ⟨w3.heap.size, 0, none⟩ = some (.int .i64 0) := cell_of_row _ _ 0 _ _ _ H5.out
          have t1 : w5.cell? ⟨w3.heap.size, 1, none⟩ = some (.int .i64 0) := cell_of_row _ _ 1 _ _ _ H5.out
          have t2 : w5.cell? ⟨w3.heap.size, 2, none⟩ = some (.int .i64 0) := cell_of_row _ _ 2 _ _ _ H5.out
          have t3 : w5.cell? ⟨w3.heap.size, 3, none⟩ = some (.int .i64 0) := cell_of_row _ _ 3 _ _ _ H5.out
          have tf0 := frozen_of_row w5 _ 0 _ _ H5.out
          have tf1 := frozen_of_row w5 _ 1 _ _ H5.out
          have tf2 := frozen_of_row w5 _ 2 _ _ H5.out
          have tf3 := frozen_of_row w5 _ 3 _ _ H5.out
          obtain ⟨w6, hw6⟩ : ∃ w6, ((((w5.setCell ⟨w3.heap.size, 0, none⟩ (.int .i64 br)).setCell ⟨w3.heap.size, 1, none⟩ (.int .i64 bq)).setCell ⟨w3.heap.size, 2, none⟩ (.int .i64 F)).setCell ⟨w3.heap.size, 3, none⟩ (.int .i64 a)) = w6 := ⟨_, rfl⟩
          have H6 : Hid (w6.heap[w3.heap.size]? = some (.cells #[.int .i64 br, .int .i64 bq, .int .i64 F, .int .i64 a] 24 (0, 0))) := by show _ = _; rw [← hw6]; exact gv_stored rfl H5.out _ _ _ _
          have HP6 : Hid (Pl13 w w6 (br, bq, bf, bc) u7 bs) := by
            show Pl13 _ _ _ _ _
            rw [← hw6]
            exact HP5.out.off (by omega) (fun k hk => by have := (HP3.out.all.lt k hk).2; omega) _ _ _ _
          clear HP5 H5 HP3
          have x0 : w6.cell? ⟨w.heap.size, 0, none⟩ = some (.int .i64 br) := cell_of_row _ _ 0 _ _ _ HP6.out.box
          have x1 : w6.cell? ⟨w.heap.size, 1, none⟩ = some (.int .i64 bq) := cell_of_row _ _ 1 _ _ _ HP6.out.box
          have x2 : w6.cell? ⟨w.heap.size, 2, none⟩ = some (.int .i64 bf) := cell_of_row _ _ 2 _ _ _ HP6.out.box
          have x3 : w6.cell? ⟨w.heap.size, 3, none⟩ = some (.int .i64 bc) := cell_of_row _ _ 3 _ _ _ HP6.out.box
          have xf0 := frozen_of_row w6 _ 0 _ _ HP6.out.box
          have xf1 := frozen_of_row w6 _ 1 _ _ HP6.out.box
          have xf2 := frozen_of_row w6 _ 2 _ _ HP6.out.box
          have xf3 := frozen_of_row w6 _ 3 _ _ HP6.out.box
          have t0 : w6.cell? ⟨w3.heap.size, 0, none⟩ = some (.int .i64 br) := cell_of_row _ _ 0 _ _ _ H6.out
          have t1 : w6.cell? ⟨w3.heap.size, 1, none⟩ = some (.int .i64 bq) := cell_of_row _ _ 1 _ _ _ H6.out
          have t2 : w6.cell? ⟨w3.heap.size, 2, none⟩ = some (.int .i64 F) := cell_of_row _ _ 2 _ _ _ H6.out
          have t3 : w6.cell? ⟨w3.heap.size, 3, none⟩ = some (.int .i64 a) := cell_of_row _ _ 3 _ _ _ H6.out
          obtain ⟨w7, hw7⟩ : ∃ w7, (((w6.setCell ⟨w.heap.size, 0, none⟩ (.int .i64 br)).setCell ⟨w.heap.size, 1, none⟩ (.int .i64 bq)).setCell ⟨w.heap.size, 2, none⟩ (.int .i64 F)).setCell ⟨w.heap.size, 3, none⟩ (.int .i64 a) = w7 := ⟨_, rfl⟩
          have HP7 : Hid (Pl13 w w7 (br, bq, F, a) u7 bs) := by
            show Pl13 _ _ _ _ _
            rw [← hw7]; exact HP6.out.put (br, bq, F, a)
          clear HP6
          go_wp2_with (at_builtin; go_loud (refine app_BL w7 (w.heap.size + 2) _ bs false w7.heap.size rfl rfl _ _ rfl rfl rfl HP7.out.all (by have := heap_lt HP7.out.res; omega) (by omega) w7 (Below.refl _ _) ?_; intro d' w8 J))
          go_roundg (l.length - j - 1)
          case measure => exact HGK.out.1
          case rel => exact ⟨j + 1, HGK.out.2, by go_num, hmj.out, by rw [HE2.out.1, HE2.out.2]; exact HP7.out.app J.out.1 J.out.2.1⟩
        · have HE2 : Hid ((l.take (j + 1)).foldl stBk (r, q, f, c) = tkL br bq bf bc a s ∧ tkS (r, q, f, c) (l.take (j + 1)) = bs ++ [true]) := ⟨by rw [HG1.out]; exact stBk_yes ht, by rw [HD1.out]; exact congrArg (fun z => bs ++ [z]) ht⟩
          rw [ht] at HTk
          clear ht HG1 HD1 HFl
          obtain ⟨⟨nr, nq, nf, nc⟩, hN⟩ : ∃ T, tkL br bq bf bc a s = T := ⟨_, rfl⟩
          rw [hN] at HE2 HTk
          clear hN
          go_wp2_with fail
          refine (HTk.out _).mono ?_
          clear x0 x1 x2 x3 v0 v1 HTk
          rintro e w3 ⟨rfl, hb3⟩
          have HP3 := Lib.hid (HP2.out.on hb3)
          clear hb3 HP2 HG3
          obtain ⟨w4, hw4⟩ : ∃ w4, w3.alloc (.cells #[.int .i64 nr, .int .i64 nq, .int .i64 nf, .int .i64 nc] 24) = w4 := ⟨_, rfl⟩
          have HP4 : Hid (Pl13 w w4 (br, bq, bf, bc) u7 bs) := by
            show Pl13 _ _ _ _ _
            rw [← hw4]; exact HP3.out.on (gAlloc _ _)
          have H4 : Hid (w4.heap[w3.heap.size]? = some (.cells #[.int .i64 nr, .int .i64 nq, .int .i64 nf, .int .i64 nc] 24 (0, 0))) := by show _ = _; rw [← hw4]; exact heap_alloc_new _ _
          have hn3 : w.heap.size + 1 < w3.heap.size := heap_lt HP3.out.res
          have hn1 : w3.heap.size ≠ w.heap.size := by omega
          have hn2 : w.heap.size ≠ w3.heap.size := by omega
          clear HP3
          have x0 : w4.cell? ⟨w.heap.size, 0, none⟩ = some (.int .i64 br) := cell_of_row _ _ 0 _ _ _ HP4.out.box
          have x1 : w4.cell? ⟨w.heap.size, 1, none⟩ = some (.int .i64 bq) := cell_of_row _ _ 1 _ _ _ HP4.out.box
          have x2 : w4.cell? ⟨w.heap.size, 2, none⟩ = some (.int .i64 bf) := cell_of_row _ _ 2 _ _ _ HP4.out.box
          have x3 : w4.cell? ⟨w.heap.size, 3, none⟩ = some (.int .i64 bc) := cell_of_row _ _ 3 _ _ _ HP4.out.box
          have xf0 := frozen_of_row w4 _ 0 _ _ HP4.out.box
          have xf1 := frozen_of_row w4 _ 1 _ _ HP4.out.box
          have xf2 := frozen_of_row w4 _ 2 _ _ HP4.out.box
          have xf3 := frozen_of_row w4 _ 3 _ _ HP4.out.box
          have t0 : w4.cell? ⟨w3.heap.size, 0, none⟩ = some (.int .i64 nr) := cell_of_row _ _ 0 _ _ _ H4.out
          have t1 : w4.cell? ⟨w3.heap.size, 1, none⟩ = some (.int .i64 nq) := cell_of_row _ _ 1 _ _ _ H4.out
          have t2 : w4.cell? ⟨w3.heap.size, 2, none⟩ = some (.int .i64 nf) := cell_of_row _ _ 2 _ _ _ H4.out
          have t3 : w4.cell? ⟨w3.heap.size, 3, none⟩ = some (.int .i64 nc) := cell_of_row _ _ 3 _ _ _ H4.out
          obtain ⟨w7, hw7⟩ : ∃ w7, (((w4.setCell ⟨w.heap.size, 0, none⟩ (.int .i64 nr)).setCell ⟨w.heap.size, 1, none⟩ (.int .i64 nq)).setCell ⟨w.heap.size, 2, none⟩ (.int .i64 nf)).setCell ⟨w.heap.size, 3, none⟩ (.int .i64 nc) = w7 := ⟨_, rfl⟩
          have HP7 : Hid (Pl13 w w7 (nr, nq, nf, nc) u7 bs) := by
            show Pl13 _ _ _ _ _
            rw [← hw7]; exact HP4.out.put (nr, nq, nf, nc)
          clear HP4
          go_wp2_with (at_builtin; go_loud (refine app_BL w7 (w.heap.size + 2) _ bs true w7.heap.size rfl rfl _ _ rfl rfl rfl HP7.out.all (by have := heap_lt HP7.out.res; omega) (by omega) w7 (Below.refl _ _) ?_; intro d' w8 J))
          go_roundg (l.length - j - 1)
          case measure => exact HGK.out.1
          case rel => exact ⟨j + 1, HGK.out.2, by go_num, hmj.out, by rw [HE2.out.1, HE2.out.2]; exact HP7.out.app J.out.1 J.out.2.1⟩
end Go.Proofs.Ytgakklanboabjaa
