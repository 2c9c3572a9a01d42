/-
  The laws' helpers on points: eqPoint, eqPointS, szPointS, toPoint, toPointS, markPointS, heldPointS, samePoints, numberOf.
-/
import Derived.Test.YtjifpedhncgieaaJW
namespace Go.Proofs.Ytjifpedhncgieaa
open Go.RowKit

theorem infoPt : (Try.prog.info? 32).map (·.size) = some 2 := by kernel_rfl
theorem ret_pt2 {fn : Func} {p u : Tmp} (h : fn.results = #[.cell p 32, .tmp u]) {R : Ending → World → Prop} {a : Act} {w : World} (g : Nat) (x y : Int) (b : Bool) (hp : a.tmps.getD p undef = .pointer (some ⟨g, 0, none⟩)) (hu : a.tmps.getD u undef = .bool b)
    (hg : w.heap[g]? = some (.cells #[.int .i64 x, .int .i64 y] 32 (0, 0))) (hd : a.defers = []) (hR : R (.returned (.tuple #[letV x y, .bool b])) w) : bodyPost Try.prog fn R .ret a w := by
  have hp' : a.tmps[p]?.getD undef = .pointer (some ⟨g, 0, none⟩) := by simpa using hp
  have hu' : a.tmps[u]?.getD undef = .bool b := by simpa using hu
  refine bodyPost_ret (v := .tuple #[letV x y, .bool b]) ?_ hd hR
  rw [results_cell_tmp h]
  simp [hp', hu', asAddr, run_loadVar_row w g 32 32 #[.int .i64 x, .int .i64 y] (0, 0) _ hg Try.underlying32 rfl infoPt]
set_option maxRecDepth 100000 in
set_option maxHeartbeats 1000000 in
theorem eqPoint_any (x y x' y' : Int) (w : World) :
    Calls Try.prog 61 #[letV x y, letV x' y'] w fun e w' => e = .returned (.bool (decide (x = x') && decide (y = y'))) ∧ Below w.heap.size w w' := by
  by_cases h1 : x = x'
  · subst h1
    have hx : (x != x) = false := by simp
    by_cases h2 : y = y'
    · subst h2
      have hy : (y != y) = false := by simp
      go_enter Try.func61, Try.ntmps61
      go_wp2_with fail
      go_ret
      exact ⟨by simp, gAlloc2 _ _ _⟩
    · have hy : (y != y') = true := by simp [h2]
      go_enter Try.func61, Try.ntmps61
      go_wp2_with fail
      go_ret
      exact ⟨by simp [h2], gAlloc2 _ _ _⟩
  · have hx : (x != x') = true := by simp [h1]
    go_enter Try.func61, Try.ntmps61
    go_wp2_with fail
    go_ret
    exact ⟨by simp [h1], gAlloc2 _ _ _⟩
set_option maxRecDepth 100000 in
set_option maxHeartbeats 2000000 in
theorem eqPointS_any (A B : Option Addr) (bs cs : List (Int × Int)) (ca cb : Nat) (w : World) (ha : Lets w A bs) (hb : Lets w B cs) (hl : bs.length ≤ 1048576) :
    Calls Try.prog 30 #[.slice A bs.length ca, .slice B cs.length cb] w fun e w' => e = .returned (.bool (eqLs bs cs)) ∧ Below w.heap.size w w' := by
  have HA := Lib.hid ha
  have HB := Lib.hid hb
  clear ha hb
  by_cases hlen : bs.length = cs.length
  · have hne : ((bs.length : Int) != (cs.length : Int)) = false := by rw [hlen]; simp
    have HLen := Lib.hid hlen
    clear hlen
    go_enter Try.func30, Try.ntmps30
    go_wp2_with fail
    go_loopg [5] bs.length (fun gk i wr => ∃ k : Nat, k + gk = bs.length ∧ i = .int .i64 k ∧ bs.take k = cs.take k ∧ Below w.heap.size w wr)
    case atStart => exact ⟨0, by omega, rfl, rfl, Below.refl _ _⟩
    case round =>
      obtain ⟨k, hg, rfl, heq, hbel⟩ := hrel
      have HEq := Lib.hid heq
      have HBl := Lib.hid hbel
      clear heq hbel
      by_cases hlt : k < bs.length
      · have hki : (k : Int) < (bs.length : Int) := by omega
        have hlt2 : k < cs.length := by have := HLen.out; omega
        have hki2 : (k : Int) < (cs.length : Int) := by omega
        obtain ⟨b1, o1, rfl, hc1⟩ := (HA.out.below HBl.out) (by rintro rfl; simp at hlt)
        obtain ⟨b2, o2, rfl, hc2⟩ := (HB.out.below HBl.out) (by rintro rfl; simp at hlt2)
        obtain ⟨p1, p2⟩ := hc1 k hlt
        obtain ⟨q1, q2⟩ := hc2 k hlt2
        have HNo := Lib.hid (fun h => eqLs_at (k := k) hlt hlt2 h)
        have HYes := Lib.hid (fun h => eqLs_take (k := k) hlt hlt2 HEq.out h)
        have HGK : Hid (bs.length - k - 1 < gk ∧ k + 1 + (bs.length - k - 1) = bs.length) := by show _ ∧ _; omega
        clear hc1 hc2 hg
        generalize bs[k] = p at *
        generalize cs[k] = q at *
        cases hpq : (decide (p.1 = q.1) && decide (p.2 = q.2))
        · have HN := Lib.hid (HNo.out hpq)
          go_wp2_with fail
          go_region_held3 (fun w' => w'.cell? ⟨b1, o1 + k * 2, none⟩ = some (.int .i64 p.1) ∧ w'.cell? ⟨b1, o1 + k * 2 + 1, none⟩ = some (.int .i64 p.2) ∧ w'.cell? ⟨b2, o2 + k * 2, none⟩ = some (.int .i64 q.1) ∧ w'.cell? ⟨b2, o2 + k * 2 + 1, none⟩ = some (.int .i64 q.2))
            (first | exact ⟨p1, p2, q1, q2⟩ | exact ⟨r0, r1, r2, r3⟩ | go_keep) (first
            | (go_at_call 61; refine (eqPoint_any p.1 p.2 q.1 q.2 _).mono ?_; rintro e w7 ⟨rfl, hb7⟩; have r0 := (hb7.cell (World.block_lt_of_cell? _ _ p1)).trans p1; have r1 := (hb7.cell (World.block_lt_of_cell? _ _ p2)).trans p2; have r2 := (hb7.cell (World.block_lt_of_cell? _ _ q1)).trans q1; have r3 := (hb7.cell (World.block_lt_of_cell? _ _ q2)).trans q2))
          all_goals
            have HB7 := Lib.hid (below_more HBl.out (below_more gDrew hb7))
            clear hb7
            go_wp2_with fail
            go_ret
            exact ⟨ret_bool' HN.out.symm, HB7.out⟩
        · have HN := Lib.hid (HYes.out hpq)
          go_wp2_with fail
          go_region_held3 (fun w' => w'.cell? ⟨b1, o1 + k * 2, none⟩ = some (.int .i64 p.1) ∧ w'.cell? ⟨b1, o1 + k * 2 + 1, none⟩ = some (.int .i64 p.2) ∧ w'.cell? ⟨b2, o2 + k * 2, none⟩ = some (.int .i64 q.1) ∧ w'.cell? ⟨b2, o2 + k * 2 + 1, none⟩ = some (.int .i64 q.2))
            (first | exact ⟨p1, p2, q1, q2⟩ | exact ⟨r0, r1, r2, r3⟩ | go_keep) (first
            | (go_at_call 61; refine (eqPoint_any p.1 p.2 q.1 q.2 _).mono ?_; rintro e w7 ⟨rfl, hb7⟩; have r0 := (hb7.cell (World.block_lt_of_cell? _ _ p1)).trans p1; have r1 := (hb7.cell (World.block_lt_of_cell? _ _ p2)).trans p2; have r2 := (hb7.cell (World.block_lt_of_cell? _ _ q1)).trans q1; have r3 := (hb7.cell (World.block_lt_of_cell? _ _ q2)).trans q2))
          all_goals
            have HB7 := Lib.hid (below_more HBl.out (below_more gDrew hb7))
            clear hb7
            go_wp2_with fail
            go_roundg (bs.length - k - 1)
            case measure => exact HGK.out.1
            case rel => exact ⟨k + 1, HGK.out.2, by go_num, HN.out, HB7.out⟩
      · obtain rfl : k = bs.length := by omega
        have hki : ¬ (bs.length : Int) < (bs.length : Int) := by omega
        go_wp2_with fail
        go_ret
        exact ⟨ret_bool' (eqLs_all HLen.out HEq.out).symm, HBl.out⟩
  · have hne : ((bs.length : Int) != (cs.length : Int)) = true := by simp; omega
    have HE := Lib.hid (eqLs_len hlen)
    go_enter Try.func30, Try.ntmps30
    go_wp2_with fail
    go_ret
    exact ⟨ret_bool' HE.out.symm, Below.refl _ _⟩
set_option maxRecDepth 100000 in
set_option maxHeartbeats 400000 in
theorem szPointS_ok (A : Option Addr) (n ca : Nat) (w : World) (h : n ≤ 1048576) :
    Calls Try.prog 34 #[.slice A n ca, .int .i64 1048576] w fun e w' => e = .returned (.int .i64 (1048576 - (n : Int))) ∧ w = w' := by
  have hi : ¬ (1048576 : Int) - (n : Int) < 0 := by omega
  go_enter Try.func34, Try.ntmps34
  go_wp2_with fail
  go_ret
  exact ⟨rfl, rfl⟩
set_option maxRecDepth 100000 in
set_option maxHeartbeats 400000 in
theorem szPointS_no (A : Option Addr) (n ca : Nat) (w : World) (hn : n ≤ 9223372036854775807) (h : ¬ n ≤ 1048576) :
    Calls Try.prog 34 #[.slice A n ca, .int .i64 1048576] w fun e w' => e = .returned (.int .i64 (-1)) ∧ w = w' := by
  have hi : (1048576 : Int) - (n : Int) < 0 := by omega
  go_enter Try.func34, Try.ntmps34
  go_wp2_with fail
  go_ret
  exact ⟨rfl, rfl⟩
/-- A slice of letters of the call's own. -/
def OwnPt (w : World) (base : Nat) (v : Value) (L : List (Int × Int)) : Prop := w.ownsRow base 32 2 v L.length (cellsL L)
theorem OwnPt.nil (w : World) (base : Nat) : OwnPt w base (.slice none 0 0) [] := World.ownsRow_nil _ _ _ _
theorem OwnPt.below {w w' : World} {base : Nat} {v : Value} {L : List (Int × Int)} (h : OwnPt w base v L) (hb : Below w.heap.size w w') : OwnPt w' base v L := World.ownsRow.kept h (gBelowN hb) (gNone _)
theorem OwnPt.lower {w : World} {base base' : Nat} {v : Value} {L : List (Int × Int)} (h : OwnPt w base v L) (hb : base' ≤ base) : OwnPt w base' v L := row_lower h hb
theorem OwnPt.lt {w : World} {base : Nat} {v : Value} {L : List (Int × Int)} (h : OwnPt w base v L) : ∀ k, v.ownBlock = some k → base ≤ k ∧ k < w.heap.size := World.ownsRow.lt h
theorem OwnPt.form {w : World} {base : Nat} {v : Value} {L : List (Int × Int)} (h : OwnPt w base v L) : ∃ A c, v = .slice A L.length c ∧ L.length ≤ c ∧ Lets w A L := by
  rcases h.2 with ⟨rfl, hn⟩ | ⟨g, cap, cur, rfl, _, _, hle, _⟩
  · obtain rfl := List.eq_nil_of_length_eq_zero hn
    exact ⟨none, 0, rfl, Nat.le_refl _, fun h => absurd rfl h⟩
  · refine ⟨some ⟨g, 0, none⟩, cap, rfl, hle, fun _ => ⟨g, 0, rfl, fun j hj => ?_⟩⟩
    obtain ⟨h1, h2⟩ := cellsL_at L j hj
    refine ⟨?_, ?_⟩
    · rw [Nat.zero_add, h.cellAt _ (by omega)]; exact h1
    · rw [Nat.zero_add, h.cellAt _ (by omega)]; exact h2
/-- A letter is written whole. -/
theorem OwnPt.put {w : World} {base g n cap : Nat} {L : List (Int × Int)} (h : OwnPt w base (.slice (some ⟨g, 0, none⟩) n cap) L) {j : Nat} (hj : j < L.length) (x y : Int) :
    OwnPt ((w.setCell ⟨g, j * 2, none⟩ (.int .i64 x)).setCell ⟨g, j * 2 + 1, none⟩ (.int .i64 y)) base (.slice (some ⟨g, 0, none⟩) n cap) (L.set j (x, y)) ∧ w.grownBy ((w.setCell ⟨g, j * 2, none⟩ (.int .i64 x)).setCell ⟨g, j * 2 + 1, none⟩ (.int .i64 y)) (some g) := by
  have hl := own_len h
  subst hl
  have hs := World.ownsRow.stored h (j * 2) (.int .i64 x)
  have hs2 := hs.1.stored (j * 2 + 1) (.int .i64 y)
  rw [cellsL_put L j hj x y] at hs2
  exact ⟨by unfold OwnPt; rw [List.length_set]; exact hs2.1, grownBy_trans hs.2 hs2.2⟩
theorem ret_pt {fn : Func} {p : Tmp} (h : fn.results = #[.cell p 32]) {R : Ending → World → Prop} {a : Act} {w : World} (g : Nat) (x y : Int) (hp : a.tmps.getD p undef = .pointer (some ⟨g, 0, none⟩))
    (hg : w.heap[g]? = some (.cells #[.int .i64 x, .int .i64 y] 32 (0, 0))) (hd : a.defers = []) (hR : R (.returned (letV x y)) w) : bodyPost Try.prog fn R .ret a w :=
  bodyPost_ret (results_cell_row h _ _ g 32 #[.int .i64 x, .int .i64 y] (0, 0) _ hp hg Try.underlying32 rfl infoPt) hd hR
set_option maxRecDepth 100000 in
set_option maxHeartbeats 1000000 in
theorem toPoint_any (x y : Int) (w : World) : Calls Try.prog 62 #[letV x y] w fun e w' => e = .returned (letV x y) ∧ Below w.heap.size w w' := by
  go_enter Try.func62, Try.ntmps62
  go_wp2_with fail
  have h1 : (((w.alloc (.cells #[.int .i64 x, .int .i64 y] 74)).alloc (.cells #[.int .i64 x, .int .i64 y] 32)).alloc (.cells #[.int .i64 x, .int .i64 y] 32)).heap[w.heap.size + 1]? = some (.cells #[.int .i64 x, .int .i64 y] 32 (0, 0)) := by
    rw [Below.heap_alloc _ _ _ (by simp), show w.heap.size + 1 = (w.alloc (.cells #[.int .i64 x, .int .i64 y] 74)).heap.size by simp]
    exact heap_alloc_new _ _
  exact ret_pt rfl (w.heap.size + 1) x y rfl h1 rfl ⟨rfl, (((Below.refl _ w).alloc (Nat.le_refl _) _).alloc (by simp) _).alloc (by simp; omega) _⟩
theorem ptInfo : (Try.prog.info? 32).map (fun i => (i.zero, i.size, i.bytes)) = some (some (.agg #[.int .i64 0, .int .i64 0]), 2, 16) := by kernel_rfl
set_option maxRecDepth 100000 in
set_option maxHeartbeats 2000000 in
theorem toPointS_any (A : Option Addr) (bs : List (Int × Int)) (c : Nat) (w : World) (ha : Lets w A bs) (hl : bs.length ≤ 1048576) :
    Calls Try.prog 35 #[.slice A bs.length c] w fun e w' => ∃ v, e = .returned v ∧ OwnPt w' w.heap.size v bs ∧ Below w.heap.size w w' := by
  obtain ⟨i1, hi', hy0, hy1, hy2⟩ := info_parts ptInfo
  have HA := Lib.hid ha
  clear ha
  generalize hnn : bs.length = n at *
  have HN := Lib.hid hnn
  clear hnn
  go_enter Try.func35, Try.ntmps35
  go_wp2_with (at_make; refine wpList_make_full _ rfl _ _ 26 rfl w.heap.size 32 i1 (.agg #[.int .i64 0, .int .i64 0]) 2 Try.underlying26 hi' hy0 hy1 .i64 .i64 _ _ n rfl rfl rfl rfl (by rw [hy2]; omega) (by unfold maxLen; omega) (Nat.le_refl _) ?_; intro w1 hown1 hgr1)
  have hb1 : Below w.heap.size w w1 := (Below.refl _ _).grown hgr1 (Nat.le_refl _) (by simp)
  rw [made_let] at hown1
  have HO : Hid (OwnPt w1 w.heap.size (.slice (some ⟨w.heap.size, 0, none⟩) n n) (bs.take 0 ++ List.replicate (n - 0) (0, 0))) := by
    show World.ownsRow _ _ _ _ _ _ _
    simp only [List.take_zero, List.nil_append, Nat.sub_zero, List.length_replicate]
    exact hown1
  have HB := Lib.hid hb1
  clear hgr1 hown1 hb1 hi' hy0 hy1 hy2
  go_loopg [4] n (fun gk i wr => ∃ j : Nat, j + gk = n ∧ i = .int .i64 j ∧ OwnPt wr w.heap.size (.slice (some ⟨w.heap.size, 0, none⟩) n n) (bs.take j ++ List.replicate (n - j) (0, 0)) ∧ Below w.heap.size w wr)
  case atStart => exact ⟨0, by omega, rfl, HO.out, HB.out⟩
  case round =>
    obtain ⟨j, hg, rfl, hown, hbel⟩ := hrel
    have HOw := Lib.hid hown
    have HBl := Lib.hid hbel
    clear hown hbel HO HB
    by_cases hlt : j < n
    · have hji : (j : Int) < (n : Int) := by omega
      have hlt2 : j < bs.length := by have := HN.out; omega
      obtain ⟨b1, o1, rfl, hc1⟩ := (HA.out.below HBl.out) (by rintro rfl; simp at hlt2)
      obtain ⟨p1, p2⟩ := hc1 j hlt2
      have HTk : Hid (bs.take (j + 1) = bs.take j ++ [(bs[j].1, bs[j].2)]) := List.take_succ_eq_append_getElem hlt2
      have HTl : Hid ((bs.take j).length = j) := by show _ = _; rw [List.length_take]; omega
      have HGK : Hid (n - j - 1 < gk ∧ j + 1 + (n - j - 1) = n) := by show _ ∧ _; omega
      clear hc1 hg
      generalize bs[j] = p at *
      generalize bs.take j = TK at *
      go_wp2_with fail
      refine (toPoint_any p.1 p.2 wr).mono ?_
      rintro e w2 ⟨rfl, hb2⟩
      have hM := HOw.out.below hb2
      have hjM : j < (TK ++ List.replicate (n - j) ((0 : Int), (0 : Int))).length := by rw [List.length_append, HTl.out, List.length_replicate]; omega
      obtain ⟨hP, hG⟩ := hM.put hjM p.1 p.2
      rw [show (TK ++ List.replicate (n - j) ((0 : Int), (0 : Int))).set j (p.1, p.2) = (TK ++ [(p.1, p.2)]) ++ List.replicate (n - (j + 1)) (0, 0) by
        have := mid_set TK ((0 : Int), (0 : Int)) (p.1, p.2) (n - (j + 1))
        rw [HTl.out, show n - (j + 1) + 1 = n - j by omega] at this
        exact this] at hP
      have HPut := Lib.hid hP
      have HB2 : Hid (Below w.heap.size w ((w2.setCell ⟨w.heap.size, j * 2, none⟩ (.int .i64 p.1)).setCell ⟨w.heap.size, j * 2 + 1, none⟩ (.int .i64 p.2))) := (below_more HBl.out hb2).grown hG (below_more HBl.out hb2).size (fun k hk => by injection hk with hk; omega)
      have hM1 : w2.ownsRow w.heap.size 32 2 (.slice (some ⟨w.heap.size, 0, none⟩) n n) n (cellsL (TK ++ List.replicate (n - j) (0, 0))) := by
        have h := hM
        unfold OwnPt at h
        rw [show (TK ++ List.replicate (n - j) ((0 : Int), (0 : Int))).length = n by rw [List.length_append, HTl.out, List.length_replicate]; omega] at h
        exact h
      obtain ⟨u0, hc0⟩ : ∃ u0, w2.cell? ⟨w.heap.size, j * 2, none⟩ = some u0 := ⟨_, (hM1.cellAt (j * 2) (by omega)).trans (cellsL_at _ j hjM).1⟩
      obtain ⟨u1, hc1⟩ : ∃ u0, w2.cell? ⟨w.heap.size, j * 2 + 1, none⟩ = some u0 := ⟨_, (hM1.cellAt (j * 2 + 1) (by omega)).trans (cellsL_at _ j hjM).2⟩
      have hf0 := hM1.frozenAt (j * 2)
      have hf1 := hM1.frozenAt (j * 2 + 1)
      clear hM hM1 hP hG hjM hb2 p1 p2
      go_wp2_with fail
      go_roundg (n - j - 1)
      case measure => exact HGK.out.1
      case rel => exact ⟨j + 1, HGK.out.2, by go_num, by rw [HTk.out]; exact HPut.out, HB2.out⟩
    · obtain rfl : j = n := by omega
      have hji : ¬ (j : Int) < (j : Int) := by omega
      have HF : Hid (OwnPt wr w.heap.size (.slice (some ⟨w.heap.size, 0, none⟩) j j) bs) := by
        have := HOw.out
        rw [Nat.sub_self, List.replicate_zero, List.append_nil, List.take_of_length_le (by rw [HN.out]; exact Nat.le_refl _)] at this
        exact this
      go_wp2_with fail
      go_ret
      exact ⟨_, rfl, HF.out, HBl.out⟩
set_option maxRecDepth 100000 in
set_option maxHeartbeats 2000000 in
theorem markPointS_any (v : Value) (ls : List (Int × Int)) (base : Nat) (k : Int) (w : World) (ho : OwnPt w base v ls) (hl : ls.length ≤ 1048576) (hk0 : 0 ≤ k) (hk1 : k ≤ 1000000000) :
    Calls Try.prog 32 #[v, .int .i64 k] w fun e w' => e = .returned (.int .i64 (k + 2 * (ls.length : Int))) ∧ OwnPt w' base v (markLs k ls.length) ∧ w.grownBy w' v.ownBlock := by
  rcases ho.2 with ⟨rfl, hn⟩ | ⟨g, cap, cur, rfl, hbg, hg, hle, _⟩
  · obtain rfl := List.eq_nil_of_length_eq_zero hn
    go_enter Try.func32, Try.ntmps32
    go_wp2_with fail
    go_loopg [1, 5] 0 (fun _ q i wr => q = .int .i64 k ∧ i = .int .i64 0 ∧ w = wr)
    case atStart => exact ⟨rfl, rfl, rfl⟩
    case round =>
      obtain ⟨rfl, rfl, rfl⟩ := hrel
      go_wp2_with fail
      go_ret
      exact ⟨by simp, OwnPt.nil _ _, ⟨rfl, rfl, rfl, Nat.le_refl _, fun _ _ _ => rfl⟩⟩
  · have HO0 := Lib.hid ho
    clear ho hg hle
    generalize hnn : ls.length = n at *
    have HN := Lib.hid hnn
    clear hnn
    go_enter Try.func32, Try.ntmps32
    go_wp2_with fail
    go_loopg [1, 5] n (fun gk q i wr => ∃ j : Nat, j + gk = n ∧ q = .int .i64 (k + 2 * (j : Int)) ∧ i = .int .i64 j ∧ OwnPt wr base (.slice (some ⟨g, 0, none⟩) n cap) (markLs k j ++ ls.drop j) ∧ w.grownBy wr (some g))
    case atStart => exact ⟨0, by omega, by simp, rfl, HO0.out, ⟨rfl, rfl, rfl, Nat.le_refl _, fun _ _ _ => rfl⟩⟩
    case round =>
      obtain ⟨j, hg, rfl, rfl, hown, hgr⟩ := hrel
      have HOw := Lib.hid hown
      have HGr := Lib.hid hgr
      clear hown hgr
      by_cases hlt : j < n
      · have hji : (j : Int) < (n : Int) := by omega
        have hlt2 : j < ls.length := by have := HN.out; omega
        have hMl : (markLs k j ++ ls.drop j).length = n := by rw [List.length_append, markLs_length, List.length_drop, HN.out]; omega
        have hjM : j < (markLs k j ++ ls.drop j).length := by omega
        have HPut := Lib.hid (HOw.out.put hjM (k + 2 * (j : Int)) (k + 2 * (j : Int) + 1))
        rw [markLs_set k hlt2] at HPut
        have hM1 : wr.ownsRow base 32 2 (.slice (some ⟨g, 0, none⟩) n cap) n (cellsL (markLs k j ++ ls.drop j)) := by
          have h := HOw.out
          unfold OwnPt at h
          rw [hMl] at h
          exact h
        obtain ⟨u0, hc0⟩ : ∃ u0, wr.cell? ⟨g, j * 2, none⟩ = some u0 := ⟨_, (hM1.cellAt (j * 2) (by omega)).trans (cellsL_at _ j hjM).1⟩
        have hf0 := hM1.frozenAt (j * 2)
        have hs1 := (hM1.stored (j * 2) (.int .i64 (k + 2 * (j : Int)))).1
        obtain ⟨u1, hc1⟩ : ∃ u0, (wr.setCell ⟨g, j * 2, none⟩ (.int .i64 (k + 2 * (j : Int)))).cell? ⟨g, j * 2 + 1, none⟩ = some u0 := by
          have h := hs1.cellAt (j * 2 + 1) (by omega)
          rw [List.getElem?_set_ne (by omega)] at h
          exact ⟨_, h.trans (cellsL_at _ j hjM).2⟩
        have hf1 := hs1.frozenAt (j * 2 + 1)
        have HGK : Hid (n - j - 1 < gk ∧ j + 1 + (n - j - 1) = n) := by show _ ∧ _; omega
        have hjn : (j : Int) ≤ 1048576 := by omega
        clear hMl hjM hM1 hs1 hg
        generalize hq : k + 2 * (j : Int) = q at *
        have HQ := Lib.hid hq
        have hqb : 0 ≤ q ∧ q ≤ 1010000000 := by omega
        obtain ⟨hq0, hq1⟩ := hqb
        clear hq
        go_wp2_with fail
        go_roundg (n - j - 1)
        case measure => exact HGK.out.1
        case rel => exact ⟨j + 1, HGK.out.2, by rw [show k + 2 * ((j + 1 : Nat) : Int) = q + 1 + 1 by have := HQ.out; omega], by go_num, HPut.out.1, grownBy_trans HGr.out HPut.out.2⟩
      · obtain rfl : j = n := by omega
        have hji : ¬ (j : Int) < (j : Int) := by omega
        have HF : Hid (OwnPt wr base (.slice (some ⟨g, 0, none⟩) j cap) (markLs k j)) := by
          have h := HOw.out
          rw [List.drop_of_length_le (by rw [HN.out]; exact Nat.le_refl _), List.append_nil] at h
          exact h
        go_wp2_with fail
        go_ret
        exact ⟨rfl, HF.out, HGr.out⟩
theorem OwnPt.cur {w w' : World} {base B : Nat} {v : Value} {L : List (Int × Int)} (h : OwnPt w base v L) (hB : B < base) (hg : w.grownBy w' (some B)) : OwnPt w' base v L :=
  World.ownsRow.kept h hg (by
    cases hv : v.ownBlock with
    | none => exact Or.inl rfl
    | some g => right; intro e; injection e with e; have := (h.lt g hv).1; omega)
theorem OwnPt.more {w1 : World} {base : Nat} {v' : Value} {L : List (Int × Int)} {x y : Int} (h : w1.ownsRow base 32 2 v' (L.length + 1) (cellsL L ++ [.int .i64 x, .int .i64 y])) : OwnPt w1 base v' (L ++ [(x, y)]) := by
  unfold OwnPt
  rw [List.length_append, List.length_singleton, cellsL_append]
  exact h
theorem pt_news {W : World} {x y : Int} : ∀ j u, [Value.int .i64 x, .int .i64 y][j]? = some u → (W.alloc (.cells #[.int .i64 x, .int .i64 y] 32)).cell? ((⟨W.heap.size, 0, none⟩ : Addr).add j) = some u := by
  intro j u hj
  match j, hj with
  | 0, hj => simp at hj; subst hj; simp [Addr.add]
  | 1, hj => simp at hj; subst hj; simp [Addr.add]
  | j + 2, hj => simp at hj
theorem OwnPt.kept {w w' : World} {base : Nat} {v : Value} {L : List (Int × Int)} {row : Option Nat} (h : OwnPt w base v L) (hg : w.grownBy w' row) (hne : v.ownBlock = none ∨ v.ownBlock ≠ row) : OwnPt w' base v L := World.ownsRow.kept h hg hne
theorem own_pts7 {w : World} {base : Nat} {A : Option Addr} {n c : Nat} {L : List (Int × Int)} (h : OwnPt w base (.slice A n c) L) : Lets w A L := by
  obtain ⟨A', c', e, _, hI⟩ := h.form
  injection e with e1
  subst e1; exact hI

theorem markLs_at (k : Int) {n j : Nat} (h : j < (markLs k n).length) : (markLs k n)[j] = (k + 2 * (j : Int), k + 2 * (j : Int) + 1) := by simp [markLs]
set_option maxRecDepth 100000 in
set_option maxHeartbeats 1000000 in
theorem heldPointS_any (A : Option Addr) (k : Int) (n c : Nat) (w : World) (ha : Lets w A (markLs k n)) (hn : n ≤ 1048576) (hk0 : 0 ≤ k) (hk1 : k ≤ 1000000000) :
    Calls Try.prog 33 #[.slice A n c, .int .i64 k] w fun e w' => e = .returned (.int .i64 (k + 2 * (n : Int))) ∧ w = w' := by
  have HA := Lib.hid ha
  clear ha
  go_enter Try.func33, Try.ntmps33
  go_wp2_with fail
  go_loopg [1, 5] n (fun gk kk i wr => ∃ j : Nat, j + gk = n ∧ i = .int .i64 j ∧ kk = .int .i64 (k + 2 * (j : Int)) ∧ w = wr)
  case atStart => exact ⟨0, by omega, rfl, by go_num, rfl⟩
  case round =>
    obtain ⟨j, hg, rfl, rfl, rfl⟩ := hrel
    by_cases hlt : j < n
    · have hji : (j : Int) < (n : Int) := by omega
      have hlt' : j < (markLs k n).length := by rw [markLs_length]; exact hlt
      obtain ⟨b1, o1, rfl, hc1⟩ := HA.out (by intro e; rw [e] at hlt'; simp at hlt')
      obtain ⟨p1, p2⟩ := hc1 j hlt'
      rw [markLs_at k hlt'] at p1 p2
      have HGK : Hid (n - j - 1 < gk ∧ j + 1 + (n - j - 1) = n) := by show _ ∧ _; omega
      have hq1 : (k + 2 * (j : Int) != k + 2 * (j : Int)) = false := by simp
      have hq2 : (k + 2 * (j : Int) + 1 != k + 2 * (j : Int) + 1) = false := by simp
      clear hc1 hg
      go_wp2_with fail
      go_roundg (n - j - 1)
      case measure => exact HGK.out.1
      case rel => exact ⟨j + 1, HGK.out.2, by go_num, by go_num, rfl⟩
    · obtain rfl : j = n := by omega
      have hji : ¬ (j : Int) < (j : Int) := by omega
      go_wp2_with fail
      go_ret
      exact ⟨rfl, rfl⟩

set_option maxRecDepth 100000 in
set_option maxHeartbeats 2000000 in
theorem numberOf_any (A : Option Addr) (zs : List Int) (c : Nat) (w : World) (hb : Byts w w.heap.size A zs) (hl : zs.length ≤ 1048576) :
    Calls Try.prog 16 #[.slice A zs.length c] w fun e w' => (∃ n : Nat, e = .returned (.int .i64 n) ∧ n < 1000003) ∧ w = w' := by
  have HA := Lib.hid hb
  clear hb
  go_enter Try.func16, Try.ntmps16
  go_wp2_with fail
  go_loopg [3, 8] zs.length (fun gk s i wr => ∃ (j n : Nat), j + gk = zs.length ∧ i = .int .i64 j ∧ s = .int .i64 n ∧ n < 1000003 ∧ w = wr)
  case atStart => exact ⟨0, 0, by omega, rfl, rfl, by omega, rfl⟩
  case round =>
    obtain ⟨j, n, hg, rfl, rfl, hn, rfl⟩ := hrel
    by_cases hlt : j < zs.length
    · have hji : (j : Int) < (zs.length : Int) := by omega
      obtain ⟨b1, o1, rfl, _, hc1⟩ := HA.out.2 (by rintro rfl; simp at hlt)
      have p1 := hc1 j hlt
      have hz : 0 ≤ zs.getD j 0 ∧ zs.getD j 0 ≤ 255 := HA.out.1 _ (by rw [show zs.getD j 0 = zs[j] by simp [List.getD, hlt]]; exact List.getElem_mem hlt)
      generalize zs.getD j 0 = z at *
      obtain ⟨m, rfl⟩ := Int.eq_ofNat_of_zero_le hz.1
      have hm : m ≤ 255 := by omega
      have HGK : Hid (zs.length - j - 1 < gk ∧ j + 1 + (zs.length - j - 1) = zs.length) := by show _ ∧ _; omega
      have HN : Hid ((31 * (n : Int) + (m : Int)) % 1000003 = (((31 * n + m) % 1000003 : Nat) : Int) ∧ (31 * n + m) % 1000003 < 1000003) := ⟨by omega, by omega⟩
      clear hc1 hg hz
      go_wp2_with fail
      go_roundg (zs.length - j - 1)
      case measure => exact HGK.out.1
      case rel => exact ⟨j + 1, (31 * n + m) % 1000003, HGK.out.2, by go_num, by rw [← HN.out.1], HN.out.2, rfl⟩
    · obtain rfl : j = zs.length := by omega
      have hji : ¬ (zs.length : Int) < (zs.length : Int) := by omega
      go_wp2_with fail
      go_ret
      exact ⟨⟨n, rfl, hn⟩, rfl⟩

set_option maxRecDepth 100000 in
set_option maxHeartbeats 2000000 in
theorem samePoints_any (A B : Option Addr) (bs cs : List (Int × Int)) (ca cb : Nat) (w : World) (ha : Lets w A bs) (hb : Lets w B cs) (hl : bs.length ≤ 1048576) :
    Calls Try.prog 13 #[.slice A bs.length ca, .slice B cs.length cb] w fun e w' => e = .returned (.bool (eqLs bs cs)) ∧ ∃ n, w' = w.drewN n := by
  have HA := Lib.hid ha
  have HB := Lib.hid hb
  clear ha hb
  by_cases hlen : bs.length = cs.length
  · have hneq : ((bs.length : Int) != (cs.length : Int)) = false := by simp [hlen]
    have HL := Lib.hid hlen
    clear hlen
    go_enter Try.func13, Try.ntmps13
    go_wp2_with fail
    go_loopg [13] bs.length (fun gk i wr => ∃ k n : Nat, k + gk = bs.length ∧ i = .int .i64 k ∧ bs.take k = cs.take k ∧ wr = w.drewN n)
    case atStart => exact ⟨0, 0, by omega, rfl, rfl, rfl⟩
    case round =>
      obtain ⟨k, n, hg, rfl, htk, rfl⟩ := hrel
      have HT := Lib.hid htk
      clear htk
      by_cases hlt : k < bs.length
      · have hlt' : k < cs.length := by have := HL.out; omega
        obtain ⟨b1, o1, rfl, hc1⟩ := HA.out (by rintro rfl; simp at hlt)
        obtain ⟨b2, o2, rfl, hc2⟩ := HB.out (by rintro rfl; simp at hlt')
        obtain ⟨g1, g1'⟩ := hc1 k hlt
        obtain ⟨g2, g2'⟩ := hc2 k hlt'
        have hi1 : (k : Int) < (bs.length : Int) := by omega
        have hi2 : (k : Int) < (cs.length : Int) := by omega
        have HNo := Lib.hid (fun h => eqLs_at (k := k) hlt hlt' h)
        have HYes := Lib.hid (fun h => eqLs_take (k := k) hlt hlt' HT.out h)
        have HGK : Hid (bs.length - k - 1 < gk ∧ k + 1 + (bs.length - k - 1) = bs.length) := by show _ ∧ _; omega
        clear hc1 hc2 hg
        generalize bs[k].1 = x at *
        generalize bs[k].2 = y at *
        generalize cs[k].1 = x' at *
        generalize cs[k].2 = y' at *
        by_cases hpq : x = x' ∧ y = y'
        · obtain ⟨rfl, rfl⟩ := hpq
          have HN := Lib.hid (HYes.out (by simp))
          clear HNo HYes
          go_wp2_with fail
          go_quiet (fail)
          go_wp2_with fail
          go_roundg (bs.length - k - 1)
          case measure => exact HGK.out.1
          case rel => exact ⟨k + 1, n + nq, HGK.out.2, by go_num, HN.out, by simp⟩
        · have hbb : (decide (x = x') && decide (y = y')) = false := by
            cases h : (decide (x = x') && decide (y = y'))
            · rfl
            · simp at h; exact absurd h hpq
          have HN := Lib.hid (HNo.out hbb)
          clear HNo HYes hbb
          by_cases hxx : x = x'
          · subst hxx
            have hyy : (y == y') = false := by simp; exact fun e => hpq ⟨rfl, e⟩
            have hx1 : (x == x) = true := by simp
            clear hpq
            go_wp2_with fail
            go_quiet (fail)
            go_wp2_with fail
            go_ret
            exact ⟨ret_bool' HN.out.symm, n + nq, by simp⟩
          · have hx1 : (x == x') = false := by simpa using hxx
            clear hpq hxx
            go_wp2_with fail
            go_quiet (fail)
            go_wp2_with fail
            go_ret
            exact ⟨ret_bool' HN.out.symm, n + nq, by simp⟩
      · obtain rfl : k = bs.length := by omega
        have hki : ¬ (bs.length : Int) < (bs.length : Int) := by omega
        have HE := Lib.hid (eqLs_all HL.out HT.out)
        go_wp2_with fail
        go_ret
        exact ⟨ret_bool' HE.out.symm, _, rfl⟩
  · have hneq : ((bs.length : Int) != (cs.length : Int)) = true := by simp; omega
    have HE := Lib.hid (eqLs_len hlen)
    go_enter Try.func13, Try.ntmps13
    go_wp2_with fail
    go_ret
    exact ⟨ret_bool' HE.out.symm, 0, rfl⟩
end Go.Proofs.Ytjifpedhncgieaa
