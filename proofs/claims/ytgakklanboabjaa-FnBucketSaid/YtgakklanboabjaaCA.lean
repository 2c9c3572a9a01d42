/-
  The laws' helpers on wants and buckets (flat.py, ARGS=1), chapter 13.
-/
import Derived.Test.YtgakklanboabjaaGT
namespace Go.Proofs.Ytgakklanboabjaa
open Go.RowKit

/-- A want: time, size. -/
abbrev Wtc := Int × Int
abbrev fWt (r : Wtc) : List Value := [.int .i64 r.1, .int .i64 r.2]
theorem fWt_len : ∀ x, (fWt x).length = 2 := fun _ => rfl
theorem fWt_one : ∀ x, ∀ u ∈ fWt x, u.oneCell' = true := fun x u hu => by simp at hu; rcases hu with rfl | rfl <;> rfl
theorem WtInfo : (Try.prog.info? 34).map (fun i => (i.zero, i.size, i.bytes)) = some (some (.agg #[.int .i64 0, .int .i64 0]), 2, 16) := by kernel_rfl
theorem Wt_at {w : World} {A : Option Addr} {l : List Wtc} (h : RdR 2 fWt w A l) {j : Nat} (hj : j < l.length) : ∃ b o, A = some ⟨b, o, none⟩ ∧ w.cell? ⟨b, o + j * 2, none⟩ = some (.int .i64 l[j].1) ∧ w.cell? ⟨b, o + j * 2 + 1, none⟩ = some (.int .i64 l[j].2) := by
  obtain ⟨b, o, e, hc⟩ := h (by rintro rfl; simp at hj)
  exact ⟨b, o, e, hc j hj 0 _ rfl, hc j hj 1 _ rfl⟩
theorem Wt_own_at {w : World} {base g n cap : Nat} {l : List Wtc} (h : OwnR 34 2 fWt w base (.slice (some ⟨g, 0, none⟩) n cap) l) {j : Nat} (hj : j < l.length) : (w.cell? ⟨g, j * 2, none⟩ = some (.int .i64 l[j].1) ∧ w.frozen? ⟨g, j * 2, none⟩ = false) ∧ (w.cell? ⟨g, j * 2 + 1, none⟩ = some (.int .i64 l[j].2) ∧ w.frozen? ⟨g, j * 2 + 1, none⟩ = false) :=
  ⟨h.cell fWt_len hj (i := 0) (by decide), h.cell fWt_len hj (i := 1) (by decide)⟩
theorem Wt_own_put {w : World} {base g n cap : Nat} {l : List Wtc} (h : OwnR 34 2 fWt w base (.slice (some ⟨g, 0, none⟩) n cap) l) {j : Nat} (hj : j < l.length) (x0 : Int) (x1 : Int) :
    OwnR 34 2 fWt ((w.setCell ⟨g, j * 2, none⟩ (.int .i64 x0)).setCell ⟨g, j * 2 + 1, none⟩ (.int .i64 x1)) base (.slice (some ⟨g, 0, none⟩) n cap) (l.set j (x0, x1)) ∧ w.grownBy ((w.setCell ⟨g, j * 2, none⟩ (.int .i64 x0)).setCell ⟨g, j * 2 + 1, none⟩ (.int .i64 x1)) (some g) := by
  obtain ⟨⟨y0, y1⟩, hy⟩ : ∃ y : Wtc, l[j] = y := ⟨_, rfl⟩
  obtain ⟨h0, g0⟩ := OwnR.put fWt_len h hj (i := 0) (by decide) (u := .int .i64 x0) (y := (x0, y1)) (by rw [hy]; rfl)
  have hj0 : j < ((l).set j (x0, y1)).length := by rw [List.length_set]; exact hj
  have he0 : ((l).set j (x0, y1))[j] = (x0, y1) := List.getElem_set_self ..
  obtain ⟨h1, g1⟩ := OwnR.put fWt_len h0 hj0 (i := 1) (by decide) (u := .int .i64 x1) (y := (x0, x1)) (by rw [he0]; rfl)
  have hj1 : j < (((l).set j (x0, y1)).set j (x0, x1)).length := by rw [List.length_set]; exact hj0
  have he1 : (((l).set j (x0, y1)).set j (x0, x1))[j] = (x0, x1) := List.getElem_set_self ..
  simp only [List.set_set] at h1
  exact ⟨h1, grownBy_trans (g0) g1⟩
set_option maxRecDepth 100000 in
set_option maxHeartbeats 1000000 in
theorem eqWt_self (x0 : Int) (x1 : Int) (w : World) : Calls Try.prog 60 #[.agg #[.int .i64 x0, .int .i64 x1], .agg #[.int .i64 x0, .int .i64 x1]] w fun e w' => e = .returned (.bool true) ∧ Below w.heap.size w w' := by
  have hx0 : (x0 != x0) = false := by simp
  have hx1 : (x1 != x1) = false := by simp
  go_enter Try.func60, Try.ntmps60
  go_wp2_with fail
  go_ret
  exact ⟨rfl, gAlloc2 _ _ _⟩
set_option maxRecDepth 100000 in
set_option maxHeartbeats 2000000 in
theorem eqWtS_self (A B : Option Addr) (l : List Wtc) (ca cb : Nat) (w : World) (ha : RdR 2 fWt w A l) (hb : RdR 2 fWt w B l) (hl : l.length ≤ 1048576) :
    Calls Try.prog 39 #[.slice A l.length ca, .slice B l.length cb] w fun e w' => e = .returned (.bool true) ∧ Below w.heap.size w w' := by
  have HA := Lib.hid ha
  have HB := Lib.hid hb
  clear ha hb
  have hne : ((l.length : Int) != (l.length : Int)) = false := by simp
  go_enter Try.func39, Try.ntmps39
  go_wp2_with fail
  go_loopg [5] l.length (fun gk i wr => ∃ k : Nat, k + gk = l.length ∧ i = .int .i64 k ∧ Below w.heap.size w wr)
  case atStart => exact ⟨0, by omega, rfl, Below.refl _ _⟩
  case round =>
    obtain ⟨k, hg, rfl, hbel⟩ := hrel
    have HBl := Lib.hid hbel
    clear hbel
    by_cases hlt : k < l.length
    · have hki : (k : Int) < (l.length : Int) := by omega
      obtain ⟨b1, o1, rfl, c0, c1⟩ := Wt_at (HA.out.below HBl.out) hlt
      obtain ⟨b2, o2, rfl, d0, d1⟩ := Wt_at (HB.out.below HBl.out) hlt
      have HGK : Hid (l.length - k - 1 < gk ∧ k + 1 + (l.length - k - 1) = l.length) := by show _ ∧ _; omega
      clear hg
      generalize l[k] = p at *
      obtain ⟨p0, p1⟩ := p
      simp only at c0 c1 d0 d1
      go_wp2_with fail
      go_region_held3 (fun w' => w'.cell? ⟨b1, o1 + k * 2, none⟩ = some (.int .i64 p0) ∧ w'.cell? ⟨b1, o1 + k * 2 + 1, none⟩ = some (.int .i64 p1) ∧ w'.cell? ⟨b2, o2 + k * 2, none⟩ = some (.int .i64 p0) ∧ w'.cell? ⟨b2, o2 + k * 2 + 1, none⟩ = some (.int .i64 p1))
        (first | exact ⟨c0, c1, d0, d1⟩ | exact ⟨r0, r1, r2, r3⟩ | go_keep) (first
        | (go_at_call 60; refine (eqWt_self p0 p1 _).mono ?_; rintro e w7 ⟨rfl, hb7⟩; have r0 := (hb7.cell (World.block_lt_of_cell? _ _ c0)).trans c0; have r1 := (hb7.cell (World.block_lt_of_cell? _ _ c1)).trans c1; have r2 := (hb7.cell (World.block_lt_of_cell? _ _ d0)).trans d0; have r3 := (hb7.cell (World.block_lt_of_cell? _ _ d1)).trans d1))
      all_goals
        have HB7 := Lib.hid (below_more HBl.out (below_more gDrew hb7))
        clear hb7
        go_wp2_with fail
        go_roundg (l.length - k - 1)
        case measure => exact HGK.out.1
        case rel => exact ⟨k + 1, HGK.out.2, by go_num, HB7.out⟩
    · obtain rfl : k = l.length := by omega
      have hki : ¬ (l.length : Int) < (l.length : Int) := by omega
      go_wp2_with fail
      go_ret
      exact ⟨rfl, HBl.out⟩
/-- What markWantS writes. -/
def markWt (k n : Nat) : List Wtc := (List.range n).map fun j => (((k + 2 * j : Nat) : Int), ((k + 2 * j + 1 : Nat) : Int))
theorem markWt_length (k n : Nat) : (markWt k n).length = n := by simp [markWt]
theorem markWt_at (k : Nat) {n j : Nat} (h : j < (markWt k n).length) : (markWt k n)[j] = (((k + 2 * j : Nat) : Int), ((k + 2 * j + 1 : Nat) : Int)) := by simp [markWt]
theorem markWt_succ (k n : Nat) : markWt k (n + 1) = markWt k n ++ [(((k + 2 * n : Nat) : Int), ((k + 2 * n + 1 : Nat) : Int))] := by simp [markWt, List.range_succ]
theorem markWt_set (k : Nat) {l : List Wtc} {j : Nat} (h : j < l.length) : (markWt k j ++ l.drop j).set j (((k + 2 * j : Nat) : Int), ((k + 2 * j + 1 : Nat) : Int)) = markWt k (j + 1) ++ l.drop (j + 1) := by
  rw [List.set_append_right _ _ (by rw [markWt_length]; exact Nat.le_refl _), markWt_length, Nat.sub_self, List.drop_eq_getElem_cons h, List.set_cons_zero, markWt_succ, List.append_assoc]
  rfl
set_option maxRecDepth 100000 in
set_option maxHeartbeats 4000000 in
theorem markWtS_any (v : Value) (l : List Wtc) (base k : Nat) (w : World) (ho : OwnR 34 2 fWt w base v l) (hl : l.length ≤ 1048576) (hk0 : 1 ≤ k) (hk1 : k ≤ 5000000) :
    Calls Try.prog 40 #[v, .int .i64 k] w fun e w' => e = .returned (.int .i64 ((k + 2 * l.length : Nat) : Int)) ∧ OwnR 34 2 fWt w' base v (markWt k l.length) ∧ w.grownBy w' v.ownBlock := by
  rcases ho.2 with ⟨rfl, hn⟩ | ⟨g, cap, cur, rfl, hbg, hg, hle, _⟩
  · obtain rfl := List.eq_nil_of_length_eq_zero hn
    go_enter Try.func40, Try.ntmps40
    go_wp2_with fail
    go_loopg [1, 5] 0 (fun _ q i wr => q = .int .i64 (k : Nat) ∧ i = .int .i64 0 ∧ w = wr)
    case atStart => exact ⟨rfl, rfl, rfl⟩
    case round =>
      obtain ⟨rfl, rfl, rfl⟩ := hrel
      go_wp2_with fail
      go_ret
      exact ⟨by simp, OwnR.nil _ _, ⟨rfl, rfl, rfl, Nat.le_refl _, fun _ _ _ => rfl⟩⟩
  · have HO0 := Lib.hid ho
    clear ho hg hle
    generalize hnn : l.length = n at *
    have HN := Lib.hid hnn
    clear hnn
    go_enter Try.func40, Try.ntmps40
    go_wp2_with fail
    go_loopg [1, 5] n (fun gk q i wr => ∃ j : Nat, j + gk = n ∧ q = .int .i64 ((k + 2 * j : Nat) : Int) ∧ i = .int .i64 j ∧ OwnR 34 2 fWt wr base (.slice (some ⟨g, 0, none⟩) n cap) (markWt k j ++ l.drop j) ∧ w.grownBy wr (some g))
    case atStart => exact ⟨0, by omega, by simp, rfl, HO0.out, ⟨rfl, rfl, rfl, Nat.le_refl _, fun _ _ _ => rfl⟩⟩
    case round =>
      obtain ⟨j, hg, rfl, rfl, hown, hgr⟩ := hrel
      have HOw := Lib.hid hown
      have HGr := Lib.hid hgr
      clear hown hgr
      by_cases hlt : j < n
      · have hji : (j : Int) < (n : Int) := by omega
        have hlt2 : j < l.length := by have := HN.out; omega
        have hMl : (markWt k j ++ l.drop j).length = n := by rw [List.length_append, markWt_length, List.length_drop, HN.out]; omega
        have hjM : j < (markWt k j ++ l.drop j).length := by omega
        have HGK : Hid (n - j - 1 < gk ∧ j + 1 + (n - j - 1) = n) := by show _ ∧ _; omega
        have HSet := Lib.hid (markWt_set k hlt2)
        have HKi : Hid (((k + 2 * (j + 1) : Nat) : Int) = ((k + 2 * j + 2 : Nat) : Int)) := by show _ = _; omega
        obtain ⟨⟨hc0, hf0⟩, ⟨hc1, hf1⟩⟩ := Wt_own_at HOw.out hjM
        obtain ⟨hP, hG⟩ := Wt_own_put HOw.out hjM ((k + 2 * j : Nat) : Int) ((k + 2 * j + 1 : Nat) : Int)
        rw [HSet.out] at hP
        have HP := Lib.hid hP
        have HG := Lib.hid (grownBy_trans HGr.out hG)
        have hkb : k + 2 * j ≤ 12000000 := by omega
        clear hg hP hG hMl HSet HOw
        generalize (markWt k j ++ l.drop j)[j] = p at *
        generalize k + 2 * j = q at *
        go_wp2_with fail
        go_roundg (n - j - 1)
        case measure => exact HGK.out.1
        case rel => exact ⟨j + 1, HGK.out.2, by rw [HKi.out]; go_num, by go_num, HP.out, HG.out⟩
      · obtain rfl : j = n := by omega
        have hji : ¬ (j : Int) < (j : Int) := by omega
        have HF : Hid (OwnR 34 2 fWt wr base (.slice (some ⟨g, 0, none⟩) j cap) (markWt k j)) := by
          have h := HOw.out
          rw [List.drop_of_length_le (by rw [HN.out]; exact Nat.le_refl _), List.append_nil] at h
          exact h
        go_wp2_with fail
        go_ret
        exact ⟨rfl, HF.out, HGr.out⟩
theorem infoWtP : (Try.prog.info? 34).map (·.size) = some 2 := by kernel_rfl
theorem ret_Wt {fn : Func} {p : Tmp} (h : fn.results = #[.cell p 34]) {R : Ending → World → Prop} {a : Act} {w : World} (g : Nat) (cs : Array Value) (hp : a.tmps.getD p undef = .pointer (some ⟨g, 0, none⟩))
    (hs : cs.size = 2) (hg : w.heap[g]? = some (.cells cs 34 (0, 0))) (hd : a.defers = []) (hR : R (.returned (.agg cs)) w) : bodyPost Try.prog fn R .ret a w :=
  bodyPost_ret (results_cell_row h _ _ g 34 cs (0, 0) _ hp hg Try.underlying34 rfl (by rw [hs]; exact infoWtP)) hd hR
set_option maxRecDepth 100000 in
theorem toWt_any (x0 : Int) (x1 : Int) (w : World) : Calls Try.prog 35 #[.agg #[.int .i64 x0, .int .i64 x1]] w fun e w' => e = .returned (.agg #[.int .i64 x0, .int .i64 x1]) ∧ Below w.heap.size w w' := by
  go_enter Try.func35, Try.ntmps35
  go_wp2_with fail
  have h1 : (((w.alloc (.cells #[.int .i64 x0, .int .i64 x1] 57)).alloc (.cells #[.int .i64 x0, .int .i64 x1] 34)).alloc (.cells #[.int .i64 x0, .int .i64 x1] 34)).heap[w.heap.size + 1]? = some (.cells #[.int .i64 x0, .int .i64 x1] 34 (0, 0)) := by
    rw [Below.heap_alloc _ _ _ (by simp), show w.heap.size + 1 = (w.alloc (.cells #[.int .i64 x0, .int .i64 x1] 57)).heap.size by simp]
    exact heap_alloc_new _ _
  exact ret_Wt rfl (w.heap.size + 1) #[.int .i64 x0, .int .i64 x1] rfl rfl h1 rfl ⟨rfl, (((Below.refl _ w).alloc (Nat.le_refl _) _).alloc (by simp) _).alloc (by simp; omega) _⟩
theorem madeWt (n : Nat) : (madeCells (Value.agg #[.int .i64 0, .int .i64 0]).cells (n * 2)).toList = (List.replicate n ((0, 0) : Wtc)).flatMap fWt := by
  rw [show (Value.agg #[.int .i64 0, .int .i64 0]).cells = #[.int .i64 0, .int .i64 0] from rfl, made_k #[.int .i64 0, .int .i64 0] 2 rfl (by decide) n]
  simp [List.flatMap, List.map_replicate]
set_option maxRecDepth 100000 in
set_option maxHeartbeats 4000000 in
theorem toWtS_any (A : Option Addr) (bs : List Wtc) (c : Nat) (w : World) (ha : RdR 2 fWt w A bs) (hl : bs.length ≤ 1048576) :
    Calls Try.prog 37 #[.slice A bs.length c] w fun e w' => ∃ v, e = .returned v ∧ OwnR 34 2 fWt w' w.heap.size v bs ∧ Below w.heap.size w w' := by
  obtain ⟨i1, hi', hy0, hy1, hy2⟩ := info_parts WtInfo
  have HA := Lib.hid ha
  clear ha
  generalize hnn : bs.length = n at *
  have HN := Lib.hid hnn
  clear hnn
  go_enter Try.func37, Try.ntmps37
  go_wp2_with (at_make; refine wpList_make_full _ rfl _ _ 25 rfl w.heap.size 34 i1 (.agg #[.int .i64 0, .int .i64 0]) 2 Try.underlying25 hi' hy0 hy1 .i64 .i64 _ _ n rfl rfl rfl rfl (by rw [hy2]; omega) (by unfold maxLen; omega) (Nat.le_refl _) ?_; intro w1 hown1 hgr1)
  have hb1 : Below w.heap.size w w1 := (Below.refl _ _).grown hgr1 (Nat.le_refl _) (by simp)
  have HO : Hid (OwnR 34 2 fWt w1 w.heap.size (.slice (some ⟨w.heap.size, 0, none⟩) n n) (bs.take 0 ++ List.replicate (n - 0) ((0, 0) : Wtc))) := by
    show OwnR _ _ _ _ _ _ _
    simp only [List.take_zero, List.nil_append, Nat.sub_zero]
    unfold OwnR
    rw [List.length_replicate, ← madeWt]
    exact hown1
  have HB := Lib.hid hb1
  clear hgr1 hown1 hb1 hi' hy0 hy1 hy2
  go_loopg [4] n (fun gk i wr => ∃ j : Nat, j + gk = n ∧ i = .int .i64 j ∧ OwnR 34 2 fWt wr w.heap.size (.slice (some ⟨w.heap.size, 0, none⟩) n n) (bs.take j ++ List.replicate (n - j) ((0, 0) : Wtc)) ∧ Below w.heap.size w wr)
  case atStart => exact ⟨0, by omega, rfl, HO.out, HB.out⟩
  case round =>
    obtain ⟨j, hg, rfl, hown, hbel⟩ := hrel
    have HOw := Lib.hid hown
    have HBl := Lib.hid hbel
    clear hown hbel HO HB
    by_cases hlt : j < n
    · have hji : (j : Int) < (n : Int) := by omega
      have hlt2 : j < bs.length := by have := HN.out; omega
      obtain ⟨b1, o1, rfl, c0, c1⟩ := Wt_at (HA.out.below HBl.out) hlt2
      have HTk : Hid (bs.take (j + 1) = bs.take j ++ [bs[j]]) := List.take_succ_eq_append_getElem hlt2
      have HTl : Hid ((bs.take j).length = j) := by show _ = _; rw [List.length_take]; omega
      have HGK : Hid (n - j - 1 < gk ∧ j + 1 + (n - j - 1) = n) := by show _ ∧ _; omega
      clear hg
      generalize bs[j] = p at *
      generalize bs.take j = TK at *
      go_wp2_with fail
      refine (toWt_any (p.1) (p.2) wr).mono ?_
      rintro e w2 ⟨rfl, hb2⟩
      have hM := HOw.out.below hb2
      have hjM : j < (TK ++ List.replicate (n - j) ((0, 0) : Wtc)).length := by rw [List.length_append, HTl.out, List.length_replicate]; omega
      obtain ⟨hP, hG⟩ := Wt_own_put hM hjM (p.1) (p.2)
      rw [show (TK ++ List.replicate (n - j) ((0, 0) : Wtc)).set j (p.1, p.2) = (TK ++ [(p.1, p.2)]) ++ List.replicate (n - (j + 1)) ((0, 0) : Wtc) by
        have := mid_set TK ((0, 0) : Wtc) (p.1, p.2) (n - (j + 1))
        rw [HTl.out, show n - (j + 1) + 1 = n - j by omega] at this
        exact this] at hP
      have HPut := Lib.hid hP
      have HB2 : Hid (Below w.heap.size w ((w2.setCell ⟨w.heap.size, j * 2, none⟩ (.int .i64 p.1)).setCell ⟨w.heap.size, j * 2 + 1, none⟩ (.int .i64 p.2))) := (below_more HBl.out hb2).grown hG (below_more HBl.out hb2).size (fun k hk => by injection hk with hk; omega)
      obtain ⟨⟨hc0, hf0⟩, ⟨hc1, hf1⟩⟩ := Wt_own_at hM hjM
      generalize (TK ++ List.replicate (n - j) ((0, 0) : Wtc))[j] = u0 at *
      clear hM hP hG hjM hb2 c0 c1 HOw
      go_wp2_with fail
      go_roundg (n - j - 1)
      case measure => exact HGK.out.1
      case rel => exact ⟨j + 1, HGK.out.2, by go_num, by rw [HTk.out]; exact HPut.out, HB2.out⟩
    · obtain rfl : j = n := by omega
      have hji : ¬ (j : Int) < (j : Int) := by omega
      have HF : Hid (OwnR 34 2 fWt wr w.heap.size (.slice (some ⟨w.heap.size, 0, none⟩) j j) bs) := by
        have := HOw.out
        rw [Nat.sub_self, List.replicate_zero, List.append_nil, List.take_of_length_le (by rw [HN.out]; exact Nat.le_refl _)] at this
        exact this
      go_wp2_with fail
      go_ret
      exact ⟨_, rfl, HF.out, HBl.out⟩
set_option maxRecDepth 100000 in
theorem szWtS_any (A : Option Addr) (l : List Wtc) (c : Nat) (left : Int) (w : World) (hl : l.length ≤ 9223372036854775807) (h0 : 0 ≤ left) (h1 : left ≤ 1048576) :
    Calls Try.prog 36 #[.slice A l.length c, .int .i64 left] w fun e w' => (∃ r : Int, e = .returned (.int .i64 r) ∧ ((r < 0) ∨ (0 ≤ r ∧ (l.length : Int) = left - r))) ∧ w = w' := by
  obtain ⟨n, hn⟩ : ∃ n, l.length = n := ⟨_, rfl⟩
  rw [hn] at hl ⊢
  by_cases h : (n : Int) ≤ left
  · have hi : ¬ left - (n : Int) < 0 := by omega
    go_enter Try.func36, Try.ntmps36
    go_wp2_with fail
    go_ret
    exact ⟨⟨left - n, rfl, Or.inr ⟨by omega, by omega⟩⟩, rfl⟩
  · have hi : left - (n : Int) < 0 := by omega
    go_enter Try.func36, Try.ntmps36
    go_wp2_with fail
    go_ret
    exact ⟨⟨-1, rfl, Or.inl (by omega)⟩, rfl⟩

abbrev wtV (r : Wtc) : Value := .agg #[.int .i64 r.1, .int .i64 r.2]
/-- A bucket: capacity, rate, tokens, clock. -/
abbrev Buc := Int × Int × Int × Int
abbrev fBu (r : Buc) : List Value := [.int .i64 r.1, .int .i64 r.2.1, .int .i64 r.2.2.1, .int .i64 r.2.2.2]
theorem fBu_len : ∀ x, (fBu x).length = 4 := fun _ => rfl
theorem fBu_one : ∀ x, ∀ u ∈ fBu x, u.oneCell' = true := fun x u hu => by simp at hu; rcases hu with rfl | rfl | rfl | rfl <;> rfl
theorem BuInfo : (Try.prog.info? 24).map (fun i => (i.zero, i.size, i.bytes)) = some (some (.agg #[.int .i64 0, .int .i64 0, .int .i64 0, .int .i64 0]), 4, 32) := by kernel_rfl
theorem Bu_at {w : World} {A : Option Addr} {l : List Buc} (h : RdR 4 fBu w A l) {j : Nat} (hj : j < l.length) : ∃ b o, A = some ⟨b, o, none⟩ ∧ w.cell? ⟨b, o + j * 4, none⟩ = some (.int .i64 l[j].1) ∧ w.cell? ⟨b, o + j * 4 + 1, none⟩ = some (.int .i64 l[j].2.1) ∧ w.cell? ⟨b, o + j * 4 + 2, none⟩ = some (.int .i64 l[j].2.2.1) ∧ w.cell? ⟨b, o + j * 4 + 3, none⟩ = some (.int .i64 l[j].2.2.2) := by
  obtain ⟨b, o, e, hc⟩ := h (by rintro rfl; simp at hj)
  exact ⟨b, o, e, hc j hj 0 _ rfl, hc j hj 1 _ rfl, hc j hj 2 _ rfl, hc j hj 3 _ rfl⟩
theorem Bu_own_at {w : World} {base g n cap : Nat} {l : List Buc} (h : OwnR 24 4 fBu w base (.slice (some ⟨g, 0, none⟩) n cap) l) {j : Nat} (hj : j < l.length) : (w.cell? ⟨g, j * 4, none⟩ = some (.int .i64 l[j].1) ∧ w.frozen? ⟨g, j * 4, none⟩ = false) ∧ (w.cell? ⟨g, j * 4 + 1, none⟩ = some (.int .i64 l[j].2.1) ∧ w.frozen? ⟨g, j * 4 + 1, none⟩ = false) ∧ (w.cell? ⟨g, j * 4 + 2, none⟩ = some (.int .i64 l[j].2.2.1) ∧ w.frozen? ⟨g, j * 4 + 2, none⟩ = false) ∧ (w.cell? ⟨g, j * 4 + 3, none⟩ = some (.int .i64 l[j].2.2.2) ∧ w.frozen? ⟨g, j * 4 + 3, none⟩ = false) :=
  ⟨h.cell fBu_len hj (i := 0) (by decide), h.cell fBu_len hj (i := 1) (by decide), h.cell fBu_len hj (i := 2) (by decide), h.cell fBu_len hj (i := 3) (by decide)⟩
theorem Bu_own_put {w : World} {base g n cap : Nat} {l : List Buc} (h : OwnR 24 4 fBu w base (.slice (some ⟨g, 0, none⟩) n cap) l) {j : Nat} (hj : j < l.length) (x0 : Int) (x1 : Int) (x2 : Int) (x3 : Int) :
    OwnR 24 4 fBu ((((w.setCell ⟨g, j * 4, none⟩ (.int .i64 x0)).setCell ⟨g, j * 4 + 1, none⟩ (.int .i64 x1)).setCell ⟨g, j * 4 + 2, none⟩ (.int .i64 x2)).setCell ⟨g, j * 4 + 3, none⟩ (.int .i64 x3)) base (.slice (some ⟨g, 0, none⟩) n cap) (l.set j (x0, x1, x2, x3)) ∧ w.grownBy ((((w.setCell ⟨g, j * 4, none⟩ (.int .i64 x0)).setCell ⟨g, j * 4 + 1, none⟩ (.int .i64 x1)).setCell ⟨g, j * 4 + 2, none⟩ (.int .i64 x2)).setCell ⟨g, j * 4 + 3, none⟩ (.int .i64 x3)) (some g) := by
  obtain ⟨⟨y0, y1, y2, y3⟩, hy⟩ : ∃ y : Buc, l[j] = y := ⟨_, rfl⟩
  obtain ⟨h0, g0⟩ := OwnR.put fBu_len h hj (i := 0) (by decide) (u := .int .i64 x0) (y := (x0, y1, y2, y3)) (by rw [hy]; rfl)
  have hj0 : j < ((l).set j (x0, y1, y2, y3)).length := by rw [List.length_set]; exact hj
  have he0 : ((l).set j (x0, y1, y2, y3))[j] = (x0, y1, y2, y3) := List.getElem_set_self ..
  obtain ⟨h1, g1⟩ := OwnR.put fBu_len h0 hj0 (i := 1) (by decide) (u := .int .i64 x1) (y := (x0, x1, y2, y3)) (by rw [he0]; rfl)
  have hj1 : j < (((l).set j (x0, y1, y2, y3)).set j (x0, x1, y2, y3)).length := by rw [List.length_set]; exact hj0
  have he1 : (((l).set j (x0, y1, y2, y3)).set j (x0, x1, y2, y3))[j] = (x0, x1, y2, y3) := List.getElem_set_self ..
  obtain ⟨h2, g2⟩ := OwnR.put fBu_len h1 hj1 (i := 2) (by decide) (u := .int .i64 x2) (y := (x0, x1, x2, y3)) (by rw [he1]; rfl)
  have hj2 : j < ((((l).set j (x0, y1, y2, y3)).set j (x0, x1, y2, y3)).set j (x0, x1, x2, y3)).length := by rw [List.length_set]; exact hj1
  have he2 : ((((l).set j (x0, y1, y2, y3)).set j (x0, x1, y2, y3)).set j (x0, x1, x2, y3))[j] = (x0, x1, x2, y3) := List.getElem_set_self ..
  obtain ⟨h3, g3⟩ := OwnR.put fBu_len h2 hj2 (i := 3) (by decide) (u := .int .i64 x3) (y := (x0, x1, x2, x3)) (by rw [he2]; rfl)
  have hj3 : j < (((((l).set j (x0, y1, y2, y3)).set j (x0, x1, y2, y3)).set j (x0, x1, x2, y3)).set j (x0, x1, x2, x3)).length := by rw [List.length_set]; exact hj2
  have he3 : (((((l).set j (x0, y1, y2, y3)).set j (x0, x1, y2, y3)).set j (x0, x1, x2, y3)).set j (x0, x1, x2, x3))[j] = (x0, x1, x2, x3) := List.getElem_set_self ..
  simp only [List.set_set] at h3
  exact ⟨h3, grownBy_trans (grownBy_trans (grownBy_trans (g0) g1) g2) g3⟩
set_option maxRecDepth 100000 in
set_option maxHeartbeats 1000000 in
theorem eqBu_self (x0 : Int) (x1 : Int) (x2 : Int) (x3 : Int) (w : World) : Calls Try.prog 33 #[.agg #[.int .i64 x0, .int .i64 x1, .int .i64 x2, .int .i64 x3], .agg #[.int .i64 x0, .int .i64 x1, .int .i64 x2, .int .i64 x3]] w fun e w' => e = .returned (.bool true) ∧ Below w.heap.size w w' := by
  have hx0 : (x0 != x0) = false := by simp
  have hx1 : (x1 != x1) = false := by simp
  have hx2 : (x2 != x2) = false := by simp
  have hx3 : (x3 != x3) = false := by simp
  go_enter Try.func33, Try.ntmps33
  go_wp2_with fail
  go_ret
  exact ⟨rfl, gAlloc2 _ _ _⟩
/-- What markBucketS writes. -/
def markBu (k n : Nat) : List Buc := (List.range n).map fun j => (((k + 4 * j : Nat) : Int), ((k + 4 * j + 1 : Nat) : Int), ((k + 4 * j + 2 : Nat) : Int), ((k + 4 * j + 3 : Nat) : Int))
theorem markBu_length (k n : Nat) : (markBu k n).length = n := by simp [markBu]
theorem markBu_at (k : Nat) {n j : Nat} (h : j < (markBu k n).length) : (markBu k n)[j] = (((k + 4 * j : Nat) : Int), ((k + 4 * j + 1 : Nat) : Int), ((k + 4 * j + 2 : Nat) : Int), ((k + 4 * j + 3 : Nat) : Int)) := by simp [markBu]
theorem markBu_succ (k n : Nat) : markBu k (n + 1) = markBu k n ++ [(((k + 4 * n : Nat) : Int), ((k + 4 * n + 1 : Nat) : Int), ((k + 4 * n + 2 : Nat) : Int), ((k + 4 * n + 3 : Nat) : Int))] := by simp [markBu, List.range_succ]
theorem markBu_set (k : Nat) {l : List Buc} {j : Nat} (h : j < l.length) : (markBu k j ++ l.drop j).set j (((k + 4 * j : Nat) : Int), ((k + 4 * j + 1 : Nat) : Int), ((k + 4 * j + 2 : Nat) : Int), ((k + 4 * j + 3 : Nat) : Int)) = markBu k (j + 1) ++ l.drop (j + 1) := by
  rw [List.set_append_right _ _ (by rw [markBu_length]; exact Nat.le_refl _), markBu_length, Nat.sub_self, List.drop_eq_getElem_cons h, List.set_cons_zero, markBu_succ, List.append_assoc]
  rfl
theorem infoBuP : (Try.prog.info? 24).map (·.size) = some 4 := by kernel_rfl
theorem ret_Bu {fn : Func} {p : Tmp} (h : fn.results = #[.cell p 24]) {R : Ending → World → Prop} {a : Act} {w : World} (g : Nat) (cs : Array Value) (hp : a.tmps.getD p undef = .pointer (some ⟨g, 0, none⟩))
    (hs : cs.size = 4) (hg : w.heap[g]? = some (.cells cs 24 (0, 0))) (hd : a.defers = []) (hR : R (.returned (.agg cs)) w) : bodyPost Try.prog fn R .ret a w :=
  bodyPost_ret (results_cell_row h _ _ g 24 cs (0, 0) _ hp hg Try.underlying24 rfl (by rw [hs]; exact infoBuP)) hd hR
set_option maxRecDepth 100000 in
theorem toBu_any (x0 : Int) (x1 : Int) (x2 : Int) (x3 : Int) (w : World) : Calls Try.prog 34 #[.agg #[.int .i64 x0, .int .i64 x1, .int .i64 x2, .int .i64 x3]] w fun e w' => e = .returned (.agg #[.int .i64 x0, .int .i64 x1, .int .i64 x2, .int .i64 x3]) ∧ Below w.heap.size w w' := by
  go_enter Try.func34, Try.ntmps34
  go_wp2_with fail
  have h1 : (((w.alloc (.cells #[.int .i64 x0, .int .i64 x1, .int .i64 x2, .int .i64 x3] 53)).alloc (.cells #[.int .i64 x0, .int .i64 x1, .int .i64 x2, .int .i64 x3] 24)).alloc (.cells #[.int .i64 x0, .int .i64 x1, .int .i64 x2, .int .i64 x3] 24)).heap[w.heap.size + 1]? = some (.cells #[.int .i64 x0, .int .i64 x1, .int .i64 x2, .int .i64 x3] 24 (0, 0)) := by
    rw [Below.heap_alloc _ _ _ (by simp), show w.heap.size + 1 = (w.alloc (.cells #[.int .i64 x0, .int .i64 x1, .int .i64 x2, .int .i64 x3] 53)).heap.size by simp]
    exact heap_alloc_new _ _
  exact ret_Bu rfl (w.heap.size + 1) #[.int .i64 x0, .int .i64 x1, .int .i64 x2, .int .i64 x3] rfl rfl h1 rfl ⟨rfl, (((Below.refl _ w).alloc (Nat.le_refl _) _).alloc (by simp) _).alloc (by simp; omega) _⟩
theorem madeBu (n : Nat) : (madeCells (Value.agg #[.int .i64 0, .int .i64 0, .int .i64 0, .int .i64 0]).cells (n * 4)).toList = (List.replicate n ((0, 0, 0, 0) : Buc)).flatMap fBu := by
  rw [show (Value.agg #[.int .i64 0, .int .i64 0, .int .i64 0, .int .i64 0]).cells = #[.int .i64 0, .int .i64 0, .int .i64 0, .int .i64 0] from rfl, made_k #[.int .i64 0, .int .i64 0, .int .i64 0, .int .i64 0] 4 rfl (by decide) n]
  simp [List.flatMap, List.map_replicate]
end Go.Proofs.Ytgakklanboabjaa
