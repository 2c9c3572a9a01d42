/-
  The laws' helpers on the steps of an allocator of numbers (flat.py, ARGS=1), and what stands under them.
-/
import Derived.Test.YtbegikjoialahaaRD
import Derived.Test.YtbegikjoialahaaVO
namespace Go.Proofs.Ytbegikjoialahaa
open Go.RowKit

theorem made_k (z : Array Value) (k : Nat) (hk : z.size = k) (h0 : 0 < k) : ∀ n : Nat, (madeCells z (n * k)).toList = (List.replicate n z.toList).flatten
  | 0 => by simp [madeCells]
  | n + 1 => by
    have ih := made_k z k hk h0 n
    unfold madeCells at ih ⊢
    rw [Array.toList_map, Array.toList_range] at ih ⊢
    rw [Nat.succ_mul, List.range_add, List.map_append, ih, List.replicate_succ', List.flatten_append, List.map_map]
    congr 1
    rw [List.flatten_singleton]
    apply List.ext_getElem
    · simp [hk]
    · intro i h1 h2
      have hi : i < k := by simpa using h1
      have h3 : (n * k + i) % k = i := by rw [Nat.mul_comm, Nat.mul_add_mod]; exact Nat.mod_eq_of_lt hi
      simp [hk, h3, hi, getElem!_pos]
/-- A step: two cells. -/
abbrev Idc := Int × Bool
abbrev fId (r : Idc) : List Value := [.int .i64 r.1, .bool r.2]
abbrev idV (r : Idc) : Value := .agg #[.int .i64 r.1, .bool r.2]
theorem fId_len : ∀ x, (fId x).length = 2 := fun _ => rfl
theorem fId_one : ∀ x, ∀ u ∈ fId x, u.oneCell' = true := fun x u hu => by simp at hu; rcases hu with rfl | rfl <;> rfl
theorem IdInfo : (Try.prog.info? 34).map (fun i => (i.zero, i.size, i.bytes)) = some (some (.agg #[.int .i64 0, .bool false]), 2, 16) := by kernel_rfl
theorem Id_at {w : World} {A : Option Addr} {l : List Idc} (h : RdR 2 fId w A l) {j : Nat} (hj : j < l.length) : ∃ b o, A = some ⟨b, o, none⟩ ∧ w.cell? ⟨b, o + j * 2, none⟩ = some (.int .i64 l[j].1) ∧ w.cell? ⟨b, o + j * 2 + 1, none⟩ = some (.bool l[j].2) := by
  obtain ⟨b, o, e, hc⟩ := h (by rintro rfl; simp at hj)
  exact ⟨b, o, e, hc j hj 0 _ rfl, hc j hj 1 _ rfl⟩
theorem Id_own_at {w : World} {base g n cap : Nat} {l : List Idc} (h : OwnR 34 2 fId w base (.slice (some ⟨g, 0, none⟩) n cap) l) {j : Nat} (hj : j < l.length) : (w.cell? ⟨g, j * 2, none⟩ = some (.int .i64 l[j].1) ∧ w.frozen? ⟨g, j * 2, none⟩ = false) ∧ (w.cell? ⟨g, j * 2 + 1, none⟩ = some (.bool l[j].2) ∧ w.frozen? ⟨g, j * 2 + 1, none⟩ = false) :=
  ⟨h.cell fId_len hj (i := 0) (by decide), h.cell fId_len hj (i := 1) (by decide)⟩
theorem Id_own_put {w : World} {base g n cap : Nat} {l : List Idc} (h : OwnR 34 2 fId w base (.slice (some ⟨g, 0, none⟩) n cap) l) {j : Nat} (hj : j < l.length) (x0 : Int) (x1 : Bool) :
    OwnR 34 2 fId ((w.setCell ⟨g, j * 2, none⟩ (.int .i64 x0)).setCell ⟨g, j * 2 + 1, none⟩ (.bool x1)) base (.slice (some ⟨g, 0, none⟩) n cap) (l.set j (x0, x1)) ∧ w.grownBy ((w.setCell ⟨g, j * 2, none⟩ (.int .i64 x0)).setCell ⟨g, j * 2 + 1, none⟩ (.bool x1)) (some g) := by
  obtain ⟨⟨y0, y1⟩, hy⟩ : ∃ y : Idc, l[j] = y := ⟨_, rfl⟩
  obtain ⟨h0, g0⟩ := OwnR.put fId_len h hj (i := 0) (by decide) (u := .int .i64 x0) (y := (x0, y1)) (by rw [hy]; rfl)
  have hj0 : j < ((l).set j (x0, y1)).length := by rw [List.length_set]; exact hj
  have he0 : ((l).set j (x0, y1))[j] = (x0, y1) := List.getElem_set_self ..
  obtain ⟨h1, g1⟩ := OwnR.put fId_len h0 hj0 (i := 1) (by decide) (u := .bool x1) (y := (x0, x1)) (by rw [he0]; rfl)
  have hj1 : j < (((l).set j (x0, y1)).set j (x0, x1)).length := by rw [List.length_set]; exact hj0
  have he1 : (((l).set j (x0, y1)).set j (x0, x1))[j] = (x0, x1) := List.getElem_set_self ..
  simp only [List.set_set] at h1
  exact ⟨h1, grownBy_trans (g0) g1⟩
set_option maxRecDepth 100000 in
set_option maxHeartbeats 1000000 in
theorem eqId_self (x0 : Int) (x1 : Bool) (w : World) : Calls Try.prog 61 #[.agg #[.int .i64 x0, .bool x1], .agg #[.int .i64 x0, .bool x1]] w fun e w' => e = .returned (.bool true) ∧ Below w.heap.size w w' := by
  have hx0 : (x0 != x0) = false := by simp
  have hx1 : (x1 != x1) = false := by simp
  go_enter Try.func61, Try.ntmps61
  go_wp2_with fail
  go_ret
  exact ⟨rfl, gAlloc2 _ _ _⟩
set_option maxRecDepth 100000 in
set_option maxHeartbeats 2000000 in
theorem eqIdS_self (A B : Option Addr) (l : List Idc) (ca cb : Nat) (w : World) (ha : RdR 2 fId w A l) (hb : RdR 2 fId w B l) (hl : l.length ≤ 1048576) :
    Calls Try.prog 38 #[.slice A l.length ca, .slice B l.length cb] w fun e w' => e = .returned (.bool true) ∧ Below w.heap.size w w' := by
  have HA := Lib.hid ha
  have HB := Lib.hid hb
  clear ha hb
  have hne : ((l.length : Int) != (l.length : Int)) = false := by simp
  go_enter Try.func38, Try.ntmps38
  go_wp2_with fail
  go_loopg [5] l.length (fun gk i wr => ∃ k : Nat, k + gk = l.length ∧ i = .int .i64 k ∧ Below w.heap.size w wr)
  case atStart => exact ⟨0, by omega, rfl, Below.refl _ _⟩
  case round =>
    obtain ⟨k, hg, rfl, hbel⟩ := hrel
    have HBl := Lib.hid hbel
    clear hbel
    by_cases hlt : k < l.length
    · have hki : (k : Int) < (l.length : Int) := by omega
      obtain ⟨b1, o1, rfl, c0, c1⟩ := Id_at (HA.out.below HBl.out) hlt
      obtain ⟨b2, o2, rfl, d0, d1⟩ := Id_at (HB.out.below HBl.out) hlt
      have HGK : Hid (l.length - k - 1 < gk ∧ k + 1 + (l.length - k - 1) = l.length) := by show _ ∧ _; omega
      clear hg
      generalize l[k] = p at *
      obtain ⟨p0, p1⟩ := p
      simp only at c0 c1 d0 d1
      go_wp2_with fail
      go_region_held3 (fun w' => w'.cell? ⟨b1, o1 + k * 2, none⟩ = some (.int .i64 p0) ∧ w'.cell? ⟨b1, o1 + k * 2 + 1, none⟩ = some (.bool p1) ∧ w'.cell? ⟨b2, o2 + k * 2, none⟩ = some (.int .i64 p0) ∧ w'.cell? ⟨b2, o2 + k * 2 + 1, none⟩ = some (.bool p1))
        (first | exact ⟨c0, c1, d0, d1⟩ | exact ⟨r0, r1, r2, r3⟩ | go_keep) (first
        | (go_at_call 61; refine (eqId_self p0 p1 _).mono ?_; rintro e w7 ⟨rfl, hb7⟩; have r0 := (hb7.cell (World.block_lt_of_cell? _ _ c0)).trans c0; have r1 := (hb7.cell (World.block_lt_of_cell? _ _ c1)).trans c1; have r2 := (hb7.cell (World.block_lt_of_cell? _ _ d0)).trans d0; have r3 := (hb7.cell (World.block_lt_of_cell? _ _ d1)).trans d1))
      all_goals
        have HB7 := Lib.hid (below_more HBl.out (below_more gDrew hb7))
        clear hb7
        go_wp2_with fail
        go_roundg (l.length - k - 1)
        case measure => exact HGK.out.1
        case rel => exact ⟨k + 1, HGK.out.2, by go_num, HB7.out⟩
    · obtain rfl : k = l.length := by omega
      have hki : ¬ (l.length : Int) < (l.length : Int) := by omega
      go_wp2_with fail
      go_ret
      exact ⟨rfl, HBl.out⟩
/-- What markIdStepS writes. -/
def markId (k n : Nat) : List Idc := (List.range n).map fun j => (((k + 2 * j : Nat) : Int), ((((k + 2 * j : Nat) : Int) + 1) % 3 == 0))
theorem markId_length (k n : Nat) : (markId k n).length = n := by simp [markId]
theorem markId_at (k : Nat) {n j : Nat} (h : j < (markId k n).length) : (markId k n)[j] = (((k + 2 * j : Nat) : Int), ((((k + 2 * j : Nat) : Int) + 1) % 3 == 0)) := by simp [markId]
theorem markId_succ (k n : Nat) : markId k (n + 1) = markId k n ++ [(((k + 2 * n : Nat) : Int), ((((k + 2 * n : Nat) : Int) + 1) % 3 == 0))] := by simp [markId, List.range_succ]
theorem markId_set (k : Nat) {l : List Idc} {j : Nat} (h : j < l.length) : (markId k j ++ l.drop j).set j (((k + 2 * j : Nat) : Int), ((((k + 2 * j : Nat) : Int) + 1) % 3 == 0)) = markId k (j + 1) ++ l.drop (j + 1) := by
  rw [List.set_append_right _ _ (by rw [markId_length]; exact Nat.le_refl _), markId_length, Nat.sub_self, List.drop_eq_getElem_cons h, List.set_cons_zero, markId_succ, List.append_assoc]
  rfl
set_option maxRecDepth 100000 in
set_option maxHeartbeats 4000000 in
theorem markIdS_any (v : Value) (l : List Idc) (base k : Nat) (w : World) (ho : OwnR 34 2 fId w base v l) (hl : l.length ≤ 1048576) (hk0 : 1 ≤ k) (hk1 : k ≤ 5000000) :
    Calls Try.prog 39 #[v, .int .i64 k] w fun e w' => e = .returned (.int .i64 ((k + 2 * l.length : Nat) : Int)) ∧ OwnR 34 2 fId w' base v (markId k l.length) ∧ w.grownBy w' v.ownBlock := by
  rcases ho.2 with ⟨rfl, hn⟩ | ⟨g, cap, cur, rfl, hbg, hg, hle, _⟩
  · obtain rfl := List.eq_nil_of_length_eq_zero hn
    go_enter Try.func39, Try.ntmps39
    go_wp2_with fail
    go_loopg [1, 5] 0 (fun _ q i wr => q = .int .i64 (k : Nat) ∧ i = .int .i64 0 ∧ w = wr)
    case atStart => exact ⟨rfl, rfl, rfl⟩
    case round =>
      obtain ⟨rfl, rfl, rfl⟩ := hrel
      go_wp2_with fail
      go_ret
      exact ⟨by simp, OwnR.nil _ _, ⟨rfl, rfl, rfl, Nat.le_refl _, fun _ _ _ => rfl⟩⟩
  · have HO0 := Lib.hid ho
    clear ho hg hle
    generalize hnn : l.length = n at *
    have HN := Lib.hid hnn
    clear hnn
    go_enter Try.func39, Try.ntmps39
    go_wp2_with fail
    go_loopg [1, 5] n (fun gk q i wr => ∃ j : Nat, j + gk = n ∧ q = .int .i64 ((k + 2 * j : Nat) : Int) ∧ i = .int .i64 j ∧ OwnR 34 2 fId wr base (.slice (some ⟨g, 0, none⟩) n cap) (markId k j ++ l.drop j) ∧ w.grownBy wr (some g))
    case atStart => exact ⟨0, by omega, by simp, rfl, HO0.out, ⟨rfl, rfl, rfl, Nat.le_refl _, fun _ _ _ => rfl⟩⟩
    case round =>
      obtain ⟨j, hg, rfl, rfl, hown, hgr⟩ := hrel
      have HOw := Lib.hid hown
      have HGr := Lib.hid hgr
      clear hown hgr
      by_cases hlt : j < n
      · have hji : (j : Int) < (n : Int) := by omega
        have hlt2 : j < l.length := by have := HN.out; omega
        have hMl : (markId k j ++ l.drop j).length = n := by rw [List.length_append, markId_length, List.length_drop, HN.out]; omega
        have hjM : j < (markId k j ++ l.drop j).length := by omega
        have HGK : Hid (n - j - 1 < gk ∧ j + 1 + (n - j - 1) = n) := by show _ ∧ _; omega
        have HSet := Lib.hid (markId_set k hlt2)
        have HKi : Hid (((k + 2 * (j + 1) : Nat) : Int) = ((k + 2 * j + 2 : Nat) : Int)) := by show _ = _; omega
        obtain ⟨⟨hc0, hf0⟩, ⟨hc1, hf1⟩⟩ := Id_own_at HOw.out hjM
        obtain ⟨hP, hG⟩ := Id_own_put HOw.out hjM ((k + 2 * j : Nat) : Int) ((((k + 2 * j : Nat) : Int) + 1) % 3 == 0)
        rw [HSet.out] at hP
        have HP := Lib.hid hP
        have HG := Lib.hid (grownBy_trans HGr.out hG)
        have hkb : k + 2 * j ≤ 12000000 := by omega
        clear hg hP hG hMl HSet HOw
        generalize (markId k j ++ l.drop j)[j] = p at *
        generalize k + 2 * j = q at *
        go_wp2_with fail
        go_roundg (n - j - 1)
        case measure => exact HGK.out.1
        case rel => exact ⟨j + 1, HGK.out.2, by rw [HKi.out]; go_num, by go_num, HP.out, HG.out⟩
      · obtain rfl : j = n := by omega
        have hji : ¬ (j : Int) < (j : Int) := by omega
        have HF : Hid (OwnR 34 2 fId wr base (.slice (some ⟨g, 0, none⟩) j cap) (markId k j)) := by
          have h := HOw.out
          rw [List.drop_of_length_le (by rw [HN.out]; exact Nat.le_refl _), List.append_nil] at h
          exact h
        go_wp2_with fail
        go_ret
        exact ⟨rfl, HF.out, HGr.out⟩
theorem infoIdP : (Try.prog.info? 34).map (·.size) = some 2 := by kernel_rfl
theorem ret_Id {fn : Func} {p : Tmp} (h : fn.results = #[.cell p 34]) {R : Ending → World → Prop} {a : Act} {w : World} (g : Nat) (cs : Array Value) (hp : a.tmps.getD p undef = .pointer (some ⟨g, 0, none⟩))
    (hs : cs.size = 2) (hg : w.heap[g]? = some (.cells cs 34 (0, 0))) (hd : a.defers = []) (hR : R (.returned (.agg cs)) w) : bodyPost Try.prog fn R .ret a w :=
  bodyPost_ret (results_cell_row h _ _ g 34 cs (0, 0) _ hp hg Try.underlying34 rfl (by rw [hs]; exact infoIdP)) hd hR
set_option maxRecDepth 100000 in
theorem toId_any (x0 : Int) (x1 : Bool) (w : World) : Calls Try.prog 34 #[.agg #[.int .i64 x0, .bool x1]] w fun e w' => e = .returned (.agg #[.int .i64 x0, .bool x1]) ∧ Below w.heap.size w w' := by
  go_enter Try.func34, Try.ntmps34
  go_wp2_with fail
  have h1 : (((w.alloc (.cells #[.int .i64 x0, .bool x1] 51)).alloc (.cells #[.int .i64 x0, .bool x1] 34)).alloc (.cells #[.int .i64 x0, .bool x1] 34)).heap[w.heap.size + 1]? = some (.cells #[.int .i64 x0, .bool x1] 34 (0, 0)) := by
    rw [Below.heap_alloc _ _ _ (by simp), show w.heap.size + 1 = (w.alloc (.cells #[.int .i64 x0, .bool x1] 51)).heap.size by simp]
    exact heap_alloc_new _ _
  exact ret_Id rfl (w.heap.size + 1) #[.int .i64 x0, .bool x1] rfl rfl h1 rfl ⟨rfl, (((Below.refl _ w).alloc (Nat.le_refl _) _).alloc (by simp) _).alloc (by simp; omega) _⟩
theorem madeId (n : Nat) : (madeCells (Value.agg #[.int .i64 0, .bool false]).cells (n * 2)).toList = (List.replicate n ((0, false) : Idc)).flatMap fId := by
  rw [show (Value.agg #[.int .i64 0, .bool false]).cells = #[.int .i64 0, .bool false] from rfl, made_k #[.int .i64 0, .bool false] 2 rfl (by decide) n]
  simp [List.flatMap, List.map_replicate]
set_option maxRecDepth 100000 in
set_option maxHeartbeats 4000000 in
theorem toIdS_any (A : Option Addr) (bs : List Idc) (c : Nat) (w : World) (ha : RdR 2 fId w A bs) (hl : bs.length ≤ 1048576) :
    Calls Try.prog 36 #[.slice A bs.length c] w fun e w' => ∃ v, e = .returned v ∧ OwnR 34 2 fId w' w.heap.size v bs ∧ Below w.heap.size w w' := by
  obtain ⟨i1, hi', hy0, hy1, hy2⟩ := info_parts IdInfo
  have HA := Lib.hid ha
  clear ha
  generalize hnn : bs.length = n at *
  have HN := Lib.hid hnn
  clear hnn
  go_enter Try.func36, Try.ntmps36
  go_wp2_with (at_make; refine wpList_make_full _ rfl _ _ 23 rfl w.heap.size 34 i1 (.agg #[.int .i64 0, .bool false]) 2 Try.underlying23 hi' hy0 hy1 .i64 .i64 _ _ n rfl rfl rfl rfl (by rw [hy2]; omega) (by unfold maxLen; omega) (Nat.le_refl _) ?_; intro w1 hown1 hgr1)
  have hb1 : Below w.heap.size w w1 := (Below.refl _ _).grown hgr1 (Nat.le_refl _) (by simp)
  have HO : Hid (OwnR 34 2 fId w1 w.heap.size (.slice (some ⟨w.heap.size, 0, none⟩) n n) (bs.take 0 ++ List.replicate (n - 0) ((0, false) : Idc))) := by
    show OwnR _ _ _ _ _ _ _
    simp only [List.take_zero, List.nil_append, Nat.sub_zero]
    unfold OwnR
    rw [List.length_replicate, ← madeId]
    exact hown1
  have HB := Lib.hid hb1
  clear hgr1 hown1 hb1 hi' hy0 hy1 hy2
  go_loopg [4] n (fun gk i wr => ∃ j : Nat, j + gk = n ∧ i = .int .i64 j ∧ OwnR 34 2 fId wr w.heap.size (.slice (some ⟨w.heap.size, 0, none⟩) n n) (bs.take j ++ List.replicate (n - j) ((0, false) : Idc)) ∧ Below w.heap.size w wr)
  case atStart => exact ⟨0, by omega, rfl, HO.out, HB.out⟩
  case round =>
    obtain ⟨j, hg, rfl, hown, hbel⟩ := hrel
    have HOw := Lib.hid hown
    have HBl := Lib.hid hbel
    clear hown hbel HO HB
    by_cases hlt : j < n
    · have hji : (j : Int) < (n : Int) := by omega
      have hlt2 : j < bs.length := by have := HN.out; omega
      obtain ⟨b1, o1, rfl, c0, c1⟩ := Id_at (HA.out.below HBl.out) hlt2
      have HTk : Hid (bs.take (j + 1) = bs.take j ++ [bs[j]]) := List.take_succ_eq_append_getElem hlt2
      have HTl : Hid ((bs.take j).length = j) := by show _ = _; rw [List.length_take]; omega
      have HGK : Hid (n - j - 1 < gk ∧ j + 1 + (n - j - 1) = n) := by show _ ∧ _; omega
      clear hg
      generalize bs[j] = p at *
      generalize bs.take j = TK at *
      go_wp2_with fail
      refine (toId_any (p.1) (p.2) wr).mono ?_
      rintro e w2 ⟨rfl, hb2⟩
      have hM := HOw.out.below hb2
      have hjM : j < (TK ++ List.replicate (n - j) ((0, false) : Idc)).length := by rw [List.length_append, HTl.out, List.length_replicate]; omega
      obtain ⟨hP, hG⟩ := Id_own_put hM hjM (p.1) (p.2)
      rw [show (TK ++ List.replicate (n - j) ((0, false) : Idc)).set j (p.1, p.2) = (TK ++ [(p.1, p.2)]) ++ List.replicate (n - (j + 1)) ((0, false) : Idc) by
        have := mid_set TK ((0, false) : Idc) (p.1, p.2) (n - (j + 1))
        rw [HTl.out, show n - (j + 1) + 1 = n - j by omega] at this
        exact this] at hP
      have HPut := Lib.hid hP
      have HB2 : Hid (Below w.heap.size w ((w2.setCell ⟨w.heap.size, j * 2, none⟩ (.int .i64 p.1)).setCell ⟨w.heap.size, j * 2 + 1, none⟩ (.bool p.2))) := (below_more HBl.out hb2).grown hG (below_more HBl.out hb2).size (fun k hk => by injection hk with hk; omega)
      obtain ⟨⟨hc0, hf0⟩, ⟨hc1, hf1⟩⟩ := Id_own_at hM hjM
      generalize (TK ++ List.replicate (n - j) ((0, false) : Idc))[j] = u0 at *
      clear hM hP hG hjM hb2 c0 c1 HOw
      go_wp2_with fail
      go_roundg (n - j - 1)
      case measure => exact HGK.out.1
      case rel => exact ⟨j + 1, HGK.out.2, by go_num, by rw [HTk.out]; exact HPut.out, HB2.out⟩
    · obtain rfl : j = n := by omega
      have hji : ¬ (j : Int) < (j : Int) := by omega
      have HF : Hid (OwnR 34 2 fId wr w.heap.size (.slice (some ⟨w.heap.size, 0, none⟩) j j) bs) := by
        have := HOw.out
        rw [Nat.sub_self, List.replicate_zero, List.append_nil, List.take_of_length_le (by rw [HN.out]; exact Nat.le_refl _)] at this
        exact this
      go_wp2_with fail
      go_ret
      exact ⟨_, rfl, HF.out, HBl.out⟩
set_option maxRecDepth 100000 in
theorem szIdS_any (A : Option Addr) (l : List Idc) (c : Nat) (left : Int) (w : World) (hl : l.length ≤ 9223372036854775807) (h0 : 0 ≤ left) (h1 : left ≤ 1048576) :
    Calls Try.prog 35 #[.slice A l.length c, .int .i64 left] w fun e w' => (∃ r : Int, e = .returned (.int .i64 r) ∧ ((r < 0) ∨ (0 ≤ r ∧ (l.length : Int) = left - r))) ∧ w = w' := by
  obtain ⟨n, hn⟩ : ∃ n, l.length = n := ⟨_, rfl⟩
  rw [hn] at hl ⊢
  by_cases h : (n : Int) ≤ left
  · have hi : ¬ left - (n : Int) < 0 := by omega
    go_enter Try.func35, Try.ntmps35
    go_wp2_with fail
    go_ret
    exact ⟨⟨left - n, rfl, Or.inr ⟨by omega, by omega⟩⟩, rfl⟩
  · have hi : left - (n : Int) < 0 := by omega
    go_enter Try.func35, Try.ntmps35
    go_wp2_with fail
    go_ret
    exact ⟨⟨-1, rfl, Or.inl (by omega)⟩, rfl⟩

end Go.Proofs.Ytbegikjoialahaa
