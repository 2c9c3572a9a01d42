/-
  The program's chapter 11, second part: the iterator of the numbers that can be issued, issue, RoomIn.
-/
import Derived.Test.YtbegikjoialahaaHC
namespace Go.Proofs.Ytbegikjoialahaa
open Go.RowKit Go.Shelf

attribute [local go_sem] Oper.semAt_some

/-- The j-th number that comes. -/
def el11 (j : Nat) : Fin 61 := ⟨j % 61, Nat.mod_lt _ (by decide)⟩
theorem el11_val {j : Nat} (h : j ≤ 60) : ((el11 j : Fin 61) : Nat) = j := Nat.mod_eq_of_lt (by omega)
def els11 (m : Nat) : List (Fin 61) := (List.range m).map el11
theorem els11_succ (m : Nat) : els11 (m + 1) = els11 m ++ [el11 m] := by simp [els11, List.range_succ]
theorem els11_length (m : Nat) : (els11 m).length = m := by simp [els11]
/-- How many can be issued. -/
def cnt11 (n s : Int) (z : Nat) : Nat := (min s (n + 60 - (z : Int) - 1) - n + 1).toNat

set_option maxRecDepth 100000 in
set_option maxHeartbeats 2000000 in
theorem iss1_in (k : Nat) (hk : 1 ≤ k) (l X : Nat) (n a s : Int) (A : Option Addr) (z ca : Nat) (hz : z ≤ 60) (hn0 : 1 ≤ n) (hn1 : n ≤ 1001) (hs0 : 0 ≤ s) (hs1 : s ≤ 1000) (J Jx : List (Fin 61) → World → Prop)
    (hY : ∀ (pre : List (Fin 61)) (x : Fin 61) (W : World), J pre W → pre.length < 60 → YieldAt Fence.wide (k - 1) Try.prog l #[.int .i64 (n + ((x : Nat) : Int))] W fun e W' =>
      (e = .returned (.bool true) ∧ J (pre ++ [x]) W' ∧ True) ∨ (e = .returned (.bool false) ∧ Jx (pre ++ [x]) W'))
    (W : World) (hX : W.heap[X]? = some (.cells #[.int .i64 n, .int .i64 a, .int .i64 s, .slice A z ca] 27 (0, 0))) (h0 : J [] W) :
    CallsIn Fence.wide k Try.prog 67 #[.func (.yield l) #[] #[], .pointer (some ⟨X, 0, none⟩)] W fun e W' => (∃ v, e = .returned v) ∧
      ((∃ ys, ys = els11 (cnt11 n s z) ∧ J ys W') ∨ (∃ pre, (∃ j, 1 ≤ j ∧ j ≤ cnt11 n s z ∧ pre = els11 j) ∧ Jx pre W')) := by
  have x0 : W.cell? ⟨X, 0, none⟩ = some (.int .i64 n) := cell_of_row _ _ 0 _ _ _ hX
  have x1 : W.cell? ⟨X, 1, none⟩ = some (.int .i64 a) := cell_of_row _ _ 1 _ _ _ hX
  have x2 : W.cell? ⟨X, 2, none⟩ = some (.int .i64 s) := cell_of_row _ _ 2 _ _ _ hX
  have x3 : W.cell? ⟨X, 3, none⟩ = some (.slice A z ca) := cell_of_row _ _ 3 _ _ _ hX
  have hzi : (z : Int) ≤ 60 := by omega
  obtain ⟨q, hq⟩ : ∃ q, min s (n + 60 - (z : Int) - 1) = q := ⟨_, rfl⟩
  obtain ⟨m, hm⟩ : ∃ m, cnt11 n s z = m := ⟨_, rfl⟩
  have hqm : m = (q - n + 1).toNat := by rw [← hm, cnt11, hq]
  have hqb : q ≤ 1000 ∧ q ≤ n + 59 := by omega
  have hm60 : m ≤ 60 := by omega
  rw [hm]
  have HQ := Lib.hid hqm
  clear hm hqm hX
  refine callsIn_of_wp Try.func67 rfl trivial ?_ rfl
  simp only [Try.ntmps67, List.size_toArray, List.length_cons, List.length_nil, Nat.reduceAdd, Nat.reduceSub, Array.replicate_succ, Array.replicate_zero, List.push_toArray, List.append_toArray, List.nil_append, List.cons_append]
  gi_wp2
  gi_loopw [4] (fun i wr => ∃ j : Nat, j ≤ m ∧ i = .int .i64 (n + (j : Int)) ∧ J (els11 j) wr)
    (fun i _ => (1100 - intOf i).toNat)
  case atStart => exact ⟨0, Nat.zero_le _, by simp, h0⟩
  case round =>
    obtain ⟨j, hj, rfl, hJs⟩ := hrel
    by_cases hlt : j < m
    · obtain ⟨fn, tmps, assign, body, hy, hR⟩ := hY _ (el11 j) wr hJs (by rw [els11_length]; omega)
      rw [← els11_succ] at hR
      rw [el11_val (by omega)] at hy
      have hle : n + (j : Int) ≤ q := by have := HQ.out; omega
      have HJ := Lib.hid (show j + 1 ≤ m by omega)
      have hb1 : n + (j : Int) ≤ 1000 := by omega
      clear hY hq x0 x1 x2 x3
      gi_wp2
      refine hR.mono ?_
      rintro e W3 (⟨rfl, hJ3, -⟩ | ⟨rfl, hJx3⟩)
      · gi_wp2
        go_roundw
        case rel => exact ⟨j + 1, HJ.out, by go_num, hJ3⟩
        case measure => simp [intOf]; omega
      · gi_wp2
        refine bodyPost_ret (results_none rfl _ _ _) rfl ?_
        exact ⟨⟨_, rfl⟩, .inr ⟨_, ⟨j + 1, Nat.succ_le_succ (Nat.zero_le _), HJ.out, rfl⟩, hJx3⟩⟩
    · obtain rfl : j = m := by omega
      have hle : ¬ n + (j : Int) ≤ q := by have := HQ.out; omega
      clear hY
      gi_wp2
      go_end0
      exact ⟨⟨_, rfl⟩, .inl hJs⟩
set_option maxRecDepth 100000 in
set_option maxHeartbeats 1000000 in
theorem iss_in (k : Nat) (n a s : Int) (A : Option Addr) (z ca : Nat) (w : World) :
    CallsIn Fence.wide k Try.prog 54 #[gvV n a s (.slice A z ca)] w fun e w' => e = .returned (.func (.func 67) #[] #[.pointer (some ⟨w.heap.size, 0, none⟩)]) ∧ w' = w.alloc (.cells #[.int .i64 n, .int .i64 a, .int .i64 s, .slice A z ca] 27) := by
  refine callsIn_of_wp Try.func54 rfl trivial ?_ rfl
  simp only [Try.ntmps54, List.size_toArray, List.length_cons, List.length_nil, Nat.reduceAdd, Nat.reduceSub, Array.replicate_succ, Array.replicate_zero, List.push_toArray, List.append_toArray, List.nil_append, List.cons_append]
  gi_wp2
  go_ret
  exact ⟨rfl, rfl⟩
theorem iss_stops (k : Nat) (hk : 1 ≤ k) (X : Nat) (n a s : Int) (A : Option Addr) (z ca : Nat) (hz : z ≤ 60) (hn0 : 1 ≤ n) (hn1 : n ≤ 1001) (hs0 : 0 ≤ s) (hs1 : s ≤ 1000) (w : World) (hX : w.heap[X]? = some (.cells #[.int .i64 n, .int .i64 a, .int .i64 s, .slice A z ca] 27 (0, 0))) :
    SeqStopsK Fence.wide k Try.prog 67 #[.pointer (some ⟨X, 0, none⟩)] (fun x : Fin 61 => #[Value.int .i64 (n + ((x : Nat) : Int))]) (fun _ _ => True) (fun ys => ys = els11 (cnt11 n s z)) (fun pre => ∃ j, 1 ≤ j ∧ j ≤ cnt11 n s z ∧ pre = els11 j) 60 w := fun l J Jx W hW _ _ hY h0 =>
  iss1_in k hk l X n a s A z ca hz hn0 hn1 hs0 hs1 J Jx hY W ((hW.block X (heap_lt hX)).trans hX) h0

/-- Two results, both in boxes. -/
theorem results_gb11 {fn : Func} {p q : Tmp} (h : fn.results = #[.cell p 27, .cell q 4]) {tmps : Array Value} {w : World} {g d : Nat} {n a s : Int} {v : Value} {b : Bool} (hp : tmps.getD p undef = .pointer (some ⟨g, 0, none⟩)) (hq : tmps.getD q undef = .pointer (some ⟨d, 0, none⟩))
    (hg : w.heap[g]? = some (.cells #[.int .i64 n, .int .i64 a, .int .i64 s, v] 27 (0, 0))) (hd : w.heap[d]? = some (.cells #[.bool b] 4 (0, 0))) : (results fn tmps).run Try.prog w = .ok (.tuple #[gvV n a s v, .bool b]) w := by
  have hp' : tmps[p]?.getD undef = .pointer (some ⟨g, 0, none⟩) := by simpa using hp
  have hq' : tmps[q]?.getD undef = .pointer (some ⟨d, 0, none⟩) := by simpa using hq
  have hl1 : (loadVar 27 ⟨g, 0, none⟩).run Try.prog w = .ok (gvV n a s v) w := by
    simp [run_loadVar_row w g 27 27 #[.int .i64 n, .int .i64 a, .int .i64 s, v] (0, 0) _ hg Try.underlying27 rfl infoGv]
  have hc : w.cell? ⟨d, 0, none⟩ = some (.bool b) := cell_of_row w d 0 _ _ _ hd
  have hagg : (isAgg 4).run Try.prog w = .ok false w := by
    unfold isAgg
    rw [Sem.run_bind, run_underlying Try.underlying4 w]
    simp
  have hl2 : (loadVar 4 ⟨d, 0, none⟩).run Try.prog w = .ok (.bool b) w := by
    simp [loadVar, Sem.run_bind, hagg, hc]
  simp [results, h, hp', hq', asAddr, hl1, hl2]
/-- A slice of the call's own lies in cells. -/
theorem own_row11 {W : World} {base g : Nat} {v : Value} {zs : List Int} (h : Own W base v zs) (e : v.ownBlock = some g) : ∃ o : Obj, W.heap[g]? = some o ∧ o.isCells = true := by
  rcases h.2 with ⟨rfl, _⟩ | ⟨g', cap, cur, rfl, _, hgb, _⟩
  · cases e
  · injection e with e; subst e
    exact ⟨_, hgb, rfl⟩
theorem own_turn11 {X Y : World} {base B : Nat} {row : Option Nat} {v : Value} {zs : List Int} (h : Own X base v zs) (hg : X.grownBy Y row) (hr : ∀ r, row = some r → B ≤ r ∧ ∃ o : Obj, X.heap[r]? = some o ∧ o.isCells = false) : Own Y base v zs := h.kept hg (by
  cases hv : v.ownBlock with
  | none => exact Or.inl rfl
  | some g =>
    refine Or.inr fun e => ?_
    obtain ⟨o, ho, hc⟩ := own_row11 h hv
    obtain ⟨_, o', ho', hc'⟩ := hr g e.symm
    rw [ho] at ho'; cases ho'
    rw [hc] at hc'; cases hc')
theorem row_turn11 {X Y : World} {k B : Nat} {row : Option Nat} {o : Obj} (h : X.heap[k]? = some o) (hg : X.grownBy Y row) (hr : ∀ r, row = some r → B ≤ r ∧ ∃ o : Obj, X.heap[r]? = some o ∧ o.isCells = false) (hk : k < B) : Y.heap[k]? = some o :=
  (hg.block k (heap_lt h) (fun e => by have := (hr k e.symm).1; omega)).trans h
/-- What lies as it lay while issue's loop runs: the allocator's box, the answer's boxes. -/
structure Is11 (w W : World) (n a s : Int) (A : Option Addr) (z ca : Nat) (N : Nat) : Prop where
  box : W.heap[w.heap.size]? = some (.cells #[.int .i64 n, .int .i64 a, .int .i64 s, .slice A z ca] 27 (0, 0))
  res : W.heap[w.heap.size + 1]? = some (.cells #[.int .i64 0, .int .i64 0, .int .i64 0, .slice none 0 0] 27 (0, 0))
  ok : W.heap[w.heap.size + 2]? = some (.cells #[.bool false] 4 (0, 0))
  bel : Below w.heap.size w W
  le : N ≤ W.heap.size
/-- What issue leaves when a number came. -/
structure Out11 (w W : World) (n a s : Int) (v : Value) (zs : List Int) : Prop where
  res : W.heap[w.heap.size + 1]? = some (.cells #[.int .i64 n, .int .i64 a, .int .i64 s, v] 27 (0, 0))
  ok : W.heap[w.heap.size + 2]? = some (.cells #[.bool true] 4 (0, 0))
  own : Own W w.heap.size v zs
  bel : Below w.heap.size w W
set_option maxRecDepth 100000 in
set_option maxHeartbeats 4000000 in
theorem issue_in (n a s : Int) (A : Option Addr) (zs : List Int) (ca : Nat) (w : World) (ha : Ints w A zs) (hA : Lies9 A ca) (hg : goodGB n a s zs = true) :
    CallsIn Fence.wide 3 Try.prog 50 #[gvV n a s (.slice A zs.length ca)] w fun e w' => (cnt11 n s zs.length = 0 ∧ e = .returned (.tuple #[gvV 0 0 0 (.slice none 0 0), .bool false]) ∧ Below w.heap.size w w') ∨ (1 ≤ cnt11 n s zs.length ∧ ∃ v, e = .returned (.tuple #[gvV (n + 1) a s v, .bool true]) ∧ Own w' w.heap.size v (zs ++ [n]) ∧ Below w.heap.size w w') := by
  obtain ⟨⟨g1, g2⟩, ⟨g3, g4⟩, g5, ⟨g6, g7⟩, -, g9⟩ := gvr_ok hg
  clear hg
  have h1 : 1 ≤ 3 := by decide
  have h1' : 1 ≤ 3 - 1 - 1 := by decide
  have hF54 : Fence.wide.fn 54 := trivial
  have hF66 : Fence.wide.fn 66 := trivial
  obtain ⟨i0, hi, hz0, hz1, hz2⟩ := info_parts intI9
  refine callsIn_of_wp_marks Try.func50 rfl trivial ?_ rfl
  simp only [Try.ntmps50, List.size_toArray, List.length_cons, List.length_nil, Nat.reduceAdd, Nat.reduceSub, Array.replicate_succ, Array.replicate_zero, List.push_toArray, List.append_toArray, List.nil_append, List.cons_append]
  gi_wp2_with (gi_at_call 54; refine (iss_in (3 - 1) n a s A zs.length ca _).mono ?_; rintro e w' ⟨rfl, rfl⟩)
  obtain ⟨W0, hW0⟩ : ∃ W0, (((w.alloc (.cells #[.int .i64 n, .int .i64 a, .int .i64 s, .slice A zs.length ca] 27)).alloc (.cells #[.int .i64 0, .int .i64 0, .int .i64 0, .slice none 0 0] 27)).alloc (.cells #[.bool false] 4)).alloc (.cells #[.int .i64 n, .int .i64 a, .int .i64 s, .slice A zs.length ca] 27) = W0 := ⟨_, rfl⟩
  have hsz : W0.heap.size = w.heap.size + 4 := by rw [← hW0]; simp
  have hI0 : Is11 w W0 n a s A zs.length ca W0.heap.size := by
    rw [← hW0]
    refine ⟨?_, ?_, ?_, (((gAlloc w _).alloc (by simp) _).alloc (by simp; omega) _).alloc (by simp; omega) _, Nat.le_refl _⟩
    · rw [heap_alloc_old _ _ _ (by simp <;> omega), heap_alloc_old _ _ _ (by simp <;> omega), heap_alloc_old _ _ _ (by simp)]; exact heap_alloc_new _ _
    · rw [heap_alloc_old _ _ _ (by simp <;> omega), heap_alloc_old _ _ _ (by simp), show w.heap.size + 1 = (w.alloc (.cells #[.int .i64 n, .int .i64 a, .int .i64 s, .slice A zs.length ca] 27)).heap.size by simp]; exact heap_alloc_new _ _
    · rw [heap_alloc_old _ _ _ (by simp), show w.heap.size + 2 = ((w.alloc (.cells #[.int .i64 n, .int .i64 a, .int .i64 s, .slice A zs.length ca] 27)).alloc (.cells #[.int .i64 0, .int .i64 0, .int .i64 0, .slice none 0 0] 27)).heap.size by simp]; exact heap_alloc_new _ _
  have hX0 : W0.heap[w.heap.size + 1 + 1 + 1]? = some (.cells #[.int .i64 n, .int .i64 a, .int .i64 s, .slice A zs.length ca] 27 (0, 0)) := by
    rw [← hW0, show w.heap.size + 1 + 1 + 1 = (((w.alloc (.cells #[.int .i64 n, .int .i64 a, .int .i64 s, .slice A zs.length ca] 27)).alloc (.cells #[.int .i64 0, .int .i64 0, .int .i64 0, .slice none 0 0] 27)).alloc (.cells #[.bool false] 4)).heap.size by simp]; exact heap_alloc_new _ _
  rw [hW0]
  clear hW0
  refine wpIn_rangeFunc_ownH rfl h1 (gf := 67) (lb := #[.pointer (some ⟨w.heap.size + 1 + 1 + 1, 0, none⟩)]) rfl trivial (enters_of Try.func67 (by kernel_rfl) rfl)
    (iss_stops (3 - 1) (by decide) (w.heap.size + 1 + 1 + 1) n a s A zs.length ca g9 g6 (by omega) g3 (by omega) W0 hX0) (fun _ _ => trivial) (fun _ _ _ _ _ _ _ _ => trivial) (Below.refl _ _) (fun _ => rfl)
    (fun pre W => pre = [] ∧ Is11 w W n a s A zs.length ca W0.heap.size)
    (fun c pre W => c = .ret ∧ ∃ (x : Fin 61) (v : Value), pre = [x] ∧ Out11 w W (n + ((x : Nat) : Int) + 1) a s v (zs ++ [n + ((x : Nat) : Int)]))
    (fun pre X Y row hs hg hr => ⟨hs.1, row_turn11 hs.2.box hg hr (by omega), row_turn11 hs.2.res hg hr (by omega), row_turn11 hs.2.ok hg hr (by omega), ownFrom_below (Nat.le_refl _) (by omega) () X Y row hs.2.bel hg hr, Nat.le_trans hs.2.le hg.size⟩)
    (fun c pre X Y row hs hg hr => by
      obtain ⟨e, x, v, e2, h⟩ := hs
      exact ⟨e, x, v, e2, row_turn11 h.res hg hr (by omega), row_turn11 h.ok hg hr (by omega), own_turn11 h.own hg hr, ownFrom_below (Nat.le_refl _) (by omega) () X Y row h.bel hg hr⟩)
    ⟨rfl, hI0⟩
    (fun x a' W => a' = { tmps := #[gvV n a s (.slice A zs.length ca), .pointer (some ⟨w.heap.size, 0, none⟩), .pointer (some ⟨w.heap.size + 1, 0, none⟩), .pointer (some ⟨w.heap.size + 1 + 1, 0, none⟩), .int .i64 (n + ((x : Nat) : Int)), undef, gvV n a s (.slice A zs.length ca), .func (.func 67) #[] #[.pointer (some ⟨w.heap.size + 1 + 1 + 1, 0, none⟩)], .int .i64 (n + ((x : Nat) : Int)), undef, undef, undef, undef, undef, undef, undef, undef, undef, undef, undef, undef, undef, undef, undef], defers := [] })
    (fun x a' _ X Y row hs _ _ => hs)
    ?assign ?body ?done ?stop
  case assign =>
    rintro l pre x W K hI hK
    gi_wp2
    exact hK _ _ (KeepsFrom.refl _ _) trivial hI rfl
  case body =>
    rintro l pre x a' W hlw ⟨r, hr⟩ ⟨rfl, hI⟩ rfl hlt
    have hxb : ((x : Nat) : Int) ≤ 60 := by have := x.isLt; omega
    have hx0 : (0 : Int) ≤ ((x : Nat) : Int) := by omega
    obtain ⟨N, hN⟩ : ∃ N, n + ((x : Nat) : Int) = N := ⟨_, rfl⟩
    have hN1 : 1 ≤ N := by omega
    have hN2 : N ≤ 1100 := by omega
    have HX : Hid (∀ (W' : World) (v : Value), Out11 w W' (N + 1) a s v (zs ++ [N]) → (∃ (x' : Fin 61) (v : Value), [] ++ [x] = [x'] ∧ Out11 w W' (n + ((x' : Nat) : Int) + 1) a s v (zs ++ [n + ((x' : Nat) : Int)]))) := fun W' v h => ⟨x, v, rfl, by rw [hN]; exact h⟩
    rw [hN]
    clear hN hxb hx0 hr
    have y0 : W.cell? ⟨w.heap.size, 0, none⟩ = some (.int .i64 n) := cell_of_row _ _ 0 _ _ _ hI.box
    have y1 : W.cell? ⟨w.heap.size, 1, none⟩ = some (.int .i64 a) := cell_of_row _ _ 1 _ _ _ hI.box
    have y2 : W.cell? ⟨w.heap.size, 2, none⟩ = some (.int .i64 s) := cell_of_row _ _ 2 _ _ _ hI.box
    have y3 : W.cell? ⟨w.heap.size, 3, none⟩ = some (.slice A zs.length ca) := cell_of_row _ _ 3 _ _ _ hI.box
    have HAW := Lib.hid (ha.below hI.bel)
    have HI := Lib.hid hI
    clear hI hI0 hX0 ha
    gi_wp2_with (first
      | (gi_at_call 66; go_loud (refine (CallsIn.inRound l ((callsIn_wide (n := _)).2 (iClone11 A zs ca W HAW.out hA (by omega)))).mono ?_; rintro e w1 ⟨v1, rfl, ho1, hb1⟩; obtain ⟨B1, c1, rfl, _⟩ := ho1.form; have hb1s := hb1.size))
      | (gi_at_builtin; go_loud (refine wpListIn_append_own _ rfl _ _ 25 rfl W.heap.size 3 i0 (.int .i64 0) 1 8 Try.underlying25 hi hz0 hz1 hz2 rfl (by decide) _ _ _ rfl (World.ownsRow.alloc ho1 _) ⟨w1.heap.size, 0, none⟩ 1 1 [.int .i64 N] rfl rfl (cell_one_new _ _ _) (by simp [Value.oneCell']) (by unfold maxLen; omega) (by omega) (by simp; omega) ?_; intro v' w2 hown' hgrow _; obtain ⟨g', cap', rfl⟩ := ownsRow_succ hown'; have hb2 : Below W.heap.size W w2 := (hb1.trans (gAlloc w1 _ |>.mono hb1.size)).grown hgrow (by simp; have := hb1.size; omega) (fun k hk => (ho1.lt k hk).1); have ho2 : Own w2 W.heap.size (.slice (some ⟨g', 0, none⟩) (zs.length + 1) cap') (zs ++ [N]) := (by show w2.ownsRow _ _ _ _ (zs ++ [N]).length _; rw [List.length_append, List.map_append]; exact hown'); have H1 := (hb2.block _ (heap_lt HI.out.box)).trans HI.out.box; have H2 := (hb2.block _ (heap_lt HI.out.res)).trans HI.out.res; have H3 := (hb2.block _ (heap_lt HI.out.ok)).trans HI.out.ok; have v0 : w2.cell? ⟨w.heap.size, 0, none⟩ = some (.int .i64 n) := cell_of_row _ _ 0 _ _ _ H1; have v1 : w2.cell? ⟨w.heap.size, 1, none⟩ = some (.int .i64 a) := cell_of_row _ _ 1 _ _ _ H1; have v2 : w2.cell? ⟨w.heap.size, 2, none⟩ = some (.int .i64 s) := cell_of_row _ _ 2 _ _ _ H1; have v3 : w2.cell? ⟨w.heap.size, 3, none⟩ = some (.slice A zs.length ca) := cell_of_row _ _ 3 _ _ _ H1; have z0 : w2.cell? ⟨w.heap.size + 1, 0, none⟩ = some (.int .i64 0) := cell_of_row _ _ 0 _ _ _ H2; have z1 : w2.cell? ⟨w.heap.size + 1, 1, none⟩ = some (.int .i64 0) := cell_of_row _ _ 1 _ _ _ H2; have z2 : w2.cell? ⟨w.heap.size + 1, 2, none⟩ = some (.int .i64 0) := cell_of_row _ _ 2 _ _ _ H2; have z3 : w2.cell? ⟨w.heap.size + 1, 3, none⟩ = some (.slice none 0 0) := cell_of_row _ _ 3 _ _ _ H2; have f0 := frozen_of_row w2 _ 0 _ _ H2; have f1 := frozen_of_row w2 _ 1 _ _ H2; have f2 := frozen_of_row w2 _ 2 _ _ H2; have f3 := frozen_of_row w2 _ 3 _ _ H2; have k0 : w2.cell? ⟨w.heap.size + 1 + 1, 0, none⟩ = some (.bool false) := cell_of_row _ _ 0 _ _ _ H3; have l0 := frozen_of_row w2 _ 0 _ _ H3)))
    have hlw2 : w.heap.size + 4 ≤ W.heap.size := by have := HI.out.le; omega
    have hg1 := gGv w2 (w.heap.size + 1) (.int .i64 (N + 1)) (.int .i64 a) (.int .i64 s) (.slice (some ⟨g', 0, none⟩) (zs.length + 1) cap')
    have ho3 : Own _ W.heap.size (.slice (some ⟨g', 0, none⟩) (zs.length + 1) cap') (zs ++ [N]) := ho2.cur (B := w.heap.size + 1) (by omega) hg1
    refine ⟨(KeepsFrom.trans ⟨hb2.size, fun k o _ hk _ => (hb2.block _ (heap_lt hk)).trans hk⟩ (KeepsFrom.of_grownBy hg1 (fun j hj => by injection hj with hj; omega))).trans (KeepsFrom.of_grownBy (gSet11 _ (w.heap.size + 1 + 1) 0 _) (fun j hj => by injection hj with hj; omega)), rfl, HX.out _ (.slice (some ⟨g', 0, none⟩) (zs.length + 1) cap') ⟨?_, ?_, ?_, ?_⟩⟩
    · exact (heap_setCell_other _ ⟨w.heap.size + 1 + 1, 0, none⟩ (w.heap.size + 1) _ (by show w.heap.size + 1 ≠ w.heap.size + 1 + 1; omega)).trans (gv_stored rfl H2 _ _ _ _)
    · exact heap_setCell_same _ _ 0 _ _ _ ((hg1.block _ (heap_lt H3) (by intro e; injection e with e; omega)).trans H3)
    · exact (ho3.cur (B := w.heap.size + 1 + 1) (by omega) (gSet11 _ (w.heap.size + 1 + 1) 0 _)).lower (by omega)
    · exact (below_gv (below_more HI.out.bel hb2) (by omega) _ _ _ _).setCell (by show w.heap.size ≤ w.heap.size + 1 + 1; omega) _
  case done =>
    rintro D ys W hD rfl ⟨hnil, hI⟩ hK
    have hc0 : cnt11 n s zs.length = 0 := by rw [← els11_length (cnt11 n s zs.length), hnil]; rfl
    have HI := Lib.hid hI
    have z0 : W.cell? ⟨w.heap.size + 1, 0, none⟩ = some (.int .i64 0) := cell_of_row _ _ 0 _ _ _ hI.res
    have z1 : W.cell? ⟨w.heap.size + 1, 1, none⟩ = some (.int .i64 0) := cell_of_row _ _ 1 _ _ _ hI.res
    have z2 : W.cell? ⟨w.heap.size + 1, 2, none⟩ = some (.int .i64 0) := cell_of_row _ _ 2 _ _ _ hI.res
    have z3 : W.cell? ⟨w.heap.size + 1, 3, none⟩ = some (.slice none 0 0) := cell_of_row _ _ 3 _ _ _ hI.res
    have f0 := frozen_of_row W _ 0 _ _ hI.res
    have f1 := frozen_of_row W _ 1 _ _ hI.res
    have f2 := frozen_of_row W _ 2 _ _ hI.res
    have f3 := frozen_of_row W _ 3 _ _ hI.res
    have k0 : W.cell? ⟨w.heap.size + 1 + 1, 0, none⟩ = some (.bool false) := cell_of_row _ _ 0 _ _ _ hI.ok
    have l0 := frozen_of_row W _ 0 _ _ hI.ok
    clear hI hI0 hX0 ha
    gi_wp2
    have hg1 := gGv W (w.heap.size + 1) (.int .i64 0) (.int .i64 0) (.int .i64 0) (.slice none 0 0)
    have hg2 := gSet11 ((((W.setCell ⟨w.heap.size + 1, 0, none⟩ (.int .i64 0)).setCell ⟨w.heap.size + 1, 1, none⟩ (.int .i64 0)).setCell ⟨w.heap.size + 1, 2, none⟩ (.int .i64 0)).setCell ⟨w.heap.size + 1, 3, none⟩ (.slice none 0 0)) (w.heap.size + 1 + 1) 0 (.bool false)
    have hr1 := gv_stored rfl HI.out.res (.int .i64 0) (.int .i64 0) (.int .i64 0) (.slice none 0 0)
    have hb1 := below_gv HI.out.bel (show w.heap.size ≤ w.heap.size + 1 by omega) (.int .i64 0) (.int .i64 0) (.int .i64 0) (.slice none 0 0)
    have hk1 := (hg1.block _ (heap_lt HI.out.ok) (by intro e; injection e with e; omega)).trans HI.out.ok
    have hK1 := (hg1.block _ (heap_lt hK) (by intro e; injection e with e; omega)).trans hK
    generalize (((W.setCell ⟨w.heap.size + 1, 0, none⟩ (.int .i64 0)).setCell ⟨w.heap.size + 1, 1, none⟩ (.int .i64 0)).setCell ⟨w.heap.size + 1, 2, none⟩ (.int .i64 0)).setCell ⟨w.heap.size + 1, 3, none⟩ (.slice none 0 0) = W2 at *
    have hr2 := (hg2.block _ (heap_lt hr1) (by intro e; injection e with e; omega)).trans hr1
    have hk2 : (W2.setCell ⟨w.heap.size + 1 + 1, 0, none⟩ (.bool false)).heap[w.heap.size + 1 + 1]? = some (.cells #[.bool false] 4 (0, 0)) := heap_setCell_same _ _ 0 _ _ _ hk1
    have hK2 := (hg2.block _ (heap_lt hK1) (by intro e; injection e with e; omega)).trans hK1
    have hb2 : Below w.heap.size w (W2.setCell ⟨w.heap.size + 1 + 1, 0, none⟩ (.bool false)) := hb1.setCell (by show w.heap.size ≤ w.heap.size + 1 + 1; omega) _
    generalize W2.setCell ⟨w.heap.size + 1 + 1, 0, none⟩ (.bool false) = W3 at *
    refine ⟨by simp, .inl ⟨_, _, rfl, run_takeDeferred hK2, ?_⟩⟩
    have hg3 := grownBy_putObj' W3 D (.deferred none)
    refine ⟨_, results_gb11 rfl (g := w.heap.size + 1) (d := w.heap.size + 1 + 1) rfl rfl ((hg3.block _ (heap_lt hr2) (by intro e; injection e with e; omega)).trans hr2) ((hg3.block _ (heap_lt hk2) (by intro e; injection e with e; omega)).trans hk2), .inl ⟨hc0, rfl, ?_⟩⟩
    exact hb2.trans (belowK_b (w := w) (Nat.le_refl _) W3 D _ _ (by omega) hK2 rfl rfl)
  case stop =>
    rintro D c pre W hD ⟨j, hj1, hj2, rfl⟩ ⟨rfl, x, v, e, h⟩ hK
    obtain rfl : j = 1 := by have := congrArg List.length e; rw [els11_length] at this; simpa using this
    have hx : ((x : Nat) : Int) = 0 := by
      have e1 : els11 1 = [el11 0] := rfl
      rw [e1] at e
      injection e with e
      rw [← e]; rfl
    rw [hx, Int.add_zero] at h
    have H := Lib.hid h
    clear h hx e ha hI0 hX0
    gi_wp2
    refine ⟨by simp, .inl ⟨_, _, rfl, run_takeDeferred hK, ?_⟩⟩
    have hg3 := grownBy_putObj' W D (.deferred none)
    refine ⟨_, results_gb11 rfl (g := w.heap.size + 1) (d := w.heap.size + 1 + 1) rfl rfl ((hg3.block _ (heap_lt H.out.res) (by intro e; injection e with e; omega)).trans H.out.res) ((hg3.block _ (heap_lt H.out.ok) (by intro e; injection e with e; omega)).trans H.out.ok), .inr ⟨hj2, v, rfl, ?_, ?_⟩⟩
    · exact own_turn11 (B := D) H.out.own hg3 (fun r e => by injection e with e; subst e; exact ⟨Nat.le_refl _, _, hK, rfl⟩)
    · exact H.out.bel.trans (belowK_b (w := w) (Nat.le_refl _) W D _ _ (by omega) hK rfl rfl)

theorem issue_any (n a s : Int) (A : Option Addr) (zs : List Int) (ca : Nat) (w : World) (ha : Ints w A zs) (hA : Lies9 A ca) (hg : goodGB n a s zs = true) :
    Calls Try.prog 50 #[gvV n a s (.slice A zs.length ca)] w fun e w' => (cnt11 n s zs.length = 0 ∧ e = .returned (.tuple #[gvV 0 0 0 (.slice none 0 0), .bool false]) ∧ Below w.heap.size w w') ∨ (1 ≤ cnt11 n s zs.length ∧ ∃ v, e = .returned (.tuple #[gvV (n + 1) a s v, .bool true]) ∧ Own w' w.heap.size v (zs ++ [n]) ∧ Below w.heap.size w w') :=
  (callsIn_wide (n := 3)).1 (issue_in n a s A zs ca w ha hA hg)
theorem cnt_room {n a s : Int} {zs : List Int} (hg : goodGB n a s zs = true) : roI11 n a s zs = (cnt11 n s zs.length : Nat) := by
  obtain ⟨⟨g1, g2⟩, ⟨g3, g4⟩, g5, ⟨g6, g7⟩, -, g9⟩ := gvr_ok hg
  rw [roI11, if_pos hg, cnt11]
  omega
set_option maxRecDepth 100000 in
set_option maxHeartbeats 4000000 in
theorem room_in (n a s : Int) (A : Option Addr) (zs : List Int) (ca : Nat) (w : World) (ha : Ints w A zs) (hl : zs.length ≤ 1048576) (hs : -9223372036854775808 ≤ s) :
    CallsIn Fence.wide 3 Try.prog 27 #[gvV n a s (.slice A zs.length ca)] w fun e w' => e = .returned (.tuple #[.int .i64 (roI11 n a s zs), .bool (goodGB n a s zs)]) ∧ Below w.heap.size w w' := by
  have h1 : 1 ≤ 3 := by decide
  have h1' : 1 ≤ 3 - 1 - 1 := by decide
  have hF54 : Fence.wide.fn 54 := trivial
  have hF17 : Fence.wide.fn 17 := trivial
  obtain ⟨W, hW⟩ : ∃ W, w.alloc (.cells #[.int .i64 n, .int .i64 a, .int .i64 s, .slice A zs.length ca] 27) = W := ⟨_, rfl⟩
  have hbW : Below w.heap.size w W := by rw [← hW]; exact gAlloc _ _
  have hg1 : W.heap[w.heap.size]? = some (.cells #[.int .i64 n, .int .i64 a, .int .i64 s, .slice A zs.length ca] 27 (0, 0)) := by rw [← hW]; exact heap_alloc_new _ _
  have x0 : W.cell? ⟨w.heap.size, 0, none⟩ = some (.int .i64 n) := cell_of_row _ _ 0 _ _ _ hg1
  have x1 : W.cell? ⟨w.heap.size, 1, none⟩ = some (.int .i64 a) := cell_of_row _ _ 1 _ _ _ hg1
  have x2 : W.cell? ⟨w.heap.size, 2, none⟩ = some (.int .i64 s) := cell_of_row _ _ 2 _ _ _ hg1
  have x3 : W.cell? ⟨w.heap.size, 3, none⟩ = some (.slice A zs.length ca) := cell_of_row _ _ 3 _ _ _ hg1
  have HG := Lib.hid (iGoodG n a s A zs ca W (ha.below hbW) hl hs)
  have HB := Lib.hid hbW
  have H1 := Lib.hid hg1
  clear hbW hg1 ha
  cases hg : goodGB n a s zs
  · have hlo : roI11 n a s zs = 0 := by rw [roI11, hg]; rfl
    rw [hg] at HG
    rw [hlo]
    clear hg hlo
    refine callsIn_of_wp_marks Try.func27 rfl trivial ?_ rfl
    simp only [Try.ntmps27, List.size_toArray, List.length_cons, List.length_nil, Nat.reduceAdd, Nat.reduceSub, Array.replicate_succ, Array.replicate_zero, List.push_toArray, List.append_toArray, List.nil_append, List.cons_append]
    gi_wp2_with (gi_at_call 17; refine ((callsIn_wide (n := _)).2 HG.out).mono ?_; rintro e w1 ⟨rfl, hb1⟩)
    show LeavesInM _ _ _ _ _ _ _ _ _
    refine ⟨_, results_tmp2 rfl _ _ _, rfl, below_more HB.out hb1⟩
  · have hro := cnt_room hg
    obtain ⟨⟨g1, g2⟩, ⟨g3, g4⟩, g5, ⟨g6, g7⟩, -, g9⟩ := gvr_ok hg
    rw [hg] at HG
    rw [hro]
    clear hg hro
    refine callsIn_of_wp_marks Try.func27 rfl trivial ?_ rfl
    simp only [Try.ntmps27, List.size_toArray, List.length_cons, List.length_nil, Nat.reduceAdd, Nat.reduceSub, Array.replicate_succ, Array.replicate_zero, List.push_toArray, List.append_toArray, List.nil_append, List.cons_append]
    gi_wp2_with (first
      | (gi_at_call 17; refine ((callsIn_wide (n := _)).2 HG.out).mono ?_; rintro e w1 ⟨rfl, hb1⟩; have H2 := (hb1.block _ (heap_lt H1.out)).trans H1.out; have H3 : (w1.alloc (.cells #[.int .i64 0] 3)).heap[w.heap.size]? = some (.cells #[.int .i64 n, .int .i64 a, .int .i64 s, .slice A zs.length ca] 27 (0, 0)) := (heap_alloc_old _ _ _ (heap_lt H2)).trans H2; have y0 : (w1.alloc (.cells #[.int .i64 0] 3)).cell? ⟨w.heap.size, 0, none⟩ = some (.int .i64 n) := cell_of_row _ _ 0 _ _ _ H3; have y1 : (w1.alloc (.cells #[.int .i64 0] 3)).cell? ⟨w.heap.size, 1, none⟩ = some (.int .i64 a) := cell_of_row _ _ 1 _ _ _ H3; have y2 : (w1.alloc (.cells #[.int .i64 0] 3)).cell? ⟨w.heap.size, 2, none⟩ = some (.int .i64 s) := cell_of_row _ _ 2 _ _ _ H3; have y3 : (w1.alloc (.cells #[.int .i64 0] 3)).cell? ⟨w.heap.size, 3, none⟩ = some (.slice A zs.length ca) := cell_of_row _ _ 3 _ _ _ H3)
      | (gi_at_call 54; refine (iss_in (3 - 1) n a s A zs.length ca _).mono ?_; rintro e w' ⟨rfl, rfl⟩))
    obtain ⟨W0, hW0⟩ : ∃ W0, (w1.alloc (.cells #[.int .i64 0] 3)).alloc (.cells #[.int .i64 n, .int .i64 a, .int .i64 s, .slice A zs.length ca] 27) = W0 := ⟨_, rfl⟩
    have hsz : W0.heap.size = w1.heap.size + 2 := by rw [← hW0]; simp
    have hB0 : Below w.heap.size w W0 := by rw [← hW0]; exact below_more (below_more HB.out hb1) ((gAlloc w1 _).alloc (by simp) _)
    have hR0 : Boxed W0 w1.heap.size 3 (.int .i64 ((([] : List (Fin 61)).length : Nat) : Int)) := by rw [← hW0]; exact (Boxed.new w1 _ _).alloc _
    have hX0 : W0.heap[w1.heap.size + 1]? = some (.cells #[.int .i64 n, .int .i64 a, .int .i64 s, .slice A zs.length ca] 27 (0, 0)) := by rw [← hW0, show w1.heap.size + 1 = (w1.alloc (.cells #[.int .i64 0] 3)).heap.size by simp]; exact heap_alloc_new _ _
    have hsw : w.heap.size < w1.heap.size := heap_lt H2
    rw [hW0]
    clear hW0 y0 y1 y2 y3 x0 x1 x2 x3 hW HG HB H1 H2 H3 hb1
    refine wpIn_rangeFunc_ownH rfl h1 (gf := 67) (lb := #[.pointer (some ⟨w1.heap.size + 1, 0, none⟩)]) rfl trivial (enters_of Try.func67 (by kernel_rfl) rfl)
      (iss_stops (3 - 1) (by decide) (w1.heap.size + 1) n a s A zs.length ca g9 g6 (by omega) g3 (by omega) W0 hX0) (fun _ _ => trivial) (fun _ _ _ _ _ _ _ _ => trivial) (Below.refl _ _) (fun _ => rfl)
      (fun pre W => Boxed W w1.heap.size 3 (.int .i64 ((pre.length : Nat) : Int)) ∧ Below w.heap.size w W ∧ W0.heap.size ≤ W.heap.size)
      (fun _ _ _ => False)
      (fun pre X Y row hs hg hr => ⟨row_turn11 hs.1 hg hr (by omega), ownFrom_below (Nat.le_refl _) (by omega) () X Y row hs.2.1 hg hr, Nat.le_trans hs.2.2 hg.size⟩)
      (fun _ _ _ _ _ hs _ _ => hs)
      ⟨hR0, hB0, Nat.le_refl _⟩
      (fun x a' W => a' = { tmps := #[gvV n a s (.slice A zs.length ca), .pointer (some ⟨w.heap.size, 0, none⟩), .int .i64 0, .bool false, .pointer (some ⟨w1.heap.size, 0, none⟩), gvV n a s (.slice A zs.length ca), .bool true, .bool false, gvV n a s (.slice A zs.length ca), .func (.func 67) #[] #[.pointer (some ⟨w1.heap.size + 1, 0, none⟩)], .int .i64 (n + ((x : Nat) : Int)), undef, undef, undef], defers := [] })
      (fun x a' _ X Y row hs _ _ => hs)
      ?assign ?body ?done ?stop
    case assign =>
      rintro l pre x W K hI hK
      gi_wp2
      exact hK _ _ (KeepsFrom.refl _ _) trivial hI (by first | (simp; done) | (simp [Array.zip]; done) | rfl | kernel_rfl | decide)
    case body =>
      rintro l pre x a' W hlw ⟨r, hr⟩ ⟨hbx, hbel, hle⟩ rfl hlt
      have hc := hbx.cell
      have hf := hbx.frozen
      have hpl : ((pre.length : Nat) : Int) ≤ 60 := by omega
      have hp0 : (0 : Int) ≤ ((pre.length : Nat) : Int) := by omega
      have HLn : Hid ((((pre ++ [x]).length : Nat) : Int) = ((pre.length : Nat) : Int) + 1) := by show _ = _; rw [List.length_append]; simp
      have HBx := Lib.hid hbx
      clear hr hbx hX0 hR0 hB0
      gi_wp2
      refine ⟨KeepsFrom.of_grownBy (gSet11 W w1.heap.size 0 _) (fun j hj => by injection hj with hj; omega), trivial, ?_, hbel.setCell (by show w.heap.size ≤ w1.heap.size; omega) _, by simpa using hle⟩
      rw [HLn.out]
      exact HBx.out.set _
    case done =>
      rintro D ys W hD rfl ⟨hbx, hbel, hle⟩ hK
      have hc := hbx.cell
      rw [els11_length] at hc
      have HBl := Lib.hid hbel
      clear hbx hX0 hR0 hB0 hbel
      gi_wp2
      refine ⟨by simp, .inl ⟨_, _, rfl, run_takeDeferred hK, ?_⟩⟩
      refine ⟨_, results_tmp2 rfl _ _ _, rfl, HBl.out.trans (belowK_b (w := w) (Nat.le_refl _) W D _ _ (by omega) hK rfl rfl)⟩
    case stop =>
      rintro D c pre W _ _ h _
      exact h.elim
theorem iRoom11 (n a s : Int) (A : Option Addr) (zs : List Int) (ca : Nat) (w : World) (ha : Ints w A zs) (hl : zs.length ≤ 1048576) (hs : -9223372036854775808 ≤ s) :
    Calls Try.prog 27 #[gvV n a s (.slice A zs.length ca)] w fun e w' => e = .returned (.tuple #[.int .i64 (roI11 n a s zs), .bool (goodGB n a s zs)]) ∧ Below w.heap.size w w' :=
  (callsIn_wide (n := 3)).1 (room_in n a s A zs ca w ha hl hs)
end Go.Proofs.Ytbegikjoialahaa
