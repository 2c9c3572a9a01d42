/-
  The laws' helpers on allocators of numbers: toGiver, eqGiver, markGiver, heldGiver, szGiver, sameGiver.
-/
import Derived.Test.YtbegikjoialahaaGT
namespace Go.Proofs.Ytbegikjoialahaa
open Go.RowKit

/-- An allocator of numbers as a value. -/
abbrev gvV (n a s : Int) (v : Value) : Value := .agg #[.int .i64 n, .int .i64 a, .int .i64 s, v]
theorem infoGv : (Try.prog.info? 27).map (·.size) = some 4 := by kernel_rfl
theorem ret_gv {fn : Func} {p : Tmp} (h : fn.results = #[.cell p 27]) {R : Ending → World → Prop} {b : Act} {w : World} (g : Nat) (n a s : Int) (v : Value) (hp : b.tmps.getD p undef = .pointer (some ⟨g, 0, none⟩))
    (hg : w.heap[g]? = some (.cells #[.int .i64 n, .int .i64 a, .int .i64 s, v] 27 (0, 0))) (hd : b.defers = []) (hR : R (.returned (gvV n a s v)) w) : bodyPost Try.prog fn R .ret b w :=
  bodyPost_ret (results_cell_row h _ _ g 27 #[.int .i64 n, .int .i64 a, .int .i64 s, v] (0, 0) _ hp hg Try.underlying27 rfl infoGv) hd hR
theorem ret_gv2 {fn : Func} {p q : Tmp} (h : fn.results = #[.cell p 27, .tmp q]) {R : Ending → World → Prop} {c : Act} {w : World} (g : Nat) (n a s : Int) (v : Value) (b : Bool) (hp : c.tmps.getD p undef = .pointer (some ⟨g, 0, none⟩)) (hu : c.tmps.getD q undef = .bool b)
    (hg : w.heap[g]? = some (.cells #[.int .i64 n, .int .i64 a, .int .i64 s, v] 27 (0, 0))) (hd : c.defers = []) (hR : R (.returned (.tuple #[gvV n a s v, .bool b])) w) : bodyPost Try.prog fn R .ret c w := by
  have hp' : c.tmps[p]?.getD undef = .pointer (some ⟨g, 0, none⟩) := by simpa using hp
  have hu' : c.tmps[q]?.getD undef = .bool b := by simpa using hu
  refine bodyPost_ret (v := .tuple #[gvV n a s v, .bool b]) ?_ hd hR
  rw [results_cell_tmp h]
  simp [hp', hu', asAddr, run_loadVar_row w g 27 27 #[.int .i64 n, .int .i64 a, .int .i64 s, v] (0, 0) _ hg Try.underlying27 rfl infoGv]
theorem gSet11 (w : World) (X j : Nat) (u : Value) : w.grownBy (w.setCell ⟨X, j, none⟩ u) (some X) :=
  ⟨rfl, rfl, rfl, by simp, fun k _ hk => heap_setCell_other w ⟨X, j, none⟩ k u (fun e => hk (by rw [e]))⟩
/-- What is stored into a box whole. -/
theorem gv_stored {w : World} {X : Nat} {cs : Array Value} {t : TypeId} (hcs : cs.size = 4) (h : w.heap[X]? = some (.cells cs t (0, 0))) (p q r u : Value) :
    ((((w.setCell ⟨X, 0, none⟩ p).setCell ⟨X, 1, none⟩ q).setCell ⟨X, 2, none⟩ r).setCell ⟨X, 3, none⟩ u).heap[X]? = some (.cells #[p, q, r, u] t (0, 0)) := by
  have h := heap_setCell_same _ _ 3 _ _ u (heap_setCell_same _ _ 2 _ _ r (heap_setCell_same _ _ 1 _ _ q (heap_setCell_same _ _ 0 _ _ p h)))
  refine h.trans ?_
  congr 2
  obtain ⟨l⟩ := cs
  match l, hcs with
  | [a, b, c, d], _ => rfl
theorem below_gv {n X : Nat} {w w' : World} (hb : Below n w w') (h : n ≤ X) (p q r u : Value) : Below n w ((((w'.setCell ⟨X, 0, none⟩ p).setCell ⟨X, 1, none⟩ q).setCell ⟨X, 2, none⟩ r).setCell ⟨X, 3, none⟩ u) := (((hb.setCell h _).setCell h _).setCell h _).setCell h _
theorem gGv (w : World) (X : Nat) (p q r u : Value) : w.grownBy ((((w.setCell ⟨X, 0, none⟩ p).setCell ⟨X, 1, none⟩ q).setCell ⟨X, 2, none⟩ r).setCell ⟨X, 3, none⟩ u) (some X) :=
  grownBy_trans (grownBy_trans (grownBy_trans (gSet11 w X 0 p) (gSet11 _ X 1 q)) (gSet11 _ X 2 r)) (gSet11 _ X 3 u)
set_option maxRecDepth 100000 in
set_option maxHeartbeats 1000000 in
theorem toGv_any (n a s : Int) (A : Option Addr) (zs : List Int) (c : Nat) (w : World) (ha : Ints w A zs) (hn : zs.length ≤ 1048576) :
    Calls Try.prog 33 #[gvV n a s (.slice A zs.length c)] w fun e w' => ∃ v, e = .returned (gvV n a s v) ∧ Own w' w.heap.size v zs ∧ Below w.heap.size w w' := by
  obtain ⟨W, hW⟩ : ∃ W, ((w.alloc (.cells #[.int .i64 n, .int .i64 a, .int .i64 s, .slice A zs.length c] 47)).alloc (.cells #[.int .i64 0, .int .i64 0, .int .i64 0, .slice none 0 0] 27)).alloc (.cells #[.int .i64 n, .int .i64 a, .int .i64 s, .slice none 0 0] 27) = W := ⟨_, rfl⟩
  have hs : W.heap.size = w.heap.size + 3 := by rw [← hW]; simp
  have hbW : Below w.heap.size w W := by rw [← hW]; exact ((gAlloc w _).alloc (by simp) _).alloc (by simp; omega) _
  have h3 : W.heap[w.heap.size + 1 + 1]? = some (.cells #[.int .i64 n, .int .i64 a, .int .i64 s, .slice none 0 0] 27 (0, 0)) := by
    rw [← hW, show w.heap.size + 1 + 1 = ((w.alloc (.cells #[.int .i64 n, .int .i64 a, .int .i64 s, .slice A zs.length c] 47)).alloc (.cells #[.int .i64 0, .int .i64 0, .int .i64 0, .slice none 0 0] 27)).heap.size by simp]; exact heap_alloc_new _ _
  have h2 : W.heap[w.heap.size + 1]? = some (.cells #[.int .i64 0, .int .i64 0, .int .i64 0, .slice none 0 0] 27 (0, 0)) := by
    rw [← hW, heap_alloc_old _ _ _ (by simp)]
    rw [show w.heap.size + 1 = (w.alloc (.cells #[.int .i64 n, .int .i64 a, .int .i64 s, .slice A zs.length c] 47)).heap.size by simp]; exact heap_alloc_new _ _
  have HB := Lib.hid hbW
  have HA := Lib.hid (ha.below hbW)
  have H2 := Lib.hid h2
  have H3 := Lib.hid h3
  have HS := Lib.hid hs
  have HW := Lib.hid hW
  clear ha hbW h2 h3 hs hW
  go_enter Try.func33, Try.ntmps33
  go_wp2_with fail
  rw [HW.out]
  refine (toInts_any A zs c W HA.out (by omega)).mono ?_
  rintro e w1 ⟨v, rfl, ho, hb⟩
  obtain ⟨B, c1, rfl, _⟩ := ho.form
  have K2 := Lib.hid ((hb.block _ (heap_lt H2.out)).trans H2.out)
  have K3 := Lib.hid ((hb.block _ (heap_lt H3.out)).trans H3.out)
  have HB1 := Lib.hid (below_more HB.out hb)
  have HO := Lib.hid ho
  have hs1 := hb.size
  have hs := HS.out
  clear ho hb
  have y0 : w1.cell? ⟨w.heap.size + 1 + 1, 0, none⟩ = some (.int .i64 n) := cell_of_row _ _ 0 _ _ _ K3.out
  have y1 : w1.cell? ⟨w.heap.size + 1 + 1, 1, none⟩ = some (.int .i64 a) := cell_of_row _ _ 1 _ _ _ K3.out
  have y2 : w1.cell? ⟨w.heap.size + 1 + 1, 2, none⟩ = some (.int .i64 s) := cell_of_row _ _ 2 _ _ _ K3.out
  have y3 : w1.cell? ⟨w.heap.size + 1 + 1, 3, none⟩ = some (.slice none 0 0) := cell_of_row _ _ 3 _ _ _ K3.out
  have g3 := frozen_of_row w1 _ 3 _ _ K3.out
  have z0 : w1.cell? ⟨w.heap.size + 1, 0, none⟩ = some (.int .i64 0) := cell_of_row _ _ 0 _ _ _ K2.out
  have z1 : w1.cell? ⟨w.heap.size + 1, 1, none⟩ = some (.int .i64 0) := cell_of_row _ _ 1 _ _ _ K2.out
  have z2 : w1.cell? ⟨w.heap.size + 1, 2, none⟩ = some (.int .i64 0) := cell_of_row _ _ 2 _ _ _ K2.out
  have z3 : w1.cell? ⟨w.heap.size + 1, 3, none⟩ = some (.slice none 0 0) := cell_of_row _ _ 3 _ _ _ K2.out
  have f0 := frozen_of_row w1 _ 0 _ _ K2.out
  have f1 := frozen_of_row w1 _ 1 _ _ K2.out
  have f2 := frozen_of_row w1 _ 2 _ _ K2.out
  have f3 := frozen_of_row w1 _ 3 _ _ K2.out
  clear hs hs1
  go_wp2_with fail
  have hs := HS.out
  have hr := gv_stored rfl ((heap_setCell_other w1 ⟨w.heap.size + 1 + 1, 3, none⟩ (w.heap.size + 1) (.slice B zs.length c1) (by show w.heap.size + 1 ≠ w.heap.size + 1 + 1; omega)).trans K2.out) (.int .i64 n) (.int .i64 a) (.int .i64 s) (.slice B zs.length c1)
  refine ret_gv rfl (w.heap.size + 1) n a s _ rfl hr rfl ⟨_, rfl, ?_, below_gv (HB1.out.setCell (by show w.heap.size ≤ w.heap.size + 1 + 1; omega) _) (by omega) _ _ _ _⟩
  exact ((HO.out.cur (by omega) (gSet11 w1 (w.heap.size + 1 + 1) 3 (.slice B zs.length c1))).cur (by omega) (gGv _ (w.heap.size + 1) _ _ _ _)).lower (by omega)
set_option maxRecDepth 100000 in
theorem eqGv_self (n a s : Int) (A B : Option Addr) (zs : List Int) (ca cb : Nat) (w : World) (ha : Ints w A zs) (hb : Ints w B zs) (hl : zs.length ≤ 1048576) :
    Calls Try.prog 29 #[gvV n a s (.slice A zs.length ca), gvV n a s (.slice B zs.length cb)] w fun e w' => e = .returned (.bool true) ∧ Below w.heap.size w w' := by
  have HA := Lib.hid (ha.below (gAlloc2 w (.cells #[.int .i64 n, .int .i64 a, .int .i64 s, .slice A zs.length ca] 27) (.cells #[.int .i64 n, .int .i64 a, .int .i64 s, .slice B zs.length cb] 27)))
  have HB := Lib.hid (hb.below (gAlloc2 w (.cells #[.int .i64 n, .int .i64 a, .int .i64 s, .slice A zs.length ca] 27) (.cells #[.int .i64 n, .int .i64 a, .int .i64 s, .slice B zs.length cb] 27)))
  have HG := Lib.hid (gAlloc2 w (.cells #[.int .i64 n, .int .i64 a, .int .i64 s, .slice A zs.length ca] 27) (.cells #[.int .i64 n, .int .i64 a, .int .i64 s, .slice B zs.length cb] 27))
  have h0 : (n != n) = false := by simp
  have h1 : (a != a) = false := by simp
  have h2 : (s != s) = false := by simp
  have HQ : Hid (eqL zs zs = true) := by show _ = _; simp [eqL]
  clear ha hb
  go_enter Try.func29, Try.ntmps29
  go_wp2_with fail
  refine (eqInts_any A B zs zs ca cb _ HA.out HB.out (by omega)).mono ?_
  rintro e w1 ⟨rfl, k, rfl⟩
  rw [HQ.out]
  go_wp2_with fail
  go_ret
  exact ⟨rfl, below_more HG.out (gDrewN k)⟩
set_option maxRecDepth 100000 in
theorem sameGv_self (n a s : Int) (A B : Option Addr) (zs : List Int) (ca cb : Nat) (w : World) (ha : Ints w A zs) (hb : Ints w B zs) (hl : zs.length ≤ 1048576) :
    Calls Try.prog 15 #[gvV n a s (.slice A zs.length ca), gvV n a s (.slice B zs.length cb)] w fun e w' => e = .returned (.bool true) ∧ Below w.heap.size w w' := by
  have HA := Lib.hid (ha.below (gAlloc2 w (.cells #[.int .i64 n, .int .i64 a, .int .i64 s, .slice A zs.length ca] 27) (.cells #[.int .i64 n, .int .i64 a, .int .i64 s, .slice B zs.length cb] 27)))
  have HB := Lib.hid (hb.below (gAlloc2 w (.cells #[.int .i64 n, .int .i64 a, .int .i64 s, .slice A zs.length ca] 27) (.cells #[.int .i64 n, .int .i64 a, .int .i64 s, .slice B zs.length cb] 27)))
  have HG := Lib.hid (gAlloc2 w (.cells #[.int .i64 n, .int .i64 a, .int .i64 s, .slice A zs.length ca] 27) (.cells #[.int .i64 n, .int .i64 a, .int .i64 s, .slice B zs.length cb] 27))
  have h0 : (n == n) = true := by simp
  have h1 : (a == a) = true := by simp
  have h2 : (s == s) = true := by simp
  have HQ : Hid (eqL zs zs = true) := by show _ = _; simp [eqL]
  clear ha hb
  go_enter Try.func15, Try.ntmps15
  go_wp2_with fail
  refine (sameInts_any A B zs zs ca cb _ HA.out HB.out (by omega)).mono ?_
  rintro e w1 ⟨rfl, k, rfl⟩
  rw [HQ.out]
  go_wp2_with fail
  go_ret
  exact ⟨rfl, below_more HG.out (gDrewN k)⟩
set_option maxRecDepth 100000 in
theorem heldGv_any (n a s : Int) (A : Option Addr) (k : Int) (m c : Nat) (w : World) (ha : Ints w A (marks k m)) (hn : m ≤ 1048576) (h1 : 0 ≤ k) (h2 : k ≤ 140737488355328) :
    Calls Try.prog 31 #[gvV n a s (.slice A m c), .int .i64 k] w fun e w' => e = .returned (.int .i64 (k + m)) ∧ Below w.heap.size w w' := by
  have HA := Lib.hid (ha.below (gAlloc w (.cells #[.int .i64 n, .int .i64 a, .int .i64 s, .slice A m c] 27)))
  have HG := Lib.hid (gAlloc w (.cells #[.int .i64 n, .int .i64 a, .int .i64 s, .slice A m c] 27))
  have hk : ¬ (k + (m : Int) < 0) := by omega
  clear ha
  go_enter Try.func31, Try.ntmps31
  go_wp2_with fail
  refine (heldInts_any A k m c _ HA.out (by omega) h1 h2).mono ?_
  rintro e w1 ⟨rfl, rfl⟩
  go_wp2_with fail
  go_ret
  exact ⟨rfl, HG.out⟩
set_option maxRecDepth 100000 in
theorem markGv_any (n a s : Int) (v : Value) (zs : List Int) (base : Nat) (k : Int) (w : World) (ho : Own w base v zs) (hn : zs.length ≤ 1048576) (h1 : 0 ≤ k) (h2 : k ≤ 140737488355328) :
    Calls Try.prog 30 #[gvV n a s v, .int .i64 k] w fun e w' => e = .returned (.int .i64 (k + zs.length)) ∧ Own w' base v (marks k zs.length) ∧ w.grownBy w' v.ownBlock := by
  obtain ⟨A, c, rfl, _⟩ := ho.form
  have HO := Lib.hid (ho.below (gAlloc w (.cells #[.int .i64 n, .int .i64 a, .int .i64 s, .slice A zs.length c] 27)))
  clear ho
  go_enter Try.func30, Try.ntmps30
  go_wp2_with fail
  refine (markInts_any _ zs base k _ HO.out (by omega) h1 h2).mono ?_
  rintro e w1 ⟨rfl, ho1, hg1⟩
  go_wp2_with fail
  go_ret
  exact ⟨rfl, ho1, grownBy_trans (World.grownBy_alloc _ _ _) hg1⟩
set_option maxRecDepth 100000 in
theorem szI_any (A : Option Addr) (l : Nat) (c : Nat) (left : Int) (w : World) (hl : l ≤ 9223372036854775807) (h0 : 0 ≤ left) (h1 : left ≤ 1048576) :
    Calls Try.prog 59 #[.slice A l c, .int .i64 left] w fun e w' => (∃ r : Int, e = .returned (.int .i64 r) ∧ ((r < 0) ∨ (0 ≤ r ∧ (l : Int) = left - r))) ∧ w = w' := by
  by_cases h : (l : Int) ≤ left
  · have hi : ¬ left - (l : Int) < 0 := by omega
    go_enter Try.func59, Try.ntmps59
    go_wp2_with fail
    go_ret
    exact ⟨⟨left - l, rfl, Or.inr ⟨by omega, by omega⟩⟩, rfl⟩
  · have hi : left - (l : Int) < 0 := by omega
    go_enter Try.func59, Try.ntmps59
    go_wp2_with fail
    go_ret
    exact ⟨⟨-1, rfl, Or.inl (by omega)⟩, rfl⟩
set_option maxRecDepth 100000 in
theorem szGv_any (n a s : Int) (A : Option Addr) (l : Nat) (c : Nat) (left : Int) (w : World) (hl : l ≤ 9223372036854775807) (h0 : 0 ≤ left) (h1 : left ≤ 1048576) :
    Calls Try.prog 32 #[gvV n a s (.slice A l c), .int .i64 left] w fun e w' => (∃ r : Int, e = .returned (.int .i64 r) ∧ ((r < 0) ∨ (0 ≤ r ∧ (l : Int) = left - r))) ∧ Below w.heap.size w w' := by
  have HG := Lib.hid (gAlloc w (.cells #[.int .i64 n, .int .i64 a, .int .i64 s, .slice A l c] 47))
  go_enter Try.func32, Try.ntmps32
  go_wp2_with fail
  refine (szI_any A l c left _ hl h0 h1).mono ?_
  rintro e w1 ⟨⟨r, rfl, hr⟩, rfl⟩
  rcases hr with hr | ⟨hr0, hr1⟩
  · go_wp2_with fail
    go_ret
    exact ⟨⟨-1, rfl, Or.inl (by omega)⟩, HG.out⟩
  · have hi : ¬ r < 0 := by omega
    have HR := Lib.hid hr1
    clear hr1
    go_wp2_with fail
    go_ret
    exact ⟨⟨r, rfl, Or.inr ⟨hr0, HR.out⟩⟩, HG.out⟩
end Go.Proofs.Ytbegikjoialahaa
