/-
  The draws of chapter 11, last part: what each law is drawn from.
-/
import Derived.Test.YtbegikjoialahaaHA
namespace Go.Proofs.Ytbegikjoialahaa
open Go.RowKit

theorem byts_on11 {w w' : World} {A : Option Addr} {zs : List Int} (h : Byts w w.heap.size A zs) (hb : Below w.heap.size w w') : Byts w' w'.heap.size A zs :=
  ⟨h.1, fun hne => by
    obtain ⟨b, o, e, hlt, hc⟩ := h.2 hne
    exact ⟨b, o, e, Nat.lt_of_lt_of_le hlt hb.size, fun j hj => (hb.cell hlt).trans (hc j hj)⟩⟩
/-- What a drawn allocator keeps. -/
structure Dw11 (w w' : World) (s : Int) (v : Value) (zs : List Int) : Prop where
  own : Own w' w.heap.size v zs
  len : zs.length ≤ 60
  sure : 0 ≤ s
  below : Below w.heap.size w w'
theorem res11 {w w3 : World} {B1 : Option Addr} {c1 : Nat} {zs : List Int} (n a s : Int) (hR : w3.heap[w.heap.size]? = some (.cells #[.int .i64 0, .int .i64 0, .int .i64 0, .slice none 0 0] 27 (0, 0))) (ho : Own w3 (w.heap.size + 1) (.slice B1 zs.length c1) zs) (hl : zs.length ≤ 60) (hs : 0 ≤ s) (hb : Below w.heap.size w w3) :
    let w' := (((w3.setCell ⟨w.heap.size, 0, none⟩ (.int .i64 n)).setCell ⟨w.heap.size, 1, none⟩ (.int .i64 a)).setCell ⟨w.heap.size, 2, none⟩ (.int .i64 s)).setCell ⟨w.heap.size, 3, none⟩ (.slice B1 zs.length c1)
    w'.heap[w.heap.size]? = some (.cells #[.int .i64 n, .int .i64 a, .int .i64 s, .slice B1 zs.length c1] 27 (0, 0)) ∧ Dw11 w w' s (.slice B1 zs.length c1) zs :=
  ⟨gv_stored rfl hR _ _ _ _, (own_off ho _ _ _ _ (fun g hg => by have := (ho.lt g hg).1; omega)).lower (by omega), hl, hs, below_gv hb (Nat.le_refl _) _ _ _ _⟩

set_option maxRecDepth 100000 in
set_option maxHeartbeats 2000000 in
theorem drawGood11 (A : Option Addr) (zs : List Int) (c : Nat) (w : World) (hb : Byts w w.heap.size A zs) :
    Calls Try.prog 47 #[.slice A zs.length c] w fun e w' => ∃ n a s v ys, e = .returned (gvV n a s v) ∧ Dw11 w w' s v ys := by
  obtain ⟨W, hW⟩ : ∃ W, w.alloc (.cells #[.int .i64 0, .int .i64 0, .int .i64 0, .slice none 0 0] 27) = W := ⟨_, rfl⟩
  have hbW : Below w.heap.size w W := by rw [← hW]; exact gAlloc _ _
  have hsW : W.heap.size = w.heap.size + 1 := by rw [← hW]; simp
  have hRW : W.heap[w.heap.size]? = some (.cells #[.int .i64 0, .int .i64 0, .int .i64 0, .slice none 0 0] 27 (0, 0)) := by rw [← hW]; exact heap_alloc_new _ _
  have HC := Lib.hid (Cur.new (c := c) (byts_on11 hb hbW) 64)
  have hbC := gAlloc W (.cells #[.slice A zs.length c, .int .i64 0, .int .u64 0] 64)
  have HB := Lib.hid (below_more hbW hbC)
  have HR := Lib.hid ((hbC.block _ (by omega)).trans hRW)
  clear hb hbW hbC hRW
  have HsW := Lib.hid hsW
  clear hsW
  go_enter Try.func47, Try.ntmps47
  go_wp2_with fail
  refine (giver11 W.heap.size 0 _ HC.out (by omega)).mono ?_
  rintro e w3 ⟨n, a, s, v, ys, rfl, ho3, hl3, hs3, hc3, hg3⟩
  have hsW := HsW.out
  obtain ⟨B1, c1, rfl, -⟩ := ho3.form
  have hR3 : w3.heap[w.heap.size]? = some (.cells #[.int .i64 0, .int .i64 0, .int .i64 0, .slice none 0 0] 27 (0, 0)) := (hg3.block _ (heap_lt HR.out) (by intro e; injection e with e; omega)).trans HR.out
  have x0 : w3.cell? ⟨w.heap.size, 0, none⟩ = some (.int .i64 0) := cell_of_row _ _ 0 _ _ _ hR3
  have f0 := frozen_of_row w3 _ 0 _ _ hR3
  have x1 : w3.cell? ⟨w.heap.size, 1, none⟩ = some (.int .i64 0) := cell_of_row _ _ 1 _ _ _ hR3
  have f1 := frozen_of_row w3 _ 1 _ _ hR3
  have x2 : w3.cell? ⟨w.heap.size, 2, none⟩ = some (.int .i64 0) := cell_of_row _ _ 2 _ _ _ hR3
  have f2 := frozen_of_row w3 _ 2 _ _ hR3
  have x3 : w3.cell? ⟨w.heap.size, 3, none⟩ = some (.slice none 0 0) := cell_of_row _ _ 3 _ _ _ hR3
  have f3 := frozen_of_row w3 _ 3 _ _ hR3
  have HO := Lib.hid (ho3.lower (base' := w.heap.size + 1) (by rw [World.heap_size_alloc9]; omega))
  have HR3 := Lib.hid hR3
  have HB3 := Lib.hid (HB.out.grown hg3 HB.out.size (fun k hk => by injection hk with hk; omega))
  clear ho3 hc3 hg3 hR3 hW hsW
  go_wp2_with fail
  obtain ⟨r1, r2⟩ := res11 n a s HR3.out HO.out hl3 hs3 HB3.out
  exact ret_gv rfl w.heap.size n a s _ rfl r1 rfl ⟨_, _, _, _, _, rfl, r2⟩
set_option maxRecDepth 100000 in
set_option maxHeartbeats 2000000 in
theorem drawLost11 (A : Option Addr) (zs : List Int) (c : Nat) (w : World) (hb : Byts w w.heap.size A zs) :
    Calls Try.prog 18 #[.slice A zs.length c] w fun e w' => ∃ n a s v ys, e = .returned (gvV n a s v) ∧ Dw11 w w' s v ys := by
  obtain ⟨W, hW⟩ : ∃ W, w.alloc (.cells #[.int .i64 0, .int .i64 0, .int .i64 0, .slice none 0 0] 27) = W := ⟨_, rfl⟩
  have hbW : Below w.heap.size w W := by rw [← hW]; exact gAlloc _ _
  have hsW : W.heap.size = w.heap.size + 1 := by rw [← hW]; simp
  have hRW : W.heap[w.heap.size]? = some (.cells #[.int .i64 0, .int .i64 0, .int .i64 0, .slice none 0 0] 27 (0, 0)) := by rw [← hW]; exact heap_alloc_new _ _
  have HD := Lib.hid (drawGood11 A zs c W (byts_on11 hb hbW))
  have HB := Lib.hid hbW
  have HR := Lib.hid hRW
  have HsW := Lib.hid hsW
  clear hb hbW hRW hsW
  go_enter Try.func18, Try.ntmps18
  go_wp2_with fail
  refine HD.out.mono ?_
  rintro e w3 ⟨n, a, s, v, ys, rfl, hd⟩
  have hsW := HsW.out
  have ho3 := hd.own
  obtain ⟨B1, c1, rfl, -⟩ := ho3.form
  have hR3 : w3.heap[w.heap.size]? = some (.cells #[.int .i64 0, .int .i64 0, .int .i64 0, .slice none 0 0] 27 (0, 0)) := (hd.below.block _ (heap_lt HR.out)).trans HR.out
  have x0 : w3.cell? ⟨w.heap.size, 0, none⟩ = some (.int .i64 0) := cell_of_row _ _ 0 _ _ _ hR3
  have f0 := frozen_of_row w3 _ 0 _ _ hR3
  have x1 : w3.cell? ⟨w.heap.size, 1, none⟩ = some (.int .i64 0) := cell_of_row _ _ 1 _ _ _ hR3
  have f1 := frozen_of_row w3 _ 1 _ _ hR3
  have x2 : w3.cell? ⟨w.heap.size, 2, none⟩ = some (.int .i64 0) := cell_of_row _ _ 2 _ _ _ hR3
  have f2 := frozen_of_row w3 _ 2 _ _ hR3
  have x3 : w3.cell? ⟨w.heap.size, 3, none⟩ = some (.slice none 0 0) := cell_of_row _ _ 3 _ _ _ hR3
  have f3 := frozen_of_row w3 _ 3 _ _ hR3
  have HD3 := Lib.hid hd
  have HO := Lib.hid (ho3.lower (base' := w.heap.size + 1) (by omega))
  have HR3 := Lib.hid hR3
  have HB3 := Lib.hid (below_more HB.out hd.below)
  clear hd ho3 hR3 hW hsW
  go_wp2_with fail
  obtain ⟨r1, r2⟩ := res11 n a s HR3.out HO.out HD3.out.len HD3.out.sure HB3.out
  exact ret_gv rfl w.heap.size n a s _ rfl r1 rfl ⟨_, _, _, _, _, rfl, r2⟩
set_option maxRecDepth 100000 in
set_option maxHeartbeats 2000000 in
theorem drawRoom11 (A : Option Addr) (zs : List Int) (c : Nat) (w : World) (hb : Byts w w.heap.size A zs) :
    Calls Try.prog 26 #[.slice A zs.length c] w fun e w' => ∃ n a s v ys, e = .returned (gvV n a s v) ∧ Dw11 w w' s v ys := by
  obtain ⟨W, hW⟩ : ∃ W, w.alloc (.cells #[.int .i64 0, .int .i64 0, .int .i64 0, .slice none 0 0] 27) = W := ⟨_, rfl⟩
  have hbW : Below w.heap.size w W := by rw [← hW]; exact gAlloc _ _
  have hsW : W.heap.size = w.heap.size + 1 := by rw [← hW]; simp
  have hRW : W.heap[w.heap.size]? = some (.cells #[.int .i64 0, .int .i64 0, .int .i64 0, .slice none 0 0] 27 (0, 0)) := by rw [← hW]; exact heap_alloc_new _ _
  have HD := Lib.hid (drawGood11 A zs c W (byts_on11 hb hbW))
  have HB := Lib.hid hbW
  have HR := Lib.hid hRW
  have HsW := Lib.hid hsW
  clear hb hbW hRW hsW
  go_enter Try.func26, Try.ntmps26
  go_wp2_with fail
  refine HD.out.mono ?_
  rintro e w3 ⟨n, a, s, v, ys, rfl, hd⟩
  have hsW := HsW.out
  have ho3 := hd.own
  obtain ⟨B1, c1, rfl, -⟩ := ho3.form
  have hR3 : w3.heap[w.heap.size]? = some (.cells #[.int .i64 0, .int .i64 0, .int .i64 0, .slice none 0 0] 27 (0, 0)) := (hd.below.block _ (heap_lt HR.out)).trans HR.out
  have x0 : w3.cell? ⟨w.heap.size, 0, none⟩ = some (.int .i64 0) := cell_of_row _ _ 0 _ _ _ hR3
  have f0 := frozen_of_row w3 _ 0 _ _ hR3
  have x1 : w3.cell? ⟨w.heap.size, 1, none⟩ = some (.int .i64 0) := cell_of_row _ _ 1 _ _ _ hR3
  have f1 := frozen_of_row w3 _ 1 _ _ hR3
  have x2 : w3.cell? ⟨w.heap.size, 2, none⟩ = some (.int .i64 0) := cell_of_row _ _ 2 _ _ _ hR3
  have f2 := frozen_of_row w3 _ 2 _ _ hR3
  have x3 : w3.cell? ⟨w.heap.size, 3, none⟩ = some (.slice none 0 0) := cell_of_row _ _ 3 _ _ _ hR3
  have f3 := frozen_of_row w3 _ 3 _ _ hR3
  have HD3 := Lib.hid hd
  have HO := Lib.hid (ho3.lower (base' := w.heap.size + 1) (by omega))
  have HR3 := Lib.hid hR3
  have HB3 := Lib.hid (below_more HB.out hd.below)
  clear hd ho3 hR3 hW hsW
  go_wp2_with fail
  obtain ⟨r1, r2⟩ := res11 n a s HR3.out HO.out HD3.out.len HD3.out.sure HB3.out
  exact ret_gv rfl w.heap.size n a s _ rfl r1 rfl ⟨_, _, _, _, _, rfl, r2⟩
set_option maxRecDepth 100000 in
set_option maxHeartbeats 2000000 in
theorem drawPlay11 (A : Option Addr) (zs : List Int) (c : Nat) (w : World) (hb : Byts w w.heap.size A zs) :
    Calls Try.prog 11 #[.slice A zs.length c] w fun e w' => ∃ A1 c1 L, e = .returned (.slice A1 (List.length L) c1) ∧ OwnR 34 2 fId w' w.heap.size (.slice A1 L.length c1) L ∧ L.length ≤ 41 ∧ Below w.heap.size w w' := by
  have HC := Lib.hid (Cur.new (c := c) hb 64)
  have HB := Lib.hid (gAlloc w (.cells #[.slice A zs.length c, .int .i64 0, .int .u64 0] 64))
  clear hb
  go_enter Try.func11, Try.ntmps11
  go_wp2_with fail
  refine (idSteps11 w.heap.size 0 _ HC.out (by omega)).mono ?_
  rintro e w3 ⟨A1, c1, L, rfl, ho3, hl3, hc3, hg3⟩
  have HO := Lib.hid (ho3.lower (base' := w.heap.size) (by rw [World.heap_size_alloc9]; omega))
  have HB3 := Lib.hid (HB.out.grown hg3 HB.out.size (fun k hk => by injection hk with hk; omega))
  clear ho3 hc3 hg3
  go_wp2_with fail
  go_ret
  exact ⟨_, _, _, rfl, HO.out, hl3, HB3.out⟩
theorem run_id11 {w : World} {g : Nat} {k : Int} {p : Bool} (hg : w.heap[g]? = some (.cells #[.int .i64 k, .bool p] 34 (0, 0))) : (loadVar 34 ⟨g, 0, none⟩).run Try.prog w = .ok (idV (k, p)) w := by
  simp [run_loadVar_row w g 34 34 #[.int .i64 k, .bool p] (0, 0) _ hg Try.underlying34 rfl infoIdP]
theorem run_gv11 {w : World} {g : Nat} {n a s : Int} {v : Value} (hg : w.heap[g]? = some (.cells #[.int .i64 n, .int .i64 a, .int .i64 s, v] 27 (0, 0))) : (loadVar 27 ⟨g, 0, none⟩).run Try.prog w = .ok (gvV n a s v) w := by
  simp [run_loadVar_row w g 27 27 #[.int .i64 n, .int .i64 a, .int .i64 s, v] (0, 0) _ hg Try.underlying27 rfl infoGv]
theorem ret_gvId {fn : Func} {p q : Tmp} (h : fn.results = #[.cell p 27, .cell q 34]) {R : Ending → World → Prop} {c : Act} {w : World} (g d : Nat) (n a s : Int) (v : Value) (k : Int) (b : Bool) (hp : c.tmps.getD p undef = .pointer (some ⟨g, 0, none⟩)) (hq : c.tmps.getD q undef = .pointer (some ⟨d, 0, none⟩))
    (hg : w.heap[g]? = some (.cells #[.int .i64 n, .int .i64 a, .int .i64 s, v] 27 (0, 0))) (hi : w.heap[d]? = some (.cells #[.int .i64 k, .bool b] 34 (0, 0))) (hd : c.defers = []) (hR : R (.returned (.tuple #[gvV n a s v, idV (k, b)])) w) : bodyPost Try.prog fn R .ret c w := by
  refine bodyPost_ret ?_ hd hR
  have hp' : c.tmps[p]?.getD undef = .pointer (some ⟨g, 0, none⟩) := by simpa using hp
  have hq' : c.tmps[q]?.getD undef = .pointer (some ⟨d, 0, none⟩) := by simpa using hq
  simp [results, h, hp', hq', asAddr, run_gv11 hg, run_id11 hi]
/-- What is stored into a step's box whole. -/
theorem id_stored11 {w : World} {X : Nat} {k : Int} {p : Bool} (h : w.heap[X]? = some (.cells #[.int .i64 k, .bool p] 34 (0, 0))) (k' : Int) (p' : Bool) :
    ((w.setCell ⟨X, 0, none⟩ (.int .i64 k')).setCell ⟨X, 1, none⟩ (.bool p')).heap[X]? = some (.cells #[.int .i64 k', .bool p'] 34 (0, 0)) := heap_setCell_same _ _ 1 _ _ _ (heap_setCell_same _ _ 0 _ _ _ h)
theorem drew_set11 {w : World} {a b : Addr} {q v : Value} (h : w.drew.cell? a = some q) (hne : a.block ≠ b.block) : (w.setCell b v).drew.cell? a = some q := by
  have h' : w.cell? a = some q := h
  show (w.setCell b v).cell? a = some q
  exact (cell_set_other w b a v hne).trans h'
theorem six_put11 {w : World} {X b o Z : Nat} {q0 q1 q2 q3 r0 r1 a0 a1 a2 a3 : Value} (h : w.drew.cell? ⟨X, 0, none⟩ = some q0 ∧ w.drew.cell? ⟨X, 1, none⟩ = some q1 ∧ w.drew.cell? ⟨X, 2, none⟩ = some q2 ∧ w.drew.cell? ⟨X, 3, none⟩ = some q3 ∧ w.drew.cell? ⟨b, o, none⟩ = some r0 ∧ w.drew.cell? ⟨b, o + 1, none⟩ = some r1) (h1 : X ≠ Z) (h2 : b ≠ Z) :
    let w' := (((w.setCell ⟨Z, 0, none⟩ a0).setCell ⟨Z, 1, none⟩ a1).setCell ⟨Z, 2, none⟩ a2).setCell ⟨Z, 3, none⟩ a3
    w'.drew.cell? ⟨X, 0, none⟩ = some q0 ∧ w'.drew.cell? ⟨X, 1, none⟩ = some q1 ∧ w'.drew.cell? ⟨X, 2, none⟩ = some q2 ∧ w'.drew.cell? ⟨X, 3, none⟩ = some q3 ∧ w'.drew.cell? ⟨b, o, none⟩ = some r0 ∧ w'.drew.cell? ⟨b, o + 1, none⟩ = some r1 := by
  intro w'
  have hp : ∀ (a : Addr) (q : Value), a.block ≠ Z → w.drew.cell? a = some q → w'.drew.cell? a = some q := fun a q hne h =>
    drew_set11 (drew_set11 (drew_set11 (drew_set11 h hne) hne) hne) hne
  obtain ⟨h0, h1', h2', h3', h4, h5⟩ := h
  exact ⟨hp _ _ h1 h0, hp _ _ h1 h1', hp _ _ h1 h2', hp _ _ h1 h3', hp _ _ h2 h4, hp _ _ h2 h5⟩
theorem six_put11b {w : World} {X b o Z : Nat} {q0 q1 q2 q3 r0 r1 a0 a1 : Value} (h : w.drew.cell? ⟨X, 0, none⟩ = some q0 ∧ w.drew.cell? ⟨X, 1, none⟩ = some q1 ∧ w.drew.cell? ⟨X, 2, none⟩ = some q2 ∧ w.drew.cell? ⟨X, 3, none⟩ = some q3 ∧ w.drew.cell? ⟨b, o, none⟩ = some r0 ∧ w.drew.cell? ⟨b, o + 1, none⟩ = some r1) (h1 : X ≠ Z) (h2 : b ≠ Z) :
    let w' := (w.setCell ⟨Z, 0, none⟩ a0).setCell ⟨Z, 1, none⟩ a1
    w'.drew.cell? ⟨X, 0, none⟩ = some q0 ∧ w'.drew.cell? ⟨X, 1, none⟩ = some q1 ∧ w'.drew.cell? ⟨X, 2, none⟩ = some q2 ∧ w'.drew.cell? ⟨X, 3, none⟩ = some q3 ∧ w'.drew.cell? ⟨b, o, none⟩ = some r0 ∧ w'.drew.cell? ⟨b, o + 1, none⟩ = some r1 := by
  intro w'
  have hp : ∀ (a : Addr) (q : Value), a.block ≠ Z → w.drew.cell? a = some q → w'.drew.cell? a = some q := fun a q hne h =>
    drew_set11 (drew_set11 h hne) hne
  obtain ⟨h0, h1', h2', h3', h4, h5⟩ := h
  exact ⟨hp _ _ h1 h0, hp _ _ h1 h1', hp _ _ h1 h2', hp _ _ h1 h3', hp _ _ h2 h4, hp _ _ h2 h5⟩
set_option maxRecDepth 100000 in
set_option maxHeartbeats 4000000 in
theorem drawStep11 (A : Option Addr) (zs : List Int) (c : Nat) (w : World) (hb : Byts w w.heap.size A zs) :
    Calls Try.prog 22 #[.slice A zs.length c] w fun e w' => ∃ n a s v ys k p, e = .returned (.tuple #[gvV n a s v, idV (k, p)]) ∧ Dw11 w w' s v ys := by
  obtain ⟨W, hW⟩ : ∃ W, (w.alloc (.cells #[.int .i64 0, .int .i64 0, .int .i64 0, .slice none 0 0] 27)).alloc (.cells #[.int .i64 0, .bool false] 34) = W := ⟨_, rfl⟩
  have hbW : Below w.heap.size w W := by rw [← hW]; exact (gAlloc _ _).alloc (by simp) _
  have hsW : W.heap.size = w.heap.size + 2 := by rw [← hW]; simp
  have hRW : W.heap[w.heap.size]? = some (.cells #[.int .i64 0, .int .i64 0, .int .i64 0, .slice none 0 0] 27 (0, 0)) := by rw [← hW, heap_alloc_old _ _ _ (by simp)]; exact heap_alloc_new _ _
  have hIW : W.heap[w.heap.size + 1]? = some (.cells #[.int .i64 0, .bool false] 34 (0, 0)) := by rw [← hW, show w.heap.size + 1 = (w.alloc (.cells #[.int .i64 0, .int .i64 0, .int .i64 0, .slice none 0 0] 27)).heap.size by simp]; exact heap_alloc_new _ _
  have HC := Lib.hid (Cur.new (c := c) (byts_on11 hb hbW) 64)
  have hbC := gAlloc W (.cells #[.slice A zs.length c, .int .i64 0, .int .u64 0] 64)
  have HB := Lib.hid (below_more hbW hbC)
  have HR := Lib.hid (And.intro ((hbC.block _ (by omega)).trans hRW) ((hbC.block _ (by omega)).trans hIW))
  clear hb hbW hbC hRW hIW
  have HsW := Lib.hid hsW
  clear hsW
  go_enter Try.func22, Try.ntmps22
  go_wp2_with fail
  refine (giver11 W.heap.size 0 _ HC.out (by omega)).mono ?_
  rintro e w3 ⟨n, a, s, v, ys, rfl, ho3, hl3, hs3, hc3, hg3⟩
  obtain ⟨B1, c1, rfl, -⟩ := ho3.form
  have HR3 := Lib.hid (And.intro ((hg3.block _ (heap_lt HR.out.1) (by intro e; injection e with e; have := HsW.out; omega)).trans HR.out.1) ((hg3.block _ (heap_lt HR.out.2) (by intro e; injection e with e; have := HsW.out; omega)).trans HR.out.2))
  obtain ⟨w4, hw4⟩ : ∃ w4, w3.alloc (.cells #[.int .i64 n, .int .i64 a, .int .i64 s, .slice B1 ys.length c1] 27) = w4 := ⟨_, rfl⟩
  have hb4 : Below w3.heap.size w3 w4 := by rw [← hw4]; exact gAlloc _ _
  have HX4 : Hid (w4.heap[w3.heap.size]? = some (.cells #[.int .i64 n, .int .i64 a, .int .i64 s, .slice B1 ys.length c1] 27 (0, 0))) := by rw [← hw4]; exact heap_alloc_new _ _
  have HR4 := Lib.hid (And.intro ((hb4.block _ (heap_lt HR3.out.1)).trans HR3.out.1) ((hb4.block _ (heap_lt HR3.out.2)).trans HR3.out.2))
  have HO4 := Lib.hid ((ho3.lower (base' := w.heap.size + 3) (by rw [World.heap_size_alloc9]; have := HsW.out; omega)).below hb4)
  have HC4 := Lib.hid (hc3.below hb4)
  have HB4 := Lib.hid (below_more (HB.out.grown hg3 HB.out.size (fun k hk => by injection hk with hk; have := HsW.out; omega)) hb4)
  have hs34 : W.heap.size < w3.heap.size := by have := hg3.size; rw [World.heap_size_alloc9] at this; omega
  have hs45 : w3.heap.size ≤ w4.heap.size := hb4.size
  clear ho3 hc3 hg3 hb4 hW HC HB HR HR3
  go_wp2_with fail
  refine (idSteps11 W.heap.size (0 + 600) _ HC4.out (by omega)).mono ?_
  rintro e w5 ⟨A5, c5, L, rfl, hO5, hL5, hc5, hg5⟩
  have HX5 := Lib.hid ((hg5.block _ (heap_lt HX4.out) (by intro e; injection e with e; omega)).trans HX4.out)
  have HR5 := Lib.hid (And.intro ((hg5.block _ (heap_lt HR4.out.1) (by intro e; injection e with e; have := HsW.out; omega)).trans HR4.out.1) ((hg5.block _ (heap_lt HR4.out.2) (by intro e; injection e with e; have := HsW.out; omega)).trans HR4.out.2))
  have HO5 := Lib.hid (HO4.out.cur (by have := HsW.out; omega) hg5)
  have HB5 := Lib.hid (HB4.out.grown hg5 HB4.out.size (fun k hk => by injection hk with hk; have := HsW.out; omega))
  have HL5 := Lib.hid hO5
  clear hc5 hg5 hO5 HC4 HO4 HR4 HX4 HB4 hw4
  have y0 : w5.cell? ⟨w3.heap.size, 0, none⟩ = some (.int .i64 n) := cell_of_row _ _ 0 _ _ _ HX5.out
  have y1 : w5.cell? ⟨w3.heap.size, 1, none⟩ = some (.int .i64 a) := cell_of_row _ _ 1 _ _ _ HX5.out
  have y2 : w5.cell? ⟨w3.heap.size, 2, none⟩ = some (.int .i64 s) := cell_of_row _ _ 2 _ _ _ HX5.out
  have y3 : w5.cell? ⟨w3.heap.size, 3, none⟩ = some (.slice B1 ys.length c1) := cell_of_row _ _ 3 _ _ _ HX5.out
  have x0 : w5.cell? ⟨w.heap.size, 0, none⟩ = some (.int .i64 0) := cell_of_row _ _ 0 _ _ _ HR5.out.1
  have f0 := frozen_of_row w5 _ 0 _ _ HR5.out.1
  have x1 : w5.cell? ⟨w.heap.size, 1, none⟩ = some (.int .i64 0) := cell_of_row _ _ 1 _ _ _ HR5.out.1
  have f1 := frozen_of_row w5 _ 1 _ _ HR5.out.1
  have x2 : w5.cell? ⟨w.heap.size, 2, none⟩ = some (.int .i64 0) := cell_of_row _ _ 2 _ _ _ HR5.out.1
  have f2 := frozen_of_row w5 _ 2 _ _ HR5.out.1
  have x3 : w5.cell? ⟨w.heap.size, 3, none⟩ = some (.slice none 0 0) := cell_of_row _ _ 3 _ _ _ HR5.out.1
  have f3 := frozen_of_row w5 _ 3 _ _ HR5.out.1
  have u0 : w5.cell? ⟨w.heap.size + 1, 0, none⟩ = some (.int .i64 0) := cell_of_row _ _ 0 _ _ _ HR5.out.2
  have u1 : w5.cell? ⟨w.heap.size + 1, 1, none⟩ = some (.bool false) := cell_of_row _ _ 1 _ _ _ HR5.out.2
  have e0 := frozen_of_row w5 _ 0 _ _ HR5.out.2
  have e1 := frozen_of_row w5 _ 1 _ _ HR5.out.2
  have hne : ∀ k p, ((((((w5.setCell ⟨w.heap.size, 0, none⟩ (.int .i64 n)).setCell ⟨w.heap.size, 1, none⟩ (.int .i64 a)).setCell ⟨w.heap.size, 2, none⟩ (.int .i64 s)).setCell ⟨w.heap.size, 3, none⟩ (.slice B1 ys.length c1)).setCell ⟨w.heap.size + 1, 0, none⟩ (.int .i64 k)).setCell ⟨w.heap.size + 1, 1, none⟩ (.bool p)).heap[w.heap.size]? = some (.cells #[.int .i64 n, .int .i64 a, .int .i64 s, .slice B1 ys.length c1] 27 (0, 0)) ∧ ((((((w5.setCell ⟨w.heap.size, 0, none⟩ (.int .i64 n)).setCell ⟨w.heap.size, 1, none⟩ (.int .i64 a)).setCell ⟨w.heap.size, 2, none⟩ (.int .i64 s)).setCell ⟨w.heap.size, 3, none⟩ (.slice B1 ys.length c1)).setCell ⟨w.heap.size + 1, 0, none⟩ (.int .i64 k)).setCell ⟨w.heap.size + 1, 1, none⟩ (.bool p)).heap[w.heap.size + 1]? = some (.cells #[.int .i64 k, .bool p] 34 (0, 0)) ∧ Dw11 w (((((((w5.setCell ⟨w.heap.size, 0, none⟩ (.int .i64 n)).setCell ⟨w.heap.size, 1, none⟩ (.int .i64 a)).setCell ⟨w.heap.size, 2, none⟩ (.int .i64 s)).setCell ⟨w.heap.size, 3, none⟩ (.slice B1 ys.length c1)).setCell ⟨w.heap.size + 1, 0, none⟩ (.int .i64 k)).setCell ⟨w.heap.size + 1, 1, none⟩ (.bool p))) s (.slice B1 ys.length c1) ys := fun k p => by
    obtain ⟨r1, r2⟩ := res11 n a s HR5.out.1 (HO5.out.lower (base' := w.heap.size + 1) (by omega)) hl3 hs3 HB5.out
    have ho2 : Own ((((w5.setCell ⟨w.heap.size, 0, none⟩ (.int .i64 n)).setCell ⟨w.heap.size, 1, none⟩ (.int .i64 a)).setCell ⟨w.heap.size, 2, none⟩ (.int .i64 s)).setCell ⟨w.heap.size, 3, none⟩ (.slice B1 ys.length c1)) (w.heap.size + 3) (.slice B1 ys.length c1) ys := own_off HO5.out _ _ _ _ (fun g hg => by have := (HO5.out.lt g hg).1; omega)
    generalize hw6 : (((w5.setCell ⟨w.heap.size, 0, none⟩ (.int .i64 n)).setCell ⟨w.heap.size, 1, none⟩ (.int .i64 a)).setCell ⟨w.heap.size, 2, none⟩ (.int .i64 s)).setCell ⟨w.heap.size, 3, none⟩ (.slice B1 ys.length c1) = w6 at *
    have hI6 : w6.heap[w.heap.size + 1]? = some (.cells #[.int .i64 0, .bool false] 34 (0, 0)) := by rw [← hw6]; exact ((gGv w5 w.heap.size _ _ _ _).block _ (heap_lt HR5.out.2) (by intro e; injection e with e; omega)).trans HR5.out.2
    refine ⟨?_, id_stored11 hI6 k p, ?_, r2.len, r2.sure, (r2.below.setCell (by show w.heap.size ≤ w.heap.size + 1; omega) _).setCell (by show w.heap.size ≤ w.heap.size + 1; omega) _⟩
    · rw [heap_setCell_other _ _ _ _ (by show w.heap.size ≠ w.heap.size + 1; omega), heap_setCell_other _ _ _ _ (by show w.heap.size ≠ w.heap.size + 1; omega)]; exact r1
    · exact ((ho2.cur (by omega) (gSet11 _ (w.heap.size + 1) 0 _)).cur (by omega) (gSet11 _ (w.heap.size + 1) 1 _)).lower (by omega)
  have HNE := Lib.hid hne
  clear hne
  cases L with
  | nil =>
    go_wp2_with fail
    obtain ⟨r1, r2, r3⟩ := HNE.out 2 false
    exact ret_gvId rfl w.heap.size (w.heap.size + 1) n a s _ 2 false rfl rfl r1 r2 rfl ⟨_, _, _, _, _, _, _, rfl, r3⟩
  | cons x L =>
    obtain ⟨b5, o5, rfl, q0, q1⟩ := Id_at (HL5.out.rd fId_len) (j := 0) (by simp)
    obtain ⟨xk, xp⟩ := x
    have q0' : w5.cell? ⟨b5, o5, none⟩ = some (.int .i64 xk) := by simpa using q0
    have q1' : w5.cell? ⟨b5, o5 + 1, none⟩ = some (.bool xp) := by simpa using q1
    have hlen3 : 0 < ((xk, xp) :: L).length := by simp
    generalize ((xk, xp) :: L).length = N at *
    have hlen2 : (0 : Int) < (N : Int) := by omega
    have hlen : ((N : Int) == 0) = false := by simp; omega
    have hb5 : b5 ≠ w.heap.size ∧ b5 ≠ w.heap.size + 1 ∧ w3.heap.size ≠ w.heap.size ∧ w3.heap.size ≠ w.heap.size + 1 := by
      have h1 := (HL5.out.lt b5 rfl).1
      have := HsW.out
      exact ⟨by omega, by omega, by omega, by omega⟩
    obtain ⟨hb51, hb52, hb53, hb54⟩ := hb5
    clear q0 q1
    have hq0 : w5.drew.cell? ⟨w3.heap.size, 0, none⟩ = some (.int .i64 n) ∧ w5.drew.cell? ⟨w3.heap.size, 1, none⟩ = some (.int .i64 a) ∧ w5.drew.cell? ⟨w3.heap.size, 2, none⟩ = some (.int .i64 s) ∧ w5.drew.cell? ⟨w3.heap.size, 3, none⟩ = some (.slice B1 ys.length c1) ∧ w5.drew.cell? ⟨b5, o5, none⟩ = some (.int .i64 xk) ∧ w5.drew.cell? ⟨b5, o5 + 1, none⟩ = some (.bool xp) := ⟨y0, y1, y2, y3, q0', q1'⟩
    have hq1 : ((((w5.setCell ⟨w.heap.size, 0, none⟩ (.int .i64 n)).setCell ⟨w.heap.size, 1, none⟩ (.int .i64 a)).setCell ⟨w.heap.size, 2, none⟩ (.int .i64 s)).setCell ⟨w.heap.size, 3, none⟩ (.slice B1 ys.length c1)).drew.cell? ⟨w3.heap.size, 0, none⟩ = some (.int .i64 n) ∧ ((((w5.setCell ⟨w.heap.size, 0, none⟩ (.int .i64 n)).setCell ⟨w.heap.size, 1, none⟩ (.int .i64 a)).setCell ⟨w.heap.size, 2, none⟩ (.int .i64 s)).setCell ⟨w.heap.size, 3, none⟩ (.slice B1 ys.length c1)).drew.cell? ⟨w3.heap.size, 1, none⟩ = some (.int .i64 a) ∧ ((((w5.setCell ⟨w.heap.size, 0, none⟩ (.int .i64 n)).setCell ⟨w.heap.size, 1, none⟩ (.int .i64 a)).setCell ⟨w.heap.size, 2, none⟩ (.int .i64 s)).setCell ⟨w.heap.size, 3, none⟩ (.slice B1 ys.length c1)).drew.cell? ⟨w3.heap.size, 2, none⟩ = some (.int .i64 s) ∧ ((((w5.setCell ⟨w.heap.size, 0, none⟩ (.int .i64 n)).setCell ⟨w.heap.size, 1, none⟩ (.int .i64 a)).setCell ⟨w.heap.size, 2, none⟩ (.int .i64 s)).setCell ⟨w.heap.size, 3, none⟩ (.slice B1 ys.length c1)).drew.cell? ⟨w3.heap.size, 3, none⟩ = some (.slice B1 ys.length c1) ∧ ((((w5.setCell ⟨w.heap.size, 0, none⟩ (.int .i64 n)).setCell ⟨w.heap.size, 1, none⟩ (.int .i64 a)).setCell ⟨w.heap.size, 2, none⟩ (.int .i64 s)).setCell ⟨w.heap.size, 3, none⟩ (.slice B1 ys.length c1)).drew.cell? ⟨b5, o5, none⟩ = some (.int .i64 xk) ∧ ((((w5.setCell ⟨w.heap.size, 0, none⟩ (.int .i64 n)).setCell ⟨w.heap.size, 1, none⟩ (.int .i64 a)).setCell ⟨w.heap.size, 2, none⟩ (.int .i64 s)).setCell ⟨w.heap.size, 3, none⟩ (.slice B1 ys.length c1)).drew.cell? ⟨b5, o5 + 1, none⟩ = some (.bool xp) := six_put11 hq0 hb53 hb51
    have hq2 : ((((((w5.setCell ⟨w.heap.size, 0, none⟩ (.int .i64 n)).setCell ⟨w.heap.size, 1, none⟩ (.int .i64 a)).setCell ⟨w.heap.size, 2, none⟩ (.int .i64 s)).setCell ⟨w.heap.size, 3, none⟩ (.slice B1 ys.length c1)).setCell ⟨w.heap.size + 1, 0, none⟩ (.int .i64 xk)).setCell ⟨w.heap.size + 1, 1, none⟩ (.bool xp)).drew.cell? ⟨w3.heap.size, 0, none⟩ = some (.int .i64 n) ∧ ((((((w5.setCell ⟨w.heap.size, 0, none⟩ (.int .i64 n)).setCell ⟨w.heap.size, 1, none⟩ (.int .i64 a)).setCell ⟨w.heap.size, 2, none⟩ (.int .i64 s)).setCell ⟨w.heap.size, 3, none⟩ (.slice B1 ys.length c1)).setCell ⟨w.heap.size + 1, 0, none⟩ (.int .i64 xk)).setCell ⟨w.heap.size + 1, 1, none⟩ (.bool xp)).drew.cell? ⟨w3.heap.size, 1, none⟩ = some (.int .i64 a) ∧ ((((((w5.setCell ⟨w.heap.size, 0, none⟩ (.int .i64 n)).setCell ⟨w.heap.size, 1, none⟩ (.int .i64 a)).setCell ⟨w.heap.size, 2, none⟩ (.int .i64 s)).setCell ⟨w.heap.size, 3, none⟩ (.slice B1 ys.length c1)).setCell ⟨w.heap.size + 1, 0, none⟩ (.int .i64 xk)).setCell ⟨w.heap.size + 1, 1, none⟩ (.bool xp)).drew.cell? ⟨w3.heap.size, 2, none⟩ = some (.int .i64 s) ∧ ((((((w5.setCell ⟨w.heap.size, 0, none⟩ (.int .i64 n)).setCell ⟨w.heap.size, 1, none⟩ (.int .i64 a)).setCell ⟨w.heap.size, 2, none⟩ (.int .i64 s)).setCell ⟨w.heap.size, 3, none⟩ (.slice B1 ys.length c1)).setCell ⟨w.heap.size + 1, 0, none⟩ (.int .i64 xk)).setCell ⟨w.heap.size + 1, 1, none⟩ (.bool xp)).drew.cell? ⟨w3.heap.size, 3, none⟩ = some (.slice B1 ys.length c1) ∧ ((((((w5.setCell ⟨w.heap.size, 0, none⟩ (.int .i64 n)).setCell ⟨w.heap.size, 1, none⟩ (.int .i64 a)).setCell ⟨w.heap.size, 2, none⟩ (.int .i64 s)).setCell ⟨w.heap.size, 3, none⟩ (.slice B1 ys.length c1)).setCell ⟨w.heap.size + 1, 0, none⟩ (.int .i64 xk)).setCell ⟨w.heap.size + 1, 1, none⟩ (.bool xp)).drew.cell? ⟨b5, o5, none⟩ = some (.int .i64 xk) ∧ ((((((w5.setCell ⟨w.heap.size, 0, none⟩ (.int .i64 n)).setCell ⟨w.heap.size, 1, none⟩ (.int .i64 a)).setCell ⟨w.heap.size, 2, none⟩ (.int .i64 s)).setCell ⟨w.heap.size, 3, none⟩ (.slice B1 ys.length c1)).setCell ⟨w.heap.size + 1, 0, none⟩ (.int .i64 xk)).setCell ⟨w.heap.size + 1, 1, none⟩ (.bool xp)).drew.cell? ⟨b5, o5 + 1, none⟩ = some (.bool xp) := six_put11b hq1 hb54 hb52
    go_wp2_with fail
    go_region_held3 (fun w' => w'.cell? ⟨w3.heap.size, 0, none⟩ = some (.int .i64 n) ∧ w'.cell? ⟨w3.heap.size, 1, none⟩ = some (.int .i64 a) ∧ w'.cell? ⟨w3.heap.size, 2, none⟩ = some (.int .i64 s) ∧ w'.cell? ⟨w3.heap.size, 3, none⟩ = some (.slice B1 ys.length c1) ∧ w'.cell? ⟨b5, o5, none⟩ = some (.int .i64 xk) ∧ w'.cell? ⟨b5, o5 + 1, none⟩ = some (.bool xp)) (first | with_reducible exact hq0 | with_reducible exact hq1 | with_reducible exact hq2 | (go_loud (fail "KEEP"))) (fail)
    all_goals
      first
      | (obtain ⟨r1, r2, r3⟩ := HNE.out xk xp
         clear hq0 hq1 hq2 HNE y0 y1 y2 y3 x0 x1 x2 x3 f0 f1 f2 f3 u0 u1 e0 e1 q0' q1'
         generalize ((((((w5.setCell ⟨w.heap.size, 0, none⟩ (.int .i64 n)).setCell ⟨w.heap.size, 1, none⟩ (.int .i64 a)).setCell ⟨w.heap.size, 2, none⟩ (.int .i64 s)).setCell ⟨w.heap.size, 3, none⟩ (.slice B1 ys.length c1)).setCell ⟨w.heap.size + 1, 0, none⟩ (.int .i64 xk)).setCell ⟨w.heap.size + 1, 1, none⟩ (.bool xp)) = wz at *
         go_wp2_with fail
         have r1' : wz.drew.heap[w.heap.size]? = some (.cells #[.int .i64 n, .int .i64 a, .int .i64 s, .slice B1 ys.length c1] 27 (0, 0)) := r1
         have r2' : wz.drew.heap[w.heap.size + 1]? = some (.cells #[.int .i64 xk, .bool xp] 34 (0, 0)) := r2
         exact ret_gvId rfl w.heap.size (w.heap.size + 1) n a s _ xk xp rfl rfl r1' r2' rfl ⟨n, a, s, _, ys, xk, xp, rfl, r3.own.below gDrew, r3.len, r3.sure, below_more r3.below gDrew⟩)
      | go_loud (fail "END")
end Go.Proofs.Ytbegikjoialahaa
