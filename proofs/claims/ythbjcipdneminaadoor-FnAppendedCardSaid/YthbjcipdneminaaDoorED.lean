/-
  GB: The program's chapter 9, first part: the library's contracts, insist, attempt; countOf, GoodDisk.
  GC: The program's chapter 9, second part: countOf, GoodDisk.
  GD: The program's chapter 9, third part: GoodDisk.
  GE: The program's chapter 9, fourth part: slices.Clone, slices.Repeat.
  GF: The program's chapter 9, fifth part: sectorsAfter; what it gives for a sync and for a crash.
  GG: The program's chapter 9, sixth part: NewDisk, latest, SyncDisk, ReadAll, ReadSector.
  GI: The program's chapter 9, seventh part: ReadAll, ReadSector.
  GJ: The program's chapter 9, eighth part: PutSector.
  GK: The program's chapter 9, ninth part: outlasting.
  GL: The program's chapter 9, tenth part: CrashDisk.
-/
import Derived.Test.YthbjcipdneminaaDoorDI
import Derived.Shelf.Strings.OnBuilder
import Derived.Shelf.Strings.Repeat
import Derived.Defers
import Derived.Recover
import Derived.DeepKeys
import Derived.Deep.RegionLaw
import Derived.Laws.CopyOwn
import Derived.Deep.OwnRows
import Derived.StillTailTactics
import Derived.OrdersHeld

/- GB -/
namespace Go.Proofs.YthbjcipdneminaaDoor
open Go.RowKit Go.Shelf

def lays212_ren : Go.Shelf.Ren := ⟨fun | 212 => 94 | 263 => 100 | 264 => 101 | n => n, fun | 46 => 112 | 51 => 122 | 146 => 123 | 53 => 64 | 148 => 125 | n => n, fun | n => n⟩
theorem lays212 : Go.Proofs.Lays.n212 Tryd.prog lays212_ren := {
  mixed := by kernel_rfl
  f212 := Tryd.func94.trans (congrArg some (by kernel_rfl))
  f263 := Tryd.func100.trans (congrArg some (by kernel_rfl))
  f264 := Tryd.func101.trans (congrArg some (by kernel_rfl))
  t46 := Tryd.underlying112
  a46 := Tryd.isAgg112
  z46 := Tryd.sizeOf112
  v46 := Tryd.zeroValue112
  t51 := Tryd.underlying122
  a51 := Tryd.isAgg122
  z51 := Tryd.sizeOf122
  v51 := Tryd.zeroValue122
  t53 := Tryd.underlying64
  a53 := Tryd.isAgg64
  z53 := Tryd.sizeOf64
  v53 := Tryd.zeroValue64
  t146 := Tryd.underlying123
  a146 := Tryd.isAgg123
  z146 := Tryd.sizeOf123
  v146 := Tryd.zeroValue123
  t148 := Tryd.underlying125
  a148 := Tryd.isAgg125
  z148 := Tryd.sizeOf125
  v148 := Tryd.zeroValue125 }
/-- The program's own panic. -/
abbrev insV : Value := .iface 9 (.string ⟨#[105, 110, 118, 97, 108, 105, 100, 32, 97, 114, 103, 117, 109, 101, 110, 116]⟩)
abbrev Died (e : Ending) : Prop := e = .panicked [{ v := insV, recovered := false }]
set_option maxRecDepth 100000 in
theorem iInsist_yes (w : World) : Calls Tryd.prog 65 #[.bool true] w fun e w' => e = .returned (.tuple #[]) ∧ w = w' := by
  go_enter Tryd.func65, Tryd.ntmps65
  go_wp2
  go_end0
  exact ⟨rfl, rfl⟩
set_option maxRecDepth 100000 in
theorem iInsist_no (w : World) : Calls Tryd.prog 65 #[.bool false] w fun e w' => Died e ∧ w = w' := by
  go_enter Tryd.func65, Tryd.ntmps65
  go_wp2
  exact ⟨rfl, rfl, rfl⟩

set_option maxRecDepth 100000 in
theorem iCatchD_no (p : Addr) (x : Bool) (u : TypeId) (pv : Value) (older : List PanicEntry) (w : World) (hc : w.cell? p = some (.bool x)) (hz : w.frozen? p = false) :
    CallsD Tryd.prog 91 #[.pointer (some p)] (.panicking ({ v := .iface u pv, recovered := false } :: older)) w fun e u' w' =>
      e = .returned (.tuple #[]) ∧ u' = .panicking ({ v := .iface u pv, recovered := true } :: older) ∧ w' = w.setCell p (.bool false) := by
  refine callsD_of_wpS Tryd.func91 rfl fun c₀ cs hu => ?_
  apply wpS_region
  simp [wpOpsS, go_sem, recoverD, hu, Tryd.ntmps91, hc, hz, bodyPostS, results, Tryd.results91]
set_option maxRecDepth 100000 in
theorem iCatchD_yes (p : Addr) (x : Bool) (w : World) (hc : w.cell? p = some (.bool x)) (hz : w.frozen? p = false) :
    CallsD Tryd.prog 91 #[.pointer (some p)] .returning w fun e u' w' => e = .returned (.tuple #[]) ∧ u' = .returning ∧ w' = w.setCell p (.bool true) := by
  refine callsD_of_wpS Tryd.func91 rfl fun c₀ cs hu => ?_
  apply wpS_region
  simp [wpOpsS, go_sem, recoverD, hu, Tryd.ntmps91, hc, hz, bodyPostS, results, Tryd.results91]
  cases c₀; simp_all

set_option maxRecDepth 100000 in
theorem iCatchS_no (p : Addr) (x : Bool) (u : TypeId) (pv : Value) (older : List PanicEntry) (w : World) (hc : w.cell? p = some (.bool x)) (hz : w.frozen? p = false) :
    CallsD Tryd.prog 86 #[.pointer (some p)] (.panicking ({ v := .iface u pv, recovered := false } :: older)) w fun e u' w' =>
      e = .returned (.tuple #[]) ∧ u' = .panicking ({ v := .iface u pv, recovered := true } :: older) ∧ w' = w.setCell p (.bool false) := by
  refine callsD_of_wpS Tryd.func86 rfl fun c₀ cs hu => ?_
  apply wpS_region
  simp [wpOpsS, go_sem, recoverD, hu, Tryd.ntmps86, hc, hz, bodyPostS, results, Tryd.results86]
set_option maxRecDepth 100000 in
theorem iCatchS_yes (p : Addr) (x : Bool) (w : World) (hc : w.cell? p = some (.bool x)) (hz : w.frozen? p = false) :
    CallsD Tryd.prog 86 #[.pointer (some p)] .returning w fun e u' w' => e = .returned (.tuple #[]) ∧ u' = .returning ∧ w' = w.setCell p (.bool true) := by
  refine callsD_of_wpS Tryd.func86 rfl fun c₀ cs hu => ?_
  apply wpS_region
  simp [wpOpsS, go_sem, recoverD, hu, Tryd.ntmps86, hc, hz, bodyPostS, results, Tryd.results86]
  cases c₀; simp_all

theorem res_dkb {fn : Func} {p q : Tmp} (h : fn.results = #[.cell p 26, .cell q 4]) {tmps : Array Value} {w : World} (g g2 : Nat) (u v : Value) (b : Bool) (hp : tmps.getD p undef = .pointer (some ⟨g, 0, none⟩)) (hq : tmps.getD q undef = .pointer (some ⟨g2, 0, none⟩))
    (hg : w.heap[g]? = some (.cells #[u, v] 26 (0, 0))) (hg2 : w.heap[g2]? = some (.cells #[.bool b] 4 (0, 0))) : (results fn tmps).run Tryd.prog w = .ok (.tuple #[diskV u v, .bool b]) w := by
  have hp' : tmps[p]?.getD undef = .pointer (some ⟨g, 0, none⟩) := by simpa using hp
  have hq' : tmps[q]?.getD undef = .pointer (some ⟨g2, 0, none⟩) := by simpa using hq
  have hc : w.cell? ⟨g2, 0, none⟩ = some (.bool b) := cell_of_row _ _ 0 _ _ _ hg2
  have hc0 : w.cell? ⟨g, 0, none⟩ = some u := cell_of_row _ _ 0 _ _ _ hg
  have hc1 : w.cell? ⟨g, 1, none⟩ = some v := cell_of_row _ _ 1 _ _ _ hg
  simp only [results, h]
  simp [hp', hq', asAddr, go_sem, hc, hc0, hc1]
theorem res_stb {fn : Func} {p q : Tmp} (h : fn.results = #[.tmp p, .cell q 4]) {tmps : Array Value} {w : World} (g2 : Nat) (v : Value) (b : Bool) (hp : tmps.getD p undef = v) (hq : tmps.getD q undef = .pointer (some ⟨g2, 0, none⟩))
    (hg2 : w.heap[g2]? = some (.cells #[.bool b] 4 (0, 0))) : (results fn tmps).run Tryd.prog w = .ok (.tuple #[v, .bool b]) w := by
  have hp' : tmps[p]?.getD undef = v := by simpa using hp
  have hq' : tmps[q]?.getD undef = .pointer (some ⟨g2, 0, none⟩) := by simpa using hq
  have hc : w.cell? ⟨g2, 0, none⟩ = some (.bool b) := cell_of_row _ _ 0 _ _ _ hg2
  simp only [results, h]
  simp [hp', hq', asAddr, go_sem, hc]
set_option maxRecDepth 100000 in
set_option maxHeartbeats 1000000 in
theorem iAttemptD_yes (k : FuncId) (cap : Array Value) (hE : ∀ args w, (callFunc k args).run Tryd.prog w = .ok (.enter k args) w) (S : List ByteArray) (Q : List (Int × ByteArray)) (w : World)
    (hC : ∀ w1, Below w.heap.size w w1 → Calls Tryd.prog k cap w1 fun e w' => ∃ v1 v2, e = .returned (diskV v1 v2) ∧ OwnD w' w1.heap.size v1 v2 S Q ∧ Below w1.heap.size w1 w') :
    Calls Tryd.prog 70 #[.func (.func k) #[] cap] w fun e w' => ∃ v1 v2, e = .returned (.tuple #[diskV v1 v2, .bool true]) ∧ OwnD w' w.heap.size v1 v2 S Q ∧ Below w.heap.size w w' := by
  have hmf : ∀ (fn : Fn) (first cap : Array Value) (w : World), (Instr.makeFunc fn first cap).run Tryd.prog w = .ok (.func fn first cap) w := fun _ _ _ _ => rfl
  obtain ⟨W, hW⟩ : ∃ W, (w.alloc (.cells #[.slice none 0 0, .slice none 0 0] 26)).alloc (.cells #[.bool false] 4) = W := ⟨_, rfl⟩
  have hbW : Below w.heap.size w W := by rw [← hW]; exact gAlloc2 _ _ _
  have hsW : W.heap.size = w.heap.size + 2 := by rw [← hW]; simp
  have h1 : W.heap[w.heap.size]? = some (.cells #[.slice none 0 0, .slice none 0 0] 26 (0, 0)) := by rw [← hW]; exact gBox9 _ _ _
  have h2 : W.heap[w.heap.size + 1]? = some (.cells #[.bool false] 4 (0, 0)) := by
    rw [← hW, show w.heap.size + 1 = (w.alloc (.cells #[.slice none 0 0, .slice none 0 0] 26)).heap.size by simp]; exact heap_alloc_new _ _
  have HC := Lib.hid (hC W hbW)
  go_enter_defers Tryd.func70, Tryd.ntmps70
  go_wp2_with (go_at_fn k; refine HC.out.mono ?_; rintro e w1 ⟨v1, v2, rfl, ho, hb1⟩; (obtain ⟨A1, c1, rfl, -⟩ := ho.sure.form fSt_len); (obtain ⟨A2, c2, rfl, -⟩ := ho.later.form fPu_len); (have k1 := (hb1.block _ (heap_lt h1)).trans h1); (have k2 := (hb1.block _ (heap_lt h2)).trans h2); (have x0 := cell_of_row _ _ 0 _ _ _ k1); (have x1 := cell_of_row _ _ 1 _ _ _ k1); (have x2 := cell_of_row _ _ 0 _ _ _ k2); (have z0 := frozen_of_row _ _ 0 _ _ k1); (have z1 := frozen_of_row _ _ 1 _ _ k1); (have z2 := frozen_of_row _ _ 0 _ _ k2); (have HO := Lib.hid ho); (have HB1 := Lib.hid hb1); (have K1 := Lib.hid k1); (have K2 := Lib.hid k2); clear ho hb1 k1 k2)
  clear x0 x1 x2 z0 z1 z2
  have hx1 : ∀ g j, w.heap.size + 2 ≤ g → (⟨w.heap.size + j, 0, none⟩ : Addr).block = g → j < 2 → False := fun g j h1 h2 h3 => by simp at h2; omega
  have e1 : ((w1.setCell ⟨w.heap.size, 0, none⟩ (.slice A1 S.length c1)).setCell ⟨w.heap.size, 1, none⟩ (.slice A2 Q.length c2)).heap[w.heap.size]? = some (.cells #[.slice A1 S.length c1, .slice A2 Q.length c2] 26 (0, 0)) := heap_setCell_same _ _ 1 _ _ _ (heap_setCell_same _ _ 0 _ _ _ K1.out)
  have e2 : ((w1.setCell ⟨w.heap.size, 0, none⟩ (.slice A1 S.length c1)).setCell ⟨w.heap.size, 1, none⟩ (.slice A2 Q.length c2)).heap[w.heap.size + 1]? = some (.cells #[.bool false] 4 (0, 0)) := (heap_setCell_other _ ⟨w.heap.size, 1, none⟩ _ _ (by simp)).trans ((heap_setCell_other _ ⟨w.heap.size, 0, none⟩ _ _ (by simp)).trans K2.out)
  have hn1 : ∀ g, (Value.slice A1 S.length c1).ownBlock = some g → W.heap.size ≤ g := fun g hg => (HO.out.sure.lt g hg).1
  have hn2 : ∀ g, (Value.slice A2 Q.length c2).ownBlock = some g → W.heap.size ≤ g := fun g hg => (HO.out.later.lt g hg).1
  have ho2 := (HO.out.set9 (Y := w.heap.size) (fun g hg => by have := hn1 g hg; omega) (fun g hg => by have := hn2 g hg; omega) 0 (.slice A1 S.length c1)).set9 (Y := w.heap.size) (fun g hg => by have := hn1 g hg; omega) (fun g hg => by have := hn2 g hg; omega) 1 (.slice A2 Q.length c2)
  have hb2 : Below w.heap.size w ((w1.setCell ⟨w.heap.size, 0, none⟩ (.slice A1 S.length c1)).setCell ⟨w.heap.size, 1, none⟩ (.slice A2 Q.length c2)) := ((hbW.trans (HB1.out.mono (by omega))).setCell (Nat.le_refl _) _).setCell (Nat.le_refl _) _
  generalize (w1.setCell ⟨w.heap.size, 0, none⟩ (.slice A1 S.length c1)).setCell ⟨w.heap.size, 1, none⟩ (.slice A2 Q.length c2) = w2 at *
  have e3 : (w2.setCell ⟨w.heap.size + 1, 0, none⟩ (.bool true)).heap[w.heap.size]? = some (.cells #[.slice A1 S.length c1, .slice A2 Q.length c2] 26 (0, 0)) := (heap_setCell_other _ ⟨w.heap.size + 1, 0, none⟩ _ _ (by simp)).trans e1
  have e4 : (w2.setCell ⟨w.heap.size + 1, 0, none⟩ (.bool true)).heap[w.heap.size + 1]? = some (.cells #[.bool true] 4 (0, 0)) := heap_setCell_same _ _ 0 _ _ _ e2
  have ho3 := ho2.set9 (Y := w.heap.size + 1) (fun g hg => by have := hn1 g hg; omega) (fun g hg => by have := hn2 g hg; omega) 0 (.bool true)
  have hb3 : Below w.heap.size w (w2.setCell ⟨w.heap.size + 1, 0, none⟩ (.bool true)) := hb2.setCell (by show w.heap.size ≤ w.heap.size + 1; omega) _
  generalize w2.setCell ⟨w.heap.size + 1, 0, none⟩ (.bool true) = w3 at *
  refine leaves_cons (f := 91) (args := #[.pointer (some ⟨w.heap.size + 1, 0, none⟩)]) (by simp) (by simp [go_sem]) ?_
  refine (iCatchD_yes _ true w3 (cell_of_row _ _ 0 _ _ _ e4) (frozen_of_row _ _ 0 _ _ e4)).mono ?_
  rintro e u' w'' ⟨rfl, rfl, rfl⟩
  refine ⟨_, res_dkb rfl w.heap.size (w.heap.size + 1) _ _ true rfl rfl ((heap_setCell_other _ ⟨w.heap.size + 1, 0, none⟩ _ _ (by simp)).trans e3) (heap_setCell_same _ _ 0 _ _ _ e4), _, _, rfl, ?_, hb3.setCell (by show w.heap.size ≤ w.heap.size + 1; omega) _⟩
  exact (ho3.set9 (Y := w.heap.size + 1) (fun g hg => by have := hn1 g hg; omega) (fun g hg => by have := hn2 g hg; omega) 0 (.bool true)).lower (by omega)
set_option maxRecDepth 100000 in
set_option maxHeartbeats 1000000 in
theorem iAttemptD_no (k : FuncId) (cap : Array Value) (hE : ∀ args w, (callFunc k args).run Tryd.prog w = .ok (.enter k args) w) (w : World)
    (hC : ∀ w1, Below w.heap.size w w1 → Calls Tryd.prog k cap w1 fun e w' => Died e ∧ Below w1.heap.size w1 w') :
    Calls Tryd.prog 70 #[.func (.func k) #[] cap] w fun e w' => ∃ v1 v2, e = .returned (.tuple #[diskV v1 v2, .bool false]) ∧ OwnD w' w.heap.size v1 v2 [] [] ∧ Below w.heap.size w w' := by
  have hmf : ∀ (fn : Fn) (first cap : Array Value) (w : World), (Instr.makeFunc fn first cap).run Tryd.prog w = .ok (.func fn first cap) w := fun _ _ _ _ => rfl
  obtain ⟨W, hW⟩ : ∃ W, (w.alloc (.cells #[.slice none 0 0, .slice none 0 0] 26)).alloc (.cells #[.bool false] 4) = W := ⟨_, rfl⟩
  have hbW : Below w.heap.size w W := by rw [← hW]; exact gAlloc2 _ _ _
  have hsW : W.heap.size = w.heap.size + 2 := by rw [← hW]; simp
  have h1 : W.heap[w.heap.size]? = some (.cells #[.slice none 0 0, .slice none 0 0] 26 (0, 0)) := by rw [← hW]; exact gBox9 _ _ _
  have h2 : W.heap[w.heap.size + 1]? = some (.cells #[.bool false] 4 (0, 0)) := by
    rw [← hW, show w.heap.size + 1 = (w.alloc (.cells #[.slice none 0 0, .slice none 0 0] 26)).heap.size by simp]; exact heap_alloc_new _ _
  have HC := Lib.hid (hC W hbW)
  go_enter_defers Tryd.func70, Tryd.ntmps70
  go_wp2_with (go_at_fn k; refine HC.out.mono ?_; rintro e w1 ⟨rfl, hb1⟩)
  have k1 := (hb1.block _ (heap_lt h1)).trans h1
  have k2 := (hb1.block _ (heap_lt h2)).trans h2
  refine leaves_cons (f := 91) (args := #[.pointer (some ⟨w.heap.size + 1, 0, none⟩)]) (by simp) (by simp [go_sem]) ?_
  refine (iCatchD_no _ false 9 _ [] w1 (cell_of_row _ _ 0 _ _ _ k2) (frozen_of_row _ _ 0 _ _ k2)).mono ?_
  rintro e u' w'' ⟨rfl, rfl, rfl⟩
  refine ⟨_, res_dkb rfl w.heap.size (w.heap.size + 1) _ _ false rfl rfl ((heap_setCell_other _ ⟨w.heap.size + 1, 0, none⟩ _ _ (by simp)).trans k1) (heap_setCell_same _ _ 0 _ _ _ k2), _, _, rfl, OwnD.nil _ _, (hbW.trans (hb1.mono (by omega))).setCell (by show w.heap.size ≤ w.heap.size + 1; omega) _⟩
set_option maxRecDepth 100000 in
set_option maxHeartbeats 1000000 in
theorem iAttemptS_yes (k : FuncId) (cap : Array Value) (hE : ∀ args w, (callFunc k args).run Tryd.prog w = .ok (.enter k args) w) (y : ByteArray) (w : World)
    (hC : ∀ w1, Below w.heap.size w w1 → Calls Tryd.prog k cap w1 fun e w' => e = .returned (.string y) ∧ Below w1.heap.size w1 w') :
    Calls Tryd.prog 63 #[.func (.func k) #[] cap] w fun e w' => e = .returned (.tuple #[.string y, .bool true]) ∧ Below w.heap.size w w' := by
  have hmf : ∀ (fn : Fn) (first cap : Array Value) (w : World), (Instr.makeFunc fn first cap).run Tryd.prog w = .ok (.func fn first cap) w := fun _ _ _ _ => rfl
  obtain ⟨W, hW⟩ : ∃ W, w.alloc (.cells #[.bool false] 4) = W := ⟨_, rfl⟩
  have hbW : Below w.heap.size w W := by rw [← hW]; exact gAlloc _ _
  have h2 : W.heap[w.heap.size]? = some (.cells #[.bool false] 4 (0, 0)) := by rw [← hW]; exact heap_alloc_new _ _
  have HC := Lib.hid (hC W hbW)
  go_enter_defers Tryd.func63, Tryd.ntmps63
  go_wp2_with (go_at_fn k; refine HC.out.mono ?_; rintro e w1 ⟨rfl, hb1⟩; (have k2 := (hb1.block _ (heap_lt h2)).trans h2); (have x2 := cell_of_row _ _ 0 _ _ _ k2); (have z2 := frozen_of_row _ _ 0 _ _ k2); (have K2 := Lib.hid k2); (have HB1 := Lib.hid (below_more hbW hb1)); clear hb1 k2)
  clear x2 z2
  have e4 : (w1.setCell ⟨w.heap.size, 0, none⟩ (.bool true)).heap[w.heap.size]? = some (.cells #[.bool true] 4 (0, 0)) := heap_setCell_same _ _ 0 _ _ _ K2.out
  have hb3 : Below w.heap.size w (w1.setCell ⟨w.heap.size, 0, none⟩ (.bool true)) := HB1.out.setCell (Nat.le_refl _) _
  generalize w1.setCell ⟨w.heap.size, 0, none⟩ (.bool true) = w3 at *
  refine leaves_cons (f := 86) (args := #[.pointer (some ⟨w.heap.size, 0, none⟩)]) (by simp) (by simp [go_sem]) ?_
  refine (iCatchS_yes _ true w3 (cell_of_row _ _ 0 _ _ _ e4) (frozen_of_row _ _ 0 _ _ e4)).mono ?_
  rintro e u' w'' ⟨rfl, rfl, rfl⟩
  exact ⟨_, res_stb rfl w.heap.size _ true rfl rfl (heap_setCell_same _ _ 0 _ _ _ e4), rfl, hb3.setCell (Nat.le_refl _) _⟩
set_option maxRecDepth 100000 in
set_option maxHeartbeats 1000000 in
theorem iAttemptS_no (k : FuncId) (cap : Array Value) (hE : ∀ args w, (callFunc k args).run Tryd.prog w = .ok (.enter k args) w) (w : World)
    (hC : ∀ w1, Below w.heap.size w w1 → Calls Tryd.prog k cap w1 fun e w' => Died e ∧ Below w1.heap.size w1 w') :
    Calls Tryd.prog 63 #[.func (.func k) #[] cap] w fun e w' => e = .returned (.tuple #[.string ⟨#[]⟩, .bool false]) ∧ Below w.heap.size w w' := by
  have hmf : ∀ (fn : Fn) (first cap : Array Value) (w : World), (Instr.makeFunc fn first cap).run Tryd.prog w = .ok (.func fn first cap) w := fun _ _ _ _ => rfl
  obtain ⟨W, hW⟩ : ∃ W, w.alloc (.cells #[.bool false] 4) = W := ⟨_, rfl⟩
  have hbW : Below w.heap.size w W := by rw [← hW]; exact gAlloc _ _
  have h2 : W.heap[w.heap.size]? = some (.cells #[.bool false] 4 (0, 0)) := by rw [← hW]; exact heap_alloc_new _ _
  have HC := Lib.hid (hC W hbW)
  go_enter_defers Tryd.func63, Tryd.ntmps63
  go_wp2_with (go_at_fn k; refine HC.out.mono ?_; rintro e w1 ⟨rfl, hb1⟩)
  have k2 := (hb1.block _ (heap_lt h2)).trans h2
  refine leaves_cons (f := 86) (args := #[.pointer (some ⟨w.heap.size, 0, none⟩)]) (by simp) (by simp [go_sem]) ?_
  refine (iCatchS_no _ false 9 _ [] w1 (cell_of_row _ _ 0 _ _ _ k2) (frozen_of_row _ _ 0 _ _ k2)).mono ?_
  rintro e u' w'' ⟨rfl, rfl, rfl⟩
  exact ⟨_, res_stb rfl w.heap.size _ false rfl rfl (heap_setCell_same _ _ 0 _ _ _ k2), rfl, (below_more hbW hb1).setCell (Nat.le_refl _) _⟩
end Go.Proofs.YthbjcipdneminaaDoor

/- GC -/
namespace Go.Proofs.YthbjcipdneminaaDoor
open Go.RowKit

theorem filter_snoc9 {α : Type} {p : α → Bool} {l : List α} {t : Nat} (h : t < l.length) : ((l.take (t + 1)).filter p).length = ((l.take t).filter p).length + (if p l[t] = true then 1 else 0) := by
  rw [List.take_succ_eq_append_getElem h, List.filter_append, List.length_append]
  cases e : p l[t] <;> simp [e]
theorem filter_all9 {α : Type} {p : α → Bool} {l : List α} : ((((l.filter p).length : Nat) : Int) == ((l.length : Nat) : Int)) = l.all p := by
  rw [Bool.eq_iff_iff, beq_iff_eq, List.all_eq_true]
  constructor
  · intro h
    exact (List.length_filter_eq_length_iff.1 (by omega))
  · intro h
    have := List.length_filter_eq_length_iff.2 h
    omega
set_option maxRecDepth 100000 in
theorem iSector9 (s : ByteArray) (w : World) : Calls Tryd.prog 60 #[.string s] w fun e w' => e = .returned (.bool (stB9 s)) ∧ w = w' := by
  have HE : Hid (((s.size : Int) == 16) = stB9 s) := by
    show _ = _
    rw [stB9, Bool.eq_iff_iff, beq_iff_eq, decide_eq_true_eq]; omega
  go_enter Tryd.func60, Tryd.ntmps60
  go_wp2_with fail
  go_ret
  exact ⟨ret_bool' HE.out, rfl⟩
set_option maxRecDepth 100000 in
theorem iAt9 (n : Int) (w : World) : Calls Tryd.prog 66 #[.int .i64 n] w fun e w' => e = .returned (.bool (inB n 0 11)) ∧ w = w' := by
  by_cases h0 : (0 : Int) ≤ n
  · have HE : Hid (decide (n < 12) = inB n 0 11) := by
      show _ = _
      rw [inB, Bool.eq_iff_iff]; simp; omega
    go_enter Tryd.func66, Tryd.ntmps66
    go_wp2_with fail
    go_ret
    exact ⟨ret_bool' HE.out, rfl⟩
  · have HE : Hid (inB n 0 11 = false) := inB_false (by omega)
    go_enter Tryd.func66, Tryd.ntmps66
    go_wp2_with fail
    go_ret
    exact ⟨ret_bool' HE.out.symm, rfl⟩
set_option maxRecDepth 100000 in
set_option maxHeartbeats 1000000 in
theorem iPut9 (x : Int) (s : ByteArray) (w : World) : Calls Tryd.prog 62 #[putV x s] w fun e w' => e = .returned (.bool (puB9 (x, s))) ∧ Below w.heap.size w w' := by
  have hW := gAlloc w (.cells #[.int .i64 x, .string s] 77)
  have hx0 : (w.alloc (.cells #[.int .i64 x, .string s] 77)).cell? ⟨w.heap.size, 0, none⟩ = some (.int .i64 x) := cell_of_row _ _ 0 _ _ _ (heap_alloc_new _ _)
  have hx1 : (w.alloc (.cells #[.int .i64 x, .string s] 77)).cell? ⟨w.heap.size, 1, none⟩ = some (.string s) := cell_of_row _ _ 1 _ _ _ (heap_alloc_new _ _)
  have HB := Lib.hid hW
  have HAt := Lib.hid (fun w => iAt9 x w)
  have HE : Hid (puB9 (x, s) = (inB x 0 11 && stB9 s)) := rfl
  clear hW
  cases hi : inB x 0 11
  · rw [hi] at HAt HE
    clear hi
    go_enter Tryd.func62, Tryd.ntmps62
    go_wp2_with (go_at_call 66; refine (HAt.out _).mono ?_; rintro e w' ⟨rfl, rfl⟩)
    go_ret
    exact ⟨ret_bool' HE.out.symm, HB.out⟩
  · rw [hi] at HAt HE
    clear hi
    have HSt := Lib.hid (fun w => iSector9 s w)
    generalize stB9 s = b at *
    go_enter Tryd.func62, Tryd.ntmps62
    go_wp2_with (first
      | (go_at_call 66; refine (HAt.out _).mono ?_; rintro e w' ⟨rfl, rfl⟩)
      | (go_at_call 60; refine (HSt.out _).mono ?_; rintro e w' ⟨rfl, rfl⟩))
    go_ret
    exact ⟨ret_bool' HE.out.symm, HB.out⟩

set_option maxRecDepth 100000 in
set_option maxHeartbeats 2000000 in
theorem iCountSt (A : Option Addr) (ss : List ByteArray) (ca : Nat) (w : World) (ha : Strs w A ss) (hl : ss.length ≤ 1048576) :
    Calls Tryd.prog 59 #[.slice A ss.length ca, .func (.func 60) #[] #[]] w fun e w' => e = .returned (.int .i64 ((ss.filter stB9).length : Nat)) ∧ w = w' := by
  have HA := Lib.hid ha
  clear ha
  go_enter Tryd.func59, Tryd.ntmps59
  go_wp2_with fail
  go_loopg [5, 10] ss.length (fun gk s i wr => ∃ t : Nat, t + gk = ss.length ∧ i = .int .i64 t ∧ s = .int .i64 (((ss.take t).filter stB9).length : Nat) ∧ w = wr)
  case atStart => exact ⟨0, by omega, rfl, rfl, rfl⟩
  case round =>
    obtain ⟨t, hg, rfl, rfl, rfl⟩ := hrel
    by_cases hlt : t < ss.length
    · have hti : (t : Int) < (ss.length : Int) := by omega
      obtain ⟨b1, o1, rfl, hz⟩ := strs_at HA.out hlt
      have HS := Lib.hid (filter_snoc9 (p := stB9) hlt)
      have hal : ((ss.take t).filter stB9).length ≤ 1048576 := Nat.le_trans (List.length_filter_le _ _) (by rw [List.length_take]; omega)
      have HGK : Hid (ss.length - t - 1 < gk ∧ t + 1 + (ss.length - t - 1) = ss.length) := by show _ ∧ _; omega
      clear hg
      generalize ss[t] = z at *
      generalize ((ss.take t).filter stB9).length = s at *
      cases he : stB9 z
      · have HS2 : Hid (((ss.take (t + 1)).filter stB9).length = s) := by show _ = _; rw [HS.out, if_neg (by rw [he]; decide)]; rfl
        have HC := Lib.hid (iSector9 z w)
        rw [he] at HC
        clear he HS
        go_wp2_with (go_at_call 60; refine HC.out.mono ?_; rintro e w' ⟨rfl, rfl⟩)
        go_roundg (ss.length - t - 1)
        case measure => exact HGK.out.1
        case rel => exact ⟨t + 1, HGK.out.2, by go_num, by rw [HS2.out], rfl⟩
      · have HS2 : Hid (((ss.take (t + 1)).filter stB9).length = s + 1) := by show _ = _; rw [HS.out, if_pos he]
        have HC := Lib.hid (iSector9 z w)
        rw [he] at HC
        clear he HS
        go_wp2_with (go_at_call 60; refine HC.out.mono ?_; rintro e w' ⟨rfl, rfl⟩)
        go_roundg (ss.length - t - 1)
        case measure => exact HGK.out.1
        case rel => exact ⟨t + 1, HGK.out.2, by go_num, by rw [HS2.out]; go_num, rfl⟩
    · obtain rfl : t = ss.length := by omega
      rw [List.take_length]
      have hti : ¬ (ss.length : Int) < (ss.length : Int) := by omega
      clear hg
      go_wp2_with fail
      go_ret
      exact ⟨rfl, rfl⟩
set_option maxRecDepth 100000 in
set_option maxHeartbeats 2000000 in
theorem iCountPu (A : Option Addr) (ps : List (Int × ByteArray)) (ca : Nat) (w : World) (ha : Puts w A ps) (hl : ps.length ≤ 1048576) :
    Calls Tryd.prog 61 #[.slice A ps.length ca, .func (.func 62) #[] #[]] w fun e w' => e = .returned (.int .i64 ((ps.filter puB9).length : Nat)) ∧ Below w.heap.size w w' := by
  have HA := Lib.hid ha
  clear ha
  go_enter Tryd.func61, Tryd.ntmps61
  go_wp2_with fail
  go_loopg [5, 10] ps.length (fun gk s i wr => ∃ t : Nat, t + gk = ps.length ∧ i = .int .i64 t ∧ s = .int .i64 (((ps.take t).filter puB9).length : Nat) ∧ Below w.heap.size w wr)
  case atStart => exact ⟨0, by omega, rfl, rfl, Below.refl _ _⟩
  case round =>
    obtain ⟨t, hg, rfl, rfl, hbel⟩ := hrel
    have HBl := Lib.hid hbel
    clear hbel
    by_cases hlt : t < ps.length
    · have hti : (t : Int) < (ps.length : Int) := by omega
      obtain ⟨b1, o1, rfl, p1, p2⟩ := puts_at (HA.out.below HBl.out) hlt
      have HS := Lib.hid (filter_snoc9 (p := puB9) hlt)
      have hal : ((ps.take t).filter puB9).length ≤ 1048576 := Nat.le_trans (List.length_filter_le _ _) (by rw [List.length_take]; omega)
      have HGK : Hid (ps.length - t - 1 < gk ∧ t + 1 + (ps.length - t - 1) = ps.length) := by show _ ∧ _; omega
      clear hg
      generalize ps[t] = z at *
      obtain ⟨z1, z2⟩ := z
      generalize ((ps.take t).filter puB9).length = s at *
      have hW := gAlloc wr (.cells #[.int .i64 z1, .string z2] 77)
      have HBw := Lib.hid (below_more HBl.out hW)
      have hx0 : (wr.alloc (.cells #[.int .i64 z1, .string z2] 77)).cell? ⟨wr.heap.size, 0, none⟩ = some (.int .i64 z1) := cell_of_row _ _ 0 _ _ _ (heap_alloc_new _ _)
      have hx1 : (wr.alloc (.cells #[.int .i64 z1, .string z2] 77)).cell? ⟨wr.heap.size, 1, none⟩ = some (.string z2) := cell_of_row _ _ 1 _ _ _ (heap_alloc_new _ _)
      have HC := Lib.hid (iPut9 z1 z2 (wr.alloc (.cells #[.int .i64 z1, .string z2] 77)))
      clear hW
      cases he : puB9 (z1, z2)
      · have HS2 : Hid (((ps.take (t + 1)).filter puB9).length = s) := by show _ = _; rw [HS.out, if_neg (by rw [he]; decide)]; rfl
        rw [he] at HC
        clear he HS
        go_wp2_with (go_at_call 62; refine HC.out.mono ?_; rintro e w2 ⟨rfl, hb2⟩)
        have HB2 := Lib.hid (below_more HBw.out hb2)
        go_roundg (ps.length - t - 1)
        case measure => exact HGK.out.1
        case rel => exact ⟨t + 1, HGK.out.2, by go_num, by rw [HS2.out], HB2.out⟩
      · have HS2 : Hid (((ps.take (t + 1)).filter puB9).length = s + 1) := by show _ = _; rw [HS.out, if_pos he]
        rw [he] at HC
        clear he HS
        go_wp2_with (go_at_call 62; refine HC.out.mono ?_; rintro e w2 ⟨rfl, hb2⟩)
        have HB2 := Lib.hid (below_more HBw.out hb2)
        go_roundg (ps.length - t - 1)
        case measure => exact HGK.out.1
        case rel => exact ⟨t + 1, HGK.out.2, by go_num, by rw [HS2.out]; go_num, HB2.out⟩
    · obtain rfl : t = ps.length := by omega
      rw [List.take_length]
      have hti : ¬ (ps.length : Int) < (ps.length : Int) := by omega
      clear hg
      go_wp2_with fail
      go_ret
      exact ⟨rfl, HBl.out⟩
end Go.Proofs.YthbjcipdneminaaDoor

/- GD -/
namespace Go.Proofs.YthbjcipdneminaaDoor
open Go.RowKit

theorem quiet9 {P : Program} {f : FuncId} {args : Array Value} {w : World} {n : Nat} {v : Value} (h : Calls P f args (w.drewN n) fun e w' => e = .returned v ∧ w.drewN n = w') : Calls P f args (w.drewN n) fun e w'' => e = .returned v ∧ ∃ m, w'' = w.drewN m :=
  h.mono fun _ _ ⟨he, hw⟩ => ⟨he, n, hw.symm⟩
set_option maxRecDepth 100000 in
set_option maxHeartbeats 4000000 in
theorem iGoodD_any (A B : Option Addr) (ss : List ByteArray) (ps : List (Int × ByteArray)) (ca cb : Nat) (w : World) (hd : DiskIn w A B ss ps) :
    Calls Tryd.prog 34 #[diskV (.slice A ss.length ca) (.slice B ps.length cb)] w fun e w' => e = .returned (.bool (goodDB ss ps)) ∧ Below w.heap.size w w' := by
  have hW := gAlloc w (.cells #[.slice A ss.length ca, .slice B ps.length cb] 26)
  have HD := Lib.hid (hd.below hW)
  have HB := Lib.hid hW
  have hx0 : (w.alloc (.cells #[.slice A ss.length ca, .slice B ps.length cb] 26)).cell? ⟨w.heap.size, 0, none⟩ = some (.slice A ss.length ca) := cell_of_row _ _ 0 _ _ _ (heap_alloc_new _ _)
  have hx1 : (w.alloc (.cells #[.slice A ss.length ca, .slice B ps.length cb] 26)).cell? ⟨w.heap.size, 1, none⟩ = some (.slice B ps.length cb) := cell_of_row _ _ 1 _ _ _ (heap_alloc_new _ _)
  have hsX : w.heap.size < (w.alloc (.cells #[.slice A ss.length ca, .slice B ps.length cb] 26)).heap.size := by simp
  have hl1 := hd.len
  have hl2 := hd.len2
  clear hd hW
  generalize hWW : w.alloc (.cells #[.slice A ss.length ca, .slice B ps.length cb] 26) = W at *
  have HC1 := Lib.hid (fun w' (h : Below W.heap.size W w') => iCountSt A ss ca w' (HD.out.sure.below h) hl1)
  have HC2 := Lib.hid (fun w' (h : Below W.heap.size W w') => iCountPu B ps cb w' (HD.out.later.below h) hl2)
  have HN : Hid (∀ n, Below w.heap.size w (W.drewN n)) := fun n => below_more HB.out (gDrewN n)
  by_cases h12 : ss.length = 12
  · have h12i : ((ss.length : Int) == 12) = true := by rw [h12]; rfl
    have HF1 := Lib.hid (filter_all9 (p := stB9) (l := ss))
    have HF2 := Lib.hid (filter_all9 (p := puB9) (l := ps))
    have HE : Hid (goodDB ss ps = (ss.all stB9 && (ps.all puB9 && decide (ps.length ≤ 40)))) := by show _ = _; rw [goodDB, h12]; simp
    clear h12
    generalize ((ss.filter stB9).length) = n1 at *
    generalize ((ps.filter puB9).length) = n2 at *
    cases hb : ss.all stB9
    · rw [hb] at HF1 HE
      have hF1 := HF1.out
      clear hb HF1
      go_enter Tryd.func34, Tryd.ntmps34
      go_wp2_with fail
      go_quiet (first
        | (go_at_call 59; exact quiet9 (HC1.out _ (gDrewN _))))
      go_wp2_with fail
      go_ret
      exact ⟨ret_bool' HE.out.symm, HN.out _⟩
    · rw [hb] at HF1 HE
      have hF1 := HF1.out
      clear hb HF1
      by_cases h40 : (ps.length : Int) ≤ 40
      · have HE2 : Hid (goodDB ss ps = ps.all puB9) := by
          show _ = _; rw [HE.out, show decide (ps.length ≤ 40) = true by simp; omega]; simp
        clear HE
        go_enter Tryd.func34, Tryd.ntmps34
        go_wp2_with fail
        clear hWW
        go_region_held3 (fun w' => w'.cell? ⟨w.heap.size, 0, none⟩ = some (.slice A ss.length ca) ∧ w'.cell? ⟨w.heap.size, 1, none⟩ = some (.slice B ps.length cb)) (first | exact ⟨hx0, hx1⟩ | exact ⟨hy0, hy1⟩ | go_keep) (first
          | (go_at_call 59; refine (HC1.out _ gDrew).mono ?_; rintro e w' ⟨rfl, rfl⟩)
          | (go_at_call 61; refine (HC2.out _ gDrew).mono ?_; rintro e w2 ⟨rfl, hb2⟩; have hy0 := (hb2.cell (World.block_lt_of_cell? _ _ hx0)).trans hx0; have hy1 := (hb2.cell (World.block_lt_of_cell? _ _ hx1)).trans hx1))
        go_wp2_with fail
        go_ret
        exact ⟨ret_bool' (by rw [HE2.out]; exact HF2.out), below_more HB.out (below_more gDrew hb2)⟩
      · have HE2 : Hid (goodDB ss ps = false) := by
          show _ = _; rw [HE.out, show decide (ps.length ≤ 40) = false by simp; omega]; simp
        have hdec : decide ((ps.length : Int) ≤ 40) = false := by simpa using h40
        clear HE
        go_enter Tryd.func34, Tryd.ntmps34
        go_wp2_with fail
        go_quiet (first
          | (go_at_call 59; exact quiet9 (HC1.out _ (gDrewN _))))
        go_wp2_with fail
        go_ret
        exact ⟨ret_bool' HE2.out.symm, HN.out _⟩
  · have h12i : ((ss.length : Int) == 12) = false := by simp; omega
    have HE : Hid (goodDB ss ps = false) := by show _ = _; rw [goodDB]; simp [h12]
    clear h12
    go_enter Tryd.func34, Tryd.ntmps34
    go_wp2_with fail
    go_quiet (fail)
    go_wp2_with fail
    go_ret
    exact ⟨ret_bool' HE.out.symm, HN.out _⟩
end Go.Proofs.YthbjcipdneminaaDoor

/- GE -/
namespace Go.Proofs.YthbjcipdneminaaDoor
open Go.RowKit

theorem splice_rep {α : Type} {x z : α} {n k N : Nat} (h : n + k ≤ N) : splice (List.replicate n x ++ List.replicate (N - n) z) n (List.replicate k x) = List.replicate (n + k) x ++ List.replicate (N - (n + k)) z := by
  unfold splice
  rw [List.take_left' (by simp), List.length_replicate, List.drop_append, List.length_replicate, List.drop_of_length_le (by simp), List.nil_append, List.drop_replicate, ← List.append_assoc, List.replicate_append_replicate]
  congr 2; omega
theorem copy_rep {P : Program} {Ts T : TypeId} {W : World} {X N n k dl dc sl sc : Nat} {x z : Value} {a : Addr} (hu : P.underlying Ts = some (.slice T)) (hs : (P.info? T).map (·.size) = some 1)
    (hg : W.heap[X]? = some (.cells (List.replicate n x ++ List.replicate (N - n) z).toArray T (0, 0))) (h1 : x.oneCell' = true) (hk : k = Nat.min sl dl) (hn : n + k ≤ N) (hsrc : ∀ j, j < k → W.cell? (a.add j) = some x) :
    ∃ W2, (∀ ty, (Builtin.copy_ #[Ts, Ts] ty #[.slice (some ⟨X, n, none⟩) dl dc, .slice (some a) sl sc]).run P W = .ok (.int .i64 (k : Nat)) W2) ∧ W2.heap[X]? = some (.cells (List.replicate (n + k) x ++ List.replicate (N - (n + k)) z).toArray T (0, 0)) ∧ Below X W W2 := by
  have hl : (List.replicate k x).length = k := List.length_replicate
  have hsp := splice_rep (x := x) (z := z) hn
  unfold splice at hsp
  rw [← List.append_assoc, hl] at hsp
  refine ⟨W.setRow X (List.replicate (n + k) x ++ List.replicate (N - (n + k)) z).toArray, fun ty => ?_, setRow_heap W X _ _ T _ hg, below_setRow (Below.refl _ _) (Nat.le_refl _) _⟩
  rw [run_copy_row (P := P) W Ts Ts ty T X n dl dc a sl sc _ T (List.replicate k x) hu hs hg (by rw [hl]; exact hk) (fun j v hj => by
      have hj' := List.getElem?_eq_some_iff.1 hj
      have hjk : j < k := by have := hj'.1; rwa [hl] at this
      rw [← hj'.2, List.getElem_replicate]
      exact hsrc j hjk) (by simp; omega) (fun v hv => by rw [List.eq_of_mem_replicate hv]; exact h1), hl]
  simp only [List.append_assoc] at hsp
  simp only [List.append_assoc, hsp]
  rfl
theorem below_low {B C : Nat} {w w' : World} (h : Below C w w') (hBC : B ≤ C := by exact Nat.le_refl _) : Below B w w' := ⟨h.os, h.tape, h.output, h.size, fun k hk => h.block k (Nat.lt_of_lt_of_le hk hBC)⟩
theorem app_copyPu {ops : Array Oper} {rest : List Oper} {o : Oper} {a : Act} {Q : Exit → Act → World → Prop} (W : World) (L : List (Int × ByteArray)) (A : Option Addr) (ca m : Nat) (hm : L.length = m) (Bn : Nat) (hBn : Bn = W.heap.size) (hgd : o.guard = none) (s x : Operand)
    (ho : o.op = .call { callee := .builtin .append, args := #[s, x], argTypes := #[24, 24] }) (hs : a.eval s = .slice (some ⟨Bn, 0, none⟩) 0 0) (hx : a.eval x = .slice A m ca)
    (hA : Lies9 A ca) (hI : Puts W A L) (hl : L.length ≤ 1000000)
    (h : ∀ v' w', Hid (OwnPu w' W.heap.size v' L ∧ Below W.heap.size W w') → wpList Tryd.prog ops Q rest (a.put o.dst v') w') :
    wpList Tryd.prog ops Q (o :: rest) a (W.alloc (.cells #[] 77)) := by
  obtain ⟨i0, hi, hz0, hz1, hz2⟩ := info_parts puInfo
  exact app_copyR fPu_len (by decide) fPu_one Tryd.underlying24 hi hz0 hz1 hz2 rfl (by decide) W L A ca m hm Bn hBn hgd s x ho hs hx hA hI hl h
theorem iMulOne (N : Nat) (w : World) (hN : N ≤ 1000) : Calls Tryd.prog 94 #[.int .u64 1, .int .u64 (N : Nat)] w fun e w' => e = .returned (.tuple #[.int .u64 0, .int .u64 (N : Nat)]) ∧ w = w' := by
  have h := Any.bits_Mul lays212 1 N (by omega) (by omega) w
  refine h.mono fun e w' ⟨he, hw⟩ => ⟨?_, hw.symm⟩
  rw [he, Nat.one_mul, Nat.div_eq_of_lt (by omega), Nat.mod_eq_of_lt (by omega)]
  rfl

theorem infoRepSt : (Tryd.prog.info? 9).map (fun i => (i.zero, i.size, i.bytes)) = some (some (Value.string ⟨#[]⟩), 1, 16) := by kernel_rfl
theorem rep_ownSt {w : World} {X n : Nat} {y : ByteArray} (h : w.heap[X]? = some (.cells (List.replicate n (Value.string y)).toArray 9 (0, 0))) (hn : n ≤ 1000) : OwnSt w X (.slice (some ⟨X, 0, none⟩) n n) (List.replicate n y) := by
  have h2 : World.ownsRow w X 9 1 (.slice (some ⟨X, 0, none⟩) n n) n (List.replicate n (Value.string y)) :=
    ⟨by simp, Or.inr ⟨X, n, _, rfl, Nat.le_refl _, h, Nat.le_refl _, by unfold maxLen; omega, by simp, by simp⟩⟩
  show World.ownsRow _ _ _ _ _ _ _
  rw [List.length_replicate]
  have e : (List.replicate n y).flatMap fSt = List.replicate n (Value.string y) := by simp [List.flatMap, List.map_replicate]
  rw [e]
  exact h2
theorem infoRepIn : (Tryd.prog.info? 3).map (fun i => (i.zero, i.size, i.bytes)) = some (some (Value.int .i64 0), 1, 8) := by kernel_rfl
theorem rep_ownIn {w : World} {X n : Nat} {y : Int} (h : w.heap[X]? = some (.cells (List.replicate n (Value.int .i64 y)).toArray 3 (0, 0))) (hn : n ≤ 1000) : Own w X (.slice (some ⟨X, 0, none⟩) n n) (List.replicate n y) := by
  have h2 : World.ownsRow w X 3 1 (.slice (some ⟨X, 0, none⟩) n n) n (List.replicate n (Value.int .i64 y)) :=
    ⟨by simp, Or.inr ⟨X, n, _, rfl, Nat.le_refl _, h, Nat.le_refl _, by unfold maxLen; omega, by simp, by simp⟩⟩
  show World.ownsRow _ _ _ _ _ _ _
  rw [List.length_replicate]
  have e : (List.replicate n y).map (Value.int .i64) = List.replicate n (Value.int .i64 y) := by simp
  rw [e]
  exact h2
set_option maxRecDepth 100000 in
set_option maxHeartbeats 600000 in
theorem iRepIn (y : Int) (b o c N : Nat) (w : World) (hc : w.cell? ⟨b, o, none⟩ = some (Value.int .i64 y)) (hN : N ≤ 1000) :
    Calls Tryd.prog 88 #[.slice (some ⟨b, o, none⟩) 1 c, .int .i64 (N : Nat)] w fun e w' => ∃ v, e = .returned v ∧ Own w' w.heap.size v (List.replicate N y) ∧ Below w.heap.size w w' := by
  have hmk := run_make_row' (P := Tryd.prog) 70 3 (Value.int .i64 0) 8 Tryd.underlying70 infoRepIn rfl .i64 .i64 N (by omega) (by omega) w
  have hNi : ¬ (N : Int) < 0 := by omega
  have hN2 : (N : Int) ≤ 1000 := by omega
  have hNb : ¬ (9223372036854775807 : Int) < (N : Int) := by omega
  have HM := Lib.hid (iMulOne N w hN)
  obtain ⟨W, hW⟩ : ∃ W, w.alloc (.cells (madeCells #[Value.int .i64 0] N) 3) = W := ⟨_, rfl⟩
  have hbW : Below w.heap.size w W := by rw [← hW]; exact gAlloc _ _
  have hcW : W.cell? ⟨b, o, none⟩ = some (Value.int .i64 y) := (hbW.cell (World.block_lt_of_cell? _ _ hc)).trans hc
  have hg0 : W.heap[w.heap.size]? = some (.cells (List.replicate 0 (Value.int .i64 y) ++ List.replicate (N - 0) (Value.int .i64 0)).toArray 3 (0, 0)) := by
    rw [← hW, heap_alloc_new]
    congr 2
    apply Array.toList_inj.1
    have e := made_row (Value.int .i64 0) N rfl
    rw [Nat.mul_one] at e
    simp only [List.replicate_zero, List.nil_append, Nat.sub_zero]; exact e
  rw [hW] at hmk
  have HG := Lib.hid hg0
  have HB := Lib.hid hbW
  have HC := Lib.hid hcW
  clear hg0 hbW hcW hW hc
  generalize hX : w.heap.size = X at *
  have HX := Lib.hid hX
  clear hX
  obtain ⟨W2, hcp, hg3, hb3⟩ := copy_rep (P := Tryd.prog) (Ts := 70) (T := 3) Tryd.underlying70 (by kernel_rfl) HG.out (x := Value.int .i64 y) rfl (n := 0) (k := min 1 N) (dl := N) (dc := N) (a := ⟨b, o, none⟩) (sl := 1) (sc := c) (by rfl) (by omega) (fun j hj => by
    have h0 : j = 0 := by omega
    subst h0
    rw [show (⟨b, o, none⟩ : Addr).add 0 = ⟨b, o, none⟩ by unfold Addr.add; split <;> simp_all]
    exact HC.out)
  rw [Nat.zero_add] at hg3
  have HG2 := Lib.hid hg3
  have HB2 := Lib.hid (HB.out.trans (below_low hb3))
  have hk0 : min 1 N ≤ N := Nat.min_le_right 1 N
  have HK0 : Hid (0 < N → 0 < min 1 N) := fun h => by omega
  clear hg3 hb3 HG HB HC
  generalize min 1 N = k0 at *
  go_enter Tryd.func88, Tryd.ntmps88
  go_wp2_with (go_at_call 94; refine HM.out.mono ?_; rintro e w' ⟨rfl, rfl⟩)
  clear hcp hmk HM
  go_loopg [8] N (fun gk i wr => ∃ n : Nat, n ≤ N ∧ (0 < N → 0 < n) ∧ N - n ≤ gk ∧ i = .int .i64 n ∧ wr.heap[X]? = some (.cells (List.replicate n (Value.int .i64 y) ++ List.replicate (N - n) (Value.int .i64 0)).toArray 3 (0, 0)) ∧ Below X w wr)
  case atStart => exact ⟨k0, hk0, HK0.out, by omega, by go_num, HG2.out, HB2.out⟩
  case round =>
    obtain ⟨n, hnN, hn0, hgk, rfl, hrow, hbel⟩ := hrel
    have HR := Lib.hid hrow
    have HBl := Lib.hid hbel
    clear hrow hbel HG2 HB2 HK0 hk0
    by_cases hlt : n < N
    · have hni : (n : Int) < (N : Int) := by omega
      have hn1 := hn0 (by omega)
      have hne : ¬ N = n := by omega
      have hne2 : ¬ n = N := by omega
      have hn00 : ¬ n = 0 := by omega
      have HGK : Hid (N - (n + min n (N - n)) < gk ∧ N - (n + min n (N - n)) ≤ N - (n + min n (N - n)) ∧ n + min n (N - n) ≤ N ∧ 0 < n + min n (N - n)) := by show _ ∧ _ ∧ _ ∧ _; omega
      clear hgk hn0
      obtain ⟨k, hkk⟩ : ∃ k, min n (N - n) = k := ⟨_, rfl⟩
      rw [hkk] at HGK
      have hdr : (wr.drew).heap[X]? = some (.cells (List.replicate n (Value.int .i64 y) ++ List.replicate (N - n) (Value.int .i64 0)).toArray 3 (0, 0)) := HR.out
      have hnk : n + k ≤ N := by omega
      have hni2 : (n : Int) ≤ (N : Int) := by omega
      have HP : Hid (n + k ≤ N ∧ (List.replicate k (Value.int .i64 y)).length = Nat.min n (N - n)) := by
        rw [List.length_replicate]; exact ⟨hnk, hkk.symm⟩
      have HQ : Hid (∀ j v, (List.replicate k (Value.int .i64 y))[j]? = some v → wr.drew.cell? ((⟨X, 0, none⟩ : Addr).add j) = some v) := fun j v hj => by
        have hj' := List.getElem?_eq_some_iff.1 hj
        have hjk : j < k := by have := hj'.1; rwa [List.length_replicate] at this
        rw [show (⟨X, 0, none⟩ : Addr).add j = ⟨X, j, none⟩ by unfold Addr.add; split <;> simp_all]
        have hjn : j < n := by omega
        rw [cell_of_row _ _ j _ _ _ hdr, ← hj'.2, List.getElem_replicate, List.getElem?_toArray, List.getElem?_append_left (by simpa using hjn), List.getElem?_replicate, if_pos hjn]
      have HD := Lib.hid hdr
      have HB3 := Lib.hid (HBl.out.trans (below_low (B := X) (gDrew (w := wr)) (by rw [← HX.out]; exact HBl.out.size)))
      have hks : (n : Int) + (k : Int) ≤ 1000 := by omega
      have HS := Lib.hid (splice_rep (x := Value.int .i64 y) (z := Value.int .i64 0) HP.out.1)
      have HL1 : Hid (∀ v ∈ List.replicate k (Value.int .i64 y), v.oneCell' = true) := fun v hv => by rw [List.eq_of_mem_replicate hv]; rfl
      have HL2 : Hid (n + (List.replicate k (Value.int .i64 y)).length ≤ (List.replicate n (Value.int .i64 y) ++ List.replicate (N - n) (Value.int .i64 0)).length) := by show _ ≤ _; simp; omega
      have hn0i : (0 : Int) ≤ (n : Int) := by omega
      have hadd : IntKind.i64.wrap ((n : Int) + (k : Int)) = (n : Int) + (k : Int) := wrap62 _ (by omega) (by omega)
      have HI1 : Hid ((Tryd.prog.info? 3).map (·.size) = some 1) := by show _ = _; kernel_rfl
      clear hdr hkk hnk
      go_wp2_with fail
      go_region_law (first
        | (refine step_copy_splice rfl (.tmp 41) (.tmp 44) 70 70 rfl 3 Tryd.underlying70 HI1.out (some ⟨X, n, none⟩) (some ⟨X, 0, none⟩) (N - n) (N - n) n N (by simp [Act.eval, Act.put]) (by simp [Act.eval, Act.put]) X n (List.replicate n (Value.int .i64 y) ++ List.replicate (N - n) (Value.int .i64 0)) 3 HD.out (List.replicate k (Value.int .i64 y)) HP.out.2 (fun _ => ⟨rfl, _, rfl, HQ.out⟩) HL2.out HL1.out X w HB3.out (Nat.le_refl _) ?_; intro w4 hg4 hb4; rw [List.length_replicate]))
      have hg5 := hg4.out
      rw [HS.out] at hg5
      have HG4 := Lib.hid hg5
      have HB4 := Lib.hid hb4
      clear hg4 hb4 hg5
      go_wp2_with fail
      go_roundg (N - (n + k))
      case measure => exact HGK.out.1
      case rel => exact ⟨n + k, HGK.out.2.2.1, fun _ => HGK.out.2.2.2, Nat.le_refl _, by go_num, HG4.out, HB4.out⟩
    · obtain rfl : n = N := by omega
      have hni : ¬ (n : Int) < (n : Int) := by omega
      have hrow := HR.out
      rw [Nat.sub_self, List.replicate_zero, List.append_nil] at hrow
      have HRow := Lib.hid hrow
      clear hrow hgk hn0
      go_wp2_with fail
      go_ret
      exact ⟨_, rfl, rep_ownIn HRow.out hN, HBl.out⟩

theorem eqNilSt (a : Addr) (l c : Nat) (w : World) : (binOp .eql 23 (.slice (some a) l c) (.slice none 0 0)).run Tryd.prog w = .ok (.bool false) w := by
  simp only [binOp]
  simp [run_equal_slice_nil w 23 9 (some a) l c Tryd.underlying23]
theorem eqNilNSt (w : World) : (binOp .eql 23 (.slice none 0 0) (.slice none 0 0)).run Tryd.prog w = .ok (.bool true) w := by
  simp only [binOp]
  simp [run_equal_slice_nil w 23 9 none 0 0 Tryd.underlying23]
set_option maxRecDepth 100000 in
set_option maxHeartbeats 1000000 in
theorem iCloneSt (A : Option Addr) (L : List ByteArray) (ca : Nat) (w : World) (ha : Strs w A L) (hA : Lies9 A ca) (hl : L.length ≤ 1000000) :
    Calls Tryd.prog 72 #[.slice A L.length ca] w fun e w' => ∃ v, e = .returned v ∧ OwnSt w' w.heap.size v L ∧ Below w.heap.size w w' := by
  rcases hA with ⟨rfl, rfl⟩ | ⟨g, o, rfl⟩
  · have hB0 : L = [] := by
      cases L with
      | nil => rfl
      | cons x l => obtain ⟨b, o, e, _⟩ := ha (by simp); cases e
    subst hB0
    have hnil := eqNilNSt w
    clear ha
    go_enter Tryd.func72, Tryd.ntmps72
    go_wp2_with fail
    go_ret
    exact ⟨_, rfl, OwnR.nil _ _, Below.refl _ _⟩
  · have HL := Lib.hid (show Lies9 (some ⟨g, o, none⟩) ca from Or.inr ⟨g, o, rfl⟩)
    have HA := Lib.hid ha
    have hnil := eqNilSt ⟨g, o, none⟩ L.length ca w
    clear ha
    go_enter Tryd.func72, Tryd.ntmps72
    go_wp2_with (at_builtin; refine app_copySt w L (some ⟨g, o, none⟩) ca L.length rfl w.heap.size rfl rfl _ _ rfl rfl rfl HL.out HA.out hl ?_; intro v1 w1 H1; (obtain ⟨A3, c3, rfl, _⟩ := H1.out.1.form fSt_len))
    go_ret
    exact ⟨_, rfl, H1.out.1, H1.out.2⟩

theorem eqNilPu (a : Addr) (l c : Nat) (w : World) : (binOp .eql 24 (.slice (some a) l c) (.slice none 0 0)).run Tryd.prog w = .ok (.bool false) w := by
  simp only [binOp]
  simp [run_equal_slice_nil w 24 77 (some a) l c Tryd.underlying24]
theorem eqNilNPu (w : World) : (binOp .eql 24 (.slice none 0 0) (.slice none 0 0)).run Tryd.prog w = .ok (.bool true) w := by
  simp only [binOp]
  simp [run_equal_slice_nil w 24 77 none 0 0 Tryd.underlying24]
set_option maxRecDepth 100000 in
set_option maxHeartbeats 1000000 in
theorem iClonePu (A : Option Addr) (L : List (Int × ByteArray)) (ca : Nat) (w : World) (ha : Puts w A L) (hA : Lies9 A ca) (hl : L.length ≤ 1000000) :
    Calls Tryd.prog 73 #[.slice A L.length ca] w fun e w' => ∃ v, e = .returned v ∧ OwnPu w' w.heap.size v L ∧ Below w.heap.size w w' := by
  rcases hA with ⟨rfl, rfl⟩ | ⟨g, o, rfl⟩
  · have hB0 : L = [] := by
      cases L with
      | nil => rfl
      | cons x l => obtain ⟨b, o, e, _⟩ := ha (by simp); cases e
    subst hB0
    have hnil := eqNilNPu w
    clear ha
    go_enter Tryd.func73, Tryd.ntmps73
    go_wp2_with fail
    go_ret
    exact ⟨_, rfl, OwnR.nil _ _, Below.refl _ _⟩
  · have HL := Lib.hid (show Lies9 (some ⟨g, o, none⟩) ca from Or.inr ⟨g, o, rfl⟩)
    have HA := Lib.hid ha
    have hnil := eqNilPu ⟨g, o, none⟩ L.length ca w
    clear ha
    go_enter Tryd.func73, Tryd.ntmps73
    go_wp2_with (at_builtin; refine app_copyPu w L (some ⟨g, o, none⟩) ca L.length rfl w.heap.size rfl rfl _ _ rfl rfl rfl HL.out HA.out hl ?_; intro v1 w1 H1; (obtain ⟨A3, c3, rfl, _⟩ := H1.out.1.form fPu_len))
    go_ret
    exact ⟨_, rfl, H1.out.1, H1.out.2⟩
end Go.Proofs.YthbjcipdneminaaDoor

/- GF -/
namespace Go.Proofs.YthbjcipdneminaaDoor
open Go.RowKit

/-- One unsynced write reaches its sector with r bytes. -/
def saStep (s : List ByteArray) (p : Int × ByteArray) (r : Nat) : List ByteArray := s.set p.1.toNat (tornT r s p)
def saL (R : List Nat) (ss : List ByteArray) (ps : List (Int × ByteArray)) : Nat → List ByteArray
  | 0 => ss
  | k + 1 => saStep (saL R ss ps k) (ps.getD k (0, ⟨#[]⟩)) (R.getD k 0)
theorem ext_all {y : ByteArray} (h : y.size = 16) : y.extract 0 16 = y := by rw [← h]; exact ByteArray.extract_zero_size
theorem ext_none (y : ByteArray) (a : Nat) : y.extract a a = ⟨#[]⟩ := by
  have h : (y.extract a a).size = 0 := by rw [ByteArray.size_extract]; omega
  exact ByteArray.size_eq_zero_iff.1 h
theorem app_none (y : ByteArray) : y ++ (⟨#[]⟩ : ByteArray) = y := ByteArray.append_empty
theorem none_app (y : ByteArray) : (⟨#[]⟩ : ByteArray) ++ y = y := ByteArray.empty_append
theorem ext_out {y : ByteArray} (_ : y.size = 16) : y.extract 16 16 = ⟨#[]⟩ := ext_none y 16
theorem saStep_all {s : List ByteArray} {p : Int × ByteArray} (hs : Good16 s) (hp : p.2.size = 16) (hq : p.1.toNat < 12) : saStep s p 16 = s.set p.1.toNat p.2 := by
  rw [saStep, tornT, ext_all hp, ext_out (hs.at hq), app_none]
theorem saStep_none {s : List ByteArray} {p : Int × ByteArray} (hs : Good16 s) (hq : p.1.toNat < 12) : saStep s p 0 = s := by
  have hq' : p.1.toNat < s.length := by rw [hs.1]; exact hq
  rw [saStep, tornT, ext_none, ext_all (hs.at hq), none_app, show s.getD p.1.toNat ⟨#[]⟩ = s[p.1.toNat] by simp [List.getD, hq'], List.set_getElem_self]
theorem Good16.sa {s : List ByteArray} (hs : Good16 s) {p : Int × ByteArray} (hp : p.2.size = 16) (hq : p.1.toNat < 12) {r : Nat} (hr : r ≤ 16) : Good16 (saStep s p r) := hs.set (torn_size hs hp hq hr)
theorem good_at9 {ss : List ByteArray} {ps : List (Int × ByteArray)} (h : goodDB ss ps = true) {k : Nat} (hk : k < ps.length) : (ps.getD k (0, ⟨#[]⟩)).2.size = 16 ∧ (ps.getD k (0, ⟨#[]⟩)).1.toNat < 12 := by
  obtain ⟨_, _, _, h4⟩ := good_len h
  rw [show ps.getD k (0, ⟨#[]⟩) = ps[k] by simp [List.getD, hk]]
  have := h4 _ (List.getElem_mem hk)
  exact ⟨this.2, by omega⟩
theorem saL_good {R : List Nat} {ss : List ByteArray} {ps : List (Int × ByteArray)} (h : goodDB ss ps = true) (hR : ∀ r ∈ R, r ≤ 16) : ∀ k, k ≤ ps.length → Good16 (saL R ss ps k)
  | 0, _ => ⟨(good_len h).1, (good_len h).2.2.1⟩
  | k + 1, hk => (saL_good h hR k (by omega)).sa (good_at9 h hk).1 (good_at9 h hk).2 (by
      by_cases hkR : k < R.length
      · rw [show R.getD k 0 = R[k] by simp [List.getD, hkR]]; exact hR _ (List.getElem_mem hkR)
      · rw [show R.getD k 0 = 0 by simp [List.getD]; rw [List.getElem?_eq_none (by omega)]; rfl]; omega)
/-- With all bytes of all writes: what a sync leaves. -/
theorem saL_sync {ss : List ByteArray} {ps : List (Int × ByteArray)} (h : goodDB ss ps = true) : ∀ k, k ≤ ps.length → saL (List.replicate ps.length 16) ss ps k = syncL ss (ps.take k)
  | 0, _ => rfl
  | k + 1, hk => by
    have hg := saL_good (R := List.replicate ps.length 16) h (fun r hr => by rw [List.eq_of_mem_replicate hr]; omega) k (by omega)
    rw [saL, show (List.replicate ps.length 16).getD k 0 = 16 by simp [List.getD, show k < ps.length by omega], saStep_all hg (good_at9 h hk).1 (good_at9 h hk).2, saL_sync h k (by omega), syncL_snoc ss hk, show ps.getD k (0, ⟨#[]⟩) = ps[k] by simp [List.getD, show k < ps.length by omega]]
/-- How many bytes of write k outlast a crash. -/
def reachN (ks : List Int) (torn : Int) (b k : Nat) : Nat := if (k : Int) = torn then b else if (k : Int) ∈ ks then 16 else 0
theorem saL_crash {ss : List ByteArray} {ps : List (Int × ByteArray)} {ks : List Int} {torn : Int} {b : Nat} {R : List Nat} (h : goodDB ss ps = true) (hb : b ≤ 16) (ht : torn ∉ ks) (hR : ∀ k, k < ps.length → R.getD k 0 = reachN ks torn b k) (hR16 : ∀ r ∈ R, r ≤ 16) : ∀ k, k ≤ ps.length → saL R ss ps k = crL ks torn b ss ps k
  | 0, _ => rfl
  | k + 1, hk => by
    have hg := saL_good (R := R) h hR16 k (by omega)
    have ih := saL_crash h hb ht hR hR16 k (by omega)
    obtain ⟨hp, hq⟩ := good_at9 h hk
    rw [saL, crL, hR k (by omega), ← ih]
    generalize ps.getD k (0, ⟨#[]⟩) = p at *
    generalize saL R ss ps k = s at *
    unfold crStep reachN
    by_cases e : (k : Int) = torn
    · have hn : ¬ (k : Int) ∈ ks := by rw [e]; exact ht
      rw [if_pos e, if_pos e, keepS, if_neg hn]; rfl
    · rw [if_neg e, if_neg e, keepS]
      by_cases e2 : (k : Int) ∈ ks
      · rw [if_pos e2, if_pos e2, saStep_all hg hp hq]
      · rw [if_neg e2, if_neg e2, saStep_none hg hq]

theorem ints_nat9 {w : World} {C : Option Addr} {R : List Nat} (h : Ints w C (zI R)) {j : Nat} (hj : j < R.length) : ∃ b o, C = some ⟨b, o, none⟩ ∧ w.cell? ⟨b, o + j, none⟩ = some (.int .i64 ((R.getD j 0 : Nat) : Int)) := by
  obtain ⟨b, o, e, hc⟩ := h (by intro e; have := congrArg List.length e; rw [zI_length, List.length_nil] at this; omega)
  refine ⟨b, o, e, ?_⟩
  rw [hc j (by rw [zI_length]; exact hj), zI_getD]
set_option maxRecDepth 100000 in
set_option maxHeartbeats 4000000 in
theorem iSectors (A B C : Option Addr) (ss : List ByteArray) (ps : List (Int × ByteArray)) (R : List Nat) (ca cb cc : Nat) (w : World) (hd : DiskIn w A B ss ps) (hA : Lies9 A ca) (hgd : goodDB ss ps = true) (hC : Ints w C (zI R)) (hRl : R.length = ps.length) (hR : ∀ r ∈ R, r ≤ 16) :
    Calls Tryd.prog 87 #[diskV (.slice A ss.length ca) (.slice B ps.length cb), .slice C R.length cc] w fun e w' => ∃ g c : Nat, e = .returned (.slice (some ⟨g, 0, none⟩) 12 c) ∧ OwnSt w' w.heap.size (.slice (some ⟨g, 0, none⟩) 12 c) (saL R ss ps ps.length) ∧ Below w.heap.size w w' := by
  obtain ⟨W, hW⟩ : ∃ W, w.alloc (.cells #[.slice A ss.length ca, .slice B ps.length cb] 26) = W := ⟨_, rfl⟩
  have hbW : Below w.heap.size w W := by rw [← hW]; exact gAlloc _ _
  have hsW : W.heap.size = w.heap.size + 1 := by rw [← hW]; simp
  have h1 : W.heap[w.heap.size]? = some (.cells #[.slice A ss.length ca, .slice B ps.length cb] 26 (0, 0)) := by rw [← hW]; exact heap_alloc_new _ _
  have hx0 : W.cell? ⟨w.heap.size, 0, none⟩ = some (.slice A ss.length ca) := cell_of_row W _ 0 _ _ _ h1
  have HD := Lib.hid (hd.below hbW)
  have HBW := Lib.hid hbW
  have H1 := Lib.hid h1
  have HC := Lib.hid (hC.below hbW)
  have HRl := Lib.hid hRl
  have hl2 := hd.len2
  obtain ⟨hl12, hl40, hsb, hpb⟩ := good_len hgd
  have HG : Hid (∀ k, k ≤ ps.length → Good16 (saL R ss ps k)) := fun k hk => saL_good hgd hR k hk
  have HPb : Hid (∀ k (hk : k < ps.length), (0 ≤ (ps[k]'hk).1 ∧ (ps[k]'hk).1 ≤ 11) ∧ (ps[k]'hk).2.size = 16) := fun k hk => hpb _ (List.getElem_mem hk)
  have HSt : Hid (∀ k (hk : k < ps.length), saL R ss ps (k + 1) = saStep (saL R ss ps k) ps[k] (R.getD k 0)) := fun k hk => by
    rw [saL, show ps.getD k (0, ⟨#[]⟩) = ps[k] by simp [List.getD, hk]]
  have HR16 : Hid (∀ k, k < R.length → R.getD k 0 ≤ 16) := fun k hk => by
    rw [show R.getD k 0 = R[k] by simp [List.getD, hk]]; exact hR _ (List.getElem_mem hk)
  have HCl := Lib.hid (iCloneSt A ss ca W HD.out.sure hA (by omega))
  have H12 := Lib.hid hl12
  clear hd hbW hA hgd hl12 hpb hsb hC hR h1 hRl
  go_enter Tryd.func87, Tryd.ntmps87
  go_wp2_with fail
  refine HCl.out.mono ?_
  rintro e w1 ⟨v1, rfl, ho1, hb1⟩
  obtain ⟨g, cap, rfl, hcap, hgw⟩ := ho1.block (by rw [H12.out]; omega)
  have hgl := (ho1.lt g rfl).2
  rw [H12.out] at ho1 ⊢
  have k1 := (hb1.block _ (by omega)).trans H1.out
  have hy1 : w1.cell? ⟨w.heap.size, 1, none⟩ = some (.slice B ps.length cb) := cell_of_row _ _ 1 _ _ _ k1
  have HO := Lib.hid ho1
  have HB1 := Lib.hid (below_more HBW.out hb1)
  have HBW1 := Lib.hid hb1
  clear ho1 hb1 k1 hx0 HCl H1 hW
  go_wp2_with fail
  clear hy1
  go_loopg [14] ps.length (fun gk i wr => ∃ j : Nat, j + gk = ps.length ∧ i = .int .i64 j ∧ OwnSt wr W.heap.size (.slice (some ⟨g, 0, none⟩) 12 cap) (saL R ss ps j) ∧ Below W.heap.size W wr ∧ Below w.heap.size w wr)
  case atStart => exact ⟨0, by omega, rfl, HO.out, HBW1.out, HB1.out⟩
  case round =>
    obtain ⟨j, hg, rfl, hown, hbw, hbel⟩ := hrel
    have HOw := Lib.hid hown
    have HBl := Lib.hid hbel
    have HBw := Lib.hid hbw
    clear hown hbel hbw HO HB1 HBW1
    by_cases hlt : j < ps.length
    · have hji : (j : Int) < (ps.length : Int) := by omega
      obtain ⟨b1, o1, rfl, p1, p2⟩ := puts_at (HD.out.later.below HBw.out) hlt
      have hjR : j < R.length := by rw [HRl.out]; exact hlt
      obtain ⟨b3, o3, rfl, p3⟩ := ints_nat9 (HC.out.below HBw.out) hjR
      have hjRi : (j : Int) < (R.length : Int) := by omega
      obtain ⟨hpa, hpz⟩ := HPb.out j hlt
      have hr16 := HR16.out j hjR
      have HS := Lib.hid (HSt.out j hlt)
      have HGo := Lib.hid (HG.out j (by omega))
      have HGK : Hid (ps.length - j - 1 < gk ∧ j + 1 + (ps.length - j - 1) = ps.length) := by show _ ∧ _; omega
      clear hg
      generalize ps[j] = p at *
      generalize saL R ss ps j = M at *
      generalize R.getD j 0 = r at *
      obtain ⟨px, py⟩ := p
      obtain ⟨q, hq⟩ := Int.eq_ofNat_of_zero_le hpa.1
      have hq11 : q ≤ 11 := by have := hpa.2; simp at hq; omega
      have hqe : px = (q : Int) := hq
      subst hqe
      have hpy : py.size = 16 := hpz
      clear hq hpa hpz
      have hqi : (q : Int) < 12 := by omega
      have hqZ : q < M.length := by rw [HGo.out.1]; omega
      have HSz : Hid (saL R ss ps (j + 1) = M.set q (py.extract 0 r ++ M[q].extract r 16)) := by
        show _ = _
        rw [HS.out, saStep, tornT]
        show M.set q (py.extract 0 r ++ (M.getD q ⟨#[]⟩).extract r 16) = _
        rw [show M.getD q ⟨#[]⟩ = M[q] by simp [List.getD, hqZ]]
      have hWa := gAlloc wr (.cells #[.int .i64 (q : Int), .string py] 77)
      have hp0 : (wr.alloc (.cells #[.int .i64 (q : Int), .string py] 77)).cell? ⟨wr.heap.size, 0, none⟩ = some (.int .i64 (q : Int)) := cell_of_row _ _ 0 _ _ _ (heap_alloc_new _ _)
      have hp1 : (wr.alloc (.cells #[.int .i64 (q : Int), .string py] 77)).cell? ⟨wr.heap.size, 1, none⟩ = some (.string py) := cell_of_row _ _ 1 _ _ _ (heap_alloc_new _ _)
      have hp3 : (wr.alloc (.cells #[.int .i64 (q : Int), .string py] 77)).cell? ⟨b3, o3 + j, none⟩ = some (.int .i64 (r : Nat)) := cell_in hWa p3
      have HOa := Lib.hid (HOw.out.below hWa)
      have HBa := Lib.hid (below_more HBw.out hWa)
      have HBb := Lib.hid (below_more HBl.out hWa)
      have hgP : g < wr.heap.size := (HOw.out.lt g rfl).2
      obtain ⟨hc0, hf0⟩ := ownSt_at HOa.out hqZ
      have hM16 : M[q].size = 16 := HGo.out.2 _ (List.getElem_mem hqZ)
      have hb16 : (r : Int) ≤ 16 := by omega
      have ha1 : ((py.extract 0 r).size : Int) ≤ 8388608 := by rw [ByteArray.size_extract]; omega
      have ha2 : ((M[q].extract r 16).size : Int) ≤ 8388608 := by rw [ByteArray.size_extract]; omega
      have HPut := Lib.hid (ownSt_put HOa.out hqZ (py.extract 0 r ++ M[q].extract r 16)).1
      clear hWa HOw HBw HBl HOa
      go_wp2_with fail
      generalize wr.alloc (.cells #[.int .i64 (q : Int), .string py] 77) = wa at *
      generalize wr.heap.size = P at *
      refine wp_region_still_tail 22 (by kernel_rfl) (by kernel_rfl) ?_
      simp only [List.take_succ_cons, List.take_zero, List.drop_succ_cons, List.drop_zero]
      change wpStill _ _ (World.drew wa) _ _ _
      repeat still_step
      refine wpStill_nil ?_
      have HBz2 : Hid (Below W.heap.size W (wa.setCell ⟨g, q, none⟩ (.string (py.extract 0 r ++ M[q].extract r 16)))) := HBa.out.setCell hgw _
      have HBy2 : Hid (Below w.heap.size w (wa.setCell ⟨g, q, none⟩ (.string (py.extract 0 r ++ M[q].extract r 16)))) := HBb.out.setCell (by show w.heap.size ≤ g; omega) _
      go_wp2_with fail
      go_roundg (ps.length - j - 1)
      case measure => exact HGK.out.1
      case rel => exact ⟨j + 1, HGK.out.2, by go_num, by rw [HSz.out]; exact HPut.out.below gDrew, below_more HBz2.out gDrew, below_more HBy2.out gDrew⟩
    · obtain rfl : j = ps.length := by omega
      have hji : ¬ (ps.length : Int) < (ps.length : Int) := by omega
      clear hg
      go_wp2_with fail
      go_ret
      exact ⟨g, cap, rfl, HOw.out.lower (by omega), HBl.out⟩
end Go.Proofs.YthbjcipdneminaaDoor

/- GG -/
namespace Go.Proofs.YthbjcipdneminaaDoor
open Go.RowKit

theorem zero16_eq : (⟨(Lib.repeatL (⟨#[0]⟩ : ByteArray).data.toList 16).toArray⟩ : ByteArray) = zero16 := by decide
/-- A disk of the call's own is laid into a box. -/
theorem dk_stored {w w2 : World} {X base : Nat} {v1 v2 a1 a2 : Value} {S : List ByteArray} {Q : List (Int × ByteArray)} (k : w2.heap[X]? = some (.cells #[a1, a2] 26 (0, 0))) (ho : OwnD w2 base v1 v2 S Q) (hX : X < base) {n : Nat} (hb : Below n w w2) (hn : n ≤ X) :
    ((w2.setCell ⟨X, 0, none⟩ v1).setCell ⟨X, 1, none⟩ v2).heap[X]? = some (.cells #[v1, v2] 26 (0, 0)) ∧ OwnD ((w2.setCell ⟨X, 0, none⟩ v1).setCell ⟨X, 1, none⟩ v2) base v1 v2 S Q ∧ Below n w ((w2.setCell ⟨X, 0, none⟩ v1).setCell ⟨X, 1, none⟩ v2) := by
  have hn1 : ∀ g, v1.ownBlock = some g → g ≠ X := fun g hg => by have := (ho.sure.lt g hg).1; omega
  have hn2 : ∀ g, v2.ownBlock = some g → g ≠ X := fun g hg => by have := (ho.later.lt g hg).1; omega
  exact ⟨heap_setCell_same _ _ 1 _ _ _ (heap_setCell_same _ _ 0 _ _ _ k), (ho.set9 hn1 hn2 0 v1).set9 hn1 hn2 1 v2, (hb.setCell hn _).setCell hn _⟩
theorem OwnD.sure_only {w : World} {base : Nat} {v1 : Value} {S : List ByteArray} (h : OwnSt w base v1 S) : OwnD w base v1 (.slice none 0 0) S [] := ⟨h, OwnR.nil _ _, by cases v1.ownBlock <;> simp [Value.ownBlock]⟩
theorem iRep16 (o N : Nat) (w : World) (b : Nat) (hc : w.cell? ⟨b, o, none⟩ = some (.int .i64 16)) (hN : N ≤ 1000) :
    Calls Tryd.prog 88 #[.slice (some ⟨b, o, none⟩) 1 1, .int .i64 (N : Nat)] w fun e w' => ∃ A c, e = .returned (.slice A N c) ∧ Ints w' A (zI (List.replicate N 16)) ∧ Below w.heap.size w w' :=
  (iRepIn 16 b o 1 N w hc hN).mono fun e w' ⟨v, he, ho, hb⟩ => by
    obtain ⟨A, c, e1, hI⟩ := ho.form
    refine ⟨A, c, ?_, ?_, hb⟩
    · rw [he, e1, List.length_replicate]
    · have e2 : zI (List.replicate N 16) = List.replicate N 16 := by simp [zI]
      rw [e2]; exact hI
theorem hE_of {f : FuncId} {fn : Func} {c : Code} (hf : Tryd.prog.funcs[f]? = some fn) (hname : (fn.name == "runtime.NumGoroutine") = false) (hb : fn.body = some c) : ∀ args w, (callFunc f args).run Tryd.prog w = .ok (.enter f args) w := enters_of hf hname hb
set_option maxRecDepth 100000 in
set_option maxHeartbeats 1000000 in
theorem iLatest_no (A B : Option Addr) (ss : List ByteArray) (ps : List (Int × ByteArray)) (ca cb : Nat) (w : World) (hd : DiskIn w A B ss ps) (hgd : goodDB ss ps = false) :
    Calls Tryd.prog 67 #[diskV (.slice A ss.length ca) (.slice B ps.length cb)] w fun e w' => Died e ∧ Below w.heap.size w w' := by
  obtain ⟨W, hW⟩ : ∃ W, w.alloc (.cells #[.slice A ss.length ca, .slice B ps.length cb] 26) = W := ⟨_, rfl⟩
  have hbW : Below w.heap.size w W := by rw [← hW]; exact gAlloc _ _
  have h1 : W.heap[w.heap.size]? = some (.cells #[.slice A ss.length ca, .slice B ps.length cb] 26 (0, 0)) := by rw [← hW]; exact heap_alloc_new _ _
  have x0 : W.cell? ⟨w.heap.size, 0, none⟩ = some (.slice A ss.length ca) := cell_of_row _ _ 0 _ _ _ h1
  have x1 : W.cell? ⟨w.heap.size, 1, none⟩ = some (.slice B ps.length cb) := cell_of_row _ _ 1 _ _ _ h1
  have HG := Lib.hid (iGoodD_any A B ss ps ca cb W (hd.below hbW))
  rw [hgd] at HG
  clear hgd hd
  go_enter Tryd.func67, Tryd.ntmps67
  go_wp2_with (first
    | (go_at_call 34; refine HG.out.mono ?_; rintro e w1 ⟨rfl, hb1⟩)
    | (go_at_call 65; refine (iInsist_no _).mono ?_; rintro e w' ⟨rfl, rfl⟩))
  exact ⟨rfl, rfl, below_more hbW hb1⟩
set_option maxRecDepth 100000 in
set_option maxHeartbeats 4000000 in
theorem iLatest_yes (A B : Option Addr) (ss : List ByteArray) (ps : List (Int × ByteArray)) (ca cb : Nat) (w : World) (hd : DiskIn w A B ss ps) (hA : Lies9 A ca) (hgd : goodDB ss ps = true) :
    Calls Tryd.prog 67 #[diskV (.slice A ss.length ca) (.slice B ps.length cb)] w fun e w' => ∃ g c : Nat, e = .returned (.slice (some ⟨g, 0, none⟩) 12 c) ∧ OwnSt w' w.heap.size (.slice (some ⟨g, 0, none⟩) 12 c) (syncL ss ps) ∧ Below w.heap.size w w' := by
  obtain ⟨W, hW⟩ : ∃ W, w.alloc (.cells #[.slice A ss.length ca, .slice B ps.length cb] 26) = W := ⟨_, rfl⟩
  have hbW : Below w.heap.size w W := by rw [← hW]; exact gAlloc _ _
  have h1 : W.heap[w.heap.size]? = some (.cells #[.slice A ss.length ca, .slice B ps.length cb] 26 (0, 0)) := by rw [← hW]; exact heap_alloc_new _ _
  have x0 : W.cell? ⟨w.heap.size, 0, none⟩ = some (.slice A ss.length ca) := cell_of_row _ _ 0 _ _ _ h1
  have x1 : W.cell? ⟨w.heap.size, 1, none⟩ = some (.slice B ps.length cb) := cell_of_row _ _ 1 _ _ _ h1
  have HG := Lib.hid (iGoodD_any A B ss ps ca cb W (hd.below hbW))
  have HD := Lib.hid (hd.below hbW)
  have hl40 := (good_len hgd).2.1
  have HSy : Hid (saL (List.replicate ps.length 16) ss ps ps.length = syncL ss ps) := by show _ = _; rw [saL_sync hgd _ (Nat.le_refl _), List.take_length]
  have HSe : Hid (∀ (C : Option Addr) (cc : Nat) (w' : World), Below W.heap.size W w' → Ints w' C (zI (List.replicate ps.length 16)) → Calls Tryd.prog 87 #[diskV (.slice A ss.length ca) (.slice B ps.length cb), .slice C ps.length cc] w' fun e w'' => ∃ g c : Nat, e = .returned (.slice (some ⟨g, 0, none⟩) 12 c) ∧ OwnSt w'' w'.heap.size (.slice (some ⟨g, 0, none⟩) 12 c) (syncL ss ps) ∧ Below w'.heap.size w' w'') := fun C cc w' h hC => by
    have h1 := iSectors A B C ss ps (List.replicate ps.length 16) ca cb cc w' ((hd.below hbW).below h) hA hgd hC List.length_replicate (fun r hr => by rw [List.eq_of_mem_replicate hr]; omega)
    rw [HSy.out, List.length_replicate] at h1
    exact h1
  clear HSy
  rw [hgd] at HG
  have HBW := Lib.hid hbW
  have HX0 := Lib.hid x0
  have HX1 := Lib.hid x1
  clear hgd hd hA h1 hbW
  generalize hX : w.heap.size = X at *
  go_enter Tryd.func67, Tryd.ntmps67
  go_wp2_with (first
    | (go_at_call 34; refine HG.out.mono ?_; rintro e w1 ⟨rfl, hb1⟩; (have y0 := (hb1.cell (World.block_lt_of_cell? _ _ HX0.out)).trans HX0.out); (have y1 := (hb1.cell (World.block_lt_of_cell? _ _ HX1.out)).trans HX1.out))
    | (go_at_call 65; refine (iInsist_yes _).mono ?_; rintro e w' ⟨rfl, rfl⟩))
  clear x0 x1 HX0 HX1 HG hW
  have hlit : (w1.alloc (.cells #[.int .i64 16] 3)).cell? ⟨w1.heap.size, 0, none⟩ = some (.int .i64 16) := cell_of_row _ _ 0 _ _ _ (heap_alloc_new _ _)
  have ya0 : (w1.alloc (.cells #[.int .i64 16] 3)).cell? ⟨X, 0, none⟩ = some (.slice A ss.length ca) := cell_in (gAlloc _ _) y0
  have ya1 : (w1.alloc (.cells #[.int .i64 16] 3)).cell? ⟨X, 1, none⟩ = some (.slice B ps.length cb) := cell_in (gAlloc _ _) y1
  have hbL : Below W.heap.size W (w1.alloc (.cells #[.int .i64 16] 3)).drew := below_more (below_more hb1 (gAlloc _ _)) gDrew
  have HRp := Lib.hid (iRep16 0 ps.length (w1.alloc (.cells #[.int .i64 16] 3)).drew w1.heap.size hlit (by omega))
  generalize hRR : zI (List.replicate ps.length 16) = RR at *
  clear hRR
  have HBL := Lib.hid hbL
  clear hbL hlit
  go_region_held3 (fun w' => w'.cell? ⟨X, 0, none⟩ = some (.slice A ss.length ca) ∧ w'.cell? ⟨X, 1, none⟩ = some (.slice B ps.length cb)) (first | exact ⟨y0, y1⟩ | exact ⟨ya0, ya1⟩ | exact ⟨yb0, yb1⟩ | exact ⟨yc0, yc1⟩ | go_keep) (first
    | (go_at_call 87; refine (HSe.out A2 c2 w2 (HBL.out.trans (hb2.mono (by exact HBL.out.size))) hI2).mono ?_; rintro e w3 ⟨g, c3, rfl, ho3, hb3⟩; have yc0 := (hb3.cell (World.block_lt_of_cell? _ _ yb0)).trans yb0; have yc1 := (hb3.cell (World.block_lt_of_cell? _ _ yb1)).trans yb1)
    | (go_at_call 88; refine HRp.out.mono ?_; rintro e w2 ⟨A2, c2, rfl, hI2, hb2⟩; have yb0 := (hb2.cell (World.block_lt_of_cell? _ _ ya0)).trans ya0; have yb1 := (hb2.cell (World.block_lt_of_cell? _ _ ya1)).trans ya1))
  all_goals
    have HO := Lib.hid ho3
    have hs1 := HBW.out.size
    have hs2 := HBL.out.size
    have hs3 := hb2.size
    have HF := Lib.hid (((HBW.out.trans (HBL.out.mono (by omega))).trans (hb2.mono (by omega))).trans (hb3.mono (by omega)))
    clear ho3 hb3 hb2 yb0 yb1 yc0 yc1 ya0 ya1 y0 y1
    go_wp2_with fail
    go_ret
    exact ⟨g, c3, rfl, HO.out.lower (by omega), HF.out⟩

theorem fn_done {P : Program} {f : FuncId} {args : Array Value} {w : World} {R R' : Ending → World → Prop} (h : Calls P f args w R) (hk : ∀ e w', R e w' → R' e w') : Calls P f args w R' := h.mono hk
/-- A boxed disk. -/
structure BoxD (w : World) (g : Nat) (A B : Option Addr) (ss : List ByteArray) (ps : List (Int × ByteArray)) (ca cb : Nat) : Prop where
  box : w.heap[g]? = some (.cells #[.slice A ss.length ca, .slice B ps.length cb] 26 (0, 0))
  disk : DiskIn w A B ss ps
theorem BoxD.below {w w' : World} {g : Nat} {A B : Option Addr} {ss : List ByteArray} {ps : List (Int × ByteArray)} {ca cb : Nat} (h : BoxD w g A B ss ps ca cb) (hb : Below w.heap.size w w') : BoxD w' g A B ss ps ca cb := ⟨(hb.block _ (heap_lt h.box)).trans h.box, h.disk.below hb⟩
end Go.Proofs.YthbjcipdneminaaDoor

/- GI -/
namespace Go.Proofs.YthbjcipdneminaaDoor
open Go.RowKit

theorem sync_at {ps : List (Int × ByteArray)} (hp : ∀ p ∈ ps, 0 ≤ p.1) : ∀ {ss : List ByteArray} {k : Nat}, k < ss.length → (syncL ss ps).getD k ⟨#[]⟩ = rdL ss ps k := by
  induction ps with
  | nil => intro ss k _; rfl
  | cons p ps ih =>
    intro ss k hk
    have h0 := hp p (List.mem_cons_self ..)
    have e1 : syncL ss (p :: ps) = syncL (ss.set p.1.toNat p.2) ps := rfl
    rw [e1, ih (fun q hq => hp q (List.mem_cons_of_mem _ hq)) (by rw [List.length_set]; exact hk)]
    unfold rdL
    rw [List.foldl_cons]
    congr 1
    by_cases e : p.1 = (k : Int)
    · rw [if_pos e, show p.1.toNat = k by omega]
      simp [List.getD, hk]
    · rw [if_neg e, List.getD, List.getElem?_set_ne (by omega)]
      rfl
theorem ra_list (ss : List ByteArray) (ps : List (Int × ByteArray)) : ∀ k, (raL ss ps k).data.toList = ((List.range k).map fun j => (rdL ss ps j).data.toList).flatten
  | 0 => rfl
  | k + 1 => by
    rw [raL, List.range_succ, List.map_append, List.flatten_append, ← ra_list ss ps k]
    simp [ByteArray.data_append]
theorem join_none (xs : List (List UInt8)) : Lib.join xs [] = xs.flatten := by
  cases xs with
  | nil => rfl
  | cons x r => rw [Lib.join_cons, Lib.joinTail]; simp
theorem join_sync {ss : List ByteArray} {ps : List (Int × ByteArray)} (h : goodDB ss ps = true) : (⟨(Lib.join ((syncL ss ps).map (·.data.toList)) (⟨#[]⟩ : ByteArray).data.toList).toArray⟩ : ByteArray) = raL ss ps 12 := by
  obtain ⟨h12, _, _, h4⟩ := good_len h
  have e : syncL ss ps = (List.range 12).map (rdL ss ps) := by
    apply List.ext_getElem
    · rw [syncL_length, h12]; simp
    · intro k h1 h2
      have hk : k < ss.length := by rwa [syncL_length] at h1
      have := sync_at (fun p hp => (h4 p hp).1.1) hk
      rw [List.getElem_map, List.getElem_range, ← this]
      simp [List.getD, h1]
  have e2 : (⟨#[]⟩ : ByteArray).data.toList = [] := rfl
  rw [e2, join_none, e, List.map_map, show ((fun x : ByteArray => x.data.toList) ∘ rdL ss ps) = fun j => (rdL ss ps j).data.toList from rfl, ← ra_list]
theorem sync_len12 {ss : List ByteArray} {ps : List (Int × ByteArray)} (h : goodDB ss ps = true) : (syncL ss ps).length = 12 := by rw [syncL_length, (good_len h).1]
set_option maxRecDepth 100000 in
set_option maxHeartbeats 1000000 in
theorem iReadFn_at (g h : Nat) (k : Int) (w : World) (hk : w.cell? ⟨h, 0, none⟩ = some (.int .i64 k)) (hi : inB k 0 11 = false) :
    Calls Tryd.prog 64 #[.pointer (some ⟨h, 0, none⟩), .pointer (some ⟨g, 0, none⟩)] w fun e w' => Died e ∧ Below w.heap.size w w' := by
  have HAt := Lib.hid (iAt9 k w)
  rw [hi] at HAt
  clear hi
  go_enter Tryd.func64, Tryd.ntmps64
  go_wp2_with (first
    | (go_at_call 66; refine HAt.out.mono ?_; rintro e w' ⟨rfl, rfl⟩)
    | (go_at_call 65; refine (iInsist_no _).mono ?_; rintro e w' ⟨rfl, rfl⟩))
  exact ⟨rfl, rfl, Below.refl _ _⟩
set_option maxRecDepth 100000 in
set_option maxHeartbeats 2000000 in
theorem iReadFn_no (g h : Nat) (k : Int) (A B : Option Addr) (ss : List ByteArray) (ps : List (Int × ByteArray)) (ca cb : Nat) (w : World) (hb : BoxD w g A B ss ps ca cb) (hk : w.cell? ⟨h, 0, none⟩ = some (.int .i64 k)) (hi : inB k 0 11 = true) (hgd : goodDB ss ps = false) :
    Calls Tryd.prog 64 #[.pointer (some ⟨h, 0, none⟩), .pointer (some ⟨g, 0, none⟩)] w fun e w' => Died e ∧ Below w.heap.size w w' := by
  have x0 : w.cell? ⟨g, 0, none⟩ = some (.slice A ss.length ca) := cell_of_row _ _ 0 _ _ _ hb.box
  have x1 : w.cell? ⟨g, 1, none⟩ = some (.slice B ps.length cb) := cell_of_row _ _ 1 _ _ _ hb.box
  have HL := Lib.hid (iLatest_no A B ss ps ca cb w.drew (hb.disk.below gDrew) hgd)
  have HAt := Lib.hid (iAt9 k w)
  rw [hi] at HAt
  clear hb hgd hi
  go_enter Tryd.func64, Tryd.ntmps64
  go_wp2_with (first
    | (go_at_call 66; refine HAt.out.mono ?_; rintro e w' ⟨rfl, rfl⟩)
    | (go_at_call 65; refine (iInsist_yes _).mono ?_; rintro e w' ⟨rfl, rfl⟩))
  refine wp_region_held (S := fun w' => w'.cell? ⟨h, 0, none⟩ = some (.int .i64 k) ∧ w'.cell? ⟨g, 0, none⟩ = some (.slice A ss.length ca) ∧ w'.cell? ⟨g, 1, none⟩ = some (.slice B ps.length cb)) (by kernel_rfl) ?_
  change wpAnyH _ _ _ _ _ _ _ _ (World.drew w)
  have hS : (fun w' : World => w'.cell? ⟨h, 0, none⟩ = some (.int .i64 k) ∧ w'.cell? ⟨g, 0, none⟩ = some (.slice A ss.length ca) ∧ w'.cell? ⟨g, 1, none⟩ = some (.slice B ps.length cb)) w.drew := ⟨hk, x0, x1⟩
  refine wpAnyH_take (i := 0) (v := ?_) rfl (by kernel_rfl) (by kernel_rfl) (by kernel_rfl) (fun _ _ _ h => h) (Or.inl ⟨by rfl, ?_⟩) hS ?_
  rotate_left
  · intro w hSw
    obtain ⟨s0, s1, s2⟩ := hSw
    go_simp
    with_reducible rfl
  refine wpAnyH_take (i := 2) (v := ?_) rfl (by kernel_rfl) (by kernel_rfl) (by kernel_rfl) (fun _ _ _ h => h) (Or.inl ⟨by rfl, ?_⟩) hS ?_
  rotate_left
  · intro w hSw
    obtain ⟨s0, s1, s2⟩ := hSw
    go_simp
    with_reducible rfl
  refine wpAnyH_ready (rs := [1]) (by kernel_rfl) (by simp) ?_
  refine AllReadyH.cons rfl (fun K hK => ?_) AllReadyH.nil
  go_simp
  refine HL.out.mono ?_
  rintro e w1 ⟨rfl, hb1⟩
  exact ⟨rfl, rfl, below_more gDrew hb1⟩
set_option maxRecDepth 100000 in
set_option maxHeartbeats 2000000 in
theorem iReadFn_yes (g h j : Nat) (A B : Option Addr) (ss : List ByteArray) (ps : List (Int × ByteArray)) (ca cb : Nat) (w : World) (hb : BoxD w g A B ss ps ca cb) (hA : Lies9 A ca) (hk : w.cell? ⟨h, 0, none⟩ = some (.int .i64 (j : Nat))) (hi : j ≤ 11) (hgd : goodDB ss ps = true) :
    Calls Tryd.prog 64 #[.pointer (some ⟨h, 0, none⟩), .pointer (some ⟨g, 0, none⟩)] w fun e w' => e = .returned (.string (rdL ss ps j)) ∧ Below w.heap.size w w' := by
  have x0 : w.cell? ⟨g, 0, none⟩ = some (.slice A ss.length ca) := cell_of_row _ _ 0 _ _ _ hb.box
  have x1 : w.cell? ⟨g, 1, none⟩ = some (.slice B ps.length cb) := cell_of_row _ _ 1 _ _ _ hb.box
  have HL : Hid (Calls Tryd.prog 67 #[diskV (.slice A ss.length ca) (.slice B ps.length cb)] w.drew fun e w' => ∃ g c : Nat, e = .returned (.slice (some ⟨g, 0, none⟩) 12 c) ∧ w'.cell? ⟨g, j, none⟩ = some (.string (rdL ss ps j)) ∧ Below w.drew.heap.size w.drew w') :=
    (iLatest_yes A B ss ps ca cb w.drew (hb.disk.below gDrew) hA hgd).mono fun e w' ⟨g1, c1, he, ho, hb1⟩ => ⟨g1, c1, he, by
      have hl : j < (syncL ss ps).length := by rw [sync_len12 hgd]; omega
      have h12 : j < ss.length := by rw [(good_len hgd).1]; omega
      rw [(ownSt_at ho hl).1, ← sync_at (fun p hp => ((good_len hgd).2.2.2 p hp).1.1) h12]
      simp [List.getD, hl], hb1⟩
  have HAt := Lib.hid (iAt9 (j : Int) w)
  rw [inB_true (by omega) (by omega)] at HAt
  have hji : (j : Int) < 12 := by omega
  clear hb hgd hA
  generalize rdL ss ps j = r at *
  go_enter Tryd.func64, Tryd.ntmps64
  go_wp2_with (first
    | (go_at_call 66; refine HAt.out.mono ?_; rintro e w' ⟨rfl, rfl⟩)
    | (go_at_call 65; refine (iInsist_yes _).mono ?_; rintro e w' ⟨rfl, rfl⟩))
  go_region_law (first
    | (go_simp; refine HL.out.mono ?_; rintro e w1 ⟨g1, c1, rfl, hq, hb1⟩; have hk1 : w1.cell? ⟨h, 0, none⟩ = some (.int .i64 (j : Nat)) := (hb1.cell (World.block_lt_of_cell? _ _ hk)).trans hk))
  all_goals
    go_wp2_with fail
    go_ret
    exact ⟨rfl, below_more gDrew hb1⟩
set_option maxRecDepth 100000 in
set_option maxHeartbeats 1000000 in
theorem iReadS_any (A B : Option Addr) (ss : List ByteArray) (ps : List (Int × ByteArray)) (ca cb : Nat) (k : Int) (w : World) (hd : DiskIn w A B ss ps) (hA : Lies9 A ca) :
    Calls Tryd.prog 35 #[diskV (.slice A ss.length ca) (.slice B ps.length cb), .int .i64 k] w fun e w' => e = .returned (.tuple #[.string (rsI ss ps k), .bool (rsOkB ss ps k)]) ∧ Below w.heap.size w w' := by
  have hmf : ∀ (fn : Fn) (first cap : Array Value) (w : World), (Instr.makeFunc fn first cap).run Tryd.prog w = .ok (.func fn first cap) w := fun _ _ _ _ => rfl
  obtain ⟨W, hW⟩ : ∃ W, (w.alloc (.cells #[.slice A ss.length ca, .slice B ps.length cb] 26)).alloc (.cells #[.int .i64 k] 3) = W := ⟨_, rfl⟩
  have hbW : Below w.heap.size w W := by rw [← hW]; exact gAlloc2 _ _ _
  have h1 : W.heap[w.heap.size]? = some (.cells #[.slice A ss.length ca, .slice B ps.length cb] 26 (0, 0)) := by rw [← hW]; exact gBox9 _ _ _
  have h2 : W.heap[w.heap.size + 1]? = some (.cells #[.int .i64 k] 3 (0, 0)) := by
    rw [← hW, show w.heap.size + 1 = (w.alloc (.cells #[.slice A ss.length ca, .slice B ps.length cb] 26)).heap.size by simp]; exact heap_alloc_new _ _
  have hBx : BoxD W w.heap.size A B ss ps ca cb := ⟨h1, hd.below hbW⟩
  have hK : ∀ w1, Below W.heap.size W w1 → w1.cell? ⟨w.heap.size + 1, 0, none⟩ = some (.int .i64 k) := fun w1 hb1 => cell_of_row _ _ 0 _ _ _ ((hb1.block _ (heap_lt h2)).trans h2)
  have HAt : Hid (Calls Tryd.prog 63 #[.func (.func 64) #[] #[.pointer (some ⟨w.heap.size + 1, 0, none⟩), .pointer (some ⟨w.heap.size, 0, none⟩)]] W fun e w' => e = .returned (.tuple #[.string (rsI ss ps k), .bool (rsOkB ss ps k)]) ∧ Below W.heap.size W w') := by
    cases hi : inB k 0 11
    · have e : rsOkB ss ps k = false := by rw [rsOkB, hi]; simp
      rw [rsI, e]
      exact iAttemptS_no 64 _ (hE_of Tryd.func64 (by kernel_rfl) rfl) W (fun w1 hb1 => iReadFn_at _ _ k w1 (hK w1 hb1) hi)
    · cases hg : goodDB ss ps
      · have e : rsOkB ss ps k = false := by rw [rsOkB, hg]; rfl
        rw [rsI, e]
        exact iAttemptS_no 64 _ (hE_of Tryd.func64 (by kernel_rfl) rfl) W (fun w1 hb1 => iReadFn_no _ _ k A B ss ps ca cb w1 (hBx.below hb1) (hK w1 hb1) hi hg)
      · have e : rsOkB ss ps k = true := by rw [rsOkB, hg, hi]; rfl
        have hk2 : 0 ≤ k ∧ k ≤ 11 := by simpa [inB] using hi
        obtain ⟨j, rfl⟩ := Int.eq_ofNat_of_zero_le hk2.1
        rw [rsI, if_pos e, e, Int.toNat_natCast]
        exact iAttemptS_yes 64 _ (hE_of Tryd.func64 (by kernel_rfl) rfl) _ W (fun w1 hb1 => iReadFn_yes _ _ j A B ss ps ca cb w1 (hBx.below hb1) hA (hK w1 hb1) (by omega) hg)
  clear hd hA hBx h1 h2 hK
  generalize rsOkB ss ps k = ok at *
  generalize rsI ss ps k = S at *
  go_enter Tryd.func35, Tryd.ntmps35
  go_wp2_with (go_at_call 63; refine HAt.out.mono ?_; rintro e w1 ⟨rfl, hb1⟩)
  go_ret2
  exact ⟨rfl, below_more hbW hb1⟩
end Go.Proofs.YthbjcipdneminaaDoor

/- GJ -/
namespace Go.Proofs.YthbjcipdneminaaDoor
open Go.RowKit

theorem keep4 {w w' : World} {a b c d : Addr} {x y z u : Value} (hb : Below w.heap.size w w') (h : w.cell? a = some x ∧ w.cell? b = some y ∧ w.cell? c = some z ∧ w.cell? d = some u) : w'.cell? a = some x ∧ w'.cell? b = some y ∧ w'.cell? c = some z ∧ w'.cell? d = some u :=
  ⟨(hb.cell (World.block_lt_of_cell? _ _ h.1)).trans h.1, (hb.cell (World.block_lt_of_cell? _ _ h.2.1)).trans h.2.1, (hb.cell (World.block_lt_of_cell? _ _ h.2.2.1)).trans h.2.2.1, (hb.cell (World.block_lt_of_cell? _ _ h.2.2.2)).trans h.2.2.2⟩
def LitP (w : World) (b : Nat) (x : Int) (y : ByteArray) : Prop := w.heap[b]? = some (.cells #[.int .i64 x, .string y] 77 (0, 0))
theorem LitP.below {w w' : World} {b : Nat} {x : Int} {y : ByteArray} (h : LitP w b x y) (hb : Below w.heap.size w w') : LitP w' b x y := (hb.block _ (heap_lt h)).trans h
theorem LitP.new (w : World) (x : Int) (y : ByteArray) : LitP (w.alloc (.cells #[.int .i64 x, .string y] 77)) w.heap.size x y := heap_alloc_new _ _
/-- append(l, p) as a step of a region that draws, the literal in block b. -/
theorem step_app_pu {ops : Array Oper} {o : Oper} {a : Act} {K : Act → World → Prop} {Q : Exit → Act → World → Prop} {E : Prop} (W : World) (base : Nat) (v : Value) (L : List (Int × ByteArray)) (x0 : Int) (y : ByteArray) (b : Nat) (hgd : o.guard = none) (s x : Operand)
    (ho : o.op = .call { callee := .builtin .append, args := #[s, x], argTypes := #[24, 24] }) (hs : a.eval s = v) (hx : a.eval x = .slice (some ⟨b, 0, none⟩) 1 1)
    (hown : OwnPu W base v L) (hb : LitP W b x0 y) (hbase : base ≤ W.heap.size) (hlen : L.length ≤ 1000000)
    (h : ∀ g cap w', Hid (OwnPu w' base (.slice (some ⟨g, 0, none⟩) (L.length + 1) cap) (L ++ [(x0, y)]) ∧ W.grownBy w' v.ownBlock ∧ (v.ownBlock = some g ∨ g = W.heap.size)) → K (a.put o.dst (.slice (some ⟨g, 0, none⟩) (L.length + 1) cap)) w') :
    if Region.wanted o (yielded ops a.tmps) = true then Oper.wp Tryd.prog o a W K Q else E := by
  obtain ⟨i0, hi, hz0, hz1, hz2⟩ := info_parts puInfo
  have hown' : W.ownsRow base 77 2 v L.length (L.flatMap fPu) := hown
  refine step_append_lies W hgd s x 24 ho base 77 i0 _ 2 24 Tryd.underlying24 hi hz0 hz1 hz2 rfl (by decide) v L.length _ hs hown' ⟨b, 0, none⟩ 1 1 (fPu (x0, y)) hx rfl (World.news_of_block hb) (fPu_one _) (by omega) (by unfold maxLen; omega) (by omega) hbase _ rfl ?_
  intro g cap w' h1 h2 h3 _
  refine h g cap w' ⟨?_, h2, h3⟩
  show World.ownsRow _ _ _ _ _ _ _
  rw [List.length_append, List.flatMap_append]
  simpa using h1
/-- The two copies and the append, together. -/
theorem put_end {w0 wS wP W w' : World} {n base g cap : Nat} {vS vP : Value} {ss : List ByteArray} {ps qs : List (Int × ByteArray)} (hS : OwnSt wS base vS ss) (hSP : Below wS.heap.size wS wP) (hP : OwnPu wP wS.heap.size vP ps) (hW : Below wP.heap.size wP W) (hbs : base ≤ wS.heap.size)
    (hO : OwnPu w' wS.heap.size (.slice (some ⟨g, 0, none⟩) qs.length cap) qs) (hg : W.grownBy w' vP.ownBlock) (hat : vP.ownBlock = some g ∨ g = W.heap.size) (h0 : Below n w0 wS) (hn : n ≤ wS.heap.size) :
    OwnD w' base vS (.slice (some ⟨g, 0, none⟩) qs.length cap) ss qs ∧ Below n w0 w' ∧ ∀ X, X < wS.heap.size → w'.heap[X]? = wS.heap[X]? := by
  have hs1 := hSP.size
  have hs2 := hW.size
  have hPl : ∀ g, vP.ownBlock = some g → wS.heap.size ≤ g := fun g hg => (hP.lt g hg).1
  have hSl : ∀ g, vS.ownBlock = some g → g < wS.heap.size := fun g hg => (hS.lt g hg).2
  have hSW : Below wS.heap.size wS W := hSP.trans (hW.mono hs1)
  have hbl : ∀ X, X < wS.heap.size → w'.heap[X]? = wS.heap[X]? := fun X hX => (hg.block X (by omega) (fun e => by have := hPl X e.symm; omega)).trans (hSW.block X hX)
  refine ⟨⟨(hS.below hSW).kept hg (by
      cases hv : vS.ownBlock with
      | none => exact Or.inl rfl
      | some q => exact Or.inr fun e => by have := hSl q hv; have := hPl q e.symm; omega), hO.lower hbs, ?_⟩, (h0.trans (hSW.mono hn)).grown hg (by omega) (fun k hk => by have := hPl k hk; omega), hbl⟩
  cases hv : vS.ownBlock with
  | none => exact Or.inl rfl
  | some q =>
    refine Or.inr fun e => ?_
    have e1 : q = g := by injection e
    have := hSl q hv
    rcases hat with h | h
    · have := hPl g h; omega
    · omega

set_option maxRecDepth 100000 in
set_option maxHeartbeats 2000000 in
theorem iPutFn_no (gk gy g : Nat) (k : Int) (y : ByteArray) (A B : Option Addr) (ss : List ByteArray) (ps : List (Int × ByteArray)) (ca cb : Nat) (w : World) (hb : BoxD w g A B ss ps ca cb) (hk : w.cell? ⟨gk, 0, none⟩ = some (.int .i64 k)) (hy : w.cell? ⟨gy, 0, none⟩ = some (.string y)) (hok : puOkB ss ps k y = false) :
    Calls Tryd.prog 71 #[.pointer (some ⟨gk, 0, none⟩), .pointer (some ⟨gy, 0, none⟩), .pointer (some ⟨g, 0, none⟩)] w fun e w' => Died e ∧ Below w.heap.size w w' := by
  obtain ⟨W0, hW0⟩ : ∃ W, w.alloc (.cells #[.slice none 0 0, .slice none 0 0] 26) = W := ⟨_, rfl⟩
  have hbW0 : Below w.heap.size w W0 := by rw [← hW0]; exact gAlloc _ _
  have HS0 : Hid (W0.heap.size = w.heap.size + 1) := by show _ = _; rw [← hW0]; simp
  have hk1 : W0.cell? ⟨gk, 0, none⟩ = some (.int .i64 k) := (hbW0.cell (World.block_lt_of_cell? _ _ hk)).trans hk
  have hy1 : W0.cell? ⟨gy, 0, none⟩ = some (.string y) := (hbW0.cell (World.block_lt_of_cell? _ _ hy)).trans hy
  have hz0 : W0.heap[w.heap.size]? = some (.cells #[.slice none 0 0, .slice none 0 0] 26 (0, 0)) := by rw [← hW0]; exact heap_alloc_new _ _
  obtain ⟨W, hW⟩ : ∃ W, W0.alloc (.cells #[.int .i64 k, .string y] 77) = W := ⟨_, rfl⟩
  have hbW1 : Below W0.heap.size W0 W := by rw [← hW]; exact gAlloc _ _
  have hbW := below_more hbW0 hbW1
  have HSW : Hid (W.heap.size = w.heap.size + 2) := by show _ = _; rw [← hW]; simp [HS0.out]
  have hz : W.heap[w.heap.size]? = some (.cells #[.slice none 0 0, .slice none 0 0] 26 (0, 0)) := (hbW1.block _ (heap_lt hz0)).trans hz0
  have hp : W.heap[W0.heap.size]? = some (.cells #[.int .i64 k, .string y] 77 (0, 0)) := by rw [← hW]; exact heap_alloc_new _ _
  have hB1 := hb.below hbW
  have x0 : W.cell? ⟨g, 0, none⟩ = some (.slice A ss.length ca) := cell_of_row _ _ 0 _ _ _ hB1.box
  have x1 : W.cell? ⟨g, 1, none⟩ = some (.slice B ps.length cb) := cell_of_row _ _ 1 _ _ _ hB1.box
  have p0 : W.cell? ⟨W0.heap.size, 0, none⟩ = some (.int .i64 k) := cell_of_row _ _ 0 _ _ _ hp
  have p1 : W.cell? ⟨W0.heap.size, 1, none⟩ = some (.string y) := cell_of_row _ _ 1 _ _ _ hp
  have HG := Lib.hid (iGoodD_any A B ss ps ca cb W hB1.disk)
  have HPt := Lib.hid (fun w' => iPut9 k y w')
  have hl2 := hB1.disk.len2
  clear hb hB1 hk hy hz hz0 hp
  cases hg : goodDB ss ps
  · rw [hg] at HG
    clear hok hg
    go_enter Tryd.func71, Tryd.ntmps71
    go_wp2_with (first
      | (go_at_call 34; refine HG.out.mono ?_; rintro e w1 ⟨rfl, hb1⟩)
      | (go_at_call 65; refine (iInsist_no _).mono ?_; rintro e w' ⟨rfl, rfl⟩))
    exact ⟨rfl, rfl, below_more hbW hb1⟩
  · rw [hg] at HG
    by_cases h40 : (ps.length : Int) < 40
    · have hpu : puB9 (k, y) = false := by
        have h41 : ¬ ps.length = 40 := by omega
        have e : puOkB ss ps k y = (inB k 0 11 && decide (y.size = 16)) := by rw [puOkB, hg]; simp [h41]
        rw [e] at hok
        exact hok
      have HPt2 : Hid (∀ w', Calls Tryd.prog 62 #[putV k y] w' fun e w'' => e = .returned (.bool false) ∧ Below w'.heap.size w' w'') := fun w' => by
        have := HPt.out w'
        rw [hpu] at this
        exact this
      clear hok hg hpu HPt
      go_enter Tryd.func71, Tryd.ntmps71
      go_wp2_with (first
        | (go_at_call 34; refine HG.out.mono ?_; rintro e w1 ⟨rfl, hb1⟩; (have q1 := (hb1.cell (World.block_lt_of_cell? _ _ x1)).trans x1); (have q2 := (hb1.cell (World.block_lt_of_cell? _ _ p0)).trans p0); (have q3 := (hb1.cell (World.block_lt_of_cell? _ _ p1)).trans p1))
        | (go_at_call 62; refine (HPt2.out _).mono ?_; rintro e w2 ⟨rfl, hb2⟩)
        | (go_at_call 65; refine (iInsist_no _).mono ?_; rintro e w' ⟨rfl, rfl⟩))
      exact ⟨rfl, rfl, below_more (below_more hbW hb1) hb2⟩
    · clear hok hg
      go_enter Tryd.func71, Tryd.ntmps71
      go_wp2_with (first
        | (go_at_call 34; refine HG.out.mono ?_; rintro e w1 ⟨rfl, hb1⟩; (have q1 := (hb1.cell (World.block_lt_of_cell? _ _ x1)).trans x1))
        | (go_at_call 65; refine (iInsist_no _).mono ?_; rintro e w' ⟨rfl, rfl⟩))
      exact ⟨rfl, rfl, below_more hbW hb1⟩
set_option maxRecDepth 100000 in
set_option maxHeartbeats 4000000 in
theorem iPutFn_yes (gk gy g : Nat) (k : Int) (y : ByteArray) (A B : Option Addr) (ss : List ByteArray) (ps : List (Int × ByteArray)) (ca cb : Nat) (w : World) (hb : BoxD w g A B ss ps ca cb) (hA : Lies9 A ca) (hB : Lies9 B cb) (hk : w.cell? ⟨gk, 0, none⟩ = some (.int .i64 k)) (hy : w.cell? ⟨gy, 0, none⟩ = some (.string y)) (hok : puOkB ss ps k y = true) :
    Calls Tryd.prog 71 #[.pointer (some ⟨gk, 0, none⟩), .pointer (some ⟨gy, 0, none⟩), .pointer (some ⟨g, 0, none⟩)] w fun e w' => ∃ v1 v2, e = .returned (diskV v1 v2) ∧ OwnD w' w.heap.size v1 v2 ss (ps ++ [(k, y)]) ∧ Below w.heap.size w w' := by
  obtain ⟨W0, hW0⟩ : ∃ W, w.alloc (.cells #[.slice none 0 0, .slice none 0 0] 26) = W := ⟨_, rfl⟩
  have hbW0 : Below w.heap.size w W0 := by rw [← hW0]; exact gAlloc _ _
  have HS0 : Hid (W0.heap.size = w.heap.size + 1) := by show _ = _; rw [← hW0]; simp
  have hk1 : W0.cell? ⟨gk, 0, none⟩ = some (.int .i64 k) := (hbW0.cell (World.block_lt_of_cell? _ _ hk)).trans hk
  have hy1 : W0.cell? ⟨gy, 0, none⟩ = some (.string y) := (hbW0.cell (World.block_lt_of_cell? _ _ hy)).trans hy
  have hz0 : W0.heap[w.heap.size]? = some (.cells #[.slice none 0 0, .slice none 0 0] 26 (0, 0)) := by rw [← hW0]; exact heap_alloc_new _ _
  obtain ⟨W, hW⟩ : ∃ W, W0.alloc (.cells #[.int .i64 k, .string y] 77) = W := ⟨_, rfl⟩
  have hbW1 : Below W0.heap.size W0 W := by rw [← hW]; exact gAlloc _ _
  have hbW := below_more hbW0 hbW1
  have HSW : Hid (W.heap.size = w.heap.size + 2) := by show _ = _; rw [← hW]; simp [HS0.out]
  have hz : W.heap[w.heap.size]? = some (.cells #[.slice none 0 0, .slice none 0 0] 26 (0, 0)) := (hbW1.block _ (heap_lt hz0)).trans hz0
  have hp : W.heap[W0.heap.size]? = some (.cells #[.int .i64 k, .string y] 77 (0, 0)) := by rw [← hW]; exact heap_alloc_new _ _
  have hB1 := hb.below hbW
  have x0 : W.cell? ⟨g, 0, none⟩ = some (.slice A ss.length ca) := cell_of_row _ _ 0 _ _ _ hB1.box
  have x1 : W.cell? ⟨g, 1, none⟩ = some (.slice B ps.length cb) := cell_of_row _ _ 1 _ _ _ hB1.box
  have p0 : W.cell? ⟨W0.heap.size, 0, none⟩ = some (.int .i64 k) := cell_of_row _ _ 0 _ _ _ hp
  have p1 : W.cell? ⟨W0.heap.size, 1, none⟩ = some (.string y) := cell_of_row _ _ 1 _ _ _ hp
  have HG := Lib.hid (iGoodD_any A B ss ps ca cb W hB1.disk)
  have HPt := Lib.hid (fun w' => iPut9 k y w')
  have hok2 := hok
  simp only [puOkB, Bool.and_eq_true] at hok2
  obtain ⟨hg, hk2, hy2, h41⟩ := hok2
  have hpu : puB9 (k, y) = true := by
    show (inB k 0 11 && stB9 y) = true
    rw [hk2]; exact hy2
  have H40 := Lib.hid (good_len hg).2.1
  have H12 := Lib.hid (good_len hg).1
  have h40i : (ps.length : Int) < 40 := by
    have : ¬ ps.length = 40 := by simpa using h41
    have := H40.out
    omega
  have HPt2 : Hid (∀ w', Calls Tryd.prog 62 #[putV k y] w' fun e w'' => e = .returned (.bool true) ∧ Below w'.heap.size w' w'') := fun w' => by
    have := HPt.out w'
    rw [hpu] at this
    exact this
  rw [hg] at HG
  have HD := Lib.hid hB1.disk
  have HGw := Lib.hid (heap_lt hb.box)
  have HZ := Lib.hid hz
  have HP := Lib.hid hp
  clear hok hpu HPt hg hk2 hy2 h41 hb hB1 hk hy hz hz0 hp
  go_enter Tryd.func71, Tryd.ntmps71
  go_wp2_with (first
    | (go_at_call 34; refine HG.out.mono ?_; rintro e w1 ⟨rfl, hb1⟩; (have q1 := (hb1.cell (World.block_lt_of_cell? _ _ x1)).trans x1); (have q2 := (hb1.cell (World.block_lt_of_cell? _ _ p0)).trans p0); (have q3 := (hb1.cell (World.block_lt_of_cell? _ _ p1)).trans p1))
    | (go_at_call 62; refine (HPt2.out _).mono ?_; rintro e w2 ⟨rfl, hb2⟩)
    | (go_at_call 65; refine (iInsist_yes _).mono ?_; rintro e w' ⟨rfl, rfl⟩))
  have hb3 := below_more hb1 hb2
  have y0 := (hb3.cell (World.block_lt_of_cell? _ _ x0)).trans x0
  have y1 := (hb3.cell (World.block_lt_of_cell? _ _ x1)).trans x1
  have y2 := (hb3.cell (World.block_lt_of_cell? _ _ p0)).trans p0
  have y3 := (hb3.cell (World.block_lt_of_cell? _ _ p1)).trans p1
  have HD2 := Lib.hid (HD.out.below hb3)
  have HZ2 := Lib.hid ((hb3.block _ (heap_lt HZ.out)).trans HZ.out)
  have HBW := Lib.hid (below_more hbW hb3)
  have hs2 := hb3.size
  clear hb1 hb2 hb3 q1 q2 q3 x0 x1 p0 p1 HG HD HZ HP HPt2 hW hW0 hk1 hy1 hbW hbW1 hbW0
  have hg2 := World.block_lt_of_cell? _ _ y0
  have hp2 := World.block_lt_of_cell? _ _ y2
  have hw2 : w.heap.size < w2.heap.size := by have := HSW.out; omega
  have HCs := Lib.hid (fun w' (h : Below w2.heap.size w2 w') => iCloneSt A ss ca w' (HD2.out.sure.below h) hA (by have := H12.out; omega))
  have HCp := Lib.hid (fun w' (h : Below w2.heap.size w2 w') => iClonePu B ps cb w' (HD2.out.later.below h) hB (by have := H40.out; omega))
  have hgX : g ≠ w.heap.size := by have := HGw.out; omega
  have hpX : W0.heap.size ≠ w.heap.size := by have := HS0.out; omega
  clear hs2
  go_region_held3 (fun w' => w'.cell? ⟨g, 0, none⟩ = some (.slice A ss.length ca) ∧ w'.cell? ⟨g, 1, none⟩ = some (.slice B ps.length cb) ∧ w'.cell? ⟨W0.heap.size, 0, none⟩ = some (.int .i64 k) ∧ w'.cell? ⟨W0.heap.size, 1, none⟩ = some (.string y))
    (first
      | exact ⟨y0, y1, y2, y3⟩
      | exact ⟨t0, t1, t2, t3⟩
      | exact ⟨(cell_set_other _ ⟨w.heap.size, 1, none⟩ _ _ hgX).trans ((cell_set_other _ ⟨w.heap.size, 0, none⟩ _ _ hgX).trans t0), (cell_set_other _ ⟨w.heap.size, 1, none⟩ _ _ hgX).trans ((cell_set_other _ ⟨w.heap.size, 0, none⟩ _ _ hgX).trans t1), (cell_set_other _ ⟨w.heap.size, 1, none⟩ _ _ hpX).trans ((cell_set_other _ ⟨w.heap.size, 0, none⟩ _ _ hpX).trans t2), (cell_set_other _ ⟨w.heap.size, 1, none⟩ _ _ hpX).trans ((cell_set_other _ ⟨w.heap.size, 0, none⟩ _ _ hpX).trans t3)⟩
      | exact ⟨sP0, sP1, sP2, sP3⟩
      | exact ⟨sS0, sS1, sS2, sS3⟩
      | go_keep)
    (first
    | (refine step_app_pu _ wS.heap.size _ ps k y wP.heap.size rfl (.tmp 26) (.tmp 28) rfl (by simp [Act.eval]) (by simp [Act.eval]) (hoP2.below (gAlloc _ _)) (LitP.new wP k y) (by first | exact hbP2.size | (rw [World.heap_size_alloc9]; have := hbP2.size; omega)) (by have := H40.out; omega) ?_; intro g5 c5 w5 H5; obtain ⟨hE1, hE2, hE3⟩ := put_end (w0 := w) (n := w.heap.size) (base := w2.heap.size) (qs := ps ++ [(k, y)]) hoS2 hbP2 hoP2 (gAlloc _ _) hS2 (by rw [List.length_append]; exact H5.out.1) H5.out.2.1 H5.out.2.2 hBS (by omega); have hZ5 : w5.heap[w.heap.size]? = some (.cells #[.slice none 0 0, .slice none 0 0] 26 (0, 0)) := (hE3 _ (by omega)).trans ((hBS2.block _ (by omega)).trans HZ2.out); have r0 := cell_of_row w5 _ 0 _ _ _ hZ5; have r1 := cell_of_row w5 _ 1 _ _ _ hZ5; have f0 := frozen_of_row w5 _ 0 _ _ hZ5; have f1 := frozen_of_row w5 _ 1 _ _ hZ5; have t0 : w5.cell? ⟨g, 0, none⟩ = some (.slice A ss.length ca) := (World.cell?_of_block (hE3 g hgS)).trans sS0; have t1 : w5.cell? ⟨g, 1, none⟩ = some (.slice B ps.length cb) := (World.cell?_of_block (hE3 g hgS)).trans sS1; have t2 : w5.cell? ⟨W0.heap.size, 0, none⟩ = some (.int .i64 k) := (World.cell?_of_block (hE3 _ hpS)).trans sS2; have t3 : w5.cell? ⟨W0.heap.size, 1, none⟩ = some (.string y) := (World.cell?_of_block (hE3 _ hpS)).trans sS3)
    | (refine step_app_pu _ wS.heap.size _ ps k y wS.heap.size rfl (.tmp 26) (.tmp 28) rfl (by simp [Act.eval]) (by simp [Act.eval]) (hoP2.below (Below.refl _ _)) ((LitP.new wS k y).below hbP) (by first | exact hbP2.size | (rw [World.heap_size_alloc9]; have := hbP2.size; omega)) (by have := H40.out; omega) ?_; intro g5 c5 w5 H5; obtain ⟨hE1, hE2, hE3⟩ := put_end (w0 := w) (n := w.heap.size) (base := w2.heap.size) (qs := ps ++ [(k, y)]) hoS2 hbP2 hoP2 (Below.refl _ _) hS2 (by rw [List.length_append]; exact H5.out.1) H5.out.2.1 H5.out.2.2 hBS (by omega); have hZ5 : w5.heap[w.heap.size]? = some (.cells #[.slice none 0 0, .slice none 0 0] 26 (0, 0)) := (hE3 _ (by omega)).trans ((hBS2.block _ (by omega)).trans HZ2.out); have r0 := cell_of_row w5 _ 0 _ _ _ hZ5; have r1 := cell_of_row w5 _ 1 _ _ _ hZ5; have f0 := frozen_of_row w5 _ 0 _ _ hZ5; have f1 := frozen_of_row w5 _ 1 _ _ hZ5; have t0 : w5.cell? ⟨g, 0, none⟩ = some (.slice A ss.length ca) := (World.cell?_of_block (hE3 g hgS)).trans sS0; have t1 : w5.cell? ⟨g, 1, none⟩ = some (.slice B ps.length cb) := (World.cell?_of_block (hE3 g hgS)).trans sS1; have t2 : w5.cell? ⟨W0.heap.size, 0, none⟩ = some (.int .i64 k) := (World.cell?_of_block (hE3 _ hpS)).trans sS2; have t3 : w5.cell? ⟨W0.heap.size, 1, none⟩ = some (.string y) := (World.cell?_of_block (hE3 _ hpS)).trans sS3)
    | (refine step_app_pu _ wS.heap.size _ ps k y w2.heap.size rfl (.tmp 26) (.tmp 28) rfl (by simp [Act.eval]) (by simp [Act.eval]) (hoP2.below (Below.refl _ _)) (LitP.below (LitP.below (w := (w2.alloc (.cells #[.int .i64 k, .string y] 77)).drew) (LitP.new w2 k y) hbS) hbP) (by first | exact hbP2.size | (rw [World.heap_size_alloc9]; have := hbP2.size; omega)) (by have := H40.out; omega) ?_; intro g5 c5 w5 H5; obtain ⟨hE1, hE2, hE3⟩ := put_end (w0 := w) (n := w.heap.size) (base := w2.heap.size) (qs := ps ++ [(k, y)]) hoS2 hbP2 hoP2 (Below.refl _ _) hS2 (by rw [List.length_append]; exact H5.out.1) H5.out.2.1 H5.out.2.2 hBS (by omega); have hZ5 : w5.heap[w.heap.size]? = some (.cells #[.slice none 0 0, .slice none 0 0] 26 (0, 0)) := (hE3 _ (by omega)).trans ((hBS2.block _ (by omega)).trans HZ2.out); have r0 := cell_of_row w5 _ 0 _ _ _ hZ5; have r1 := cell_of_row w5 _ 1 _ _ _ hZ5; have f0 := frozen_of_row w5 _ 0 _ _ hZ5; have f1 := frozen_of_row w5 _ 1 _ _ hZ5; have t0 : w5.cell? ⟨g, 0, none⟩ = some (.slice A ss.length ca) := (World.cell?_of_block (hE3 g hgS)).trans sS0; have t1 : w5.cell? ⟨g, 1, none⟩ = some (.slice B ps.length cb) := (World.cell?_of_block (hE3 g hgS)).trans sS1; have t2 : w5.cell? ⟨W0.heap.size, 0, none⟩ = some (.int .i64 k) := (World.cell?_of_block (hE3 _ hpS)).trans sS2; have t3 : w5.cell? ⟨W0.heap.size, 1, none⟩ = some (.string y) := (World.cell?_of_block (hE3 _ hpS)).trans sS3)
    | (go_at_call 73; refine (HCp.out _ (by first | exact hBS2 | exact below_more hBS2 (gAlloc _ _))).mono ?_; rintro e wP ⟨vP, rfl, hoP, hbP⟩; obtain ⟨AP, cP, rfl, _⟩ := hoP.form fPu_len; have hoP2 : OwnPu wP wS.heap.size (.slice AP ps.length cP) ps := hoP.lower (by first | exact Nat.le_refl _ | (rw [World.heap_size_alloc9]; omega)); have hbP2 : Below wS.heap.size wS wP := (by first | exact hbP | exact below_more (gAlloc _ _) hbP); have sP0 := (hbP2.cell (World.block_lt_of_cell? _ _ sS0)).trans sS0; have sP1 := (hbP2.cell (World.block_lt_of_cell? _ _ sS1)).trans sS1; have sP2 := (hbP2.cell (World.block_lt_of_cell? _ _ sS2)).trans sS2; have sP3 := (hbP2.cell (World.block_lt_of_cell? _ _ sS3)).trans sS3)
    | (go_at_call 72; refine (HCs.out _ (by first | exact gDrew | exact below_more (gAlloc _ _) gDrew)).mono ?_; rintro e wS ⟨vS, rfl, hoS, hbS⟩; obtain ⟨AS, cS, rfl, _⟩ := hoS.form fSt_len; have hoS2 : OwnSt wS w2.heap.size (.slice AS ss.length cS) ss := hoS.lower (by first | exact Nat.le_refl _ | exact (gAlloc w2 _).size); have hBS2 : Below w2.heap.size w2 wS := (by first | exact below_more gDrew hbS | exact below_more (below_more (gAlloc _ _) gDrew) hbS); have hBS := below_more HBW.out hBS2; have hS2 := hBS2.size; have hgS := Nat.lt_of_lt_of_le hg2 hS2; have hpS := Nat.lt_of_lt_of_le hp2 hS2; have sS0 := (hBS2.cell (World.block_lt_of_cell? _ _ y0)).trans y0; have sS1 := (hBS2.cell (World.block_lt_of_cell? _ _ y1)).trans y1; have sS2 := (hBS2.cell (World.block_lt_of_cell? _ _ y2)).trans y2; have sS3 := (hBS2.cell (World.block_lt_of_cell? _ _ y3)).trans y3))
  all_goals
    have HO := Lib.hid hE1
    have HB2 := Lib.hid hE2
    have K := Lib.hid hZ5
    clear hE1 hE2 hE3 hZ5 t0 t1 t2 t3 r0 r1 f0 f1 H5 sS0 sS1 sS2 sS3 sP0 sP1 sP2 sP3 hoS hoS2 hoP hoP2 hbP hbP2 hbS hBS hBS2 y0 y1 y2 y3
    go_wp2_with fail
    obtain ⟨d1, d2, d3⟩ := dk_stored (w := w) K.out HO.out hw2 HB2.out (Nat.le_refl _)
    rw [List.length_append] at d1 d2 d3
    exact ret_dk rfl w.heap.size _ _ rfl d1 rfl ⟨_, _, rfl, d2.lower (by omega), d3⟩
set_option maxRecDepth 100000 in
set_option maxHeartbeats 1000000 in
theorem iPutS_any (A B : Option Addr) (ss : List ByteArray) (ps : List (Int × ByteArray)) (ca cb : Nat) (k : Int) (y : ByteArray) (w : World) (hd : DiskIn w A B ss ps) (hA : Lies9 A ca) (hB : Lies9 B cb) :
    Calls Tryd.prog 37 #[diskV (.slice A ss.length ca) (.slice B ps.length cb), .int .i64 k, .string y] w fun e w' => ∃ v1 v2, e = .returned (.tuple #[diskV v1 v2, .bool (puOkB ss ps k y)]) ∧ OwnD w' w.heap.size v1 v2 (puS ss ps k y) (puP ss ps k y) ∧ Below w.heap.size w w' := by
  have hmf : ∀ (fn : Fn) (first cap : Array Value) (w : World), (Instr.makeFunc fn first cap).run Tryd.prog w = .ok (.func fn first cap) w := fun _ _ _ _ => rfl
  obtain ⟨W1, hW1⟩ : ∃ W, w.alloc (.cells #[.slice A ss.length ca, .slice B ps.length cb] 26) = W := ⟨_, rfl⟩
  obtain ⟨W2, hW2⟩ : ∃ W, W1.alloc (.cells #[.int .i64 k] 3) = W := ⟨_, rfl⟩
  obtain ⟨W3, hW3⟩ : ∃ W, W2.alloc (.cells #[.string y] 9) = W := ⟨_, rfl⟩
  obtain ⟨W, hW⟩ : ∃ W, W3.alloc (.cells #[.slice none 0 0, .slice none 0 0] 26) = W := ⟨_, rfl⟩
  have b1 : Below w.heap.size w W1 := by rw [← hW1]; exact gAlloc _ _
  have b2 : Below W1.heap.size W1 W2 := by rw [← hW2]; exact gAlloc _ _
  have b3 : Below W2.heap.size W2 W3 := by rw [← hW3]; exact gAlloc _ _
  have b4 : Below W3.heap.size W3 W := by rw [← hW]; exact gAlloc _ _
  have h1 : W.heap[w.heap.size]? = some (.cells #[.slice A ss.length ca, .slice B ps.length cb] 26 (0, 0)) := by
    have e : W1.heap[w.heap.size]? = some (.cells #[.slice A ss.length ca, .slice B ps.length cb] 26 (0, 0)) := by rw [← hW1]; exact heap_alloc_new _ _
    exact ((below_more (below_more b2 b3) b4).block _ (heap_lt e)).trans e
  have h2 : W.heap[W1.heap.size]? = some (.cells #[.int .i64 k] 3 (0, 0)) := by
    have e : W2.heap[W1.heap.size]? = some (.cells #[.int .i64 k] 3 (0, 0)) := by rw [← hW2]; exact heap_alloc_new _ _
    exact ((below_more b3 b4).block _ (heap_lt e)).trans e
  have h3 : W.heap[W2.heap.size]? = some (.cells #[.string y] 9 (0, 0)) := by
    have e : W3.heap[W2.heap.size]? = some (.cells #[.string y] 9 (0, 0)) := by rw [← hW3]; exact heap_alloc_new _ _
    exact (b4.block _ (heap_lt e)).trans e
  have h4 : W.heap[W3.heap.size]? = some (.cells #[.slice none 0 0, .slice none 0 0] 26 (0, 0)) := by rw [← hW]; exact heap_alloc_new _ _
  have HB3 := Lib.hid (below_more (below_more b1 b2) b3)
  have HBW := Lib.hid (below_more (below_more (below_more b1 b2) b3) b4)
  have hBx : BoxD W w.heap.size A B ss ps ca cb := ⟨h1, hd.below HBW.out⟩
  have hK : ∀ w1, Below W.heap.size W w1 → w1.cell? ⟨W1.heap.size, 0, none⟩ = some (.int .i64 k) := fun w1 hb1 => cell_of_row _ _ 0 _ _ _ ((hb1.block _ (heap_lt h2)).trans h2)
  have hY : ∀ w1, Below W.heap.size W w1 → w1.cell? ⟨W2.heap.size, 0, none⟩ = some (.string y) := fun w1 hb1 => cell_of_row _ _ 0 _ _ _ ((hb1.block _ (heap_lt h3)).trans h3)
  have HAt : Hid (Calls Tryd.prog 70 #[.func (.func 71) #[] #[.pointer (some ⟨W1.heap.size, 0, none⟩), .pointer (some ⟨W2.heap.size, 0, none⟩), .pointer (some ⟨w.heap.size, 0, none⟩)]] W fun e w' => ∃ v1 v2, e = .returned (.tuple #[diskV v1 v2, .bool (puOkB ss ps k y)]) ∧ OwnD w' W.heap.size v1 v2 (puS ss ps k y) (puP ss ps k y) ∧ Below W.heap.size W w') := by
    cases hok : puOkB ss ps k y
    · rw [(pu_not hok).1, (pu_not hok).2.1]
      exact iAttemptD_no 71 _ (hE_of Tryd.func71 (by kernel_rfl) rfl) W (fun w1 hb1 => iPutFn_no _ _ _ k y A B ss ps ca cb w1 (hBx.below hb1) (hK w1 hb1) (hY w1 hb1) hok)
    · rw [(pu_yes hok).1, (pu_yes hok).2.1]
      exact iAttemptD_yes 71 _ (hE_of Tryd.func71 (by kernel_rfl) rfl) _ _ W (fun w1 hb1 => iPutFn_yes _ _ _ k y A B ss ps ca cb w1 (hBx.below hb1) hA hB (hK w1 hb1) (hY w1 hb1) hok)
  have HXW : Hid (W3.heap.size < W.heap.size ∧ w.heap.size ≤ W3.heap.size ∧ w.heap.size ≤ W.heap.size) := ⟨heap_lt h4, HB3.out.size, HBW.out.size⟩
  clear hd hA hB hBx h1 h2 h3 hK hY b1 b2 b3 b4
  generalize puOkB ss ps k y = ok at *
  generalize puS ss ps k y = S at *
  generalize puP ss ps k y = Q at *
  go_enter Tryd.func37, Tryd.ntmps37
  go_wp2_with fail
  refine HAt.out.mono ?_
  rintro e w1 ⟨v1, v2, rfl, ho, hb1⟩
  obtain ⟨A1, c1, rfl, -⟩ := ho.sure.form fSt_len
  obtain ⟨A2, c2, rfl, -⟩ := ho.later.form fPu_len
  have k1 := (hb1.block _ (heap_lt h4)).trans h4
  have z0 := frozen_of_row _ _ 0 _ _ k1
  have z1 := frozen_of_row _ _ 1 _ _ k1
  have y0 := cell_of_row _ _ 0 _ _ _ k1
  have y1 := cell_of_row _ _ 1 _ _ _ k1
  have HO := Lib.hid ho
  have K1 := Lib.hid k1
  have HB := Lib.hid (below_more HBW.out hb1)
  clear ho k1 hb1
  go_wp2_with fail
  obtain ⟨e1, e2, e3⟩ := HXW.out
  obtain ⟨d1, d2, d3⟩ := dk_stored (w := w) K1.out HO.out e1 HB.out e2
  exact ret_dk2 rfl W3.heap.size _ _ ok rfl rfl d1 rfl ⟨_, _, rfl, d2.lower e3, d3⟩
end Go.Proofs.YthbjcipdneminaaDoor

/- GK -/
namespace Go.Proofs.YthbjcipdneminaaDoor
open Go.RowKit

/-- The reaches once the first t kept writes are marked. -/
def markL (n : Nat) (ks : List Int) (t : Nat) : List Nat := (List.range n).map fun (k : Nat) => if (k : Int) ∈ ks.take t then 16 else 0
theorem markL_length (n : Nat) (ks : List Int) (t : Nat) : (markL n ks t).length = n := by simp [markL]
theorem markL_at {n : Nat} {ks : List Int} {t k : Nat} (h : k < (markL n ks t).length) : (markL n ks t)[k] = if (k : Int) ∈ ks.take t then 16 else 0 := by simp [markL]
theorem markL_zero (n : Nat) (ks : List Int) : markL n ks 0 = List.replicate n 0 := by
  apply List.ext_getElem
  · simp [markL]
  · intro k h1 h2; rw [markL_at]; simp
theorem markL_step {n : Nat} {ks : List Int} {t q : Nat} (ht : t < ks.length) (hq : ks[t] = (q : Int)) : markL n ks (t + 1) = (markL n ks t).set q 16 := by
  apply List.ext_getElem
  · rw [List.length_set, markL_length, markL_length]
  · intro k h1 h2
    rw [markL_at, List.getElem_set, List.take_succ_eq_append_getElem ht, hq]
    rw [List.length_set] at h2
    rw [markL_at h2]
    by_cases e : q = k
    · rw [if_pos e, if_pos (by simp [e])]
    · rw [if_neg e]
      have : ((k : Int) ∈ ks.take t ++ [(q : Int)]) ↔ (k : Int) ∈ ks.take t := by
        rw [List.mem_append, List.mem_singleton]
        constructor
        · rintro (h | h)
          · exact h
          · omega
        · exact Or.inl
      simp only [this]
theorem markL_le {n : Nat} {ks : List Int} {t : Nat} : ∀ r ∈ markL n ks t, r ≤ 16 := by
  intro r hr
  simp only [markL, List.mem_map] at hr
  obtain ⟨k, _, rfl⟩ := hr
  split <;> omega
def outOkB (n : Nat) (ks : List Int) (torn b : Int) : Bool := risB 0 (n : Int) ks && (if torn = -1 then decide (b = 0) else decide (0 ≤ torn) && (decide (torn < (n : Int)) && (!decide (torn ∈ ks) && (decide (0 ≤ b) && decide (b ≤ 16)))))
theorem cr_out {ss : List ByteArray} {ps : List (Int × ByteArray)} {ks : List Int} {torn b : Int} : crOkB ss ps ks torn b = (goodDB ss ps && outOkB ps.length ks torn b) := by
  unfold crOkB outOkB
  congr 1
  cases hr : risB 0 (ps.length : Int) ks
  · rfl
  · have hin := risB_in hr
    rw [Bool.true_and, Bool.true_and]
    by_cases ht : torn = -1
    · subst ht
      have hn : (-1 : Int) ∉ ks := fun h => by have := hin _ h; omega
      rw [if_pos rfl, Bool.eq_iff_iff]
      simp [inB, hn]
      omega
    · rw [if_neg ht, Bool.eq_iff_iff]
      by_cases hm : torn ∈ ks
      · simp [hm]
      · simp [inB, hm]
        omega
/-- A row of numbers in block X. -/
def RowI (w : World) (X : Nat) (L : List Nat) : Prop := w.heap[X]? = some (.cells ((zI L).map (Value.int .i64)).toArray 3 (0, 0))
theorem RowI.cell {w : World} {X : Nat} {L : List Nat} (h : RowI w X L) {k : Nat} (hk : k < L.length) : w.cell? ⟨X, k, none⟩ = some (.int .i64 (L[k] : Nat)) := by
  rw [cell_of_row _ _ k _ _ _ h]
  simp [zI, hk]
theorem RowI.frozen {w : World} {X : Nat} {L : List Nat} (h : RowI w X L) (k : Nat) : w.frozen? ⟨X, k, none⟩ = false := frozen_of_row _ _ k _ _ h
theorem RowI.below {w w' : World} {X : Nat} {L : List Nat} (h : RowI w X L) (hb : Below w.heap.size w w') : RowI w' X L := (hb.block _ (heap_lt h)).trans h
theorem RowI.set {w : World} {X : Nat} {L : List Nat} (h : RowI w X L) (k x : Nat) : RowI (w.setCell ⟨X, k, none⟩ (.int .i64 (x : Nat))) X (L.set k x) := by
  have h1 := heap_setCell_same w X k _ _ (Value.int .i64 (x : Int)) h
  refine h1.trans ?_
  congr 2
  simp [zI, List.map_set]
theorem RowI.ints {w : World} {X : Nat} {L : List Nat} (h : RowI w X L) : Ints w (some ⟨X, 0, none⟩) (zI L) := fun _ => ⟨X, 0, rfl, fun j hj => by
  rw [zI_length] at hj
  rw [Nat.zero_add, h.cell hj, zI_getD]
  simp [List.getD, hj]⟩
theorem rowI_new (n : Nat) (w : World) : RowI (w.alloc (.cells (madeCells #[.int .i64 0] n) 3)) w.heap.size (List.replicate n 0) := by
  show (w.alloc _).heap[w.heap.size]? = _
  rw [heap_alloc_new]
  congr 2
  apply Array.toList_inj.1
  have e := made_row (Value.int .i64 0) n rfl
  rw [Nat.mul_one] at e
  simp only [zI, List.map_replicate]
  exact e

end Go.Proofs.YthbjcipdneminaaDoor

/- GL -/
namespace Go.Proofs.YthbjcipdneminaaDoor
open Go.RowKit

theorem out_facts {n : Nat} {ks : List Int} {torn b : Int} (h : outOkB n ks torn b = true) : risB 0 (n : Int) ks = true ∧ torn ∉ ks ∧ b.toNat ≤ 16 := by
  simp only [outOkB, Bool.and_eq_true] at h
  obtain ⟨hr, h⟩ := h
  have hin := risB_in hr
  by_cases ht : torn = -1
  · subst ht
    rw [if_pos rfl] at h
    have hb : b = 0 := by simpa using h
    exact ⟨hr, fun hm => by have := hin _ hm; omega, by rw [hb]; simp⟩
  · rw [if_neg ht] at h
    simp at h
    exact ⟨hr, h.2.2.1, by omega⟩
end Go.Proofs.YthbjcipdneminaaDoor
