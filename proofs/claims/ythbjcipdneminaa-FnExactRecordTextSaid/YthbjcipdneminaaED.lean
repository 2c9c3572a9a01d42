/-
  GB: The program's chapter 9, first part: the library's contracts, insist, attempt; countOf, GoodDisk.
  GC: The program's chapter 9, second part: countOf, GoodDisk.
  GD: The program's chapter 9, third part: GoodDisk.
  GE: The program's chapter 9, fourth part: slices.Clone, slices.Repeat.
  GF: The program's chapter 9, fifth part: sectorsAfter; what it gives for a sync and for a crash.
  GG: The program's chapter 9, sixth part: NewDisk, latest, SyncDisk, ReadAll, ReadSector.
  GI: The program's chapter 9, seventh part: ReadAll, ReadSector.
  GJ: The program's chapter 9, eighth part: PutSector.
  GK: The program's chapter 9, ninth part: outlasting.
  GL: The program's chapter 9, tenth part: CrashDisk.
-/
import Derived.Test.YthbjcipdneminaaDI
import Derived.Shelf.Strings.OnBuilder
import Derived.Shelf.Strings.Repeat
import Derived.Defers
import Derived.Recover
import Derived.DeepKeys
import Derived.Deep.RegionLaw
import Derived.Laws.CopyOwn
import Derived.Deep.OwnRows
import Derived.StillTailTactics
import Derived.OrdersHeld

/- GB -/
namespace Go.Proofs.Ythbjcipdneminaa
open Go.RowKit Go.Shelf

/-- The program's own panic. -/
abbrev insV : Value := .iface 9 (.string ⟨#[105, 110, 118, 97, 108, 105, 100, 32, 97, 114, 103, 117, 109, 101, 110, 116]⟩)
abbrev Died (e : Ending) : Prop := e = .panicked [{ v := insV, recovered := false }]
set_option maxRecDepth 100000 in
theorem iInsist_yes (w : World) : Calls Try.prog 46 #[.bool true] w fun e w' => e = .returned (.tuple #[]) ∧ w = w' := by
  go_enter Try.func46, Try.ntmps46
  go_wp2
  go_end0
  exact ⟨rfl, rfl⟩
set_option maxRecDepth 100000 in
theorem iInsist_no (w : World) : Calls Try.prog 46 #[.bool false] w fun e w' => Died e ∧ w = w' := by
  go_enter Try.func46, Try.ntmps46
  go_wp2
  exact ⟨rfl, rfl, rfl⟩

set_option maxRecDepth 100000 in
theorem iCatchD_no (p : Addr) (x : Bool) (u : TypeId) (pv : Value) (older : List PanicEntry) (w : World) (hc : w.cell? p = some (.bool x)) (hz : w.frozen? p = false) :
    CallsD Try.prog 53 #[.pointer (some p)] (.panicking ({ v := .iface u pv, recovered := false } :: older)) w fun e u' w' =>
      e = .returned (.tuple #[]) ∧ u' = .panicking ({ v := .iface u pv, recovered := true } :: older) ∧ w' = w.setCell p (.bool false) := by
  refine callsD_of_wpS Try.func53 rfl fun c₀ cs hu => ?_
  apply wpS_region
  simp [wpOpsS, go_sem, recoverD, hu, Try.ntmps53, hc, hz, bodyPostS, results, Try.results53]
set_option maxRecDepth 100000 in
theorem iCatchD_yes (p : Addr) (x : Bool) (w : World) (hc : w.cell? p = some (.bool x)) (hz : w.frozen? p = false) :
    CallsD Try.prog 53 #[.pointer (some p)] .returning w fun e u' w' => e = .returned (.tuple #[]) ∧ u' = .returning ∧ w' = w.setCell p (.bool true) := by
  refine callsD_of_wpS Try.func53 rfl fun c₀ cs hu => ?_
  apply wpS_region
  simp [wpOpsS, go_sem, recoverD, hu, Try.ntmps53, hc, hz, bodyPostS, results, Try.results53]
  cases c₀; simp_all

theorem res_dkb {fn : Func} {p q : Tmp} (h : fn.results = #[.cell p 36, .cell q 4]) {tmps : Array Value} {w : World} (g g2 : Nat) (u v : Value) (b : Bool) (hp : tmps.getD p undef = .pointer (some ⟨g, 0, none⟩)) (hq : tmps.getD q undef = .pointer (some ⟨g2, 0, none⟩))
    (hg : w.heap[g]? = some (.cells #[u, v] 36 (0, 0))) (hg2 : w.heap[g2]? = some (.cells #[.bool b] 4 (0, 0))) : (results fn tmps).run Try.prog w = .ok (.tuple #[diskV u v, .bool b]) w := by
  have hp' : tmps[p]?.getD undef = .pointer (some ⟨g, 0, none⟩) := by simpa using hp
  have hq' : tmps[q]?.getD undef = .pointer (some ⟨g2, 0, none⟩) := by simpa using hq
  have hc : w.cell? ⟨g2, 0, none⟩ = some (.bool b) := cell_of_row _ _ 0 _ _ _ hg2
  have hc0 : w.cell? ⟨g, 0, none⟩ = some u := cell_of_row _ _ 0 _ _ _ hg
  have hc1 : w.cell? ⟨g, 1, none⟩ = some v := cell_of_row _ _ 1 _ _ _ hg
  simp only [results, h]
  simp [hp', hq', asAddr, go_sem, hc, hc0, hc1]
theorem res_stb {fn : Func} {p q : Tmp} (h : fn.results = #[.tmp p, .cell q 4]) {tmps : Array Value} {w : World} (g2 : Nat) (v : Value) (b : Bool) (hp : tmps.getD p undef = v) (hq : tmps.getD q undef = .pointer (some ⟨g2, 0, none⟩))
    (hg2 : w.heap[g2]? = some (.cells #[.bool b] 4 (0, 0))) : (results fn tmps).run Try.prog w = .ok (.tuple #[v, .bool b]) w := by
  have hp' : tmps[p]?.getD undef = v := by simpa using hp
  have hq' : tmps[q]?.getD undef = .pointer (some ⟨g2, 0, none⟩) := by simpa using hq
  have hc : w.cell? ⟨g2, 0, none⟩ = some (.bool b) := cell_of_row _ _ 0 _ _ _ hg2
  simp only [results, h]
  simp [hp', hq', asAddr, go_sem, hc]
set_option maxRecDepth 100000 in
set_option maxHeartbeats 1000000 in
theorem iAttemptD_yes (k : FuncId) (cap : Array Value) (hE : ∀ args w, (callFunc k args).run Try.prog w = .ok (.enter k args) w) (S : List ByteArray) (Q : List (Int × ByteArray)) (w : World)
    (hC : ∀ w1, Below w.heap.size w w1 → Calls Try.prog k cap w1 fun e w' => ∃ v1 v2, e = .returned (diskV v1 v2) ∧ OwnD w' w1.heap.size v1 v2 S Q ∧ Below w1.heap.size w1 w') :
    Calls Try.prog 44 #[.func (.func k) #[] cap] w fun e w' => ∃ v1 v2, e = .returned (.tuple #[diskV v1 v2, .bool true]) ∧ OwnD w' w.heap.size v1 v2 S Q ∧ Below w.heap.size w w' := by
  have hmf : ∀ (fn : Fn) (first cap : Array Value) (w : World), (Instr.makeFunc fn first cap).run Try.prog w = .ok (.func fn first cap) w := fun _ _ _ _ => rfl
  obtain ⟨W, hW⟩ : ∃ W, (w.alloc (.cells #[.slice none 0 0, .slice none 0 0] 36)).alloc (.cells #[.bool false] 4) = W := ⟨_, rfl⟩
  have hbW : Below w.heap.size w W := by rw [← hW]; exact gAlloc2 _ _ _
  have hsW : W.heap.size = w.heap.size + 2 := by rw [← hW]; simp
  have h1 : W.heap[w.heap.size]? = some (.cells #[.slice none 0 0, .slice none 0 0] 36 (0, 0)) := by rw [← hW]; exact gBox9 _ _ _
  have h2 : W.heap[w.heap.size + 1]? = some (.cells #[.bool false] 4 (0, 0)) := by
    rw [← hW, show w.heap.size + 1 = (w.alloc (.cells #[.slice none 0 0, .slice none 0 0] 36)).heap.size by simp]; exact heap_alloc_new _ _
  have HC := Lib.hid (hC W hbW)
  go_enter_defers Try.func44, Try.ntmps44
  go_wp2_with (go_at_fn k; refine HC.out.mono ?_; rintro e w1 ⟨v1, v2, rfl, ho, hb1⟩; (obtain ⟨A1, c1, rfl, -⟩ := ho.sure.form fSt_len); (obtain ⟨A2, c2, rfl, -⟩ := ho.later.form fPu_len); (have k1 := (hb1.block _ (heap_lt h1)).trans h1); (have k2 := (hb1.block _ (heap_lt h2)).trans h2); (have x0 := cell_of_row _ _ 0 _ _ _ k1); (have x1 := cell_of_row _ _ 1 _ _ _ k1); (have x2 := cell_of_row _ _ 0 _ _ _ k2); (have z0 := frozen_of_row _ _ 0 _ _ k1); (have z1 := frozen_of_row _ _ 1 _ _ k1); (have z2 := frozen_of_row _ _ 0 _ _ k2); (have HO := Lib.hid ho); (have HB1 := Lib.hid hb1); (have K1 := Lib.hid k1); (have K2 := Lib.hid k2); clear ho hb1 k1 k2)
  clear x0 x1 x2 z0 z1 z2
  have hx1 : ∀ g j, w.heap.size + 2 ≤ g → (⟨w.heap.size + j, 0, none⟩ : Addr).block = g → j < 2 → False := fun g j h1 h2 h3 => by simp at h2; omega
  have e1 : ((w1.setCell ⟨w.heap.size, 0, none⟩ (.slice A1 S.length c1)).setCell ⟨w.heap.size, 1, none⟩ (.slice A2 Q.length c2)).heap[w.heap.size]? = some (.cells #[.slice A1 S.length c1, .slice A2 Q.length c2] 36 (0, 0)) := heap_setCell_same _ _ 1 _ _ _ (heap_setCell_same _ _ 0 _ _ _ K1.out)
  have e2 : ((w1.setCell ⟨w.heap.size, 0, none⟩ (.slice A1 S.length c1)).setCell ⟨w.heap.size, 1, none⟩ (.slice A2 Q.length c2)).heap[w.heap.size + 1]? = some (.cells #[.bool false] 4 (0, 0)) := (heap_setCell_other _ ⟨w.heap.size, 1, none⟩ _ _ (by simp)).trans ((heap_setCell_other _ ⟨w.heap.size, 0, none⟩ _ _ (by simp)).trans K2.out)
  have hn1 : ∀ g, (Value.slice A1 S.length c1).ownBlock = some g → W.heap.size ≤ g := fun g hg => (HO.out.sure.lt g hg).1
  have hn2 : ∀ g, (Value.slice A2 Q.length c2).ownBlock = some g → W.heap.size ≤ g := fun g hg => (HO.out.later.lt g hg).1
  have ho2 := (HO.out.set9 (Y := w.heap.size) (fun g hg => by have := hn1 g hg; omega) (fun g hg => by have := hn2 g hg; omega) 0 (.slice A1 S.length c1)).set9 (Y := w.heap.size) (fun g hg => by have := hn1 g hg; omega) (fun g hg => by have := hn2 g hg; omega) 1 (.slice A2 Q.length c2)
  have hb2 : Below w.heap.size w ((w1.setCell ⟨w.heap.size, 0, none⟩ (.slice A1 S.length c1)).setCell ⟨w.heap.size, 1, none⟩ (.slice A2 Q.length c2)) := ((hbW.trans (HB1.out.mono (by omega))).setCell (Nat.le_refl _) _).setCell (Nat.le_refl _) _
  generalize (w1.setCell ⟨w.heap.size, 0, none⟩ (.slice A1 S.length c1)).setCell ⟨w.heap.size, 1, none⟩ (.slice A2 Q.length c2) = w2 at *
  have e3 : (w2.setCell ⟨w.heap.size + 1, 0, none⟩ (.bool true)).heap[w.heap.size]? = some (.cells #[.slice A1 S.length c1, .slice A2 Q.length c2] 36 (0, 0)) := (heap_setCell_other _ ⟨w.heap.size + 1, 0, none⟩ _ _ (by simp)).trans e1
  have e4 : (w2.setCell ⟨w.heap.size + 1, 0, none⟩ (.bool true)).heap[w.heap.size + 1]? = some (.cells #[.bool true] 4 (0, 0)) := heap_setCell_same _ _ 0 _ _ _ e2
  have ho3 := ho2.set9 (Y := w.heap.size + 1) (fun g hg => by have := hn1 g hg; omega) (fun g hg => by have := hn2 g hg; omega) 0 (.bool true)
  have hb3 : Below w.heap.size w (w2.setCell ⟨w.heap.size + 1, 0, none⟩ (.bool true)) := hb2.setCell (by show w.heap.size ≤ w.heap.size + 1; omega) _
  generalize w2.setCell ⟨w.heap.size + 1, 0, none⟩ (.bool true) = w3 at *
  refine leaves_cons (f := 53) (args := #[.pointer (some ⟨w.heap.size + 1, 0, none⟩)]) (by simp) (by simp [go_sem]) ?_
  refine (iCatchD_yes _ true w3 (cell_of_row _ _ 0 _ _ _ e4) (frozen_of_row _ _ 0 _ _ e4)).mono ?_
  rintro e u' w'' ⟨rfl, rfl, rfl⟩
  refine ⟨_, res_dkb rfl w.heap.size (w.heap.size + 1) _ _ true rfl rfl ((heap_setCell_other _ ⟨w.heap.size + 1, 0, none⟩ _ _ (by simp)).trans e3) (heap_setCell_same _ _ 0 _ _ _ e4), _, _, rfl, ?_, hb3.setCell (by show w.heap.size ≤ w.heap.size + 1; omega) _⟩
  exact (ho3.set9 (Y := w.heap.size + 1) (fun g hg => by have := hn1 g hg; omega) (fun g hg => by have := hn2 g hg; omega) 0 (.bool true)).lower (by omega)
set_option maxRecDepth 100000 in
set_option maxHeartbeats 1000000 in
theorem iAttemptD_no (k : FuncId) (cap : Array Value) (hE : ∀ args w, (callFunc k args).run Try.prog w = .ok (.enter k args) w) (w : World)
    (hC : ∀ w1, Below w.heap.size w w1 → Calls Try.prog k cap w1 fun e w' => Died e ∧ Below w1.heap.size w1 w') :
    Calls Try.prog 44 #[.func (.func k) #[] cap] w fun e w' => ∃ v1 v2, e = .returned (.tuple #[diskV v1 v2, .bool false]) ∧ OwnD w' w.heap.size v1 v2 [] [] ∧ Below w.heap.size w w' := by
  have hmf : ∀ (fn : Fn) (first cap : Array Value) (w : World), (Instr.makeFunc fn first cap).run Try.prog w = .ok (.func fn first cap) w := fun _ _ _ _ => rfl
  obtain ⟨W, hW⟩ : ∃ W, (w.alloc (.cells #[.slice none 0 0, .slice none 0 0] 36)).alloc (.cells #[.bool false] 4) = W := ⟨_, rfl⟩
  have hbW : Below w.heap.size w W := by rw [← hW]; exact gAlloc2 _ _ _
  have hsW : W.heap.size = w.heap.size + 2 := by rw [← hW]; simp
  have h1 : W.heap[w.heap.size]? = some (.cells #[.slice none 0 0, .slice none 0 0] 36 (0, 0)) := by rw [← hW]; exact gBox9 _ _ _
  have h2 : W.heap[w.heap.size + 1]? = some (.cells #[.bool false] 4 (0, 0)) := by
    rw [← hW, show w.heap.size + 1 = (w.alloc (.cells #[.slice none 0 0, .slice none 0 0] 36)).heap.size by simp]; exact heap_alloc_new _ _
  have HC := Lib.hid (hC W hbW)
  go_enter_defers Try.func44, Try.ntmps44
  go_wp2_with (go_at_fn k; refine HC.out.mono ?_; rintro e w1 ⟨rfl, hb1⟩)
  have k1 := (hb1.block _ (heap_lt h1)).trans h1
  have k2 := (hb1.block _ (heap_lt h2)).trans h2
  refine leaves_cons (f := 53) (args := #[.pointer (some ⟨w.heap.size + 1, 0, none⟩)]) (by simp) (by simp [go_sem]) ?_
  refine (iCatchD_no _ false 9 _ [] w1 (cell_of_row _ _ 0 _ _ _ k2) (frozen_of_row _ _ 0 _ _ k2)).mono ?_
  rintro e u' w'' ⟨rfl, rfl, rfl⟩
  refine ⟨_, res_dkb rfl w.heap.size (w.heap.size + 1) _ _ false rfl rfl ((heap_setCell_other _ ⟨w.heap.size + 1, 0, none⟩ _ _ (by simp)).trans k1) (heap_setCell_same _ _ 0 _ _ _ k2), _, _, rfl, OwnD.nil _ _, (hbW.trans (hb1.mono (by omega))).setCell (by show w.heap.size ≤ w.heap.size + 1; omega) _⟩
end Go.Proofs.Ythbjcipdneminaa

/- GC -/
namespace Go.Proofs.Ythbjcipdneminaa
open Go.RowKit

theorem filter_snoc9 {α : Type} {p : α → Bool} {l : List α} {t : Nat} (h : t < l.length) : ((l.take (t + 1)).filter p).length = ((l.take t).filter p).length + (if p l[t] = true then 1 else 0) := by
  rw [List.take_succ_eq_append_getElem h, List.filter_append, List.length_append]
  cases e : p l[t] <;> simp [e]
theorem filter_all9 {α : Type} {p : α → Bool} {l : List α} : ((((l.filter p).length : Nat) : Int) == ((l.length : Nat) : Int)) = l.all p := by
  rw [Bool.eq_iff_iff, beq_iff_eq, List.all_eq_true]
  constructor
  · intro h
    exact (List.length_filter_eq_length_iff.1 (by omega))
  · intro h
    have := List.length_filter_eq_length_iff.2 h
    omega
set_option maxRecDepth 100000 in
theorem iSector9 (s : ByteArray) (w : World) : Calls Try.prog 55 #[.string s] w fun e w' => e = .returned (.bool (stB9 s)) ∧ w = w' := by
  have HE : Hid (((s.size : Int) == 16) = stB9 s) := by
    show _ = _
    rw [stB9, Bool.eq_iff_iff, beq_iff_eq, decide_eq_true_eq]; omega
  go_enter Try.func55, Try.ntmps55
  go_wp2_with fail
  go_ret
  exact ⟨ret_bool' HE.out, rfl⟩
set_option maxRecDepth 100000 in
theorem iAt9 (n : Int) (w : World) : Calls Try.prog 57 #[.int .i64 n] w fun e w' => e = .returned (.bool (inB n 0 11)) ∧ w = w' := by
  by_cases h0 : (0 : Int) ≤ n
  · have HE : Hid (decide (n < 12) = inB n 0 11) := by
      show _ = _
      rw [inB, Bool.eq_iff_iff]; simp; omega
    go_enter Try.func57, Try.ntmps57
    go_wp2_with fail
    go_ret
    exact ⟨ret_bool' HE.out, rfl⟩
  · have HE : Hid (inB n 0 11 = false) := inB_false (by omega)
    go_enter Try.func57, Try.ntmps57
    go_wp2_with fail
    go_ret
    exact ⟨ret_bool' HE.out.symm, rfl⟩
set_option maxRecDepth 100000 in
set_option maxHeartbeats 1000000 in
theorem iPut9 (x : Int) (s : ByteArray) (w : World) : Calls Try.prog 48 #[putV x s] w fun e w' => e = .returned (.bool (puB9 (x, s))) ∧ Below w.heap.size w w' := by
  have hW := gAlloc w (.cells #[.int .i64 x, .string s] 67)
  have hx0 : (w.alloc (.cells #[.int .i64 x, .string s] 67)).cell? ⟨w.heap.size, 0, none⟩ = some (.int .i64 x) := cell_of_row _ _ 0 _ _ _ (heap_alloc_new _ _)
  have hx1 : (w.alloc (.cells #[.int .i64 x, .string s] 67)).cell? ⟨w.heap.size, 1, none⟩ = some (.string s) := cell_of_row _ _ 1 _ _ _ (heap_alloc_new _ _)
  have HB := Lib.hid hW
  have HAt := Lib.hid (fun w => iAt9 x w)
  have HE : Hid (puB9 (x, s) = (inB x 0 11 && stB9 s)) := rfl
  clear hW
  cases hi : inB x 0 11
  · rw [hi] at HAt HE
    clear hi
    go_enter Try.func48, Try.ntmps48
    go_wp2_with (go_at_call 57; refine (HAt.out _).mono ?_; rintro e w' ⟨rfl, rfl⟩)
    go_ret
    exact ⟨ret_bool' HE.out.symm, HB.out⟩
  · rw [hi] at HAt HE
    clear hi
    have HSt := Lib.hid (fun w => iSector9 s w)
    generalize stB9 s = b at *
    go_enter Try.func48, Try.ntmps48
    go_wp2_with (first
      | (go_at_call 57; refine (HAt.out _).mono ?_; rintro e w' ⟨rfl, rfl⟩)
      | (go_at_call 55; refine (HSt.out _).mono ?_; rintro e w' ⟨rfl, rfl⟩))
    go_ret
    exact ⟨ret_bool' HE.out.symm, HB.out⟩

set_option maxRecDepth 100000 in
set_option maxHeartbeats 2000000 in
theorem iCountSt (A : Option Addr) (ss : List ByteArray) (ca : Nat) (w : World) (ha : Strs w A ss) (hl : ss.length ≤ 1048576) :
    Calls Try.prog 54 #[.slice A ss.length ca, .func (.func 55) #[] #[]] w fun e w' => e = .returned (.int .i64 ((ss.filter stB9).length : Nat)) ∧ w = w' := by
  have HA := Lib.hid ha
  clear ha
  go_enter Try.func54, Try.ntmps54
  go_wp2_with fail
  go_loopg [5, 10] ss.length (fun gk s i wr => ∃ t : Nat, t + gk = ss.length ∧ i = .int .i64 t ∧ s = .int .i64 (((ss.take t).filter stB9).length : Nat) ∧ w = wr)
  case atStart => exact ⟨0, by omega, rfl, rfl, rfl⟩
  case round =>
    obtain ⟨t, hg, rfl, rfl, rfl⟩ := hrel
    by_cases hlt : t < ss.length
    · have hti : (t : Int) < (ss.length : Int) := by omega
      obtain ⟨b1, o1, rfl, hz⟩ := strs_at HA.out hlt
      have HS := Lib.hid (filter_snoc9 (p := stB9) hlt)
      have hal : ((ss.take t).filter stB9).length ≤ 1048576 := Nat.le_trans (List.length_filter_le _ _) (by rw [List.length_take]; omega)
      have HGK : Hid (ss.length - t - 1 < gk ∧ t + 1 + (ss.length - t - 1) = ss.length) := by show _ ∧ _; omega
      clear hg
      generalize ss[t] = z at *
      generalize ((ss.take t).filter stB9).length = s at *
      cases he : stB9 z
      · have HS2 : Hid (((ss.take (t + 1)).filter stB9).length = s) := by show _ = _; rw [HS.out, if_neg (by rw [he]; decide)]; rfl
        have HC := Lib.hid (iSector9 z w)
        rw [he] at HC
        clear he HS
        go_wp2_with (go_at_call 55; refine HC.out.mono ?_; rintro e w' ⟨rfl, rfl⟩)
        go_roundg (ss.length - t - 1)
        case measure => exact HGK.out.1
        case rel => exact ⟨t + 1, HGK.out.2, by go_num, by rw [HS2.out], rfl⟩
      · have HS2 : Hid (((ss.take (t + 1)).filter stB9).length = s + 1) := by show _ = _; rw [HS.out, if_pos he]
        have HC := Lib.hid (iSector9 z w)
        rw [he] at HC
        clear he HS
        go_wp2_with (go_at_call 55; refine HC.out.mono ?_; rintro e w' ⟨rfl, rfl⟩)
        go_roundg (ss.length - t - 1)
        case measure => exact HGK.out.1
        case rel => exact ⟨t + 1, HGK.out.2, by go_num, by rw [HS2.out]; go_num, rfl⟩
    · obtain rfl : t = ss.length := by omega
      rw [List.take_length]
      have hti : ¬ (ss.length : Int) < (ss.length : Int) := by omega
      clear hg
      go_wp2_with fail
      go_ret
      exact ⟨rfl, rfl⟩
set_option maxRecDepth 100000 in
set_option maxHeartbeats 2000000 in
theorem iCountPu (A : Option Addr) (ps : List (Int × ByteArray)) (ca : Nat) (w : World) (ha : Puts w A ps) (hl : ps.length ≤ 1048576) :
    Calls Try.prog 56 #[.slice A ps.length ca, .func (.func 48) #[] #[]] w fun e w' => e = .returned (.int .i64 ((ps.filter puB9).length : Nat)) ∧ Below w.heap.size w w' := by
  have HA := Lib.hid ha
  clear ha
  go_enter Try.func56, Try.ntmps56
  go_wp2_with fail
  go_loopg [5, 10] ps.length (fun gk s i wr => ∃ t : Nat, t + gk = ps.length ∧ i = .int .i64 t ∧ s = .int .i64 (((ps.take t).filter puB9).length : Nat) ∧ Below w.heap.size w wr)
  case atStart => exact ⟨0, by omega, rfl, rfl, Below.refl _ _⟩
  case round =>
    obtain ⟨t, hg, rfl, rfl, hbel⟩ := hrel
    have HBl := Lib.hid hbel
    clear hbel
    by_cases hlt : t < ps.length
    · have hti : (t : Int) < (ps.length : Int) := by omega
      obtain ⟨b1, o1, rfl, p1, p2⟩ := puts_at (HA.out.below HBl.out) hlt
      have HS := Lib.hid (filter_snoc9 (p := puB9) hlt)
      have hal : ((ps.take t).filter puB9).length ≤ 1048576 := Nat.le_trans (List.length_filter_le _ _) (by rw [List.length_take]; omega)
      have HGK : Hid (ps.length - t - 1 < gk ∧ t + 1 + (ps.length - t - 1) = ps.length) := by show _ ∧ _; omega
      clear hg
      generalize ps[t] = z at *
      obtain ⟨z1, z2⟩ := z
      generalize ((ps.take t).filter puB9).length = s at *
      have hW := gAlloc wr (.cells #[.int .i64 z1, .string z2] 67)
      have HBw := Lib.hid (below_more HBl.out hW)
      have hx0 : (wr.alloc (.cells #[.int .i64 z1, .string z2] 67)).cell? ⟨wr.heap.size, 0, none⟩ = some (.int .i64 z1) := cell_of_row _ _ 0 _ _ _ (heap_alloc_new _ _)
      have hx1 : (wr.alloc (.cells #[.int .i64 z1, .string z2] 67)).cell? ⟨wr.heap.size, 1, none⟩ = some (.string z2) := cell_of_row _ _ 1 _ _ _ (heap_alloc_new _ _)
      have HC := Lib.hid (iPut9 z1 z2 (wr.alloc (.cells #[.int .i64 z1, .string z2] 67)))
      clear hW
      cases he : puB9 (z1, z2)
      · have HS2 : Hid (((ps.take (t + 1)).filter puB9).length = s) := by show _ = _; rw [HS.out, if_neg (by rw [he]; decide)]; rfl
        rw [he] at HC
        clear he HS
        go_wp2_with (go_at_call 48; refine HC.out.mono ?_; rintro e w2 ⟨rfl, hb2⟩)
        have HB2 := Lib.hid (below_more HBw.out hb2)
        go_roundg (ps.length - t - 1)
        case measure => exact HGK.out.1
        case rel => exact ⟨t + 1, HGK.out.2, by go_num, by rw [HS2.out], HB2.out⟩
      · have HS2 : Hid (((ps.take (t + 1)).filter puB9).length = s + 1) := by show _ = _; rw [HS.out, if_pos he]
        rw [he] at HC
        clear he HS
        go_wp2_with (go_at_call 48; refine HC.out.mono ?_; rintro e w2 ⟨rfl, hb2⟩)
        have HB2 := Lib.hid (below_more HBw.out hb2)
        go_roundg (ps.length - t - 1)
        case measure => exact HGK.out.1
        case rel => exact ⟨t + 1, HGK.out.2, by go_num, by rw [HS2.out]; go_num, HB2.out⟩
    · obtain rfl : t = ps.length := by omega
      rw [List.take_length]
      have hti : ¬ (ps.length : Int) < (ps.length : Int) := by omega
      clear hg
      go_wp2_with fail
      go_ret
      exact ⟨rfl, HBl.out⟩
end Go.Proofs.Ythbjcipdneminaa

/- GD -/
namespace Go.Proofs.Ythbjcipdneminaa
open Go.RowKit

theorem quiet9 {P : Program} {f : FuncId} {args : Array Value} {w : World} {n : Nat} {v : Value} (h : Calls P f args (w.drewN n) fun e w' => e = .returned v ∧ w.drewN n = w') : Calls P f args (w.drewN n) fun e w'' => e = .returned v ∧ ∃ m, w'' = w.drewN m :=
  h.mono fun _ _ ⟨he, hw⟩ => ⟨he, n, hw.symm⟩
set_option maxRecDepth 100000 in
set_option maxHeartbeats 4000000 in
theorem iGoodD_any (A B : Option Addr) (ss : List ByteArray) (ps : List (Int × ByteArray)) (ca cb : Nat) (w : World) (hd : DiskIn w A B ss ps) :
    Calls Try.prog 47 #[diskV (.slice A ss.length ca) (.slice B ps.length cb)] w fun e w' => e = .returned (.bool (goodDB ss ps)) ∧ Below w.heap.size w w' := by
  have hW := gAlloc w (.cells #[.slice A ss.length ca, .slice B ps.length cb] 36)
  have HD := Lib.hid (hd.below hW)
  have HB := Lib.hid hW
  have hx0 : (w.alloc (.cells #[.slice A ss.length ca, .slice B ps.length cb] 36)).cell? ⟨w.heap.size, 0, none⟩ = some (.slice A ss.length ca) := cell_of_row _ _ 0 _ _ _ (heap_alloc_new _ _)
  have hx1 : (w.alloc (.cells #[.slice A ss.length ca, .slice B ps.length cb] 36)).cell? ⟨w.heap.size, 1, none⟩ = some (.slice B ps.length cb) := cell_of_row _ _ 1 _ _ _ (heap_alloc_new _ _)
  have hsX : w.heap.size < (w.alloc (.cells #[.slice A ss.length ca, .slice B ps.length cb] 36)).heap.size := by simp
  have hl1 := hd.len
  have hl2 := hd.len2
  clear hd hW
  generalize hWW : w.alloc (.cells #[.slice A ss.length ca, .slice B ps.length cb] 36) = W at *
  have HC1 := Lib.hid (fun w' (h : Below W.heap.size W w') => iCountSt A ss ca w' (HD.out.sure.below h) hl1)
  have HC2 := Lib.hid (fun w' (h : Below W.heap.size W w') => iCountPu B ps cb w' (HD.out.later.below h) hl2)
  have HN : Hid (∀ n, Below w.heap.size w (W.drewN n)) := fun n => below_more HB.out (gDrewN n)
  by_cases h12 : ss.length = 12
  · have h12i : ((ss.length : Int) == 12) = true := by rw [h12]; rfl
    have HF1 := Lib.hid (filter_all9 (p := stB9) (l := ss))
    have HF2 := Lib.hid (filter_all9 (p := puB9) (l := ps))
    have HE : Hid (goodDB ss ps = (ss.all stB9 && (ps.all puB9 && decide (ps.length ≤ 40)))) := by show _ = _; rw [goodDB, h12]; simp
    clear h12
    generalize ((ss.filter stB9).length) = n1 at *
    generalize ((ps.filter puB9).length) = n2 at *
    cases hb : ss.all stB9
    · rw [hb] at HF1 HE
      have hF1 := HF1.out
      clear hb HF1
      go_enter Try.func47, Try.ntmps47
      go_wp2_with fail
      go_quiet (first
        | (go_at_call 54; exact quiet9 (HC1.out _ (gDrewN _))))
      go_wp2_with fail
      go_ret
      exact ⟨ret_bool' HE.out.symm, HN.out _⟩
    · rw [hb] at HF1 HE
      have hF1 := HF1.out
      clear hb HF1
      by_cases h40 : (ps.length : Int) ≤ 40
      · have HE2 : Hid (goodDB ss ps = ps.all puB9) := by
          show _ = _; rw [HE.out, show decide (ps.length ≤ 40) = true by simp; omega]; simp
        clear HE
        go_enter Try.func47, Try.ntmps47
        go_wp2_with fail
        clear hWW
        go_region_held3 (fun w' => w'.cell? ⟨w.heap.size, 0, none⟩ = some (.slice A ss.length ca) ∧ w'.cell? ⟨w.heap.size, 1, none⟩ = some (.slice B ps.length cb)) (first | exact ⟨hx0, hx1⟩ | exact ⟨hy0, hy1⟩ | go_keep) (first
          | (go_at_call 54; refine (HC1.out _ gDrew).mono ?_; rintro e w' ⟨rfl, rfl⟩)
          | (go_at_call 56; refine (HC2.out _ gDrew).mono ?_; rintro e w2 ⟨rfl, hb2⟩; have hy0 := (hb2.cell (World.block_lt_of_cell? _ _ hx0)).trans hx0; have hy1 := (hb2.cell (World.block_lt_of_cell? _ _ hx1)).trans hx1))
        go_wp2_with fail
        go_ret
        exact ⟨ret_bool' (by rw [HE2.out]; exact HF2.out), below_more HB.out (below_more gDrew hb2)⟩
      · have HE2 : Hid (goodDB ss ps = false) := by
          show _ = _; rw [HE.out, show decide (ps.length ≤ 40) = false by simp; omega]; simp
        have hdec : decide ((ps.length : Int) ≤ 40) = false := by simpa using h40
        clear HE
        go_enter Try.func47, Try.ntmps47
        go_wp2_with fail
        go_quiet (first
          | (go_at_call 54; exact quiet9 (HC1.out _ (gDrewN _))))
        go_wp2_with fail
        go_ret
        exact ⟨ret_bool' HE2.out.symm, HN.out _⟩
  · have h12i : ((ss.length : Int) == 12) = false := by simp; omega
    have HE : Hid (goodDB ss ps = false) := by show _ = _; rw [goodDB]; simp [h12]
    clear h12
    go_enter Try.func47, Try.ntmps47
    go_wp2_with fail
    go_quiet (fail)
    go_wp2_with fail
    go_ret
    exact ⟨ret_bool' HE.out.symm, HN.out _⟩
end Go.Proofs.Ythbjcipdneminaa

/- GE -/
namespace Go.Proofs.Ythbjcipdneminaa
open Go.RowKit

theorem splice_rep {α : Type} {x z : α} {n k N : Nat} (h : n + k ≤ N) : splice (List.replicate n x ++ List.replicate (N - n) z) n (List.replicate k x) = List.replicate (n + k) x ++ List.replicate (N - (n + k)) z := by
  unfold splice
  rw [List.take_left' (by simp), List.length_replicate, List.drop_append, List.length_replicate, List.drop_of_length_le (by simp), List.nil_append, List.drop_replicate, ← List.append_assoc, List.replicate_append_replicate]
  congr 2; omega
theorem copy_rep {P : Program} {Ts T : TypeId} {W : World} {X N n k dl dc sl sc : Nat} {x z : Value} {a : Addr} (hu : P.underlying Ts = some (.slice T)) (hs : (P.info? T).map (·.size) = some 1)
    (hg : W.heap[X]? = some (.cells (List.replicate n x ++ List.replicate (N - n) z).toArray T (0, 0))) (h1 : x.oneCell' = true) (hk : k = Nat.min sl dl) (hn : n + k ≤ N) (hsrc : ∀ j, j < k → W.cell? (a.add j) = some x) :
    ∃ W2, (∀ ty, (Builtin.copy_ #[Ts, Ts] ty #[.slice (some ⟨X, n, none⟩) dl dc, .slice (some a) sl sc]).run P W = .ok (.int .i64 (k : Nat)) W2) ∧ W2.heap[X]? = some (.cells (List.replicate (n + k) x ++ List.replicate (N - (n + k)) z).toArray T (0, 0)) ∧ Below X W W2 := by
  have hl : (List.replicate k x).length = k := List.length_replicate
  have hsp := splice_rep (x := x) (z := z) hn
  unfold splice at hsp
  rw [← List.append_assoc, hl] at hsp
  refine ⟨W.setRow X (List.replicate (n + k) x ++ List.replicate (N - (n + k)) z).toArray, fun ty => ?_, setRow_heap W X _ _ T _ hg, below_setRow (Below.refl _ _) (Nat.le_refl _) _⟩
  rw [run_copy_row (P := P) W Ts Ts ty T X n dl dc a sl sc _ T (List.replicate k x) hu hs hg (by rw [hl]; exact hk) (fun j v hj => by
      have hj' := List.getElem?_eq_some_iff.1 hj
      have hjk : j < k := by have := hj'.1; rwa [hl] at this
      rw [← hj'.2, List.getElem_replicate]
      exact hsrc j hjk) (by simp; omega) (fun v hv => by rw [List.eq_of_mem_replicate hv]; exact h1), hl]
  simp only [List.append_assoc] at hsp
  simp only [List.append_assoc, hsp]
  rfl
theorem below_low {B C : Nat} {w w' : World} (h : Below C w w') (hBC : B ≤ C := by exact Nat.le_refl _) : Below B w w' := ⟨h.os, h.tape, h.output, h.size, fun k hk => h.block k (Nat.lt_of_lt_of_le hk hBC)⟩
theorem app_copyPu {ops : Array Oper} {rest : List Oper} {o : Oper} {a : Act} {Q : Exit → Act → World → Prop} (W : World) (L : List (Int × ByteArray)) (A : Option Addr) (ca m : Nat) (hm : L.length = m) (Bn : Nat) (hBn : Bn = W.heap.size) (hgd : o.guard = none) (s x : Operand)
    (ho : o.op = .call { callee := .builtin .append, args := #[s, x], argTypes := #[34, 34] }) (hs : a.eval s = .slice (some ⟨Bn, 0, none⟩) 0 0) (hx : a.eval x = .slice A m ca)
    (hA : Lies9 A ca) (hI : Puts W A L) (hl : L.length ≤ 1000000)
    (h : ∀ v' w', Hid (OwnPu w' W.heap.size v' L ∧ Below W.heap.size W w') → wpList Try.prog ops Q rest (a.put o.dst v') w') :
    wpList Try.prog ops Q (o :: rest) a (W.alloc (.cells #[] 67)) := by
  obtain ⟨i0, hi, hz0, hz1, hz2⟩ := info_parts puInfo
  exact app_copyR fPu_len (by decide) fPu_one Try.underlying34 hi hz0 hz1 hz2 rfl (by decide) W L A ca m hm Bn hBn hgd s x ho hs hx hA hI hl h
theorem infoRepSt : (Try.prog.info? 9).map (fun i => (i.zero, i.size, i.bytes)) = some (some (Value.string ⟨#[]⟩), 1, 16) := by kernel_rfl
theorem rep_ownSt {w : World} {X n : Nat} {y : ByteArray} (h : w.heap[X]? = some (.cells (List.replicate n (Value.string y)).toArray 9 (0, 0))) (hn : n ≤ 1000) : OwnSt w X (.slice (some ⟨X, 0, none⟩) n n) (List.replicate n y) := by
  have h2 : World.ownsRow w X 9 1 (.slice (some ⟨X, 0, none⟩) n n) n (List.replicate n (Value.string y)) :=
    ⟨by simp, Or.inr ⟨X, n, _, rfl, Nat.le_refl _, h, Nat.le_refl _, by unfold maxLen; omega, by simp, by simp⟩⟩
  show World.ownsRow _ _ _ _ _ _ _
  rw [List.length_replicate]
  have e : (List.replicate n y).flatMap fSt = List.replicate n (Value.string y) := by simp [List.flatMap, List.map_replicate]
  rw [e]
  exact h2
theorem infoRepIn : (Try.prog.info? 3).map (fun i => (i.zero, i.size, i.bytes)) = some (some (Value.int .i64 0), 1, 8) := by kernel_rfl
theorem rep_ownIn {w : World} {X n : Nat} {y : Int} (h : w.heap[X]? = some (.cells (List.replicate n (Value.int .i64 y)).toArray 3 (0, 0))) (hn : n ≤ 1000) : Own w X (.slice (some ⟨X, 0, none⟩) n n) (List.replicate n y) := by
  have h2 : World.ownsRow w X 3 1 (.slice (some ⟨X, 0, none⟩) n n) n (List.replicate n (Value.int .i64 y)) :=
    ⟨by simp, Or.inr ⟨X, n, _, rfl, Nat.le_refl _, h, Nat.le_refl _, by unfold maxLen; omega, by simp, by simp⟩⟩
  show World.ownsRow _ _ _ _ _ _ _
  rw [List.length_replicate]
  have e : (List.replicate n y).map (Value.int .i64) = List.replicate n (Value.int .i64 y) := by simp
  rw [e]
  exact h2
theorem eqNilSt (a : Addr) (l c : Nat) (w : World) : (binOp .eql 29 (.slice (some a) l c) (.slice none 0 0)).run Try.prog w = .ok (.bool false) w := by
  simp only [binOp]
  simp [run_equal_slice_nil w 29 9 (some a) l c Try.underlying29]
theorem eqNilNSt (w : World) : (binOp .eql 29 (.slice none 0 0) (.slice none 0 0)).run Try.prog w = .ok (.bool true) w := by
  simp only [binOp]
  simp [run_equal_slice_nil w 29 9 none 0 0 Try.underlying29]
set_option maxRecDepth 100000 in
set_option maxHeartbeats 1000000 in
theorem iCloneSt (A : Option Addr) (L : List ByteArray) (ca : Nat) (w : World) (ha : Strs w A L) (hA : Lies9 A ca) (hl : L.length ≤ 1000000) :
    Calls Try.prog 49 #[.slice A L.length ca] w fun e w' => ∃ v, e = .returned v ∧ OwnSt w' w.heap.size v L ∧ Below w.heap.size w w' := by
  rcases hA with ⟨rfl, rfl⟩ | ⟨g, o, rfl⟩
  · have hB0 : L = [] := by
      cases L with
      | nil => rfl
      | cons x l => obtain ⟨b, o, e, _⟩ := ha (by simp); cases e
    subst hB0
    have hnil := eqNilNSt w
    clear ha
    go_enter Try.func49, Try.ntmps49
    go_wp2_with fail
    go_ret
    exact ⟨_, rfl, OwnR.nil _ _, Below.refl _ _⟩
  · have HL := Lib.hid (show Lies9 (some ⟨g, o, none⟩) ca from Or.inr ⟨g, o, rfl⟩)
    have HA := Lib.hid ha
    have hnil := eqNilSt ⟨g, o, none⟩ L.length ca w
    clear ha
    go_enter Try.func49, Try.ntmps49
    go_wp2_with (at_builtin; refine app_copySt w L (some ⟨g, o, none⟩) ca L.length rfl w.heap.size rfl rfl _ _ rfl rfl rfl HL.out HA.out hl ?_; intro v1 w1 H1; (obtain ⟨A3, c3, rfl, _⟩ := H1.out.1.form fSt_len))
    go_ret
    exact ⟨_, rfl, H1.out.1, H1.out.2⟩

theorem eqNilPu (a : Addr) (l c : Nat) (w : World) : (binOp .eql 34 (.slice (some a) l c) (.slice none 0 0)).run Try.prog w = .ok (.bool false) w := by
  simp only [binOp]
  simp [run_equal_slice_nil w 34 67 (some a) l c Try.underlying34]
theorem eqNilNPu (w : World) : (binOp .eql 34 (.slice none 0 0) (.slice none 0 0)).run Try.prog w = .ok (.bool true) w := by
  simp only [binOp]
  simp [run_equal_slice_nil w 34 67 none 0 0 Try.underlying34]
set_option maxRecDepth 100000 in
set_option maxHeartbeats 1000000 in
theorem iClonePu (A : Option Addr) (L : List (Int × ByteArray)) (ca : Nat) (w : World) (ha : Puts w A L) (hA : Lies9 A ca) (hl : L.length ≤ 1000000) :
    Calls Try.prog 50 #[.slice A L.length ca] w fun e w' => ∃ v, e = .returned v ∧ OwnPu w' w.heap.size v L ∧ Below w.heap.size w w' := by
  rcases hA with ⟨rfl, rfl⟩ | ⟨g, o, rfl⟩
  · have hB0 : L = [] := by
      cases L with
      | nil => rfl
      | cons x l => obtain ⟨b, o, e, _⟩ := ha (by simp); cases e
    subst hB0
    have hnil := eqNilNPu w
    clear ha
    go_enter Try.func50, Try.ntmps50
    go_wp2_with fail
    go_ret
    exact ⟨_, rfl, OwnR.nil _ _, Below.refl _ _⟩
  · have HL := Lib.hid (show Lies9 (some ⟨g, o, none⟩) ca from Or.inr ⟨g, o, rfl⟩)
    have HA := Lib.hid ha
    have hnil := eqNilPu ⟨g, o, none⟩ L.length ca w
    clear ha
    go_enter Try.func50, Try.ntmps50
    go_wp2_with (at_builtin; refine app_copyPu w L (some ⟨g, o, none⟩) ca L.length rfl w.heap.size rfl rfl _ _ rfl rfl rfl HL.out HA.out hl ?_; intro v1 w1 H1; (obtain ⟨A3, c3, rfl, _⟩ := H1.out.1.form fPu_len))
    go_ret
    exact ⟨_, rfl, H1.out.1, H1.out.2⟩
end Go.Proofs.Ythbjcipdneminaa

/- GF -/
namespace Go.Proofs.Ythbjcipdneminaa
open Go.RowKit

/-- One unsynced write reaches its sector with r bytes. -/
def saStep (s : List ByteArray) (p : Int × ByteArray) (r : Nat) : List ByteArray := s.set p.1.toNat (tornT r s p)
def saL (R : List Nat) (ss : List ByteArray) (ps : List (Int × ByteArray)) : Nat → List ByteArray
  | 0 => ss
  | k + 1 => saStep (saL R ss ps k) (ps.getD k (0, ⟨#[]⟩)) (R.getD k 0)
theorem ext_all {y : ByteArray} (h : y.size = 16) : y.extract 0 16 = y := by rw [← h]; exact ByteArray.extract_zero_size
theorem ext_none (y : ByteArray) (a : Nat) : y.extract a a = ⟨#[]⟩ := by
  have h : (y.extract a a).size = 0 := by rw [ByteArray.size_extract]; omega
  exact ByteArray.size_eq_zero_iff.1 h
theorem app_none (y : ByteArray) : y ++ (⟨#[]⟩ : ByteArray) = y := ByteArray.append_empty
theorem none_app (y : ByteArray) : (⟨#[]⟩ : ByteArray) ++ y = y := ByteArray.empty_append
theorem ext_out {y : ByteArray} (_ : y.size = 16) : y.extract 16 16 = ⟨#[]⟩ := ext_none y 16
theorem saStep_all {s : List ByteArray} {p : Int × ByteArray} (hs : Good16 s) (hp : p.2.size = 16) (hq : p.1.toNat < 12) : saStep s p 16 = s.set p.1.toNat p.2 := by
  rw [saStep, tornT, ext_all hp, ext_out (hs.at hq), app_none]
theorem saStep_none {s : List ByteArray} {p : Int × ByteArray} (hs : Good16 s) (hq : p.1.toNat < 12) : saStep s p 0 = s := by
  have hq' : p.1.toNat < s.length := by rw [hs.1]; exact hq
  rw [saStep, tornT, ext_none, ext_all (hs.at hq), none_app, show s.getD p.1.toNat ⟨#[]⟩ = s[p.1.toNat] by simp [List.getD, hq'], List.set_getElem_self]
theorem Good16.sa {s : List ByteArray} (hs : Good16 s) {p : Int × ByteArray} (hp : p.2.size = 16) (hq : p.1.toNat < 12) {r : Nat} (hr : r ≤ 16) : Good16 (saStep s p r) := hs.set (torn_size hs hp hq hr)
theorem good_at9 {ss : List ByteArray} {ps : List (Int × ByteArray)} (h : goodDB ss ps = true) {k : Nat} (hk : k < ps.length) : (ps.getD k (0, ⟨#[]⟩)).2.size = 16 ∧ (ps.getD k (0, ⟨#[]⟩)).1.toNat < 12 := by
  obtain ⟨_, _, _, h4⟩ := good_len h
  rw [show ps.getD k (0, ⟨#[]⟩) = ps[k] by simp [List.getD, hk]]
  have := h4 _ (List.getElem_mem hk)
  exact ⟨this.2, by omega⟩
theorem saL_good {R : List Nat} {ss : List ByteArray} {ps : List (Int × ByteArray)} (h : goodDB ss ps = true) (hR : ∀ r ∈ R, r ≤ 16) : ∀ k, k ≤ ps.length → Good16 (saL R ss ps k)
  | 0, _ => ⟨(good_len h).1, (good_len h).2.2.1⟩
  | k + 1, hk => (saL_good h hR k (by omega)).sa (good_at9 h hk).1 (good_at9 h hk).2 (by
      by_cases hkR : k < R.length
      · rw [show R.getD k 0 = R[k] by simp [List.getD, hkR]]; exact hR _ (List.getElem_mem hkR)
      · rw [show R.getD k 0 = 0 by simp [List.getD]; rw [List.getElem?_eq_none (by omega)]; rfl]; omega)
/-- With all bytes of all writes: what a sync leaves. -/
theorem saL_sync {ss : List ByteArray} {ps : List (Int × ByteArray)} (h : goodDB ss ps = true) : ∀ k, k ≤ ps.length → saL (List.replicate ps.length 16) ss ps k = syncL ss (ps.take k)
  | 0, _ => rfl
  | k + 1, hk => by
    have hg := saL_good (R := List.replicate ps.length 16) h (fun r hr => by rw [List.eq_of_mem_replicate hr]; omega) k (by omega)
    rw [saL, show (List.replicate ps.length 16).getD k 0 = 16 by simp [List.getD, show k < ps.length by omega], saStep_all hg (good_at9 h hk).1 (good_at9 h hk).2, saL_sync h k (by omega), syncL_snoc ss hk, show ps.getD k (0, ⟨#[]⟩) = ps[k] by simp [List.getD, show k < ps.length by omega]]
/-- How many bytes of write k outlast a crash. -/
def reachN (ks : List Int) (torn : Int) (b k : Nat) : Nat := if (k : Int) = torn then b else if (k : Int) ∈ ks then 16 else 0
theorem saL_crash {ss : List ByteArray} {ps : List (Int × ByteArray)} {ks : List Int} {torn : Int} {b : Nat} {R : List Nat} (h : goodDB ss ps = true) (hb : b ≤ 16) (ht : torn ∉ ks) (hR : ∀ k, k < ps.length → R.getD k 0 = reachN ks torn b k) (hR16 : ∀ r ∈ R, r ≤ 16) : ∀ k, k ≤ ps.length → saL R ss ps k = crL ks torn b ss ps k
  | 0, _ => rfl
  | k + 1, hk => by
    have hg := saL_good (R := R) h hR16 k (by omega)
    have ih := saL_crash h hb ht hR hR16 k (by omega)
    obtain ⟨hp, hq⟩ := good_at9 h hk
    rw [saL, crL, hR k (by omega), ← ih]
    generalize ps.getD k (0, ⟨#[]⟩) = p at *
    generalize saL R ss ps k = s at *
    unfold crStep reachN
    by_cases e : (k : Int) = torn
    · have hn : ¬ (k : Int) ∈ ks := by rw [e]; exact ht
      rw [if_pos e, if_pos e, keepS, if_neg hn]; rfl
    · rw [if_neg e, if_neg e, keepS]
      by_cases e2 : (k : Int) ∈ ks
      · rw [if_pos e2, if_pos e2, saStep_all hg hp hq]
      · rw [if_neg e2, if_neg e2, saStep_none hg hq]

theorem ints_nat9 {w : World} {C : Option Addr} {R : List Nat} (h : Ints w C (zI R)) {j : Nat} (hj : j < R.length) : ∃ b o, C = some ⟨b, o, none⟩ ∧ w.cell? ⟨b, o + j, none⟩ = some (.int .i64 ((R.getD j 0 : Nat) : Int)) := by
  obtain ⟨b, o, e, hc⟩ := h (by intro e; have := congrArg List.length e; rw [zI_length, List.length_nil] at this; omega)
  refine ⟨b, o, e, ?_⟩
  rw [hc j (by rw [zI_length]; exact hj), zI_getD]
end Go.Proofs.Ythbjcipdneminaa

/- GG -/
namespace Go.Proofs.Ythbjcipdneminaa
open Go.RowKit

theorem zero16_eq : (⟨(Lib.repeatL (⟨#[0]⟩ : ByteArray).data.toList 16).toArray⟩ : ByteArray) = zero16 := by decide
/-- A disk of the call's own is laid into a box. -/
theorem dk_stored {w w2 : World} {X base : Nat} {v1 v2 a1 a2 : Value} {S : List ByteArray} {Q : List (Int × ByteArray)} (k : w2.heap[X]? = some (.cells #[a1, a2] 36 (0, 0))) (ho : OwnD w2 base v1 v2 S Q) (hX : X < base) {n : Nat} (hb : Below n w w2) (hn : n ≤ X) :
    ((w2.setCell ⟨X, 0, none⟩ v1).setCell ⟨X, 1, none⟩ v2).heap[X]? = some (.cells #[v1, v2] 36 (0, 0)) ∧ OwnD ((w2.setCell ⟨X, 0, none⟩ v1).setCell ⟨X, 1, none⟩ v2) base v1 v2 S Q ∧ Below n w ((w2.setCell ⟨X, 0, none⟩ v1).setCell ⟨X, 1, none⟩ v2) := by
  have hn1 : ∀ g, v1.ownBlock = some g → g ≠ X := fun g hg => by have := (ho.sure.lt g hg).1; omega
  have hn2 : ∀ g, v2.ownBlock = some g → g ≠ X := fun g hg => by have := (ho.later.lt g hg).1; omega
  exact ⟨heap_setCell_same _ _ 1 _ _ _ (heap_setCell_same _ _ 0 _ _ _ k), (ho.set9 hn1 hn2 0 v1).set9 hn1 hn2 1 v2, (hb.setCell hn _).setCell hn _⟩
theorem OwnD.sure_only {w : World} {base : Nat} {v1 : Value} {S : List ByteArray} (h : OwnSt w base v1 S) : OwnD w base v1 (.slice none 0 0) S [] := ⟨h, OwnR.nil _ _, by cases v1.ownBlock <;> simp [Value.ownBlock]⟩
theorem hE_of {f : FuncId} {fn : Func} {c : Code} (hf : Try.prog.funcs[f]? = some fn) (hname : (fn.name == "runtime.NumGoroutine") = false) (hb : fn.body = some c) : ∀ args w, (callFunc f args).run Try.prog w = .ok (.enter f args) w := enters_of hf hname hb
theorem fn_done {P : Program} {f : FuncId} {args : Array Value} {w : World} {R R' : Ending → World → Prop} (h : Calls P f args w R) (hk : ∀ e w', R e w' → R' e w') : Calls P f args w R' := h.mono hk
/-- A boxed disk. -/
structure BoxD (w : World) (g : Nat) (A B : Option Addr) (ss : List ByteArray) (ps : List (Int × ByteArray)) (ca cb : Nat) : Prop where
  box : w.heap[g]? = some (.cells #[.slice A ss.length ca, .slice B ps.length cb] 36 (0, 0))
  disk : DiskIn w A B ss ps
theorem BoxD.below {w w' : World} {g : Nat} {A B : Option Addr} {ss : List ByteArray} {ps : List (Int × ByteArray)} {ca cb : Nat} (h : BoxD w g A B ss ps ca cb) (hb : Below w.heap.size w w') : BoxD w' g A B ss ps ca cb := ⟨(hb.block _ (heap_lt h.box)).trans h.box, h.disk.below hb⟩
end Go.Proofs.Ythbjcipdneminaa

/- GI -/
namespace Go.Proofs.Ythbjcipdneminaa
open Go.RowKit

theorem sync_at {ps : List (Int × ByteArray)} (hp : ∀ p ∈ ps, 0 ≤ p.1) : ∀ {ss : List ByteArray} {k : Nat}, k < ss.length → (syncL ss ps).getD k ⟨#[]⟩ = rdL ss ps k := by
  induction ps with
  | nil => intro ss k _; rfl
  | cons p ps ih =>
    intro ss k hk
    have h0 := hp p (List.mem_cons_self ..)
    have e1 : syncL ss (p :: ps) = syncL (ss.set p.1.toNat p.2) ps := rfl
    rw [e1, ih (fun q hq => hp q (List.mem_cons_of_mem _ hq)) (by rw [List.length_set]; exact hk)]
    unfold rdL
    rw [List.foldl_cons]
    congr 1
    by_cases e : p.1 = (k : Int)
    · rw [if_pos e, show p.1.toNat = k by omega]
      simp [List.getD, hk]
    · rw [if_neg e, List.getD, List.getElem?_set_ne (by omega)]
      rfl
theorem ra_list (ss : List ByteArray) (ps : List (Int × ByteArray)) : ∀ k, (raL ss ps k).data.toList = ((List.range k).map fun j => (rdL ss ps j).data.toList).flatten
  | 0 => rfl
  | k + 1 => by
    rw [raL, List.range_succ, List.map_append, List.flatten_append, ← ra_list ss ps k]
    simp [ByteArray.data_append]
theorem join_none (xs : List (List UInt8)) : Lib.join xs [] = xs.flatten := by
  cases xs with
  | nil => rfl
  | cons x r => rw [Lib.join_cons, Lib.joinTail]; simp
theorem join_sync {ss : List ByteArray} {ps : List (Int × ByteArray)} (h : goodDB ss ps = true) : (⟨(Lib.join ((syncL ss ps).map (·.data.toList)) (⟨#[]⟩ : ByteArray).data.toList).toArray⟩ : ByteArray) = raL ss ps 12 := by
  obtain ⟨h12, _, _, h4⟩ := good_len h
  have e : syncL ss ps = (List.range 12).map (rdL ss ps) := by
    apply List.ext_getElem
    · rw [syncL_length, h12]; simp
    · intro k h1 h2
      have hk : k < ss.length := by rwa [syncL_length] at h1
      have := sync_at (fun p hp => (h4 p hp).1.1) hk
      rw [List.getElem_map, List.getElem_range, ← this]
      simp [List.getD, h1]
  have e2 : (⟨#[]⟩ : ByteArray).data.toList = [] := rfl
  rw [e2, join_none, e, List.map_map, show ((fun x : ByteArray => x.data.toList) ∘ rdL ss ps) = fun j => (rdL ss ps j).data.toList from rfl, ← ra_list]
theorem sync_len12 {ss : List ByteArray} {ps : List (Int × ByteArray)} (h : goodDB ss ps = true) : (syncL ss ps).length = 12 := by rw [syncL_length, (good_len h).1]
end Go.Proofs.Ythbjcipdneminaa

/- GJ -/
namespace Go.Proofs.Ythbjcipdneminaa
open Go.RowKit

theorem keep4 {w w' : World} {a b c d : Addr} {x y z u : Value} (hb : Below w.heap.size w w') (h : w.cell? a = some x ∧ w.cell? b = some y ∧ w.cell? c = some z ∧ w.cell? d = some u) : w'.cell? a = some x ∧ w'.cell? b = some y ∧ w'.cell? c = some z ∧ w'.cell? d = some u :=
  ⟨(hb.cell (World.block_lt_of_cell? _ _ h.1)).trans h.1, (hb.cell (World.block_lt_of_cell? _ _ h.2.1)).trans h.2.1, (hb.cell (World.block_lt_of_cell? _ _ h.2.2.1)).trans h.2.2.1, (hb.cell (World.block_lt_of_cell? _ _ h.2.2.2)).trans h.2.2.2⟩
def LitP (w : World) (b : Nat) (x : Int) (y : ByteArray) : Prop := w.heap[b]? = some (.cells #[.int .i64 x, .string y] 67 (0, 0))
theorem LitP.below {w w' : World} {b : Nat} {x : Int} {y : ByteArray} (h : LitP w b x y) (hb : Below w.heap.size w w') : LitP w' b x y := (hb.block _ (heap_lt h)).trans h
theorem LitP.new (w : World) (x : Int) (y : ByteArray) : LitP (w.alloc (.cells #[.int .i64 x, .string y] 67)) w.heap.size x y := heap_alloc_new _ _
/-- append(l, p) as a step of a region that draws, the literal in block b. -/
theorem step_app_pu {ops : Array Oper} {o : Oper} {a : Act} {K : Act → World → Prop} {Q : Exit → Act → World → Prop} {E : Prop} (W : World) (base : Nat) (v : Value) (L : List (Int × ByteArray)) (x0 : Int) (y : ByteArray) (b : Nat) (hgd : o.guard = none) (s x : Operand)
    (ho : o.op = .call { callee := .builtin .append, args := #[s, x], argTypes := #[34, 34] }) (hs : a.eval s = v) (hx : a.eval x = .slice (some ⟨b, 0, none⟩) 1 1)
    (hown : OwnPu W base v L) (hb : LitP W b x0 y) (hbase : base ≤ W.heap.size) (hlen : L.length ≤ 1000000)
    (h : ∀ g cap w', Hid (OwnPu w' base (.slice (some ⟨g, 0, none⟩) (L.length + 1) cap) (L ++ [(x0, y)]) ∧ W.grownBy w' v.ownBlock ∧ (v.ownBlock = some g ∨ g = W.heap.size)) → K (a.put o.dst (.slice (some ⟨g, 0, none⟩) (L.length + 1) cap)) w') :
    if Region.wanted o (yielded ops a.tmps) = true then Oper.wp Try.prog o a W K Q else E := by
  obtain ⟨i0, hi, hz0, hz1, hz2⟩ := info_parts puInfo
  have hown' : W.ownsRow base 67 2 v L.length (L.flatMap fPu) := hown
  refine step_append_lies W hgd s x 34 ho base 67 i0 _ 2 24 Try.underlying34 hi hz0 hz1 hz2 rfl (by decide) v L.length _ hs hown' ⟨b, 0, none⟩ 1 1 (fPu (x0, y)) hx rfl (World.news_of_block hb) (fPu_one _) (by omega) (by unfold maxLen; omega) (by omega) hbase _ rfl ?_
  intro g cap w' h1 h2 h3 _
  refine h g cap w' ⟨?_, h2, h3⟩
  show World.ownsRow _ _ _ _ _ _ _
  rw [List.length_append, List.flatMap_append]
  simpa using h1
/-- The two copies and the append, together. -/
theorem put_end {w0 wS wP W w' : World} {n base g cap : Nat} {vS vP : Value} {ss : List ByteArray} {ps qs : List (Int × ByteArray)} (hS : OwnSt wS base vS ss) (hSP : Below wS.heap.size wS wP) (hP : OwnPu wP wS.heap.size vP ps) (hW : Below wP.heap.size wP W) (hbs : base ≤ wS.heap.size)
    (hO : OwnPu w' wS.heap.size (.slice (some ⟨g, 0, none⟩) qs.length cap) qs) (hg : W.grownBy w' vP.ownBlock) (hat : vP.ownBlock = some g ∨ g = W.heap.size) (h0 : Below n w0 wS) (hn : n ≤ wS.heap.size) :
    OwnD w' base vS (.slice (some ⟨g, 0, none⟩) qs.length cap) ss qs ∧ Below n w0 w' ∧ ∀ X, X < wS.heap.size → w'.heap[X]? = wS.heap[X]? := by
  have hs1 := hSP.size
  have hs2 := hW.size
  have hPl : ∀ g, vP.ownBlock = some g → wS.heap.size ≤ g := fun g hg => (hP.lt g hg).1
  have hSl : ∀ g, vS.ownBlock = some g → g < wS.heap.size := fun g hg => (hS.lt g hg).2
  have hSW : Below wS.heap.size wS W := hSP.trans (hW.mono hs1)
  have hbl : ∀ X, X < wS.heap.size → w'.heap[X]? = wS.heap[X]? := fun X hX => (hg.block X (by omega) (fun e => by have := hPl X e.symm; omega)).trans (hSW.block X hX)
  refine ⟨⟨(hS.below hSW).kept hg (by
      cases hv : vS.ownBlock with
      | none => exact Or.inl rfl
      | some q => exact Or.inr fun e => by have := hSl q hv; have := hPl q e.symm; omega), hO.lower hbs, ?_⟩, (h0.trans (hSW.mono hn)).grown hg (by omega) (fun k hk => by have := hPl k hk; omega), hbl⟩
  cases hv : vS.ownBlock with
  | none => exact Or.inl rfl
  | some q =>
    refine Or.inr fun e => ?_
    have e1 : q = g := by injection e
    have := hSl q hv
    rcases hat with h | h
    · have := hPl g h; omega
    · omega

set_option maxRecDepth 100000 in
set_option maxHeartbeats 2000000 in
theorem iPutFn_no (gk gy g : Nat) (k : Int) (y : ByteArray) (A B : Option Addr) (ss : List ByteArray) (ps : List (Int × ByteArray)) (ca cb : Nat) (w : World) (hb : BoxD w g A B ss ps ca cb) (hk : w.cell? ⟨gk, 0, none⟩ = some (.int .i64 k)) (hy : w.cell? ⟨gy, 0, none⟩ = some (.string y)) (hok : puOkB ss ps k y = false) :
    Calls Try.prog 45 #[.pointer (some ⟨gk, 0, none⟩), .pointer (some ⟨gy, 0, none⟩), .pointer (some ⟨g, 0, none⟩)] w fun e w' => Died e ∧ Below w.heap.size w w' := by
  obtain ⟨W0, hW0⟩ : ∃ W, w.alloc (.cells #[.slice none 0 0, .slice none 0 0] 36) = W := ⟨_, rfl⟩
  have hbW0 : Below w.heap.size w W0 := by rw [← hW0]; exact gAlloc _ _
  have HS0 : Hid (W0.heap.size = w.heap.size + 1) := by show _ = _; rw [← hW0]; simp
  have hk1 : W0.cell? ⟨gk, 0, none⟩ = some (.int .i64 k) := (hbW0.cell (World.block_lt_of_cell? _ _ hk)).trans hk
  have hy1 : W0.cell? ⟨gy, 0, none⟩ = some (.string y) := (hbW0.cell (World.block_lt_of_cell? _ _ hy)).trans hy
  have hz0 : W0.heap[w.heap.size]? = some (.cells #[.slice none 0 0, .slice none 0 0] 36 (0, 0)) := by rw [← hW0]; exact heap_alloc_new _ _
  obtain ⟨W, hW⟩ : ∃ W, W0.alloc (.cells #[.int .i64 k, .string y] 67) = W := ⟨_, rfl⟩
  have hbW1 : Below W0.heap.size W0 W := by rw [← hW]; exact gAlloc _ _
  have hbW := below_more hbW0 hbW1
  have HSW : Hid (W.heap.size = w.heap.size + 2) := by show _ = _; rw [← hW]; simp [HS0.out]
  have hz : W.heap[w.heap.size]? = some (.cells #[.slice none 0 0, .slice none 0 0] 36 (0, 0)) := (hbW1.block _ (heap_lt hz0)).trans hz0
  have hp : W.heap[W0.heap.size]? = some (.cells #[.int .i64 k, .string y] 67 (0, 0)) := by rw [← hW]; exact heap_alloc_new _ _
  have hB1 := hb.below hbW
  have x0 : W.cell? ⟨g, 0, none⟩ = some (.slice A ss.length ca) := cell_of_row _ _ 0 _ _ _ hB1.box
  have x1 : W.cell? ⟨g, 1, none⟩ = some (.slice B ps.length cb) := cell_of_row _ _ 1 _ _ _ hB1.box
  have p0 : W.cell? ⟨W0.heap.size, 0, none⟩ = some (.int .i64 k) := cell_of_row _ _ 0 _ _ _ hp
  have p1 : W.cell? ⟨W0.heap.size, 1, none⟩ = some (.string y) := cell_of_row _ _ 1 _ _ _ hp
  have HG := Lib.hid (iGoodD_any A B ss ps ca cb W hB1.disk)
  have HPt := Lib.hid (fun w' => iPut9 k y w')
  have hl2 := hB1.disk.len2
  clear hb hB1 hk hy hz hz0 hp
  cases hg : goodDB ss ps
  · rw [hg] at HG
    clear hok hg
    go_enter Try.func45, Try.ntmps45
    go_wp2_with (first
      | (go_at_call 47; refine HG.out.mono ?_; rintro e w1 ⟨rfl, hb1⟩)
      | (go_at_call 46; refine (iInsist_no _).mono ?_; rintro e w' ⟨rfl, rfl⟩))
    exact ⟨rfl, rfl, below_more hbW hb1⟩
  · rw [hg] at HG
    by_cases h40 : (ps.length : Int) < 40
    · have hpu : puB9 (k, y) = false := by
        have h41 : ¬ ps.length = 40 := by omega
        have e : puOkB ss ps k y = (inB k 0 11 && decide (y.size = 16)) := by rw [puOkB, hg]; simp [h41]
        rw [e] at hok
        exact hok
      have HPt2 : Hid (∀ w', Calls Try.prog 48 #[putV k y] w' fun e w'' => e = .returned (.bool false) ∧ Below w'.heap.size w' w'') := fun w' => by
        have := HPt.out w'
        rw [hpu] at this
        exact this
      clear hok hg hpu HPt
      go_enter Try.func45, Try.ntmps45
      go_wp2_with (first
        | (go_at_call 47; refine HG.out.mono ?_; rintro e w1 ⟨rfl, hb1⟩; (have q1 := (hb1.cell (World.block_lt_of_cell? _ _ x1)).trans x1); (have q2 := (hb1.cell (World.block_lt_of_cell? _ _ p0)).trans p0); (have q3 := (hb1.cell (World.block_lt_of_cell? _ _ p1)).trans p1))
        | (go_at_call 48; refine (HPt2.out _).mono ?_; rintro e w2 ⟨rfl, hb2⟩)
        | (go_at_call 46; refine (iInsist_no _).mono ?_; rintro e w' ⟨rfl, rfl⟩))
      exact ⟨rfl, rfl, below_more (below_more hbW hb1) hb2⟩
    · clear hok hg
      go_enter Try.func45, Try.ntmps45
      go_wp2_with (first
        | (go_at_call 47; refine HG.out.mono ?_; rintro e w1 ⟨rfl, hb1⟩; (have q1 := (hb1.cell (World.block_lt_of_cell? _ _ x1)).trans x1))
        | (go_at_call 46; refine (iInsist_no _).mono ?_; rintro e w' ⟨rfl, rfl⟩))
      exact ⟨rfl, rfl, below_more hbW hb1⟩
set_option maxRecDepth 100000 in
set_option maxHeartbeats 4000000 in
theorem iPutFn_yes (gk gy g : Nat) (k : Int) (y : ByteArray) (A B : Option Addr) (ss : List ByteArray) (ps : List (Int × ByteArray)) (ca cb : Nat) (w : World) (hb : BoxD w g A B ss ps ca cb) (hA : Lies9 A ca) (hB : Lies9 B cb) (hk : w.cell? ⟨gk, 0, none⟩ = some (.int .i64 k)) (hy : w.cell? ⟨gy, 0, none⟩ = some (.string y)) (hok : puOkB ss ps k y = true) :
    Calls Try.prog 45 #[.pointer (some ⟨gk, 0, none⟩), .pointer (some ⟨gy, 0, none⟩), .pointer (some ⟨g, 0, none⟩)] w fun e w' => ∃ v1 v2, e = .returned (diskV v1 v2) ∧ OwnD w' w.heap.size v1 v2 ss (ps ++ [(k, y)]) ∧ Below w.heap.size w w' := by
  obtain ⟨W0, hW0⟩ : ∃ W, w.alloc (.cells #[.slice none 0 0, .slice none 0 0] 36) = W := ⟨_, rfl⟩
  have hbW0 : Below w.heap.size w W0 := by rw [← hW0]; exact gAlloc _ _
  have HS0 : Hid (W0.heap.size = w.heap.size + 1) := by show _ = _; rw [← hW0]; simp
  have hk1 : W0.cell? ⟨gk, 0, none⟩ = some (.int .i64 k) := (hbW0.cell (World.block_lt_of_cell? _ _ hk)).trans hk
  have hy1 : W0.cell? ⟨gy, 0, none⟩ = some (.string y) := (hbW0.cell (World.block_lt_of_cell? _ _ hy)).trans hy
  have hz0 : W0.heap[w.heap.size]? = some (.cells #[.slice none 0 0, .slice none 0 0] 36 (0, 0)) := by rw [← hW0]; exact heap_alloc_new _ _
  obtain ⟨W, hW⟩ : ∃ W, W0.alloc (.cells #[.int .i64 k, .string y] 67) = W := ⟨_, rfl⟩
  have hbW1 : Below W0.heap.size W0 W := by rw [← hW]; exact gAlloc _ _
  have hbW := below_more hbW0 hbW1
  have HSW : Hid (W.heap.size = w.heap.size + 2) := by show _ = _; rw [← hW]; simp [HS0.out]
  have hz : W.heap[w.heap.size]? = some (.cells #[.slice none 0 0, .slice none 0 0] 36 (0, 0)) := (hbW1.block _ (heap_lt hz0)).trans hz0
  have hp : W.heap[W0.heap.size]? = some (.cells #[.int .i64 k, .string y] 67 (0, 0)) := by rw [← hW]; exact heap_alloc_new _ _
  have hB1 := hb.below hbW
  have x0 : W.cell? ⟨g, 0, none⟩ = some (.slice A ss.length ca) := cell_of_row _ _ 0 _ _ _ hB1.box
  have x1 : W.cell? ⟨g, 1, none⟩ = some (.slice B ps.length cb) := cell_of_row _ _ 1 _ _ _ hB1.box
  have p0 : W.cell? ⟨W0.heap.size, 0, none⟩ = some (.int .i64 k) := cell_of_row _ _ 0 _ _ _ hp
  have p1 : W.cell? ⟨W0.heap.size, 1, none⟩ = some (.string y) := cell_of_row _ _ 1 _ _ _ hp
  have HG := Lib.hid (iGoodD_any A B ss ps ca cb W hB1.disk)
  have HPt := Lib.hid (fun w' => iPut9 k y w')
  have hok2 := hok
  simp only [puOkB, Bool.and_eq_true] at hok2
  obtain ⟨hg, hk2, hy2, h41⟩ := hok2
  have hpu : puB9 (k, y) = true := by
    show (inB k 0 11 && stB9 y) = true
    rw [hk2]; exact hy2
  have H40 := Lib.hid (good_len hg).2.1
  have H12 := Lib.hid (good_len hg).1
  have h40i : (ps.length : Int) < 40 := by
    have : ¬ ps.length = 40 := by simpa using h41
    have := H40.out
    omega
  have HPt2 : Hid (∀ w', Calls Try.prog 48 #[putV k y] w' fun e w'' => e = .returned (.bool true) ∧ Below w'.heap.size w' w'') := fun w' => by
    have := HPt.out w'
    rw [hpu] at this
    exact this
  rw [hg] at HG
  have HD := Lib.hid hB1.disk
  have HGw := Lib.hid (heap_lt hb.box)
  have HZ := Lib.hid hz
  have HP := Lib.hid hp
  clear hok hpu HPt hg hk2 hy2 h41 hb hB1 hk hy hz hz0 hp
  go_enter Try.func45, Try.ntmps45
  go_wp2_with (first
    | (go_at_call 47; refine HG.out.mono ?_; rintro e w1 ⟨rfl, hb1⟩; (have q1 := (hb1.cell (World.block_lt_of_cell? _ _ x1)).trans x1); (have q2 := (hb1.cell (World.block_lt_of_cell? _ _ p0)).trans p0); (have q3 := (hb1.cell (World.block_lt_of_cell? _ _ p1)).trans p1))
    | (go_at_call 48; refine (HPt2.out _).mono ?_; rintro e w2 ⟨rfl, hb2⟩)
    | (go_at_call 46; refine (iInsist_yes _).mono ?_; rintro e w' ⟨rfl, rfl⟩))
  have hb3 := below_more hb1 hb2
  have y0 := (hb3.cell (World.block_lt_of_cell? _ _ x0)).trans x0
  have y1 := (hb3.cell (World.block_lt_of_cell? _ _ x1)).trans x1
  have y2 := (hb3.cell (World.block_lt_of_cell? _ _ p0)).trans p0
  have y3 := (hb3.cell (World.block_lt_of_cell? _ _ p1)).trans p1
  have HD2 := Lib.hid (HD.out.below hb3)
  have HZ2 := Lib.hid ((hb3.block _ (heap_lt HZ.out)).trans HZ.out)
  have HBW := Lib.hid (below_more hbW hb3)
  have hs2 := hb3.size
  clear hb1 hb2 hb3 q1 q2 q3 x0 x1 p0 p1 HG HD HZ HP HPt2 hW hW0 hk1 hy1 hbW hbW1 hbW0
  have hg2 := World.block_lt_of_cell? _ _ y0
  have hp2 := World.block_lt_of_cell? _ _ y2
  have hw2 : w.heap.size < w2.heap.size := by have := HSW.out; omega
  have HCs := Lib.hid (fun w' (h : Below w2.heap.size w2 w') => iCloneSt A ss ca w' (HD2.out.sure.below h) hA (by have := H12.out; omega))
  have HCp := Lib.hid (fun w' (h : Below w2.heap.size w2 w') => iClonePu B ps cb w' (HD2.out.later.below h) hB (by have := H40.out; omega))
  have hgX : g ≠ w.heap.size := by have := HGw.out; omega
  have hpX : W0.heap.size ≠ w.heap.size := by have := HS0.out; omega
  clear hs2
  go_region_held3 (fun w' => w'.cell? ⟨g, 0, none⟩ = some (.slice A ss.length ca) ∧ w'.cell? ⟨g, 1, none⟩ = some (.slice B ps.length cb) ∧ w'.cell? ⟨W0.heap.size, 0, none⟩ = some (.int .i64 k) ∧ w'.cell? ⟨W0.heap.size, 1, none⟩ = some (.string y))
    (first
      | exact ⟨y0, y1, y2, y3⟩
      | exact ⟨t0, t1, t2, t3⟩
      | exact ⟨(cell_set_other _ ⟨w.heap.size, 1, none⟩ _ _ hgX).trans ((cell_set_other _ ⟨w.heap.size, 0, none⟩ _ _ hgX).trans t0), (cell_set_other _ ⟨w.heap.size, 1, none⟩ _ _ hgX).trans ((cell_set_other _ ⟨w.heap.size, 0, none⟩ _ _ hgX).trans t1), (cell_set_other _ ⟨w.heap.size, 1, none⟩ _ _ hpX).trans ((cell_set_other _ ⟨w.heap.size, 0, none⟩ _ _ hpX).trans t2), (cell_set_other _ ⟨w.heap.size, 1, none⟩ _ _ hpX).trans ((cell_set_other _ ⟨w.heap.size, 0, none⟩ _ _ hpX).trans t3)⟩
      | exact ⟨sP0, sP1, sP2, sP3⟩
      | exact ⟨sS0, sS1, sS2, sS3⟩
      | go_keep)
    (first
    | (refine step_app_pu _ wS.heap.size _ ps k y wP.heap.size rfl (.tmp 26) (.tmp 28) rfl (by simp [Act.eval]) (by simp [Act.eval]) (hoP2.below (gAlloc _ _)) (LitP.new wP k y) (by first | exact hbP2.size | (rw [World.heap_size_alloc9]; have := hbP2.size; omega)) (by have := H40.out; omega) ?_; intro g5 c5 w5 H5; obtain ⟨hE1, hE2, hE3⟩ := put_end (w0 := w) (n := w.heap.size) (base := w2.heap.size) (qs := ps ++ [(k, y)]) hoS2 hbP2 hoP2 (gAlloc _ _) hS2 (by rw [List.length_append]; exact H5.out.1) H5.out.2.1 H5.out.2.2 hBS (by omega); have hZ5 : w5.heap[w.heap.size]? = some (.cells #[.slice none 0 0, .slice none 0 0] 36 (0, 0)) := (hE3 _ (by omega)).trans ((hBS2.block _ (by omega)).trans HZ2.out); have r0 := cell_of_row w5 _ 0 _ _ _ hZ5; have r1 := cell_of_row w5 _ 1 _ _ _ hZ5; have f0 := frozen_of_row w5 _ 0 _ _ hZ5; have f1 := frozen_of_row w5 _ 1 _ _ hZ5; have t0 : w5.cell? ⟨g, 0, none⟩ = some (.slice A ss.length ca) := (World.cell?_of_block (hE3 g hgS)).trans sS0; have t1 : w5.cell? ⟨g, 1, none⟩ = some (.slice B ps.length cb) := (World.cell?_of_block (hE3 g hgS)).trans sS1; have t2 : w5.cell? ⟨W0.heap.size, 0, none⟩ = some (.int .i64 k) := (World.cell?_of_block (hE3 _ hpS)).trans sS2; have t3 : w5.cell? ⟨W0.heap.size, 1, none⟩ = some (.string y) := (World.cell?_of_block (hE3 _ hpS)).trans sS3)
    | (refine step_app_pu _ wS.heap.size _ ps k y wS.heap.size rfl (.tmp 26) (.tmp 28) rfl (by simp [Act.eval]) (by simp [Act.eval]) (hoP2.below (Below.refl _ _)) ((LitP.new wS k y).below hbP) (by first | exact hbP2.size | (rw [World.heap_size_alloc9]; have := hbP2.size; omega)) (by have := H40.out; omega) ?_; intro g5 c5 w5 H5; obtain ⟨hE1, hE2, hE3⟩ := put_end (w0 := w) (n := w.heap.size) (base := w2.heap.size) (qs := ps ++ [(k, y)]) hoS2 hbP2 hoP2 (Below.refl _ _) hS2 (by rw [List.length_append]; exact H5.out.1) H5.out.2.1 H5.out.2.2 hBS (by omega); have hZ5 : w5.heap[w.heap.size]? = some (.cells #[.slice none 0 0, .slice none 0 0] 36 (0, 0)) := (hE3 _ (by omega)).trans ((hBS2.block _ (by omega)).trans HZ2.out); have r0 := cell_of_row w5 _ 0 _ _ _ hZ5; have r1 := cell_of_row w5 _ 1 _ _ _ hZ5; have f0 := frozen_of_row w5 _ 0 _ _ hZ5; have f1 := frozen_of_row w5 _ 1 _ _ hZ5; have t0 : w5.cell? ⟨g, 0, none⟩ = some (.slice A ss.length ca) := (World.cell?_of_block (hE3 g hgS)).trans sS0; have t1 : w5.cell? ⟨g, 1, none⟩ = some (.slice B ps.length cb) := (World.cell?_of_block (hE3 g hgS)).trans sS1; have t2 : w5.cell? ⟨W0.heap.size, 0, none⟩ = some (.int .i64 k) := (World.cell?_of_block (hE3 _ hpS)).trans sS2; have t3 : w5.cell? ⟨W0.heap.size, 1, none⟩ = some (.string y) := (World.cell?_of_block (hE3 _ hpS)).trans sS3)
    | (refine step_app_pu _ wS.heap.size _ ps k y w2.heap.size rfl (.tmp 26) (.tmp 28) rfl (by simp [Act.eval]) (by simp [Act.eval]) (hoP2.below (Below.refl _ _)) (LitP.below (LitP.below (w := (w2.alloc (.cells #[.int .i64 k, .string y] 67)).drew) (LitP.new w2 k y) hbS) hbP) (by first | exact hbP2.size | (rw [World.heap_size_alloc9]; have := hbP2.size; omega)) (by have := H40.out; omega) ?_; intro g5 c5 w5 H5; obtain ⟨hE1, hE2, hE3⟩ := put_end (w0 := w) (n := w.heap.size) (base := w2.heap.size) (qs := ps ++ [(k, y)]) hoS2 hbP2 hoP2 (Below.refl _ _) hS2 (by rw [List.length_append]; exact H5.out.1) H5.out.2.1 H5.out.2.2 hBS (by omega); have hZ5 : w5.heap[w.heap.size]? = some (.cells #[.slice none 0 0, .slice none 0 0] 36 (0, 0)) := (hE3 _ (by omega)).trans ((hBS2.block _ (by omega)).trans HZ2.out); have r0 := cell_of_row w5 _ 0 _ _ _ hZ5; have r1 := cell_of_row w5 _ 1 _ _ _ hZ5; have f0 := frozen_of_row w5 _ 0 _ _ hZ5; have f1 := frozen_of_row w5 _ 1 _ _ hZ5; have t0 : w5.cell? ⟨g, 0, none⟩ = some (.slice A ss.length ca) := (World.cell?_of_block (hE3 g hgS)).trans sS0; have t1 : w5.cell? ⟨g, 1, none⟩ = some (.slice B ps.length cb) := (World.cell?_of_block (hE3 g hgS)).trans sS1; have t2 : w5.cell? ⟨W0.heap.size, 0, none⟩ = some (.int .i64 k) := (World.cell?_of_block (hE3 _ hpS)).trans sS2; have t3 : w5.cell? ⟨W0.heap.size, 1, none⟩ = some (.string y) := (World.cell?_of_block (hE3 _ hpS)).trans sS3)
    | (go_at_call 50; refine (HCp.out _ (by first | exact hBS2 | exact below_more hBS2 (gAlloc _ _))).mono ?_; rintro e wP ⟨vP, rfl, hoP, hbP⟩; obtain ⟨AP, cP, rfl, _⟩ := hoP.form fPu_len; have hoP2 : OwnPu wP wS.heap.size (.slice AP ps.length cP) ps := hoP.lower (by first | exact Nat.le_refl _ | (rw [World.heap_size_alloc9]; omega)); have hbP2 : Below wS.heap.size wS wP := (by first | exact hbP | exact below_more (gAlloc _ _) hbP); have sP0 := (hbP2.cell (World.block_lt_of_cell? _ _ sS0)).trans sS0; have sP1 := (hbP2.cell (World.block_lt_of_cell? _ _ sS1)).trans sS1; have sP2 := (hbP2.cell (World.block_lt_of_cell? _ _ sS2)).trans sS2; have sP3 := (hbP2.cell (World.block_lt_of_cell? _ _ sS3)).trans sS3)
    | (go_at_call 49; refine (HCs.out _ (by first | exact gDrew | exact below_more (gAlloc _ _) gDrew)).mono ?_; rintro e wS ⟨vS, rfl, hoS, hbS⟩; obtain ⟨AS, cS, rfl, _⟩ := hoS.form fSt_len; have hoS2 : OwnSt wS w2.heap.size (.slice AS ss.length cS) ss := hoS.lower (by first | exact Nat.le_refl _ | exact (gAlloc w2 _).size); have hBS2 : Below w2.heap.size w2 wS := (by first | exact below_more gDrew hbS | exact below_more (below_more (gAlloc _ _) gDrew) hbS); have hBS := below_more HBW.out hBS2; have hS2 := hBS2.size; have hgS := Nat.lt_of_lt_of_le hg2 hS2; have hpS := Nat.lt_of_lt_of_le hp2 hS2; have sS0 := (hBS2.cell (World.block_lt_of_cell? _ _ y0)).trans y0; have sS1 := (hBS2.cell (World.block_lt_of_cell? _ _ y1)).trans y1; have sS2 := (hBS2.cell (World.block_lt_of_cell? _ _ y2)).trans y2; have sS3 := (hBS2.cell (World.block_lt_of_cell? _ _ y3)).trans y3))
  all_goals
    have HO := Lib.hid hE1
    have HB2 := Lib.hid hE2
    have K := Lib.hid hZ5
    clear hE1 hE2 hE3 hZ5 t0 t1 t2 t3 r0 r1 f0 f1 H5 sS0 sS1 sS2 sS3 sP0 sP1 sP2 sP3 hoS hoS2 hoP hoP2 hbP hbP2 hbS hBS hBS2 y0 y1 y2 y3
    go_wp2_with fail
    obtain ⟨d1, d2, d3⟩ := dk_stored (w := w) K.out HO.out hw2 HB2.out (Nat.le_refl _)
    rw [List.length_append] at d1 d2 d3
    exact ret_dk rfl w.heap.size _ _ rfl d1 rfl ⟨_, _, rfl, d2.lower (by omega), d3⟩
set_option maxRecDepth 100000 in
set_option maxHeartbeats 1000000 in
theorem iPutS_any (A B : Option Addr) (ss : List ByteArray) (ps : List (Int × ByteArray)) (ca cb : Nat) (k : Int) (y : ByteArray) (w : World) (hd : DiskIn w A B ss ps) (hA : Lies9 A ca) (hB : Lies9 B cb) :
    Calls Try.prog 27 #[diskV (.slice A ss.length ca) (.slice B ps.length cb), .int .i64 k, .string y] w fun e w' => ∃ v1 v2, e = .returned (.tuple #[diskV v1 v2, .bool (puOkB ss ps k y)]) ∧ OwnD w' w.heap.size v1 v2 (puS ss ps k y) (puP ss ps k y) ∧ Below w.heap.size w w' := by
  have hmf : ∀ (fn : Fn) (first cap : Array Value) (w : World), (Instr.makeFunc fn first cap).run Try.prog w = .ok (.func fn first cap) w := fun _ _ _ _ => rfl
  obtain ⟨W1, hW1⟩ : ∃ W, w.alloc (.cells #[.slice A ss.length ca, .slice B ps.length cb] 36) = W := ⟨_, rfl⟩
  obtain ⟨W2, hW2⟩ : ∃ W, W1.alloc (.cells #[.int .i64 k] 3) = W := ⟨_, rfl⟩
  obtain ⟨W3, hW3⟩ : ∃ W, W2.alloc (.cells #[.string y] 9) = W := ⟨_, rfl⟩
  obtain ⟨W, hW⟩ : ∃ W, W3.alloc (.cells #[.slice none 0 0, .slice none 0 0] 36) = W := ⟨_, rfl⟩
  have b1 : Below w.heap.size w W1 := by rw [← hW1]; exact gAlloc _ _
  have b2 : Below W1.heap.size W1 W2 := by rw [← hW2]; exact gAlloc _ _
  have b3 : Below W2.heap.size W2 W3 := by rw [← hW3]; exact gAlloc _ _
  have b4 : Below W3.heap.size W3 W := by rw [← hW]; exact gAlloc _ _
  have h1 : W.heap[w.heap.size]? = some (.cells #[.slice A ss.length ca, .slice B ps.length cb] 36 (0, 0)) := by
    have e : W1.heap[w.heap.size]? = some (.cells #[.slice A ss.length ca, .slice B ps.length cb] 36 (0, 0)) := by rw [← hW1]; exact heap_alloc_new _ _
    exact ((below_more (below_more b2 b3) b4).block _ (heap_lt e)).trans e
  have h2 : W.heap[W1.heap.size]? = some (.cells #[.int .i64 k] 3 (0, 0)) := by
    have e : W2.heap[W1.heap.size]? = some (.cells #[.int .i64 k] 3 (0, 0)) := by rw [← hW2]; exact heap_alloc_new _ _
    exact ((below_more b3 b4).block _ (heap_lt e)).trans e
  have h3 : W.heap[W2.heap.size]? = some (.cells #[.string y] 9 (0, 0)) := by
    have e : W3.heap[W2.heap.size]? = some (.cells #[.string y] 9 (0, 0)) := by rw [← hW3]; exact heap_alloc_new _ _
    exact (b4.block _ (heap_lt e)).trans e
  have h4 : W.heap[W3.heap.size]? = some (.cells #[.slice none 0 0, .slice none 0 0] 36 (0, 0)) := by rw [← hW]; exact heap_alloc_new _ _
  have HB3 := Lib.hid (below_more (below_more b1 b2) b3)
  have HBW := Lib.hid (below_more (below_more (below_more b1 b2) b3) b4)
  have hBx : BoxD W w.heap.size A B ss ps ca cb := ⟨h1, hd.below HBW.out⟩
  have hK : ∀ w1, Below W.heap.size W w1 → w1.cell? ⟨W1.heap.size, 0, none⟩ = some (.int .i64 k) := fun w1 hb1 => cell_of_row _ _ 0 _ _ _ ((hb1.block _ (heap_lt h2)).trans h2)
  have hY : ∀ w1, Below W.heap.size W w1 → w1.cell? ⟨W2.heap.size, 0, none⟩ = some (.string y) := fun w1 hb1 => cell_of_row _ _ 0 _ _ _ ((hb1.block _ (heap_lt h3)).trans h3)
  have HAt : Hid (Calls Try.prog 44 #[.func (.func 45) #[] #[.pointer (some ⟨W1.heap.size, 0, none⟩), .pointer (some ⟨W2.heap.size, 0, none⟩), .pointer (some ⟨w.heap.size, 0, none⟩)]] W fun e w' => ∃ v1 v2, e = .returned (.tuple #[diskV v1 v2, .bool (puOkB ss ps k y)]) ∧ OwnD w' W.heap.size v1 v2 (puS ss ps k y) (puP ss ps k y) ∧ Below W.heap.size W w') := by
    cases hok : puOkB ss ps k y
    · rw [(pu_not hok).1, (pu_not hok).2.1]
      exact iAttemptD_no 45 _ (hE_of Try.func45 (by kernel_rfl) rfl) W (fun w1 hb1 => iPutFn_no _ _ _ k y A B ss ps ca cb w1 (hBx.below hb1) (hK w1 hb1) (hY w1 hb1) hok)
    · rw [(pu_yes hok).1, (pu_yes hok).2.1]
      exact iAttemptD_yes 45 _ (hE_of Try.func45 (by kernel_rfl) rfl) _ _ W (fun w1 hb1 => iPutFn_yes _ _ _ k y A B ss ps ca cb w1 (hBx.below hb1) hA hB (hK w1 hb1) (hY w1 hb1) hok)
  have HXW : Hid (W3.heap.size < W.heap.size ∧ w.heap.size ≤ W3.heap.size ∧ w.heap.size ≤ W.heap.size) := ⟨heap_lt h4, HB3.out.size, HBW.out.size⟩
  clear hd hA hB hBx h1 h2 h3 hK hY b1 b2 b3 b4
  generalize puOkB ss ps k y = ok at *
  generalize puS ss ps k y = S at *
  generalize puP ss ps k y = Q at *
  go_enter Try.func27, Try.ntmps27
  go_wp2_with fail
  refine HAt.out.mono ?_
  rintro e w1 ⟨v1, v2, rfl, ho, hb1⟩
  obtain ⟨A1, c1, rfl, -⟩ := ho.sure.form fSt_len
  obtain ⟨A2, c2, rfl, -⟩ := ho.later.form fPu_len
  have k1 := (hb1.block _ (heap_lt h4)).trans h4
  have z0 := frozen_of_row _ _ 0 _ _ k1
  have z1 := frozen_of_row _ _ 1 _ _ k1
  have y0 := cell_of_row _ _ 0 _ _ _ k1
  have y1 := cell_of_row _ _ 1 _ _ _ k1
  have HO := Lib.hid ho
  have K1 := Lib.hid k1
  have HB := Lib.hid (below_more HBW.out hb1)
  clear ho k1 hb1
  go_wp2_with fail
  obtain ⟨e1, e2, e3⟩ := HXW.out
  obtain ⟨d1, d2, d3⟩ := dk_stored (w := w) K1.out HO.out e1 HB.out e2
  exact ret_dk2 rfl W3.heap.size _ _ ok rfl rfl d1 rfl ⟨_, _, rfl, d2.lower e3, d3⟩
end Go.Proofs.Ythbjcipdneminaa

/- GK -/
namespace Go.Proofs.Ythbjcipdneminaa
open Go.RowKit

/-- The reaches once the first t kept writes are marked. -/
def markL (n : Nat) (ks : List Int) (t : Nat) : List Nat := (List.range n).map fun (k : Nat) => if (k : Int) ∈ ks.take t then 16 else 0
theorem markL_length (n : Nat) (ks : List Int) (t : Nat) : (markL n ks t).length = n := by simp [markL]
theorem markL_at {n : Nat} {ks : List Int} {t k : Nat} (h : k < (markL n ks t).length) : (markL n ks t)[k] = if (k : Int) ∈ ks.take t then 16 else 0 := by simp [markL]
theorem markL_zero (n : Nat) (ks : List Int) : markL n ks 0 = List.replicate n 0 := by
  apply List.ext_getElem
  · simp [markL]
  · intro k h1 h2; rw [markL_at]; simp
theorem markL_step {n : Nat} {ks : List Int} {t q : Nat} (ht : t < ks.length) (hq : ks[t] = (q : Int)) : markL n ks (t + 1) = (markL n ks t).set q 16 := by
  apply List.ext_getElem
  · rw [List.length_set, markL_length, markL_length]
  · intro k h1 h2
    rw [markL_at, List.getElem_set, List.take_succ_eq_append_getElem ht, hq]
    rw [List.length_set] at h2
    rw [markL_at h2]
    by_cases e : q = k
    · rw [if_pos e, if_pos (by simp [e])]
    · rw [if_neg e]
      have : ((k : Int) ∈ ks.take t ++ [(q : Int)]) ↔ (k : Int) ∈ ks.take t := by
        rw [List.mem_append, List.mem_singleton]
        constructor
        · rintro (h | h)
          · exact h
          · omega
        · exact Or.inl
      simp only [this]
theorem markL_le {n : Nat} {ks : List Int} {t : Nat} : ∀ r ∈ markL n ks t, r ≤ 16 := by
  intro r hr
  simp only [markL, List.mem_map] at hr
  obtain ⟨k, _, rfl⟩ := hr
  split <;> omega
def outOkB (n : Nat) (ks : List Int) (torn b : Int) : Bool := risB 0 (n : Int) ks && (if torn = -1 then decide (b = 0) else decide (0 ≤ torn) && (decide (torn < (n : Int)) && (!decide (torn ∈ ks) && (decide (0 ≤ b) && decide (b ≤ 16)))))
theorem cr_out {ss : List ByteArray} {ps : List (Int × ByteArray)} {ks : List Int} {torn b : Int} : crOkB ss ps ks torn b = (goodDB ss ps && outOkB ps.length ks torn b) := by
  unfold crOkB outOkB
  congr 1
  cases hr : risB 0 (ps.length : Int) ks
  · rfl
  · have hin := risB_in hr
    rw [Bool.true_and, Bool.true_and]
    by_cases ht : torn = -1
    · subst ht
      have hn : (-1 : Int) ∉ ks := fun h => by have := hin _ h; omega
      rw [if_pos rfl, Bool.eq_iff_iff]
      simp [inB, hn]
      omega
    · rw [if_neg ht, Bool.eq_iff_iff]
      by_cases hm : torn ∈ ks
      · simp [hm]
      · simp [inB, hm]
        omega
/-- A row of numbers in block X. -/
def RowI (w : World) (X : Nat) (L : List Nat) : Prop := w.heap[X]? = some (.cells ((zI L).map (Value.int .i64)).toArray 3 (0, 0))
theorem RowI.cell {w : World} {X : Nat} {L : List Nat} (h : RowI w X L) {k : Nat} (hk : k < L.length) : w.cell? ⟨X, k, none⟩ = some (.int .i64 (L[k] : Nat)) := by
  rw [cell_of_row _ _ k _ _ _ h]
  simp [zI, hk]
theorem RowI.frozen {w : World} {X : Nat} {L : List Nat} (h : RowI w X L) (k : Nat) : w.frozen? ⟨X, k, none⟩ = false := frozen_of_row _ _ k _ _ h
theorem RowI.below {w w' : World} {X : Nat} {L : List Nat} (h : RowI w X L) (hb : Below w.heap.size w w') : RowI w' X L := (hb.block _ (heap_lt h)).trans h
theorem RowI.set {w : World} {X : Nat} {L : List Nat} (h : RowI w X L) (k x : Nat) : RowI (w.setCell ⟨X, k, none⟩ (.int .i64 (x : Nat))) X (L.set k x) := by
  have h1 := heap_setCell_same w X k _ _ (Value.int .i64 (x : Int)) h
  refine h1.trans ?_
  congr 2
  simp [zI, List.map_set]
theorem RowI.ints {w : World} {X : Nat} {L : List Nat} (h : RowI w X L) : Ints w (some ⟨X, 0, none⟩) (zI L) := fun _ => ⟨X, 0, rfl, fun j hj => by
  rw [zI_length] at hj
  rw [Nat.zero_add, h.cell hj, zI_getD]
  simp [List.getD, hj]⟩
theorem rowI_new (n : Nat) (w : World) : RowI (w.alloc (.cells (madeCells #[.int .i64 0] n) 3)) w.heap.size (List.replicate n 0) := by
  show (w.alloc _).heap[w.heap.size]? = _
  rw [heap_alloc_new]
  congr 2
  apply Array.toList_inj.1
  have e := made_row (Value.int .i64 0) n rfl
  rw [Nat.mul_one] at e
  simp only [zI, List.map_replicate]
  exact e

end Go.Proofs.Ythbjcipdneminaa

/- GL -/
namespace Go.Proofs.Ythbjcipdneminaa
open Go.RowKit

theorem out_facts {n : Nat} {ks : List Int} {torn b : Int} (h : outOkB n ks torn b = true) : risB 0 (n : Int) ks = true ∧ torn ∉ ks ∧ b.toNat ≤ 16 := by
  simp only [outOkB, Bool.and_eq_true] at h
  obtain ⟨hr, h⟩ := h
  have hin := risB_in hr
  by_cases ht : torn = -1
  · subst ht
    rw [if_pos rfl] at h
    have hb : b = 0 := by simpa using h
    exact ⟨hr, fun hm => by have := hin _ hm; omega, by rw [hb]; simp⟩
  · rw [if_neg ht] at h
    simp at h
    exact ⟨hr, h.2.2.1, by omega⟩
end Go.Proofs.Ythbjcipdneminaa
