/-
  KW: KR: The model of chapter 9: GoodDisk, ReadSector, ReadAll.
  KS: The model of chapter 9: NewDisk.
  KT: The model of chapter 9: SyncDisk.
  KU: The model of chapter 9: what a crash leaves (l9Crash).
  KV: The model of chapter 9: CrashDisk.
  KZ: The model of chapter 9, second part: l9Own (two copying appends in one region that draws its order), PutSector.
-/
import Derived.Test.YthbjcipdneminaaRD
import Derived.Deep.AppendLies
import Derived.StillTailTactics

/- KW -/
/- KR -/
namespace Go.Proofs.Ythbjcipdneminaa
open Go.RowKit

/-- A disk as an argument: its slices read as ss and ps, of lengths that a machine holds. -/
structure DiskIn (w : World) (A B : Option Addr) (ss : List ByteArray) (ps : List (Int × ByteArray)) : Prop where
  sure : Strs w A ss
  later : Puts w B ps
  len : ss.length ≤ 1048576
  len2 : ps.length ≤ 1048576
  size : ∀ s ∈ ss, s.size ≤ 1048576
  size2 : ∀ p ∈ ps, p.2.size ≤ 1048576
theorem DiskIn.below {w w' : World} {A B : Option Addr} {ss : List ByteArray} {ps : List (Int × ByteArray)} (h : DiskIn w A B ss ps) (hb : Below w.heap.size w w') : DiskIn w' A B ss ps := ⟨h.sure.below hb, h.later.below hb, h.len, h.len2, h.size, h.size2⟩
def stB9 (s : ByteArray) : Bool := decide (s.size = 16)
def puB9 (p : Int × ByteArray) : Bool := inB p.1 0 11 && stB9 p.2
def goodDB (ss : List ByteArray) (ps : List (Int × ByteArray)) : Bool := ss.all stB9 && (ps.all puB9 && (decide (ss.length = 12) && decide (ps.length ≤ 40)))
theorem all_take {α : Type} {f : α → Bool} {l : List α} {j : Nat} (hj : j < l.length) : (l.take (j + 1)).all f = ((l.take j).all f && f l[j]) := by
  rw [List.take_succ_eq_append_getElem hj, List.all_append]; simp
theorem all_no {α : Type} {f : α → Bool} {l : List α} {j : Nat} (hj : j < l.length) (h : f l[j] = false) : l.all f = false := by
  cases hl : l.all f
  · rfl
  · have := List.all_eq_true.1 hl l[j] (List.getElem_mem hj)
    rw [h] at this; cases this
set_option maxRecDepth 100000 in
set_option maxHeartbeats 400000 in
theorem sAt9 (n : Int) (w : World) : Calls Try.prog 41 #[.int .i64 n] w fun e w' => e = .returned (.bool (inB n 0 11)) ∧ w = w' := by
  go_enter Try.func41, Try.ntmps41
  go_wp2_with (go_at_call 35; refine (l1In_any _ _ _ _).mono ?_; rintro e w' ⟨rfl, rfl⟩)
  go_ret
  exact ⟨rfl, rfl⟩
set_option maxRecDepth 100000 in
set_option maxHeartbeats 4000000 in
theorem sGoodD_any (A B : Option Addr) (ss : List ByteArray) (ps : List (Int × ByteArray)) (ca cb : Nat) (w : World) (hd : DiskIn w A B ss ps) :
    Calls Try.prog 40 #[diskV (.slice A ss.length ca) (.slice B ps.length cb)] w fun e w' => e = .returned (.bool (goodDB ss ps)) ∧ Below w.heap.size w w' := by
  have hW := gAlloc w (.cells #[.slice A ss.length ca, .slice B ps.length cb] 36)
  have HD := Lib.hid (hd.below hW)
  have HB := Lib.hid hW
  have hx0 : (w.alloc (.cells #[.slice A ss.length ca, .slice B ps.length cb] 36)).cell? ⟨w.heap.size, 0, none⟩ = some (.slice A ss.length ca) := cell_of_row _ _ 0 _ _ _ (heap_alloc_new _ _)
  have hx1 : (w.alloc (.cells #[.slice A ss.length ca, .slice B ps.length cb] 36)).cell? ⟨w.heap.size, 1, none⟩ = some (.slice B ps.length cb) := cell_of_row _ _ 1 _ _ _ (heap_alloc_new _ _)
  have hsX : w.heap.size < (w.alloc (.cells #[.slice A ss.length ca, .slice B ps.length cb] 36)).heap.size := by simp
  have HNo1 : Hid (∀ j (hj : j < ss.length), stB9 ss[j] = false → goodDB ss ps = false) := fun j hj h => by rw [goodDB, all_no hj h]; rfl
  have HNo2 : Hid (∀ j (hj : j < ps.length), puB9 ps[j] = false → goodDB ss ps = false) := fun j hj h => by rw [goodDB, all_no hj h]; simp
  have HYes : Hid (ss.all stB9 = true → ps.all puB9 = true → goodDB ss ps = (decide (ss.length = 12) && decide (ps.length ≤ 40))) := fun h1 h2 => by rw [goodDB, h1, h2]; rfl
  have hl1 := hd.len
  have hl2 := hd.len2
  clear hd hW
  go_enter Try.func40, Try.ntmps40
  go_wp2_with fail
  generalize w.alloc (.cells #[.slice A ss.length ca, .slice B ps.length cb] 36) = W at *
  generalize hX : w.heap.size = X at *
  have HX := Lib.hid hX
  clear hX
  go_loopg [10] ss.length (fun gk i wr => ∃ j : Nat, j + gk = ss.length ∧ i = .int .i64 j ∧ (ss.take j).all stB9 = true ∧ W = wr)
  case atStart => exact ⟨0, by omega, rfl, rfl, rfl⟩
  case round =>
    obtain ⟨j, hg, rfl, hal, rfl⟩ := hrel
    have HAl := Lib.hid hal
    clear hal
    by_cases hlt : j < ss.length
    · have hji : (j : Int) < (ss.length : Int) := by omega
      obtain ⟨b1, o1, rfl, p1⟩ := strs_at HD.out.sure hlt
      have hsz := HD.out.size ss[j] (List.getElem_mem hlt)
      have HGK : Hid (ss.length - j - 1 < gk ∧ j + 1 + (ss.length - j - 1) = ss.length) := by show _ ∧ _; omega
      have HT := Lib.hid (all_take (f := stB9) hlt)
      have HN := Lib.hid (HNo1.out j hlt)
      clear hg
      generalize ss[j] = p at *
      have HSt : Hid (stB9 p = decide (p.size = 16)) := rfl
      by_cases hp : p.size = 16
      · have hpi : ((p.size : Int) != 16) = false := by rw [hp]; rfl
        have HT2 : Hid ((ss.take (j + 1)).all stB9 = true) := by show _ = _; rw [HT.out, HAl.out, HSt.out, hp]; rfl
        clear hp
        go_wp2_with fail
        go_roundg (ss.length - j - 1)
        case measure => exact HGK.out.1
        case rel => exact ⟨j + 1, HGK.out.2, by go_num, HT2.out, rfl⟩
      · have hpi : ((p.size : Int) != 16) = true := by simp; omega
        have HF : Hid (goodDB ss ps = false) := HN.out (by rw [HSt.out]; simp [hp])
        clear hp
        go_wp2_with fail
        go_ret
        exact ⟨ret_bool' HF.out.symm, by rw [HX.out]; exact HB.out⟩
    · obtain rfl : j = ss.length := by omega
      have hji : ¬ (ss.length : Int) < (ss.length : Int) := by omega
      rw [List.take_length] at HAl
      clear hg
      go_wp2_with fail
      go_loopg [21] ps.length (fun gk i wr => ∃ j : Nat, j + gk = ps.length ∧ i = .int .i64 j ∧ (ps.take j).all puB9 = true ∧ Below W.heap.size W wr)
      case atStart => exact ⟨0, by omega, rfl, rfl, Below.refl _ _⟩
      case round =>
        obtain ⟨j, hg, rfl, hal, hbel⟩ := hrel
        have HAl2 := Lib.hid hal
        have HBl := Lib.hid hbel
        have HBf : Hid (∀ w', Below wr.heap.size wr w' → Below w.heap.size w w') := fun w' h => by rw [HX.out]; exact HB.out.trans ((below_more HBl.out h).mono (by have := HB.out.size; have := HX.out; omega))
        clear hal hbel
        by_cases hlt : j < ps.length
        · have hji2 : (j : Int) < (ps.length : Int) := by omega
          obtain ⟨b1, o1, rfl, p1, p2⟩ := puts_at (HD.out.later.below HBl.out) hlt
          have hsz := HD.out.size2 ps[j] (List.getElem_mem hlt)
          have HGK : Hid (ps.length - j - 1 < gk ∧ j + 1 + (ps.length - j - 1) = ps.length) := by show _ ∧ _; omega
          have HT := Lib.hid (all_take (f := puB9) hlt)
          have HN := Lib.hid (HNo2.out j hlt)
          clear hg
          generalize ps[j] = p at *
          have HPu : Hid (puB9 p = (inB p.1 0 11 && decide (p.2.size = 16))) := rfl
          have hW2 := gAlloc wr (.cells #[.int .i64 p.1, .string p.2] 67)
          have HW2 := Lib.hid hW2
          have HWb := Lib.hid (below_more HBl.out hW2)
          clear hW2
          cases hin : inB p.1 0 11
          · have HF : Hid (goodDB ss ps = false) := HN.out (by rw [HPu.out, hin]; rfl)
            have HAt := Lib.hid (fun w => sAt9 p.1 w)
            rw [hin] at HAt
            clear hin
            go_wp2_with (go_at_call 41; refine (HAt.out _).mono ?_; rintro e w' ⟨rfl, rfl⟩)
            go_ret
            exact ⟨ret_bool' HF.out.symm, HBf.out _ HW2.out⟩
          · have HAt := Lib.hid (fun w => sAt9 p.1 w)
            rw [hin] at HAt HPu
            clear hin
            by_cases hp : p.2.size = 16
            · have hpi : ((p.2.size : Int) != 16) = false := by rw [hp]; rfl
              have HT2 : Hid ((ps.take (j + 1)).all puB9 = true) := by show _ = _; rw [HT.out, HAl2.out, HPu.out, hp]; rfl
              clear hp
              go_wp2_with (go_at_call 41; refine (HAt.out _).mono ?_; rintro e w' ⟨rfl, rfl⟩)
              go_roundg (ps.length - j - 1)
              case measure => exact HGK.out.1
              case rel => exact ⟨j + 1, HGK.out.2, by go_num, HT2.out, HWb.out⟩
            · have hpi : ((p.2.size : Int) != 16) = true := by simp; omega
              have HF : Hid (goodDB ss ps = false) := HN.out (by rw [HPu.out]; simp [hp])
              clear hp
              go_wp2_with (go_at_call 41; refine (HAt.out _).mono ?_; rintro e w' ⟨rfl, rfl⟩)
              go_ret
              exact ⟨ret_bool' HF.out.symm, HBf.out _ HW2.out⟩
        · obtain rfl : j = ps.length := by omega
          have hji2 : ¬ (ps.length : Int) < (ps.length : Int) := by omega
          rw [List.take_length] at HAl2
          have HG := Lib.hid (HYes.out HAl.out HAl2.out)
          have hz0 : wr.cell? ⟨X, 0, none⟩ = some (.slice A ss.length ca) := (HBl.out.cell hsX).trans hx0
          have hz1 : wr.cell? ⟨X, 1, none⟩ = some (.slice B ps.length cb) := (HBl.out.cell hsX).trans hx1
          by_cases h12 : ss.length = 12
          · have h12i : ((ss.length : Int) == 12) = true := by rw [h12]; rfl
            have HG2 : Hid (decide ((ps.length : Int) ≤ 40) = goodDB ss ps) := by show _ = _; rw [HG.out, h12]; simp; omega
            clear h12 hg
            go_wp2_with fail
            go_ret
            exact ⟨ret_bool' HG2.out, HBf.out _ (Below.refl _ _)⟩
          · have h12i : ((ss.length : Int) == 12) = false := by simp; omega
            have HG2 : Hid (goodDB ss ps = false) := by show _ = _; rw [HG.out]; simp [h12]
            clear h12 hg
            go_wp2_with fail
            go_ret
            exact ⟨ret_bool' HG2.out.symm, HBf.out _ (Below.refl _ _)⟩

/-- What sector k holds: the last write to it, else what is sure. -/
def rdL (ss : List ByteArray) (ps : List (Int × ByteArray)) (k : Nat) : ByteArray := ps.foldl (fun s p => if p.1 = (k : Int) then p.2 else s) (ss.getD k ⟨#[]⟩)
theorem rdL_snoc (ss : List ByteArray) {ps : List (Int × ByteArray)} (k : Nat) {j : Nat} (hj : j < ps.length) : rdL ss (ps.take (j + 1)) k = if ps[j].1 = (k : Int) then ps[j].2 else rdL ss (ps.take j) k := by
  rw [rdL, List.take_succ_eq_append_getElem hj, List.foldl_append]; rfl
def rsOkB (ss : List ByteArray) (ps : List (Int × ByteArray)) (k : Int) : Bool := goodDB ss ps && inB k 0 11
def rsI (ss : List ByteArray) (ps : List (Int × ByteArray)) (k : Int) : ByteArray := if rsOkB ss ps k = true then rdL ss ps k.toNat else ⟨#[]⟩
theorem good_len {ss : List ByteArray} {ps : List (Int × ByteArray)} (h : goodDB ss ps = true) : ss.length = 12 ∧ ps.length ≤ 40 ∧ (∀ s ∈ ss, s.size = 16) ∧ ∀ p ∈ ps, (0 ≤ p.1 ∧ p.1 ≤ 11) ∧ p.2.size = 16 := by
  simp only [goodDB, Bool.and_eq_true, decide_eq_true_eq] at h
  refine ⟨h.2.2.1, h.2.2.2, fun s hs => ?_, fun p hp => ?_⟩
  · have := List.all_eq_true.1 h.1 s hs
    simpa [stB9] using this
  · have := List.all_eq_true.1 h.2.1 p hp
    simp only [puB9, stB9, inB, Bool.and_eq_true, decide_eq_true_eq] at this
    exact this
theorem tupSB {a b : ByteArray} {c d : Bool} (h : a = b) (k : c = d) : Ending.returned (.tuple #[.string a, .bool c]) = .returned (.tuple #[.string b, .bool d]) := by rw [h, k]
theorem rdL_size {ss : List ByteArray} {ps : List (Int × ByteArray)} (h : goodDB ss ps = true) {k : Nat} (hk : k < 12) : (rdL ss ps k).size = 16 := by
  obtain ⟨h1, _, h3, h4⟩ := good_len h
  have hk' : k < ss.length := by omega
  have : ∀ (qs : List (Int × ByteArray)) (s : ByteArray), s.size = 16 → (∀ p ∈ qs, p.2.size = 16) → (qs.foldl (fun s p => if p.1 = (k : Int) then p.2 else s) s).size = 16 := by
    intro qs
    induction qs with
    | nil => intro s hs _; exact hs
    | cons p qs ih =>
      intro s hs hq
      refine ih _ ?_ (fun x hx => hq x (List.mem_cons_of_mem _ hx))
      show (if p.1 = (k : Int) then p.2 else s).size = 16
      split
      · exact hq p (List.mem_cons_self ..)
      · exact hs
  refine this ps _ ?_ (fun p hp => (h4 p hp).2)
  rw [show ss.getD k ⟨#[]⟩ = ss[k] by simp [List.getD, hk']]
  exact h3 _ (List.getElem_mem hk')
/-- The first k sectors, one behind another. -/
def raL (ss : List ByteArray) (ps : List (Int × ByteArray)) : Nat → ByteArray
  | 0 => ⟨#[]⟩
  | k + 1 => raL ss ps k ++ rdL ss ps k
theorem raL_size {ss : List ByteArray} {ps : List (Int × ByteArray)} (h : goodDB ss ps = true) : ∀ {k : Nat}, k ≤ 12 → (raL ss ps k).size = 16 * k
  | 0, _ => rfl
  | k + 1, hk => by rw [raL, size_append9, raL_size h (by omega), rdL_size h (by omega)]; omega
def raI (ss : List ByteArray) (ps : List (Int × ByteArray)) : ByteArray := if goodDB ss ps = true then raL ss ps 12 else ⟨#[]⟩
end Go.Proofs.Ythbjcipdneminaa

/- KS -/
namespace Go.Proofs.Ythbjcipdneminaa
open Go.RowKit

/-- A disk of the call's own. -/
structure OwnD (w : World) (base : Nat) (v1 v2 : Value) (ss : List ByteArray) (ps : List (Int × ByteArray)) : Prop where
  sure : OwnSt w base v1 ss
  later : OwnPu w base v2 ps
  apart : v1.ownBlock = none ∨ v1.ownBlock ≠ v2.ownBlock
theorem OwnD.below {w w' : World} {base : Nat} {v1 v2 : Value} {ss : List ByteArray} {ps : List (Int × ByteArray)} (h : OwnD w base v1 v2 ss ps) (hb : Below w.heap.size w w') : OwnD w' base v1 v2 ss ps := ⟨h.sure.below hb, h.later.below hb, h.apart⟩
theorem OwnD.lower {w : World} {base base' : Nat} {v1 v2 : Value} {ss : List ByteArray} {ps : List (Int × ByteArray)} (h : OwnD w base v1 v2 ss ps) (hb : base' ≤ base) : OwnD w base' v1 v2 ss ps := ⟨h.sure.lower hb, h.later.lower hb, h.apart⟩
theorem byteInfo9 : (Try.prog.info? 5).map (fun i => (i.zero, i.size, i.bytes)) = some (some (.int .u8 0), 1, 1) := by kernel_rfl
def zero16 : ByteArray := strB (List.replicate 16 0)
theorem World.heap_size_alloc9 (w : World) (o : Obj) : (w.alloc o).heap.size = w.heap.size + 1 := by simp
theorem gBelow9 {w w' : World} (h : w.grownBy w' none) : Below w.heap.size w w' := ⟨h.os, h.tape, h.output, h.size, fun k hk => h.block k hk (by simp)⟩
theorem hown9 {w : World} {base j : Nat} {A1 : Option Addr} {n c1 : Nat} {z : ByteArray} {o : Obj} (h : OwnSt w base (.slice A1 n c1) (List.replicate j z)) : (w.alloc o).ownsRow base 9 1 (.slice A1 n c1) j (List.replicate j (.string z)) := by
  have e : (List.replicate j z).flatMap fSt = List.replicate j (Value.string z) := by simp [List.flatMap, List.map_replicate]
  have h2 : w.ownsRow base 9 1 (.slice A1 n c1) j (List.replicate j (.string z)) := by
    have h3 := h
    show World.ownsRow _ _ _ _ _ _ _
    unfold OwnSt OwnR at h3
    rw [e, List.length_replicate] at h3
    exact h3
  exact h2.alloc _
end Go.Proofs.Ythbjcipdneminaa

/- KT -/
namespace Go.Proofs.Ythbjcipdneminaa
open Go.RowKit

/-- A slice is none, or lies in a block. -/
def Lies9 (A : Option Addr) (ca : Nat) : Prop := (A = none ∧ ca = 0) ∨ ∃ b o, A = some ⟨b, o, none⟩
theorem flat_cells {k : Nat} {α : Type} {f : α → List Value} (hk : ∀ x, (f x).length = k) (hk0 : 0 < k) {w : World} {b o : Nat} {L : List α} (h : RdR k f w (some ⟨b, o, none⟩) L) : ∀ t u, (L.flatMap f)[t]? = some u → w.cell? ((⟨b, o, none⟩ : Addr).add t) = some u := fun t u hu => by
  have ht : t < L.length * k := by
    have := (List.getElem?_eq_some_iff.1 hu).1
    rw [flat_len hk] at this; exact this
  have hj : t / k < L.length := Nat.div_lt_of_lt_mul (by rw [Nat.mul_comm]; exact ht)
  have e : t / k * k + t % k = t := by rw [Nat.mul_comm]; exact Nat.div_add_mod t k
  obtain ⟨b', o', e', hc⟩ := h (by rintro rfl; simp at hj)
  injection e' with e'
  injection e' with e1 e2
  subst e1; subst e2
  rw [← e, flat_at hk L _ hj _ (Nat.mod_lt _ hk0)] at hu
  have := hc (t / k) hj (t % k) u hu
  rw [show (⟨b, o, none⟩ : Addr).add t = ⟨b, o + t, none⟩ by unfold Addr.add; split <;> simp_all, ← this]
  congr 2
  omega
/-- append([]T{}, l...): a copy of the call's own. -/
theorem app_copyR {T Ts : TypeId} {k bytes : Nat} {α : Type} {f : α → List Value} (hk : ∀ x, (f x).length = k) (hk0 : 0 < k) (hf : ∀ x, ∀ u ∈ f x, u.oneCell' = true) {i : TypeInfo} {z : Value} (ht : Try.prog.underlying Ts = some (.slice T)) (hi : Try.prog.info? T = some i) (hz : i.zero = some z) (hsize : i.size = k) (hby : i.bytes = bytes) (hzs : z.cells.size = k) (hb16 : bytes ≤ 1000)
    {ops : Array Oper} {rest : List Oper} {o : Oper} {a : Act} {Q : Exit → Act → World → Prop} (W : World) (L : List α) (A : Option Addr) (ca m : Nat) (hm : L.length = m) (Bn : Nat) (hBn : Bn = W.heap.size) (hgd : o.guard = none) (s x : Operand)
    (ho : o.op = .call { callee := .builtin .append, args := #[s, x], argTypes := #[Ts, Ts] }) (hs : a.eval s = .slice (some ⟨Bn, 0, none⟩) 0 0) (hx : a.eval x = .slice A m ca)
    (hA : Lies9 A ca) (hI : RdR k f W A L) (hl : L.length ≤ 1000000)
    (h : ∀ v' w', Hid (OwnR T k f w' W.heap.size v' L ∧ Below W.heap.size W w') → wpList Try.prog ops Q rest (a.put o.dst v') w') :
    wpList Try.prog ops Q (o :: rest) a (W.alloc (.cells #[] T)) := by
  subst hBn
  subst hm
  have hO : OwnR T k f (W.alloc (.cells #[] T)) W.heap.size (.slice (some ⟨W.heap.size, 0, none⟩) 0 0) ([] : List α) :=
    ⟨by simp, Or.inr ⟨W.heap.size, 0, #[], rfl, Nat.le_refl _, heap_alloc_new _ _, Nat.le_refl _, by unfold maxLen; omega, by simp, by simp⟩⟩
  have hB : Below W.heap.size W (W.alloc (.cells #[] T)) := gAlloc _ _
  rcases hA with ⟨rfl, rfl⟩ | ⟨b0, o0, rfl⟩
  · have hL0 : L = [] := by
      cases L with
      | nil => rfl
      | cons x l =>
        obtain ⟨b, o, e, _⟩ := hI (by simp)
        cases e
    subst hL0
    exact wpList_append_own_none hgd s x Ts ho W.heap.size T i k ht hi _ 0 [] hs hO hx (h _ _ ⟨hO, hB⟩)
  · refine wpList_append_own _ hgd s x Ts ho W.heap.size T i z k bytes ht hi hz hsize hby hzs hk0 _ 0 [] hs hO ⟨b0, o0, none⟩ L.length ca (L.flatMap f) hx (flat_len hk L) (flat_cells hk hk0 (hI.below hB)) ?_ ?_ ?_ ?_ ?_
    · intro u hu
      obtain ⟨y, _, hy⟩ := List.mem_flatMap.1 hu
      exact hf y u hy
    · unfold maxLen; omega
    · have : (0 + L.length) * bytes ≤ (0 + L.length) * 1000 := Nat.mul_le_mul_left _ hb16
      omega
    · simp
    · intro v' w' h1 h2 _
      refine h v' w' ⟨?_, hB.grown h2 (by simp) (fun g hg => by simp [Value.ownBlock] at hg; omega)⟩
      unfold OwnR
      simpa using h1
theorem app_copySt {ops : Array Oper} {rest : List Oper} {o : Oper} {a : Act} {Q : Exit → Act → World → Prop} (W : World) (L : List ByteArray) (A : Option Addr) (ca m : Nat) (hm : L.length = m) (Bn : Nat) (hBn : Bn = W.heap.size) (hgd : o.guard = none) (s x : Operand)
    (ho : o.op = .call { callee := .builtin .append, args := #[s, x], argTypes := #[29, 29] }) (hs : a.eval s = .slice (some ⟨Bn, 0, none⟩) 0 0) (hx : a.eval x = .slice A m ca)
    (hA : Lies9 A ca) (hI : Strs W A L) (hl : L.length ≤ 1000000)
    (h : ∀ v' w', Hid (OwnSt w' W.heap.size v' L ∧ Below W.heap.size W w') → wpList Try.prog ops Q rest (a.put o.dst v') w') :
    wpList Try.prog ops Q (o :: rest) a (W.alloc (.cells #[] 9)) := by
  obtain ⟨i0, hi, hz0, hz1, hz2⟩ := info_parts stInfo
  exact app_copyR fSt_len (by decide) fSt_one Try.underlying29 hi hz0 hz1 hz2 rfl (by decide) W L A ca m hm Bn hBn hgd s x ho hs hx hA hI hl h
/-- The sectors behind the writes. -/
def syncL (ss : List ByteArray) (ps : List (Int × ByteArray)) : List ByteArray := ps.foldl (fun s p => s.set p.1.toNat p.2) ss
theorem syncL_snoc (ss : List ByteArray) {ps : List (Int × ByteArray)} {j : Nat} (hj : j < ps.length) : syncL ss (ps.take (j + 1)) = (syncL ss (ps.take j)).set ps[j].1.toNat ps[j].2 := by
  rw [syncL, List.take_succ_eq_append_getElem hj, List.foldl_append]; rfl
theorem syncL_length (ss : List ByteArray) (ps : List (Int × ByteArray)) : (syncL ss ps).length = ss.length := by
  unfold syncL
  induction ps generalizing ss with
  | nil => rfl
  | cons p ps ih => rw [List.foldl_cons, ih, List.length_set]
def syI (ss : List ByteArray) (ps : List (Int × ByteArray)) : List ByteArray := if goodDB ss ps = true then syncL ss ps else []
end Go.Proofs.Ythbjcipdneminaa

/- KU -/
namespace Go.Proofs.Ythbjcipdneminaa
open Go.RowKit

/-- One write at a crash: kept, torn, or lost. -/
def keepS (ks : List Int) (k : Nat) (s : List ByteArray) (p : Int × ByteArray) : List ByteArray := if (k : Int) ∈ ks then s.set p.1.toNat p.2 else s
def tornT (b : Nat) (s : List ByteArray) (p : Int × ByteArray) : ByteArray := p.2.extract 0 b ++ (s.getD p.1.toNat ⟨#[]⟩).extract b 16
def crStep (ks : List Int) (torn : Int) (b k : Nat) (s : List ByteArray) (p : Int × ByteArray) : List ByteArray := if (k : Int) = torn then (keepS ks k s p).set p.1.toNat (tornT b (keepS ks k s p) p) else keepS ks k s p
def crL (ks : List Int) (torn : Int) (b : Nat) (ss : List ByteArray) (ps : List (Int × ByteArray)) : Nat → List ByteArray
  | 0 => ss
  | k + 1 => crStep ks torn b k (crL ks torn b ss ps k) (ps.getD k (0, ⟨#[]⟩))
theorem whole9 (y : ByteArray) {b : Nat} (h : b ≤ 16) : y.extract 0 b ++ y.extract b 16 = y.extract 0 16 := by
  rw [ByteArray.extract_append_extract]
  congr 1 <;> omega
def Good16 (s : List ByteArray) : Prop := s.length = 12 ∧ ∀ x ∈ s, x.size = 16
theorem Good16.set {s : List ByteArray} (h : Good16 s) {q : Nat} {y : ByteArray} (hy : y.size = 16) : Good16 (s.set q y) := ⟨by rw [List.length_set]; exact h.1, fun x hx => by
  rcases List.mem_or_eq_of_mem_set hx with h' | rfl
  · exact h.2 x h'
  · exact hy⟩
theorem Good16.keep {s : List ByteArray} (h : Good16 s) (ks : List Int) (k : Nat) {p : Int × ByteArray} (hp : p.2.size = 16) : Good16 (keepS ks k s p) := by
  unfold keepS; split
  · exact h.set hp
  · exact h
theorem Good16.at {s : List ByteArray} (h : Good16 s) {q : Nat} (hq : q < 12) : (s.getD q ⟨#[]⟩).size = 16 := by
  have hq' : q < s.length := by rw [h.1]; exact hq
  rw [show s.getD q ⟨#[]⟩ = s[q] by simp [List.getD, hq']]
  exact h.2 _ (List.getElem_mem hq')
theorem torn_size {b : Nat} {s : List ByteArray} {p : Int × ByteArray} (h : Good16 s) (hp : p.2.size = 16) (hq : p.1.toNat < 12) (hb : b ≤ 16) : (tornT b s p).size = 16 := by
  rw [tornT, size_append9, ByteArray.size_extract, ByteArray.size_extract, h.at hq, hp]; omega
theorem Good16.step {s : List ByteArray} (h : Good16 s) (ks : List Int) (torn : Int) {b : Nat} (k : Nat) {p : Int × ByteArray} (hp : p.2.size = 16) (hq : p.1.toNat < 12) (hb : b ≤ 16) : Good16 (crStep ks torn b k s p) := by
  unfold crStep; split
  · exact (h.keep ks k hp).set (torn_size (h.keep ks k hp) hp hq hb)
  · exact h.keep ks k hp
end Go.Proofs.Ythbjcipdneminaa

/- KV -/
namespace Go.Proofs.Ythbjcipdneminaa
open Go.RowKit

def crOkB (ss : List ByteArray) (ps : List (Int × ByteArray)) (ks : List Int) (torn b : Int) : Bool := goodDB ss ps && (risB 0 (ps.length : Int) ks && (inB torn (-1) ((ps.length : Int) - 1) && (!decide (torn ∈ ks) && (inB b 0 16 && !(decide (torn < 0) && decide (0 < b))))))
def crI (ss : List ByteArray) (ps : List (Int × ByteArray)) (ks : List Int) (torn b : Int) : List ByteArray := if crOkB ss ps ks torn b = true then crL ks torn b.toNat ss ps ps.length else []
theorem cr_not {ss : List ByteArray} {ps : List (Int × ByteArray)} {ks : List Int} {torn b : Int} (h : crOkB ss ps ks torn b = false) : crI ss ps ks torn b = [] ∧ crOkB ss ps ks torn b = false := ⟨by rw [crI, h]; rfl, h⟩
end Go.Proofs.Ythbjcipdneminaa

/- KZ -/
namespace Go.Proofs.Ythbjcipdneminaa
open Go.RowKit

/-- An empty literal lies in block B. -/
def Lit0 (T : TypeId) (w : World) (B : Nat) : Prop := w.heap[B]? = some (.cells #[] T (0, 0))
theorem Lit0.new (T : TypeId) (w : World) : Lit0 T (w.alloc (.cells #[] T)) w.heap.size := heap_alloc_new _ _
theorem Lit0.new' {T : TypeId} {w : World} {B : Nat} (h : B = w.heap.size) : Lit0 T (w.alloc (.cells #[] T)) B := by subst h; exact Lit0.new T w
theorem Lit0.newD {T : TypeId} {w : World} {B : Nat} (h : B = w.heap.size) : Lit0 T (w.alloc (.cells #[] T)).drew B := Lit0.new' h
theorem Lit0.lt {T : TypeId} {w : World} {B : Nat} (h : Lit0 T w B) : B < w.heap.size := heap_lt h
theorem Lit0.below {T : TypeId} {w w' : World} {B : Nat} (h : Lit0 T w B) (hb : Below w.heap.size w w') : Lit0 T w' B := (hb.block B h.lt).trans h
theorem Lit0.oldD {T : TypeId} {w : World} {B : Nat} {o : Obj} (h : B = w.heap.size) : Lit0 T ((w.alloc (.cells #[] T)).alloc o).drew B := (Lit0.new' h).below (below_more (gAlloc _ _) gDrew)
/-- A copy of a slice, made behind an empty literal in block B. -/
structure Copied (T : TypeId) (k : Nat) {α : Type} (f : α → List Value) (W : World) (B base : Nat) (L : List α) (v : Value) (w' : World) : Prop where
  own : OwnR T k f w' base v L
  grown : W.grownBy w' (some B)
  at_ : v.ownBlock = some B ∨ v.ownBlock = some W.heap.size
theorem run_copyR {T Ts ty : TypeId} {k bytes : Nat} {α : Type} {f : α → List Value} (hk : ∀ x, (f x).length = k) (hk0 : 0 < k) (hf : ∀ x, ∀ u ∈ f x, u.oneCell' = true) {i : TypeInfo} {z : Value} (ht : Try.prog.underlying Ts = some (.slice T)) (hi : Try.prog.info? T = some i) (hz : i.zero = some z) (hsize : i.size = k) (hby : i.bytes = bytes) (hzs : z.cells.size = k) (hb16 : bytes ≤ 1000)
    (W : World) (L : List α) (A : Option Addr) (ca m : Nat) (hm : L.length = m) (B base : Nat) (hB : Lit0 T W B) (hbase : base ≤ B) (hA : Lies9 A ca) (hI : RdR k f W A L) (hl : L.length ≤ 1000000) :
    ∃ v' w', (Builtin.append_ #[Ts, Ts] ty #[.slice (some ⟨B, 0, none⟩) 0 0, .slice A m ca]).run Try.prog W = .ok v' w' ∧ Copied T k f W B base L v' w' := by
  subst hm
  have hO : W.ownsRow base T k (.slice (some ⟨B, 0, none⟩) 0 0) 0 [] :=
    ⟨by simp, Or.inr ⟨B, 0, #[], rfl, hbase, hB, Nat.le_refl _, by unfold maxLen; omega, by simp, by simp⟩⟩
  rcases hA with ⟨rfl, rfl⟩ | ⟨b0, o0, rfl⟩
  · have hL0 : L = [] := by
      cases L with
      | nil => rfl
      | cons x l =>
        obtain ⟨b, o, e, _⟩ := hI (by simp)
        cases e
    subst hL0
    exact ⟨_, W, run_append_owned_none W base Ts ty T i k ht hi _ 0 [] hO, ⟨hO, gBelowR (Below.refl _ _) _, Or.inl rfl⟩⟩
  · obtain ⟨v', w', hr, h2, h3, _, h5⟩ := run_append_own_at (P := Try.prog) W base Ts ty T i z k bytes ht hi hz hsize hby hzs hk0 _ 0 [] hO ⟨b0, o0, none⟩ L.length ca (L.flatMap f) (flat_len hk L) (flat_cells hk hk0 hI) (fun u hu => by
      obtain ⟨y, _, hy⟩ := List.mem_flatMap.1 hu
      exact hf y u hy) (by unfold maxLen; omega) (by
      have : (0 + L.length) * bytes ≤ (0 + L.length) * 1000 := Nat.mul_le_mul_left _ hb16
      omega) (Nat.le_trans hbase (Nat.le_of_lt hB.lt))
    refine ⟨v', w', hr, ⟨by unfold OwnR; simpa using h2, h3, h5⟩⟩
theorem Copied.cell {T : TypeId} {k : Nat} {α : Type} {f : α → List Value} {W w' : World} {B base : Nat} {L : List α} {v : Value} (h : Copied T k f W B base L v w') {a : Addr} {u : Value} (hne : a.block ≠ B) (hc : W.cell? a = some u) : w'.cell? a = some u :=
  h.grown.cell hc (by intro e; injection e with e; exact hne e)
theorem Copied.lit {T T' : TypeId} {k : Nat} {α : Type} {f : α → List Value} {W w' : World} {B B' base : Nat} {L : List α} {v : Value} (h : Copied T k f W B base L v w') (hne : B' ≠ B) (hc : Lit0 T' W B') : Lit0 T' w' B' :=
  (h.grown.block B' hc.lt (by intro e; injection e with e; exact hne e)).trans hc
/-- Two copies, one behind the other. -/
theorem two_copied {T1 T2 : TypeId} {k1 k2 : Nat} {α β : Type} {f1 : α → List Value} {f2 : β → List Value} {w0 W1 w1 W2 w2 : World} {B1 B2 base : Nat} {L1 : List α} {L2 : List β} {v1 v2 : Value}
    (h1 : Copied T1 k1 f1 W1 B1 base L1 v1 w1) (h12 : Below w1.heap.size w1 W2) (h2 : Copied T2 k2 f2 W2 B2 base L2 v2 w2) (hne : B2 ≠ B1) (hB : B2 < W1.heap.size ∨ w1.heap.size ≤ B2) (hb1 : base ≤ B1) (hb2 : base ≤ B2) (hb0 : base ≤ W1.heap.size) (h0 : Below base w0 W1) :
    OwnR T1 k1 f1 w2 base v1 L1 ∧ OwnR T2 k2 f2 w2 base v2 L2 ∧ (v1.ownBlock = none ∨ v1.ownBlock ≠ v2.ownBlock) ∧ Below base w0 w2 := by
  have hlt := h1.own.lt
  have hat := h1.at_
  have hs1 := h1.grown.size
  have hs2 := h12.size
  have ha2 : v1.ownBlock ≠ some B2 := fun e => by
    rcases hat with h | h
    · rw [h] at e; injection e with e; exact hne e.symm
    · have hl := (hlt _ h).2
      rw [h] at e; injection e with e
      rcases hB with hB | hB
      · omega
      · omega
  refine ⟨(h1.own.below h12).kept h2.grown (Or.inr ha2), h2.own, ?_, ?_⟩
  · rcases h2.at_ with h | h
    · rw [h]; exact Or.inr ha2
    · refine Or.inr fun e => ?_
      rw [h] at e
      have := (hlt _ e).2
      omega
  · have hb1' : Below base w0 w1 := h0.grown h1.grown hb0 (fun k hk => by injection hk with hk; omega)
    have hbW : Below base w0 W2 := hb1'.trans (h12.mono (by omega))
    exact hbW.grown h2.grown (by omega) (fun k hk => by injection hk with hk; omega)
/-- The same, as one step of a region that draws its order. -/
theorem step_copyR {T Ts : TypeId} {k bytes : Nat} {α : Type} {f : α → List Value} (hk : ∀ x, (f x).length = k) (hk0 : 0 < k) (hf : ∀ x, ∀ u ∈ f x, u.oneCell' = true) {i : TypeInfo} {z : Value} (ht : Try.prog.underlying Ts = some (.slice T)) (hi : Try.prog.info? T = some i) (hz : i.zero = some z) (hsize : i.size = k) (hby : i.bytes = bytes) (hzs : z.cells.size = k) (hb16 : bytes ≤ 1000)
    {ops : Array Oper} {o : Oper} {a : Act} {K : Act → World → Prop} {Q : Exit → Act → World → Prop} {E : Prop} (W : World) (L : List α) (A : Option Addr) (ca m : Nat) (hm : L.length = m) (B base : Nat) (hgd : o.guard = none) (s x : Operand)
    (ho : o.op = .call { callee := .builtin .append, args := #[s, x], argTypes := #[Ts, Ts] }) (hs : a.eval s = .slice (some ⟨B, 0, none⟩) 0 0) (hx : a.eval x = .slice A m ca)
    (hB : Lit0 T W B) (hbase : base ≤ B) (hA : Lies9 A ca) (hI : RdR k f W A L) (hl : L.length ≤ 1000000)
    (h : ∀ v' w', Hid (Copied T k f W B base L v' w') → K (a.put o.dst v') w') :
    if Region.wanted o (yielded ops a.tmps) = true then Oper.wp Try.prog o a W K Q else E := by
  have hw : Region.wanted o (yielded ops a.tmps) = true := by simp [Region.wanted, hgd]
  rw [if_pos hw]
  obtain ⟨v', w', hr, hc⟩ := run_copyR (ty := o.type) hk hk0 hf ht hi hz hsize hby hzs hb16 W L A ca m hm B base hB hbase hA hI hl
  unfold Oper.wp execOp
  simp only [ho, resolve, invoke, builtin, Sem.run_bind, Sem.run_pure, Result.andThen_ok, List.map_toArray, List.map_cons, List.map_nil, hs, hx, hr]
  exact h v' w' hc
theorem step_copySt {ops : Array Oper} {o : Oper} {a : Act} {K : Act → World → Prop} {Q : Exit → Act → World → Prop} {E : Prop} (W : World) (L : List ByteArray) (A : Option Addr) (ca m : Nat) (hm : L.length = m) (B base : Nat) (hgd : o.guard = none) (s x : Operand)
    (ho : o.op = .call { callee := .builtin .append, args := #[s, x], argTypes := #[29, 29] }) (hs : a.eval s = .slice (some ⟨B, 0, none⟩) 0 0) (hx : a.eval x = .slice A m ca)
    (hB : Lit0 9 W B) (hbase : base ≤ B) (hA : Lies9 A ca) (hI : Strs W A L) (hl : L.length ≤ 1000000)
    (h : ∀ v' w', Hid (Copied 9 1 fSt W B base L v' w') → K (a.put o.dst v') w') :
    if Region.wanted o (yielded ops a.tmps) = true then Oper.wp Try.prog o a W K Q else E := by
  obtain ⟨i0, hi, hy0, hy1, hy2⟩ := info_parts stInfo
  exact step_copyR fSt_len (by decide) fSt_one Try.underlying29 hi hy0 hy1 hy2 rfl (by decide) W L A ca m hm B base hgd s x ho hs hx hB hbase hA hI hl h
theorem step_copyPu {ops : Array Oper} {o : Oper} {a : Act} {K : Act → World → Prop} {Q : Exit → Act → World → Prop} {E : Prop} (W : World) (L : List (Int × ByteArray)) (A : Option Addr) (ca m : Nat) (hm : L.length = m) (B base : Nat) (hgd : o.guard = none) (s x : Operand)
    (ho : o.op = .call { callee := .builtin .append, args := #[s, x], argTypes := #[34, 34] }) (hs : a.eval s = .slice (some ⟨B, 0, none⟩) 0 0) (hx : a.eval x = .slice A m ca)
    (hB : Lit0 67 W B) (hbase : base ≤ B) (hA : Lies9 A ca) (hI : Puts W A L) (hl : L.length ≤ 1000000)
    (h : ∀ v' w', Hid (Copied 67 2 fPu W B base L v' w') → K (a.put o.dst v') w') :
    if Region.wanted o (yielded ops a.tmps) = true then Oper.wp Try.prog o a W K Q else E := by
  obtain ⟨i0, hi, hy0, hy1, hy2⟩ := info_parts puInfo
  exact step_copyR fPu_len (by decide) fPu_one Try.underlying34 hi hy0 hy1 hy2 rfl (by decide) W L A ca m hm B base hgd s x ho hs hx hB hbase hA hI hl h
theorem World.heap_size_drew9 (w : World) : w.drew.heap.size = w.heap.size := rfl
theorem gBox9 (w : World) (o : Obj) (x : Obj) : ((w.alloc o).alloc x).heap[w.heap.size]? = some o := by
  rw [heap_alloc_old _ _ _ (by simp)]; exact heap_alloc_new _ _
set_option maxRecDepth 100000 in
set_option maxHeartbeats 8000000 in
theorem sOwn9 (A B : Option Addr) (ss : List ByteArray) (ps : List (Int × ByteArray)) (ca cb : Nat) (w : World) (hd : DiskIn w A B ss ps) (hA : Lies9 A ca) (hB : Lies9 B cb) (hl : ss.length ≤ 1000000) (hl2 : ps.length ≤ 1000000) :
    Calls Try.prog 42 #[diskV (.slice A ss.length ca) (.slice B ps.length cb)] w fun e w' => ∃ v1 v2, e = .returned (diskV v1 v2) ∧ OwnD w' w.heap.size v1 v2 ss ps ∧ Below w.heap.size w w' := by
  obtain ⟨W, hW⟩ : ∃ W, (w.alloc (.cells #[.slice A ss.length ca, .slice B ps.length cb] 36)).alloc (.cells #[.slice none 0 0, .slice none 0 0] 36) = W := ⟨_, rfl⟩
  have hbW : Below w.heap.size w W := by rw [← hW]; exact gAlloc2 _ _ _
  have hsW : W.heap.size = w.heap.size + 2 := by rw [← hW]; simp
  have hx0 : W.cell? ⟨w.heap.size, 0, none⟩ = some (.slice A ss.length ca) := by rw [← hW]; exact cell_of_row _ _ 0 _ _ _ (gBox9 _ _ _)
  have hx1 : W.cell? ⟨w.heap.size, 1, none⟩ = some (.slice B ps.length cb) := by rw [← hW]; exact cell_of_row _ _ 1 _ _ _ (gBox9 _ _ _)
  have hz : W.heap[w.heap.size + 1]? = some (.cells #[.slice none 0 0, .slice none 0 0] 36 (0, 0)) := by
    rw [← hW, show w.heap.size + 1 = (w.alloc (.cells #[.slice A ss.length ca, .slice B ps.length cb] 36)).heap.size by simp]; exact heap_alloc_new _ _
  have HSt := Lib.hid (hd.sure.below hbW)
  have HPu := Lib.hid (hd.later.below hbW)
  have HBW := Lib.hid hbW
  have HZ := Lib.hid hz
  have HBW2 : Hid (Below w.heap.size w W) := HBW.out
  clear hd hbW hz
  go_enter Try.func42, Try.ntmps42
  go_wp2_with fail
  generalize hX : w.heap.size = X at *
  clear hW
  go_region_held3 (fun w' => w'.cell? ⟨X, 0, none⟩ = some (.slice A ss.length ca) ∧ w'.cell? ⟨X, 1, none⟩ = some (.slice B ps.length cb))
    (first
      | exact ⟨hx0, hx1⟩
      | go_keep
      | exact ⟨hcP.out.cell (a := ⟨X, 0, none⟩) (by show X ≠ _; omega) (by apply And.left; assumption), hcP.out.cell (a := ⟨X, 1, none⟩) (by show X ≠ _; omega) (by apply And.right; assumption)⟩
      | exact ⟨hcS.out.cell (a := ⟨X, 0, none⟩) (by show X ≠ _; omega) (by first | exact hx0 | go_keep), hcS.out.cell (a := ⟨X, 1, none⟩) (by show X ≠ _; omega) (by first | exact hx1 | go_keep)⟩)
    (first
    | (refine step_copySt _ ss A ca ss.length (by rfl) _ (X + 2) (by rfl) (.tmp 3) (.tmp 5) (by rfl) (by rfl) (by rfl) (by first | exact Lit0.newD (by omega) | exact Lit0.newD (by simp only [World.heap_size_alloc9]; omega) | exact Lit0.oldD (by omega)) (by omega) hA (HSt.out.below (by first | exact below_more (gAlloc _ _) gDrew | exact below_more (gAlloc2 _ _ _) gDrew)) hl ?_; intro vS wS hcS; have hsS := hcS.out.grown.size; rw [World.heap_size_drew9] at hsS; simp only [World.heap_size_alloc9] at hsS; obtain ⟨AS, cS, rfl, _⟩ := hcS.out.own.form fSt_len; have hbS : Below W.heap.size W wS := (show Below W.heap.size W _ by first | exact below_more (gAlloc _ _) gDrew | exact below_more (gAlloc2 _ _ _) gDrew).grown hcS.out.grown (by rw [World.heap_size_drew9]; simp only [World.heap_size_alloc9]; omega) (fun k hk => by injection hk with hk; omega); have hZS : wS.heap[X + 1]? = some (.cells #[.slice none 0 0, .slice none 0 0] 36 (0, 0)) := (hcS.out.grown.block (X + 1) (by rw [World.heap_size_drew9]; simp only [World.heap_size_alloc9]; omega) (by intro e; injection e with e; omega)).trans (by first | exact (heap_alloc_old _ _ _ (by omega)).trans HZ.out | exact (heap_alloc_old _ _ _ (by simp only [World.heap_size_alloc9]; omega)).trans ((heap_alloc_old _ _ _ (by omega)).trans HZ.out)))
    | (refine step_copyPu _ ps B cb ps.length (by rfl) _ (X + 2) (by rfl) (.tmp 7) (.tmp 9) (by rfl) (by rfl) (by rfl) (by first | exact Lit0.new' (by rfl) | exact hcS.out.lit (by omega) (Lit0.oldD (by omega)) | exact hcS.out.lit (by omega) (Lit0.newD (by first | omega | (simp only [World.heap_size_alloc9]; omega)))) (by omega) hB (HPu.out.below (by first | exact hbS | exact below_more hbS (gAlloc _ _))) hl2 ?_; intro vP wP hcP; obtain ⟨AP, cP, rfl, _⟩ := hcP.out.own.form fPu_len; have hZP : wP.heap[X + 1]? = some (.cells #[.slice none 0 0, .slice none 0 0] 36 (0, 0)) := (hcP.out.grown.block (X + 1) (by first | omega | (simp only [World.heap_size_alloc9]; omega)) (by intro e; injection e with e; omega)).trans (by first | exact hZS | exact (heap_alloc_old _ _ _ (by omega)).trans hZS); have p0 := cell_of_row wP _ 0 _ _ _ hZP; have p1 := cell_of_row wP _ 1 _ _ _ hZP; have f0 := frozen_of_row wP _ 0 _ _ hZP; have f1 := frozen_of_row wP _ 1 _ _ hZP; simp at p0 p1))
  all_goals
    obtain ⟨H1, H2, H3, H4⟩ := two_copied (w0 := W) hcS.out (by first | exact Below.refl _ _ | exact gAlloc _ _) hcP.out (by omega) (by first | exact Or.inr (Nat.le_refl _) | exact Or.inl (by rw [World.heap_size_drew9]; simp only [World.heap_size_alloc9]; omega)) (by omega) (by omega) (by rw [World.heap_size_drew9]; simp only [World.heap_size_alloc9]; omega) (by first | exact (below_more (gAlloc _ _) gDrew).mono (by omega) | exact (below_more (gAlloc2 _ _ _) gDrew).mono (by omega))
    have K1 := Lib.hid H1
    have K2 := Lib.hid H2
    have K3 := Lib.hid H3
    have K4 := Lib.hid (HBW2.out.trans (H4.mono (by omega)))
    have KZ := Lib.hid hZP
    clear H1 H2 H3 H4 hcS hcP hZS hbS hsS
    go_wp2_with fail
    have g0 := gSet9 wP (X + 1) 0 (.slice AS ss.length cS)
    have g1 := gSet9 (wP.setCell ⟨X + 1, 0, none⟩ (.slice AS ss.length cS)) (X + 1) 1 (.slice AP ps.length cP)
    refine ret_dk rfl (X + 1) _ _ rfl (heap_setCell_same _ _ 1 _ _ _ (heap_setCell_same _ _ 0 _ _ _ KZ.out)) rfl ⟨_, _, rfl, ⟨?_, ?_, K3.out⟩, ?_⟩
    · rw [hX]; exact ((K1.out.cur (by omega) g0).cur (by omega) g1).lower (by omega)
    · rw [hX]; exact ((K2.out.cur (by omega) g0).cur (by omega) g1).lower (by omega)
    · rw [hX]; exact (K4.out.setCell (by show X ≤ X + 1; omega) _).setCell (by show X ≤ X + 1; omega) _
/-- append(l, p), and where the new slice lies. -/
theorem app_rowL {T Ts : TypeId} {k bytes : Nat} {α : Type} {f : α → List Value} (hk : ∀ x, (f x).length = k) (hk0 : 0 < k) (hf : ∀ x, ∀ u ∈ f x, u.oneCell' = true) {i : TypeInfo} {z : Value} (ht : Try.prog.underlying Ts = some (.slice T)) (hi : Try.prog.info? T = some i) (hz : i.zero = some z) (hsize : i.size = k) (hby : i.bytes = bytes) (hzs : z.cells.size = k) (hb16 : bytes ≤ 1000)
    {ops : Array Oper} {rest : List Oper} {o : Oper} {a : Act} {Q : Exit → Act → World → Prop} (W : World) (base : Nat) (v : Value) (L : List α) (y : α) (Bn : Nat) (hBn : Bn = W.heap.size) (hgd : o.guard = none) (s x : Operand)
    (ho : o.op = .call { callee := .builtin .append, args := #[s, x], argTypes := #[Ts, Ts] }) (hs : a.eval s = v) (hx : a.eval x = .slice (some ⟨Bn, 0, none⟩) 1 1)
    (hown : OwnR T k f W base v L) (hbase : base ≤ W.heap.size) (hlen : L.length ≤ 2000000) (w0 : World) (hb : Below base w0 W)
    (h : ∀ v' w', Hid (OwnR T k f w' base v' (L ++ [y]) ∧ Below base w0 w' ∧ (W.alloc (.cells (f y).toArray T)).grownBy w' v.ownBlock ∧ (v'.ownBlock = v.ownBlock ∨ v'.ownBlock = some (W.heap.size + 1))) → wpList Try.prog ops Q rest (a.put o.dst v') w') :
    wpList Try.prog ops Q (o :: rest) a (W.alloc (.cells (f y).toArray T)) := by
  subst hBn
  have hown' : W.ownsRow base T k v L.length (L.flatMap f) := hown
  refine wpList_append_own_at _ hgd s x Ts ho base T i z k bytes ht hi hz hsize hby hzs hk0 v L.length _ hs (hown'.alloc _) ⟨W.heap.size, 0, none⟩ 1 1 (f y) hx (by rw [hk]; omega) (fun j u hu => ?_) (hf y) ?_ ?_ ?_ ?_
  · have e1 : (⟨W.heap.size, 0, none⟩ : Addr).add j = ⟨W.heap.size, j, none⟩ := by unfold Addr.add; split <;> simp_all
    rw [e1, cell_of_row _ _ j _ _ _ (heap_alloc_new _ _)]
    simpa using hu
  · unfold maxLen; omega
  · have : (L.length + 1) * bytes ≤ (L.length + 1) * 1000 := Nat.mul_le_mul_left _ hb16
    omega
  · simp; omega
  · intro v' w' h1 h2 _ h4
    refine h v' w' ⟨?_, (hb.alloc hbase _).grown h2 (by simp; omega) (fun g hg => (World.ownsRow.lt hown g hg).1), h2, by rw [World.heap_size_alloc9] at h4; exact h4⟩
    unfold OwnR
    rw [List.length_append, List.flatMap_append]
    simpa using h1
theorem app_puL {ops : Array Oper} {rest : List Oper} {o : Oper} {a : Act} {Q : Exit → Act → World → Prop} (W : World) (base : Nat) (v : Value) (L : List (Int × ByteArray)) (x0 : Int) (y : ByteArray) (Bn : Nat) (hBn : Bn = W.heap.size) (hgd : o.guard = none) (s x : Operand)
    (ho : o.op = .call { callee := .builtin .append, args := #[s, x], argTypes := #[34, 34] }) (hs : a.eval s = v) (hx : a.eval x = .slice (some ⟨Bn, 0, none⟩) 1 1)
    (hown : OwnPu W base v L) (hbase : base ≤ W.heap.size) (hlen : L.length ≤ 2000000) (w0 : World) (hb : Below base w0 W)
    (h : ∀ v' w', Hid (OwnPu w' base v' (L ++ [(x0, y)]) ∧ Below base w0 w' ∧ (W.alloc (.cells #[.int .i64 x0, .string y] 67)).grownBy w' v.ownBlock ∧ (v'.ownBlock = v.ownBlock ∨ v'.ownBlock = some (W.heap.size + 1))) → wpList Try.prog ops Q rest (a.put o.dst v') w') :
    wpList Try.prog ops Q (o :: rest) a (W.alloc (.cells #[.int .i64 x0, .string y] 67)) := by
  obtain ⟨i0, hi, hz0, hz1, hz2⟩ := info_parts puInfo
  exact app_rowL fPu_len (by decide) fPu_one Try.underlying34 hi hz0 hz1 hz2 rfl (by decide) W base v L (x0, y) Bn hBn hgd s x ho hs hx hown hbase hlen w0 hb h

def puOkB (ss : List ByteArray) (ps : List (Int × ByteArray)) (k : Int) (y : ByteArray) : Bool := goodDB ss ps && (inB k 0 11 && (decide (y.size = 16) && !decide (ps.length = 40)))
def puS (ss : List ByteArray) (ps : List (Int × ByteArray)) (k : Int) (y : ByteArray) : List ByteArray := if puOkB ss ps k y = true then ss else []
def puP (ss : List ByteArray) (ps : List (Int × ByteArray)) (k : Int) (y : ByteArray) : List (Int × ByteArray) := if puOkB ss ps k y = true then ps ++ [(k, y)] else []
theorem pu_not {ss : List ByteArray} {ps : List (Int × ByteArray)} {k : Int} {y : ByteArray} (h : puOkB ss ps k y = false) : puS ss ps k y = [] ∧ puP ss ps k y = [] ∧ puOkB ss ps k y = false := ⟨by rw [puS, h]; rfl, by rw [puP, h]; rfl, h⟩
theorem pu_yes {ss : List ByteArray} {ps : List (Int × ByteArray)} {k : Int} {y : ByteArray} (h : puOkB ss ps k y = true) : puS ss ps k y = ss ∧ puP ss ps k y = ps ++ [(k, y)] ∧ puOkB ss ps k y = true := ⟨by rw [puS, h]; rfl, by rw [puP, h]; rfl, h⟩
theorem OwnD.nil (w : World) (base : Nat) : OwnD w base (.slice none 0 0) (.slice none 0 0) [] [] := ⟨OwnR.nil _ _, OwnR.nil _ _, Or.inl rfl⟩
set_option maxRecDepth 100000 in
set_option maxHeartbeats 4000000 in
theorem sPut_any (A B : Option Addr) (ss : List ByteArray) (ps : List (Int × ByteArray)) (ca cb : Nat) (k : Int) (y : ByteArray) (w : World) (hd : DiskIn w A B ss ps) (hA : Lies9 A ca) (hB : Lies9 B cb) :
    Calls Try.prog 24 #[diskV (.slice A ss.length ca) (.slice B ps.length cb), .int .i64 k, .string y] w fun e w' => ∃ v1 v2, e = .returned (.tuple #[diskV v1 v2, .bool (puOkB ss ps k y)]) ∧ OwnD w' w.heap.size v1 v2 (puS ss ps k y) (puP ss ps k y) ∧ Below w.heap.size w w' := by
  obtain ⟨W, hW⟩ : ∃ W, (w.alloc (.cells #[.slice A ss.length ca, .slice B ps.length cb] 36)).alloc (.cells #[.slice none 0 0, .slice none 0 0] 36) = W := ⟨_, rfl⟩
  have hbW : Below w.heap.size w W := by rw [← hW]; exact gAlloc2 _ _ _
  have hsW : W.heap.size = w.heap.size + 2 := by rw [← hW]; simp
  have h1 : W.heap[w.heap.size]? = some (.cells #[.slice A ss.length ca, .slice B ps.length cb] 36 (0, 0)) := by rw [← hW]; exact gBox9 _ _ _
  have h2 : W.heap[w.heap.size + 1]? = some (.cells #[.slice none 0 0, .slice none 0 0] 36 (0, 0)) := by
    rw [← hW, show w.heap.size + 1 = (w.alloc (.cells #[.slice A ss.length ca, .slice B ps.length cb] 36)).heap.size by simp]; exact heap_alloc_new _ _
  have HD := Lib.hid (hd.below hbW)
  have HG := Lib.hid (sGoodD_any A B ss ps ca cb _ HD.out)
  have HBW := Lib.hid hbW
  have H1 := Lib.hid h1
  have H2 := Lib.hid h2
  have hl1 := hd.len
  have hl2 := hd.len2
  have hy0 : W.cell? ⟨w.heap.size, 0, none⟩ = some (.slice A ss.length ca) := cell_of_row W _ 0 _ _ _ h1
  have hy1 : W.cell? ⟨w.heap.size, 1, none⟩ = some (.slice B ps.length cb) := cell_of_row W _ 1 _ _ _ h1
  have HY : Hid ((y.size : Int) = (y.size : Nat)) := rfl
  clear hd hbW
  go_enter Try.func24, Try.ntmps24
  go_wp2_with fail
  have HW := Lib.hid hW
  clear hW hy0 hy1
  refine HG.out.mono ?_
  rintro e w1 ⟨rfl, hb1⟩
  have k1 : w1.heap[w.heap.size]? = some (.cells #[.slice A ss.length ca, .slice B ps.length cb] 36 (0, 0)) := by rw [hb1.block _ (by omega)]; exact H1.out
  have k2 : w1.heap[w.heap.size + 1]? = some (.cells #[.slice none 0 0, .slice none 0 0] 36 (0, 0)) := by rw [hb1.block _ (by omega)]; exact H2.out
  have hx0 : w1.cell? ⟨w.heap.size, 0, none⟩ = some (.slice A ss.length ca) := cell_of_row w1 _ 0 _ _ _ k1
  have hx1 : w1.cell? ⟨w.heap.size, 1, none⟩ = some (.slice B ps.length cb) := cell_of_row w1 _ 1 _ _ _ k1
  have hd0 : w1.cell? ⟨w.heap.size + 1, 0, none⟩ = some (.slice none 0 0) := cell_of_row w1 _ 0 _ _ _ k2
  have hd1 : w1.cell? ⟨w.heap.size + 1, 1, none⟩ = some (.slice none 0 0) := cell_of_row w1 _ 1 _ _ _ k2
  have hg0 := frozen_of_row w1 _ 0 _ _ k2
  have hg1 := frozen_of_row w1 _ 1 _ _ k2
  have hs1 := hb1.size
  have HB1 := Lib.hid (below_more HBW.out hb1)
  have HD1 := Lib.hid (HD.out.below hb1)
  have K1 := Lib.hid k1
  have K2 := Lib.hid k2
  clear h1 h2 hb1 k1 k2 H1 H2 HG HD HW HBW
  cases hgd : goodDB ss ps
  · skip
    have HE := Lib.hid (pu_not (ss := ss) (ps := ps) (k := k) (y := y) (by rw [puOkB, hgd]; rfl))
    clear hgd
    go_wp2_with (go_at_call 41; refine (sAt9 _ _).mono ?_; rintro e w' ⟨rfl, rfl⟩)
    have hgo : ((w1.setCell ⟨w.heap.size + 1, 0, none⟩ (.slice none 0 0)).setCell ⟨w.heap.size + 1, 1, none⟩ (.slice none 0 0)).heap[w.heap.size + 1]? = some (.cells #[.slice none 0 0, .slice none 0 0] 36 (0, 0)) :=
      heap_setCell_same _ _ 1 _ _ _ (heap_setCell_same _ _ 0 _ _ _ K2.out)
    refine ret_dk2 rfl (w.heap.size + 1) _ _ false rfl rfl hgo rfl ?_
    exact ⟨_, _, by rw [HE.out.2.2], by rw [HE.out.1, HE.out.2.1]; exact OwnD.nil _ _, (HB1.out.setCell (show w.heap.size ≤ w.heap.size + 1 by omega) _).setCell (show w.heap.size ≤ w.heap.size + 1 by omega) _⟩
  cases h2 : inB k 0 11
  · skip
    have HE := Lib.hid (pu_not (ss := ss) (ps := ps) (k := k) (y := y) (by rw [puOkB, h2]; simp))
    clear hgd
    go_wp2_with (go_at_call 41; refine (sAt9 _ _).mono ?_; rintro e w' ⟨rfl, rfl⟩)
    have hgo : ((w1.setCell ⟨w.heap.size + 1, 0, none⟩ (.slice none 0 0)).setCell ⟨w.heap.size + 1, 1, none⟩ (.slice none 0 0)).heap[w.heap.size + 1]? = some (.cells #[.slice none 0 0, .slice none 0 0] 36 (0, 0)) :=
      heap_setCell_same _ _ 1 _ _ _ (heap_setCell_same _ _ 0 _ _ _ K2.out)
    refine ret_dk2 rfl (w.heap.size + 1) _ _ false rfl rfl hgo rfl ?_
    exact ⟨_, _, by rw [HE.out.2.2], by rw [HE.out.1, HE.out.2.1]; exact OwnD.nil _ _, (HB1.out.setCell (show w.heap.size ≤ w.heap.size + 1 by omega) _).setCell (show w.heap.size ≤ w.heap.size + 1 by omega) _⟩
  by_cases h3 : y.size = 16
  case neg =>
    have HE := Lib.hid (pu_not (ss := ss) (ps := ps) (k := k) (y := y) (by simp [puOkB, h3]))
    clear hgd
    have hyi : ((y.size : Int) != 16) = true := by simp; omega
    go_wp2_with (go_at_call 41; refine (sAt9 _ _).mono ?_; rintro e w' ⟨rfl, rfl⟩)
    have hgo : ((w1.setCell ⟨w.heap.size + 1, 0, none⟩ (.slice none 0 0)).setCell ⟨w.heap.size + 1, 1, none⟩ (.slice none 0 0)).heap[w.heap.size + 1]? = some (.cells #[.slice none 0 0, .slice none 0 0] 36 (0, 0)) :=
      heap_setCell_same _ _ 1 _ _ _ (heap_setCell_same _ _ 0 _ _ _ K2.out)
    refine ret_dk2 rfl (w.heap.size + 1) _ _ false rfl rfl hgo rfl ?_
    exact ⟨_, _, by rw [HE.out.2.2], by rw [HE.out.1, HE.out.2.1]; exact OwnD.nil _ _, (HB1.out.setCell (show w.heap.size ≤ w.heap.size + 1 by omega) _).setCell (show w.heap.size ≤ w.heap.size + 1 by omega) _⟩
  by_cases h4 : ps.length = 40
  case pos =>
    have HE := Lib.hid (pu_not (ss := ss) (ps := ps) (k := k) (y := y) (by simp [puOkB, h4]))
    clear hgd
    have hyi : ((y.size : Int) != 16) = false := by simp; omega
    have hp4 : ((ps.length : Int) == 40) = true := by simp; omega
    go_wp2_with (go_at_call 41; refine (sAt9 _ _).mono ?_; rintro e w' ⟨rfl, rfl⟩)
    have hgo : ((w1.setCell ⟨w.heap.size + 1, 0, none⟩ (.slice none 0 0)).setCell ⟨w.heap.size + 1, 1, none⟩ (.slice none 0 0)).heap[w.heap.size + 1]? = some (.cells #[.slice none 0 0, .slice none 0 0] 36 (0, 0)) :=
      heap_setCell_same _ _ 1 _ _ _ (heap_setCell_same _ _ 0 _ _ _ K2.out)
    refine ret_dk2 rfl (w.heap.size + 1) _ _ false rfl rfl hgo rfl ?_
    exact ⟨_, _, by rw [HE.out.2.2], by rw [HE.out.1, HE.out.2.1]; exact OwnD.nil _ _, (HB1.out.setCell (show w.heap.size ≤ w.heap.size + 1 by omega) _).setCell (show w.heap.size ≤ w.heap.size + 1 by omega) _⟩
  have hyi : ((y.size : Int) != 16) = false := by simp; omega
  have hp4 : ((ps.length : Int) == 40) = false := by simp; omega
  obtain ⟨q1, q2, -, -⟩ := good_len hgd
  have HE := Lib.hid (pu_yes (ss := ss) (ps := ps) (k := k) (y := y) (by simp [puOkB, hgd, h2, h3, h4]))
  have HOw := Lib.hid (sOwn9 A B ss ps ca cb w1 HD1.out hA hB (by omega) (by omega))
  have hq1 : ss.length ≤ 12 := by omega
  have HI2 := Lib.hid h2
  clear hgd hA hB q1 h3 h4
  go_wp2_with (go_at_call 41; refine (sAt9 _ _).mono ?_; rintro e w' ⟨rfl, rfl⟩)
  refine HOw.out.mono ?_
  rintro e w2 ⟨v1, v2, rfl, ho2, hb2⟩
  obtain ⟨A1, c1, rfl, _⟩ := ho2.sure.form fSt_len
  obtain ⟨A2, c2, rfl, _⟩ := ho2.later.form fPu_len
  have HO2 := Lib.hid ho2
  have hs2 := hb2.size
  have HB2 := Lib.hid (below_more HB1.out hb2)
  have K3 : Hid (w2.heap[w.heap.size + 1]? = some (.cells #[.slice none 0 0, .slice none 0 0] 36 (0, 0))) := by show _ = _; rw [hb2.block _ (by omega)]; exact K2.out
  have hY : Hid ((w2.alloc (.cells #[.slice A1 ss.length c1, .slice A2 ps.length c2] 36)).heap[w2.heap.size]? = some (.cells #[.slice A1 ss.length c1, .slice A2 ps.length c2] 36 (0, 0))) := heap_alloc_new _ _
  have hbY := gAlloc w2 (.cells #[.slice A1 ss.length c1, .slice A2 ps.length c2] 36)
  have HO4 := Lib.hid (HO2.out.below hbY)
  have HB4 := Lib.hid (below_more HB2.out hbY)
  have K4 : Hid ((w2.alloc (.cells #[.slice A1 ss.length c1, .slice A2 ps.length c2] 36)).heap[w.heap.size + 1]? = some (.cells #[.slice none 0 0, .slice none 0 0] 36 (0, 0))) := by show _ = _; rw [hbY.block _ (by omega)]; exact K3.out
  have hs4 : (w2.alloc (.cells #[.slice A1 ss.length c1, .slice A2 ps.length c2] 36)).heap.size = w2.heap.size + 1 := by simp
  have HB4x : Hid (Below w1.heap.size w1 (w2.alloc (.cells #[.slice A1 ss.length c1, .slice A2 ps.length c2] 36))) := below_more hb2 hbY
  have HLt1 := Lib.hid (fun g hg => (HO2.out.sure.lt g hg).2)
  have HLt2 := Lib.hid (fun g hg => (HO2.out.later.lt g hg).2)
  have HSz : Hid (w2.heap.size + 1 = (w2.alloc (.cells #[.slice A1 ss.length c1, .slice A2 ps.length c2] 36)).heap.size) := hs4.symm
  clear ho2 hb2 HOw K2 hx0 hx1 hd0 hd1 hg0 hg1 HD1 HO2 HB2 K3 hbY
  go_wp2_with (refine app_puL (w2.alloc (.cells #[.slice A1 ss.length c1, .slice A2 ps.length c2] 36)) w1.heap.size _ ps k y (w2.heap.size + 1) HSz.out rfl _ _ rfl rfl rfl HO4.out.later (by omega) (by omega) w1 HB4x.out ?_; intro v5 w5 H5; obtain ⟨A5, c5, rfl, _⟩ := H5.out.1.form fPu_len; have z5 : w5.heap[w2.heap.size]? = some (.cells #[.slice A1 ss.length c1, .slice A2 ps.length c2] 36 (0, 0)) := (H5.out.2.2.1.block _ (by rw [World.heap_size_alloc9]; omega) (fun e => Nat.lt_irrefl _ (HLt2.out _ e.symm))).trans ((heap_alloc_old _ _ _ (by omega)).trans hY.out); have k5 : w5.heap[w.heap.size + 1]? = some (.cells #[.slice none 0 0, .slice none 0 0] 36 (0, 0)) := (H5.out.2.2.1.block _ (by rw [World.heap_size_alloc9]; omega) (fun e => by have := (HO4.out.later.lt _ e.symm).1; omega)).trans ((heap_alloc_old _ _ _ (by omega)).trans K4.out); have y0 : w5.cell? ⟨w2.heap.size, 0, none⟩ = some (.slice A1 ss.length c1) := cell_of_row w5 _ 0 _ _ _ z5; have y1 : w5.cell? ⟨w2.heap.size, 1, none⟩ = some (.slice A2 ps.length c2) := cell_of_row w5 _ 1 _ _ _ z5; have e1 := frozen_of_row w5 _ 1 _ _ z5; have x0 : w5.cell? ⟨w.heap.size + 1, 0, none⟩ = some (.slice none 0 0) := cell_of_row w5 _ 0 _ _ _ k5; have x1 : w5.cell? ⟨w.heap.size + 1, 1, none⟩ = some (.slice none 0 0) := cell_of_row w5 _ 1 _ _ _ k5; have d0 := frozen_of_row w5 _ 0 _ _ k5; have d1 := frozen_of_row w5 _ 1 _ _ k5)
  obtain ⟨hP5, hB5, hG5, hAt5⟩ := H5.out
  rw [show (ps ++ [(k, y)]).length = ps.length + 1 by simp] at hP5 hAt5
  have hn1 : (Value.slice A1 ss.length c1).ownBlock ≠ some w2.heap.size := fun e => Nat.lt_irrefl _ (HLt1.out _ e)
  have hn5 : (Value.slice A5 (ps.length + 1) c5).ownBlock ≠ some w2.heap.size := fun e => by
    rcases hAt5 with h | h
    · exact Nat.lt_irrefl _ (HLt2.out _ (h.symm.trans e))
    · rw [h] at e; injection e with e; omega
  have hap : (Value.slice A1 ss.length c1).ownBlock = none ∨ (Value.slice A1 ss.length c1).ownBlock ≠ (Value.slice A5 (ps.length + 1) c5).ownBlock := by
    rcases hAt5 with h | h
    · rw [h]; exact HO4.out.apart
    · rw [h]; exact Or.inr fun e => by have := HLt1.out _ e; omega
  have hS5 := ((HO4.out.sure.below (gAlloc _ _)).kept hG5 HO4.out.apart)
  have g1 := gSet9 w5 w2.heap.size 1 (.slice A5 (ps.length + 1) c5)
  have g2 := gSet9 (w5.setCell ⟨w2.heap.size, 1, none⟩ (.slice A5 (ps.length + 1) c5)) (w.heap.size + 1) 0 (.slice A1 ss.length c1)
  have g3 := gSet9 ((w5.setCell ⟨w2.heap.size, 1, none⟩ (.slice A5 (ps.length + 1) c5)).setCell ⟨w.heap.size + 1, 0, none⟩ (.slice A1 ss.length c1)) (w.heap.size + 1) 1 (.slice A5 (ps.length + 1) c5)
  have hgo : (((w5.setCell ⟨w2.heap.size, 1, none⟩ (.slice A5 (ps.length + 1) c5)).setCell ⟨w.heap.size + 1, 0, none⟩ (.slice A1 ss.length c1)).setCell ⟨w.heap.size + 1, 1, none⟩ (.slice A5 (ps.length + 1) c5)).heap[w.heap.size + 1]? = some (.cells #[.slice A1 ss.length c1, .slice A5 (ps.length + 1) c5] 36 (0, 0)) :=
    heap_setCell_same _ _ 1 _ _ _ (heap_setCell_same _ _ 0 _ _ _ ((heap_setCell_other w5 ⟨w2.heap.size, 1, none⟩ (w.heap.size + 1) _ (by show w.heap.size + 1 ≠ w2.heap.size; omega)).trans k5))
  refine ret_dk2 rfl (w.heap.size + 1) _ _ true rfl rfl hgo rfl ?_
  have hB6 := HB1.out.trans (hB5.mono (show w.heap.size ≤ w1.heap.size by omega))
  refine ⟨_, _, by rw [HE.out.2.2], ?_, ((hB6.setCell (show w.heap.size ≤ w2.heap.size by omega) _).setCell (show w.heap.size ≤ w.heap.size + 1 by omega) _).setCell (show w.heap.size ≤ w.heap.size + 1 by omega) _⟩
  rw [HE.out.1, HE.out.2.1]
  refine ⟨(((hS5.kept g1 (Or.inr hn1)).cur (by omega) g2).cur (by omega) g3).lower (by omega), ?_, hap⟩
  exact (((hP5.kept g1 (Or.inr hn5)).cur (by omega) g2).cur (by omega) g3).lower (by omega)
theorem ownR_lies {T : TypeId} {k : Nat} {α : Type} {f : α → List Value} {w : World} {base n : Nat} {A : Option Addr} {c : Nat} {L : List α} (h : OwnR T k f w base (.slice A n c) L) : Lies9 A c := by
  rcases h.2 with ⟨e, _⟩ | ⟨g, cap, cur, e, _⟩
  · injection e with e1 e2 e3
    exact Or.inl ⟨e1, e3⟩
  · injection e with e1
    exact Or.inr ⟨_, _, e1⟩
theorem own9_lies {w : World} {base n : Nat} {A : Option Addr} {c : Nat} {zs : List Int} (h : Own w base (.slice A n c) zs) : Lies9 A c := by
  rcases h.2 with ⟨e, _⟩ | ⟨g, cap, cur, e, _⟩
  · injection e with e1 e2 e3
    exact Or.inl ⟨e1, e3⟩
  · injection e with e1
    exact Or.inr ⟨_, _, e1⟩
theorem crL_length (ks : List Int) (torn : Int) (b : Nat) (ss : List ByteArray) (ps : List (Int × ByteArray)) : ∀ k, (crL ks torn b ss ps k).length = ss.length
  | 0 => rfl
  | k + 1 => by
    rw [crL, crStep]
    split <;> simp only [List.length_set, keepS] <;> split <;> simp only [List.length_set, crL_length ks torn b ss ps k]
theorem syI_len (ss : List ByteArray) (ps : List (Int × ByteArray)) : (syI ss ps).length ≤ 12 := by
  unfold syI; split
  · rename_i h; rw [syncL_length, (good_len h).1]; exact Nat.le_refl _
  · simp
theorem crI_len (ss : List ByteArray) (ps : List (Int × ByteArray)) (ks : List Int) (torn b : Int) : (crI ss ps ks torn b).length ≤ 12 := by
  unfold crI; split
  · rename_i h
    simp only [crOkB, Bool.and_eq_true] at h
    rw [crL_length, (good_len h.1).1]; exact Nat.le_refl _
  · simp
theorem pu_len (ss : List ByteArray) (ps : List (Int × ByteArray)) (k : Int) (y : ByteArray) : (puS ss ps k y).length ≤ 12 ∧ (puP ss ps k y).length ≤ 41 := by
  cases h : puOkB ss ps k y
  · rw [(pu_not h).1, (pu_not h).2.1]; simp
  · rw [(pu_yes h).1, (pu_yes h).2.1]
    simp only [puOkB, Bool.and_eq_true] at h
    obtain ⟨h1, h2, _⟩ := good_len h.1
    rw [List.length_append]; simp; omega
end Go.Proofs.Ythbjcipdneminaa
