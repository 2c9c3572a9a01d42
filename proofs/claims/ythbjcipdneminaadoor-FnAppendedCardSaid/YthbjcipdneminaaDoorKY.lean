/-
  KW: KR: The model of chapter 9: GoodDisk, ReadSector, ReadAll.
  KS: The model of chapter 9: NewDisk.
  KT: The model of chapter 9: SyncDisk.
  KU: The model of chapter 9: what a crash leaves (l9Crash).
  KV: The model of chapter 9: CrashDisk.
  KZ: The model of chapter 9, second part: l9Own (two copying appends in one region that draws its order), PutSector.
-/
import Derived.Test.YthbjcipdneminaaDoorRD
import Derived.Deep.AppendLies
import Derived.StillTailTactics

/- KW -/
/- KR -/
namespace Go.Proofs.YthbjcipdneminaaDoor
open Go.RowKit

/-- A disk as an argument: its slices read as ss and ps, of lengths that a machine holds. -/
structure DiskIn (w : World) (A B : Option Addr) (ss : List ByteArray) (ps : List (Int × ByteArray)) : Prop where
  sure : Strs w A ss
  later : Puts w B ps
  len : ss.length ≤ 1048576
  len2 : ps.length ≤ 1048576
  size : ∀ s ∈ ss, s.size ≤ 1048576
  size2 : ∀ p ∈ ps, p.2.size ≤ 1048576
theorem DiskIn.below {w w' : World} {A B : Option Addr} {ss : List ByteArray} {ps : List (Int × ByteArray)} (h : DiskIn w A B ss ps) (hb : Below w.heap.size w w') : DiskIn w' A B ss ps := ⟨h.sure.below hb, h.later.below hb, h.len, h.len2, h.size, h.size2⟩
def stB9 (s : ByteArray) : Bool := decide (s.size = 16)
def puB9 (p : Int × ByteArray) : Bool := inB p.1 0 11 && stB9 p.2
def goodDB (ss : List ByteArray) (ps : List (Int × ByteArray)) : Bool := ss.all stB9 && (ps.all puB9 && (decide (ss.length = 12) && decide (ps.length ≤ 40)))
theorem all_take {α : Type} {f : α → Bool} {l : List α} {j : Nat} (hj : j < l.length) : (l.take (j + 1)).all f = ((l.take j).all f && f l[j]) := by
  rw [List.take_succ_eq_append_getElem hj, List.all_append]; simp
theorem all_no {α : Type} {f : α → Bool} {l : List α} {j : Nat} (hj : j < l.length) (h : f l[j] = false) : l.all f = false := by
  cases hl : l.all f
  · rfl
  · have := List.all_eq_true.1 hl l[j] (List.getElem_mem hj)
    rw [h] at this; cases this
set_option maxRecDepth 100000 in
set_option maxHeartbeats 400000 in
theorem sAt9 (n : Int) (w : World) : Calls Tryd.prog 57 #[.int .i64 n] w fun e w' => e = .returned (.bool (inB n 0 11)) ∧ w = w' := by
  go_enter Tryd.func57, Tryd.ntmps57
  go_wp2_with (go_at_call 78; refine (l1In_any _ _ _ _).mono ?_; rintro e w' ⟨rfl, rfl⟩)
  go_ret
  exact ⟨rfl, rfl⟩
set_option maxRecDepth 100000 in
set_option maxHeartbeats 4000000 in
theorem sGoodD_any (A B : Option Addr) (ss : List ByteArray) (ps : List (Int × ByteArray)) (ca cb : Nat) (w : World) (hd : DiskIn w A B ss ps) :
    Calls Tryd.prog 32 #[diskV (.slice A ss.length ca) (.slice B ps.length cb)] w fun e w' => e = .returned (.bool (goodDB ss ps)) ∧ Below w.heap.size w w' := by
  have hW := gAlloc w (.cells #[.slice A ss.length ca, .slice B ps.length cb] 26)
  have HD := Lib.hid (hd.below hW)
  have HB := Lib.hid hW
  have hx0 : (w.alloc (.cells #[.slice A ss.length ca, .slice B ps.length cb] 26)).cell? ⟨w.heap.size, 0, none⟩ = some (.slice A ss.length ca) := cell_of_row _ _ 0 _ _ _ (heap_alloc_new _ _)
  have hx1 : (w.alloc (.cells #[.slice A ss.length ca, .slice B ps.length cb] 26)).cell? ⟨w.heap.size, 1, none⟩ = some (.slice B ps.length cb) := cell_of_row _ _ 1 _ _ _ (heap_alloc_new _ _)
  have hsX : w.heap.size < (w.alloc (.cells #[.slice A ss.length ca, .slice B ps.length cb] 26)).heap.size := by simp
  have HNo1 : Hid (∀ j (hj : j < ss.length), stB9 ss[j] = false → goodDB ss ps = false) := fun j hj h => by rw [goodDB, all_no hj h]; rfl
  have HNo2 : Hid (∀ j (hj : j < ps.length), puB9 ps[j] = false → goodDB ss ps = false) := fun j hj h => by rw [goodDB, all_no hj h]; simp
  have HYes : Hid (ss.all stB9 = true → ps.all puB9 = true → goodDB ss ps = (decide (ss.length = 12) && decide (ps.length ≤ 40))) := fun h1 h2 => by rw [goodDB, h1, h2]; rfl
  have hl1 := hd.len
  have hl2 := hd.len2
  clear hd hW
  go_enter Tryd.func32, Tryd.ntmps32
  go_wp2_with fail
  generalize w.alloc (.cells #[.slice A ss.length ca, .slice B ps.length cb] 26) = W at *
  generalize hX : w.heap.size = X at *
  have HX := Lib.hid hX
  clear hX
  go_loopg [10] ss.length (fun gk i wr => ∃ j : Nat, j + gk = ss.length ∧ i = .int .i64 j ∧ (ss.take j).all stB9 = true ∧ W = wr)
  case atStart => exact ⟨0, by omega, rfl, rfl, rfl⟩
  case round =>
    obtain ⟨j, hg, rfl, hal, rfl⟩ := hrel
    have HAl := Lib.hid hal
    clear hal
    by_cases hlt : j < ss.length
    · have hji : (j : Int) < (ss.length : Int) := by omega
      obtain ⟨b1, o1, rfl, p1⟩ := strs_at HD.out.sure hlt
      have hsz := HD.out.size ss[j] (List.getElem_mem hlt)
      have HGK : Hid (ss.length - j - 1 < gk ∧ j + 1 + (ss.length - j - 1) = ss.length) := by show _ ∧ _; omega
      have HT := Lib.hid (all_take (f := stB9) hlt)
      have HN := Lib.hid (HNo1.out j hlt)
      clear hg
      generalize ss[j] = p at *
      have HSt : Hid (stB9 p = decide (p.size = 16)) := rfl
      by_cases hp : p.size = 16
      · have hpi : ((p.size : Int) != 16) = false := by rw [hp]; rfl
        have HT2 : Hid ((ss.take (j + 1)).all stB9 = true) := by show _ = _; rw [HT.out, HAl.out, HSt.out, hp]; rfl
        clear hp
        go_wp2_with fail
        go_roundg (ss.length - j - 1)
        case measure => exact HGK.out.1
        case rel => exact ⟨j + 1, HGK.out.2, by go_num, HT2.out, rfl⟩
      · have hpi : ((p.size : Int) != 16) = true := by simp; omega
        have HF : Hid (goodDB ss ps = false) := HN.out (by rw [HSt.out]; simp [hp])
        clear hp
        go_wp2_with fail
        go_ret
        exact ⟨ret_bool' HF.out.symm, by rw [HX.out]; exact HB.out⟩
    · obtain rfl : j = ss.length := by omega
      have hji : ¬ (ss.length : Int) < (ss.length : Int) := by omega
      rw [List.take_length] at HAl
      clear hg
      go_wp2_with fail
      go_loopg [21] ps.length (fun gk i wr => ∃ j : Nat, j + gk = ps.length ∧ i = .int .i64 j ∧ (ps.take j).all puB9 = true ∧ Below W.heap.size W wr)
      case atStart => exact ⟨0, by omega, rfl, rfl, Below.refl _ _⟩
      case round =>
        obtain ⟨j, hg, rfl, hal, hbel⟩ := hrel
        have HAl2 := Lib.hid hal
        have HBl := Lib.hid hbel
        have HBf : Hid (∀ w', Below wr.heap.size wr w' → Below w.heap.size w w') := fun w' h => by rw [HX.out]; exact HB.out.trans ((below_more HBl.out h).mono (by have := HB.out.size; have := HX.out; omega))
        clear hal hbel
        by_cases hlt : j < ps.length
        · have hji2 : (j : Int) < (ps.length : Int) := by omega
          obtain ⟨b1, o1, rfl, p1, p2⟩ := puts_at (HD.out.later.below HBl.out) hlt
          have hsz := HD.out.size2 ps[j] (List.getElem_mem hlt)
          have HGK : Hid (ps.length - j - 1 < gk ∧ j + 1 + (ps.length - j - 1) = ps.length) := by show _ ∧ _; omega
          have HT := Lib.hid (all_take (f := puB9) hlt)
          have HN := Lib.hid (HNo2.out j hlt)
          clear hg
          generalize ps[j] = p at *
          have HPu : Hid (puB9 p = (inB p.1 0 11 && decide (p.2.size = 16))) := rfl
          have hW2 := gAlloc wr (.cells #[.int .i64 p.1, .string p.2] 77)
          have HW2 := Lib.hid hW2
          have HWb := Lib.hid (below_more HBl.out hW2)
          clear hW2
          cases hin : inB p.1 0 11
          · have HF : Hid (goodDB ss ps = false) := HN.out (by rw [HPu.out, hin]; rfl)
            have HAt := Lib.hid (fun w => sAt9 p.1 w)
            rw [hin] at HAt
            clear hin
            go_wp2_with (go_at_call 57; refine (HAt.out _).mono ?_; rintro e w' ⟨rfl, rfl⟩)
            go_ret
            exact ⟨ret_bool' HF.out.symm, HBf.out _ HW2.out⟩
          · have HAt := Lib.hid (fun w => sAt9 p.1 w)
            rw [hin] at HAt HPu
            clear hin
            by_cases hp : p.2.size = 16
            · have hpi : ((p.2.size : Int) != 16) = false := by rw [hp]; rfl
              have HT2 : Hid ((ps.take (j + 1)).all puB9 = true) := by show _ = _; rw [HT.out, HAl2.out, HPu.out, hp]; rfl
              clear hp
              go_wp2_with (go_at_call 57; refine (HAt.out _).mono ?_; rintro e w' ⟨rfl, rfl⟩)
              go_roundg (ps.length - j - 1)
              case measure => exact HGK.out.1
              case rel => exact ⟨j + 1, HGK.out.2, by go_num, HT2.out, HWb.out⟩
            · have hpi : ((p.2.size : Int) != 16) = true := by simp; omega
              have HF : Hid (goodDB ss ps = false) := HN.out (by rw [HPu.out]; simp [hp])
              clear hp
              go_wp2_with (go_at_call 57; refine (HAt.out _).mono ?_; rintro e w' ⟨rfl, rfl⟩)
              go_ret
              exact ⟨ret_bool' HF.out.symm, HBf.out _ HW2.out⟩
        · obtain rfl : j = ps.length := by omega
          have hji2 : ¬ (ps.length : Int) < (ps.length : Int) := by omega
          rw [List.take_length] at HAl2
          have HG := Lib.hid (HYes.out HAl.out HAl2.out)
          have hz0 : wr.cell? ⟨X, 0, none⟩ = some (.slice A ss.length ca) := (HBl.out.cell hsX).trans hx0
          have hz1 : wr.cell? ⟨X, 1, none⟩ = some (.slice B ps.length cb) := (HBl.out.cell hsX).trans hx1
          by_cases h12 : ss.length = 12
          · have h12i : ((ss.length : Int) == 12) = true := by rw [h12]; rfl
            have HG2 : Hid (decide ((ps.length : Int) ≤ 40) = goodDB ss ps) := by show _ = _; rw [HG.out, h12]; simp; omega
            clear h12 hg
            go_wp2_with fail
            go_ret
            exact ⟨ret_bool' HG2.out, HBf.out _ (Below.refl _ _)⟩
          · have h12i : ((ss.length : Int) == 12) = false := by simp; omega
            have HG2 : Hid (goodDB ss ps = false) := by show _ = _; rw [HG.out]; simp [h12]
            clear h12 hg
            go_wp2_with fail
            go_ret
            exact ⟨ret_bool' HG2.out.symm, HBf.out _ (Below.refl _ _)⟩

/-- What sector k holds: the last write to it, else what is sure. -/
def rdL (ss : List ByteArray) (ps : List (Int × ByteArray)) (k : Nat) : ByteArray := ps.foldl (fun s p => if p.1 = (k : Int) then p.2 else s) (ss.getD k ⟨#[]⟩)
theorem rdL_snoc (ss : List ByteArray) {ps : List (Int × ByteArray)} (k : Nat) {j : Nat} (hj : j < ps.length) : rdL ss (ps.take (j + 1)) k = if ps[j].1 = (k : Int) then ps[j].2 else rdL ss (ps.take j) k := by
  rw [rdL, List.take_succ_eq_append_getElem hj, List.foldl_append]; rfl
set_option maxRecDepth 100000 in
set_option maxHeartbeats 2000000 in
theorem sRead9 (A B : Option Addr) (ss : List ByteArray) (ps : List (Int × ByteArray)) (ca cb k : Nat) (w : World) (hd : DiskIn w A B ss ps) (hk : k < ss.length) :
    Calls Tryd.prog 58 #[diskV (.slice A ss.length ca) (.slice B ps.length cb), .int .i64 k] w fun e w' => e = .returned (.string (rdL ss ps k)) ∧ Below w.heap.size w w' := by
  have hW := gAlloc w (.cells #[.slice A ss.length ca, .slice B ps.length cb] 26)
  have HD := Lib.hid (hd.below hW)
  have HB := Lib.hid hW
  have hx0 : (w.alloc (.cells #[.slice A ss.length ca, .slice B ps.length cb] 26)).cell? ⟨w.heap.size, 0, none⟩ = some (.slice A ss.length ca) := cell_of_row _ _ 0 _ _ _ (heap_alloc_new _ _)
  have hx1 : (w.alloc (.cells #[.slice A ss.length ca, .slice B ps.length cb] 26)).cell? ⟨w.heap.size, 1, none⟩ = some (.slice B ps.length cb) := cell_of_row _ _ 1 _ _ _ (heap_alloc_new _ _)
  have hsX : w.heap.size < (w.alloc (.cells #[.slice A ss.length ca, .slice B ps.length cb] 26)).heap.size := by simp
  have hl1 := hd.len
  have hl2 := hd.len2
  obtain ⟨b0, o0, rfl, p0⟩ := strs_at HD.out.sure hk
  have hki : (k : Int) < (ss.length : Int) := by omega
  have HR0 : Hid (ss[k] = rdL ss (ps.take 0) k) := by show _ = _; simp [rdL, hk]
  have hk2 : (k : Int) ≤ 1048576 := by omega
  clear hd hW
  generalize ss[k] = s0 at *
  go_enter Tryd.func58, Tryd.ntmps58
  go_wp2_with fail
  generalize w.alloc (.cells #[.slice (some ⟨b0, o0, none⟩) ss.length ca, .slice B ps.length cb] 26) = W at *
  have HBf : Hid (∀ w', Below W.heap.size W w' → Below w.heap.size w w') := fun w' h => below_more HB.out h
  generalize hX : w.heap.size = X at *
  have HX := Lib.hid hX
  clear hX
  clear hx0 p0
  go_loopg [5, 16] ps.length (fun gk sv i wr => ∃ j : Nat, j + gk = ps.length ∧ i = .int .i64 j ∧ sv = .string (rdL ss (ps.take j) k) ∧ Below W.heap.size W wr)
  case atStart => exact ⟨0, by omega, rfl, by rw [HR0.out], Below.refl _ _⟩
  case round =>
    obtain ⟨j, hg, rfl, rfl, hbel⟩ := hrel
    have HBl := Lib.hid hbel
    clear hbel
    by_cases hlt : j < ps.length
    · have hji : (j : Int) < (ps.length : Int) := by omega
      obtain ⟨b1, o1, rfl, p1, p2⟩ := puts_at (HD.out.later.below HBl.out) hlt
      have HGK : Hid (ps.length - j - 1 < gk ∧ j + 1 + (ps.length - j - 1) = ps.length) := by show _ ∧ _; omega
      have HS := Lib.hid (rdL_snoc ss k hlt)
      clear hg
      generalize ps[j] = p at *
      generalize rdL ss (ps.take j) k = s1 at *
      have hW2 := gAlloc wr (.cells #[.int .i64 p.1, .string p.2] 77)
      have HWb := Lib.hid (below_more HBl.out hW2)
      clear hW2
      by_cases hp : p.1 = (k : Int)
      · have hpi : (p.1 == (k : Int)) = true := by simp [hp]
        rw [if_pos hp] at HS
        clear hp
        go_wp2_with fail
        go_roundg (ps.length - j - 1)
        case measure => exact HGK.out.1
        case rel => exact ⟨j + 1, HGK.out.2, by go_num, by rw [HS.out], HWb.out⟩
      · have hpi : (p.1 == (k : Int)) = false := by simpa using hp
        rw [if_neg hp] at HS
        clear hp
        go_wp2_with fail
        go_roundg (ps.length - j - 1)
        case measure => exact HGK.out.1
        case rel => exact ⟨j + 1, HGK.out.2, by go_num, by rw [HS.out], HWb.out⟩
    · obtain rfl : j = ps.length := by omega
      have hji : ¬ (ps.length : Int) < (ps.length : Int) := by omega
      rw [List.take_length]
      go_wp2_with fail
      go_ret
      exact ⟨rfl, by rw [HX.out]; exact HBf.out _ HBl.out⟩
def rsOkB (ss : List ByteArray) (ps : List (Int × ByteArray)) (k : Int) : Bool := goodDB ss ps && inB k 0 11
def rsI (ss : List ByteArray) (ps : List (Int × ByteArray)) (k : Int) : ByteArray := if rsOkB ss ps k = true then rdL ss ps k.toNat else ⟨#[]⟩
theorem good_len {ss : List ByteArray} {ps : List (Int × ByteArray)} (h : goodDB ss ps = true) : ss.length = 12 ∧ ps.length ≤ 40 ∧ (∀ s ∈ ss, s.size = 16) ∧ ∀ p ∈ ps, (0 ≤ p.1 ∧ p.1 ≤ 11) ∧ p.2.size = 16 := by
  simp only [goodDB, Bool.and_eq_true, decide_eq_true_eq] at h
  refine ⟨h.2.2.1, h.2.2.2, fun s hs => ?_, fun p hp => ?_⟩
  · have := List.all_eq_true.1 h.1 s hs
    simpa [stB9] using this
  · have := List.all_eq_true.1 h.2.1 p hp
    simp only [puB9, stB9, inB, Bool.and_eq_true, decide_eq_true_eq] at this
    exact this
theorem tupSB {a b : ByteArray} {c d : Bool} (h : a = b) (k : c = d) : Ending.returned (.tuple #[.string a, .bool c]) = .returned (.tuple #[.string b, .bool d]) := by rw [h, k]
theorem rdL_size {ss : List ByteArray} {ps : List (Int × ByteArray)} (h : goodDB ss ps = true) {k : Nat} (hk : k < 12) : (rdL ss ps k).size = 16 := by
  obtain ⟨h1, _, h3, h4⟩ := good_len h
  have hk' : k < ss.length := by omega
  have : ∀ (qs : List (Int × ByteArray)) (s : ByteArray), s.size = 16 → (∀ p ∈ qs, p.2.size = 16) → (qs.foldl (fun s p => if p.1 = (k : Int) then p.2 else s) s).size = 16 := by
    intro qs
    induction qs with
    | nil => intro s hs _; exact hs
    | cons p qs ih =>
      intro s hs hq
      refine ih _ ?_ (fun x hx => hq x (List.mem_cons_of_mem _ hx))
      show (if p.1 = (k : Int) then p.2 else s).size = 16
      split
      · exact hq p (List.mem_cons_self ..)
      · exact hs
  refine this ps _ ?_ (fun p hp => (h4 p hp).2)
  rw [show ss.getD k ⟨#[]⟩ = ss[k] by simp [List.getD, hk']]
  exact h3 _ (List.getElem_mem hk')
/-- The first k sectors, one behind another. -/
def raL (ss : List ByteArray) (ps : List (Int × ByteArray)) : Nat → ByteArray
  | 0 => ⟨#[]⟩
  | k + 1 => raL ss ps k ++ rdL ss ps k
theorem raL_size {ss : List ByteArray} {ps : List (Int × ByteArray)} (h : goodDB ss ps = true) : ∀ {k : Nat}, k ≤ 12 → (raL ss ps k).size = 16 * k
  | 0, _ => rfl
  | k + 1, hk => by rw [raL, size_append9, raL_size h (by omega), rdL_size h (by omega)]; omega
def raI (ss : List ByteArray) (ps : List (Int × ByteArray)) : ByteArray := if goodDB ss ps = true then raL ss ps 12 else ⟨#[]⟩
end Go.Proofs.YthbjcipdneminaaDoor

/- KS -/
namespace Go.Proofs.YthbjcipdneminaaDoor
open Go.RowKit

/-- A disk of the call's own. -/
structure OwnD (w : World) (base : Nat) (v1 v2 : Value) (ss : List ByteArray) (ps : List (Int × ByteArray)) : Prop where
  sure : OwnSt w base v1 ss
  later : OwnPu w base v2 ps
  apart : v1.ownBlock = none ∨ v1.ownBlock ≠ v2.ownBlock
theorem OwnD.below {w w' : World} {base : Nat} {v1 v2 : Value} {ss : List ByteArray} {ps : List (Int × ByteArray)} (h : OwnD w base v1 v2 ss ps) (hb : Below w.heap.size w w') : OwnD w' base v1 v2 ss ps := ⟨h.sure.below hb, h.later.below hb, h.apart⟩
theorem OwnD.lower {w : World} {base base' : Nat} {v1 v2 : Value} {ss : List ByteArray} {ps : List (Int × ByteArray)} (h : OwnD w base v1 v2 ss ps) (hb : base' ≤ base) : OwnD w base' v1 v2 ss ps := ⟨h.sure.lower hb, h.later.lower hb, h.apart⟩
theorem byteInfo9 : (Tryd.prog.info? 5).map (fun i => (i.zero, i.size, i.bytes)) = some (some (.int .u8 0), 1, 1) := by kernel_rfl
def zero16 : ByteArray := strB (List.replicate 16 0)
theorem World.heap_size_alloc9 (w : World) (o : Obj) : (w.alloc o).heap.size = w.heap.size + 1 := by simp
theorem gBelow9 {w w' : World} (h : w.grownBy w' none) : Below w.heap.size w w' := ⟨h.os, h.tape, h.output, h.size, fun k hk => h.block k hk (by simp)⟩
theorem hown9 {w : World} {base j : Nat} {A1 : Option Addr} {n c1 : Nat} {z : ByteArray} {o : Obj} (h : OwnSt w base (.slice A1 n c1) (List.replicate j z)) : (w.alloc o).ownsRow base 9 1 (.slice A1 n c1) j (List.replicate j (.string z)) := by
  have e : (List.replicate j z).flatMap fSt = List.replicate j (Value.string z) := by simp [List.flatMap, List.map_replicate]
  have h2 : w.ownsRow base 9 1 (.slice A1 n c1) j (List.replicate j (.string z)) := by
    have h3 := h
    show World.ownsRow _ _ _ _ _ _ _
    unfold OwnSt OwnR at h3
    rw [e, List.length_replicate] at h3
    exact h3
  exact h2.alloc _
set_option maxRecDepth 100000 in
set_option maxHeartbeats 4000000 in
theorem sNewDisk (w : World) : Calls Tryd.prog 74 #[] w fun e w' => ∃ v1, e = .returned (diskV v1 (.slice none 0 0)) ∧ OwnSt w' w.heap.size v1 (List.replicate 12 zero16) ∧ Below w.heap.size w w' := by
  have hW2 : (((w.alloc (.cells #[.slice none 0 0, .slice none 0 0] 26))).alloc (.cells #[.slice none 0 0, .slice none 0 0] 26)).heap[w.heap.size + 1]? = some (.cells #[.slice none 0 0, .slice none 0 0] 26 (0, 0)) := by
    rw [show w.heap.size + 1 = (w.alloc (.cells #[.slice none 0 0, .slice none 0 0] 26)).heap.size by simp]; exact heap_alloc_new _ _
  have hW1 : (((w.alloc (.cells #[.slice none 0 0, .slice none 0 0] 26))).alloc (.cells #[.slice none 0 0, .slice none 0 0] 26)).heap[w.heap.size]? = some (.cells #[.slice none 0 0, .slice none 0 0] 26 (0, 0)) := by
    rw [heap_alloc_old _ _ _ (by simp)]; exact heap_alloc_new _ _
  have HW1 := Lib.hid hW1
  have HW2 := Lib.hid hW2
  clear hW1 hW2
  obtain ⟨i0, hi, hz0, hz1, hz2⟩ := info_parts stInfo
  obtain ⟨i1, hi1, hy0, hy1, hy2⟩ := info_parts byteInfo9
  have HMk := Lib.hid (fun (W : World) => run_make_full (P := Tryd.prog) W W.heap.size 22 5 i1 (.int .u8 0) 1 Tryd.underlying22 hi1 hy0 hy1 .i64 .i64 16 (by rw [hy2]; omega) (by unfold maxLen; omega) (Nat.le_refl _))
  go_enter Tryd.func74, Tryd.ntmps74
  go_wp2_with fail
  go_loopg [2] 12 (fun gk i wr => ∃ (j : Nat) (v : Value), j + gk = 12 ∧ i = .int .i64 j ∧ wr.heap[w.heap.size]? = some (.cells #[.slice none 0 0, .slice none 0 0] 26 (0, 0)) ∧ wr.heap[w.heap.size + 1]? = some (.cells #[v, .slice none 0 0] 26 (0, 0)) ∧ OwnSt wr (w.heap.size + 2) v (List.replicate j zero16) ∧ Below w.heap.size w wr)
  case atStart => exact ⟨0, _, by omega, rfl, HW1.out, HW2.out, OwnR.nil _ _, gAlloc2 _ _ _⟩
  case round =>
    obtain ⟨j, v, hg, rfl, hh0, hh, hown, hbel⟩ := hrel
    have HH := Lib.hid hh
    have HZ := Lib.hid hh0
    have HO := Lib.hid hown
    have HB := Lib.hid hbel
    clear hh hh0 hown hbel
    by_cases hlt : j < 12
    · have hji : (j : Int) < 12 := by omega
      obtain ⟨A1, c1, hv, hle, hr⟩ := HO.out.form fSt_len
      rw [List.length_replicate] at hv hle
      subst hv
      have hc0 : wr.cell? ⟨w.heap.size + 1, 0, none⟩ = some (.slice A1 j c1) := cell_of_row wr _ 0 _ _ _ HH.out
      have hf0 := frozen_of_row wr _ 0 _ _ HH.out
      obtain ⟨wM, hrun, r1, r2⟩ := HMk.out wr.drew
      have hrun2 : (Instr.makeSlice 22 (.int .i64 16) (.int .i64 16)).run Tryd.prog wr.drew = .ok (.slice (some ⟨wr.heap.size, 0, none⟩) 16 16) wM := hrun
      have hcM : wM.cell? ⟨w.heap.size + 1, 0, none⟩ = some (.slice A1 j c1) := r2.cell (a := ⟨w.heap.size + 1, 0, none⟩) hc0 (by simp)
      have hcv : (convert 22 9 (.slice (some ⟨wr.heap.size, 0, none⟩) 16 16)).run Tryd.prog wM = .ok (.string zero16) wM := by
        have h := convB (w := wM) (g := wr.heap.size) (cap := 16) (T := List.replicate 16 0) (fun i hi => by
          have := World.ownsRow.cellAt r1 i (by simp at hi; omega)
          rw [made_row _ _ rfl] at this
          rw [show (⟨wr.drew.heap.size, i, none⟩ : Addr) = ⟨wr.heap.size, i, none⟩ from rfl] at this
          have hi' : i < 16 := by simpa using hi
          rw [this, List.getElem?_replicate, if_pos hi', List.getElem_replicate]
          rfl)
        rw [List.length_replicate] at h
        exact h
      have hsM : wr.heap.size ≤ wM.heap.size := r2.size
      have hcB : (wM.alloc (.cells #[.string zero16] 9)).cell? ⟨w.heap.size + 1, 0, none⟩ = some (.slice A1 j c1) := cell_in (gAlloc _ _) hcM
      have HOM := Lib.hid ((HO.out.below gDrew).kept r2 (gNone _))
      have HBM := Lib.hid (below_more (below_more HB.out gDrew) (gBelow9 r2))
      have hnw : Hid (∀ i u, [Value.string zero16][i]? = some u → (wM.alloc (.cells #[.string zero16] 9)).cell? ((⟨wM.heap.size, 0, none⟩ : Addr).add i) = some u) := fun i u hu => by
        have e1 : (⟨wM.heap.size, 0, none⟩ : Addr).add i = ⟨wM.heap.size, i, none⟩ := by unfold Addr.add; split <;> simp_all
        rw [e1, cell_of_row _ _ i _ _ _ (heap_alloc_new _ _)]
        simpa using hu
      have hon : Hid (∀ u ∈ [Value.string zero16], u.oneCell' = true) := fun u hu => by simp at hu; subst hu; rfl
      have hlt1 := World.block_lt_of_cell? _ _ hc0
      have hbs : Hid (w.heap.size + 2 ≤ (wM.alloc (.cells #[.string zero16] 9)).heap.size) := by
        show _ ≤ _
        rw [World.heap_size_alloc9]
        have h1 : w.heap.size + 1 < wr.heap.size := hlt1
        omega
      have hne7 : Hid (some (w.heap.size + 1) ≠ (Value.slice A1 j c1).ownBlock) := fun e => by
        have := (HO.out.lt _ e.symm).1
        omega
      have hXB : Hid (w.heap.size + 1 < (wM.alloc (.cells #[.string zero16] 9)).heap.size) := World.block_lt_of_cell? _ _ hcB
      have hHB : Hid ((wM.alloc (.cells #[.string zero16] 9)).heap[w.heap.size + 1]? = some (.cells #[.slice A1 j c1, .slice none 0 0] 26 (0, 0))) := by
        show _ = _
        rw [heap_alloc_old _ _ _ (World.block_lt_of_cell? _ _ hcM), r2.block _ (World.block_lt_of_cell? _ _ hc0) (by simp)]
        exact HH.out
      have hXZ : Hid (w.heap.size < (wM.alloc (.cells #[.string zero16] 9)).heap.size) := Nat.lt_trans (Nat.lt_succ_self _) hXB.out
      have hZB : Hid ((wM.alloc (.cells #[.string zero16] 9)).heap[w.heap.size]? = some (.cells #[.slice none 0 0, .slice none 0 0] 26 (0, 0))) := by
        show _ = _
        rw [heap_alloc_old _ _ _ (Nat.lt_trans (Nat.lt_succ_self _) (World.block_lt_of_cell? _ _ hcM)), r2.block _ (Nat.lt_trans (Nat.lt_succ_self _) (World.block_lt_of_cell? _ _ hc0)) (by simp)]
        exact HZ.out
      have hnz7 : Hid (some w.heap.size ≠ (Value.slice A1 j c1).ownBlock) := fun e => by
        have := (HO.out.lt _ e.symm).1
        omega
      clear hrun r1 r2
      go_wp2_with fail
      go_region_law (first
        | (refine step_append_lies (wM.alloc (.cells #[.string zero16] 9)) (by rfl) (.tmp 8) (.tmp 11) 23 (by rfl) (w.heap.size + 2) 9 i0 (.string ⟨#[]⟩) 1 16 Tryd.underlying23 hi hz0 hz1 hz2 rfl (by decide) (.slice A1 j c1) j (List.replicate j (.string zero16)) (by rfl) (hown9 HOM.out) ⟨wM.heap.size, 0, none⟩ 1 1 [.string zero16] (by rfl) (by rfl) hnw.out hon.out (by decide) (by unfold maxLen; omega) (by omega) hbs.out _ rfl ?_; intro g7 cap7 w7 ho7 hg7 hor7 hlt7; have hq0 : w7.cell? ⟨w.heap.size + 1, 0, none⟩ = some (.slice A1 j c1) := hg7.cell hcB (hne7.out); have hfz : w7.frozen? ⟨w.heap.size + 1, 0, none⟩ = false := (frozen_of_row w7 _ 0 _ _ ((hg7.block _ hXB.out hne7.out).trans hHB.out))))
      all_goals
        have HO7 : Hid (OwnSt w7 (w.heap.size + 2) (.slice (some ⟨g7, 0, none⟩) (j + 1) cap7) (List.replicate (j + 1) zero16)) := by
          show World.ownsRow _ _ _ _ _ _ _
          have e : (List.replicate (j + 1) zero16).flatMap fSt = List.replicate j (Value.string zero16) ++ [.string zero16] := by simp [List.flatMap, List.map_replicate, List.replicate_succ']
          rw [e, List.length_replicate]
          exact ho7
        have HH7 : Hid (w7.heap[w.heap.size + 1]? = some (.cells #[.slice A1 j c1, .slice none 0 0] 26 (0, 0))) := (hg7.block _ hXB.out hne7.out).trans hHB.out
        have HZ7 : Hid (w7.heap[w.heap.size]? = some (.cells #[.slice none 0 0, .slice none 0 0] 26 (0, 0))) := (hg7.block _ hXZ.out hnz7.out).trans hZB.out
        have HB7 : Hid (Below w.heap.size w w7) := (below_more HBM.out (gAlloc wM (.cells #[.string zero16] 9))).grown hg7 (below_more HBM.out (gAlloc wM (.cells #[.string zero16] 9))).size (fun k hk => by have := (HO.out.lt k hk).1; omega)
        have HGK : Hid (12 - j - 1 < gk ∧ j + 1 + (12 - j - 1) = 12) := by show _ ∧ _; omega
        clear ho7 hg7 hor7 hlt7 hq0 hfz hcM hcB hcv hrun2 hnw hon hbs hne7 hXB hHB hXZ hZB hnz7 HOM HBM hg
        go_wp2_with fail
        go_roundg (12 - j - 1)
        case measure => exact HGK.out.1
        case rel => exact ⟨j + 1, .slice (some ⟨g7, 0, none⟩) (j + 1) cap7, HGK.out.2, by go_num, (heap_setCell_other w7 ⟨w.heap.size + 1, 0, none⟩ w.heap.size _ (by show w.heap.size ≠ w.heap.size + 1; omega)).trans HZ7.out, heap_setCell_same _ _ 0 _ _ _ HH7.out, HO7.out.cur (show w.heap.size + 1 < w.heap.size + 2 by omega) (gSet9 w7 (w.heap.size + 1) 0 _), HB7.out.setCell (show w.heap.size ≤ w.heap.size + 1 by omega) _⟩
    · obtain rfl : j = 12 := by omega
      have hji : ¬ ((12 : Nat) : Int) < 12 := by omega
      obtain ⟨A1, c1, hv, hle, hr⟩ := HO.out.form fSt_len
      rw [List.length_replicate] at hv
      subst hv
      have hc0 : wr.cell? ⟨w.heap.size + 1, 0, none⟩ = some (.slice A1 12 c1) := cell_of_row wr _ 0 _ _ _ HH.out
      have hc1 : wr.cell? ⟨w.heap.size + 1, 1, none⟩ = some (.slice none 0 0) := cell_of_row wr _ 1 _ _ _ HH.out
      have hd0 : wr.cell? ⟨w.heap.size, 0, none⟩ = some (.slice none 0 0) := cell_of_row wr _ 0 _ _ _ HZ.out
      have hd1 : wr.cell? ⟨w.heap.size, 1, none⟩ = some (.slice none 0 0) := cell_of_row wr _ 1 _ _ _ HZ.out
      have hg0 := frozen_of_row wr _ 0 _ _ HZ.out
      have hg1 := frozen_of_row wr _ 1 _ _ HZ.out
      go_wp2_with fail
      have hgo : ((wr.setCell ⟨w.heap.size, 0, none⟩ (.slice A1 12 c1)).setCell ⟨w.heap.size, 1, none⟩ (.slice none 0 0)).heap[w.heap.size]? = some (.cells #[.slice A1 12 c1, .slice none 0 0] 26 (0, 0)) :=
        heap_setCell_same _ _ 1 _ _ _ (heap_setCell_same _ _ 0 _ _ _ HZ.out)
      refine ret_dk rfl w.heap.size _ _ rfl hgo rfl ?_
      exact ⟨_, rfl, ((HO.out.cur (show w.heap.size < w.heap.size + 2 by omega) (gSet9 wr w.heap.size 0 _)).cur (show w.heap.size < w.heap.size + 2 by omega) (gSet9 _ w.heap.size 1 _)).lower (by omega), (HB.out.setCell (Nat.le_refl _) _).setCell (Nat.le_refl _) _⟩
end Go.Proofs.YthbjcipdneminaaDoor

/- KT -/
namespace Go.Proofs.YthbjcipdneminaaDoor
open Go.RowKit

/-- A slice is none, or lies in a block. -/
def Lies9 (A : Option Addr) (ca : Nat) : Prop := (A = none ∧ ca = 0) ∨ ∃ b o, A = some ⟨b, o, none⟩
theorem flat_cells {k : Nat} {α : Type} {f : α → List Value} (hk : ∀ x, (f x).length = k) (hk0 : 0 < k) {w : World} {b o : Nat} {L : List α} (h : RdR k f w (some ⟨b, o, none⟩) L) : ∀ t u, (L.flatMap f)[t]? = some u → w.cell? ((⟨b, o, none⟩ : Addr).add t) = some u := fun t u hu => by
  have ht : t < L.length * k := by
    have := (List.getElem?_eq_some_iff.1 hu).1
    rw [flat_len hk] at this; exact this
  have hj : t / k < L.length := Nat.div_lt_of_lt_mul (by rw [Nat.mul_comm]; exact ht)
  have e : t / k * k + t % k = t := by rw [Nat.mul_comm]; exact Nat.div_add_mod t k
  obtain ⟨b', o', e', hc⟩ := h (by rintro rfl; simp at hj)
  injection e' with e'
  injection e' with e1 e2
  subst e1; subst e2
  rw [← e, flat_at hk L _ hj _ (Nat.mod_lt _ hk0)] at hu
  have := hc (t / k) hj (t % k) u hu
  rw [show (⟨b, o, none⟩ : Addr).add t = ⟨b, o + t, none⟩ by unfold Addr.add; split <;> simp_all, ← this]
  congr 2
  omega
/-- append([]T{}, l...): a copy of the call's own. -/
theorem app_copyR {T Ts : TypeId} {k bytes : Nat} {α : Type} {f : α → List Value} (hk : ∀ x, (f x).length = k) (hk0 : 0 < k) (hf : ∀ x, ∀ u ∈ f x, u.oneCell' = true) {i : TypeInfo} {z : Value} (ht : Tryd.prog.underlying Ts = some (.slice T)) (hi : Tryd.prog.info? T = some i) (hz : i.zero = some z) (hsize : i.size = k) (hby : i.bytes = bytes) (hzs : z.cells.size = k) (hb16 : bytes ≤ 1000)
    {ops : Array Oper} {rest : List Oper} {o : Oper} {a : Act} {Q : Exit → Act → World → Prop} (W : World) (L : List α) (A : Option Addr) (ca m : Nat) (hm : L.length = m) (Bn : Nat) (hBn : Bn = W.heap.size) (hgd : o.guard = none) (s x : Operand)
    (ho : o.op = .call { callee := .builtin .append, args := #[s, x], argTypes := #[Ts, Ts] }) (hs : a.eval s = .slice (some ⟨Bn, 0, none⟩) 0 0) (hx : a.eval x = .slice A m ca)
    (hA : Lies9 A ca) (hI : RdR k f W A L) (hl : L.length ≤ 1000000)
    (h : ∀ v' w', Hid (OwnR T k f w' W.heap.size v' L ∧ Below W.heap.size W w') → wpList Tryd.prog ops Q rest (a.put o.dst v') w') :
    wpList Tryd.prog ops Q (o :: rest) a (W.alloc (.cells #[] T)) := by
  subst hBn
  subst hm
  have hO : OwnR T k f (W.alloc (.cells #[] T)) W.heap.size (.slice (some ⟨W.heap.size, 0, none⟩) 0 0) ([] : List α) :=
    ⟨by simp, Or.inr ⟨W.heap.size, 0, #[], rfl, Nat.le_refl _, heap_alloc_new _ _, Nat.le_refl _, by unfold maxLen; omega, by simp, by simp⟩⟩
  have hB : Below W.heap.size W (W.alloc (.cells #[] T)) := gAlloc _ _
  rcases hA with ⟨rfl, rfl⟩ | ⟨b0, o0, rfl⟩
  · have hL0 : L = [] := by
      cases L with
      | nil => rfl
      | cons x l =>
        obtain ⟨b, o, e, _⟩ := hI (by simp)
        cases e
    subst hL0
    exact wpList_append_own_none hgd s x Ts ho W.heap.size T i k ht hi _ 0 [] hs hO hx (h _ _ ⟨hO, hB⟩)
  · refine wpList_append_own _ hgd s x Ts ho W.heap.size T i z k bytes ht hi hz hsize hby hzs hk0 _ 0 [] hs hO ⟨b0, o0, none⟩ L.length ca (L.flatMap f) hx (flat_len hk L) (flat_cells hk hk0 (hI.below hB)) ?_ ?_ ?_ ?_ ?_
    · intro u hu
      obtain ⟨y, _, hy⟩ := List.mem_flatMap.1 hu
      exact hf y u hy
    · unfold maxLen; omega
    · have : (0 + L.length) * bytes ≤ (0 + L.length) * 1000 := Nat.mul_le_mul_left _ hb16
      omega
    · simp
    · intro v' w' h1 h2 _
      refine h v' w' ⟨?_, hB.grown h2 (by simp) (fun g hg => by simp [Value.ownBlock] at hg; omega)⟩
      unfold OwnR
      simpa using h1
theorem app_copySt {ops : Array Oper} {rest : List Oper} {o : Oper} {a : Act} {Q : Exit → Act → World → Prop} (W : World) (L : List ByteArray) (A : Option Addr) (ca m : Nat) (hm : L.length = m) (Bn : Nat) (hBn : Bn = W.heap.size) (hgd : o.guard = none) (s x : Operand)
    (ho : o.op = .call { callee := .builtin .append, args := #[s, x], argTypes := #[23, 23] }) (hs : a.eval s = .slice (some ⟨Bn, 0, none⟩) 0 0) (hx : a.eval x = .slice A m ca)
    (hA : Lies9 A ca) (hI : Strs W A L) (hl : L.length ≤ 1000000)
    (h : ∀ v' w', Hid (OwnSt w' W.heap.size v' L ∧ Below W.heap.size W w') → wpList Tryd.prog ops Q rest (a.put o.dst v') w') :
    wpList Tryd.prog ops Q (o :: rest) a (W.alloc (.cells #[] 9)) := by
  obtain ⟨i0, hi, hz0, hz1, hz2⟩ := info_parts stInfo
  exact app_copyR fSt_len (by decide) fSt_one Tryd.underlying23 hi hz0 hz1 hz2 rfl (by decide) W L A ca m hm Bn hBn hgd s x ho hs hx hA hI hl h
/-- The sectors behind the writes. -/
def syncL (ss : List ByteArray) (ps : List (Int × ByteArray)) : List ByteArray := ps.foldl (fun s p => s.set p.1.toNat p.2) ss
theorem syncL_snoc (ss : List ByteArray) {ps : List (Int × ByteArray)} {j : Nat} (hj : j < ps.length) : syncL ss (ps.take (j + 1)) = (syncL ss (ps.take j)).set ps[j].1.toNat ps[j].2 := by
  rw [syncL, List.take_succ_eq_append_getElem hj, List.foldl_append]; rfl
theorem syncL_length (ss : List ByteArray) (ps : List (Int × ByteArray)) : (syncL ss ps).length = ss.length := by
  unfold syncL
  induction ps generalizing ss with
  | nil => rfl
  | cons p ps ih => rw [List.foldl_cons, ih, List.length_set]
def syI (ss : List ByteArray) (ps : List (Int × ByteArray)) : List ByteArray := if goodDB ss ps = true then syncL ss ps else []
set_option maxRecDepth 100000 in
set_option maxHeartbeats 4000000 in
theorem sSync_any (A B : Option Addr) (ss : List ByteArray) (ps : List (Int × ByteArray)) (ca cb : Nat) (w : World) (hd : DiskIn w A B ss ps) (hA : Lies9 A ca) :
    Calls Tryd.prog 75 #[diskV (.slice A ss.length ca) (.slice B ps.length cb)] w fun e w' => ∃ v1, e = .returned (.tuple #[diskV v1 (.slice none 0 0), .bool (goodDB ss ps)]) ∧ OwnSt w' w.heap.size v1 (syI ss ps) ∧ Below w.heap.size w w' := by
  obtain ⟨W, hW⟩ : ∃ W, (w.alloc (.cells #[.slice A ss.length ca, .slice B ps.length cb] 26)).alloc (.cells #[.slice none 0 0, .slice none 0 0] 26) = W := ⟨_, rfl⟩
  have hbW : Below w.heap.size w W := by rw [← hW]; exact gAlloc2 _ _ _
  have hsW : W.heap.size = w.heap.size + 2 := by rw [← hW]; simp
  have h1 : W.heap[w.heap.size]? = some (.cells #[.slice A ss.length ca, .slice B ps.length cb] 26 (0, 0)) := by
    rw [← hW, heap_alloc_old _ _ _ (by simp)]; exact heap_alloc_new _ _
  have h2 : W.heap[w.heap.size + 1]? = some (.cells #[.slice none 0 0, .slice none 0 0] 26 (0, 0)) := by
    rw [← hW, show w.heap.size + 1 = (w.alloc (.cells #[.slice A ss.length ca, .slice B ps.length cb] 26)).heap.size by simp]; exact heap_alloc_new _ _
  have HD := Lib.hid (hd.below hbW)
  have HG := Lib.hid (sGoodD_any A B ss ps ca cb _ HD.out)
  have HBW := Lib.hid hbW
  have H1 := Lib.hid h1
  have H2 := Lib.hid h2
  have HA := Lib.hid hA
  have hl1 := hd.len
  have hl2 := hd.len2
  have hy0 : W.cell? ⟨w.heap.size, 0, none⟩ = some (.slice A ss.length ca) := cell_of_row W _ 0 _ _ _ h1
  have hy1 : W.cell? ⟨w.heap.size, 1, none⟩ = some (.slice B ps.length cb) := cell_of_row W _ 1 _ _ _ h1
  clear hd hbW hA
  go_enter Tryd.func75, Tryd.ntmps75
  go_wp2_with fail
  have HW := Lib.hid hW
  clear hW hy0 hy1
  refine HG.out.mono ?_
  rintro e w1 ⟨rfl, hb1⟩
  have k1 : w1.heap[w.heap.size]? = some (.cells #[.slice A ss.length ca, .slice B ps.length cb] 26 (0, 0)) := by rw [hb1.block _ (by omega)]; exact H1.out
  have k2 : w1.heap[w.heap.size + 1]? = some (.cells #[.slice none 0 0, .slice none 0 0] 26 (0, 0)) := by rw [hb1.block _ (by omega)]; exact H2.out
  have hx0 : w1.cell? ⟨w.heap.size, 0, none⟩ = some (.slice A ss.length ca) := cell_of_row w1 _ 0 _ _ _ k1
  have hx1 : w1.cell? ⟨w.heap.size, 1, none⟩ = some (.slice B ps.length cb) := cell_of_row w1 _ 1 _ _ _ k1
  have hd0 : w1.cell? ⟨w.heap.size + 1, 0, none⟩ = some (.slice none 0 0) := cell_of_row w1 _ 0 _ _ _ k2
  have hd1 : w1.cell? ⟨w.heap.size + 1, 1, none⟩ = some (.slice none 0 0) := cell_of_row w1 _ 1 _ _ _ k2
  have hg0 := frozen_of_row w1 _ 0 _ _ k2
  have hg1 := frozen_of_row w1 _ 1 _ _ k2
  have hs1 := hb1.size
  have HB1 := Lib.hid (below_more HBW.out hb1)
  have HD1 := Lib.hid (HD.out.below hb1)
  have K1 := Lib.hid k1
  have K2 := Lib.hid k2
  clear h1 h2 hb1 k1 k2 H1 H2 HG HD HW
  cases hgd : goodDB ss ps
  · have HE : Hid (syI ss ps = []) := by show _ = _; rw [syI, hgd]; rfl
    have HGd := Lib.hid hgd
    clear hgd
    go_wp2_with fail
    have hgo : ((w1.setCell ⟨w.heap.size + 1, 0, none⟩ (.slice none 0 0)).setCell ⟨w.heap.size + 1, 1, none⟩ (.slice none 0 0)).heap[w.heap.size + 1]? = some (.cells #[.slice none 0 0, .slice none 0 0] 26 (0, 0)) :=
      heap_setCell_same _ _ 1 _ _ _ (heap_setCell_same _ _ 0 _ _ _ K2.out)
    refine ret_dk2 rfl (w.heap.size + 1) _ _ false rfl rfl hgo rfl ?_
    exact ⟨_, by rw [HGd.out], by rw [HE.out]; exact OwnR.nil _ _, (HB1.out.setCell (show w.heap.size ≤ w.heap.size + 1 by omega) _).setCell (show w.heap.size ≤ w.heap.size + 1 by omega) _⟩
  · have HE : Hid (syI ss ps = syncL ss ps) := by show _ = _; rw [syI, hgd]; rfl
    obtain ⟨hl12, hl40, _, hpb⟩ := good_len hgd
    have H12 := Lib.hid hl12
    have HPb := Lib.hid hpb
    have HGd := Lib.hid hgd
    have hl6 : ss.length ≤ 1000000 := by omega
    have hxa : (w1.alloc (.cells #[] 9)).cell? ⟨w.heap.size, 0, none⟩ = some (.slice A ss.length ca) := cell_in (gAlloc _ _) hx0
    clear hgd hl12 hpb
    go_wp2_with (at_builtin; refine app_copySt w1 ss A ca ss.length rfl w1.heap.size rfl rfl _ _ rfl rfl rfl HA.out HD1.out.sure hl6 ?_)
    intro v2 w2 H2
    obtain ⟨ho2, hb2⟩ := H2.out
    obtain ⟨g, cap, rfl, hcap, hgw⟩ := ho2.block (by rw [H12.out]; omega)
    have hs2 := hb2.size
    have hgl := (ho2.lt g rfl).2
    have k1 : (w2.alloc (.cells #[.slice (some ⟨g, 0, none⟩) ss.length cap, .slice none 0 0] 26)).heap[w.heap.size]? = some (.cells #[.slice A ss.length ca, .slice B ps.length cb] 26 (0, 0)) := by
      rw [heap_alloc_old _ _ _ (by omega), hb2.block _ (by omega)]; exact K1.out
    have k2 : (w2.alloc (.cells #[.slice (some ⟨g, 0, none⟩) ss.length cap, .slice none 0 0] 26)).heap[w.heap.size + 1]? = some (.cells #[.slice none 0 0, .slice none 0 0] 26 (0, 0)) := by
      rw [heap_alloc_old _ _ _ (by omega), hb2.block _ (by omega)]; exact K2.out
    have k3 : (w2.alloc (.cells #[.slice (some ⟨g, 0, none⟩) ss.length cap, .slice none 0 0] 26)).heap[w2.heap.size]? = some (.cells #[.slice (some ⟨g, 0, none⟩) ss.length cap, .slice none 0 0] 26 (0, 0)) := heap_alloc_new _ _
    have hy1 : (w2.alloc (.cells #[.slice (some ⟨g, 0, none⟩) ss.length cap, .slice none 0 0] 26)).cell? ⟨w.heap.size, 1, none⟩ = some (.slice B ps.length cb) := cell_of_row _ _ 1 _ _ _ k1
    have hW3 := gAlloc w2 (.cells #[.slice (some ⟨g, 0, none⟩) ss.length cap, .slice none 0 0] 26)
    have HO3 := Lib.hid (ho2.below hW3)
    have HB3 := Lib.hid (below_more (below_more HB1.out hb2) hW3)
    have L2 := Lib.hid k2
    have L3 := Lib.hid k3
    have HP1 := Lib.hid HD1.out.later
    have HB13 := Lib.hid (below_more hb2 hW3)
    have hY : w2.heap.size < (w2.alloc (.cells #[.slice (some ⟨g, 0, none⟩) ss.length cap, .slice none 0 0] 26)).heap.size := by simp
    clear ho2 hb2 k1 k2 k3 hW3 H2 K1 K2 HB1 HD1 hx0 hx1 hd0 hd1 hg0 hg1 hxa
    go_wp2_with fail
    generalize hW3 : w2.alloc (.cells #[.slice (some ⟨g, 0, none⟩) ss.length cap, .slice none 0 0] 26) = w3 at *
    clear hW3
    generalize w2.heap.size = Y at *
    have hgY : g ≠ Y := by omega
    clear hy1
    go_loopg [19] ps.length (fun gk i wr => ∃ j : Nat, j + gk = ps.length ∧ i = .int .i64 j ∧ OwnSt wr w1.heap.size (.slice (some ⟨g, 0, none⟩) ss.length cap) (syncL ss (ps.take j)) ∧ wr.heap[Y]? = some (.cells #[.slice (some ⟨g, 0, none⟩) ss.length cap, .slice none 0 0] 26 (0, 0)) ∧ wr.heap[w.heap.size + 1]? = some (.cells #[.slice none 0 0, .slice none 0 0] 26 (0, 0)) ∧ Below w1.heap.size w1 wr ∧ Below w.heap.size w wr)
    case atStart => exact ⟨0, by omega, rfl, HO3.out, L3.out, L2.out, HB13.out, HB3.out⟩
    case round =>
      obtain ⟨j, hg, rfl, hown, hh3, hh2, hb3, hbel⟩ := hrel
      have HO := Lib.hid hown
      have HH3 := Lib.hid hh3
      have HH2 := Lib.hid hh2
      have HBl := Lib.hid hbel
      have HBw := Lib.hid hb3
      clear hown hh3 hh2 hbel hb3
      by_cases hlt : j < ps.length
      · have hji : (j : Int) < (ps.length : Int) := by omega
        obtain ⟨b1, o1, rfl, p1, p2⟩ := puts_at (HP1.out.below HBw.out) hlt
        obtain ⟨hpa, _⟩ := HPb.out ps[j] (List.getElem_mem hlt)
        have HS := Lib.hid (syncL_snoc ss hlt)
        have HGK : Hid (ps.length - j - 1 < gk ∧ j + 1 + (ps.length - j - 1) = ps.length) := by show _ ∧ _; omega
        have HML : Hid ((syncL ss (ps.take j)).length = ss.length) := syncL_length _ _
        clear hg
        generalize ps[j] = p at *
        generalize syncL ss (ps.take j) = M at *
        obtain ⟨px, py⟩ := p
        obtain ⟨q, hq⟩ := Int.eq_ofNat_of_zero_le hpa.1
        have hq11 : q ≤ 11 := by have := hpa.2; simp at hq; omega
        have hqe : px = (q : Int) := hq
        subst hqe
        clear hq hpa
        have HS2 : Hid (syncL ss (ps.take (j + 1)) = M.set q py) := by show _ = _; rw [HS.out]; rfl
        have hqM : q < M.length := by rw [HML.out, H12.out]; omega
        have hqi : (q : Int) < (ss.length : Int) := by rw [← HML.out]; omega
        have hWa := gAlloc wr (.cells #[.int .i64 (q : Int), .string py] 77)
        have HOa := HO.out.below hWa
        obtain ⟨hc0, hf0⟩ := ownSt_at HOa hqM
        obtain ⟨hP, hG⟩ := ownSt_put HOa hqM py
        have HPut := Lib.hid hP
        have hYl : Y < wr.heap.size := heap_lt HH3.out
        have hXl : w.heap.size + 1 < wr.heap.size := heap_lt HH2.out
        have hcY : (wr.alloc (.cells #[.int .i64 (q : Int), .string py] 77)).cell? ⟨Y, 0, none⟩ = some (.slice (some ⟨g, 0, none⟩) ss.length cap) := by
          refine cell_in hWa ?_
          exact cell_of_row wr _ 0 _ _ _ HH3.out
        have HY2 : Hid (((wr.alloc (.cells #[.int .i64 (q : Int), .string py] 77)).setCell ⟨g, q, none⟩ (.string py)).heap[Y]? = some (.cells #[.slice (some ⟨g, 0, none⟩) ss.length cap, .slice none 0 0] 26 (0, 0))) :=
          (heap_setCell_other _ ⟨g, q, none⟩ Y _ (fun e => hgY e.symm)).trans ((heap_alloc_old _ _ _ hYl).trans HH3.out)
        have HX2 : Hid (((wr.alloc (.cells #[.int .i64 (q : Int), .string py] 77)).setCell ⟨g, q, none⟩ (.string py)).heap[w.heap.size + 1]? = some (.cells #[.slice none 0 0, .slice none 0 0] 26 (0, 0))) :=
          (heap_setCell_other _ ⟨g, q, none⟩ (w.heap.size + 1) _ (by show w.heap.size + 1 ≠ g; omega)).trans ((heap_alloc_old _ _ _ hXl).trans HH2.out)
        have HBa : Hid (Below w1.heap.size w1 ((wr.alloc (.cells #[.int .i64 (q : Int), .string py] 77)).setCell ⟨g, q, none⟩ (.string py))) := (below_more HBw.out hWa).setCell hgw _
        have HBb : Hid (Below w.heap.size w ((wr.alloc (.cells #[.int .i64 (q : Int), .string py] 77)).setCell ⟨g, q, none⟩ (.string py))) := (below_more HBl.out hWa).setCell (by show w.heap.size ≤ g; omega) _
        generalize M[q] = u0 at *
        clear hP hG HOa hWa HO hYl hXl HH3 HH2 hqM
        go_wp2_with fail
        go_roundg (ps.length - j - 1)
        case measure => exact HGK.out.1
        case rel => exact ⟨j + 1, HGK.out.2, by go_num, by rw [HS2.out]; exact HPut.out, HY2.out, HX2.out, HBa.out, HBb.out⟩
      · obtain rfl : j = ps.length := by omega
        have hji : ¬ (ps.length : Int) < (ps.length : Int) := by omega
        rw [List.take_length] at HO
        have hc0 : wr.cell? ⟨Y, 0, none⟩ = some (.slice (some ⟨g, 0, none⟩) ss.length cap) := cell_of_row wr _ 0 _ _ _ HH3.out
        have hc1 : wr.cell? ⟨Y, 1, none⟩ = some (.slice none 0 0) := cell_of_row wr _ 1 _ _ _ HH3.out
        have hd0 : wr.cell? ⟨w.heap.size + 1, 0, none⟩ = some (.slice none 0 0) := cell_of_row wr _ 0 _ _ _ HH2.out
        have hd1 : wr.cell? ⟨w.heap.size + 1, 1, none⟩ = some (.slice none 0 0) := cell_of_row wr _ 1 _ _ _ HH2.out
        have hg0 := frozen_of_row wr _ 0 _ _ HH2.out
        have hg1 := frozen_of_row wr _ 1 _ _ HH2.out
        clear hg
        go_wp2_with fail
        have hgo : ((wr.setCell ⟨w.heap.size + 1, 0, none⟩ (.slice (some ⟨g, 0, none⟩) ss.length cap)).setCell ⟨w.heap.size + 1, 1, none⟩ (.slice none 0 0)).heap[w.heap.size + 1]? = some (.cells #[.slice (some ⟨g, 0, none⟩) ss.length cap, .slice none 0 0] 26 (0, 0)) :=
          heap_setCell_same _ _ 1 _ _ _ (heap_setCell_same _ _ 0 _ _ _ HH2.out)
        refine ret_dk2 rfl (w.heap.size + 1) _ _ true rfl rfl hgo rfl ?_
        exact ⟨_, by rw [HGd.out], by rw [HE.out]; exact ((HO.out.cur (show w.heap.size + 1 < w1.heap.size by omega) (gSet9 wr (w.heap.size + 1) 0 _)).cur (show w.heap.size + 1 < w1.heap.size by omega) (gSet9 _ (w.heap.size + 1) 1 _)).lower (by omega), (HBl.out.setCell (show w.heap.size ≤ w.heap.size + 1 by omega) _).setCell (show w.heap.size ≤ w.heap.size + 1 by omega) _⟩
end Go.Proofs.YthbjcipdneminaaDoor

/- KU -/
namespace Go.Proofs.YthbjcipdneminaaDoor
open Go.RowKit

/-- One write at a crash: kept, torn, or lost. -/
def keepS (ks : List Int) (k : Nat) (s : List ByteArray) (p : Int × ByteArray) : List ByteArray := if (k : Int) ∈ ks then s.set p.1.toNat p.2 else s
def tornT (b : Nat) (s : List ByteArray) (p : Int × ByteArray) : ByteArray := p.2.extract 0 b ++ (s.getD p.1.toNat ⟨#[]⟩).extract b 16
def crStep (ks : List Int) (torn : Int) (b k : Nat) (s : List ByteArray) (p : Int × ByteArray) : List ByteArray := if (k : Int) = torn then (keepS ks k s p).set p.1.toNat (tornT b (keepS ks k s p) p) else keepS ks k s p
def crL (ks : List Int) (torn : Int) (b : Nat) (ss : List ByteArray) (ps : List (Int × ByteArray)) : Nat → List ByteArray
  | 0 => ss
  | k + 1 => crStep ks torn b k (crL ks torn b ss ps k) (ps.getD k (0, ⟨#[]⟩))
theorem whole9 (y : ByteArray) {b : Nat} (h : b ≤ 16) : y.extract 0 b ++ y.extract b 16 = y.extract 0 16 := by
  rw [ByteArray.extract_append_extract]
  congr 1 <;> omega
def Good16 (s : List ByteArray) : Prop := s.length = 12 ∧ ∀ x ∈ s, x.size = 16
theorem Good16.set {s : List ByteArray} (h : Good16 s) {q : Nat} {y : ByteArray} (hy : y.size = 16) : Good16 (s.set q y) := ⟨by rw [List.length_set]; exact h.1, fun x hx => by
  rcases List.mem_or_eq_of_mem_set hx with h' | rfl
  · exact h.2 x h'
  · exact hy⟩
theorem Good16.keep {s : List ByteArray} (h : Good16 s) (ks : List Int) (k : Nat) {p : Int × ByteArray} (hp : p.2.size = 16) : Good16 (keepS ks k s p) := by
  unfold keepS; split
  · exact h.set hp
  · exact h
theorem Good16.at {s : List ByteArray} (h : Good16 s) {q : Nat} (hq : q < 12) : (s.getD q ⟨#[]⟩).size = 16 := by
  have hq' : q < s.length := by rw [h.1]; exact hq
  rw [show s.getD q ⟨#[]⟩ = s[q] by simp [List.getD, hq']]
  exact h.2 _ (List.getElem_mem hq')
theorem torn_size {b : Nat} {s : List ByteArray} {p : Int × ByteArray} (h : Good16 s) (hp : p.2.size = 16) (hq : p.1.toNat < 12) (hb : b ≤ 16) : (tornT b s p).size = 16 := by
  rw [tornT, size_append9, ByteArray.size_extract, ByteArray.size_extract, h.at hq, hp]; omega
theorem Good16.step {s : List ByteArray} (h : Good16 s) (ks : List Int) (torn : Int) {b : Nat} (k : Nat) {p : Int × ByteArray} (hp : p.2.size = 16) (hq : p.1.toNat < 12) (hb : b ≤ 16) : Good16 (crStep ks torn b k s p) := by
  unfold crStep; split
  · exact (h.keep ks k hp).set (torn_size (h.keep ks k hp) hp hq hb)
  · exact h.keep ks k hp
end Go.Proofs.YthbjcipdneminaaDoor

/- KV -/
namespace Go.Proofs.YthbjcipdneminaaDoor
open Go.RowKit

def crOkB (ss : List ByteArray) (ps : List (Int × ByteArray)) (ks : List Int) (torn b : Int) : Bool := goodDB ss ps && (risB 0 (ps.length : Int) ks && (inB torn (-1) ((ps.length : Int) - 1) && (!decide (torn ∈ ks) && (inB b 0 16 && !(decide (torn < 0) && decide (0 < b))))))
def crI (ss : List ByteArray) (ps : List (Int × ByteArray)) (ks : List Int) (torn b : Int) : List ByteArray := if crOkB ss ps ks torn b = true then crL ks torn b.toNat ss ps ps.length else []
theorem cr_not {ss : List ByteArray} {ps : List (Int × ByteArray)} {ks : List Int} {torn b : Int} (h : crOkB ss ps ks torn b = false) : crI ss ps ks torn b = [] ∧ crOkB ss ps ks torn b = false := ⟨by rw [crI, h]; rfl, h⟩
end Go.Proofs.YthbjcipdneminaaDoor

/- KZ -/
namespace Go.Proofs.YthbjcipdneminaaDoor
open Go.RowKit

/-- An empty literal lies in block B. -/
def Lit0 (T : TypeId) (w : World) (B : Nat) : Prop := w.heap[B]? = some (.cells #[] T (0, 0))
theorem Lit0.new (T : TypeId) (w : World) : Lit0 T (w.alloc (.cells #[] T)) w.heap.size := heap_alloc_new _ _
theorem Lit0.new' {T : TypeId} {w : World} {B : Nat} (h : B = w.heap.size) : Lit0 T (w.alloc (.cells #[] T)) B := by subst h; exact Lit0.new T w
theorem Lit0.newD {T : TypeId} {w : World} {B : Nat} (h : B = w.heap.size) : Lit0 T (w.alloc (.cells #[] T)).drew B := Lit0.new' h
theorem Lit0.lt {T : TypeId} {w : World} {B : Nat} (h : Lit0 T w B) : B < w.heap.size := heap_lt h
theorem Lit0.below {T : TypeId} {w w' : World} {B : Nat} (h : Lit0 T w B) (hb : Below w.heap.size w w') : Lit0 T w' B := (hb.block B h.lt).trans h
theorem Lit0.oldD {T : TypeId} {w : World} {B : Nat} {o : Obj} (h : B = w.heap.size) : Lit0 T ((w.alloc (.cells #[] T)).alloc o).drew B := (Lit0.new' h).below (below_more (gAlloc _ _) gDrew)
/-- A copy of a slice, made behind an empty literal in block B. -/
structure Copied (T : TypeId) (k : Nat) {α : Type} (f : α → List Value) (W : World) (B base : Nat) (L : List α) (v : Value) (w' : World) : Prop where
  own : OwnR T k f w' base v L
  grown : W.grownBy w' (some B)
  at_ : v.ownBlock = some B ∨ v.ownBlock = some W.heap.size
theorem run_copyR {T Ts ty : TypeId} {k bytes : Nat} {α : Type} {f : α → List Value} (hk : ∀ x, (f x).length = k) (hk0 : 0 < k) (hf : ∀ x, ∀ u ∈ f x, u.oneCell' = true) {i : TypeInfo} {z : Value} (ht : Tryd.prog.underlying Ts = some (.slice T)) (hi : Tryd.prog.info? T = some i) (hz : i.zero = some z) (hsize : i.size = k) (hby : i.bytes = bytes) (hzs : z.cells.size = k) (hb16 : bytes ≤ 1000)
    (W : World) (L : List α) (A : Option Addr) (ca m : Nat) (hm : L.length = m) (B base : Nat) (hB : Lit0 T W B) (hbase : base ≤ B) (hA : Lies9 A ca) (hI : RdR k f W A L) (hl : L.length ≤ 1000000) :
    ∃ v' w', (Builtin.append_ #[Ts, Ts] ty #[.slice (some ⟨B, 0, none⟩) 0 0, .slice A m ca]).run Tryd.prog W = .ok v' w' ∧ Copied T k f W B base L v' w' := by
  subst hm
  have hO : W.ownsRow base T k (.slice (some ⟨B, 0, none⟩) 0 0) 0 [] :=
    ⟨by simp, Or.inr ⟨B, 0, #[], rfl, hbase, hB, Nat.le_refl _, by unfold maxLen; omega, by simp, by simp⟩⟩
  rcases hA with ⟨rfl, rfl⟩ | ⟨b0, o0, rfl⟩
  · have hL0 : L = [] := by
      cases L with
      | nil => rfl
      | cons x l =>
        obtain ⟨b, o, e, _⟩ := hI (by simp)
        cases e
    subst hL0
    exact ⟨_, W, run_append_owned_none W base Ts ty T i k ht hi _ 0 [] hO, ⟨hO, gBelowR (Below.refl _ _) _, Or.inl rfl⟩⟩
  · obtain ⟨v', w', hr, h2, h3, _, h5⟩ := run_append_own_at (P := Tryd.prog) W base Ts ty T i z k bytes ht hi hz hsize hby hzs hk0 _ 0 [] hO ⟨b0, o0, none⟩ L.length ca (L.flatMap f) (flat_len hk L) (flat_cells hk hk0 hI) (fun u hu => by
      obtain ⟨y, _, hy⟩ := List.mem_flatMap.1 hu
      exact hf y u hy) (by unfold maxLen; omega) (by
      have : (0 + L.length) * bytes ≤ (0 + L.length) * 1000 := Nat.mul_le_mul_left _ hb16
      omega) (Nat.le_trans hbase (Nat.le_of_lt hB.lt))
    refine ⟨v', w', hr, ⟨by unfold OwnR; simpa using h2, h3, h5⟩⟩
theorem Copied.cell {T : TypeId} {k : Nat} {α : Type} {f : α → List Value} {W w' : World} {B base : Nat} {L : List α} {v : Value} (h : Copied T k f W B base L v w') {a : Addr} {u : Value} (hne : a.block ≠ B) (hc : W.cell? a = some u) : w'.cell? a = some u :=
  h.grown.cell hc (by intro e; injection e with e; exact hne e)
theorem Copied.lit {T T' : TypeId} {k : Nat} {α : Type} {f : α → List Value} {W w' : World} {B B' base : Nat} {L : List α} {v : Value} (h : Copied T k f W B base L v w') (hne : B' ≠ B) (hc : Lit0 T' W B') : Lit0 T' w' B' :=
  (h.grown.block B' hc.lt (by intro e; injection e with e; exact hne e)).trans hc
/-- Two copies, one behind the other. -/
theorem two_copied {T1 T2 : TypeId} {k1 k2 : Nat} {α β : Type} {f1 : α → List Value} {f2 : β → List Value} {w0 W1 w1 W2 w2 : World} {B1 B2 base : Nat} {L1 : List α} {L2 : List β} {v1 v2 : Value}
    (h1 : Copied T1 k1 f1 W1 B1 base L1 v1 w1) (h12 : Below w1.heap.size w1 W2) (h2 : Copied T2 k2 f2 W2 B2 base L2 v2 w2) (hne : B2 ≠ B1) (hB : B2 < W1.heap.size ∨ w1.heap.size ≤ B2) (hb1 : base ≤ B1) (hb2 : base ≤ B2) (hb0 : base ≤ W1.heap.size) (h0 : Below base w0 W1) :
    OwnR T1 k1 f1 w2 base v1 L1 ∧ OwnR T2 k2 f2 w2 base v2 L2 ∧ (v1.ownBlock = none ∨ v1.ownBlock ≠ v2.ownBlock) ∧ Below base w0 w2 := by
  have hlt := h1.own.lt
  have hat := h1.at_
  have hs1 := h1.grown.size
  have hs2 := h12.size
  have ha2 : v1.ownBlock ≠ some B2 := fun e => by
    rcases hat with h | h
    · rw [h] at e; injection e with e; exact hne e.symm
    · have hl := (hlt _ h).2
      rw [h] at e; injection e with e
      rcases hB with hB | hB
      · omega
      · omega
  refine ⟨(h1.own.below h12).kept h2.grown (Or.inr ha2), h2.own, ?_, ?_⟩
  · rcases h2.at_ with h | h
    · rw [h]; exact Or.inr ha2
    · refine Or.inr fun e => ?_
      rw [h] at e
      have := (hlt _ e).2
      omega
  · have hb1' : Below base w0 w1 := h0.grown h1.grown hb0 (fun k hk => by injection hk with hk; omega)
    have hbW : Below base w0 W2 := hb1'.trans (h12.mono (by omega))
    exact hbW.grown h2.grown (by omega) (fun k hk => by injection hk with hk; omega)
/-- The same, as one step of a region that draws its order. -/
theorem step_copyR {T Ts : TypeId} {k bytes : Nat} {α : Type} {f : α → List Value} (hk : ∀ x, (f x).length = k) (hk0 : 0 < k) (hf : ∀ x, ∀ u ∈ f x, u.oneCell' = true) {i : TypeInfo} {z : Value} (ht : Tryd.prog.underlying Ts = some (.slice T)) (hi : Tryd.prog.info? T = some i) (hz : i.zero = some z) (hsize : i.size = k) (hby : i.bytes = bytes) (hzs : z.cells.size = k) (hb16 : bytes ≤ 1000)
    {ops : Array Oper} {o : Oper} {a : Act} {K : Act → World → Prop} {Q : Exit → Act → World → Prop} {E : Prop} (W : World) (L : List α) (A : Option Addr) (ca m : Nat) (hm : L.length = m) (B base : Nat) (hgd : o.guard = none) (s x : Operand)
    (ho : o.op = .call { callee := .builtin .append, args := #[s, x], argTypes := #[Ts, Ts] }) (hs : a.eval s = .slice (some ⟨B, 0, none⟩) 0 0) (hx : a.eval x = .slice A m ca)
    (hB : Lit0 T W B) (hbase : base ≤ B) (hA : Lies9 A ca) (hI : RdR k f W A L) (hl : L.length ≤ 1000000)
    (h : ∀ v' w', Hid (Copied T k f W B base L v' w') → K (a.put o.dst v') w') :
    if Region.wanted o (yielded ops a.tmps) = true then Oper.wp Tryd.prog o a W K Q else E := by
  have hw : Region.wanted o (yielded ops a.tmps) = true := by simp [Region.wanted, hgd]
  rw [if_pos hw]
  obtain ⟨v', w', hr, hc⟩ := run_copyR (ty := o.type) hk hk0 hf ht hi hz hsize hby hzs hb16 W L A ca m hm B base hB hbase hA hI hl
  unfold Oper.wp execOp
  simp only [ho, resolve, invoke, builtin, Sem.run_bind, Sem.run_pure, Result.andThen_ok, List.map_toArray, List.map_cons, List.map_nil, hs, hx, hr]
  exact h v' w' hc
theorem step_copySt {ops : Array Oper} {o : Oper} {a : Act} {K : Act → World → Prop} {Q : Exit → Act → World → Prop} {E : Prop} (W : World) (L : List ByteArray) (A : Option Addr) (ca m : Nat) (hm : L.length = m) (B base : Nat) (hgd : o.guard = none) (s x : Operand)
    (ho : o.op = .call { callee := .builtin .append, args := #[s, x], argTypes := #[23, 23] }) (hs : a.eval s = .slice (some ⟨B, 0, none⟩) 0 0) (hx : a.eval x = .slice A m ca)
    (hB : Lit0 9 W B) (hbase : base ≤ B) (hA : Lies9 A ca) (hI : Strs W A L) (hl : L.length ≤ 1000000)
    (h : ∀ v' w', Hid (Copied 9 1 fSt W B base L v' w') → K (a.put o.dst v') w') :
    if Region.wanted o (yielded ops a.tmps) = true then Oper.wp Tryd.prog o a W K Q else E := by
  obtain ⟨i0, hi, hy0, hy1, hy2⟩ := info_parts stInfo
  exact step_copyR fSt_len (by decide) fSt_one Tryd.underlying23 hi hy0 hy1 hy2 rfl (by decide) W L A ca m hm B base hgd s x ho hs hx hB hbase hA hI hl h
theorem step_copyPu {ops : Array Oper} {o : Oper} {a : Act} {K : Act → World → Prop} {Q : Exit → Act → World → Prop} {E : Prop} (W : World) (L : List (Int × ByteArray)) (A : Option Addr) (ca m : Nat) (hm : L.length = m) (B base : Nat) (hgd : o.guard = none) (s x : Operand)
    (ho : o.op = .call { callee := .builtin .append, args := #[s, x], argTypes := #[24, 24] }) (hs : a.eval s = .slice (some ⟨B, 0, none⟩) 0 0) (hx : a.eval x = .slice A m ca)
    (hB : Lit0 77 W B) (hbase : base ≤ B) (hA : Lies9 A ca) (hI : Puts W A L) (hl : L.length ≤ 1000000)
    (h : ∀ v' w', Hid (Copied 77 2 fPu W B base L v' w') → K (a.put o.dst v') w') :
    if Region.wanted o (yielded ops a.tmps) = true then Oper.wp Tryd.prog o a W K Q else E := by
  obtain ⟨i0, hi, hy0, hy1, hy2⟩ := info_parts puInfo
  exact step_copyR fPu_len (by decide) fPu_one Tryd.underlying24 hi hy0 hy1 hy2 rfl (by decide) W L A ca m hm B base hgd s x ho hs hx hB hbase hA hI hl h
theorem World.heap_size_drew9 (w : World) : w.drew.heap.size = w.heap.size := rfl
theorem gBox9 (w : World) (o : Obj) (x : Obj) : ((w.alloc o).alloc x).heap[w.heap.size]? = some o := by
  rw [heap_alloc_old _ _ _ (by simp)]; exact heap_alloc_new _ _
set_option maxRecDepth 100000 in
set_option maxHeartbeats 8000000 in
theorem sOwn9 (A B : Option Addr) (ss : List ByteArray) (ps : List (Int × ByteArray)) (ca cb : Nat) (w : World) (hd : DiskIn w A B ss ps) (hA : Lies9 A ca) (hB : Lies9 B cb) (hl : ss.length ≤ 1000000) (hl2 : ps.length ≤ 1000000) :
    Calls Tryd.prog 79 #[diskV (.slice A ss.length ca) (.slice B ps.length cb)] w fun e w' => ∃ v1 v2, e = .returned (diskV v1 v2) ∧ OwnD w' w.heap.size v1 v2 ss ps ∧ Below w.heap.size w w' := by
  obtain ⟨W, hW⟩ : ∃ W, (w.alloc (.cells #[.slice A ss.length ca, .slice B ps.length cb] 26)).alloc (.cells #[.slice none 0 0, .slice none 0 0] 26) = W := ⟨_, rfl⟩
  have hbW : Below w.heap.size w W := by rw [← hW]; exact gAlloc2 _ _ _
  have hsW : W.heap.size = w.heap.size + 2 := by rw [← hW]; simp
  have hx0 : W.cell? ⟨w.heap.size, 0, none⟩ = some (.slice A ss.length ca) := by rw [← hW]; exact cell_of_row _ _ 0 _ _ _ (gBox9 _ _ _)
  have hx1 : W.cell? ⟨w.heap.size, 1, none⟩ = some (.slice B ps.length cb) := by rw [← hW]; exact cell_of_row _ _ 1 _ _ _ (gBox9 _ _ _)
  have hz : W.heap[w.heap.size + 1]? = some (.cells #[.slice none 0 0, .slice none 0 0] 26 (0, 0)) := by
    rw [← hW, show w.heap.size + 1 = (w.alloc (.cells #[.slice A ss.length ca, .slice B ps.length cb] 26)).heap.size by simp]; exact heap_alloc_new _ _
  have HSt := Lib.hid (hd.sure.below hbW)
  have HPu := Lib.hid (hd.later.below hbW)
  have HBW := Lib.hid hbW
  have HZ := Lib.hid hz
  have HBW2 : Hid (Below w.heap.size w W) := HBW.out
  clear hd hbW hz
  go_enter Tryd.func79, Tryd.ntmps79
  go_wp2_with fail
  generalize hX : w.heap.size = X at *
  clear hW
  go_region_held3 (fun w' => w'.cell? ⟨X, 0, none⟩ = some (.slice A ss.length ca) ∧ w'.cell? ⟨X, 1, none⟩ = some (.slice B ps.length cb))
    (first
      | exact ⟨hx0, hx1⟩
      | go_keep
      | exact ⟨hcP.out.cell (a := ⟨X, 0, none⟩) (by show X ≠ _; omega) (by apply And.left; assumption), hcP.out.cell (a := ⟨X, 1, none⟩) (by show X ≠ _; omega) (by apply And.right; assumption)⟩
      | exact ⟨hcS.out.cell (a := ⟨X, 0, none⟩) (by show X ≠ _; omega) (by first | exact hx0 | go_keep), hcS.out.cell (a := ⟨X, 1, none⟩) (by show X ≠ _; omega) (by first | exact hx1 | go_keep)⟩)
    (first
    | (refine step_copySt _ ss A ca ss.length (by rfl) _ (X + 2) (by rfl) (.tmp 3) (.tmp 5) (by rfl) (by rfl) (by rfl) (by first | exact Lit0.newD (by omega) | exact Lit0.newD (by simp only [World.heap_size_alloc9]; omega) | exact Lit0.oldD (by omega)) (by omega) hA (HSt.out.below (by first | exact below_more (gAlloc _ _) gDrew | exact below_more (gAlloc2 _ _ _) gDrew)) hl ?_; intro vS wS hcS; have hsS := hcS.out.grown.size; rw [World.heap_size_drew9] at hsS; simp only [World.heap_size_alloc9] at hsS; obtain ⟨AS, cS, rfl, _⟩ := hcS.out.own.form fSt_len; have hbS : Below W.heap.size W wS := (show Below W.heap.size W _ by first | exact below_more (gAlloc _ _) gDrew | exact below_more (gAlloc2 _ _ _) gDrew).grown hcS.out.grown (by rw [World.heap_size_drew9]; simp only [World.heap_size_alloc9]; omega) (fun k hk => by injection hk with hk; omega); have hZS : wS.heap[X + 1]? = some (.cells #[.slice none 0 0, .slice none 0 0] 26 (0, 0)) := (hcS.out.grown.block (X + 1) (by rw [World.heap_size_drew9]; simp only [World.heap_size_alloc9]; omega) (by intro e; injection e with e; omega)).trans (by first | exact (heap_alloc_old _ _ _ (by omega)).trans HZ.out | exact (heap_alloc_old _ _ _ (by simp only [World.heap_size_alloc9]; omega)).trans ((heap_alloc_old _ _ _ (by omega)).trans HZ.out)))
    | (refine step_copyPu _ ps B cb ps.length (by rfl) _ (X + 2) (by rfl) (.tmp 7) (.tmp 9) (by rfl) (by rfl) (by rfl) (by first | exact Lit0.new' (by rfl) | exact hcS.out.lit (by omega) (Lit0.oldD (by omega)) | exact hcS.out.lit (by omega) (Lit0.newD (by first | omega | (simp only [World.heap_size_alloc9]; omega)))) (by omega) hB (HPu.out.below (by first | exact hbS | exact below_more hbS (gAlloc _ _))) hl2 ?_; intro vP wP hcP; obtain ⟨AP, cP, rfl, _⟩ := hcP.out.own.form fPu_len; have hZP : wP.heap[X + 1]? = some (.cells #[.slice none 0 0, .slice none 0 0] 26 (0, 0)) := (hcP.out.grown.block (X + 1) (by first | omega | (simp only [World.heap_size_alloc9]; omega)) (by intro e; injection e with e; omega)).trans (by first | exact hZS | exact (heap_alloc_old _ _ _ (by omega)).trans hZS); have p0 := cell_of_row wP _ 0 _ _ _ hZP; have p1 := cell_of_row wP _ 1 _ _ _ hZP; have f0 := frozen_of_row wP _ 0 _ _ hZP; have f1 := frozen_of_row wP _ 1 _ _ hZP; simp at p0 p1))
  all_goals
    obtain ⟨H1, H2, H3, H4⟩ := two_copied (w0 := W) hcS.out (by first | exact Below.refl _ _ | exact gAlloc _ _) hcP.out (by omega) (by first | exact Or.inr (Nat.le_refl _) | exact Or.inl (by rw [World.heap_size_drew9]; simp only [World.heap_size_alloc9]; omega)) (by omega) (by omega) (by rw [World.heap_size_drew9]; simp only [World.heap_size_alloc9]; omega) (by first | exact (below_more (gAlloc _ _) gDrew).mono (by omega) | exact (below_more (gAlloc2 _ _ _) gDrew).mono (by omega))
    have K1 := Lib.hid H1
    have K2 := Lib.hid H2
    have K3 := Lib.hid H3
    have K4 := Lib.hid (HBW2.out.trans (H4.mono (by omega)))
    have KZ := Lib.hid hZP
    clear H1 H2 H3 H4 hcS hcP hZS hbS hsS
    go_wp2_with fail
    have g0 := gSet9 wP (X + 1) 0 (.slice AS ss.length cS)
    have g1 := gSet9 (wP.setCell ⟨X + 1, 0, none⟩ (.slice AS ss.length cS)) (X + 1) 1 (.slice AP ps.length cP)
    refine ret_dk rfl (X + 1) _ _ rfl (heap_setCell_same _ _ 1 _ _ _ (heap_setCell_same _ _ 0 _ _ _ KZ.out)) rfl ⟨_, _, rfl, ⟨?_, ?_, K3.out⟩, ?_⟩
    · rw [hX]; exact ((K1.out.cur (by omega) g0).cur (by omega) g1).lower (by omega)
    · rw [hX]; exact ((K2.out.cur (by omega) g0).cur (by omega) g1).lower (by omega)
    · rw [hX]; exact (K4.out.setCell (by show X ≤ X + 1; omega) _).setCell (by show X ≤ X + 1; omega) _
/-- append(l, p), and where the new slice lies. -/
theorem app_rowL {T Ts : TypeId} {k bytes : Nat} {α : Type} {f : α → List Value} (hk : ∀ x, (f x).length = k) (hk0 : 0 < k) (hf : ∀ x, ∀ u ∈ f x, u.oneCell' = true) {i : TypeInfo} {z : Value} (ht : Tryd.prog.underlying Ts = some (.slice T)) (hi : Tryd.prog.info? T = some i) (hz : i.zero = some z) (hsize : i.size = k) (hby : i.bytes = bytes) (hzs : z.cells.size = k) (hb16 : bytes ≤ 1000)
    {ops : Array Oper} {rest : List Oper} {o : Oper} {a : Act} {Q : Exit → Act → World → Prop} (W : World) (base : Nat) (v : Value) (L : List α) (y : α) (Bn : Nat) (hBn : Bn = W.heap.size) (hgd : o.guard = none) (s x : Operand)
    (ho : o.op = .call { callee := .builtin .append, args := #[s, x], argTypes := #[Ts, Ts] }) (hs : a.eval s = v) (hx : a.eval x = .slice (some ⟨Bn, 0, none⟩) 1 1)
    (hown : OwnR T k f W base v L) (hbase : base ≤ W.heap.size) (hlen : L.length ≤ 2000000) (w0 : World) (hb : Below base w0 W)
    (h : ∀ v' w', Hid (OwnR T k f w' base v' (L ++ [y]) ∧ Below base w0 w' ∧ (W.alloc (.cells (f y).toArray T)).grownBy w' v.ownBlock ∧ (v'.ownBlock = v.ownBlock ∨ v'.ownBlock = some (W.heap.size + 1))) → wpList Tryd.prog ops Q rest (a.put o.dst v') w') :
    wpList Tryd.prog ops Q (o :: rest) a (W.alloc (.cells (f y).toArray T)) := by
  subst hBn
  have hown' : W.ownsRow base T k v L.length (L.flatMap f) := hown
  refine wpList_append_own_at _ hgd s x Ts ho base T i z k bytes ht hi hz hsize hby hzs hk0 v L.length _ hs (hown'.alloc _) ⟨W.heap.size, 0, none⟩ 1 1 (f y) hx (by rw [hk]; omega) (fun j u hu => ?_) (hf y) ?_ ?_ ?_ ?_
  · have e1 : (⟨W.heap.size, 0, none⟩ : Addr).add j = ⟨W.heap.size, j, none⟩ := by unfold Addr.add; split <;> simp_all
    rw [e1, cell_of_row _ _ j _ _ _ (heap_alloc_new _ _)]
    simpa using hu
  · unfold maxLen; omega
  · have : (L.length + 1) * bytes ≤ (L.length + 1) * 1000 := Nat.mul_le_mul_left _ hb16
    omega
  · simp; omega
  · intro v' w' h1 h2 _ h4
    refine h v' w' ⟨?_, (hb.alloc hbase _).grown h2 (by simp; omega) (fun g hg => (World.ownsRow.lt hown g hg).1), h2, by rw [World.heap_size_alloc9] at h4; exact h4⟩
    unfold OwnR
    rw [List.length_append, List.flatMap_append]
    simpa using h1
theorem app_puL {ops : Array Oper} {rest : List Oper} {o : Oper} {a : Act} {Q : Exit → Act → World → Prop} (W : World) (base : Nat) (v : Value) (L : List (Int × ByteArray)) (x0 : Int) (y : ByteArray) (Bn : Nat) (hBn : Bn = W.heap.size) (hgd : o.guard = none) (s x : Operand)
    (ho : o.op = .call { callee := .builtin .append, args := #[s, x], argTypes := #[24, 24] }) (hs : a.eval s = v) (hx : a.eval x = .slice (some ⟨Bn, 0, none⟩) 1 1)
    (hown : OwnPu W base v L) (hbase : base ≤ W.heap.size) (hlen : L.length ≤ 2000000) (w0 : World) (hb : Below base w0 W)
    (h : ∀ v' w', Hid (OwnPu w' base v' (L ++ [(x0, y)]) ∧ Below base w0 w' ∧ (W.alloc (.cells #[.int .i64 x0, .string y] 77)).grownBy w' v.ownBlock ∧ (v'.ownBlock = v.ownBlock ∨ v'.ownBlock = some (W.heap.size + 1))) → wpList Tryd.prog ops Q rest (a.put o.dst v') w') :
    wpList Tryd.prog ops Q (o :: rest) a (W.alloc (.cells #[.int .i64 x0, .string y] 77)) := by
  obtain ⟨i0, hi, hz0, hz1, hz2⟩ := info_parts puInfo
  exact app_rowL fPu_len (by decide) fPu_one Tryd.underlying24 hi hz0 hz1 hz2 rfl (by decide) W base v L (x0, y) Bn hBn hgd s x ho hs hx hown hbase hlen w0 hb h

def puOkB (ss : List ByteArray) (ps : List (Int × ByteArray)) (k : Int) (y : ByteArray) : Bool := goodDB ss ps && (inB k 0 11 && (decide (y.size = 16) && !decide (ps.length = 40)))
def puS (ss : List ByteArray) (ps : List (Int × ByteArray)) (k : Int) (y : ByteArray) : List ByteArray := if puOkB ss ps k y = true then ss else []
def puP (ss : List ByteArray) (ps : List (Int × ByteArray)) (k : Int) (y : ByteArray) : List (Int × ByteArray) := if puOkB ss ps k y = true then ps ++ [(k, y)] else []
theorem pu_not {ss : List ByteArray} {ps : List (Int × ByteArray)} {k : Int} {y : ByteArray} (h : puOkB ss ps k y = false) : puS ss ps k y = [] ∧ puP ss ps k y = [] ∧ puOkB ss ps k y = false := ⟨by rw [puS, h]; rfl, by rw [puP, h]; rfl, h⟩
theorem pu_yes {ss : List ByteArray} {ps : List (Int × ByteArray)} {k : Int} {y : ByteArray} (h : puOkB ss ps k y = true) : puS ss ps k y = ss ∧ puP ss ps k y = ps ++ [(k, y)] ∧ puOkB ss ps k y = true := ⟨by rw [puS, h]; rfl, by rw [puP, h]; rfl, h⟩
theorem OwnD.nil (w : World) (base : Nat) : OwnD w base (.slice none 0 0) (.slice none 0 0) [] [] := ⟨OwnR.nil _ _, OwnR.nil _ _, Or.inl rfl⟩
set_option maxRecDepth 100000 in
set_option maxHeartbeats 4000000 in
theorem sPut_any (A B : Option Addr) (ss : List ByteArray) (ps : List (Int × ByteArray)) (ca cb : Nat) (k : Int) (y : ByteArray) (w : World) (hd : DiskIn w A B ss ps) (hA : Lies9 A ca) (hB : Lies9 B cb) :
    Calls Tryd.prog 42 #[diskV (.slice A ss.length ca) (.slice B ps.length cb), .int .i64 k, .string y] w fun e w' => ∃ v1 v2, e = .returned (.tuple #[diskV v1 v2, .bool (puOkB ss ps k y)]) ∧ OwnD w' w.heap.size v1 v2 (puS ss ps k y) (puP ss ps k y) ∧ Below w.heap.size w w' := by
  obtain ⟨W, hW⟩ : ∃ W, (w.alloc (.cells #[.slice A ss.length ca, .slice B ps.length cb] 26)).alloc (.cells #[.slice none 0 0, .slice none 0 0] 26) = W := ⟨_, rfl⟩
  have hbW : Below w.heap.size w W := by rw [← hW]; exact gAlloc2 _ _ _
  have hsW : W.heap.size = w.heap.size + 2 := by rw [← hW]; simp
  have h1 : W.heap[w.heap.size]? = some (.cells #[.slice A ss.length ca, .slice B ps.length cb] 26 (0, 0)) := by rw [← hW]; exact gBox9 _ _ _
  have h2 : W.heap[w.heap.size + 1]? = some (.cells #[.slice none 0 0, .slice none 0 0] 26 (0, 0)) := by
    rw [← hW, show w.heap.size + 1 = (w.alloc (.cells #[.slice A ss.length ca, .slice B ps.length cb] 26)).heap.size by simp]; exact heap_alloc_new _ _
  have HD := Lib.hid (hd.below hbW)
  have HG := Lib.hid (sGoodD_any A B ss ps ca cb _ HD.out)
  have HBW := Lib.hid hbW
  have H1 := Lib.hid h1
  have H2 := Lib.hid h2
  have hl1 := hd.len
  have hl2 := hd.len2
  have hy0 : W.cell? ⟨w.heap.size, 0, none⟩ = some (.slice A ss.length ca) := cell_of_row W _ 0 _ _ _ h1
  have hy1 : W.cell? ⟨w.heap.size, 1, none⟩ = some (.slice B ps.length cb) := cell_of_row W _ 1 _ _ _ h1
  have HY : Hid ((y.size : Int) = (y.size : Nat)) := rfl
  clear hd hbW
  go_enter Tryd.func42, Tryd.ntmps42
  go_wp2_with fail
  have HW := Lib.hid hW
  clear hW hy0 hy1
  refine HG.out.mono ?_
  rintro e w1 ⟨rfl, hb1⟩
  have k1 : w1.heap[w.heap.size]? = some (.cells #[.slice A ss.length ca, .slice B ps.length cb] 26 (0, 0)) := by rw [hb1.block _ (by omega)]; exact H1.out
  have k2 : w1.heap[w.heap.size + 1]? = some (.cells #[.slice none 0 0, .slice none 0 0] 26 (0, 0)) := by rw [hb1.block _ (by omega)]; exact H2.out
  have hx0 : w1.cell? ⟨w.heap.size, 0, none⟩ = some (.slice A ss.length ca) := cell_of_row w1 _ 0 _ _ _ k1
  have hx1 : w1.cell? ⟨w.heap.size, 1, none⟩ = some (.slice B ps.length cb) := cell_of_row w1 _ 1 _ _ _ k1
  have hd0 : w1.cell? ⟨w.heap.size + 1, 0, none⟩ = some (.slice none 0 0) := cell_of_row w1 _ 0 _ _ _ k2
  have hd1 : w1.cell? ⟨w.heap.size + 1, 1, none⟩ = some (.slice none 0 0) := cell_of_row w1 _ 1 _ _ _ k2
  have hg0 := frozen_of_row w1 _ 0 _ _ k2
  have hg1 := frozen_of_row w1 _ 1 _ _ k2
  have hs1 := hb1.size
  have HB1 := Lib.hid (below_more HBW.out hb1)
  have HD1 := Lib.hid (HD.out.below hb1)
  have K1 := Lib.hid k1
  have K2 := Lib.hid k2
  clear h1 h2 hb1 k1 k2 H1 H2 HG HD HW HBW
  cases hgd : goodDB ss ps
  · skip
    have HE := Lib.hid (pu_not (ss := ss) (ps := ps) (k := k) (y := y) (by rw [puOkB, hgd]; rfl))
    clear hgd
    go_wp2_with (go_at_call 57; refine (sAt9 _ _).mono ?_; rintro e w' ⟨rfl, rfl⟩)
    have hgo : ((w1.setCell ⟨w.heap.size + 1, 0, none⟩ (.slice none 0 0)).setCell ⟨w.heap.size + 1, 1, none⟩ (.slice none 0 0)).heap[w.heap.size + 1]? = some (.cells #[.slice none 0 0, .slice none 0 0] 26 (0, 0)) :=
      heap_setCell_same _ _ 1 _ _ _ (heap_setCell_same _ _ 0 _ _ _ K2.out)
    refine ret_dk2 rfl (w.heap.size + 1) _ _ false rfl rfl hgo rfl ?_
    exact ⟨_, _, by rw [HE.out.2.2], by rw [HE.out.1, HE.out.2.1]; exact OwnD.nil _ _, (HB1.out.setCell (show w.heap.size ≤ w.heap.size + 1 by omega) _).setCell (show w.heap.size ≤ w.heap.size + 1 by omega) _⟩
  cases h2 : inB k 0 11
  · skip
    have HE := Lib.hid (pu_not (ss := ss) (ps := ps) (k := k) (y := y) (by rw [puOkB, h2]; simp))
    clear hgd
    go_wp2_with (go_at_call 57; refine (sAt9 _ _).mono ?_; rintro e w' ⟨rfl, rfl⟩)
    have hgo : ((w1.setCell ⟨w.heap.size + 1, 0, none⟩ (.slice none 0 0)).setCell ⟨w.heap.size + 1, 1, none⟩ (.slice none 0 0)).heap[w.heap.size + 1]? = some (.cells #[.slice none 0 0, .slice none 0 0] 26 (0, 0)) :=
      heap_setCell_same _ _ 1 _ _ _ (heap_setCell_same _ _ 0 _ _ _ K2.out)
    refine ret_dk2 rfl (w.heap.size + 1) _ _ false rfl rfl hgo rfl ?_
    exact ⟨_, _, by rw [HE.out.2.2], by rw [HE.out.1, HE.out.2.1]; exact OwnD.nil _ _, (HB1.out.setCell (show w.heap.size ≤ w.heap.size + 1 by omega) _).setCell (show w.heap.size ≤ w.heap.size + 1 by omega) _⟩
  by_cases h3 : y.size = 16
  case neg =>
    have HE := Lib.hid (pu_not (ss := ss) (ps := ps) (k := k) (y := y) (by simp [puOkB, h3]))
    clear hgd
    have hyi : ((y.size : Int) != 16) = true := by simp; omega
    go_wp2_with (go_at_call 57; refine (sAt9 _ _).mono ?_; rintro e w' ⟨rfl, rfl⟩)
    have hgo : ((w1.setCell ⟨w.heap.size + 1, 0, none⟩ (.slice none 0 0)).setCell ⟨w.heap.size + 1, 1, none⟩ (.slice none 0 0)).heap[w.heap.size + 1]? = some (.cells #[.slice none 0 0, .slice none 0 0] 26 (0, 0)) :=
      heap_setCell_same _ _ 1 _ _ _ (heap_setCell_same _ _ 0 _ _ _ K2.out)
    refine ret_dk2 rfl (w.heap.size + 1) _ _ false rfl rfl hgo rfl ?_
    exact ⟨_, _, by rw [HE.out.2.2], by rw [HE.out.1, HE.out.2.1]; exact OwnD.nil _ _, (HB1.out.setCell (show w.heap.size ≤ w.heap.size + 1 by omega) _).setCell (show w.heap.size ≤ w.heap.size + 1 by omega) _⟩
  by_cases h4 : ps.length = 40
  case pos =>
    have HE := Lib.hid (pu_not (ss := ss) (ps := ps) (k := k) (y := y) (by simp [puOkB, h4]))
    clear hgd
    have hyi : ((y.size : Int) != 16) = false := by simp; omega
    have hp4 : ((ps.length : Int) == 40) = true := by simp; omega
    go_wp2_with (go_at_call 57; refine (sAt9 _ _).mono ?_; rintro e w' ⟨rfl, rfl⟩)
    have hgo : ((w1.setCell ⟨w.heap.size + 1, 0, none⟩ (.slice none 0 0)).setCell ⟨w.heap.size + 1, 1, none⟩ (.slice none 0 0)).heap[w.heap.size + 1]? = some (.cells #[.slice none 0 0, .slice none 0 0] 26 (0, 0)) :=
      heap_setCell_same _ _ 1 _ _ _ (heap_setCell_same _ _ 0 _ _ _ K2.out)
    refine ret_dk2 rfl (w.heap.size + 1) _ _ false rfl rfl hgo rfl ?_
    exact ⟨_, _, by rw [HE.out.2.2], by rw [HE.out.1, HE.out.2.1]; exact OwnD.nil _ _, (HB1.out.setCell (show w.heap.size ≤ w.heap.size + 1 by omega) _).setCell (show w.heap.size ≤ w.heap.size + 1 by omega) _⟩
  have hyi : ((y.size : Int) != 16) = false := by simp; omega
  have hp4 : ((ps.length : Int) == 40) = false := by simp; omega
  obtain ⟨q1, q2, -, -⟩ := good_len hgd
  have HE := Lib.hid (pu_yes (ss := ss) (ps := ps) (k := k) (y := y) (by simp [puOkB, hgd, h2, h3, h4]))
  have HOw := Lib.hid (sOwn9 A B ss ps ca cb w1 HD1.out hA hB (by omega) (by omega))
  have hq1 : ss.length ≤ 12 := by omega
  have HI2 := Lib.hid h2
  clear hgd hA hB q1 h3 h4
  go_wp2_with (go_at_call 57; refine (sAt9 _ _).mono ?_; rintro e w' ⟨rfl, rfl⟩)
  refine HOw.out.mono ?_
  rintro e w2 ⟨v1, v2, rfl, ho2, hb2⟩
  obtain ⟨A1, c1, rfl, _⟩ := ho2.sure.form fSt_len
  obtain ⟨A2, c2, rfl, _⟩ := ho2.later.form fPu_len
  have HO2 := Lib.hid ho2
  have hs2 := hb2.size
  have HB2 := Lib.hid (below_more HB1.out hb2)
  have K3 : Hid (w2.heap[w.heap.size + 1]? = some (.cells #[.slice none 0 0, .slice none 0 0] 26 (0, 0))) := by show _ = _; rw [hb2.block _ (by omega)]; exact K2.out
  have hY : Hid ((w2.alloc (.cells #[.slice A1 ss.length c1, .slice A2 ps.length c2] 26)).heap[w2.heap.size]? = some (.cells #[.slice A1 ss.length c1, .slice A2 ps.length c2] 26 (0, 0))) := heap_alloc_new _ _
  have hbY := gAlloc w2 (.cells #[.slice A1 ss.length c1, .slice A2 ps.length c2] 26)
  have HO4 := Lib.hid (HO2.out.below hbY)
  have HB4 := Lib.hid (below_more HB2.out hbY)
  have K4 : Hid ((w2.alloc (.cells #[.slice A1 ss.length c1, .slice A2 ps.length c2] 26)).heap[w.heap.size + 1]? = some (.cells #[.slice none 0 0, .slice none 0 0] 26 (0, 0))) := by show _ = _; rw [hbY.block _ (by omega)]; exact K3.out
  have hs4 : (w2.alloc (.cells #[.slice A1 ss.length c1, .slice A2 ps.length c2] 26)).heap.size = w2.heap.size + 1 := by simp
  have HB4x : Hid (Below w1.heap.size w1 (w2.alloc (.cells #[.slice A1 ss.length c1, .slice A2 ps.length c2] 26))) := below_more hb2 hbY
  have HLt1 := Lib.hid (fun g hg => (HO2.out.sure.lt g hg).2)
  have HLt2 := Lib.hid (fun g hg => (HO2.out.later.lt g hg).2)
  have HSz : Hid (w2.heap.size + 1 = (w2.alloc (.cells #[.slice A1 ss.length c1, .slice A2 ps.length c2] 26)).heap.size) := hs4.symm
  clear ho2 hb2 HOw K2 hx0 hx1 hd0 hd1 hg0 hg1 HD1 HO2 HB2 K3 hbY
  go_wp2_with (refine app_puL (w2.alloc (.cells #[.slice A1 ss.length c1, .slice A2 ps.length c2] 26)) w1.heap.size _ ps k y (w2.heap.size + 1) HSz.out rfl _ _ rfl rfl rfl HO4.out.later (by omega) (by omega) w1 HB4x.out ?_; intro v5 w5 H5; obtain ⟨A5, c5, rfl, _⟩ := H5.out.1.form fPu_len; have z5 : w5.heap[w2.heap.size]? = some (.cells #[.slice A1 ss.length c1, .slice A2 ps.length c2] 26 (0, 0)) := (H5.out.2.2.1.block _ (by rw [World.heap_size_alloc9]; omega) (fun e => Nat.lt_irrefl _ (HLt2.out _ e.symm))).trans ((heap_alloc_old _ _ _ (by omega)).trans hY.out); have k5 : w5.heap[w.heap.size + 1]? = some (.cells #[.slice none 0 0, .slice none 0 0] 26 (0, 0)) := (H5.out.2.2.1.block _ (by rw [World.heap_size_alloc9]; omega) (fun e => by have := (HO4.out.later.lt _ e.symm).1; omega)).trans ((heap_alloc_old _ _ _ (by omega)).trans K4.out); have y0 : w5.cell? ⟨w2.heap.size, 0, none⟩ = some (.slice A1 ss.length c1) := cell_of_row w5 _ 0 _ _ _ z5; have y1 : w5.cell? ⟨w2.heap.size, 1, none⟩ = some (.slice A2 ps.length c2) := cell_of_row w5 _ 1 _ _ _ z5; have e1 := frozen_of_row w5 _ 1 _ _ z5; have x0 : w5.cell? ⟨w.heap.size + 1, 0, none⟩ = some (.slice none 0 0) := cell_of_row w5 _ 0 _ _ _ k5; have x1 : w5.cell? ⟨w.heap.size + 1, 1, none⟩ = some (.slice none 0 0) := cell_of_row w5 _ 1 _ _ _ k5; have d0 := frozen_of_row w5 _ 0 _ _ k5; have d1 := frozen_of_row w5 _ 1 _ _ k5)
  obtain ⟨hP5, hB5, hG5, hAt5⟩ := H5.out
  rw [show (ps ++ [(k, y)]).length = ps.length + 1 by simp] at hP5 hAt5
  have hn1 : (Value.slice A1 ss.length c1).ownBlock ≠ some w2.heap.size := fun e => Nat.lt_irrefl _ (HLt1.out _ e)
  have hn5 : (Value.slice A5 (ps.length + 1) c5).ownBlock ≠ some w2.heap.size := fun e => by
    rcases hAt5 with h | h
    · exact Nat.lt_irrefl _ (HLt2.out _ (h.symm.trans e))
    · rw [h] at e; injection e with e; omega
  have hap : (Value.slice A1 ss.length c1).ownBlock = none ∨ (Value.slice A1 ss.length c1).ownBlock ≠ (Value.slice A5 (ps.length + 1) c5).ownBlock := by
    rcases hAt5 with h | h
    · rw [h]; exact HO4.out.apart
    · rw [h]; exact Or.inr fun e => by have := HLt1.out _ e; omega
  have hS5 := ((HO4.out.sure.below (gAlloc _ _)).kept hG5 HO4.out.apart)
  have g1 := gSet9 w5 w2.heap.size 1 (.slice A5 (ps.length + 1) c5)
  have g2 := gSet9 (w5.setCell ⟨w2.heap.size, 1, none⟩ (.slice A5 (ps.length + 1) c5)) (w.heap.size + 1) 0 (.slice A1 ss.length c1)
  have g3 := gSet9 ((w5.setCell ⟨w2.heap.size, 1, none⟩ (.slice A5 (ps.length + 1) c5)).setCell ⟨w.heap.size + 1, 0, none⟩ (.slice A1 ss.length c1)) (w.heap.size + 1) 1 (.slice A5 (ps.length + 1) c5)
  have hgo : (((w5.setCell ⟨w2.heap.size, 1, none⟩ (.slice A5 (ps.length + 1) c5)).setCell ⟨w.heap.size + 1, 0, none⟩ (.slice A1 ss.length c1)).setCell ⟨w.heap.size + 1, 1, none⟩ (.slice A5 (ps.length + 1) c5)).heap[w.heap.size + 1]? = some (.cells #[.slice A1 ss.length c1, .slice A5 (ps.length + 1) c5] 26 (0, 0)) :=
    heap_setCell_same _ _ 1 _ _ _ (heap_setCell_same _ _ 0 _ _ _ ((heap_setCell_other w5 ⟨w2.heap.size, 1, none⟩ (w.heap.size + 1) _ (by show w.heap.size + 1 ≠ w2.heap.size; omega)).trans k5))
  refine ret_dk2 rfl (w.heap.size + 1) _ _ true rfl rfl hgo rfl ?_
  have hB6 := HB1.out.trans (hB5.mono (show w.heap.size ≤ w1.heap.size by omega))
  refine ⟨_, _, by rw [HE.out.2.2], ?_, ((hB6.setCell (show w.heap.size ≤ w2.heap.size by omega) _).setCell (show w.heap.size ≤ w.heap.size + 1 by omega) _).setCell (show w.heap.size ≤ w.heap.size + 1 by omega) _⟩
  rw [HE.out.1, HE.out.2.1]
  refine ⟨(((hS5.kept g1 (Or.inr hn1)).cur (by omega) g2).cur (by omega) g3).lower (by omega), ?_, hap⟩
  exact (((hP5.kept g1 (Or.inr hn5)).cur (by omega) g2).cur (by omega) g3).lower (by omega)
theorem ownR_lies {T : TypeId} {k : Nat} {α : Type} {f : α → List Value} {w : World} {base n : Nat} {A : Option Addr} {c : Nat} {L : List α} (h : OwnR T k f w base (.slice A n c) L) : Lies9 A c := by
  rcases h.2 with ⟨e, _⟩ | ⟨g, cap, cur, e, _⟩
  · injection e with e1 e2 e3
    exact Or.inl ⟨e1, e3⟩
  · injection e with e1
    exact Or.inr ⟨_, _, e1⟩
theorem own9_lies {w : World} {base n : Nat} {A : Option Addr} {c : Nat} {zs : List Int} (h : Own w base (.slice A n c) zs) : Lies9 A c := by
  rcases h.2 with ⟨e, _⟩ | ⟨g, cap, cur, e, _⟩
  · injection e with e1 e2 e3
    exact Or.inl ⟨e1, e3⟩
  · injection e with e1
    exact Or.inr ⟨_, _, e1⟩
/-- The model's disks in one form. -/
theorem sNewDisk_D (w : World) : Calls Tryd.prog 74 #[] w fun e w' => ∃ v1 v2, e = .returned (diskV v1 v2) ∧ OwnD w' w.heap.size v1 v2 (List.replicate 12 zero16) [] ∧ Below w.heap.size w w' :=
  (sNewDisk w).mono fun _ _ ⟨v1, e, ho, hb⟩ => ⟨v1, _, e, ⟨ho, OwnR.nil _ _, by cases v1.ownBlock <;> simp [Value.ownBlock]⟩, hb⟩
theorem sSync_D (A B : Option Addr) (ss : List ByteArray) (ps : List (Int × ByteArray)) (ca cb : Nat) (w : World) (hd : DiskIn w A B ss ps) (hA : Lies9 A ca) :
    Calls Tryd.prog 75 #[diskV (.slice A ss.length ca) (.slice B ps.length cb)] w fun e w' => ∃ v1 v2, e = .returned (.tuple #[diskV v1 v2, .bool (goodDB ss ps)]) ∧ OwnD w' w.heap.size v1 v2 (syI ss ps) [] ∧ Below w.heap.size w w' :=
  (sSync_any A B ss ps ca cb w hd hA).mono fun _ _ ⟨v1, e, ho, hb⟩ => ⟨v1, _, e, ⟨ho, OwnR.nil _ _, by cases v1.ownBlock <;> simp [Value.ownBlock]⟩, hb⟩
theorem crL_length (ks : List Int) (torn : Int) (b : Nat) (ss : List ByteArray) (ps : List (Int × ByteArray)) : ∀ k, (crL ks torn b ss ps k).length = ss.length
  | 0 => rfl
  | k + 1 => by
    rw [crL, crStep]
    split <;> simp only [List.length_set, keepS] <;> split <;> simp only [List.length_set, crL_length ks torn b ss ps k]
theorem syI_len (ss : List ByteArray) (ps : List (Int × ByteArray)) : (syI ss ps).length ≤ 12 := by
  unfold syI; split
  · rename_i h; rw [syncL_length, (good_len h).1]; exact Nat.le_refl _
  · simp
theorem crI_len (ss : List ByteArray) (ps : List (Int × ByteArray)) (ks : List Int) (torn b : Int) : (crI ss ps ks torn b).length ≤ 12 := by
  unfold crI; split
  · rename_i h
    simp only [crOkB, Bool.and_eq_true] at h
    rw [crL_length, (good_len h.1).1]; exact Nat.le_refl _
  · simp
theorem pu_len (ss : List ByteArray) (ps : List (Int × ByteArray)) (k : Int) (y : ByteArray) : (puS ss ps k y).length ≤ 12 ∧ (puP ss ps k y).length ≤ 41 := by
  cases h : puOkB ss ps k y
  · rw [(pu_not h).1, (pu_not h).2.1]; simp
  · rw [(pu_yes h).1, (pu_yes h).2.1]
    simp only [puOkB, Bool.and_eq_true] at h
    obtain ⟨h1, h2, _⟩ := good_len h.1
    rw [List.length_append]; simp; omega
end Go.Proofs.YthbjcipdneminaaDoor
