/-
  KW: KR: The model of chapter 9: GoodDisk, ReadSector, ReadAll.
  KS: The model of chapter 9: NewDisk.
  KT: The model of chapter 9: SyncDisk.
  KU: The model of chapter 9: what a crash leaves (l9Crash).
  KV: The model of chapter 9: CrashDisk.
  KZ: The model of chapter 9, second part: l9Own (two copying appends in one region that draws its order), PutSector.
-/
import Derived.Test.YtgakklanboabjaaRD
import Derived.Deep.AppendLies
import Derived.StillTailTactics

/- KW -/
/- KR -/
namespace Go.Proofs.Ytgakklanboabjaa
open Go.RowKit

/-- A disk as an argument: its slices read as ss and ps, of lengths that a machine holds. -/
structure DiskIn (w : World) (A B : Option Addr) (ss : List ByteArray) (ps : List (Int × ByteArray)) : Prop where
  sure : Strs w A ss
  later : Puts w B ps
  len : ss.length ≤ 1048576
  len2 : ps.length ≤ 1048576
  size : ∀ s ∈ ss, s.size ≤ 1048576
  size2 : ∀ p ∈ ps, p.2.size ≤ 1048576
theorem DiskIn.below {w w' : World} {A B : Option Addr} {ss : List ByteArray} {ps : List (Int × ByteArray)} (h : DiskIn w A B ss ps) (hb : Below w.heap.size w w') : DiskIn w' A B ss ps := ⟨h.sure.below hb, h.later.below hb, h.len, h.len2, h.size, h.size2⟩
def stB9 (s : ByteArray) : Bool := decide (s.size = 16)
def puB9 (p : Int × ByteArray) : Bool := inB p.1 0 11 && stB9 p.2
def goodDB (ss : List ByteArray) (ps : List (Int × ByteArray)) : Bool := ss.all stB9 && (ps.all puB9 && (decide (ss.length = 12) && decide (ps.length ≤ 40)))
theorem all_take {α : Type} {f : α → Bool} {l : List α} {j : Nat} (hj : j < l.length) : (l.take (j + 1)).all f = ((l.take j).all f && f l[j]) := by
  rw [List.take_succ_eq_append_getElem hj, List.all_append]; simp
theorem all_no {α : Type} {f : α → Bool} {l : List α} {j : Nat} (hj : j < l.length) (h : f l[j] = false) : l.all f = false := by
  cases hl : l.all f
  · rfl
  · have := List.all_eq_true.1 hl l[j] (List.getElem_mem hj)
    rw [h] at this; cases this
/-- What sector k holds: the last write to it, else what is sure. -/
def rdL (ss : List ByteArray) (ps : List (Int × ByteArray)) (k : Nat) : ByteArray := ps.foldl (fun s p => if p.1 = (k : Int) then p.2 else s) (ss.getD k ⟨#[]⟩)
theorem rdL_snoc (ss : List ByteArray) {ps : List (Int × ByteArray)} (k : Nat) {j : Nat} (hj : j < ps.length) : rdL ss (ps.take (j + 1)) k = if ps[j].1 = (k : Int) then ps[j].2 else rdL ss (ps.take j) k := by
  rw [rdL, List.take_succ_eq_append_getElem hj, List.foldl_append]; rfl
def rsOkB (ss : List ByteArray) (ps : List (Int × ByteArray)) (k : Int) : Bool := goodDB ss ps && inB k 0 11
def rsI (ss : List ByteArray) (ps : List (Int × ByteArray)) (k : Int) : ByteArray := if rsOkB ss ps k = true then rdL ss ps k.toNat else ⟨#[]⟩
theorem good_len {ss : List ByteArray} {ps : List (Int × ByteArray)} (h : goodDB ss ps = true) : ss.length = 12 ∧ ps.length ≤ 40 ∧ (∀ s ∈ ss, s.size = 16) ∧ ∀ p ∈ ps, (0 ≤ p.1 ∧ p.1 ≤ 11) ∧ p.2.size = 16 := by
  simp only [goodDB, Bool.and_eq_true, decide_eq_true_eq] at h
  refine ⟨h.2.2.1, h.2.2.2, fun s hs => ?_, fun p hp => ?_⟩
  · have := List.all_eq_true.1 h.1 s hs
    simpa [stB9] using this
  · have := List.all_eq_true.1 h.2.1 p hp
    simp only [puB9, stB9, inB, Bool.and_eq_true, decide_eq_true_eq] at this
    exact this
theorem tupSB {a b : ByteArray} {c d : Bool} (h : a = b) (k : c = d) : Ending.returned (.tuple #[.string a, .bool c]) = .returned (.tuple #[.string b, .bool d]) := by rw [h, k]
theorem rdL_size {ss : List ByteArray} {ps : List (Int × ByteArray)} (h : goodDB ss ps = true) {k : Nat} (hk : k < 12) : (rdL ss ps k).size = 16 := by
  obtain ⟨h1, _, h3, h4⟩ := good_len h
  have hk' : k < ss.length := by omega
  have : ∀ (qs : List (Int × ByteArray)) (s : ByteArray), s.size = 16 → (∀ p ∈ qs, p.2.size = 16) → (qs.foldl (fun s p => if p.1 = (k : Int) then p.2 else s) s).size = 16 := by
    intro qs
    induction qs with
    | nil => intro s hs _; exact hs
    | cons p qs ih =>
      intro s hs hq
      refine ih _ ?_ (fun x hx => hq x (List.mem_cons_of_mem _ hx))
      show (if p.1 = (k : Int) then p.2 else s).size = 16
      split
      · exact hq p (List.mem_cons_self ..)
      · exact hs
  refine this ps _ ?_ (fun p hp => (h4 p hp).2)
  rw [show ss.getD k ⟨#[]⟩ = ss[k] by simp [List.getD, hk']]
  exact h3 _ (List.getElem_mem hk')
/-- The first k sectors, one behind another. -/
def raL (ss : List ByteArray) (ps : List (Int × ByteArray)) : Nat → ByteArray
  | 0 => ⟨#[]⟩
  | k + 1 => raL ss ps k ++ rdL ss ps k
theorem raL_size {ss : List ByteArray} {ps : List (Int × ByteArray)} (h : goodDB ss ps = true) : ∀ {k : Nat}, k ≤ 12 → (raL ss ps k).size = 16 * k
  | 0, _ => rfl
  | k + 1, hk => by rw [raL, size_append9, raL_size h (by omega), rdL_size h (by omega)]; omega
def raI (ss : List ByteArray) (ps : List (Int × ByteArray)) : ByteArray := if goodDB ss ps = true then raL ss ps 12 else ⟨#[]⟩
end Go.Proofs.Ytgakklanboabjaa

/- KS -/
namespace Go.Proofs.Ytgakklanboabjaa
open Go.RowKit

theorem byteInfo9 : (Try.prog.info? 5).map (fun i => (i.zero, i.size, i.bytes)) = some (some (.int .u8 0), 1, 1) := by kernel_rfl
def zero16 : ByteArray := strB (List.replicate 16 0)
theorem World.heap_size_alloc9 (w : World) (o : Obj) : (w.alloc o).heap.size = w.heap.size + 1 := by simp
theorem gBelow9 {w w' : World} (h : w.grownBy w' none) : Below w.heap.size w w' := ⟨h.os, h.tape, h.output, h.size, fun k hk => h.block k hk (by simp)⟩
theorem hown9 {w : World} {base j : Nat} {A1 : Option Addr} {n c1 : Nat} {z : ByteArray} {o : Obj} (h : OwnSt w base (.slice A1 n c1) (List.replicate j z)) : (w.alloc o).ownsRow base 9 1 (.slice A1 n c1) j (List.replicate j (.string z)) := by
  have e : (List.replicate j z).flatMap fSt = List.replicate j (Value.string z) := by simp [List.flatMap, List.map_replicate]
  have h2 : w.ownsRow base 9 1 (.slice A1 n c1) j (List.replicate j (.string z)) := by
    have h3 := h
    show World.ownsRow _ _ _ _ _ _ _
    unfold OwnSt OwnR at h3
    rw [e, List.length_replicate] at h3
    exact h3
  exact h2.alloc _
end Go.Proofs.Ytgakklanboabjaa

/- KT -/
namespace Go.Proofs.Ytgakklanboabjaa
open Go.RowKit

/-- A slice is none, or lies in a block. -/
def Lies9 (A : Option Addr) (ca : Nat) : Prop := (A = none ∧ ca = 0) ∨ ∃ b o, A = some ⟨b, o, none⟩
theorem flat_cells {k : Nat} {α : Type} {f : α → List Value} (hk : ∀ x, (f x).length = k) (hk0 : 0 < k) {w : World} {b o : Nat} {L : List α} (h : RdR k f w (some ⟨b, o, none⟩) L) : ∀ t u, (L.flatMap f)[t]? = some u → w.cell? ((⟨b, o, none⟩ : Addr).add t) = some u := fun t u hu => by
  have ht : t < L.length * k := by
    have := (List.getElem?_eq_some_iff.1 hu).1
    rw [flat_len hk] at this; exact this
  have hj : t / k < L.length := Nat.div_lt_of_lt_mul (by rw [Nat.mul_comm]; exact ht)
  have e : t / k * k + t % k = t := by rw [Nat.mul_comm]; exact Nat.div_add_mod t k
  obtain ⟨b', o', e', hc⟩ := h (by rintro rfl; simp at hj)
  injection e' with e'
  injection e' with e1 e2
  subst e1; subst e2
  rw [← e, flat_at hk L _ hj _ (Nat.mod_lt _ hk0)] at hu
  have := hc (t / k) hj (t % k) u hu
  rw [show (⟨b, o, none⟩ : Addr).add t = ⟨b, o + t, none⟩ by unfold Addr.add; split <;> simp_all, ← this]
  congr 2
  omega
/-- append([]T{}, l...): a copy of the call's own. -/
theorem app_copyR {T Ts : TypeId} {k bytes : Nat} {α : Type} {f : α → List Value} (hk : ∀ x, (f x).length = k) (hk0 : 0 < k) (hf : ∀ x, ∀ u ∈ f x, u.oneCell' = true) {i : TypeInfo} {z : Value} (ht : Try.prog.underlying Ts = some (.slice T)) (hi : Try.prog.info? T = some i) (hz : i.zero = some z) (hsize : i.size = k) (hby : i.bytes = bytes) (hzs : z.cells.size = k) (hb16 : bytes ≤ 1000)
    {ops : Array Oper} {rest : List Oper} {o : Oper} {a : Act} {Q : Exit → Act → World → Prop} (W : World) (L : List α) (A : Option Addr) (ca m : Nat) (hm : L.length = m) (Bn : Nat) (hBn : Bn = W.heap.size) (hgd : o.guard = none) (s x : Operand)
    (ho : o.op = .call { callee := .builtin .append, args := #[s, x], argTypes := #[Ts, Ts] }) (hs : a.eval s = .slice (some ⟨Bn, 0, none⟩) 0 0) (hx : a.eval x = .slice A m ca)
    (hA : Lies9 A ca) (hI : RdR k f W A L) (hl : L.length ≤ 1000000)
    (h : ∀ v' w', Hid (OwnR T k f w' W.heap.size v' L ∧ Below W.heap.size W w') → wpList Try.prog ops Q rest (a.put o.dst v') w') :
    wpList Try.prog ops Q (o :: rest) a (W.alloc (.cells #[] T)) := by
  subst hBn
  subst hm
  have hO : OwnR T k f (W.alloc (.cells #[] T)) W.heap.size (.slice (some ⟨W.heap.size, 0, none⟩) 0 0) ([] : List α) :=
    ⟨by simp, Or.inr ⟨W.heap.size, 0, #[], rfl, Nat.le_refl _, heap_alloc_new _ _, Nat.le_refl _, by unfold maxLen; omega, by simp, by simp⟩⟩
  have hB : Below W.heap.size W (W.alloc (.cells #[] T)) := gAlloc _ _
  rcases hA with ⟨rfl, rfl⟩ | ⟨b0, o0, rfl⟩
  · have hL0 : L = [] := by
      cases L with
      | nil => rfl
      | cons x l =>
        obtain ⟨b, o, e, _⟩ := hI (by simp)
        cases e
    subst hL0
    exact wpList_append_own_none hgd s x Ts ho W.heap.size T i k ht hi _ 0 [] hs hO hx (h _ _ ⟨hO, hB⟩)
  · refine wpList_append_own _ hgd s x Ts ho W.heap.size T i z k bytes ht hi hz hsize hby hzs hk0 _ 0 [] hs hO ⟨b0, o0, none⟩ L.length ca (L.flatMap f) hx (flat_len hk L) (flat_cells hk hk0 (hI.below hB)) ?_ ?_ ?_ ?_ ?_
    · intro u hu
      obtain ⟨y, _, hy⟩ := List.mem_flatMap.1 hu
      exact hf y u hy
    · unfold maxLen; omega
    · have : (0 + L.length) * bytes ≤ (0 + L.length) * 1000 := Nat.mul_le_mul_left _ hb16
      omega
    · simp
    · intro v' w' h1 h2 _
      refine h v' w' ⟨?_, hB.grown h2 (by simp) (fun g hg => by simp [Value.ownBlock] at hg; omega)⟩
      unfold OwnR
      simpa using h1
/-- The sectors behind the writes. -/
def syncL (ss : List ByteArray) (ps : List (Int × ByteArray)) : List ByteArray := ps.foldl (fun s p => s.set p.1.toNat p.2) ss
theorem syncL_snoc (ss : List ByteArray) {ps : List (Int × ByteArray)} {j : Nat} (hj : j < ps.length) : syncL ss (ps.take (j + 1)) = (syncL ss (ps.take j)).set ps[j].1.toNat ps[j].2 := by
  rw [syncL, List.take_succ_eq_append_getElem hj, List.foldl_append]; rfl
theorem syncL_length (ss : List ByteArray) (ps : List (Int × ByteArray)) : (syncL ss ps).length = ss.length := by
  unfold syncL
  induction ps generalizing ss with
  | nil => rfl
  | cons p ps ih => rw [List.foldl_cons, ih, List.length_set]
def syI (ss : List ByteArray) (ps : List (Int × ByteArray)) : List ByteArray := if goodDB ss ps = true then syncL ss ps else []
end Go.Proofs.Ytgakklanboabjaa

/- KU -/
namespace Go.Proofs.Ytgakklanboabjaa
open Go.RowKit

/-- One write at a crash: kept, torn, or lost. -/
def keepS (ks : List Int) (k : Nat) (s : List ByteArray) (p : Int × ByteArray) : List ByteArray := if (k : Int) ∈ ks then s.set p.1.toNat p.2 else s
def tornT (b : Nat) (s : List ByteArray) (p : Int × ByteArray) : ByteArray := p.2.extract 0 b ++ (s.getD p.1.toNat ⟨#[]⟩).extract b 16
def crStep (ks : List Int) (torn : Int) (b k : Nat) (s : List ByteArray) (p : Int × ByteArray) : List ByteArray := if (k : Int) = torn then (keepS ks k s p).set p.1.toNat (tornT b (keepS ks k s p) p) else keepS ks k s p
def crL (ks : List Int) (torn : Int) (b : Nat) (ss : List ByteArray) (ps : List (Int × ByteArray)) : Nat → List ByteArray
  | 0 => ss
  | k + 1 => crStep ks torn b k (crL ks torn b ss ps k) (ps.getD k (0, ⟨#[]⟩))
theorem whole9 (y : ByteArray) {b : Nat} (h : b ≤ 16) : y.extract 0 b ++ y.extract b 16 = y.extract 0 16 := by
  rw [ByteArray.extract_append_extract]
  congr 1 <;> omega
def Good16 (s : List ByteArray) : Prop := s.length = 12 ∧ ∀ x ∈ s, x.size = 16
theorem Good16.set {s : List ByteArray} (h : Good16 s) {q : Nat} {y : ByteArray} (hy : y.size = 16) : Good16 (s.set q y) := ⟨by rw [List.length_set]; exact h.1, fun x hx => by
  rcases List.mem_or_eq_of_mem_set hx with h' | rfl
  · exact h.2 x h'
  · exact hy⟩
theorem Good16.keep {s : List ByteArray} (h : Good16 s) (ks : List Int) (k : Nat) {p : Int × ByteArray} (hp : p.2.size = 16) : Good16 (keepS ks k s p) := by
  unfold keepS; split
  · exact h.set hp
  · exact h
theorem Good16.at {s : List ByteArray} (h : Good16 s) {q : Nat} (hq : q < 12) : (s.getD q ⟨#[]⟩).size = 16 := by
  have hq' : q < s.length := by rw [h.1]; exact hq
  rw [show s.getD q ⟨#[]⟩ = s[q] by simp [List.getD, hq']]
  exact h.2 _ (List.getElem_mem hq')
theorem torn_size {b : Nat} {s : List ByteArray} {p : Int × ByteArray} (h : Good16 s) (hp : p.2.size = 16) (hq : p.1.toNat < 12) (hb : b ≤ 16) : (tornT b s p).size = 16 := by
  rw [tornT, size_append9, ByteArray.size_extract, ByteArray.size_extract, h.at hq, hp]; omega
theorem Good16.step {s : List ByteArray} (h : Good16 s) (ks : List Int) (torn : Int) {b : Nat} (k : Nat) {p : Int × ByteArray} (hp : p.2.size = 16) (hq : p.1.toNat < 12) (hb : b ≤ 16) : Good16 (crStep ks torn b k s p) := by
  unfold crStep; split
  · exact (h.keep ks k hp).set (torn_size (h.keep ks k hp) hp hq hb)
  · exact h.keep ks k hp
end Go.Proofs.Ytgakklanboabjaa

/- KV -/
namespace Go.Proofs.Ytgakklanboabjaa
open Go.RowKit

def crOkB (ss : List ByteArray) (ps : List (Int × ByteArray)) (ks : List Int) (torn b : Int) : Bool := goodDB ss ps && (risB 0 (ps.length : Int) ks && (inB torn (-1) ((ps.length : Int) - 1) && (!decide (torn ∈ ks) && (inB b 0 16 && !(decide (torn < 0) && decide (0 < b))))))
def crI (ss : List ByteArray) (ps : List (Int × ByteArray)) (ks : List Int) (torn b : Int) : List ByteArray := if crOkB ss ps ks torn b = true then crL ks torn b.toNat ss ps ps.length else []
theorem cr_not {ss : List ByteArray} {ps : List (Int × ByteArray)} {ks : List Int} {torn b : Int} (h : crOkB ss ps ks torn b = false) : crI ss ps ks torn b = [] ∧ crOkB ss ps ks torn b = false := ⟨by rw [crI, h]; rfl, h⟩
end Go.Proofs.Ytgakklanboabjaa

/- KZ -/
namespace Go.Proofs.Ytgakklanboabjaa
open Go.RowKit

/-- An empty literal lies in block B. -/
def Lit0 (T : TypeId) (w : World) (B : Nat) : Prop := w.heap[B]? = some (.cells #[] T (0, 0))
theorem Lit0.new (T : TypeId) (w : World) : Lit0 T (w.alloc (.cells #[] T)) w.heap.size := heap_alloc_new _ _
theorem Lit0.new' {T : TypeId} {w : World} {B : Nat} (h : B = w.heap.size) : Lit0 T (w.alloc (.cells #[] T)) B := by subst h; exact Lit0.new T w
theorem Lit0.newD {T : TypeId} {w : World} {B : Nat} (h : B = w.heap.size) : Lit0 T (w.alloc (.cells #[] T)).drew B := Lit0.new' h
theorem Lit0.lt {T : TypeId} {w : World} {B : Nat} (h : Lit0 T w B) : B < w.heap.size := heap_lt h
theorem Lit0.below {T : TypeId} {w w' : World} {B : Nat} (h : Lit0 T w B) (hb : Below w.heap.size w w') : Lit0 T w' B := (hb.block B h.lt).trans h
theorem Lit0.oldD {T : TypeId} {w : World} {B : Nat} {o : Obj} (h : B = w.heap.size) : Lit0 T ((w.alloc (.cells #[] T)).alloc o).drew B := (Lit0.new' h).below (below_more (gAlloc _ _) gDrew)
/-- A copy of a slice, made behind an empty literal in block B. -/
structure Copied (T : TypeId) (k : Nat) {α : Type} (f : α → List Value) (W : World) (B base : Nat) (L : List α) (v : Value) (w' : World) : Prop where
  own : OwnR T k f w' base v L
  grown : W.grownBy w' (some B)
  at_ : v.ownBlock = some B ∨ v.ownBlock = some W.heap.size
theorem run_copyR {T Ts ty : TypeId} {k bytes : Nat} {α : Type} {f : α → List Value} (hk : ∀ x, (f x).length = k) (hk0 : 0 < k) (hf : ∀ x, ∀ u ∈ f x, u.oneCell' = true) {i : TypeInfo} {z : Value} (ht : Try.prog.underlying Ts = some (.slice T)) (hi : Try.prog.info? T = some i) (hz : i.zero = some z) (hsize : i.size = k) (hby : i.bytes = bytes) (hzs : z.cells.size = k) (hb16 : bytes ≤ 1000)
    (W : World) (L : List α) (A : Option Addr) (ca m : Nat) (hm : L.length = m) (B base : Nat) (hB : Lit0 T W B) (hbase : base ≤ B) (hA : Lies9 A ca) (hI : RdR k f W A L) (hl : L.length ≤ 1000000) :
    ∃ v' w', (Builtin.append_ #[Ts, Ts] ty #[.slice (some ⟨B, 0, none⟩) 0 0, .slice A m ca]).run Try.prog W = .ok v' w' ∧ Copied T k f W B base L v' w' := by
  subst hm
  have hO : W.ownsRow base T k (.slice (some ⟨B, 0, none⟩) 0 0) 0 [] :=
    ⟨by simp, Or.inr ⟨B, 0, #[], rfl, hbase, hB, Nat.le_refl _, by unfold maxLen; omega, by simp, by simp⟩⟩
  rcases hA with ⟨rfl, rfl⟩ | ⟨b0, o0, rfl⟩
  · have hL0 : L = [] := by
      cases L with
      | nil => rfl
      | cons x l =>
        obtain ⟨b, o, e, _⟩ := hI (by simp)
        cases e
    subst hL0
    exact ⟨_, W, run_append_owned_none W base Ts ty T i k ht hi _ 0 [] hO, ⟨hO, gBelowR (Below.refl _ _) _, Or.inl rfl⟩⟩
  · obtain ⟨v', w', hr, h2, h3, _, h5⟩ := run_append_own_at (P := Try.prog) W base Ts ty T i z k bytes ht hi hz hsize hby hzs hk0 _ 0 [] hO ⟨b0, o0, none⟩ L.length ca (L.flatMap f) (flat_len hk L) (flat_cells hk hk0 hI) (fun u hu => by
      obtain ⟨y, _, hy⟩ := List.mem_flatMap.1 hu
      exact hf y u hy) (by unfold maxLen; omega) (by
      have : (0 + L.length) * bytes ≤ (0 + L.length) * 1000 := Nat.mul_le_mul_left _ hb16
      omega) (Nat.le_trans hbase (Nat.le_of_lt hB.lt))
    refine ⟨v', w', hr, ⟨by unfold OwnR; simpa using h2, h3, h5⟩⟩
theorem Copied.cell {T : TypeId} {k : Nat} {α : Type} {f : α → List Value} {W w' : World} {B base : Nat} {L : List α} {v : Value} (h : Copied T k f W B base L v w') {a : Addr} {u : Value} (hne : a.block ≠ B) (hc : W.cell? a = some u) : w'.cell? a = some u :=
  h.grown.cell hc (by intro e; injection e with e; exact hne e)
theorem Copied.lit {T T' : TypeId} {k : Nat} {α : Type} {f : α → List Value} {W w' : World} {B B' base : Nat} {L : List α} {v : Value} (h : Copied T k f W B base L v w') (hne : B' ≠ B) (hc : Lit0 T' W B') : Lit0 T' w' B' :=
  (h.grown.block B' hc.lt (by intro e; injection e with e; exact hne e)).trans hc
/-- Two copies, one behind the other. -/
theorem two_copied {T1 T2 : TypeId} {k1 k2 : Nat} {α β : Type} {f1 : α → List Value} {f2 : β → List Value} {w0 W1 w1 W2 w2 : World} {B1 B2 base : Nat} {L1 : List α} {L2 : List β} {v1 v2 : Value}
    (h1 : Copied T1 k1 f1 W1 B1 base L1 v1 w1) (h12 : Below w1.heap.size w1 W2) (h2 : Copied T2 k2 f2 W2 B2 base L2 v2 w2) (hne : B2 ≠ B1) (hB : B2 < W1.heap.size ∨ w1.heap.size ≤ B2) (hb1 : base ≤ B1) (hb2 : base ≤ B2) (hb0 : base ≤ W1.heap.size) (h0 : Below base w0 W1) :
    OwnR T1 k1 f1 w2 base v1 L1 ∧ OwnR T2 k2 f2 w2 base v2 L2 ∧ (v1.ownBlock = none ∨ v1.ownBlock ≠ v2.ownBlock) ∧ Below base w0 w2 := by
  have hlt := h1.own.lt
  have hat := h1.at_
  have hs1 := h1.grown.size
  have hs2 := h12.size
  have ha2 : v1.ownBlock ≠ some B2 := fun e => by
    rcases hat with h | h
    · rw [h] at e; injection e with e; exact hne e.symm
    · have hl := (hlt _ h).2
      rw [h] at e; injection e with e
      rcases hB with hB | hB
      · omega
      · omega
  refine ⟨(h1.own.below h12).kept h2.grown (Or.inr ha2), h2.own, ?_, ?_⟩
  · rcases h2.at_ with h | h
    · rw [h]; exact Or.inr ha2
    · refine Or.inr fun e => ?_
      rw [h] at e
      have := (hlt _ e).2
      omega
  · have hb1' : Below base w0 w1 := h0.grown h1.grown hb0 (fun k hk => by injection hk with hk; omega)
    have hbW : Below base w0 W2 := hb1'.trans (h12.mono (by omega))
    exact hbW.grown h2.grown (by omega) (fun k hk => by injection hk with hk; omega)
/-- The same, as one step of a region that draws its order. -/
theorem step_copyR {T Ts : TypeId} {k bytes : Nat} {α : Type} {f : α → List Value} (hk : ∀ x, (f x).length = k) (hk0 : 0 < k) (hf : ∀ x, ∀ u ∈ f x, u.oneCell' = true) {i : TypeInfo} {z : Value} (ht : Try.prog.underlying Ts = some (.slice T)) (hi : Try.prog.info? T = some i) (hz : i.zero = some z) (hsize : i.size = k) (hby : i.bytes = bytes) (hzs : z.cells.size = k) (hb16 : bytes ≤ 1000)
    {ops : Array Oper} {o : Oper} {a : Act} {K : Act → World → Prop} {Q : Exit → Act → World → Prop} {E : Prop} (W : World) (L : List α) (A : Option Addr) (ca m : Nat) (hm : L.length = m) (B base : Nat) (hgd : o.guard = none) (s x : Operand)
    (ho : o.op = .call { callee := .builtin .append, args := #[s, x], argTypes := #[Ts, Ts] }) (hs : a.eval s = .slice (some ⟨B, 0, none⟩) 0 0) (hx : a.eval x = .slice A m ca)
    (hB : Lit0 T W B) (hbase : base ≤ B) (hA : Lies9 A ca) (hI : RdR k f W A L) (hl : L.length ≤ 1000000)
    (h : ∀ v' w', Hid (Copied T k f W B base L v' w') → K (a.put o.dst v') w') :
    if Region.wanted o (yielded ops a.tmps) = true then Oper.wp Try.prog o a W K Q else E := by
  have hw : Region.wanted o (yielded ops a.tmps) = true := by simp [Region.wanted, hgd]
  rw [if_pos hw]
  obtain ⟨v', w', hr, hc⟩ := run_copyR (ty := o.type) hk hk0 hf ht hi hz hsize hby hzs hb16 W L A ca m hm B base hB hbase hA hI hl
  unfold Oper.wp execOp
  simp only [ho, resolve, invoke, builtin, Sem.run_bind, Sem.run_pure, Result.andThen_ok, List.map_toArray, List.map_cons, List.map_nil, hs, hx, hr]
  exact h v' w' hc
theorem World.heap_size_drew9 (w : World) : w.drew.heap.size = w.heap.size := rfl
theorem gBox9 (w : World) (o : Obj) (x : Obj) : ((w.alloc o).alloc x).heap[w.heap.size]? = some o := by
  rw [heap_alloc_old _ _ _ (by simp)]; exact heap_alloc_new _ _
/-- append(l, p), and where the new slice lies. -/
theorem app_rowL {T Ts : TypeId} {k bytes : Nat} {α : Type} {f : α → List Value} (hk : ∀ x, (f x).length = k) (hk0 : 0 < k) (hf : ∀ x, ∀ u ∈ f x, u.oneCell' = true) {i : TypeInfo} {z : Value} (ht : Try.prog.underlying Ts = some (.slice T)) (hi : Try.prog.info? T = some i) (hz : i.zero = some z) (hsize : i.size = k) (hby : i.bytes = bytes) (hzs : z.cells.size = k) (hb16 : bytes ≤ 1000)
    {ops : Array Oper} {rest : List Oper} {o : Oper} {a : Act} {Q : Exit → Act → World → Prop} (W : World) (base : Nat) (v : Value) (L : List α) (y : α) (Bn : Nat) (hBn : Bn = W.heap.size) (hgd : o.guard = none) (s x : Operand)
    (ho : o.op = .call { callee := .builtin .append, args := #[s, x], argTypes := #[Ts, Ts] }) (hs : a.eval s = v) (hx : a.eval x = .slice (some ⟨Bn, 0, none⟩) 1 1)
    (hown : OwnR T k f W base v L) (hbase : base ≤ W.heap.size) (hlen : L.length ≤ 2000000) (w0 : World) (hb : Below base w0 W)
    (h : ∀ v' w', Hid (OwnR T k f w' base v' (L ++ [y]) ∧ Below base w0 w' ∧ (W.alloc (.cells (f y).toArray T)).grownBy w' v.ownBlock ∧ (v'.ownBlock = v.ownBlock ∨ v'.ownBlock = some (W.heap.size + 1))) → wpList Try.prog ops Q rest (a.put o.dst v') w') :
    wpList Try.prog ops Q (o :: rest) a (W.alloc (.cells (f y).toArray T)) := by
  subst hBn
  have hown' : W.ownsRow base T k v L.length (L.flatMap f) := hown
  refine wpList_append_own_at _ hgd s x Ts ho base T i z k bytes ht hi hz hsize hby hzs hk0 v L.length _ hs (hown'.alloc _) ⟨W.heap.size, 0, none⟩ 1 1 (f y) hx (by rw [hk]; omega) (fun j u hu => ?_) (hf y) ?_ ?_ ?_ ?_
  · have e1 : (⟨W.heap.size, 0, none⟩ : Addr).add j = ⟨W.heap.size, j, none⟩ := by unfold Addr.add; split <;> simp_all
    rw [e1, cell_of_row _ _ j _ _ _ (heap_alloc_new _ _)]
    simpa using hu
  · unfold maxLen; omega
  · have : (L.length + 1) * bytes ≤ (L.length + 1) * 1000 := Nat.mul_le_mul_left _ hb16
    omega
  · simp; omega
  · intro v' w' h1 h2 _ h4
    refine h v' w' ⟨?_, (hb.alloc hbase _).grown h2 (by simp; omega) (fun g hg => (World.ownsRow.lt hown g hg).1), h2, by rw [World.heap_size_alloc9] at h4; exact h4⟩
    unfold OwnR
    rw [List.length_append, List.flatMap_append]
    simpa using h1
def puOkB (ss : List ByteArray) (ps : List (Int × ByteArray)) (k : Int) (y : ByteArray) : Bool := goodDB ss ps && (inB k 0 11 && (decide (y.size = 16) && !decide (ps.length = 40)))
def puS (ss : List ByteArray) (ps : List (Int × ByteArray)) (k : Int) (y : ByteArray) : List ByteArray := if puOkB ss ps k y = true then ss else []
def puP (ss : List ByteArray) (ps : List (Int × ByteArray)) (k : Int) (y : ByteArray) : List (Int × ByteArray) := if puOkB ss ps k y = true then ps ++ [(k, y)] else []
theorem pu_not {ss : List ByteArray} {ps : List (Int × ByteArray)} {k : Int} {y : ByteArray} (h : puOkB ss ps k y = false) : puS ss ps k y = [] ∧ puP ss ps k y = [] ∧ puOkB ss ps k y = false := ⟨by rw [puS, h]; rfl, by rw [puP, h]; rfl, h⟩
theorem pu_yes {ss : List ByteArray} {ps : List (Int × ByteArray)} {k : Int} {y : ByteArray} (h : puOkB ss ps k y = true) : puS ss ps k y = ss ∧ puP ss ps k y = ps ++ [(k, y)] ∧ puOkB ss ps k y = true := ⟨by rw [puS, h]; rfl, by rw [puP, h]; rfl, h⟩
theorem ownR_lies {T : TypeId} {k : Nat} {α : Type} {f : α → List Value} {w : World} {base n : Nat} {A : Option Addr} {c : Nat} {L : List α} (h : OwnR T k f w base (.slice A n c) L) : Lies9 A c := by
  rcases h.2 with ⟨e, _⟩ | ⟨g, cap, cur, e, _⟩
  · injection e with e1 e2 e3
    exact Or.inl ⟨e1, e3⟩
  · injection e with e1
    exact Or.inr ⟨_, _, e1⟩
theorem own9_lies {w : World} {base n : Nat} {A : Option Addr} {c : Nat} {zs : List Int} (h : Own w base (.slice A n c) zs) : Lies9 A c := by
  rcases h.2 with ⟨e, _⟩ | ⟨g, cap, cur, e, _⟩
  · injection e with e1 e2 e3
    exact Or.inl ⟨e1, e3⟩
  · injection e with e1
    exact Or.inr ⟨_, _, e1⟩
theorem crL_length (ks : List Int) (torn : Int) (b : Nat) (ss : List ByteArray) (ps : List (Int × ByteArray)) : ∀ k, (crL ks torn b ss ps k).length = ss.length
  | 0 => rfl
  | k + 1 => by
    rw [crL, crStep]
    split <;> simp only [List.length_set, keepS] <;> split <;> simp only [List.length_set, crL_length ks torn b ss ps k]
theorem syI_len (ss : List ByteArray) (ps : List (Int × ByteArray)) : (syI ss ps).length ≤ 12 := by
  unfold syI; split
  · rename_i h; rw [syncL_length, (good_len h).1]; exact Nat.le_refl _
  · simp
theorem crI_len (ss : List ByteArray) (ps : List (Int × ByteArray)) (ks : List Int) (torn b : Int) : (crI ss ps ks torn b).length ≤ 12 := by
  unfold crI; split
  · rename_i h
    simp only [crOkB, Bool.and_eq_true] at h
    rw [crL_length, (good_len h.1).1]; exact Nat.le_refl _
  · simp
theorem pu_len (ss : List ByteArray) (ps : List (Int × ByteArray)) (k : Int) (y : ByteArray) : (puS ss ps k y).length ≤ 12 ∧ (puP ss ps k y).length ≤ 41 := by
  cases h : puOkB ss ps k y
  · rw [(pu_not h).1, (pu_not h).2.1]; simp
  · rw [(pu_yes h).1, (pu_yes h).2.1]
    simp only [puOkB, Bool.and_eq_true] at h
    obtain ⟨h1, h2, _⟩ := good_len h.1
    rw [List.length_append]; simp; omega
end Go.Proofs.Ytgakklanboabjaa
