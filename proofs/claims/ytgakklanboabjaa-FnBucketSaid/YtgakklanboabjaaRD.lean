/-
  RW: Slices whose elements lie in k cells each (structs, strings), whatever they are: reading, a slice of the call's own, writing, appending.
  DK: Disks: slices of strings and of writes, read and of the call's own; a disk as a value.
  HK: The laws' helpers on texts: markText; slices of strings copied, compared, measured, marked and held.
  HL: The laws' helpers on slices of strings: toStringS, eqStringS, szStringS, markStringS, heldStringS, sameTexts.
  HR: The laws' helpers on slices of writes: toPut, toPutS, eqPut, eqPutS, szPut, szPutS, markPutS, heldPutS.
  HU: The laws' helpers on slices of writes and on disks: szPutS, markPutS, heldPutS, toDisk, eqDisk, szDisk, markDisk, heldDisk, sameTexts, sameDisk.
  HV: The laws' helpers on disks: toDisk, eqDisk, szDisk, markDisk, heldDisk, sameTexts, sameDisk.
-/
import Derived.Test.YtgakklanboabjaaJW
import Derived.Laws.BytesArg

/- RW -/
namespace Go.Proofs.Ytgakklanboabjaa
open Go.RowKit

theorem flat_len {α : Type} {f : α → List Value} {k : Nat} (hk : ∀ x, (f x).length = k) : ∀ L : List α, (L.flatMap f).length = L.length * k
  | [] => by simp
  | p :: L => by rw [List.flatMap_cons, List.length_append, hk, flat_len hk L, List.length_cons, Nat.succ_mul]; omega
theorem flat_at {α : Type} {f : α → List Value} {k : Nat} (hk : ∀ x, (f x).length = k) : ∀ (L : List α) (j : Nat) (hj : j < L.length) (i : Nat), i < k → (L.flatMap f)[j * k + i]? = (f L[j])[i]?
  | p :: L, 0, _, i, hi => by
    rw [List.flatMap_cons, List.getElem?_append_left (by rw [hk]; omega), Nat.zero_mul, Nat.zero_add]; rfl
  | p :: L, j + 1, hj, i, hi => by
    rw [List.flatMap_cons, List.getElem?_append_right (by rw [hk, Nat.succ_mul]; omega), hk, show (j + 1) * k + i - k = j * k + i by rw [Nat.succ_mul]; omega]
    exact flat_at hk L j (by simp at hj; omega) i hi
theorem flat_set {α : Type} {f : α → List Value} {k : Nat} (hk : ∀ x, (f x).length = k) {y : α} {u : Value} {i : Nat} (hi : i < k) : ∀ (L : List α) (j : Nat) (hj : j < L.length), (f L[j]).set i u = f y → (L.flatMap f).set (j * k + i) u = (L.set j y).flatMap f
  | p :: L, 0, _, h => by
    show (List.flatMap f (p :: L)).set (0 * k + i) u = List.flatMap f (y :: L)
    rw [List.flatMap_cons, List.flatMap_cons, Nat.zero_mul, Nat.zero_add, List.set_append_left _ _ (by rw [hk]; omega)]
    rw [show (f p).set i u = f y from h]
  | p :: L, j + 1, hj, h => by
    show (List.flatMap f (p :: L)).set ((j + 1) * k + i) u = List.flatMap f (p :: L.set j y)
    rw [List.flatMap_cons, List.flatMap_cons, List.set_append_right _ _ (by rw [hk, Nat.succ_mul]; omega), hk, show (j + 1) * k + i - k = j * k + i by rw [Nat.succ_mul]; omega]
    rw [flat_set hk hi L j (by simp at hj; omega) h]
/-- A slice reads as L. -/
def RdR (k : Nat) {α : Type} (f : α → List Value) (w : World) (A : Option Addr) (L : List α) : Prop := L ≠ [] → ∃ b o, A = some ⟨b, o, none⟩ ∧ ∀ j (h : j < L.length) i u, (f L[j])[i]? = some u → w.cell? ⟨b, o + j * k + i, none⟩ = some u
theorem RdR.below {k : Nat} {α : Type} {f : α → List Value} {w w' : World} {A : Option Addr} {L : List α} (h : RdR k f w A L) (hb : Below w.heap.size w w') : RdR k f w' A L := fun hne => by
  obtain ⟨b, o, e, hc⟩ := h hne
  exact ⟨b, o, e, fun j hj i u hu => by
    have h1 := hc j hj i u hu
    exact (hb.cell (World.block_lt_of_cell? _ _ h1)).trans h1⟩
theorem RdR.nil {k : Nat} {α : Type} {f : α → List Value} {w : World} {A : Option Addr} : RdR k f w A [] := fun h => absurd rfl h
/-- A slice of the call's own. -/
def OwnR (T : TypeId) (k : Nat) {α : Type} (f : α → List Value) (w : World) (base : Nat) (v : Value) (L : List α) : Prop := w.ownsRow base T k v L.length (L.flatMap f)
theorem OwnR.nil {T : TypeId} {k : Nat} {α : Type} {f : α → List Value} (w : World) (base : Nat) : OwnR T k f w base (.slice none 0 0) ([] : List α) := World.ownsRow_nil _ _ _ _
theorem OwnR.below {T : TypeId} {k : Nat} {α : Type} {f : α → List Value} {w w' : World} {base : Nat} {v : Value} {L : List α} (h : OwnR T k f w base v L) (hb : Below w.heap.size w w') : OwnR T k f w' base v L := World.ownsRow.kept h (gBelowN hb) (gNone _)
theorem OwnR.lower {T : TypeId} {k : Nat} {α : Type} {f : α → List Value} {w : World} {base base' : Nat} {v : Value} {L : List α} (h : OwnR T k f w base v L) (hb : base' ≤ base) : OwnR T k f w base' v L := row_lower h hb
theorem OwnR.lt {T : TypeId} {k : Nat} {α : Type} {f : α → List Value} {w : World} {base : Nat} {v : Value} {L : List α} (h : OwnR T k f w base v L) : ∀ g, v.ownBlock = some g → base ≤ g ∧ g < w.heap.size := World.ownsRow.lt h
theorem OwnR.kept {T : TypeId} {k : Nat} {α : Type} {f : α → List Value} {w w' : World} {base : Nat} {v : Value} {L : List α} {row : Option Nat} (h : OwnR T k f w base v L) (hg : w.grownBy w' row) (hne : v.ownBlock = none ∨ v.ownBlock ≠ row) : OwnR T k f w' base v L := World.ownsRow.kept h hg hne
theorem OwnR.cur {T : TypeId} {k : Nat} {α : Type} {f : α → List Value} {w w' : World} {base B : Nat} {v : Value} {L : List α} (h : OwnR T k f w base v L) (hB : B < base) (hg : w.grownBy w' (some B)) : OwnR T k f w' base v L :=
  World.ownsRow.kept h hg (by
    cases hv : v.ownBlock with
    | none => exact Or.inl rfl
    | some g => exact Or.inr (by have := (World.ownsRow.lt h g hv).1; intro e; injection e with e; omega))
theorem OwnR.form {T : TypeId} {k : Nat} {α : Type} {f : α → List Value} (hk : ∀ x, (f x).length = k) {w : World} {base : Nat} {v : Value} {L : List α} (h : OwnR T k f w base v L) : ∃ A c, v = .slice A L.length c ∧ L.length ≤ c ∧ RdR k f w A L := by
  rcases h.2 with ⟨rfl, hn⟩ | ⟨g, cap, cur, rfl, _, _, hle, _⟩
  · obtain rfl := List.eq_nil_of_length_eq_zero hn
    exact ⟨none, 0, rfl, Nat.le_refl _, fun h => absurd rfl h⟩
  · refine ⟨some ⟨g, 0, none⟩, cap, rfl, hle, fun _ => ⟨g, 0, rfl, fun j hj i u hu => ?_⟩⟩
    have hi : i < k := by
      have := (List.getElem?_eq_some_iff.1 hu).1
      rw [hk] at this; exact this
    have hjk : j * k + i < L.length * k := by
      have : (j + 1) * k ≤ L.length * k := Nat.mul_le_mul_right k (by omega)
      rw [Nat.succ_mul] at this; omega
    rw [Nat.zero_add, World.ownsRow.cellAt h _ hjk, flat_at hk L j hj i hi, hu]
theorem OwnR.rd {T : TypeId} {k : Nat} {α : Type} {f : α → List Value} (hk : ∀ x, (f x).length = k) {w : World} {base : Nat} {A : Option Addr} {n c : Nat} {L : List α} (h : OwnR T k f w base (.slice A n c) L) : RdR k f w A L := by
  obtain ⟨A', c', e, _, hr⟩ := h.form hk
  injection e with e1
  subst e1; exact hr
theorem OwnR.len {T : TypeId} {k : Nat} {α : Type} {f : α → List Value} {w : World} {base g n cap : Nat} {L : List α} (h : OwnR T k f w base (.slice (some ⟨g, 0, none⟩) n cap) L) : n = L.length := own_len h
/-- A slice that is not empty lies in a block. -/
theorem OwnR.block {T : TypeId} {k : Nat} {α : Type} {f : α → List Value} {w : World} {base : Nat} {v : Value} {L : List α} (h : OwnR T k f w base v L) (h0 : 0 < L.length) : ∃ g cap, v = .slice (some ⟨g, 0, none⟩) L.length cap ∧ L.length ≤ cap ∧ base ≤ g := by
  rcases h.2 with ⟨_, hn⟩ | ⟨g, cap, cur, rfl, hb, _, hle, _⟩
  · omega
  · exact ⟨g, cap, rfl, hle, hb⟩
/-- One cell of an element is written. -/
theorem OwnR.put {T : TypeId} {k : Nat} {α : Type} {f : α → List Value} (hk : ∀ x, (f x).length = k) {w : World} {base g n cap : Nat} {L : List α} (h : OwnR T k f w base (.slice (some ⟨g, 0, none⟩) n cap) L) {j : Nat} (hj : j < L.length) {i : Nat} (hi : i < k) {u : Value} {y : α} (hy : (f L[j]).set i u = f y) :
    OwnR T k f (w.setCell ⟨g, j * k + i, none⟩ u) base (.slice (some ⟨g, 0, none⟩) n cap) (L.set j y) ∧ w.grownBy (w.setCell ⟨g, j * k + i, none⟩ u) (some g) := by
  have hl := own_len h
  subst hl
  have hs := World.ownsRow.stored h (j * k + i) u
  rw [flat_set hk hi L j hj hy] at hs
  exact ⟨by unfold OwnR; rw [List.length_set]; exact hs.1, hs.2⟩
theorem OwnR.cell {T : TypeId} {k : Nat} {α : Type} {f : α → List Value} (hk : ∀ x, (f x).length = k) {w : World} {base g n cap : Nat} {L : List α} (h : OwnR T k f w base (.slice (some ⟨g, 0, none⟩) n cap) L) {j : Nat} (hj : j < L.length) {i : Nat} (hi : i < k) : w.cell? ⟨g, j * k + i, none⟩ = (f L[j])[i]? ∧ w.frozen? ⟨g, j * k + i, none⟩ = false := by
  have hl := own_len h
  subst hl
  have hjk : j * k + i < L.length * k := by
    have : (j + 1) * k ≤ L.length * k := Nat.mul_le_mul_right k (by omega)
    rw [Nat.succ_mul] at this; omega
  exact ⟨by rw [World.ownsRow.cellAt h _ hjk, flat_at hk L j hj i hi], World.ownsRow.frozenAt h _⟩
/-- append(l, y) on a slice of the call's own. -/
theorem app_row {T Ts : TypeId} {k bytes : Nat} {α : Type} {f : α → List Value} (hk : ∀ x, (f x).length = k) (hk0 : 0 < k) (hf : ∀ x, ∀ u ∈ f x, u.oneCell' = true) {i : TypeInfo} {z : Value} (ht : Try.prog.underlying Ts = some (.slice T)) (hi : Try.prog.info? T = some i) (hz : i.zero = some z) (hsize : i.size = k) (hby : i.bytes = bytes) (hzs : z.cells.size = k) (hb16 : bytes ≤ 1000)
    {ops : Array Oper} {rest : List Oper} {o : Oper} {a : Act} {Q : Exit → Act → World → Prop} (W : World) (base : Nat) (v : Value) (L : List α) (y : α) (Bn : Nat) (hBn : Bn = W.heap.size) (hgd : o.guard = none) (s x : Operand)
    (ho : o.op = .call { callee := .builtin .append, args := #[s, x], argTypes := #[Ts, Ts] }) (hs : a.eval s = v) (hx : a.eval x = .slice (some ⟨Bn, 0, none⟩) 1 1)
    (hown : OwnR T k f W base v L) (hbase : base ≤ W.heap.size) (hlen : L.length ≤ 2000000) (w0 : World) (hb : Below base w0 W)
    (h : ∀ v' w', Hid (OwnR T k f w' base v' (L ++ [y]) ∧ Below base w0 w' ∧ (W.alloc (.cells (f y).toArray T)).grownBy w' v.ownBlock) → wpList Try.prog ops Q rest (a.put o.dst v') w') :
    wpList Try.prog ops Q (o :: rest) a (W.alloc (.cells (f y).toArray T)) := by
  subst hBn
  have hown' : W.ownsRow base T k v L.length (L.flatMap f) := hown
  refine wpList_append_own _ hgd s x Ts ho base T i z k bytes ht hi hz hsize hby hzs hk0 v L.length _ hs (hown'.alloc _) ⟨W.heap.size, 0, none⟩ 1 1 (f y) hx (by rw [hk]; omega) (fun j u hu => ?_) (hf y) ?_ ?_ ?_ ?_
  · have e1 : (⟨W.heap.size, 0, none⟩ : Addr).add j = ⟨W.heap.size, j, none⟩ := by unfold Addr.add; split <;> simp_all
    rw [e1, cell_of_row _ _ j _ _ _ (heap_alloc_new _ _)]
    simpa using hu
  · unfold maxLen; omega
  · have : (L.length + 1) * bytes ≤ (L.length + 1) * 1000 := Nat.mul_le_mul_left _ hb16
    omega
  · simp; omega
  · intro v' w' h1 h2 _
    refine h v' w' ⟨?_, (hb.alloc hbase _).grown h2 (by simp; omega) (fun g hg => (World.ownsRow.lt hown g hg).1), h2⟩
    unfold OwnR
    rw [List.length_append, List.flatMap_append]
    simpa using h1
end Go.Proofs.Ytgakklanboabjaa

/- DK -/
namespace Go.Proofs.Ytgakklanboabjaa
open Go.RowKit

abbrev fSt (s : ByteArray) : List Value := [.string s]
abbrev fPu (p : Int × ByteArray) : List Value := [.int .i64 p.1, .string p.2]
theorem fSt_len : ∀ x, (fSt x).length = 1 := fun _ => rfl
theorem fPu_len : ∀ x, (fPu x).length = 2 := fun _ => rfl
theorem fSt_one : ∀ x, ∀ u ∈ fSt x, u.oneCell' = true := fun x u hu => by simp at hu; subst hu; rfl
theorem fPu_one : ∀ x, ∀ u ∈ fPu x, u.oneCell' = true := fun x u hu => by simp at hu; rcases hu with rfl | rfl <;> rfl
/-- A slice of strings reads as ss; a slice of writes reads as ps. -/
abbrev Strs (w : World) (A : Option Addr) (ss : List ByteArray) : Prop := RdR 1 fSt w A ss
abbrev Puts (w : World) (A : Option Addr) (ps : List (Int × ByteArray)) : Prop := RdR 2 fPu w A ps
abbrev OwnSt (w : World) (base : Nat) (v : Value) (ss : List ByteArray) : Prop := OwnR 9 1 fSt w base v ss
theorem strs_at {w : World} {A : Option Addr} {ss : List ByteArray} (h : Strs w A ss) {j : Nat} (hj : j < ss.length) : ∃ b o, A = some ⟨b, o, none⟩ ∧ w.cell? ⟨b, o + j, none⟩ = some (.string ss[j]) := by
  obtain ⟨b, o, e, hc⟩ := h (by rintro rfl; simp at hj)
  have := hc j hj 0 (.string ss[j]) rfl
  rw [Nat.mul_one, Nat.add_zero] at this
  exact ⟨b, o, e, this⟩
theorem puts_at {w : World} {A : Option Addr} {ps : List (Int × ByteArray)} (h : Puts w A ps) {j : Nat} (hj : j < ps.length) : ∃ b o, A = some ⟨b, o, none⟩ ∧ w.cell? ⟨b, o + j * 2, none⟩ = some (.int .i64 ps[j].1) ∧ w.cell? ⟨b, o + j * 2 + 1, none⟩ = some (.string ps[j].2) := by
  obtain ⟨b, o, e, hc⟩ := h (by rintro rfl; simp at hj)
  exact ⟨b, o, e, hc j hj 0 _ rfl, hc j hj 1 _ rfl⟩
theorem stInfo : (Try.prog.info? 9).map (fun i => (i.zero, i.size, i.bytes)) = some (some (.string ⟨#[]⟩), 1, 16) := by kernel_rfl
/-- A disk as a value. -/
abbrev diskV (a b : Value) : Value := .agg #[a, b]
abbrev putV (x : Int) (s : ByteArray) : Value := .agg #[.int .i64 x, .string s]
end Go.Proofs.Ytgakklanboabjaa

/- HK -/
namespace Go.Proofs.Ytgakklanboabjaa
open Go.RowKit

def strB (B : List Nat) : ByteArray := ⟨(B.map UInt8.ofNat).toArray⟩
theorem strB_size (S : List Nat) : (strB S).size = S.length := by simp [strB, ByteArray.size]
theorem convB {w : World} {g cap : Nat} {T : List Nat} (h : ∀ j (hj : j < T.length), w.cell? ⟨g, j, none⟩ = some (.int .u8 (T[j] : Nat))) :
    (convert 22 9 (.slice (some ⟨g, 0, none⟩) T.length cap)).run Try.prog w = .ok (.string (strB T)) w := by
  have hload := run_loadCells_list (P := Try.prog) (w := w) ⟨g, 0, none⟩ ((T.map fun (n : Nat) => (n : Int)).map (Value.int .u8)) (fun j v hj => by
    rw [List.map_map, List.getElem?_map] at hj
    have hjl : j < T.length := by
      rcases Nat.lt_or_ge j T.length with h1 | h1
      · exact h1
      · rw [List.getElem?_eq_none h1] at hj; cases hj
    rw [List.getElem?_eq_getElem hjl] at hj
    have := h j hjl
    rw [show (⟨g, 0, none⟩ : Addr).add j = ⟨g, j, none⟩ by unfold Addr.add; split <;> simp_all, this]
    simpa using hj)
  rw [List.length_map, List.length_map] at hload
  rw [run_convert_bytes_string w _ _ 5 _ _ _ Try.underlying22 Try.underlying5 Try.underlying9, run_bytesToString w _ T.length cap _ hload, foldl_push_bytes]
  congr 2
  simp [strB, List.map_map]
/-- The digits of a number, as markText writes them. -/
def digs9 : Nat → Nat → ByteArray → ByteArray
  | 0, _, acc => acc
  | f + 1, k, acc => if k = 0 then acc else digs9 f (k / 10) (strB [48 + k % 10] ++ acc)
def mkT (k : Nat) : ByteArray := ⟨#[109]⟩ ++ digs9 k k ⟨#[]⟩
theorem size_append9 (a b : ByteArray) : (a ++ b).size = a.size + b.size := ByteArray.size_append

end Go.Proofs.Ytgakklanboabjaa

/- HL -/
namespace Go.Proofs.Ytgakklanboabjaa
open Go.RowKit

theorem ownSt_put {w : World} {base g n cap : Nat} {L : List ByteArray} (h : OwnSt w base (.slice (some ⟨g, 0, none⟩) n cap) L) {j : Nat} (hj : j < L.length) (y : ByteArray) :
    OwnSt (w.setCell ⟨g, j, none⟩ (.string y)) base (.slice (some ⟨g, 0, none⟩) n cap) (L.set j y) ∧ w.grownBy (w.setCell ⟨g, j, none⟩ (.string y)) (some g) := by
  have := h.put fSt_len hj (i := 0) (by decide) (u := .string y) (y := y) rfl
  rw [Nat.mul_one, Nat.add_zero] at this
  exact this
theorem ownSt_at {w : World} {base g n cap : Nat} {L : List ByteArray} (h : OwnSt w base (.slice (some ⟨g, 0, none⟩) n cap) L) {j : Nat} (hj : j < L.length) : w.cell? ⟨g, j, none⟩ = some (.string L[j]) ∧ w.frozen? ⟨g, j, none⟩ = false := by
  have := h.cell fSt_len hj (i := 0) (by decide)
  rw [Nat.mul_one, Nat.add_zero] at this
  exact this
theorem fresh_st {w w2 : World} {n : Nat} (hown2 : w2.ownsRow w.heap.size 9 1 (.slice (some ⟨w.heap.size, 0, none⟩) n n) n (madeCells (Value.string ⟨#[]⟩).cells (n * 1)).toList) : OwnSt w2 w.heap.size (.slice (some ⟨w.heap.size, 0, none⟩) n n) (List.replicate n ⟨#[]⟩) := by
  rw [made_row _ _ rfl] at hown2
  show World.ownsRow _ _ _ _ _ _ _
  rw [List.length_replicate]
  have e : (List.replicate n (⟨#[]⟩ : ByteArray)).flatMap fSt = List.replicate n (Value.string ⟨#[]⟩) := by
    simp [List.flatMap, List.map_replicate]
  rw [e]
  simpa using hown2
/-- What szStringS leaves of the room. -/
def szS9 (left : Int) : List ByteArray → Int
  | [] => left
  | s :: r => if left - (s.size : Int) < 0 then -1 else szS9 (left - (s.size : Int)) r
def szStr9 (left : Int) (ss : List ByteArray) : Int := if left - (ss.length : Int) < 0 then -1 else szS9 (left - (ss.length : Int)) ss
theorem szS9_ok : ∀ {ss : List ByteArray} {left : Int}, 0 ≤ szS9 left ss → 0 ≤ left → szS9 left ss ≤ left ∧ ∀ s ∈ ss, (s.size : Int) ≤ left
  | [], left, _, _ => ⟨Int.le_refl _, fun s hs => by cases hs⟩
  | s :: r, left, h, h0 => by
    rw [szS9] at h ⊢
    split at h
    · omega
    · rename_i hn
      rw [if_neg hn]
      obtain ⟨h1, h2⟩ := szS9_ok h (by omega)
      refine ⟨by omega, fun x hx => ?_⟩
      rcases List.mem_cons.1 hx with rfl | hx
      · omega
      · have := h2 x hx; omega
theorem szStr9_ok {ss : List ByteArray} {left : Int} (h : 0 ≤ szStr9 left ss) : szStr9 left ss + (ss.length : Int) ≤ left ∧ (ss.length : Int) ≤ left ∧ ∀ s ∈ ss, (s.size : Int) ≤ left := by
  rw [szStr9] at h ⊢
  split at h
  · omega
  · rename_i hn
    rw [if_neg hn]
    obtain ⟨h1, h2⟩ := szS9_ok h (by omega)
    exact ⟨by omega, by omega, fun s hs => by have := h2 s hs; omega⟩
theorem szS9_drop {ss : List ByteArray} {j : Nat} (hj : j < ss.length) (l : Int) : szS9 l (ss.drop j) = if l - (ss[j].size : Int) < 0 then -1 else szS9 (l - (ss[j].size : Int)) (ss.drop (j + 1)) := by
  rw [List.drop_eq_getElem_cons hj, szS9]
/-- What markStringS writes. -/
def markSs (k n : Nat) : List ByteArray := (List.range n).map fun j => mkT (k + j)
theorem markSs_length (k n : Nat) : (markSs k n).length = n := by simp [markSs]
theorem markSs_at (k : Nat) {n j : Nat} (h : j < (markSs k n).length) : (markSs k n)[j] = mkT (k + j) := by simp [markSs]
theorem markSs_succ (k n : Nat) : markSs k (n + 1) = markSs k n ++ [mkT (k + n)] := by simp [markSs, List.range_succ]
theorem markSs_set (k : Nat) {ss : List ByteArray} {j : Nat} (h : j < ss.length) : (markSs k j ++ ss.drop j).set j (mkT (k + j)) = markSs k (j + 1) ++ ss.drop (j + 1) := by
  rw [List.set_append_right _ _ (by rw [markSs_length]; exact Nat.le_refl _), markSs_length, Nat.sub_self, List.drop_eq_getElem_cons h, List.set_cons_zero, markSs_succ, List.append_assoc]
  rfl
theorem gBelowR {w w' : World} (hb : Below w.heap.size w w') (row : Option Nat) : w.grownBy w' row := ⟨hb.os, hb.tape, hb.output, hb.size, fun k hk _ => hb.block k hk⟩
end Go.Proofs.Ytgakklanboabjaa

/- HR -/
namespace Go.Proofs.Ytgakklanboabjaa
open Go.RowKit

theorem made_two9 (a b : Value) : ∀ n : Nat, (madeCells #[a, b] (n * 2)).toList = (List.replicate n [a, b]).flatten
  | 0 => by simp [madeCells]
  | n + 1 => by
    have ih := made_two9 a b n
    unfold madeCells at ih ⊢
    rw [Array.toList_map, Array.toList_range] at ih ⊢
    rw [show (n + 1) * 2 = n * 2 + 1 + 1 by omega, List.range_succ, List.range_succ, List.map_append, List.map_append, ih, List.replicate_succ', List.flatten_append, List.append_assoc]
    congr 1
    have h1 : n * 2 % 2 = 0 := by omega
    have h2 : (n * 2 + 1) % 2 = 1 := by omega
    simp [h1, h2]
end Go.Proofs.Ytgakklanboabjaa

/- HU -/
namespace Go.Proofs.Ytgakklanboabjaa
open Go.RowKit

/-- What markPutS writes. -/
def markPs (k n : Nat) : List (Int × ByteArray) := (List.range n).map fun j => (((k + 2 * j : Nat) : Int), mkT (k + 2 * j + 1))
theorem markPs_length (k n : Nat) : (markPs k n).length = n := by simp [markPs]
theorem markPs_at (k : Nat) {n j : Nat} (h : j < (markPs k n).length) : (markPs k n)[j] = (((k + 2 * j : Nat) : Int), mkT (k + 2 * j + 1)) := by simp [markPs]
theorem markPs_succ (k n : Nat) : markPs k (n + 1) = markPs k n ++ [(((k + 2 * n : Nat) : Int), mkT (k + 2 * n + 1))] := by simp [markPs, List.range_succ]
theorem markPs_set (k : Nat) {ps : List (Int × ByteArray)} {j : Nat} (h : j < ps.length) : (markPs k j ++ ps.drop j).set j (((k + 2 * j : Nat) : Int), mkT (k + 2 * j + 1)) = markPs k (j + 1) ++ ps.drop (j + 1) := by
  rw [List.set_append_right _ _ (by rw [markPs_length]; exact Nat.le_refl _), markPs_length, Nat.sub_self, List.drop_eq_getElem_cons h, List.set_cons_zero, markPs_succ, List.append_assoc]
  rfl
end Go.Proofs.Ytgakklanboabjaa

/- HV -/
namespace Go.Proofs.Ytgakklanboabjaa
open Go.RowKit

theorem gSet9 (w : World) (g j : Nat) (v : Value) : w.grownBy (w.setCell ⟨g, j, none⟩ v) (some g) := gSet w ⟨g, j, none⟩ v
end Go.Proofs.Ytgakklanboabjaa
