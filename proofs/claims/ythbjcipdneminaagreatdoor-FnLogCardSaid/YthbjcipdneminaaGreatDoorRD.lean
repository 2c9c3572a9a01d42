/-
  RW: Slices whose elements lie in k cells each (structs, strings), whatever they are: reading, a slice of the call's own, writing, appending.
  DK: Disks: slices of strings and of writes, read and of the call's own; a disk as a value.
  HK: The laws' helpers on texts: markText; slices of strings copied, compared, measured, marked and held.
  HL: The laws' helpers on slices of strings: toStringS, eqStringS, szStringS, markStringS, heldStringS, sameTexts.
  HR: The laws' helpers on slices of writes: toPut, toPutS, eqPut, eqPutS, szPut, szPutS, markPutS, heldPutS.
  HU: The laws' helpers on slices of writes and on disks: szPutS, markPutS, heldPutS, toDisk, eqDisk, szDisk, markDisk, heldDisk, sameTexts, sameDisk.
  HV: The laws' helpers on disks: toDisk, eqDisk, szDisk, markDisk, heldDisk, sameTexts, sameDisk.
-/
import Derived.Test.YthbjcipdneminaaGreatDoorJW
import Derived.Laws.BytesArg

/- RW -/
namespace Go.Proofs.YthbjcipdneminaaGreatDoor
open Go.RowKit

theorem flat_len {α : Type} {f : α → List Value} {k : Nat} (hk : ∀ x, (f x).length = k) : ∀ L : List α, (L.flatMap f).length = L.length * k
  | [] => by simp
  | p :: L => by rw [List.flatMap_cons, List.length_append, hk, flat_len hk L, List.length_cons, Nat.succ_mul]; omega
theorem flat_at {α : Type} {f : α → List Value} {k : Nat} (hk : ∀ x, (f x).length = k) : ∀ (L : List α) (j : Nat) (hj : j < L.length) (i : Nat), i < k → (L.flatMap f)[j * k + i]? = (f L[j])[i]?
  | p :: L, 0, _, i, hi => by
    rw [List.flatMap_cons, List.getElem?_append_left (by rw [hk]; omega), Nat.zero_mul, Nat.zero_add]; rfl
  | p :: L, j + 1, hj, i, hi => by
    rw [List.flatMap_cons, List.getElem?_append_right (by rw [hk, Nat.succ_mul]; omega), hk, show (j + 1) * k + i - k = j * k + i by rw [Nat.succ_mul]; omega]
    exact flat_at hk L j (by simp at hj; omega) i hi
theorem flat_set {α : Type} {f : α → List Value} {k : Nat} (hk : ∀ x, (f x).length = k) {y : α} {u : Value} {i : Nat} (hi : i < k) : ∀ (L : List α) (j : Nat) (hj : j < L.length), (f L[j]).set i u = f y → (L.flatMap f).set (j * k + i) u = (L.set j y).flatMap f
  | p :: L, 0, _, h => by
    show (List.flatMap f (p :: L)).set (0 * k + i) u = List.flatMap f (y :: L)
    rw [List.flatMap_cons, List.flatMap_cons, Nat.zero_mul, Nat.zero_add, List.set_append_left _ _ (by rw [hk]; omega)]
    rw [show (f p).set i u = f y from h]
  | p :: L, j + 1, hj, h => by
    show (List.flatMap f (p :: L)).set ((j + 1) * k + i) u = List.flatMap f (p :: L.set j y)
    rw [List.flatMap_cons, List.flatMap_cons, List.set_append_right _ _ (by rw [hk, Nat.succ_mul]; omega), hk, show (j + 1) * k + i - k = j * k + i by rw [Nat.succ_mul]; omega]
    rw [flat_set hk hi L j (by simp at hj; omega) h]
/-- A slice reads as L. -/
def RdR (k : Nat) {α : Type} (f : α → List Value) (w : World) (A : Option Addr) (L : List α) : Prop := L ≠ [] → ∃ b o, A = some ⟨b, o, none⟩ ∧ ∀ j (h : j < L.length) i u, (f L[j])[i]? = some u → w.cell? ⟨b, o + j * k + i, none⟩ = some u
theorem RdR.below {k : Nat} {α : Type} {f : α → List Value} {w w' : World} {A : Option Addr} {L : List α} (h : RdR k f w A L) (hb : Below w.heap.size w w') : RdR k f w' A L := fun hne => by
  obtain ⟨b, o, e, hc⟩ := h hne
  exact ⟨b, o, e, fun j hj i u hu => by
    have h1 := hc j hj i u hu
    exact (hb.cell (World.block_lt_of_cell? _ _ h1)).trans h1⟩
theorem RdR.nil {k : Nat} {α : Type} {f : α → List Value} {w : World} {A : Option Addr} : RdR k f w A [] := fun h => absurd rfl h
/-- A slice of the call's own. -/
def OwnR (T : TypeId) (k : Nat) {α : Type} (f : α → List Value) (w : World) (base : Nat) (v : Value) (L : List α) : Prop := w.ownsRow base T k v L.length (L.flatMap f)
theorem OwnR.nil {T : TypeId} {k : Nat} {α : Type} {f : α → List Value} (w : World) (base : Nat) : OwnR T k f w base (.slice none 0 0) ([] : List α) := World.ownsRow_nil _ _ _ _
theorem OwnR.below {T : TypeId} {k : Nat} {α : Type} {f : α → List Value} {w w' : World} {base : Nat} {v : Value} {L : List α} (h : OwnR T k f w base v L) (hb : Below w.heap.size w w') : OwnR T k f w' base v L := World.ownsRow.kept h (gBelowN hb) (gNone _)
theorem OwnR.lower {T : TypeId} {k : Nat} {α : Type} {f : α → List Value} {w : World} {base base' : Nat} {v : Value} {L : List α} (h : OwnR T k f w base v L) (hb : base' ≤ base) : OwnR T k f w base' v L := row_lower h hb
theorem OwnR.lt {T : TypeId} {k : Nat} {α : Type} {f : α → List Value} {w : World} {base : Nat} {v : Value} {L : List α} (h : OwnR T k f w base v L) : ∀ g, v.ownBlock = some g → base ≤ g ∧ g < w.heap.size := World.ownsRow.lt h
theorem OwnR.kept {T : TypeId} {k : Nat} {α : Type} {f : α → List Value} {w w' : World} {base : Nat} {v : Value} {L : List α} {row : Option Nat} (h : OwnR T k f w base v L) (hg : w.grownBy w' row) (hne : v.ownBlock = none ∨ v.ownBlock ≠ row) : OwnR T k f w' base v L := World.ownsRow.kept h hg hne
theorem OwnR.cur {T : TypeId} {k : Nat} {α : Type} {f : α → List Value} {w w' : World} {base B : Nat} {v : Value} {L : List α} (h : OwnR T k f w base v L) (hB : B < base) (hg : w.grownBy w' (some B)) : OwnR T k f w' base v L :=
  World.ownsRow.kept h hg (by
    cases hv : v.ownBlock with
    | none => exact Or.inl rfl
    | some g => exact Or.inr (by have := (World.ownsRow.lt h g hv).1; intro e; injection e with e; omega))
theorem OwnR.form {T : TypeId} {k : Nat} {α : Type} {f : α → List Value} (hk : ∀ x, (f x).length = k) {w : World} {base : Nat} {v : Value} {L : List α} (h : OwnR T k f w base v L) : ∃ A c, v = .slice A L.length c ∧ L.length ≤ c ∧ RdR k f w A L := by
  rcases h.2 with ⟨rfl, hn⟩ | ⟨g, cap, cur, rfl, _, _, hle, _⟩
  · obtain rfl := List.eq_nil_of_length_eq_zero hn
    exact ⟨none, 0, rfl, Nat.le_refl _, fun h => absurd rfl h⟩
  · refine ⟨some ⟨g, 0, none⟩, cap, rfl, hle, fun _ => ⟨g, 0, rfl, fun j hj i u hu => ?_⟩⟩
    have hi : i < k := by
      have := (List.getElem?_eq_some_iff.1 hu).1
      rw [hk] at this; exact this
    have hjk : j * k + i < L.length * k := by
      have : (j + 1) * k ≤ L.length * k := Nat.mul_le_mul_right k (by omega)
      rw [Nat.succ_mul] at this; omega
    rw [Nat.zero_add, World.ownsRow.cellAt h _ hjk, flat_at hk L j hj i hi, hu]
theorem OwnR.rd {T : TypeId} {k : Nat} {α : Type} {f : α → List Value} (hk : ∀ x, (f x).length = k) {w : World} {base : Nat} {A : Option Addr} {n c : Nat} {L : List α} (h : OwnR T k f w base (.slice A n c) L) : RdR k f w A L := by
  obtain ⟨A', c', e, _, hr⟩ := h.form hk
  injection e with e1
  subst e1; exact hr
theorem OwnR.len {T : TypeId} {k : Nat} {α : Type} {f : α → List Value} {w : World} {base g n cap : Nat} {L : List α} (h : OwnR T k f w base (.slice (some ⟨g, 0, none⟩) n cap) L) : n = L.length := own_len h
/-- A slice that is not empty lies in a block. -/
theorem OwnR.block {T : TypeId} {k : Nat} {α : Type} {f : α → List Value} {w : World} {base : Nat} {v : Value} {L : List α} (h : OwnR T k f w base v L) (h0 : 0 < L.length) : ∃ g cap, v = .slice (some ⟨g, 0, none⟩) L.length cap ∧ L.length ≤ cap ∧ base ≤ g := by
  rcases h.2 with ⟨_, hn⟩ | ⟨g, cap, cur, rfl, hb, _, hle, _⟩
  · omega
  · exact ⟨g, cap, rfl, hle, hb⟩
/-- One cell of an element is written. -/
theorem OwnR.put {T : TypeId} {k : Nat} {α : Type} {f : α → List Value} (hk : ∀ x, (f x).length = k) {w : World} {base g n cap : Nat} {L : List α} (h : OwnR T k f w base (.slice (some ⟨g, 0, none⟩) n cap) L) {j : Nat} (hj : j < L.length) {i : Nat} (hi : i < k) {u : Value} {y : α} (hy : (f L[j]).set i u = f y) :
    OwnR T k f (w.setCell ⟨g, j * k + i, none⟩ u) base (.slice (some ⟨g, 0, none⟩) n cap) (L.set j y) ∧ w.grownBy (w.setCell ⟨g, j * k + i, none⟩ u) (some g) := by
  have hl := own_len h
  subst hl
  have hs := World.ownsRow.stored h (j * k + i) u
  rw [flat_set hk hi L j hj hy] at hs
  exact ⟨by unfold OwnR; rw [List.length_set]; exact hs.1, hs.2⟩
theorem OwnR.cell {T : TypeId} {k : Nat} {α : Type} {f : α → List Value} (hk : ∀ x, (f x).length = k) {w : World} {base g n cap : Nat} {L : List α} (h : OwnR T k f w base (.slice (some ⟨g, 0, none⟩) n cap) L) {j : Nat} (hj : j < L.length) {i : Nat} (hi : i < k) : w.cell? ⟨g, j * k + i, none⟩ = (f L[j])[i]? ∧ w.frozen? ⟨g, j * k + i, none⟩ = false := by
  have hl := own_len h
  subst hl
  have hjk : j * k + i < L.length * k := by
    have : (j + 1) * k ≤ L.length * k := Nat.mul_le_mul_right k (by omega)
    rw [Nat.succ_mul] at this; omega
  exact ⟨by rw [World.ownsRow.cellAt h _ hjk, flat_at hk L j hj i hi], World.ownsRow.frozenAt h _⟩
/-- append(l, y) on a slice of the call's own. -/
theorem app_row {T Ts : TypeId} {k bytes : Nat} {α : Type} {f : α → List Value} (hk : ∀ x, (f x).length = k) (hk0 : 0 < k) (hf : ∀ x, ∀ u ∈ f x, u.oneCell' = true) {i : TypeInfo} {z : Value} (ht : Tryz.prog.underlying Ts = some (.slice T)) (hi : Tryz.prog.info? T = some i) (hz : i.zero = some z) (hsize : i.size = k) (hby : i.bytes = bytes) (hzs : z.cells.size = k) (hb16 : bytes ≤ 1000)
    {ops : Array Oper} {rest : List Oper} {o : Oper} {a : Act} {Q : Exit → Act → World → Prop} (W : World) (base : Nat) (v : Value) (L : List α) (y : α) (Bn : Nat) (hBn : Bn = W.heap.size) (hgd : o.guard = none) (s x : Operand)
    (ho : o.op = .call { callee := .builtin .append, args := #[s, x], argTypes := #[Ts, Ts] }) (hs : a.eval s = v) (hx : a.eval x = .slice (some ⟨Bn, 0, none⟩) 1 1)
    (hown : OwnR T k f W base v L) (hbase : base ≤ W.heap.size) (hlen : L.length ≤ 2000000) (w0 : World) (hb : Below base w0 W)
    (h : ∀ v' w', Hid (OwnR T k f w' base v' (L ++ [y]) ∧ Below base w0 w' ∧ (W.alloc (.cells (f y).toArray T)).grownBy w' v.ownBlock) → wpList Tryz.prog ops Q rest (a.put o.dst v') w') :
    wpList Tryz.prog ops Q (o :: rest) a (W.alloc (.cells (f y).toArray T)) := by
  subst hBn
  have hown' : W.ownsRow base T k v L.length (L.flatMap f) := hown
  refine wpList_append_own _ hgd s x Ts ho base T i z k bytes ht hi hz hsize hby hzs hk0 v L.length _ hs (hown'.alloc _) ⟨W.heap.size, 0, none⟩ 1 1 (f y) hx (by rw [hk]; omega) (fun j u hu => ?_) (hf y) ?_ ?_ ?_ ?_
  · have e1 : (⟨W.heap.size, 0, none⟩ : Addr).add j = ⟨W.heap.size, j, none⟩ := by unfold Addr.add; split <;> simp_all
    rw [e1, cell_of_row _ _ j _ _ _ (heap_alloc_new _ _)]
    simpa using hu
  · unfold maxLen; omega
  · have : (L.length + 1) * bytes ≤ (L.length + 1) * 1000 := Nat.mul_le_mul_left _ hb16
    omega
  · simp; omega
  · intro v' w' h1 h2 _
    refine h v' w' ⟨?_, (hb.alloc hbase _).grown h2 (by simp; omega) (fun g hg => (World.ownsRow.lt hown g hg).1), h2⟩
    unfold OwnR
    rw [List.length_append, List.flatMap_append]
    simpa using h1
end Go.Proofs.YthbjcipdneminaaGreatDoor

/- DK -/
namespace Go.Proofs.YthbjcipdneminaaGreatDoor
open Go.RowKit

abbrev fSt (s : ByteArray) : List Value := [.string s]
abbrev fPu (p : Int × ByteArray) : List Value := [.int .i64 p.1, .string p.2]
theorem fSt_len : ∀ x, (fSt x).length = 1 := fun _ => rfl
theorem fPu_len : ∀ x, (fPu x).length = 2 := fun _ => rfl
theorem fSt_one : ∀ x, ∀ u ∈ fSt x, u.oneCell' = true := fun x u hu => by simp at hu; subst hu; rfl
theorem fPu_one : ∀ x, ∀ u ∈ fPu x, u.oneCell' = true := fun x u hu => by simp at hu; rcases hu with rfl | rfl <;> rfl
/-- A slice of strings reads as ss; a slice of writes reads as ps. -/
abbrev Strs (w : World) (A : Option Addr) (ss : List ByteArray) : Prop := RdR 1 fSt w A ss
abbrev Puts (w : World) (A : Option Addr) (ps : List (Int × ByteArray)) : Prop := RdR 2 fPu w A ps
abbrev OwnSt (w : World) (base : Nat) (v : Value) (ss : List ByteArray) : Prop := OwnR 9 1 fSt w base v ss
abbrev OwnPu (w : World) (base : Nat) (v : Value) (ps : List (Int × ByteArray)) : Prop := OwnR 103 2 fPu w base v ps
theorem strs_at {w : World} {A : Option Addr} {ss : List ByteArray} (h : Strs w A ss) {j : Nat} (hj : j < ss.length) : ∃ b o, A = some ⟨b, o, none⟩ ∧ w.cell? ⟨b, o + j, none⟩ = some (.string ss[j]) := by
  obtain ⟨b, o, e, hc⟩ := h (by rintro rfl; simp at hj)
  have := hc j hj 0 (.string ss[j]) rfl
  rw [Nat.mul_one, Nat.add_zero] at this
  exact ⟨b, o, e, this⟩
theorem puts_at {w : World} {A : Option Addr} {ps : List (Int × ByteArray)} (h : Puts w A ps) {j : Nat} (hj : j < ps.length) : ∃ b o, A = some ⟨b, o, none⟩ ∧ w.cell? ⟨b, o + j * 2, none⟩ = some (.int .i64 ps[j].1) ∧ w.cell? ⟨b, o + j * 2 + 1, none⟩ = some (.string ps[j].2) := by
  obtain ⟨b, o, e, hc⟩ := h (by rintro rfl; simp at hj)
  exact ⟨b, o, e, hc j hj 0 _ rfl, hc j hj 1 _ rfl⟩
theorem stInfo : (Tryz.prog.info? 9).map (fun i => (i.zero, i.size, i.bytes)) = some (some (.string ⟨#[]⟩), 1, 16) := by kernel_rfl
theorem puInfo : (Tryz.prog.info? 103).map (fun i => (i.zero, i.size, i.bytes)) = some (some (.agg #[.int .i64 0, .string ⟨#[]⟩]), 2, 24) := by kernel_rfl
/-- append(l, s), append(l, p) on slices of the call's own. -/
theorem app_st {ops : Array Oper} {rest : List Oper} {o : Oper} {a : Act} {Q : Exit → Act → World → Prop} (W : World) (base : Nat) (v : Value) (L : List ByteArray) (y : ByteArray) (Bn : Nat) (hBn : Bn = W.heap.size) (hgd : o.guard = none) (s x : Operand)
    (ho : o.op = .call { callee := .builtin .append, args := #[s, x], argTypes := #[23, 23] }) (hs : a.eval s = v) (hx : a.eval x = .slice (some ⟨Bn, 0, none⟩) 1 1)
    (hown : OwnSt W base v L) (hbase : base ≤ W.heap.size) (hlen : L.length ≤ 2000000) (w0 : World) (hb : Below base w0 W)
    (h : ∀ v' w', Hid (OwnSt w' base v' (L ++ [y]) ∧ Below base w0 w' ∧ (W.alloc (.cells #[.string y] 9)).grownBy w' v.ownBlock) → wpList Tryz.prog ops Q rest (a.put o.dst v') w') :
    wpList Tryz.prog ops Q (o :: rest) a (W.alloc (.cells #[.string y] 9)) := by
  obtain ⟨i0, hi, hz0, hz1, hz2⟩ := info_parts stInfo
  exact app_row fSt_len (by decide) fSt_one Tryz.underlying23 hi hz0 hz1 hz2 rfl (by decide) W base v L y Bn hBn hgd s x ho hs hx hown hbase hlen w0 hb h
theorem app_pu {ops : Array Oper} {rest : List Oper} {o : Oper} {a : Act} {Q : Exit → Act → World → Prop} (W : World) (base : Nat) (v : Value) (L : List (Int × ByteArray)) (x0 : Int) (y : ByteArray) (Bn : Nat) (hBn : Bn = W.heap.size) (hgd : o.guard = none) (s x : Operand)
    (ho : o.op = .call { callee := .builtin .append, args := #[s, x], argTypes := #[24, 24] }) (hs : a.eval s = v) (hx : a.eval x = .slice (some ⟨Bn, 0, none⟩) 1 1)
    (hown : OwnPu W base v L) (hbase : base ≤ W.heap.size) (hlen : L.length ≤ 2000000) (w0 : World) (hb : Below base w0 W)
    (h : ∀ v' w', Hid (OwnPu w' base v' (L ++ [(x0, y)]) ∧ Below base w0 w' ∧ (W.alloc (.cells #[.int .i64 x0, .string y] 103)).grownBy w' v.ownBlock) → wpList Tryz.prog ops Q rest (a.put o.dst v') w') :
    wpList Tryz.prog ops Q (o :: rest) a (W.alloc (.cells #[.int .i64 x0, .string y] 103)) := by
  obtain ⟨i0, hi, hz0, hz1, hz2⟩ := info_parts puInfo
  exact app_row fPu_len (by decide) fPu_one Tryz.underlying24 hi hz0 hz1 hz2 rfl (by decide) W base v L (x0, y) Bn hBn hgd s x ho hs hx hown hbase hlen w0 hb h
/-- A disk as a value. -/
abbrev diskV (a b : Value) : Value := .agg #[a, b]
abbrev putV (x : Int) (s : ByteArray) : Value := .agg #[.int .i64 x, .string s]
theorem infoPu : (Tryz.prog.info? 103).map (·.size) = some 2 := by kernel_rfl
theorem infoDk : (Tryz.prog.info? 26).map (·.size) = some 2 := by kernel_rfl
theorem ret_pu {fn : Func} {p : Tmp} (h : fn.results = #[.cell p 103]) {R : Ending → World → Prop} {a : Act} {w : World} (g : Nat) (x : Int) (y : ByteArray) (hp : a.tmps.getD p undef = .pointer (some ⟨g, 0, none⟩))
    (hg : w.heap[g]? = some (.cells #[.int .i64 x, .string y] 103 (0, 0))) (hd : a.defers = []) (hR : R (.returned (putV x y)) w) : bodyPost Tryz.prog fn R .ret a w :=
  bodyPost_ret (results_cell_row h _ _ g 103 #[.int .i64 x, .string y] (0, 0) _ hp hg Tryz.underlying103 rfl infoPu) hd hR
theorem ret_dk {fn : Func} {p : Tmp} (h : fn.results = #[.cell p 26]) {R : Ending → World → Prop} {a : Act} {w : World} (g : Nat) (u v : Value) (hp : a.tmps.getD p undef = .pointer (some ⟨g, 0, none⟩))
    (hg : w.heap[g]? = some (.cells #[u, v] 26 (0, 0))) (hd : a.defers = []) (hR : R (.returned (diskV u v)) w) : bodyPost Tryz.prog fn R .ret a w :=
  bodyPost_ret (results_cell_row h _ _ g 26 #[u, v] (0, 0) _ hp hg Tryz.underlying26 rfl infoDk) hd hR
theorem ret_dk2 {fn : Func} {p q : Tmp} (h : fn.results = #[.cell p 26, .tmp q]) {R : Ending → World → Prop} {a : Act} {w : World} (g : Nat) (u v : Value) (b : Bool) (hp : a.tmps.getD p undef = .pointer (some ⟨g, 0, none⟩)) (hu : a.tmps.getD q undef = .bool b)
    (hg : w.heap[g]? = some (.cells #[u, v] 26 (0, 0))) (hd : a.defers = []) (hR : R (.returned (.tuple #[diskV u v, .bool b])) w) : bodyPost Tryz.prog fn R .ret a w := by
  have hp' : a.tmps[p]?.getD undef = .pointer (some ⟨g, 0, none⟩) := by simpa using hp
  have hu' : a.tmps[q]?.getD undef = .bool b := by simpa using hu
  refine bodyPost_ret (v := .tuple #[diskV u v, .bool b]) ?_ hd hR
  rw [results_cell_tmp h]
  simp [hp', hu', asAddr, run_loadVar_row w g 26 26 #[u, v] (0, 0) _ hg Tryz.underlying26 rfl infoDk]
end Go.Proofs.YthbjcipdneminaaGreatDoor

/- HK -/
namespace Go.Proofs.YthbjcipdneminaaGreatDoor
open Go.RowKit

def strB (B : List Nat) : ByteArray := ⟨(B.map UInt8.ofNat).toArray⟩
theorem strB_size (S : List Nat) : (strB S).size = S.length := by simp [strB, ByteArray.size]
theorem convB {w : World} {g cap : Nat} {T : List Nat} (h : ∀ j (hj : j < T.length), w.cell? ⟨g, j, none⟩ = some (.int .u8 (T[j] : Nat))) :
    (convert 22 9 (.slice (some ⟨g, 0, none⟩) T.length cap)).run Tryz.prog w = .ok (.string (strB T)) w := by
  have hload := run_loadCells_list (P := Tryz.prog) (w := w) ⟨g, 0, none⟩ ((T.map fun (n : Nat) => (n : Int)).map (Value.int .u8)) (fun j v hj => by
    rw [List.map_map, List.getElem?_map] at hj
    have hjl : j < T.length := by
      rcases Nat.lt_or_ge j T.length with h1 | h1
      · exact h1
      · rw [List.getElem?_eq_none h1] at hj; cases hj
    rw [List.getElem?_eq_getElem hjl] at hj
    have := h j hjl
    rw [show (⟨g, 0, none⟩ : Addr).add j = ⟨g, j, none⟩ by unfold Addr.add; split <;> simp_all, this]
    simpa using hj)
  rw [List.length_map, List.length_map] at hload
  rw [run_convert_bytes_string w _ _ 5 _ _ _ Tryz.underlying22 Tryz.underlying5 Tryz.underlying9, run_bytesToString w _ T.length cap _ hload, foldl_push_bytes]
  congr 2
  simp [strB, List.map_map]
/-- The digits of a number, as markText writes them. -/
def digs9 : Nat → Nat → ByteArray → ByteArray
  | 0, _, acc => acc
  | f + 1, k, acc => if k = 0 then acc else digs9 f (k / 10) (strB [48 + k % 10] ++ acc)
def mkT (k : Nat) : ByteArray := ⟨#[109]⟩ ++ digs9 k k ⟨#[]⟩
theorem size_append9 (a b : ByteArray) : (a ++ b).size = a.size + b.size := ByteArray.size_append

set_option maxRecDepth 100000 in
set_option maxHeartbeats 2000000 in
theorem markText_any (k : Nat) (w : World) (hk : 1 ≤ k) (hk2 : k ≤ 8000000) :
    Calls Tryz.prog 88 #[.int .i64 k] w fun e w' => e = .returned (.string (mkT k)) ∧ Below w.heap.size w w' := by
  have h0 : ¬ (k : Int) ≤ 0 := by omega
  have HM : Hid (mkT k = ⟨#[109]⟩ ++ digs9 k k ⟨#[]⟩) := rfl
  go_enter Tryz.func88, Tryz.ntmps88
  go_wp2_with fail
  go_loopg [0, 3] k (fun gk kv tv wr => ∃ (c : Nat) (acc : ByteArray), c ≤ gk ∧ kv = .int .i64 c ∧ tv = .string acc ∧ digs9 gk c acc = digs9 k k ⟨#[]⟩ ∧ acc.size + c ≤ k ∧ Below w.heap.size w wr)
  case atStart => exact ⟨k, _, Nat.le_refl _, rfl, rfl, rfl, by simp [ByteArray.size], Below.refl _ _⟩
  case round =>
    obtain ⟨c, acc, hc, rfl, rfl, hd, hs, hbel⟩ := hrel
    have HD := Lib.hid hd
    have HB := Lib.hid hbel
    clear hd hbel
    by_cases hz : c = 0
    · subst hz
      have hzi : ¬ (0 : Int) < ((0 : Nat) : Int) := by omega
      have HD2 : Hid (mkT k = ⟨#[109]⟩ ++ acc) := by
        show _ = _
        rw [HM.out, ← HD.out]
        cases gk with
        | zero => rfl
        | succ g => rw [digs9, if_pos rfl]
      have ha1 : (acc.size : Int) ≤ 8388608 := by omega
      have ha2 : ((⟨#[109]⟩ : ByteArray).size : Int) ≤ 8388608 := by decide
      go_wp2_with fail
      go_ret
      exact ⟨by rw [HD2.out]; rfl, HB.out⟩
    · have hzi : (0 : Int) < (c : Int) := by omega
      obtain ⟨g, rfl⟩ : ∃ g, gk = g + 1 := ⟨gk - 1, by omega⟩
      have HD2 : Hid (digs9 g (c / 10) (strB [48 + c % 10] ++ acc) = digs9 k k ⟨#[]⟩) := by
        show _ = _
        have h := HD.out
        rw [digs9, if_neg hz] at h
        exact h
      obtain ⟨d, hd⟩ : ∃ d : Nat, 48 + c % 10 = d := ⟨_, rfl⟩
      obtain ⟨q, hq⟩ : ∃ q : Nat, c / 10 = q := ⟨_, rfl⟩
      have hdi : (48 : Int) + (c : Int) % 10 = (d : Int) := by omega
      have hqi : (c : Int) / 10 = (q : Int) := by omega
      have hd57 : d ≤ 57 := by omega
      have HG : Hid (q ≤ g ∧ (strB [d] ++ acc).size + q ≤ k) := by
        refine ⟨by omega, ?_⟩
        rw [size_append9, strB_size, List.length_singleton]; omega
      rw [hd, hq] at HD2
      clear hd hq hz
      have hcv := convB (w := wr.alloc (.cells #[.int .u8 (d : Int)] 5)) (g := wr.heap.size) (cap := 1) (T := [d]) (fun i hi => by
        obtain rfl : i = 0 := by simp at hi; omega
        exact cell_of_row _ _ 0 _ _ _ (heap_alloc_new _ _))
      rw [List.length_singleton] at hcv
      have ha1 : (acc.size : Int) ≤ 8388608 := by omega
      have ha2 : ((strB [d]).size : Int) ≤ 8388608 := by rw [strB_size]; simp
      have HBa := Lib.hid (below_more HB.out (gAlloc wr (.cells #[.int .u8 (d : Int)] 5)))
      generalize strB [d] = U at *
      go_wp2_with fail
      go_roundg g
      case measure => omega
      case rel => exact ⟨q, _, HG.out.1, by go_num, rfl, HD2.out, HG.out.2, HBa.out⟩
end Go.Proofs.YthbjcipdneminaaGreatDoor

/- HL -/
namespace Go.Proofs.YthbjcipdneminaaGreatDoor
open Go.RowKit

theorem ownSt_put {w : World} {base g n cap : Nat} {L : List ByteArray} (h : OwnSt w base (.slice (some ⟨g, 0, none⟩) n cap) L) {j : Nat} (hj : j < L.length) (y : ByteArray) :
    OwnSt (w.setCell ⟨g, j, none⟩ (.string y)) base (.slice (some ⟨g, 0, none⟩) n cap) (L.set j y) ∧ w.grownBy (w.setCell ⟨g, j, none⟩ (.string y)) (some g) := by
  have := h.put fSt_len hj (i := 0) (by decide) (u := .string y) (y := y) rfl
  rw [Nat.mul_one, Nat.add_zero] at this
  exact this
theorem ownSt_at {w : World} {base g n cap : Nat} {L : List ByteArray} (h : OwnSt w base (.slice (some ⟨g, 0, none⟩) n cap) L) {j : Nat} (hj : j < L.length) : w.cell? ⟨g, j, none⟩ = some (.string L[j]) ∧ w.frozen? ⟨g, j, none⟩ = false := by
  have := h.cell fSt_len hj (i := 0) (by decide)
  rw [Nat.mul_one, Nat.add_zero] at this
  exact this
theorem fresh_st {w w2 : World} {n : Nat} (hown2 : w2.ownsRow w.heap.size 9 1 (.slice (some ⟨w.heap.size, 0, none⟩) n n) n (madeCells (Value.string ⟨#[]⟩).cells (n * 1)).toList) : OwnSt w2 w.heap.size (.slice (some ⟨w.heap.size, 0, none⟩) n n) (List.replicate n ⟨#[]⟩) := by
  rw [made_row _ _ rfl] at hown2
  show World.ownsRow _ _ _ _ _ _ _
  rw [List.length_replicate]
  have e : (List.replicate n (⟨#[]⟩ : ByteArray)).flatMap fSt = List.replicate n (Value.string ⟨#[]⟩) := by
    simp [List.flatMap, List.map_replicate]
  rw [e]
  simpa using hown2
set_option maxRecDepth 100000 in
set_option maxHeartbeats 2000000 in
theorem toStringS_any (A : Option Addr) (ss : List ByteArray) (c : Nat) (w : World) (ha : Strs w A ss) (hl : ss.length ≤ 1048576) :
    Calls Tryz.prog 50 #[.slice A ss.length c] w fun e w' => ∃ v, e = .returned v ∧ OwnSt w' w.heap.size v ss ∧ Below w.heap.size w w' := by
  obtain ⟨i1, hi', hy0, hy1, hy2⟩ := info_parts stInfo
  have HA := Lib.hid ha
  clear ha
  generalize hnn : ss.length = n at *
  have HN := Lib.hid hnn
  clear hnn
  go_enter Tryz.func50, Tryz.ntmps50
  go_wp2_with (at_make; refine wpList_make_full _ rfl _ _ 23 rfl w.heap.size 9 i1 (.string ⟨#[]⟩) 1 Tryz.underlying23 hi' hy0 hy1 .i64 .i64 _ _ n rfl rfl rfl rfl (by rw [hy2]; omega) (by unfold maxLen; omega) (Nat.le_refl _) ?_; intro w1 hown1 hgr1)
  have hb1 : Below w.heap.size w w1 := (Below.refl _ _).grown hgr1 (Nat.le_refl _) (by simp)
  have HO : Hid (OwnSt w1 w.heap.size (.slice (some ⟨w.heap.size, 0, none⟩) n n) (ss.take 0 ++ List.replicate (n - 0) ⟨#[]⟩)) := by
    show OwnSt _ _ _ _
    simp only [List.take_zero, List.nil_append, Nat.sub_zero]
    exact fresh_st hown1
  have HB := Lib.hid hb1
  clear hgr1 hown1 hb1 hi' hy0 hy1 hy2
  go_loopg [4] n (fun gk i wr => ∃ j : Nat, j + gk = n ∧ i = .int .i64 j ∧ OwnSt wr w.heap.size (.slice (some ⟨w.heap.size, 0, none⟩) n n) (ss.take j ++ List.replicate (n - j) ⟨#[]⟩) ∧ Below w.heap.size w wr)
  case atStart => exact ⟨0, by omega, rfl, HO.out, HB.out⟩
  case round =>
    obtain ⟨j, hg, rfl, hown, hbel⟩ := hrel
    have HOw := Lib.hid hown
    have HBl := Lib.hid hbel
    clear hown hbel HO HB
    by_cases hlt : j < n
    · have hji : (j : Int) < (n : Int) := by omega
      have hlt2 : j < ss.length := by have := HN.out; omega
      obtain ⟨b1, o1, rfl, p1⟩ := strs_at (HA.out.below HBl.out) hlt2
      have HTk : Hid (ss.take (j + 1) = ss.take j ++ [ss[j]]) := List.take_succ_eq_append_getElem hlt2
      have HTl : Hid ((ss.take j).length = j) := by show _ = _; rw [List.length_take]; omega
      have HGK : Hid (n - j - 1 < gk ∧ j + 1 + (n - j - 1) = n) := by show _ ∧ _; omega
      clear hg
      generalize ss[j] = p at *
      generalize ss.take j = TK at *
      have hjM : j < (TK ++ List.replicate (n - j) (⟨#[]⟩ : ByteArray)).length := by rw [List.length_append, HTl.out, List.length_replicate]; omega
      obtain ⟨hP, hG⟩ := ownSt_put HOw.out hjM p
      rw [show (TK ++ List.replicate (n - j) (⟨#[]⟩ : ByteArray)).set j p = (TK ++ [p]) ++ List.replicate (n - (j + 1)) ⟨#[]⟩ by
        have := mid_set TK (⟨#[]⟩ : ByteArray) p (n - (j + 1))
        rw [HTl.out, show n - (j + 1) + 1 = n - j by omega] at this
        exact this] at hP
      have HPut := Lib.hid hP
      have HB2 := Lib.hid (HBl.out.grown hG HBl.out.size (fun k hk => by injection hk with hk; omega))
      obtain ⟨hc0, hf0⟩ := ownSt_at HOw.out hjM
      generalize (TK ++ List.replicate (n - j) (⟨#[]⟩ : ByteArray))[j] = u0 at *
      clear hP hG hjM HOw HBl
      go_wp2_with fail
      go_roundg (n - j - 1)
      case measure => exact HGK.out.1
      case rel => exact ⟨j + 1, HGK.out.2, by go_num, by rw [HTk.out]; exact HPut.out, HB2.out⟩
    · obtain rfl : j = n := by omega
      have hji : ¬ (j : Int) < (j : Int) := by omega
      have HF : Hid (OwnSt wr w.heap.size (.slice (some ⟨w.heap.size, 0, none⟩) j j) ss) := by
        have := HOw.out
        rw [Nat.sub_self, List.replicate_zero, List.append_nil, List.take_of_length_le (by rw [HN.out]; exact Nat.le_refl _)] at this
        exact this
      go_wp2_with fail
      go_ret
      exact ⟨_, rfl, HF.out, HBl.out⟩

set_option maxRecDepth 100000 in
set_option maxHeartbeats 2000000 in
theorem eqStringS_self (A B : Option Addr) (ss : List ByteArray) (ca cb : Nat) (w : World) (ha : Strs w A ss) (hb : Strs w B ss) (hl : ss.length ≤ 1048576) :
    Calls Tryz.prog 53 #[.slice A ss.length ca, .slice B ss.length cb] w fun e w' => e = .returned (.bool true) ∧ ∃ n, w' = w.drewN n := by
  have HA := Lib.hid ha
  have HB := Lib.hid hb
  clear ha hb
  have hne : ((ss.length : Int) != (ss.length : Int)) = false := by simp
  go_enter Tryz.func53, Tryz.ntmps53
  go_wp2_with fail
  go_loopg [5] ss.length (fun gk i wr => ∃ k : Nat, k + gk = ss.length ∧ i = .int .i64 k ∧ ∃ n, wr = w.drewN n)
  case atStart => exact ⟨0, by omega, rfl, 0, rfl⟩
  case round =>
    obtain ⟨k, hg, rfl, nn, rfl⟩ := hrel
    by_cases hlt : k < ss.length
    · have hki : (k : Int) < (ss.length : Int) := by omega
      obtain ⟨b1, o1, rfl, p1⟩ := strs_at HA.out hlt
      obtain ⟨b2, o2, rfl, p2⟩ := strs_at HB.out hlt
      have HGK : Hid (ss.length - k - 1 < gk ∧ k + 1 + (ss.length - k - 1) = ss.length) := by show _ ∧ _; omega
      clear hg
      generalize ss[k] = p at *
      go_wp2_with fail
      go_quiet (fail)
      go_wp2_with fail
      go_roundg (ss.length - k - 1)
      case measure => exact HGK.out.1
      case rel => exact ⟨k + 1, HGK.out.2, by go_num, _, rfl⟩
    · obtain rfl : k = ss.length := by omega
      have hki : ¬ (ss.length : Int) < (ss.length : Int) := by omega
      go_wp2_with fail
      go_ret
      exact ⟨rfl, nn, rfl⟩

/-- What szStringS leaves of the room. -/
def szS9 (left : Int) : List ByteArray → Int
  | [] => left
  | s :: r => if left - (s.size : Int) < 0 then -1 else szS9 (left - (s.size : Int)) r
def szStr9 (left : Int) (ss : List ByteArray) : Int := if left - (ss.length : Int) < 0 then -1 else szS9 (left - (ss.length : Int)) ss
theorem szS9_ok : ∀ {ss : List ByteArray} {left : Int}, 0 ≤ szS9 left ss → 0 ≤ left → szS9 left ss ≤ left ∧ ∀ s ∈ ss, (s.size : Int) ≤ left
  | [], left, _, _ => ⟨Int.le_refl _, fun s hs => by cases hs⟩
  | s :: r, left, h, h0 => by
    rw [szS9] at h ⊢
    split at h
    · omega
    · rename_i hn
      rw [if_neg hn]
      obtain ⟨h1, h2⟩ := szS9_ok h (by omega)
      refine ⟨by omega, fun x hx => ?_⟩
      rcases List.mem_cons.1 hx with rfl | hx
      · omega
      · have := h2 x hx; omega
theorem szStr9_ok {ss : List ByteArray} {left : Int} (h : 0 ≤ szStr9 left ss) : szStr9 left ss + (ss.length : Int) ≤ left ∧ (ss.length : Int) ≤ left ∧ ∀ s ∈ ss, (s.size : Int) ≤ left := by
  rw [szStr9] at h ⊢
  split at h
  · omega
  · rename_i hn
    rw [if_neg hn]
    obtain ⟨h1, h2⟩ := szS9_ok h (by omega)
    exact ⟨by omega, by omega, fun s hs => by have := h2 s hs; omega⟩
theorem szS9_drop {ss : List ByteArray} {j : Nat} (hj : j < ss.length) (l : Int) : szS9 l (ss.drop j) = if l - (ss[j].size : Int) < 0 then -1 else szS9 (l - (ss[j].size : Int)) (ss.drop (j + 1)) := by
  rw [List.drop_eq_getElem_cons hj, szS9]
set_option maxRecDepth 100000 in
set_option maxHeartbeats 2000000 in
theorem szStringS_any (A : Option Addr) (ss : List ByteArray) (ca : Nat) (left : Int) (w : World) (ha : Strs w A ss) (hl : ss.length ≤ 9223372036854775807) (hs : ∀ s ∈ ss, s.size ≤ 9223372036854775807) (h0 : 0 ≤ left) (h1 : left ≤ 1048576) :
    Calls Tryz.prog 48 #[.slice A ss.length ca, .int .i64 left] w fun e w' => e = .returned (.int .i64 (szStr9 left ss)) ∧ w = w' := by
  have HA := Lib.hid ha
  have HS := Lib.hid hs
  clear ha hs
  by_cases hn : left - (ss.length : Int) < 0
  · have HE : Hid (szStr9 left ss = -1) := by show _ = _; rw [szStr9, if_pos hn]
    go_enter Tryz.func48, Tryz.ntmps48
    go_wp2_with fail
    go_ret
    exact ⟨by rw [HE.out]; rfl, rfl⟩
  · have HE : Hid (szStr9 left ss = szS9 (left - (ss.length : Int)) ss) := by show _ = _; rw [szStr9, if_neg hn]
    have hb : 0 ≤ left - (ss.length : Int) ∧ left - (ss.length : Int) ≤ 1048576 := by omega
    go_enter Tryz.func48, Tryz.ntmps48
    go_wp2_with fail
    generalize hr : left - (ss.length : Int) = rm at *
    clear hr
    go_loopg [1, 5] ss.length (fun gk lv i wr => ∃ (j : Nat) (l : Int), j + gk = ss.length ∧ i = .int .i64 j ∧ lv = .int .i64 l ∧ 0 ≤ l ∧ l ≤ 1048576 ∧ szS9 l (ss.drop j) = szS9 rm ss ∧ w = wr)
    case atStart => exact ⟨0, rm, by omega, rfl, rfl, hb.1, hb.2, rfl, rfl⟩
    case round =>
      obtain ⟨j, l, hg, rfl, rfl, hl0, hl1, hd, rfl⟩ := hrel
      have HD := Lib.hid hd
      clear hd
      by_cases hlt : j < ss.length
      · have hji : (j : Int) < (ss.length : Int) := by omega
        obtain ⟨b1, o1, rfl, p1⟩ := strs_at HA.out hlt
        have hsz := HS.out ss[j] (List.getElem_mem hlt)
        have HGK : Hid (ss.length - j - 1 < gk ∧ j + 1 + (ss.length - j - 1) = ss.length) := by show _ ∧ _; omega
        rw [szS9_drop hlt] at HD
        clear hg
        generalize ss[j] = p at *
        generalize hpn : p.size = pn at *
        have HPn := Lib.hid hpn
        by_cases hlt2 : l - (pn : Int) < 0
        · rw [if_pos hlt2] at HD
          go_wp2_with fail
          go_ret
          exact ⟨by rw [HE.out, ← HD.out]; rfl, rfl⟩
        · rw [if_neg hlt2] at HD
          go_wp2_with fail
          go_roundg (ss.length - j - 1)
          case measure => exact HGK.out.1
          case rel => exact ⟨j + 1, l - (pn : Int), HGK.out.2, by go_num, rfl, by omega, by omega, HD.out, rfl⟩
      · obtain rfl : j = ss.length := by omega
        have hji : ¬ (ss.length : Int) < (ss.length : Int) := by omega
        rw [List.drop_length] at HD
        go_wp2_with fail
        go_ret
        exact ⟨by rw [HE.out, ← HD.out]; rfl, rfl⟩

/-- What markStringS writes. -/
def markSs (k n : Nat) : List ByteArray := (List.range n).map fun j => mkT (k + j)
theorem markSs_length (k n : Nat) : (markSs k n).length = n := by simp [markSs]
theorem markSs_at (k : Nat) {n j : Nat} (h : j < (markSs k n).length) : (markSs k n)[j] = mkT (k + j) := by simp [markSs]
theorem markSs_succ (k n : Nat) : markSs k (n + 1) = markSs k n ++ [mkT (k + n)] := by simp [markSs, List.range_succ]
theorem markSs_set (k : Nat) {ss : List ByteArray} {j : Nat} (h : j < ss.length) : (markSs k j ++ ss.drop j).set j (mkT (k + j)) = markSs k (j + 1) ++ ss.drop (j + 1) := by
  rw [List.set_append_right _ _ (by rw [markSs_length]; exact Nat.le_refl _), markSs_length, Nat.sub_self, List.drop_eq_getElem_cons h, List.set_cons_zero, markSs_succ, List.append_assoc]
  rfl
theorem gBelowR {w w' : World} (hb : Below w.heap.size w w') (row : Option Nat) : w.grownBy w' row := ⟨hb.os, hb.tape, hb.output, hb.size, fun k hk _ => hb.block k hk⟩
set_option maxRecDepth 100000 in
set_option maxHeartbeats 2000000 in
theorem markStringS_any (v : Value) (ss : List ByteArray) (base k : Nat) (w : World) (ho : OwnSt w base v ss) (hl : ss.length ≤ 1048576) (hk0 : 1 ≤ k) (hk1 : k ≤ 5000000) :
    Calls Tryz.prog 55 #[v, .int .i64 k] w fun e w' => e = .returned (.int .i64 ((k + ss.length : Nat) : Int)) ∧ OwnSt w' base v (markSs k ss.length) ∧ w.grownBy w' v.ownBlock := by
  rcases ho.2 with ⟨rfl, hn⟩ | ⟨g, cap, cur, rfl, hbg, hg, hle, _⟩
  · obtain rfl := List.eq_nil_of_length_eq_zero hn
    go_enter Tryz.func55, Tryz.ntmps55
    go_wp2_with fail
    go_loopg [1, 5] 0 (fun _ q i wr => q = .int .i64 (k : Nat) ∧ i = .int .i64 0 ∧ w = wr)
    case atStart => exact ⟨rfl, rfl, rfl⟩
    case round =>
      obtain ⟨rfl, rfl, rfl⟩ := hrel
      go_wp2_with fail
      go_ret
      exact ⟨by simp, OwnR.nil _ _, ⟨rfl, rfl, rfl, Nat.le_refl _, fun _ _ _ => rfl⟩⟩
  · have HO0 := Lib.hid ho
    clear ho hg hle
    generalize hnn : ss.length = n at *
    have HN := Lib.hid hnn
    clear hnn
    go_enter Tryz.func55, Tryz.ntmps55
    go_wp2_with fail
    go_loopg [1, 5] n (fun gk q i wr => ∃ j : Nat, j + gk = n ∧ q = .int .i64 ((k + j : Nat) : Int) ∧ i = .int .i64 j ∧ OwnSt wr base (.slice (some ⟨g, 0, none⟩) n cap) (markSs k j ++ ss.drop j) ∧ w.grownBy wr (some g))
    case atStart => exact ⟨0, by omega, by simp, rfl, HO0.out, ⟨rfl, rfl, rfl, Nat.le_refl _, fun _ _ _ => rfl⟩⟩
    case round =>
      obtain ⟨j, hg, rfl, rfl, hown, hgr⟩ := hrel
      have HOw := Lib.hid hown
      have HGr := Lib.hid hgr
      clear hown hgr
      by_cases hlt : j < n
      · have hji : (j : Int) < (n : Int) := by omega
        have hlt2 : j < ss.length := by have := HN.out; omega
        have hMl : (markSs k j ++ ss.drop j).length = n := by rw [List.length_append, markSs_length, List.length_drop, HN.out]; omega
        have hjM : j < (markSs k j ++ ss.drop j).length := by omega
        have HGK : Hid (n - j - 1 < gk ∧ j + 1 + (n - j - 1) = n) := by show _ ∧ _; omega
        have HMk := Lib.hid (fun w => markText_any (k + j) w (by omega) (by omega))
        have HSet := Lib.hid (markSs_set k hlt2)
        have HKi : Hid (((k + (j + 1) : Nat) : Int) = ((k + j : Nat) : Int) + 1) := by show _ = _; omega
        have hkb : 0 ≤ ((k + j : Nat) : Int) ∧ ((k + j : Nat) : Int) ≤ 8000000 := by omega
        clear hg
        generalize mkT (k + j) = y at *
        generalize k + j = q at *
        go_wp2_with fail
        refine (HMk.out wr).mono ?_
        rintro e w7 ⟨rfl, hb7⟩
        have hO7 := HOw.out.below hb7
        obtain ⟨hP, hG⟩ := ownSt_put hO7 hjM y
        rw [HSet.out] at hP
        obtain ⟨hc0, hf0⟩ := ownSt_at hO7 hjM
        have HPut := Lib.hid hP
        have HGr7 := Lib.hid (grownBy_trans (grownBy_trans HGr.out (gBelowR hb7 _)) hG)
        generalize (markSs k j ++ ss.drop j)[j] = u0 at *
        clear hP hG hO7 hb7 hMl hjM HMk HOw
        go_wp2_with fail
        go_roundg (n - j - 1)
        case measure => exact HGK.out.1
        case rel => exact ⟨j + 1, HGK.out.2, by rw [HKi.out], by go_num, HPut.out, HGr7.out⟩
      · obtain rfl : j = n := by omega
        have hji : ¬ (j : Int) < (j : Int) := by omega
        have HF : Hid (OwnSt wr base (.slice (some ⟨g, 0, none⟩) j cap) (markSs k j)) := by
          have h := HOw.out
          rw [List.drop_of_length_le (by rw [HN.out]; exact Nat.le_refl _), List.append_nil] at h
          exact h
        go_wp2_with fail
        go_ret
        exact ⟨rfl, HF.out, HGr.out⟩

end Go.Proofs.YthbjcipdneminaaGreatDoor

/- HR -/
namespace Go.Proofs.YthbjcipdneminaaGreatDoor
open Go.RowKit

theorem ownPu_put {w : World} {base g n cap : Nat} {L : List (Int × ByteArray)} (h : OwnPu w base (.slice (some ⟨g, 0, none⟩) n cap) L) {j : Nat} (hj : j < L.length) (x : Int) (y : ByteArray) :
    OwnPu ((w.setCell ⟨g, j * 2, none⟩ (.int .i64 x)).setCell ⟨g, j * 2 + 1, none⟩ (.string y)) base (.slice (some ⟨g, 0, none⟩) n cap) (L.set j (x, y)) ∧ w.grownBy ((w.setCell ⟨g, j * 2, none⟩ (.int .i64 x)).setCell ⟨g, j * 2 + 1, none⟩ (.string y)) (some g) := by
  have h1 := h.put fPu_len hj (i := 0) (by decide) (u := .int .i64 x) (y := (x, L[j].2)) rfl
  rw [Nat.add_zero] at h1
  have h2 := h1.1.put fPu_len (j := j) (by rw [List.length_set]; exact hj) (i := 1) (by decide) (u := .string y) (y := (x, y)) (by rw [List.getElem_set_self]; rfl)
  rw [List.set_set] at h2
  exact ⟨h2.1, grownBy_trans h1.2 h2.2⟩
theorem ownPu_put0 {w : World} {base g n cap : Nat} {L : List (Int × ByteArray)} (h : OwnPu w base (.slice (some ⟨g, 0, none⟩) n cap) L) {j : Nat} (hj : j < L.length) (x : Int) :
    OwnPu (w.setCell ⟨g, j * 2, none⟩ (.int .i64 x)) base (.slice (some ⟨g, 0, none⟩) n cap) (L.set j (x, L[j].2)) ∧ w.grownBy (w.setCell ⟨g, j * 2, none⟩ (.int .i64 x)) (some g) := by
  have h1 := h.put fPu_len hj (i := 0) (by decide) (u := .int .i64 x) (y := (x, L[j].2)) rfl
  rw [Nat.add_zero] at h1
  exact h1
theorem ownPu_put1 {w : World} {base g n cap : Nat} {L : List (Int × ByteArray)} (h : OwnPu w base (.slice (some ⟨g, 0, none⟩) n cap) L) {j : Nat} (hj : j < L.length) (y : ByteArray) :
    OwnPu (w.setCell ⟨g, j * 2 + 1, none⟩ (.string y)) base (.slice (some ⟨g, 0, none⟩) n cap) (L.set j (L[j].1, y)) ∧ w.grownBy (w.setCell ⟨g, j * 2 + 1, none⟩ (.string y)) (some g) :=
  h.put fPu_len hj (i := 1) (by decide) (u := .string y) (y := (L[j].1, y)) rfl
theorem ownPu_at {w : World} {base g n cap : Nat} {L : List (Int × ByteArray)} (h : OwnPu w base (.slice (some ⟨g, 0, none⟩) n cap) L) {j : Nat} (hj : j < L.length) : (w.cell? ⟨g, j * 2, none⟩ = some (.int .i64 L[j].1) ∧ w.frozen? ⟨g, j * 2, none⟩ = false) ∧ (w.cell? ⟨g, j * 2 + 1, none⟩ = some (.string L[j].2) ∧ w.frozen? ⟨g, j * 2 + 1, none⟩ = false) := by
  have h0 := h.cell fPu_len hj (i := 0) (by decide)
  have h1 := h.cell fPu_len hj (i := 1) (by decide)
  rw [Nat.add_zero] at h0
  exact ⟨h0, h1⟩
theorem made_two9 (a b : Value) : ∀ n : Nat, (madeCells #[a, b] (n * 2)).toList = (List.replicate n [a, b]).flatten
  | 0 => by simp [madeCells]
  | n + 1 => by
    have ih := made_two9 a b n
    unfold madeCells at ih ⊢
    rw [Array.toList_map, Array.toList_range] at ih ⊢
    rw [show (n + 1) * 2 = n * 2 + 1 + 1 by omega, List.range_succ, List.range_succ, List.map_append, List.map_append, ih, List.replicate_succ', List.flatten_append, List.append_assoc]
    congr 1
    have h1 : n * 2 % 2 = 0 := by omega
    have h2 : (n * 2 + 1) % 2 = 1 := by omega
    simp [h1, h2]
theorem fresh_pu {w w2 : World} {n : Nat} (hown2 : w2.ownsRow w.heap.size 103 2 (.slice (some ⟨w.heap.size, 0, none⟩) n n) n (madeCells (Value.agg #[.int .i64 0, .string ⟨#[]⟩]).cells (n * 2)).toList) : OwnPu w2 w.heap.size (.slice (some ⟨w.heap.size, 0, none⟩) n n) (List.replicate n (0, ⟨#[]⟩)) := by
  rw [show (Value.agg #[.int .i64 0, .string ⟨#[]⟩]).cells = #[.int .i64 0, .string ⟨#[]⟩] from rfl, made_two9] at hown2
  show World.ownsRow _ _ _ _ _ _ _
  rw [List.length_replicate]
  have e : (List.replicate n ((0 : Int), (⟨#[]⟩ : ByteArray))).flatMap fPu = (List.replicate n [Value.int .i64 0, .string ⟨#[]⟩]).flatten := by
    simp [List.flatMap, List.map_replicate]
  rw [e]
  exact hown2
set_option maxRecDepth 100000 in
set_option maxHeartbeats 1000000 in
theorem toPut_any (x : Int) (y : ByteArray) (w : World) : Calls Tryz.prog 86 #[putV x y] w fun e w' => e = .returned (putV x y) ∧ Below w.heap.size w w' := by
  go_enter Tryz.func86, Tryz.ntmps86
  go_wp2_with fail
  have h1 : (((w.alloc (.cells #[.int .i64 x, .string y] 113)).alloc (.cells #[.int .i64 x, .string y] 103)).alloc (.cells #[.int .i64 x, .string y] 103)).heap[w.heap.size + 1]? = some (.cells #[.int .i64 x, .string y] 103 (0, 0)) := by
    rw [Below.heap_alloc _ _ _ (by simp), show w.heap.size + 1 = (w.alloc (.cells #[.int .i64 x, .string y] 113)).heap.size by simp]
    exact heap_alloc_new _ _
  exact ret_pu rfl (w.heap.size + 1) x y rfl h1 rfl ⟨rfl, (((Below.refl _ w).alloc (Nat.le_refl _) _).alloc (by simp) _).alloc (by simp; omega) _⟩
set_option maxRecDepth 100000 in
set_option maxHeartbeats 2000000 in
theorem toPutS_any (A : Option Addr) (bs : List (Int × ByteArray)) (c : Nat) (w : World) (ha : Puts w A bs) (hl : bs.length ≤ 1048576) :
    Calls Tryz.prog 51 #[.slice A bs.length c] w fun e w' => ∃ v, e = .returned v ∧ OwnPu w' w.heap.size v bs ∧ Below w.heap.size w w' := by
  obtain ⟨i1, hi', hy0, hy1, hy2⟩ := info_parts puInfo
  have HA := Lib.hid ha
  clear ha
  generalize hnn : bs.length = n at *
  have HN := Lib.hid hnn
  clear hnn
  go_enter Tryz.func51, Tryz.ntmps51
  go_wp2_with (at_make; refine wpList_make_full _ rfl _ _ 24 rfl w.heap.size 103 i1 (.agg #[.int .i64 0, .string ⟨#[]⟩]) 2 Tryz.underlying24 hi' hy0 hy1 .i64 .i64 _ _ n rfl rfl rfl rfl (by rw [hy2]; omega) (by unfold maxLen; omega) (Nat.le_refl _) ?_; intro w1 hown1 hgr1)
  have hb1 : Below w.heap.size w w1 := (Below.refl _ _).grown hgr1 (Nat.le_refl _) (by simp)
  have HO : Hid (OwnPu w1 w.heap.size (.slice (some ⟨w.heap.size, 0, none⟩) n n) (bs.take 0 ++ List.replicate (n - 0) (0, ⟨#[]⟩))) := by
    show OwnPu _ _ _ _
    simp only [List.take_zero, List.nil_append, Nat.sub_zero]
    exact fresh_pu hown1
  have HB := Lib.hid hb1
  clear hgr1 hown1 hb1 hi' hy0 hy1 hy2
  go_loopg [4] n (fun gk i wr => ∃ j : Nat, j + gk = n ∧ i = .int .i64 j ∧ OwnPu wr w.heap.size (.slice (some ⟨w.heap.size, 0, none⟩) n n) (bs.take j ++ List.replicate (n - j) (0, ⟨#[]⟩)) ∧ Below w.heap.size w wr)
  case atStart => exact ⟨0, by omega, rfl, HO.out, HB.out⟩
  case round =>
    obtain ⟨j, hg, rfl, hown, hbel⟩ := hrel
    have HOw := Lib.hid hown
    have HBl := Lib.hid hbel
    clear hown hbel HO HB
    by_cases hlt : j < n
    · have hji : (j : Int) < (n : Int) := by omega
      have hlt2 : j < bs.length := by have := HN.out; omega
      obtain ⟨b1, o1, rfl, p1, p2⟩ := puts_at (HA.out.below HBl.out) hlt2
      have HTk : Hid (bs.take (j + 1) = bs.take j ++ [(bs[j].1, bs[j].2)]) := List.take_succ_eq_append_getElem hlt2
      have HTl : Hid ((bs.take j).length = j) := by show _ = _; rw [List.length_take]; omega
      have HGK : Hid (n - j - 1 < gk ∧ j + 1 + (n - j - 1) = n) := by show _ ∧ _; omega
      clear hg
      generalize bs[j] = p at *
      generalize bs.take j = TK at *
      go_wp2_with fail
      refine (toPut_any p.1 p.2 wr).mono ?_
      rintro e w2 ⟨rfl, hb2⟩
      have hM := HOw.out.below hb2
      have hjM : j < (TK ++ List.replicate (n - j) ((0 : Int), (⟨#[]⟩ : ByteArray))).length := by rw [List.length_append, HTl.out, List.length_replicate]; omega
      obtain ⟨hP, hG⟩ := ownPu_put hM hjM p.1 p.2
      rw [show (TK ++ List.replicate (n - j) ((0 : Int), (⟨#[]⟩ : ByteArray))).set j (p.1, p.2) = (TK ++ [(p.1, p.2)]) ++ List.replicate (n - (j + 1)) (0, ⟨#[]⟩) by
        have := mid_set TK ((0 : Int), (⟨#[]⟩ : ByteArray)) (p.1, p.2) (n - (j + 1))
        rw [HTl.out, show n - (j + 1) + 1 = n - j by omega] at this
        exact this] at hP
      have HPut := Lib.hid hP
      have HB2 : Hid (Below w.heap.size w ((w2.setCell ⟨w.heap.size, j * 2, none⟩ (.int .i64 p.1)).setCell ⟨w.heap.size, j * 2 + 1, none⟩ (.string p.2))) := (below_more HBl.out hb2).grown hG (below_more HBl.out hb2).size (fun k hk => by injection hk with hk; omega)
      obtain ⟨⟨hc0, hf0⟩, ⟨hc1, hf1⟩⟩ := ownPu_at hM hjM
      generalize (TK ++ List.replicate (n - j) ((0 : Int), (⟨#[]⟩ : ByteArray)))[j] = u0 at *
      clear hM hP hG hjM hb2 p1 p2 HOw
      go_wp2_with fail
      go_roundg (n - j - 1)
      case measure => exact HGK.out.1
      case rel => exact ⟨j + 1, HGK.out.2, by go_num, by rw [HTk.out]; exact HPut.out, HB2.out⟩
    · obtain rfl : j = n := by omega
      have hji : ¬ (j : Int) < (j : Int) := by omega
      have HF : Hid (OwnPu wr w.heap.size (.slice (some ⟨w.heap.size, 0, none⟩) j j) bs) := by
        have := HOw.out
        rw [Nat.sub_self, List.replicate_zero, List.append_nil, List.take_of_length_le (by rw [HN.out]; exact Nat.le_refl _)] at this
        exact this
      go_wp2_with fail
      go_ret
      exact ⟨_, rfl, HF.out, HBl.out⟩

set_option maxRecDepth 100000 in
set_option maxHeartbeats 1000000 in
theorem eqPut_self (x : Int) (y : ByteArray) (w : World) : Calls Tryz.prog 87 #[putV x y, putV x y] w fun e w' => e = .returned (.bool true) ∧ Below w.heap.size w w' := by
  have hx : (x != x) = false := by simp
  go_enter Tryz.func87, Tryz.ntmps87
  go_wp2_with fail
  go_ret
  exact ⟨rfl, gAlloc2 _ _ _⟩
set_option maxRecDepth 100000 in
set_option maxHeartbeats 2000000 in
theorem eqPutS_self (A B : Option Addr) (bs : List (Int × ByteArray)) (ca cb : Nat) (w : World) (ha : Puts w A bs) (hb : Puts w B bs) (hl : bs.length ≤ 1048576) :
    Calls Tryz.prog 54 #[.slice A bs.length ca, .slice B bs.length cb] w fun e w' => e = .returned (.bool true) ∧ Below w.heap.size w w' := by
  have HA := Lib.hid ha
  have HB := Lib.hid hb
  clear ha hb
  have hne : ((bs.length : Int) != (bs.length : Int)) = false := by simp
  go_enter Tryz.func54, Tryz.ntmps54
  go_wp2_with fail
  go_loopg [5] bs.length (fun gk i wr => ∃ k : Nat, k + gk = bs.length ∧ i = .int .i64 k ∧ Below w.heap.size w wr)
  case atStart => exact ⟨0, by omega, rfl, Below.refl _ _⟩
  case round =>
    obtain ⟨k, hg, rfl, hbel⟩ := hrel
    have HBl := Lib.hid hbel
    clear hbel
    by_cases hlt : k < bs.length
    · have hki : (k : Int) < (bs.length : Int) := by omega
      obtain ⟨b1, o1, rfl, p1, p2⟩ := puts_at (HA.out.below HBl.out) hlt
      obtain ⟨b2, o2, rfl, q1, q2⟩ := puts_at (HB.out.below HBl.out) hlt
      have HGK : Hid (bs.length - k - 1 < gk ∧ k + 1 + (bs.length - k - 1) = bs.length) := by show _ ∧ _; omega
      clear hg
      generalize bs[k] = p at *
      go_wp2_with fail
      go_region_held3 (fun w' => w'.cell? ⟨b1, o1 + k * 2, none⟩ = some (.int .i64 p.1) ∧ w'.cell? ⟨b1, o1 + k * 2 + 1, none⟩ = some (.string p.2) ∧ w'.cell? ⟨b2, o2 + k * 2, none⟩ = some (.int .i64 p.1) ∧ w'.cell? ⟨b2, o2 + k * 2 + 1, none⟩ = some (.string p.2))
        (first | exact ⟨p1, p2, q1, q2⟩ | exact ⟨r0, r1, r2, r3⟩ | go_keep) (first
        | (go_at_call 87; refine (eqPut_self p.1 p.2 _).mono ?_; rintro e w7 ⟨rfl, hb7⟩; have r0 := (hb7.cell (World.block_lt_of_cell? _ _ p1)).trans p1; have r1 := (hb7.cell (World.block_lt_of_cell? _ _ p2)).trans p2; have r2 := (hb7.cell (World.block_lt_of_cell? _ _ q1)).trans q1; have r3 := (hb7.cell (World.block_lt_of_cell? _ _ q2)).trans q2))
      all_goals
        have HB7 := Lib.hid (below_more HBl.out (below_more gDrew hb7))
        clear hb7
        go_wp2_with fail
        go_roundg (bs.length - k - 1)
        case measure => exact HGK.out.1
        case rel => exact ⟨k + 1, HGK.out.2, by go_num, HB7.out⟩
    · obtain rfl : k = bs.length := by omega
      have hki : ¬ (bs.length : Int) < (bs.length : Int) := by omega
      go_wp2_with fail
      go_ret
      exact ⟨rfl, HBl.out⟩

set_option maxRecDepth 100000 in
set_option maxHeartbeats 1000000 in
theorem szPut_any (x : Int) (y : ByteArray) (n : Nat) (hn : y.size = n) (left : Int) (w : World) (hs : n ≤ 9223372036854775807) (h0 : 0 ≤ left) (h1 : left ≤ 1048576) :
    Calls Tryz.prog 85 #[putV x y, .int .i64 left] w fun e w' => e = .returned (.int .i64 (if left - (n : Int) < 0 then -1 else left - (n : Int))) ∧ Below w.heap.size w w' := by
  by_cases h : left - (n : Int) < 0
  · rw [if_pos h]
    go_enter Tryz.func85, Tryz.ntmps85
    go_wp2_with fail
    go_ret
    exact ⟨rfl, gAlloc _ _⟩
  · rw [if_neg h]
    go_enter Tryz.func85, Tryz.ntmps85
    go_wp2_with fail
    go_ret
    exact ⟨rfl, gAlloc _ _⟩
end Go.Proofs.YthbjcipdneminaaGreatDoor

/- HU -/
namespace Go.Proofs.YthbjcipdneminaaGreatDoor
open Go.RowKit

set_option maxRecDepth 100000 in
set_option maxHeartbeats 2000000 in
theorem szPutS_any (A : Option Addr) (ps : List (Int × ByteArray)) (ca : Nat) (left : Int) (w : World) (ha : Puts w A ps) (hl : ps.length ≤ 9223372036854775807) (hs : ∀ p ∈ ps, p.2.size ≤ 9223372036854775807) (h0 : 0 ≤ left) (h1 : left ≤ 1048576) :
    Calls Tryz.prog 49 #[.slice A ps.length ca, .int .i64 left] w fun e w' => e = .returned (.int .i64 (szStr9 left (ps.map Prod.snd))) ∧ Below w.heap.size w w' := by
  have HA := Lib.hid ha
  have HS := Lib.hid hs
  clear ha hs
  by_cases hn : left - (ps.length : Int) < 0
  · have HE : Hid (szStr9 left (ps.map Prod.snd) = -1) := by show _ = _; rw [szStr9, List.length_map, if_pos hn]
    go_enter Tryz.func49, Tryz.ntmps49
    go_wp2_with fail
    go_ret
    exact ⟨by rw [HE.out]; rfl, Below.refl _ _⟩
  · have HE : Hid (szStr9 left (ps.map Prod.snd) = szS9 (left - (ps.length : Int)) (ps.map Prod.snd)) := by show _ = _; rw [szStr9, List.length_map, if_neg hn]
    have hb : 0 ≤ left - (ps.length : Int) ∧ left - (ps.length : Int) ≤ 1048576 := by omega
    go_enter Tryz.func49, Tryz.ntmps49
    go_wp2_with fail
    generalize hr : left - (ps.length : Int) = rm at *
    clear hr
    go_loopg [1, 5] ps.length (fun gk lv i wr => ∃ (j : Nat) (l : Int), j + gk = ps.length ∧ i = .int .i64 j ∧ lv = .int .i64 l ∧ 0 ≤ l ∧ l ≤ 1048576 ∧ szS9 l ((ps.map Prod.snd).drop j) = szS9 rm (ps.map Prod.snd) ∧ Below w.heap.size w wr)
    case atStart => exact ⟨0, rm, by omega, rfl, rfl, hb.1, hb.2, rfl, Below.refl _ _⟩
    case round =>
      obtain ⟨j, l, hg, rfl, rfl, hl0, hl1, hd, hbel⟩ := hrel
      have HD := Lib.hid hd
      have HBl := Lib.hid hbel
      clear hd hbel
      by_cases hlt : j < ps.length
      · have hji : (j : Int) < (ps.length : Int) := by omega
        obtain ⟨b1, o1, rfl, p1, p2⟩ := puts_at (HA.out.below HBl.out) hlt
        have hsz := HS.out ps[j] (List.getElem_mem hlt)
        have HGK : Hid (ps.length - j - 1 < gk ∧ j + 1 + (ps.length - j - 1) = ps.length) := by show _ ∧ _; omega
        rw [szS9_drop (by rw [List.length_map]; exact hlt), List.getElem_map] at HD
        clear hg
        generalize ps[j] = p at *
        have HZ := Lib.hid (fun w => szPut_any p.1 p.2 p.2.size rfl l w hsz hl0 hl1)
        generalize p.2.size = pn at *
        by_cases hlt2 : l - (pn : Int) < 0
        · rw [if_pos hlt2] at HD HZ
          go_wp2_with fail
          refine (HZ.out wr).mono ?_
          rintro e w2 ⟨rfl, hb2⟩
          have HB2 := Lib.hid (below_more HBl.out hb2)
          clear hb2
          go_wp2_with fail
          go_ret
          exact ⟨by rw [HE.out, ← HD.out]; rfl, HB2.out⟩
        · rw [if_neg hlt2] at HD HZ
          go_wp2_with fail
          refine (HZ.out wr).mono ?_
          rintro e w2 ⟨rfl, hb2⟩
          have HB2 := Lib.hid (below_more HBl.out hb2)
          clear hb2
          go_wp2_with fail
          go_roundg (ps.length - j - 1)
          case measure => exact HGK.out.1
          case rel => exact ⟨j + 1, l - (pn : Int), HGK.out.2, by go_num, rfl, by omega, by omega, HD.out, HB2.out⟩
      · obtain rfl : j = ps.length := by omega
        have hji : ¬ (ps.length : Int) < (ps.length : Int) := by omega
        rw [List.drop_of_length_le (by rw [List.length_map]; exact Nat.le_refl _)] at HD
        go_wp2_with fail
        go_ret
        exact ⟨by rw [HE.out, ← HD.out]; rfl, HBl.out⟩

/-- What markPutS writes. -/
def markPs (k n : Nat) : List (Int × ByteArray) := (List.range n).map fun j => (((k + 2 * j : Nat) : Int), mkT (k + 2 * j + 1))
theorem markPs_length (k n : Nat) : (markPs k n).length = n := by simp [markPs]
theorem markPs_at (k : Nat) {n j : Nat} (h : j < (markPs k n).length) : (markPs k n)[j] = (((k + 2 * j : Nat) : Int), mkT (k + 2 * j + 1)) := by simp [markPs]
theorem markPs_succ (k n : Nat) : markPs k (n + 1) = markPs k n ++ [(((k + 2 * n : Nat) : Int), mkT (k + 2 * n + 1))] := by simp [markPs, List.range_succ]
theorem markPs_set (k : Nat) {ps : List (Int × ByteArray)} {j : Nat} (h : j < ps.length) : (markPs k j ++ ps.drop j).set j (((k + 2 * j : Nat) : Int), mkT (k + 2 * j + 1)) = markPs k (j + 1) ++ ps.drop (j + 1) := by
  rw [List.set_append_right _ _ (by rw [markPs_length]; exact Nat.le_refl _), markPs_length, Nat.sub_self, List.drop_eq_getElem_cons h, List.set_cons_zero, markPs_succ, List.append_assoc]
  rfl
set_option maxRecDepth 100000 in
set_option maxHeartbeats 4000000 in
theorem markPutS_any (v : Value) (ps : List (Int × ByteArray)) (base k : Nat) (w : World) (ho : OwnPu w base v ps) (hl : ps.length ≤ 1048576) (hk0 : 1 ≤ k) (hk1 : k ≤ 5000000) :
    Calls Tryz.prog 56 #[v, .int .i64 k] w fun e w' => e = .returned (.int .i64 ((k + 2 * ps.length : Nat) : Int)) ∧ OwnPu w' base v (markPs k ps.length) ∧ w.grownBy w' v.ownBlock := by
  rcases ho.2 with ⟨rfl, hn⟩ | ⟨g, cap, cur, rfl, hbg, hg, hle, _⟩
  · obtain rfl := List.eq_nil_of_length_eq_zero hn
    go_enter Tryz.func56, Tryz.ntmps56
    go_wp2_with fail
    go_loopg [1, 5] 0 (fun _ q i wr => q = .int .i64 (k : Nat) ∧ i = .int .i64 0 ∧ w = wr)
    case atStart => exact ⟨rfl, rfl, rfl⟩
    case round =>
      obtain ⟨rfl, rfl, rfl⟩ := hrel
      go_wp2_with fail
      go_ret
      exact ⟨by simp, OwnR.nil _ _, ⟨rfl, rfl, rfl, Nat.le_refl _, fun _ _ _ => rfl⟩⟩
  · have HO0 := Lib.hid ho
    clear ho hg hle
    generalize hnn : ps.length = n at *
    have HN := Lib.hid hnn
    clear hnn
    go_enter Tryz.func56, Tryz.ntmps56
    go_wp2_with fail
    go_loopg [1, 5] n (fun gk q i wr => ∃ j : Nat, j + gk = n ∧ q = .int .i64 ((k + 2 * j : Nat) : Int) ∧ i = .int .i64 j ∧ OwnPu wr base (.slice (some ⟨g, 0, none⟩) n cap) (markPs k j ++ ps.drop j) ∧ w.grownBy wr (some g))
    case atStart => exact ⟨0, by omega, by simp, rfl, HO0.out, ⟨rfl, rfl, rfl, Nat.le_refl _, fun _ _ _ => rfl⟩⟩
    case round =>
      obtain ⟨j, hg, rfl, rfl, hown, hgr⟩ := hrel
      have HOw := Lib.hid hown
      have HGr := Lib.hid hgr
      clear hown hgr
      by_cases hlt : j < n
      · have hji : (j : Int) < (n : Int) := by omega
        have hlt2 : j < ps.length := by have := HN.out; omega
        have hMl : (markPs k j ++ ps.drop j).length = n := by rw [List.length_append, markPs_length, List.length_drop, HN.out]; omega
        have hjM : j < (markPs k j ++ ps.drop j).length := by omega
        have HGK : Hid (n - j - 1 < gk ∧ j + 1 + (n - j - 1) = n) := by show _ ∧ _; omega
        have HMk := Lib.hid (fun w => markText_any (k + 2 * j + 1) w (by omega) (by omega))
        have HSet := Lib.hid (markPs_set k hlt2)
        have HKi : Hid (((k + 2 * (j + 1) : Nat) : Int) = ((k + 2 * j : Nat) : Int) + 1 + 1) := by show _ = _; omega
        have hkb : 0 ≤ ((k + 2 * j : Nat) : Int) ∧ ((k + 2 * j : Nat) : Int) ≤ 8000000 := by omega
        have hki : ((k + 2 * j : Nat) : Int) + 1 = ((k + 2 * j + 1 : Nat) : Int) := by omega
        obtain ⟨⟨hc0, hf0⟩, -⟩ := ownPu_at HOw.out hjM
        obtain ⟨hP0, hG0⟩ := ownPu_put0 HOw.out hjM ((k + 2 * j : Nat) : Int)
        have HP0 := Lib.hid hP0
        have HG0 := Lib.hid (grownBy_trans HGr.out hG0)
        have hjM0 : j < ((markPs k j ++ ps.drop j).set j (((k + 2 * j : Nat) : Int), (markPs k j ++ ps.drop j)[j].2)).length := by rw [List.length_set]; exact hjM
        have HS2 : Hid (∀ y, ((markPs k j ++ ps.drop j).set j (((k + 2 * j : Nat) : Int), (markPs k j ++ ps.drop j)[j].2)).set j ((((markPs k j ++ ps.drop j).set j (((k + 2 * j : Nat) : Int), (markPs k j ++ ps.drop j)[j].2))[j]'hjM0).1, y) = (markPs k j ++ ps.drop j).set j (((k + 2 * j : Nat) : Int), y)) := fun y => by
          rw [List.getElem_set_self, List.set_set]
        clear hg hP0 hG0
        generalize (markPs k j ++ ps.drop j).set j (((k + 2 * j : Nat) : Int), (markPs k j ++ ps.drop j)[j].2) = M0 at *
        generalize mkT (k + 2 * j + 1) = y at *
        generalize k + 2 * j + 1 = q1 at *
        generalize k + 2 * j = q at *
        go_wp2_with fail
        refine (HMk.out _).mono ?_
        rintro e w7 ⟨rfl, hb7⟩
        have hO7 := HP0.out.below hb7
        obtain ⟨hP, hG⟩ := ownPu_put1 hO7 hjM0 y
        rw [HS2.out, HSet.out] at hP
        obtain ⟨-, ⟨hc1, hf1⟩⟩ := ownPu_at hO7 hjM0
        have HPut := Lib.hid hP
        have HGr7 := Lib.hid (grownBy_trans (grownBy_trans HG0.out (gBelowR hb7 _)) hG)
        clear hP hG hO7 hb7 hMl HMk HOw HP0 HS2
        go_wp2_with fail
        go_roundg (n - j - 1)
        case measure => exact HGK.out.1
        case rel => exact ⟨j + 1, HGK.out.2, by rw [HKi.out, hki], by go_num, HPut.out, HGr7.out⟩
      · obtain rfl : j = n := by omega
        have hji : ¬ (j : Int) < (j : Int) := by omega
        have HF : Hid (OwnPu wr base (.slice (some ⟨g, 0, none⟩) j cap) (markPs k j)) := by
          have h := HOw.out
          rw [List.drop_of_length_le (by rw [HN.out]; exact Nat.le_refl _), List.append_nil] at h
          exact h
        go_wp2_with fail
        go_ret
        exact ⟨rfl, HF.out, HGr.out⟩

end Go.Proofs.YthbjcipdneminaaGreatDoor

/- HV -/
namespace Go.Proofs.YthbjcipdneminaaGreatDoor
open Go.RowKit

theorem gSet9 (w : World) (g j : Nat) (v : Value) : w.grownBy (w.setCell ⟨g, j, none⟩ v) (some g) := gSet w ⟨g, j, none⟩ v
set_option maxRecDepth 100000 in
set_option maxHeartbeats 4000000 in
theorem toDisk_any (A B : Option Addr) (ss : List ByteArray) (ps : List (Int × ByteArray)) (ca cb : Nat) (w : World) (ha : Strs w A ss) (hb : Puts w B ps) (hl : ss.length ≤ 1048576) (hl2 : ps.length ≤ 1048576) :
    Calls Tryz.prog 18 #[diskV (.slice A ss.length ca) (.slice B ps.length cb)] w fun e w' => ∃ v1 v2, e = .returned (diskV v1 v2) ∧ OwnSt w' w.heap.size v1 ss ∧ OwnPu w' w.heap.size v2 ps ∧ (v1.ownBlock = none ∨ v1.ownBlock ≠ v2.ownBlock) ∧ Below w.heap.size w w' := by
  have HA := Lib.hid ha
  have HB := Lib.hid hb
  clear ha hb
  go_enter Tryz.func18, Tryz.ntmps18
  go_wp2_with fail
  obtain ⟨W, hW⟩ : ∃ W, ((w.alloc (.cells #[.slice A ss.length ca, .slice B ps.length cb] 48)).alloc (.cells #[.slice none 0 0, .slice none 0 0] 26)).alloc (.cells #[.slice none 0 0, .slice none 0 0] 26) = W := ⟨_, rfl⟩
  have hbW : Below w.heap.size w W := by
    rw [← hW]
    exact (((Below.refl _ w).alloc (Nat.le_refl _) _).alloc (by simp) _).alloc (by simp; omega) _
  have hsW : W.heap.size = w.heap.size + 3 := by rw [← hW]; simp
  have h1 : W.heap[w.heap.size]? = some (.cells #[.slice A ss.length ca, .slice B ps.length cb] 48 (0, 0)) := by
    rw [← hW, heap_alloc_old _ _ _ (by simp; omega), heap_alloc_old _ _ _ (by simp)]; exact heap_alloc_new _ _
  have h2 : W.heap[w.heap.size + 1]? = some (.cells #[.slice none 0 0, .slice none 0 0] 26 (0, 0)) := by
    rw [← hW, heap_alloc_old _ _ _ (by simp), show w.heap.size + 1 = (w.alloc (.cells #[.slice A ss.length ca, .slice B ps.length cb] 48)).heap.size by simp]; exact heap_alloc_new _ _
  have h3 : W.heap[w.heap.size + 1 + 1]? = some (.cells #[.slice none 0 0, .slice none 0 0] 26 (0, 0)) := by
    rw [← hW, show w.heap.size + 1 + 1 = ((w.alloc (.cells #[.slice A ss.length ca, .slice B ps.length cb] 48)).alloc (.cells #[.slice none 0 0, .slice none 0 0] 26)).heap.size by simp]; exact heap_alloc_new _ _
  have HBW := Lib.hid hbW
  rw [hW]
  clear hW hbW
  refine (toStringS_any A ss ca W (HA.out.below HBW.out) hl).mono ?_
  rintro e w1 ⟨v1, rfl, ho1, hb1⟩
  obtain ⟨A1, c1, rfl, _⟩ := ho1.form fSt_len
  have k1 : w1.heap[w.heap.size]? = some (.cells #[.slice A ss.length ca, .slice B ps.length cb] 48 (0, 0)) := by rw [hb1.block _ (by omega)]; exact h1
  have k2 : w1.heap[w.heap.size + 1]? = some (.cells #[.slice none 0 0, .slice none 0 0] 26 (0, 0)) := by rw [hb1.block _ (by omega)]; exact h2
  have k3 : w1.heap[w.heap.size + 1 + 1]? = some (.cells #[.slice none 0 0, .slice none 0 0] 26 (0, 0)) := by rw [hb1.block _ (by omega)]; exact h3
  have hs1 := hb1.size
  have hc0 : w1.cell? ⟨w.heap.size + 1 + 1, 0, none⟩ = some (.slice none 0 0) := cell_of_row w1 _ 0 _ _ _ k3
  have hf0 := frozen_of_row w1 _ 0 _ _ k3
  have hx1 : w1.cell? ⟨w.heap.size, 1, none⟩ = some (.slice B ps.length cb) := cell_of_row w1 _ 1 _ _ _ k1
  have HO1 := Lib.hid ho1
  have HB1 := Lib.hid (below_more HBW.out hb1)
  have K2 := Lib.hid k2
  have K3 := Lib.hid k3
  clear h1 h2 h3 ho1 hb1 k1 k2 k3
  go_wp2_with fail
  have hG := gSet9 w1 (w.heap.size + 1 + 1) 0 (.slice A1 ss.length c1)
  have HO2 := Lib.hid (HO1.out.cur (show w.heap.size + 1 + 1 < W.heap.size by omega) hG)
  have HB2 : Hid (Below w.heap.size w (w1.setCell ⟨w.heap.size + 1 + 1, 0, none⟩ (.slice A1 ss.length c1))) := HB1.out.setCell (show w.heap.size ≤ w.heap.size + 1 + 1 by omega) _
  have L2 : Hid ((w1.setCell ⟨w.heap.size + 1 + 1, 0, none⟩ (.slice A1 ss.length c1)).heap[w.heap.size + 1]? = some (.cells #[.slice none 0 0, .slice none 0 0] 26 (0, 0))) :=
    (heap_setCell_other w1 ⟨w.heap.size + 1 + 1, 0, none⟩ (w.heap.size + 1) _ (by show w.heap.size + 1 ≠ w.heap.size + 1 + 1; omega)).trans K2.out
  have L3 : Hid ((w1.setCell ⟨w.heap.size + 1 + 1, 0, none⟩ (.slice A1 ss.length c1)).heap[w.heap.size + 1 + 1]? = some (.cells #[.slice A1 ss.length c1, .slice none 0 0] 26 (0, 0))) :=
    heap_setCell_same _ _ 0 _ _ _ K3.out
  have hs2 := hG.size
  generalize w1.setCell ⟨w.heap.size + 1 + 1, 0, none⟩ (.slice A1 ss.length c1) = w2 at *
  clear hG hc0 hf0 hx1 HO1 HB1 K2 K3
  refine (toPutS_any B ps cb w2 (HB.out.below HB2.out) hl2).mono ?_
  rintro e w3 ⟨v3, rfl, ho3, hb3⟩
  obtain ⟨A3, c3, rfl, _⟩ := ho3.form fPu_len
  have m2 : w3.heap[w.heap.size + 1]? = some (.cells #[.slice none 0 0, .slice none 0 0] 26 (0, 0)) := by rw [hb3.block _ (by omega)]; exact L2.out
  have m3 : w3.heap[w.heap.size + 1 + 1]? = some (.cells #[.slice A1 ss.length c1, .slice none 0 0] 26 (0, 0)) := by rw [hb3.block _ (by omega)]; exact L3.out
  have hc0 : w3.cell? ⟨w.heap.size + 1 + 1, 0, none⟩ = some (.slice A1 ss.length c1) := cell_of_row w3 _ 0 _ _ _ m3
  have hc1 : w3.cell? ⟨w.heap.size + 1 + 1, 1, none⟩ = some (.slice none 0 0) := cell_of_row w3 _ 1 _ _ _ m3
  have hf1 := frozen_of_row w3 _ 1 _ _ m3
  have hd0 : w3.cell? ⟨w.heap.size + 1, 0, none⟩ = some (.slice none 0 0) := cell_of_row w3 _ 0 _ _ _ m2
  have hd1 : w3.cell? ⟨w.heap.size + 1, 1, none⟩ = some (.slice none 0 0) := cell_of_row w3 _ 1 _ _ _ m2
  have hg0 := frozen_of_row w3 _ 0 _ _ m2
  have hg1 := frozen_of_row w3 _ 1 _ _ m2
  have M2 := Lib.hid m2
  have HO3 := Lib.hid (HO2.out.below hb3)
  have HP3 := Lib.hid ho3
  have HB3 := Lib.hid (below_more HB2.out hb3)
  have HAp : Hid ((Value.slice A1 ss.length c1).ownBlock = none ∨ (Value.slice A1 ss.length c1).ownBlock ≠ (Value.slice A3 ps.length c3).ownBlock) := by
    cases hv : (Value.slice A1 ss.length c1).ownBlock with
    | none => exact Or.inl rfl
    | some k =>
      refine Or.inr fun e => ?_
      have q1 := (HO2.out.lt k hv).2
      have q2 := (ho3.lt k e.symm).1
      omega
  have hs3 := hb3.size
  clear m2 m3 ho3 hb3 HO2 HB2 L2 L3
  go_wp2_with fail
  have hgo : (((w3.setCell ⟨w.heap.size + 1 + 1, 1, none⟩ (.slice A3 ps.length c3)).setCell ⟨w.heap.size + 1, 0, none⟩ (.slice A1 ss.length c1)).setCell ⟨w.heap.size + 1, 1, none⟩ (.slice A3 ps.length c3)).heap[w.heap.size + 1]? = some (.cells #[.slice A1 ss.length c1, .slice A3 ps.length c3] 26 (0, 0)) :=
    heap_setCell_same _ _ 1 _ _ _ (heap_setCell_same _ _ 0 _ _ _ ((heap_setCell_other w3 ⟨w.heap.size + 1 + 1, 1, none⟩ (w.heap.size + 1) _ (by show w.heap.size + 1 ≠ w.heap.size + 1 + 1; omega)).trans M2.out))
  refine ret_dk rfl (w.heap.size + 1) _ _ rfl hgo rfl ?_
  have g1 := gSet9 w3 (w.heap.size + 1 + 1) 1 (.slice A3 ps.length c3)
  have g2 := gSet9 (w3.setCell ⟨w.heap.size + 1 + 1, 1, none⟩ (.slice A3 ps.length c3)) (w.heap.size + 1) 0 (.slice A1 ss.length c1)
  have g3 := gSet9 ((w3.setCell ⟨w.heap.size + 1 + 1, 1, none⟩ (.slice A3 ps.length c3)).setCell ⟨w.heap.size + 1, 0, none⟩ (.slice A1 ss.length c1)) (w.heap.size + 1) 1 (.slice A3 ps.length c3)
  refine ⟨_, _, rfl, ?_, ?_, HAp.out, ?_⟩
  · exact (((HO3.out.cur (show w.heap.size + 1 + 1 < W.heap.size by omega) g1).cur (show w.heap.size + 1 < W.heap.size by omega) g2).cur (show w.heap.size + 1 < W.heap.size by omega) g3).lower (by omega)
  · exact (((HP3.out.cur (show w.heap.size + 1 + 1 < w2.heap.size by omega) g1).cur (show w.heap.size + 1 < w2.heap.size by omega) g2).cur (show w.heap.size + 1 < w2.heap.size by omega) g3).lower (by omega)
  · exact ((HB3.out.setCell (by show w.heap.size ≤ w.heap.size + 1 + 1; omega) _).setCell (by show w.heap.size ≤ w.heap.size + 1; omega) _).setCell (by show w.heap.size ≤ w.heap.size + 1; omega) _

set_option maxRecDepth 100000 in
set_option maxHeartbeats 2000000 in
theorem eqDisk_self (A B C D : Option Addr) (ss : List ByteArray) (ps : List (Int × ByteArray)) (ca cb cc cd : Nat) (w : World) (ha : Strs w A ss) (hb : Puts w B ps) (hc : Strs w C ss) (hd : Puts w D ps) (hl : ss.length ≤ 1048576) (hl2 : ps.length ≤ 1048576) :
    Calls Tryz.prog 21 #[diskV (.slice A ss.length ca) (.slice B ps.length cb), diskV (.slice C ss.length cc) (.slice D ps.length cd)] w fun e w' => e = .returned (.bool true) ∧ Below w.heap.size w w' := by
  have hW := gAlloc2 w (.cells #[.slice A ss.length ca, .slice B ps.length cb] 26) (.cells #[.slice C ss.length cc, .slice D ps.length cd] 26)
  have HS := Lib.hid (eqStringS_self A C ss ca cc _ (ha.below hW) (hc.below hW) hl)
  have HP := Lib.hid (fun n => eqPutS_self B D ps cb cd _ ((hb.below hW).below (gDrewN n)) ((hd.below hW).below (gDrewN n)) hl2)
  have HB := Lib.hid hW
  have hx1 : ((w.alloc (.cells #[.slice A ss.length ca, .slice B ps.length cb] 26)).alloc (.cells #[.slice C ss.length cc, .slice D ps.length cd] 26)).cell? ⟨w.heap.size, 1, none⟩ = some (.slice B ps.length cb) := by
    have e1 : ((w.alloc (.cells #[.slice A ss.length ca, .slice B ps.length cb] 26)).alloc (.cells #[.slice C ss.length cc, .slice D ps.length cd] 26)).heap[w.heap.size]? = some (.cells #[.slice A ss.length ca, .slice B ps.length cb] 26 (0, 0)) := by
      rw [heap_alloc_old _ _ _ (by simp)]; exact heap_alloc_new _ _
    exact cell_of_row _ _ 1 _ _ _ e1
  have hy1 : ((w.alloc (.cells #[.slice A ss.length ca, .slice B ps.length cb] 26)).alloc (.cells #[.slice C ss.length cc, .slice D ps.length cd] 26)).cell? ⟨w.heap.size + 1, 1, none⟩ = some (.slice D ps.length cd) := by
    have e1 : ((w.alloc (.cells #[.slice A ss.length ca, .slice B ps.length cb] 26)).alloc (.cells #[.slice C ss.length cc, .slice D ps.length cd] 26)).heap[w.heap.size + 1]? = some (.cells #[.slice C ss.length cc, .slice D ps.length cd] 26 (0, 0)) := by
      rw [show w.heap.size + 1 = (w.alloc (.cells #[.slice A ss.length ca, .slice B ps.length cb] 26)).heap.size by simp]; exact heap_alloc_new _ _
    exact cell_of_row _ _ 1 _ _ _ e1
  clear ha hb hc hd hW
  go_enter Tryz.func21, Tryz.ntmps21
  go_wp2_with fail
  generalize (w.alloc (.cells #[.slice A ss.length ca, .slice B ps.length cb] 26)).alloc (.cells #[.slice C ss.length cc, .slice D ps.length cd] 26) = W at *
  refine HS.out.mono ?_
  rintro e w1 ⟨rfl, n1, rfl⟩
  go_wp2_with fail
  refine (HP.out n1).mono ?_
  rintro e w2 ⟨rfl, hb2⟩
  have HB2 := Lib.hid (below_more (below_more HB.out (gDrewN n1)) hb2)
  clear hb2
  go_wp2_with fail
  go_ret
  exact ⟨rfl, HB2.out⟩

set_option maxRecDepth 100000 in
set_option maxHeartbeats 2000000 in
theorem szDisk_any (A B : Option Addr) (ss : List ByteArray) (ps : List (Int × ByteArray)) (ca cb : Nat) (left : Int) (w : World) (ha : Strs w A ss) (hb : Puts w B ps) (hl : ss.length ≤ 9223372036854775807) (hs : ∀ s ∈ ss, s.size ≤ 9223372036854775807) (hl2 : ps.length ≤ 9223372036854775807) (hs2 : ∀ p ∈ ps, p.2.size ≤ 9223372036854775807) (h0 : 0 ≤ left) (h1 : left ≤ 1048576) :
    Calls Tryz.prog 17 #[diskV (.slice A ss.length ca) (.slice B ps.length cb), .int .i64 left] w fun e w' => ∃ r : Int, e = .returned (.int .i64 r) ∧ (r < 0 ∨ (0 ≤ r ∧ r + ((ss.length : Int) + (ps.length : Int)) ≤ left ∧ (∀ s ∈ ss, s.size ≤ 1048576) ∧ ∀ p ∈ ps, p.2.size ≤ 1048576)) ∧ Below w.heap.size w w' := by
  have hW := gAlloc w (.cells #[.slice A ss.length ca, .slice B ps.length cb] 48)
  have HS := Lib.hid (szStringS_any A ss ca left _ (ha.below hW) hl hs h0 h1)
  have HP := Lib.hid (fun l hl0 hl1 => szPutS_any B ps cb l _ (hb.below hW) hl2 hs2 hl0 hl1)
  have HB := Lib.hid hW
  have HO := Lib.hid (fun h => szStr9_ok (ss := ss) (left := left) h)
  have HO2 := Lib.hid (fun l h => szStr9_ok (ss := ps.map Prod.snd) (left := l) h)
  have hx1 : (w.alloc (.cells #[.slice A ss.length ca, .slice B ps.length cb] 48)).cell? ⟨w.heap.size, 1, none⟩ = some (.slice B ps.length cb) := cell_of_row _ _ 1 _ _ _ (heap_alloc_new _ _)
  clear ha hb hs hs2 hW
  generalize szStr9 left ss = r at *
  by_cases hr : r < 0
  · go_enter Tryz.func17, Tryz.ntmps17
    go_wp2_with fail
    refine HS.out.mono ?_
    rintro e w1 ⟨rfl, rfl⟩
    go_wp2_with fail
    go_ret
    exact ⟨-1, rfl, Or.inl (by omega), HB.out⟩
  · obtain ⟨q1, q2, q3⟩ := HO.out (by omega)
    have HQ3 : Hid (∀ s ∈ ss, s.size ≤ 1048576) := fun s hs => by have := q3 s hs; omega
    clear q3
    have HP1 := Lib.hid (HP.out r (by omega) (by omega))
    have HO3 := Lib.hid (HO2.out r)
    clear HP HO2 HO
    generalize szStr9 r (ps.map Prod.snd) = r2 at *
    have HLm : Hid ((ps.map Prod.snd).length = ps.length) := List.length_map ..
    rw [HLm.out] at HO3
    by_cases hr2 : r2 < 0
    · go_enter Tryz.func17, Tryz.ntmps17
      go_wp2_with fail
      refine HS.out.mono ?_
      rintro e w1 ⟨rfl, rfl⟩
      go_wp2_with fail
      refine HP1.out.mono ?_
      rintro e w2 ⟨rfl, hb2⟩
      have HB2 := Lib.hid (below_more HB.out hb2)
      clear hb2
      go_wp2_with fail
      go_ret
      exact ⟨-1, rfl, Or.inl (by omega), HB2.out⟩
    · obtain ⟨t1, t2, t3⟩ := HO3.out (by omega)
      have HT3 : Hid (∀ p ∈ ps, p.2.size ≤ 1048576) := fun p hp => by have := t3 p.2 (List.mem_map.2 ⟨p, hp, rfl⟩); omega
      clear HO3 t3
      go_enter Tryz.func17, Tryz.ntmps17
      go_wp2_with fail
      refine HS.out.mono ?_
      rintro e w1 ⟨rfl, rfl⟩
      go_wp2_with fail
      refine HP1.out.mono ?_
      rintro e w2 ⟨rfl, hb2⟩
      have HB2 := Lib.hid (below_more HB.out hb2)
      clear hb2
      go_wp2_with fail
      go_ret
      exact ⟨r2, rfl, Or.inr ⟨by omega, by omega, HQ3.out, HT3.out⟩, HB2.out⟩

set_option maxRecDepth 100000 in
set_option maxHeartbeats 2000000 in
theorem markDisk_any (v1 v2 : Value) (ss : List ByteArray) (ps : List (Int × ByteArray)) (base k : Nat) (w : World) (ho : OwnSt w base v1 ss) (hp : OwnPu w base v2 ps) (hap : v1.ownBlock = none ∨ v1.ownBlock ≠ v2.ownBlock) (hl : ss.length ≤ 1048576) (hl2 : ps.length ≤ 1048576) (hk0 : 1 ≤ k) (hk1 : k ≤ 3000000) :
    Calls Tryz.prog 23 #[diskV v1 v2, .int .i64 k] w fun e w' => e = .returned (.int .i64 ((k + ss.length + 2 * ps.length : Nat) : Int)) ∧ OwnSt w' base v1 (markSs k ss.length) ∧ OwnPu w' base v2 (markPs (k + ss.length) ps.length) ∧ ∃ wm, w.grownBy wm v1.ownBlock ∧ wm.grownBy w' v2.ownBlock := by
  have hW := gAlloc w (.cells #[v1, v2] 26)
  have HM1 := Lib.hid (markStringS_any v1 ss base k _ (ho.below hW) hl hk0 (by omega))
  have HM2 := Lib.hid (fun w h => markPutS_any v2 ps base (k + ss.length) w h hl2 (by omega) (by omega))
  have HP := Lib.hid (hp.below hW)
  have HAp := Lib.hid hap
  have HG0 := Lib.hid (World.grownBy_alloc w (.cells #[v1, v2] 26) v1.ownBlock)
  obtain ⟨A1, c1, hv1, _⟩ := ho.form fSt_len
  obtain ⟨A2, c2, hv2, _⟩ := hp.form fPu_len
  have hx1 : (w.alloc (.cells #[v1, v2] 26)).cell? ⟨w.heap.size, 1, none⟩ = some v2 := cell_of_row _ _ 1 _ _ _ (heap_alloc_new _ _)
  have HX1 := Lib.hid hx1
  have HLt : Hid (∀ g, v1.ownBlock = some g → g < w.heap.size) := fun g hg => (ho.lt g hg).2
  have hl0 : ((k + ss.length : Nat) : Int) ≤ 5000000 := by omega
  subst hv1
  subst hv2
  clear ho hp hW hap hx1
  go_enter Tryz.func23, Tryz.ntmps23
  go_wp2_with fail
  refine HM1.out.mono ?_
  rintro e w1 ⟨rfl, ho1, hg1⟩
  have hx : w1.cell? ⟨w.heap.size, 1, none⟩ = some (.slice A2 ps.length c2) := hg1.cell HX1.out (by intro e; exact absurd (HLt.out w.heap.size e.symm) (Nat.lt_irrefl _))
  have HO1 := Lib.hid ho1
  have HP1 := Lib.hid (HP.out.kept hg1 (gApart HAp.out))
  have HG1 := Lib.hid (grownBy_trans HG0.out hg1)
  clear ho1 hg1 HM1 HP HG0 HX1
  go_wp2_with fail
  refine (HM2.out w1 HP1.out).mono ?_
  rintro e w2 ⟨rfl, ho2, hg2⟩
  have HO2 := Lib.hid (HO1.out.kept hg2 HAp.out)
  have HP2 := Lib.hid ho2
  have HG2 := Lib.hid hg2
  clear ho2 hg2 HM2 HP1 HO1
  go_wp2_with fail
  go_ret
  exact ⟨rfl, HO2.out, HP2.out, w1, HG1.out, HG2.out⟩
end Go.Proofs.YthbjcipdneminaaGreatDoor
