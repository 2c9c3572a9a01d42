/-
  JF: The model of chapter 5: l1Has, l1Put, l5Degree, DegreeOf, l5Parts, PartsOf.
  JG: The model of chapter 5: l5Degree, DegreeOf, l5Parts, PartsOf.
  JH: The model of chapter 5: l1Sum over pieces, l5Block, LetterFor.
  JI: The model of chapter 5: slices of letters, GoodLetters.
  JK: The model of chapter 5: PeelOff.
  JL: The model of chapter 5: PeelOff, walked.
  JN: The model of chapter 5: l5Rows, l5Solve.
  JO: The model of chapter 5: AddUp, EnoughOf.
-/
import Derived.Test.YtgakklanboabjaaMF
import Derived.Test.YtgakklanboabjaaU3
import Derived.Deep.LoopGhost
import Derived.Test.YtgakklanboabjaaU4

/- JF -/
namespace Go.Proofs.Ytgakklanboabjaa
open Go.RowKit

theorem jAlloc1f (w : World) : Below w.heap.size w (w.alloc (.cells #[] 3)) := (Below.refl _ w).alloc (Nat.le_refl _) _
theorem has_zI (L : List Nat) (k : Nat) : decide ((k : Int) ∈ zI L) = decide (k ∈ L) := by
  congr 1
  simp only [zI, List.mem_map, eq_iff_iff]
  constructor
  · rintro ⟨a, ha, e⟩
    obtain rfl : a = k := by omega
    exact ha
  · intro h; exact ⟨k, h, rfl⟩
theorem has_take {zs : List Int} {n : Int} {k : Nat} (hk : k < zs.length) (h : n ∉ zs.take k) (h2 : (zs[k] == n) = false) : n ∉ zs.take (k + 1) := by
  rw [List.take_succ_eq_append_getElem hk, List.mem_append, not_or]
  refine ⟨h, fun hm => ?_⟩
  rw [List.mem_singleton] at hm
  subst hm
  simp at h2

/-- As app_many, the number of elements under a name of its own. -/
theorem app_cnt {ops : Array Oper} {rest : List Oper} {o : Oper} {a : Act} {Q : Exit → Act → World → Prop} (W : World) (base : Nat) (v : Value) (l : List Nat) (N : List Nat) (m : Nat) (hm : N.length = m) (b off c : Nat) (hgd : o.guard = none) (s x : Operand)
    (ho : o.op = .call { callee := .builtin .append, args := #[s, x], argTypes := #[81, 81] }) (hs : a.eval s = v) (hx : a.eval x = .slice (some ⟨b, off, none⟩) m c)
    (hc : ∀ j, j < N.length → W.cell? ⟨b, off + j, none⟩ = some (.int .i64 ((N.getD j 0 : Nat) : Int)))
    (hown : Own W base v (zI l)) (hbase : base ≤ W.heap.size) (hlen : l.length ≤ 1000000) (hlen2 : N.length ≤ 1000000) (w0 : World) (hb : Below base w0 W)
    (h : ∀ v' w', Hid (Own w' base v' (zI (l ++ N)) ∧ Below base w0 w' ∧ W.grownBy w' v.ownBlock) → wpList Try.prog ops Q rest (a.put o.dst v') w') :
    wpList Try.prog ops Q (o :: rest) a W := by
  subst hm
  exact app_many W base v l N b off c hgd s x ho hs hx hc hown hbase hlen hlen2 w0 hb h

end Go.Proofs.Ytgakklanboabjaa

/- JG -/
namespace Go.Proofs.Ytgakklanboabjaa
open Go.RowKit

def noOkB (no : Int) : Bool := inB no 0 999
def pcOkB (n : Int) : Bool := inB n 1 8
def symOkB (no n : Int) : Bool := noOkB no && pcOkB n
def degI (no n : Int) : Int := if symOkB no n = true then (degN no.toNat n.toNat : Nat) else 0
def partsI (no n : Int) : List Int := if symOkB no n = true then zI (partsL no.toNat n.toNat) else []
theorem sym_nat {no n : Int} (h : symOkB no n = true) : ∃ a b : Nat, no = a ∧ n = b ∧ a ≤ 999 ∧ 1 ≤ b ∧ b ≤ 8 := by
  simp [symOkB, noOkB, pcOkB, inB] at h
  exact ⟨no.toNat, n.toNat, by omega, by omega, by omega, by omega, by omega⟩
theorem partsI_len (no n : Int) : (partsI no n).length ≤ 4 := by
  unfold partsI; split
  · rename_i h
    obtain ⟨a, b, rfl, rfl, _, hb, _⟩ := sym_nat h
    rw [zI_length, Int.toNat_natCast, Int.toNat_natCast, (parts_ok a hb).2]
    exact (degN_bd a hb).2.1
  · simp

set_option maxRecDepth 100000 in
set_option maxHeartbeats 400000 in
theorem gLeast (a b : Int) (w : World) : Calls Try.prog 62 #[.int .i64 a, .int .i64 b] w fun e w' => e = .returned (.int .i64 (min a b)) ∧ w = w' := by
  by_cases h : a < b
  · go_enter Try.func62, Try.ntmps62
    go_wp2_with fail
    go_ret
    exact ⟨ret_int (by omega), rfl⟩
  · go_enter Try.func62, Try.ntmps62
    go_wp2_with fail
    go_ret
    exact ⟨ret_int (by omega), rfl⟩
theorem degT_at {r : Nat} : (r < 4 → degT r = 1) ∧ (¬ r < 4 → r < 12 → degT r = 2) ∧ (¬ r < 4 → ¬ r < 12 → r < 16 → degT r = 3) ∧ (¬ r < 4 → ¬ r < 12 → ¬ r < 16 → degT r = 4) := by
  unfold degT
  refine ⟨fun h => by simp [h], fun h h2 => by simp [h, h2], fun h h2 h3 => by simp [h, h2, h3], fun h h2 h3 => by simp [h, h2, h3]⟩
theorem freeK_hit {L : List Nat} {n f k : Nat} (h : k ∉ L) : freeK L n f k = k := by
  cases f with
  | zero => rfl
  | succ f => rw [freeK, if_neg h]

end Go.Proofs.Ytgakklanboabjaa

/- JH -/
namespace Go.Proofs.Ytgakklanboabjaa
open Go.RowKit

theorem xorL_snoc (f : Nat → Nat) (P : List Nat) (p : Nat) : xorL f (P ++ [p]) = xorL f P ^^^ f p := by rw [xorL, List.foldl_append]; rfl
theorem sumN_lt {R K : List Nat} {b : Nat} (h : ∀ r ∈ R, r < 2 ^ b) : sumN R K < 2 ^ b := xorL_lt fun k _ => by
  rcases Nat.lt_or_ge k R.length with hk | hk
  · rw [show R.getD k 0 = R[k] by simp [List.getD, hk]]; exact h _ (List.getElem_mem hk)
  · rw [show R.getD k 0 = 0 by simp [List.getD, hk]]; exact Nat.two_pow_pos b
theorem sumN_snoc {R K : List Nat} {j : Nat} (hj : j < K.length) : sumN R (K.take (j + 1)) = sumN R (K.take j) ^^^ R.getD K[j] 0 := by
  rw [List.take_succ_eq_append_getElem hj, sumN, xorL_snoc]; rfl

def blkOkB (zs : List Int) : Bool := pcOkB zs.length && allIn zs 4294967295
def letOkB (zs : List Int) (no : Int) : Bool := blkOkB zs && noOkB no
def letNoI (zs : List Int) (no : Int) : Int := if letOkB zs no = true then no else 0
def letSumI (zs : List Int) (no : Int) : Int := if letOkB zs no = true then (sumN (zs.map Int.toNat) (partsL no.toNat zs.length) : Nat) else 0
theorem blk_nat {zs : List Int} (h : blkOkB zs = true) : ∃ B : List Nat, zs = zI B ∧ 1 ≤ B.length ∧ B.length ≤ 8 ∧ ∀ b ∈ B, b < 2 ^ 32 := by
  simp only [blkOkB, pcOkB, allIn, inB, Bool.and_eq_true, List.all_eq_true, decide_eq_true_eq] at h
  obtain ⟨⟨h1, h2⟩, h3⟩ := h
  have h6 : zI (zs.map Int.toNat) = zs := by
    unfold zI
    rw [List.map_map]
    conv => rhs; rw [← List.map_id zs]
    refine List.map_congr_left fun z hz => ?_
    have := h3 z hz
    simp; omega
  refine ⟨zs.map Int.toNat, h6.symm, by rw [List.length_map]; omega, by rw [List.length_map]; omega, fun b hb => ?_⟩
  obtain ⟨z, hz, rfl⟩ := List.mem_map.1 hb
  have := h3 z hz
  omega
theorem zI_toNat (P : List Nat) : (zI P).map Int.toNat = P := by
  unfold zI
  rw [List.map_map]
  conv => rhs; rw [← List.map_id P]
  exact List.map_congr_left fun z _ => by simp

/-- A letter as a value. -/
abbrev letV (x y : Int) : Value := .agg #[.int .i64 x, .int .i64 y]
theorem tupL {a b a' b' : Int} {c d : Bool} (h1 : a = a') (h2 : b = b') (k : c = d) : Ending.returned (.tuple #[letV a b, .bool c]) = .returned (.tuple #[letV a' b', .bool d]) := by rw [h1, h2, k]
theorem gAlloc (w : World) (o : Obj) : Below w.heap.size w (w.alloc o) := (Below.refl _ w).alloc (Nat.le_refl _) _

end Go.Proofs.Ytgakklanboabjaa

/- JI -/
namespace Go.Proofs.Ytgakklanboabjaa
open Go.RowKit

/-- A slice of letters reads as ls. -/
def Lets (w : World) (A : Option Addr) (ls : List (Int × Int)) : Prop := ls ≠ [] → ∃ b o, A = some ⟨b, o, none⟩ ∧ ∀ j (h : j < ls.length), w.cell? ⟨b, o + j * 2, none⟩ = some (.int .i64 ls[j].1) ∧ w.cell? ⟨b, o + j * 2 + 1, none⟩ = some (.int .i64 ls[j].2)
theorem Lets.below {w w' : World} {A : Option Addr} {ls : List (Int × Int)} (h : Lets w A ls) (hb : Below w.heap.size w w') : Lets w' A ls := fun hne => by
  obtain ⟨b, o, e, hc⟩ := h hne
  refine ⟨b, o, e, fun j hj => ?_⟩
  obtain ⟨h1, h2⟩ := hc j hj
  exact ⟨(hb.cell (World.block_lt_of_cell? _ _ h1)).trans h1, (hb.cell (World.block_lt_of_cell? _ _ h2)).trans h2⟩
def pieceB5 (z : Int) : Bool := inB z 0 4294967295
def letB (x : Int × Int) : Bool := noOkB x.1 && pieceB5 x.2
/-- None of the letters has this number. -/
def newB (ls : List (Int × Int)) (n : Int) : Bool := ls.all fun y => !(y.1 == n)
def okTo (ls : List (Int × Int)) : Nat → Bool
  | 0 => true
  | k + 1 => okTo ls k && (letB (ls.getD k (0, 0)) && newB (ls.take k) (ls.getD k (0, 0)).1)
def goodLB (n : Int) (ls : List (Int × Int)) : Bool := okTo ls ls.length && (pcOkB n && decide (ls.length ≤ 40))
theorem okTo_no {ls : List (Int × Int)} {k : Nat} (h : okTo ls k = false) : ∀ {m : Nat}, k ≤ m → okTo ls m = false
  | 0, hm => by obtain rfl : k = 0 := by omega
                exact h
  | m + 1, hm => by
    by_cases e : k = m + 1
    · subst e; exact h
    · rw [okTo, okTo_no h (show k ≤ m by omega)]; rfl
theorem good_no {n : Int} {ls : List (Int × Int)} {k : Nat} (hk : k ≤ ls.length) (h : okTo ls k = false) : goodLB n ls = false := by rw [goodLB, okTo_no h hk]; rfl
theorem newB_no {ls : List (Int × Int)} {n : Int} {i k : Nat} (hk : k < ls.length) (hi : i < k) (h : (ls[i].1 == n) = true) : newB (ls.take k) n = false := by
  rw [newB, List.all_eq_false]
  refine ⟨ls[i], ?_, by simp [h]⟩
  have hl : i < (ls.take k).length := by rw [List.length_take]; omega
  have := List.getElem_mem hl
  rwa [List.getElem_take] at this
theorem newB_step {ls : List (Int × Int)} {n : Int} {i : Nat} (hi : i < ls.length) (h : newB (ls.take i) n = true) (h2 : (ls[i].1 == n) = false) : newB (ls.take (i + 1)) n = true := by
  rw [newB, List.take_succ_eq_append_getElem hi, List.all_append, ← newB, h]
  simp [h2]

end Go.Proofs.Ytgakklanboabjaa

/- JK -/
namespace Go.Proofs.Ytgakklanboabjaa
open Go.RowKit

theorem boolInfo : (Try.prog.info? 4).map (fun i => (i.zero, i.size, i.bytes)) = some (some (.bool false), 1, 1) := by kernel_rfl
/-- What is known, as it lies in memory: a row of numbers and a row of truth values. -/
def PS (w : World) (base a b n : Nat) (S : Know) : Prop :=
  w.ownsRow base 3 1 (.slice (some ⟨a, 0, none⟩) n n) n (S.map fun s => Value.int .i64 ((s.getD 0 : Nat) : Int)) ∧ w.ownsRow base 4 1 (.slice (some ⟨b, 0, none⟩) n n) n (S.map fun s => Value.bool s.isSome) ∧ S.length = n
theorem gBelowN {w w' : World} (hb : Below w.heap.size w w') : w.grownBy w' none := ⟨hb.os, hb.tape, hb.output, hb.size, fun k hk _ => hb.block k hk⟩
theorem gNone (o : Option Nat) : o = none ∨ o ≠ none := by cases o <;> simp
theorem PS.below {w w' : World} {base a b n : Nat} {S : Know} (h : PS w base a b n S) (hb : Below w.heap.size w w') : PS w' base a b n S :=
  ⟨World.ownsRow.kept h.1 (gBelowN hb) (gNone _), World.ownsRow.kept h.2.1 (gBelowN hb) (gNone _), h.2.2⟩
theorem rowHeap {w : World} {base size g n cap : Nat} {e : TypeId} {xs : List Value} (h : w.ownsRow base e size (.slice (some ⟨g, 0, none⟩) n cap) n xs) : ∃ cur, w.heap[g]? = some (.cells cur e (0, 0)) ∧ base ≤ g := by
  rcases h.2 with ⟨e0, _⟩ | ⟨g', cap', cur, e0, hb, hg, _⟩
  · cases e0
  · injection e0 with e1
    injection e1 with e1
    injection e1 with e1
    subst e1
    exact ⟨cur, hg, hb⟩
theorem PS.ne {w : World} {base a b n : Nat} {S : Know} (h : PS w base a b n S) : a ≠ b := by
  obtain ⟨c1, h1, _⟩ := rowHeap h.1
  obtain ⟨c2, h2, _⟩ := rowHeap h.2.1
  rintro rfl
  rw [h1] at h2
  simp at h2
theorem PS.cells {w : World} {base a b n : Nat} {S : Know} (h : PS w base a b n S) {k : Nat} (hk : k < n) : w.cell? ⟨a, k, none⟩ = some (.int .i64 ((knV S k : Nat) : Int)) ∧ w.cell? ⟨b, k, none⟩ = some (.bool (S.getD k none).isSome) := by
  have hl : k < S.length := by rw [h.2.2]; exact hk
  refine ⟨?_, ?_⟩
  · rw [h.1.cellAt k (by omega)]; simp [knV, List.getD, hl]
  · rw [h.2.1.cellAt k (by omega)]; simp [List.getD, hl]
theorem PS.frozen {w : World} {base a b n : Nat} {S : Know} (h : PS w base a b n S) (k : Nat) : w.frozen? ⟨a, k, none⟩ = false ∧ w.frozen? ⟨b, k, none⟩ = false := by
  obtain ⟨c1, h1, _⟩ := rowHeap h.1
  obtain ⟨c2, h2, _⟩ := rowHeap h.2.1
  exact ⟨frozen_of_row w _ k _ _ h1, frozen_of_row w _ k _ _ h2⟩
theorem gSet (w : World) (a : Addr) (u : Value) : w.grownBy (w.setCell a u) (some a.block) :=
  ⟨rfl, rfl, rfl, by simp, fun k _ hk => heap_setCell_other w a k u (fun e => hk (by rw [e]))⟩
theorem PS.put {w w0 : World} {base a b n u B : Nat} {S : Know} (h : PS w base a b n S) (v : Nat) (hB : B ≤ base) (hb : Below B w0 w) :
    PS ((w.setCell ⟨a, u, none⟩ (.int .i64 v)).setCell ⟨b, u, none⟩ (.bool true)) base a b n (S.set u (some v)) ∧ Below B w0 ((w.setCell ⟨a, u, none⟩ (.int .i64 v)).setCell ⟨b, u, none⟩ (.bool true)) := by
  obtain ⟨_, _, h1⟩ := rowHeap h.1
  obtain ⟨_, _, h2⟩ := rowHeap h.2.1
  have hne := h.ne
  have s1 := (h.1.stored u (.int .i64 v)).1
  have k2 := World.ownsRow.kept h.2.1 (gSet w ⟨a, u, none⟩ (.int .i64 v)) (Or.inr (by intro e; injection e with e; exact hne e.symm))
  have s2 := (World.ownsRow.stored k2 u (.bool true)).1
  have k1 := World.ownsRow.kept s1 (gSet (w.setCell ⟨a, u, none⟩ (.int .i64 v)) ⟨b, u, none⟩ (.bool true)) (Or.inr (by intro e; injection e with e; exact hne e))
  refine ⟨⟨?_, ?_, by rw [List.length_set]; exact h.2.2⟩, (hb.setCell (Nat.le_trans hB h1) _).setCell (Nat.le_trans hB h2) _⟩
  · rw [List.map_set]; exact k1
  · rw [List.map_set]; exact s2
theorem row_lower {w : World} {base base' size n : Nat} {e : TypeId} {v : Value} {xs : List Value} (h : w.ownsRow base e size v n xs) (hb : base' ≤ base) : w.ownsRow base' e size v n xs :=
  ⟨h.1, by
    rcases h.2 with hn | ⟨g, cap, cur, e, hg, r⟩
    · exact Or.inl hn
    · exact Or.inr ⟨g, cap, cur, e, Nat.le_trans hb hg, r⟩⟩
theorem PS.lower {w : World} {base base' a b n : Nat} {S : Know} (h : PS w base a b n S) (hb : base' ≤ base) : PS w base' a b n S := ⟨row_lower h.1 hb, row_lower h.2.1 hb, h.2.2⟩
theorem made_row (x : Value) (n : Nat) (h : x.cells = #[x]) : (madeCells x.cells (n * 1)).toList = List.replicate n x := by rw [h, Nat.mul_one, toList_madeCells_one]

def natL (ls : List (Int × Int)) : List (Nat × Nat) := ls.map fun p => (p.1.toNat, p.2.toNat)
def intL (L : List (Nat × Nat)) : List (Int × Int) := L.map fun p => ((p.1 : Int), (p.2 : Int))
theorem natL_intL (L : List (Nat × Nat)) : natL (intL L) = L := by
  unfold natL intL
  rw [List.map_map]
  conv => rhs; rw [← List.map_id L]
  exact List.map_congr_left fun p _ => by simp
theorem intL_length (L : List (Nat × Nat)) : (intL L).length = L.length := by simp [intL]
theorem okTo_at {ls : List (Int × Int)} : ∀ {m : Nat}, okTo ls m = true → ∀ k, k < m → letB (ls.getD k (0, 0)) = true ∧ newB (ls.take k) (ls.getD k (0, 0)).1 = true
  | m + 1, h, k, hk => by
    simp only [okTo, Bool.and_eq_true] at h
    by_cases e : k = m
    · subst e; exact h.2
    · exact okTo_at h.1 k (by omega)
theorem goodL_nat {n : Int} {ls : List (Int × Int)} (h : goodLB n ls = true) : ∃ (m : Nat) (L : List (Nat × Nat)), n = m ∧ ls = intL L ∧ 1 ≤ m ∧ m ≤ 8 ∧ L.length ≤ 40 ∧ ∀ x ∈ L, x.1 ≤ 999 ∧ x.2 < 2 ^ 32 := by
  simp only [goodLB, Bool.and_eq_true, decide_eq_true_eq] at h
  obtain ⟨h1, h2, h3⟩ := h
  have hp : 1 ≤ n ∧ n ≤ 8 := by simpa [pcOkB, inB] using h2
  have hb : ∀ p ∈ ls, (0 ≤ p.1 ∧ p.1 ≤ 999) ∧ (0 ≤ p.2 ∧ p.2 ≤ 4294967295) := fun p hp => by
    obtain ⟨k, hk, rfl⟩ := List.mem_iff_getElem.1 hp
    have := (okTo_at h1 k hk).1
    rw [show ls.getD k (0, 0) = ls[k] by simp [List.getD, hk]] at this
    simpa [letB, noOkB, pieceB5, inB] using this
  have e : intL (natL ls) = ls := by
    unfold natL intL
    rw [List.map_map]
    conv => rhs; rw [← List.map_id ls]
    refine List.map_congr_left fun p hp => ?_
    have := hb p hp
    refine Prod.ext ?_ ?_ <;> simp <;> omega
  refine ⟨n.toNat, natL ls, by omega, e.symm, by omega, by omega, by simpa [natL] using h3, fun x hx => ?_⟩
  obtain ⟨p, hp, rfl⟩ := List.mem_map.1 hx
  have := hb p hp
  exact ⟨by omega, by omega⟩
def peelOI (n : Int) (ls : List (Int × Int)) : List Int := if goodLB n ls = true then zI ((peelL n.toNat (natL ls)).map fun s => s.getD 0) else []
def peelBI (n : Int) (ls : List (Int × Int)) : List Bool := if goodLB n ls = true then (peelL n.toNat (natL ls)).map Option.isSome else []

/-- A slice of truth values of the call's own. -/
def OwnT (w : World) (base : Nat) (v : Value) (bs : List Bool) : Prop := w.ownsRow base 4 1 v bs.length (bs.map Value.bool)
theorem OwnT.nil (w : World) (base : Nat) : OwnT w base (.slice none 0 0) [] := World.ownsRow_nil w base _ _
theorem OwnT.below {w w' : World} {base : Nat} {v : Value} {bs : List Bool} (h : OwnT w base v bs) (hb : Below w.heap.size w w') : OwnT w' base v bs := World.ownsRow.kept h (gBelowN hb) (gNone _)
theorem PS.outs {w : World} {base a b n : Nat} {S : Know} (h : PS w base a b n S) : Own w base (.slice (some ⟨a, 0, none⟩) n n) (zI (S.map fun s => s.getD 0)) ∧ OwnT w base (.slice (some ⟨b, 0, none⟩) n n) (S.map Option.isSome) := by
  refine ⟨?_, ?_⟩
  · unfold Own
    have hl : (zI (S.map fun s => s.getD 0)).length = n := by rw [zI_length, List.length_map]; exact h.2.2
    rw [hl]
    have e : (zI (S.map fun s => s.getD 0)).map (Value.int .i64) = S.map fun s => Value.int .i64 ((s.getD 0 : Nat) : Int) := by simp [zI, List.map_map]
    rw [e]
    exact h.1
  · unfold OwnT
    have hl : (S.map Option.isSome).length = n := by rw [List.length_map]; exact h.2.2
    rw [hl]
    have e : (S.map Option.isSome).map Value.bool = S.map fun s => Value.bool s.isSome := by simp [List.map_map]
    rw [e]
    exact h.2.1

theorem unk_snoc {S : Know} {P : List Nat} {i : Nat} (hi : i < P.length) : unkL S (P.take (i + 1)) = if (S.getD P[i] none).isSome = true then unkL S (P.take i) else unkL S (P.take i) ++ [P[i]] := by
  rw [unkL, List.take_succ_eq_append_getElem hi, List.filter_append, ← unkL]
  have hf : ∀ b : Bool, (S.getD P[i] none).isNone = b → [P[i]].filter (fun k => (S.getD k none).isNone) = if b = true then [P[i]] else [] := fun b hb => by
    rw [List.filter_cons, hb, List.filter_nil]
  cases h : (S.getD P[i] none).isSome
  · rw [hf true (by rw [← Option.not_isSome, h]; rfl)]; rfl
  · rw [hf false (by rw [← Option.not_isSome, h]; rfl)]; simp
theorem kn_snoc {S : Know} {P : List Nat} {i : Nat} (hi : i < P.length) : xorL (knV S) (P.take (i + 1)) = xorL (knV S) (P.take i) ^^^ knV S P[i] := by
  rw [List.take_succ_eq_append_getElem hi, xorL_snoc]
theorem kn_none {S : Know} {k : Nat} (h : (S.getD k none).isSome = false) : knV S k = 0 := by
  cases hg : S.getD k none with
  | none => rw [knV, hg]; rfl
  | some v => rw [hg] at h; cases h
end Go.Proofs.Ytgakklanboabjaa

/- JL -/
namespace Go.Proofs.Ytgakklanboabjaa
open Go.RowKit

theorem results_tmp3 {fn : Func} {a b c : Tmp} (h : fn.results = #[.tmp a, .tmp b, .tmp c]) (tmps : Array Value) (P : Program) (w : World) :
    (results fn tmps).run P w = .ok (.tuple #[tmps.getD a undef, tmps.getD b undef, tmps.getD c undef]) w := by
  simp [results, h]
theorem cell_set_other (w : World) (a b : Addr) (v : Value) (h : b.block ≠ a.block) : (w.setCell a v).cell? b = w.cell? b := by
  have := heap_setCell_other w a b.block v h
  simp [World.cell?, this]
theorem frozen_set_other (w : World) (a b : Addr) (v : Value) (h : b.block ≠ a.block) : (w.setCell a v).frozen? b = w.frozen? b := by
  have := heap_setCell_other w a b.block v h
  simp [World.frozen?, this]
theorem peel1_none {n : Nat} {L : List (Nat × Nat)} {S : Know} (h : ∀ x ∈ L, stepS n S x = none) : peel1 n L S = none := by
  unfold peel1
  rw [List.findSome?_eq_none_iff]
  exact h
theorem peel1_some {n : Nat} {L : List (Nat × Nat)} {S S' : Know} {k : Nat} (hk : k < L.length) (h : ∀ x ∈ L.take k, stepS n S x = none) (h2 : stepS n S L[k] = some S') : peel1 n L S = some S' := by
  unfold peel1
  have e : L = L.take k ++ L[k] :: L.drop (k + 1) := by rw [List.getElem_cons_drop, List.take_append_drop]
  rw [e, List.findSome?_append, List.findSome?_eq_none_iff.2 h, Option.none_or, List.findSome?_cons]
  rw [h2]
theorem steps_more {n : Nat} {L : List (Nat × Nat)} {S : Know} {k : Nat} (hk : k < L.length) (h : ∀ x ∈ L.take k, stepS n S x = none) (h2 : stepS n S L[k] = none) : ∀ x ∈ L.take (k + 1), stepS n S x = none := fun x hx => by
  rw [List.take_succ_eq_append_getElem hk, List.mem_append, List.mem_singleton] at hx
  rcases hx with hx | rfl
  · exact h x hx
  · exact h2
theorem intL_at {L : List (Nat × Nat)} {k : Nat} (h : k < (intL L).length) : (intL L)[k] = (((L[k]'(by rw [intL_length] at h; exact h)).1 : Int), ((L[k]'(by rw [intL_length] at h; exact h)).2 : Int)) := by simp [intL]

theorem tupP {v u v' u' : Value} {c d : Bool} (h1 : v = v') (h2 : u = u') (k : c = d) : Ending.returned (.tuple #[v, u, .bool c]) = .returned (.tuple #[v', u', .bool d]) := by rw [h1, h2, k]
end Go.Proofs.Ytgakklanboabjaa

/- JN -/
namespace Go.Proofs.Ytgakklanboabjaa
open Go.RowKit

theorem rowN_snoc {P : List Nat} {t : Nat} (h : t < P.length) : rowN (P.take (t + 1)) = rowN (P.take t) ||| 2 ^ P[t] := by
  rw [List.take_succ_eq_append_getElem h, rowN, List.foldl_append]; rfl
theorem rowN_16 {n : Nat} {P : List Nat} (hn : n ≤ 8) (h : ∀ k ∈ P, k < n) (t : Nat) : rowN (P.take t) < 65536 :=
  Nat.lt_of_lt_of_le (rowN_lt (n := n) fun k hk => h k (List.mem_of_mem_take hk)) (Nat.le_trans (Nat.pow_le_pow_right (by decide) (show n ≤ 16 by omega)) (by decide))
theorem rows_snoc {n : Nat} {nos : List Nat} {k : Nat} (h : k < nos.length) : (nos.take (k + 1)).map (rowOfN n) = (nos.take k).map (rowOfN n) ++ [rowN (partsL nos[k] n)] := by
  rw [List.take_succ_eq_append_getElem h, List.map_append]; rfl

/-- The pieces that rows and sums give. -/
def solveL (n : Nat) (R Sm : List Nat) : List Nat := (List.range n).map fun k => sumN Sm (idxL (mkM R R.length (2 ^ k)) R.length)
theorem solve_snoc (R Sm : List Nat) (k : Nat) : solveL (k + 1) R Sm = solveL k R Sm ++ [sumN Sm (idxL (mkM R R.length (2 ^ k)) R.length)] := by simp [solveL, List.range_succ]
theorem solve_length (n : Nat) (R Sm : List Nat) : (solveL n R Sm).length = n := by simp [solveL]
theorem idxL_lt {m k : Nat} : ∀ x ∈ idxL m k, x < k := fun _ hx => List.mem_range.1 (List.mem_filter.1 hx).1
theorem idxL_len (m k : Nat) : (idxL m k).length ≤ k := Nat.le_trans (List.length_filter_le _ _) (by rw [List.length_range]; exact Nat.le_refl _)
theorem good5 {m n : Nat} (h1 : 1 ≤ m) (h2 : m ≤ 16) (hn : n < 2 ^ m) : goodB (m : Int) (n : Int) = true := by
  have hw : wideB (m : Int) = true := by simp [wideB]; omega
  have h3 : (n : Int) < ((2 ^ m : Nat) : Int) := by omega
  rw [goodB, hw, Int.toNat_natCast, show ((2 : Int) ^ m) = ((2 ^ m : Nat) : Int) by simp]
  simp only [Bool.true_and, Bool.and_eq_true, decide_eq_true_eq]
  omega
theorem rows_twoOk {n k : Nat} {R : List Nat} (hn1 : 1 ≤ n) (hn8 : n ≤ 8) (hk : k < n) (hl : R.length ≤ 20) (hR : ∀ r ∈ R, r < 2 ^ n) (hs : Sp R (2 ^ k)) : canI (n : Int) (zI R) ((2 ^ k : Nat) : Int) = true := by
  have hw : wideB (n : Int) = true := by simp [wideB]; omega
  have hg : goodB (n : Int) ((2 ^ k : Nat) : Int) = true := good5 hn1 (by omega) (Nat.pow_lt_pow_right (by omega) hk)
  have hr : rowsB (n : Int) (zI R) = true := by
    have hall : allG (n : Int) (zI R) = true := by
      rw [allG, List.all_eq_true]
      intro z hz
      obtain ⟨r, hr, rfl⟩ := List.mem_map.1 hz
      exact good5 hn1 (by omega) (hR r hr)
    rw [rowsB, hw, zI_length, hall]
    simp [hl]
  rw [canI, twoOkB, hr, hg, nL_zI, Int.toNat_natCast, (canB_iff R _).2 hs]; rfl

end Go.Proofs.Ytgakklanboabjaa

/- JO -/
namespace Go.Proofs.Ytgakklanboabjaa
open Go.RowKit

theorem gApart {a b : Option Nat} (h : a = none ∨ a ≠ b) : b = none ∨ b ≠ a := by
  rcases h with h | h
  · cases b with
    | none => exact Or.inl rfl
    | some k => exact Or.inr (by rw [h]; simp)
  · exact Or.inr h.symm
/-- One number appended to a slice of the call's own, another one lying by. -/
theorem app_two {ops : Array Oper} {rest : List Oper} {o : Oper} {a : Act} {Q : Exit → Act → World → Prop} (W : World) (base : Nat) (v u : Value) (l l2 : List Nat) (z Bn : Nat) (hBn : Bn = W.heap.size) (hgd : o.guard = none) (s x : Operand)
    (ho : o.op = .call { callee := .builtin .append, args := #[s, x], argTypes := #[81, 81] }) (hs : a.eval s = v) (hx : a.eval x = .slice (some ⟨Bn, 0, none⟩) 1 1)
    (hown : Own W base v (zI l)) (hu : Own W base u (zI l2)) (hap : v.ownBlock = none ∨ v.ownBlock ≠ u.ownBlock) (hbase : base ≤ W.heap.size) (hlen : l.length ≤ 1000000) (w0 : World) (hb : Below base w0 W)
    (h : ∀ v' w', Hid (Own w' base v' (zI (l ++ [z])) ∧ Own w' base u (zI l2) ∧ (v'.ownBlock = none ∨ v'.ownBlock ≠ u.ownBlock) ∧ Below base w0 w' ∧ (W.alloc (.cells #[.int .i64 z] 3)).grownBy w' v.ownBlock) → wpList Try.prog ops Q rest (a.put o.dst v') w') :
    wpList Try.prog ops Q (o :: rest) a (W.alloc (.cells #[.int .i64 z] 3)) := by
  subst hBn
  obtain ⟨i0, hi, hz0, hz1, hz2⟩ := info_parts intInfo
  refine wpList_append_own_at _ hgd s x 81 ho base 3 i0 (.int .i64 0) 1 8 Try.underlying81 hi hz0 hz1 hz2 rfl (by decide) v l.length _ hs ((ownRow hown).alloc _) ⟨W.heap.size, 0, none⟩ 1 1 [.int .i64 z] hx rfl (cell_one_new _ _ _) ?_ ?_ ?_ ?_ ?_
  · intro y hy; simp at hy; subst hy; rfl
  · unfold maxLen; omega
  · omega
  · simp; omega
  · intro v' w' h1 h2 _ hat
    have hu2 : Own (W.alloc (.cells #[.int .i64 z] 3)) base u (zI l2) := hu.below (gAlloc _ _)
    refine h v' w' ⟨ownApp h1, hu2.kept h2 (gApart hap), ?_, app_below hb hbase hown h2, h2⟩
    rcases hat with hat | hat
    · rw [hat]; exact hap
    · refine Or.inr fun e => ?_
      rw [hat] at e
      have := (hu.lt _ e.symm).2
      simp at this
      omega
theorem gFormC {w : World} {base : Nat} {v : Value} {zs : List Int} (h : Own w base v zs) : ∃ A c, v = .slice A zs.length c ∧ zs.length ≤ c ∧ Ints w A zs := by
  obtain ⟨A', c', e', hI'⟩ := h.form
  refine ⟨A', c', e', ?_, hI'⟩
  rcases h.2 with ⟨_, hn⟩ | ⟨g, cap, cur, e, _, _, hle, _⟩
  · rw [hn]; exact Nat.zero_le _
  · rw [e'] at e; injection e with _ _ e3; rw [e3]; exact hle
theorem map_snoc {α β : Type} (f : α → β) {L : List α} {k : Nat} (h : k < L.length) : (L.take (k + 1)).map f = (L.take k).map f ++ [f L[k]] := by
  rw [List.take_succ_eq_append_getElem h, List.map_append]; rfl

def rowsOfL (n : Nat) (L : List (Nat × Nat)) : List Nat := (L.map Prod.fst).map (rowOfN n)
def addOkB (n : Int) (ls : List (Int × Int)) : Bool := goodLB n ls && (decide (ls.length ≤ 20) && decide (rank (rowsOfL n.toNat (natL ls)) = n.toNat))
def addI (n : Int) (ls : List (Int × Int)) : List Int := if addOkB n ls = true then zI (solveL n.toNat (rowsOfL n.toNat (natL ls)) ((natL ls).map Prod.snd)) else []

/-- The first k numbers are different. -/
def disTo (zs : List Int) : Nat → Bool
  | 0 => true
  | k + 1 => disTo zs k && !decide (zs.getD k 0 ∈ zs.take k)
theorem disTo_no {zs : List Int} {k : Nat} (h : disTo zs k = false) : ∀ {m : Nat}, k ≤ m → disTo zs m = false
  | 0, hm => by obtain rfl : k = 0 := by omega
                exact h
  | m + 1, hm => by
    by_cases e : k = m + 1
    · subst e; exact h
    · rw [disTo, disTo_no h (show k ≤ m by omega)]; rfl
def enOkB (n : Int) (zs : List Int) : Bool := pcOkB n && (decide (zs.length ≤ 20) && (allIn zs 999 && disTo zs zs.length))
def enI (n : Int) (zs : List Int) : Bool := enOkB n zs && decide (rank ((zs.map Int.toNat).map (rowOfN n.toNat)) = n.toNat)
theorem tupBB {a b c d : Bool} (h : a = b) (k : c = d) : Ending.returned (.tuple #[.bool a, .bool c]) = .returned (.tuple #[.bool b, .bool d]) := by rw [h, k]
theorem en_no {n : Int} {zs : List Int} (h : enOkB n zs = false) : enI n zs = false := by rw [enI, h]; rfl

end Go.Proofs.Ytgakklanboabjaa
