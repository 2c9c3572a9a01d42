/-
  E1: The program's chapter 5: goodNo, goodCount, goodPiece, goodPieces, DegreeOf.
  E2: The program's chapter 5: nextFree, PartsOf.
  E3: The program's chapter 5: LetterFor.
  E4: The program's chapter 5: nosIn, differentNos, GoodLetters.
  E5: The program's chapter 5: GoodLetters, partRows.
-/
import Derived.Test.YtddimdfkapbflaaJI
import Derived.Test.YtddimdfkapbflaaJN
import Derived.Maps.OwnSet
import Derived.Maps.AppendAt
import Derived.Test.YtddimdfkapbflaaJO

/- E1 -/
namespace Go.Proofs.Ytddimdfkapbflaa
open Go.RowKit

set_option maxRecDepth 100000 in
set_option maxHeartbeats 400000 in
theorem iPiece5 (n : Int) (w : World) : Calls Try.prog 28 #[.int .i64 n] w fun e w' => e = .returned (.bool (pieceB5 n)) ∧ w = w' := by
  by_cases h1 : 0 ≤ n
  · by_cases h2 : n ≤ 4294967295
    · have HE : Hid (pieceB5 n = true) := inB_true h1 h2
      go_enter Try.func28, Try.ntmps28
      go_wp2_with fail
      go_ret
      exact ⟨ret_bool' HE.out.symm, rfl⟩
    · have HE : Hid (pieceB5 n = false) := inB_false (by omega)
      go_enter Try.func28, Try.ntmps28
      go_wp2_with fail
      go_ret
      exact ⟨ret_bool' HE.out.symm, rfl⟩
  · have HE : Hid (pieceB5 n = false) := inB_false (by omega)
    go_enter Try.func28, Try.ntmps28
    go_wp2_with fail
    go_ret
    exact ⟨ret_bool' HE.out.symm, rfl⟩

set_option maxRecDepth 100000 in
set_option maxHeartbeats 1000000 in
theorem iPieces5 (A : Option Addr) (zs : List Int) (ca : Nat) (w : World) (ha : Ints w A zs) (hl : zs.length ≤ 1048576) :
    Calls Try.prog 22 #[.slice A zs.length ca] w fun e w' => e = .returned (.bool (allIn zs 4294967295)) ∧ w = w' := by
  have HA := Lib.hid ha
  clear ha
  go_enter Try.func22, Try.ntmps22
  go_wp2_with fail
  go_loopg [7] zs.length (fun gk i wr => ∃ k : Nat, k + gk = zs.length ∧ i = .int .i64 k ∧ allIn (zs.take k) 4294967295 = true ∧ w = wr)
  case atStart => exact ⟨0, by omega, rfl, by simp [allIn], rfl⟩
  case round =>
    obtain ⟨k, hg, rfl, hal, rfl⟩ := hrel
    have HAl := Lib.hid hal
    clear hal
    by_cases hlt : k < zs.length
    · have hki : (k : Int) < (zs.length : Int) := by omega
      have hne : zs ≠ [] := by rintro rfl; simp at hlt
      obtain ⟨b3, o3, rfl, hc⟩ := HA.out hne
      have hc3 := hc k hlt
      have HT : Hid (allIn (zs.take (k + 1)) 4294967295 = (allIn (zs.take k) 4294967295 && pieceB5 zs[k])) := by
        show _ = _
        rw [List.take_succ_eq_append_getElem hlt, allIn, List.all_append]; simp [allIn, pieceB5]
      have HF : Hid (pieceB5 zs[k] = false → allIn zs 4294967295 = false) := fun h => by
        cases hq : allIn zs 4294967295 with
        | false => rfl
        | true =>
          simp only [allIn, List.all_eq_true] at hq
          have := hq zs[k] (List.getElem_mem hlt)
          rw [show inB zs[k] 0 4294967295 = pieceB5 zs[k] from rfl, h] at this
          cases this
      clear hc
      rw [show zs.getD k 0 = zs[k] by simp [List.getD, hlt]] at hc3
      generalize zs[k] = z at *
      cases hp : pieceB5 z
      · go_wp2_with (go_at_call 28; refine (iPiece5 _ _).mono ?_; rintro e w' ⟨rfl, rfl⟩)
        go_ret
        exact ⟨ret_bool' (HF.out hp).symm, rfl⟩
      · have hp2 := hp
        go_wp2_with (go_at_call 28; refine (iPiece5 _ _).mono ?_; rintro e w' ⟨rfl, rfl⟩)
        go_roundg (zs.length - k - 1)
        case measure => omega
        case rel => exact ⟨k + 1, by omega, by go_num, by rw [HT.out, HAl.out, hp2]; rfl, rfl⟩
    · obtain rfl : k = zs.length := by omega
      have HE : Hid (allIn zs 4294967295 = true) := by have := HAl.out; rwa [List.take_length] at this
      have hki : ¬ (zs.length : Int) < (zs.length : Int) := by omega
      go_wp2_with fail
      go_ret
      exact ⟨ret_bool' HE.out.symm, rfl⟩
end Go.Proofs.Ytddimdfkapbflaa

/- E2 -/
namespace Go.Proofs.Ytddimdfkapbflaa
open Go.RowKit

theorem rise_ext : ∀ {P Q : List Nat}, P.Pairwise (· < ·) → Q.Pairwise (· < ·) → (∀ x, x ∈ P ↔ x ∈ Q) → P = Q
  | [], [], _, _, _ => rfl
  | [], q :: Q, _, _, h => by have := (h q).2 (by simp); cases this
  | p :: P, [], _, _, h => by have := (h p).1 (by simp); cases this
  | p :: P, q :: Q, hp, hq, h => by
    obtain ⟨hp1, hp2⟩ := List.pairwise_cons.1 hp
    obtain ⟨hq1, hq2⟩ := List.pairwise_cons.1 hq
    have e : p = q := by
      rcases List.mem_cons.1 ((h p).1 (by simp)) with e | e
      · exact e
      · rcases List.mem_cons.1 ((h q).2 (by simp)) with e' | e'
        · exact e'.symm
        · have h1 := hq1 p e
          have h2 := hp1 q e'
          omega
    subst e
    rw [rise_ext hp2 hq2 fun x => ?_]
    have hx := h x
    constructor
    · intro hm
      rcases List.mem_cons.1 (hx.1 (List.mem_cons_of_mem _ hm)) with e | e
      · have := hp1 x hm; omega
      · exact e
    · intro hm
      rcases List.mem_cons.1 (hx.2 (List.mem_cons_of_mem _ hm)) with e | e
      · have := hq1 x hm; omega
      · exact e
theorem idxL_rise (m k : Nat) : (idxL m k).Pairwise (· < ·) := List.Pairwise.filter _ List.pairwise_lt_range
theorem idxL_row {n : Nat} {P : List Nat} (h : Rise n P) : idxL (rowN P) n = P := rise_ext (idxL_rise _ _) h.1 fun x => by
  rw [idxL, List.mem_filter, List.mem_range, rowN_bit]
  constructor
  · intro h1; simpa using h1.2
  · intro h1; exact ⟨h.2 x h1, by simpa using h1⟩
theorem bitsL_idx (n : Nat) : ∀ k, bitsL k n = zI (idxL n k)
  | 0 => rfl
  | k + 1 => by
    rw [idxL_succ, zI_append, ← bitsL_idx n k, bitsL, Nat.testBit_eq_decide_div_mod_eq]
    by_cases h : n / 2 ^ k % 2 = 1
    · simp [h, zI]
    · simp [h, zI]
theorem bits_row {n : Nat} {P : List Nat} (h : Rise n P) : bitsL n (rowN P) = zI P := by rw [bitsL_idx, idxL_row h]
theorem rowN_put (L : List Nat) (k : Nat) : rowN (putL L k) = rowN L ||| 2 ^ k := by
  apply Nat.eq_of_testBit_eq
  intro i
  rw [Nat.testBit_or, rowN_bit, rowN_bit, Nat.testBit_two_pow]
  by_cases h1 : i ∈ L <;> by_cases h2 : i = k <;> simp [putL_mem, h1, h2]
  · intro e; exact absurd e.symm h2

end Go.Proofs.Ytddimdfkapbflaa

/- E3 -/
namespace Go.Proofs.Ytddimdfkapbflaa
open Go.RowKit

theorem let_sym (zs : List Int) (no : Int) : letOkB zs no = (symOkB no zs.length && allIn zs 4294967295) := by
  rw [letOkB, blkOkB, symOkB]; cases noOkB no <;> cases pcOkB (zs.length : Int) <;> cases allIn zs 4294967295 <;> rfl

end Go.Proofs.Ytddimdfkapbflaa

/- E4 -/
namespace Go.Proofs.Ytddimdfkapbflaa
open Go.RowKit Go.Maps

/-- One number, whatever it is, appended to a slice of the call's own. -/
theorem app_any {ops : Array Oper} {rest : List Oper} {o : Oper} {a : Act} {Q : Exit → Act → World → Prop} (W : World) (base : Nat) (v : Value) (l : List Int) (z : Int) (Bn : Nat) (hBn : Bn = W.heap.size) (hgd : o.guard = none) (s x : Operand)
    (ho : o.op = .call { callee := .builtin .append, args := #[s, x], argTypes := #[22, 22] }) (hs : a.eval s = v) (hx : a.eval x = .slice (some ⟨Bn, 0, none⟩) 1 1)
    (hown : Own W base v l) (hbase : base ≤ W.heap.size) (hlen : l.length ≤ 2000000) (w0 : World) (hb : Below base w0 W)
    (h : ∀ v' w', Hid (Own w' base v' (l ++ [z]) ∧ Below base w0 w' ∧ (W.alloc (.cells #[.int .i64 z] 3)).grownBy w' v.ownBlock) → wpList Try.prog ops Q rest (a.put o.dst v') w') :
    wpList Try.prog ops Q (o :: rest) a (W.alloc (.cells #[.int .i64 z] 3)) := by
  subst hBn
  obtain ⟨i0, hi, hz0, hz1, hz2⟩ := info_parts intInfo
  have hown' : W.ownsRow base 3 1 v l.length (l.map (Value.int .i64)) := hown
  refine wpList_append_own _ hgd s x 22 ho base 3 i0 (.int .i64 0) 1 8 Try.underlying22 hi hz0 hz1 hz2 rfl (by decide) v l.length _ hs (hown'.alloc _) ⟨W.heap.size, 0, none⟩ 1 1 [.int .i64 z] hx rfl (cell_one_new _ _ _) ?_ ?_ ?_ ?_ ?_
  · intro u hu; simp at hu; subst hu; rfl
  · unfold maxLen; omega
  · omega
  · simp; omega
  · intro v' w' h1 h2 _
    refine h v' w' ⟨?_, (hb.alloc hbase _).grown h2 (by simp; omega) (fun g hg => (hown.lt g hg).1), h2⟩
    unfold Own; simpa using h1

/-- An element that reads as a truth value's datum is that truth value. -/
theorem plainElem_bool_inv {H : Type} {P : Program} {e : TypeId} (he : P.underlying e = some .bool) {v : Value} {z : DataW H × List MemPlace} (h : plainElem P e v = some z) : ∃ a, v = .bool a ∧ z = (.lit (.bool a), []) := by
  unfold plainElem at h
  rw [he] at h
  cases v <;> simp at h
  exact ⟨_, rfl, h.symm⟩
/-- The set's elements: a number lies in it just where it is among those of the list. -/
def Seen (w : World) (b n : Nat) (L : List Int) : Prop :=
  ∃ D : DataW Unit, w.ownsMap Try.prog 3 (plainElem Try.prog 4) b n D ∧ ∀ x : Int, D.atKey (.int .i64 x) (.lit (.bool false)) = .lit (.bool (decide (x ∈ L)))
theorem wf_small {x : Int} (h0 : 0 ≤ x) (h1 : x ≤ 1000000) : (Lit.int .i64 x).wf = true := by
  simp only [Lit.wf, Bool.and_eq_true, decide_eq_true_eq]
  exact ⟨Int.le_trans (by decide) h0, Int.le_trans h1 (by decide)⟩

end Go.Proofs.Ytddimdfkapbflaa

/- E5 -/
namespace Go.Proofs.Ytddimdfkapbflaa
open Go.RowKit Go.Maps

def sumsB (ls : List (Int × Int)) : Bool := ls.all fun x => pieceB5 x.2
theorem newB_mem (ls : List (Int × Int)) (n : Int) : newB ls n = !decide (n ∈ ls.map Prod.fst) := by
  unfold newB
  by_cases h : n ∈ ls.map Prod.fst
  · simp only [h, decide_true, Bool.not_true, List.all_eq_false]
    obtain ⟨x, hx, rfl⟩ := List.mem_map.1 h
    exact ⟨x, hx, by simp⟩
  · simp only [h, decide_false, Bool.not_false, List.all_eq_true]
    intro x hx
    have : x.1 ≠ n := fun e => h (List.mem_map.2 ⟨x, hx, e⟩)
    simp [this]
theorem okTo_split (ls : List (Int × Int)) : ∀ k, k ≤ ls.length → okTo ls k = (sumsB (ls.take k) && (allIn ((ls.map Prod.fst).take k) 999 && disTo (ls.map Prod.fst) k))
  | 0, _ => rfl
  | k + 1, h => by
    have hk : k < ls.length := by omega
    have hk' : k < (ls.map Prod.fst).length := by rw [List.length_map]; omega
    rw [okTo, okTo_split ls k (by omega), disTo, List.take_succ_eq_append_getElem hk, List.take_succ_eq_append_getElem hk', newB_mem, letB,
      show ls.getD k (0, 0) = ls[k] by simp [List.getD, hk], show (ls.map Prod.fst).getD k 0 = ls[k].1 by simp [List.getD, hk], List.map_take]
    simp only [sumsB, allIn, List.all_append, List.all_cons, List.all_nil, List.getElem_map, noOkB]
    generalize (ls.take k).all (fun x => pieceB5 x.2) = q1
    generalize ((ls.map Prod.fst).take k).all (fun z => inB z 0 999) = q2
    generalize disTo (ls.map Prod.fst) k = q3
    generalize inB ls[k].1 0 999 = q4
    generalize pieceB5 ls[k].2 = q5
    generalize decide (ls[k].1 ∈ (ls.map Prod.fst).take k) = q6
    cases q1 <;> cases q2 <;> cases q3 <;> cases q4 <;> cases q5 <;> cases q6 <;> rfl
theorem goodLB_split (n : Int) (ls : List (Int × Int)) : goodLB n ls = (pcOkB n && (decide (ls.length ≤ 40) && (sumsB ls && (allIn (ls.map Prod.fst) 999 && disTo (ls.map Prod.fst) (ls.map Prod.fst).length)))) := by
  have := okTo_split ls ls.length (Nat.le_refl _)
  rw [List.take_length, List.take_of_length_le (by simp)] at this
  rw [goodLB, this, List.length_map]
  generalize sumsB ls = q1
  generalize allIn (ls.map Prod.fst) 999 = q2
  generalize disTo (ls.map Prod.fst) ls.length = q3
  generalize decide (ls.length ≤ 40) = q4
  cases pcOkB n <;> cases q1 <;> cases q2 <;> cases q3 <;> cases q4 <;> rfl

theorem row_parts {n no : Nat} (hn1 : 1 ≤ n) (hn8 : n ≤ 8) (hno : no ≤ 999) : rowI (n : Int) (partsI (no : Int) (n : Int)) = (rowOfN n no : Nat) := by
  have hs : symOkB (no : Int) (n : Int) = true := by simp [symOkB, noOkB, pcOkB, inB]; omega
  obtain ⟨hri, _⟩ := parts_ok no hn1
  have hlt := rowOf_lt no hn1
  have hb : bitsL n (rowOfN n no) = partsI (no : Int) (n : Int) := by
    rw [partsI, if_pos hs, Int.toNat_natCast, Int.toNat_natCast]; exact bits_row hri
  have hr : rowOkB (n : Int) (bitsL n (rowOfN n no)) = true := by
    rw [rowOkB, wideB_true (by omega) (by omega), bitsL_rise n _ 0 (Int.le_refl 0)]; rfl
  rw [← hb, rowI, if_pos hr, rowL_bits, Nat.mod_eq_of_lt hlt]

theorem nat_zI {zs : List Int} (h : allIn zs 999 = true) : ∃ N : List Nat, zs = zI N ∧ N.length = zs.length ∧ ∀ x ∈ N, x ≤ 999 := by
  simp only [allIn, inB, Bool.and_eq_true, List.all_eq_true, decide_eq_true_eq] at h
  refine ⟨zs.map Int.toNat, ?_, List.length_map _, fun x hx => ?_⟩
  · unfold zI
    rw [List.map_map]
    conv => lhs; rw [← List.map_id zs]
    refine List.map_congr_left fun z hz => ?_
    have := h z hz
    simp; omega
  · obtain ⟨z, hz, rfl⟩ := List.mem_map.1 hx
    have := h z hz
    omega
theorem rowsB_rows {n : Nat} {nos : List Nat} (hn1 : 1 ≤ n) (hn8 : n ≤ 8) (hl : nos.length ≤ 20) : rowsB (n : Int) (zI (nos.map (rowOfN n))) = true := by
  have hw : wideB (n : Int) = true := by simp [wideB]; omega
  have hall : allG (n : Int) (zI (nos.map (rowOfN n))) = true := by
    rw [allG, List.all_eq_true]
    intro z hz
    obtain ⟨r, hr, rfl⟩ := List.mem_map.1 hz
    obtain ⟨no, _, rfl⟩ := List.mem_map.1 hr
    exact good5 hn1 (by omega) (rowOf_lt no hn1)
  rw [rowsB, hw, zI_length, hall, List.length_map]
  simp [hl]

end Go.Proofs.Ytddimdfkapbflaa
