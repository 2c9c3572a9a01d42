/-
  E1: The program's chapter 5: goodNo, goodCount, goodPiece, goodPieces, DegreeOf.
  E2: The program's chapter 5: nextFree, PartsOf.
  E3: The program's chapter 5: LetterFor.
  E4: The program's chapter 5: nosIn, differentNos, GoodLetters.
  E5: The program's chapter 5: GoodLetters, partRows.
-/
import Derived.Test.YtchpcbbnnbaiaaaJI
import Derived.Test.YtchpcbbnnbaiaaaJN
import Derived.Maps.OwnSet
import Derived.Maps.AppendAt
import Derived.Test.YtchpcbbnnbaiaaaJO

/- E1 -/
namespace Go.Proofs.Ytchpcbbnnbaiaaa
open Go.RowKit

set_option maxRecDepth 100000 in
set_option maxHeartbeats 400000 in
theorem iNo (n : Int) (w : World) : Calls Try.prog 15 #[.int .i64 n] w fun e w' => e = .returned (.bool (noOkB n)) ∧ w = w' := by
  by_cases h1 : 0 ≤ n
  · by_cases h2 : n ≤ 999
    · have HE : Hid (noOkB n = true) := inB_true h1 h2
      go_enter Try.func15, Try.ntmps15
      go_wp2_with fail
      go_ret
      exact ⟨ret_bool' HE.out.symm, rfl⟩
    · have HE : Hid (noOkB n = false) := inB_false (by omega)
      go_enter Try.func15, Try.ntmps15
      go_wp2_with fail
      go_ret
      exact ⟨ret_bool' HE.out.symm, rfl⟩
  · have HE : Hid (noOkB n = false) := inB_false (by omega)
    go_enter Try.func15, Try.ntmps15
    go_wp2_with fail
    go_ret
    exact ⟨ret_bool' HE.out.symm, rfl⟩

set_option maxRecDepth 100000 in
set_option maxHeartbeats 400000 in
theorem iCnt (n : Int) (w : World) : Calls Try.prog 16 #[.int .i64 n] w fun e w' => e = .returned (.bool (pcOkB n)) ∧ w = w' := by
  by_cases h1 : 1 ≤ n
  · by_cases h2 : n ≤ 8
    · have HE : Hid (pcOkB n = true) := inB_true h1 h2
      go_enter Try.func16, Try.ntmps16
      go_wp2_with fail
      go_ret
      exact ⟨ret_bool' HE.out.symm, rfl⟩
    · have HE : Hid (pcOkB n = false) := inB_false (by omega)
      go_enter Try.func16, Try.ntmps16
      go_wp2_with fail
      go_ret
      exact ⟨ret_bool' HE.out.symm, rfl⟩
  · have HE : Hid (pcOkB n = false) := inB_false (by omega)
    go_enter Try.func16, Try.ntmps16
    go_wp2_with fail
    go_ret
    exact ⟨ret_bool' HE.out.symm, rfl⟩

set_option maxRecDepth 100000 in
set_option maxHeartbeats 400000 in
theorem iPiece5 (n : Int) (w : World) : Calls Try.prog 19 #[.int .i64 n] w fun e w' => e = .returned (.bool (pieceB5 n)) ∧ w = w' := by
  by_cases h1 : 0 ≤ n
  · by_cases h2 : n ≤ 4294967295
    · have HE : Hid (pieceB5 n = true) := inB_true h1 h2
      go_enter Try.func19, Try.ntmps19
      go_wp2_with fail
      go_ret
      exact ⟨ret_bool' HE.out.symm, rfl⟩
    · have HE : Hid (pieceB5 n = false) := inB_false (by omega)
      go_enter Try.func19, Try.ntmps19
      go_wp2_with fail
      go_ret
      exact ⟨ret_bool' HE.out.symm, rfl⟩
  · have HE : Hid (pieceB5 n = false) := inB_false (by omega)
    go_enter Try.func19, Try.ntmps19
    go_wp2_with fail
    go_ret
    exact ⟨ret_bool' HE.out.symm, rfl⟩

set_option maxRecDepth 100000 in
set_option maxHeartbeats 1000000 in
theorem iDegree_any (no n : Int) (w : World) : Calls Try.prog 6 #[.int .i64 no, .int .i64 n] w fun e w' => e = .returned (.tuple #[.int .i64 (degI no n), .bool (symOkB no n)]) ∧ w = w' := by
  cases h : symOkB no n
  · have HE : Hid (degI no n = 0) := by show _ = _; rw [degI, h]; rfl
    cases hn : noOkB no
    · go_enter Try.func6, Try.ntmps6
      go_wp2_with (go_at_call 15; refine (iNo _ _).mono ?_; rintro e w' ⟨rfl, rfl⟩)
      go_ret2
      exact ⟨tup HE.out.symm, rfl⟩
    · have hp : pcOkB n = false := by rw [symOkB, hn] at h; simpa using h
      go_enter Try.func6, Try.ntmps6
      go_wp2_with (first
        | (go_at_call 15; refine (iNo _ _).mono ?_; rintro e w' ⟨rfl, rfl⟩)
        | (go_at_call 16; refine (iCnt _ _).mono ?_; rintro e w' ⟨rfl, rfl⟩))
      go_ret2
      exact ⟨tup HE.out.symm, rfl⟩
  · have HE := Lib.hid h
    obtain ⟨hn, hp⟩ : noOkB no = true ∧ pcOkB n = true := by simpa [symOkB] using h
    obtain ⟨a, b, rfl, rfl, h1, _, _⟩ := sym_nat h
    clear h
    obtain ⟨r, hr⟩ : ∃ r, r = (37 * a + 11) % 20 := ⟨_, rfl⟩
    have hri : ((37 : Int) * (a : Int) + 11) % 20 = (r : Int) := by omega
    have HV : Hid (degI (a : Int) (b : Int) = (min (degT r) b : Nat)) := by show _ = _; rw [degI, if_pos HE.out, Int.toNat_natCast, Int.toNat_natCast, degN, hr]
    obtain ⟨t1, t2, t3, t4⟩ := @degT_at r
    clear hr
    by_cases c1 : r < 4
    · have HT := Lib.hid (t1 c1)
      have ci : (r : Int) < 4 := by omega
      clear t1 t2 t3 t4
      by_cases cm : 1 < (b : Int)
      · go_enter Try.func6, Try.ntmps6
        go_wp2_with (first | (go_at_call 15; refine (iNo _ _).mono ?_; rintro e w' ⟨rfl, rfl⟩) | (go_at_call 16; refine (iCnt _ _).mono ?_; rintro e w' ⟨rfl, rfl⟩))
        go_ret2
        exact ⟨tup (by rw [HV.out, HT.out]; omega), rfl⟩
      · go_enter Try.func6, Try.ntmps6
        go_wp2_with (first | (go_at_call 15; refine (iNo _ _).mono ?_; rintro e w' ⟨rfl, rfl⟩) | (go_at_call 16; refine (iCnt _ _).mono ?_; rintro e w' ⟨rfl, rfl⟩))
        go_ret2
        exact ⟨tup (by rw [HV.out, HT.out]; omega), rfl⟩
    · have ci : ¬ (r : Int) < 4 := by omega
      by_cases c2 : r < 12
      · have HT := Lib.hid (t2 c1 c2)
        have di : (r : Int) < 12 := by omega
        clear t1 t2 t3 t4
        by_cases cm : 2 < (b : Int)
        · go_enter Try.func6, Try.ntmps6
          go_wp2_with (first | (go_at_call 15; refine (iNo _ _).mono ?_; rintro e w' ⟨rfl, rfl⟩) | (go_at_call 16; refine (iCnt _ _).mono ?_; rintro e w' ⟨rfl, rfl⟩))
          go_ret2
          exact ⟨tup (by rw [HV.out, HT.out]; omega), rfl⟩
        · go_enter Try.func6, Try.ntmps6
          go_wp2_with (first | (go_at_call 15; refine (iNo _ _).mono ?_; rintro e w' ⟨rfl, rfl⟩) | (go_at_call 16; refine (iCnt _ _).mono ?_; rintro e w' ⟨rfl, rfl⟩))
          go_ret2
          exact ⟨tup (by rw [HV.out, HT.out]; omega), rfl⟩
      · have di : ¬ (r : Int) < 12 := by omega
        by_cases c3 : r < 16
        · have HT := Lib.hid (t3 c1 c2 c3)
          have ei : (r : Int) < 16 := by omega
          clear t1 t2 t3 t4
          by_cases cm : 3 < (b : Int)
          · go_enter Try.func6, Try.ntmps6
            go_wp2_with (first | (go_at_call 15; refine (iNo _ _).mono ?_; rintro e w' ⟨rfl, rfl⟩) | (go_at_call 16; refine (iCnt _ _).mono ?_; rintro e w' ⟨rfl, rfl⟩))
            go_ret2
            exact ⟨tup (by rw [HV.out, HT.out]; omega), rfl⟩
          · go_enter Try.func6, Try.ntmps6
            go_wp2_with (first | (go_at_call 15; refine (iNo _ _).mono ?_; rintro e w' ⟨rfl, rfl⟩) | (go_at_call 16; refine (iCnt _ _).mono ?_; rintro e w' ⟨rfl, rfl⟩))
            go_ret2
            exact ⟨tup (by rw [HV.out, HT.out]; omega), rfl⟩
        · have HT := Lib.hid (t4 c1 c2 c3)
          have ei : ¬ (r : Int) < 16 := by omega
          clear t1 t2 t3 t4
          by_cases cm : 4 < (b : Int)
          · go_enter Try.func6, Try.ntmps6
            go_wp2_with (first | (go_at_call 15; refine (iNo _ _).mono ?_; rintro e w' ⟨rfl, rfl⟩) | (go_at_call 16; refine (iCnt _ _).mono ?_; rintro e w' ⟨rfl, rfl⟩))
            go_ret2
            exact ⟨tup (by rw [HV.out, HT.out]; omega), rfl⟩
          · go_enter Try.func6, Try.ntmps6
            go_wp2_with (first | (go_at_call 15; refine (iNo _ _).mono ?_; rintro e w' ⟨rfl, rfl⟩) | (go_at_call 16; refine (iCnt _ _).mono ?_; rintro e w' ⟨rfl, rfl⟩))
            go_ret2
            exact ⟨tup (by rw [HV.out, HT.out]; omega), rfl⟩

end Go.Proofs.Ytchpcbbnnbaiaaa

/- E2 -/
namespace Go.Proofs.Ytchpcbbnnbaiaaa
open Go.RowKit

theorem rise_ext : ∀ {P Q : List Nat}, P.Pairwise (· < ·) → Q.Pairwise (· < ·) → (∀ x, x ∈ P ↔ x ∈ Q) → P = Q
  | [], [], _, _, _ => rfl
  | [], q :: Q, _, _, h => by have := (h q).2 (by simp); cases this
  | p :: P, [], _, _, h => by have := (h p).1 (by simp); cases this
  | p :: P, q :: Q, hp, hq, h => by
    obtain ⟨hp1, hp2⟩ := List.pairwise_cons.1 hp
    obtain ⟨hq1, hq2⟩ := List.pairwise_cons.1 hq
    have e : p = q := by
      rcases List.mem_cons.1 ((h p).1 (by simp)) with e | e
      · exact e
      · rcases List.mem_cons.1 ((h q).2 (by simp)) with e' | e'
        · exact e'.symm
        · have h1 := hq1 p e
          have h2 := hp1 q e'
          omega
    subst e
    rw [rise_ext hp2 hq2 fun x => ?_]
    have hx := h x
    constructor
    · intro hm
      rcases List.mem_cons.1 (hx.1 (List.mem_cons_of_mem _ hm)) with e | e
      · have := hp1 x hm; omega
      · exact e
    · intro hm
      rcases List.mem_cons.1 (hx.2 (List.mem_cons_of_mem _ hm)) with e | e
      · have := hq1 x hm; omega
      · exact e
theorem idxL_rise (m k : Nat) : (idxL m k).Pairwise (· < ·) := List.Pairwise.filter _ List.pairwise_lt_range
theorem idxL_row {n : Nat} {P : List Nat} (h : Rise n P) : idxL (rowN P) n = P := rise_ext (idxL_rise _ _) h.1 fun x => by
  rw [idxL, List.mem_filter, List.mem_range, rowN_bit]
  constructor
  · intro h1; simpa using h1.2
  · intro h1; exact ⟨h.2 x h1, by simpa using h1⟩
theorem bitsL_idx (n : Nat) : ∀ k, bitsL k n = zI (idxL n k)
  | 0 => rfl
  | k + 1 => by
    rw [idxL_succ, zI_append, ← bitsL_idx n k, bitsL, Nat.testBit_eq_decide_div_mod_eq]
    by_cases h : n / 2 ^ k % 2 = 1
    · simp [h, zI]
    · simp [h, zI]
theorem bits_row {n : Nat} {P : List Nat} (h : Rise n P) : bitsL n (rowN P) = zI P := by rw [bitsL_idx, idxL_row h]
theorem rowN_put (L : List Nat) (k : Nat) : rowN (putL L k) = rowN L ||| 2 ^ k := by
  apply Nat.eq_of_testBit_eq
  intro i
  rw [Nat.testBit_or, rowN_bit, rowN_bit, Nat.testBit_two_pow]
  by_cases h1 : i ∈ L <;> by_cases h2 : i = k <;> simp [putL_mem, h1, h2]
  · intro e; exact absurd e.symm h2

end Go.Proofs.Ytchpcbbnnbaiaaa

/- E3 -/
namespace Go.Proofs.Ytchpcbbnnbaiaaa
open Go.RowKit

theorem let_sym (zs : List Int) (no : Int) : letOkB zs no = (symOkB no zs.length && allIn zs 4294967295) := by
  rw [letOkB, blkOkB, symOkB]; cases noOkB no <;> cases pcOkB (zs.length : Int) <;> cases allIn zs 4294967295 <;> rfl

end Go.Proofs.Ytchpcbbnnbaiaaa

/- E4 -/
namespace Go.Proofs.Ytchpcbbnnbaiaaa
open Go.RowKit Go.Maps

/-- One number, whatever it is, appended to a slice of the call's own. -/
theorem app_any {ops : Array Oper} {rest : List Oper} {o : Oper} {a : Act} {Q : Exit → Act → World → Prop} (W : World) (base : Nat) (v : Value) (l : List Int) (z : Int) (Bn : Nat) (hBn : Bn = W.heap.size) (hgd : o.guard = none) (s x : Operand)
    (ho : o.op = .call { callee := .builtin .append, args := #[s, x], argTypes := #[39, 39] }) (hs : a.eval s = v) (hx : a.eval x = .slice (some ⟨Bn, 0, none⟩) 1 1)
    (hown : Own W base v l) (hbase : base ≤ W.heap.size) (hlen : l.length ≤ 2000000) (w0 : World) (hb : Below base w0 W)
    (h : ∀ v' w', Hid (Own w' base v' (l ++ [z]) ∧ Below base w0 w' ∧ (W.alloc (.cells #[.int .i64 z] 3)).grownBy w' v.ownBlock) → wpList Try.prog ops Q rest (a.put o.dst v') w') :
    wpList Try.prog ops Q (o :: rest) a (W.alloc (.cells #[.int .i64 z] 3)) := by
  subst hBn
  obtain ⟨i0, hi, hz0, hz1, hz2⟩ := info_parts intInfo
  have hown' : W.ownsRow base 3 1 v l.length (l.map (Value.int .i64)) := hown
  refine wpList_append_own _ hgd s x 39 ho base 3 i0 (.int .i64 0) 1 8 Try.underlying39 hi hz0 hz1 hz2 rfl (by decide) v l.length _ hs (hown'.alloc _) ⟨W.heap.size, 0, none⟩ 1 1 [.int .i64 z] hx rfl (cell_one_new _ _ _) ?_ ?_ ?_ ?_ ?_
  · intro u hu; simp at hu; subst hu; rfl
  · unfold maxLen; omega
  · omega
  · simp; omega
  · intro v' w' h1 h2 _
    refine h v' w' ⟨?_, (hb.alloc hbase _).grown h2 (by simp; omega) (fun g hg => (hown.lt g hg).1), h2⟩
    unfold Own; simpa using h1

set_option maxRecDepth 100000 in
set_option maxHeartbeats 2000000 in
theorem iNos (A : Option Addr) (ls : List (Int × Int)) (ca : Nat) (w : World) (ha : Lets w A ls) (hl : ls.length ≤ 1048576) :
    Calls Try.prog 21 #[.slice A ls.length ca] w fun e w' => ∃ v, e = .returned v ∧ Own w' w.heap.size v (ls.map Prod.fst) ∧ Below w.heap.size w w' := by
  have HA := Lib.hid ha
  clear ha
  go_enter Try.func21, Try.ntmps21
  go_wp2_with fail
  go_loopg [3, 8] ls.length (fun gk v i wr => ∃ k : Nat, k + gk = ls.length ∧ i = .int .i64 k ∧ Own wr w.heap.size v ((ls.take k).map Prod.fst) ∧ Below w.heap.size w wr)
  case atStart => exact ⟨0, by omega, rfl, Own.nil _ _, Below.refl _ _⟩
  case round =>
    obtain ⟨k, hg, rfl, hown, hbel⟩ := hrel
    have HO := Lib.hid hown
    have HB := Lib.hid hbel
    clear hown hbel
    by_cases hlt : k < ls.length
    · have hki : (k : Int) < (ls.length : Int) := by omega
      obtain ⟨b1, o1, rfl, hc1⟩ := (HA.out.below HB.out) (by rintro rfl; simp at hlt)
      obtain ⟨p1, p2⟩ := hc1 k hlt
      have HS := Lib.hid (map_snoc (Prod.fst : Int × Int → Int) hlt)
      have HGK : Hid (ls.length - k - 1 < gk ∧ k + 1 + (ls.length - k - 1) = ls.length) := by show _ ∧ _; omega
      have HRl : Hid (((ls.take k).map Prod.fst).length ≤ 1048576) := by show _ ≤ _; rw [List.length_map, List.length_take]; omega
      clear hc1 hg
      generalize ls[k] = p at *
      generalize (ls.take k).map Prod.fst = RL at *
      have HB1 := Lib.hid (below_more HB.out (gAlloc wr (.cells #[.int .i64 p.1, .int .i64 p.2] 35)))
      have HO1 := Lib.hid (HO.out.below (gAlloc wr (.cells #[.int .i64 p.1, .int .i64 p.2] 35)))
      have hx0 : (wr.alloc (.cells #[.int .i64 p.1, .int .i64 p.2] 35)).cell? ⟨wr.heap.size, 0, none⟩ = some (.int .i64 p.1) := cell_of_row _ _ 0 _ _ _ (heap_alloc_new _ _)
      have hs1 := HB1.out.size
      go_wp2_with (at_builtin; refine app_any _ w.heap.size _ RL p.1 _ (by simp) rfl _ _ rfl rfl rfl HO1.out hs1 (by have := HRl.out; omega) w HB1.out ?_)
      intro v' w' H'
      go_wp2_with fail
      go_roundg (ls.length - k - 1)
      case measure => exact HGK.out.1
      case rel => exact ⟨k + 1, HGK.out.2, by go_num, by rw [HS.out]; exact H'.out.1, H'.out.2.1⟩
    · obtain rfl : k = ls.length := by omega
      rw [List.take_length] at HO
      have hki : ¬ (ls.length : Int) < (ls.length : Int) := by omega
      obtain ⟨A3, c3, rfl, _⟩ := HO.out.form
      go_wp2_with fail
      go_ret
      exact ⟨_, rfl, by have := HO.out; rw [List.length_map] at this; exact this, HB.out⟩

/-- An element that reads as a truth value's datum is that truth value. -/
theorem plainElem_bool_inv {H : Type} {P : Program} {e : TypeId} (he : P.underlying e = some .bool) {v : Value} {z : DataW H × List MemPlace} (h : plainElem P e v = some z) : ∃ a, v = .bool a ∧ z = (.lit (.bool a), []) := by
  unfold plainElem at h
  rw [he] at h
  cases v <;> simp at h
  exact ⟨_, rfl, h.symm⟩
/-- The set's elements: a number lies in it just where it is among those of the list. -/
def Seen (w : World) (b n : Nat) (L : List Int) : Prop :=
  ∃ D : DataW Unit, w.ownsMap Try.prog 3 (plainElem Try.prog 4) b n D ∧ ∀ x : Int, D.atKey (.int .i64 x) (.lit (.bool false)) = .lit (.bool (decide (x ∈ L)))
set_option maxRecDepth 100000 in
theorem Seen.look {w : World} {b n : Nat} {L : List Int} (h : Seen w b n L) (x : Int) (hx : (Lit.int .i64 x).wf = true) : (Instr.lookup 43 (.map (some b)) (.int .i64 x) false).run Try.prog w = .ok (.bool (decide (x ∈ L))) w := by
  obtain ⟨D, hD, hat⟩ := h
  obtain ⟨v, ps, hrun, hv⟩ := hD.lookup (t := 43) (e := 4) (int_keyed Try.underlying3) Try.underlying43 (Try.zeroValue4 w) (plainElem_bool Try.underlying4 false) (keyOf_int_mk Try.underlying3 hx)
  obtain ⟨a, rfl, ha⟩ := plainElem_bool_inv Try.underlying4 hv
  rw [hat x] at ha
  injection ha with h1 h2
  injection h1 with h1
  injection h1 with h1
  rw [hrun, h1]
set_option maxRecDepth 100000 in
theorem Seen.store {w : World} {b n : Nat} {L : List Int} (h : Seen w b n L) (hn : n < maxLen) (x : Int) (hx : (Lit.int .i64 x).wf = true) :
    ∃ w', (Instr.mapUpdate 43 (.map (some b)) (.int .i64 x) (.bool true)).run Try.prog w = .ok () w' ∧ Seen w' b (n + 1) (L ++ [x]) ∧ w.grownBy w' (some b) := by
  obtain ⟨D, hD, hat⟩ := h
  obtain ⟨w', h1, h2, h3⟩ := hD.update (t := 43) (e := 4) (int_keyed Try.underlying3) Try.underlying43 hn (keyOf_int_mk Try.underlying3 hx) (plainElem_bool Try.underlying4 true)
  refine ⟨w', h1, ⟨_, h2, fun y => ?_⟩, h3⟩
  by_cases e : y = x
  · subst e
    rw [atKey_put_same hD.isMap ((int_keyed Try.underlying3).key (keyOf_int_mk Try.underlying3 hx))]
    simp
  · rw [atKey_put_other (by intro h'; injection h' with _ h'; exact e h'), hat y]
    simp [e]
theorem wf_small {x : Int} (h0 : 0 ≤ x) (h1 : x ≤ 1000000) : (Lit.int .i64 x).wf = true := by
  simp only [Lit.wf, Bool.and_eq_true, decide_eq_true_eq]
  exact ⟨Int.le_trans (by decide) h0, Int.le_trans h1 (by decide)⟩

set_option maxRecDepth 100000 in
set_option maxHeartbeats 2000000 in
theorem iDiff (A : Option Addr) (zs : List Int) (ca : Nat) (w : World) (ha : Ints w A zs) (hl : zs.length ≤ 1048576) :
    Calls Try.prog 20 #[.slice A zs.length ca] w fun e w' => e = .returned (.bool (allIn zs 999 && disTo zs zs.length)) ∧ Below w.heap.size w w' := by
  have HA := Lib.hid ha
  have hmm := @run_makeMap Try.prog
  have HS0 : Hid (Seen (w.alloc (.map #[] 0)) w.heap.size 0 []) := ⟨.map [], World.ownsMap_made _ _ _ _, fun x => by simp [DataW.atKey]⟩
  clear ha
  go_enter Try.func20, Try.ntmps20
  go_wp2_with fail
  go_loopg [9] zs.length (fun gk i wr => ∃ k : Nat, k + gk = zs.length ∧ i = .int .i64 k ∧ Seen wr w.heap.size k (zs.take k) ∧ allIn (zs.take k) 999 = true ∧ disTo zs k = true ∧ Below w.heap.size w wr)
  case atStart => exact ⟨0, by omega, rfl, HS0.out, by simp [allIn], rfl, gAlloc _ _⟩
  case round =>
    obtain ⟨k, hg, rfl, hsee, hal, hdis, hbel⟩ := hrel
    have HSee := Lib.hid hsee
    have HAl := Lib.hid hal
    have HDis := Lib.hid hdis
    have HB := Lib.hid hbel
    clear hsee hal hdis hbel hmm
    by_cases hlt : k < zs.length
    · have hki : (k : Int) < (zs.length : Int) := by omega
      have hne : zs ≠ [] := by rintro rfl; simp at hlt
      obtain ⟨b3, o3, rfl, hc⟩ := (HA.out.below HB.out) hne
      have hc3 := hc k hlt
      have HT : Hid (allIn (zs.take (k + 1)) 999 = (allIn (zs.take k) 999 && noOkB zs[k])) := by
        show _ = _
        rw [List.take_succ_eq_append_getElem hlt, allIn, List.all_append]; simp [allIn, noOkB]
      have HT2 : Hid (zs.take (k + 1) = zs.take k ++ [zs[k]]) := List.take_succ_eq_append_getElem hlt
      have HF : Hid (noOkB zs[k] = false → (allIn zs 999 && disTo zs zs.length) = false) := fun h => by
        cases hq : allIn zs 999 with
        | false => rfl
        | true =>
          simp only [allIn, List.all_eq_true] at hq
          have := hq zs[k] (List.getElem_mem hlt)
          rw [show inB zs[k] 0 999 = noOkB zs[k] from rfl, h] at this
          cases this
      have HD2 : Hid (disTo zs (k + 1) = !decide (zs[k] ∈ zs.take k)) := by
        show _ = _
        rw [disTo, HDis.out, show zs.getD k 0 = zs[k] by simp [List.getD, hlt]]; rfl
      have HF2 : Hid (disTo zs (k + 1) = false → (allIn zs 999 && disTo zs zs.length) = false) := fun h => by rw [disTo_no h (by omega)]; simp
      have HGK : Hid (zs.length - k - 1 < gk ∧ k + 1 + (zs.length - k - 1) = zs.length) := by show _ ∧ _; omega
      clear hc hg
      rw [show zs.getD k 0 = zs[k] by simp [List.getD, hlt]] at hc3
      generalize zs[k] = z at *
      cases hp : noOkB z
      · go_wp2_with (go_at_call 15; refine (iNo _ _).mono ?_; rintro e w' ⟨rfl, rfl⟩)
        go_ret
        exact ⟨ret_bool' (HF.out hp).symm, HB.out⟩
      · have hz : 0 ≤ z ∧ z ≤ 999 := by simpa [noOkB, inB] using hp
        have HP := Lib.hid hp
        have hlook := HSee.out.look z (wf_small hz.1 (by omega))
        cases hm : decide (z ∈ zs.take k)
        · rw [hm] at hlook
          obtain ⟨w2, hup, hsee2, hgr⟩ := HSee.out.store (by unfold maxLen; omega) z (wf_small hz.1 (by omega))
          have HSee2 := Lib.hid hsee2
          have HB2 : Hid (Below w.heap.size w w2) := HB.out.grown hgr HB.out.size (fun j hj => by cases hj; exact Nat.le_refl _)
          have HM := Lib.hid hm
          clear hsee2 hgr hm
          go_wp2_with (go_at_call 15; refine (iNo _ _).mono ?_; rintro e w' ⟨rfl, rfl⟩)
          go_roundg (zs.length - k - 1)
          case measure => exact HGK.out.1
          case rel => exact ⟨k + 1, HGK.out.2, by go_num, by rw [HT2.out]; exact HSee2.out, by rw [HT.out, HAl.out, HP.out]; rfl, by rw [HD2.out, HM.out]; rfl, HB2.out⟩
        · rw [hm] at hlook
          have HE := Lib.hid (HF2.out (by rw [HD2.out, hm]; rfl))
          clear hm
          go_wp2_with (go_at_call 15; refine (iNo _ _).mono ?_; rintro e w' ⟨rfl, rfl⟩)
          go_ret
          exact ⟨ret_bool' HE.out.symm, HB.out⟩
    · obtain rfl : k = zs.length := by omega
      have HE : Hid ((allIn zs 999 && disTo zs zs.length) = true) := by
        show _ = _
        have := HAl.out
        rw [List.take_length] at this
        rw [this, HDis.out]; rfl
      have hki : ¬ (zs.length : Int) < (zs.length : Int) := by omega
      go_wp2_with fail
      go_ret
      exact ⟨ret_bool' HE.out.symm, HB.out⟩
end Go.Proofs.Ytchpcbbnnbaiaaa

/- E5 -/
namespace Go.Proofs.Ytchpcbbnnbaiaaa
open Go.RowKit Go.Maps

def sumsB (ls : List (Int × Int)) : Bool := ls.all fun x => pieceB5 x.2
theorem newB_mem (ls : List (Int × Int)) (n : Int) : newB ls n = !decide (n ∈ ls.map Prod.fst) := by
  unfold newB
  by_cases h : n ∈ ls.map Prod.fst
  · simp only [h, decide_true, Bool.not_true, List.all_eq_false]
    obtain ⟨x, hx, rfl⟩ := List.mem_map.1 h
    exact ⟨x, hx, by simp⟩
  · simp only [h, decide_false, Bool.not_false, List.all_eq_true]
    intro x hx
    have : x.1 ≠ n := fun e => h (List.mem_map.2 ⟨x, hx, e⟩)
    simp [this]
theorem okTo_split (ls : List (Int × Int)) : ∀ k, k ≤ ls.length → okTo ls k = (sumsB (ls.take k) && (allIn ((ls.map Prod.fst).take k) 999 && disTo (ls.map Prod.fst) k))
  | 0, _ => rfl
  | k + 1, h => by
    have hk : k < ls.length := by omega
    have hk' : k < (ls.map Prod.fst).length := by rw [List.length_map]; omega
    rw [okTo, okTo_split ls k (by omega), disTo, List.take_succ_eq_append_getElem hk, List.take_succ_eq_append_getElem hk', newB_mem, letB,
      show ls.getD k (0, 0) = ls[k] by simp [List.getD, hk], show (ls.map Prod.fst).getD k 0 = ls[k].1 by simp [List.getD, hk], List.map_take]
    simp only [sumsB, allIn, List.all_append, List.all_cons, List.all_nil, List.getElem_map, noOkB]
    generalize (ls.take k).all (fun x => pieceB5 x.2) = q1
    generalize ((ls.map Prod.fst).take k).all (fun z => inB z 0 999) = q2
    generalize disTo (ls.map Prod.fst) k = q3
    generalize inB ls[k].1 0 999 = q4
    generalize pieceB5 ls[k].2 = q5
    generalize decide (ls[k].1 ∈ (ls.map Prod.fst).take k) = q6
    cases q1 <;> cases q2 <;> cases q3 <;> cases q4 <;> cases q5 <;> cases q6 <;> rfl
theorem goodLB_split (n : Int) (ls : List (Int × Int)) : goodLB n ls = (pcOkB n && (decide (ls.length ≤ 40) && (sumsB ls && (allIn (ls.map Prod.fst) 999 && disTo (ls.map Prod.fst) (ls.map Prod.fst).length)))) := by
  have := okTo_split ls ls.length (Nat.le_refl _)
  rw [List.take_length, List.take_of_length_le (by simp)] at this
  rw [goodLB, this, List.length_map]
  generalize sumsB ls = q1
  generalize allIn (ls.map Prod.fst) 999 = q2
  generalize disTo (ls.map Prod.fst) ls.length = q3
  generalize decide (ls.length ≤ 40) = q4
  cases pcOkB n <;> cases q1 <;> cases q2 <;> cases q3 <;> cases q4 <;> rfl

set_option maxRecDepth 100000 in
set_option maxHeartbeats 2000000 in
theorem iGoodL_any (n : Int) (A : Option Addr) (ls : List (Int × Int)) (ca : Nat) (w : World) (ha : Lets w A ls) (hl : ls.length ≤ 1048576) :
    Calls Try.prog 10 #[.int .i64 n, .slice A ls.length ca] w fun e w' => e = .returned (.bool (goodLB n ls)) ∧ Below w.heap.size w w' := by
  have HA := Lib.hid ha
  have HSp := Lib.hid (goodLB_split n ls)
  clear ha
  cases h1 : pcOkB n
  · have HE : Hid (goodLB n ls = false) := by show _ = _; rw [HSp.out, h1]; rfl
    go_enter Try.func10, Try.ntmps10
    go_wp2_with (go_at_call 16; refine (iCnt _ _).mono ?_; rintro e w' ⟨rfl, rfl⟩)
    go_ret
    exact ⟨ret_bool' HE.out.symm, Below.refl _ _⟩
  · by_cases h2 : ls.length ≤ 40
    · have hi2 : ¬ (40 : Int) < (ls.length : Int) := by omega
      have HE : Hid (goodLB n ls = (sumsB ls && (allIn (ls.map Prod.fst) 999 && disTo (ls.map Prod.fst) (ls.map Prod.fst).length))) := by show _ = _; rw [HSp.out, h1, decide_eq_true h2]; rfl
      go_enter Try.func10, Try.ntmps10
      go_wp2_with (go_at_call 16; refine (iCnt _ _).mono ?_; rintro e w' ⟨rfl, rfl⟩)
      go_loopg [17] ls.length (fun gk i wr => ∃ k : Nat, k + gk = ls.length ∧ i = .int .i64 k ∧ sumsB (ls.take k) = true ∧ Below w.heap.size w wr)
      case atStart => exact ⟨0, by omega, rfl, rfl, Below.refl _ _⟩
      case round =>
        obtain ⟨k, hg, rfl, hok, hbel⟩ := hrel
        have HOk := Lib.hid hok
        have HBl := Lib.hid hbel
        clear hok hbel
        by_cases hlt : k < ls.length
        · have hki : (k : Int) < (ls.length : Int) := by omega
          have HAr := Lib.hid (HA.out.below HBl.out)
          obtain ⟨b1, o1, rfl, hc1⟩ := HAr.out (by rintro rfl; simp at hlt)
          obtain ⟨p1, p2⟩ := hc1 k hlt
          have HNx : Hid (sumsB (ls.take (k + 1)) = pieceB5 ls[k].2) := by
            show _ = _
            rw [List.take_succ_eq_append_getElem hlt, sumsB, List.all_append, ← sumsB, HOk.out]; simp
          have HNo : Hid (pieceB5 ls[k].2 = false → sumsB ls = false) := fun h => by
            rw [sumsB, List.all_eq_false]; exact ⟨ls[k], List.getElem_mem hlt, by simp [h]⟩
          have HGK : Hid (ls.length - k - 1 < gk ∧ k + 1 + (ls.length - k - 1) = ls.length) := by show _ ∧ _; omega
          clear hc1 hg
          generalize ls[k] = p at *
          have hx1 : (wr.alloc (.cells #[.int .i64 p.1, .int .i64 p.2] 35)).cell? ⟨wr.heap.size, 1, none⟩ = some (.int .i64 p.2) := cell_of_row _ _ 1 _ _ _ (heap_alloc_new _ _)
          have HB1 := Lib.hid (below_more HBl.out (gAlloc wr (.cells #[.int .i64 p.1, .int .i64 p.2] 35)))
          cases hn2 : pieceB5 p.2
          · have HE2 : Hid (goodLB n ls = false) := by show _ = _; rw [HE.out, HNo.out hn2]; rfl
            go_wp2_with (go_at_call 19; refine (iPiece5 _ _).mono ?_; rintro e w' ⟨rfl, rfl⟩)
            go_ret
            exact ⟨ret_bool' HE2.out.symm, HB1.out⟩
          · have HN := Lib.hid (HNx.out.trans hn2)
            go_wp2_with (go_at_call 19; refine (iPiece5 _ _).mono ?_; rintro e w' ⟨rfl, rfl⟩)
            go_roundg (ls.length - k - 1)
            case measure => exact HGK.out.1
            case rel => exact ⟨k + 1, HGK.out.2, by go_num, HN.out, HB1.out⟩
        · obtain rfl : k = ls.length := by omega
          have hki : ¬ (ls.length : Int) < (ls.length : Int) := by omega
          have HE2 : Hid (goodLB n ls = (allIn (ls.map Prod.fst) 999 && disTo (ls.map Prod.fst) (ls.map Prod.fst).length)) := by
            show _ = _
            have := HOk.out
            rw [List.take_length] at this
            rw [HE.out, this]; rfl
          have HN := Lib.hid (iNos A ls ca wr (HA.out.below HBl.out) hl)
          have hml : (ls.map Prod.fst).length = ls.length := List.length_map _
          have hm : (ls.map Prod.fst).length ≤ 1048576 := by rw [hml]; omega
          clear hml
          generalize ls.map Prod.fst = N at *
          go_wp2_with fail
          refine HN.out.mono ?_
          rintro e w1 ⟨v1, rfl, ho1, hb1⟩
          obtain ⟨A1, c1, rfl, hI1⟩ := ho1.form
          have HI1 := Lib.hid hI1
          have HB1 := Lib.hid (below_more HBl.out hb1)
          clear ho1 hI1 hb1 HN
          go_wp2_with fail
          refine (iDiff A1 N c1 w1 HI1.out hm).mono ?_
          rintro e w2 ⟨rfl, hb2⟩
          have HB2 := Lib.hid (below_more HB1.out hb2)
          clear hb2 HI1
          go_wp2_with fail
          go_ret
          exact ⟨ret_bool' HE2.out.symm, HB2.out⟩
    · have hi2 : (40 : Int) < (ls.length : Int) := by omega
      have HE : Hid (goodLB n ls = false) := by show _ = _; rw [HSp.out, decide_eq_false h2]; simp
      go_enter Try.func10, Try.ntmps10
      go_wp2_with (go_at_call 16; refine (iCnt _ _).mono ?_; rintro e w' ⟨rfl, rfl⟩)
      go_ret
      exact ⟨ret_bool' HE.out.symm, Below.refl _ _⟩

theorem row_parts {n no : Nat} (hn1 : 1 ≤ n) (hn8 : n ≤ 8) (hno : no ≤ 999) : rowI (n : Int) (partsI (no : Int) (n : Int)) = (rowOfN n no : Nat) := by
  have hs : symOkB (no : Int) (n : Int) = true := by simp [symOkB, noOkB, pcOkB, inB]; omega
  obtain ⟨hri, _⟩ := parts_ok no hn1
  have hlt := rowOf_lt no hn1
  have hb : bitsL n (rowOfN n no) = partsI (no : Int) (n : Int) := by
    rw [partsI, if_pos hs, Int.toNat_natCast, Int.toNat_natCast]; exact bits_row hri
  have hr : rowOkB (n : Int) (bitsL n (rowOfN n no)) = true := by
    rw [rowOkB, wideB_true (by omega) (by omega), bitsL_rise n _ 0 (Int.le_refl 0)]; rfl
  rw [← hb, rowI, if_pos hr, rowL_bits, Nat.mod_eq_of_lt hlt]

theorem nat_zI {zs : List Int} (h : allIn zs 999 = true) : ∃ N : List Nat, zs = zI N ∧ N.length = zs.length ∧ ∀ x ∈ N, x ≤ 999 := by
  simp only [allIn, inB, Bool.and_eq_true, List.all_eq_true, decide_eq_true_eq] at h
  refine ⟨zs.map Int.toNat, ?_, List.length_map _, fun x hx => ?_⟩
  · unfold zI
    rw [List.map_map]
    conv => lhs; rw [← List.map_id zs]
    refine List.map_congr_left fun z hz => ?_
    have := h z hz
    simp; omega
  · obtain ⟨z, hz, rfl⟩ := List.mem_map.1 hx
    have := h z hz
    omega
theorem rowsB_rows {n : Nat} {nos : List Nat} (hn1 : 1 ≤ n) (hn8 : n ≤ 8) (hl : nos.length ≤ 20) : rowsB (n : Int) (zI (nos.map (rowOfN n))) = true := by
  have hw : wideB (n : Int) = true := by simp [wideB]; omega
  have hall : allG (n : Int) (zI (nos.map (rowOfN n))) = true := by
    rw [allG, List.all_eq_true]
    intro z hz
    obtain ⟨r, hr, rfl⟩ := List.mem_map.1 hz
    obtain ⟨no, _, rfl⟩ := List.mem_map.1 hr
    exact good5 hn1 (by omega) (rowOf_lt no hn1)
  rw [rowsB, hw, zI_length, hall, List.length_map]
  simp [hl]

end Go.Proofs.Ytchpcbbnnbaiaaa
