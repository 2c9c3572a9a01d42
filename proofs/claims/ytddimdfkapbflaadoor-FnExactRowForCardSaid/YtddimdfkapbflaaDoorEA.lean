/-
  E1: The program's chapter 5: goodNo, goodCount, goodPiece, goodPieces, DegreeOf.
  E2: The program's chapter 5: nextFree, PartsOf.
  E3: The program's chapter 5: LetterFor.
  E4: The program's chapter 5: nosIn, differentNos, GoodLetters.
  E5: The program's chapter 5: GoodLetters, partRows.
-/
import Derived.Test.YtddimdfkapbflaaDoorJI
import Derived.Test.YtddimdfkapbflaaDoorJN
import Derived.Maps.OwnSet
import Derived.Maps.AppendAt
import Derived.Test.YtddimdfkapbflaaDoorJO

/- E1 -/
namespace Go.Proofs.YtddimdfkapbflaaDoor
open Go.RowKit

set_option maxRecDepth 100000 in
set_option maxHeartbeats 400000 in
theorem iNo (n : Int) (w : World) : Calls Tryd.prog 42 #[.int .i64 n] w fun e w' => e = .returned (.bool (noOkB n)) ∧ w = w' := by
  by_cases h1 : 0 ≤ n
  · by_cases h2 : n ≤ 999
    · have HE : Hid (noOkB n = true) := inB_true h1 h2
      go_enter Tryd.func42, Tryd.ntmps42
      go_wp2_with fail
      go_ret
      exact ⟨ret_bool' HE.out.symm, rfl⟩
    · have HE : Hid (noOkB n = false) := inB_false (by omega)
      go_enter Tryd.func42, Tryd.ntmps42
      go_wp2_with fail
      go_ret
      exact ⟨ret_bool' HE.out.symm, rfl⟩
  · have HE : Hid (noOkB n = false) := inB_false (by omega)
    go_enter Tryd.func42, Tryd.ntmps42
    go_wp2_with fail
    go_ret
    exact ⟨ret_bool' HE.out.symm, rfl⟩

set_option maxRecDepth 100000 in
set_option maxHeartbeats 400000 in
theorem iCnt (n : Int) (w : World) : Calls Tryd.prog 43 #[.int .i64 n] w fun e w' => e = .returned (.bool (pcOkB n)) ∧ w = w' := by
  by_cases h1 : 1 ≤ n
  · by_cases h2 : n ≤ 8
    · have HE : Hid (pcOkB n = true) := inB_true h1 h2
      go_enter Tryd.func43, Tryd.ntmps43
      go_wp2_with fail
      go_ret
      exact ⟨ret_bool' HE.out.symm, rfl⟩
    · have HE : Hid (pcOkB n = false) := inB_false (by omega)
      go_enter Tryd.func43, Tryd.ntmps43
      go_wp2_with fail
      go_ret
      exact ⟨ret_bool' HE.out.symm, rfl⟩
  · have HE : Hid (pcOkB n = false) := inB_false (by omega)
    go_enter Tryd.func43, Tryd.ntmps43
    go_wp2_with fail
    go_ret
    exact ⟨ret_bool' HE.out.symm, rfl⟩

set_option maxRecDepth 100000 in
set_option maxHeartbeats 400000 in
theorem iPiece5 (n : Int) (w : World) : Calls Tryd.prog 37 #[.int .i64 n] w fun e w' => e = .returned (.bool (pieceB5 n)) ∧ w = w' := by
  by_cases h1 : 0 ≤ n
  · by_cases h2 : n ≤ 4294967295
    · have HE : Hid (pieceB5 n = true) := inB_true h1 h2
      go_enter Tryd.func37, Tryd.ntmps37
      go_wp2_with fail
      go_ret
      exact ⟨ret_bool' HE.out.symm, rfl⟩
    · have HE : Hid (pieceB5 n = false) := inB_false (by omega)
      go_enter Tryd.func37, Tryd.ntmps37
      go_wp2_with fail
      go_ret
      exact ⟨ret_bool' HE.out.symm, rfl⟩
  · have HE : Hid (pieceB5 n = false) := inB_false (by omega)
    go_enter Tryd.func37, Tryd.ntmps37
    go_wp2_with fail
    go_ret
    exact ⟨ret_bool' HE.out.symm, rfl⟩

set_option maxRecDepth 100000 in
set_option maxHeartbeats 1000000 in
theorem iDegree_any (no n : Int) (w : World) : Calls Tryd.prog 38 #[.int .i64 no, .int .i64 n] w fun e w' => e = .returned (.tuple #[.int .i64 (degI no n), .bool (symOkB no n)]) ∧ w = w' := by
  cases h : symOkB no n
  · have HE : Hid (degI no n = 0) := by show _ = _; rw [degI, h]; rfl
    cases hn : noOkB no
    · go_enter Tryd.func38, Tryd.ntmps38
      go_wp2_with (go_at_call 42; refine (iNo _ _).mono ?_; rintro e w' ⟨rfl, rfl⟩)
      go_ret2
      exact ⟨tup HE.out.symm, rfl⟩
    · have hp : pcOkB n = false := by rw [symOkB, hn] at h; simpa using h
      go_enter Tryd.func38, Tryd.ntmps38
      go_wp2_with (first
        | (go_at_call 42; refine (iNo _ _).mono ?_; rintro e w' ⟨rfl, rfl⟩)
        | (go_at_call 43; refine (iCnt _ _).mono ?_; rintro e w' ⟨rfl, rfl⟩))
      go_ret2
      exact ⟨tup HE.out.symm, rfl⟩
  · have HE := Lib.hid h
    obtain ⟨hn, hp⟩ : noOkB no = true ∧ pcOkB n = true := by simpa [symOkB] using h
    obtain ⟨a, b, rfl, rfl, h1, _, _⟩ := sym_nat h
    clear h
    obtain ⟨r, hr⟩ : ∃ r, r = (37 * a + 11) % 20 := ⟨_, rfl⟩
    have hri : ((37 : Int) * (a : Int) + 11) % 20 = (r : Int) := by omega
    have HV : Hid (degI (a : Int) (b : Int) = (min (degT r) b : Nat)) := by show _ = _; rw [degI, if_pos HE.out, Int.toNat_natCast, Int.toNat_natCast, degN, hr]
    obtain ⟨t1, t2, t3, t4⟩ := @degT_at r
    clear hr
    by_cases c1 : r < 4
    · have HT := Lib.hid (t1 c1)
      have ci : (r : Int) < 4 := by omega
      clear t1 t2 t3 t4
      by_cases cm : 1 < (b : Int)
      · go_enter Tryd.func38, Tryd.ntmps38
        go_wp2_with (first | (go_at_call 42; refine (iNo _ _).mono ?_; rintro e w' ⟨rfl, rfl⟩) | (go_at_call 43; refine (iCnt _ _).mono ?_; rintro e w' ⟨rfl, rfl⟩))
        go_ret2
        exact ⟨tup (by rw [HV.out, HT.out]; omega), rfl⟩
      · go_enter Tryd.func38, Tryd.ntmps38
        go_wp2_with (first | (go_at_call 42; refine (iNo _ _).mono ?_; rintro e w' ⟨rfl, rfl⟩) | (go_at_call 43; refine (iCnt _ _).mono ?_; rintro e w' ⟨rfl, rfl⟩))
        go_ret2
        exact ⟨tup (by rw [HV.out, HT.out]; omega), rfl⟩
    · have ci : ¬ (r : Int) < 4 := by omega
      by_cases c2 : r < 12
      · have HT := Lib.hid (t2 c1 c2)
        have di : (r : Int) < 12 := by omega
        clear t1 t2 t3 t4
        by_cases cm : 2 < (b : Int)
        · go_enter Tryd.func38, Tryd.ntmps38
          go_wp2_with (first | (go_at_call 42; refine (iNo _ _).mono ?_; rintro e w' ⟨rfl, rfl⟩) | (go_at_call 43; refine (iCnt _ _).mono ?_; rintro e w' ⟨rfl, rfl⟩))
          go_ret2
          exact ⟨tup (by rw [HV.out, HT.out]; omega), rfl⟩
        · go_enter Tryd.func38, Tryd.ntmps38
          go_wp2_with (first | (go_at_call 42; refine (iNo _ _).mono ?_; rintro e w' ⟨rfl, rfl⟩) | (go_at_call 43; refine (iCnt _ _).mono ?_; rintro e w' ⟨rfl, rfl⟩))
          go_ret2
          exact ⟨tup (by rw [HV.out, HT.out]; omega), rfl⟩
      · have di : ¬ (r : Int) < 12 := by omega
        by_cases c3 : r < 16
        · have HT := Lib.hid (t3 c1 c2 c3)
          have ei : (r : Int) < 16 := by omega
          clear t1 t2 t3 t4
          by_cases cm : 3 < (b : Int)
          · go_enter Tryd.func38, Tryd.ntmps38
            go_wp2_with (first | (go_at_call 42; refine (iNo _ _).mono ?_; rintro e w' ⟨rfl, rfl⟩) | (go_at_call 43; refine (iCnt _ _).mono ?_; rintro e w' ⟨rfl, rfl⟩))
            go_ret2
            exact ⟨tup (by rw [HV.out, HT.out]; omega), rfl⟩
          · go_enter Tryd.func38, Tryd.ntmps38
            go_wp2_with (first | (go_at_call 42; refine (iNo _ _).mono ?_; rintro e w' ⟨rfl, rfl⟩) | (go_at_call 43; refine (iCnt _ _).mono ?_; rintro e w' ⟨rfl, rfl⟩))
            go_ret2
            exact ⟨tup (by rw [HV.out, HT.out]; omega), rfl⟩
        · have HT := Lib.hid (t4 c1 c2 c3)
          have ei : ¬ (r : Int) < 16 := by omega
          clear t1 t2 t3 t4
          by_cases cm : 4 < (b : Int)
          · go_enter Tryd.func38, Tryd.ntmps38
            go_wp2_with (first | (go_at_call 42; refine (iNo _ _).mono ?_; rintro e w' ⟨rfl, rfl⟩) | (go_at_call 43; refine (iCnt _ _).mono ?_; rintro e w' ⟨rfl, rfl⟩))
            go_ret2
            exact ⟨tup (by rw [HV.out, HT.out]; omega), rfl⟩
          · go_enter Tryd.func38, Tryd.ntmps38
            go_wp2_with (first | (go_at_call 42; refine (iNo _ _).mono ?_; rintro e w' ⟨rfl, rfl⟩) | (go_at_call 43; refine (iCnt _ _).mono ?_; rintro e w' ⟨rfl, rfl⟩))
            go_ret2
            exact ⟨tup (by rw [HV.out, HT.out]; omega), rfl⟩

set_option maxRecDepth 100000 in
set_option maxHeartbeats 1000000 in
theorem iPieces5 (A : Option Addr) (zs : List Int) (ca : Nat) (w : World) (ha : Ints w A zs) (hl : zs.length ≤ 1048576) :
    Calls Tryd.prog 27 #[.slice A zs.length ca] w fun e w' => e = .returned (.bool (allIn zs 4294967295)) ∧ w = w' := by
  have HA := Lib.hid ha
  clear ha
  go_enter Tryd.func27, Tryd.ntmps27
  go_wp2_with fail
  go_loopg [7] zs.length (fun gk i wr => ∃ k : Nat, k + gk = zs.length ∧ i = .int .i64 k ∧ allIn (zs.take k) 4294967295 = true ∧ w = wr)
  case atStart => exact ⟨0, by omega, rfl, by simp [allIn], rfl⟩
  case round =>
    obtain ⟨k, hg, rfl, hal, rfl⟩ := hrel
    have HAl := Lib.hid hal
    clear hal
    by_cases hlt : k < zs.length
    · have hki : (k : Int) < (zs.length : Int) := by omega
      have hne : zs ≠ [] := by rintro rfl; simp at hlt
      obtain ⟨b3, o3, rfl, hc⟩ := HA.out hne
      have hc3 := hc k hlt
      have HT : Hid (allIn (zs.take (k + 1)) 4294967295 = (allIn (zs.take k) 4294967295 && pieceB5 zs[k])) := by
        show _ = _
        rw [List.take_succ_eq_append_getElem hlt, allIn, List.all_append]; simp [allIn, pieceB5]
      have HF : Hid (pieceB5 zs[k] = false → allIn zs 4294967295 = false) := fun h => by
        cases hq : allIn zs 4294967295 with
        | false => rfl
        | true =>
          simp only [allIn, List.all_eq_true] at hq
          have := hq zs[k] (List.getElem_mem hlt)
          rw [show inB zs[k] 0 4294967295 = pieceB5 zs[k] from rfl, h] at this
          cases this
      clear hc
      rw [show zs.getD k 0 = zs[k] by simp [List.getD, hlt]] at hc3
      generalize zs[k] = z at *
      cases hp : pieceB5 z
      · go_wp2_with (go_at_call 37; refine (iPiece5 _ _).mono ?_; rintro e w' ⟨rfl, rfl⟩)
        go_ret
        exact ⟨ret_bool' (HF.out hp).symm, rfl⟩
      · have hp2 := hp
        go_wp2_with (go_at_call 37; refine (iPiece5 _ _).mono ?_; rintro e w' ⟨rfl, rfl⟩)
        go_roundg (zs.length - k - 1)
        case measure => omega
        case rel => exact ⟨k + 1, by omega, by go_num, by rw [HT.out, HAl.out, hp2]; rfl, rfl⟩
    · obtain rfl : k = zs.length := by omega
      have HE : Hid (allIn zs 4294967295 = true) := by have := HAl.out; rwa [List.take_length] at this
      have hki : ¬ (zs.length : Int) < (zs.length : Int) := by omega
      go_wp2_with fail
      go_ret
      exact ⟨ret_bool' HE.out.symm, rfl⟩
end Go.Proofs.YtddimdfkapbflaaDoor

/- E2 -/
namespace Go.Proofs.YtddimdfkapbflaaDoor
open Go.RowKit

theorem rise_ext : ∀ {P Q : List Nat}, P.Pairwise (· < ·) → Q.Pairwise (· < ·) → (∀ x, x ∈ P ↔ x ∈ Q) → P = Q
  | [], [], _, _, _ => rfl
  | [], q :: Q, _, _, h => by have := (h q).2 (by simp); cases this
  | p :: P, [], _, _, h => by have := (h p).1 (by simp); cases this
  | p :: P, q :: Q, hp, hq, h => by
    obtain ⟨hp1, hp2⟩ := List.pairwise_cons.1 hp
    obtain ⟨hq1, hq2⟩ := List.pairwise_cons.1 hq
    have e : p = q := by
      rcases List.mem_cons.1 ((h p).1 (by simp)) with e | e
      · exact e
      · rcases List.mem_cons.1 ((h q).2 (by simp)) with e' | e'
        · exact e'.symm
        · have h1 := hq1 p e
          have h2 := hp1 q e'
          omega
    subst e
    rw [rise_ext hp2 hq2 fun x => ?_]
    have hx := h x
    constructor
    · intro hm
      rcases List.mem_cons.1 (hx.1 (List.mem_cons_of_mem _ hm)) with e | e
      · have := hp1 x hm; omega
      · exact e
    · intro hm
      rcases List.mem_cons.1 (hx.2 (List.mem_cons_of_mem _ hm)) with e | e
      · have := hq1 x hm; omega
      · exact e
theorem idxL_rise (m k : Nat) : (idxL m k).Pairwise (· < ·) := List.Pairwise.filter _ List.pairwise_lt_range
theorem idxL_row {n : Nat} {P : List Nat} (h : Rise n P) : idxL (rowN P) n = P := rise_ext (idxL_rise _ _) h.1 fun x => by
  rw [idxL, List.mem_filter, List.mem_range, rowN_bit]
  constructor
  · intro h1; simpa using h1.2
  · intro h1; exact ⟨h.2 x h1, by simpa using h1⟩
theorem bitsL_idx (n : Nat) : ∀ k, bitsL k n = zI (idxL n k)
  | 0 => rfl
  | k + 1 => by
    rw [idxL_succ, zI_append, ← bitsL_idx n k, bitsL, Nat.testBit_eq_decide_div_mod_eq]
    by_cases h : n / 2 ^ k % 2 = 1
    · simp [h, zI]
    · simp [h, zI]
theorem bits_row {n : Nat} {P : List Nat} (h : Rise n P) : bitsL n (rowN P) = zI P := by rw [bitsL_idx, idxL_row h]
theorem rowN_put (L : List Nat) (k : Nat) : rowN (putL L k) = rowN L ||| 2 ^ k := by
  apply Nat.eq_of_testBit_eq
  intro i
  rw [Nat.testBit_or, rowN_bit, rowN_bit, Nat.testBit_two_pow]
  by_cases h1 : i ∈ L <;> by_cases h2 : i = k <;> simp [putL_mem, h1, h2]
  · intro e; exact absurd e.symm h2

set_option maxRecDepth 100000 in
set_option maxHeartbeats 1000000 in
theorem iFree (L : List Nat) (K n : Nat) (w : World) (ht : Tab w) (hK : K < n) (hn : n ≤ 8) (hR : Rise n L) (hL : L.length < n) :
    Calls Tryd.prog 39 #[.int .i64 (rowN L : Nat), .int .i64 K, .int .i64 n] w fun e w' => e = .returned (.int .i64 (freeK L n n K : Nat)) ∧ w = w' := by
  have hn0 : ¬ n = 0 := by omega
  obtain ⟨hout, hKn⟩ := free_ok (L := L) hK hL
  have hr16 : rowN L < 65536 := Nat.lt_of_lt_of_le (rowN_lt hR.2) (Nat.pow_le_pow_right (by omega) (show n ≤ 16 by omega))
  have HB := Lib.hid (rowN_bit L)
  have HT : Hid (∃ T, freeK L n n K = T) := ⟨_, rfl⟩
  obtain ⟨T, hT⟩ := HT.out
  have HFree := Lib.hid hT
  rw [hT] at hout
  rw [hT]
  have HOut := Lib.hid hout
  clear hT hout HT hR hKn
  generalize rowN L = r at *
  go_enter Tryd.func39, Tryd.ntmps39
  go_wp2_with fail
  go_loopg [1] n (fun g2 k wx => ∃ K : Nat, k = .int .i64 K ∧ K < n ∧ freeK L n g2 K = T ∧ w = wx)
  case atStart => exact ⟨K, rfl, hK, HFree.out, rfl⟩
  case round =>
    obtain ⟨K, rfl, hKl, hfr, rfl⟩ := hrel
    have HFr := Lib.hid hfr
    have hc := ht K (by omega)
    have ha := Lib.hid (and_pow_i64 r K hr16 (by omega))
    have hbit := HB.out K
    rw [Nat.testBit_eq_decide_div_mod_eq] at hbit
    have HBit := Lib.hid hbit
    clear hfr hbit
    by_cases hm : K ∈ L
    · have hne : (bits .and .i64 (r : Int) ((2 : Int) ^ K) != 0) = true := by
        rw [ha.out]
        have h1 : r / 2 ^ K % 2 = 1 := by have := HBit.out; simpa [hm] using this
        have := and_pow_ne.2 h1; simp; omega
      cases gk with
      | zero =>
        have e : K = T := HFr.out
        exact absurd (by rw [← e]; exact hm) HOut.out
      | succ f =>
        have HF2 : Hid (freeK L n f ((K + 1) % n) = T) := by
          have h := HFr.out
          rw [freeK, if_pos hm] at h
          exact h
        have HKm : Hid (((K : Int) + 1) % (n : Int) = (((K + 1) % n : Nat) : Int)) := by show _ = _; rw [show (K : Int) + 1 = ((K + 1 : Nat) : Int) by omega]; exact (Int.natCast_emod _ _).symm
        have hK1 : (K + 1) % n < n := Nat.mod_lt _ (by omega)
        generalize (K + 1) % n = K1 at *
        go_wp2_with fail
        go_roundg f
        case measure => omega
        case rel => exact ⟨K1, by rw [HKm.out], hK1, HF2.out, rfl⟩
    · have hne : (bits .and .i64 (r : Int) ((2 : Int) ^ K) != 0) = false := by
        rw [ha.out]
        have h0 : ¬ r / 2 ^ K % 2 = 1 := by have := HBit.out; simpa [hm] using this
        have h0 : r &&& 2 ^ K = 0 := Classical.byContradiction fun h => h0 (and_pow_ne.1 h)
        rw [h0]; rfl
      obtain rfl : K = T := by rw [← HFr.out, freeK_hit hm]
      go_wp2_with fail
      go_ret
      exact ⟨rfl, rfl⟩

set_option maxRecDepth 100000 in
set_option maxHeartbeats 2000000 in
theorem iParts_any (no n : Int) (w : World) (ht : Tab w) : Calls Tryd.prog 30 #[.int .i64 no, .int .i64 n] w fun e w' => ∃ v, e = .returned (.tuple #[v, .bool (symOkB no n)]) ∧ Own w' w.heap.size v (partsI no n) ∧ Below w.heap.size w w' := by
  have HD := Lib.hid (iDegree_any no n w)
  cases h : symOkB no n
  · have HE : Hid (partsI no n = []) := by show _ = _; rw [partsI, h]; rfl
    rw [h] at HD
    go_enter Tryd.func30, Tryd.ntmps30
    go_wp2_with (go_at_call 38; refine HD.out.mono ?_; rintro e w' ⟨rfl, rfl⟩)
    go_ret2
    exact ⟨_, rfl, by rw [HE.out]; exact Own.nil _ _, Below.refl _ _⟩
  · have HE := Lib.hid h
    obtain ⟨a, b, rfl, rfl, h1, h2, h3⟩ := sym_nat h
    have HV : Hid (partsI (a : Int) (b : Int) = zI (partsL a b)) := by show _ = _; rw [partsI, if_pos HE.out, Int.toNat_natCast, Int.toNat_natCast]
    have hdg : degI (a : Int) (b : Int) = (degN a b : Nat) := by rw [degI, if_pos HE.out, Int.toNat_natCast, Int.toNat_natCast]
    rw [h, hdg] at HD
    have hb0 : ¬ b = 0 := by omega
    obtain ⟨X0, hX0⟩ : ∃ x, x = (53 * a + 7) % 8191 := ⟨_, rfl⟩
    have HX0 : Hid (((53 : Int) * (a : Int) + 7) % 8191 = (X0 : Int)) := by show _ = _; omega
    have hX0l : X0 < 8191 := by omega
    obtain ⟨hd1, hd2, hd3⟩ := degN_bd a h2
    have HV2 : Hid (partsK b (degN a b) [] X0 = partsL a b) := by show _ = _; rw [partsL, hX0]
    have HTab := Lib.hid ht
    clear hX0 h hdg
    generalize degN a b = D at *
    generalize hPP : partsL a b = PP at *
    clear hPP
    go_enter Tryd.func30, Tryd.ntmps30
    go_wp2_with (go_at_call 38; refine HD.out.mono ?_; rintro e w' ⟨rfl, rfl⟩)
    go_loopg [8, 9, 23] D (fun gk r x i wr => ∃ (L : List Nat) (X : Nat), L.length + gk = D ∧ i = .int .i64 L.length ∧ r = .int .i64 (rowN L : Nat) ∧ x = .int .i64 X ∧ X < 8191 ∧ Rise b L ∧ partsK b gk L X = PP ∧ w = wr)
    case atStart => exact ⟨[], X0, by simp, rfl, rfl, by rw [HX0.out], hX0l, ⟨List.Pairwise.nil, fun k hk => by cases hk⟩, HV2.out, rfl⟩
    case round =>
      obtain ⟨L, X, hg, rfl, rfl, rfl, hXl, hris, hpk, rfl⟩ := hrel
      have HR := Lib.hid hris
      have HPk := Lib.hid hpk
      have hr16 : rowN L < 256 := Nat.lt_of_lt_of_le (rowN_lt hris.2) (Nat.pow_le_pow_right (by omega) h3)
      clear hris hpk
      cases gk with
      | zero =>
        have hki : ¬ (L.length : Int) < (D : Int) := by omega
        obtain rfl : L = PP := HPk.out
        have HBt := Lib.hid (iBits b (rowN L) w HTab.out (good5 h2 (by omega) (rowN_lt HR.out.2)) (by omega) (by omega))
        rw [bits_row HR.out] at HBt
        generalize rowN L = r at *
        go_wp2_with fail
        refine HBt.out.mono ?_
        rintro e w1 ⟨v1, rfl, ho1, hb1⟩
        have HO1 := Lib.hid ho1
        have HB1 := Lib.hid hb1
        obtain ⟨A1, c1, rfl, _⟩ := ho1.form
        clear ho1 hb1 HBt
        go_wp2_with fail
        go_ret2
        exact ⟨_, rfl, by rw [HV.out]; exact HO1.out, HB1.out⟩
      | succ c =>
        have hki : (L.length : Int) < (D : Int) := by omega
        have hlL : L.length < b := by omega
        obtain ⟨hout, hKn⟩ := free_ok (L := L) (Nat.mod_lt X (show 0 < b by omega)) hlL
        have HP2 : Hid (partsK b c (putL L (freeK L b b (X % b))) ((31 * X + 17) % 8191) = PP) := HPk.out
        have HR2 := Lib.hid (HR.out.put (x := X) (by omega) hlL)
        have HXm : Hid ((X : Int) % (b : Int) = ((X % b : Nat) : Int)) := (Int.natCast_emod _ _).symm
        have HX2 : Hid (((31 : Int) * (X : Int) + 17) % 8191 = (((31 * X + 17) % 8191 : Nat) : Int)) := by show _ = _; omega
        have hX3 : (31 * X + 17) % 8191 < 8191 := Nat.mod_lt _ (by omega)
        have hK0 : X % b < b := Nat.mod_lt _ (by omega)
        generalize (31 * X + 17) % 8191 = X' at *
        generalize hK : X % b = K0 at *
        have HFr := Lib.hid (iFree L K0 b w HTab.out hK0 h3 HR.out hlL)
        rw [← HXm.out] at HFr
        clear hK hout HPk
        generalize freeK L b b K0 = T at *
        have hc := HTab.out T (by omega)
        have HPut := Lib.hid (rowN_put L T)
        have HLn := Lib.hid (putL_length L T)
        have hTp : 2 ^ T ≤ 256 := Nat.le_trans (Nat.pow_le_pow_right (by omega) (show T ≤ 8 by omega)) (by decide)
        have hor := or_i64 (rowN L) (2 ^ T) (by omega) (by omega)
        rw [show ((2 ^ T : Nat) : Int) = (2 : Int) ^ T by simp] at hor
        generalize rowN L = r at *
        go_wp2_with (go_at_call 39; refine HFr.out.mono ?_; rintro e w' ⟨rfl, rfl⟩)
        go_roundg c
        case measure => omega
        case rel => exact ⟨putL L T, X', by rw [HLn.out]; omega, by rw [HLn.out]; go_num, by rw [HPut.out], by rw [HX2.out], hX3, HR2.out, HP2.out, rfl⟩
end Go.Proofs.YtddimdfkapbflaaDoor

/- E3 -/
namespace Go.Proofs.YtddimdfkapbflaaDoor
open Go.RowKit

theorem let_sym (zs : List Int) (no : Int) : letOkB zs no = (symOkB no zs.length && allIn zs 4294967295) := by
  rw [letOkB, blkOkB, symOkB]; cases noOkB no <;> cases pcOkB (zs.length : Int) <;> cases allIn zs 4294967295 <;> rfl

set_option maxRecDepth 100000 in
set_option maxHeartbeats 2000000 in
theorem iLetter_any (A : Option Addr) (zs : List Int) (ca : Nat) (no : Int) (w : World) (ht : Tab w) (ha : Ints w A zs) (hl : zs.length ≤ 1048576) :
    Calls Tryd.prog 17 #[.slice A zs.length ca, .int .i64 no] w fun e w' => e = .returned (.tuple #[letV (letNoI zs no) (letSumI zs no), .bool (letOkB zs no)]) ∧ Below w.heap.size w w' := by
  have ha' := ha.below (gAlloc w (.cells #[.int .i64 0, .int .i64 0] 24))
  have ht' := ht.below (gAlloc w (.cells #[.int .i64 0, .int .i64 0] 24))
  have h2 : (w.alloc (.cells #[.int .i64 0, .int .i64 0] 24)).heap[w.heap.size]? = some (.cells #[.int .i64 0, .int .i64 0] 24 (0, 0)) := heap_alloc_new _ _
  have HPar := Lib.hid (iParts_any no (zs.length : Int) (w.alloc (.cells #[.int .i64 0, .int .i64 0] 24)) ht')
  have HLS := Lib.hid (let_sym zs no)
  have hpl := partsI_len no (zs.length : Int)
  clear ht ht' ha
  have HOver : Hid (∀ w1 : World, Below (w.alloc (.cells #[.int .i64 0, .int .i64 0] 24)).heap.size (w.alloc (.cells #[.int .i64 0, .int .i64 0] 24)) w1 → Ints w1 A zs ∧ w1.heap[w.heap.size]? = some (.cells #[.int .i64 0, .int .i64 0] 24 (0, 0)) ∧ Below w.heap.size w w1) :=
    fun w1 hb1 => ⟨ha'.below hb1, (hb1.block _ (by simp)).trans h2, below_more (gAlloc w _) hb1⟩
  clear ha' h2
  cases hs : symOkB no (zs.length : Int)
  · have hok : letOkB zs no = false := by rw [HLS.out, hs]; rfl
    have HE : Hid (letNoI zs no = 0 ∧ letSumI zs no = 0 ∧ letOkB zs no = false) := by show _ ∧ _ ∧ _; simp [letNoI, letSumI, hok]
    rw [hs] at HPar
    clear hok
    go_enter Tryd.func17, Tryd.ntmps17
    go_wp2_with fail
    refine HPar.out.mono ?_
    rintro e w1 ⟨v1, rfl, ho1, hb1⟩
    obtain ⟨A1, c1, rfl, _⟩ := ho1.form
    obtain ⟨_, h21, hb⟩ := HOver.out w1 hb1
    have hd0 : w1.cell? ⟨w.heap.size, 0, none⟩ = some (.int .i64 0) := cell_of_row w1 _ 0 _ _ _ h21
    have hd1 : w1.cell? ⟨w.heap.size, 1, none⟩ = some (.int .i64 0) := cell_of_row w1 _ 1 _ _ _ h21
    have hg0 := frozen_of_row w1 _ 0 _ _ h21
    have hg1 := frozen_of_row w1 _ 1 _ _ h21
    have HB1 := Lib.hid hb
    have H21 := Lib.hid h21
    clear ho1 hb1 h21 hb HPar HOver
    go_wp2_with fail
    have hgo : ((w1.setCell ⟨w.heap.size, 0, none⟩ (.int .i64 0)).setCell ⟨w.heap.size, 1, none⟩ (.int .i64 0)).heap[w.heap.size]? = some (.cells #[.int .i64 0, .int .i64 0] 24 (0, 0)) :=
      heap_setCell_same _ _ 1 _ _ _ (heap_setCell_same _ _ 0 _ _ _ H21.out)
    obtain ⟨e1, e2, e3⟩ := HE.out
    exact ret_let2 rfl w.heap.size 0 0 false rfl rfl hgo rfl ⟨tupL e1.symm e2.symm e3.symm, (HB1.out.setCell (Nat.le_refl _) _).setCell (Nat.le_refl _) _⟩
  · rw [hs] at HPar
    cases hal : allIn zs 4294967295
    · have hok : letOkB zs no = false := by rw [HLS.out, hs, hal]; rfl
      have HE : Hid (letNoI zs no = 0 ∧ letSumI zs no = 0 ∧ letOkB zs no = false) := by show _ ∧ _ ∧ _; simp [letNoI, letSumI, hok]
      clear hok
      go_enter Tryd.func17, Tryd.ntmps17
      go_wp2_with fail
      refine HPar.out.mono ?_
      rintro e w1 ⟨v1, rfl, ho1, hb1⟩
      obtain ⟨A1, c1, rfl, _⟩ := ho1.form
      obtain ⟨hA1, h21, hb⟩ := HOver.out w1 hb1
      have HG := Lib.hid (iPieces5 A zs ca w1 hA1 hl)
      rw [hal] at HG
      have hd0 : w1.cell? ⟨w.heap.size, 0, none⟩ = some (.int .i64 0) := cell_of_row w1 _ 0 _ _ _ h21
      have hd1 : w1.cell? ⟨w.heap.size, 1, none⟩ = some (.int .i64 0) := cell_of_row w1 _ 1 _ _ _ h21
      have hg0 := frozen_of_row w1 _ 0 _ _ h21
      have hg1 := frozen_of_row w1 _ 1 _ _ h21
      have HB1 := Lib.hid hb
      have H21 := Lib.hid h21
      clear ho1 hb1 h21 hb HPar HOver hA1
      go_wp2_with (go_at_call 27; refine HG.out.mono ?_; rintro e w' ⟨rfl, rfl⟩)
      have hgo : ((w1.setCell ⟨w.heap.size, 0, none⟩ (.int .i64 0)).setCell ⟨w.heap.size, 1, none⟩ (.int .i64 0)).heap[w.heap.size]? = some (.cells #[.int .i64 0, .int .i64 0] 24 (0, 0)) :=
        heap_setCell_same _ _ 1 _ _ _ (heap_setCell_same _ _ 0 _ _ _ H21.out)
      obtain ⟨e1, e2, e3⟩ := HE.out
      exact ret_let2 rfl w.heap.size 0 0 false rfl rfl hgo rfl ⟨tupL e1.symm e2.symm e3.symm, (HB1.out.setCell (Nat.le_refl _) _).setCell (Nat.le_refl _) _⟩
    · have hok : letOkB zs no = true := by rw [HLS.out, hs, hal]; rfl
      have HOk := Lib.hid hok
      obtain ⟨hb, hn⟩ : blkOkB zs = true ∧ noOkB no = true := by simpa [letOkB] using hok
      obtain ⟨B, rfl, hB1, hB8, hB32⟩ := blk_nat hb
      obtain ⟨m, rfl⟩ : ∃ m : Nat, no = m := ⟨no.toNat, by simp [noOkB, inB] at hn; omega⟩
      have hzl := zI_length B
      have hpv : partsI (m : Int) (B.length : Int) = zI (partsL m B.length) := by
        rw [hzl] at hs
        rw [partsI, if_pos hs, Int.toNat_natCast, Int.toNat_natCast]
      have HV : Hid (letNoI (zI B) (m : Int) = (m : Int) ∧ letSumI (zI B) (m : Int) = (sumN B (partsL m B.length) : Nat) ∧ letOkB (zI B) (m : Int) = true) := by
        refine ⟨by rw [letNoI, if_pos HOk.out], ?_, HOk.out⟩
        rw [letSumI, if_pos HOk.out, zI_toNat, Int.toNat_natCast, hzl]
      rw [hzl] at HPar hs hpl
      rw [hpv] at HPar hpl
      rw [zI_length] at hpl
      obtain ⟨hri, hrl⟩ := parts_ok m hB1
      have HRi := Lib.hid hri.2
      have HB32 := Lib.hid hB32
      have HG0 := Lib.hid (fun w1 hA1 => iPieces5 A (zI B) ca w1 hA1 hl)
      rw [hzl, hal] at HG0
      rw [hzl]
      clear hok hb hpv HLS hri hrl hal hB32
      generalize partsL m B.length = P at *
      go_enter Tryd.func17, Tryd.ntmps17
      go_wp2_with fail
      refine HPar.out.mono ?_
      rintro e w1 ⟨v1, rfl, ho1, hb1⟩
      obtain ⟨A1, c1, rfl, hI1⟩ := ho1.form
      rw [zI_length]
      obtain ⟨hA1, h21, hb⟩ := HOver.out w1 hb1
      have HG := Lib.hid (HG0.out w1 hA1)
      have HA1 := Lib.hid hA1
      have HI1 := Lib.hid hI1
      have HB1 := Lib.hid hb
      have H21 := Lib.hid h21
      clear ho1 hb1 h21 hb HPar HOver hA1 hI1 HG0
      go_wp2_with (go_at_call 27; refine HG.out.mono ?_; rintro e w' ⟨rfl, rfl⟩)
      go_loopg [8, 28] P.length (fun gk s i wr => ∃ k : Nat, k + gk = P.length ∧ i = .int .i64 k ∧ s = .int .i64 (sumN B (P.take k) : Nat) ∧ w1 = wr)
      case atStart => exact ⟨0, by omega, rfl, rfl, rfl⟩
      case round =>
        obtain ⟨k, hg, rfl, rfl, rfl⟩ := hrel
        by_cases hlt : k < P.length
        · have hki : (k : Int) < (P.length : Int) := by omega
          obtain ⟨b3, o3, rfl, hc3⟩ := HI1.out.cellN hlt
          have hzl := HRi.out P[k] (List.getElem_mem hlt)
          have HS := Lib.hid (sumN_snoc (R := B) hlt)
          have hs32 := sumN_lt (K := P.take k) HB32.out
          have HGK : Hid (P.length - k - 1 < gk ∧ k + 1 + (P.length - k - 1) = P.length) := by show _ ∧ _; omega
          generalize P[k] = z at *
          obtain ⟨b4, o4, rfl, hc4⟩ := HA1.out.cellN hzl
          have hr32 := HB32.out B[z] (List.getElem_mem hzl)
          rw [show B.getD z 0 = B[z] by simp [List.getD, hzl]] at HS
          generalize B[z] = y at *
          generalize sumN B (P.take k) = q at *
          have hx := xor_i64 q y (by omega) (by omega)
          have hzi : (z : Int) < (B.length : Int) := by omega
          clear hg
          go_wp2_with fail
          go_roundg (P.length - k - 1)
          case measure => exact HGK.out.1
          case rel => exact ⟨k + 1, HGK.out.2, by go_num, by rw [HS.out], rfl⟩
        · obtain rfl : k = P.length := by omega
          rw [List.take_length]
          have hki : ¬ (P.length : Int) < (P.length : Int) := by omega
          have h21 := H21.out
          have hd0 : w1.cell? ⟨w.heap.size, 0, none⟩ = some (.int .i64 0) := cell_of_row w1 _ 0 _ _ _ h21
          have hd1 : w1.cell? ⟨w.heap.size, 1, none⟩ = some (.int .i64 0) := cell_of_row w1 _ 1 _ _ _ h21
          have hg0 := frozen_of_row w1 _ 0 _ _ h21
          have hg1 := frozen_of_row w1 _ 1 _ _ h21
          clear h21
          generalize sumN B P = S at *
          go_wp2_with fail
          have hgo : ((w1.setCell ⟨w.heap.size, 0, none⟩ (.int .i64 m)).setCell ⟨w.heap.size, 1, none⟩ (.int .i64 S)).heap[w.heap.size]? = some (.cells #[.int .i64 m, .int .i64 S] 24 (0, 0)) :=
            heap_setCell_same _ _ 1 _ _ _ (heap_setCell_same _ _ 0 _ _ _ H21.out)
          obtain ⟨e1, e2, e3⟩ := HV.out
          exact ret_let2 rfl w.heap.size m S true rfl rfl hgo rfl ⟨tupL e1.symm e2.symm e3.symm, (HB1.out.setCell (Nat.le_refl _) _).setCell (Nat.le_refl _) _⟩
end Go.Proofs.YtddimdfkapbflaaDoor

/- E4 -/
namespace Go.Proofs.YtddimdfkapbflaaDoor
open Go.RowKit Go.Maps

/-- One number, whatever it is, appended to a slice of the call's own. -/
theorem app_any {ops : Array Oper} {rest : List Oper} {o : Oper} {a : Act} {Q : Exit → Act → World → Prop} (W : World) (base : Nat) (v : Value) (l : List Int) (z : Int) (Bn : Nat) (hBn : Bn = W.heap.size) (hgd : o.guard = none) (s x : Operand)
    (ho : o.op = .call { callee := .builtin .append, args := #[s, x], argTypes := #[22, 22] }) (hs : a.eval s = v) (hx : a.eval x = .slice (some ⟨Bn, 0, none⟩) 1 1)
    (hown : Own W base v l) (hbase : base ≤ W.heap.size) (hlen : l.length ≤ 2000000) (w0 : World) (hb : Below base w0 W)
    (h : ∀ v' w', Hid (Own w' base v' (l ++ [z]) ∧ Below base w0 w' ∧ (W.alloc (.cells #[.int .i64 z] 3)).grownBy w' v.ownBlock) → wpList Tryd.prog ops Q rest (a.put o.dst v') w') :
    wpList Tryd.prog ops Q (o :: rest) a (W.alloc (.cells #[.int .i64 z] 3)) := by
  subst hBn
  obtain ⟨i0, hi, hz0, hz1, hz2⟩ := info_parts intInfo
  have hown' : W.ownsRow base 3 1 v l.length (l.map (Value.int .i64)) := hown
  refine wpList_append_own _ hgd s x 22 ho base 3 i0 (.int .i64 0) 1 8 Tryd.underlying22 hi hz0 hz1 hz2 rfl (by decide) v l.length _ hs (hown'.alloc _) ⟨W.heap.size, 0, none⟩ 1 1 [.int .i64 z] hx rfl (cell_one_new _ _ _) ?_ ?_ ?_ ?_ ?_
  · intro u hu; simp at hu; subst hu; rfl
  · unfold maxLen; omega
  · omega
  · simp; omega
  · intro v' w' h1 h2 _
    refine h v' w' ⟨?_, (hb.alloc hbase _).grown h2 (by simp; omega) (fun g hg => (hown.lt g hg).1), h2⟩
    unfold Own; simpa using h1

/-- An element that reads as a truth value's datum is that truth value. -/
theorem plainElem_bool_inv {H : Type} {P : Program} {e : TypeId} (he : P.underlying e = some .bool) {v : Value} {z : DataW H × List MemPlace} (h : plainElem P e v = some z) : ∃ a, v = .bool a ∧ z = (.lit (.bool a), []) := by
  unfold plainElem at h
  rw [he] at h
  cases v <;> simp at h
  exact ⟨_, rfl, h.symm⟩
/-- The set's elements: a number lies in it just where it is among those of the list. -/
def Seen (w : World) (b n : Nat) (L : List Int) : Prop :=
  ∃ D : DataW Unit, w.ownsMap Tryd.prog 3 (plainElem Tryd.prog 4) b n D ∧ ∀ x : Int, D.atKey (.int .i64 x) (.lit (.bool false)) = .lit (.bool (decide (x ∈ L)))
theorem wf_small {x : Int} (h0 : 0 ≤ x) (h1 : x ≤ 1000000) : (Lit.int .i64 x).wf = true := by
  simp only [Lit.wf, Bool.and_eq_true, decide_eq_true_eq]
  exact ⟨Int.le_trans (by decide) h0, Int.le_trans h1 (by decide)⟩

end Go.Proofs.YtddimdfkapbflaaDoor

/- E5 -/
namespace Go.Proofs.YtddimdfkapbflaaDoor
open Go.RowKit Go.Maps

def sumsB (ls : List (Int × Int)) : Bool := ls.all fun x => pieceB5 x.2
theorem newB_mem (ls : List (Int × Int)) (n : Int) : newB ls n = !decide (n ∈ ls.map Prod.fst) := by
  unfold newB
  by_cases h : n ∈ ls.map Prod.fst
  · simp only [h, decide_true, Bool.not_true, List.all_eq_false]
    obtain ⟨x, hx, rfl⟩ := List.mem_map.1 h
    exact ⟨x, hx, by simp⟩
  · simp only [h, decide_false, Bool.not_false, List.all_eq_true]
    intro x hx
    have : x.1 ≠ n := fun e => h (List.mem_map.2 ⟨x, hx, e⟩)
    simp [this]
theorem okTo_split (ls : List (Int × Int)) : ∀ k, k ≤ ls.length → okTo ls k = (sumsB (ls.take k) && (allIn ((ls.map Prod.fst).take k) 999 && disTo (ls.map Prod.fst) k))
  | 0, _ => rfl
  | k + 1, h => by
    have hk : k < ls.length := by omega
    have hk' : k < (ls.map Prod.fst).length := by rw [List.length_map]; omega
    rw [okTo, okTo_split ls k (by omega), disTo, List.take_succ_eq_append_getElem hk, List.take_succ_eq_append_getElem hk', newB_mem, letB,
      show ls.getD k (0, 0) = ls[k] by simp [List.getD, hk], show (ls.map Prod.fst).getD k 0 = ls[k].1 by simp [List.getD, hk], List.map_take]
    simp only [sumsB, allIn, List.all_append, List.all_cons, List.all_nil, List.getElem_map, noOkB]
    generalize (ls.take k).all (fun x => pieceB5 x.2) = q1
    generalize ((ls.map Prod.fst).take k).all (fun z => inB z 0 999) = q2
    generalize disTo (ls.map Prod.fst) k = q3
    generalize inB ls[k].1 0 999 = q4
    generalize pieceB5 ls[k].2 = q5
    generalize decide (ls[k].1 ∈ (ls.map Prod.fst).take k) = q6
    cases q1 <;> cases q2 <;> cases q3 <;> cases q4 <;> cases q5 <;> cases q6 <;> rfl
theorem goodLB_split (n : Int) (ls : List (Int × Int)) : goodLB n ls = (pcOkB n && (decide (ls.length ≤ 40) && (sumsB ls && (allIn (ls.map Prod.fst) 999 && disTo (ls.map Prod.fst) (ls.map Prod.fst).length)))) := by
  have := okTo_split ls ls.length (Nat.le_refl _)
  rw [List.take_length, List.take_of_length_le (by simp)] at this
  rw [goodLB, this, List.length_map]
  generalize sumsB ls = q1
  generalize allIn (ls.map Prod.fst) 999 = q2
  generalize disTo (ls.map Prod.fst) ls.length = q3
  generalize decide (ls.length ≤ 40) = q4
  cases pcOkB n <;> cases q1 <;> cases q2 <;> cases q3 <;> cases q4 <;> rfl

theorem row_parts {n no : Nat} (hn1 : 1 ≤ n) (hn8 : n ≤ 8) (hno : no ≤ 999) : rowI (n : Int) (partsI (no : Int) (n : Int)) = (rowOfN n no : Nat) := by
  have hs : symOkB (no : Int) (n : Int) = true := by simp [symOkB, noOkB, pcOkB, inB]; omega
  obtain ⟨hri, _⟩ := parts_ok no hn1
  have hlt := rowOf_lt no hn1
  have hb : bitsL n (rowOfN n no) = partsI (no : Int) (n : Int) := by
    rw [partsI, if_pos hs, Int.toNat_natCast, Int.toNat_natCast]; exact bits_row hri
  have hr : rowOkB (n : Int) (bitsL n (rowOfN n no)) = true := by
    rw [rowOkB, wideB_true (by omega) (by omega), bitsL_rise n _ 0 (Int.le_refl 0)]; rfl
  rw [← hb, rowI, if_pos hr, rowL_bits, Nat.mod_eq_of_lt hlt]

theorem nat_zI {zs : List Int} (h : allIn zs 999 = true) : ∃ N : List Nat, zs = zI N ∧ N.length = zs.length ∧ ∀ x ∈ N, x ≤ 999 := by
  simp only [allIn, inB, Bool.and_eq_true, List.all_eq_true, decide_eq_true_eq] at h
  refine ⟨zs.map Int.toNat, ?_, List.length_map _, fun x hx => ?_⟩
  · unfold zI
    rw [List.map_map]
    conv => lhs; rw [← List.map_id zs]
    refine List.map_congr_left fun z hz => ?_
    have := h z hz
    simp; omega
  · obtain ⟨z, hz, rfl⟩ := List.mem_map.1 hx
    have := h z hz
    omega
theorem rowsB_rows {n : Nat} {nos : List Nat} (hn1 : 1 ≤ n) (hn8 : n ≤ 8) (hl : nos.length ≤ 20) : rowsB (n : Int) (zI (nos.map (rowOfN n))) = true := by
  have hw : wideB (n : Int) = true := by simp [wideB]; omega
  have hall : allG (n : Int) (zI (nos.map (rowOfN n))) = true := by
    rw [allG, List.all_eq_true]
    intro z hz
    obtain ⟨r, hr, rfl⟩ := List.mem_map.1 hz
    obtain ⟨no, _, rfl⟩ := List.mem_map.1 hr
    exact good5 hn1 (by omega) (rowOf_lt no hn1)
  rw [rowsB, hw, zI_length, hall, List.length_map]
  simp [hl]

end Go.Proofs.YtddimdfkapbflaaDoor
