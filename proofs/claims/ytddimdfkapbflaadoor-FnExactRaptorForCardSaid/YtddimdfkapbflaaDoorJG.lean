/-
  The model of chapter 5: l5Degree, DegreeOf, l5Parts, PartsOf.
-/
import Derived.Test.YtddimdfkapbflaaDoorJF
namespace Go.Proofs.YtddimdfkapbflaaDoor
open Go.RowKit

def noOkB (no : Int) : Bool := inB no 0 999
def pcOkB (n : Int) : Bool := inB n 1 8
def symOkB (no n : Int) : Bool := noOkB no && pcOkB n
def degI (no n : Int) : Int := if symOkB no n = true then (degN no.toNat n.toNat : Nat) else 0
def partsI (no n : Int) : List Int := if symOkB no n = true then zI (partsL no.toNat n.toNat) else []
theorem sym_nat {no n : Int} (h : symOkB no n = true) : ∃ a b : Nat, no = a ∧ n = b ∧ a ≤ 999 ∧ 1 ≤ b ∧ b ≤ 8 := by
  simp [symOkB, noOkB, pcOkB, inB] at h
  exact ⟨no.toNat, n.toNat, by omega, by omega, by omega, by omega, by omega⟩
theorem partsI_len (no n : Int) : (partsI no n).length ≤ 4 := by
  unfold partsI; split
  · rename_i h
    obtain ⟨a, b, rfl, rfl, _, hb, _⟩ := sym_nat h
    rw [zI_length, Int.toNat_natCast, Int.toNat_natCast, (parts_ok a hb).2]
    exact (degN_bd a hb).2.1
  · simp

set_option maxRecDepth 100000 in
set_option maxHeartbeats 400000 in
theorem gLeast (a b : Int) (w : World) : Calls Tryd.prog 41 #[.int .i64 a, .int .i64 b] w fun e w' => e = .returned (.int .i64 (min a b)) ∧ w = w' := by
  by_cases h : a < b
  · go_enter Tryd.func41, Tryd.ntmps41
    go_wp2_with fail
    go_ret
    exact ⟨ret_int (by omega), rfl⟩
  · go_enter Tryd.func41, Tryd.ntmps41
    go_wp2_with fail
    go_ret
    exact ⟨ret_int (by omega), rfl⟩
set_option maxRecDepth 100000 in
set_option maxHeartbeats 400000 in
theorem sNo (n : Int) (w : World) : Calls Tryd.prog 13 #[.int .i64 n] w fun e w' => e = .returned (.bool (noOkB n)) ∧ w = w' := by
  go_enter Tryd.func13, Tryd.ntmps13
  go_wp2_with (go_at_call 23; refine (l1In_any _ _ _ _).mono ?_; rintro e w' ⟨rfl, rfl⟩)
  go_ret
  exact ⟨rfl, rfl⟩
set_option maxRecDepth 100000 in
set_option maxHeartbeats 400000 in
theorem sPc (n : Int) (w : World) : Calls Tryd.prog 32 #[.int .i64 n] w fun e w' => e = .returned (.bool (pcOkB n)) ∧ w = w' := by
  go_enter Tryd.func32, Tryd.ntmps32
  go_wp2_with (go_at_call 23; refine (l1In_any _ _ _ _).mono ?_; rintro e w' ⟨rfl, rfl⟩)
  go_ret
  exact ⟨rfl, rfl⟩

theorem degT_at {r : Nat} : (r < 4 → degT r = 1) ∧ (¬ r < 4 → r < 12 → degT r = 2) ∧ (¬ r < 4 → ¬ r < 12 → r < 16 → degT r = 3) ∧ (¬ r < 4 → ¬ r < 12 → ¬ r < 16 → degT r = 4) := by
  unfold degT
  refine ⟨fun h => by simp [h], fun h h2 => by simp [h, h2], fun h h2 h3 => by simp [h, h2, h3], fun h h2 h3 => by simp [h, h2, h3]⟩
set_option maxRecDepth 100000 in
set_option maxHeartbeats 1000000 in
theorem sDegree (no n : Nat) (w : World) (h1 : no ≤ 999) :
    Calls Tryd.prog 34 #[.int .i64 no, .int .i64 n] w fun e w' => e = .returned (.int .i64 (degN no n : Nat)) ∧ w = w' := by
  obtain ⟨r, hr⟩ : ∃ r, r = (37 * no + 11) % 20 := ⟨_, rfl⟩
  have hri : ((37 : Int) * (no : Int) + 11) % 20 = (r : Int) := by omega
  have HV : Hid (degN no n = min (degT r) n) := by show _ = _; rw [degN, hr]
  obtain ⟨t1, t2, t3, t4⟩ := @degT_at r
  clear hr
  by_cases c1 : r < 4
  · have HT := Lib.hid (t1 c1)
    have ci : (r : Int) < 4 := by omega
    clear t1 t2 t3 t4
    go_enter Tryd.func34, Tryd.ntmps34
    go_wp2_with (go_at_call 41; refine (gLeast _ _ _).mono ?_; rintro e w' ⟨rfl, rfl⟩)
    go_ret
    exact ⟨ret_int (by rw [HV.out, HT.out]; omega), rfl⟩
  · have ci : ¬ (r : Int) < 4 := by omega
    by_cases c2 : r < 12
    · have HT := Lib.hid (t2 c1 c2)
      have di : (r : Int) < 12 := by omega
      clear t1 t2 t3 t4
      go_enter Tryd.func34, Tryd.ntmps34
      go_wp2_with (go_at_call 41; refine (gLeast _ _ _).mono ?_; rintro e w' ⟨rfl, rfl⟩)
      go_ret
      exact ⟨ret_int (by rw [HV.out, HT.out]; omega), rfl⟩
    · have di : ¬ (r : Int) < 12 := by omega
      by_cases c3 : r < 16
      · have HT := Lib.hid (t3 c1 c2 c3)
        have ei : (r : Int) < 16 := by omega
        clear t1 t2 t3 t4
        go_enter Tryd.func34, Tryd.ntmps34
        go_wp2_with (go_at_call 41; refine (gLeast _ _ _).mono ?_; rintro e w' ⟨rfl, rfl⟩)
        go_ret
        exact ⟨ret_int (by rw [HV.out, HT.out]; omega), rfl⟩
      · have HT := Lib.hid (t4 c1 c2 c3)
        have ei : ¬ (r : Int) < 16 := by omega
        clear t1 t2 t3 t4
        go_enter Tryd.func34, Tryd.ntmps34
        go_wp2_with (go_at_call 41; refine (gLeast _ _ _).mono ?_; rintro e w' ⟨rfl, rfl⟩)
        go_ret
        exact ⟨ret_int (by rw [HV.out, HT.out]; omega), rfl⟩

theorem freeK_hit {L : List Nat} {n f k : Nat} (h : k ∉ L) : freeK L n f k = k := by
  cases f with
  | zero => rfl
  | succ f => rw [freeK, if_neg h]

set_option maxRecDepth 100000 in
set_option maxHeartbeats 2000000 in
theorem sParts (no n : Nat) (w : World) (h1 : no ≤ 999) (h2 : 1 ≤ n) (h3 : n ≤ 8) :
    Calls Tryd.prog 25 #[.int .i64 no, .int .i64 n] w fun e w' => ∃ v, e = .returned v ∧ Own w' w.heap.size v (zI (partsL no n)) ∧ Below w.heap.size w w' := by
  have hn0 : ¬ n = 0 := by omega
  obtain ⟨X0, hX0⟩ : ∃ x, x = (53 * no + 7) % 8191 := ⟨_, rfl⟩
  have HX0 : Hid (((53 : Int) * (no : Int) + 7) % 8191 = (X0 : Int)) := by show _ = _; omega
  have hX0l : X0 < 8191 := by omega
  obtain ⟨hd1, hd2, hd3⟩ := degN_bd no h2
  have HV : Hid (partsK n (degN no n) [] X0 = partsL no n) := by show _ = _; rw [partsL, hX0]
  have HD := Lib.hid (fun w => sDegree no n w h1)
  clear hX0
  generalize degN no n = D at *
  generalize hPP : partsL no n = PP at *
  clear hPP
  go_enter Tryd.func25, Tryd.ntmps25
  go_wp2_with fail
  go_loopg [5, 6] D (fun gk v x wr => ∃ (L : List Nat) (X : Nat), L.length + gk = D ∧ x = .int .i64 X ∧ X < 8191 ∧ Rise n L ∧ partsK n gk L X = PP ∧ Own wr w.heap.size v (zI L) ∧ Below w.heap.size w wr)
  case atStart => exact ⟨[], X0, by simp, by rw [HX0.out], hX0l, ⟨List.Pairwise.nil, fun k hk => by cases hk⟩, HV.out, Own.nil _ _, Below.refl _ _⟩
  case round =>
    obtain ⟨L, X, hg, rfl, hXl, hris, hpk, hown, hbel⟩ := hrel
    have HR := Lib.hid hris
    have HPk := Lib.hid hpk
    have HO := Lib.hid hown
    have HB := Lib.hid hbel
    have hbs := hbel.size
    obtain ⟨A1, c1, rfl, hI1⟩ := hown.form
    have HI := Lib.hid hI1
    have hzl := zI_length L
    rw [hzl]
    clear hris hpk hown hbel hI1
    cases gk with
    | zero =>
      have hki : ¬ (L.length : Int) < (D : Int) := by omega
      have HE : Hid (L = PP) := HPk.out
      go_wp2_with (go_at_call 34; refine (HD.out _).mono ?_; rintro e w' ⟨rfl, rfl⟩)
      go_ret
      exact ⟨_, rfl, by rw [← HE.out]; have := HO.out; rw [hzl] at this; exact this, HB.out⟩
    | succ c =>
      have hki : (L.length : Int) < (D : Int) := by omega
      have hlL : L.length < n := by omega
      obtain ⟨hout, hKn⟩ := free_ok (L := L) (Nat.mod_lt X (show 0 < n by omega)) hlL
      have HP2 : Hid (partsK n c (putL L (freeK L n n (X % n))) ((31 * X + 17) % 8191) = PP) := HPk.out
      have HR2 := Lib.hid (HR.out.put (x := X) (by omega) hlL)
      have HXm : Hid ((X : Int) % (n : Int) = ((X % n : Nat) : Int)) := (Int.natCast_emod _ _).symm
      have HX2 : Hid (((31 : Int) * (X : Int) + 17) % 8191 = (((31 * X + 17) % 8191 : Nat) : Int)) := by show _ = _; omega
      have hX3 : (31 * X + 17) % 8191 < 8191 := Nat.mod_lt _ (by omega)
      have hK0 : X % n < n := Nat.mod_lt _ (by omega)
      have HOut := Lib.hid hout
      generalize (31 * X + 17) % 8191 = X' at *
      generalize hK : X % n = K0 at *
      clear hK
      have HT : Hid (∃ T, freeK L n n K0 = T) := ⟨_, rfl⟩
      obtain ⟨T, hT⟩ := HT.out
      rw [hT] at HOut hKn HP2 HR2
      have HFree := Lib.hid hT
      have HOL : Hid (Own wr w.heap.size (.slice A1 L.length c1) (zI L)) := by have := HO.out; rw [hzl] at this; exact this
      have HHas : Hid (∀ (k : Nat) (wx : World), Ints wx A1 (zI L) → Calls Tryd.prog 35 #[.slice A1 L.length c1, .int .i64 k] wx fun e w' => e = .returned (.bool (decide (k ∈ L))) ∧ wx = w') := fun k wx hx => by
        have := sHas A1 (zI L) c1 (k : Int) wx hx (by rw [hzl]; omega)
        rw [hzl, has_zI] at this
        exact this
      clear hT hout HPk HO hzl HT
      go_wp2_with (go_at_call 34; refine (HD.out _).mono ?_; rintro e w' ⟨rfl, rfl⟩)
      go_loopg [7] n (fun g2 k wx => ∃ K : Nat, k = .int .i64 K ∧ K < n ∧ freeK L n g2 K = T ∧ wr = wx)
      case atStart => exact ⟨K0, by rw [HXm.out], hK0, HFree.out, rfl⟩
      case round =>
        obtain ⟨K, rfl, hKl, hfr, rfl⟩ := hrel
        have HFr := Lib.hid hfr
        clear hfr
        by_cases hm : K ∈ L
        · have hmb : decide (K ∈ L) = true := by simpa using hm
          cases gk with
          | zero =>
            have e : K = T := HFr.out
            exact absurd (by rw [← e]; exact hm) HOut.out
          | succ f =>
            have HF2 : Hid (freeK L n f ((K + 1) % n) = T) := by
              have h := HFr.out
              rw [freeK, if_pos hm] at h
              exact h
            have HKm : Hid (((K : Int) + 1) % (n : Int) = (((K + 1) % n : Nat) : Int)) := by show _ = _; rw [show (K : Int) + 1 = ((K + 1 : Nat) : Int) by omega]; exact (Int.natCast_emod _ _).symm
            have hK1 : (K + 1) % n < n := Nat.mod_lt _ (by omega)
            have HHk := Lib.hid (HHas.out K wr HI.out)
            rw [hmb] at HHk
            generalize (K + 1) % n = K1 at *
            go_wp2_with (go_at_call 35; refine HHk.out.mono ?_; rintro e w' ⟨rfl, rfl⟩)
            go_roundg f
            case measure => omega
            case rel => exact ⟨K1, by rw [HKm.out], hK1, HF2.out, rfl⟩
        · have hmb : decide (K ∈ L) = false := by simpa using hm
          obtain rfl : K = T := by rw [← HFr.out, freeK_hit hm]
          have HHk := Lib.hid (HHas.out K wr HI.out)
          rw [hmb] at HHk
          have HPu := Lib.hid (sPutL (.slice A1 L.length c1) L K w.heap.size wr HOL.out hm (by omega))
          go_wp2_with (go_at_call 35; refine HHk.out.mono ?_; rintro e w' ⟨rfl, rfl⟩)
          refine HPu.out.mono ?_
          rintro e w2 ⟨v2, rfl, ho2, hb2⟩
          have HO2 := Lib.hid (ho2.lower hbs)
          have HB2 := Lib.hid (below_more HB.out hb2)
          clear ho2 hb2 HPu HHk
          go_wp2_with fail
          go_roundg c
          case measure => omega
          case rel => exact ⟨putL L K, X', by rw [putL_length]; omega, by rw [HX2.out], hX3, HR2.out, HP2.out, HO2.out, HB2.out⟩

end Go.Proofs.YtddimdfkapbflaaDoor
