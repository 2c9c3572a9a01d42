/-
  GA: The model of chapter 10, begun: l10Sum, SumOf, l10Digits, l10Int.
  GB: The model of chapter 10: l10Text, l10Record, RecordText.
  GC: The model of chapter 10: ReadRecord.
  GD: The model of chapter 10: l10Log, ReadLog, NextNo, CrashLog.
  GE: The model of chapter 10: CrashLog, Append.
  GF: The laws' helpers on records (flat.py): eqRecord, eqRecordS, markRecordS, heldRecordS.
  GH: The mathematics of chapter 10: a record comes back from its text; the log of a disk, its numbers, its next record, the crash of a synced disk.
  GP: The laws' helpers that FnLog and FnAppended call: sameRecords, numberOf by its value.
-/
import Derived.Test.YthbjcipdneminaaDoorKY
import Derived.Test.YthbjcipdneminaaDoorDI

/- GA -/
namespace Go.Proofs.YthbjcipdneminaaDoor
open Go.RowKit

/-- The checksum over the first k bytes. -/
def smB (s : ByteArray) : Nat → Nat
  | 0 => 0
  | k + 1 => (smB s k + (k + 1) * (s[k]?.getD 0).toNat) % 9973
theorem smB_lt (s : ByteArray) : ∀ k, smB s k < 9973
  | 0 => Nat.zero_lt_succ _
  | k + 1 => Nat.mod_lt _ (by omega)

set_option maxRecDepth 100000 in
set_option maxHeartbeats 1000000 in
theorem sSum10 (s : ByteArray) (w : World) (hl : s.size ≤ 1048576) :
    Calls Tryd.prog 45 #[.string s] w fun e w' => e = .returned (.int .i64 (smB s s.size : Nat)) ∧ w = w' := by
  go_enter Tryd.func45, Tryd.ntmps45
  go_wp2_with fail
  go_loopg [3, 4] s.size (fun gk nv iv wr => ∃ t : Nat, t + gk = s.size ∧ iv = .int .i64 t ∧ nv = .int .i64 (smB s t : Nat) ∧ w = wr)
  case atStart => exact ⟨0, by omega, rfl, rfl, rfl⟩
  case round =>
    obtain ⟨t, hg, rfl, rfl, rfl⟩ := hrel
    by_cases hlt : t < s.size
    · have hti : (t : Int) < (s.size : Int) := by omega
      have HG : Hid (s.size - t - 1 < gk ∧ t + 1 + (s.size - t - 1) = s.size) := by show _ ∧ _; omega
      clear hg
      have hb : s[t].toNat ≤ 255 := by have := s[t].toNat_lt; omega
      have hsm := smB_lt s t
      have HS : Hid (((smB s t : Int) + ((t : Int) + 1) * (s[t].toNat : Int)).tmod 9973 = ((smB s (t + 1) : Nat) : Int)) := by
        show _ = _
        have h0 : ((smB s t : Int) + ((t : Int) + 1) * (s[t].toNat : Int)) = ((smB s t + (t + 1) * s[t].toNat : Nat) : Int) := by simp
        rw [h0, Int.tmod_eq_emod_of_nonneg (Int.natCast_nonneg _), show smB s (t + 1) = (smB s t + (t + 1) * (s[t]?.getD 0).toNat) % 9973 from rfl, getElem?_pos s t hlt]
        rfl
      have hp0 : (0 : Int) ≤ ((t : Int) + 1) * (s[t].toNat : Int) := Int.mul_nonneg (by omega) (by omega)
      have hp1 : ((t : Int) + 1) * (s[t].toNat : Int) ≤ 1048577 * 255 := Int.mul_le_mul (by omega) (by omega) (by omega) (by omega)
      go_wp2_with fail
      go_roundg (s.size - t - 1)
      case measure => exact HG.out.1
      case rel => exact ⟨t + 1, HG.out.2, by go_num, by first | rw [HS.out] | (rw [← HS.out]; go_num), rfl⟩
    · obtain rfl : t = s.size := by omega
      have hti : ¬ (s.size : Int) < (s.size : Int) := by omega
      go_wp2_with fail
      go_ret
      exact ⟨rfl, rfl⟩

/-- SumOf's answer, and whether there is one. -/
def suOkB (s : ByteArray) : Bool := decide (s.size ≤ 60)
def suI (s : ByteArray) : Nat := if s.size ≤ 60 then smB s s.size else 0
set_option maxRecDepth 100000 in
set_option maxHeartbeats 1000000 in
theorem sSumOf_any (s : ByteArray) (w : World) (hl : s.size ≤ 9223372036854775807) :
    Calls Tryd.prog 19 #[.string s] w fun e w' => e = .returned (.tuple #[.int .i64 (suI s : Nat), .bool (suOkB s)]) ∧ w = w' := by
  by_cases h : s.size ≤ 60
  · have hi : ¬ (60 : Int) < (s.size : Int) := by omega
    have HS : Hid (suI s = smB s s.size ∧ suOkB s = true) := by show _ ∧ _; simp [suI, suOkB, h]
    go_enter Tryd.func19, Tryd.ntmps19
    go_wp2_with fail
    refine (sSum10 s w (by omega)).mono ?_
    rintro e w1 ⟨rfl, rfl⟩
    go_wp2_with fail
    go_ret2
    exact ⟨by rw [HS.out.1, HS.out.2]; rfl, rfl⟩
  · have hi : (60 : Int) < (s.size : Int) := by omega
    have HS : Hid (suI s = 0 ∧ suOkB s = false) := by show _ ∧ _; simp [suI, suOkB, h]
    go_enter Tryd.func19, Tryd.ntmps19
    go_wp2_with fail
    go_ret2
    exact ⟨by rw [HS.out.1, HS.out.2]; rfl, rfl⟩

/-- A number by k digits, ahead of what there is. -/
def dgA : Nat → Nat → ByteArray → ByteArray
  | 0, _, acc => acc
  | k + 1, n, acc => dgA k (n / 10) (strB [48 + n % 10] ++ acc)
theorem dgA_size : ∀ (k n : Nat) (acc : ByteArray), (dgA k n acc).size = k + acc.size
  | 0, _, acc => by rw [dgA]; omega
  | k + 1, n, acc => by rw [dgA, dgA_size k, size_append9, strB_size, List.length_singleton]; omega
set_option maxRecDepth 100000 in
set_option maxHeartbeats 1000000 in
theorem sDigits10 (n k : Nat) (w : World) (hk : k ≤ 100) (hn : n ≤ 1048576) :
    Calls Tryd.prog 80 #[.int .i64 n, .int .i64 k] w fun e w' => e = .returned (.string (dgA k n ⟨#[]⟩)) ∧ Below w.heap.size w w' := by
  go_enter Tryd.func80, Tryd.ntmps80
  go_wp2_with fail
  go_loopg [0, 1, 5] k (fun gk nv kv sv wr => ∃ (c : Nat) (acc : ByteArray), c ≤ 1048576 ∧ nv = .int .i64 c ∧ kv = .int .i64 gk ∧ gk ≤ 100 ∧ sv = .string acc ∧ acc.size + gk = k ∧ dgA gk c acc = dgA k n ⟨#[]⟩ ∧ Below w.heap.size w wr)
  case atStart => exact ⟨n, _, hn, rfl, rfl, hk, rfl, by simp [ByteArray.size], rfl, Below.refl _ _⟩
  case round =>
    obtain ⟨c, acc, hc, rfl, rfl, hgk, rfl, hs, hd, hbel⟩ := hrel
    have HD := Lib.hid hd
    have HB := Lib.hid hbel
    clear hd hbel
    by_cases hz : gk = 0
    · have hzi : ¬ (0 : Int) < (gk : Int) := by omega
      have HD2 : Hid (dgA k n ⟨#[]⟩ = acc) := by show _ = _; rw [← HD.out, hz]; rfl
      clear hs hgk hz
      go_wp2_with fail
      go_ret
      exact ⟨by rw [HD2.out]; rfl, HB.out⟩
    · obtain ⟨g, rfl⟩ : ∃ g, gk = g + 1 := ⟨gk - 1, by omega⟩
      have hzi : (0 : Int) < ((g + 1 : Nat) : Int) := by omega
      have HD2 : Hid (dgA g (c / 10) (strB [48 + c % 10] ++ acc) = dgA k n ⟨#[]⟩) := HD.out
      obtain ⟨d, hd⟩ : ∃ d : Nat, 48 + c % 10 = d := ⟨_, rfl⟩
      obtain ⟨q, hq⟩ : ∃ q : Nat, c / 10 = q := ⟨_, rfl⟩
      have hdi : (48 : Int) + (c : Int) % 10 = (d : Int) := by omega
      have hqi : (c : Int) / 10 = (q : Int) := by omega
      have hd57 : d ≤ 57 := by omega
      have HG : Hid (q ≤ 1048576 ∧ (strB [d] ++ acc).size + g = k) := by
        refine ⟨by omega, ?_⟩
        rw [size_append9, strB_size, List.length_singleton]; omega
      rw [hd, hq] at HD2
      have ha1 : (acc.size : Int) ≤ 8388608 := by omega
      clear hd hq hs
      have hcv := convB (w := wr.alloc (.cells #[.int .u8 (d : Int)] 5)) (g := wr.heap.size) (cap := 1) (T := [d]) (fun i hi => by
        obtain rfl : i = 0 := by simp at hi; omega
        exact cell_of_row _ _ 0 _ _ _ (heap_alloc_new _ _))
      rw [List.length_singleton] at hcv
      have ha2 : ((strB [d]).size : Int) ≤ 8388608 := by rw [strB_size]; simp
      have HBa := Lib.hid (below_more HB.out (gAlloc wr (.cells #[.int .u8 (d : Int)] 5)))
      generalize strB [d] = U at *
      go_wp2_with fail
      go_roundg g
      case measure => omega
      case rel => exact ⟨q, U ++ acc, HG.out.1, by go_num, by go_num, by omega, rfl, HG.out.2, HD2.out, HBa.out⟩

/-- The byte at i is a digit. -/
def isD (s : ByteArray) (i : Nat) : Bool := decide (48 ≤ (s[i]?.getD 0).toNat) && decide ((s[i]?.getD 0).toNat ≤ 57)
/-- The number that the first k bytes spell. -/
def inA (s : ByteArray) : Nat → Nat
  | 0 => 0
  | k + 1 => 10 * inA s k + ((s[k]?.getD 0).toNat - 48)
/-- l10Int's answer. -/
def inI (s : ByteArray) : Int := if (List.range s.size).all (isD s) then (inA s s.size : Nat) else -1
theorem inA_lt (s : ByteArray) : ∀ k, (∀ i, i < k → isD s i = true) → inA s k < 10 ^ k
  | 0, _ => by simp [inA]
  | k + 1, h => by
    have h1 := inA_lt s k (fun i hi => h i (by omega))
    have h2 := h k (by omega)
    simp only [isD, Bool.and_eq_true, decide_eq_true_eq] at h2
    rw [inA, Nat.pow_succ]; omega
theorem inA_16 (s : ByteArray) (k : Nat) (hk : k ≤ 16) (h : ∀ i, i < k → isD s i = true) : inA s k < 10000000000000000 :=
  Nat.lt_of_lt_of_le (inA_lt s k h) (Nat.pow_le_pow_right (by decide) hk)

set_option maxRecDepth 100000 in
set_option maxHeartbeats 1000000 in
theorem sInt10 (s : ByteArray) (w : World) (hl : s.size ≤ 16) :
    Calls Tryd.prog 47 #[.string s] w fun e w' => e = .returned (.int .i64 (inI s)) ∧ w = w' := by
  go_enter Tryd.func47, Tryd.ntmps47
  go_wp2_with fail
  go_loopg [3, 4] s.size (fun gk nv iv wr => ∃ t : Nat, t + gk = s.size ∧ iv = .int .i64 t ∧ nv = .int .i64 (inA s t : Nat) ∧ (∀ i, i < t → isD s i = true) ∧ w = wr)
  case atStart => exact ⟨0, by omega, rfl, rfl, fun i hi => absurd hi (Nat.not_lt_zero i), rfl⟩
  case round =>
    obtain ⟨t, hg, rfl, rfl, hall, rfl⟩ := hrel
    have HAll := Lib.hid hall
    by_cases hlt : t < s.size
    · have hti : (t : Int) < (s.size : Int) := by omega
      have HG : Hid (s.size - t - 1 < gk ∧ t + 1 + (s.size - t - 1) = s.size) := by show _ ∧ _; omega
      have h16 := inA_16 s t (by omega) hall
      have HT : Hid (t < s.size) := hlt
      have hb : s[t].toNat ≤ 255 := by have := s[t].toNat_lt; omega
      have hq : s[t]?.getD 0 = s[t] := by rw [getElem?_pos s t hlt]; rfl
      have HQ := Lib.hid hq
      clear hg hall hq
      by_cases hd0 : s[t].toNat < 48
      · have hdi : (s[t].toNat : Int) < 48 := by omega
        have HN : Hid (inI s = -1) := by
          show _ = _
          rw [inI, if_neg]
          intro hA
          have := List.all_eq_true.1 hA t (List.mem_range.2 HT.out)
          simp only [isD, HQ.out, Bool.and_eq_true, decide_eq_true_eq] at this
          omega
        go_wp2_with fail
        go_ret
        exact ⟨by rw [HN.out]; rfl, rfl⟩
      · have hdi : ¬ (s[t].toNat : Int) < 48 := by omega
        by_cases hd9 : 57 < s[t].toNat
        · have hei : (57 : Int) < (s[t].toNat : Int) := by omega
          have HN : Hid (inI s = -1) := by
            show _ = _
            rw [inI, if_neg]
            intro hA
            have := List.all_eq_true.1 hA t (List.mem_range.2 HT.out)
            simp only [isD, HQ.out, Bool.and_eq_true, decide_eq_true_eq] at this
            omega
          go_wp2_with fail
          go_ret
          exact ⟨by rw [HN.out]; rfl, rfl⟩
        · have hei : ¬ (57 : Int) < (s[t].toNat : Int) := by omega
          have HS : Hid (10 * (inA s t : Int) + ((s[t].toNat : Int) - 48) = ((inA s (t + 1) : Nat) : Int)) := by
            show _ = _
            rw [show inA s (t + 1) = 10 * inA s t + ((s[t]?.getD 0).toNat - 48) from rfl, HQ.out]; omega
          have HA2 : Hid (∀ i, i < t + 1 → isD s i = true) := fun i hi => by
            by_cases h : i < t
            · exact HAll.out i h
            · obtain rfl : i = t := by omega
              simp only [isD, HQ.out, Bool.and_eq_true, decide_eq_true_eq]; omega
          go_wp2_with fail
          go_roundg (s.size - t - 1)
          case measure => exact HG.out.1
          case rel => exact ⟨t + 1, HG.out.2, by go_num, (congrArg (Value.int .i64) HS.out : _), HA2.out, rfl⟩
    · obtain rfl : t = s.size := by omega
      have hti : ¬ (s.size : Int) < (s.size : Int) := by omega
      have HN : Hid (inI s = (inA s s.size : Nat)) := by
        show _ = _
        rw [inI, if_pos]
        exact List.all_eq_true.2 fun i hi => HAll.out i (List.mem_range.1 hi)
      clear hall
      go_wp2_with fail
      go_ret
      exact ⟨by rw [HN.out]; rfl, rfl⟩
end Go.Proofs.YthbjcipdneminaaDoor

/- GB -/
namespace Go.Proofs.YthbjcipdneminaaDoor
open Go.RowKit

/-- A record's text without its sum, and with it. -/
def tx0 (no kd a b : Nat) : ByteArray := dgA 2 no ⟨#[]⟩ ++ dgA 1 kd ⟨#[]⟩ ++ dgA 4 a ⟨#[]⟩ ++ dgA 4 b ⟨#[]⟩
def txI (no kd a b : Nat) : ByteArray := tx0 no kd a b ++ dgA 4 (smB (tx0 no kd a b) (tx0 no kd a b).size) ⟨#[]⟩ ++ ⟨#[59]⟩
theorem dg_size (k n : Nat) : (dgA k n ⟨#[]⟩).size = k := by rw [dgA_size]; rfl
theorem tx0_size (no kd a b : Nat) : (tx0 no kd a b).size = 11 := by unfold tx0; simp only [size_append9, dg_size]
theorem txI_size (no kd a b : Nat) : (txI no kd a b).size = 16 := by unfold txI; simp only [size_append9, dg_size, tx0_size]; rfl
/-- A record: four cells. -/
abbrev Rec := Int × Int × Int × Int
abbrev fRe (r : Rec) : List Value := [.int .i64 r.1, .int .i64 r.2.1, .int .i64 r.2.2.1, .int .i64 r.2.2.2]
abbrev reV (r : Rec) : Value := .agg #[.int .i64 r.1, .int .i64 r.2.1, .int .i64 r.2.2.1, .int .i64 r.2.2.2]
theorem fRe_len : ∀ x, (fRe x).length = 4 := fun _ => rfl
theorem fRe_one : ∀ x, ∀ u ∈ fRe x, u.oneCell' = true := fun x u hu => by simp at hu; rcases hu with rfl | rfl | rfl | rfl <;> rfl
def reOkB (r : Rec) : Bool := inB r.1 1 12 && (inB r.2.1 1 9 && (inB r.2.2.1 0 9999 && inB r.2.2.2 0 9999))
theorem re_ok {r : Rec} (h : reOkB r = true) : (1 ≤ r.1 ∧ r.1 ≤ 12) ∧ (1 ≤ r.2.1 ∧ r.2.1 ≤ 9) ∧ (0 ≤ r.2.2.1 ∧ r.2.2.1 ≤ 9999) ∧ 0 ≤ r.2.2.2 ∧ r.2.2.2 ≤ 9999 := by
  simp only [reOkB, inB, Bool.and_eq_true, decide_eq_true_eq] at h
  exact h
/-- The text of a record that is valid. -/
def txR (r : Rec) : ByteArray := txI r.1.toNat r.2.1.toNat r.2.2.1.toNat r.2.2.2.toNat
theorem txR_size (r : Rec) : (txR r).size = 16 := txI_size _ _ _ _

set_option maxRecDepth 100000 in
set_option maxHeartbeats 1000000 in
theorem sRecord10 (r : Rec) (w : World) : Calls Tryd.prog 41 #[reV r] w fun e w' => e = .returned (.bool (reOkB r)) ∧ Below w.heap.size w w' := by
  obtain ⟨no, kd, a, b⟩ := r
  obtain ⟨W, hW⟩ : ∃ W, w.alloc (.cells #[.int .i64 no, .int .i64 kd, .int .i64 a, .int .i64 b] 38) = W := ⟨_, rfl⟩
  have hbx : Below w.heap.size w W := by rw [← hW]; exact gAlloc _ _
  have KX : W.heap[w.heap.size]? = some (.cells #[.int .i64 no, .int .i64 kd, .int .i64 a, .int .i64 b] 38 (0, 0)) := by rw [← hW]; exact heap_alloc_new _ _
  have p0 : W.cell? ⟨w.heap.size, 0, none⟩ = some (.int .i64 no) := cell_of_row _ _ 0 _ _ _ KX
  have p1 : W.cell? ⟨w.heap.size, 1, none⟩ = some (.int .i64 kd) := cell_of_row _ _ 1 _ _ _ KX
  have p2 : W.cell? ⟨w.heap.size, 2, none⟩ = some (.int .i64 a) := cell_of_row _ _ 2 _ _ _ KX
  have p3 : W.cell? ⟨w.heap.size, 3, none⟩ = some (.int .i64 b) := cell_of_row _ _ 3 _ _ _ KX
  have HB := Lib.hid hbx
  have HE : Hid (reOkB (no, kd, a, b) = (inB no 1 12 && (inB kd 1 9 && (inB a 0 9999 && inB b 0 9999)))) := rfl
  have H1 : Hid (∀ w, Calls Tryd.prog 78 #[.int .i64 no, .int .i64 1, .int .i64 12] w fun e w' => e = .returned (.bool (inB no 1 12)) ∧ w = w') := fun w => l1In_any _ _ _ _
  have H2 : Hid (∀ w, Calls Tryd.prog 78 #[.int .i64 kd, .int .i64 1, .int .i64 9] w fun e w' => e = .returned (.bool (inB kd 1 9)) ∧ w = w') := fun w => l1In_any _ _ _ _
  have H3 : Hid (∀ w, Calls Tryd.prog 78 #[.int .i64 a, .int .i64 0, .int .i64 9999] w fun e w' => e = .returned (.bool (inB a 0 9999)) ∧ w = w') := fun w => l1In_any _ _ _ _
  have H4 : Hid (∀ w, Calls Tryd.prog 78 #[.int .i64 b, .int .i64 0, .int .i64 9999] w fun e w' => e = .returned (.bool (inB b 0 9999)) ∧ w = w') := fun w => l1In_any _ _ _ _
  clear hbx KX
  generalize reOkB (no, kd, a, b) = ok at *
  generalize inB no 1 12 = b1 at *
  generalize inB kd 1 9 = b2 at *
  generalize inB a 0 9999 = b3 at *
  generalize inB b 0 9999 = b4 at *
  cases b1
  · go_enter Tryd.func41, Tryd.ntmps41
    go_wp2_with fail
    refine (H1.out _).mono ?_
    rintro e w' ⟨rfl, rfl⟩
    go_wp2_with fail
    go_ret
    exact ⟨ret_bool' HE.out.symm, HB.out⟩
  cases b2
  · go_enter Tryd.func41, Tryd.ntmps41
    go_wp2_with fail
    refine (H1.out _).mono ?_
    rintro e w' ⟨rfl, rfl⟩
    go_wp2_with fail
    refine (H2.out _).mono ?_
    rintro e w' ⟨rfl, rfl⟩
    go_wp2_with fail
    go_ret
    exact ⟨ret_bool' HE.out.symm, HB.out⟩
  cases b3
  · go_enter Tryd.func41, Tryd.ntmps41
    go_wp2_with fail
    refine (H1.out _).mono ?_
    rintro e w' ⟨rfl, rfl⟩
    go_wp2_with fail
    refine (H2.out _).mono ?_
    rintro e w' ⟨rfl, rfl⟩
    go_wp2_with fail
    refine (H3.out _).mono ?_
    rintro e w' ⟨rfl, rfl⟩
    go_wp2_with fail
    go_ret
    exact ⟨ret_bool' HE.out.symm, HB.out⟩
  go_enter Tryd.func41, Tryd.ntmps41
  go_wp2_with fail
  refine (H1.out _).mono ?_
  rintro e w' ⟨rfl, rfl⟩
  go_wp2_with fail
  refine (H2.out _).mono ?_
  rintro e w' ⟨rfl, rfl⟩
  go_wp2_with fail
  refine (H3.out _).mono ?_
  rintro e w' ⟨rfl, rfl⟩
  go_wp2_with fail
  refine (H4.out _).mono ?_
  rintro e w' ⟨rfl, rfl⟩
  go_wp2_with fail
  go_ret
  exact ⟨ret_bool' HE.out.symm, HB.out⟩

set_option maxRecDepth 100000 in
set_option maxHeartbeats 1000000 in
theorem sText10_walk (no kd a b : Nat) (s0 s1 s2 s3 s4 Z : ByteArray) (n : Nat) (w : World) (hZ : s0 ++ s1 ++ s2 ++ s3 = Z) (hn : smB Z Z.size = n) (hz4 : s4.size ≤ 4) (hz0 : s0.size ≤ 2) (hz1 : s1.size ≤ 1) (hz2 : s2.size ≤ 4) (hz3 : s3.size ≤ 4)
    (HD0 : Hid (∀ w : World, Calls Tryd.prog 80 #[.int .i64 (no : Nat), .int .i64 2] w fun e w' => e = .returned (.string s0) ∧ Below w.heap.size w w'))
    (HD1 : Hid (∀ w : World, Calls Tryd.prog 80 #[.int .i64 (kd : Nat), .int .i64 1] w fun e w' => e = .returned (.string s1) ∧ Below w.heap.size w w'))
    (HD2 : Hid (∀ w : World, Calls Tryd.prog 80 #[.int .i64 (a : Nat), .int .i64 4] w fun e w' => e = .returned (.string s2) ∧ Below w.heap.size w w'))
    (HD3 : Hid (∀ w : World, Calls Tryd.prog 80 #[.int .i64 (b : Nat), .int .i64 4] w fun e w' => e = .returned (.string s3) ∧ Below w.heap.size w w'))
    (HT : Hid (∀ w : World, Calls Tryd.prog 80 #[.int .i64 (n : Nat), .int .i64 4] w fun e w' => e = .returned (.string s4) ∧ Below w.heap.size w w')) :
    Calls Tryd.prog 43 #[.agg #[.int .i64 (no : Nat), .int .i64 (kd : Nat), .int .i64 (a : Nat), .int .i64 (b : Nat)]] w fun e w' => e = .returned (.string (Z ++ s4 ++ ⟨#[59]⟩)) ∧ Below w.heap.size w w' := by
  obtain ⟨W, hW⟩ : ∃ W, w.alloc (.cells #[.int .i64 (no : Nat), .int .i64 (kd : Nat), .int .i64 (a : Nat), .int .i64 (b : Nat)] 38) = W := ⟨_, rfl⟩
  have hbx : Below w.heap.size w W := by rw [← hW]; exact gAlloc _ _
  have KX : W.heap[w.heap.size]? = some (.cells #[.int .i64 (no : Nat), .int .i64 (kd : Nat), .int .i64 (a : Nat), .int .i64 (b : Nat)] 38 (0, 0)) := by rw [← hW]; exact heap_alloc_new _ _
  have p0 : W.cell? ⟨w.heap.size, 0, none⟩ = some (.int .i64 (no : Nat)) := cell_of_row _ _ 0 _ _ _ KX
  have p1 : W.cell? ⟨w.heap.size, 1, none⟩ = some (.int .i64 (kd : Nat)) := cell_of_row _ _ 1 _ _ _ KX
  have p2 : W.cell? ⟨w.heap.size, 2, none⟩ = some (.int .i64 (a : Nat)) := cell_of_row _ _ 2 _ _ _ KX
  have p3 : W.cell? ⟨w.heap.size, 3, none⟩ = some (.int .i64 (b : Nat)) := cell_of_row _ _ 3 _ _ _ KX
  have HB := Lib.hid hbx
  have hzz : Z.size ≤ 11 := by rw [← hZ, size_append9, size_append9, size_append9]; omega
  have HZ := Lib.hid hZ
  have HS : Hid (∀ w, Calls Tryd.prog 45 #[.string Z] w fun e w' => e = .returned (.int .i64 (n : Nat)) ∧ w = w') := fun w => by
    have := sSum10 Z w (by omega)
    rw [hn] at this
    exact this
  clear hbx KX hZ hn
  go_enter Tryd.func43, Tryd.ntmps43
  go_wp2_with fail
  have hs1 : ¬ 9223372036854775807 < s0.size + s1.size := by omega
  have hs2 : ¬ 9223372036854775807 < s0.size + s1.size + s2.size := by omega
  have hs3 : ¬ 9223372036854775807 < s0.size + s1.size + s2.size + s3.size := by omega
  go_region_held3 (fun w' => w'.cell? ⟨w.heap.size, 0, none⟩ = some (.int .i64 (no : Nat)) ∧ w'.cell? ⟨w.heap.size, 1, none⟩ = some (.int .i64 (kd : Nat)) ∧ w'.cell? ⟨w.heap.size, 2, none⟩ = some (.int .i64 (a : Nat)) ∧ w'.cell? ⟨w.heap.size, 3, none⟩ = some (.int .i64 (b : Nat))) (first | exact ⟨r30, r31, r32, r33⟩ | exact ⟨r20, r21, r22, r23⟩ | exact ⟨r10, r11, r12, r13⟩ | exact ⟨r00, r01, r02, r03⟩ | exact ⟨p0, p1, p2, p3⟩ | go_keep) (first
    | (go_at_call 80; refine (HD3.out w4).mono ?_; rintro e w5 ⟨rfl, hb3⟩; have r30 := (hb3.cell (World.block_lt_of_cell? _ _ r20)).trans r20; have r31 := (hb3.cell (World.block_lt_of_cell? _ _ r21)).trans r21; have r32 := (hb3.cell (World.block_lt_of_cell? _ _ r22)).trans r22; have r33 := (hb3.cell (World.block_lt_of_cell? _ _ r23)).trans r23)
    | (go_at_call 80; refine (HD2.out w3).mono ?_; rintro e w4 ⟨rfl, hb2⟩; have r20 := (hb2.cell (World.block_lt_of_cell? _ _ r10)).trans r10; have r21 := (hb2.cell (World.block_lt_of_cell? _ _ r11)).trans r11; have r22 := (hb2.cell (World.block_lt_of_cell? _ _ r12)).trans r12; have r23 := (hb2.cell (World.block_lt_of_cell? _ _ r13)).trans r13)
    | (go_at_call 80; refine (HD1.out w2).mono ?_; rintro e w3 ⟨rfl, hb1⟩; have r10 := (hb1.cell (World.block_lt_of_cell? _ _ r00)).trans r00; have r11 := (hb1.cell (World.block_lt_of_cell? _ _ r01)).trans r01; have r12 := (hb1.cell (World.block_lt_of_cell? _ _ r02)).trans r02; have r13 := (hb1.cell (World.block_lt_of_cell? _ _ r03)).trans r03)
    | (go_at_call 80; refine (HD0.out W.drew).mono ?_; rintro e w2 ⟨rfl, hb0⟩; have r00 := (hb0.cell (World.block_lt_of_cell? _ _ p0)).trans p0; have r01 := (hb0.cell (World.block_lt_of_cell? _ _ p1)).trans p1; have r02 := (hb0.cell (World.block_lt_of_cell? _ _ p2)).trans p2; have r03 := (hb0.cell (World.block_lt_of_cell? _ _ p3)).trans p3))
  have HBb := Lib.hid (below_more (below_more (below_more (below_more (below_more HB.out gDrew) hb0) hb1) hb2) hb3)
  clear r00 r01 r02 r03 r10 r11 r12 r13 r20 r21 r22 r23 r30 r31 r32 r33 hb0 hb1 hb2 hb3 p0 p1 p2 p3 hs1 hs2 hs3 hW
  rw [HZ.out]
  go_wp2_with fail
  refine (HS.out _).mono ?_
  rintro e w' ⟨rfl, rfl⟩
  go_wp2_with fail
  refine (HT.out _).mono ?_
  rintro e w6 ⟨rfl, hb6⟩
  have ha1 : (Z.size : Int) ≤ 8388608 := by omega
  have ha2 : (s4.size : Int) ≤ 8388608 := by omega
  have ha3 : ((Z ++ s4).size : Int) ≤ 8388608 := by rw [size_append9]; omega
  have ha4 : ((⟨#[59]⟩ : ByteArray).size : Int) ≤ 8388608 := by decide
  go_wp2_with fail
  go_ret
  exact ⟨rfl, below_more HBb.out hb6⟩
theorem sText10 {r : Rec} (h : reOkB r = true) (w : World) :
    Calls Tryd.prog 43 #[reV r] w fun e w' => e = .returned (.string (txR r)) ∧ Below w.heap.size w w' := by
  obtain ⟨no, kd, a, b⟩ := r
  obtain ⟨⟨h1, h2⟩, ⟨h3, h4⟩, ⟨h5, h6⟩, h7, h8⟩ := re_ok h
  simp only at h1 h2 h3 h4 h5 h6 h7 h8
  obtain ⟨no, rfl⟩ := Int.eq_ofNat_of_zero_le (show 0 ≤ no by omega)
  obtain ⟨kd, rfl⟩ := Int.eq_ofNat_of_zero_le (show 0 ≤ kd by omega)
  obtain ⟨a, rfl⟩ := Int.eq_ofNat_of_zero_le h5
  obtain ⟨b, rfl⟩ := Int.eq_ofNat_of_zero_le h7
  have hm := smB_lt (tx0 no kd a b) (tx0 no kd a b).size
  exact sText10_walk no kd a b _ _ _ _ _ (tx0 no kd a b) (smB (tx0 no kd a b) (tx0 no kd a b).size) w rfl rfl (Nat.le_of_eq (dg_size 4 _)) (Nat.le_of_eq (dg_size 2 no)) (Nat.le_of_eq (dg_size 1 kd)) (Nat.le_of_eq (dg_size 4 a)) (Nat.le_of_eq (dg_size 4 b)) (fun w => sDigits10 no 2 w (by omega) (by omega)) (fun w => sDigits10 kd 1 w (by omega) (by omega)) (fun w => sDigits10 a 4 w (by omega) (by omega)) (fun w => sDigits10 b 4 w (by omega) (by omega)) (fun w => sDigits10 _ 4 w (by omega) (by omega))
/-- RecordText's answer. -/
def rtI (r : Rec) : ByteArray := if reOkB r = true then txR r else ⟨#[]⟩
end Go.Proofs.YthbjcipdneminaaDoor

/- GC -/
namespace Go.Proofs.YthbjcipdneminaaDoor
open Go.RowKit

/-- The orders of a region that draws meet: one way goes on behind it. -/
theorem wp_meet {P : Program} {c : Code} {Q : Exit → Act → World → Prop} {a : Act} {w : World} (A : Act) (V : World) (hreg : c.wp P (fun e a' w' => e = .normal ∧ a' = A ∧ w' = V) a w) (himp : Q .normal A V) : c.wp P Q a w :=
  Code.wp_mono (fun e a' w' ⟨h1, h2, h3⟩ => by rw [h1, h2, h3]; exact himp) hreg
theorem str_ne {a b : ByteArray} (h : ¬ a = b) : (a.toList == b.toList) = false := by
  cases e : a.toList == b.toList
  · rfl
  · exfalso
    apply h
    have e2 : a.toList = b.toList := by simpa using e
    rw [ByteArray.toList_eq, ByteArray.toList_eq] at e2
    exact ByteArray.ext (Array.toList_inj.1 e2)
/-- What a text's digits spell; whether it is a record's text; the record. -/
def rrR (s : ByteArray) : Rec := (inI (s.extract 0 2), inI (s.extract 2 3), inI (s.extract 3 7), inI (s.extract 7 11))
def rrOkB (s : ByteArray) : Bool := decide (s.size = 16) && (reOkB (rrR s) && decide (txR (rrR s) = s))
def rrI (s : ByteArray) : Rec := if rrOkB s = true then rrR s else (0, 0, 0, 0)
theorem rr_not {s : ByteArray} (h : rrOkB s = false) : rrI s = (0, 0, 0, 0) ∧ rrOkB s = false := ⟨by rw [rrI, h]; rfl, h⟩
theorem rr_yes {s : ByteArray} (h : rrOkB s = true) : rrI s = rrR s ∧ rrOkB s = true := ⟨by rw [rrI, h]; rfl, h⟩
theorem infoRe : (Tryd.prog.info? 38).map (·.size) = some 4 := by kernel_rfl
theorem ret_re2 {fn : Func} {p q : Tmp} (h : fn.results = #[.cell p 38, .tmp q]) {R : Ending → World → Prop} {a : Act} {w : World} (g : Nat) (r : Rec) (b : Bool) (hp : a.tmps.getD p undef = .pointer (some ⟨g, 0, none⟩)) (hu : a.tmps.getD q undef = .bool b)
    (hg : w.heap[g]? = some (.cells #[.int .i64 r.1, .int .i64 r.2.1, .int .i64 r.2.2.1, .int .i64 r.2.2.2] 38 (0, 0))) (hd : a.defers = []) (hR : R (.returned (.tuple #[reV r, .bool b])) w) : bodyPost Tryd.prog fn R .ret a w := by
  have hp' : a.tmps[p]?.getD undef = .pointer (some ⟨g, 0, none⟩) := by simpa using hp
  have hu' : a.tmps[q]?.getD undef = .bool b := by simpa using hu
  refine bodyPost_ret (v := .tuple #[reV r, .bool b]) ?_ hd hR
  rw [results_cell_tmp h]
  simp [hp', hu', asAddr, run_loadVar_row w g 38 38 #[.int .i64 r.1, .int .i64 r.2.1, .int .i64 r.2.2.1, .int .i64 r.2.2.2] (0, 0) _ hg Tryd.underlying38 rfl infoRe]
/-- A record laid into a box. -/
theorem re_stored {w w2 : World} {X n : Nat} {cs : Array Value} (r : Rec) (k : w2.heap[X]? = some (.cells cs 38 (0, 0))) (hcs : cs.size = 4) (hb : Below n w w2) (hn : n ≤ X) :
    ((((w2.setCell ⟨X, 0, none⟩ (.int .i64 r.1)).setCell ⟨X, 1, none⟩ (.int .i64 r.2.1)).setCell ⟨X, 2, none⟩ (.int .i64 r.2.2.1)).setCell ⟨X, 3, none⟩ (.int .i64 r.2.2.2)).heap[X]? = some (.cells #[.int .i64 r.1, .int .i64 r.2.1, .int .i64 r.2.2.1, .int .i64 r.2.2.2] 38 (0, 0)) ∧
    Below n w ((((w2.setCell ⟨X, 0, none⟩ (.int .i64 r.1)).setCell ⟨X, 1, none⟩ (.int .i64 r.2.1)).setCell ⟨X, 2, none⟩ (.int .i64 r.2.2.1)).setCell ⟨X, 3, none⟩ (.int .i64 r.2.2.2)) := by
  refine ⟨?_, (((hb.setCell hn _).setCell hn _).setCell hn _).setCell hn _⟩
  have h := heap_setCell_same _ _ 3 _ _ (Value.int .i64 r.2.2.2) (heap_setCell_same _ _ 2 _ _ (Value.int .i64 r.2.2.1) (heap_setCell_same _ _ 1 _ _ (Value.int .i64 r.2.1) (heap_setCell_same _ _ 0 _ _ (Value.int .i64 r.1) k)))
  refine h.trans ?_
  congr 2
  obtain ⟨l⟩ := cs
  match l, hcs with
  | [a, b, c, d], _ => rfl

set_option maxRecDepth 100000 in
set_option maxHeartbeats 4000000 in
theorem sReadRec_any (s : ByteArray) (w : World) : Calls Tryd.prog 21 #[.string s] w fun e w' => e = .returned (.tuple #[reV (rrI s), .bool (rrOkB s)]) ∧ Below w.heap.size w w' := by
  obtain ⟨W, hW⟩ : ∃ W, w.alloc (.cells #[.int .i64 0, .int .i64 0, .int .i64 0, .int .i64 0] 38) = W := ⟨_, rfl⟩
  have hbW : Below w.heap.size w W := by rw [← hW]; exact gAlloc _ _
  have hz : W.heap[w.heap.size]? = some (.cells #[.int .i64 0, .int .i64 0, .int .i64 0, .int .i64 0] 38 (0, 0)) := by rw [← hW]; exact heap_alloc_new _ _
  have HZ := Lib.hid hz
  have HBW := Lib.hid hbW
  have HLt := Lib.hid (heap_lt hz)
  clear hz hbW
  by_cases h16 : s.size = 16
  case neg =>
    have hi : ((s.size : Int) != 16) = true := by simp; omega
    have HE := Lib.hid (rr_not (s := s) (by rw [rrOkB]; simp [h16]))
    have x0 : W.cell? ⟨w.heap.size, 0, none⟩ = some (.int .i64 0) := cell_of_row _ _ 0 _ _ _ HZ.out
    have x1 : W.cell? ⟨w.heap.size, 1, none⟩ = some (.int .i64 0) := cell_of_row _ _ 1 _ _ _ HZ.out
    have x2 : W.cell? ⟨w.heap.size, 2, none⟩ = some (.int .i64 0) := cell_of_row _ _ 2 _ _ _ HZ.out
    have x3 : W.cell? ⟨w.heap.size, 3, none⟩ = some (.int .i64 0) := cell_of_row _ _ 3 _ _ _ HZ.out
    have f0 := frozen_of_row _ _ 0 _ _ HZ.out
    have f1 := frozen_of_row _ _ 1 _ _ HZ.out
    have f2 := frozen_of_row _ _ 2 _ _ HZ.out
    have f3 := frozen_of_row _ _ 3 _ _ HZ.out
    go_enter Tryd.func21, Tryd.ntmps21
    go_wp2_with fail
    obtain ⟨d1, d2⟩ := re_stored (w := w) (0, 0, 0, 0) HZ.out rfl HBW.out (Nat.le_refl _)
    exact ret_re2 rfl w.heap.size (0, 0, 0, 0) false rfl rfl d1 rfl ⟨by rw [HE.out.1, HE.out.2], d2⟩
  have hi : ((s.size : Int) != 16) = false := by rw [h16]; rfl
  have H16 := Lib.hid h16
  have hsz : (s.size : Int) ≤ 16 := by omega
  have hsa : (2 : Int) ≤ (s.size : Int) := by omega
  have hsb : (3 : Int) ≤ (s.size : Int) := by omega
  have hsc : (7 : Int) ≤ (s.size : Int) := by omega
  have hsd : (11 : Int) ≤ (s.size : Int) := by omega
  have HI : Hid (∀ x : ByteArray, x.size ≤ 16 → ∀ w, Calls Tryd.prog 47 #[.string x] w fun e w' => e = .returned (.int .i64 (inI x)) ∧ w = w') := fun x h w => sInt10 x w h
  have hx : ∀ i j, (s.extract i j).size ≤ 16 := fun i j => by rw [ByteArray.size_extract]; omega
  clear h16
  go_enter Tryd.func21, Tryd.ntmps21
  go_wp2_with fail
  apply wp_meet
  case hreg =>
    go_region_held3 (fun _ => True) (first | exact trivial | go_keep) (first
      | (go_at_call 47; refine (HI.out _ (hx _ _) _).mono ?_; rintro e w' ⟨rfl, rfl⟩))
    all_goals exact ⟨rfl, rfl, rfl⟩
  case himp =>
    have HRR : Hid (rrR s = (inI (s.extract 0 2), inI (s.extract 2 3), inI (s.extract 3 7), inI (s.extract 7 11))) := rfl
    clear HI hx hsa hsb hsc hsd hi
    have HQ := Lib.hid (heap_alloc_new W (.cells #[.int .i64 (inI (s.extract 0 2)), .int .i64 (inI (s.extract 2 3)), .int .i64 (inI (s.extract 3 7)), .int .i64 (inI (s.extract 7 11))] 38))
    have hbV := below_more (gAlloc W (.cells #[.int .i64 (inI (s.extract 0 2)), .int .i64 (inI (s.extract 2 3)), .int .i64 (inI (s.extract 3 7)), .int .i64 (inI (s.extract 7 11))] 38)) gDrew
    generalize inI (s.extract 0 2) = n1 at *
    generalize inI (s.extract 2 3) = n2 at *
    generalize inI (s.extract 3 7) = n3 at *
    generalize inI (s.extract 7 11) = n4 at *
    have hQ : ((W.alloc (.cells #[.int .i64 n1, .int .i64 n2, .int .i64 n3, .int .i64 n4] 38)).drew).heap[W.heap.size]? = some (.cells #[.int .i64 n1, .int .i64 n2, .int .i64 n3, .int .i64 n4] 38 (0, 0)) := HQ.out
    clear HQ
    generalize (W.alloc (.cells #[.int .i64 n1, .int .i64 n2, .int .i64 n3, .int .i64 n4] 38)).drew = V at *
    have HZV := Lib.hid ((hbV.block _ HLt.out).trans HZ.out)
    have HBV := Lib.hid (below_more HBW.out hbV)
    have HQ := Lib.hid hQ
    generalize W.heap.size = P at *
    clear hQ hbV hW HZ HBW
    have q0 : V.cell? ⟨P, 0, none⟩ = some (.int .i64 n1) := cell_of_row _ _ 0 _ _ _ HQ.out
    have q1 : V.cell? ⟨P, 1, none⟩ = some (.int .i64 n2) := cell_of_row _ _ 1 _ _ _ HQ.out
    have q2 : V.cell? ⟨P, 2, none⟩ = some (.int .i64 n3) := cell_of_row _ _ 2 _ _ _ HQ.out
    have q3 : V.cell? ⟨P, 3, none⟩ = some (.int .i64 n4) := cell_of_row _ _ 3 _ _ _ HQ.out
    have HR := Lib.hid (sRecord10 (n1, n2, n3, n4) V)
    cases hok : reOkB (n1, n2, n3, n4)
    · have HE := Lib.hid (rr_not (s := s) (by rw [rrOkB, HRR.out, hok]; simp))
      rw [hok] at HR
      clear hok
      go_wp2_with fail
      refine HR.out.mono ?_
      rintro e w1 ⟨rfl, hb1⟩
      have k1 := (hb1.block _ (heap_lt HZV.out)).trans HZV.out
      have x0 := cell_of_row w1 _ 0 _ _ _ k1
      have x1 := cell_of_row w1 _ 1 _ _ _ k1
      have x2 := cell_of_row w1 _ 2 _ _ _ k1
      have x3 := cell_of_row w1 _ 3 _ _ _ k1
      have f0 := frozen_of_row w1 _ 0 _ _ k1
      have f1 := frozen_of_row w1 _ 1 _ _ k1
      have f2 := frozen_of_row w1 _ 2 _ _ k1
      have f3 := frozen_of_row w1 _ 3 _ _ k1
      have K1 := Lib.hid k1
      have HB1 := Lib.hid (below_more HBV.out hb1)
      clear k1 hb1 q0 q1 q2 q3
      go_wp2_with fail
      obtain ⟨d1, d2⟩ := re_stored (w := w) (0, 0, 0, 0) K1.out rfl HB1.out (Nat.le_refl _)
      exact ret_re2 rfl w.heap.size (0, 0, 0, 0) false rfl rfl d1 rfl ⟨by rw [HE.out.1, HE.out.2], d2⟩
    · have HT := Lib.hid (fun w => sText10 hok w)
      rw [hok] at HR
      by_cases ht : txR (n1, n2, n3, n4) = s
      · have HE := Lib.hid (rr_yes (s := s) (by rw [rrOkB, HRR.out, hok, H16.out, ht]; simp))
        rw [HRR.out] at HE
        rw [ht] at HT
        clear hok ht
        go_wp2_with fail
        refine HR.out.mono ?_
        rintro e w1 ⟨rfl, hb1⟩
        have Q1 := Lib.hid ((hb1.block _ (heap_lt HQ.out)).trans HQ.out)
        have K1 := Lib.hid ((hb1.block _ (heap_lt HZV.out)).trans HZV.out)
        have HB1 := Lib.hid (below_more HBV.out hb1)
        clear hb1 q0 q1 q2 q3
        have q0 : w1.cell? ⟨P, 0, none⟩ = some (.int .i64 n1) := cell_of_row _ _ 0 _ _ _ Q1.out
        have q1 : w1.cell? ⟨P, 1, none⟩ = some (.int .i64 n2) := cell_of_row _ _ 1 _ _ _ Q1.out
        have q2 : w1.cell? ⟨P, 2, none⟩ = some (.int .i64 n3) := cell_of_row _ _ 2 _ _ _ Q1.out
        have q3 : w1.cell? ⟨P, 3, none⟩ = some (.int .i64 n4) := cell_of_row _ _ 3 _ _ _ Q1.out
        go_wp2_with fail
        refine (HT.out _).mono ?_
        rintro e w2 ⟨rfl, hb2⟩
        have Q2 := Lib.hid ((hb2.block _ (heap_lt Q1.out)).trans Q1.out)
        have K2 := Lib.hid ((hb2.block _ (heap_lt K1.out)).trans K1.out)
        have HB2 := Lib.hid (below_more HB1.out hb2)
        clear hb2 q0 q1 q2 q3
        have q0 : w2.cell? ⟨P, 0, none⟩ = some (.int .i64 n1) := cell_of_row _ _ 0 _ _ _ Q2.out
        have q1 : w2.cell? ⟨P, 1, none⟩ = some (.int .i64 n2) := cell_of_row _ _ 1 _ _ _ Q2.out
        have q2 : w2.cell? ⟨P, 2, none⟩ = some (.int .i64 n3) := cell_of_row _ _ 2 _ _ _ Q2.out
        have q3 : w2.cell? ⟨P, 3, none⟩ = some (.int .i64 n4) := cell_of_row _ _ 3 _ _ _ Q2.out
        have x0 := cell_of_row w2 _ 0 _ _ _ K2.out
        have x1 := cell_of_row w2 _ 1 _ _ _ K2.out
        have x2 := cell_of_row w2 _ 2 _ _ _ K2.out
        have x3 := cell_of_row w2 _ 3 _ _ _ K2.out
        have f0 := frozen_of_row w2 _ 0 _ _ K2.out
        have f1 := frozen_of_row w2 _ 1 _ _ K2.out
        have f2 := frozen_of_row w2 _ 2 _ _ K2.out
        have f3 := frozen_of_row w2 _ 3 _ _ K2.out
        go_wp2_with fail
        obtain ⟨d1, d2⟩ := re_stored (w := w) (n1, n2, n3, n4) K2.out rfl HB2.out (Nat.le_refl _)
        exact ret_re2 rfl w.heap.size (n1, n2, n3, n4) true rfl rfl d1 rfl ⟨by rw [HE.out.1, HE.out.2], d2⟩
      · have HE := Lib.hid (rr_not (s := s) (by rw [rrOkB, HRR.out, hok]; simp [ht]))
        have hne := str_ne ht
        clear hok ht
        generalize txR (n1, n2, n3, n4) = T at *
        go_wp2_with fail
        refine HR.out.mono ?_
        rintro e w1 ⟨rfl, hb1⟩
        have Q1 := Lib.hid ((hb1.block _ (heap_lt HQ.out)).trans HQ.out)
        have K1 := Lib.hid ((hb1.block _ (heap_lt HZV.out)).trans HZV.out)
        have HB1 := Lib.hid (below_more HBV.out hb1)
        clear hb1 q0 q1 q2 q3
        have q0 : w1.cell? ⟨P, 0, none⟩ = some (.int .i64 n1) := cell_of_row _ _ 0 _ _ _ Q1.out
        have q1 : w1.cell? ⟨P, 1, none⟩ = some (.int .i64 n2) := cell_of_row _ _ 1 _ _ _ Q1.out
        have q2 : w1.cell? ⟨P, 2, none⟩ = some (.int .i64 n3) := cell_of_row _ _ 2 _ _ _ Q1.out
        have q3 : w1.cell? ⟨P, 3, none⟩ = some (.int .i64 n4) := cell_of_row _ _ 3 _ _ _ Q1.out
        go_wp2_with fail
        refine (HT.out _).mono ?_
        rintro e w2 ⟨rfl, hb2⟩
        have K2 := Lib.hid ((hb2.block _ (heap_lt K1.out)).trans K1.out)
        have HB2 := Lib.hid (below_more HB1.out hb2)
        clear hb2 q0 q1 q2 q3
        have x0 := cell_of_row w2 _ 0 _ _ _ K2.out
        have x1 := cell_of_row w2 _ 1 _ _ _ K2.out
        have x2 := cell_of_row w2 _ 2 _ _ _ K2.out
        have x3 := cell_of_row w2 _ 3 _ _ _ K2.out
        have f0 := frozen_of_row w2 _ 0 _ _ K2.out
        have f1 := frozen_of_row w2 _ 1 _ _ K2.out
        have f2 := frozen_of_row w2 _ 2 _ _ K2.out
        have f3 := frozen_of_row w2 _ 3 _ _ K2.out
        go_wp2_with fail
        obtain ⟨d1, d2⟩ := re_stored (w := w) (0, 0, 0, 0) K2.out rfl HB2.out (Nat.le_refl _)
        exact ret_re2 rfl w.heap.size (0, 0, 0, 0) false rfl rfl d1 rfl ⟨by rw [HE.out.1, HE.out.2], d2⟩
end Go.Proofs.YthbjcipdneminaaDoor

/- GD -/
namespace Go.Proofs.YthbjcipdneminaaDoor
open Go.RowKit

/-- The log from sector k on, f sectors at most. -/
def lgF (ss : List ByteArray) (ps : List (Int × ByteArray)) : Nat → Nat → List Rec
  | 0, _ => []
  | f + 1, k => if (rrOkB (rdL ss ps k) && decide ((rrI (rdL ss ps k)).1 = (k : Int) + 1)) = true then rrI (rdL ss ps k) :: lgF ss ps f (k + 1) else []
def lgI (ss : List ByteArray) (ps : List (Int × ByteArray)) : List Rec := lgF ss ps 12 0
theorem lgF_len (ss : List ByteArray) (ps : List (Int × ByteArray)) : ∀ f k, (lgF ss ps f k).length ≤ f
  | 0, _ => Nat.le_refl _
  | f + 1, k => by
    rw [lgF]; split
    · rw [List.length_cons]; have := lgF_len ss ps f (k + 1); omega
    · simp
theorem lgI_len (ss : List ByteArray) (ps : List (Int × ByteArray)) : (lgI ss ps).length ≤ 12 := lgF_len ss ps 12 0
abbrev OwnRe (w : World) (base : Nat) (v : Value) (L : List Rec) : Prop := OwnR 38 4 fRe w base v L
theorem reInfo : (Tryd.prog.info? 38).map (fun i => (i.zero, i.size, i.bytes)) = some (some (.agg #[.int .i64 0, .int .i64 0, .int .i64 0, .int .i64 0]), 4, 32) := by kernel_rfl
theorem app_re {ops : Array Oper} {rest : List Oper} {o : Oper} {a : Act} {Q : Exit → Act → World → Prop} (W : World) (base : Nat) (v : Value) (L : List Rec) (n1 n2 n3 n4 : Int) (Bn : Nat) (hBn : Bn = W.heap.size) (hgd : o.guard = none) (s x : Operand)
    (ho : o.op = .call { callee := .builtin .append, args := #[s, x], argTypes := #[30, 30] }) (hs : a.eval s = v) (hx : a.eval x = .slice (some ⟨Bn, 0, none⟩) 1 1)
    (hown : OwnRe W base v L) (hbase : base ≤ W.heap.size) (hlen : L.length ≤ 2000000) (w0 : World) (hb : Below base w0 W)
    (h : ∀ v' w', Hid (OwnRe w' base v' (L ++ [(n1, n2, n3, n4)]) ∧ Below base w0 w' ∧ (W.alloc (.cells #[.int .i64 n1, .int .i64 n2, .int .i64 n3, .int .i64 n4] 38)).grownBy w' v.ownBlock) → wpList Tryd.prog ops Q rest (a.put o.dst v') w') :
    wpList Tryd.prog ops Q (o :: rest) a (W.alloc (.cells #[.int .i64 n1, .int .i64 n2, .int .i64 n3, .int .i64 n4] 38)) := by
  obtain ⟨i0, hi, hz0, hz1, hz2⟩ := info_parts reInfo
  exact app_row fRe_len (by decide) fRe_one Tryd.underlying30 hi hz0 hz1 hz2 rfl (by decide) W base v L (n1, n2, n3, n4) Bn hBn hgd s x ho hs hx hown hbase hlen w0 hb h

set_option maxRecDepth 100000 in
set_option maxHeartbeats 4000000 in
theorem sLog10 (A B : Option Addr) (ss : List ByteArray) (ps : List (Int × ByteArray)) (ca cb : Nat) (w : World) (hd : DiskIn w A B ss ps) (h12 : ss.length = 12) :
    Calls Tryd.prog 33 #[diskV (.slice A ss.length ca) (.slice B ps.length cb)] w fun e w' => ∃ v, e = .returned v ∧ OwnRe w' w.heap.size v (lgI ss ps) ∧ Below w.heap.size w w' := by
  obtain ⟨W, hW⟩ : ∃ W, w.alloc (.cells #[.slice A ss.length ca, .slice B ps.length cb] 26) = W := ⟨_, rfl⟩
  have hbW : Below w.heap.size w W := by rw [← hW]; exact gAlloc _ _
  have h1 : W.heap[w.heap.size]? = some (.cells #[.slice A ss.length ca, .slice B ps.length cb] 26 (0, 0)) := by rw [← hW]; exact heap_alloc_new _ _
  have H1 := Lib.hid h1
  have HD := Lib.hid (hd.below hbW)
  have HBW := Lib.hid hbW
  have HLt := Lib.hid (heap_lt h1)
  have HRd : Hid (∀ (k : Nat) w', k < 12 → Below W.heap.size W w' → Calls Tryd.prog 58 #[diskV (.slice A ss.length ca) (.slice B ps.length cb), .int .i64 (k : Nat)] w' fun e w'' => e = .returned (.string (rdL ss ps k)) ∧ Below w'.heap.size w' w'') := fun k w' hk hb => sRead9 A B ss ps ca cb k w' (HD.out.below hb) (by omega)
  have HRr : Hid (∀ s w, Calls Tryd.prog 21 #[.string s] w fun e w' => e = .returned (.tuple #[reV (rrI s), .bool (rrOkB s)]) ∧ Below w.heap.size w w') := fun s w => sReadRec_any s w
  have HF : Hid (∀ f k, lgF ss ps (f + 1) k = if (rrOkB (rdL ss ps k) && decide ((rrI (rdL ss ps k)).1 = (k : Int) + 1)) = true then rrI (rdL ss ps k) :: lgF ss ps f (k + 1) else []) := fun f k => rfl
  have H0 : Hid ([] ++ lgF ss ps 12 0 = lgI ss ps) := rfl
  clear hd hbW h1 h12
  go_enter Tryd.func33, Tryd.ntmps33
  go_wp2_with fail
  clear hW
  go_loopg [3, 4] 12 (fun gk ov kv wr => ∃ (j : Nat) (L : List Rec), j + gk = 12 ∧ kv = .int .i64 (j : Nat) ∧ OwnRe wr W.heap.size ov L ∧ L ++ lgF ss ps gk j = lgI ss ps ∧ L.length ≤ j ∧ Below W.heap.size W wr)
  case atStart => exact ⟨0, [], rfl, rfl, OwnR.nil _ _, H0.out, Nat.le_refl _, Below.refl _ _⟩
  case round =>
    obtain ⟨j, L, hg, rfl, hown, heq, hLj, hbel⟩ := hrel
    have HO := Lib.hid hown
    have HQ := Lib.hid heq
    have HBl := Lib.hid hbel
    have K1 := Lib.hid ((hbel.block _ HLt.out).trans H1.out)
    clear hown heq hbel
    by_cases hlt : j < 12
    · obtain ⟨f, rfl⟩ : ∃ f, gk = f + 1 := ⟨gk - 1, by omega⟩
      have hji : (j : Int) < 12 := by omega
      have x0 : wr.cell? ⟨w.heap.size, 0, none⟩ = some (.slice A ss.length ca) := cell_of_row _ _ 0 _ _ _ K1.out
      have x1 : wr.cell? ⟨w.heap.size, 1, none⟩ = some (.slice B ps.length cb) := cell_of_row _ _ 1 _ _ _ K1.out
      have HRj := Lib.hid (HRd.out j wr hlt HBl.out)
      have HRrj := Lib.hid (HRr.out (rdL ss ps j))
      have HFj := Lib.hid (HF.out f j)
      have HGf : Hid (j + 1 + f = 12) := by show _ = _; omega
      clear hg
      generalize rdL ss ps j = s at *
      obtain ⟨⟨n1, n2, n3, n4⟩, hr⟩ : ∃ r, rrI s = r := ⟨_, rfl⟩
      rw [hr] at HRrj HFj
      clear hr
      generalize rrOkB s = ok at *
      go_wp2_with fail
      refine HRj.out.mono ?_
      rintro e w1 ⟨rfl, hb1⟩
      have HB1 := Lib.hid (below_more HBl.out hb1)
      have HO1 := Lib.hid (HO.out.below hb1)
      clear hb1 x0 x1
      go_wp2_with fail
      refine (HRrj.out _).mono ?_
      rintro e w2 ⟨rfl, hb2⟩
      have hb3 := below_more hb2 (gAlloc w2 (.cells #[.int .i64 n1, .int .i64 n2, .int .i64 n3, .int .i64 n4] 38))
      have HB3 := Lib.hid (below_more HB1.out hb3)
      have HO3 := Lib.hid (HO1.out.below hb3)
      have q0 : (w2.alloc (.cells #[.int .i64 n1, .int .i64 n2, .int .i64 n3, .int .i64 n4] 38)).cell? ⟨w2.heap.size, 0, none⟩ = some (.int .i64 n1) := cell_of_row _ _ 0 _ _ _ (heap_alloc_new _ _)
      have q1 : (w2.alloc (.cells #[.int .i64 n1, .int .i64 n2, .int .i64 n3, .int .i64 n4] 38)).cell? ⟨w2.heap.size, 1, none⟩ = some (.int .i64 n2) := cell_of_row _ _ 1 _ _ _ (heap_alloc_new _ _)
      have q2 : (w2.alloc (.cells #[.int .i64 n1, .int .i64 n2, .int .i64 n3, .int .i64 n4] 38)).cell? ⟨w2.heap.size, 2, none⟩ = some (.int .i64 n3) := cell_of_row _ _ 2 _ _ _ (heap_alloc_new _ _)
      have q3 : (w2.alloc (.cells #[.int .i64 n1, .int .i64 n2, .int .i64 n3, .int .i64 n4] 38)).cell? ⟨w2.heap.size, 3, none⟩ = some (.int .i64 n4) := cell_of_row _ _ 3 _ _ _ (heap_alloc_new _ _)
      obtain ⟨w3, hw3⟩ : ∃ w3, w2.alloc (.cells #[.int .i64 n1, .int .i64 n2, .int .i64 n3, .int .i64 n4] 38) = w3 := ⟨_, rfl⟩
      rw [hw3] at q0 q1 q2 q3 HB3 HO3
      have hsz3 := HB3.out.size
      clear hb2 hb3
      cases ok
      · have HN : Hid (L = lgI ss ps) := by
          show _ = _
          have := HQ.out; rw [HFj.out] at this
          simpa using this
        go_wp2_with fail
        go_ret
        exact ⟨_, rfl, by rw [← HN.out]; exact HO3.out.lower (Nat.le_of_lt HLt.out), HBW.out.trans (HB3.out.mono (Nat.le_of_lt HLt.out))⟩
      · by_cases hn : n1 = (j : Int) + 1
        · have hni : (n1 != (j : Int) + 1) = false := by simp [hn]
          have HN : Hid ((L ++ [(n1, n2, n3, n4)]) ++ lgF ss ps f (j + 1) = lgI ss ps) := by
            have := HQ.out; rw [HFj.out, if_pos (by simp [hn])] at this
            rw [List.append_assoc]; exact this
          clear hn
          go_wp2_with (at_builtin; refine app_re w3 W.heap.size _ L n1 n2 n3 n4 w3.heap.size rfl rfl _ _ rfl rfl rfl HO3.out hsz3 (by omega) W HB3.out ?_; intro v4 w4 H4)
          go_roundg f
          case measure => omega
          case rel => exact ⟨j + 1, L ++ [(n1, n2, n3, n4)], HGf.out, by go_num, H4.out.1, HN.out, by rw [List.length_append]; simp; omega, H4.out.2.1⟩
        · have hni : (n1 != (j : Int) + 1) = true := by simpa using hn
          have HN : Hid (L = lgI ss ps) := by
            show _ = _
            have := HQ.out; rw [HFj.out, if_neg (by simp [hn])] at this
            simpa using this
          clear hn
          go_wp2_with fail
          go_ret
          exact ⟨_, rfl, by rw [← HN.out]; exact HO3.out.lower (Nat.le_of_lt HLt.out), HBW.out.trans (HB3.out.mono (Nat.le_of_lt HLt.out))⟩
    · obtain rfl : gk = 0 := by omega
      have hji : ¬ (j : Int) < 12 := by omega
      have HN : Hid (L = lgI ss ps) := by
        show _ = _
        have := HQ.out; rw [lgF] at this
        simpa using this
      clear hg
      go_wp2_with fail
      go_ret
      exact ⟨_, rfl, by rw [← HN.out]; exact HO.out.lower (Nat.le_of_lt HLt.out), HBW.out.trans (HBl.out.mono (Nat.le_of_lt HLt.out))⟩
/-- ReadLog's, NextNo's and CrashLog's answers. -/
def rlI (ss : List ByteArray) (ps : List (Int × ByteArray)) : List Rec := if goodDB ss ps = true then lgI ss ps else []
def nnOkB (ss : List ByteArray) (ps : List (Int × ByteArray)) : Bool := goodDB ss ps && !decide ((lgI ss ps).length = 12)
def nnI (ss : List ByteArray) (ps : List (Int × ByteArray)) : Nat := if nnOkB ss ps = true then (lgI ss ps).length + 1 else 0
def clI (ss : List ByteArray) (ps : List (Int × ByteArray)) (ks : List Int) (torn b : Int) : List Rec := if crOkB ss ps ks torn b = true then lgI (crI ss ps ks torn b) [] else []
theorem rl_len (ss : List ByteArray) (ps : List (Int × ByteArray)) : (rlI ss ps).length ≤ 12 := by
  unfold rlI; split
  · exact lgI_len ss ps
  · simp
theorem cl_len (ss : List ByteArray) (ps : List (Int × ByteArray)) (ks : List Int) (torn b : Int) : (clI ss ps ks torn b).length ≤ 12 := by
  unfold clI; split
  · exact lgI_len _ _
  · simp
set_option maxRecDepth 100000 in
set_option maxHeartbeats 1000000 in
theorem sReadLog_any (A B : Option Addr) (ss : List ByteArray) (ps : List (Int × ByteArray)) (ca cb : Nat) (w : World) (hd : DiskIn w A B ss ps) :
    Calls Tryd.prog 11 #[diskV (.slice A ss.length ca) (.slice B ps.length cb)] w fun e w' => ∃ v, e = .returned (.tuple #[v, .bool (goodDB ss ps)]) ∧ OwnRe w' w.heap.size v (rlI ss ps) ∧ Below w.heap.size w w' := by
  obtain ⟨W, hW⟩ : ∃ W, w.alloc (.cells #[.slice A ss.length ca, .slice B ps.length cb] 26) = W := ⟨_, rfl⟩
  have hbW : Below w.heap.size w W := by rw [← hW]; exact gAlloc _ _
  have h1 : W.heap[w.heap.size]? = some (.cells #[.slice A ss.length ca, .slice B ps.length cb] 26 (0, 0)) := by rw [← hW]; exact heap_alloc_new _ _
  have x0 : W.cell? ⟨w.heap.size, 0, none⟩ = some (.slice A ss.length ca) := cell_of_row _ _ 0 _ _ _ h1
  have x1 : W.cell? ⟨w.heap.size, 1, none⟩ = some (.slice B ps.length cb) := cell_of_row _ _ 1 _ _ _ h1
  have HD := Lib.hid (hd.below hbW)
  have HB := Lib.hid hbW
  have HG := Lib.hid (sGoodD_any A B ss ps ca cb W HD.out)
  cases hg : goodDB ss ps
  · have HE : Hid (rlI ss ps = []) := by show _ = _; rw [rlI, hg]; rfl
    rw [hg] at HG
    clear hd hbW h1 hg
    go_enter Tryd.func11, Tryd.ntmps11
    go_wp2_with (go_at_call 32; refine HG.out.mono ?_; rintro e w1 ⟨rfl, hb1⟩)
    go_ret2
    exact ⟨_, rfl, by rw [HE.out]; exact OwnR.nil _ _, below_more HB.out hb1⟩
  · have HE : Hid (rlI ss ps = lgI ss ps) := by show _ = _; rw [rlI, hg]; rfl
    have h12 := (good_len hg).1
    have HL : Hid (∀ w', Below W.heap.size W w' → Calls Tryd.prog 33 #[diskV (.slice A ss.length ca) (.slice B ps.length cb)] w' fun e w'' => ∃ v, e = .returned v ∧ OwnRe w'' w'.heap.size v (lgI ss ps) ∧ Below w'.heap.size w' w'') := fun w' h => sLog10 A B ss ps ca cb w' (HD.out.below h) h12
    rw [hg] at HG
    have HLt := Lib.hid (heap_lt h1)
    clear hd hbW h1 hg h12
    go_enter Tryd.func11, Tryd.ntmps11
    go_wp2_with fail
    refine HG.out.mono ?_
    rintro e w1 ⟨rfl, hb1⟩
    have y0 := (hb1.cell (World.block_lt_of_cell? _ _ x0)).trans x0
    have y1 := (hb1.cell (World.block_lt_of_cell? _ _ x1)).trans x1
    have HL1 := Lib.hid (HL.out w1 hb1)
    have HB1 := Lib.hid (below_more HB.out hb1)
    clear hb1 x0 x1 hW
    go_wp2_with fail
    refine HL1.out.mono ?_
    rintro e w2 ⟨v, rfl, ho, hb2⟩
    obtain ⟨A2, c2, rfl, -⟩ := ho.form fRe_len
    go_wp2_with fail
    go_ret2
    exact ⟨_, rfl, by rw [HE.out]; exact ho.lower HB1.out.size, below_more HB1.out hb2⟩
set_option maxRecDepth 100000 in
set_option maxHeartbeats 2000000 in
theorem sNextNo_any (A B : Option Addr) (ss : List ByteArray) (ps : List (Int × ByteArray)) (ca cb : Nat) (w : World) (hd : DiskIn w A B ss ps) :
    Calls Tryd.prog 9 #[diskV (.slice A ss.length ca) (.slice B ps.length cb)] w fun e w' => e = .returned (.tuple #[.int .i64 (nnI ss ps : Nat), .bool (nnOkB ss ps)]) ∧ Below w.heap.size w w' := by
  obtain ⟨W, hW⟩ : ∃ W, w.alloc (.cells #[.slice A ss.length ca, .slice B ps.length cb] 26) = W := ⟨_, rfl⟩
  have hbW : Below w.heap.size w W := by rw [← hW]; exact gAlloc _ _
  have h1 : W.heap[w.heap.size]? = some (.cells #[.slice A ss.length ca, .slice B ps.length cb] 26 (0, 0)) := by rw [← hW]; exact heap_alloc_new _ _
  have x0 : W.cell? ⟨w.heap.size, 0, none⟩ = some (.slice A ss.length ca) := cell_of_row _ _ 0 _ _ _ h1
  have x1 : W.cell? ⟨w.heap.size, 1, none⟩ = some (.slice B ps.length cb) := cell_of_row _ _ 1 _ _ _ h1
  have HD := Lib.hid (hd.below hbW)
  have HB := Lib.hid hbW
  have HG := Lib.hid (sGoodD_any A B ss ps ca cb W HD.out)
  cases hg : goodDB ss ps
  · have hok : nnOkB ss ps = false := by rw [nnOkB, hg]; rfl
    have HE : Hid (nnI ss ps = 0 ∧ nnOkB ss ps = false) := ⟨by rw [nnI, hok]; rfl, hok⟩
    rw [hg] at HG
    clear hd hbW h1 hg hok
    go_enter Tryd.func9, Tryd.ntmps9
    go_wp2_with (go_at_call 32; refine HG.out.mono ?_; rintro e w1 ⟨rfl, hb1⟩)
    go_ret2
    exact ⟨by rw [HE.out.1, HE.out.2]; rfl, below_more HB.out hb1⟩
  have h12 := (good_len hg).1
  have HL : Hid (∀ w', Below W.heap.size W w' → Calls Tryd.prog 33 #[diskV (.slice A ss.length ca) (.slice B ps.length cb)] w' fun e w'' => ∃ v, e = .returned v ∧ OwnRe w'' w'.heap.size v (lgI ss ps) ∧ Below w'.heap.size w' w'') := fun w' h => sLog10 A B ss ps ca cb w' (HD.out.below h) h12
  rw [hg] at HG
  have hll := lgI_len ss ps
  by_cases hn : (lgI ss ps).length = 12
  · have hok : nnOkB ss ps = false := by rw [nnOkB, hn]; simp
    have HE : Hid (nnI ss ps = 0 ∧ nnOkB ss ps = false) := ⟨by rw [nnI, hok]; rfl, hok⟩
    have HN := Lib.hid hn
    clear hd hbW h1 hg h12 hok hn hll
    generalize lgI ss ps = L at *
    go_enter Tryd.func9, Tryd.ntmps9
    go_wp2_with fail
    refine HG.out.mono ?_
    rintro e w1 ⟨rfl, hb1⟩
    have y0 := (hb1.cell (World.block_lt_of_cell? _ _ x0)).trans x0
    have y1 := (hb1.cell (World.block_lt_of_cell? _ _ x1)).trans x1
    have HL1 := Lib.hid (HL.out w1 hb1)
    have HB1 := Lib.hid (below_more HB.out hb1)
    clear hb1 x0 x1 hW
    go_wp2_with fail
    refine HL1.out.mono ?_
    rintro e w2 ⟨v, rfl, ho, hb2⟩
    obtain ⟨A2, c2, rfl, -⟩ := ho.form fRe_len
    rw [HN.out]
    go_wp2_with fail
    go_ret2
    exact ⟨by rw [HE.out.1, HE.out.2]; rfl, below_more HB1.out hb2⟩
  · have hok : nnOkB ss ps = true := by rw [nnOkB, hg]; simp [hn]
    have HE : Hid (nnI ss ps = (lgI ss ps).length + 1 ∧ nnOkB ss ps = true) := ⟨by rw [nnI, hok]; rfl, hok⟩
    have hni : (((lgI ss ps).length : Int) == 12) = false := by simp; omega
    clear hd hbW h1 hg h12 hok hn
    generalize lgI ss ps = L at *
    generalize hLn : L.length = n at *
    have HLn := Lib.hid hLn
    clear hLn
    go_enter Tryd.func9, Tryd.ntmps9
    go_wp2_with fail
    refine HG.out.mono ?_
    rintro e w1 ⟨rfl, hb1⟩
    have y0 := (hb1.cell (World.block_lt_of_cell? _ _ x0)).trans x0
    have y1 := (hb1.cell (World.block_lt_of_cell? _ _ x1)).trans x1
    have HL1 := Lib.hid (HL.out w1 hb1)
    have HBW1 := Lib.hid hb1
    have HB1 := Lib.hid (below_more HB.out hb1)
    clear hb1 x0 x1 hW
    go_wp2_with fail
    refine HL1.out.mono ?_
    rintro e w2 ⟨v, rfl, ho, hb2⟩
    obtain ⟨A2, c2, rfl, -⟩ := ho.form fRe_len
    rw [HLn.out]
    have z0 := (hb2.cell (World.block_lt_of_cell? _ _ y0)).trans y0
    have z1 := (hb2.cell (World.block_lt_of_cell? _ _ y1)).trans y1
    have HL2 := Lib.hid (HL.out w2 (below_more HBW1.out hb2))
    have HB2 := Lib.hid (below_more HB1.out hb2)
    clear ho hb2 y0 y1
    go_wp2_with fail
    refine HL2.out.mono ?_
    rintro e w3 ⟨v3, rfl, ho3, hb3⟩
    obtain ⟨A3, c3, rfl, -⟩ := ho3.form fRe_len
    rw [HLn.out]
    go_wp2_with fail
    go_ret2
    exact ⟨by rw [HE.out.1, HE.out.2]; go_num, below_more HB2.out hb3⟩
end Go.Proofs.YthbjcipdneminaaDoor

/- GE -/
namespace Go.Proofs.YthbjcipdneminaaDoor
open Go.RowKit

theorem crL_good10 {ss : List ByteArray} {ps : List (Int × ByteArray)} {ks : List Int} {torn : Int} {b : Nat} (h : goodDB ss ps = true) (hb : b ≤ 16) : ∀ k, k ≤ ps.length → Good16 (crL ks torn b ss ps k)
  | 0, _ => ⟨(good_len h).1, (good_len h).2.2.1⟩
  | k + 1, hk => by
    obtain ⟨_, _, _, h4⟩ := good_len h
    have e : ps.getD k (0, ⟨#[]⟩) = ps[k] := by simp [List.getD, show k < ps.length by omega]
    have := h4 ps[k] (List.getElem_mem (by omega))
    rw [crL, e]
    exact (crL_good10 h hb k (by omega)).step ks torn k this.2 (by omega) hb
theorem good16_db {s : List ByteArray} (h : Good16 s) : goodDB s [] = true := by
  simp only [goodDB, List.all_nil, Bool.true_and, Bool.and_eq_true, decide_eq_true_eq]
  exact ⟨List.all_eq_true.2 fun x hx => by simp [stB9, h.2 x hx], h.1, by simp⟩
theorem good_crash10 {ss : List ByteArray} {ps : List (Int × ByteArray)} {ks : List Int} {torn b : Int} (h : crOkB ss ps ks torn b = true) : goodDB (crI ss ps ks torn b) [] = true := by
  have h' := h
  simp only [crOkB, Bool.and_eq_true, inB, decide_eq_true_eq] at h'
  rw [crI, if_pos h]
  exact good16_db (crL_good10 h'.1 (by omega) _ (Nat.le_refl _))

def apOkB (ss : List ByteArray) (ps : List (Int × ByteArray)) (r : Rec) : Bool := reOkB r && puOkB ss ps (r.1 - 1) (txR r)
def apS (ss : List ByteArray) (ps : List (Int × ByteArray)) (r : Rec) : List ByteArray := if reOkB r = true then puS ss ps (r.1 - 1) (txR r) else []
def apP (ss : List ByteArray) (ps : List (Int × ByteArray)) (r : Rec) : List (Int × ByteArray) := if reOkB r = true then puP ss ps (r.1 - 1) (txR r) else []
theorem keep6 {w w' : World} {a b c d e f : Addr} {x y z u v t : Value} (hb : Below w.heap.size w w') (h : w.cell? a = some x ∧ w.cell? b = some y ∧ w.cell? c = some z ∧ w.cell? d = some u ∧ w.cell? e = some v ∧ w.cell? f = some t) : w'.cell? a = some x ∧ w'.cell? b = some y ∧ w'.cell? c = some z ∧ w'.cell? d = some u ∧ w'.cell? e = some v ∧ w'.cell? f = some t :=
  ⟨(hb.cell (World.block_lt_of_cell? _ _ h.1)).trans h.1, (hb.cell (World.block_lt_of_cell? _ _ h.2.1)).trans h.2.1, (hb.cell (World.block_lt_of_cell? _ _ h.2.2.1)).trans h.2.2.1, (hb.cell (World.block_lt_of_cell? _ _ h.2.2.2.1)).trans h.2.2.2.1, (hb.cell (World.block_lt_of_cell? _ _ h.2.2.2.2.1)).trans h.2.2.2.2.1, (hb.cell (World.block_lt_of_cell? _ _ h.2.2.2.2.2)).trans h.2.2.2.2.2⟩
set_option maxRecDepth 100000 in
set_option maxHeartbeats 4000000 in
theorem sAppend_any (A B : Option Addr) (ss : List ByteArray) (ps : List (Int × ByteArray)) (ca cb : Nat) (no kd a b : Int) (w : World) (hd : DiskIn w A B ss ps) (hA : Lies9 A ca) (hB : Lies9 B cb) :
    Calls Tryd.prog 16 #[diskV (.slice A ss.length ca) (.slice B ps.length cb), .int .i64 no, .int .i64 kd, .int .i64 a, .int .i64 b] w fun e w' => ∃ v1 v2, e = .returned (.tuple #[diskV v1 v2, .bool (apOkB ss ps (no, kd, a, b))]) ∧ OwnD w' w.heap.size v1 v2 (apS ss ps (no, kd, a, b)) (apP ss ps (no, kd, a, b)) ∧ Below w.heap.size w w' := by
  obtain ⟨W1, hW1⟩ : ∃ W, w.alloc (.cells #[.slice A ss.length ca, .slice B ps.length cb] 26) = W := ⟨_, rfl⟩
  obtain ⟨W2, hW2⟩ : ∃ W, W1.alloc (.cells #[.slice none 0 0, .slice none 0 0] 26) = W := ⟨_, rfl⟩
  obtain ⟨W, hW⟩ : ∃ W, W2.alloc (.cells #[.int .i64 no, .int .i64 kd, .int .i64 a, .int .i64 b] 38) = W := ⟨_, rfl⟩
  have b1 : Below w.heap.size w W1 := by rw [← hW1]; exact gAlloc _ _
  have b2 : Below W1.heap.size W1 W2 := by rw [← hW2]; exact gAlloc _ _
  have b3 : Below W2.heap.size W2 W := by rw [← hW]; exact gAlloc _ _
  have h1 : W.heap[w.heap.size]? = some (.cells #[.slice A ss.length ca, .slice B ps.length cb] 26 (0, 0)) := by
    have e : W1.heap[w.heap.size]? = some (.cells #[.slice A ss.length ca, .slice B ps.length cb] 26 (0, 0)) := by rw [← hW1]; exact heap_alloc_new _ _
    exact ((below_more b2 b3).block _ (heap_lt e)).trans e
  have h2 : W.heap[W1.heap.size]? = some (.cells #[.slice none 0 0, .slice none 0 0] 26 (0, 0)) := by
    have e : W2.heap[W1.heap.size]? = some (.cells #[.slice none 0 0, .slice none 0 0] 26 (0, 0)) := by rw [← hW2]; exact heap_alloc_new _ _
    exact (b3.block _ (heap_lt e)).trans e
  have h3 : W.heap[W2.heap.size]? = some (.cells #[.int .i64 no, .int .i64 kd, .int .i64 a, .int .i64 b] 38 (0, 0)) := by rw [← hW]; exact heap_alloc_new _ _
  have HB := Lib.hid (below_more (below_more b1 b2) b3)
  have x0 : W.cell? ⟨w.heap.size, 0, none⟩ = some (.slice A ss.length ca) := cell_of_row _ _ 0 _ _ _ h1
  have x1 : W.cell? ⟨w.heap.size, 1, none⟩ = some (.slice B ps.length cb) := cell_of_row _ _ 1 _ _ _ h1
  have x2 : W.cell? ⟨W2.heap.size, 0, none⟩ = some (.int .i64 no) := cell_of_row _ _ 0 _ _ _ h3
  have x3 : W.cell? ⟨W2.heap.size, 1, none⟩ = some (.int .i64 kd) := cell_of_row _ _ 1 _ _ _ h3
  have x4 : W.cell? ⟨W2.heap.size, 2, none⟩ = some (.int .i64 a) := cell_of_row _ _ 2 _ _ _ h3
  have x5 : W.cell? ⟨W2.heap.size, 3, none⟩ = some (.int .i64 b) := cell_of_row _ _ 3 _ _ _ h3
  have HD := Lib.hid (hd.below HB.out)
  have HZ := Lib.hid h2
  have HS1 : Hid (w.heap.size < W1.heap.size ∧ W1.heap.size < W2.heap.size ∧ W1.heap.size < W.heap.size) := by
    refine ⟨?_, ?_, heap_lt h2⟩
    · rw [← hW1]; simp
    · rw [← hW2]; simp
  have HR := Lib.hid (sRecord10 (no, kd, a, b) W)
  cases hok : reOkB (no, kd, a, b)
  · have HE : Hid (apOkB ss ps (no, kd, a, b) = false ∧ apS ss ps (no, kd, a, b) = [] ∧ apP ss ps (no, kd, a, b) = []) := ⟨by rw [apOkB, hok]; rfl, by rw [apS, hok]; rfl, by rw [apP, hok]; rfl⟩
    rw [hok] at HR
    clear hd hA hB b1 b2 b3 h1 h2 h3 hok
    go_enter Tryd.func16, Tryd.ntmps16
    go_wp2_with fail
    refine HR.out.mono ?_
    rintro e w1 ⟨rfl, hb1⟩
    have k1 := (hb1.block _ (heap_lt HZ.out)).trans HZ.out
    have r0 := cell_of_row w1 _ 0 _ _ _ k1
    have r1 := cell_of_row w1 _ 1 _ _ _ k1
    have f0 := frozen_of_row w1 _ 0 _ _ k1
    have f1 := frozen_of_row w1 _ 1 _ _ k1
    have K1 := Lib.hid k1
    have HB1 := Lib.hid (below_more HB.out hb1)
    clear k1 hb1 x0 x1 x2 x3 x4 x5
    go_wp2_with fail
    have hgo : ((w1.setCell ⟨W1.heap.size, 0, none⟩ (.slice none 0 0)).setCell ⟨W1.heap.size, 1, none⟩ (.slice none 0 0)).heap[W1.heap.size]? = some (.cells #[.slice none 0 0, .slice none 0 0] 26 (0, 0)) :=
      heap_setCell_same _ _ 1 _ _ _ (heap_setCell_same _ _ 0 _ _ _ K1.out)
    refine ret_dk2 rfl W1.heap.size _ _ false rfl rfl hgo rfl ?_
    exact ⟨_, _, by rw [HE.out.1], by rw [HE.out.2.1, HE.out.2.2]; exact OwnD.nil _ _, (HB1.out.setCell (Nat.le_of_lt HS1.out.1) _).setCell (Nat.le_of_lt HS1.out.1) _⟩
  · have HE : Hid (apOkB ss ps (no, kd, a, b) = puOkB ss ps (no - 1) (txR (no, kd, a, b)) ∧ apS ss ps (no, kd, a, b) = puS ss ps (no - 1) (txR (no, kd, a, b)) ∧ apP ss ps (no, kd, a, b) = puP ss ps (no - 1) (txR (no, kd, a, b))) := ⟨by rw [apOkB, hok]; rfl, by rw [apS, if_pos hok], by rw [apP, if_pos hok]⟩
    have HT := Lib.hid (fun w => sText10 hok w)
    obtain ⟨⟨hn1, hn2⟩, -⟩ := re_ok hok
    have hw1 : IntKind.i64.wrap (no - 1) = no - 1 := wrap62 _ (by simp only at hn1; omega) (by simp only at hn2; omega)
    have HPu : Hid (∀ w', Below W.heap.size W w' → Calls Tryd.prog 42 #[diskV (.slice A ss.length ca) (.slice B ps.length cb), .int .i64 (no - 1), .string (txR (no, kd, a, b))] w' fun e w'' => ∃ v1 v2, e = .returned (.tuple #[diskV v1 v2, .bool (puOkB ss ps (no - 1) (txR (no, kd, a, b)))]) ∧ OwnD w'' w'.heap.size v1 v2 (puS ss ps (no - 1) (txR (no, kd, a, b))) (puP ss ps (no - 1) (txR (no, kd, a, b))) ∧ Below w'.heap.size w' w'') := fun w' h => sPut_any A B ss ps ca cb _ _ w' (HD.out.below h) hA hB
    rw [hok] at HR
    clear hd hA hB b1 b2 b3 h1 h2 h3 hok
    generalize txR (no, kd, a, b) = T at *
    generalize puOkB ss ps (no - 1) T = pb at *
    generalize puS ss ps (no - 1) T = S at *
    generalize puP ss ps (no - 1) T = Q at *
    go_enter Tryd.func16, Tryd.ntmps16
    go_wp2_with fail
    refine HR.out.mono ?_
    rintro e w1 ⟨rfl, hb1⟩
    obtain ⟨y0, y1, y2, y3, y4, y5⟩ := keep6 hb1 ⟨x0, x1, x2, x3, x4, x5⟩
    have HBw := Lib.hid hb1
    obtain ⟨hs1, hs2, hs3⟩ := HS1.out
    have n0 : w.heap.size ≠ W1.heap.size := by omega
    have n1 : W2.heap.size ≠ W1.heap.size := by omega
    clear hb1 x0 x1 x2 x3 x4 x5 hW hW1 hW2
    go_wp2_with fail
    go_region_held3 (fun w' => w'.cell? ⟨w.heap.size, 0, none⟩ = some (.slice A ss.length ca) ∧ w'.cell? ⟨w.heap.size, 1, none⟩ = some (.slice B ps.length cb) ∧ w'.cell? ⟨W2.heap.size, 0, none⟩ = some (.int .i64 no) ∧ w'.cell? ⟨W2.heap.size, 1, none⟩ = some (.int .i64 kd) ∧ w'.cell? ⟨W2.heap.size, 2, none⟩ = some (.int .i64 a) ∧ w'.cell? ⟨W2.heap.size, 3, none⟩ = some (.int .i64 b))
      (first
        | exact ⟨y0, y1, y2, y3, y4, y5⟩
        | exact ⟨(cell_set_other _ ⟨W1.heap.size, 1, none⟩ _ _ n0).trans ((cell_set_other _ ⟨W1.heap.size, 0, none⟩ _ _ n0).trans u0), (cell_set_other _ ⟨W1.heap.size, 1, none⟩ _ _ n0).trans ((cell_set_other _ ⟨W1.heap.size, 0, none⟩ _ _ n0).trans u1), (cell_set_other _ ⟨W1.heap.size, 1, none⟩ _ _ n1).trans ((cell_set_other _ ⟨W1.heap.size, 0, none⟩ _ _ n1).trans u2), (cell_set_other _ ⟨W1.heap.size, 1, none⟩ _ _ n1).trans ((cell_set_other _ ⟨W1.heap.size, 0, none⟩ _ _ n1).trans u3), (cell_set_other _ ⟨W1.heap.size, 1, none⟩ _ _ n1).trans ((cell_set_other _ ⟨W1.heap.size, 0, none⟩ _ _ n1).trans u4), (cell_set_other _ ⟨W1.heap.size, 1, none⟩ _ _ n1).trans ((cell_set_other _ ⟨W1.heap.size, 0, none⟩ _ _ n1).trans u5)⟩
        | exact ⟨u0, u1, u2, u3, u4, u5⟩
        | exact ⟨t0, t1, t2, t3, t4, t5⟩
        | go_keep)
      (first
      | (go_at_call 42; refine (HPu.out w2 hB2).mono ?_; rintro e w3 ⟨v1, v2, rfl, ho, hb3⟩; obtain ⟨A1, c1, rfl, -⟩ := ho.sure.form fSt_len; obtain ⟨A2, c2, rfl, -⟩ := ho.later.form fPu_len; obtain ⟨u0, u1, u2, u3, u4, u5⟩ := keep6 hb3 ⟨t0, t1, t2, t3, t4, t5⟩; have hB3 := below_more hB2 hb3; have hz3 : w3.heap[W1.heap.size]? = some (.cells #[.slice none 0 0, .slice none 0 0] 26 (0, 0)) := (hB3.block _ hs3).trans HZ.out; have r0 := cell_of_row w3 _ 0 _ _ _ hz3; have r1 := cell_of_row w3 _ 1 _ _ _ hz3; have f0 := frozen_of_row w3 _ 0 _ _ hz3; have f1 := frozen_of_row w3 _ 1 _ _ hz3)
      | (go_at_call 43; refine (HT.out w1.drew).mono ?_; rintro e w2 ⟨rfl, hb2⟩; have hB2 := below_more (below_more HBw.out gDrew) hb2; obtain ⟨t0, t1, t2, t3, t4, t5⟩ := keep6 (w := w1.drew) hb2 ⟨y0, y1, y2, y3, y4, y5⟩))
    all_goals
      have HO := Lib.hid ho
      have HF := Lib.hid (below_more HB.out hB3)
      have K := Lib.hid hz3
      have hlt : W.heap.size ≤ w2.heap.size := hB2.size
      clear ho hB3 hz3 r0 r1 f0 f1 u0 u1 u2 u3 u4 u5 t0 t1 t2 t3 t4 t5 y0 y1 y2 y3 y4 y5 hb3 hb2 hB2
      go_wp2_with fail
      have g0 := gSet9 w3 W1.heap.size 0 (.slice A1 S.length c1)
      have g1 := gSet9 (w3.setCell ⟨W1.heap.size, 0, none⟩ (.slice A1 S.length c1)) W1.heap.size 1 (.slice A2 Q.length c2)
      refine ret_dk2 rfl W1.heap.size _ _ pb rfl rfl (heap_setCell_same _ _ 1 _ _ _ (heap_setCell_same _ _ 0 _ _ _ K.out)) rfl ⟨_, _, by rw [HE.out.1], ?_, (HF.out.setCell (Nat.le_of_lt hs1) _).setCell (Nat.le_of_lt hs1) _⟩
      rw [HE.out.2.1, HE.out.2.2]
      exact ⟨((HO.out.sure.cur (by omega) g0).cur (by omega) g1).lower (by omega), ((HO.out.later.cur (by omega) g0).cur (by omega) g1).lower (by omega), HO.out.apart⟩
end Go.Proofs.YthbjcipdneminaaDoor

/- GF -/
namespace Go.Proofs.YthbjcipdneminaaDoor
open Go.RowKit

theorem Re_at {w : World} {A : Option Addr} {l : List Rec} (h : RdR 4 fRe w A l) {j : Nat} (hj : j < l.length) : ∃ b o, A = some ⟨b, o, none⟩ ∧ w.cell? ⟨b, o + j * 4, none⟩ = some (.int .i64 l[j].1) ∧ w.cell? ⟨b, o + j * 4 + 1, none⟩ = some (.int .i64 l[j].2.1) ∧ w.cell? ⟨b, o + j * 4 + 2, none⟩ = some (.int .i64 l[j].2.2.1) ∧ w.cell? ⟨b, o + j * 4 + 3, none⟩ = some (.int .i64 l[j].2.2.2) := by
  obtain ⟨b, o, e, hc⟩ := h (by rintro rfl; simp at hj)
  exact ⟨b, o, e, hc j hj 0 _ rfl, hc j hj 1 _ rfl, hc j hj 2 _ rfl, hc j hj 3 _ rfl⟩
theorem Re_own_at {w : World} {base g n cap : Nat} {l : List Rec} (h : OwnR 38 4 fRe w base (.slice (some ⟨g, 0, none⟩) n cap) l) {j : Nat} (hj : j < l.length) : (w.cell? ⟨g, j * 4, none⟩ = some (.int .i64 l[j].1) ∧ w.frozen? ⟨g, j * 4, none⟩ = false) ∧ (w.cell? ⟨g, j * 4 + 1, none⟩ = some (.int .i64 l[j].2.1) ∧ w.frozen? ⟨g, j * 4 + 1, none⟩ = false) ∧ (w.cell? ⟨g, j * 4 + 2, none⟩ = some (.int .i64 l[j].2.2.1) ∧ w.frozen? ⟨g, j * 4 + 2, none⟩ = false) ∧ (w.cell? ⟨g, j * 4 + 3, none⟩ = some (.int .i64 l[j].2.2.2) ∧ w.frozen? ⟨g, j * 4 + 3, none⟩ = false) :=
  ⟨h.cell fRe_len hj (i := 0) (by decide), h.cell fRe_len hj (i := 1) (by decide), h.cell fRe_len hj (i := 2) (by decide), h.cell fRe_len hj (i := 3) (by decide)⟩
theorem Re_own_put {w : World} {base g n cap : Nat} {l : List Rec} (h : OwnR 38 4 fRe w base (.slice (some ⟨g, 0, none⟩) n cap) l) {j : Nat} (hj : j < l.length) (x0 x1 x2 x3 : Int) :
    OwnR 38 4 fRe ((((w.setCell ⟨g, j * 4, none⟩ (.int .i64 x0)).setCell ⟨g, j * 4 + 1, none⟩ (.int .i64 x1)).setCell ⟨g, j * 4 + 2, none⟩ (.int .i64 x2)).setCell ⟨g, j * 4 + 3, none⟩ (.int .i64 x3)) base (.slice (some ⟨g, 0, none⟩) n cap) (l.set j (x0, x1, x2, x3)) ∧ w.grownBy ((((w.setCell ⟨g, j * 4, none⟩ (.int .i64 x0)).setCell ⟨g, j * 4 + 1, none⟩ (.int .i64 x1)).setCell ⟨g, j * 4 + 2, none⟩ (.int .i64 x2)).setCell ⟨g, j * 4 + 3, none⟩ (.int .i64 x3)) (some g) := by
  obtain ⟨⟨y0, y1, y2, y3⟩, hy⟩ : ∃ y : Rec, l[j] = y := ⟨_, rfl⟩
  obtain ⟨h0, g0⟩ := OwnR.put fRe_len h hj (i := 0) (by decide) (u := .int .i64 x0) (y := (x0, y1, y2, y3)) (by rw [hy]; rfl)
  have hj0 : j < ((l).set j (x0, y1, y2, y3)).length := by rw [List.length_set]; exact hj
  have he0 : ((l).set j (x0, y1, y2, y3))[j] = (x0, y1, y2, y3) := List.getElem_set_self ..
  obtain ⟨h1, g1⟩ := OwnR.put fRe_len h0 hj0 (i := 1) (by decide) (u := .int .i64 x1) (y := (x0, x1, y2, y3)) (by rw [he0]; rfl)
  have hj1 : j < (((l).set j (x0, y1, y2, y3)).set j (x0, x1, y2, y3)).length := by rw [List.length_set]; exact hj0
  have he1 : (((l).set j (x0, y1, y2, y3)).set j (x0, x1, y2, y3))[j] = (x0, x1, y2, y3) := List.getElem_set_self ..
  obtain ⟨h2, g2⟩ := OwnR.put fRe_len h1 hj1 (i := 2) (by decide) (u := .int .i64 x2) (y := (x0, x1, x2, y3)) (by rw [he1]; rfl)
  have hj2 : j < ((((l).set j (x0, y1, y2, y3)).set j (x0, x1, y2, y3)).set j (x0, x1, x2, y3)).length := by rw [List.length_set]; exact hj1
  have he2 : ((((l).set j (x0, y1, y2, y3)).set j (x0, x1, y2, y3)).set j (x0, x1, x2, y3))[j] = (x0, x1, x2, y3) := List.getElem_set_self ..
  obtain ⟨h3, g3⟩ := OwnR.put fRe_len h2 hj2 (i := 3) (by decide) (u := .int .i64 x3) (y := (x0, x1, x2, x3)) (by rw [he2]; rfl)
  have hj3 : j < (((((l).set j (x0, y1, y2, y3)).set j (x0, x1, y2, y3)).set j (x0, x1, x2, y3)).set j (x0, x1, x2, x3)).length := by rw [List.length_set]; exact hj2
  have he3 : (((((l).set j (x0, y1, y2, y3)).set j (x0, x1, y2, y3)).set j (x0, x1, x2, y3)).set j (x0, x1, x2, x3))[j] = (x0, x1, x2, x3) := List.getElem_set_self ..
  simp only [List.set_set] at h3
  exact ⟨h3, grownBy_trans (grownBy_trans (grownBy_trans (g0) g1) g2) g3⟩
set_option maxRecDepth 100000 in
set_option maxHeartbeats 1000000 in
theorem eqRe_self (x0 x1 x2 x3 : Int) (w : World) : Calls Tryd.prog 23 #[.agg #[.int .i64 x0, .int .i64 x1, .int .i64 x2, .int .i64 x3], .agg #[.int .i64 x0, .int .i64 x1, .int .i64 x2, .int .i64 x3]] w fun e w' => e = .returned (.bool true) ∧ Below w.heap.size w w' := by
  have hx0 : (x0 != x0) = false := by simp
  have hx1 : (x1 != x1) = false := by simp
  have hx2 : (x2 != x2) = false := by simp
  have hx3 : (x3 != x3) = false := by simp
  go_enter Tryd.func23, Tryd.ntmps23
  go_wp2_with fail
  go_ret
  exact ⟨rfl, gAlloc2 _ _ _⟩
set_option maxRecDepth 100000 in
set_option maxHeartbeats 2000000 in
theorem eqReS_self (A B : Option Addr) (l : List Rec) (ca cb : Nat) (w : World) (ha : RdR 4 fRe w A l) (hb : RdR 4 fRe w B l) (hl : l.length ≤ 1048576) :
    Calls Tryd.prog 26 #[.slice A l.length ca, .slice B l.length cb] w fun e w' => e = .returned (.bool true) ∧ Below w.heap.size w w' := by
  have HA := Lib.hid ha
  have HB := Lib.hid hb
  clear ha hb
  have hne : ((l.length : Int) != (l.length : Int)) = false := by simp
  go_enter Tryd.func26, Tryd.ntmps26
  go_wp2_with fail
  go_loopg [5] l.length (fun gk i wr => ∃ k : Nat, k + gk = l.length ∧ i = .int .i64 k ∧ Below w.heap.size w wr)
  case atStart => exact ⟨0, by omega, rfl, Below.refl _ _⟩
  case round =>
    obtain ⟨k, hg, rfl, hbel⟩ := hrel
    have HBl := Lib.hid hbel
    clear hbel
    by_cases hlt : k < l.length
    · have hki : (k : Int) < (l.length : Int) := by omega
      obtain ⟨b1, o1, rfl, c0, c1, c2, c3⟩ := Re_at (HA.out.below HBl.out) hlt
      obtain ⟨b2, o2, rfl, d0, d1, d2, d3⟩ := Re_at (HB.out.below HBl.out) hlt
      have HGK : Hid (l.length - k - 1 < gk ∧ k + 1 + (l.length - k - 1) = l.length) := by show _ ∧ _; omega
      clear hg
      generalize l[k] = p at *
      obtain ⟨p0, p1, p2, p3⟩ := p
      simp only at c0 c1 c2 c3 d0 d1 d2 d3
      go_wp2_with fail
      go_region_held3 (fun w' => w'.cell? ⟨b1, o1 + k * 4, none⟩ = some (.int .i64 p0) ∧ w'.cell? ⟨b1, o1 + k * 4 + 1, none⟩ = some (.int .i64 p1) ∧ w'.cell? ⟨b1, o1 + k * 4 + 2, none⟩ = some (.int .i64 p2) ∧ w'.cell? ⟨b1, o1 + k * 4 + 3, none⟩ = some (.int .i64 p3) ∧ w'.cell? ⟨b2, o2 + k * 4, none⟩ = some (.int .i64 p0) ∧ w'.cell? ⟨b2, o2 + k * 4 + 1, none⟩ = some (.int .i64 p1) ∧ w'.cell? ⟨b2, o2 + k * 4 + 2, none⟩ = some (.int .i64 p2) ∧ w'.cell? ⟨b2, o2 + k * 4 + 3, none⟩ = some (.int .i64 p3))
        (first | exact ⟨c0, c1, c2, c3, d0, d1, d2, d3⟩ | exact ⟨r0, r1, r2, r3, r4, r5, r6, r7⟩ | go_keep) (first
        | (go_at_call 23; refine (eqRe_self p0 p1 p2 p3 _).mono ?_; rintro e w7 ⟨rfl, hb7⟩; have r0 := (hb7.cell (World.block_lt_of_cell? _ _ c0)).trans c0; have r1 := (hb7.cell (World.block_lt_of_cell? _ _ c1)).trans c1; have r2 := (hb7.cell (World.block_lt_of_cell? _ _ c2)).trans c2; have r3 := (hb7.cell (World.block_lt_of_cell? _ _ c3)).trans c3; have r4 := (hb7.cell (World.block_lt_of_cell? _ _ d0)).trans d0; have r5 := (hb7.cell (World.block_lt_of_cell? _ _ d1)).trans d1; have r6 := (hb7.cell (World.block_lt_of_cell? _ _ d2)).trans d2; have r7 := (hb7.cell (World.block_lt_of_cell? _ _ d3)).trans d3))
      all_goals
        have HB7 := Lib.hid (below_more HBl.out (below_more gDrew hb7))
        clear hb7
        go_wp2_with fail
        go_roundg (l.length - k - 1)
        case measure => exact HGK.out.1
        case rel => exact ⟨k + 1, HGK.out.2, by go_num, HB7.out⟩
    · obtain rfl : k = l.length := by omega
      have hki : ¬ (l.length : Int) < (l.length : Int) := by omega
      go_wp2_with fail
      go_ret
      exact ⟨rfl, HBl.out⟩
/-- What markRecordS writes. -/
def markRe (k n : Nat) : List Rec := (List.range n).map fun j => (((k + 4 * j : Nat) : Int), ((k + 4 * j + 1 : Nat) : Int), ((k + 4 * j + 2 : Nat) : Int), ((k + 4 * j + 3 : Nat) : Int))
theorem markRe_length (k n : Nat) : (markRe k n).length = n := by simp [markRe]
theorem markRe_at (k : Nat) {n j : Nat} (h : j < (markRe k n).length) : (markRe k n)[j] = (((k + 4 * j : Nat) : Int), ((k + 4 * j + 1 : Nat) : Int), ((k + 4 * j + 2 : Nat) : Int), ((k + 4 * j + 3 : Nat) : Int)) := by simp [markRe]
theorem markRe_succ (k n : Nat) : markRe k (n + 1) = markRe k n ++ [(((k + 4 * n : Nat) : Int), ((k + 4 * n + 1 : Nat) : Int), ((k + 4 * n + 2 : Nat) : Int), ((k + 4 * n + 3 : Nat) : Int))] := by simp [markRe, List.range_succ]
theorem markRe_set (k : Nat) {l : List Rec} {j : Nat} (h : j < l.length) : (markRe k j ++ l.drop j).set j (((k + 4 * j : Nat) : Int), ((k + 4 * j + 1 : Nat) : Int), ((k + 4 * j + 2 : Nat) : Int), ((k + 4 * j + 3 : Nat) : Int)) = markRe k (j + 1) ++ l.drop (j + 1) := by
  rw [List.set_append_right _ _ (by rw [markRe_length]; exact Nat.le_refl _), markRe_length, Nat.sub_self, List.drop_eq_getElem_cons h, List.set_cons_zero, markRe_succ, List.append_assoc]
  rfl
set_option maxRecDepth 100000 in
set_option maxHeartbeats 4000000 in
theorem markReS_any (v : Value) (l : List Rec) (base k : Nat) (w : World) (ho : OwnR 38 4 fRe w base v l) (hl : l.length ≤ 1048576) (hk0 : 1 ≤ k) (hk1 : k ≤ 5000000) :
    Calls Tryd.prog 29 #[v, .int .i64 k] w fun e w' => e = .returned (.int .i64 ((k + 4 * l.length : Nat) : Int)) ∧ OwnR 38 4 fRe w' base v (markRe k l.length) ∧ w.grownBy w' v.ownBlock := by
  rcases ho.2 with ⟨rfl, hn⟩ | ⟨g, cap, cur, rfl, hbg, hg, hle, _⟩
  · obtain rfl := List.eq_nil_of_length_eq_zero hn
    go_enter Tryd.func29, Tryd.ntmps29
    go_wp2_with fail
    go_loopg [1, 5] 0 (fun _ q i wr => q = .int .i64 (k : Nat) ∧ i = .int .i64 0 ∧ w = wr)
    case atStart => exact ⟨rfl, rfl, rfl⟩
    case round =>
      obtain ⟨rfl, rfl, rfl⟩ := hrel
      go_wp2_with fail
      go_ret
      exact ⟨by simp, OwnR.nil _ _, ⟨rfl, rfl, rfl, Nat.le_refl _, fun _ _ _ => rfl⟩⟩
  · have HO0 := Lib.hid ho
    clear ho hg hle
    generalize hnn : l.length = n at *
    have HN := Lib.hid hnn
    clear hnn
    go_enter Tryd.func29, Tryd.ntmps29
    go_wp2_with fail
    go_loopg [1, 5] n (fun gk q i wr => ∃ j : Nat, j + gk = n ∧ q = .int .i64 ((k + 4 * j : Nat) : Int) ∧ i = .int .i64 j ∧ OwnR 38 4 fRe wr base (.slice (some ⟨g, 0, none⟩) n cap) (markRe k j ++ l.drop j) ∧ w.grownBy wr (some g))
    case atStart => exact ⟨0, by omega, by simp, rfl, HO0.out, ⟨rfl, rfl, rfl, Nat.le_refl _, fun _ _ _ => rfl⟩⟩
    case round =>
      obtain ⟨j, hg, rfl, rfl, hown, hgr⟩ := hrel
      have HOw := Lib.hid hown
      have HGr := Lib.hid hgr
      clear hown hgr
      by_cases hlt : j < n
      · have hji : (j : Int) < (n : Int) := by omega
        have hlt2 : j < l.length := by have := HN.out; omega
        have hMl : (markRe k j ++ l.drop j).length = n := by rw [List.length_append, markRe_length, List.length_drop, HN.out]; omega
        have hjM : j < (markRe k j ++ l.drop j).length := by omega
        have HGK : Hid (n - j - 1 < gk ∧ j + 1 + (n - j - 1) = n) := by show _ ∧ _; omega
        have HSet := Lib.hid (markRe_set k hlt2)
        have HKi : Hid (((k + 4 * (j + 1) : Nat) : Int) = ((k + 4 * j + 4 : Nat) : Int)) := by show _ = _; omega
        obtain ⟨⟨hc0, hf0⟩, ⟨hc1, hf1⟩, ⟨hc2, hf2⟩, ⟨hc3, hf3⟩⟩ := Re_own_at HOw.out hjM
        obtain ⟨hP, hG⟩ := Re_own_put HOw.out hjM ((k + 4 * j : Nat) : Int) ((k + 4 * j + 1 : Nat) : Int) ((k + 4 * j + 2 : Nat) : Int) ((k + 4 * j + 3 : Nat) : Int)
        rw [HSet.out] at hP
        have HP := Lib.hid hP
        have HG := Lib.hid (grownBy_trans HGr.out hG)
        have hkb : k + 4 * j ≤ 12000000 := by omega
        clear hg hP hG hMl HSet HOw
        generalize (markRe k j ++ l.drop j)[j] = p at *
        generalize k + 4 * j = q at *
        go_wp2_with fail
        go_roundg (n - j - 1)
        case measure => exact HGK.out.1
        case rel => exact ⟨j + 1, HGK.out.2, by rw [HKi.out]; go_num, by go_num, HP.out, HG.out⟩
      · obtain rfl : j = n := by omega
        have hji : ¬ (j : Int) < (j : Int) := by omega
        have HF : Hid (OwnR 38 4 fRe wr base (.slice (some ⟨g, 0, none⟩) j cap) (markRe k j)) := by
          have h := HOw.out
          rw [List.drop_of_length_le (by rw [HN.out]; exact Nat.le_refl _), List.append_nil] at h
          exact h
        go_wp2_with fail
        go_ret
        exact ⟨rfl, HF.out, HGr.out⟩
set_option maxRecDepth 100000 in
set_option maxHeartbeats 4000000 in
theorem heldReS_any (A : Option Addr) (k n c : Nat) (w : World) (ha : RdR 4 fRe w A (markRe k n)) (hn : n ≤ 1048576) (hk0 : 1 ≤ k) (hk1 : k ≤ 5000000) :
    Calls Tryd.prog 30 #[.slice A n c, .int .i64 k] w fun e w' => e = .returned (.int .i64 ((k + 4 * n : Nat) : Int)) ∧ Below w.heap.size w w' := by
  have HA := Lib.hid ha
  clear ha
  go_enter Tryd.func30, Tryd.ntmps30
  go_wp2_with fail
  go_loopg [1, 5] n (fun gk kk i wr => ∃ j : Nat, j + gk = n ∧ i = .int .i64 j ∧ kk = .int .i64 ((k + 4 * j : Nat) : Int) ∧ Below w.heap.size w wr)
  case atStart => exact ⟨0, by omega, rfl, by simp, Below.refl _ _⟩
  case round =>
    obtain ⟨j, hg, rfl, rfl, hbel⟩ := hrel
    have HBl := Lib.hid hbel
    clear hbel
    by_cases hlt : j < n
    · have hji : (j : Int) < (n : Int) := by omega
      have hlt' : j < (markRe k n).length := by rw [markRe_length]; exact hlt
      obtain ⟨b1, o1, rfl, c0, c1, c2, c3⟩ := Re_at (HA.out.below HBl.out) hlt'
      rw [markRe_at k hlt'] at c0 c1 c2 c3
      simp only at c0 c1 c2 c3
      have HGK : Hid (n - j - 1 < gk ∧ j + 1 + (n - j - 1) = n) := by show _ ∧ _; omega
      have HKi : Hid (((k + 4 * (j + 1) : Nat) : Int) = ((k + 4 * j + 4 : Nat) : Int)) := by show _ = _; omega
      have hkb : k + 4 * j ≤ 12000000 := by omega
      clear hg hlt'
      generalize k + 4 * j = q at *
      go_wp2_with fail
      go_roundg (n - j - 1)
      case measure => exact HGK.out.1
      case rel => exact ⟨j + 1, HGK.out.2, by go_num, by rw [HKi.out]; go_num, HBl.out⟩
    · obtain rfl : j = n := by omega
      have hji : ¬ (j : Int) < (j : Int) := by omega
      go_wp2_with fail
      go_ret
      exact ⟨rfl, HBl.out⟩

end Go.Proofs.YthbjcipdneminaaDoor

/- GH -/
namespace Go.Proofs.YthbjcipdneminaaDoor
open Go.RowKit

def u8 (d : Nat) : UInt8 := UInt8.ofNat (48 + d % 10)
theorem dg1_form (n : Nat) : dgA 1 n ⟨#[]⟩ = ⟨#[u8 n]⟩ := rfl
theorem dg2_form (n : Nat) : dgA 2 n ⟨#[]⟩ = ⟨#[u8 (n / 10), u8 n]⟩ := rfl
theorem dg4_form (n : Nat) : dgA 4 n ⟨#[]⟩ = ⟨#[u8 (n / 10 / 10 / 10), u8 (n / 10 / 10), u8 (n / 10), u8 n]⟩ := rfl
theorem u8_nat (d : Nat) : (u8 d).toNat = 48 + d % 10 := by
  unfold u8; simp [UInt8.toNat_ofNat']; omega
theorem in1 (a : UInt8) {d : Nat} (h : a.toNat = 48 + d) (hd : d ≤ 9) : inI ⟨#[a]⟩ = (d : Int) := by
  have e : (⟨#[a]⟩ : ByteArray)[0]? = some a := rfl
  have hs : (⟨#[a]⟩ : ByteArray).size = 1 := rfl
  have hd0 : isD ⟨#[a]⟩ 0 = true := by simp only [isD, e, Option.getD_some, h]; simp; omega
  rw [inI, hs, if_pos (by simp [List.range_succ, hd0])]
  simp only [inA, e, Option.getD_some, h]
  omega
theorem in2 (a b : UInt8) {d f : Nat} (h : a.toNat = 48 + d) (h2 : b.toNat = 48 + f) (hd : d ≤ 9) (hf : f ≤ 9) : inI ⟨#[a, b]⟩ = (10 * d + f : Nat) := by
  have e : (⟨#[a, b]⟩ : ByteArray)[0]? = some a := rfl
  have e1 : (⟨#[a, b]⟩ : ByteArray)[1]? = some b := rfl
  have hs : (⟨#[a, b]⟩ : ByteArray).size = 2 := rfl
  have q0 : isD ⟨#[a, b]⟩ 0 = true := by simp only [isD, e, Option.getD_some, h]; simp; omega
  have q1 : isD ⟨#[a, b]⟩ 1 = true := by simp only [isD, e1, Option.getD_some, h2]; simp; omega
  rw [inI, hs, if_pos (by simp [List.range_succ, q0, q1])]
  simp only [inA, e, e1, Option.getD_some, h, h2]
  omega
theorem in4 (a b c d : UInt8) {x y z t : Nat} (h : a.toNat = 48 + x) (h2 : b.toNat = 48 + y) (h3 : c.toNat = 48 + z) (h4 : d.toNat = 48 + t) (hx : x ≤ 9) (hy : y ≤ 9) (hz : z ≤ 9) (ht : t ≤ 9) : inI ⟨#[a, b, c, d]⟩ = (1000 * x + 100 * y + 10 * z + t : Nat) := by
  have e : (⟨#[a, b, c, d]⟩ : ByteArray)[0]? = some a := rfl
  have e1 : (⟨#[a, b, c, d]⟩ : ByteArray)[1]? = some b := rfl
  have e2 : (⟨#[a, b, c, d]⟩ : ByteArray)[2]? = some c := rfl
  have e3 : (⟨#[a, b, c, d]⟩ : ByteArray)[3]? = some d := rfl
  have hs : (⟨#[a, b, c, d]⟩ : ByteArray).size = 4 := rfl
  have q0 : isD ⟨#[a, b, c, d]⟩ 0 = true := by simp only [isD, e, Option.getD_some, h]; simp; omega
  have q1 : isD ⟨#[a, b, c, d]⟩ 1 = true := by simp only [isD, e1, Option.getD_some, h2]; simp; omega
  have q2 : isD ⟨#[a, b, c, d]⟩ 2 = true := by simp only [isD, e2, Option.getD_some, h3]; simp; omega
  have q3 : isD ⟨#[a, b, c, d]⟩ 3 = true := by simp only [isD, e3, Option.getD_some, h4]; simp; omega
  rw [inI, hs, if_pos (by simp [List.range_succ, q0, q1, q2, q3])]
  simp only [inA, e, e1, e2, e3, Option.getD_some, h, h2, h3, h4]
  omega
theorem sixteen (c0 c1 k0 a0 a1 a2 a3 b0 b1 b2 b3 e0 e1 e2 e3 z : UInt8) : ((⟨#[c0, c1]⟩ ++ ⟨#[k0]⟩ ++ ⟨#[a0, a1, a2, a3]⟩ ++ ⟨#[b0, b1, b2, b3]⟩) ++ ⟨#[e0, e1, e2, e3]⟩ ++ ⟨#[z]⟩ : ByteArray) = ⟨#[c0, c1, k0, a0, a1, a2, a3, b0, b1, b2, b3, e0, e1, e2, e3, z]⟩ := by
  apply ByteArray.ext; simp only [ByteArray.data_append]; rfl
theorem sixteen_parts (c0 c1 k0 a0 a1 a2 a3 b0 b1 b2 b3 e0 e1 e2 e3 z : UInt8) : (⟨#[c0, c1, k0, a0, a1, a2, a3, b0, b1, b2, b3, e0, e1, e2, e3, z]⟩ : ByteArray).extract 0 2 = ⟨#[c0, c1]⟩ ∧ (⟨#[c0, c1, k0, a0, a1, a2, a3, b0, b1, b2, b3, e0, e1, e2, e3, z]⟩ : ByteArray).extract 2 3 = ⟨#[k0]⟩ ∧ (⟨#[c0, c1, k0, a0, a1, a2, a3, b0, b1, b2, b3, e0, e1, e2, e3, z]⟩ : ByteArray).extract 3 7 = ⟨#[a0, a1, a2, a3]⟩ ∧ (⟨#[c0, c1, k0, a0, a1, a2, a3, b0, b1, b2, b3, e0, e1, e2, e3, z]⟩ : ByteArray).extract 7 11 = ⟨#[b0, b1, b2, b3]⟩ := by
  refine ⟨?_, ?_, ?_, ?_⟩ <;> (apply ByteArray.ext; rw [ByteArray.data_extract]; rfl)
theorem tx_parts (no kd a b : Nat) : (txI no kd a b).extract 0 2 = dgA 2 no ⟨#[]⟩ ∧ (txI no kd a b).extract 2 3 = dgA 1 kd ⟨#[]⟩ ∧ (txI no kd a b).extract 3 7 = dgA 4 a ⟨#[]⟩ ∧ (txI no kd a b).extract 7 11 = dgA 4 b ⟨#[]⟩ := by
  unfold txI
  generalize smB (tx0 no kd a b) (tx0 no kd a b).size = n
  unfold tx0
  rw [dg2_form, dg1_form, dg4_form a, dg4_form b, dg4_form n, sixteen]
  exact sixteen_parts _ _ _ _ _ _ _ _ _ _ _ _ _ _ _ _
theorem rrR_tx {r : Rec} (h : reOkB r = true) : rrR (txR r) = r := by
  obtain ⟨⟨h1, h2⟩, ⟨h3, h4⟩, ⟨h5, h6⟩, h7, h8⟩ := re_ok h
  obtain ⟨no, kd, a, b⟩ := r
  simp only at h1 h2 h3 h4 h5 h6 h7 h8
  obtain ⟨no, rfl⟩ := Int.eq_ofNat_of_zero_le (show 0 ≤ no by omega)
  obtain ⟨kd, rfl⟩ := Int.eq_ofNat_of_zero_le (show 0 ≤ kd by omega)
  obtain ⟨a, rfl⟩ := Int.eq_ofNat_of_zero_le h5
  obtain ⟨b, rfl⟩ := Int.eq_ofNat_of_zero_le h7
  have e : txR ((no : Int), (kd : Int), (a : Int), (b : Int)) = txI no kd a b := rfl
  obtain ⟨e1, e2, e3, e4⟩ := tx_parts no kd a b
  rw [e, rrR, e1, e2, e3, e4, dg2_form, dg1_form, dg4_form, dg4_form, in2 _ _ (u8_nat _) (u8_nat _) (by omega) (by omega), in1 _ (u8_nat _) (by omega), in4 _ _ _ _ (u8_nat _) (u8_nat _) (u8_nat _) (u8_nat _) (by omega) (by omega) (by omega) (by omega), in4 _ _ _ _ (u8_nat _) (u8_nat _) (u8_nat _) (u8_nat _) (by omega) (by omega) (by omega) (by omega)]
  refine Prod.ext ?_ (Prod.ext ?_ (Prod.ext ?_ ?_)) <;> simp only <;> omega
theorem rr_tx {r : Rec} (h : reOkB r = true) : rrOkB (txR r) = true ∧ rrI (txR r) = r := by
  have h1 : rrOkB (txR r) = true := by
    simp only [rrOkB, rrR_tx h, h, txR_size, decide_true, Bool.and_true]
  exact ⟨h1, by rw [(rr_yes h1).1, rrR_tx h]⟩
theorem tx_rr {s : ByteArray} (h : rrOkB s = true) : reOkB (rrI s) = true ∧ rtI (rrI s) = s := by
  have h' := h
  simp only [rrOkB, Bool.and_eq_true, decide_eq_true_eq] at h'
  rw [(rr_yes h).1]
  exact ⟨h'.2.1, by rw [rtI, if_pos h'.2.1]; exact h'.2.2⟩
theorem lgF_no (ss : List ByteArray) (ps : List (Int × ByteArray)) : ∀ (f k j : Nat) (h : j < (lgF ss ps f k).length), (lgF ss ps f k)[j].1 = ((k + j : Nat) : Int) + 1
  | 0, _, _, h => by simp [lgF] at h
  | f + 1, k, j, h => by
    by_cases hc : (rrOkB (rdL ss ps k) && decide ((rrI (rdL ss ps k)).1 = (k : Int) + 1)) = true
    · have e : lgF ss ps (f + 1) k = rrI (rdL ss ps k) :: lgF ss ps f (k + 1) := by rw [lgF, if_pos hc]
      simp only [e] at h ⊢
      simp only [Bool.and_eq_true, decide_eq_true_eq] at hc
      cases j with
      | zero => simpa using hc.2
      | succ j =>
        rw [List.getElem_cons_succ, lgF_no ss ps f (k + 1) j (by simpa using h)]
        omega
    · have e : lgF ss ps (f + 1) k = [] := by rw [lgF, if_neg hc]
      simp [e] at h
theorem clI_no {ss : List ByteArray} {ps : List (Int × ByteArray)} {ks : List Int} {torn b : Int} {j : Nat} (h : j < (clI ss ps ks torn b).length) : (clI ss ps ks torn b)[j].1 = (j : Int) + 1 := by
  by_cases hc : crOkB ss ps ks torn b = true
  · have e : clI ss ps ks torn b = lgF (crI ss ps ks torn b) [] 12 0 := by rw [clI, if_pos hc]; rfl
    simp only [e] at h ⊢
    rw [lgF_no _ _ _ _ _ h]; omega
  · have e : clI ss ps ks torn b = [] := by rw [clI, if_neg hc]
    simp [e] at h
theorem cl_good {ss : List ByteArray} {ps : List (Int × ByteArray)} {ks : List Int} {torn b : Int} (h : crOkB ss ps ks torn b = true) : goodDB ss ps = true := by
  simp only [crOkB, Bool.and_eq_true] at h; exact h.1
theorem sync_yes {ss : List ByteArray} {ps : List (Int × ByteArray)} (h : goodDB ss ps = true) : syI ss ps = syncL ss ps ∧ goodDB (syncL ss ps) [] = true := ⟨by rw [syI, if_pos h], good_sync h⟩
theorem crash_none {S : List ByteArray} (h : goodDB S [] = true) : crOkB S [] [] (-1) 0 = true ∧ clI S [] [] (-1) 0 = lgI S [] ∧ rlI S [] = lgI S [] := by
  have h1 : crOkB S [] [] (-1) 0 = true := by rw [crOkB, h]; rfl
  refine ⟨h1, ?_, by rw [rlI, if_pos h]⟩
  rw [clI, if_pos h1, crI, if_pos h1]; rfl
theorem rdL_app (ss : List ByteArray) (ps : List (Int × ByteArray)) (m : Int) (T : ByteArray) (k : Nat) : rdL ss (ps ++ [(m, T)]) k = if m = (k : Int) then T else rdL ss ps k := by
  rw [rdL, List.foldl_append]; rfl
theorem lgF_app {ss : List ByteArray} {ps : List (Int × ByteArray)} {m : Nat} {T : ByteArray} (hT : rrOkB T = true) (hn : (rrI T).1 = (m : Int) + 1) : ∀ (f k : Nat), k + (lgF ss ps f k).length = m → m < k + f → ∃ R, lgF ss (ps ++ [((m : Int), T)]) f k = lgF ss ps f k ++ rrI T :: R
  | 0, k, h1, h2 => by omega
  | f + 1, k, h1, h2 => by
    by_cases hc : (rrOkB (rdL ss ps k) && decide ((rrI (rdL ss ps k)).1 = (k : Int) + 1)) = true
    · have e : lgF ss ps (f + 1) k = rrI (rdL ss ps k) :: lgF ss ps f (k + 1) := by rw [lgF, if_pos hc]
      rw [e, List.length_cons] at h1
      obtain ⟨R, hR⟩ := lgF_app (ss := ss) (ps := ps) hT hn f (k + 1) (by omega) (by omega)
      have hk : ¬ (m : Int) = (k : Int) := by omega
      have e2 : rdL ss (ps ++ [((m : Int), T)]) k = rdL ss ps k := by rw [rdL_app, if_neg hk]
      refine ⟨R, ?_⟩
      rw [e, lgF, e2, if_pos hc, hR]; rfl
    · have e : lgF ss ps (f + 1) k = [] := by rw [lgF, if_neg hc]
      rw [e] at h1 ⊢
      obtain rfl : k = m := by simpa using h1
      have e2 : rdL ss (ps ++ [((k : Int), T)]) k = T := by rw [rdL_app, if_pos rfl]
      refine ⟨lgF ss (ps ++ [((k : Int), T)]) f (k + 1), ?_⟩
      rw [lgF, e2, if_pos (by simp [hT, hn])]; rfl
/-- What the log is behind the record that NextNo asks for. -/
theorem app_next {ss : List ByteArray} {ps : List (Int × ByteArray)} (h : nnOkB ss ps = true) (hp : ps.length < 40) {kd a : Int} (hk : 1 ≤ kd ∧ kd ≤ 9) (ha : 0 ≤ a ∧ a ≤ 9999) :
    apOkB ss ps ((nnI ss ps : Int), kd, a, 7) = true ∧ goodDB (apS ss ps ((nnI ss ps : Int), kd, a, 7)) (apP ss ps ((nnI ss ps : Int), kd, a, 7)) = true ∧ rlI ss ps = lgI ss ps ∧ nnI ss ps = (lgI ss ps).length + 1 ∧ nnI ss ps ≤ 12 ∧
    ∃ R, rlI (apS ss ps ((nnI ss ps : Int), kd, a, 7)) (apP ss ps ((nnI ss ps : Int), kd, a, 7)) = lgI ss ps ++ ((nnI ss ps : Int), kd, a, 7) :: R := by
  have h' := h
  simp only [nnOkB, Bool.and_eq_true, Bool.not_eq_true', decide_eq_false_iff_not] at h'
  obtain ⟨hg, hl⟩ := h'
  have hl12 := lgI_len ss ps
  have hn : nnI ss ps = (lgI ss ps).length + 1 := by rw [nnI, if_pos h]
  have hn12 : nnI ss ps ≤ 12 := by omega
  have hre : reOkB ((nnI ss ps : Int), kd, a, 7) = true := by
    simp only [reOkB, inB, Bool.and_eq_true, decide_eq_true_eq]; omega
  obtain ⟨t1, t2⟩ := rr_tx hre
  have hT := txR_size ((nnI ss ps : Int), kd, a, 7)
  have hpu : puOkB ss ps ((nnI ss ps : Int) - 1) (txR ((nnI ss ps : Int), kd, a, 7)) = true := by
    simp only [puOkB, hg, hT, inB, Bool.and_eq_true, decide_eq_true_eq, Bool.not_eq_true', decide_eq_false_iff_not, true_and]; omega
  have e1 : apS ss ps ((nnI ss ps : Int), kd, a, 7) = ss := by rw [apS, if_pos hre]; exact (pu_yes hpu).1
  have e2 : apP ss ps ((nnI ss ps : Int), kd, a, 7) = ps ++ [((nnI ss ps : Int) - 1, txR ((nnI ss ps : Int), kd, a, 7))] := by rw [apP, if_pos hre]; exact (pu_yes hpu).2.1
  have hg2 : goodDB (apS ss ps ((nnI ss ps : Int), kd, a, 7)) (apP ss ps ((nnI ss ps : Int), kd, a, 7)) = true := by
    rw [e1, e2]; exact good_put hpu
  refine ⟨by rw [apOkB, hre]; exact hpu, hg2, by rw [rlI, if_pos hg], hn, hn12, ?_⟩
  rw [rlI, if_pos hg2, e1, e2]
  have hm : (nnI ss ps : Int) - 1 = ((lgI ss ps).length : Int) := by rw [hn]; omega
  rw [hm]
  obtain ⟨R, hR⟩ := lgF_app (ss := ss) (ps := ps) (m := (lgI ss ps).length) t1 (by rw [t2]; simp only; omega) 12 0 (by show 0 + (lgF ss ps 12 0).length = (lgF ss ps 12 0).length; omega) (by omega)
  exact ⟨R, by rw [t2] at hR; exact hR⟩
end Go.Proofs.YthbjcipdneminaaDoor

/- GP -/
namespace Go.Proofs.YthbjcipdneminaaDoor
open Go.RowKit

set_option maxRecDepth 100000 in
set_option maxHeartbeats 2000000 in
theorem sameRe_self (A B : Option Addr) (l : List Rec) (ca cb : Nat) (w : World) (ha : RdR 4 fRe w A l) (hb : RdR 4 fRe w B l) (hl : l.length ≤ 1048576) :
    Calls Tryd.prog 12 #[.slice A l.length ca, .slice B l.length cb] w fun e w' => e = .returned (.bool true) ∧ ∃ n, w' = w.drewN n := by
  have HA := Lib.hid ha
  have HB := Lib.hid hb
  clear ha hb
  have hne : ((l.length : Int) != (l.length : Int)) = false := by simp
  go_enter Tryd.func12, Tryd.ntmps12
  go_wp2_with fail
  go_loopg [13] l.length (fun gk i wr => ∃ k n : Nat, k + gk = l.length ∧ i = .int .i64 k ∧ wr = w.drewN n)
  case atStart => exact ⟨0, 0, by omega, rfl, rfl⟩
  case round =>
    obtain ⟨k, n, hg, rfl, rfl⟩ := hrel
    by_cases hlt : k < l.length
    · have hki : (k : Int) < (l.length : Int) := by omega
      obtain ⟨b1, o1, rfl, c0, c1, c2, c3⟩ := Re_at HA.out hlt
      obtain ⟨b2, o2, rfl, d0, d1, d2, d3⟩ := Re_at HB.out hlt
      have HGK : Hid (l.length - k - 1 < gk ∧ k + 1 + (l.length - k - 1) = l.length) := by show _ ∧ _; omega
      clear hg
      generalize l[k] = p at *
      obtain ⟨p0, p1, p2, p3⟩ := p
      simp only at c0 c1 c2 c3 d0 d1 d2 d3
      go_wp2_with fail
      go_quiet (fail)
      go_wp2_with fail
      go_roundg (l.length - k - 1)
      case measure => exact HGK.out.1
      case rel => exact ⟨k + 1, n + nq, HGK.out.2, by go_num, by simp⟩
    · obtain rfl : k = l.length := by omega
      have hki : ¬ (l.length : Int) < (l.length : Int) := by omega
      go_wp2_with fail
      go_ret
      exact ⟨rfl, _, rfl⟩
/-- A slice's first elements. -/
theorem RdR.pre {k : Nat} {α : Type} {f : α → List Value} {w : World} {A : Option Addr} {L M : List α} (h : RdR k f w A (L ++ M)) : RdR k f w A L := fun hne => by
  obtain ⟨b, o, e, hc⟩ := h (by intro h'; exact hne (List.append_eq_nil_iff.1 h').1)
  exact ⟨b, o, e, fun j hj i u hu => hc j (by rw [List.length_append]; omega) i u (by rw [List.getElem_append_left hj]; exact hu)⟩
/-- numberOf's answer. -/
def nuI (zs : List Int) : Nat → Nat
  | 0 => 0
  | k + 1 => (31 * nuI zs k + (zs.getD k 0).toNat) % 1000003
theorem nuI_lt (zs : List Int) : ∀ k, nuI zs k < 1000003
  | 0 => by rw [nuI]; omega
  | k + 1 => Nat.mod_lt _ (by omega)
set_option maxRecDepth 100000 in
set_option maxHeartbeats 2000000 in
theorem numberOf_is (A : Option Addr) (zs : List Int) (c : Nat) (w : World) (hb : Byts w w.heap.size A zs) (hl : zs.length ≤ 1048576) :
    Calls Tryd.prog 14 #[.slice A zs.length c] w fun e w' => e = .returned (.int .i64 (nuI zs zs.length : Nat)) ∧ w = w' := by
  have HA := Lib.hid hb
  clear hb
  go_enter Tryd.func14, Tryd.ntmps14
  go_wp2_with fail
  go_loopg [3, 8] zs.length (fun gk s i wr => ∃ j : Nat, j + gk = zs.length ∧ i = .int .i64 j ∧ s = .int .i64 (nuI zs j : Nat) ∧ w = wr)
  case atStart => exact ⟨0, by omega, rfl, rfl, rfl⟩
  case round =>
    obtain ⟨j, hg, rfl, rfl, rfl⟩ := hrel
    have hn := nuI_lt zs j
    by_cases hlt : j < zs.length
    · have hji : (j : Int) < (zs.length : Int) := by omega
      obtain ⟨b1, o1, rfl, _, hc1⟩ := HA.out.2 (by rintro rfl; simp at hlt)
      have p1 := hc1 j hlt
      have hz : 0 ≤ zs.getD j 0 ∧ zs.getD j 0 ≤ 255 := HA.out.1 _ (by rw [show zs.getD j 0 = zs[j] by simp [List.getD, hlt]]; exact List.getElem_mem hlt)
      have HV : Hid (nuI zs (j + 1) = (31 * nuI zs j + (zs.getD j 0).toNat) % 1000003) := rfl
      generalize zs.getD j 0 = z at *
      obtain ⟨m, rfl⟩ := Int.eq_ofNat_of_zero_le hz.1
      have hm : m ≤ 255 := by omega
      generalize nuI zs j = n at *
      have HGK : Hid (zs.length - j - 1 < gk ∧ j + 1 + (zs.length - j - 1) = zs.length) := by show _ ∧ _; omega
      have HN : Hid ((31 * (n : Int) + (m : Int)) % 1000003 = ((nuI zs (j + 1) : Nat) : Int)) := by
        show _ = _
        rw [HV.out, Int.toNat_natCast]; omega
      clear hc1 hg hz HV
      go_wp2_with fail
      go_roundg (zs.length - j - 1)
      case measure => exact HGK.out.1
      case rel => exact ⟨j + 1, HGK.out.2, by go_num, by rw [← HN.out], rfl⟩
    · obtain rfl : j = zs.length := by omega
      have hji : ¬ (zs.length : Int) < (zs.length : Int) := by omega
      go_wp2_with fail
      go_ret
      exact ⟨rfl, rfl⟩
end Go.Proofs.YthbjcipdneminaaDoor
