/-
  ER: The program's chapter 8, first part: a number for each line in an array of ten; the checks; lineOf; slices.Clone; PlaceOf, SpreadOf.
  ES: The program's chapter 8, second part: MixBy, UnmixBy, LossesIn, sumsOf, ParityFor.
  EV: The program's chapter 8, third part: sumsOf, ParityFor; two tallies compared; inDifferentLines; MendLines.
  EN: The program's chapter 8, fourth part: inDifferentLines, MendLines.
  EF: The program's chapter 8, fifth part: MendLines.
-/
import Derived.Test.YtipcdaiobfgkeaaKQ
import Derived.DeepKeys
import Derived.Deep.RegionLaw
import Derived.StillTailTactics

/- ER -/
namespace Go.Proofs.Ytipcdaiobfgkeaa
open Go.RowKit

/-- Numbers for lines, zeros behind. -/
def tenL (T : List Nat) : List Nat := T ++ List.replicate (10 - T.length) 0
theorem tenL_length {T : List Nat} (h : T.length ≤ 10) : (tenL T).length = 10 := by simp [tenL]; omega
theorem tenL_set {T : List Nat} {r x : Nat} (h : r < T.length) : tenL (T.set r x) = (tenL T).set r x := by
  unfold tenL; rw [List.set_append_left _ _ h, List.length_set]
theorem tenL_at {T : List Nat} {r : Nat} (h : r < T.length) (h2 : r < (tenL T).length) : (tenL T)[r] = T[r] := by
  simp only [tenL]; exact List.getElem_append_left h
theorem tenL_zero {m : Nat} (h : m ≤ 10) : tenL (List.replicate m 0) = List.replicate 10 0 := by
  unfold tenL; rw [List.length_replicate, List.replicate_append_replicate]; congr 1; omega
theorem tenL_take (T : List Nat) : (tenL T).take T.length = T := by simp [tenL]

def talCells (T : List Nat) : Array Value := ((zI T).map (Value.int .i64)).toArray
theorem talCells_size (T : List Nat) : (talCells T).size = T.length := by simp [talCells, zI]
theorem talCells_at {T : List Nat} {k : Nat} (h : k < T.length) : (talCells T)[k]? = some (.int .i64 (T[k] : Nat)) := by
  simp [talCells, zI, h]
theorem talCells_one (T : List Nat) : (talCells T).all (·.oneCell') = true := by
  rw [Array.all_eq_true_iff_forall_mem]
  intro v hv
  have hv' : v ∈ (zI T).map (Value.int .i64) := by simpa [talCells] using hv
  obtain ⟨z, _, rfl⟩ := List.mem_map.1 hv'
  rfl
/-- A tally lies in block B. -/
def TalAt (w : World) (B : Nat) (T : List Nat) : Prop := w.heap[B]? = some (.cells (talCells T) 58 (0, 0))
theorem TalAt.cell {w : World} {B : Nat} {T : List Nat} (h : TalAt w B T) {k : Nat} (hk : k < T.length) : w.cell? ⟨B, k, none⟩ = some (.int .i64 (T[k] : Nat)) :=
  (cell_of_row w B _ _ _ _ h).trans (talCells_at hk)
theorem TalAt.frozen {w : World} {B : Nat} {T : List Nat} (h : TalAt w B T) (j : Nat) : w.frozen? ⟨B, j, none⟩ = false := frozen_of_row w B j _ _ h
theorem TalAt.below {w w' : World} {B : Nat} {T : List Nat} (h : TalAt w B T) {n : Nat} (hb : Below n w w') (hn : B < n) : TalAt w' B T := (hb.block B hn).trans h
theorem TalAt.lt {w : World} {B : Nat} {T : List Nat} (h : TalAt w B T) : B < w.heap.size := heap_lt h
theorem TalAt.set {w : World} {B : Nat} {T : List Nat} (h : TalAt w B T) (k x : Nat) : TalAt (w.setCell ⟨B, k, none⟩ (.int .i64 (x : Nat))) B (T.set k x) := by
  have e1 := setCell_eq_setRow w B k _ _ _ (.int .i64 (x : Int)) h
  have h1 := setRow_heap w B _ ((talCells T).setIfInBounds k (.int .i64 (x : Int))) _ _ h
  rw [e1]
  refine h1.trans ?_
  congr 2
  unfold talCells
  rw [zI8_set, List.map_set]
  simp
theorem TalAt.other {w : World} {B g : Nat} {T : List Nat} (h : TalAt w B T) (hne : B ≠ g) (k : Nat) (v : Value) : TalAt (w.setCell ⟨g, k, none⟩ v) B T :=
  (Below.heap_setCell _ _ _ _ (by simpa using hne)).trans h
theorem TalAt.ints {w : World} {B : Nat} {T : List Nat} (h : TalAt w B T) {n : Nat} (hn : n ≤ T.length) : Ints w (some ⟨B, 0, none⟩) (zI (T.take n)) := fun _ =>
  ⟨B, 0, rfl, fun j hj => by
    rw [zI_length, List.length_take] at hj
    rw [Nat.zero_add, h.cell (k := j) (by omega), zI_getD]
    congr 2
    simp [List.getD, show j < n by omega, show j < T.length by omega]⟩
theorem infoTal : (Try.prog.info? 58).map (·.size) = some 10 := by kernel_rfl
theorem talNew (w : World) : TalAt (w.alloc (.cells #[.int .i64 0, .int .i64 0, .int .i64 0, .int .i64 0, .int .i64 0, .int .i64 0, .int .i64 0, .int .i64 0, .int .i64 0, .int .i64 0] 58)) w.heap.size (List.replicate 10 0) := heap_alloc_new _ _

theorem slice_tal (g m : Nat) (hm : m ≤ 10) (w : World) : (Instr.sliceAt 58 (.pointer (some ⟨g, 0, none⟩)) none (some (.int .i64 (m : Int))) none).run Try.prog w = .ok (.slice (some ⟨g, 0, none⟩) m 10) w := by
  have hl : Try.prog.arrayLen 58 = 10 := by kernel_rfl
  have hu : Try.prog.underlying 58 = some (.array (Try.prog.arrayLen 58) (Try.prog.elem 58)) := by rw [hl]; kernel_rfl
  have hs : (sizeOf (Try.prog.elem 58)).run Try.prog w = .ok 1 w := by kernel_rfl
  rw [run_sliceAt_array_h w 58 ⟨g, 0, none⟩ hu .i64 (m : Int) (by omega) (by rw [hl]; omega), hs, hl]
  simp [slicedAt]
  rfl

def numB8 (n : Int) : Bool := inB n 0 255
theorem all_count8 (zs : List Int) : ((((zs.filter numB8).length : Nat) : Int) == ((zs.length : Nat) : Int)) = allIn zs 255 := by
  rw [Bool.eq_iff_iff, beq_iff_eq]
  constructor
  · intro h
    have h1 : (zs.filter numB8).length = zs.length := by omega
    refine List.all_eq_true.2 fun z hz => ?_
    exact (List.length_filter_eq_length_iff.1 h1) z hz
  · intro h
    have h1 : (zs.filter numB8).length = zs.length := List.length_filter_eq_length_iff.2 fun z hz => List.all_eq_true.1 h z hz
    omega
theorem filter_snoc8 {α : Type} {p : α → Bool} {l : List α} {t : Nat} (h : t < l.length) : ((l.take (t + 1)).filter p).length = ((l.take t).filter p).length + (if p l[t] = true then 1 else 0) := by
  rw [List.take_succ_eq_append_getElem h, List.filter_append, List.length_append]
  cases e : p l[t] <;> simp [e]

set_option maxRecDepth 100000 in
set_option maxHeartbeats 1000000 in
theorem iByte (n : Int) (w : World) : Calls Try.prog 59 #[.int .i64 n] w fun e w' => e = .returned (.bool (numB8 n)) ∧ w = w' := by
  by_cases h0 : (0 : Int) ≤ n
  · by_cases h1 : n ≤ 255
    · have HE : Hid (numB8 n = true) := inB_true h0 h1
      go_enter Try.func59, Try.ntmps59
      go_wp2_with fail
      go_ret
      exact ⟨ret_bool (by rw [HE.out]), rfl⟩
    · have HE : Hid (numB8 n = false) := inB_false (by omega)
      go_enter Try.func59, Try.ntmps59
      go_wp2_with fail
      go_ret
      exact ⟨ret_bool (by rw [HE.out]), rfl⟩
  · have HE : Hid (numB8 n = false) := inB_false (by omega)
    go_enter Try.func59, Try.ntmps59
    go_wp2_with fail
    go_ret
    exact ⟨ret_bool (by rw [HE.out]), rfl⟩

set_option maxRecDepth 100000 in
set_option maxHeartbeats 2000000 in
theorem iCountBy (A : Option Addr) (zs : List Int) (ca : Nat) (w : World) (ha : Ints w A zs) (hl : zs.length ≤ 1048576) :
    Calls Try.prog 58 #[.slice A zs.length ca, .func (.func 59) #[] #[]] w fun e w' => e = .returned (.int .i64 ((zs.filter numB8).length : Nat)) ∧ w = w' := by
  have HA := Lib.hid ha
  clear ha
  go_enter Try.func58, Try.ntmps58
  go_wp2_with fail
  go_loopg [5, 10] zs.length (fun gk s i wr => ∃ t : Nat, t + gk = zs.length ∧ i = .int .i64 t ∧ s = .int .i64 (((zs.take t).filter numB8).length : Nat) ∧ w = wr)
  case atStart => exact ⟨0, by omega, rfl, rfl, rfl⟩
  case round =>
    obtain ⟨t, hg, rfl, rfl, rfl⟩ := hrel
    by_cases hlt : t < zs.length
    · have hti : (t : Int) < (zs.length : Int) := by omega
      obtain ⟨b1, o1, rfl, hc1⟩ := HA.out (by rintro rfl; simp at hlt)
      have hz := hc1 t hlt
      rw [show zs.getD t 0 = zs[t] by simp [List.getD, hlt]] at hz
      have HS := Lib.hid (filter_snoc8 (p := numB8) hlt)
      have hal : ((zs.take t).filter numB8).length ≤ 1048576 := Nat.le_trans (List.length_filter_le _ _) (by rw [List.length_take]; omega)
      have HGK : Hid (zs.length - t - 1 < gk ∧ t + 1 + (zs.length - t - 1) = zs.length) := by show _ ∧ _; omega
      clear hc1 hg
      generalize zs[t] = z at *
      generalize ((zs.take t).filter numB8).length = s at *
      cases he : numB8 z
      · have HS2 : Hid (((zs.take (t + 1)).filter numB8).length = s) := by show _ = _; rw [HS.out, if_neg (by rw [he]; decide)]; rfl
        have HC := Lib.hid (iByte z w)
        rw [he] at HC
        clear he HS
        go_wp2_with (go_at_call 59; refine HC.out.mono ?_; rintro e w' ⟨rfl, rfl⟩)
        go_roundg (zs.length - t - 1)
        case measure => exact HGK.out.1
        case rel => exact ⟨t + 1, HGK.out.2, by go_num, by rw [HS2.out], rfl⟩
      · have HS2 : Hid (((zs.take (t + 1)).filter numB8).length = s + 1) := by show _ = _; rw [HS.out, if_pos he]
        have HC := Lib.hid (iByte z w)
        rw [he] at HC
        clear he HS
        go_wp2_with (go_at_call 59; refine HC.out.mono ?_; rintro e w' ⟨rfl, rfl⟩)
        go_roundg (zs.length - t - 1)
        case measure => exact HGK.out.1
        case rel => exact ⟨t + 1, HGK.out.2, by go_num, by rw [HS2.out]; go_num, rfl⟩
    · obtain rfl : t = zs.length := by omega
      rw [List.take_length]
      have hti : ¬ (zs.length : Int) < (zs.length : Int) := by omega
      go_wp2_with fail
      go_ret
      exact ⟨rfl, rfl⟩

set_option maxRecDepth 100000 in
set_option maxHeartbeats 1000000 in
theorem iBytes (A : Option Addr) (zs : List Int) (ca : Nat) (w : World) (ha : Ints w A zs) (hl : zs.length ≤ 1048576) :
    Calls Try.prog 49 #[.slice A zs.length ca] w fun e w' => e = .returned (.bool (allIn zs 255)) ∧ w = w' := by
  have HC := Lib.hid (iCountBy A zs ca w ha hl)
  have HE := Lib.hid (all_count8 zs)
  clear ha
  generalize (zs.filter numB8).length = c at *
  go_enter Try.func49, Try.ntmps49
  go_wp2_with (go_at_call 58; refine HC.out.mono ?_; rintro e w' ⟨rfl, rfl⟩)
  go_ret
  exact ⟨ret_bool (by rw [← HE.out]), rfl⟩

set_option maxRecDepth 100000 in
set_option maxHeartbeats 1000000 in
theorem iShape8 (a n : Int) (w : World) : Calls Try.prog 42 #[.int .i64 a, .int .i64 n] w fun e w' => e = .returned (.bool (shape8 a n)) ∧ w = w' := by
  by_cases h1 : 1 ≤ n
  · by_cases h2 : n ≤ 10
    · by_cases h3 : 0 ≤ a
      · by_cases h4 : a ≤ 60
        · have HE : Hid (shape8 a n = decide (a % n = 0)) := by show _ = _; rw [shape8, inB_true h3 h4, inB_true h1 h2]; rfl
          go_enter Try.func42, Try.ntmps42
          go_wp2_with fail
          go_ret
          refine ⟨ret_bool' ?_, rfl⟩
          rw [HE.out]
          rfl
        · have HE : Hid (shape8 a n = false) := by show _ = _; rw [shape8, inB_false (by omega)]; rfl
          go_enter Try.func42, Try.ntmps42
          go_wp2_with fail
          go_ret
          exact ⟨ret_bool (by rw [HE.out]), rfl⟩
      · have HE : Hid (shape8 a n = false) := by show _ = _; rw [shape8, inB_false (by omega)]; rfl
        go_enter Try.func42, Try.ntmps42
        go_wp2_with fail
        go_ret
        exact ⟨ret_bool (by rw [HE.out]), rfl⟩
    · have HE : Hid (shape8 a n = false) := by show _ = _; rw [shape8, inB_false (n := n) (by omega)]; simp
      go_enter Try.func42, Try.ntmps42
      go_wp2_with fail
      go_ret
      exact ⟨ret_bool (by rw [HE.out]), rfl⟩
  · have HE : Hid (shape8 a n = false) := by show _ = _; rw [shape8, inB_false (n := n) (by omega)]; simp
    go_enter Try.func42, Try.ntmps42
    go_wp2_with fail
    go_ret
    exact ⟨ret_bool (by rw [HE.out]), rfl⟩

set_option maxRecDepth 100000 in
set_option maxHeartbeats 1000000 in
theorem iMix8 (A : Option Addr) (zs : List Int) (ca : Nat) (n : Int) (w : World) (ha : Ints w A zs) (hl : zs.length ≤ 1048576) :
    Calls Try.prog 39 #[.slice A zs.length ca, .int .i64 n] w fun e w' => e = .returned (.bool (list8 zs n)) ∧ w = w' := by
  have HS := Lib.hid (iShape8 (zs.length : Int) n w)
  have HB := Lib.hid (iBytes A zs ca w ha hl)
  clear ha
  cases h : shape8 (zs.length : Int) n
  · have HE : Hid (list8 zs n = false) := by show _ = _; rw [list8, h]; rfl
    rw [h] at HS
    go_enter Try.func39, Try.ntmps39
    go_wp2_with (go_at_call 42; refine HS.out.mono ?_; rintro e w' ⟨rfl, rfl⟩)
    go_ret
    exact ⟨ret_bool' HE.out.symm, rfl⟩
  · have HE : Hid (list8 zs n = allIn zs 255) := by show _ = _; rw [list8, h]; rfl
    rw [h] at HS
    go_enter Try.func39, Try.ntmps39
    go_wp2_with (first
      | (go_at_call 42; refine HS.out.mono ?_; rintro e w' ⟨rfl, rfl⟩)
      | (go_at_call 49; refine HB.out.mono ?_; rintro e w' ⟨rfl, rfl⟩))
    go_ret
    exact ⟨ret_bool' HE.out.symm, rfl⟩

set_option maxRecDepth 100000 in
set_option maxHeartbeats 1000000 in
theorem iLine (a per m k : Nat) (w : World) (hap : a = per * m) (hm1 : 1 ≤ m) (hm10 : m ≤ 10) (h60 : a ≤ 60) (hk : k < a) :
    Calls Try.prog 43 #[.int .i64 a, .int .i64 m, .int .i64 k] w fun e w' => e = .returned (.int .i64 (k / per : Nat)) ∧ w = w' := by
  have hper : 1 ≤ per := by rcases Nat.eq_zero_or_pos per with rfl | h; (· simp at hap; omega); exact h
  have hp60 : per ≤ 60 := Nat.le_trans (Nat.le_mul_of_pos_right per (by omega)) (hap ▸ h60)
  have hqm : k / per ≤ k := Nat.div_le_self _ _
  have hqq : (a : Int) / (m : Int) = (per : Int) := by rw [← Int.natCast_ediv, hap, Nat.mul_div_cancel _ (by omega)]
  have hdd : (k : Int) / (per : Int) = ((k / per : Nat) : Int) := by rw [Int.natCast_ediv]
  generalize k / per = q at *
  clear hap
  go_enter Try.func43, Try.ntmps43
  go_wp2_with fail
  go_ret
  exact ⟨rfl, rfl⟩

set_option maxRecDepth 100000 in
set_option maxHeartbeats 1000000 in
theorem iPlaceOf_any (a n k : Int) (w : World) : Calls Try.prog 18 #[.int .i64 a, .int .i64 n, .int .i64 k] w fun e w' => e = .returned (.tuple #[.int .i64 (plI a n k), .bool (plOkB a n k)]) ∧ w = w' := by
  have HS := Lib.hid (iShape8 a n w)
  cases h1 : shape8 a n
  · have hok : plOkB a n k = false := by rw [plOkB, h1]; rfl
    have HE : Hid (plI a n k = 0) := by show _ = _; rw [plI, hok]; rfl
    rw [h1] at HS
    rw [hok]
    go_enter Try.func18, Try.ntmps18
    go_wp2_with (go_at_call 42; refine HS.out.mono ?_; rintro e w' ⟨rfl, rfl⟩)
    go_ret2
    exact ⟨by rw [HE.out]; rfl, rfl⟩
  · rw [h1] at HS
    obtain ⟨per, m, rfl, rfl, hm1, hm10, h60⟩ := shape8_nat h1
    by_cases hk0 : k < 0
    · have hok : plOkB ((per * m : Nat) : Int) (m : Int) k = false := by rw [plOkB, inB_false (n := k) (by omega)]; simp
      have HE : Hid (plI ((per * m : Nat) : Int) (m : Int) k = 0) := by show _ = _; rw [plI, hok]; rfl
      rw [hok]
      generalize per * m = a at *
      go_enter Try.func18, Try.ntmps18
      go_wp2_with (go_at_call 42; refine HS.out.mono ?_; rintro e w' ⟨rfl, rfl⟩)
      go_ret2
      exact ⟨by rw [HE.out]; rfl, rfl⟩
    · by_cases hk1 : ((per * m : Nat) : Int) ≤ k
      · have hok : plOkB ((per * m : Nat) : Int) (m : Int) k = false := by rw [plOkB, inB_false (n := k) (by omega)]; simp
        have HE : Hid (plI ((per * m : Nat) : Int) (m : Int) k = 0) := by show _ = _; rw [plI, hok]; rfl
        rw [hok]
        generalize per * m = a at *
        go_enter Try.func18, Try.ntmps18
        go_wp2_with (go_at_call 42; refine HS.out.mono ?_; rintro e w' ⟨rfl, rfl⟩)
        go_ret2
        exact ⟨by rw [HE.out]; rfl, rfl⟩
      · have hok : plOkB ((per * m : Nat) : Int) (m : Int) k = true := by rw [plOkB, h1, inB_true (by omega) (by omega)]; rfl
        obtain ⟨j, rfl⟩ := Int.eq_ofNat_of_zero_le (show 0 ≤ k by omega)
        have hj : j < per * m := by omega
        have hper : 1 ≤ per := by rcases Nat.eq_zero_or_pos per with rfl | h; (· simp at hj); exact h
        have hp60 : per ≤ 60 := Nat.le_trans (Nat.le_mul_of_pos_right per (by omega)) h60
        have HE : Hid (plI ((per * m : Nat) : Int) (m : Int) (j : Int) = ((j % per * m + j / per : Nat) : Int)) := by show _ = _; rw [plI, if_pos hok, Int.toNat_natCast, Int.toNat_natCast, Int.toNat_natCast, Nat.mul_div_cancel _ (by omega)]; rfl
        have HP := Lib.hid (iLine (per * m) per m j w rfl hm1 hm10 h60 hj)
        have hr : j % per < per := Nat.mod_lt _ (by omega)
        have hqm : j / per ≤ j := Nat.div_le_self _ _
        have hqq : ((per * m : Nat) : Int) / (m : Int) = (per : Int) := by rw [← Int.natCast_ediv, Nat.mul_div_cancel _ (by omega)]
        have hrr : (j : Int) % (per : Int) = ((j % per : Nat) : Int) := by rw [Int.natCast_emod]
        rw [hok]
        clear hok h1
        generalize per * m = a at *
        generalize j % per = r at *
        generalize j / per = q at *
        obtain ⟨hb0, hb1⟩ := mul8_bd (a := r) (b := m) (A := 60) (B := 10) (by omega) hm10
        go_enter Try.func18, Try.ntmps18
        go_wp2_with (first
          | (go_at_call 42; refine HS.out.mono ?_; rintro e w' ⟨rfl, rfl⟩)
          | (go_at_call 43; refine HP.out.mono ?_; rintro e w' ⟨rfl, rfl⟩))
        go_ret2
        exact ⟨by rw [HE.out]; simp, rfl⟩

set_option maxRecDepth 100000 in
set_option maxHeartbeats 1000000 in
theorem iSpread_any (a n : Int) (w : World) : Calls Try.prog 24 #[.int .i64 a, .int .i64 n] w fun e w' => e = .returned (.tuple #[.int .i64 (spI a n), .bool (shape8 a n)]) ∧ w = w' := by
  have HS := Lib.hid (iShape8 a n w)
  cases h1 : shape8 a n
  · have HE : Hid (spI a n = 0) := by show _ = _; rw [spI, h1]; rfl
    rw [h1] at HS
    go_enter Try.func24, Try.ntmps24
    go_wp2_with (go_at_call 42; refine HS.out.mono ?_; rintro e w' ⟨rfl, rfl⟩)
    go_ret2
    exact ⟨by rw [HE.out]; rfl, rfl⟩
  · rw [h1] at HS
    have HE : Hid (spI a n = if a / n < 2 then a else n) := by show _ = _; rw [spI, if_pos h1]
    obtain ⟨per, m, e1, rfl, hm1, hm10, h60⟩ := shape8_nat h1
    have hq : a / (m : Int) = (per : Int) := by rw [e1, ← Int.natCast_ediv, Nat.mul_div_cancel _ (by omega)]
    have ha0 : 0 ≤ a ∧ a ≤ 60 := by omega
    rw [hq] at HE
    obtain ⟨ha1, ha2⟩ := ha0
    have hp60 : per ≤ 60 := Nat.le_trans (Nat.le_mul_of_pos_right per (by omega)) h60
    clear e1 h60 h1
    by_cases h2 : (per : Int) < 2
    · rw [if_pos h2] at HE
      go_enter Try.func24, Try.ntmps24
      go_wp2_with (go_at_call 42; refine HS.out.mono ?_; rintro e w' ⟨rfl, rfl⟩)
      go_ret2
      exact ⟨by rw [HE.out]; rfl, rfl⟩
    · rw [if_neg h2] at HE
      go_enter Try.func24, Try.ntmps24
      go_wp2_with (go_at_call 42; refine HS.out.mono ?_; rintro e w' ⟨rfl, rfl⟩)
      go_ret2
      exact ⟨by rw [HE.out]; rfl, rfl⟩

theorem eqNil8 (a : Addr) (l c : Nat) (w : World) : (binOp .eql 23 (.slice (some a) l c) (.slice none 0 0)).run Try.prog w = .ok (.bool false) w := by
  simp only [binOp]
  simp [run_equal_slice_nil w 23 3 (some a) l c Try.underlying23]
theorem eqNil8n (w : World) : (binOp .eql 23 (.slice none 0 0) (.slice none 0 0)).run Try.prog w = .ok (.bool true) w := by
  simp only [binOp]
  simp [run_equal_slice_nil w 23 3 none 0 0 Try.underlying23]
set_option maxRecDepth 100000 in
set_option maxHeartbeats 1000000 in
theorem iClone8 (A : Option Addr) (B : List Nat) (ca : Nat) (w : World) (ha : Ints w A (zI B)) (hA : Lies8 A ca) (h8 : B.length ≤ 1000) :
    Calls Try.prog 44 #[.slice A B.length ca] w fun e w' => ∃ v, e = .returned v ∧ Own w' w.heap.size v (zI B) ∧ Below w.heap.size w w' := by
  rcases hA with ⟨rfl, rfl⟩ | ⟨g, o, rfl⟩
  · have hB0 : B = [] := by
      cases B with
      | nil => rfl
      | cons x l => obtain ⟨b, o, e, _⟩ := ha (by simp [zI]); cases e
    subst hB0
    have hnil := eqNil8n w
    clear ha
    go_enter Try.func44, Try.ntmps44
    go_wp2_with fail
    go_ret
    exact ⟨_, rfl, Own.nil _ _, Below.refl _ _⟩
  · have HC : Hid (∀ j, j < B.length → w.cell? ⟨g, o + j, none⟩ = some (.int .i64 ((B.getD j 0 : Nat) : Int)) ∧ g < w.heap.size) := fun j hj => by
      obtain ⟨b, o', e, hcell⟩ := ha (by intro e; have := congrArg List.length e; rw [zI_length, List.length_nil] at this; omega)
      injection e with e
      injection e with e1 e2
      subst e1; subst e2
      have h1 := hcell j (by rw [zI_length]; exact hj)
      refine ⟨?_, World.block_lt_of_cell? _ _ h1⟩
      rw [h1, zI_getD]
    have HO := Lib.hid (own_lit0 w)
    have HB := Lib.hid (jAlloc1f w)
    have hnil := eqNil8 ⟨g, o, none⟩ B.length ca w
    clear ha
    go_enter Try.func44, Try.ntmps44
    go_wp2_with (at_builtin; refine app_cnt (w.alloc (.cells #[] 3)) w.heap.size _ [] B B.length rfl g o ca rfl _ _ rfl rfl rfl (fun j hj => ((HB.out).cell (HC.out j hj).2).trans (HC.out j hj).1) HO.out (by simp) (by simp) (by omega) w HB.out ?_)
    intro v1 w1 H1
    obtain ⟨A3, c3, rfl, _⟩ := H1.out.1.form
    go_wp2_with fail
    go_ret
    exact ⟨_, rfl, H1.out.1, H1.out.2.1⟩
end Go.Proofs.Ytipcdaiobfgkeaa

/- ES -/
namespace Go.Proofs.Ytipcdaiobfgkeaa
open Go.RowKit

theorem iPlace8 (a per m k : Nat) (w : World) (hap : a = per * m) (hm1 : 1 ≤ m) (hm10 : m ≤ 10) (h60 : a ≤ 60) (hk : k < a) :
    Calls Try.prog 18 #[.int .i64 a, .int .i64 m, .int .i64 k] w fun e w' => e = .returned (.tuple #[.int .i64 (plN per m k : Nat), .bool true]) ∧ w = w' := by
  have hsh : shape8 (a : Int) (m : Int) = true := by
    rw [shape8, inB_true (by omega) (by omega), inB_true (by omega) (by omega)]
    have e : (a : Int) % (m : Int) = 0 := by rw [← Int.natCast_emod, hap, Nat.mul_mod_left]; rfl
    simp [e]
  have hok : plOkB (a : Int) (m : Int) (k : Int) = true := by rw [plOkB, hsh, inB_true (by omega) (by omega)]; rfl
  have he : plI (a : Int) (m : Int) (k : Int) = (plN per m k : Nat) := by rw [plI, if_pos hok, Int.toNat_natCast, Int.toNat_natCast, Int.toNat_natCast, hap, Nat.mul_div_cancel _ (by omega)]
  have h := iPlaceOf_any (a : Int) (m : Int) (k : Int) w
  rw [hok, he] at h
  exact h
set_option maxRecDepth 100000 in
set_option maxHeartbeats 2000000 in
theorem iMixBy_any (A : Option Addr) (zs : List Int) (ca : Nat) (n : Int) (w : World) (ha : Ints w A zs) (hl : zs.length ≤ 1048576) :
    Calls Try.prog 13 #[.slice A zs.length ca, .int .i64 n] w fun e w' => ∃ v, e = .returned (.tuple #[v, .bool (list8 zs n)]) ∧ Own w' w.heap.size v (mixI zs n) ∧ Below w.heap.size w w' := by
  have HG := Lib.hid (iMix8 A zs ca n w ha hl)
  cases h : list8 zs n
  · have HE : Hid (mixI zs n = []) := by show _ = _; rw [mixI, h]; rfl
    rw [h] at HG
    clear ha
    go_enter Try.func13, Try.ntmps13
    go_wp2_with (go_at_call 39; refine HG.out.mono ?_; rintro e w' ⟨rfl, rfl⟩)
    go_ret2
    exact ⟨_, rfl, by rw [HE.out]; exact Own.nil _ _, Below.refl _ _⟩
  · rw [h] at HG
    obtain ⟨L, per, m, rfl, hL, rfl, hm1, hm10, h60, hLb⟩ := list8_nat h
    have HE := Lib.hid (mixI_nat hL hm1 h).1
    have HA := Lib.hid ha
    have HF := Lib.hid (fill8_end per m L)
    have HZ := Lib.hid (fill8_zero per m L)
    obtain ⟨i0, hi, hz0, hz1, hz2⟩ := info_parts intInfo
    rw [zI_length] at HG ⊢
    have HP := Lib.hid (fun k w hk => iPlace8 L.length per m k w hL hm1 hm10 (by omega) hk)
    have HFs := Lib.hid (fun k (hk : k < L.length) => fill8_step (a := per) (b := m) (L := L) (k := k) (by omega))
    have HFl := Lib.hid (fun k => (fill8_length per m L k).trans hL.symm)
    have HLt := Lib.hid (fun k (hk : k < L.length) => pl_lt (a := per) (b := m) (k := k) (by omega))
    rw [← hL] at HF HZ HLt
    have hl60 : L.length ≤ 60 := by omega
    clear ha h hl h60 hLb hL
    go_enter Try.func13, Try.ntmps13
    go_wp2_with (first
      | (go_at_call 39; refine HG.out.mono ?_; rintro e w' ⟨rfl, rfl⟩)
      | (at_make; refine wpList_make_full _ rfl _ _ 23 rfl w.heap.size 3 i0 (.int .i64 0) 1 Try.underlying23 hi hz0 hz1 .i64 .i64 _ _ L.length rfl rfl rfl rfl (by rw [hz2]; omega) (by unfold maxLen; omega) (Nat.le_refl _) ?_; intro w2 hown2 hgr2))
    have HB2 : Hid (Below w.heap.size w w2) := (Below.refl _ _).grown hgr2 (Nat.le_refl _) (by simp)
    have HO2 := Lib.hid (fresh8 hown2)
    rw [← HZ.out] at HO2
    clear hgr2 hown2 hi hz0 hz1 hz2
    generalize hg0 : w.heap.size = g at *
    have HG0 := Lib.hid hg0
    clear hg0
    go_wp2_with fail
    go_loopg [20] L.length (fun gk i wr => ∃ k : Nat, k + gk = L.length ∧ i = .int .i64 k ∧ Own wr g (.slice (some ⟨g, 0, none⟩) L.length L.length) (zI (fill8 per m L k)) ∧ Below g w wr)
    case atStart => exact ⟨0, by omega, rfl, HO2.out, HB2.out⟩
    case round =>
      obtain ⟨k, hg, rfl, hown, hbel⟩ := hrel
      have HO := Lib.hid hown
      have HB := Lib.hid hbel
      clear hown hbel HO2 HB2
      by_cases hlt : k < L.length
      · have hki : (k : Int) < (L.length : Int) := by omega
        have HGK : Hid (L.length - k - 1 < gk ∧ k + 1 + (L.length - k - 1) = L.length) := by show _ ∧ _; omega
        obtain ⟨b1, o1, rfl, hc1⟩ := (HA.out.below (by rw [HG0.out]; exact HB.out)).cellN hlt
        have HSt : Hid (fill8 per m L (k + 1) = (fill8 per m L k).set (plN per m k) L[k]) := by show _ = _; rw [HFs.out k hlt, show L.getD k 0 = L[k] by simp [List.getD, hlt]]
        have hpl := HLt.out k hlt
        have HC := Lib.hid (HP.out k wr hlt)
        have hpf : plN per m k < (fill8 per m L k).length := by rw [HFl.out k]; exact hpl
        obtain ⟨q1, f1, -, -⟩ := own8_at HO.out hpf
        have hP := (own8_put HO.out (j := plN per m k) (L[k] : Int)).1
        rw [← zI8_set, ← HSt.out] at hP
        have HO4 := Lib.hid hP
        have HB4 : Hid (Below g w (wr.setCell ⟨g, plN per m k, none⟩ (.int .i64 (L[k] : Nat)))) := HB.out.setCell (Nat.le_refl _) _
        generalize (fill8 per m L k)[plN per m k] = y at *
        generalize plN per m k = p at *
        generalize L[k] = c at *
        clear hg hpf hP
        go_wp2_with (go_at_call 18; refine HC.out.mono ?_; rintro e w' ⟨rfl, rfl⟩)
        go_roundg (L.length - k - 1)
        case measure => exact HGK.out.1
        case rel => exact ⟨k + 1, HGK.out.2, by go_num, HO4.out, HB4.out⟩
      · obtain rfl : k = L.length := by omega
        have hki : ¬ (L.length : Int) < (L.length : Int) := by omega
        have HO' := HO
        rw [HF.out] at HO'
        go_wp2_with fail
        go_ret2
        exact ⟨_, rfl, by rw [HE.out, HG0.out]; exact HO'.out, by rw [HG0.out]; exact HB.out⟩
set_option maxRecDepth 100000 in
set_option maxHeartbeats 2000000 in
theorem iUnmixBy_any (A : Option Addr) (zs : List Int) (ca : Nat) (n : Int) (w : World) (ha : Ints w A zs) (hl : zs.length ≤ 1048576) :
    Calls Try.prog 15 #[.slice A zs.length ca, .int .i64 n] w fun e w' => ∃ v, e = .returned (.tuple #[v, .bool (list8 zs n)]) ∧ Own w' w.heap.size v (unmixI zs n) ∧ Below w.heap.size w w' := by
  have HG := Lib.hid (iMix8 A zs ca n w ha hl)
  cases h : list8 zs n
  · have HE : Hid (unmixI zs n = []) := by show _ = _; rw [unmixI, h]; rfl
    rw [h] at HG
    clear ha
    go_enter Try.func15, Try.ntmps15
    go_wp2_with (go_at_call 39; refine HG.out.mono ?_; rintro e w' ⟨rfl, rfl⟩)
    go_ret2
    exact ⟨_, rfl, by rw [HE.out]; exact Own.nil _ _, Below.refl _ _⟩
  · rw [h] at HG
    obtain ⟨L, per, m, rfl, hL, rfl, hm1, hm10, h60, hLb⟩ := list8_nat h
    have HE := Lib.hid (mixI_nat hL hm1 h).2
    have HA := Lib.hid ha
    obtain ⟨i0, hi, hz0, hz1, hz2⟩ := info_parts intInfo
    rw [zI_length] at HG ⊢
    have HP := Lib.hid (fun k w hk => iPlace8 L.length per m k w hL hm1 hm10 (by omega) hk)
    have HLt := Lib.hid (fun k (hk : k < L.length) => pl_lt (a := per) (b := m) (k := k) (by omega))
    rw [← hL] at HLt
    have HPl : Hid ((perm8 per m L).length = L.length) := by show _ = _; rw [perm8_length, hL]
    have HPa : Hid (∀ k (hk : k < (perm8 per m L).length) (hp : plN per m k < L.length), (perm8 per m L)[k] = L[plN per m k]) := fun k hk hp => by
      simp [perm8, List.getD, hp]
    have hl60 : L.length ≤ 60 := by omega
    have HZ := Lib.hid (part8_zero (perm8 per m L))
    have HF := Lib.hid (part8_end (perm8 per m L))
    rw [HPl.out] at HZ HF
    clear ha h hl h60 hLb hL
    generalize perm8 per m L = P at *
    go_enter Try.func15, Try.ntmps15
    go_wp2_with (first
      | (go_at_call 39; refine HG.out.mono ?_; rintro e w' ⟨rfl, rfl⟩)
      | (at_make; refine wpList_make_full _ rfl _ _ 23 rfl w.heap.size 3 i0 (.int .i64 0) 1 Try.underlying23 hi hz0 hz1 .i64 .i64 _ _ L.length rfl rfl rfl rfl (by rw [hz2]; omega) (by unfold maxLen; omega) (Nat.le_refl _) ?_; intro w2 hown2 hgr2))
    have HB2 : Hid (Below w.heap.size w w2) := (Below.refl _ _).grown hgr2 (Nat.le_refl _) (by simp)
    have HO2 := Lib.hid (fresh8 hown2)
    rw [← HZ.out] at HO2
    clear hgr2 hown2 hi hz0 hz1 hz2
    generalize hg0 : w.heap.size = g at *
    have HG0 := Lib.hid hg0
    clear hg0
    go_wp2_with fail
    go_loopg [19] L.length (fun gk i wr => ∃ k : Nat, k + gk = L.length ∧ i = .int .i64 k ∧ Own wr g (.slice (some ⟨g, 0, none⟩) L.length L.length) (zI (part8 P k)) ∧ Below g w wr)
    case atStart => exact ⟨0, by omega, rfl, HO2.out, HB2.out⟩
    case round =>
      obtain ⟨k, hg, rfl, hown, hbel⟩ := hrel
      have HO := Lib.hid hown
      have HB := Lib.hid hbel
      clear hown hbel HO2 HB2
      by_cases hlt : k < L.length
      · have hki : (k : Int) < (L.length : Int) := by omega
        have HGK : Hid (L.length - k - 1 < gk ∧ k + 1 + (L.length - k - 1) = L.length) := by show _ ∧ _; omega
        have hpl := HLt.out k hlt
        have hkP : k < P.length := by rw [HPl.out]; exact hlt
        have HC := Lib.hid (HP.out k wr hlt)
        have HSt := Lib.hid (part8_step hkP)
        rw [HPa.out k hkP hpl] at HSt
        have hpf : k < (part8 P k).length := by rw [part8_length (by omega)]; exact hkP
        obtain ⟨b1, o1, rfl, hc1⟩ := (HA.out.below (by rw [HG0.out]; exact HB.out)).cellN hpl
        obtain ⟨q1, f1, -, -⟩ := own8_at HO.out hpf
        have hP := (own8_put HO.out (j := k) (L[plN per m k] : Int)).1
        rw [← zI8_set, ← HSt.out] at hP
        have HO4 := Lib.hid hP
        have HB4 : Hid (Below g w (wr.setCell ⟨g, k, none⟩ (.int .i64 (L[plN per m k] : Nat)))) := HB.out.setCell (Nat.le_refl _) _
        generalize (part8 P k)[k] = y at *
        generalize L[plN per m k] = c at *
        generalize plN per m k = p at *
        have hpi : (p : Int) < (L.length : Int) := by omega
        clear hg hpf hP hkP
        go_wp2_with (go_at_call 18; refine HC.out.mono ?_; rintro e w' ⟨rfl, rfl⟩)
        go_roundg (L.length - k - 1)
        case measure => exact HGK.out.1
        case rel => exact ⟨k + 1, HGK.out.2, by go_num, HO4.out, HB4.out⟩
      · obtain rfl : k = L.length := by omega
        have hki : ¬ (L.length : Int) < (L.length : Int) := by omega
        have HO' := HO
        rw [HF.out] at HO'
        go_wp2_with fail
        go_ret2
        exact ⟨_, rfl, by rw [HE.out, HG0.out]; exact HO'.out, by rw [HG0.out]; exact HB.out⟩

set_option maxRecDepth 100000 in
set_option maxHeartbeats 2000000 in
theorem iLosses_any (a n f mn : Int) (w : World) (hfm : f ≤ 9223372036854775807) : Calls Try.prog 19 #[.int .i64 a, .int .i64 n, .int .i64 f, .int .i64 mn] w fun e w' => ∃ v, e = .returned (.tuple #[v, .bool (lsOkB a n f mn)]) ∧ Own w' w.heap.size v (lsI a n f mn) ∧ Below w.heap.size w w' := by
  have HS := Lib.hid (iShape8 a n w)
  cases h1 : shape8 a n
  · have hok : lsOkB a n f mn = false := by rw [lsOkB, h1]; rfl
    have HE : Hid (lsI a n f mn = []) := by show _ = _; rw [lsI, hok]; rfl
    rw [h1] at HS
    rw [hok]
    go_enter Try.func19, Try.ntmps19
    go_wp2_with (go_at_call 42; refine HS.out.mono ?_; rintro e w' ⟨rfl, rfl⟩)
    go_ret2
    exact ⟨_, rfl, by rw [HE.out]; exact Own.nil _ _, Below.refl _ _⟩
  · rw [h1] at HS
    have ha60 : 0 ≤ a ∧ a ≤ 60 := by
      have h := h1
      simp only [shape8, Bool.and_eq_true] at h
      simpa [inB] using h.1
    obtain ⟨ha0, ha1⟩ := ha60
    by_cases h2 : f < 0
    · have hok : lsOkB a n f mn = false := by rw [lsOkB, inB_false (n := f) (by omega)]; simp
      have HE : Hid (lsI a n f mn = []) := by show _ = _; rw [lsI, hok]; rfl
      rw [hok]
      clear h1
      go_enter Try.func19, Try.ntmps19
      go_wp2_with (go_at_call 42; refine HS.out.mono ?_; rintro e w' ⟨rfl, rfl⟩)
      go_ret2
      exact ⟨_, rfl, by rw [HE.out]; exact Own.nil _ _, Below.refl _ _⟩
    · by_cases h3 : mn < 0
      · have hok : lsOkB a n f mn = false := by rw [lsOkB, inB_false (n := mn) (by omega)]; simp
        have HE : Hid (lsI a n f mn = []) := by show _ = _; rw [lsI, hok]; rfl
        rw [hok]
        clear h1
        go_enter Try.func19, Try.ntmps19
        go_wp2_with (go_at_call 42; refine HS.out.mono ?_; rintro e w' ⟨rfl, rfl⟩)
        go_ret2
        exact ⟨_, rfl, by rw [HE.out]; exact Own.nil _ _, Below.refl _ _⟩
      · by_cases h4 : a - f < mn
        · have hok : lsOkB a n f mn = false := by rw [lsOkB, inB_false (n := mn) (by omega)]; simp
          have HE : Hid (lsI a n f mn = []) := by show _ = _; rw [lsI, hok]; rfl
          rw [hok]
          clear h1
          go_enter Try.func19, Try.ntmps19
          go_wp2_with (go_at_call 42; refine HS.out.mono ?_; rintro e w' ⟨rfl, rfl⟩)
          go_ret2
          exact ⟨_, rfl, by rw [HE.out]; exact Own.nil _ _, Below.refl _ _⟩
        · have hok : lsOkB a n f mn = true := by rw [lsOkB, h1, inB_true (n := f) (by omega) (by omega), inB_true (n := mn) (by omega) (by omega)]; rfl
          obtain ⟨per, m, -, rfl, hm1, hm10, -⟩ := shape8_nat h1
          obtain ⟨F, rfl⟩ := Int.eq_ofNat_of_zero_le (show 0 ≤ f by omega)
          obtain ⟨M, rfl⟩ := Int.eq_ofNat_of_zero_le (show 0 ≤ mn by omega)
          have HE : Hid (lsI a (m : Int) (F : Int) (M : Int) = zI (loss8 m F M)) := by show _ = _; rw [lsI, if_pos hok, Int.toNat_natCast, Int.toNat_natCast, Int.toNat_natCast]
          have hF60 : F ≤ 60 := by omega
          have hM60 : F + M ≤ 60 := by omega
          have HT0 : Hid (TalAt (w.alloc (.cells #[.int .i64 0, .int .i64 0, .int .i64 0, .int .i64 0, .int .i64 0, .int .i64 0, .int .i64 0, .int .i64 0, .int .i64 0, .int .i64 0] 58)) w.heap.size (tenL (loss8 m F 0))) := by
            show TalAt _ _ _
            rw [loss8, tenL_zero hm10]; exact talNew w
          have HB0 : Hid (Below w.heap.size w (w.alloc (.cells #[.int .i64 0, .int .i64 0, .int .i64 0, .int .i64 0, .int .i64 0, .int .i64 0, .int .i64 0, .int .i64 0, .int .i64 0, .int .i64 0] 58))) := (Below.refl _ w).alloc (Nat.le_refl _) _
          rw [hok]
          clear hok h1
          go_enter Try.func19, Try.ntmps19
          go_wp2_with (go_at_call 42; refine HS.out.mono ?_; rintro e w' ⟨rfl, rfl⟩)
          generalize hg0 : w.heap.size = g at *
          have HG0 := Lib.hid hg0
          clear hg0
          go_loopg [11] M (fun gk i wr => ∃ t : Nat, t + gk = M ∧ i = .int .i64 ((F + t : Nat) : Int) ∧ TalAt wr g (tenL (loss8 m F t)) ∧ Below g w wr)
          case atStart => exact ⟨0, by omega, rfl, HT0.out, HB0.out⟩
          case round =>
            obtain ⟨t, hg, rfl, hown, hbel⟩ := hrel
            have HO := Lib.hid hown
            have HB := Lib.hid hbel
            clear hown hbel HT0 HB0
            by_cases hlt : t < M
            · have hki : ((F + t : Nat) : Int) < (F : Int) + (M : Int) := by omega
              have HGK : Hid (M - t - 1 < gk ∧ t + 1 + (M - t - 1) = M) := by show _ ∧ _; omega
              have HSt : Hid (loss8 m F (t + 1) = (loss8 m F t).set ((F + t) % m) ((loss8 m F t).getD ((F + t) % m) 0 + 1)) := rfl
              have hrm : (F + t) % m < m := Nat.mod_lt _ (by omega)
              have hle := loss8_le m F t ((F + t) % m)
              have hrr : ((F + t : Nat) : Int) % (m : Int) = (((F + t) % m : Nat) : Int) := by rw [Int.natCast_emod]
              have hpf : (F + t) % m < (loss8 m F t).length := by rw [loss8_length]; exact hrm
              have HS2 : Hid (((F + t + 1 : Nat) : Int) = ((F + t : Nat) : Int) + 1) := by show _ = _; omega
              have hFt : F + t < 60 := by omega
              have hl10 : (tenL (loss8 m F t)).length = 10 := tenL_length (by rw [loss8_length]; exact hm10)
              generalize (F + t) % m = r at *
              have hrl : r < (tenL (loss8 m F t)).length := by rw [hl10]; omega
              have q1 := HO.out.cell hrl
              have f1 := HO.out.frozen r
              rw [tenL_at hpf hrl] at q1
              rw [show (loss8 m F t).getD r 0 = (loss8 m F t)[r] by simp [List.getD, hpf]] at HSt hle
              have hP := HO.out.set r ((loss8 m F t)[r] + 1)
              rw [← tenL_set hpf, ← HSt.out] at hP
              have HO4 : Hid (TalAt (wr.setCell ⟨g, r, none⟩ (.int .i64 (((loss8 m F t)[r] : Int) + 1))) g (tenL (loss8 m F (t + 1)))) := by
                show TalAt _ _ _
                rw [show (((loss8 m F t)[r] : Nat) : Int) + 1 = (((loss8 m F t)[r] + 1 : Nat) : Int) by omega]
                exact hP
              have HB4 : Hid (Below g w (wr.setCell ⟨g, r, none⟩ (.int .i64 (((loss8 m F t)[r] : Int) + 1)))) := HB.out.setCell (Nat.le_refl _) _
              generalize (loss8 m F t)[r] = y at *
              clear hg hpf hP HO HB hrl hl10
              generalize hs : F + t = s at *
              have HSs := Lib.hid hs
              clear hs
              go_wp2_with fail
              go_roundg (M - t - 1)
              case measure => exact HGK.out.1
              case rel => exact ⟨t + 1, HGK.out.2, by rw [← Nat.add_assoc, HSs.out, HS2.out], HO4.out, HB4.out⟩
            · obtain rfl : t = M := by omega
              have hki : ¬ ((F + t : Nat) : Int) < (F : Int) + (t : Int) := by omega
              have HLl := Lib.hid (loss8_length m F t)
              have hI := HO.out.ints (n := m) (by rw [tenL_length (by rw [HLl.out]; exact hm10)]; exact hm10)
              have HTk : Hid ((tenL (loss8 m F t)).take m = loss8 m F t) := by
                show _ = _
                have h := tenL_take (loss8 m F t)
                rw [HLl.out] at h; exact h
              rw [HTk.out] at hI
              have HC := iClone8 (some ⟨g, 0, none⟩) (loss8 m F t) 10 wr hI (Or.inr ⟨g, 0, rfl⟩) (by rw [HLl.out]; omega)
              rw [HLl.out] at HC
              have HCl := Lib.hid HC
              clear HC hI
              have hge : g ≤ wr.heap.size := by have := HB.out.size; rw [HG0.out] at this; exact this
              have hsl := slice_tal g m hm10 wr
              have hB0 : Below w.heap.size w wr := by rw [HG0.out]; exact HB.out
              go_wp2_with fail
              refine HCl.out.mono ?_
              rintro e w3 ⟨v3, rfl, ho3, hb3⟩
              have HO3 := Lib.hid (ho3.lower hge)
              have HB3 := Lib.hid (below_more hB0 hb3)
              obtain ⟨A3, c3, rfl, _⟩ := ho3.form
              clear ho3 hb3 hB0
              go_wp2_with fail
              go_ret2
              exact ⟨_, rfl, by rw [HE.out, HG0.out]; exact HO3.out, HB3.out⟩
end Go.Proofs.Ytipcdaiobfgkeaa

/- EV -/
namespace Go.Proofs.Ytipcdaiobfgkeaa
open Go.RowKit

theorem ret_tal {fn : Func} {p : Tmp} (h : fn.results = #[.cell p 58]) {R : Ending → World → Prop} {a : Act} {w : World} (g : Nat) (T : List Nat) (hT : T.length = 10) (hp : a.tmps.getD p undef = .pointer (some ⟨g, 0, none⟩))
    (hg : w.heap[g]? = some (.cells (talCells T) 58 (0, 0))) (hd : a.defers = []) (hR : R (.returned (.agg (talCells T))) w) : bodyPost Try.prog fn R .ret a w :=
  bodyPost_ret (results_cell_row h _ _ g 58 (talCells T) (0, 0) _ hp hg Try.underlying58 rfl (by rw [talCells_size, hT]; exact infoTal)) hd hR
theorem below_setRow8 {B g : Nat} {w0 w : World} (hb : Below B w0 w) (hBg : B ≤ g) (cs : Array Value) : Below B w0 (w.setRow g cs) :=
  ⟨hb.os, hb.tape, hb.output, by simpa using hb.size, fun k hk => (setRow_other w g k cs (by omega)).trans (hb.block k hk)⟩

set_option maxRecDepth 100000 in
set_option maxHeartbeats 2000000 in
theorem iSums (A : Option Addr) (L : List Nat) (ca per m : Nat) (w : World) (ha : Ints w A (zI L)) (hL : L.length = per * m) (hm1 : 1 ≤ m) (hm10 : m ≤ 10) (h60 : L.length ≤ 60) (hLb : ∀ c ∈ L, c < 256) :
    Calls Try.prog 52 #[.slice A L.length ca, .int .i64 m] w fun e w' => e = .returned (.agg (talCells (tenL (par8 per m L L.length)))) ∧ Below w.heap.size w w' := by
  have HA := Lib.hid ha
  have HLb := Lib.hid hLb
  have HLn := Lib.hid (fun k w hk => iLine L.length per m k w hL hm1 hm10 h60 hk)
  have HPer : Hid (∀ k, k < L.length → k / per < m) := fun k hk => by
    rw [hL] at hk
    exact Nat.div_lt_of_lt_mul hk
  have HTl : Hid (∀ k, (tenL (par8 per m L k)).length = 10) := fun k => tenL_length (by rw [par8_length]; exact hm10)
  have HZ : Hid (List.replicate 10 0 = tenL (par8 per m L 0)) := by show _ = _; rw [par8, tenL_zero hm10]
  clear ha hLb hL
  go_enter Try.func52, Try.ntmps52
  go_wp2_with fail
  go_loopg [10] L.length (fun gk i wr => ∃ k : Nat, k + gk = L.length ∧ i = .int .i64 k ∧ TalAt wr (w.heap.size + 1) (tenL (par8 per m L k)) ∧ TalAt wr w.heap.size (List.replicate 10 0) ∧ Below w.heap.size w wr)
  case atStart =>
    refine ⟨0, by omega, rfl, ?_, ?_, ?_⟩
    · rw [← HZ.out, show w.heap.size + 1 = (w.alloc (.cells #[.int .i64 0, .int .i64 0, .int .i64 0, .int .i64 0, .int .i64 0, .int .i64 0, .int .i64 0, .int .i64 0, .int .i64 0, .int .i64 0] 58)).heap.size by simp]; exact talNew _
    · exact (Below.heap_alloc _ _ _ (by simp)).trans (talNew w)
    · exact ((Below.refl _ w).alloc (Nat.le_refl _) _).alloc (by simp) _
  case round =>
    obtain ⟨k, hg, rfl, hown, hzer, hbel⟩ := hrel
    have HO := Lib.hid hown
    have HZr := Lib.hid hzer
    have HB := Lib.hid hbel
    clear hown hbel hzer
    by_cases hlt : k < L.length
    · have hki : (k : Int) < (L.length : Int) := by omega
      have HGK : Hid (L.length - k - 1 < gk ∧ k + 1 + (L.length - k - 1) = L.length) := by show _ ∧ _; omega
      obtain ⟨b1, o1, rfl, hc1⟩ := (HA.out.below HB.out).cellN hlt
      have hqm := HPer.out k hlt
      have HC := Lib.hid (HLn.out k wr hlt)
      have hcb := HLb.out L[k] (List.getElem_mem hlt)
      have HSt : Hid (par8 per m L (k + 1) = (par8 per m L k).set (k / per) ((par8 per m L k).getD (k / per) 0 ^^^ L[k])) := by
        show _ = _
        rw [par8, show L.getD k 0 = L[k] by simp [List.getD, hlt]]
      have hpf : k / per < (par8 per m L k).length := by rw [par8_length]; exact hqm
      have hyb : (par8 per m L k)[k / per] < 256 := par8_lt HLb.out k _ (List.getElem_mem hpf)
      rw [show (par8 per m L k).getD (k / per) 0 = (par8 per m L k)[k / per] by simp [List.getD, hpf]] at HSt
      have hrl : k / per < (tenL (par8 per m L k)).length := by rw [HTl.out k]; omega
      have q1 := HO.out.cell hrl
      have f1 := HO.out.frozen (k / per)
      rw [tenL_at hpf hrl] at q1
      have HX := Lib.hid (xor_i64 (par8 per m L k)[k / per] L[k] (by omega) (by omega))
      have hP := HO.out.set (k / per) ((par8 per m L k)[k / per] ^^^ L[k])
      rw [← tenL_set hpf, ← HSt.out, ← HX.out] at hP
      have HO4 := Lib.hid hP
      have HZ4 := Lib.hid (HZr.out.other (g := w.heap.size + 1) (by omega) (k / per) (.int .i64 (bits .xor .i64 ((par8 per m L k)[k / per] : Int) (L[k] : Int))))
      have HB4 : Hid (Below w.heap.size w (wr.setCell ⟨w.heap.size + 1, k / per, none⟩ (.int .i64 (bits .xor .i64 ((par8 per m L k)[k / per] : Int) (L[k] : Int))))) := HB.out.setCell (by simp) _
      generalize (par8 per m L k)[k / per] = y at *
      generalize k / per = q at *
      generalize L[k] = c at *
      clear hg hpf hP HO HB HZr HSt hrl
      have hq10 : q < 10 := by omega
      go_wp2_with (go_at_call 43; refine HC.out.mono ?_; rintro e w' ⟨rfl, rfl⟩)
      go_roundg (L.length - k - 1)
      case measure => exact HGK.out.1
      case rel => exact ⟨k + 1, HGK.out.2, by go_num, HO4.out, HZ4.out, HB4.out⟩
    · obtain rfl : k = L.length := by omega
      have hki : ¬ (L.length : Int) < (L.length : Int) := by omega
      have hl10 := HTl.out L.length
      go_wp2_with (first
        | (refine wpList_load_row rfl 58 _ rfl (w.heap.size + 1) rfl 58 (talCells (tenL (par8 per m L L.length))) (0, 0) _ HO.out Try.underlying58 rfl (by rw [talCells_size, hl10]; exact infoTal) ?_)
        | (refine wpList_store_row rfl 58 _ _ rfl w.heap.size (talCells (tenL (par8 per m L L.length))) rfl rfl 58 (talCells (List.replicate 10 0)) HZr.out (by rw [talCells_size, hl10]; exact infoTal) (by rw [talCells_size, talCells_size, hl10]; rfl) (talCells_one _) ?_))
      refine ret_tal rfl w.heap.size _ hl10 rfl ?_ rfl ⟨rfl, ?_⟩
      · exact setRow_heap _ _ _ _ _ _ HZr.out
      · exact below_setRow8 HB.out (Nat.le_refl _) _

set_option maxRecDepth 100000 in
set_option maxHeartbeats 2000000 in
theorem iParity_any (A : Option Addr) (zs : List Int) (ca : Nat) (n : Int) (w : World) (ha : Ints w A zs) (hl : zs.length ≤ 1048576) :
    Calls Try.prog 29 #[.slice A zs.length ca, .int .i64 n] w fun e w' => ∃ v, e = .returned (.tuple #[v, .bool (list8 zs n)]) ∧ Own w' w.heap.size v (paI zs n) ∧ Below w.heap.size w w' := by
  have HG := Lib.hid (iMix8 A zs ca n w ha hl)
  cases h : list8 zs n
  · have HE : Hid (paI zs n = []) := by show _ = _; rw [paI, h]; rfl
    rw [h] at HG
    clear ha
    go_enter Try.func29, Try.ntmps29
    go_wp2_with (go_at_call 39; refine HG.out.mono ?_; rintro e w' ⟨rfl, rfl⟩)
    go_ret2
    exact ⟨_, rfl, by rw [HE.out]; exact Own.nil _ _, Below.refl _ _⟩
  · rw [h] at HG
    obtain ⟨L, per, m, rfl, hL, rfl, hm1, hm10, h60, hLb⟩ := list8_nat h
    have HE := Lib.hid (paI_nat hL hm1 h)
    have HP := Lib.hid (iSums A L ca per m w ha hL hm1 hm10 (by omega) hLb)
    rw [zI_length] at HG ⊢
    have HPl := Lib.hid (par8_length per m L L.length)
    clear ha h hl h60 hLb hL
    generalize par8 per m L L.length = T at *
    have hl10 : (tenL T).length = 10 := tenL_length (by rw [HPl.out]; exact hm10)
    go_enter Try.func29, Try.ntmps29
    go_wp2_with (go_at_call 39; refine HG.out.mono ?_; rintro e w' ⟨rfl, rfl⟩)
    refine HP.out.mono ?_
    rintro e w3 ⟨rfl, hb3⟩
    have HB3 := Lib.hid hb3
    have HT3 : Hid (TalAt (w3.alloc (.cells #[.int .i64 0, .int .i64 0, .int .i64 0, .int .i64 0, .int .i64 0, .int .i64 0, .int .i64 0, .int .i64 0, .int .i64 0, .int .i64 0] 58)) w3.heap.size (List.replicate 10 0)) := talNew w3
    have HBa := Lib.hid ((Below.refl _ w3).alloc (Nat.le_refl _) (.cells #[.int .i64 0, .int .i64 0, .int .i64 0, .int .i64 0, .int .i64 0, .int .i64 0, .int .i64 0, .int .i64 0, .int .i64 0, .int .i64 0] 58))
    have hsl := fun w => slice_tal w3.heap.size m hm10 w
    have HT4 : Hid (TalAt ((w3.alloc (.cells #[.int .i64 0, .int .i64 0, .int .i64 0, .int .i64 0, .int .i64 0, .int .i64 0, .int .i64 0, .int .i64 0, .int .i64 0, .int .i64 0] 58)).setRow w3.heap.size (talCells (tenL T))) w3.heap.size (tenL T)) := setRow_heap _ _ _ _ _ _ HT3.out
    have HB4 := Lib.hid (below_more HB3.out (below_setRow8 HBa.out (Nat.le_refl _) (talCells (tenL T))))
    have HCl : Hid (∀ w', TalAt w' w3.heap.size (tenL T) → Calls Try.prog 44 #[.slice (some ⟨w3.heap.size, 0, none⟩) m 10] w' fun e w2 => ∃ v, e = .returned v ∧ Own w2 w'.heap.size v (zI T) ∧ Below w'.heap.size w' w2) := fun w' ht => by
      have hI := ht.ints (n := m) (by rw [hl10]; exact hm10)
      have htk := tenL_take T
      rw [HPl.out] at htk
      rw [htk] at hI
      have h := iClone8 (some ⟨w3.heap.size, 0, none⟩) T 10 w' hI (Or.inr ⟨_, 0, rfl⟩) (by rw [HPl.out]; omega)
      rw [HPl.out] at h
      exact h
    clear hb3
    go_wp2_with (refine wpList_store_row rfl 58 _ _ rfl w3.heap.size (talCells (tenL T)) rfl rfl 58 (talCells (List.replicate 10 0)) HT3.out (by rw [talCells_size, hl10]; exact infoTal) (by rw [talCells_size, talCells_size, hl10]; rfl) (talCells_one _) ?_)
    refine (HCl.out _ HT4.out).mono ?_
    rintro e w5 ⟨v5, rfl, ho5, hb5⟩
    have HO5 := Lib.hid (ho5.lower HB4.out.size)
    have HB5 := Lib.hid (below_more HB4.out hb5)
    obtain ⟨A3, c3, rfl, _⟩ := ho5.form
    clear ho5 hb5
    go_wp2_with fail
    go_ret2
    exact ⟨_, rfl, by rw [HE.out]; exact HO5.out, HB5.out⟩

/-- Two tallies compared as a whole. -/
theorem items8 (C M : List Nat) (w : World) (d : Nat) : ∀ is : List Nat, (∀ i ∈ is, i < C.length ∧ i < M.length) →
    (Op.eqItems (d + 1) 3 1 (talCells C) (talCells M) is).run Try.prog w = .ok (is.all fun i => C.getD i 0 == M.getD i 0) w
  | [], _ => by simp [Op.eqItems]
  | i :: is, h => by
    obtain ⟨h1, h2⟩ := h i (by simp)
    have he : Try.prog.plainKey 3 = true := by kernel_rfl
    have p1 := run_part_plain w he (xs := talCells C) (off := i * 1) (by rw [Nat.mul_one]; exact talCells_at h1)
    have p2 := run_part_plain w he (xs := talCells M) (off := i * 1) (by rw [Nat.mul_one]; exact talCells_at h2)
    have p3 := run_equalIn_int w d 3 .i64 .i64 (C[i] : Nat) (M[i] : Nat) Try.underlying3
    have ih := items8 C M w d is (fun j hj => h j (by simp [hj]))
    simp only [Op.eqItems, Sem.run_bind, p1, p2, p3, Result.andThen_ok, List.all_cons, show C.getD i 0 = C[i] by simp [List.getD, h1], show M.getD i 0 = M[i] by simp [List.getD, h2]]
    by_cases e : C[i] = M[i]
    · simp [e, ih]
    · have e' : ((C[i] : Nat) : Int) ≠ ((M[i] : Nat) : Int) := by omega
      simp [e, e']
theorem same_ten {C M : List Nat} (hC : C.length = 10) (hM : M.length = 10) : ((List.range 10).all fun i => C.getD i 0 == M.getD i 0) = decide (C = M) := by
  rw [Bool.eq_iff_iff, List.all_eq_true, decide_eq_true_eq]
  constructor
  · intro h
    refine List.ext_getElem (by rw [hC, hM]) fun i h1 h2 => ?_
    have := h i (by simp; omega)
    simpa [List.getD, h1, h2] using this
  · intro h i _
    rw [h]; simp
theorem eq_tal (C M : List Nat) (hC : C.length = 10) (hM : M.length = 10) (w : World) : (Op.equalIn 10000 58 (.agg (talCells C)) (.agg (talCells M))).run Try.prog w = .ok (decide (C = M)) w := by
  have hu : Try.prog.underlying 58 = some (.array 10 3) := by kernel_rfl
  obtain ⟨i0, hi, -, -, -⟩ := info_parts intInfo
  have hc : Try.prog.cellsOf 3 = 1 := by kernel_rfl
  rw [show (10000 : Nat) = 9999 + 1 from rfl, run_equalIn_array w 9999 (talCells C) (talCells M) hu hi, hc, show (9999 : Nat) = 9998 + 1 from rfl, items8 C M w 9998 _ (fun i hi => by simp at hi; omega), same_ten hC hM]

/-- How often each line comes, and whether it comes. -/
def cnt8 (Q : List Nat) : List Nat := (List.range 10).map fun r => Q.count r
def mrk8 (Q : List Nat) : List Nat := (List.range 10).map fun r => if r ∈ Q then 1 else 0
theorem cnt8_length (Q : List Nat) : (cnt8 Q).length = 10 := by simp [cnt8]
theorem mrk8_length (Q : List Nat) : (mrk8 Q).length = 10 := by simp [mrk8]
theorem cnt8_nil : cnt8 [] = List.replicate 10 0 := by decide
theorem mrk8_nil : mrk8 [] = List.replicate 10 0 := by decide
theorem cnt8_at {Q : List Nat} {q : Nat} (h : q < (cnt8 Q).length) : (cnt8 Q)[q] = Q.count q := by simp [cnt8]
theorem cnt8_snoc {Q : List Nat} {q : Nat} : cnt8 (Q ++ [q]) = (cnt8 Q).set q (Q.count q + 1) := by
  refine List.ext_getElem (by simp [cnt8]) fun i h1 h2 => ?_
  rw [List.getElem_set]
  by_cases e : q = i
  · subst e; simp [cnt8]
  · rw [if_neg e]; simp [cnt8, List.count_singleton, e]
theorem mrk8_snoc {Q : List Nat} {q : Nat} : mrk8 (Q ++ [q]) = (mrk8 Q).set q 1 := by
  refine List.ext_getElem (by simp [mrk8]) fun i h1 h2 => ?_
  rw [List.getElem_set]
  by_cases e : q = i
  · subst e; simp [mrk8]
  · rw [if_neg e]
    have e' : ¬ i = q := fun h => e h.symm
    simp [mrk8, e']
theorem cnt_mrk {Q : List Nat} (h : ∀ q ∈ Q, q < 10) : decide (cnt8 Q = mrk8 Q) = decide Q.Nodup := by
  rw [decide_eq_decide]
  constructor
  · intro e
    rw [List.nodup_iff_count]
    intro q
    by_cases hq : q ∈ Q
    · have h10 := h q hq
      have h1 : (cnt8 Q)[q]? = (mrk8 Q)[q]? := by rw [e]
      simp [cnt8, mrk8, h10, hq] at h1
      omega
    · rw [List.count_eq_zero.2 hq]; omega
  · intro hn
    unfold cnt8 mrk8
    refine List.map_congr_left fun r _ => ?_
    split
    · rename_i hr
      rw [List.nodup_iff_count] at hn
      have h1 := hn r
      have h2 := List.count_pos_iff.2 hr
      omega
    · rename_i hr
      exact List.count_eq_zero.2 hr
end Go.Proofs.Ytipcdaiobfgkeaa

/- EN -/
namespace Go.Proofs.Ytipcdaiobfgkeaa
open Go.RowKit

theorem at_tal (g q : Nat) (hq : q < 10) (w : World) : (Instr.indexAt 58 (.pointer (some ⟨g, 0, none⟩)) (.int .i64 (q : Int))).run Try.prog w = .ok (.pointer (some ⟨g, q, none⟩)) w := by
  have hl : Try.prog.arrayLen 58 = 10 := by kernel_rfl
  have hu : Try.prog.underlying 58 = some (.array (Try.prog.arrayLen 58) (Try.prog.elem 58)) := by rw [hl]; kernel_rfl
  have hs : (sizeOf (Try.prog.elem 58)).run Try.prog w = .ok 1 w := by kernel_rfl
  rw [run_indexAt_array w 58 ⟨g, 0, none⟩ .i64 (q : Int) hu, if_pos (by rw [hl]; omega), hs]
  simp [Addr.add]
  exact fun e => e.symm
theorem take_map_snoc {K : List Nat} {j : Nat} (f : Nat → Nat) (h : j < K.length) : (K.take (j + 1)).map f = (K.take j).map f ++ [f K[j]] := by
  rw [List.take_succ_eq_append_getElem h, List.map_append]; rfl
set_option maxRecDepth 100000 in
set_option maxHeartbeats 2000000 in
theorem iDiff8 (C : Option Addr) (K : List Nat) (cc a per m : Nat) (w : World) (hc : Ints w C (zI K)) (ha : a = per * m) (hm1 : 1 ≤ m) (hm10 : m ≤ 10) (h60 : a ≤ 60) (hk : ∀ k ∈ K, k < a) (hl : K.length ≤ 1048576) :
    Calls Try.prog 51 #[.int .i64 a, .int .i64 m, .slice C K.length cc] w fun e w' => e = .returned (.bool (decide (K.map (· / per)).Nodup)) ∧ Below w.heap.size w w' := by
  have HC := Lib.hid hc
  have HKb := Lib.hid hk
  have HLn := Lib.hid (fun k w hk => iLine a per m k w ha hm1 hm10 h60 hk)
  have HPer : Hid (∀ k, k < a → k / per < m) := fun k hk => by
    rw [ha] at hk
    exact Nat.div_lt_of_lt_mul hk
  have HQ : Hid (decide (cnt8 ((K.take K.length).map (· / per)) = mrk8 ((K.take K.length).map (· / per))) = decide (K.map (· / per)).Nodup) := by
    show _ = _
    rw [List.take_length]
    exact cnt_mrk fun q hq => by
      obtain ⟨k, hkm, rfl⟩ := List.mem_map.1 hq
      have := HPer.out k (hk k hkm)
      omega
  clear hc hk ha
  go_enter Try.func51, Try.ntmps51
  go_wp2_with fail
  go_loopg [14] K.length (fun gk i wr => ∃ j : Nat, j + gk = K.length ∧ i = .int .i64 j ∧ TalAt wr w.heap.size (cnt8 ((K.take j).map (· / per))) ∧ TalAt wr (w.heap.size + 1) (mrk8 ((K.take j).map (· / per))) ∧ Below w.heap.size w wr)
  case atStart =>
    refine ⟨0, by omega, rfl, ?_, ?_, ?_⟩
    · rw [List.take_zero, List.map_nil, cnt8_nil]; exact (Below.heap_alloc _ _ _ (by simp)).trans (talNew w)
    · rw [List.take_zero, List.map_nil, mrk8_nil, show w.heap.size + 1 = (w.alloc (.cells #[.int .i64 0, .int .i64 0, .int .i64 0, .int .i64 0, .int .i64 0, .int .i64 0, .int .i64 0, .int .i64 0, .int .i64 0, .int .i64 0] 58)).heap.size by simp]; exact talNew _
    · exact ((Below.refl _ w).alloc (Nat.le_refl _) _).alloc (by simp) _
  case round =>
    obtain ⟨j, hg, rfl, hcn, hmr, hbel⟩ := hrel
    have HN := Lib.hid hcn
    have HM := Lib.hid hmr
    have HB := Lib.hid hbel
    clear hcn hmr hbel
    by_cases hlt : j < K.length
    · have hji : (j : Int) < (K.length : Int) := by omega
      have HGK : Hid (K.length - j - 1 < gk ∧ j + 1 + (K.length - j - 1) = K.length) := by show _ ∧ _; omega
      obtain ⟨b3, o3, rfl, hc3⟩ := (HC.out.below HB.out).cellN hlt
      have hkk := HKb.out K[j] (List.getElem_mem hlt)
      have hqm := HPer.out K[j] hkk
      have HT := Lib.hid (take_map_snoc (· / per) hlt)
      have hql : ((K.take j).map (· / per)).length ≤ 1048576 := by rw [List.length_map, List.length_take]; omega
      have hcl := Nat.le_trans (List.count_le_length (a := K[j] / per) (l := (K.take j).map (· / per))) hql
      have HCl := Lib.hid (HLn.out K[j] wr hkk)
      generalize K[j] = kk at *
      generalize kk / per = q at *
      generalize (K.take j).map (· / per) = Q at *
      have hq10 : q < 10 := by omega
      have q1 := HN.out.cell (k := q) (by rw [cnt8_length]; exact hq10)
      rw [cnt8_at] at q1
      have f1 := HN.out.frozen q
      have hP := HN.out.set q (Q.count q + 1)
      rw [← cnt8_snoc, ← HT.out] at hP
      have HN4 : Hid (TalAt (wr.setCell ⟨w.heap.size, q, none⟩ (.int .i64 ((Q.count q : Int) + 1))) w.heap.size (cnt8 ((K.take (j + 1)).map (· / per)))) := by
        show TalAt _ _ _
        rw [show ((Q.count q : Nat) : Int) + 1 = ((Q.count q + 1 : Nat) : Int) by omega]
        exact hP
      have HM4 := Lib.hid (HM.out.other (g := w.heap.size) (by omega) q (.int .i64 ((Q.count q : Int) + 1)))
      have HB4 : Hid (Below w.heap.size w (wr.setCell ⟨w.heap.size, q, none⟩ (.int .i64 ((Q.count q : Int) + 1)))) := HB.out.setCell (Nat.le_refl _) _
      have hq2 := HM4.out.cell (k := q) (by rw [mrk8_length]; exact hq10)
      have f2 := HM4.out.frozen q
      have hP2 := HM4.out.set q 1
      rw [← mrk8_snoc, ← HT.out] at hP2
      have HM5 := Lib.hid hP2
      have HN5 := Lib.hid (HN4.out.other (g := w.heap.size + 1) (by omega) q (.int .i64 1))
      have HB5 : Hid (Below w.heap.size w ((wr.setCell ⟨w.heap.size, q, none⟩ (.int .i64 ((Q.count q : Int) + 1))).setCell ⟨w.heap.size + 1, q, none⟩ (.int .i64 1))) := HB4.out.setCell (by simp) _
      generalize (mrk8 Q)[q]'_ = y at *
      generalize Q.count q = x at *
      clear hg hP hP2 HN HM HB HN4 HM4 HB4 hql
      go_wp2_with (go_at_call 43; refine HCl.out.mono ?_; rintro e w' ⟨rfl, rfl⟩)
      go_roundg (K.length - j - 1)
      case measure => exact HGK.out.1
      case rel => exact ⟨j + 1, HGK.out.2, by go_num, HN5.out, HM5.out, HB5.out⟩
    · obtain rfl : j = K.length := by omega
      have hji : ¬ (K.length : Int) < (K.length : Int) := by omega
      have hcl := cnt8_length ((K.take K.length).map (· / per))
      have hml := mrk8_length ((K.take K.length).map (· / per))
      have heq := fun w => eq_tal _ _ hcl hml w
      rw [HQ.out] at heq
      generalize (K.take K.length).map (· / per) = Q at *
      go_wp2_with (first
        | (refine wpList_load_row rfl 58 _ rfl w.heap.size rfl 58 (talCells (cnt8 Q)) (0, 0) _ HN.out Try.underlying58 rfl (by rw [talCells_size, hcl]; exact infoTal) ?_)
        | (refine wpList_load_row rfl 58 _ rfl (w.heap.size + 1) rfl 58 (talCells (mrk8 Q)) (0, 0) _ HM.out Try.underlying58 rfl (by rw [talCells_size, hml]; exact infoTal) ?_))
      go_ret
      exact ⟨rfl, HB.out⟩

/-- What the program keeps while it mends: the answer, with the values so far and the indexes that are left. -/
structure Mend8 (per : Nat) (S L : List Nat) (R : Option (List Nat)) (O ks : List Nat) : Prop where
  len : O.length = L.length
  byt : ∀ c ∈ O, c < 256
  run : ∃ wz : Int, mend8 per S O wz ks = R ∧ ∀ k ∈ ks, wz ≠ ((k / per : Nat) : Int)
  far : (ks.map (· / per)).Nodup
  old : ∀ k ∈ ks, ∀ i, i < L.length → i / per = k / per → O.getD i 0 = L.getD i 0
theorem Mend8.start {per : Nat} {S L K : List Nat} (hL : ∀ c ∈ L, c < 256) (hn : (K.map (· / per)).Nodup) : Mend8 per S L (mend8 per S L (-1) K) L K :=
  ⟨rfl, hL, ⟨-1, rfl, fun k _ => by show (-1 : Int) ≠ ((k / per : Nat) : Int); generalize k / per = q; omega⟩, hn, fun _ _ _ _ _ => rfl⟩
theorem Mend8.step {per : Nat} {S L O ks : List Nat} {R : Option (List Nat)} {k : Nat} (h : Mend8 per S L R O (k :: ks)) (hk : k < L.length) (hL : ∀ c ∈ L, c < 256) (hS : S.getD (k / per) 0 < 256) :
    Mend8 per S L R (O.set k (O.getD k 0 ^^^ (lin8 per L (k / per) L.length ^^^ S.getD (k / per) 0))) ks := by
  have hkO : k < O.length := by rw [h.len]; exact hk
  have hX : lin8 per L (k / per) L.length < 256 := lin8_lt hL _ _
  have hY : O.getD k 0 < 256 := by
    rw [show O.getD k 0 = O[k] by simp [List.getD, hkO]]
    exact h.byt _ (List.getElem_mem hkO)
  have hn := h.far
  rw [List.map_cons, List.nodup_cons] at hn
  have hv : lin8 per (O.set k 0) (k / per) O.length ^^^ S.getD (k / per) 0 = O.getD k 0 ^^^ (lin8 per L (k / per) L.length ^^^ S.getD (k / per) 0) := by
    have h1 := lin8_zero (per := per) hkO hkO
    have h2 : lin8 per O (k / per) O.length = lin8 per L (k / per) L.length := by
      rw [h.len]
      exact lin8_congr fun i hi e => h.old k (by simp) i hi e
    rw [h2] at h1
    rw [← h1, ← Nat.xor_assoc, Nat.xor_comm (O.getD k 0), Nat.xor_assoc (lin8 per (O.set k 0) (k / per) O.length), Nat.xor_self, Nat.xor_zero]
  refine ⟨by rw [List.length_set]; exact h.len, fun c hc => ?_, ?_, hn.2, fun k2 hk2 i hi e => ?_⟩
  · rcases List.mem_or_eq_of_mem_set hc with hc | rfl
    · exact h.byt c hc
    · exact Nat.xor_lt_two_pow (n := 8) hY (Nat.xor_lt_two_pow (n := 8) hX hS)
  · obtain ⟨wz, hr, hne⟩ := h.run
    rw [mend8, if_neg (fun e => hne k (by simp) e.symm), hv] at hr
    exact ⟨_, hr, fun k2 hk2 e => hn.1 (List.mem_map.2 ⟨k2, hk2, by show k2 / per = k / per; omega⟩)⟩
  · rw [getD_set8 hkO, if_neg]
    · exact h.old k2 (by simp [hk2]) i hi e
    · rintro rfl
      exact hn.1 (List.mem_map.2 ⟨k2, hk2, e.symm⟩)
theorem Mend8.done {per : Nat} {S L O : List Nat} {R : Option (List Nat)} (h : Mend8 per S L R O []) : R = some O := by
  obtain ⟨wz, hr, _⟩ := h.run
  rw [← hr]; rfl
/-- Mending succeeds just where no two lost values lie in one line. -/
theorem mend8_when {per : Nat} {S : List Nat} : ∀ {K L : List Nat} {was : Int}, K.Pairwise (· < ·) → (∀ k ∈ K, was < ((k / per : Nat) : Int)) → (mend8 per S L was K).isSome = decide (K.map (· / per)).Nodup
  | [], L, was, _, _ => by simp [mend8]
  | k :: ks, L, was, hr, hw => by
    have hk := hw k (by simp)
    rw [List.pairwise_cons] at hr
    rw [mend8, if_neg (by omega), List.map_cons]
    by_cases hin : k / per ∈ ks.map (· / per)
    · have hd : decide ((k / per) :: ks.map (· / per)).Nodup = false := by
        rw [decide_eq_false_iff_not, List.nodup_cons]; exact fun h => h.1 hin
      rw [hd]
      cases ks with
      | nil => simp at hin
      | cons k2 ks2 =>
        have h12 : k / per ≤ k2 / per := Nat.div_le_div_right (Nat.le_of_lt (hr.1 k2 (by simp)))
        have h21 : k2 / per ≤ k / per := by
          obtain ⟨j, hj, e⟩ := List.mem_map.1 hin
          rw [← e]
          rcases List.mem_cons.1 hj with rfl | hj
          · exact Nat.le_refl _
          · exact Nat.div_le_div_right (Nat.le_of_lt ((List.pairwise_cons.1 hr.2).1 j hj))
        rw [mend8, if_pos (by omega)]; rfl
    · have ih := mend8_when (per := per) (S := S) (L := L.set k (lin8 per (L.set k 0) (k / per) L.length ^^^ S.getD (k / per) 0)) (was := ((k / per : Nat) : Int)) hr.2 (fun j hj => by
        have h1 : k / per ≤ j / per := Nat.div_le_div_right (c := per) (Nat.le_of_lt (hr.1 j hj))
        have h2 : k / per ≠ j / per := fun e => hin (List.mem_map.2 ⟨j, hj, e.symm⟩)
        show ((k / per : Nat) : Int) < ((j / per : Nat) : Int)
        generalize k / per = x at *
        generalize j / per = y at *
        omega)
      rw [ih]
      congr 1
      rw [List.nodup_cons, eq_iff_iff]
      exact ⟨fun h => ⟨hin, h⟩, fun h => h.2⟩
end Go.Proofs.Ytipcdaiobfgkeaa

/- EF -/
namespace Go.Proofs.Ytipcdaiobfgkeaa
open Go.RowKit

set_option maxRecDepth 100000 in
set_option maxHeartbeats 4000000 in
theorem iMend_loop (L S K : List Nat) (A B C : Option Addr) (ca cb cc per m : Nat) (w : World) (ha : Ints w A (zI L)) (hA : Lies8 A ca) (hb : Ints w B (zI S)) (hc : Ints w C (zI K))
    (hL : L.length = per * m) (hm1 : 1 ≤ m) (hm10 : m ≤ 10) (h60 : L.length ≤ 60) (hLb : ∀ c ∈ L, c < 256) (hS : S.length = m) (hSb : ∀ c ∈ S, c < 256) (hKl : K.length ≤ 1048576) (hk : ∀ k ∈ K, k < L.length) (hr : K.Pairwise (· < ·))
    (HG : Hid (Calls Try.prog 39 #[.slice A L.length ca, .int .i64 m] w fun e w' => e = .returned (.bool true) ∧ w = w'))
    (HAl : Hid (Calls Try.prog 49 #[.slice B m cb] w fun e w' => e = .returned (.bool true) ∧ w = w'))
    (HRi : Hid (Calls Try.prog 50 #[.slice C K.length cc, .int .i64 L.length] w fun e w' => e = .returned (.bool true) ∧ w = w')) :
    Calls Try.prog 27 #[.slice A L.length ca, .int .i64 m, .slice B m cb, .slice C K.length cc] w fun e w' => ∃ v, e = .returned (.tuple #[v, .bool (mend8 per S L (-1) K).isSome]) ∧ Own w' w.heap.size v (zI ((mend8 per S L (-1) K).getD [])) ∧ Below w.heap.size w w' := by
  have HA := Lib.hid ha
  have HB := Lib.hid hb
  have HC := Lib.hid hc
  have HLb := Lib.hid hLb
  have HSb := Lib.hid hSb
  have HSl := Lib.hid hS
  have HKb := Lib.hid hk
  have HL := Lib.hid hL
  have HDf := Lib.hid (iDiff8 C K cc L.length per m w hc hL hm1 hm10 h60 hk hKl)
  have HW := Lib.hid (mend8_when (per := per) (S := S) (K := K) (L := L) (was := -1) hr (fun k _ => by show (-1 : Int) < ((k / per : Nat) : Int); generalize k / per = q; omega))
  have hmm : ((m : Int) != (m : Int)) = false := by simp
  cases hn : decide (K.map (· / per)).Nodup
  · rw [hn] at HDf HW
    have HN : Hid ((mend8 per S L (-1) K).isSome = false ∧ (mend8 per S L (-1) K).getD [] = []) := by
      show _ ∧ _
      have h := HW.out
      cases hm : mend8 per S L (-1) K with
      | none => exact ⟨rfl, rfl⟩
      | some R => rw [hm] at h; cases h
    clear ha hb hc hLb hSb hS hk hL hn hr HW
    go_enter Try.func27, Try.ntmps27
    go_wp2_with (first
      | (go_at_call 39; refine HG.out.mono ?_; rintro e w' ⟨rfl, rfl⟩)
      | (go_at_call 49; refine HAl.out.mono ?_; rintro e w' ⟨rfl, rfl⟩)
      | (go_at_call 50; refine HRi.out.mono ?_; rintro e w' ⟨rfl, rfl⟩))
    refine HDf.out.mono ?_
    rintro e w1 ⟨rfl, hb1⟩
    have HB1 := Lib.hid hb1
    clear hb1
    go_wp2_with fail
    go_ret2
    exact ⟨_, by rw [HN.out.1]; rfl, by rw [HN.out.2]; exact Own.nil _ _, HB1.out⟩
  · rw [hn] at HDf
    have HM0 := Lib.hid (Mend8.start (S := S) hLb (of_decide_eq_true hn))
    have HCl := Lib.hid (fun w' h => iClone8 A L ca w' h hA (by omega))
    have HSu := Lib.hid (fun w' h => iSums A L ca per m w' h hL hm1 hm10 h60 hLb)
    have HLn := Lib.hid (fun k w hk => iLine L.length per m k w hL hm1 hm10 h60 hk)
    have HPer : Hid (∀ k, k < L.length → k / per < m) := fun k hk => by
      rw [hL] at hk
      exact Nat.div_lt_of_lt_mul hk
    have hPl := par8_length per m L L.length
    have HPa : Hid (∀ q, q < m → (par8 per m L L.length).getD q 0 = lin8 per L q L.length) := fun q hq => par8_at hq _
    have HPb : Hid (∀ q, lin8 per L q L.length < 256) := fun q => lin8_lt hLb q _
    generalize hR : mend8 per S L (-1) K = R at *
    clear ha hb hc hLb hSb hS hk hL hn hr HW hR
    generalize par8 per m L L.length = T at *
    have HTm := Lib.hid hPl
    have hl10 : (tenL T).length = 10 := tenL_length (by rw [hPl]; exact hm10)
    clear hPl
    go_enter Try.func27, Try.ntmps27
    go_wp2_with (first
      | (go_at_call 39; refine HG.out.mono ?_; rintro e w' ⟨rfl, rfl⟩)
      | (go_at_call 49; refine HAl.out.mono ?_; rintro e w' ⟨rfl, rfl⟩)
      | (go_at_call 50; refine HRi.out.mono ?_; rintro e w' ⟨rfl, rfl⟩))
    refine HDf.out.mono ?_
    rintro e w0 ⟨rfl, hb0⟩
    have HB0 := Lib.hid hb0
    clear hb0
    go_wp2_with fail
    refine (HCl.out w0 (HA.out.below HB0.out)).mono ?_
    rintro e w1 ⟨v1, rfl, ho1, hb1⟩
    have HO1 := Lib.hid (ho1.lower HB0.out.size)
    have HB1 := Lib.hid (below_more HB0.out hb1)
    clear ho1 hb1
    go_wp2_with fail
    refine (HSu.out w1 (HA.out.below HB1.out)).mono ?_
    rintro e w2 ⟨rfl, hb2⟩
    have HO2 := Lib.hid (HO1.out.below hb2)
    have HB2 := Lib.hid (below_more HB1.out hb2)
    have HT3 : Hid (TalAt (w2.alloc (.cells #[.int .i64 0, .int .i64 0, .int .i64 0, .int .i64 0, .int .i64 0, .int .i64 0, .int .i64 0, .int .i64 0, .int .i64 0, .int .i64 0] 58)) w2.heap.size (List.replicate 10 0)) := talNew w2
    have HT4 : Hid (TalAt ((w2.alloc (.cells #[.int .i64 0, .int .i64 0, .int .i64 0, .int .i64 0, .int .i64 0, .int .i64 0, .int .i64 0, .int .i64 0, .int .i64 0, .int .i64 0] 58)).setRow w2.heap.size (talCells (tenL T))) w2.heap.size (tenL T)) := setRow_heap _ _ _ _ _ _ HT3.out
    have HBa := Lib.hid (below_setRow8 ((Below.refl _ w2).alloc (Nat.le_refl _) (.cells #[.int .i64 0, .int .i64 0, .int .i64 0, .int .i64 0, .int .i64 0, .int .i64 0, .int .i64 0, .int .i64 0, .int .i64 0, .int .i64 0] 58)) (Nat.le_refl w2.heap.size) (talCells (tenL T)))
    have HO4 := Lib.hid (HO2.out.below HBa.out)
    have HB4 := Lib.hid (below_more HB2.out HBa.out)
    have HLt := Lib.hid HO2.out.lt
    clear hb2
    go_wp2_with (refine wpList_store_row rfl 58 _ _ rfl w2.heap.size (talCells (tenL T)) rfl rfl 58 (talCells (List.replicate 10 0)) HT3.out (by rw [talCells_size, hl10]; exact infoTal) (by rw [talCells_size, talCells_size, hl10]; rfl) (talCells_one _) ?_)
    generalize (w2.alloc (.cells #[.int .i64 0, .int .i64 0, .int .i64 0, .int .i64 0, .int .i64 0, .int .i64 0, .int .i64 0, .int .i64 0, .int .i64 0, .int .i64 0] 58)).setRow w2.heap.size (talCells (tenL T)) = w4 at *
    generalize w2.heap.size = gt at *
    go_loopg [50] K.length (fun gk i wr => ∃ (j : Nat) (O : List Nat), j + gk = K.length ∧ i = .int .i64 j ∧ Own wr w.heap.size v1 (zI O) ∧ Mend8 per S L R O (K.drop j) ∧ TalAt wr gt (tenL T) ∧ Below w.heap.size w wr)
    case atStart => exact ⟨0, L, by omega, rfl, HO4.out, HM0.out, HT4.out, HB4.out⟩
    case round =>
      obtain ⟨j, O, hg, rfl, hown, hmd, htl, hbel⟩ := hrel
      have HO := Lib.hid hown
      have HBl := Lib.hid hbel
      have HMd := Lib.hid hmd
      have HT := Lib.hid htl
      clear hown hbel hmd htl HO1 HB1 HO2 HB2 HO4 HB4 HT3 HT4 HBa
      by_cases hlt : j < K.length
      · have hji : (j : Int) < (K.length : Int) := by omega
        have HGK : Hid (K.length - j - 1 < gk ∧ j + 1 + (K.length - j - 1) = K.length) := by show _ ∧ _; omega
        obtain ⟨b3, o3, rfl, hc3⟩ := (HC.out.below HBl.out).cellN hlt
        have hkk := HKb.out K[j] (List.getElem_mem hlt)
        have hqm := HPer.out K[j] hkk
        rw [List.drop_eq_getElem_cons hlt] at HMd
        have HLc := Lib.hid (HLn.out K[j] wr hkk)
        have hpa := HPa.out (K[j] / per) hqm
        have hpb := HPb.out (K[j] / per)
        have HOl : Hid (O.length = L.length) := HMd.out.len
        have hOk : K[j] < O.length := by rw [HOl.out]; exact hkk
        have hqS : K[j] / per < S.length := by rw [HSl.out]; exact hqm
        have hsb := HSb.out S[K[j] / per] (List.getElem_mem hqS)
        have HSq : Hid (S.getD (K[j] / per) 0 = S[K[j] / per]) := by show _ = _; simp [List.getD, hqS]
        have hob := HMd.out.byt O[K[j]] (List.getElem_mem hOk)
        have HSt := Lib.hid (HMd.out.step hkk HLb.out (by rw [HSq.out]; exact hsb))
        rw [HSq.out, ← hpa, show O.getD K[j] 0 = O[K[j]] by simp [List.getD, hOk]] at HSt
        obtain ⟨g, cap, hv, hcap, hlow⟩ := own8_block HO.out (by omega)
        rw [HOl.out] at hv hcap
        subst hv
        have hgt : g < gt := (HLt.out g rfl).2
        obtain ⟨q1, f1, -, -⟩ := own8_at HO.out hOk
        obtain ⟨b2, o2, rfl, hc2⟩ := (HB.out.below HBl.out).cellN hqS
        have hTq : K[j] / per < T.length := by rw [HTm.out]; exact hqm
        have hrl : K[j] / per < (tenL T).length := by rw [hl10]; omega
        have t1 := HT.out.cell hrl
        rw [tenL_at hTq hrl] at t1
        rw [show T.getD (K[j] / per) 0 = T[K[j] / per] by simp [List.getD, hTq]] at HSt hpa
        have hyb : T[K[j] / per] < 256 := by rw [hpa]; exact hpb
        clear hpa hpb
        have HX1 := Lib.hid (xor_i64 T[K[j] / per] S[K[j] / per] (by omega) (by omega))
        have hxb : T[K[j] / per] ^^^ S[K[j] / per] < 256 := Nat.xor_lt_two_pow (n := 8) hyb hsb
        have HX2 := Lib.hid (xor_i64 O[K[j]] (T[K[j] / per] ^^^ S[K[j] / per]) (by omega) (by omega))
        have hp1 := own8_put HO.out (j := K[j]) (bits .xor .i64 (O[K[j]] : Int) (bits .xor .i64 (T[K[j] / per] : Int) (S[K[j] / per] : Int)))
        have HP : Hid (Own (wr.setCell ⟨g, K[j], none⟩ (.int .i64 (bits .xor .i64 (O[K[j]] : Int) (bits .xor .i64 (T[K[j] / per] : Int) (S[K[j] / per] : Int))))) w.heap.size (.slice (some ⟨g, 0, none⟩) L.length cap) (zI (O.set K[j] (O[K[j]] ^^^ (T[K[j] / per] ^^^ S[K[j] / per]))))) := by
          show Own _ _ _ _
          rw [zI8_set, ← HX2.out, ← HX1.out]
          exact hp1.1
        have HT5 := Lib.hid (HT.out.other (g := g) (by omega) K[j] (.int .i64 (bits .xor .i64 (O[K[j]] : Int) (bits .xor .i64 (T[K[j] / per] : Int) (S[K[j] / per] : Int)))))
        have HB5 := Lib.hid (gGrown HBl.out HBl.out.size hp1.2 hlow)
        generalize K[j] / per = q at *
        generalize T[q] = y at *
        generalize S[q] = s at *
        generalize K[j] = kk at *
        generalize O[kk] = x at *
        have hq10 : q < 10 := by omega
        have hat := fun w => at_tal gt q hq10 w
        clear hg hp1 hOk hqS hTq hrl hob hsb hyb hxb HX1 HX2 HSq HMd HLn HPer
        go_wp2_with (go_at_call 43; refine HLc.out.mono ?_; rintro e w' ⟨rfl, rfl⟩)
        refine wp_region_still_tail 14 (by kernel_rfl) (by kernel_rfl) ?_
        simp only [List.take_succ_cons, List.take_zero, List.drop_succ_cons, List.drop_zero]
        change wpStill _ _ (World.drew wr) _ _ _
        repeat still_step
        refine wpStill_nil ?_
        go_wp2_with fail
        go_roundg (K.length - j - 1)
        case measure => exact HGK.out.1
        case rel => exact ⟨j + 1, O.set kk (x ^^^ (y ^^^ s)), HGK.out.2, by go_num, HP.out.below gDrew, HSt.out, HT5.out.below gDrew (by have := HT5.out.lt; omega), below_more HB5.out gDrew⟩
      · obtain rfl : j = K.length := by omega
        have hji : ¬ (K.length : Int) < (K.length : Int) := by omega
        obtain ⟨A1, c1, rfl, _⟩ := HO.out.form
        have hmd := HMd.out
        rw [List.drop_length] at hmd
        have HN := Lib.hid hmd.done
        clear hmd
        go_wp2_with fail
        go_ret2
        exact ⟨_, by rw [HN.out]; rfl, by rw [HN.out]; exact HO.out, HBl.out⟩
set_option maxRecDepth 100000 in
set_option maxHeartbeats 2000000 in
theorem iMend_any (A B C : Option Addr) (zs ps ks : List Int) (ca cb cc : Nat) (n : Int) (w : World) (ha : Ints w A zs) (hb : Ints w B ps) (hc : Ints w C ks) (hA : Lies8 A ca) (hl : zs.length ≤ 1048576) (hl2 : ps.length ≤ 1048576) (hl3 : ks.length ≤ 1048576) :
    Calls Try.prog 27 #[.slice A zs.length ca, .int .i64 n, .slice B ps.length cb, .slice C ks.length cc] w fun e w' => ∃ v, e = .returned (.tuple #[v, .bool (mdOkB zs n ps ks)]) ∧ Own w' w.heap.size v (mdI zs n ps ks) ∧ Below w.heap.size w w' := by
  have HG := Lib.hid (iMix8 A zs ca n w ha hl)
  have HAl := Lib.hid (iBytes B ps cb w hb hl2)
  have HRi := Lib.hid (iRising C ks cc (zs.length : Int) w hc hl3 (by omega))
  cases h : mdPreB zs n ps ks
  · have HE := Lib.hid (md_not h)
    rw [HE.out.2]
    clear ha hb hc hA
    cases h1 : list8 zs n
    · rw [h1] at HG
      clear h
      go_enter Try.func27, Try.ntmps27
      go_wp2_with (go_at_call 39; refine HG.out.mono ?_; rintro e w' ⟨rfl, rfl⟩)
      go_ret2
      exact ⟨_, rfl, by rw [HE.out.1]; exact Own.nil _ _, Below.refl _ _⟩
    · rw [h1] at HG
      by_cases h2 : (ps.length : Int) = n
      · have hn2 : ((ps.length : Int) != n) = false := by simp [h2]
        cases h3 : allIn ps 255
        · rw [h3] at HAl
          clear h h1 h2
          go_enter Try.func27, Try.ntmps27
          go_wp2_with (first
            | (go_at_call 39; refine HG.out.mono ?_; rintro e w' ⟨rfl, rfl⟩)
            | (go_at_call 49; refine HAl.out.mono ?_; rintro e w' ⟨rfl, rfl⟩))
          go_ret2
          exact ⟨_, rfl, by rw [HE.out.1]; exact Own.nil _ _, Below.refl _ _⟩
        · have h4 : risB 0 (zs.length : Int) ks = false := by
            rw [mdPreB, h1, h3] at h
            simpa [h2] using h
          rw [h3] at HAl
          rw [h4] at HRi
          clear h h1 h2 h4
          go_enter Try.func27, Try.ntmps27
          go_wp2_with (first
            | (go_at_call 39; refine HG.out.mono ?_; rintro e w' ⟨rfl, rfl⟩)
            | (go_at_call 49; refine HAl.out.mono ?_; rintro e w' ⟨rfl, rfl⟩)
            | (go_at_call 50; refine HRi.out.mono ?_; rintro e w' ⟨rfl, rfl⟩))
          go_ret2
          exact ⟨_, rfl, by rw [HE.out.1]; exact Own.nil _ _, Below.refl _ _⟩
      · have hn2 : ((ps.length : Int) != n) = true := by simp [h2]
        clear h h1 h2
        go_enter Try.func27, Try.ntmps27
        go_wp2_with (go_at_call 39; refine HG.out.mono ?_; rintro e w' ⟨rfl, rfl⟩)
        go_ret2
        exact ⟨_, rfl, by rw [HE.out.1]; exact Own.nil _ _, Below.refl _ _⟩
  · have h' := h
    simp only [mdPreB, Bool.and_eq_true, decide_eq_true_eq] at h'
    rw [h'.1] at HG
    rw [h'.2.2.1] at HAl
    rw [h'.2.2.2] at HRi
    clear h'
    obtain ⟨L, S, K, per, m, rfl, rfl, rfl, rfl, hL, hm1, hm10, h60, hLb, hS, hSb, hr, hk, e⟩ := md_nat h
    rw [zI_length] at HG HAl HRi
    rw [zI_length] at HRi
    rw [zI_length] at hl3
    rw [hS] at HAl
    rw [mdI, mdOkB, e, zI_length, zI_length, zI_length, hS]
    exact iMend_loop L S K A B C ca cb cc per m w ha hA hb hc hL hm1 hm10 h60 hLb hS hSb hl3 hk hr HG HAl HRi
end Go.Proofs.Ytipcdaiobfgkeaa
