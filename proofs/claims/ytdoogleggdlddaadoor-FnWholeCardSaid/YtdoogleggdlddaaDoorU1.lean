/-
  What StepsOf, RankOf, CanMake and SameSpan answer, in the program's text and in the model's, at every argument.
-/
import Derived.Test.YtdoogleggdlddaaDoorS7
import Derived.Test.YtdoogleggdlddaaDoorT2
namespace Go.Proofs.YtdoogleggdlddaaDoor
open Go.RowKit

/-- Numbers of the program's as natural numbers. -/
def nL (zs : List Int) : List Nat := zs.map Int.toNat
theorem nL_length (zs : List Int) : (nL zs).length = zs.length := by simp [nL]
theorem nL_zI (l : List Nat) : nL (zI l) = l := by
  induction l with
  | nil => rfl
  | cons x l ih => simp only [nL, zI, List.map_cons, List.map_map] at ih ⊢; rw [ih]; simp
theorem zI_nL {zs : List Int} (h : ∀ z ∈ zs, 0 ≤ z) : zI (nL zs) = zs := by
  induction zs with
  | nil => rfl
  | cons z zs ih =>
    simp only [nL, zI, List.map_cons, List.map_map] at ih ⊢
    rw [ih (fun x hx => h x (by simp [hx]))]
    have := h z (by simp)
    congr 1; omega
/-- Valid rows are natural numbers. -/
theorem rows_nat {x : Int} {zs : List Int} (h : rowsB x zs = true) : ∃ (m : Nat) (R : List Nat), x = m ∧ zs = zI R ∧ 1 ≤ m ∧ m ≤ 16 ∧ R.length ≤ 20 ∧ ∀ r ∈ R, r < 2 ^ m := by
  have h' : wideB x = true ∧ zs.length ≤ 20 ∧ ∀ z ∈ zs, goodB x z = true := by simpa [rowsB, allG] using h
  have hw : 1 ≤ x ∧ x ≤ 16 := by simpa [wideB] using h'.1
  refine ⟨x.toNat, nL zs, by omega, (zI_nL fun z hz => ?_).symm, by omega, by omega, by rw [nL_length]; exact h'.2.1, fun r hr => ?_⟩
  · have := ((rowsB_in h).2 z hz).1; exact this
  · obtain ⟨z, hz, rfl⟩ := List.mem_map.1 hr
    obtain ⟨m, n, e1, rfl, _, _, h3⟩ := good_nat (h'.2.2 z hz)
    rw [e1, Int.toNat_natCast, Int.toNat_natCast]; exact h3
theorem lt16s {m : Nat} {R : List Nat} (hm : m ≤ 16) (h : ∀ r ∈ R, r < 2 ^ m) : ∀ r ∈ R, r < 65536 := fun r hr => lt16 hm (h r hr)

def stepsI (x : Int) (zs : List Int) : List Int := if rowsB x zs = true then zI (steps (nL zs)) else []
theorem stepsI_ok {m : Int} {R : List Nat} (h : rowsB m (zI R) = true) : stepsI m (zI R) = zI (steps R) := by rw [stepsI, if_pos h, nL_zI]
theorem stepsI_no {x : Int} {zs : List Int} (h : rowsB x zs = false) : stepsI x zs = [] := by simp [stepsI, h]
theorem stepsI_len (x : Int) (zs : List Int) : (stepsI x zs).length ≤ 16 := by
  unfold stepsI; split
  · rename_i h
    obtain ⟨m, R, rfl, rfl, _, h2, _, h4⟩ := rows_nat h
    rw [zI_length, nL_zI]; exact rank_le_width (w := 16) (lt16s h2 h4)
  · simp

set_option maxRecDepth 100000 in
set_option maxHeartbeats 1000000 in
theorem iSteps_any (x : Int) (A : Option Addr) (zs : List Int) (ca : Nat) (w : World) (ht : Tab w) (ha : Ints w A zs) (hl : zs.length ≤ 1048576) :
    Calls Tryd.prog 78 #[.int .i64 x, .slice A zs.length ca] w fun e w' => ∃ v, e = .returned (.tuple #[v, .bool (rowsB x zs)]) ∧ Own w' w.heap.size v (stepsI x zs) ∧ Below w.heap.size w w' := by
  cases h : rowsB x zs
  · have HE := Lib.hid (stepsI_no h)
    go_enter Tryd.func78, Tryd.ntmps78
    go_wp2_with (go_at_call 90; refine (iRows _ _ _ _ _ ht ha hl).mono ?_; rintro e w' ⟨rfl, rfl⟩)
    go_ret2
    exact ⟨_, rfl, by rw [HE.out]; exact Own.nil _ _, Below.refl _ _⟩
  · obtain ⟨m, R, rfl, rfl, h1, h2, h3, h4⟩ := rows_nat h
    have HE := Lib.hid (stepsI_ok h)
    have H4 := Lib.hid (lt16s h2 h4)
    have hr1 := iRows (m : Int) A (zI R) ca w ht ha hl
    rw [zI_length] at hr1 ⊢
    have HT := Lib.hid ht
    have HA := Lib.hid ha
    clear h4 ht ha
    go_enter Tryd.func78, Tryd.ntmps78
    go_wp2_with (go_at_call 90; refine hr1.mono ?_; rintro e w' ⟨rfl, rfl⟩)
    refine (ladderOf_any A R ca _ HT.out HA.out h3 H4.out).mono ?_
    rintro e w1 ⟨L, rfl, hL, hb1⟩
    have HL := Lib.hid hL
    have HB1 := Lib.hid hb1
    clear hL hb1
    go_wp2_with fail
    refine (rowsOn_any L HL.out.lad.len _).mono ?_
    rintro e w2 ⟨v, rfl, ho2, hb2⟩
    have HO2 := Lib.hid (ho2.lower HB1.out.size)
    have HB2 := Lib.hid (below_more HB1.out hb2)
    obtain ⟨A2, c2, rfl, _⟩ := ho2.form
    clear ho2 hb2
    go_wp2_with fail
    go_ret2
    exact ⟨_, rfl, by rw [HE.out, ← HL.out.steps]; exact HO2.out, HB2.out⟩

theorem tupB {a b c : Bool} (h : a = b) : Ending.returned (.tuple #[.bool a, .bool c]) = .returned (.tuple #[.bool b, .bool c]) := by rw [h]
def rankI (x : Int) (zs : List Int) : Int := (stepsI x zs).length
set_option maxRecDepth 100000 in
set_option maxHeartbeats 1000000 in
theorem iRank_any (x : Int) (A : Option Addr) (zs : List Int) (ca : Nat) (w : World) (ht : Tab w) (ha : Ints w A zs) (hl : zs.length ≤ 1048576) :
    Calls Tryd.prog 47 #[.int .i64 x, .slice A zs.length ca] w fun e w' => e = .returned (.tuple #[.int .i64 (rankI x zs), .bool (rowsB x zs)]) ∧ Below w.heap.size w w' := by
  have HS := Lib.hid (iSteps_any x A zs ca w ht ha hl)
  clear ht ha
  go_enter Tryd.func47, Tryd.ntmps47
  go_wp2_with fail
  refine HS.out.mono ?_
  rintro e w2 ⟨v, rfl, ho2, hb2⟩
  have HB2 := Lib.hid hb2
  obtain ⟨A2, c2, rfl, _⟩ := ho2.form
  clear ho2 hb2
  go_wp2_with fail
  go_ret2
  exact ⟨rfl, HB2.out⟩

set_option maxRecDepth 100000 in
set_option maxHeartbeats 1000000 in
theorem sCan (A : Option Addr) (R : List Nat) (ca n : Nat) (w : World) (ha : Ints w A (zI R)) (hl : R.length ≤ 1048576) (hR : ∀ r ∈ R, r < 65536) (hn : n < 65536) :
    Calls Tryd.prog 100 #[.slice A R.length ca, .int .i64 n] w fun e w' => e = .returned (.bool (canB R n)) ∧ Below w.heap.size w w' := by
  have HS := Lib.hid (sSteps A R ca w ha hl hR)
  have HO : Hid (∀ s ∈ steps R, s ≠ 0 ∧ s < 65536) := fun s hs => ⟨(steps_rref _).1.ne s hs, steps_lt (w := 16) hR s hs⟩
  have hOl : (steps R).length ≤ 16 := rank_le_width (w := 16) hR
  have HC : Hid (canB R n = decide (red (steps R) n = 0)) := rfl
  clear ha hR
  generalize steps R = O at *
  go_enter Tryd.func100, Tryd.ntmps100
  go_wp2_with fail
  refine HS.out.mono ?_
  rintro e w2 ⟨v, rfl, ho2, hb2⟩
  have HB2 := Lib.hid hb2
  obtain ⟨A2, c2, rfl, hI2⟩ := ho2.form
  have HI2 := Lib.hid hI2
  rw [zI_length]
  clear ho2 hb2 hI2 HS
  go_wp2_with fail
  go_loopw [1, 10] (fun u i wx => ∃ (j ρ : Nat), j ≤ O.length ∧ i = .int .i64 j ∧ u = .int .i64 ρ ∧ ρ < 65536 ∧ red (O.drop j) ρ = red O n ∧ w2 = wx) (fun _ i _ => O.length - (intOf i).toNat)
  case atStart => exact ⟨0, n, by omega, rfl, rfl, hn, rfl, rfl⟩
  case round =>
    obtain ⟨j, ρ, hj, rfl, rfl, hρ, hred, rfl⟩ := hrel
    by_cases hlt2 : j < O.length
    · have hi2 : (j : Int) < (O.length : Int) := by omega
      obtain ⟨b3, o3, rfl, hc3⟩ := HI2.out.cellN hlt2
      obtain ⟨hs0, hs1⟩ := HO.out O[j] (List.getElem_mem hlt2)
      have HRed : Hid (red (O.drop (j + 1)) (if ρ.testBit (O[j]).log2 = true then ρ ^^^ O[j] else ρ) = red O n) := by rw [← hred]; exact (red_drop hlt2 ρ).symm
      clear hred
      generalize O[j] = s at *
      have hsl := log2_lt (w := 16) hs0 hs1
      have hx := xor_i64 ρ s (by omega) (by omega)
      cases hbit : ρ.testBit s.log2
      · have hb := (bit_shr (k := s.log2) hρ).trans hbit
        rw [hbit] at HRed
        clear hbit hx
        go_wp2_with (go_at_call 82; refine (sTop s _ hs0 hs1).mono ?_; rintro e w' ⟨rfl, rfl⟩)
        go_roundw
        case rel => exact ⟨j + 1, ρ, by omega, by go_num, rfl, hρ, HRed.out, by first | rfl | trivial⟩
        case measure => simp [intOf]; omega
      · have hb := (bit_shr (k := s.log2) hρ).trans hbit
        rw [hbit] at HRed
        clear hbit
        go_wp2_with (go_at_call 82; refine (sTop s _ hs0 hs1).mono ?_; rintro e w' ⟨rfl, rfl⟩)
        go_roundw
        case rel => exact ⟨j + 1, ρ ^^^ s, by omega, by go_num, rfl, Nat.xor_lt_two_pow (n := 16) hρ hs1, HRed.out, by first | rfl | trivial⟩
        case measure => simp [intOf]; omega
    · obtain rfl : j = O.length := by omega
      have HF : Hid (ρ = red O n) := by show _ = _; rw [← hred, List.drop_length]; rfl
      clear hred
      go_wp2_with fail
      go_ret
      refine ⟨ret_bool ?_, HB2.out⟩
      rw [HC.out, ← HF.out, Bool.eq_iff_iff, beq_iff_eq, decide_eq_true_eq]
      omega

theorem run_field_step (a b : Int) (w : World) : (Instr.field 93 (.agg #[.int .i64 a, .int .i64 b]) 0).run Tryd.prog w = .ok (.int .i64 a) w := by kernel_rfl
def twoOkB (x : Int) (zs : List Int) (y : Int) : Bool := rowsB x zs && goodB x y
theorem twoOk_true {x : Int} {zs : List Int} {y : Int} (h : twoOkB x zs y = true) : rowsB x zs = true ∧ goodB x y = true := by simpa [twoOkB] using h
theorem twoOk_false {x : Int} {zs : List Int} {y : Int} (h : twoOkB x zs y = false) : rowsB x zs = false ∨ (rowsB x zs = true ∧ goodB x y = false) := by
  cases ha : rowsB x zs
  · exact Or.inl rfl
  · exact Or.inr ⟨rfl, by simpa [twoOkB, ha] using h⟩
def canI (x : Int) (zs : List Int) (y : Int) : Bool := twoOkB x zs y && canB (nL zs) y.toNat

end Go.Proofs.YtdoogleggdlddaaDoor
