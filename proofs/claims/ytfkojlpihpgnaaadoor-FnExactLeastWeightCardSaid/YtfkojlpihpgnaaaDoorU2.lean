/-
  What SameSpan answers, in the program's text and in the model's, at every argument.
-/
import Derived.Test.YtfkojlpihpgnaaaDoorU1
namespace Go.Proofs.YtfkojlpihpgnaaaDoor
open Go.RowKit

set_option maxRecDepth 100000 in
set_option maxHeartbeats 400000 in
theorem iEqual (A B : Option Addr) (za zb : List Int) (ca cb : Nat) (w : World) (ha : Ints w A za) (hb : Ints w B zb) (hl : za.length ≤ 140737488355328) :
    Calls Tryd.prog 87 #[.slice A za.length ca, .slice B zb.length cb] w fun e w' => e = .returned (.bool (eqL za zb)) ∧ ∃ n, w' = w.drewN n := by
  by_cases hlen : za.length = zb.length
  · have hneq : ((za.length : Int) != (zb.length : Int)) = false := by simp [hlen]
    have HL := Lib.hid hlen
    clear hlen
    go_enter Tryd.func87, Tryd.ntmps87
    go_wp2
    go_loopw [13] (fun i wr => ∃ k n : Nat, k ≤ za.length ∧ i = .int .i64 k ∧ za.take k = zb.take k ∧ wr = w.drewN n) (fun i _ => za.length - (intOf i).toNat)
    case atStart => exact ⟨0, 0, by omega, rfl, rfl, rfl⟩
    case round =>
      obtain ⟨k, n, hk, rfl, htk, rfl⟩ := hrel
      have HT := Lib.hid htk
      clear htk
      by_cases hlt : k < za.length
      · have hlt' : k < zb.length := by have := HL.out; omega
        obtain ⟨b1, o1, rfl, hc1⟩ := ha (by rintro rfl; simp at hlt)
        obtain ⟨b2, o2, rfl, hc2⟩ := hb (by rintro rfl; simp at hlt')
        have g1 := hc1 k hlt
        have g2 := hc2 k hlt'
        clear hc1 hc2 ha hb
        have hi1 : (k : Int) < (za.length : Int) := by omega
        have hi2 : (k : Int) < (zb.length : Int) := by omega
        go_wp2_with fail
        go_quiet (fail)
        go_wp2
        · have hne : (za[k] != zb[k]) = true := by assumption
          go_ret
          exact ⟨ret_bool' (eqL_at hlt hlt' hne).symm, n + nq, by simp⟩
        · have heq : (za[k] != zb[k]) = false := by assumption
          go_roundw
          case rel => exact ⟨k + 1, n + nq, by omega, by go_num, take_more hlt hlt' HT.out heq, rfl⟩
          case measure => simp [intOf]; omega
      · obtain rfl : k = za.length := by omega
        go_wp2
        go_ret
        exact ⟨ret_bool' (eqL_take HL.out HT.out).symm, _, rfl⟩
  · have hneq : ((za.length : Int) != (zb.length : Int)) = true := by simp; omega
    have HL := Lib.hid hlen
    clear hlen
    go_enter Tryd.func87, Tryd.ntmps87
    go_wp2
    go_ret
    exact ⟨ret_bool' (eqL_len HL.out).symm, 0, rfl⟩

def sameOkB (x : Int) (a b : List Int) : Bool := rowsB x a && rowsB x b
def sameI (x : Int) (a b : List Int) : Bool := sameOkB x a b && eqL (stepsI x a) (stepsI x b)
theorem sameOk_false {x : Int} {a b : List Int} (h : sameOkB x a b = false) : rowsB x a = false ∨ (rowsB x a = true ∧ rowsB x b = false) := by
  cases ha : rowsB x a
  · exact Or.inl rfl
  · exact Or.inr ⟨rfl, by simpa [sameOkB, ha] using h⟩
theorem sameOk_true {x : Int} {a b : List Int} (h : sameOkB x a b = true) : rowsB x a = true ∧ rowsB x b = true := by simpa [sameOkB] using h

set_option maxRecDepth 100000 in
set_option maxHeartbeats 1000000 in
theorem iSame_any (x : Int) (A B : Option Addr) (za zb : List Int) (ca cb : Nat) (w : World) (ht : Tab w) (ha : Ints w A za) (hb : Ints w B zb) (hl : za.length ≤ 1048576) (hl2 : zb.length ≤ 1048576) :
    Calls Tryd.prog 40 #[.int .i64 x, .slice A za.length ca, .slice B zb.length cb] w fun e w' => e = .returned (.tuple #[.bool (sameI x za zb), .bool (sameOkB x za zb)]) ∧ Below w.heap.size w w' := by
  cases h : sameOkB x za zb
  · have HE : Hid (sameI x za zb = false) := by show _ = _; rw [sameI, h]; rfl
    rcases sameOk_false h with h1 | ⟨h1, h2⟩
    · clear h
      go_enter Tryd.func40, Tryd.ntmps40
      go_wp2_with (go_at_call 61; refine (iRows _ _ _ _ _ ht ha hl).mono ?_; rintro e w' ⟨rfl, rfl⟩)
      go_ret2
      exact ⟨tupB HE.out.symm, Below.refl _ _⟩
    · clear h
      go_enter Tryd.func40, Tryd.ntmps40
      go_wp2_with fail
      refine (iRows _ _ _ _ _ ht ha hl).mono ?_
      rintro e w' ⟨rfl, rfl⟩
      go_wp2_with fail
      refine (iRows _ _ _ _ _ ht hb hl2).mono ?_
      rintro e w' ⟨rfl, rfl⟩
      go_wp2_with fail
      go_ret2
      exact ⟨tupB HE.out.symm, Below.refl _ _⟩
  · obtain ⟨h1, h2⟩ := sameOk_true h
    have HE : Hid (sameI x za zb = eqL (stepsI x za) (stepsI x zb)) := by show _ = _; rw [sameI, h]; rfl
    have hr1 := Lib.hid (iRows x A za ca w ht ha hl)
    have hr2 := Lib.hid (iRows x B zb cb w ht hb hl2)
    have HT := Lib.hid ht
    obtain ⟨m, R, rfl, rfl, h3, h4, h5, h6⟩ := rows_nat h1
    obtain ⟨m', R', e1, rfl, _, h8, h9, h10⟩ := rows_nat h2
    obtain rfl : m = m' := by omega
    rw [stepsI_ok h1, stepsI_ok h2] at HE
    have HL1 := Lib.hid (fun w' (hb' : Below w.heap.size w w') => ladderOf_any A R ca w' (ht.below hb') (ha.below hb') h5 (lt16s h4 h6))
    have HL2 := Lib.hid (fun w' (hb' : Below w.heap.size w w') => ladderOf_any B R' cb w' (ht.below hb') (hb.below hb') h9 (lt16s h8 h10))
    have hln := zI_length R
    have hln2 := zI_length R'
    rw [hln] at hr1 ⊢
    rw [hln2] at hr2 ⊢
    have hs16 : (zI (steps R)).length ≤ 16 := by rw [zI_length]; exact rank_le_width (w := 16) (lt16s h4 h6)
    clear h6 ha hb h h10 ht hln hln2
    go_enter Tryd.func40, Tryd.ntmps40
    go_wp2_with fail
    refine hr1.out.mono ?_
    rintro e w' ⟨rfl, rfl⟩
    go_wp2_with fail
    refine hr2.out.mono ?_
    rintro e w' ⟨rfl, rfl⟩
    clear hr1 hr2
    go_wp2_with fail
    refine (HL1.out _ (Below.refl _ _)).mono ?_
    rintro e w1 ⟨L, rfl, hL, hb1⟩
    have HLR := Lib.hid hL
    have HB1 := Lib.hid hb1
    clear hL hb1
    go_wp2_with fail
    refine (rowsOn_any L HLR.out.lad.len _).mono ?_
    rintro e w2 ⟨v2, rfl, ho2, hb2⟩
    have HB2 := Lib.hid (below_more HB1.out hb2)
    obtain ⟨A2, c2, rfl, hI2⟩ := ho2.form
    have HI2 := Lib.hid hI2
    clear ho2 hb2 hI2 HB1
    go_wp2_with fail
    refine (HL2.out _ HB2.out).mono ?_
    rintro e w3 ⟨L', rfl, hL', hb3⟩
    have HLR' := Lib.hid hL'
    have HB3 := Lib.hid (below_more HB2.out hb3)
    have HI3 := Lib.hid (HI2.out.below hb3)
    clear hL' hb3 HB2 HI2
    go_wp2_with fail
    refine (rowsOn_any L' HLR'.out.lad.len _).mono ?_
    rintro e w4 ⟨v4, rfl, ho4, hb4⟩
    have HB4 := Lib.hid (below_more HB3.out hb4)
    obtain ⟨A4, c4, rfl, hI4⟩ := ho4.form
    have HI4 := Lib.hid hI4
    have HI2 := Lib.hid (HI3.out.below hb4)
    clear ho4 hb4 hI4 HB3 HI3
    have HS := Lib.hid HLR.out.steps
    have HS' := Lib.hid HLR'.out.steps
    go_wp2_with fail
    refine (iEqual A2 A4 _ _ c2 c4 _ HI2.out HI4.out (by rw [HS.out]; omega)).mono ?_
    rintro e w5 ⟨rfl, n5, rfl⟩
    go_wp2_with fail
    go_ret2
    exact ⟨tupB (by rw [HE.out, HS.out, HS'.out]), below_drewN HB4.out _⟩

end Go.Proofs.YtfkojlpihpgnaaaDoor
