/-
  The program's chapter 4: sameBlock, and what slices.Equal and slices.EqualFunc answer.
-/
import Derived.Test.YthabkkboodhbmaaJ8
namespace Go.Proofs.Ythabkkboodhbmaa
open Go.RowKit

set_option maxRecDepth 100000 in
set_option maxHeartbeats 400000 in
theorem iEqual4 (A B : Option Addr) (za zb : List Int) (ca cb : Nat) (w : World) (ha : Ints w A za) (hb : Ints w B zb) (hl : za.length ≤ 140737488355328) :
    Calls Try.prog 67 #[.slice A za.length ca, .slice B zb.length cb] w fun e w' => e = .returned (.bool (eqL za zb)) ∧ ∃ n, w' = w.drewN n := by
  by_cases hlen : za.length = zb.length
  · have hneq : ((za.length : Int) != (zb.length : Int)) = false := by simp [hlen]
    have HL := Lib.hid hlen
    clear hlen
    go_enter Try.func67, Try.ntmps67
    go_wp2
    go_loopw [13] (fun i wr => ∃ k n : Nat, k ≤ za.length ∧ i = .int .i64 k ∧ za.take k = zb.take k ∧ wr = w.drewN n) (fun i _ => za.length - (intOf i).toNat)
    case atStart => exact ⟨0, 0, by omega, rfl, rfl, rfl⟩
    case round =>
      obtain ⟨k, n, hk, rfl, htk, rfl⟩ := hrel
      have HT := Lib.hid htk
      clear htk
      by_cases hlt : k < za.length
      · have hlt' : k < zb.length := by have := HL.out; omega
        obtain ⟨b1, o1, rfl, hc1⟩ := ha (by rintro rfl; simp at hlt)
        obtain ⟨b2, o2, rfl, hc2⟩ := hb (by rintro rfl; simp at hlt')
        have g1 := hc1 k hlt
        have g2 := hc2 k hlt'
        clear hc1 hc2 ha hb
        have hi1 : (k : Int) < (za.length : Int) := by omega
        have hi2 : (k : Int) < (zb.length : Int) := by omega
        go_wp2_with fail
        go_quiet (fail)
        go_wp2
        · have hne : (za[k] != zb[k]) = true := by assumption
          go_ret
          exact ⟨ret_bool' (eqL_at hlt hlt' hne).symm, n + nq, by simp⟩
        · have heq : (za[k] != zb[k]) = false := by assumption
          go_roundw
          case rel => exact ⟨k + 1, n + nq, by omega, by go_num, take_more hlt hlt' HT.out heq, rfl⟩
          case measure => simp [intOf]; omega
      · obtain rfl : k = za.length := by omega
        go_wp2
        go_ret
        exact ⟨ret_bool' (eqL_take HL.out HT.out).symm, _, rfl⟩
  · have hneq : ((za.length : Int) != (zb.length : Int)) = true := by simp; omega
    have HL := Lib.hid hlen
    clear hlen
    go_enter Try.func67, Try.ntmps67
    go_wp2
    go_ret
    exact ⟨ret_bool' (eqL_len HL.out).symm, 0, rfl⟩

set_option maxRecDepth 100000 in
set_option maxHeartbeats 1000000 in
theorem iSameBlock (x y : Int) (A B : Option Addr) (za zb : List Int) (ca cb : Nat) (w : World) (ha : Ints w A za) (hb : Ints w B zb) (hl : za.length ≤ 140737488355328) :
    Calls Try.prog 47 #[blkV x (.slice A za.length ca), blkV y (.slice B zb.length cb)] w fun e w' => e = .returned (.bool (decide (x = y) && eqL za zb)) ∧ Below w.heap.size w w' := by
  have HA := Lib.hid ha
  have HB := Lib.hid hb
  clear ha hb
  by_cases hxy : x = y
  · subst hxy
    have hx : (x == x) = true := by simp
    go_enter Try.func47, Try.ntmps47
    go_wp2_with fail
    refine (iEqual4 A B za zb ca cb _ (HA.out.jAlloc _ |>.jAlloc _) (HB.out.jAlloc _ |>.jAlloc _) hl).mono ?_
    rintro e w1 ⟨rfl, n1, rfl⟩
    go_wp2_with fail
    go_ret
    exact ⟨by simp, jMore (jAlloc2 _ _ _) (jDrewN n1)⟩
  · have hx : (x == y) = false := by simp [hxy]
    go_enter Try.func47, Try.ntmps47
    go_wp2_with fail
    go_ret
    exact ⟨by simp [hxy], jAlloc2 _ _ _⟩

theorem jAlloc1' (w : World) (o : Obj) : Below w.heap.size w (w.alloc o) := (Below.refl _ w).alloc (Nat.le_refl _) _
abbrev sameV : Value := .func (.func 47) #[] #[]
set_option maxRecDepth 100000 in
set_option maxHeartbeats 2000000 in
theorem iEqFunc (A B : Option Addr) (bs cs : List (Int × List Int)) (ca cb : Nat) (w : World) (ha : Blks w A bs) (hb : Blks w B cs) (hl : bs.length ≤ 1048576) (hz : ∀ p ∈ bs, p.2.length ≤ 1048576) :
    Calls Try.prog 46 #[.slice A bs.length ca, .slice B cs.length cb, sameV] w fun e w' => e = .returned (.bool (eqBs bs cs)) ∧ Below w.heap.size w w' := by
  have HA := Lib.hid ha
  have HB := Lib.hid hb
  have HZ := Lib.hid hz
  clear ha hb hz
  by_cases hlen : bs.length = cs.length
  · have hne : ((bs.length : Int) != (cs.length : Int)) = false := by rw [hlen]; simp
    have HLen := Lib.hid hlen
    clear hlen
    go_enter Try.func46, Try.ntmps46
    go_wp2_with fail
    go_loopg [17] bs.length (fun gk i wr => ∃ k : Nat, k + gk = bs.length ∧ i = .int .i64 k ∧ bs.take k = cs.take k ∧ Below w.heap.size w wr)
    case atStart => exact ⟨0, by omega, rfl, rfl, Below.refl _ _⟩
    case round =>
      obtain ⟨k, hg, rfl, heq, hbel⟩ := hrel
      have HEq := Lib.hid heq
      have HBl := Lib.hid hbel
      clear heq hbel
      by_cases hlt : k < bs.length
      · have hki : (k : Int) < (bs.length : Int) := by omega
        have hlt2 : k < cs.length := by have := HLen.out; omega
        have hki2 : (k : Int) < (cs.length : Int) := by omega
        obtain ⟨b1, o1, rfl, hc1⟩ := (HA.out.below HBl.out) (by rintro rfl; simp at hlt)
        obtain ⟨b2, o2, rfl, hc2⟩ := (HB.out.below HBl.out) (by rintro rfl; simp at hlt2)
        obtain ⟨p1, A1, c1, p2, p3⟩ := hc1 k hlt
        obtain ⟨q1, A2, c2, q2, q3⟩ := hc2 k hlt2
        have HP3 := Lib.hid p3
        have HQ3 := Lib.hid q3
        have hzl := HZ.out bs[k] (List.getElem_mem hlt)
        have HNo := Lib.hid (fun h => eqBs_at (k := k) hlt hlt2 h)
        have HYes := Lib.hid (fun h => eqBs_take (k := k) hlt hlt2 HEq.out h)
        have HGK : Hid (bs.length - k - 1 < gk ∧ k + 1 + (bs.length - k - 1) = bs.length) := by show _ ∧ _; omega
        clear hc1 hc2 p3 q3 hg
        generalize bs[k] = p at *
        generalize cs[k] = q at *
        have r1 := ((jAlloc1' wr (.cells #[.int .i64 p.1, .slice A1 p.2.length c1] 34)).cell (World.block_lt_of_cell? _ _ q1)).trans q1
        have r2 := ((jAlloc1' wr (.cells #[.int .i64 p.1, .slice A1 p.2.length c1] 34)).cell (World.block_lt_of_cell? _ _ q2)).trans q2
        have HF := Lib.hid (iSameBlock p.1 q.1 A1 A2 p.2 q.2 c1 c2 _ ((HP3.out.jAlloc (.cells #[.int .i64 p.1, .slice A1 p.2.length c1] 34)).jAlloc (.cells #[.int .i64 q.1, .slice A2 q.2.length c2] 34)) ((HQ3.out.jAlloc (.cells #[.int .i64 p.1, .slice A1 p.2.length c1] 34)).jAlloc (.cells #[.int .i64 q.1, .slice A2 q.2.length c2] 34)) (by omega))
        have HB2 := Lib.hid (jMore HBl.out (jAlloc2 wr (.cells #[.int .i64 p.1, .slice A1 p.2.length c1] 34) (.cells #[.int .i64 q.1, .slice A2 q.2.length c2] 34)))
        go_wp2_with fail
        refine HF.out.mono ?_
        rintro e w3 ⟨rfl, hb3⟩
        have HB3 := Lib.hid (jMore HB2.out hb3)
        clear hb3 HB2 HF p1 p2 q1 q2 r1 r2
        cases hpq : (decide (p.1 = q.1) && eqL p.2 q.2)
        · have HN := Lib.hid (HNo.out hpq)
          go_wp2_with fail
          go_ret
          exact ⟨ret_bool' HN.out.symm, HB3.out⟩
        · have HN := Lib.hid (HYes.out hpq)
          go_wp2_with fail
          go_roundg (bs.length - k - 1)
          case measure => exact HGK.out.1
          case rel => exact ⟨k + 1, HGK.out.2, by go_num, HN.out, HB3.out⟩
      · obtain rfl : k = bs.length := by omega
        have hki : ¬ (bs.length : Int) < (bs.length : Int) := by omega
        go_wp2_with fail
        go_ret
        exact ⟨ret_bool' (eqBs_all HLen.out HEq.out).symm, HBl.out⟩
  · have hne : ((bs.length : Int) != (cs.length : Int)) = true := by simp; omega
    have HE := Lib.hid (eqBs_len hlen)
    go_enter Try.func46, Try.ntmps46
    go_wp2_with fail
    go_ret
    exact ⟨ret_bool' HE.out.symm, Below.refl _ _⟩
end Go.Proofs.Ythabkkboodhbmaa
