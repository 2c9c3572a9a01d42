/-
  The model of chapter 4: CutThing, l4Same, GlueThing.
-/
import Derived.Test.YthabkkboodhbmaaJ7
namespace Go.Proofs.Ythabkkboodhbmaa
open Go.RowKit

def cutTI (s : ByteArray) : List (Int × List Int) := if thingB s = true then cutI (bsL s) else []
set_option maxRecDepth 100000 in
set_option maxHeartbeats 400000 in
theorem sCutThing_any (s : ByteArray) (w : World) :
    Calls Try.prog 14 #[.string s] w fun e w' => ∃ v L, e = .returned (.tuple #[v, .bool (thingB s)]) ∧ OwnB w' w.heap.size v L ∧ blks L = cutTI s ∧ Below w.heap.size w w' := by
  by_cases h : s.size ≤ 96
  · have hb : thingB s = true := by simpa [thingB] using h
    have HE : Hid (cutTI s = cutI (bsL s)) := by show _ = _; rw [cutTI, if_pos hb]
    have hi : ¬ (96 : Int) < (s.size : Int) := by omega
    rw [hb]
    go_enter Try.func14, Try.ntmps14
    go_wp2_with fail
    refine (sCut s w h).mono ?_
    rintro e w1 ⟨v1, L, rfl, ho1, hbl, hb1⟩
    have HO := Lib.hid ho1
    have HL := Lib.hid hbl
    obtain ⟨A1, c1, rfl, _⟩ := ho1.form
    clear ho1 hbl
    go_wp2_with fail
    go_ret2
    first
      | exact ⟨_, L, rfl, HO.out, by rw [HE.out]; exact HL.out, hb1⟩
      | exact ⟨_, rfl, L, HO.out, by rw [HE.out]; exact HL.out, hb1⟩
  · have hb : thingB s = false := by simpa [thingB] using h
    have HE : Hid (cutTI s = []) := by show _ = _; rw [cutTI, hb]; rfl
    have hi : (96 : Int) < (s.size : Int) := by omega
    rw [hb]
    go_enter Try.func14, Try.ntmps14
    go_wp2_with fail
    go_ret2
    first
      | exact ⟨_, [], rfl, OwnB.nil _ _, HE.out.symm, Below.refl _ _⟩
      | exact ⟨_, rfl, [], OwnB.nil _ _, HE.out.symm, Below.refl _ _⟩

set_option maxRecDepth 100000 in
set_option maxHeartbeats 400000 in
theorem jSame (A B : Option Addr) (za zb : List Int) (ca cb : Nat) (w : World) (ha : Ints w A za) (hb : Ints w B zb) (hl : za.length ≤ 140737488355328) :
    Calls Try.prog 69 #[.slice A za.length ca, .slice B zb.length cb] w fun e w' => e = .returned (.bool (eqL za zb)) ∧ ∃ n, w' = w.drewN n := by
  by_cases hlen : za.length = zb.length
  · have hneq : ((za.length : Int) != (zb.length : Int)) = false := by simp [hlen]
    have HL := Lib.hid hlen
    clear hlen
    go_enter Try.func69, Try.ntmps69
    go_wp2
    go_loopw [13] (fun i wr => ∃ k n : Nat, k ≤ za.length ∧ i = .int .i64 k ∧ za.take k = zb.take k ∧ wr = w.drewN n) (fun i _ => za.length - (intOf i).toNat)
    case atStart => exact ⟨0, 0, by omega, rfl, rfl, rfl⟩
    case round =>
      obtain ⟨k, n, hk, rfl, htk, rfl⟩ := hrel
      have HT := Lib.hid htk
      clear htk
      by_cases hlt : k < za.length
      · have hlt' : k < zb.length := by have := HL.out; omega
        obtain ⟨b1, o1, rfl, hc1⟩ := ha (by rintro rfl; simp at hlt)
        obtain ⟨b2, o2, rfl, hc2⟩ := hb (by rintro rfl; simp at hlt')
        have g1 := hc1 k hlt
        have g2 := hc2 k hlt'
        clear hc1 hc2 ha hb
        have hi1 : (k : Int) < (za.length : Int) := by omega
        have hi2 : (k : Int) < (zb.length : Int) := by omega
        go_wp2_with fail
        go_quiet (fail)
        go_wp2
        · have hne : (za[k] != zb[k]) = true := by assumption
          go_ret
          exact ⟨ret_bool' (eqL_at hlt hlt' hne).symm, n + nq, by simp⟩
        · have heq : (za[k] != zb[k]) = false := by assumption
          go_roundw
          case rel => exact ⟨k + 1, n + nq, by omega, by go_num, take_more hlt hlt' HT.out heq, rfl⟩
          case measure => simp [intOf]; omega
      · obtain rfl : k = za.length := by omega
        go_wp2
        go_ret
        exact ⟨ret_bool' (eqL_take HL.out HT.out).symm, _, rfl⟩
  · have hneq : ((za.length : Int) != (zb.length : Int)) = true := by simp; omega
    have HL := Lib.hid hlen
    clear hlen
    go_enter Try.func69, Try.ntmps69
    go_wp2
    go_ret
    exact ⟨ret_bool' (eqL_len HL.out).symm, 0, rfl⟩

set_option maxRecDepth 100000 in
set_option maxHeartbeats 2000000 in
theorem sSameB_any (A B : Option Addr) (bs cs : List (Int × List Int)) (ca cb : Nat) (w : World) (ha : Blks w A bs) (hb : Blks w B cs) (hl : bs.length ≤ 1048576) (hz : ∀ p ∈ bs, p.2.length ≤ 1048576) :
    Calls Try.prog 54 #[.slice A bs.length ca, .slice B cs.length cb] w fun e w' => e = .returned (.bool (eqBs bs cs)) ∧ Below w.heap.size w w' := by
  have HA := Lib.hid ha
  have HB := Lib.hid hb
  have HZ := Lib.hid hz
  clear ha hb hz
  by_cases hlen : bs.length = cs.length
  · have hne : ((bs.length : Int) != (cs.length : Int)) = false := by rw [hlen]; simp
    have HLen := Lib.hid hlen
    clear hlen
    go_enter Try.func54, Try.ntmps54
    go_wp2_with fail
    go_loopg [13] bs.length (fun gk i wr => ∃ k : Nat, k + gk = bs.length ∧ i = .int .i64 k ∧ bs.take k = cs.take k ∧ Below w.heap.size w wr)
    case atStart => exact ⟨0, by omega, rfl, rfl, Below.refl _ _⟩
    case round =>
      obtain ⟨k, hg, rfl, heq, hbel⟩ := hrel
      have HEq := Lib.hid heq
      have HBl := Lib.hid hbel
      clear heq hbel
      by_cases hlt : k < bs.length
      · have hki : (k : Int) < (bs.length : Int) := by omega
        have hlt2 : k < cs.length := by have := HLen.out; omega
        have hki2 : (k : Int) < (cs.length : Int) := by omega
        obtain ⟨b1, o1, rfl, hc1⟩ := (HA.out.below HBl.out) (by rintro rfl; simp at hlt)
        obtain ⟨b2, o2, rfl, hc2⟩ := (HB.out.below HBl.out) (by rintro rfl; simp at hlt2)
        obtain ⟨p1, A1, c1, p2, p3⟩ := hc1 k hlt
        obtain ⟨q1, A2, c2, q2, q3⟩ := hc2 k hlt2
        have HP3 := Lib.hid p3
        have HQ3 := Lib.hid q3
        have hzl := HZ.out bs[k] (List.getElem_mem hlt)
        have HNo := Lib.hid (fun h => eqBs_at (k := k) hlt hlt2 h)
        have HYes := Lib.hid (fun h => eqBs_take (k := k) hlt hlt2 HEq.out h)
        have HGK : Hid (bs.length - k - 1 < gk ∧ k + 1 + (bs.length - k - 1) = bs.length) := by show _ ∧ _; omega
        clear hc1 hc2 p3 q3 hg
        generalize bs[k] = p at *
        generalize cs[k] = q at *
        by_cases hx : p.1 = q.1
        · have hxb : (p.1 != q.1) = false := by simp [hx]
          have HDx := Lib.hid hx
          clear hx
          cases hpq : eqL p.2 q.2
          · have HN := Lib.hid (HNo.out (by rw [hpq]; simp))
            go_wp2_with fail
            go_region_held3 (fun w' => w'.cell? ⟨b1, o1 + k * 2, none⟩ = some (.int .i64 p.1) ∧ w'.cell? ⟨b1, o1 + k * 2 + 1, none⟩ = some (.slice A1 p.2.length c1) ∧ w'.cell? ⟨b2, o2 + k * 2, none⟩ = some (.int .i64 q.1) ∧ w'.cell? ⟨b2, o2 + k * 2 + 1, none⟩ = some (.slice A2 q.2.length c2))
              (first | exact ⟨p1, p2, q1, q2⟩ | go_keep) (first
              | (go_at_call 69; refine (jSame A1 A2 p.2 q.2 c1 c2 _ (HP3.out.below jDrew) (HQ3.out.below jDrew) (by omega)).mono ?_; rintro e w7 ⟨rfl, n7, rfl⟩))
            all_goals
              go_wp2_with fail
              go_ret
              exact ⟨ret_bool' HN.out.symm, jMore HBl.out (jDrewN (1 + n7))⟩
          · have HN := Lib.hid (HYes.out (by rw [hpq, HDx.out]; simp))
            go_wp2_with fail
            go_region_held3 (fun w' => w'.cell? ⟨b1, o1 + k * 2, none⟩ = some (.int .i64 p.1) ∧ w'.cell? ⟨b1, o1 + k * 2 + 1, none⟩ = some (.slice A1 p.2.length c1) ∧ w'.cell? ⟨b2, o2 + k * 2, none⟩ = some (.int .i64 q.1) ∧ w'.cell? ⟨b2, o2 + k * 2 + 1, none⟩ = some (.slice A2 q.2.length c2))
              (first | exact ⟨p1, p2, q1, q2⟩ | go_keep) (first
              | (go_at_call 69; refine (jSame A1 A2 p.2 q.2 c1 c2 _ (HP3.out.below jDrew) (HQ3.out.below jDrew) (by omega)).mono ?_; rintro e w7 ⟨rfl, n7, rfl⟩))
            all_goals
              have HB7 := Lib.hid (jMore HBl.out (jDrewN (1 + n7)))
              go_wp2_with fail
              go_roundg (bs.length - k - 1)
              case measure => exact HGK.out.1
              case rel => exact ⟨k + 1, HGK.out.2, by go_num, HN.out, HB7.out⟩
        · have hxb : (p.1 != q.1) = true := by simp [hx]
          have HN := Lib.hid (HNo.out (by simp [hx]))
          clear hx
          go_wp2_with fail
          go_quiet (fail)
          go_wp2_with fail
          go_ret
          exact ⟨ret_bool' HN.out.symm, jMore HBl.out (jDrewN _)⟩
      · obtain rfl : k = bs.length := by omega
        have hki : ¬ (bs.length : Int) < (bs.length : Int) := by omega
        go_wp2_with fail
        go_ret
        exact ⟨ret_bool' (eqBs_all HLen.out HEq.out).symm, HBl.out⟩
  · have hne : ((bs.length : Int) != (cs.length : Int)) = true := by simp; omega
    have HE := Lib.hid (eqBs_len hlen)
    go_enter Try.func54, Try.ntmps54
    go_wp2_with fail
    go_ret
    exact ⟨ret_bool' HE.out.symm, Below.refl _ _⟩
end Go.Proofs.Ythabkkboodhbmaa
