/-
  The laws' sameBlocks; the draws of chapter 4: things.
-/
import Derived.Test.YthabkkboodhbmaaJ9
namespace Go.Proofs.Ythabkkboodhbmaa
open Go.RowKit

set_option maxRecDepth 100000 in
set_option maxHeartbeats 2000000 in
theorem sameBlocks_any (A B : Option Addr) (bs cs : List (Int × List Int)) (ca cb : Nat) (w : World) (ha : Blks w A bs) (hb : Blks w B cs) (hl : bs.length ≤ 1048576) (hz : ∀ p ∈ bs, p.2.length ≤ 1048576) :
    Calls Try.prog 15 #[.slice A bs.length ca, .slice B cs.length cb] w fun e w' => e = .returned (.bool (eqBs bs cs)) ∧ Below w.heap.size w w' := by
  have HA := Lib.hid ha
  have HB := Lib.hid hb
  have HZ := Lib.hid hz
  clear ha hb hz
  by_cases hlen : bs.length = cs.length
  · have hne : ((bs.length : Int) != (cs.length : Int)) = false := by rw [hlen]; simp
    have HLen := Lib.hid hlen
    clear hlen
    go_enter Try.func15, Try.ntmps15
    go_wp2_with fail
    go_loopg [13] bs.length (fun gk i wr => ∃ k : Nat, k + gk = bs.length ∧ i = .int .i64 k ∧ bs.take k = cs.take k ∧ Below w.heap.size w wr)
    case atStart => exact ⟨0, by omega, rfl, rfl, Below.refl _ _⟩
    case round =>
      obtain ⟨k, hg, rfl, heq, hbel⟩ := hrel
      have HEq := Lib.hid heq
      have HBl := Lib.hid hbel
      clear heq hbel
      by_cases hlt : k < bs.length
      · have hki : (k : Int) < (bs.length : Int) := by omega
        have hlt2 : k < cs.length := by have := HLen.out; omega
        have hki2 : (k : Int) < (cs.length : Int) := by omega
        obtain ⟨b1, o1, rfl, hc1⟩ := (HA.out.below HBl.out) (by rintro rfl; simp at hlt)
        obtain ⟨b2, o2, rfl, hc2⟩ := (HB.out.below HBl.out) (by rintro rfl; simp at hlt2)
        obtain ⟨p1, A1, c1, p2, p3⟩ := hc1 k hlt
        obtain ⟨q1, A2, c2, q2, q3⟩ := hc2 k hlt2
        have HP3 := Lib.hid p3
        have HQ3 := Lib.hid q3
        have hzl := HZ.out bs[k] (List.getElem_mem hlt)
        have HNo := Lib.hid (fun h => eqBs_at (k := k) hlt hlt2 h)
        have HYes := Lib.hid (fun h => eqBs_take (k := k) hlt hlt2 HEq.out h)
        have HGK : Hid (bs.length - k - 1 < gk ∧ k + 1 + (bs.length - k - 1) = bs.length) := by show _ ∧ _; omega
        clear hc1 hc2 p3 q3 hg
        generalize bs[k] = p at *
        generalize cs[k] = q at *
        by_cases hx : p.1 = q.1
        · have hxb : (p.1 != q.1) = false := by simp [hx]
          have HDx := Lib.hid hx
          clear hx
          cases hpq : eqL p.2 q.2
          · have HN := Lib.hid (HNo.out (by rw [hpq]; simp))
            go_wp2_with fail
            go_region_held3 (fun w' => w'.cell? ⟨b1, o1 + k * 2, none⟩ = some (.int .i64 p.1) ∧ w'.cell? ⟨b1, o1 + k * 2 + 1, none⟩ = some (.slice A1 p.2.length c1) ∧ w'.cell? ⟨b2, o2 + k * 2, none⟩ = some (.int .i64 q.1) ∧ w'.cell? ⟨b2, o2 + k * 2 + 1, none⟩ = some (.slice A2 q.2.length c2))
              (first | exact ⟨p1, p2, q1, q2⟩ | go_keep) (first
              | (go_at_call 25; refine (sameInts_any A1 A2 p.2 q.2 c1 c2 _ (HP3.out.below jDrew) (HQ3.out.below jDrew) (by omega)).mono ?_; rintro e w7 ⟨rfl, n7, rfl⟩))
            all_goals
              go_wp2_with fail
              go_ret
              exact ⟨ret_bool' HN.out.symm, jMore HBl.out (jDrewN (1 + n7))⟩
          · have HN := Lib.hid (HYes.out (by rw [hpq, HDx.out]; simp))
            go_wp2_with fail
            go_region_held3 (fun w' => w'.cell? ⟨b1, o1 + k * 2, none⟩ = some (.int .i64 p.1) ∧ w'.cell? ⟨b1, o1 + k * 2 + 1, none⟩ = some (.slice A1 p.2.length c1) ∧ w'.cell? ⟨b2, o2 + k * 2, none⟩ = some (.int .i64 q.1) ∧ w'.cell? ⟨b2, o2 + k * 2 + 1, none⟩ = some (.slice A2 q.2.length c2))
              (first | exact ⟨p1, p2, q1, q2⟩ | go_keep) (first
              | (go_at_call 25; refine (sameInts_any A1 A2 p.2 q.2 c1 c2 _ (HP3.out.below jDrew) (HQ3.out.below jDrew) (by omega)).mono ?_; rintro e w7 ⟨rfl, n7, rfl⟩))
            all_goals
              have HB7 := Lib.hid (jMore HBl.out (jDrewN (1 + n7)))
              go_wp2_with fail
              go_roundg (bs.length - k - 1)
              case measure => exact HGK.out.1
              case rel => exact ⟨k + 1, HGK.out.2, by go_num, HN.out, HB7.out⟩
        · have hxb : (p.1 != q.1) = true := by simp [hx]
          have HN := Lib.hid (HNo.out (by simp [hx]))
          clear hx
          go_wp2_with fail
          go_quiet (fail)
          go_wp2_with fail
          go_ret
          exact ⟨ret_bool' HN.out.symm, jMore HBl.out (jDrewN _)⟩
      · obtain rfl : k = bs.length := by omega
        have hki : ¬ (bs.length : Int) < (bs.length : Int) := by omega
        go_wp2_with fail
        go_ret
        exact ⟨ret_bool' (eqBs_all HLen.out HEq.out).symm, HBl.out⟩
  · have hne : ((bs.length : Int) != (cs.length : Int)) = true := by simp; omega
    have HE := Lib.hid (eqBs_len hlen)
    go_enter Try.func15, Try.ntmps15
    go_wp2_with fail
    go_ret
    exact ⟨ret_bool' HE.out.symm, Below.refl _ _⟩

/-- What a draw of a thing leaves. -/
def Thinged (B k : Nat) (w : World) (e : Ending) (w' : World) : Prop := ∃ s : ByteArray, e = .returned (.string s) ∧ s.size ≤ 97 ∧ Cur w' B k ∧ w.grownBy w' (some B)

set_option maxRecDepth 100000 in
set_option maxHeartbeats 1000000 in
theorem thing_any (B k : Nat) (w : World) (hcur : Cur w B k) (hk : k ≤ 68719476736) :
    Calls Try.prog 51 #[.pointer (some ⟨B, 0, none⟩)] w (Thinged B (k + 300) w) := by
  have hB := hcur.lt
  have HC := Lib.hid hcur
  clear hcur
  go_enter Try.func51, Try.ntmps51
  go_wp2_with fail
  refine (among_any B k w.heap.size 0 10 [0, 1, 4, 5, 12, 32, 33, 50, 96, 97] _ (HC.out.grown (World.grownBy_alloc w _ none) (fun g e => by cases e)) (by omega) (by omega) (by decide) (by decide) (lit_cells w [0, 1, 4, 5, 12, 32, 33, 50, 96, 97] 3)).mono ?_
  rintro e w1 ⟨n, rfl, hn, hc1, hg1⟩
  obtain ⟨n, rfl, hn97⟩ : ∃ t : Nat, n = t ∧ t ≤ 97 := ⟨n.toNat, by simp at hn; omega, by simp at hn; omega⟩
  have HC1 := Lib.hid hc1
  have HG1 := Lib.hid (grownBy_trans (World.grownBy_alloc w (.cells #[.int .i64 0, .int .i64 1, .int .i64 4, .int .i64 5, .int .i64 12, .int .i64 32, .int .i64 33, .int .i64 50, .int .i64 96, .int .i64 97] 3) (some B)) hg1)
  clear hc1 hg1 HC hn
  go_wp2_with fail
  go_loopg [3, 5] n (fun gk t i wr => ∃ (j : Nat) (S : List Nat), j + gk = n ∧ i = .int .i64 j ∧ t = .string (strN S) ∧ S.length = j ∧ Cur wr B (k + 2 + 2 * j) ∧ w.grownBy wr (some B))
  case atStart => exact ⟨0, [], by omega, rfl, rfl, rfl, HC1.out, HG1.out⟩
  case round =>
    obtain ⟨j, S, hg, rfl, rfl, hS, hc, hgr⟩ := hrel
    have HCj := Lib.hid hc
    have HGj := Lib.hid hgr
    clear hc hgr
    by_cases hlt : j < n
    · have hji : (j : Int) < (n : Int) := by omega
      have HGK : Hid (n - j - 1 < gk ∧ j + 1 + (n - j - 1) = n) := by show _ ∧ _; omega
      have HS := Lib.hid hS
      have ha1 : ((strN S).size : Int) ≤ 8388608 := by rw [strN_size]; omega
      clear hg hS
      go_wp2_with fail
      refine (pick_any B (k + 2 + 2 * j) 200 _ HCj.out (by omega) (by omega)).mono ?_
      rintro e w2 ⟨r, rfl, ⟨hr0, hr1⟩, hc2, hg2⟩
      have hr2 : r < 200 := by omega
      obtain ⟨r, rfl⟩ := Int.eq_ofNat_of_zero_le hr0
      have HC2 := Lib.hid (hc2.grown (World.grownBy_alloc w2 (.cells #[.int .u8 (r : Int)] 5) none) (fun g e => by cases e))
      have HG2 := Lib.hid (grownBy_trans (grownBy_trans HGj.out hg2) (World.grownBy_alloc w2 (.cells #[.int .u8 (r : Int)] 5) (some B)))
      have hcv := conv_bytes (w := w2.alloc (.cells #[.int .u8 (r : Int)] 5)) (g := w2.heap.size) (cap := 1) (long := 1) (T := [r]) (fun i hi => by
        obtain rfl : i = 0 := by simp at hi; omega
        exact cell_of_row _ _ 0 _ _ _ (heap_alloc_new _ _)) (by simp)
      have ha2 : ((strN [r]).size : Int) ≤ 8388608 := by rw [strN_size]; simp
      have HAp := Lib.hid (strN_append S [r])
      rw [show ([r] : List Nat).take 1 = [r] from rfl] at hcv
      generalize strN [r] = U at *
      clear hc2 hg2 hr0 hr1
      go_wp2_with fail
      go_roundg (n - j - 1)
      case measure => exact HGK.out.1
      case rel => exact ⟨j + 1, S ++ [r], HGK.out.2, by go_num, by rw [← HAp.out], by rw [List.length_append, HS.out]; rfl, HC2.out.mono (by omega), HG2.out⟩
    · obtain rfl : j = n := by omega
      have hji : ¬ (j : Int) < (j : Int) := by omega
      go_wp2_with fail
      go_ret
      exact ⟨_, rfl, by rw [strN_size]; omega, HCj.out.mono (by omega), HGj.out⟩
end Go.Proofs.Ythabkkboodhbmaa
