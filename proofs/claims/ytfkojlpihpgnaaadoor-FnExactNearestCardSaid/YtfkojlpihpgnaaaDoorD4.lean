/-
  The laws' draws of chapter 1 that make lists: rows, DrawRowOf, DrawSumRows, DrawBitsIn; sameInts.
-/
import Derived.Test.YtfkojlpihpgnaaaDoorD3
namespace Go.Proofs.YtfkojlpihpgnaaaDoor
open Go.RowKit

theorem Own.lower {w : World} {base base' : Nat} {v : Value} {zs : List Int} (h : Own w base v zs) (hb : base' ≤ base) : Own w base' v zs := by
  refine ⟨h.1, ?_⟩
  rcases h.2 with hn | ⟨g, cap, cur, e, hg, r⟩
  · exact Or.inl hn
  · exact Or.inr ⟨g, cap, cur, e, Nat.le_trans hb hg, r⟩

set_option maxRecDepth 100000 in
set_option maxHeartbeats 1000000 in
theorem rows_any (B k : Nat) (x : Int) (w : World) (hcur : Cur w B k) (hk : k ≤ 68719476736) :
    Calls Tryd.prog 71 #[.pointer (some ⟨B, 0, none⟩), .int .i64 x] w (Listed B (k + 200) 21 w) := by
  obtain ⟨i0, hi, hz0, hz1, hz2⟩ := info_parts intInfo
  have hB := hcur.lt
  have HC := Lib.hid hcur
  clear hcur
  go_enter Tryd.func71, Tryd.ntmps71
  go_wp2_with fail
  refine (pick_any B k 8 _ HC.out (by omega) (by omega)).mono ?_
  rintro e w1 ⟨n, rfl, ⟨hn0, hn1⟩, hc1, hg1⟩
  have hn2 : n < 8 := by omega
  obtain ⟨n, rfl⟩ := Int.eq_ofNat_of_zero_le hn0
  have HC1 := Lib.hid hc1
  have HG1 := Lib.hid hg1
  clear hc1 hg1 HC hn1 hn0
  go_wp2_with fail
  refine (one_any B (k + 2) 20 _ HC1.out (by omega) (by omega)).mono ?_
  rintro e w2 ⟨b, rfl, hc2, hg2⟩
  have HC2 := Lib.hid hc2
  have HG2 := Lib.hid (grownBy_trans HG1.out hg2)
  clear hc2 hg2 HC1 HG1
  cases b
  · go_wp2_with fail
    go_loopw [5, 6] (fun v i wr => ∃ (j : Nat) (zs : List Int), i = .int .i64 j ∧ zs.length + j ≤ 21 ∧ Own wr w.heap.size v zs ∧ Cur wr B (k + 6 + 8 * zs.length) ∧ w.grownBy wr (some B)) (fun _ i _ => (intOf i).toNat)
    case atStart => exact ⟨n, [], rfl, by simp; omega, Own.nil _ _, HC2.out.mono (by simp), HG2.out⟩
    case round =>
      obtain ⟨j, zs, rfl, hlen, hown, hc, hg⟩ := hrel
      have HO := Lib.hid hown
      have HC := Lib.hid hc
      have HG := Lib.hid hg
      clear hown hc hg HC2 HG2
      by_cases hlt : 0 < j
      · go_wp2_with fail
        refine (row_any B (k + 6 + 8 * zs.length) x _ HC.out (by omega)).mono ?_
        rintro e w1 ⟨r, rfl, hr0, hr1, hc1, hg1⟩
        have HO1 := Lib.hid (HO.out.cur hB hg1)
        have HC1 := Lib.hid hc1
        have HG1 := Lib.hid (grownBy_trans HG.out hg1)
        have HOR : Hid (w1.ownsRow w.heap.size 3 1 u5 zs.length (zs.map (Value.int .i64))) := HO1.out
        clear hc1 hg1 HO HC HG
        go_wp2_with (at_builtin; refine wpList_append_own _ rfl _ _ 23 rfl w.heap.size 3 i0 (.int .i64 0) 1 8 Tryd.underlying23 hi hz0 hz1 hz2 rfl (by decide) _ _ _ rfl (HOR.out.alloc _) ⟨w1.heap.size, 0, none⟩ 1 1 [.int .i64 r] rfl rfl ?c1 ?c2 ?c3 ?c4 ?c5 ?_)
        case c1 =>
          intro j u hj
          match j, hj with
          | 0, hj => simp at hj; subst hj; simp [Addr.add]
        case c2 => intro u hu; simp at hu; subst hu; rfl
        case c3 => unfold maxLen; omega
        case c4 => omega
        case c5 => have := HG1.out.size; simp; omega
        · intro v' w2 hown' hgrow _
          have R := appended hB HO1.out HC1.out HG1.out hown' hgrow
          have HR := Lib.hid R
          clear hown' hgrow R HOR HO1 HC1 HG1
          obtain ⟨j, rfl⟩ : ∃ j', j = j' + 1 := ⟨j - 1, by omega⟩
          go_wp2_with fail
          go_roundw
          case rel => exact ⟨j, zs ++ [r], by go_num, by simp; omega, HR.out.1, HR.out.2.1.mono (by simp; omega), HR.out.2.2⟩
          case measure => simp [intOf]
      · obtain rfl : j = 0 := by omega
        go_wp2_with fail
        go_ret
        exact ⟨_, zs, rfl, HO.out, by omega, HC.out.mono (by omega), HG.out⟩
  · go_wp2_with fail
    refine (pick_any B (k + 2 + 2) 2 _ HC2.out (by omega) (by omega)).mono ?_
    rintro e w3 ⟨q, rfl, ⟨hq0, hq1⟩, hc3, hg3⟩
    have hq2 : q < 2 := by omega
    obtain ⟨q, rfl⟩ := Int.eq_ofNat_of_zero_le hq0
    have HC3 := Lib.hid hc3
    have HG3 := Lib.hid (grownBy_trans HG2.out hg3)
    clear hc3 hg3 hq1 hq0 HC2 HG2
    go_wp2_with fail
    go_loopw [5, 6] (fun v i wr => ∃ (j : Nat) (zs : List Int), i = .int .i64 j ∧ zs.length + j ≤ 21 ∧ Own wr w.heap.size v zs ∧ Cur wr B (k + 6 + 8 * zs.length) ∧ w.grownBy wr (some B)) (fun _ i _ => (intOf i).toNat)
    case atStart => exact ⟨20 + q, [], by go_num, by simp; omega, Own.nil _ _, HC3.out.mono (by simp), HG3.out⟩
    case round =>
      obtain ⟨j, zs, rfl, hlen, hown, hc, hg⟩ := hrel
      have HO := Lib.hid hown
      have HC := Lib.hid hc
      have HG := Lib.hid hg
      clear hown hc hg HC3 HG3
      by_cases hlt : 0 < j
      · go_wp2_with fail
        refine (row_any B (k + 6 + 8 * zs.length) x _ HC.out (by omega)).mono ?_
        rintro e w1 ⟨r, rfl, hr0, hr1, hc1, hg1⟩
        have HO1 := Lib.hid (HO.out.cur hB hg1)
        have HC1 := Lib.hid hc1
        have HG1 := Lib.hid (grownBy_trans HG.out hg1)
        have HOR : Hid (w1.ownsRow w.heap.size 3 1 u5 zs.length (zs.map (Value.int .i64))) := HO1.out
        clear hc1 hg1 HO HC HG
        go_wp2_with (at_builtin; refine wpList_append_own _ rfl _ _ 23 rfl w.heap.size 3 i0 (.int .i64 0) 1 8 Tryd.underlying23 hi hz0 hz1 hz2 rfl (by decide) _ _ _ rfl (HOR.out.alloc _) ⟨w1.heap.size, 0, none⟩ 1 1 [.int .i64 r] rfl rfl ?d1 ?d2 ?d3 ?d4 ?d5 ?_)
        case d1 =>
          intro j u hj
          match j, hj with
          | 0, hj => simp at hj; subst hj; simp [Addr.add]
        case d2 => intro u hu; simp at hu; subst hu; rfl
        case d3 => unfold maxLen; omega
        case d4 => omega
        case d5 => have := HG1.out.size; simp; omega
        · intro v' w2 hown' hgrow _
          have R := appended hB HO1.out HC1.out HG1.out hown' hgrow
          have HR := Lib.hid R
          clear hown' hgrow R HOR HO1 HC1 HG1
          obtain ⟨j, rfl⟩ : ∃ j', j = j' + 1 := ⟨j - 1, by omega⟩
          go_wp2_with fail
          go_roundw
          case rel => exact ⟨j, zs ++ [r], by go_num, by simp; omega, HR.out.1, HR.out.2.1.mono (by simp; omega), HR.out.2.2⟩
          case measure => simp [intOf]
      · obtain rfl : j = 0 := by omega
        go_wp2_with fail
        go_ret
        exact ⟨_, zs, rfl, HO.out, by omega, HC.out.mono (by omega), HG.out⟩

set_option maxRecDepth 100000 in
set_option maxHeartbeats 400000 in
theorem sameInts_any (A B : Option Addr) (za zb : List Int) (ca cb : Nat) (w : World) (ha : Ints w A za) (hb : Ints w B zb) (hl : za.length ≤ 140737488355328) :
    Calls Tryd.prog 20 #[.slice A za.length ca, .slice B zb.length cb] w fun e w' => e = .returned (.bool (eqL za zb)) ∧ ∃ n, w' = w.drewN n := by
  by_cases hlen : za.length = zb.length
  · have hneq : ((za.length : Int) != (zb.length : Int)) = false := by simp [hlen]
    have HL := Lib.hid hlen
    clear hlen
    go_enter Tryd.func20, Tryd.ntmps20
    go_wp2
    go_loopw [13] (fun i wr => ∃ k n : Nat, k ≤ za.length ∧ i = .int .i64 k ∧ za.take k = zb.take k ∧ wr = w.drewN n) (fun i _ => za.length - (intOf i).toNat)
    case atStart => exact ⟨0, 0, by omega, rfl, rfl, rfl⟩
    case round =>
      obtain ⟨k, n, hk, rfl, htk, rfl⟩ := hrel
      have HT := Lib.hid htk
      clear htk
      by_cases hlt : k < za.length
      · have hlt' : k < zb.length := by have := HL.out; omega
        obtain ⟨b1, o1, rfl, hc1⟩ := ha (by rintro rfl; simp at hlt)
        obtain ⟨b2, o2, rfl, hc2⟩ := hb (by rintro rfl; simp at hlt')
        have g1 := hc1 k hlt
        have g2 := hc2 k hlt'
        clear hc1 hc2 ha hb
        have hi1 : (k : Int) < (za.length : Int) := by omega
        have hi2 : (k : Int) < (zb.length : Int) := by omega
        go_wp2_with fail
        go_quiet (fail)
        go_wp2
        · have hne : (za[k] != zb[k]) = true := by assumption
          go_ret
          exact ⟨ret_bool' (eqL_at hlt hlt' hne).symm, n + nq, by simp⟩
        · have heq : (za[k] != zb[k]) = false := by assumption
          go_roundw
          case rel => exact ⟨k + 1, n + nq, by omega, by go_num, take_more hlt hlt' HT.out heq, rfl⟩
          case measure => simp [intOf]; omega
      · obtain rfl : k = za.length := by omega
        go_wp2
        go_ret
        exact ⟨ret_bool' (eqL_take HL.out HT.out).symm, _, rfl⟩
  · have hneq : ((za.length : Int) != (zb.length : Int)) = true := by simp; omega
    have HL := Lib.hid hlen
    clear hlen
    go_enter Tryd.func20, Tryd.ntmps20
    go_wp2
    go_ret
    exact ⟨ret_bool' (eqL_len HL.out).symm, 0, rfl⟩
end Go.Proofs.YtfkojlpihpgnaaaDoor
