/-
  The law of SumRows, walked: it returns true, and turns nothing that lay in memory.
-/
import Derived.Test.YtbdncpbbeodpbaaDoorW8
namespace Go.Proofs.YtbdncpbbeodpbaaDoor
open Go.RowKit

def sumOkB (x : Int) (rs ks : List Int) : Bool := rowsB x rs && risB 0 rs.length ks
def sumI (x : Int) (rs ks : List Int) : Int := if sumOkB x rs ks = true then (sumL rs ks : Nat) else 0
theorem sumOk_true {x : Int} {rs ks : List Int} (h : sumOkB x rs ks = true) : rowsB x rs = true ∧ risB 0 rs.length ks = true := by simpa [sumOkB] using h
theorem sumOk_false {x : Int} {rs ks : List Int} (h : sumOkB x rs ks = false) : rowsB x rs = false ∨ (rowsB x rs = true ∧ risB 0 rs.length ks = false) := by
  cases ha : rowsB x rs
  · exact Or.inl rfl
  · exact Or.inr ⟨rfl, by simpa [sumOkB, ha] using h⟩
theorem rowsB_in {x : Int} {rs : List Int} (h : rowsB x rs = true) : rs.length ≤ 20 ∧ ∀ z ∈ rs, 0 ≤ z ∧ z < 65536 := by
  have h' : wideB x = true ∧ rs.length ≤ 20 ∧ ∀ z ∈ rs, goodB x z = true := by simpa [rowsB, allG] using h
  refine ⟨h'.2.1, fun z hz => ?_⟩
  obtain ⟨m, n, rfl, rfl, _, h2, h3⟩ := good_nat (h'.2.2 z hz)
  have := lt16 h2 h3
  omega

set_option maxHeartbeats 400000 in
theorem iSum_no (x : Int) (A B : Option Addr) (rs ks : List Int) (ca cb : Nat) (w : World) (ht : Tab w) (ha : Ints w A rs) (hb : Ints w B ks) (hl : rs.length ≤ 1048576) (hl2 : ks.length ≤ 1048576) (h : sumOkB x rs ks = false) :
    Calls Tryd.prog 34 #[.int .i64 x, .slice A rs.length ca, .slice B ks.length cb] w fun e w' => e = .returned (.tuple #[.int .i64 0, .bool false]) ∧ w = w' := by
  have h' := sumOk_false h
  clear h
  rcases h' with h | ⟨h, hr⟩
  · go_enter Tryd.func34, Tryd.ntmps34
    go_wp2_with (go_at_call 55; refine (iRows _ _ _ _ _ ht ha hl).mono ?_; rintro e w' ⟨rfl, rfl⟩)
    go_ret2
    exact ⟨rfl, rfl⟩
  · go_enter Tryd.func34, Tryd.ntmps34
    go_wp2_with (first
      | (go_at_call 55; refine (iRows _ _ _ _ _ ht ha hl).mono ?_; rintro e w' ⟨rfl, rfl⟩)
      | (go_at_call 50; refine (iRising _ _ _ _ _ hb hl2 (by omega)).mono ?_; rintro e w' ⟨rfl, rfl⟩))
    go_ret2
    exact ⟨rfl, rfl⟩
set_option maxHeartbeats 400000 in
theorem sSum_no (x : Int) (A B : Option Addr) (rs ks : List Int) (ca cb : Nat) (w : World) (ha : Ints w A rs) (hb : Ints w B ks) (hl : rs.length ≤ 1048576) (hl2 : ks.length ≤ 1048576) (h : sumOkB x rs ks = false) :
    Calls Tryd.prog 35 #[.int .i64 x, .slice A rs.length ca, .slice B ks.length cb] w fun e w' => e = .returned (.tuple #[.int .i64 0, .bool false]) ∧ w = w' := by
  have h' := sumOk_false h
  clear h
  rcases h' with h | ⟨h, hr⟩
  · go_enter Tryd.func35, Tryd.ntmps35
    go_wp2_with (go_at_call 56; refine (sRows _ _ _ _ _ ha hl).mono ?_; rintro e w' ⟨rfl, rfl⟩)
    go_ret2
    exact ⟨rfl, rfl⟩
  · go_enter Tryd.func35, Tryd.ntmps35
    go_wp2_with (first
      | (go_at_call 56; refine (sRows _ _ _ _ _ ha hl).mono ?_; rintro e w' ⟨rfl, rfl⟩)
      | (go_at_call 53; refine (sRising _ _ _ _ _ hb hl2).mono ?_; rintro e w' ⟨rfl, rfl⟩))
    go_ret2
    exact ⟨rfl, rfl⟩

set_option maxHeartbeats 400000 in
theorem iSum_ok (x : Int) (A B : Option Addr) (rs ks : List Int) (ca cb : Nat) (w : World) (ht : Tab w) (ha : Ints w A rs) (hb : Ints w B ks) (hl : rs.length ≤ 1048576) (hl2 : ks.length ≤ 1048576) (h : rowsB x rs = true) (hr : risB 0 rs.length ks = true) :
    Calls Tryd.prog 34 #[.int .i64 x, .slice A rs.length ca, .slice B ks.length cb] w fun e w' => e = .returned (.tuple #[.int .i64 (sumL rs ks : Nat), .bool true]) ∧ w = w' := by
  have HIn := Lib.hid (risB_in hr)
  have HRows := Lib.hid (rowsB_in h).2
  go_enter Tryd.func34, Tryd.ntmps34
  go_wp2_with (first
    | (go_at_call 55; refine (iRows _ _ _ _ _ ht ha hl).mono ?_; rintro e w' ⟨rfl, rfl⟩)
    | (go_at_call 50; refine (iRising _ _ _ _ _ hb hl2 (by omega)).mono ?_; rintro e w' ⟨rfl, rfl⟩))
  clear h hr ht
  go_loop [8, 24] (fun a i => ∃ k : Nat, k ≤ ks.length ∧ i = .int .i64 k ∧ a = .int .i64 (sumL rs (ks.take k) : Nat)) (fun _ i => ks.length - (intOf i).toNat)
  case atStart => exact ⟨0, by omega, rfl, rfl⟩
  case round =>
    obtain ⟨k, hk, rfl, rfl⟩ := hrel
    have hsl : sumL rs (ks.take k) < 65536 := sumL_lt HRows.out
    by_cases hlt : k < ks.length
    · obtain ⟨b, o, rfl, hcs⟩ := hb (by rintro rfl; simp at hlt)
      have hz := hcs k hlt
      rw [show ks.getD k 0 = ks[k] by simp [List.getD, hlt]] at hz
      obtain ⟨hb1, hb2⟩ := HIn.out ks[k] (List.getElem_mem hlt)
      have hs := Lib.hid (sumL_snoc rs ks k hlt)
      clear hcs hb
      generalize ks[k] = z at *
      have hzl : z.toNat < rs.length := by omega
      obtain ⟨b2, o2, rfl, hcs2⟩ := ha (by rintro rfl; simp at hzl)
      have hy := hcs2 z.toNat hzl
      obtain ⟨hr1, hr2⟩ := HRows.out rs[z.toNat] (List.getElem_mem hzl)
      have hge : rs.getD z.toNat 0 = rs[z.toNat] := by simp [List.getD, hzl]
      rw [hge] at hy hs
      clear hcs2 ha hge
      generalize rs[z.toNat] = y at *
      obtain ⟨q, rfl⟩ := Int.eq_ofNat_of_zero_le hr1
      have hx := xor_i64 (sumL rs (ks.take k)) q (by omega) (by omega)
      go_wp2
      go_round
      case rel => exact ⟨k + 1, by omega, by go_num, by rw [hs.out]; simp⟩
      case measure => simp [intOf]; omega
    · obtain rfl : k = ks.length := by omega
      go_wp2
      go_ret2
      exact ⟨rfl, rfl⟩

set_option maxHeartbeats 400000 in
theorem sSum (A B : Option Addr) (rs ks : List Int) (ca cb : Nat) (w : World) (ha : Ints w A rs) (hb : Ints w B ks) (hl2 : ks.length ≤ 1048576) (hrows : ∀ z ∈ rs, 0 ≤ z ∧ z < 65536) (hr : risB 0 rs.length ks = true) :
    Calls Tryd.prog 57 #[.slice A rs.length ca, .slice B ks.length cb] w fun e w' => e = .returned (.int .i64 (sumL rs ks : Nat)) ∧ w = w' := by
  have HIn := Lib.hid (risB_in hr)
  have HRows := Lib.hid hrows
  clear hr hrows
  go_enter Tryd.func57, Tryd.ntmps57
  go_wp2
  go_loop [5, 10] (fun a i => ∃ k : Nat, k ≤ ks.length ∧ i = .int .i64 k ∧ a = .int .i64 (sumL rs (ks.take k) : Nat)) (fun _ i => ks.length - (intOf i).toNat)
  case atStart => exact ⟨0, by omega, rfl, rfl⟩
  case round =>
    obtain ⟨k, hk, rfl, rfl⟩ := hrel
    have hsl : sumL rs (ks.take k) < 65536 := sumL_lt HRows.out
    by_cases hlt : k < ks.length
    · obtain ⟨b, o, rfl, hcs⟩ := hb (by rintro rfl; simp at hlt)
      have hz := hcs k hlt
      rw [show ks.getD k 0 = ks[k] by simp [List.getD, hlt]] at hz
      obtain ⟨hb1, hb2⟩ := HIn.out ks[k] (List.getElem_mem hlt)
      have hs := Lib.hid (sumL_snoc rs ks k hlt)
      clear hcs hb
      generalize ks[k] = z at *
      have hzl : z.toNat < rs.length := by omega
      obtain ⟨b2, o2, rfl, hcs2⟩ := ha (by rintro rfl; simp at hzl)
      have hy := hcs2 z.toNat hzl
      obtain ⟨hr1, hr2⟩ := HRows.out rs[z.toNat] (List.getElem_mem hzl)
      have hge : rs.getD z.toNat 0 = rs[z.toNat] := by simp [List.getD, hzl]
      rw [hge] at hy hs
      clear hcs2 ha hge
      generalize rs[z.toNat] = y at *
      obtain ⟨q, rfl⟩ := Int.eq_ofNat_of_zero_le hr1
      have hx := xor_i64 (sumL rs (ks.take k)) q (by omega) (by omega)
      go_wp2
      go_round
      case rel => exact ⟨k + 1, by omega, by go_num, by rw [hs.out]; simp⟩
      case measure => simp [intOf]; omega
    · obtain rfl : k = ks.length := by omega
      go_wp2
      go_ret
      exact ⟨rfl, rfl⟩
set_option maxHeartbeats 400000 in
theorem sSum_ok (x : Int) (A B : Option Addr) (rs ks : List Int) (ca cb : Nat) (w : World) (ha : Ints w A rs) (hb : Ints w B ks) (hl : rs.length ≤ 1048576) (hl2 : ks.length ≤ 1048576) (h : rowsB x rs = true) (hr : risB 0 rs.length ks = true) :
    Calls Tryd.prog 35 #[.int .i64 x, .slice A rs.length ca, .slice B ks.length cb] w fun e w' => e = .returned (.tuple #[.int .i64 (sumL rs ks : Nat), .bool true]) ∧ w = w' := by
  have HRows := Lib.hid (rowsB_in h).2
  go_enter Tryd.func35, Tryd.ntmps35
  go_wp2_with (first
    | (go_at_call 56; refine (sRows _ _ _ _ _ ha hl).mono ?_; rintro e w' ⟨rfl, rfl⟩)
    | (go_at_call 53; refine (sRising _ _ _ _ _ hb hl2).mono ?_; rintro e w' ⟨rfl, rfl⟩)
    | (go_at_call 57; refine (sSum _ _ _ _ _ _ _ ha hb hl2 HRows.out hr).mono ?_; rintro e w' ⟨rfl, rfl⟩))
  go_ret2
  exact ⟨rfl, rfl⟩

theorem iSum_any (x : Int) (A B : Option Addr) (rs ks : List Int) (ca cb : Nat) (w : World) (ht : Tab w) (ha : Ints w A rs) (hb : Ints w B ks) (hl : rs.length ≤ 1048576) (hl2 : ks.length ≤ 1048576) :
    Calls Tryd.prog 34 #[.int .i64 x, .slice A rs.length ca, .slice B ks.length cb] w fun e w' => e = .returned (.tuple #[.int .i64 (sumI x rs ks), .bool (sumOkB x rs ks)]) ∧ w = w' := by
  cases h : sumOkB x rs ks
  · refine (iSum_no x A B rs ks ca cb w ht ha hb hl hl2 h).mono ?_
    rintro e w' ⟨rfl, rfl⟩
    exact ⟨tup (by simp [sumI, h]), rfl⟩
  · obtain ⟨h1, h2⟩ := sumOk_true h
    refine (iSum_ok x A B rs ks ca cb w ht ha hb hl hl2 h1 h2).mono ?_
    rintro e w' ⟨rfl, rfl⟩
    exact ⟨tup (by simp [sumI, h]), rfl⟩
theorem sSum_any (x : Int) (A B : Option Addr) (rs ks : List Int) (ca cb : Nat) (w : World) (ha : Ints w A rs) (hb : Ints w B ks) (hl : rs.length ≤ 1048576) (hl2 : ks.length ≤ 1048576) :
    Calls Tryd.prog 35 #[.int .i64 x, .slice A rs.length ca, .slice B ks.length cb] w fun e w' => e = .returned (.tuple #[.int .i64 (sumI x rs ks), .bool (sumOkB x rs ks)]) ∧ w = w' := by
  cases h : sumOkB x rs ks
  · refine (sSum_no x A B rs ks ca cb w ha hb hl hl2 h).mono ?_
    rintro e w' ⟨rfl, rfl⟩
    exact ⟨tup (by simp [sumI, h]), rfl⟩
  · obtain ⟨h1, h2⟩ := sumOk_true h
    refine (sSum_ok x A B rs ks ca cb w ha hb hl hl2 h1 h2).mono ?_
    rintro e w' ⟨rfl, rfl⟩
    exact ⟨tup (by simp [sumI, h]), rfl⟩

/-- One step more behind what is below. -/
theorem below_more {w a b : World} (h : Below w.heap.size w a) (k : Below a.heap.size a b) : Below w.heap.size w b := h.trans (k.mono h.size)

set_option maxHeartbeats 1000000 in
theorem sumRows_law (x : Int) (A : Option Addr) (rs : List Int) (ca : Nat) (B : Option Addr) (ks : List Int) (cb : Nat) (w : World) (ht : Tab w) (ha : Ints w A rs) (hb : Ints w B ks) :
    Calls Tryd.prog 11 #[.int .i64 x, .slice A rs.length ca, .slice B ks.length cb] w fun e w' => e = .returned (.bool true) ∧ Below w.heap.size w w' := by
  have HT := Lib.hid ht
  clear ht
  by_cases hl : rs.length ≤ 1048576
  · by_cases hl2 : ks.length ≤ 1048576
    · have hq := eqL_self rs
      have hq2 := eqL_self ks
      go_enter Tryd.func11, Tryd.ntmps11
      go_wp2_with fail
      refine (toInts_any A rs ca _ ha (by omega)).mono ?_
      rintro e w1 ⟨v1, rfl, ho1, hb1⟩
      obtain ⟨A1, c1, rfl, hI1⟩ := ho1.form
      have HI1 := Lib.hid hI1
      have HB1 := Lib.hid hb1
      clear hI1 ho1 hb1
      go_wp2_with fail
      refine (toInts_any B ks cb _ (hb.below HB1.out) (by omega)).mono ?_
      rintro e w2 ⟨v2, rfl, ho2, hb2⟩
      obtain ⟨A2, c2, rfl, hI2⟩ := ho2.form
      have HI2 := Lib.hid hI2
      have HB2 := Lib.hid (below_more HB1.out hb2)
      have HI1' := Lib.hid (HI1.out.below hb2)
      clear hI2 ho2 hb2 HB1 HI1
      go_wp2_with fail
      refine (sSum_any x A1 A2 rs ks c1 c2 _ HI1'.out HI2.out hl hl2).mono ?_
      rintro e w3 ⟨rfl, rfl⟩
      go_wp2_with fail
      refine (toInts_any A rs ca _ (ha.below HB2.out) (by omega)).mono ?_
      rintro e w4 ⟨v4, rfl, ho4, hb4⟩
      obtain ⟨A4, c4, rfl, hI4⟩ := ho4.form
      have HI4 := Lib.hid hI4
      have HB4 := Lib.hid (below_more HB2.out hb4)
      clear hI4 ho4 hb4 HB2 HI1' HI2
      go_wp2_with fail
      refine (toInts_any B ks cb _ (hb.below HB4.out) (by omega)).mono ?_
      rintro e w5 ⟨v5, rfl, ho5, hb5⟩
      obtain ⟨A5, c5, rfl, hI5⟩ := ho5.form
      have HI5 := Lib.hid hI5
      have HB5 := Lib.hid (below_more HB4.out hb5)
      have HI4' := Lib.hid (HI4.out.below hb5)
      clear hI5 ho5 hb5 HB4 HI4
      go_wp2_with fail
      refine (iSum_any x A4 A5 rs ks c4 c5 _ (HT.out.below HB5.out) HI4'.out HI5.out hl hl2).mono ?_
      rintro e w6 ⟨rfl, rfl⟩
      go_wp2_with fail
      refine (toInts_any A rs ca _ (ha.below HB5.out) (by omega)).mono ?_
      rintro e w7 ⟨v7, rfl, ho7, hb7⟩
      obtain ⟨A7, c7, rfl, hI7⟩ := ho7.form
      have HI7 := Lib.hid hI7
      have HB7 := Lib.hid (below_more HB5.out hb7)
      have HI4 := Lib.hid (HI4'.out.below hb7)
      have HI5' := Lib.hid (HI5.out.below hb7)
      clear hI7 ho7 hb7 HB5 HI4' HI5
      go_wp2_with fail
      refine (eqInts_any A4 A7 rs rs c4 c7 _ HI4.out HI7.out (by omega)).mono ?_
      rintro e w8 ⟨rfl, n8, rfl⟩
      go_wp2_with fail
      refine (toInts_any B ks cb _ ((hb.below HB7.out).below (below_drewN' n8)) (by omega)).mono ?_
      rintro e w9 ⟨v9, rfl, ho9, hb9⟩
      obtain ⟨A9, c9, rfl, hI9⟩ := ho9.form
      have HI9 := Lib.hid hI9
      have HB9 := Lib.hid (below_more (below_more HB7.out (below_drewN' n8)) hb9)
      have HI5 := Lib.hid ((HI5'.out.below (below_drewN' n8)).below hb9)
      clear hI9 ho9 hb9 HB7 HI5' HI4 HI7
      go_wp2_with fail
      refine (eqInts_any A5 A9 ks ks c5 c9 _ HI5.out HI9.out (by omega)).mono ?_
      rintro e w10 ⟨rfl, n10, rfl⟩
      go_wp2_with fail
      go_ret
      exact ⟨rfl, below_more HB9.out (below_drewN' n10)⟩
    · have hl' : (1048576 : Int) < (ks.length : Int) := by omega
      go_enter Tryd.func11, Tryd.ntmps11
      go_wp2_with fail
      go_ret
      exact ⟨rfl, Below.refl _ _⟩
  · have hl' : (1048576 : Int) < (rs.length : Int) := by omega
    go_enter Tryd.func11, Tryd.ntmps11
    go_wp2_with fail
    go_ret
    exact ⟨rfl, Below.refl _ _⟩
end Go.Proofs.YtbdncpbbeodpbaaDoor
