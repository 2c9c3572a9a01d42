/-
  Laws of chapter 4, walked, whatever the program's own texts are: each takes the contract of the program's function as a premise; K is what that contract asks of the world, and what stays where nothing that lay is turned.
-/
import Derived.Test.YthabkkboodhbmaaJE
import Derived.Test.YthabkkboodhbmaaJM
namespace Go.Proofs.Ythabkkboodhbmaa
open Go.RowKit

/-- What a contract asks of the world, and what stays. -/
def Stays (K : World → Prop) : Prop := ∀ w w' : World, K w → Below w.heap.size w w' → K w'

set_option maxRecDepth 100000 in
set_option maxHeartbeats 1000000 in
theorem partOf_law {K : World → Prop} (hI : ∀ (p b : Int) (w : World), K w → Calls Try.prog 28 #[.int .i64 p, .int .i64 b] w fun e w' => e = .returned (.tuple #[.int .i64 (partG p b), .int .i64 (partS p b), .int .i64 (partM p b), .int .i64 (partR p b), .bool (partOkB p b)]) ∧ Below w.heap.size w w')
    (p b : Int) (w : World) (hw : K w) : Calls Try.prog 5 #[.int .i64 p, .int .i64 b] w fun e w' => e = .returned (.bool true) ∧ Below w.heap.size w w' := by
  have HI := Lib.hid (hI p b w hw)
  have HS := Lib.hid (sPart_any p b w)
  clear hI hw
  generalize partG p b = a1 at *
  generalize partS p b = a2 at *
  generalize partM p b = a3 at *
  generalize partR p b = a4 at *
  generalize partOkB p b = a5 at *
  go_enter Try.func5, Try.ntmps5
  go_wp2_with fail
  refine HS.out.mono ?_
  rintro e w1 ⟨rfl, rfl⟩
  go_wp2_with fail
  refine HI.out.mono ?_
  rintro e w2 ⟨rfl, hb2⟩
  go_wp2_with fail
  go_ret
  exact ⟨rfl, hb2⟩

set_option maxRecDepth 100000 in
set_option maxHeartbeats 1000000 in
theorem blocksFor_law {K : World → Prop} (hI : ∀ (n : Int) (w : World), K w → Calls Try.prog 17 #[.int .i64 n] w fun e w' => e = .returned (.tuple #[.int .i64 (blocksI n), .bool (longOkB n)]) ∧ Below w.heap.size w w')
    (n : Int) (w : World) (hw : K w) : Calls Try.prog 10 #[.int .i64 n] w fun e w' => e = .returned (.bool true) ∧ Below w.heap.size w w' := by
  have HI := Lib.hid (hI n w hw)
  have HS := Lib.hid (sBlocks_any n w)
  clear hI hw
  generalize blocksI n = a1 at *
  generalize longOkB n = a5 at *
  go_enter Try.func10, Try.ntmps10
  go_wp2_with fail
  refine HS.out.mono ?_
  rintro e w1 ⟨rfl, rfl⟩
  go_wp2_with fail
  refine HI.out.mono ?_
  rintro e w2 ⟨rfl, hb2⟩
  go_wp2_with fail
  go_ret
  exact ⟨rfl, hb2⟩

set_option maxRecDepth 100000 in
set_option maxHeartbeats 1000000 in
theorem pieceAt_law {K : World → Prop} (hK : Stays K) (hI : ∀ (s : ByteArray) (k : Int) (w : World), s.size ≤ 1048576 → K w → Calls Try.prog 33 #[.string s, .int .i64 k] w fun e w' => e = .returned (.tuple #[.int .i64 (pieceI s k), .bool (pieceOkB s k)]) ∧ Below w.heap.size w w')
    (s : ByteArray) (k : Int) (w : World) (hw : K w) : Calls Try.prog 11 #[.string s, .int .i64 k] w fun e w' => e = .returned (.bool true) ∧ Below w.heap.size w w' := by
  by_cases hl : s.size ≤ 1048576
  · have hli : ¬ (1048576 : Int) < (s.size : Int) := by omega
    have HI := Lib.hid (fun w => hI s k w hl)
    have HS := Lib.hid (sPieceAt_any s k w)
    have HW := Lib.hid hw
    clear hI hw
    generalize pieceI s k = a1 at *
    generalize pieceOkB s k = a5 at *
    go_enter Try.func11, Try.ntmps11
    go_wp2_with fail
    refine HS.out.mono ?_
    rintro e w1 ⟨rfl, hb1⟩
    have HB1 := Lib.hid hb1
    clear hb1
    go_wp2_with fail
    refine (HI.out w1 (hK _ _ HW.out HB1.out)).mono ?_
    rintro e w2 ⟨rfl, hb2⟩
    go_wp2_with fail
    go_ret
    exact ⟨rfl, jMore HB1.out hb2⟩
  · have hli : (1048576 : Int) < (s.size : Int) := by omega
    clear hI
    go_enter Try.func11, Try.ntmps11
    go_wp2_with fail
    go_ret
    exact ⟨rfl, Below.refl _ _⟩

set_option maxRecDepth 100000 in
set_option maxHeartbeats 1000000 in
theorem textOf_law {K : World → Prop} (hK : Stays K) (hI : ∀ (A : Option Addr) (zs : List Int) (ca : Nat) (n : Int) (w : World), K w → Ints w A zs → zs.length ≤ 1048576 → zs.length ≤ ca → Calls Try.prog 26 #[.slice A zs.length ca, .int .i64 n] w fun e w' => e = .returned (.tuple #[.string (textI zs n), .bool (textOkB zs n)]) ∧ Below w.heap.size w w')
    (A : Option Addr) (zs : List Int) (ca : Nat) (n : Int) (w : World) (hw : K w) (ha : Ints w A zs) : Calls Try.prog 7 #[.slice A zs.length ca, .int .i64 n] w fun e w' => e = .returned (.bool true) ∧ Below w.heap.size w w' := by
  by_cases hl : zs.length ≤ 1048576
  · have hli : ¬ (1048576 : Int) < (zs.length : Int) := by omega
    have hq : eqL zs zs = true := by simp [eqL]
    have HI := Lib.hid (fun A ca w hk ha hc => hI A zs ca n w hk ha hl hc)
    have HS := Lib.hid (fun A ca w ha => sTextOf_any A zs ca n w ha hl)
    have HW := Lib.hid hw
    have HA := Lib.hid ha
    clear hI hw ha
    generalize textI zs n = a1 at *
    generalize textOkB zs n = a5 at *
    go_enter Try.func7, Try.ntmps7
    go_wp2_with fail
    refine (toInts_any A zs ca _ HA.out (by omega)).mono ?_
    rintro e w1 ⟨v1, rfl, ho1, hb1⟩
    obtain ⟨A1, c1, rfl, hI1⟩ := ho1.form
    have HI1 := Lib.hid hI1
    have HB1 := Lib.hid hb1
    clear hI1 ho1 hb1
    go_wp2_with fail
    refine (HS.out A1 c1 _ HI1.out).mono ?_
    rintro e w2 ⟨rfl, hb2⟩
    have HB2 := Lib.hid (jMore HB1.out hb2)
    clear hb2 HI1 HB1
    go_wp2_with fail
    refine (toInts_any A zs ca _ (HA.out.below HB2.out) (by omega)).mono ?_
    rintro e w3 ⟨v3, rfl, ho3, hb3⟩
    obtain ⟨A3, c3, rfl, hcap3, hI3⟩ : ∃ A' c', v3 = .slice A' zs.length c' ∧ zs.length ≤ c' ∧ Ints w3 A' zs := by
      obtain ⟨A', c', e', hI'⟩ := ho3.form
      refine ⟨A', c', e', ?_, hI'⟩
      rcases ho3.2 with ⟨e0, hn⟩ | ⟨g, cap, cur, e0, _, _, hle, _⟩
      · rw [hn]; exact Nat.zero_le _
      · rw [e'] at e0; injection e0 with _ _ e3; rw [e3]; exact hle
    have HI3 := Lib.hid hI3
    have HB3 := Lib.hid (jMore HB2.out hb3)
    clear hI3 ho3 hb3 HB2
    go_wp2_with fail
    refine (HI.out A3 c3 _ (hK _ _ HW.out HB3.out) HI3.out hcap3).mono ?_
    rintro e w4 ⟨rfl, hb4⟩
    have HI4 := Lib.hid (HI3.out.below hb4)
    have HB4 := Lib.hid (jMore HB3.out hb4)
    clear hb4 HI3 HB3
    go_wp2_with fail
    refine (toInts_any A zs ca _ (HA.out.below HB4.out) (by omega)).mono ?_
    rintro e w5 ⟨v5, rfl, ho5, hb5⟩
    obtain ⟨A5, c5, rfl, hI5⟩ := ho5.form
    have HI5 := Lib.hid hI5
    have HI4' := Lib.hid (HI4.out.below hb5)
    have HB5 := Lib.hid (jMore HB4.out hb5)
    clear hI5 ho5 hb5 HI4 HB4
    go_wp2_with fail
    refine (eqInts_any A3 A5 zs zs c3 c5 _ HI4'.out HI5.out (by omega)).mono ?_
    rintro e w6 ⟨rfl, n6, rfl⟩
    go_wp2_with fail
    go_ret
    exact ⟨rfl, jMore HB5.out (jDrewN n6)⟩
  · have hli : (1048576 : Int) < (zs.length : Int) := by omega
    clear hI
    go_enter Try.func7, Try.ntmps7
    go_wp2_with fail
    go_ret
    exact ⟨rfl, Below.refl _ _⟩
end Go.Proofs.Ythabkkboodhbmaa
