/-
  What RowOf answers, in the program's text and in the model's.
-/
import Derived.Test.YtcpfneikcefcmaaDoorW5
import Derived.Test.YtcpfneikcefcmaaDoorMG
namespace Go.Proofs.YtcpfneikcefcmaaDoor
open Go.RowKit

set_option maxRecDepth 100000 in
set_option maxHeartbeats 400000 in
theorem iRising (A : Option Addr) (zs : List Int) (ca : Nat) (c : Int) (w : World) (ha : Ints w A zs) (hl : zs.length ≤ 1048576) (hc : c ≤ 1048576) :
    Calls Tryd.prog 90 #[.slice A zs.length ca, .int .i64 c] w fun e w' => e = .returned (.bool (risB 0 c zs)) ∧ w = w' := by
  go_enter Tryd.func90, Tryd.ntmps90
  go_wp2
  go_loop [5, 10] (fun m i => ∃ (k : Nat) (l : Int), k ≤ zs.length ∧ i = .int .i64 k ∧ m = .int .i64 l ∧ 0 ≤ l ∧ l ≤ 1048576 ∧ risB l c (zs.drop k) = risB 0 c zs) (fun _ i => zs.length - (intOf i).toNat)
  case atStart => exact ⟨0, 0, by omega, rfl, rfl, by omega, by omega, by simp⟩
  case round =>
    obtain ⟨k, l, hk, rfl, rfl, h0, h1, hr⟩ := hrel
    have HR := Lib.hid hr
    clear hr
    by_cases hlt : k < zs.length
    · obtain ⟨b, o, rfl, hcs⟩ := ha (by rintro rfl; simp at hlt)
      have hz := hcs k hlt
      rw [show zs.getD k 0 = zs[k] by simp [List.getD, hlt]] at hz
      clear hcs ha
      have hno : zs[k] < l ∨ c ≤ zs[k] → risB l c (zs.drop k) = false := risB_no hlt
      have hyes : l ≤ zs[k] → zs[k] < c → risB l c (zs.drop k) = risB (zs[k] + 1) c (zs.drop (k + 1)) := risB_yes hlt
      have HN := Lib.hid hno
      have HY := Lib.hid hyes
      clear hno hyes
      generalize zs[k] = z at *
      by_cases hz1 : z < l
      · go_wp2
        go_ret
        exact ⟨ret_bool (by rw [← HR.out]; exact (HN.out (Or.inl hz1)).symm), rfl⟩
      · by_cases hz2 : c ≤ z
        · go_wp2
          go_ret
          exact ⟨ret_bool (by rw [← HR.out]; exact (HN.out (Or.inr hz2)).symm), rfl⟩
        · go_wp2
          go_round
          case rel => exact ⟨k + 1, z + 1, by omega, by go_num, rfl, by omega, by omega, by rw [← HY.out (by omega) (by omega), HR.out]⟩
          case measure => simp [intOf]; omega
    · obtain rfl : k = zs.length := by omega
      go_wp2
      go_ret
      exact ⟨ret_bool (by rw [← HR.out, risB_end]), rfl⟩

def rowOkB (x : Int) (zs : List Int) : Bool := wideB x && risB 0 x zs
theorem rowOk_true {x : Int} {zs : List Int} (h : rowOkB x zs = true) : ∃ m : Nat, x = m ∧ 1 ≤ m ∧ m ≤ 16 ∧ wideB x = true ∧ risB 0 x zs = true := by
  have h' : wideB x = true ∧ risB 0 x zs = true := by simpa [rowOkB] using h
  have h1 : 1 ≤ x ∧ x ≤ 16 := by simpa [wideB] using h'.1
  exact ⟨x.toNat, by omega, by omega, by omega, h'.1, h'.2⟩
theorem rowOk_false {x : Int} {zs : List Int} (h : rowOkB x zs = false) : wideB x = false ∨ (wideB x = true ∧ risB 0 x zs = false) := by
  cases ha : wideB x
  · exact Or.inl rfl
  · exact Or.inr ⟨rfl, by simpa [rowOkB, ha] using h⟩

set_option maxRecDepth 100000 in
set_option maxHeartbeats 400000 in
theorem iRow_no (x : Int) (A : Option Addr) (zs : List Int) (ca : Nat) (w : World) (ha : Ints w A zs) (hl : zs.length ≤ 1048576) (h : rowOkB x zs = false) :
    Calls Tryd.prog 69 #[.int .i64 x, .slice A zs.length ca] w fun e w' => e = .returned (.tuple #[.int .i64 0, .bool false]) ∧ w = w' := by
  have h' := rowOk_false h
  clear h
  rcases h' with h | ⟨h, hr⟩
  · go_enter Tryd.func69, Tryd.ntmps69
    go_wp2_with (go_at_call 89; refine (goodWidth_any _ _).mono ?_; rintro e w' ⟨rfl, rfl⟩)
    go_ret2
    exact ⟨rfl, rfl⟩
  · have hx : 1 ≤ x ∧ x ≤ 16 := by simpa [wideB] using h
    obtain ⟨h1, h2⟩ := hx
    go_enter Tryd.func69, Tryd.ntmps69
    go_wp2_with (first
      | (go_at_call 89; refine (goodWidth_any _ _).mono ?_; rintro e w' ⟨rfl, rfl⟩)
      | (go_at_call 90; refine (iRising _ _ _ _ _ ha hl (by omega)).mono ?_; rintro e w' ⟨rfl, rfl⟩))
    go_ret2
    exact ⟨rfl, rfl⟩
set_option maxRecDepth 100000 in
set_option maxHeartbeats 400000 in
theorem iRow_ok (m : Nat) (A : Option Addr) (zs : List Int) (ca : Nat) (w : World) (ht : Tab w) (ha : Ints w A zs) (hl : zs.length ≤ 1048576) (hm : m ≤ 16) (h : wideB m = true) (hr : risB 0 m zs = true) :
    Calls Tryd.prog 69 #[.int .i64 m, .slice A zs.length ca] w fun e w' => e = .returned (.tuple #[.int .i64 (rowL zs : Nat), .bool true]) ∧ w = w' := by
  have HIn := Lib.hid (risB_in hr)
  have HT := Lib.hid ht
  clear ht
  go_enter Tryd.func69, Tryd.ntmps69
  go_wp2_with (first
    | (go_at_call 89; refine (goodWidth_any _ _).mono ?_; rintro e w' ⟨rfl, rfl⟩)
    | (go_at_call 90; refine (iRising _ _ _ _ _ ha hl (by omega)).mono ?_; rintro e w' ⟨rfl, rfl⟩))
  clear h hr
  go_loop [6, 20] (fun a i => ∃ k : Nat, k ≤ zs.length ∧ i = .int .i64 k ∧ a = .int .i64 (rowL (zs.take k) : Nat)) (fun _ i => zs.length - (intOf i).toNat)
  case atStart => exact ⟨0, by omega, rfl, rfl⟩
  case round =>
    obtain ⟨k, hk, rfl, rfl⟩ := hrel
    have hrl : rowL (zs.take k) < 65536 := rowL_lt fun z hz => by have := HIn.out z (List.mem_of_mem_take hz); omega
    by_cases hlt : k < zs.length
    · obtain ⟨b, o, rfl, hcs⟩ := ha (by rintro rfl; simp at hlt)
      have hz := hcs k hlt
      rw [show zs.getD k 0 = zs[k] by simp [List.getD, hlt]] at hz
      obtain ⟨hb1, hb2⟩ := HIn.out zs[k] (List.getElem_mem hlt)
      have hs := Lib.hid (rowL_snoc zs k hlt)
      clear hcs ha
      generalize zs[k] = z at *
      have hc := HT.out z.toNat (by omega)
      have ho := or_i64' (rowL (zs.take k)) z.toNat hrl (by omega)
      go_wp2
      go_round
      case rel => exact ⟨k + 1, by omega, by go_num, by rw [hs.out]⟩
      case measure => simp [intOf]; omega
    · obtain rfl : k = zs.length := by omega
      go_wp2
      go_ret2
      exact ⟨rfl, rfl⟩

end Go.Proofs.YtcpfneikcefcmaaDoor
