/-
  The model of chapter 4: the pieces of a string, and one of them.
-/
import Derived.Test.YthabkkboodhbmaaJ1
namespace Go.Proofs.Ythabkkboodhbmaa
open Go.RowKit

/-- A string's bytes, as numbers. -/
def bsL (s : ByteArray) : List Nat := s.data.toList.map UInt8.toNat
theorem bsL_length (s : ByteArray) : (bsL s).length = s.size := by rw [bsL, List.length_map, Array.length_toList]; rfl
theorem bsL_lt (s : ByteArray) : ∀ b ∈ bsL s, b < 256 := fun b hb => by
  obtain ⟨u, _, rfl⟩ := List.mem_map.1 hb
  exact UInt8.toNat_lt u
theorem bsL_at (s : ByteArray) {k : Nat} (h : k < s.size) : (bsL s).getD k 0 = (s[k]).toNat := by
  rw [List.getD_eq_getElem?_getD, List.getElem?_eq_getElem (by rw [bsL_length]; exact h)]
  simp [bsL]; rfl
theorem bsL_out (s : ByteArray) {k : Nat} (h : ¬ k < s.size) : (bsL s).getD k 0 = 0 := by
  rw [List.getD_eq_getElem?_getD, List.getElem?_eq_none (by rw [bsL_length]; omega)]; rfl
/-- r bytes of the piece that begins at byte i. -/
def pn (B : List Nat) (i : Nat) : Nat → Nat
  | 0 => 0
  | r + 1 => pn B i r * 256 + B.getD (i + r) 0
theorem pn_lt {B : List Nat} (h : ∀ b ∈ B, b < 256) (i : Nat) : ∀ r, pn B i r < 256 ^ r
  | 0 => by simp [pn]
  | r + 1 => by
    have h1 := pn_lt h i r
    have h2 := getD_lt h (i + r)
    rw [pn, Nat.pow_succ]
    omega
theorem pn_four (B : List Nat) (i : Nat) : pn B i 4 = pieceN B i := by simp [pn, pieceN]
def piecesK (B : List Nat) (n : Nat) : List Nat := (List.range n).map fun j => pieceN B (4 * j)
theorem piecesK_succ (B : List Nat) (n : Nat) : piecesK B (n + 1) = piecesK B n ++ [pieceN B (4 * n)] := by simp [piecesK, List.range_succ]
theorem piecesK_length (B : List Nat) (n : Nat) : (piecesK B n).length = n := by simp [piecesK]

set_option maxRecDepth 100000 in
set_option maxHeartbeats 2000000 in
theorem sPieces (s : ByteArray) (w : World) (hs : s.size ≤ 96) :
    Calls Try.prog 59 #[.string s] w fun e w' => ∃ v, e = .returned v ∧ Own w' w.heap.size v (zI (piecesL (bsL s))) ∧ Below w.heap.size w w' := by
  have HL : Hid (piecesL (bsL s) = piecesK (bsL s) (cntP s.size)) := by show _ = _; rw [piecesL, bsL_length]; rfl
  have hcn : cntP s.size = (s.size + 3) / 4 := rfl
  go_enter Try.func59, Try.ntmps59
  go_wp2_with fail
  go_loopg [3, 4] (cntP s.size) (fun gk v i wr => ∃ j : Nat, j + gk = cntP s.size ∧ i = .int .i64 ((4 * j : Nat) : Int) ∧ Own wr w.heap.size v (zI (piecesK (bsL s) j)) ∧ Below w.heap.size w wr)
  case atStart => exact ⟨0, by omega, rfl, Own.nil _ _, Below.refl _ _⟩
  case round =>
    obtain ⟨j, hg, rfl, hown, hbel⟩ := hrel
    have HO := Lib.hid hown
    have HB := Lib.hid hbel
    have hbs := hbel.size
    clear hown hbel
    by_cases hlt : 4 * j < s.size
    · have hki : ((4 * j : Nat) : Int) < (s.size : Int) := by omega
      have hj25 : j ≤ 25 := by omega
      have HX := Lib.hid (piecesK_succ (bsL s) j)
      have HPl := Lib.hid (piecesK_length (bsL s) j)
      have HGK : Hid (cntP s.size - j - 1 < gk ∧ j + 1 + (cntP s.size - j - 1) = cntP s.size) := by show _ ∧ _; omega
      generalize hI : 4 * j = i at *
      have HI := Lib.hid hI
      clear hI hg
      go_wp2_with fail
      go_loopg [5, 6] 4 (fun g2 p q wx => ∃ r : Nat, r + g2 = 4 ∧ q = .int .i64 ((i + r : Nat) : Int) ∧ p = .int .i64 (pn (bsL s) i r : Nat) ∧ wr = wx)
      case atStart => exact ⟨0, by omega, rfl, rfl, rfl⟩
      case round =>
        obtain ⟨r, hr, rfl, rfl, rfl⟩ := hrel
        by_cases hr4 : r < 4
        · have hri : ((i + r : Nat) : Int) < (i : Int) + 4 := by omega
          have hpl : pn (bsL s) i r < 16777216 := Nat.lt_of_lt_of_le (pn_lt (bsL_lt s) i r) (Nat.le_trans (Nat.pow_le_pow_right (n := 256) (by decide) (show r ≤ 3 by omega)) (by decide))
          have HR : Hid (pn (bsL s) i (r + 1) = pn (bsL s) i r * 256 + (bsL s).getD (i + r) 0) := rfl
          generalize pn (bsL s) i r = q at *
          by_cases hin : i + r < s.size
          · have hini : ((i + r : Nat) : Int) < (s.size : Int) := by omega
            have HY : Hid (pn (bsL s) i (r + 1) = q * 256 + (s[i + r]).toNat) := by show _ = _; rw [HR.out, bsL_at s hin]
            have hu : (s[i + r]).toNat < 256 := UInt8.toNat_lt _
            clear HR
            generalize hK : i + r = k at *
            have HK := Lib.hid hK
            clear hK
            go_wp2_with fail
            go_roundg (3 - r)
            case measure => omega
            case rel => exact ⟨r + 1, by omega, by rw [← Nat.add_assoc, HK.out]; go_num, by rw [HY.out]; go_num, rfl⟩
          · have hini : ¬ ((i + r : Nat) : Int) < (s.size : Int) := by omega
            have HY : Hid (pn (bsL s) i (r + 1) = q * 256) := by show _ = _; rw [HR.out, bsL_out s hin]; rfl
            clear HR
            generalize hK : i + r = k at *
            have HK := Lib.hid hK
            clear hK
            go_wp2_with fail
            go_roundg (3 - r)
            case measure => omega
            case rel => exact ⟨r + 1, by omega, by rw [← Nat.add_assoc, HK.out]; go_num, by rw [HY.out]; go_num, rfl⟩
        · obtain rfl : r = 4 := by omega
          have hri : ¬ ((i + 4 : Nat) : Int) < (i : Int) + 4 := by omega
          rw [pn_four]
          have HY : Hid (piecesK (bsL s) (j + 1) = piecesK (bsL s) j ++ [pieceN (bsL s) i]) := HX.out
          generalize pieceN (bsL s) i = z at *
          clear HX
          go_wp2_with (at_builtin; refine app_law wr w.heap.size _ (piecesK (bsL s) j) z rfl _ _ rfl rfl rfl HO.out hbs (by rw [HPl.out]; omega) w HB.out ?_)
          intro v' w' H'
          go_wp2_with fail
          go_roundg (cntP s.size - j - 1)
          case measure => exact HGK.out.1
          case rel => exact ⟨j + 1, HGK.out.2, by rw [show 4 * (j + 1) = i + 4 by have := HI.out; omega]; go_num, by rw [HY.out]; exact H'.out.1, H'.out.2.1⟩
    · have hki : ¬ ((4 * j : Nat) : Int) < (s.size : Int) := by omega
      obtain rfl : j = cntP s.size := by omega
      obtain ⟨A3, c3, rfl, _⟩ := HO.out.form
      go_wp2_with fail
      go_ret
      exact ⟨_, rfl, by rw [HL.out]; exact HO.out, HB.out⟩

def thingB (s : ByteArray) : Bool := decide (s.size ≤ 96)
def piecesI (s : ByteArray) : List Int := if thingB s = true then zI (piecesL (bsL s)) else []
theorem piecesI_len (s : ByteArray) : (piecesI s).length ≤ 24 := by
  unfold piecesI; split
  · rename_i h
    have h2 : s.size ≤ 96 := by simpa [thingB] using h
    rw [zI_length, piecesL_length, bsL_length]; unfold cntP; omega
  · simp
set_option maxRecDepth 100000 in
set_option maxHeartbeats 400000 in
theorem sPiecesOf_any (s : ByteArray) (w : World) :
    Calls Try.prog 24 #[.string s] w fun e w' => ∃ v, e = .returned (.tuple #[v, .bool (thingB s)]) ∧ Own w' w.heap.size v (piecesI s) ∧ Below w.heap.size w w' := by
  by_cases h : s.size ≤ 96
  · have hb : thingB s = true := by simpa [thingB] using h
    have HE : Hid (piecesI s = zI (piecesL (bsL s))) := by show _ = _; rw [piecesI, if_pos hb]
    have hi : ¬ (96 : Int) < (s.size : Int) := by omega
    rw [hb]
    go_enter Try.func24, Try.ntmps24
    go_wp2_with fail
    refine (sPieces s w h).mono ?_
    rintro e w1 ⟨v1, rfl, ho1, hb1⟩
    have HO := Lib.hid ho1
    obtain ⟨A1, c1, rfl, _⟩ := ho1.form
    clear ho1
    go_wp2_with fail
    go_ret2
    exact ⟨_, rfl, by rw [HE.out]; exact HO.out, hb1⟩
  · have hb : thingB s = false := by simpa [thingB] using h
    have HE : Hid (piecesI s = []) := by show _ = _; rw [piecesI, hb]; rfl
    have hi : (96 : Int) < (s.size : Int) := by omega
    rw [hb]
    go_enter Try.func24, Try.ntmps24
    go_wp2_with fail
    go_ret2
    exact ⟨_, rfl, by rw [HE.out]; exact Own.nil _ _, Below.refl _ _⟩

def pieceOkB (s : ByteArray) (k : Int) : Bool := thingB s && inB k 0 ((piecesI s).length - 1)
def pieceI (s : ByteArray) (k : Int) : Int := if pieceOkB s k = true then (piecesI s).getD k.toNat 0 else 0
theorem tupJ {a b : Int} {c d : Bool} (h : a = b) (k : c = d) : Ending.returned (.tuple #[.int .i64 a, .bool c]) = .returned (.tuple #[.int .i64 b, .bool d]) := by rw [h, k]
set_option maxRecDepth 100000 in
set_option maxHeartbeats 400000 in
theorem sPieceAt_any (s : ByteArray) (k : Int) (w : World) :
    Calls Try.prog 34 #[.string s, .int .i64 k] w fun e w' => e = .returned (.tuple #[.int .i64 (pieceI s k), .bool (pieceOkB s k)]) ∧ Below w.heap.size w w' := by
  have hlen := piecesI_len s
  cases ht : thingB s
  · have HE : Hid (pieceOkB s k = false) := by show _ = _; rw [pieceOkB, ht]; rfl
    go_enter Try.func34, Try.ntmps34
    go_wp2_with fail
    refine (sPiecesOf_any s w).mono ?_
    rintro e w1 ⟨v1, rfl, ho1, hb1⟩
    obtain ⟨A1, c1, rfl, _⟩ := ho1.form
    go_wp2_with fail
    go_ret2
    exact ⟨tupJ (by rw [pieceI, HE.out]; rfl) HE.out.symm, hb1⟩
  · cases hk : inB k 0 ((piecesI s).length - 1)
    · have HE : Hid (pieceOkB s k = false) := by show _ = _; rw [pieceOkB, hk]; simp
      go_enter Try.func34, Try.ntmps34
      go_wp2_with fail
      refine (sPiecesOf_any s w).mono ?_
      rintro e w1 ⟨v1, rfl, ho1, hb1⟩
      obtain ⟨A1, c1, rfl, _⟩ := ho1.form
      go_wp2_with (go_at_call 56; refine (l1In_any _ _ _ _).mono ?_; rintro e w' ⟨rfl, rfl⟩)
      go_ret2
      exact ⟨tupJ (by rw [pieceI, HE.out]; rfl) HE.out.symm, hb1⟩
    · have HE : Hid (pieceOkB s k = true) := by show _ = _; rw [pieceOkB, ht, hk]; rfl
      have h2 : 0 ≤ k ∧ k ≤ ((piecesI s).length : Int) - 1 := by simpa [inB] using hk
      obtain ⟨k, rfl⟩ := Int.eq_ofNat_of_zero_le h2.1
      have hkl : k < (piecesI s).length := by omega
      have HV : Hid (pieceI s k = (piecesI s)[k]) := by show _ = _; rw [pieceI, if_pos HE.out, Int.toNat_natCast]; simp [List.getD, hkl]
      have hki : (k : Int) < ((piecesI s).length : Int) := by omega
      go_enter Try.func34, Try.ntmps34
      go_wp2_with fail
      refine (sPiecesOf_any s w).mono ?_
      rintro e w1 ⟨v1, rfl, ho1, hb1⟩
      obtain ⟨A1, c1, rfl, hI1⟩ := ho1.form
      obtain ⟨b1, o1, rfl, hc1⟩ := hI1 (by intro e0; rw [e0] at hkl; simp at hkl)
      have hcell := hc1 k hkl
      rw [show (piecesI s).getD k 0 = (piecesI s)[k] by simp [List.getD, hkl]] at hcell
      clear ho1 hI1 hc1
      generalize (piecesI s)[k] = z at *
      go_wp2_with (go_at_call 56; refine (l1In_any _ _ _ _).mono ?_; rintro e w' ⟨rfl, rfl⟩)
      go_ret2
      exact ⟨tupJ HV.out.symm HE.out.symm, hb1⟩
end Go.Proofs.Ythabkkboodhbmaa
