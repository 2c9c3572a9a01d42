/-
  The program's chapter 4: TextOf.
-/
import Derived.Test.YthabkkboodhbmaaI1
namespace Go.Proofs.Ythabkkboodhbmaa
open Go.RowKit

theorem textBad {zs : List Int} {long : Int} (h : textOkB zs long = false) : textI zs long = strN [] := by rw [textI, h]; rfl
theorem map_take_nat (zs : List Int) (k : Nat) : (zs.take k).map Int.toNat = (zs.map Int.toNat).take k := List.map_take

set_option maxRecDepth 100000 in
set_option maxHeartbeats 2000000 in
theorem iTextOf_any (A : Option Addr) (zs : List Int) (ca : Nat) (long : Int) (w : World) (ha : Ints w A zs) (hl : zs.length ≤ 1048576) :
    Calls Try.prog 26 #[.slice A zs.length ca, .int .i64 long] w fun e w' => e = .returned (.tuple #[.string (textI zs long), .bool (textOkB zs long)]) ∧ Below w.heap.size w w' := by
  obtain ⟨i0, hi, hz0, hz1, hz2⟩ := info_parts byteInfo
  have HA := Lib.hid ha
  clear ha
  cases hlo : longOkB long
  · have HE : Hid (textOkB zs long = false) := by
      show _ = _
      rw [textOkB, show inB long 0 96 = false from hlo]
      simp
    go_enter Try.func26, Try.ntmps26
    go_wp2_with (go_at_call 48; refine (iGoodLong _ _).mono ?_; rintro e w' ⟨rfl, rfl⟩)
    go_ret2
    exact ⟨tupS (textBad HE.out).symm HE.out.symm, Below.refl _ _⟩
  · have h5 : 0 ≤ long ∧ long ≤ 96 := by simpa [longOkB, inB] using hlo
    obtain ⟨n, rfl⟩ := Int.eq_ofNat_of_zero_le h5.1
    have hn96 : n ≤ 96 := by omega
    have hc24 : cntP n ≤ 24 := by unfold cntP; omega
    have hcn : cntP n = (n + 3) / 4 := rfl
    by_cases hcl : zs.length = cntP n
    · have hne : ((zs.length : Int) != ((cntP n : Nat) : Int)) = false := by rw [hcl]; simp
      have HOk : Hid (textOkB zs (n : Int) = zs.all pieceB) := by
        show _ = _
        rw [textOkB, show inB (n : Int) 0 96 = true from hlo, Int.toNat_natCast, hcl]
        simp [hc24]
      have HLen := Lib.hid hcl
      have hl24 : zs.length ≤ 24 := by omega
      have HCn := Lib.hid hcn
      clear hcl hcn
      go_enter Try.func26, Try.ntmps26
      go_wp2_with (first
        | (go_at_call 48; refine (iGoodLong _ _).mono ?_; rintro e w' ⟨rfl, rfl⟩)
        | (go_at_call 50; refine (iPiecesFor n _ (by omega)).mono ?_; rintro e w' ⟨rfl, rfl⟩))
      go_loopg [6, 21] zs.length (fun gk v i wr => ∃ k : Nat, k + gk = zs.length ∧ i = .int .i64 k ∧ (zs.take k).all pieceB = true ∧ OwnY wr w.heap.size v (textL ((zs.map Int.toNat).take k)) ∧ Below w.heap.size w wr)
      case atStart => exact ⟨0, by omega, rfl, rfl, World.ownsRow_nil _ _ _ _, Below.refl _ _⟩
      case round =>
        obtain ⟨k, hg, rfl, hall, hown, hbel⟩ := hrel
        have HAll := Lib.hid hall
        have HO := Lib.hid hown
        have HB := Lib.hid hbel
        have hbs := hbel.size
        have HAr := Lib.hid (HA.out.below hbel)
        clear hown hbel hall
        by_cases hlt : k < zs.length
        · have hki : (k : Int) < (zs.length : Int) := by omega
          obtain ⟨b3, o3, rfl, hc3⟩ := HAr.out (by rintro rfl; simp at hlt)
          have hcz := hc3 k hlt
          rw [show zs.getD k 0 = zs[k] by simp [List.getD, hlt]] at hcz
          clear hc3
          have HNo := Lib.hid (fun h => all_no hlt h)
          have HYes := Lib.hid (fun h => all_take hlt HAll.out h)
          have HX := Lib.hid (text_snoc (P := zs.map Int.toNat) (j := k) (by rw [List.length_map]; exact hlt))
          rw [List.getElem_map] at HX
          generalize zs[k] = z at *
          cases hp : pieceB z
          · have HE : Hid (textOkB zs (n : Int) = false) := by show _ = _; rw [HOk.out]; exact HNo.out hp
            go_wp2_with (go_at_call 60; refine (iGoodPiece _ _).mono ?_; rintro e w' ⟨rfl, rfl⟩)
            go_ret2
            exact ⟨tupS (textBad HE.out).symm HE.out.symm, HB.out⟩
          · have HN := Lib.hid (HYes.out hp)
            have hz : 0 ≤ z ∧ z ≤ 4294967295 := by simpa [pieceB, inB] using hp
            have HP := Lib.hid (iGoodPiece z wr)
            rw [hp] at HP
            clear hp HNo HYes
            obtain ⟨z, rfl⟩ := Int.eq_ofNat_of_zero_le hz.1
            have hpl : z < 4294967296 := by omega
            rw [Int.toNat_natCast] at HX
            have HTl : Hid ((textL ((zs.map Int.toNat).take k)).length ≤ 96) := by show _ ≤ _; rw [textL_length, List.length_take, List.length_map]; omega
            have HGK : Hid (zs.length - k - 1 < gk ∧ k + 1 + (zs.length - k - 1) = zs.length) := by show _ ∧ _; omega
            have HBy : Hid ((byte4 z).map (fun (b : Nat) => Value.int .u8 (b : Int)) = [.int .u8 ((z : Int) / 16777216), .int .u8 ((z : Int) / 65536 % 256), .int .u8 ((z : Int) / 256 % 256), .int .u8 ((z : Int) % 256)]) := by
              show _ = _
              have e1 : ((z / 16777216 % 256 : Nat) : Int) = (z : Int) / 16777216 := by omega
              have e2 : ((z / 65536 % 256 : Nat) : Int) = (z : Int) / 65536 % 256 := by omega
              have e3 : ((z / 256 % 256 : Nat) : Int) = (z : Int) / 256 % 256 := by omega
              have e4 : ((z % 256 : Nat) : Int) = (z : Int) % 256 := by omega
              simp only [byte4, List.map_cons, List.map_nil, e1, e2, e3, e4]
            generalize hT : textL ((zs.map Int.toNat).take k) = T at *
            have HOR : Hid (wr.ownsRow w.heap.size 5 1 u6 T.length (T.map fun (b : Nat) => Value.int .u8 (b : Int))) := HO.out
            clear hT hg hlo
            go_wp2_with (first
              | (go_at_call 60; refine HP.out.mono ?_; rintro e w' ⟨rfl, rfl⟩)
              | (at_builtin; refine wpList_append_own _ rfl _ _ 22 rfl w.heap.size 5 i0 (.int .u8 0) 1 1 Try.underlying22 hi hz0 hz1 hz2 rfl (by decide) _ _ _ rfl (HOR.out.alloc _) ⟨wr.heap.size, 0, none⟩ 4 4 [.int .u8 ((z : Int) / 16777216), .int .u8 ((z : Int) / 65536 % 256), .int .u8 ((z : Int) / 256 % 256), .int .u8 ((z : Int) % 256)] rfl rfl ?c1 ?c2 ?c3 ?c4 ?c5 ?_))
            case c1 =>
              intro j u hj
              match j, hj with
              | 0, hj => simp at hj; subst hj; simp [Addr.add]
              | 1, hj => simp at hj; subst hj; simp [Addr.add]
              | 2, hj => simp at hj; subst hj; simp [Addr.add]
              | 3, hj => simp at hj; subst hj; simp [Addr.add]
              | j + 4, hj => simp at hj
            case c2 => intro u hu; simp at hu; rcases hu with rfl | rfl | rfl | rfl <;> rfl
            case c3 => have := HTl.out; unfold maxLen; omega
            case c4 => have := HTl.out; omega
            case c5 => simp; omega
            · intro v' w1 hown' hgrow _
              have HO1 : Hid (OwnY w1 w.heap.size v' (textL ((zs.map Int.toNat).take (k + 1)))) := by
                show w1.ownsRow _ _ _ _ _ _
                rw [HX.out, List.map_append, HBy.out, List.length_append]
                exact hown'
              have HB1 : Hid (Below w.heap.size w w1) := grown_below HB.out hbs HOR.out hgrow
              clear hown' hgrow
              go_wp2_with fail
              go_roundg (zs.length - k - 1)
              case measure => exact HGK.out.1
              case rel => exact ⟨k + 1, HGK.out.2, by go_num, HN.out, HO1.out, HB1.out⟩
        · obtain rfl : k = zs.length := by omega
          rw [List.take_length] at HAll
          have hki : ¬ (zs.length : Int) < (zs.length : Int) := by omega
          have HE : Hid (textOkB zs (n : Int) = true) := by show _ = _; rw [HOk.out]; exact HAll.out
          have hTk : (zs.map Int.toNat).take zs.length = zs.map Int.toNat := List.take_of_length_le (by rw [List.length_map]; exact Nat.le_refl _)
          have HOR : Hid (wr.ownsRow w.heap.size 5 1 u6 (textL (zs.map Int.toNat)).length ((textL (zs.map Int.toNat)).map fun (b : Nat) => Value.int .u8 (b : Int))) := by
            have := HO.out
            rw [hTk] at this
            exact this
          have HV : Hid (textI zs (n : Int) = strN ((textL (zs.map Int.toNat)).take n)) := by show _ = _; rw [textI, if_pos HE.out, Int.toNat_natCast]
          have htl : (textL (zs.map Int.toNat)).length = 4 * zs.length := by rw [textL_length, List.length_map]
          have hL := HLen.out
          have hcn := HCn.out
          rcases own_bytes HOR.out with ⟨rfl, h0⟩ | ⟨g, cap, rfl, hcap, hcs⟩
          · have hl0 : n = 0 := by omega
            subst hl0
            have hcv := conv_nil wr
            have HV0 : Hid (textI zs 0 = strN []) := HV.out
            have HE0 : Hid (textOkB zs 0 = true) := HE.out
            clear htl hTk h0 hL hcn
            go_wp2_with fail
            go_ret2
            exact ⟨tupS HV0.out.symm HE0.out.symm, HB.out⟩
          · have hli : (n : Int) ≤ (cap : Int) := by omega
            have hcv := conv_bytes (cap := cap) hcs (show n ≤ (textL (zs.map Int.toNat)).length by omega)
            clear hcs htl hTk hL hcap hcn
            generalize strN ((textL (zs.map Int.toNat)).take n) = S at *
            generalize (textL (zs.map Int.toNat)).length = M at *
            go_wp2_with fail
            go_ret2
            exact ⟨tupS HV.out.symm HE.out.symm, HB.out⟩
    · have hne : ((zs.length : Int) != ((cntP n : Nat) : Int)) = true := by simp; omega
      have HE : Hid (textOkB zs (n : Int) = false) := by show _ = _; rw [textOkB, Int.toNat_natCast]; simp; intro _ _ _; omega
      go_enter Try.func26, Try.ntmps26
      go_wp2_with (first
        | (go_at_call 48; refine (iGoodLong _ _).mono ?_; rintro e w' ⟨rfl, rfl⟩)
        | (go_at_call 50; refine (iPiecesFor n _ (by omega)).mono ?_; rintro e w' ⟨rfl, rfl⟩))
      go_ret2
      exact ⟨tupS (textBad HE.out).symm HE.out.symm, Below.refl _ _⟩
end Go.Proofs.Ythabkkboodhbmaa
