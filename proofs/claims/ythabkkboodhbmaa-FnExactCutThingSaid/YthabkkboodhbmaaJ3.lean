/-
  The model of chapter 4: the text of pieces.
-/
import Derived.Test.YthabkkboodhbmaaJ2
import Derived.Laws.BytesArg
namespace Go.Proofs.Ythabkkboodhbmaa
open Go.RowKit

/-- A slice of bytes of the call's own. -/
def OwnY (w : World) (base : Nat) (v : Value) (bs : List Nat) : Prop := w.ownsRow base 5 1 v bs.length (bs.map fun (b : Nat) => Value.int .u8 (b : Int))
theorem byteInfo : (Try.prog.info? 5).map (fun i => (i.zero, i.size, i.bytes)) = some (some (.int .u8 0), 1, 1) := by kernel_rfl
def strN (B : List Nat) : ByteArray := ⟨(B.map UInt8.ofNat).toArray⟩
theorem text_snoc {P : List Nat} {j : Nat} (h : j < P.length) : textL (P.take (j + 1)) = textL (P.take j) ++ byte4 P[j] := by
  rw [List.take_succ_eq_append_getElem h, textL_append]; simp [textL]

theorem grown_below {w wr w1 : World} {base n size : Nat} {e : TypeId} {v : Value} {xs : List Value} {o : Obj} (hb : Below base w wr) (hs : base ≤ wr.heap.size) (ho : wr.ownsRow base e size v n xs) (hg : (wr.alloc o).grownBy w1 v.ownBlock) : Below base w w1 :=
  (hb.alloc hs o).grown hg (Nat.le_trans hs (by simp)) (fun k hk => (World.ownsRow.lt ho k hk).1)
theorem own_bytes {w : World} {base : Nat} {v : Value} {T : List Nat} (h : w.ownsRow base 5 1 v T.length (T.map fun (b : Nat) => Value.int .u8 (b : Int))) :
    (v = .slice none 0 0 ∧ T.length = 0) ∨ ∃ g cap, v = .slice (some ⟨g, 0, none⟩) T.length cap ∧ T.length ≤ cap ∧ ∀ j (hj : j < T.length), w.cell? ⟨g, j, none⟩ = some (.int .u8 (T[j] : Nat)) := by
  rcases h.2 with ⟨rfl, hn⟩ | ⟨g, cap, cur, rfl, hb, hg, hle, hcm, hcs, ht⟩
  · exact Or.inl ⟨rfl, hn⟩
  · refine Or.inr ⟨g, cap, rfl, hle, fun j hj => ?_⟩
    rw [h.cellAt j (by omega)]
    simp [hj]

theorem conv_nil (w : World) : (convert 22 9 (.slice none 0 0)).run Try.prog w = .ok (.string (strN [])) w := by
  rw [run_convert_bytes_string w _ _ 5 _ _ _ Try.underlying22 Try.underlying5 Try.underlying9]; rfl
theorem conv_bytes {w : World} {g cap long : Nat} {T : List Nat} (h : ∀ j (hj : j < T.length), w.cell? ⟨g, j, none⟩ = some (.int .u8 (T[j] : Nat))) (hl : long ≤ T.length) :
    (convert 22 9 (.slice (some ⟨g, 0, none⟩) long cap)).run Try.prog w = .ok (.string (strN (T.take long))) w := by
  have hlen : (T.take long).length = long := by simp; omega
  have hload := run_loadCells_list (P := Try.prog) (w := w) ⟨g, 0, none⟩ (((T.take long).map fun (n : Nat) => (n : Int)).map (Value.int .u8)) (fun j v hj => by
    rw [List.map_map, List.getElem?_map] at hj
    have hjl : j < long := by
      rcases Nat.lt_or_ge j long with h1 | h1
      · exact h1
      · rw [List.getElem?_eq_none (by rw [hlen]; exact h1)] at hj; cases hj
    rw [List.getElem?_take_of_lt hjl, List.getElem?_eq_getElem (by omega)] at hj
    have := h j (by omega)
    rw [show (⟨g, 0, none⟩ : Addr).add j = ⟨g, j, none⟩ by unfold Addr.add; split <;> simp_all, this]
    simpa using hj)
  rw [List.length_map, List.length_map, hlen] at hload
  rw [run_convert_bytes_string w _ _ 5 _ _ _ Try.underlying22 Try.underlying5 Try.underlying9, run_bytesToString w _ long cap _ hload, foldl_push_bytes]
  congr 2
  simp [strN, List.map_map]
  rfl

set_option maxRecDepth 100000 in
set_option maxHeartbeats 2000000 in
theorem sText (A : Option Addr) (P : List Nat) (ca long : Nat) (w : World) (ha : Ints w A (zI P)) (hP : ∀ p ∈ P, p < 4294967296) (hl : P.length ≤ 24) (hlong : long ≤ 4 * P.length) :
    Calls Try.prog 62 #[.slice A P.length ca, .int .i64 long] w fun e w' => e = .returned (.string (strN ((textL P).take long))) ∧ Below w.heap.size w w' := by
  obtain ⟨i0, hi, hz0, hz1, hz2⟩ := info_parts byteInfo
  have HA := Lib.hid ha
  have HP := Lib.hid hP
  clear ha hP
  go_enter Try.func62, Try.ntmps62
  go_wp2_with fail
  go_loopg [5, 10] P.length (fun gk v i wr => ∃ k : Nat, k + gk = P.length ∧ i = .int .i64 k ∧ OwnY wr w.heap.size v (textL (P.take k)) ∧ Below w.heap.size w wr)
  case atStart => exact ⟨0, by omega, rfl, World.ownsRow_nil _ _ _ _, Below.refl _ _⟩
  case round =>
    obtain ⟨k, hg, rfl, hown, hbel⟩ := hrel
    have HO := Lib.hid hown
    have HB := Lib.hid hbel
    have hbs := hbel.size
    have HAr := Lib.hid (HA.out.below hbel)
    clear hown hbel
    by_cases hlt : k < P.length
    · have hki : (k : Int) < (P.length : Int) := by omega
      obtain ⟨b3, o3, rfl, hc3⟩ := HAr.out.cellN hlt
      have hpl := HP.out P[k] (List.getElem_mem hlt)
      have HX := Lib.hid (text_snoc hlt)
      generalize P[k] = z at *
      have HTl : Hid ((textL (P.take k)).length ≤ 96) := by show _ ≤ _; rw [textL_length, List.length_take]; omega
      have HGK : Hid (P.length - k - 1 < gk ∧ k + 1 + (P.length - k - 1) = P.length) := by show _ ∧ _; omega
      have HBy : Hid ((byte4 z).map (fun (b : Nat) => Value.int .u8 (b : Int)) = [.int .u8 ((z : Int) / 16777216), .int .u8 ((z : Int) / 65536 % 256), .int .u8 ((z : Int) / 256 % 256), .int .u8 ((z : Int) % 256)]) := by
        show _ = _
        have e1 : ((z / 16777216 % 256 : Nat) : Int) = (z : Int) / 16777216 := by omega
        have e2 : ((z / 65536 % 256 : Nat) : Int) = (z : Int) / 65536 % 256 := by omega
        have e3 : ((z / 256 % 256 : Nat) : Int) = (z : Int) / 256 % 256 := by omega
        have e4 : ((z % 256 : Nat) : Int) = (z : Int) % 256 := by omega
        simp only [byte4, List.map_cons, List.map_nil, e1, e2, e3, e4]
      generalize hT : textL (P.take k) = T at *
      have HOR : Hid (wr.ownsRow w.heap.size 5 1 u5 T.length (T.map fun (b : Nat) => Value.int .u8 (b : Int))) := HO.out
      clear hT hg
      go_wp2_with (at_builtin; refine wpList_append_own _ rfl _ _ 22 rfl w.heap.size 5 i0 (.int .u8 0) 1 1 Try.underlying22 hi hz0 hz1 hz2 rfl (by decide) _ _ _ rfl (HOR.out.alloc _) ⟨wr.heap.size, 0, none⟩ 4 4 [.int .u8 ((z : Int) / 16777216), .int .u8 ((z : Int) / 65536 % 256), .int .u8 ((z : Int) / 256 % 256), .int .u8 ((z : Int) % 256)] rfl rfl ?c1 ?c2 ?c3 ?c4 ?c5 ?_)
      case c1 =>
        intro j u hj
        match j, hj with
        | 0, hj => simp at hj; subst hj; simp [Addr.add]
        | 1, hj => simp at hj; subst hj; simp [Addr.add]
        | 2, hj => simp at hj; subst hj; simp [Addr.add]
        | 3, hj => simp at hj; subst hj; simp [Addr.add]
        | j + 4, hj => simp at hj
      case c2 => intro u hu; simp at hu; rcases hu with rfl | rfl | rfl | rfl <;> rfl
      case c3 => have := HTl.out; unfold maxLen; omega
      case c4 => have := HTl.out; omega
      case c5 => simp; omega
      · intro v' w1 hown' hgrow _
        have HO1 : Hid (OwnY w1 w.heap.size v' (textL (P.take (k + 1)))) := by
          show w1.ownsRow _ _ _ _ _ _
          rw [HX.out, List.map_append, HBy.out, List.length_append]
          exact hown'
        have HB1 : Hid (Below w.heap.size w w1) := grown_below HB.out hbs HOR.out hgrow
        clear hown' hgrow
        go_wp2_with fail
        go_roundg (P.length - k - 1)
        case measure => exact HGK.out.1
        case rel => exact ⟨k + 1, HGK.out.2, by go_num, HO1.out, HB1.out⟩
    · obtain rfl : k = P.length := by omega
      rw [List.take_length] at HO
      have hki : ¬ (P.length : Int) < (P.length : Int) := by omega
      have HOR : Hid (wr.ownsRow w.heap.size 5 1 u5 (textL P).length ((textL P).map fun (b : Nat) => Value.int .u8 (b : Int))) := HO.out
      rcases own_bytes HOR.out with ⟨rfl, h0⟩ | ⟨g, cap, rfl, hcap, hcs⟩
      · have hl0 : long = 0 := by rw [textL_length] at h0; omega
        subst hl0
        have hcv := conv_nil wr
        go_wp2_with fail
        go_ret
        exact ⟨rfl, HB.out⟩
      · have hcl : (textL P).length = 4 * P.length := textL_length P
        have hli : (long : Int) ≤ (cap : Int) := by omega
        have hcv := conv_bytes (cap := cap) hcs (show long ≤ (textL P).length by omega)
        clear hcs
        go_wp2_with fail
        go_ret
        exact ⟨rfl, HB.out⟩
theorem zI_nat (P : List Nat) : (zI P).map Int.toNat = P := by
  induction P with
  | nil => rfl
  | cons p P ih =>
    simp only [zI, List.map_cons, Int.toNat_natCast] at ih ⊢
    rw [ih]

def pieceB (z : Int) : Bool := inB z 0 4294967295
def textOkB (zs : List Int) (long : Int) : Bool := zs.all pieceB && (decide (zs.length ≤ 24) && (inB long 0 96 && decide (cntP long.toNat = zs.length)))
def textI (zs : List Int) (long : Int) : ByteArray := if textOkB zs long = true then strN ((textL (zs.map Int.toNat)).take long.toNat) else strN []
theorem strN_nil : strN [] = ⟨#[]⟩ := rfl
theorem text_ok {zs : List Int} {long : Int} (h : textOkB zs long = true) : ∃ (P : List Nat) (n : Nat), zs = zI P ∧ long = n ∧ (∀ p ∈ P, p < 4294967296) ∧ P.length ≤ 24 ∧ n ≤ 96 ∧ cntP n = P.length := by
  simp only [textOkB, Bool.and_eq_true, decide_eq_true_eq, List.all_eq_true] at h
  obtain ⟨h1, h2, h3, h4⟩ := h
  have h5 : 0 ≤ long ∧ long ≤ 96 := by simpa [inB] using h3
  have h6 : zI (zs.map Int.toNat) = zs := by
    unfold zI
    rw [List.map_map]
    conv => rhs; rw [← List.map_id zs]
    refine List.map_congr_left fun z hz => ?_
    have := h1 z hz
    simp [pieceB, inB] at this
    simp; omega
  refine ⟨zs.map Int.toNat, long.toNat, h6.symm, by omega, fun p hp => ?_, by simpa using h2, by omega, by simpa using h4⟩
  obtain ⟨z, hz, rfl⟩ := List.mem_map.1 hp
  have := h1 z hz
  simp [pieceB, inB] at this
  omega

set_option maxRecDepth 100000 in
set_option maxHeartbeats 400000 in
theorem sPieceB (z : Int) (w : World) : Calls Try.prog 61 #[.int .i64 z] w fun e w' => e = .returned (.bool (pieceB z)) ∧ w = w' := by
  go_enter Try.func61, Try.ntmps61
  go_wp2_with (go_at_call 56; refine (l1In_any _ _ _ _).mono ?_; rintro e w' ⟨rfl, rfl⟩)
  go_ret
  exact ⟨rfl, rfl⟩

theorem all_take {zs : List Int} {k : Nat} (hk : k < zs.length) (h : (zs.take k).all pieceB = true) (h2 : pieceB zs[k] = true) : (zs.take (k + 1)).all pieceB = true := by
  rw [List.take_succ_eq_append_getElem hk, List.all_append, h]; simp [h2]
theorem all_no {zs : List Int} {k : Nat} (hk : k < zs.length) (h : pieceB zs[k] = false) : zs.all pieceB = false := by
  rw [List.all_eq_false]
  exact ⟨zs[k], List.getElem_mem hk, by simp [h]⟩
theorem tupS {a b : ByteArray} {c d : Bool} (h : a = b) (k : c = d) : Ending.returned (.tuple #[.string a, .bool c]) = .returned (.tuple #[.string b, .bool d]) := by rw [h, k]

set_option maxRecDepth 100000 in
set_option maxHeartbeats 2000000 in
theorem sTextOf_any (A : Option Addr) (zs : List Int) (ca : Nat) (long : Int) (w : World) (ha : Ints w A zs) (hl : zs.length ≤ 1048576) :
    Calls Try.prog 31 #[.slice A zs.length ca, .int .i64 long] w fun e w' => e = .returned (.tuple #[.string (textI zs long), .bool (textOkB zs long)]) ∧ Below w.heap.size w w' := by
  have HA := Lib.hid ha
  clear ha
  go_enter Try.func31, Try.ntmps31
  go_wp2_with fail
  go_loopg [10] zs.length (fun gk i wr => ∃ k : Nat, k + gk = zs.length ∧ i = .int .i64 k ∧ (zs.take k).all pieceB = true ∧ w = wr)
  case atStart => exact ⟨0, by omega, rfl, rfl, rfl⟩
  case round =>
    obtain ⟨k, hg, rfl, hall, rfl⟩ := hrel
    have HAll := Lib.hid hall
    clear hall
    by_cases hlt : k < zs.length
    · have hki : (k : Int) < (zs.length : Int) := by omega
      obtain ⟨b3, o3, rfl, hc3⟩ := HA.out (by rintro rfl; simp at hlt)
      have hcz := hc3 k hlt
      rw [show zs.getD k 0 = zs[k] by simp [List.getD, hlt]] at hcz
      clear hc3
      cases hp : pieceB zs[k]
      · have HE : Hid (textOkB zs long = false) := by show _ = _; rw [textOkB, all_no hlt hp]; rfl
        generalize zs[k] = z at *
        go_wp2_with (go_at_call 61; refine (sPieceB _ _).mono ?_; rintro e w' ⟨rfl, rfl⟩)
        go_ret2
        exact ⟨tupS (by rw [textI, HE.out]; rfl) HE.out.symm, Below.refl _ _⟩
      · have HN := Lib.hid (all_take hlt HAll.out hp)
        generalize zs[k] = z at *
        go_wp2_with (go_at_call 61; refine (sPieceB _ _).mono ?_; rintro e w' ⟨rfl, rfl⟩)
        go_roundg (zs.length - k - 1)
        case measure => omega
        case rel => exact ⟨k + 1, by omega, by go_num, HN.out, rfl⟩
    · obtain rfl : k = zs.length := by omega
      rw [List.take_length] at HAll
      by_cases h24 : zs.length ≤ 24
      · have hi24 : ¬ (24 : Int) < (zs.length : Int) := by omega
        cases hlo : inB long 0 96
        · have HE : Hid (textOkB zs long = false) := by show _ = _; rw [textOkB, hlo]; simp
          go_wp2_with (go_at_call 56; refine (l1In_any _ _ _ _).mono ?_; rintro e w' ⟨rfl, rfl⟩)
          go_ret2
          exact ⟨tupS (by rw [textI, HE.out]; rfl) HE.out.symm, Below.refl _ _⟩
        · have h5 : 0 ≤ long ∧ long ≤ 96 := by simpa [inB] using hlo
          obtain ⟨n, rfl⟩ := Int.eq_ofNat_of_zero_le h5.1
          by_cases hcn : cntP n = zs.length
          · have HE : Hid (textOkB zs (n : Int) = true) := by show _ = _; rw [textOkB, HAll.out, hlo, Int.toNat_natCast]; simp [h24, hcn]
            obtain ⟨P, n', hz, hn', hP, hPl, hn96, hcP⟩ := text_ok HE.out
            obtain rfl : n = n' := by omega
            subst hz
            have HV : Hid (textI (zI P) (n : Int) = strN ((textL P).take n)) := by
              show _ = _
              rw [textI, if_pos HE.out, Int.toNat_natCast, zI_nat]
            have hne : (((cntP n : Nat) : Int) != ((zI P).length : Int)) = false := by rw [hcn]; simp
            have hT := sText A P ca n w HA.out hP hPl (by unfold cntP at hcP; omega)
            rw [← zI_length P] at hT
            go_wp2_with (first
              | (go_at_call 56; refine (l1In_any _ _ _ _).mono ?_; rintro e w' ⟨rfl, rfl⟩)
              | (go_at_call 57; refine (sCount n _ (by omega)).mono ?_; rintro e w' ⟨rfl, rfl⟩)
              | (go_at_call 62; refine hT.mono ?_; rintro e w1 ⟨rfl, hb1⟩))
            go_ret2
            exact ⟨tupS HV.out.symm HE.out.symm, hb1⟩
          · have HE : Hid (textOkB zs (n : Int) = false) := by show _ = _; rw [textOkB, Int.toNat_natCast]; simp [hcn]
            have hne : (((cntP n : Nat) : Int) != (zs.length : Int)) = true := by simp; omega
            go_wp2_with (first
              | (go_at_call 56; refine (l1In_any _ _ _ _).mono ?_; rintro e w' ⟨rfl, rfl⟩)
              | (go_at_call 57; refine (sCount n _ (by omega)).mono ?_; rintro e w' ⟨rfl, rfl⟩))
            go_ret2
            exact ⟨tupS (by rw [textI, HE.out]; rfl) HE.out.symm, Below.refl _ _⟩
      · have hi24 : (24 : Int) < (zs.length : Int) := by omega
        have HE : Hid (textOkB zs long = false) := by show _ = _; rw [textOkB]; simp [h24]
        go_wp2_with fail
        go_ret2
        exact ⟨tupS (by rw [textI, HE.out]; rfl) HE.out.symm, Below.refl _ _⟩
end Go.Proofs.Ythabkkboodhbmaa
