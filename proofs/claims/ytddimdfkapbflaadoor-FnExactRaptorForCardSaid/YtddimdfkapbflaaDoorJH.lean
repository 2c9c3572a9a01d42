/-
  The model of chapter 5: l1Sum over pieces, l5Block, LetterFor.
-/
import Derived.Test.YtddimdfkapbflaaDoorJG
namespace Go.Proofs.YtddimdfkapbflaaDoor
open Go.RowKit

theorem xorL_snoc (f : Nat → Nat) (P : List Nat) (p : Nat) : xorL f (P ++ [p]) = xorL f P ^^^ f p := by rw [xorL, List.foldl_append]; rfl
theorem sumN_lt {R K : List Nat} {b : Nat} (h : ∀ r ∈ R, r < 2 ^ b) : sumN R K < 2 ^ b := xorL_lt fun k _ => by
  rcases Nat.lt_or_ge k R.length with hk | hk
  · rw [show R.getD k 0 = R[k] by simp [List.getD, hk]]; exact h _ (List.getElem_mem hk)
  · rw [show R.getD k 0 = 0 by simp [List.getD, hk]]; exact Nat.two_pow_pos b
theorem sumN_snoc {R K : List Nat} {j : Nat} (hj : j < K.length) : sumN R (K.take (j + 1)) = sumN R (K.take j) ^^^ R.getD K[j] 0 := by
  rw [List.take_succ_eq_append_getElem hj, sumN, xorL_snoc]; rfl

set_option maxRecDepth 100000 in
set_option maxHeartbeats 1000000 in
theorem sSumN (A B : Option Addr) (R K : List Nat) (ca cb : Nat) (w : World) (ha : Ints w A (zI R)) (hb : Ints w B (zI K)) (hR : ∀ r ∈ R, r < 2 ^ 32) (hK : ∀ k ∈ K, k < R.length) (hl2 : K.length ≤ 1048576) :
    Calls Tryd.prog 24 #[.slice A R.length ca, .slice B K.length cb] w fun e w' => e = .returned (.int .i64 (sumN R K : Nat)) ∧ w = w' := by
  have HA := Lib.hid ha
  have HB := Lib.hid hb
  have HR := Lib.hid hR
  have HK := Lib.hid hK
  clear ha hb hR hK
  go_enter Tryd.func24, Tryd.ntmps24
  go_wp2_with fail
  go_loopg [5, 10] K.length (fun gk a i wr => ∃ k : Nat, k + gk = K.length ∧ i = .int .i64 k ∧ a = .int .i64 (sumN R (K.take k) : Nat) ∧ w = wr)
  case atStart => exact ⟨0, by omega, rfl, rfl, rfl⟩
  case round =>
    obtain ⟨k, hg, rfl, rfl, rfl⟩ := hrel
    by_cases hlt : k < K.length
    · have hki : (k : Int) < (K.length : Int) := by omega
      obtain ⟨b3, o3, rfl, hc3⟩ := HB.out.cellN hlt
      have hzl := HK.out K[k] (List.getElem_mem hlt)
      have HS := Lib.hid (sumN_snoc (R := R) hlt)
      have hs32 := sumN_lt (K := K.take k) HR.out
      generalize K[k] = z at *
      obtain ⟨b4, o4, rfl, hc4⟩ := HA.out.cellN hzl
      have hr32 := HR.out R[z] (List.getElem_mem hzl)
      rw [show R.getD z 0 = R[z] by simp [List.getD, hzl]] at HS
      generalize R[z] = y at *
      generalize sumN R (K.take k) = q at *
      have hx := xor_i64 q y (by omega) (by omega)
      have hzi : (z : Int) < (R.length : Int) := by omega
      go_wp2_with fail
      go_roundg (K.length - k - 1)
      case measure => omega
      case rel => exact ⟨k + 1, by omega, by go_num, by rw [HS.out], rfl⟩
    · obtain rfl : k = K.length := by omega
      rw [List.take_length]
      have hki : ¬ (K.length : Int) < (K.length : Int) := by omega
      go_wp2_with fail
      go_ret
      exact ⟨rfl, rfl⟩

def blkOkB (zs : List Int) : Bool := pcOkB zs.length && allIn zs 4294967295
def letOkB (zs : List Int) (no : Int) : Bool := blkOkB zs && noOkB no
def letNoI (zs : List Int) (no : Int) : Int := if letOkB zs no = true then no else 0
def letSumI (zs : List Int) (no : Int) : Int := if letOkB zs no = true then (sumN (zs.map Int.toNat) (partsL no.toNat zs.length) : Nat) else 0
theorem blk_nat {zs : List Int} (h : blkOkB zs = true) : ∃ B : List Nat, zs = zI B ∧ 1 ≤ B.length ∧ B.length ≤ 8 ∧ ∀ b ∈ B, b < 2 ^ 32 := by
  simp only [blkOkB, pcOkB, allIn, inB, Bool.and_eq_true, List.all_eq_true, decide_eq_true_eq] at h
  obtain ⟨⟨h1, h2⟩, h3⟩ := h
  have h6 : zI (zs.map Int.toNat) = zs := by
    unfold zI
    rw [List.map_map]
    conv => rhs; rw [← List.map_id zs]
    refine List.map_congr_left fun z hz => ?_
    have := h3 z hz
    simp; omega
  refine ⟨zs.map Int.toNat, h6.symm, by rw [List.length_map]; omega, by rw [List.length_map]; omega, fun b hb => ?_⟩
  obtain ⟨z, hz, rfl⟩ := List.mem_map.1 hb
  have := h3 z hz
  omega
theorem zI_toNat (P : List Nat) : (zI P).map Int.toNat = P := by
  unfold zI
  rw [List.map_map]
  conv => rhs; rw [← List.map_id P]
  exact List.map_congr_left fun z _ => by simp

set_option maxRecDepth 100000 in
set_option maxHeartbeats 400000 in
theorem sBlk (A : Option Addr) (zs : List Int) (ca : Nat) (w : World) (ha : Ints w A zs) (hl : zs.length ≤ 1048576) :
    Calls Tryd.prog 22 #[.slice A zs.length ca] w fun e w' => e = .returned (.bool (blkOkB zs)) ∧ w = w' := by
  cases h : pcOkB (zs.length : Int)
  · have HE : Hid (blkOkB zs = false) := by show _ = _; rw [blkOkB, h]; rfl
    go_enter Tryd.func22, Tryd.ntmps22
    go_wp2_with (go_at_call 32; refine (sPc _ _).mono ?_; rintro e w' ⟨rfl, rfl⟩)
    go_ret
    exact ⟨ret_bool' HE.out.symm, rfl⟩
  · have HE : Hid (blkOkB zs = allIn zs 4294967295) := by show _ = _; rw [blkOkB, h]; rfl
    go_enter Tryd.func22, Tryd.ntmps22
    go_wp2_with (first
      | (go_at_call 32; refine (sPc _ _).mono ?_; rintro e w' ⟨rfl, rfl⟩)
      | (go_at_call 33; refine (sAll A zs ca _ _ ha hl).mono ?_; rintro e w' ⟨rfl, rfl⟩))
    go_ret
    exact ⟨ret_bool' HE.out.symm, rfl⟩

/-- A letter as a value. -/
abbrev letV (x y : Int) : Value := .agg #[.int .i64 x, .int .i64 y]
theorem infoLet : (Tryd.prog.info? 24).map (·.size) = some 2 := by kernel_rfl
theorem ret_let2 {fn : Func} {p u : Tmp} (h : fn.results = #[.cell p 24, .tmp u]) {R : Ending → World → Prop} {a : Act} {w : World} (g : Nat) (x y : Int) (b : Bool) (hp : a.tmps.getD p undef = .pointer (some ⟨g, 0, none⟩)) (hu : a.tmps.getD u undef = .bool b)
    (hg : w.heap[g]? = some (.cells #[.int .i64 x, .int .i64 y] 24 (0, 0))) (hd : a.defers = []) (hR : R (.returned (.tuple #[letV x y, .bool b])) w) : bodyPost Tryd.prog fn R .ret a w := by
  have hp' : a.tmps[p]?.getD undef = .pointer (some ⟨g, 0, none⟩) := by simpa using hp
  have hu' : a.tmps[u]?.getD undef = .bool b := by simpa using hu
  refine bodyPost_ret (v := .tuple #[letV x y, .bool b]) ?_ hd hR
  rw [results_cell_tmp h]
  simp [hp', hu', asAddr, run_loadVar_row w g 24 24 #[.int .i64 x, .int .i64 y] (0, 0) _ hg Tryd.underlying24 rfl infoLet]
theorem tupL {a b a' b' : Int} {c d : Bool} (h1 : a = a') (h2 : b = b') (k : c = d) : Ending.returned (.tuple #[letV a b, .bool c]) = .returned (.tuple #[letV a' b', .bool d]) := by rw [h1, h2, k]
theorem gAlloc (w : World) (o : Obj) : Below w.heap.size w (w.alloc o) := (Below.refl _ w).alloc (Nat.le_refl _) _

set_option maxRecDepth 100000 in
set_option maxHeartbeats 1000000 in
theorem sLetter_any (A : Option Addr) (zs : List Int) (ca : Nat) (no : Int) (w : World) (ha : Ints w A zs) (hl : zs.length ≤ 1048576) :
    Calls Tryd.prog 14 #[.slice A zs.length ca, .int .i64 no] w fun e w' => e = .returned (.tuple #[letV (letNoI zs no) (letSumI zs no), .bool (letOkB zs no)]) ∧ Below w.heap.size w w' := by
  have HA := Lib.hid ha
  have ha' := ha.below (gAlloc w (.cells #[.int .i64 0, .int .i64 0] 24))
  have h2 : (w.alloc (.cells #[.int .i64 0, .int .i64 0] 24)).heap[w.heap.size]? = some (.cells #[.int .i64 0, .int .i64 0] 24 (0, 0)) := heap_alloc_new _ _
  cases h : letOkB zs no
  · have HE : Hid (letNoI zs no = 0 ∧ letSumI zs no = 0) := by show _ ∧ _; simp [letNoI, letSumI, h]
    cases hb : blkOkB zs
    · clear ha
      go_enter Tryd.func14, Tryd.ntmps14
      go_wp2_with (go_at_call 22; refine (sBlk A zs ca _ ha' hl).mono ?_; rintro e w' ⟨rfl, rfl⟩)
      obtain ⟨e1, e2⟩ := HE.out
      exact ret_let2 rfl w.heap.size 0 0 false rfl rfl h2 rfl ⟨tupL e1.symm e2.symm rfl, gAlloc _ _⟩
    · have hn : noOkB no = false := by rw [letOkB, hb] at h; simpa using h
      clear ha
      go_enter Tryd.func14, Tryd.ntmps14
      go_wp2_with (first
        | (go_at_call 22; refine (sBlk A zs ca _ ha' hl).mono ?_; rintro e w' ⟨rfl, rfl⟩)
        | (go_at_call 13; refine (sNo _ _).mono ?_; rintro e w' ⟨rfl, rfl⟩))
      obtain ⟨e1, e2⟩ := HE.out
      exact ret_let2 rfl w.heap.size 0 0 false rfl rfl h2 rfl ⟨tupL e1.symm e2.symm rfl, gAlloc _ _⟩
  · have HOk := Lib.hid h
    obtain ⟨hb, hn⟩ : blkOkB zs = true ∧ noOkB no = true := by simpa [letOkB] using h
    obtain ⟨B, rfl, hB1, hB8, hB32⟩ := blk_nat hb
    obtain ⟨m, rfl⟩ : ∃ m : Nat, no = m := ⟨no.toNat, by simp [noOkB, inB] at hn; omega⟩
    have hm : m ≤ 999 := by simp [noOkB, inB] at hn; omega
    have hzl := zI_length B
    have HV : Hid (letNoI (zI B) (m : Int) = (m : Int) ∧ letSumI (zI B) (m : Int) = (sumN B (partsL m B.length) : Nat)) := by
      refine ⟨by rw [letNoI, if_pos HOk.out], ?_⟩
      rw [letSumI, if_pos HOk.out, zI_toNat, Int.toNat_natCast, hzl]
    have HBk := Lib.hid (sBlk A (zI B) ca _ ha' hl)
    rw [hb, hzl] at HBk
    have HPar := Lib.hid (sParts m B.length (w.alloc (.cells #[.int .i64 0, .int .i64 0] 24)) hm hB1 hB8)
    obtain ⟨hri, hrl⟩ := parts_ok m hB1
    have hd := (degN_bd m hB1).2.1
    rw [hzl]
    clear h ha hb
    generalize partsL m B.length = P at *
    go_enter Tryd.func14, Tryd.ntmps14
    go_wp2_with (first
      | (go_at_call 22; refine HBk.out.mono ?_; rintro e w' ⟨rfl, rfl⟩)
      | (go_at_call 13; refine (sNo _ _).mono ?_; rintro e w' ⟨rfl, rfl⟩))
    refine HPar.out.mono ?_
    rintro e w1 ⟨v1, rfl, ho1, hb1⟩
    obtain ⟨A1, c1, rfl, hI1⟩ := ho1.form
    rw [zI_length]
    have hA1 := ha'.below hb1
    have hs32 := sumN_lt (K := P) hB32
    have HSum := Lib.hid (sSumN A A1 B P ca c1 w1 hA1 hI1 hB32 hri.2 (by omega))
    have h21 : w1.heap[w.heap.size]? = some (.cells #[.int .i64 0, .int .i64 0] 24 (0, 0)) := (hb1.block _ (by simp)).trans h2
    have hd0 : w1.cell? ⟨w.heap.size, 0, none⟩ = some (.int .i64 0) := cell_of_row w1 _ 0 _ _ _ h21
    have hd1 : w1.cell? ⟨w.heap.size, 1, none⟩ = some (.int .i64 0) := cell_of_row w1 _ 1 _ _ _ h21
    have hg0 := frozen_of_row w1 _ 0 _ _ h21
    have hg1 := frozen_of_row w1 _ 1 _ _ h21
    have HB1 := Lib.hid (below_more (gAlloc w _) hb1)
    have H21 := Lib.hid h21
    clear hb1 ho1 hI1 hA1 h21 h2 ha' HPar HBk hri hrl
    generalize sumN B P = S at *
    go_wp2_with (go_at_call 24; refine HSum.out.mono ?_; rintro e w' ⟨rfl, rfl⟩)
    have hgo : ((w1.setCell ⟨w.heap.size, 0, none⟩ (.int .i64 m)).setCell ⟨w.heap.size, 1, none⟩ (.int .i64 S)).heap[w.heap.size]? = some (.cells #[.int .i64 m, .int .i64 S] 24 (0, 0)) :=
      heap_setCell_same _ _ 1 _ _ _ (heap_setCell_same _ _ 0 _ _ _ H21.out)
    obtain ⟨e1, e2⟩ := HV.out
    exact ret_let2 rfl w.heap.size m S true rfl rfl hgo rfl ⟨tupL e1.symm e2.symm rfl, (HB1.out.setCell (Nat.le_refl _) _).setCell (Nat.le_refl _) _⟩
end Go.Proofs.YtddimdfkapbflaaDoor
