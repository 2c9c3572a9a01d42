/-
  JX: The model of chapter 6: l6Extra, ExtraFor, l6With, WithExtra, IsWhole.
  JY: The model of chapter 6: l6Row, RowFor, RaptorFor, l6Rows, SolveAll, SmallestOf.
  EB: The program's chapter 6: goodSource, ExtraFor, slices.Clone, WithExtra, IsWhole, RaptorFor.
  JZ: The model of chapter 6: SmallestOf.
  EC: The program's chapter 6: rowMaker and the function that it hands back, RowFor, sourceRows, SolveAll, SmallestOf.
-/
import Derived.Test.YtddimdfkapbflaaMH
import Derived.Test.YtddimdfkapbflaaJO
import Derived.Test.YtddimdfkapbflaaEA
import Derived.Laws.Cover3
import Derived.Test.YtddimdfkapbflaaE6

/- JX -/
namespace Go.Proofs.Ytddimdfkapbflaa
open Go.RowKit

def pc6B (n : Int) : Bool := inB n 1 6
set_option maxRecDepth 100000 in
set_option maxHeartbeats 400000 in
theorem sPc6 (n : Int) (w : World) : Calls Try.prog 16 #[.int .i64 n] w fun e w' => e = .returned (.bool (pc6B n)) ∧ w = w' := by
  go_enter Try.func16, Try.ntmps16
  go_wp2_with (go_at_call 17; refine (l1In_any _ _ _ _).mono ?_; rintro e w' ⟨rfl, rfl⟩)
  go_ret
  exact ⟨rfl, rfl⟩
theorem extra_len (n k : Nat) : (extraL n k).length ≤ n := Nat.le_trans (List.length_filter_le _ _) (by rw [List.length_range]; exact Nat.le_refl _)
theorem extra_yes {j k : Nat} (h : (decide (k = 0) || decide (j % 2 = 1)) = true) : extraL (j + 1) k = extraL j k ++ [j] := by rw [extra_snoc, if_pos h]
theorem extra_no {j k : Nat} (h : ¬ (decide (k = 0) || decide (j % 2 = 1)) = true) : extraL (j + 1) k = extraL j k := by rw [extra_snoc, if_neg h, List.append_nil]

set_option maxRecDepth 100000 in
set_option maxHeartbeats 1000000 in
theorem sExtra (n k : Nat) (w : World) (hn : n ≤ 8) :
    Calls Try.prog 18 #[.int .i64 n, .int .i64 k] w fun e w' => ∃ v, e = .returned v ∧ Own w' w.heap.size v (zI (extraL n k)) ∧ Below w.heap.size w w' := by
  go_enter Try.func18, Try.ntmps18
  go_wp2_with fail
  go_loopg [5, 6] n (fun gk v i wr => ∃ j : Nat, j + gk = n ∧ i = .int .i64 j ∧ Own wr w.heap.size v (zI (extraL j k)) ∧ Below w.heap.size w wr)
  case atStart => exact ⟨0, by omega, rfl, Own.nil _ _, Below.refl _ _⟩
  case round =>
    obtain ⟨j, hg, rfl, hown, hbel⟩ := hrel
    have HO := Lib.hid hown
    have HB := Lib.hid hbel
    have hs := hbel.size
    clear hown hbel
    by_cases hlt : j < n
    · have hji : (j : Int) < (n : Int) := by omega
      have HGK : Hid (n - j - 1 < gk ∧ j + 1 + (n - j - 1) = n) := by show _ ∧ _; omega
      have hL : (extraL j k).length ≤ 8 := Nat.le_trans (extra_len j k) (by omega)
      have HY := Lib.hid (@extra_yes j k)
      have HN := Lib.hid (@extra_no j k)
      generalize extraL j k = E at *
      clear hg
      by_cases hk0 : k = 0
      · have HE := Lib.hid (HY.out (by simp [hk0]))
        have hki : ((k : Int) == 0) = true := by simp [hk0]
        clear HY HN hk0
        go_wp2_with (at_builtin; refine app_law wr w.heap.size _ E j rfl _ _ rfl rfl rfl HO.out hs (by omega) w HB.out ?_)
        intro v' w' H'
        go_wp2_with fail
        go_roundg (n - j - 1)
        case measure => exact HGK.out.1
        case rel => exact ⟨j + 1, HGK.out.2, by go_num, by rw [HE.out]; exact H'.out.1, H'.out.2.1⟩
      · have hki : ((k : Int) == 0) = false := by simp; omega
        by_cases hj2 : j % 2 = 1
        · have HE := Lib.hid (HY.out (by simp [hj2]))
          have hji2 : ((j : Int) % 2 == 1) = true := by simp; omega
          clear HY HN hk0 hj2
          go_wp2_with (at_builtin; refine app_law wr w.heap.size _ E j rfl _ _ rfl rfl rfl HO.out hs (by omega) w HB.out ?_)
          intro v' w' H'
          go_wp2_with fail
          go_roundg (n - j - 1)
          case measure => exact HGK.out.1
          case rel => exact ⟨j + 1, HGK.out.2, by go_num, by rw [HE.out]; exact H'.out.1, H'.out.2.1⟩
        · have HE := Lib.hid (HN.out (by simp [hk0, hj2]))
          have hji2 : ((j : Int) % 2 == 1) = false := by simp; omega
          clear HY HN hk0 hj2
          go_wp2_with fail
          go_roundg (n - j - 1)
          case measure => exact HGK.out.1
          case rel => exact ⟨j + 1, HGK.out.2, by go_num, by rw [HE.out]; exact HO.out, HB.out⟩
    · obtain rfl : j = n := by omega
      have hji : ¬ (j : Int) < (j : Int) := by omega
      obtain ⟨A3, c3, rfl, _⟩ := HO.out.form
      go_wp2_with fail
      go_ret
      exact ⟨_, rfl, HO.out, HB.out⟩

def exOkB (n k : Int) : Bool := pc6B n && inB k 0 1
def exI (n k : Int) : List Int := if exOkB n k = true then zI (extraL n.toNat k.toNat) else []
theorem ex_nat {n k : Int} (h : exOkB n k = true) : ∃ a b : Nat, n = a ∧ k = b ∧ 1 ≤ a ∧ a ≤ 6 ∧ b ≤ 1 := by
  simp [exOkB, pc6B, inB] at h
  exact ⟨n.toNat, k.toNat, by omega, by omega, by omega, by omega, by omega⟩
theorem exI_len (n k : Int) : (exI n k).length ≤ 8 := by
  unfold exI; split
  · rename_i h
    obtain ⟨a, b, rfl, rfl, _, h6, _⟩ := ex_nat h
    have := extra_len a b
    rw [zI_length, Int.toNat_natCast, Int.toNat_natCast]; omega
  · simp
theorem ex_yes {a b : Nat} (h : exOkB (a : Int) (b : Int) = true) : exI (a : Int) (b : Int) = zI (extraL a b) := by rw [exI, if_pos h, Int.toNat_natCast, Int.toNat_natCast]
theorem ex_not {n k : Int} (h : exOkB n k = false) : exI n k = [] := by rw [exI, h]; rfl

set_option maxRecDepth 100000 in
set_option maxHeartbeats 1000000 in
theorem sExtra_any (n k : Int) (w : World) : Calls Try.prog 6 #[.int .i64 n, .int .i64 k] w fun e w' => ∃ v, e = .returned (.tuple #[v, .bool (exOkB n k)]) ∧ Own w' w.heap.size v (exI n k) ∧ Below w.heap.size w w' := by
  cases h : exOkB n k
  · have HE := Lib.hid (ex_not h)
    cases h1 : pc6B n
    · clear h
      go_enter Try.func6, Try.ntmps6
      go_wp2_with (go_at_call 16; refine (sPc6 _ _).mono ?_; rintro e w' ⟨rfl, rfl⟩)
      go_ret2
      exact ⟨_, rfl, by rw [HE.out]; exact Own.nil _ _, Below.refl _ _⟩
    · have h2 : inB k 0 1 = false := by rw [exOkB, h1] at h; exact h
      clear h
      go_enter Try.func6, Try.ntmps6
      go_wp2_with (first
        | (go_at_call 16; refine (sPc6 _ _).mono ?_; rintro e w' ⟨rfl, rfl⟩)
        | (go_at_call 17; refine (l1In_any _ _ _ _).mono ?_; rintro e w' ⟨rfl, rfl⟩))
      go_ret2
      exact ⟨_, rfl, by rw [HE.out]; exact Own.nil _ _, Below.refl _ _⟩
  · obtain ⟨h1, h2⟩ : pc6B n = true ∧ inB k 0 1 = true := by simpa [exOkB] using h
    obtain ⟨a, b, rfl, rfl, ha1, ha6, hb1⟩ := ex_nat h
    have HE := Lib.hid (ex_yes h)
    clear h
    have HX := Lib.hid (sExtra a b w (by omega))
    go_enter Try.func6, Try.ntmps6
    go_wp2_with (first
      | (go_at_call 16; refine (sPc6 _ _).mono ?_; rintro e w' ⟨rfl, rfl⟩)
      | (go_at_call 17; refine (l1In_any _ _ _ _).mono ?_; rintro e w' ⟨rfl, rfl⟩)
      | (go_at_call 18; refine HX.out.mono ?_; rintro e w1 ⟨v1, rfl, ho1, hb1'⟩))
    have HO1 := Lib.hid ho1
    obtain ⟨A1, c1, rfl, _⟩ := ho1.form
    clear ho1
    go_wp2_with fail
    go_ret2
    exact ⟨_, rfl, by rw [HE.out]; exact HO1.out, hb1'⟩

/-- The pieces and the first j parity pieces. -/
def withK (B : List Nat) (j : Nat) : List Nat := B ++ (List.range j).map fun k => sumN B (extraL B.length k)
theorem withK_two (B : List Nat) : withK B 2 = withL B := rfl
theorem withK_snoc (B : List Nat) (j : Nat) : withK B (j + 1) = withK B j ++ [sumN B (extraL B.length j)] := by simp [withK, List.range_succ, List.append_assoc]
theorem withK_length (B : List Nat) (j : Nat) : (withK B j).length = B.length + j := by simp [withK]
theorem with_lt {B : List Nat} (h : ∀ b ∈ B, b < 2 ^ 32) : ∀ b ∈ withL B, b < 2 ^ 32 := fun b hb => by
  unfold withL at hb
  rcases List.mem_append.1 hb with hb | hb
  · exact h b hb
  · simp only [List.mem_cons, List.not_mem_nil, or_false] at hb
    rcases hb with rfl | rfl <;> exact sumN_lt h

set_option maxRecDepth 100000 in
set_option maxHeartbeats 2000000 in
theorem sWith (A : Option Addr) (B : List Nat) (ca : Nat) (w : World) (ha : Ints w A (zI B)) (h1 : 1 ≤ B.length) (h6 : B.length ≤ 6) (h32 : ∀ b ∈ B, b < 2 ^ 32) :
    Calls Try.prog 21 #[.slice A B.length ca] w fun e w' => ∃ v, e = .returned v ∧ Own w' w.heap.size v (zI (withL B)) ∧ Below w.heap.size w w' := by
  obtain ⟨g, o, rfl, hcell⟩ := ha (by intro e; have := congrArg List.length e; rw [zI_length, List.length_nil] at this; omega)
  have hgl : g < w.heap.size := by
    have := hcell 0 (by rw [zI_length]; omega)
    exact World.block_lt_of_cell? _ _ this
  have HC : Hid (∀ j, j < B.length → w.cell? ⟨g, o + j, none⟩ = some (.int .i64 ((B.getD j 0 : Nat) : Int))) := fun j hj => by
    rw [hcell j (by rw [zI_length]; exact hj), zI_getD]
  have HA := Lib.hid ha
  have H32 := Lib.hid h32
  have HO := Lib.hid (own_lit0 w)
  have HB := Lib.hid (jAlloc1f w)
  have HW : Hid (withK B 0 = B) := by show _ = _; simp [withK]
  clear ha hcell h32
  go_enter Try.func21, Try.ntmps21
  go_wp2_with (at_builtin; refine app_cnt (w.alloc (.cells #[] 3)) w.heap.size _ [] B B.length rfl g o ca rfl _ _ rfl rfl rfl (fun j hj => ((HB.out).cell hgl).trans (HC.out j hj)) HO.out (by simp) (by simp) (by omega) w HB.out ?_)
  intro v1 w1 H1
  have HO1 : Hid (Own w1 w.heap.size v1 (zI (withK B 0))) := by
    have h := H1.out.1
    show Own _ _ _ _
    rw [HW.out]
    exact h
  have HB1 := Lib.hid H1.out.2.1
  clear H1 HO HB HC HW
  go_wp2_with fail
  go_loopg [3, 4] 2 (fun gk v i wr => ∃ j : Nat, j + gk = 2 ∧ i = .int .i64 j ∧ Own wr w.heap.size v (zI (withK B j)) ∧ Below w.heap.size w wr)
  case atStart => exact ⟨0, by omega, rfl, HO1.out, HB1.out⟩
  case round =>
    obtain ⟨j, hg, rfl, hown, hbel⟩ := hrel
    have HOj := Lib.hid hown
    have HBj := Lib.hid hbel
    clear hown hbel
    by_cases hlt : j < 2
    · have hji : (j : Int) < 2 := by omega
      have HGK : Hid (2 - j - 1 < gk ∧ j + 1 + (2 - j - 1) = 2) := by show _ ∧ _; omega
      have HS := Lib.hid (withK_snoc B j)
      have hwl := withK_length B j
      have HX := Lib.hid (sExtra B.length j wr (by omega))
      have HEl : Hid (∀ k ∈ extraL B.length j, k < B.length) := (extra_rise B.length j).2
      have hEl := extra_len B.length j
      clear hg
      generalize extraL B.length j = E at *
      generalize withK B j = L at *
      go_wp2_with fail
      refine HX.out.mono ?_
      rintro e w2 ⟨v2, rfl, ho2, hb2⟩
      obtain ⟨A2, c2, rfl, hI2⟩ := ho2.form
      rw [zI_length]
      have HB2 := Lib.hid (below_more HBj.out hb2)
      have HO2 := Lib.hid (HOj.out.below hb2)
      have hs2 := (below_more HBj.out hb2).size
      have HSu := Lib.hid (sSumN (some ⟨g, o, none⟩) A2 B E ca c2 w2 (HA.out.below (below_more HBj.out hb2)) hI2 H32.out HEl.out (by omega))
      clear ho2 hb2 hI2 HX HEl
      go_wp2_with fail
      refine HSu.out.mono ?_
      rintro e w3 ⟨rfl, rfl⟩
      clear HSu
      generalize sumN B E = s at *
      go_wp2_with (at_builtin; refine app_law w2 w.heap.size _ L s rfl _ _ rfl rfl rfl HO2.out hs2 (by omega) w HB2.out ?_)
      intro v' w' H'
      go_wp2_with fail
      go_roundg (2 - j - 1)
      case measure => exact HGK.out.1
      case rel => exact ⟨j + 1, HGK.out.2, by go_num, by rw [HS.out]; exact H'.out.1, H'.out.2.1⟩
    · obtain rfl : j = 2 := by omega
      rw [withK_two] at HOj
      obtain ⟨A3, c3, rfl, _⟩ := HOj.out.form
      go_wp2_with fail
      go_ret
      exact ⟨_, rfl, HOj.out, HBj.out⟩

def wiOkB (zs : List Int) : Bool := pc6B zs.length && allIn zs 4294967295
def wiI (zs : List Int) : List Int := if wiOkB zs = true then zI (withL (zs.map Int.toNat)) else []
theorem wi_nat {zs : List Int} (h : wiOkB zs = true) : ∃ B : List Nat, zs = zI B ∧ 1 ≤ B.length ∧ B.length ≤ 6 ∧ (∀ b ∈ B, b < 2 ^ 32) ∧ wiI zs = zI (withL B) := by
  obtain ⟨h1, h2⟩ : pc6B zs.length = true ∧ allIn zs 4294967295 = true := by simpa [wiOkB] using h
  have hp : 1 ≤ (zs.length : Int) ∧ (zs.length : Int) ≤ 6 := by simpa [pc6B, inB] using h1
  have hb : blkOkB zs = true := by
    rw [blkOkB, h2]
    simp [pcOkB, inB]; omega
  obtain ⟨B, rfl, _, _, h32⟩ := blk_nat hb
  rw [zI_length] at hp
  exact ⟨B, rfl, by omega, by omega, h32, by rw [wiI, if_pos h, zI_toNat]⟩
theorem wi_not {zs : List Int} (h : wiOkB zs = false) : wiI zs = [] := by rw [wiI, h]; rfl
theorem wi_blk (zs : List Int) : wiOkB zs = (pc6B zs.length && blkOkB zs) := by
  rw [wiOkB, blkOkB]
  cases h1 : pc6B zs.length
  · rfl
  · have hp : 1 ≤ (zs.length : Int) ∧ (zs.length : Int) ≤ 6 := by simpa [pc6B, inB] using h1
    have h2 : pcOkB zs.length = true := by simp [pcOkB, inB]; omega
    rw [h2]; rfl
theorem wiI_len (zs : List Int) : (wiI zs).length ≤ 8 := by
  cases h : wiOkB zs
  · rw [wi_not h]; simp
  · obtain ⟨B, _, _, h6, _, e⟩ := wi_nat h
    rw [e, zI_length, with_length]; omega

set_option maxRecDepth 100000 in
set_option maxHeartbeats 400000 in
theorem sBlk6 (A : Option Addr) (zs : List Int) (ca : Nat) (w : World) (ha : Ints w A zs) (hl : zs.length ≤ 1048576) :
    Calls Try.prog 20 #[.slice A zs.length ca] w fun e w' => e = .returned (.bool (wiOkB zs)) ∧ w = w' := by
  have HE := Lib.hid (wi_blk zs)
  cases h : pc6B (zs.length : Int)
  · rw [h] at HE
    go_enter Try.func20, Try.ntmps20
    go_wp2_with (go_at_call 16; refine (sPc6 _ _).mono ?_; rintro e w' ⟨rfl, rfl⟩)
    go_ret
    exact ⟨ret_bool' HE.out.symm, rfl⟩
  · rw [h, Bool.true_and] at HE
    go_enter Try.func20, Try.ntmps20
    go_wp2_with (first
      | (go_at_call 16; refine (sPc6 _ _).mono ?_; rintro e w' ⟨rfl, rfl⟩)
      | (go_at_call 24; refine (sBlk A zs ca _ ha hl).mono ?_; rintro e w' ⟨rfl, rfl⟩))
    go_ret
    exact ⟨ret_bool' HE.out.symm, rfl⟩

set_option maxRecDepth 100000 in
set_option maxHeartbeats 1000000 in
theorem sWith_any (A : Option Addr) (zs : List Int) (ca : Nat) (w : World) (ha : Ints w A zs) (hl : zs.length ≤ 1048576) :
    Calls Try.prog 11 #[.slice A zs.length ca] w fun e w' => ∃ v, e = .returned (.tuple #[v, .bool (wiOkB zs)]) ∧ Own w' w.heap.size v (wiI zs) ∧ Below w.heap.size w w' := by
  have HG := Lib.hid (sBlk6 A zs ca w ha hl)
  cases h : wiOkB zs
  · have HE := Lib.hid (wi_not h)
    rw [h] at HG
    clear h ha
    go_enter Try.func11, Try.ntmps11
    go_wp2_with (go_at_call 20; refine HG.out.mono ?_; rintro e w' ⟨rfl, rfl⟩)
    go_ret2
    exact ⟨_, rfl, by rw [HE.out]; exact Own.nil _ _, Below.refl _ _⟩
  · rw [h] at HG
    obtain ⟨B, rfl, h1, h6, h32, hv⟩ := wi_nat h
    have HV := Lib.hid hv
    have HX := Lib.hid (sWith A B ca w ha h1 h6 h32)
    rw [zI_length] at HG ⊢
    clear h ha hv h32
    go_enter Try.func11, Try.ntmps11
    go_wp2_with (first
      | (go_at_call 20; refine HG.out.mono ?_; rintro e w' ⟨rfl, rfl⟩)
      | (go_at_call 21; refine HX.out.mono ?_; rintro e w1 ⟨v1, rfl, ho1, hb1⟩))
    have HO1 := Lib.hid ho1
    obtain ⟨A1, c1, rfl, _⟩ := ho1.form
    clear ho1
    go_wp2_with fail
    go_ret2
    exact ⟨_, rfl, by rw [HV.out]; exact HO1.out, hb1⟩

def isOkB (zs : List Int) : Bool := blkOkB zs && decide (3 ≤ zs.length)
def isI (zs : List Int) : Bool := isOkB zs && eqL (wiI (zs.take (zs.length - 2))) zs
theorem is_not {zs : List Int} (h : isOkB zs = false) : isI zs = false := by rw [isI, h]; rfl
theorem Ints.takeZ {w : World} {A : Option Addr} {zs : List Int} (h : Ints w A zs) (k : Nat) : Ints w A (zs.take k) := fun hne => by
  obtain ⟨b, o, e, hc⟩ := h (by rintro rfl; simp at hne)
  refine ⟨b, o, e, fun j hj => ?_⟩
  have hj' : j < zs.length := Nat.lt_of_lt_of_le hj (by rw [List.length_take]; omega)
  rw [hc j hj']
  rw [List.length_take] at hj
  have : j < k := by omega
  simp [List.getD, this]
theorem is_nat {zs : List Int} (h : isOkB zs = true) : ∃ B : List Nat, zs = zI B ∧ 3 ≤ B.length ∧ B.length ≤ 8 ∧ (∀ b ∈ B, b < 2 ^ 32) ∧ wiOkB (zs.take (zs.length - 2)) = true ∧ wiI (zs.take (zs.length - 2)) = zI (withL (B.take (B.length - 2))) := by
  obtain ⟨hb, h3⟩ : blkOkB zs = true ∧ 3 ≤ zs.length := by simpa [isOkB] using h
  obtain ⟨B, rfl, _, h8, h32⟩ := blk_nat hb
  rw [zI_length] at h3
  have ht : (zI B).take ((zI B).length - 2) = zI (B.take (B.length - 2)) := by rw [zI_length]; simp [zI, List.map_take]
  have hok : wiOkB (zI (B.take (B.length - 2))) = true := by
    have hal : allIn (zI (B.take (B.length - 2))) 4294967295 = true := by
      rw [allIn, List.all_eq_true]
      intro z hz
      obtain ⟨b, hb, rfl⟩ := List.mem_map.1 hz
      have := h32 b (List.mem_of_mem_take hb)
      simp [inB]; omega
    rw [wiOkB, hal, zI_length, List.length_take]
    simp [pc6B, inB]; omega
  refine ⟨B, rfl, h3, h8, h32, by rw [ht]; exact hok, ?_⟩
  rw [ht, wiI, if_pos hok, zI_toNat]

set_option maxRecDepth 100000 in
set_option maxHeartbeats 2000000 in
theorem sIs_any (A : Option Addr) (zs : List Int) (ca : Nat) (w : World) (ha : Ints w A zs) (hl : zs.length ≤ 1048576) (hca : zs.length ≤ ca) :
    Calls Try.prog 14 #[.slice A zs.length ca] w fun e w' => e = .returned (.tuple #[.bool (isI zs), .bool (isOkB zs)]) ∧ Below w.heap.size w w' := by
  have HG := Lib.hid (sBlk A zs ca w ha hl)
  cases h : isOkB zs
  · have HE := Lib.hid (is_not h)
    cases hb : blkOkB zs
    · rw [hb] at HG
      clear h ha
      go_enter Try.func14, Try.ntmps14
      go_wp2_with (go_at_call 24; refine HG.out.mono ?_; rintro e w' ⟨rfl, rfl⟩)
      go_ret2
      exact ⟨tupB HE.out.symm, Below.refl _ _⟩
    · rw [hb] at HG
      have h3 : (zs.length : Int) < 3 := by
        rw [isOkB, hb, Bool.true_and] at h
        have := of_decide_eq_false h
        omega
      clear h ha
      go_enter Try.func14, Try.ntmps14
      go_wp2_with (go_at_call 24; refine HG.out.mono ?_; rintro e w' ⟨rfl, rfl⟩)
      go_ret2
      exact ⟨tupB HE.out.symm, Below.refl _ _⟩
  · obtain ⟨B, rfl, h3, h8, h32, hok, hwi⟩ := is_nat h
    have hb : blkOkB (zI B) = true := by
      have := h
      rw [isOkB] at this
      simp only [Bool.and_eq_true] at this
      exact this.1
    rw [hb] at HG
    have HV : Hid (isI (zI B) = eqL (zI (withL (B.take (B.length - 2)))) (zI B)) := by
      show _ = _
      rw [isI, h, hwi]; rfl
    have ht : (B.take (B.length - 2)).length = B.length - 2 := by rw [List.length_take]; omega
    have HX := Lib.hid (sWith A (B.take (B.length - 2)) ca w (Ints.take ha _) (by omega) (by omega) (fun b hb => h32 b (List.mem_of_mem_take hb)))
    rw [ht] at HX
    have hwl : (zI (withL (B.take (B.length - 2)))).length ≤ 8 := by rw [zI_length, with_length]; omega
    have HA := Lib.hid ha
    rw [zI_length] at HG hca ⊢
    have h3i : ¬ (B.length : Int) < 3 := by omega
    have hsub : ((B.length : Int) - 2) = ((B.length - 2 : Nat) : Int) := by omega
    have hle : B.length - 2 ≤ ca := by omega
    clear h hb ht hok hwi h32 ha
    generalize zI (withL (B.take (B.length - 2))) = V at *
    go_enter Try.func14, Try.ntmps14
    go_wp2_with (first
      | (go_at_call 24; refine HG.out.mono ?_; rintro e w' ⟨rfl, rfl⟩)
      | (go_at_call 21; refine HX.out.mono ?_; rintro e w1 ⟨v1, rfl, ho1, hb1⟩))
    obtain ⟨A1, c1, rfl, hI1⟩ := ho1.form
    have HB1 := Lib.hid hb1
    have HSm := Lib.hid (sSame A1 A V (zI B) c1 ca w1 hI1 (HA.out.below hb1) (by omega))
    rw [zI_length] at HSm
    clear ho1 hb1 hI1 HX
    go_wp2_with fail
    refine HSm.out.mono ?_
    rintro e w2 ⟨rfl, n2, rfl⟩
    have HB2 := Lib.hid (below_more HB1.out (below_drewN (Below.refl _ _) n2))
    obtain ⟨r, hr⟩ : ∃ r, eqL V (zI B) = r := ⟨_, rfl⟩
    rw [hr]
    have HR : Hid (r = isI (zI B)) := hr.symm.trans HV.out.symm
    clear hr HV
    go_wp2_with fail
    go_ret2
    exact ⟨tupB HR.out, HB2.out⟩
end Go.Proofs.Ytddimdfkapbflaa

/- JY -/
namespace Go.Proofs.Ytddimdfkapbflaa
open Go.RowKit

theorem src_low {n p : Nat} (h : p < n) : srcN n p = 2 ^ p := by rw [srcN, if_pos h]
theorem src_high {n p : Nat} (h : ¬ p < n) : srcN n p = xorL (fun k => 2 ^ k) (extraL n (p - n)) := by rw [srcN, if_neg h, rowN_xor (extra_rise n _).nodup]
theorem xorL_take {f : Nat → Nat} {P : List Nat} {t : Nat} (h : t < P.length) : xorL f (P.take (t + 1)) = xorL f (P.take t) ^^^ f P[t] := by rw [List.take_succ_eq_append_getElem h, xorL_snoc]
theorem xor_pow (a k : Nat) (ha : a < 65536) (hk : k ≤ 16) : bits .xor .i64 (a : Int) ((2 : Int) ^ k) = ((a ^^^ 2 ^ k : Nat) : Int) := by
  have h := xor_i64 a (2 ^ k) (by omega) (Nat.lt_of_le_of_lt (Nat.pow_le_pow_right (by decide) hk) (by decide))
  rw [← h]; simp
theorem src16 {n : Nat} (hn : n ≤ 8) (P : List Nat) : xorL (srcN n) P < 65536 :=
  Nat.lt_of_lt_of_le (xorL_lt (b := n) fun _ _ => src_lt) (Nat.le_trans (Nat.pow_le_pow_right (by decide) (show n ≤ 16 by omega)) (by decide))
theorem pow16 {n : Nat} (hn : n ≤ 8) {E : List Nat} (hE : ∀ k ∈ E, k < n) : xorL (fun k => 2 ^ k) E < 65536 :=
  Nat.lt_of_lt_of_le (xorL_lt (b := n) fun k hk => Nat.pow_lt_pow_right (by omega) (hE k hk)) (Nat.le_trans (Nat.pow_le_pow_right (by decide) (show n ≤ 16 by omega)) (by decide))

def roOkB (n no : Int) : Bool := pc6B n && noOkB no
def roI (n no : Int) : Int := if roOkB n no = true then (row6 n.toNat no.toNat : Nat) else 0
theorem ro_nat {n no : Int} (h : roOkB n no = true) : ∃ a b : Nat, n = a ∧ no = b ∧ 1 ≤ a ∧ a ≤ 6 ∧ b ≤ 999 := by
  simp [roOkB, pc6B, noOkB, inB] at h
  exact ⟨n.toNat, no.toNat, by omega, by omega, by omega, by omega, by omega⟩
theorem ro_yes {a b : Nat} (h : roOkB (a : Int) (b : Int) = true) : roI (a : Int) (b : Int) = (row6 a b : Nat) := by rw [roI, if_pos h, Int.toNat_natCast, Int.toNat_natCast]
theorem ro_not {n no : Int} (h : roOkB n no = false) : roI n no = 0 := by rw [roI, h]; rfl
theorem tupNB {a b : Int} {c d : Bool} (h : a = b) (k : c = d) : Ending.returned (.tuple #[.int .i64 a, .bool c]) = .returned (.tuple #[.int .i64 b, .bool d]) := by rw [h, k]

/-- The symbol of the intermediate block. -/
def raOkB (zs : List Int) (no : Int) : Bool := wiOkB zs && noOkB no
def raNoI (zs : List Int) (no : Int) : Int := if raOkB zs no = true then no else 0
def raSumI (zs : List Int) (no : Int) : Int := if raOkB zs no = true then letSumI (wiI zs) no else 0
theorem ra_let {zs : List Int} {no : Int} (h : raOkB zs no = true) : letOkB (wiI zs) no = true ∧ letNoI (wiI zs) no = raNoI zs no ∧ letSumI (wiI zs) no = raSumI zs no := by
  obtain ⟨h1, h2⟩ : wiOkB zs = true ∧ noOkB no = true := by simpa [raOkB] using h
  obtain ⟨B, _, hB1, hB6, h32, e⟩ := wi_nat h1
  have hb : blkOkB (wiI zs) = true := by
    have hal : allIn (zI (withL B)) 4294967295 = true := by
      rw [allIn, List.all_eq_true]
      intro z hz
      obtain ⟨b, hb, rfl⟩ := List.mem_map.1 hz
      have := with_lt h32 b hb
      simp [inB]; omega
    rw [e, blkOkB, hal, zI_length, with_length]
    simp [pcOkB, inB]; omega
  have hok : letOkB (wiI zs) no = true := by rw [letOkB, hb, h2]; rfl
  exact ⟨hok, by rw [letNoI, if_pos hok, raNoI, if_pos h], by rw [raSumI, if_pos h]⟩
theorem ra_not {zs : List Int} {no : Int} (h : raOkB zs no = false) : raNoI zs no = 0 ∧ raSumI zs no = 0 := by simp [raNoI, raSumI, h]
theorem ra_no {zs : List Int} {no : Int} (h : wiOkB zs = false) : letOkB (wiI zs) no = raOkB zs no ∧ letNoI (wiI zs) no = raNoI zs no ∧ letSumI (wiI zs) no = raSumI zs no := by
  have e := wi_not h
  have h1 : letOkB [] no = false := by simp [letOkB, blkOkB, pcOkB, inB]
  have h2 : raOkB zs no = false := by rw [raOkB, h]; rfl
  obtain ⟨q1, q2⟩ := ra_not h2
  rw [e, h1, h2, q1, q2]
  simp [letNoI, letSumI, h1]
/-- A symbol of a block and its row. -/
theorem ra_sum {B : List Nat} {no : Nat} (h : raOkB (zI B) (no : Int) = true) : raNoI (zI B) (no : Int) = no ∧ raSumI (zI B) (no : Int) = (sm B B.length (row6 B.length no) : Nat) := by
  obtain ⟨h1, h2⟩ : wiOkB (zI B) = true ∧ noOkB (no : Int) = true := by simpa [raOkB] using h
  obtain ⟨hl, hn, hs⟩ := ra_let h
  have e : wiI (zI B) = zI (withL B) := by rw [wiI, if_pos h1, zI_toNat]
  refine ⟨by rw [raNoI, if_pos h], ?_⟩
  rw [← hs, letSumI, if_pos hl, e, zI_toNat, Int.toNat_natCast, zI_length, with_length, raptor_row]

def rows6L (n : Nat) (L : List (Nat × Nat)) : List Nat := (L.map Prod.fst).map (row6 n)
def soOkB (n : Int) (ls : List (Int × Int)) : Bool := pc6B n && (goodLB n ls && (decide (ls.length ≤ 20) && decide (rank (rows6L n.toNat (natL ls)) = n.toNat)))
def soI (n : Int) (ls : List (Int × Int)) : List Int := if soOkB n ls = true then zI (solveL n.toNat (rows6L n.toNat (natL ls)) ((natL ls).map Prod.snd)) else []
theorem so_not {n : Int} {ls : List (Int × Int)} (h : soOkB n ls = false) : soI n ls = [] := by rw [soI, h]; rfl
theorem pc6_8 {n : Int} (h : pc6B n = true) : ∃ m : Nat, n = m ∧ 1 ≤ m ∧ m ≤ 6 := by
  have hp : 1 ≤ n ∧ n ≤ 6 := by simpa [pc6B, inB] using h
  exact ⟨n.toNat, by omega, by omega, by omega⟩
theorem soI_len (n : Int) (ls : List (Int × Int)) : (soI n ls).length ≤ 8 := by
  unfold soI; split
  · rename_i h
    have hg : pc6B n = true := by
      simp only [soOkB, Bool.and_eq_true] at h
      exact h.1
    obtain ⟨m, rfl, _, h6⟩ := pc6_8 hg
    rw [zI_length, solve_length, Int.toNat_natCast]; omega
  · simp

end Go.Proofs.Ytddimdfkapbflaa

/- EB -/
namespace Go.Proofs.Ytddimdfkapbflaa
open Go.RowKit

set_option maxRecDepth 100000 in
set_option maxHeartbeats 400000 in
theorem iSrc (n : Int) (w : World) : Calls Try.prog 19 #[.int .i64 n] w fun e w' => e = .returned (.bool (pc6B n)) ∧ w = w' := by
  by_cases h1 : 1 ≤ n
  · by_cases h2 : n ≤ 6
    · have HE : Hid (pc6B n = true) := inB_true h1 h2
      go_enter Try.func19, Try.ntmps19
      go_wp2_with fail
      go_ret
      exact ⟨ret_bool' HE.out.symm, rfl⟩
    · have HE : Hid (pc6B n = false) := inB_false (by omega)
      go_enter Try.func19, Try.ntmps19
      go_wp2_with fail
      go_ret
      exact ⟨ret_bool' HE.out.symm, rfl⟩
  · have HE : Hid (pc6B n = false) := inB_false (by omega)
    go_enter Try.func19, Try.ntmps19
    go_wp2_with fail
    go_ret
    exact ⟨ret_bool' HE.out.symm, rfl⟩

theorem extra_start {k : Nat} (hk : k ≤ 1) : extraL k k = [] := by
  obtain rfl | rfl : k = 0 ∨ k = 1 := by omega
  · rfl
  · rfl
theorem extra_step {k a : Nat} (hk : k ≤ 1) (h : a % (k + 1) = k) : extraL (a + (k + 1)) k = extraL a k ++ [a] := by
  obtain rfl | rfl : k = 0 ∨ k = 1 := by omega
  · exact extra_yes (by simp)
  · rw [show a + (1 + 1) = (a + 1) + 1 by omega, extra_no (by simp; omega)]
    exact extra_yes (by simp; omega)
theorem extra_stop {k a n : Nat} (hk : k ≤ 1) (h : a % (k + 1) = k) (h1 : n ≤ a) (h2 : a ≤ n + k) : extraL a k = extraL n k := by
  obtain rfl | rfl : k = 0 ∨ k = 1 := by omega
  · obtain rfl : a = n := by omega
    rfl
  · by_cases e : a = n
    · rw [e]
    · obtain rfl : a = n + 1 := by omega
      exact extra_no (by simp; omega)

set_option maxRecDepth 100000 in
set_option maxHeartbeats 1000000 in
theorem iExtra_any (n k : Int) (w : World) : Calls Try.prog 7 #[.int .i64 n, .int .i64 k] w fun e w' => ∃ v, e = .returned (.tuple #[v, .bool (exOkB n k)]) ∧ Own w' w.heap.size v (exI n k) ∧ Below w.heap.size w w' := by
  cases h : exOkB n k
  · have HE := Lib.hid (ex_not h)
    cases h1 : pc6B n
    · clear h
      go_enter Try.func7, Try.ntmps7
      go_wp2_with (go_at_call 19; refine (iSrc _ _).mono ?_; rintro e w' ⟨rfl, rfl⟩)
      go_ret2
      exact ⟨_, rfl, by rw [HE.out]; exact Own.nil _ _, Below.refl _ _⟩
    · have h2 : inB k 0 1 = false := by rw [exOkB, h1] at h; exact h
      clear h
      by_cases hk0 : k < 0
      · go_enter Try.func7, Try.ntmps7
        go_wp2_with (go_at_call 19; refine (iSrc _ _).mono ?_; rintro e w' ⟨rfl, rfl⟩)
        go_ret2
        exact ⟨_, rfl, by rw [HE.out]; exact Own.nil _ _, Below.refl _ _⟩
      · have hk2 : 2 ≤ k := by
          simp [inB] at h2
          omega
        go_enter Try.func7, Try.ntmps7
        go_wp2_with (go_at_call 19; refine (iSrc _ _).mono ?_; rintro e w' ⟨rfl, rfl⟩)
        go_ret2
        exact ⟨_, rfl, by rw [HE.out]; exact Own.nil _ _, Below.refl _ _⟩
  · obtain ⟨h1, h2⟩ : pc6B n = true ∧ inB k 0 1 = true := by simpa [exOkB] using h
    obtain ⟨n, k, rfl, rfl, hn1, hn6, hk1⟩ := ex_nat h
    have HE := Lib.hid (ex_yes h)
    have HSp := Lib.hid (@extra_step k · hk1)
    have HSt := Lib.hid (@extra_stop k · n hk1)
    have HZ := Lib.hid (extra_start hk1)
    have hk0 : ¬ (k : Int) < 0 := by omega
    have hk2 : ¬ (2 : Int) ≤ (k : Int) := by omega
    clear h h2
    go_enter Try.func7, Try.ntmps7
    go_wp2_with (go_at_call 19; refine (iSrc _ _).mono ?_; rintro e w' ⟨rfl, rfl⟩)
    go_loopg [6, 7] n (fun gk v i wr => ∃ a : Nat, a + gk = n + k ∧ i = .int .i64 a ∧ a % (k + 1) = k ∧ Own wr w.heap.size v (zI (extraL a k)) ∧ Below w.heap.size w wr)
    case atStart => exact ⟨k, by omega, rfl, Nat.mod_eq_of_lt (by omega), by rw [HZ.out]; exact Own.nil _ _, Below.refl _ _⟩
    case round =>
      obtain ⟨a, hg, rfl, hmod, hown, hbel⟩ := hrel
      have HO := Lib.hid hown
      have HB := Lib.hid hbel
      have hs := hbel.size
      have HM := Lib.hid hmod
      clear hown hbel hmod
      by_cases hlt : a < n
      · have hai : (a : Int) < (n : Int) := by omega
        have HGK : Hid (n + k - (a + (k + 1)) < gk ∧ a + (k + 1) + (n + k - (a + (k + 1))) = n + k) := by show _ ∧ _; omega
        have HS := Lib.hid (HSp.out a HM.out)
        have HM2 : Hid ((a + (k + 1)) % (k + 1) = k) := by show _ = _; rw [Nat.add_mod_right]; exact HM.out
        have hL : (extraL a k).length ≤ 8 := Nat.le_trans (extra_len a k) (by omega)
        clear hg
        generalize extraL a k = E at *
        go_wp2_with (at_builtin; refine app_law wr w.heap.size _ E a rfl _ _ rfl rfl rfl HO.out hs (by omega) w HB.out ?_)
        intro v' w' H'
        go_wp2_with fail
        go_roundg (n + k - (a + (k + 1)))
        case measure => exact HGK.out.1
        case rel => exact ⟨a + (k + 1), HGK.out.2, by go_num, HM2.out, by rw [HS.out]; exact H'.out.1, H'.out.2.1⟩
      · have hai : ¬ (a : Int) < (n : Int) := by omega
        have HF := Lib.hid (HSt.out a HM.out (by omega) (by omega))
        obtain ⟨A3, c3, rfl, _⟩ := HO.out.form
        go_wp2_with fail
        go_ret2
        exact ⟨_, rfl, by rw [HE.out, ← HF.out]; exact HO.out, HB.out⟩

theorem eqNil (a : Addr) (l c : Nat) (w : World) : (binOp .eql 22 (.slice (some a) l c) (.slice none 0 0)).run Try.prog w = .ok (.bool false) w := by
  simp only [binOp]
  simp [run_equal_slice_nil w 22 3 (some a) l c Try.underlying22]
set_option maxRecDepth 100000 in
set_option maxHeartbeats 1000000 in
theorem iClone (A : Option Addr) (B : List Nat) (ca : Nat) (w : World) (ha : Ints w A (zI B)) (h1 : 1 ≤ B.length) (h8 : B.length ≤ 1000) :
    Calls Try.prog 23 #[.slice A B.length ca] w fun e w' => ∃ v, e = .returned v ∧ Own w' w.heap.size v (zI B) ∧ Below w.heap.size w w' := by
  obtain ⟨g, o, rfl, hcell⟩ := ha (by intro e; have := congrArg List.length e; rw [zI_length, List.length_nil] at this; omega)
  have hgl : g < w.heap.size := by
    have := hcell 0 (by rw [zI_length]; omega)
    exact World.block_lt_of_cell? _ _ this
  have HC : Hid (∀ j, j < B.length → w.cell? ⟨g, o + j, none⟩ = some (.int .i64 ((B.getD j 0 : Nat) : Int))) := fun j hj => by
    rw [hcell j (by rw [zI_length]; exact hj), zI_getD]
  have HO := Lib.hid (own_lit0 w)
  have HB := Lib.hid (jAlloc1f w)
  have hnil := eqNil ⟨g, o, none⟩ B.length ca w
  clear ha hcell
  go_enter Try.func23, Try.ntmps23
  go_wp2_with (at_builtin; refine app_cnt (w.alloc (.cells #[] 3)) w.heap.size _ [] B B.length rfl g o ca rfl _ _ rfl rfl rfl (fun j hj => ((HB.out).cell hgl).trans (HC.out j hj)) HO.out (by simp) (by simp) (by omega) w HB.out ?_)
  intro v1 w1 H1
  obtain ⟨A3, c3, rfl, _⟩ := H1.out.1.form
  go_wp2_with fail
  go_ret
  exact ⟨_, rfl, H1.out.1, H1.out.2.1⟩

theorem ex_in {n j : Nat} (h1 : 1 ≤ n) (h6 : n ≤ 6) (hj : j < 2) : exOkB (n : Int) (j : Int) = true := by
  simp [exOkB, pc6B, inB]; omega
set_option maxRecDepth 100000 in
set_option maxHeartbeats 2000000 in
theorem iWith_any (A : Option Addr) (zs : List Int) (ca : Nat) (w : World) (ha : Ints w A zs) (hl : zs.length ≤ 1048576) :
    Calls Try.prog 13 #[.slice A zs.length ca] w fun e w' => ∃ v, e = .returned (.tuple #[v, .bool (wiOkB zs)]) ∧ Own w' w.heap.size v (wiI zs) ∧ Below w.heap.size w w' := by
  have HG := Lib.hid (iPieces5 A zs ca w ha hl)
  cases h : wiOkB zs
  · have HE := Lib.hid (wi_not h)
    cases h6 : pc6B (zs.length : Int)
    · clear h ha HG
      go_enter Try.func13, Try.ntmps13
      go_wp2_with (go_at_call 19; refine (iSrc _ _).mono ?_; rintro e w' ⟨rfl, rfl⟩)
      go_ret2
      exact ⟨_, rfl, by rw [HE.out]; exact Own.nil _ _, Below.refl _ _⟩
    · have hp : allIn zs 4294967295 = false := by rw [wiOkB, h6] at h; exact h
      rw [hp] at HG
      clear h ha
      go_enter Try.func13, Try.ntmps13
      go_wp2_with (first
        | (go_at_call 19; refine (iSrc _ _).mono ?_; rintro e w' ⟨rfl, rfl⟩)
        | (go_at_call 22; refine HG.out.mono ?_; rintro e w' ⟨rfl, rfl⟩))
      go_ret2
      exact ⟨_, rfl, by rw [HE.out]; exact Own.nil _ _, Below.refl _ _⟩
  · obtain ⟨h6, hp⟩ : pc6B (zs.length : Int) = true ∧ allIn zs 4294967295 = true := by simpa [wiOkB] using h
    rw [hp] at HG
    obtain ⟨B, rfl, hB1, hB6, h32, hv⟩ := wi_nat h
    have HV := Lib.hid hv
    have H32 := Lib.hid h32
    have HA := Lib.hid ha
    have HCl := Lib.hid (iClone A B ca w ha hB1 (by omega))
    have HW : Hid (withK B 0 = B) := by show _ = _; simp [withK]
    rw [zI_length] at HG h6 ⊢
    clear h ha hp hv h32
    go_enter Try.func13, Try.ntmps13
    go_wp2_with (first
      | (go_at_call 19; refine (iSrc _ _).mono ?_; rintro e w' ⟨rfl, rfl⟩)
      | (go_at_call 22; refine HG.out.mono ?_; rintro e w' ⟨rfl, rfl⟩))
    refine HCl.out.mono ?_
    rintro e w1 ⟨v1, rfl, ho1, hb1⟩
    have HO1 : Hid (Own w1 w.heap.size v1 (zI (withK B 0))) := by show Own _ _ _ _; rw [HW.out]; exact ho1
    have HB1 := Lib.hid hb1
    clear ho1 hb1 HCl HW HG
    go_wp2_with fail
    go_loopg [4, 22] 2 (fun gk v i wr => ∃ j : Nat, j + gk = 2 ∧ i = .int .i64 j ∧ Own wr w.heap.size v (zI (withK B j)) ∧ Below w.heap.size w wr)
    case atStart => exact ⟨0, by omega, rfl, HO1.out, HB1.out⟩
    case round =>
      obtain ⟨j, hg, rfl, hown, hbel⟩ := hrel
      have HOj := Lib.hid hown
      have HBj := Lib.hid hbel
      clear hown hbel
      by_cases hlt : j < 2
      · have hji : (j : Int) < 2 := by omega
        have HGK : Hid (2 - j - 1 < gk ∧ j + 1 + (2 - j - 1) = 2) := by show _ ∧ _; omega
        have HS := Lib.hid (withK_snoc B j)
        have hwl := withK_length B j
        have hok := ex_in hB1 hB6 hlt
        have HX := Lib.hid (iExtra_any (B.length : Int) (j : Int) wr)
        rw [hok, ex_yes hok] at HX
        have HEl : Hid (∀ k ∈ extraL B.length j, k < B.length) := (extra_rise B.length j).2
        have hEl := extra_len B.length j
        clear hg hok
        generalize extraL B.length j = E at *
        generalize withK B j = L at *
        go_wp2_with fail
        refine HX.out.mono ?_
        rintro e w2 ⟨v2, rfl, ho2, hb2⟩
        obtain ⟨A2, c2, rfl, hI2⟩ := ho2.form
        rw [zI_length]
        have HI2 := Lib.hid hI2
        have HB2 := Lib.hid (below_more HBj.out hb2)
        have HO2 := Lib.hid (HOj.out.below hb2)
        have HA2 := Lib.hid (HA.out.below (below_more HBj.out hb2))
        have hs2 := (below_more HBj.out hb2).size
        clear ho2 hb2 hI2 HX HBj HOj
        go_wp2_with fail
        go_loopg [8, 34] E.length (fun g2 s i wx => ∃ t : Nat, t + g2 = E.length ∧ i = .int .i64 t ∧ s = .int .i64 (sumN B (E.take t) : Nat) ∧ w2 = wx)
        case atStart => exact ⟨0, by omega, rfl, rfl, rfl⟩
        case round =>
          obtain ⟨t, hg2, rfl, rfl, rfl⟩ := hrel
          by_cases hlt2 : t < E.length
          · have hti : (t : Int) < (E.length : Int) := by omega
            obtain ⟨b5, o5, rfl, hc5⟩ := HI2.out.cellN hlt2
            have hqn := HEl.out E[t] (List.getElem_mem hlt2)
            have HSn := Lib.hid (sumN_snoc (R := B) hlt2)
            have hs32 := sumN_lt (K := E.take t) H32.out
            have HGK2 : Hid (E.length - t - 1 < gk ∧ t + 1 + (E.length - t - 1) = E.length) := by show _ ∧ _; omega
            generalize E[t] = q at *
            obtain ⟨b6, o6, rfl, hc6⟩ := HA2.out.cellN hqn
            have hr32 := H32.out B[q] (List.getElem_mem hqn)
            rw [show B.getD q 0 = B[q] by simp [List.getD, hqn]] at HSn
            have hqi : (q : Int) < (B.length : Int) := by omega
            generalize B[q] = y at *
            generalize sumN B (E.take t) = sm at *
            have hxr := xor_i64 sm y (by omega) (by omega)
            clear hg2
            go_wp2_with fail
            go_roundg (E.length - t - 1)
            case measure => exact HGK2.out.1
            case rel => exact ⟨t + 1, HGK2.out.2, by go_num, by rw [HSn.out], rfl⟩
          · obtain rfl : t = E.length := by omega
            rw [List.take_length]
            have hti : ¬ (E.length : Int) < (E.length : Int) := by omega
            generalize sumN B E = s at *
            go_wp2_with (at_builtin; refine app_law w2 w.heap.size _ L s rfl _ _ rfl rfl rfl HO2.out hs2 (by omega) w HB2.out ?_)
            intro v' w' H'
            go_wp2_with fail
            go_roundg (2 - j - 1)
            case measure => exact HGK.out.1
            case rel => exact ⟨j + 1, HGK.out.2, by go_num, by rw [HS.out]; exact H'.out.1, H'.out.2.1⟩
      · obtain rfl : j = 2 := by omega
        rw [withK_two] at HOj
        obtain ⟨A3, c3, rfl, _⟩ := HOj.out.form
        go_wp2_with fail
        go_ret2
        exact ⟨_, rfl, by rw [HV.out]; exact HOj.out, HBj.out⟩

/-- What the program asks of a block agrees with the model. -/
theorem is_split {zs : List Int} (h2 : 2 ≤ zs.length) (hp : allIn zs 4294967295 = true) : wiOkB (zs.take (zs.length - 2)) = isOkB zs ∧ eqL (wiI (zs.take (zs.length - 2))) zs = isI zs := by
  have htl : (zs.take (zs.length - 2)).length = zs.length - 2 := by rw [List.length_take]; omega
  have hpt : allIn (zs.take (zs.length - 2)) 4294967295 = true := by
    rw [allIn, List.all_eq_true] at hp ⊢
    exact fun z hz => hp z (List.mem_of_mem_take hz)
  have h1 : wiOkB (zs.take (zs.length - 2)) = isOkB zs := by
    rw [wiOkB, hpt, isOkB, blkOkB, hp, htl]
    simp only [Bool.and_true, pc6B, pcOkB, inB]
    by_cases h3 : 3 ≤ zs.length
    · by_cases h8 : zs.length ≤ 8
      · have a1 : (1 : Int) ≤ ((zs.length - 2 : Nat) : Int) := by omega
        have a2 : ((zs.length - 2 : Nat) : Int) ≤ 6 := by omega
        have a3 : (1 : Int) ≤ (zs.length : Int) := by omega
        have a4 : (zs.length : Int) ≤ 8 := by omega
        simp [a1, a2, a3, a4, h3]
      · have a2 : ¬ ((zs.length - 2 : Nat) : Int) ≤ 6 := by omega
        have a4 : ¬ (zs.length : Int) ≤ 8 := by omega
        simp [a2, a4]
    · have a1 : ¬ (1 : Int) ≤ ((zs.length - 2 : Nat) : Int) := by omega
      simp [a1, h3]
  refine ⟨h1, ?_⟩
  rw [isI, ← h1]
  cases h : wiOkB (zs.take (zs.length - 2))
  · rw [wi_not h]
    exact eqL_len (by simp; omega)
  · rfl

set_option maxRecDepth 100000 in
set_option maxHeartbeats 2000000 in
theorem iIs_any (A : Option Addr) (zs : List Int) (ca : Nat) (w : World) (ha : Ints w A zs) (hl : zs.length ≤ 1048576) (hca : zs.length ≤ ca) :
    Calls Try.prog 15 #[.slice A zs.length ca] w fun e w' => e = .returned (.tuple #[.bool (isI zs), .bool (isOkB zs)]) ∧ Below w.heap.size w w' := by
  by_cases h2 : 2 ≤ zs.length
  · have h2i : ¬ (zs.length : Int) < 2 := by omega
    have HG := Lib.hid (iPieces5 A zs ca w ha hl)
    cases hp : allIn zs 4294967295
    · have hok : isOkB zs = false := by rw [isOkB, blkOkB, hp]; simp
      have HE : Hid (isI zs = false ∧ isOkB zs = false) := ⟨is_not hok, hok⟩
      rw [hp] at HG
      clear ha hok
      go_enter Try.func15, Try.ntmps15
      go_wp2_with (go_at_call 22; refine HG.out.mono ?_; rintro e w' ⟨rfl, rfl⟩)
      go_ret2
      exact ⟨tupBB HE.out.1.symm HE.out.2.symm, Below.refl _ _⟩
    · rw [hp] at HG
      obtain ⟨q1, q2⟩ := is_split h2 hp
      have htl : (zs.take (zs.length - 2)).length = zs.length - 2 := by rw [List.length_take]; omega
      have HX := Lib.hid (iWith_any A (zs.take (zs.length - 2)) ca w (ha.takeZ _) (by rw [htl]; omega))
      have hwl := wiI_len (zs.take (zs.length - 2))
      rw [htl, q1] at HX
      have HQ := Lib.hid q2
      have HA := Lib.hid ha
      have hsub : ((zs.length : Int) - 2) = ((zs.length - 2 : Nat) : Int) := by omega
      have hle : zs.length - 2 ≤ ca := by omega
      clear ha htl q1 q2 hp
      generalize wiI (zs.take (zs.length - 2)) = V at *
      go_enter Try.func15, Try.ntmps15
      go_wp2_with (first
        | (go_at_call 22; refine HG.out.mono ?_; rintro e w' ⟨rfl, rfl⟩)
        | (go_at_call 13; refine HX.out.mono ?_; rintro e w1 ⟨v1, rfl, ho1, hb1⟩))
      obtain ⟨A1, c1, rfl, hI1⟩ := ho1.form
      have HB1 := Lib.hid hb1
      have HSm := Lib.hid (iEqual A1 A V zs c1 ca w1 hI1 (HA.out.below hb1) (by omega))
      clear ho1 hb1 hI1 HX
      go_wp2_with fail
      refine HSm.out.mono ?_
      rintro e w2 ⟨rfl, n2, rfl⟩
      have HB2 := Lib.hid (below_more HB1.out (below_drewN (Below.refl _ _) n2))
      obtain ⟨r, hr⟩ : ∃ r, eqL V zs = r := ⟨_, rfl⟩
      rw [hr]
      have HR : Hid (r = isI zs) := hr.symm.trans HQ.out
      clear hr HQ
      go_wp2_with fail
      go_ret2
      exact ⟨tupB HR.out, HB2.out⟩
  · have h2i : (zs.length : Int) < 2 := by omega
    have hok : isOkB zs = false := by rw [isOkB]; simp; omega
    have HE : Hid (isI zs = false ∧ isOkB zs = false) := ⟨is_not hok, hok⟩
    clear ha hok
    go_enter Try.func15, Try.ntmps15
    go_wp2_with fail
    go_ret2
    exact ⟨tupBB HE.out.1.symm HE.out.2.symm, Below.refl _ _⟩

theorem ra_all (zs : List Int) (no : Int) : letOkB (wiI zs) no = raOkB zs no ∧ letNoI (wiI zs) no = raNoI zs no ∧ letSumI (wiI zs) no = raSumI zs no := by
  cases h : wiOkB zs
  · exact ra_no h
  · cases h2 : raOkB zs no
    · have hn : noOkB no = false := by rw [raOkB, h] at h2; exact h2
      have hf : letOkB (wiI zs) no = false := by rw [letOkB, hn]; simp
      obtain ⟨q1, q2⟩ := ra_not h2
      rw [q1, q2]
      exact ⟨hf, by simp [letNoI, hf], by simp [letSumI, hf]⟩
    · exact ra_let h2

end Go.Proofs.Ytddimdfkapbflaa

/- JZ -/
namespace Go.Proofs.Ytddimdfkapbflaa
open Go.RowKit

/-- The least number of symbols, k or more of them, whose rows have full rank. -/
def smallFrom (n : Nat) (R : List Nat) (k : Nat) : Option Nat := if k ≤ R.length then smallK n R (R.length - k) k else none
theorem small_zero (n : Nat) (R : List Nat) : smallFrom n R 0 = smallN n R := by rw [smallFrom, if_pos (Nat.zero_le _)]; rfl
theorem small_hit {n : Nat} {R : List Nat} {k : Nat} (hk : k ≤ R.length) (h : rank (R.take k) = n) : smallFrom n R k = some k := by
  rw [smallFrom, if_pos hk]
  cases R.length - k <;> simp [smallK, h]
theorem small_miss {n : Nat} {R : List Nat} {k : Nat} (hk : k ≤ R.length) (h : ¬ rank (R.take k) = n) : smallFrom n R k = smallFrom n R (k + 1) := by
  rw [smallFrom, if_pos hk]
  by_cases e : k = R.length
  · rw [smallFrom, if_neg (by omega), e, Nat.sub_self]
    subst e
    rw [smallK, if_neg h]
  · rw [smallFrom, if_pos (by omega), show R.length - k = (R.length - (k + 1)) + 1 by omega, smallK, if_neg h]
theorem small_end {n : Nat} {R : List Nat} {k : Nat} (hk : ¬ k ≤ R.length) : smallFrom n R k = none := by rw [smallFrom, if_neg hk]
theorem small_one {n : Nat} {R : List Nat} (hn : 1 ≤ n) : smallFrom n R 1 = smallN n R := by
  rw [← small_zero, small_miss (Nat.zero_le _) ?_]
  rw [List.take_zero]
  intro e
  have := rank_le_length []
  simp at this
  omega
def smPreB (n : Int) (zs : List Int) : Bool := pc6B n && (decide (zs.length ≤ 20) && (allIn zs 999 && disTo zs zs.length))
def smN (n : Int) (zs : List Int) : Option Nat := if smPreB n zs = true then smallN n.toNat ((zs.map Int.toNat).map (row6 n.toNat)) else none
def smI (n : Int) (zs : List Int) : Int := ((smN n zs).getD 0 : Nat)
def smOkB (n : Int) (zs : List Int) : Bool := (smN n zs).isSome
theorem sm_pre (n : Int) (zs : List Int) : smPreB n zs = (enOkB n zs && pc6B n) := by
  rw [smPreB, enOkB]
  cases h : pc6B n
  · simp
  · obtain ⟨m, rfl, h1, h6⟩ := pc6_8 h
    have : pcOkB (m : Int) = true := by simp [pcOkB, inB]; omega
    rw [this]; simp
theorem sm_not {n : Int} {zs : List Int} (h : smPreB n zs = false) : smI n zs = 0 ∧ smOkB n zs = false := by
  have : smN n zs = none := by rw [smN, h]; rfl
  rw [smI, smOkB, this]; exact ⟨rfl, rfl⟩
theorem sm_nat {n : Int} {zs : List Int} (h : smPreB n zs = true) : ∃ (m : Nat) (N : List Nat), n = m ∧ zs = zI N ∧ 1 ≤ m ∧ m ≤ 6 ∧ N.length ≤ 20 ∧ (∀ x ∈ N, x ≤ 999) ∧ smN n zs = smallN m (N.map (row6 m)) := by
  have hh := h
  simp only [smPreB, Bool.and_eq_true, decide_eq_true_eq] at hh
  obtain ⟨h6, h20, h9, _⟩ := hh
  obtain ⟨m, rfl, hm1, hm6⟩ := pc6_8 h6
  obtain ⟨N, rfl, hNl, hN⟩ := nat_zI h9
  refine ⟨m, N, rfl, rfl, hm1, hm6, by omega, hN, ?_⟩
  rw [smN, if_pos h, zI_toNat, Int.toNat_natCast]
theorem row6_16 {m : Nat} {N : List Nat} (hm : m ≤ 6) : ∀ r ∈ N.map (row6 m), r < 65536 := fun r hr => by
  obtain ⟨no, _, rfl⟩ := List.mem_map.1 hr
  exact Nat.lt_of_lt_of_le (row6_lt m no) (Nat.le_trans (Nat.pow_le_pow_right (by decide) (show m ≤ 16 by omega)) (by decide))

end Go.Proofs.Ytddimdfkapbflaa

/- EC -/
namespace Go.Proofs.Ytddimdfkapbflaa
open Go.RowKit

/-- The block whose piece k is 2^k. -/
def powsL (n : Nat) : List Nat := (List.range n).map fun k => 2 ^ k
theorem pows_length (n : Nat) : (powsL n).length = n := by simp [powsL]
theorem pows_snoc (n : Nat) : powsL (n + 1) = powsL n ++ [2 ^ n] := by simp [powsL, List.range_succ]
theorem pows_at {n k : Nat} (h : k < n) : (powsL n).getD k 0 = 2 ^ k := by simp [powsL, List.getD, h]
theorem pows_lt {n : Nat} (h : n ≤ 6) : ∀ b ∈ powsL n, b < 2 ^ 32 := fun b hb => by
  obtain ⟨k, hk, rfl⟩ := List.mem_map.1 hb
  have := List.mem_range.1 hk
  exact Nat.pow_lt_pow_right (by omega) (by omega)
theorem sm_pows {n x : Nat} (i : Nat) : ∀ {k : Nat}, k ≤ n → (sm (powsL n) k x).testBit i = (decide (i < k) && x.testBit i)
  | 0, _ => by simp [sm]
  | k + 1, h => by
    rw [sm, Nat.testBit_xor, sm_pows i (show k ≤ n by omega), pows_at (show k < n by omega)]
    by_cases e : i = k
    · subst e
      cases x.testBit i <;> simp
    · have h1 : ¬ k = i := fun e' => e e'.symm
      have h2 : (if x.testBit k = true then 2 ^ k else 0).testBit i = false := by
        split
        · rw [Nat.testBit_two_pow]; simp [h1]
        · simp
      rw [h2]
      by_cases e2 : i < k
      · have : i < k + 1 := by omega
        simp [e2, this]
      · have : ¬ i < k + 1 := by omega
        simp [e2, this]
theorem sm_same {n x : Nat} (h : x < 2 ^ n) : sm (powsL n) n x = x := by
  apply Nat.eq_of_testBit_eq
  intro i
  rw [sm_pows i (Nat.le_refl n)]
  by_cases hi : i < n
  · simp [hi]
  · have : x.testBit i = false := Nat.testBit_lt_two_pow (Nat.lt_of_lt_of_le h (Nat.pow_le_pow_right (by omega) (by omega)))
    simp [hi, this]
/-- The symbols of that block are the rows. -/
theorem pows_row {n : Nat} (h1 : 1 ≤ n) (h6 : n ≤ 6) (no : Int) : wiOkB (zI (powsL n)) = true ∧ wiI (zI (powsL n)) = zI (withL (powsL n)) ∧ letOkB (zI (withL (powsL n))) no = roOkB (n : Int) no ∧ letSumI (zI (withL (powsL n))) no = roI (n : Int) no := by
  have hok : wiOkB (zI (powsL n)) = true := by
    have hal : allIn (zI (powsL n)) 4294967295 = true := by
      rw [allIn, List.all_eq_true]
      intro z hz
      obtain ⟨b, hb, rfl⟩ := List.mem_map.1 hz
      have := pows_lt h6 b hb
      simp [inB]; omega
    rw [wiOkB, hal, zI_length, pows_length]
    simp [pc6B, inB]; omega
  have hwi : wiI (zI (powsL n)) = zI (withL (powsL n)) := by rw [wiI, if_pos hok, zI_toNat]
  have hp6 : pc6B (n : Int) = true := by simp [pc6B, inB]; omega
  have hro : raOkB (zI (powsL n)) no = roOkB (n : Int) no := by rw [raOkB, hok, roOkB, hp6]
  obtain ⟨q1, _, q3⟩ := ra_all (zI (powsL n)) no
  rw [hwi] at q1 q3
  refine ⟨hok, hwi, q1.trans hro, q3.trans ?_⟩
  cases h : roOkB (n : Int) no
  · rw [ro_not h, (ra_not (hro.trans h)).2]
  · obtain ⟨a, b, e1, rfl, _, _, _⟩ := ro_nat h
    rw [ro_yes h, (ra_sum (hro.trans h)).2, pows_length, sm_same (row6_lt n b)]

theorem rank6 {m : Nat} {R : List Nat} (hm1 : 1 ≤ m) (hm6 : m ≤ 6) (hl : R.length ≤ 20) (hR : ∀ r ∈ R, r < 2 ^ m) : rankI (m : Int) (zI R) = (rank R : Nat) ∧ rowsB (m : Int) (zI R) = true := by
  have hw : wideB (m : Int) = true := by simp [wideB]; omega
  have hall : allG (m : Int) (zI R) = true := by
    rw [allG, List.all_eq_true]
    intro z hz
    obtain ⟨r, hr, rfl⟩ := List.mem_map.1 hz
    exact good5 hm1 (by omega) (hR r hr)
  have hrows : rowsB (m : Int) (zI R) = true := by
    rw [rowsB, hw, zI_length, hall]
    simp [hl]
  exact ⟨by rw [rankI, stepsI_ok hrows, zI_length]; rfl, hrows⟩

end Go.Proofs.Ytddimdfkapbflaa
