/-
  The model of chapter 5: l5Rows, l5Solve.
-/
import Derived.Test.YtdoogleggdlddaaDoorJL
import Derived.Test.YtdoogleggdlddaaDoorU4
namespace Go.Proofs.YtdoogleggdlddaaDoor
open Go.RowKit

theorem rowN_snoc {P : List Nat} {t : Nat} (h : t < P.length) : rowN (P.take (t + 1)) = rowN (P.take t) ||| 2 ^ P[t] := by
  rw [List.take_succ_eq_append_getElem h, rowN, List.foldl_append]; rfl
theorem rowN_16 {n : Nat} {P : List Nat} (hn : n ≤ 8) (h : ∀ k ∈ P, k < n) (t : Nat) : rowN (P.take t) < 65536 :=
  Nat.lt_of_lt_of_le (rowN_lt (n := n) fun k hk => h k (List.mem_of_mem_take hk)) (Nat.le_trans (Nat.pow_le_pow_right (by decide) (show n ≤ 16 by omega)) (by decide))
theorem rows_snoc {n : Nat} {nos : List Nat} {k : Nat} (h : k < nos.length) : (nos.take (k + 1)).map (rowOfN n) = (nos.take k).map (rowOfN n) ++ [rowN (partsL nos[k] n)] := by
  rw [List.take_succ_eq_append_getElem h, List.map_append]; rfl

set_option maxRecDepth 100000 in
set_option maxHeartbeats 2000000 in
theorem sRows5 (n : Nat) (A : Option Addr) (nos : List Nat) (ca : Nat) (w : World) (ha : Ints w A (zI nos)) (hn1 : 1 ≤ n) (hn8 : n ≤ 8) (hl : nos.length ≤ 1000) (hx : ∀ x ∈ nos, x ≤ 999) :
    Calls Tryd.prog 81 #[.int .i64 n, .slice A nos.length ca] w fun e w' => ∃ v, e = .returned v ∧ Own w' w.heap.size v (zI (nos.map (rowOfN n))) ∧ Below w.heap.size w w' := by
  have HA := Lib.hid ha
  have HX := Lib.hid hx
  clear ha hx
  go_enter Tryd.func81, Tryd.ntmps81
  go_wp2_with fail
  go_loopg [5, 13] nos.length (fun gk v i wr => ∃ k : Nat, k + gk = nos.length ∧ i = .int .i64 k ∧ Own wr w.heap.size v (zI ((nos.take k).map (rowOfN n))) ∧ Below w.heap.size w wr)
  case atStart => exact ⟨0, by omega, rfl, Own.nil _ _, Below.refl _ _⟩
  case round =>
    obtain ⟨k, hg, rfl, hown, hbel⟩ := hrel
    have HO := Lib.hid hown
    have HB := Lib.hid hbel
    clear hown hbel
    by_cases hlt : k < nos.length
    · have hki : (k : Int) < (nos.length : Int) := by omega
      obtain ⟨b3, o3, rfl, hc3⟩ := (HA.out.below HB.out).cellN hlt
      have hx1 := HX.out nos[k] (List.getElem_mem hlt)
      have HR := Lib.hid (rows_snoc (n := n) hlt)
      have HGK : Hid (nos.length - k - 1 < gk ∧ k + 1 + (nos.length - k - 1) = nos.length) := by show _ ∧ _; omega
      have HRl : Hid (((nos.take k).map (rowOfN n)).length ≤ 1000) := by show _ ≤ _; rw [List.length_map, List.length_take]; omega
      generalize (nos.take k).map (rowOfN n) = RL at *
      generalize nos[k] = no at *
      obtain ⟨hri, hrl⟩ := parts_ok no hn1
      have hd4 := (degN_bd no hn1).2.1
      have HRi := Lib.hid hri.2
      have hP4 : (partsL no n).length ≤ 4 := by omega
      have HPar := Lib.hid (sParts no n wr hx1 hn1 hn8)
      clear hg hri hrl hd4
      generalize partsL no n = P at *
      go_wp2_with fail
      refine HPar.out.mono ?_
      rintro e w4 ⟨v4, rfl, ho4, hb4⟩
      obtain ⟨A4, c4, rfl, hI4⟩ := ho4.form
      rw [zI_length]
      have HI4 := Lib.hid hI4
      have HO4 := Lib.hid (HO.out.below hb4)
      have HB4 := Lib.hid (below_more HB.out hb4)
      have hs4 := (below_more HB.out hb4).size
      clear ho4 hI4 hb4 HO HB HPar
      go_wp2_with fail
      go_loopg [8, 21] P.length (fun g3 r i wx => ∃ t : Nat, t + g3 = P.length ∧ i = .int .i64 t ∧ r = .int .i64 (rowN (P.take t) : Nat) ∧ w4 = wx)
      case atStart => exact ⟨0, by omega, rfl, rfl, rfl⟩
      case round =>
        obtain ⟨t, hg3, rfl, rfl, rfl⟩ := hrel
        by_cases hlt3 : t < P.length
        · have hti : (t : Int) < (P.length : Int) := by omega
          obtain ⟨b5, o5, rfl, hc5⟩ := HI4.out.cellN hlt3
          have hqn := HRi.out P[t] (List.getElem_mem hlt3)
          have HS := Lib.hid (rowN_snoc hlt3)
          have hrl := rowN_16 hn8 HRi.out t
          have HGK3 : Hid (P.length - t - 1 < gk ∧ t + 1 + (P.length - t - 1) = P.length) := by show _ ∧ _; omega
          generalize P[t] = q at *
          generalize rowN (P.take t) = ρ at *
          obtain ⟨hp1, hp2⟩ := pow_bd q (by omega)
          have ho := or_i64' ρ q hrl (by omega)
          clear hg3
          go_wp2_with fail
          go_roundg (P.length - t - 1)
          case measure => exact HGK3.out.1
          case rel => exact ⟨t + 1, HGK3.out.2, by go_num, by rw [HS.out], rfl⟩
        · obtain rfl : t = P.length := by omega
          rw [List.take_length]
          have hti : ¬ (P.length : Int) < (P.length : Int) := by omega
          generalize rowN P = ρ at *
          go_wp2_with (at_builtin; refine app_law w4 w.heap.size _ RL ρ rfl _ _ rfl rfl rfl HO4.out hs4 (by have := HRl.out; omega) w HB4.out ?_)
          intro v' w' H'
          go_wp2_with fail
          go_roundg (nos.length - k - 1)
          case measure => exact HGK.out.1
          case rel => exact ⟨k + 1, HGK.out.2, by go_num, by rw [HR.out]; exact H'.out.1, H'.out.2.1⟩
    · obtain rfl : k = nos.length := by omega
      rw [List.take_length] at HO
      have hki : ¬ (nos.length : Int) < (nos.length : Int) := by omega
      obtain ⟨A3, c3, rfl, _⟩ := HO.out.form
      go_wp2_with fail
      go_ret
      exact ⟨_, rfl, HO.out, HB.out⟩

/-- The pieces that rows and sums give. -/
def solveL (n : Nat) (R Sm : List Nat) : List Nat := (List.range n).map fun k => sumN Sm (idxL (mkM R R.length (2 ^ k)) R.length)
theorem solve_snoc (R Sm : List Nat) (k : Nat) : solveL (k + 1) R Sm = solveL k R Sm ++ [sumN Sm (idxL (mkM R R.length (2 ^ k)) R.length)] := by simp [solveL, List.range_succ]
theorem solve_length (n : Nat) (R Sm : List Nat) : (solveL n R Sm).length = n := by simp [solveL]
theorem idxL_lt {m k : Nat} : ∀ x ∈ idxL m k, x < k := fun _ hx => List.mem_range.1 (List.mem_filter.1 hx).1
theorem idxL_len (m k : Nat) : (idxL m k).length ≤ k := Nat.le_trans (List.length_filter_le _ _) (by rw [List.length_range]; exact Nat.le_refl _)
theorem good5 {m n : Nat} (h1 : 1 ≤ m) (h2 : m ≤ 16) (hn : n < 2 ^ m) : goodB (m : Int) (n : Int) = true := by
  have hw : wideB (m : Int) = true := by simp [wideB]; omega
  have h3 : (n : Int) < ((2 ^ m : Nat) : Int) := by omega
  rw [goodB, hw, Int.toNat_natCast, show ((2 : Int) ^ m) = ((2 ^ m : Nat) : Int) by simp]
  simp only [Bool.true_and, Bool.and_eq_true, decide_eq_true_eq]
  omega
theorem rows_twoOk {n k : Nat} {R : List Nat} (hn1 : 1 ≤ n) (hn8 : n ≤ 8) (hk : k < n) (hl : R.length ≤ 20) (hR : ∀ r ∈ R, r < 2 ^ n) (hs : Sp R (2 ^ k)) : canI (n : Int) (zI R) ((2 ^ k : Nat) : Int) = true := by
  have hw : wideB (n : Int) = true := by simp [wideB]; omega
  have hg : goodB (n : Int) ((2 ^ k : Nat) : Int) = true := good5 hn1 (by omega) (Nat.pow_lt_pow_right (by omega) hk)
  have hr : rowsB (n : Int) (zI R) = true := by
    have hall : allG (n : Int) (zI R) = true := by
      rw [allG, List.all_eq_true]
      intro z hz
      obtain ⟨r, hr, rfl⟩ := List.mem_map.1 hz
      exact good5 hn1 (by omega) (hR r hr)
    rw [rowsB, hw, zI_length, hall]
    simp [hl]
  rw [canI, twoOkB, hr, hg, nL_zI, Int.toNat_natCast, (canB_iff R _).2 hs]; rfl

set_option maxRecDepth 100000 in
set_option maxHeartbeats 2000000 in
theorem sSolve (n : Nat) (A B : Option Addr) (R Sm : List Nat) (ca cb : Nat) (w : World) (ha : Ints w A (zI R)) (hb : Ints w B (zI Sm)) (hn1 : 1 ≤ n) (hn8 : n ≤ 8) (hl : R.length ≤ 20) (hls : Sm.length = R.length) (hR : ∀ r ∈ R, r < 2 ^ n) (hS : ∀ s ∈ Sm, s < 2 ^ 32) (hca : R.length ≤ ca) :
    Calls Tryd.prog 58 #[.int .i64 n, .slice A R.length ca, .slice B Sm.length cb] w fun e w' => ∃ v, e = .returned (.tuple #[v, .bool (decide (rank R = n))]) ∧ Own w' w.heap.size v (if rank R = n then zI (solveL n R Sm) else []) ∧ Below w.heap.size w w' := by
  have hR16 : ∀ r ∈ R, r < 65536 := fun r hr => Nat.lt_of_lt_of_le (hR r hr) (Nat.le_trans (Nat.pow_le_pow_right (by decide) (show n ≤ 16 by omega)) (by decide))
  have hrk : rank R ≤ n := rank_le_width hR
  have HA := Lib.hid ha
  have HB := Lib.hid hb
  have HSt := Lib.hid (sSteps A R ca w ha (by omega) hR16)
  have HRk : Hid ((steps R).length = rank R) := rfl
  have HLs := Lib.hid hls
  clear hls
  by_cases hfull : rank R = n
  · have hsp := full_span hR hfull
    have HCan := Lib.hid (fun k hk => rows_twoOk hn1 hn8 hk hl hR (hsp k hk))
    have HMk := Lib.hid (fun k hk => makeI_ok (HCan.out k hk))
    have HS := Lib.hid hS
    have hd : decide (rank R = n) = true := by simpa using hfull
    rw [hd, if_pos hfull]
    clear ha hb hR hR16 hsp hS hd
    go_enter Tryd.func58, Tryd.ntmps58
    go_wp2_with fail
    refine HSt.out.mono ?_
    rintro e w1 ⟨v1, rfl, ho1, hb1⟩
    obtain ⟨A1, c1, rfl, _⟩ := ho1.form
    rw [zI_length, HRk.out, hfull]
    clear hfull hrk
    have HB1 := Lib.hid hb1
    clear ho1 hb1 HSt
    have hnn : ¬ (n : Int) < (n : Int) := by omega
    go_wp2_with fail
    go_loopg [8, 9] n (fun gk v i wr => ∃ k : Nat, k + gk = n ∧ i = .int .i64 k ∧ Own wr w.heap.size v (zI (solveL k R Sm)) ∧ Below w.heap.size w wr)
    case atStart => exact ⟨0, by omega, rfl, Own.nil _ _, HB1.out⟩
    case round =>
      obtain ⟨k, hg, rfl, hown, hbel⟩ := hrel
      have HO := Lib.hid hown
      have HBl := Lib.hid hbel
      clear hown hbel
      by_cases hlt : k < n
      · have hki : (k : Int) < (n : Int) := by omega
        obtain ⟨hp1, hp2⟩ := pow_bd k (by omega)
        have HMa := Lib.hid (sMake_any (n : Int) A (zI R) ca ((2 ^ k : Nat) : Int) wr (HA.out.below HBl.out) (by rw [zI_length]; omega) (by rw [zI_length]; exact hca))
        rw [HCan.out k hlt, HMk.out k hlt, zI_length, show ((2 ^ k : Nat) : Int) = (2 : Int) ^ k by simp] at HMa
        have HSn := Lib.hid (solve_snoc R Sm k)
        have HSl := Lib.hid (solve_length k R Sm)
        have HIl := Lib.hid (idxL_lt (m := mkM R R.length (2 ^ k)) (k := R.length))
        have hil := idxL_len (mkM R R.length (2 ^ k)) R.length
        have HGK : Hid (n - k - 1 < gk ∧ k + 1 + (n - k - 1) = n) := by show _ ∧ _; omega
        clear hg
        generalize idxL (mkM R R.length (2 ^ k)) R.length = K at *
        go_wp2_with fail
        refine HMa.out.mono ?_
        rintro e w2 ⟨v2, rfl, ho2, hb2⟩
        obtain ⟨A2, c2, rfl, hI2⟩ := ho2.form
        rw [zI_length]
        have HSu := Lib.hid (sSumN B A2 Sm K cb c2 w2 (HB.out.below (below_more HBl.out hb2)) hI2 HS.out (fun x hx => by rw [HLs.out]; exact HIl.out x hx) (by omega))
        have HO2 := Lib.hid (HO.out.below hb2)
        have HB2 := Lib.hid (below_more HBl.out hb2)
        have hs2 := (below_more HBl.out hb2).size
        clear ho2 hI2 hb2 HMa HO HBl
        generalize sumN Sm K = y at *
        generalize solveL k R Sm = RL at *
        go_wp2_with (first
          | (go_at_call 74; refine HSu.out.mono ?_; rintro e w' ⟨rfl, rfl⟩)
          | (at_builtin; refine app_law w2 w.heap.size _ RL y rfl _ _ rfl rfl rfl HO2.out hs2 (by rw [HSl.out]; omega) w HB2.out ?_; intro v' w' H'))
        go_roundg (n - k - 1)
        case measure => exact HGK.out.1
        case rel => exact ⟨k + 1, HGK.out.2, by go_num, by rw [HSn.out]; exact H'.out.1, H'.out.2.1⟩
      · obtain rfl : k = n := by omega
        have hki : ¬ (k : Int) < (k : Int) := by omega
        obtain ⟨A3, c3, rfl, _⟩ := HO.out.form
        go_wp2_with fail
        go_ret2
        exact ⟨_, rfl, HO.out, HBl.out⟩
  · have hd : decide (rank R = n) = false := by simpa using hfull
    rw [hd, if_neg hfull]
    have hlt : ((rank R : Nat) : Int) < (n : Int) := by omega
    clear ha hb hR hR16 hS hd hfull
    go_enter Tryd.func58, Tryd.ntmps58
    go_wp2_with fail
    refine HSt.out.mono ?_
    rintro e w1 ⟨v1, rfl, ho1, hb1⟩
    obtain ⟨A1, c1, rfl, _⟩ := ho1.form
    rw [zI_length, HRk.out]
    clear ho1 HSt
    go_wp2_with fail
    go_ret2
    exact ⟨_, rfl, Own.nil _ _, hb1⟩
end Go.Proofs.YtdoogleggdlddaaDoor
