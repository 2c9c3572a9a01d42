/-
  The law FnNearest, walked: it returns true, and turns nothing that lay in memory.
-/
import Derived.Test.YtfkojlpihpgnaaaDoorNA
import Derived.Test.YtfkojlpihpgnaaaDoorDB
namespace Go.Proofs.YtfkojlpihpgnaaaDoor
open Go.RowKit

theorem cnt_zero (m : Nat) : cnt m 0 = 0 := by
  induction m with
  | zero => rfl
  | succ m ih => rw [cnt, ih]; simp
theorem near_or (m e k : Nat) (hm1 : 1 ≤ m) (hm2 : m ≤ 10) (hk : k ≤ 4) (he : e < 65536) : ∀ r : Nat, r ≤ 1000003 →
    bits .or .i64 (e : Int) (IntKind.i64.wrap (2 ^ min (IntKind.u64.wrap ((IntKind.i64.wrap ((r : Int) + IntKind.i64.wrap (IntKind.i64.wrap ((k : Int) * (k : Int)) * 3))).tmod (m : Int))).toNat 64)) = ((e ||| 2 ^ ((r + k * k * 3) % m) : Nat) : Int) ∧
      (e < 2 ^ m → e ||| 2 ^ ((r + k * k * 3) % m) < 2 ^ m) ∧ cnt m (e ||| 2 ^ ((r + k * k * 3) % m)) ≤ cnt m e + 1 := by
  intro r hr
  have hkk : k * k ≤ 16 := Nat.mul_le_mul hk hk
  have h1 : IntKind.i64.wrap ((k : Int) * (k : Int)) = ((k * k : Nat) : Int) := by
    rw [← Int.natCast_mul, wrap62 _ (by omega) (by omega)]
  have h2 : IntKind.i64.wrap (((k * k : Nat) : Int) * 3) = ((k * k * 3 : Nat) : Int) := by
    rw [wrap62 _ (by omega) (by omega)]; omega
  have h3 : IntKind.i64.wrap ((r : Int) + ((k * k * 3 : Nat) : Int)) = ((r + k * k * 3 : Nat) : Int) := by
    rw [wrap62 _ (by omega) (by omega)]; omega
  rw [h1, h2, h3]
  have hlt : (r + k * k * 3) % m < m := Nat.mod_lt _ hm1
  have h4 : (((r + k * k * 3 : Nat) : Int)).tmod (m : Int) = (((r + k * k * 3) % m : Nat) : Int) := by
    rw [Int.tmod_eq_emod_of_nonneg (Int.natCast_nonneg _)]; exact (Int.natCast_emod _ _).symm
  rw [h4]
  generalize (r + k * k * 3) % m = s at *
  have h5 : IntKind.i64.wrap (2 ^ min (IntKind.u64.wrap (s : Int)).toNat 64) = (2 : Int) ^ s := by
    clear h4
    rcases (show s = 0 ∨ s = 1 ∨ s = 2 ∨ s = 3 ∨ s = 4 ∨ s = 5 ∨ s = 6 ∨ s = 7 ∨ s = 8 ∨ s = 9 by omega) with rfl | rfl | rfl | rfl | rfl | rfl | rfl | rfl | rfl | rfl <;> decide
  rw [h5, or_i64' e s he (by omega)]
  exact ⟨rfl, fun hel => Nat.or_lt_two_pow hel (Nat.pow_lt_pow_right (by decide) hlt), cnt_or_pow m e s⟩

set_option maxRecDepth 100000 in
set_option maxHeartbeats 8000000 in
theorem near_small (A B : Option Addr) (za zb : List Int) (ca cb : Nat) (w : World) (ht : Tab w) (ha : Byts w w.heap.size A za) (hb : Byts w w.heap.size B zb) (hl : za.length + zb.length ≤ 1048576) :
    Calls Tryd.prog 5 #[.slice A za.length ca, .slice B zb.length cb] w fun e w' => e = .returned (.bool true) ∧ Below w.heap.size w w' := by
  have HT := Lib.hid ht
  have HA := Lib.hid ha
  have HB := Lib.hid hb
  clear ht ha hb
  go_enter Tryd.func5, Tryd.ntmps5
  go_wp2_with fail
  refine (drawWord A za ca _ HA.out).mono ?_
  rintro e w1 ⟨x, v1, l, y, rfl, ho1, hl1, hb1⟩
  obtain ⟨A1, c1, rfl, hI1⟩ := ho1.form
  have HL0 := Lib.hid hI1
  have HB0 := Lib.hid hb1
  have HM0 := Lib.hid (HB.out.stay hb1)
  clear hI1 ho1 hb1 HA HB
  cases hok : wordOkB x l y
  · have HI1 := Lib.hid (fun (w : World) (ht : Tab w) (ha : Ints w A1 l) => iWord_any x A1 l c1 y w ht ha (by omega))
    have HS1 := Lib.hid (fun (w : World) (ha : Ints w A1 l) => sWord_any x A1 l c1 y w ha (by omega))
    rw [hok] at HI1 HS1
    clear hok
    generalize wordI x l y = V1 at *
    have HL_101 := Lib.hid (HL0.out.below (below_alloc1 w1 (.cells #[.int .i64 x, .slice A1 l.length c1] 40)))
    have HB_101 := Lib.hid (below_more HB0.out (below_alloc1 w1 (.cells #[.int .i64 x, .slice A1 l.length c1] 40)))
    have HM_101 := Lib.hid (HM0.out.stay (below_alloc1 w1 (.cells #[.int .i64 x, .slice A1 l.length c1] 40)))
    clear HL0 HB0 HM0
    have HC_102 := Lib.hid (Boxd.new w1 40 x (.slice A1 l.length c1))
    have hcC0 := HC_102.out.cell0
    have hcC1 := HC_102.out.cell1
    go_wp2_with fail
    generalize w1.alloc (.cells #[.int .i64 x, .slice A1 l.length c1] 40) = w2 at *
    refine (HI1.out _ (HT.out.below HB_101.out) HL_101.out).mono ?_
    rintro e w3 ⟨rfl, hb3⟩
    clear hcC0 hcC1
    have HL_103 := Lib.hid (HL_101.out.below hb3)
    have HB_103 := Lib.hid (below_more HB_101.out hb3)
    have HM_103 := Lib.hid (HM_101.out.stay hb3)
    have HC_103 := Lib.hid (HC_102.out.below hb3)
    clear HL_101 HB_101 HM_101 HC_102
    clear hb3
    have hcC0 := HC_103.out.cell0
    have hcC1 := HC_103.out.cell1
    go_wp2_with fail
    refine (HS1.out _ HL_103.out).mono ?_
    rintro e w4 ⟨rfl, hb4⟩
    clear hcC0 hcC1
    have HL_104 := Lib.hid (HL_103.out.below hb4)
    have HB_104 := Lib.hid (below_more HB_103.out hb4)
    have HM_104 := Lib.hid (HM_103.out.stay hb4)
    have HC_104 := Lib.hid (HC_103.out.below hb4)
    clear HL_103 HB_103 HM_103 HC_103
    clear hb4
    clear HC_104 HL_104
    go_wp2_with fail
    refine (drawNear B zb cb _ HM_104.out).mono ?_
    rintro e w20 ⟨u, v20, k, y2, rfl, ho20, hl20, hb20⟩
    obtain ⟨A20, c20, rfl, hI20⟩ := ho20.form
    have HB_105 := Lib.hid (below_more HB_104.out hb20)
    have HM_105 := Lib.hid (HM_104.out.stay hb20)
    clear HB_104 HM_104
    have HK_106 := Lib.hid (hI20)
    clear hI20 ho20 hb20
    have HB_107 := Lib.hid (below_more HB_105.out (below_alloc1 w20 (.cells #[.int .i64 u, .slice A20 k.length c20] 40)))
    have HM_107 := Lib.hid (HM_105.out.stay (below_alloc1 w20 (.cells #[.int .i64 u, .slice A20 k.length c20] 40)))
    have HK_107 := Lib.hid (HK_106.out.below (below_alloc1 w20 (.cells #[.int .i64 u, .slice A20 k.length c20] 40)))
    clear HB_105 HM_105 HK_106
    have HU_108 := Lib.hid (Boxd.new w20 40 u (.slice A20 k.length c20))
    have HI5 := Lib.hid (fun (w : World) (ht : Tab w) (ha : Ints w A20 k) => iNear_any u A20 k c20 y2 w ht ha (by omega))
    have HS5 := Lib.hid (fun (w : World) (ha : Ints w A20 k) => sNear_any u A20 k c20 y2 w ha (by omega))
    generalize nearI u k y2 = V5 at *
    generalize farI u k y2 = U5 at *
    generalize synOkB u k y2 = b5 at *
    have hcU0 := HU_108.out.cell0
    have hcU1 := HU_108.out.cell1
    go_wp2_with fail
    generalize w20.alloc (.cells #[.int .i64 u, .slice A20 k.length c20] 40) = w21 at *
    refine (HI5.out _ (HT.out.below HB_107.out) HK_107.out).mono ?_
    rintro e w22 ⟨rfl, hb22⟩
    clear hcU0 hcU1
    have HB_109 := Lib.hid (below_more HB_107.out hb22)
    have HM_109 := Lib.hid (HM_107.out.stay hb22)
    have HK_109 := Lib.hid (HK_107.out.below hb22)
    have HU_109 := Lib.hid (HU_108.out.below hb22)
    clear HB_107 HM_107 HK_107 HU_108
    clear hb22
    have hcU0 := HU_109.out.cell0
    have hcU1 := HU_109.out.cell1
    go_wp2_with fail
    refine (HS5.out _ HK_109.out).mono ?_
    rintro e w23 ⟨rfl, hb23⟩
    clear hcU0 hcU1
    have HB_110 := Lib.hid (below_more HB_109.out hb23)
    have HM_110 := Lib.hid (HM_109.out.stay hb23)
    have HK_110 := Lib.hid (HK_109.out.below hb23)
    have HU_110 := Lib.hid (HU_109.out.below hb23)
    clear HB_109 HM_109 HK_109 HU_109
    clear hb23
    clear HU_110 HK_110
    go_wp2_with fail
    refine (drawLeast B zb cb _ HM_110.out).mono ?_
    rintro e w24 ⟨u2, v24, k2, rfl, ho24, hl24, hb24⟩
    obtain ⟨A24, c24, rfl, hI24⟩ := ho24.form
    clear HM_110
    have HB_111 := Lib.hid (below_more HB_110.out hb24)
    clear HB_110
    have HK_112 := Lib.hid (hI24)
    clear hI24 ho24 hb24
    have HB_113 := Lib.hid (below_more HB_111.out (below_alloc1 w24 (.cells #[.int .i64 u2, .slice A24 k2.length c24] 40)))
    have HK_113 := Lib.hid (HK_112.out.below (below_alloc1 w24 (.cells #[.int .i64 u2, .slice A24 k2.length c24] 40)))
    clear HB_111 HK_112
    have HU_114 := Lib.hid (Boxd.new w24 40 u2 (.slice A24 k2.length c24))
    have HI6 := Lib.hid (fun (w : World) (ht : Tab w) (ha : Ints w A24 k2) => iLeastW_any u2 A24 k2 c24 w ht ha (by omega))
    have HS6 := Lib.hid (fun (w : World) (ha : Ints w A24 k2) => sLeastW_any u2 A24 k2 c24 w ha (by omega))
    generalize leastI u2 k2 = V6 at *
    generalize codeB u2 k2 = b6 at *
    have hcU0 := HU_114.out.cell0
    have hcU1 := HU_114.out.cell1
    go_wp2_with fail
    generalize w24.alloc (.cells #[.int .i64 u2, .slice A24 k2.length c24] 40) = w25 at *
    refine (HI6.out _ (HT.out.below HB_113.out) HK_113.out).mono ?_
    rintro e w26 ⟨rfl, hb26⟩
    clear hcU0 hcU1
    have HB_115 := Lib.hid (below_more HB_113.out hb26)
    have HK_115 := Lib.hid (HK_113.out.below hb26)
    have HU_115 := Lib.hid (HU_114.out.below hb26)
    clear HB_113 HK_113 HU_114
    clear hb26
    have hcU0 := HU_115.out.cell0
    have hcU1 := HU_115.out.cell1
    go_wp2_with fail
    refine (HS6.out _ HK_115.out).mono ?_
    rintro e w27 ⟨rfl, hb27⟩
    clear hcU0 hcU1
    have HB_116 := Lib.hid (below_more HB_115.out hb27)
    have HK_116 := Lib.hid (HK_115.out.below hb27)
    have HU_116 := Lib.hid (HU_115.out.below hb27)
    clear HB_115 HK_115 HU_115
    clear hb27
    go_wp2_with fail
    go_ret
    exact ⟨rfl, HB_116.out⟩
  · obtain ⟨m, wv, d, rfl, hm1, hm2, hwv, hwl, hc, hld, hd1, hd2, hP⟩ := near_word hok
    have HI1 := Lib.hid (fun (w : World) (ht : Tab w) (ha : Ints w A1 l) => iWord_any m A1 l c1 y w ht ha (by omega))
    have HS1 := Lib.hid (fun (w : World) (ha : Ints w A1 l) => sWord_any m A1 l c1 y w ha (by omega))
    have HI2 := Lib.hid (fun (w : World) (ht : Tab w) (ha : Ints w A1 l) => iLeastW_any m A1 l c1 w ht ha (by omega))
    have HI3 := Lib.hid (fun (e : Nat) (w : World) (ht : Tab w) (ha : Ints w A1 l) => iNear_any m A1 l c1 ((wv ^^^ e : Nat) : Int) w ht ha (by omega))
    have HP := Lib.hid hP
    rw [hok, hwv] at HI1 HS1
    rw [hld, hc] at HI2
    clear hok hwv hld hc hP
    have HL_101 := Lib.hid (HL0.out.below (below_alloc1 w1 (.cells #[.int .i64 m, .slice A1 l.length c1] 40)))
    have HB_101 := Lib.hid (below_more HB0.out (below_alloc1 w1 (.cells #[.int .i64 m, .slice A1 l.length c1] 40)))
    have HM_101 := Lib.hid (HM0.out.stay (below_alloc1 w1 (.cells #[.int .i64 m, .slice A1 l.length c1] 40)))
    clear HL0 HB0 HM0
    have HC_102 := Lib.hid (Boxd.new w1 40 m (.slice A1 l.length c1))
    have hcC0 := HC_102.out.cell0
    have hcC1 := HC_102.out.cell1
    go_wp2_with fail
    generalize w1.alloc (.cells #[.int .i64 m, .slice A1 l.length c1] 40) = w2 at *
    refine (HI1.out _ (HT.out.below HB_101.out) HL_101.out).mono ?_
    rintro e w3 ⟨rfl, hb3⟩
    clear hcC0 hcC1
    have HL_103 := Lib.hid (HL_101.out.below hb3)
    have HB_103 := Lib.hid (below_more HB_101.out hb3)
    have HM_103 := Lib.hid (HM_101.out.stay hb3)
    have HC_103 := Lib.hid (HC_102.out.below hb3)
    clear HL_101 HB_101 HM_101 HC_102
    clear hb3
    have hcC0 := HC_103.out.cell0
    have hcC1 := HC_103.out.cell1
    go_wp2_with fail
    refine (HS1.out _ HL_103.out).mono ?_
    rintro e w4 ⟨rfl, hb4⟩
    clear hcC0 hcC1
    have HL_104 := Lib.hid (HL_103.out.below hb4)
    have HB_104 := Lib.hid (below_more HB_103.out hb4)
    have HM_104 := Lib.hid (HM_103.out.stay hb4)
    have HC_104 := Lib.hid (HC_103.out.below hb4)
    clear HL_103 HB_103 HM_103 HC_103
    clear hb4
    have hcC0 := HC_104.out.cell0
    have hcC1 := HC_104.out.cell1
    go_wp2_with fail
    refine (HI2.out _ (HT.out.below HB_104.out) HL_104.out).mono ?_
    rintro e w5 ⟨rfl, hb5⟩
    clear hcC0 hcC1
    have HL_105 := Lib.hid (HL_104.out.below hb5)
    have HB_105 := Lib.hid (below_more HB_104.out hb5)
    have HM_105 := Lib.hid (HM_104.out.stay hb5)
    have HC_105 := Lib.hid (HC_104.out.below hb5)
    clear HL_104 HB_104 HM_104 HC_104
    clear hb5
    go_wp2_with fail
    generalize hg1 : w1.heap.size = g1 at *
    have hdq : ((d : Int) - 1) / 2 = (((d - 1) / 2 : Nat) : Int) := by omega
    have hd10 : (d - 1) / 2 ≤ 4 := by omega
    have hm0 : ¬ m = 0 := by omega
    generalize hQ : (d - 1) / 2 = q at *
    go_loopg [13, 14] q (fun gk p i wr => ∃ k e : Nat, k + gk = q ∧ i = .int .i64 k ∧ p = .int .i64 e ∧ e < 2 ^ m ∧ cnt m e ≤ k ∧ Below w5.heap.size w5 wr)
    case atStart => exact ⟨0, 0, by omega, rfl, rfl, Nat.two_pow_pos m, by rw [cnt_zero]; exact Nat.le_refl _, Below.refl _ _⟩
    case round =>
      obtain ⟨k, e, hgk, rfl, rfl, hel, hce, hbr⟩ := hrel
      have HBr := Lib.hid hbr
      have HCr := Lib.hid (HC_105.out.below hbr)
      have HMr := Lib.hid (HM_105.out.stay hbr)
      have hc0 := HCr.out.cell0
      clear hbr
      have he16 := lt16 (show m ≤ 16 by omega) hel
      by_cases hlt2 : k < q
      · have hki : (k : Int) < (q : Int) := by omega
        have hk4 : k ≤ 4 := by omega
        have HGK : Hid (q - k - 1 < gk ∧ k + 1 + (q - k - 1) = q) := by show _ ∧ _; omega
        have HSh := Lib.hid (near_or m e k hm1 hm2 hk4 he16)
        clear hgk
        go_wp2_with fail
        go_region_held3 (fun w' => w'.cell? ⟨g1, 0, none⟩ = some (.int .i64 m)) (first | exact hc0 | go_keep) (first
          | (go_at_call 44; refine (numberOf_le B _ zb cb _ (HMr.out.stay below_drew1) (by omega)).mono ?_; rintro e w' ⟨r, rfl, hr, rfl⟩))
        all_goals
          have HR := Lib.hid (HSh.out r hr)
          clear HSh
          go_wp2_with fail
          go_roundg (q - k - 1)
          case measure => exact HGK.out.1
          case rel => exact ⟨k + 1, _, HGK.out.2, by go_num, congrArg (Value.int .i64) HR.out.1, HR.out.2.1 hel, Nat.le_trans HR.out.2.2 (Nat.succ_le_succ hce), below_more HBr.out below_drew1⟩
      · obtain rfl : k = q := by omega
        have hki : ¬ (k : Int) < (k : Int) := by omega
        have hx := xor_i64 wv e (by have := lt16 (show m ≤ 16 by omega) hwl; omega) (by omega)
        obtain ⟨p1, p2, p3⟩ := HP.out e hel (by omega)
        have HN := Lib.hid (HI3.out e)
        rw [p1, p2, p3] at HN
        have hge := good_of hm1 (show m ≤ 16 by omega) hel
        have HWt := Lib.hid (fun (w : World) (ht : Tab w) => iWeight_ok m e w ht hge (by omega) he16)
        clear p1 p2 p3 hge HI3
        subst hg1
        have hb5r := HBr.out
        have HL_106 := Lib.hid (HL_105.out.below hb5r)
        have HB_106 := Lib.hid (below_more HB_105.out hb5r)
        clear HL_105 HB_105
        clear hb5r HBr hc0
        have hcC0 := HCr.out.cell0
        have hcC1 := HCr.out.cell1
        go_wp2_with fail
        refine (HN.out _ (HT.out.below HB_106.out) HL_106.out).mono ?_
        rintro e w7 ⟨rfl, hb7⟩
        clear hcC0 hcC1
        have HL_107 := Lib.hid (HL_106.out.below hb7)
        have HB_107 := Lib.hid (below_more HB_106.out hb7)
        have HC_107 := Lib.hid (HCr.out.below hb7)
        have HM_107 := Lib.hid (HMr.out.stay hb7)
        clear HL_106 HB_106 HCr HMr
        clear hb7 HN
        have hcC0 := HC_107.out.cell0
        have hcC1 := HC_107.out.cell1
        go_wp2_with fail
        refine (HWt.out _ (HT.out.below HB_107.out)).mono ?_
        rintro e w8 ⟨rfl, rfl⟩
        clear HC_107 HL_107
        clear hcC0 hcC1
        go_wp2_with fail
        refine (drawNear B zb cb _ HM_107.out).mono ?_
        rintro e w20 ⟨u, v20, k, y2, rfl, ho20, hl20, hb20⟩
        obtain ⟨A20, c20, rfl, hI20⟩ := ho20.form
        have HB_108 := Lib.hid (below_more HB_107.out hb20)
        have HM_108 := Lib.hid (HM_107.out.stay hb20)
        clear HB_107 HM_107
        have HK_109 := Lib.hid (hI20)
        clear hI20 ho20 hb20
        have HB_110 := Lib.hid (below_more HB_108.out (below_alloc1 w20 (.cells #[.int .i64 u, .slice A20 k.length c20] 40)))
        have HM_110 := Lib.hid (HM_108.out.stay (below_alloc1 w20 (.cells #[.int .i64 u, .slice A20 k.length c20] 40)))
        have HK_110 := Lib.hid (HK_109.out.below (below_alloc1 w20 (.cells #[.int .i64 u, .slice A20 k.length c20] 40)))
        clear HB_108 HM_108 HK_109
        have HU_111 := Lib.hid (Boxd.new w20 40 u (.slice A20 k.length c20))
        have HI5 := Lib.hid (fun (w : World) (ht : Tab w) (ha : Ints w A20 k) => iNear_any u A20 k c20 y2 w ht ha (by omega))
        have HS5 := Lib.hid (fun (w : World) (ha : Ints w A20 k) => sNear_any u A20 k c20 y2 w ha (by omega))
        generalize nearI u k y2 = V5 at *
        generalize farI u k y2 = U5 at *
        generalize synOkB u k y2 = b5 at *
        have hcU0 := HU_111.out.cell0
        have hcU1 := HU_111.out.cell1
        go_wp2_with fail
        generalize w20.alloc (.cells #[.int .i64 u, .slice A20 k.length c20] 40) = w21 at *
        refine (HI5.out _ (HT.out.below HB_110.out) HK_110.out).mono ?_
        rintro e w22 ⟨rfl, hb22⟩
        clear hcU0 hcU1
        have HB_112 := Lib.hid (below_more HB_110.out hb22)
        have HM_112 := Lib.hid (HM_110.out.stay hb22)
        have HK_112 := Lib.hid (HK_110.out.below hb22)
        have HU_112 := Lib.hid (HU_111.out.below hb22)
        clear HB_110 HM_110 HK_110 HU_111
        clear hb22
        have hcU0 := HU_112.out.cell0
        have hcU1 := HU_112.out.cell1
        go_wp2_with fail
        refine (HS5.out _ HK_112.out).mono ?_
        rintro e w23 ⟨rfl, hb23⟩
        clear hcU0 hcU1
        have HB_113 := Lib.hid (below_more HB_112.out hb23)
        have HM_113 := Lib.hid (HM_112.out.stay hb23)
        have HK_113 := Lib.hid (HK_112.out.below hb23)
        have HU_113 := Lib.hid (HU_112.out.below hb23)
        clear HB_112 HM_112 HK_112 HU_112
        clear hb23
        clear HU_113 HK_113
        go_wp2_with fail
        refine (drawLeast B zb cb _ HM_113.out).mono ?_
        rintro e w24 ⟨u2, v24, k2, rfl, ho24, hl24, hb24⟩
        obtain ⟨A24, c24, rfl, hI24⟩ := ho24.form
        clear HM_113
        have HB_114 := Lib.hid (below_more HB_113.out hb24)
        clear HB_113
        have HK_115 := Lib.hid (hI24)
        clear hI24 ho24 hb24
        have HB_116 := Lib.hid (below_more HB_114.out (below_alloc1 w24 (.cells #[.int .i64 u2, .slice A24 k2.length c24] 40)))
        have HK_116 := Lib.hid (HK_115.out.below (below_alloc1 w24 (.cells #[.int .i64 u2, .slice A24 k2.length c24] 40)))
        clear HB_114 HK_115
        have HU_117 := Lib.hid (Boxd.new w24 40 u2 (.slice A24 k2.length c24))
        have HI6 := Lib.hid (fun (w : World) (ht : Tab w) (ha : Ints w A24 k2) => iLeastW_any u2 A24 k2 c24 w ht ha (by omega))
        have HS6 := Lib.hid (fun (w : World) (ha : Ints w A24 k2) => sLeastW_any u2 A24 k2 c24 w ha (by omega))
        generalize leastI u2 k2 = V6 at *
        generalize codeB u2 k2 = b6 at *
        have hcU0 := HU_117.out.cell0
        have hcU1 := HU_117.out.cell1
        go_wp2_with fail
        generalize w24.alloc (.cells #[.int .i64 u2, .slice A24 k2.length c24] 40) = w25 at *
        refine (HI6.out _ (HT.out.below HB_116.out) HK_116.out).mono ?_
        rintro e w26 ⟨rfl, hb26⟩
        clear hcU0 hcU1
        have HB_118 := Lib.hid (below_more HB_116.out hb26)
        have HK_118 := Lib.hid (HK_116.out.below hb26)
        have HU_118 := Lib.hid (HU_117.out.below hb26)
        clear HB_116 HK_116 HU_117
        clear hb26
        have hcU0 := HU_118.out.cell0
        have hcU1 := HU_118.out.cell1
        go_wp2_with fail
        refine (HS6.out _ HK_118.out).mono ?_
        rintro e w27 ⟨rfl, hb27⟩
        clear hcU0 hcU1
        have HB_119 := Lib.hid (below_more HB_118.out hb27)
        have HK_119 := Lib.hid (HK_118.out.below hb27)
        have HU_119 := Lib.hid (HU_118.out.below hb27)
        clear HB_118 HK_118 HU_118
        clear hb27
        go_wp2_with fail
        go_ret
        exact ⟨rfl, HB_119.out⟩

set_option maxRecDepth 100000 in
set_option maxHeartbeats 1000000 in
theorem fnNear_law (A : Option Addr) (za : List Int) (ca : Nat) (B : Option Addr) (zb : List Int) (cb : Nat) (w : World) (ht : Tab w) (ha : Byts w w.heap.size A za) (hb : Byts w w.heap.size B zb) (hla : za.length ≤ 140737488355328) (hlb : zb.length ≤ 140737488355328) :
    Calls Tryd.prog 5 #[.slice A za.length ca, .slice B zb.length cb] w fun e w' => e = .returned (.bool true) ∧ Below w.heap.size w w' := by
  by_cases hl : za.length + zb.length ≤ 1048576
  · exact near_small A B za zb ca cb w ht ha hb hl
  · have hl' : (1048576 : Int) < (za.length : Int) + (zb.length : Int) := by omega
    go_enter Tryd.func5, Tryd.ntmps5
    go_wp2_with fail
    go_ret
    exact ⟨rfl, Below.refl _ _⟩
end Go.Proofs.YtfkojlpihpgnaaaDoor
