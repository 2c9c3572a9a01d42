/-
  The program's chapter 11, last part: PlayGiver.
-/
import Derived.Test.YtbegikjoialahaaHE
namespace Go.Proofs.Ytbegikjoialahaa
open Go.RowKit

set_option maxRecDepth 100000 in
set_option maxHeartbeats 4000000 in
theorem iPlayG (A : Option Addr) (l : List Idc) (ca : Nat) (w : World) (ha : RdR 2 fId w A l) (hl : l.length ≤ 1048576) :
    Calls Try.prog 12 #[.slice A l.length ca] w fun e w' => ∃ v d, e = .returned (.tuple #[gvV (pyG l).1 (pyG l).2.1 (pyG l).2.2.1 v, d, .bool (decide (l.length ≤ 40))]) ∧ Own w' w.heap.size v (pyG l).2.2.2 ∧ OwnT w' w.heap.size d (pyD l) ∧ (∀ q, v.ownBlock = some q → d.ownBlock ≠ some q) ∧ Below w.heap.size w w' := by
  by_cases h40 : l.length ≤ 40
  case neg =>
    have hi : ¬ (l.length : Int) ≤ 40 := by omega
    have hi2 : (40 : Int) < (l.length : Int) := by omega
    have HE : Hid (pyG l = (0, 0, 0, []) ∧ pyD l = [] ∧ decide (l.length ≤ 40) = false) := ⟨by rw [pyG, if_neg h40], by rw [pyD, if_neg h40], by simp [h40]⟩
    rw [HE.out.1, HE.out.2.1, HE.out.2.2]
    clear h40
    obtain ⟨W, hW⟩ : ∃ W, w.alloc (.cells #[.int .i64 0, .int .i64 0, .int .i64 0, .slice none 0 0] 27) = W := ⟨_, rfl⟩
    have hR : W.heap[w.heap.size]? = some (.cells #[.int .i64 0, .int .i64 0, .int .i64 0, .slice none 0 0] 27 (0, 0)) := by rw [← hW]; exact heap_alloc_new _ _
    have hB : Below w.heap.size w W := by rw [← hW]; exact gAlloc _ _
    have a0 := cell_of_row W _ 0 _ _ _ hR
    have a1 := cell_of_row W _ 1 _ _ _ hR
    have a2 := cell_of_row W _ 2 _ _ _ hR
    have a3 := cell_of_row W _ 3 _ _ _ hR
    have e0 := frozen_of_row W _ 0 _ _ hR
    have e1 := frozen_of_row W _ 1 _ _ hR
    have e2 := frozen_of_row W _ 2 _ _ hR
    have e3 := frozen_of_row W _ 3 _ _ hR
    have HR := Lib.hid hR
    have HB := Lib.hid hB
    clear hR hB
    go_enter Try.func12, Try.ntmps12
    go_wp2_with fail
    exact ret_gv3 rfl w.heap.size 0 0 0 _ _ _ rfl rfl rfl (gv_stored rfl HR.out _ _ _ _) rfl ⟨.slice none 0 0, .slice none 0 0, rfl, Own.nil _ _, OwnT.nil _ _, fun q h => by (cases h), below_gv HB.out (Nat.le_refl _) _ _ _ _⟩
  have hi : (l.length : Int) ≤ 40 := by omega
  have hi2 : ¬ (40 : Int) < (l.length : Int) := by omega
  have HE : Hid (pyG l = pgG l ∧ pyD l = pgD (1, 4, 0, []) l ∧ decide (l.length ≤ 40) = true) := ⟨by rw [pyG, if_pos h40], by rw [pyD, if_pos h40], by simp [h40]⟩
  rw [HE.out.1, HE.out.2.1, HE.out.2.2]
  have HA := Lib.hid ha
  clear ha
  go_enter Try.func12, Try.ntmps12
  go_wp2_with fail
  refine (iNewGv _).mono ?_
  rintro e w1 ⟨v1, rfl, ho1, hb1⟩
  obtain ⟨B1, c1, rfl, -⟩ := ho1.form
  have HI : Hid (Pl11 w (w1.alloc (.cells #[.int .i64 1, .int .i64 4, .int .i64 0, .slice B1 ([] : List Int).length c1] 27)) w1.heap.size (1, 4, 0, []) (.slice B1 ([] : List Int).length c1) (.slice none 0 0) []) := by
    have hs1 := hb1.size
    rw [World.heap_size_alloc9] at hs1
    refine ⟨heap_alloc_new _ _, (ho1.lower (by rw [World.heap_size_alloc9]; omega)).below (gAlloc _ _), OwnT.nil _ _, fun q h => ⟨by have := (ho1.lt q h).2; omega, by (intro e; cases e)⟩, fun q h => by (cases h), ?_, ?_, by omega⟩
    · rw [heap_alloc_old _ _ _ (by omega)]
      exact (hb1.block _ (by rw [World.heap_size_alloc9]; omega)).trans (heap_alloc_new _ _)
    · exact below_more (below_more (gAlloc _ _) hb1) (gAlloc _ _)
  clear hb1 ho1
  go_wp2_with fail
  obtain ⟨W, hW⟩ : ∃ W, w1.alloc (.cells #[.int .i64 1, .int .i64 4, .int .i64 0, .slice B1 0 c1] 27) = W := ⟨_, rfl⟩
  have HI' : Hid (Pl11 w W w1.heap.size (1, 4, 0, []) (.slice B1 0 c1) (.slice none 0 0) []) := by rw [← hW]; exact HI.out
  clear HI
  rw [hW]
  clear hW
  obtain ⟨D, hD⟩ : ∃ D, w1.heap.size = D := ⟨_, rfl⟩
  rw [hD] at HI' ⊢
  clear hD
  go_loopg [18, 6] l.length (fun gk i d wr => ∃ j : Nat, j + gk = l.length ∧ i = .int .i64 j ∧ ∃ v, Pl11 w wr D (pgG (l.take j)) v d (pgD (1, 4, 0, []) (l.take j)))
  case atStart => exact ⟨0, by omega, rfl, _, HI'.out⟩
  case round =>
    obtain ⟨j, hgk, rfl, v, hP⟩ := hrel
    by_cases hlt : j < l.length
    case neg =>
      obtain rfl : j = l.length := by omega
      have hji : ¬ (l.length : Int) < (l.length : Int) := by omega
      rw [List.take_of_length_le (Nat.le_refl _)] at hP
      obtain ⟨⟨n, a, s, zs⟩, hG⟩ : ∃ g, pgG l = g := ⟨_, rfl⟩
      rw [hG] at hP
      have HG := Lib.hid hG
      obtain ⟨B, c, rfl, -⟩ := hP.own.form
      have HP := Lib.hid hP
      have x0 : wr.cell? ⟨D, 0, none⟩ = some (.int .i64 n) := cell_of_row _ _ 0 _ _ _ hP.box
      have x1 : wr.cell? ⟨D, 1, none⟩ = some (.int .i64 a) := cell_of_row _ _ 1 _ _ _ hP.box
      have x2 : wr.cell? ⟨D, 2, none⟩ = some (.int .i64 s) := cell_of_row _ _ 2 _ _ _ hP.box
      have x3 : wr.cell? ⟨D, 3, none⟩ = some (.slice B zs.length c) := cell_of_row _ _ 3 _ _ _ hP.box
      have a0 := cell_of_row wr _ 0 _ _ _ hP.res
      have a1 := cell_of_row wr _ 1 _ _ _ hP.res
      have a2 := cell_of_row wr _ 2 _ _ _ hP.res
      have a3 := cell_of_row wr _ 3 _ _ _ hP.res
      have e0 := frozen_of_row wr _ 0 _ _ hP.res
      have e1 := frozen_of_row wr _ 1 _ _ hP.res
      have e2 := frozen_of_row wr _ 2 _ _ hP.res
      have e3 := frozen_of_row wr _ 3 _ _ hP.res
      clear hP hG HI' hgk hlt
      go_wp2_with fail
      have hrl := heap_lt HP.out.res
      refine ret_gv3 rfl w.heap.size n a s _ u6 (.bool true) rfl rfl rfl (gv_stored rfl HP.out.res _ _ _ _) rfl ⟨.slice B zs.length c, u6, by rw [HG.out], by rw [HG.out]; exact (HP.out.own.cur (B := w.heap.size) (by omega) (gGv _ _ _ _ _ _)).lower (by omega), ?_, fun q hq => (HP.out.off q hq).2, below_gv HP.out.bel (Nat.le_refl _) _ _ _ _⟩
      refine (HP.out.did.kept (gGv wr w.heap.size _ _ _ _) ?_).lower (by omega)
      cases hq : u6.ownBlock with
      | none => exact Or.inl rfl
      | some q => exact Or.inr (by intro e; injection e with e; have := (HP.out.did.lt q hq).1; omega)
    have hji : (j : Int) < (l.length : Int) := by omega
    have hgood := pg_good (l.take j)
    have hbl := pgD_len (l.take j) (1, 4, 0, [])
    have HG1 := Lib.hid (pgG_snoc hlt)
    have HD1 := Lib.hid (pgD_snoc hlt)
    obtain ⟨b, o, rfl, q0, q1⟩ := Id_at (HA.out.below hP.bel) hlt
    obtain ⟨⟨k, p⟩, hx⟩ : ∃ x, l[j] = x := ⟨_, rfl⟩
    rw [hx] at q0 q1 HG1 HD1
    obtain ⟨⟨n, a, s, zs⟩, hG⟩ : ∃ g, pgG (l.take j) = g := ⟨_, rfl⟩
    obtain ⟨bs, hbs⟩ : ∃ x, pgD (1, 4, 0, []) (l.take j) = x := ⟨_, rfl⟩
    rw [hG] at hP hgood HG1 HD1
    rw [hbs] at hP hbl HD1
    rw [List.length_take] at hbl
    have hbs40 : bs.length ≤ 40 := by omega
    clear hx hG hbs hbl HI'
    have hz60 : zs.length ≤ 60 := (gvr_ok hgood).2.2.2.2.2
    have hs0 : -9223372036854775808 ≤ s := by have h : 0 ≤ s := (gvr_ok (show goodGB n a s zs = true from hgood)).2.1.1; omega
    obtain ⟨B, c, rfl, -⟩ := hP.own.form
    have HP := Lib.hid hP
    have hDl := heap_lt hP.box
    have HGE : Hid (pgG (l.take (j + 1)) = (stN n a s zs k p, stA n a s zs k p, stS n a s zs k p, stZ n s zs k p) ∧ pgD (1, 4, 0, []) (l.take (j + 1)) = bs ++ [stOkB n s zs k p]) := ⟨HG1.out, HD1.out⟩
    have HNE : Hid (stOkB n s zs k p = false → (stN n a s zs k p, stA n a s zs k p, stS n a s zs k p, stZ n s zs k p) = (n, a, s, zs)) := fun h => stG_no (g := (n, a, s, zs)) (x := (k, p)) h
    have HGK : Hid (l.length - j - 1 < gk ∧ j + 1 + (l.length - j - 1) = l.length) := by show _ ∧ _; omega
    clear hP HG1 HD1 hgk
    obtain ⟨wg, hwg⟩ : ∃ wg, wr.alloc (.cells #[.int .i64 k, .bool p] 34) = wg := ⟨_, rfl⟩
    have hbg : Below wr.heap.size wr wg := by rw [← hwg]; exact gAlloc _ _
    have hsg : wg.heap.size = wr.heap.size + 1 := by rw [← hwg]; simp
    have HPg := Lib.hid (HP.out.on hbg)
    have HSt := Lib.hid (iStepG n a s B zs c k p wg (own_ints HPg.out.own) (own9_lies HPg.out.own) (by omega) hs0)
    have HSg := Lib.hid hsg
    have y0 : wg.cell? ⟨D, 0, none⟩ = some (.int .i64 n) := cell_of_row _ _ 0 _ _ _ HPg.out.box
    have y1 : wg.cell? ⟨D, 1, none⟩ = some (.int .i64 a) := cell_of_row _ _ 1 _ _ _ HPg.out.box
    have y2 : wg.cell? ⟨D, 2, none⟩ = some (.int .i64 s) := cell_of_row _ _ 2 _ _ _ HPg.out.box
    have y3 : wg.cell? ⟨D, 3, none⟩ = some (.slice B zs.length c) := cell_of_row _ _ 3 _ _ _ HPg.out.box
    have G2 : wg.heap[wr.heap.size]? = some (.cells #[.int .i64 k, .bool p] 34 (0, 0)) := by rw [← hwg]; exact heap_alloc_new _ _
    have v0 : wg.cell? ⟨wr.heap.size, 0, none⟩ = some (.int .i64 k) := cell_of_row _ _ 0 _ _ _ G2
    have v1 : wg.cell? ⟨wr.heap.size, 1, none⟩ = some (.bool p) := cell_of_row _ _ 1 _ _ _ G2
    clear hbg HP hsg G2
    go_wp2_with fail
    refine HSt.out.mono ?_
    clear HSt hwg q0 q1 y0 y1 y2 y3 v0 v1
    rintro e w2 ⟨v2, rfl, ho2, hb2⟩
    have HP2 := Lib.hid (HPg.out.on hb2)
    have hw2 := hb2.size
    cases hok : stOkB n s zs k p
    · obtain ⟨t1, t2, t3, t4, t5⟩ := sg_not (n := n) (a := a) (s := s) (zs := zs) (k := k) (p := p) (by rw [sgOkB, hok, Bool.and_false])
      have HE2 : Hid (pgG (l.take (j + 1)) = (n, a, s, zs) ∧ pgD (1, 4, 0, []) (l.take (j + 1)) = bs ++ [false]) := ⟨HGE.out.1.trans (HNE.out hok), by rw [HGE.out.2, hok]⟩
      rw [t4] at ho2
      obtain ⟨B2, c2, rfl, -⟩ := ho2.form
      rw [t1, t2, t3, t5]
      clear t1 t2 t3 t4 t5 HNE HGE hok ho2 hb2 hgood
      have HP3 := Lib.hid (HP2.out.on (gAlloc w2 (.cells #[.int .i64 0, .int .i64 0, .int .i64 0, .slice B2 ([] : List Int).length c2] 27)))
      obtain ⟨w3, hw3⟩ : ∃ w3, w2.alloc (.cells #[.int .i64 0, .int .i64 0, .int .i64 0, .slice B2 0 c2] 27) = w3 := ⟨_, rfl⟩
      have HP3' : Hid (Pl11 w w3 D (n, a, s, zs) (.slice B zs.length c) u6 bs) := by rw [← hw3]; exact HP3.out
      clear HP3
      go_wp2_with (at_builtin; go_loud (refine app_BL w3 (w.heap.size + 1) _ bs false _ rfl rfl _ _ rfl rfl rfl HP3'.out.did (by have := HP3'.out.lt; have := heap_lt HP3'.out.box; omega) (by omega) w3 (Below.refl _ _) ?_; intro d' w4 J))
      go_roundg (l.length - j - 1)
      case measure => exact HGK.out.1
      case rel => exact ⟨j + 1, HGK.out.2, by go_num, _, by rw [HE2.out.1, HE2.out.2]; exact HP3'.out.app J.out⟩
    · obtain ⟨t1, t2, t3, t4, t5⟩ := sg_yes (n := n) (a := a) (s := s) (zs := zs) (k := k) (p := p) (by rw [sgOkB, hok, show goodGB n a s zs = true from hgood]; rfl)
      have HE2 : Hid (pgG (l.take (j + 1)) = (stN n a s zs k p, stA n a s zs k p, stS n a s zs k p, stZ n s zs k p) ∧ pgD (1, 4, 0, []) (l.take (j + 1)) = bs ++ [true]) := ⟨HGE.out.1, by rw [HGE.out.2, hok]⟩
      rw [t4] at ho2
      rw [t1, t2, t3, t5]
      clear t1 t2 t3 t4 t5 HNE HGE hok hgood
      generalize stN n a s zs k p = N at *
      generalize stA n a s zs k p = As at *
      generalize stS n a s zs k p = Su at *
      generalize stZ n s zs k p = Z at *
      obtain ⟨B2, c2, rfl, -⟩ := ho2.form
      obtain ⟨w3, hw3⟩ : ∃ w3, w2.alloc (.cells #[.int .i64 N, .int .i64 As, .int .i64 Su, .slice B2 Z.length c2] 27) = w3 := ⟨_, rfl⟩
      have hY : w3.heap[w2.heap.size]? = some (.cells #[.int .i64 N, .int .i64 As, .int .i64 Su, .slice B2 Z.length c2] 27 (0, 0)) := by rw [← hw3]; exact heap_alloc_new _ _
      have HP3 : Hid (Pl11 w w3 D (n, a, s, zs) (.slice B zs.length c) u6 bs) := by rw [← hw3]; exact HP2.out.on (gAlloc _ _)
      have ho3 : Own w3 wg.heap.size (.slice B2 Z.length c2) Z := by rw [← hw3]; exact ho2.below (gAlloc _ _)
      have hs3 : w3.heap.size = w2.heap.size + 1 := by rw [← hw3]; simp
      have p0 : w3.cell? ⟨w2.heap.size, 0, none⟩ = some (.int .i64 N) := cell_of_row _ _ 0 _ _ _ hY
      have p1 : w3.cell? ⟨w2.heap.size, 1, none⟩ = some (.int .i64 As) := cell_of_row _ _ 1 _ _ _ hY
      have p2 : w3.cell? ⟨w2.heap.size, 2, none⟩ = some (.int .i64 Su) := cell_of_row _ _ 2 _ _ _ hY
      have p3 : w3.cell? ⟨w2.heap.size, 3, none⟩ = some (.slice B2 Z.length c2) := cell_of_row _ _ 3 _ _ _ hY
      have b0 := cell_of_row w3 _ 0 _ _ _ HP3.out.box
      have b1 := cell_of_row w3 _ 1 _ _ _ HP3.out.box
      have b2 := cell_of_row w3 _ 2 _ _ _ HP3.out.box
      have b3 := cell_of_row w3 _ 3 _ _ _ HP3.out.box
      have f0 := frozen_of_row w3 _ 0 _ _ HP3.out.box
      have f1 := frozen_of_row w3 _ 1 _ _ HP3.out.box
      have f2 := frozen_of_row w3 _ 2 _ _ HP3.out.box
      have f3 := frozen_of_row w3 _ 3 _ _ HP3.out.box
      have HP4 := Lib.hid (HP3.out.put (g' := (N, As, Su, Z)) (v' := .slice B2 Z.length c2) (ho3.lower (by have := HPg.out.lt; have := heap_lt HPg.out.box; omega)) (fun q hq => ⟨by have := (ho3.lt q hq).1; have := heap_lt HPg.out.box; omega, fun e => by have := (ho3.lt q hq).1; have := (HPg.out.did.lt q e).2; omega⟩))
      have HS3 := Lib.hid hs3
      clear hY ho3 ho2 hb2 hs3
      go_wp2_with (at_builtin; go_loud (refine app_BL ((((w3.setCell ⟨D, 0, none⟩ (.int .i64 N)).setCell ⟨D, 1, none⟩ (.int .i64 As)).setCell ⟨D, 2, none⟩ (.int .i64 Su)).setCell ⟨D, 3, none⟩ (.slice B2 Z.length c2)) (w.heap.size + 1) _ bs true w3.heap.size (by simp) rfl _ _ rfl rfl rfl HP4.out.did (by have := HP3.out.lt; have := heap_lt HP3.out.box; have := (gGv w3 D (.int .i64 N) (.int .i64 As) (.int .i64 Su) (.slice B2 Z.length c2)).size; omega) (by omega) _ (Below.refl _ _) ?_; intro d' w4 J))
      go_roundg (l.length - j - 1)
      case measure => exact HGK.out.1
      case rel => exact ⟨j + 1, HGK.out.2, by go_num, _, by rw [HE2.out.1, HE2.out.2]; exact HP4.out.app J.out⟩
end Go.Proofs.Ytbegikjoialahaa
