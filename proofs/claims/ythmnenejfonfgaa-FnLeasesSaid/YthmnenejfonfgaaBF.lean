/-
  The model of chapter 12, fourth part: MayOverlap.
-/
import Derived.Test.YthmnenejfonfgaaBD
namespace Go.Proofs.Ythmnenejfonfgaa
open Go.RowKit

def prB (c : Int) (x y : Zac) : Bool := x.1 != y.1 && (belB x.2.1 c && belB y.2.1 c)
/-- Two among the first n leases are used at once at time c. -/
def moU (c : Int) (l : List Zac) : Nat → Bool
  | 0 => false
  | n + 1 => moU c l n || (l.take n).any (prB c (l.getD n (0, 0, 0)))
theorem moU_yes {c : Int} {l : List Zac} {j : Nat} (h : moU c l (j + 1) = true) : ∀ {n : Nat}, j < n → moU c l n = true
  | 0, hn => by omega
  | n + 1, hn => by
    by_cases e : n = j
    · rw [e]; exact h
    · rw [moU, moU_yes h (n := n) (by omega)]; rfl
theorem moU_at {c : Int} {l : List Zac} {j : Nat} (h : moU c l j = false) (hj : j < l.length) : moU c l (j + 1) = (l.take j).any (prB c l[j]) := by
  rw [moU, h, List.getD_eq_getElem?_getD, List.getElem?_eq_getElem hj]; rfl
theorem any_snoc {α : Type} (p : α → Bool) (l : List α) {j : Nat} (hj : j < l.length) : (l.take (j + 1)).any p = ((l.take j).any p || p l[j]) := by
  rw [List.take_succ_eq_append_getElem hj, List.any_append]; simp
theorem any_some {α : Type} {p : α → Bool} {l : List α} {j n : Nat} (hj : j < l.length) (hn : j < n) (h : p l[j] = true) : (l.take n).any p = true := by
  rw [List.any_eq_true]
  refine ⟨l[j], ?_, h⟩
  rw [List.mem_take_iff_getElem]
  exact ⟨j, by omega, rfl⟩
def ovOk (l : List Zac) (now drift : Int) : Bool := (decide (l.length ≤ 40) && (ckB now && inB drift 0 3)) && l.all goodZ
def ovB (l : List Zac) (now drift : Int) : Bool := ovOk l now drift && moU (max 0 (now - drift)) l l.length
theorem ov_no {l : List Zac} {now drift : Int} (h : ovOk l now drift = false) : ovB l now drift = false ∧ ovOk l now drift = false := ⟨by rw [ovB, h]; rfl, h⟩
theorem ov_yes {l : List Zac} {now drift : Int} (h : ovOk l now drift = true) : ovB l now drift = moU (max 0 (now - drift)) l l.length ∧ ovOk l now drift = true := ⟨by rw [ovB, h]; rfl, h⟩
theorem all_noZ {l : List Zac} {j : Nat} (hj : j < l.length) (h : goodZ l[j] = false) : l.all goodZ = false := by
  rw [List.all_eq_false]; exact ⟨l[j], List.getElem_mem hj, by simp [h]⟩
set_option maxRecDepth 100000 in
set_option maxHeartbeats 4000000 in
theorem sOver12 (A : Option Addr) (l : List Zac) (ca : Nat) (now drift : Int) (w : World) (ha : RdR 3 fZa w A l) (hl : l.length ≤ 1048576) (hA : l.length ≤ ca) :
    Calls Try.prog 18 #[.slice A l.length ca, .int .i64 now, .int .i64 drift] w fun e w' => e = .returned (.tuple #[.bool (ovB l now drift), .bool (ovOk l now drift)]) ∧ Below w.heap.size w w' := by
  have HA := Lib.hid ha
  have HC := Lib.hid (fun w => sClock12 now w)
  have HI := Lib.hid (fun w => l1In_any drift 0 3 w)
  clear ha
  by_cases h40 : l.length ≤ 40
  case neg =>
    have hi2 : (40 : Int) < (l.length : Int) := by omega
    have HE := Lib.hid (ov_no (l := l) (now := now) (drift := drift) (by rw [ovOk]; simp [h40]))
    clear h40
    go_enter Try.func18, Try.ntmps18
    go_wp2_with fail
    go_ret2
    exact ⟨by rw [HE.out.1, HE.out.2]; rfl, Below.refl _ _⟩
  have hi : (l.length : Int) ≤ 40 := by omega
  have hi2 : ¬ (40 : Int) < (l.length : Int) := by omega
  cases hc : ckB now
  · have HE := Lib.hid (ov_no (l := l) (now := now) (drift := drift) (by rw [ovOk, hc]; simp))
    rw [hc] at HC
    clear hc
    go_enter Try.func18, Try.ntmps18
    go_wp2_with fail
    refine (HC.out _).mono ?_
    rintro e w' ⟨rfl, rfl⟩
    go_wp2_with fail
    go_ret2
    exact ⟨by rw [HE.out.1, HE.out.2]; rfl, Below.refl _ _⟩
  cases hd : inB drift 0 3
  · have HE := Lib.hid (ov_no (l := l) (now := now) (drift := drift) (by rw [ovOk, hc, hd]; simp))
    rw [hc] at HC
    rw [hd] at HI
    clear hc hd
    go_enter Try.func18, Try.ntmps18
    go_wp2_with fail
    refine (HC.out _).mono ?_
    rintro e w' ⟨rfl, rfl⟩
    go_wp2_with fail
    refine (HI.out _).mono ?_
    rintro e w' ⟨rfl, rfl⟩
    go_wp2_with fail
    go_ret2
    exact ⟨by rw [HE.out.1, HE.out.2]; rfl, Below.refl _ _⟩
  have hn := inB_andL (show inB now 0 10000 = true from hc)
  obtain ⟨n0, n1⟩ := hn
  have hdr := inB_andL hd
  obtain ⟨d0, d1⟩ := hdr
  have HNo := Lib.hid (fun (h : l.all goodZ = false) => ov_no (l := l) (now := now) (drift := drift) (by rw [ovOk, h, Bool.and_false]))
  have HYes := Lib.hid (fun (h : l.all goodZ = true) => ov_yes (l := l) (now := now) (drift := drift) (by rw [ovOk, h, hc, hd]; simp [h40]))
  rw [hc] at HC
  rw [hd] at HI
  clear hc hd
  go_enter Try.func18, Try.ntmps18
  go_wp2_with fail
  refine (HC.out _).mono ?_
  rintro e w' ⟨rfl, rfl⟩
  go_wp2_with fail
  refine (HI.out _).mono ?_
  rintro e w' ⟨rfl, rfl⟩
  clear HC HI
  go_wp2_with fail
  go_loopg [30] l.length (fun gk i wr => ∃ j : Nat, j + gk = l.length ∧ i = .int .i64 j ∧ (l.take j).all goodZ = true ∧ Below w.heap.size w wr)
  case atStart => exact ⟨0, by omega, rfl, rfl, Below.refl _ _⟩
  case round =>
    obtain ⟨j, hgk, rfl, hall, hbel⟩ := hrel
    have HBl := Lib.hid hbel
    clear hbel
    by_cases hlt : j < l.length
    case pos =>
      have hji : (j : Int) < (l.length : Int) := by omega
      have HGK : Hid (l.length - j - 1 < gk ∧ j + 1 + (l.length - j - 1) = l.length) := by show _ ∧ _; omega
      obtain ⟨b, o, rfl, q0, q1, q2⟩ := Za_at (HA.out.below HBl.out) hlt
      have HX0 := Lib.hid (fun (h : goodZ l[j] = false) => HNo.out (all_noZ hlt h))
      have HX1 : Hid (goodZ l[j] = true → (l.take (j + 1)).all goodZ = true) := fun h => by
        show _ = _
        rw [List.take_succ_eq_append_getElem hlt, List.all_append, hall]; simp [h]
      obtain ⟨⟨a, u, q⟩, hx⟩ : ∃ x, l[j] = x := ⟨_, rfl⟩
      rw [hx] at q0 q1 q2 HX0 HX1
      clear hx hgk hall
      obtain ⟨wg, hwg⟩ : ∃ wg, wr.alloc (.cells #[.int .i64 a, .int .i64 u, .int .i64 q] 26) = wg := ⟨_, rfl⟩
      have HBg : Hid (Below w.heap.size w wg) := by rw [← hwg]; exact below_more HBl.out (gAlloc _ _)
      have G2 : wg.heap[wr.heap.size]? = some (.cells #[.int .i64 a, .int .i64 u, .int .i64 q] 26 (0, 0)) := by rw [← hwg]; exact heap_alloc_new _ _
      have v0 : wg.cell? ⟨wr.heap.size, 0, none⟩ = some (.int .i64 a) := cell_of_row _ _ 0 _ _ _ G2
      have v1 : wg.cell? ⟨wr.heap.size, 1, none⟩ = some (.int .i64 u) := cell_of_row _ _ 1 _ _ _ G2
      have v2 : wg.cell? ⟨wr.heap.size, 2, none⟩ = some (.int .i64 q) := cell_of_row _ _ 2 _ _ _ G2
      have HG := Lib.hid (sGoodL a u q wg)
      clear G2 HBl
      cases hg : goodZB a u q
      · have HE := Lib.hid (HX0.out hg)
        rw [hg] at HG
        clear hg HX0 HX1
        go_wp2_with fail
        refine HG.out.mono ?_
        rintro e w9 ⟨rfl, hb9⟩
        go_wp2_with fail
        go_ret2
        exact ⟨by rw [HE.out.1, HE.out.2]; rfl, below_more HBg.out hb9⟩
      · have HE := Lib.hid (HX1.out hg)
        rw [hg] at HG
        clear hg HX0 HX1
        go_wp2_with fail
        refine HG.out.mono ?_
        rintro e w9 ⟨rfl, hb9⟩
        go_wp2_with fail
        go_roundg (l.length - j - 1)
        case measure => exact HGK.out.1
        case rel => exact ⟨j + 1, HGK.out.2, by go_num, HE.out, below_more HBg.out hb9⟩
    obtain rfl : j = l.length := by omega
    have hji : ¬ (l.length : Int) < (l.length : Int) := by omega
    rw [List.take_of_length_le (Nat.le_refl _)] at hall
    have HE := Lib.hid (HYes.out hall)
    obtain ⟨c, hcc⟩ : ∃ c, max 0 (now - drift) = c := ⟨_, rfl⟩
    have hc0 : 0 ≤ c := by omega
    have hc1 : c ≤ 10000 := by omega
    have HMo := Lib.hid (fun w => sMost12 0 (now - drift) w)
    rw [hcc] at HE HMo
    clear hall hgk hlt HNo HYes hcc
    go_wp2_with fail
    refine (HMo.out _).mono ?_
    rintro e w' ⟨rfl, rfl⟩
    clear HMo
    go_wp2_with fail
    go_loopg [44] l.length (fun gk i wr => ∃ j : Nat, j + gk = l.length ∧ i = .int .i64 j ∧ moU c l j = false ∧ Below w.heap.size w wr)
    case atStart => exact ⟨0, by omega, rfl, rfl, HBl.out⟩
    case round =>
      obtain ⟨j, hgk, rfl, hmo, hbel⟩ := hrel
      have HBl := Lib.hid hbel
      clear hbel
      by_cases hlt : j < l.length
      case neg =>
        obtain rfl : j = l.length := by omega
        have hji : ¬ (l.length : Int) < (l.length : Int) := by omega
        have HZ := Lib.hid hmo
        clear hmo hgk hlt
        go_wp2_with fail
        go_ret2
        exact ⟨by rw [HE.out.1, HE.out.2, HZ.out]; rfl, HBl.out⟩
      have hji : (j : Int) < (l.length : Int) := by omega
      have HGK : Hid (l.length - j - 1 < gk ∧ j + 1 + (l.length - j - 1) = l.length) := by show _ ∧ _; omega
      obtain ⟨b, o, rfl, q0, q1, q2⟩ := Za_at (HA.out.below HBl.out) hlt
      have hjc : (j : Int) ≤ (ca : Int) := by omega
      have hj0 : (0 : Int) ≤ (j : Int) := by omega
      have HYs : Hid (moU c l (j + 1) = true → moU c l l.length = true) := fun h => moU_yes h hlt
      have HAt := Lib.hid (moU_at hmo hlt)
      obtain ⟨⟨a, u, q⟩, hx⟩ : ∃ x, l[j] = x := ⟨_, rfl⟩
      rw [hx] at q0 q1 q2 HAt
      clear hx hgk hmo
      obtain ⟨wg, hwg⟩ : ∃ wg, wr.alloc (.cells #[.int .i64 a, .int .i64 u, .int .i64 q] 26) = wg := ⟨_, rfl⟩
      have hbg : Below wr.heap.size wr wg := by rw [← hwg]; exact gAlloc _ _
      have HBg := Lib.hid (below_more HBl.out hbg)
      have G2 : Hid (wg.heap[wr.heap.size]? = some (.cells #[.int .i64 a, .int .i64 u, .int .i64 q] 26 (0, 0))) := by rw [← hwg]; exact heap_alloc_new _ _
      clear HBl hbg
      go_wp2_with fail
      clear hwg q0 q1 q2
      obtain ⟨XB, hXB⟩ : ∃ X, wr.heap.size = X := ⟨_, rfl⟩
      rw [hXB] at G2 ⊢
      clear hXB
      go_loopg [53] j (fun gk i wr => ∃ m : Nat, m + gk = j ∧ i = .int .i64 m ∧ (l.take m).any (prB c (a, u, q)) = false ∧ Below wg.heap.size wg wr)
      case atStart => exact ⟨0, by omega, rfl, rfl, Below.refl _ _⟩
      case round =>
        obtain ⟨m, hgk, rfl, hany, hbel⟩ := hrel
        have HBi := Lib.hid hbel
        clear hbel
        by_cases hmj : m < j
        case neg =>
          obtain rfl : m = j := by omega
          have hmi : ¬ (m : Int) < (m : Int) := by omega
          have HZ : Hid (moU c l (m + 1) = false) := by show _ = _; rw [HAt.out, hany]
          clear hany hgk hmj HYs HAt
          go_wp2_with fail
          go_roundg (l.length - m - 1)
          case measure => exact HGK.out.1
          case rel => exact ⟨m + 1, HGK.out.2, by go_num, HZ.out, below_more HBg.out HBi.out⟩
        have hmi : (m : Int) < (j : Int) := by omega
        have hml : m < l.length := by omega
        have HGM : Hid (j - m - 1 < gk ∧ m + 1 + (j - m - 1) = j) := by show _ ∧ _; omega
        obtain ⟨b', o', e, r0, r1, r2⟩ := Za_at (HA.out.below (below_more HBg.out HBi.out)) hml
        injection e with e
        injection e with e1 e2
        subst e1 e2
        have HSn := Lib.hid (any_snoc (prB c (a, u, q)) l hml)
        rw [hany] at HSn
        have HSo := Lib.hid (fun (h : prB c (a, u, q) l[m] = true) => HYs.out (by rw [HAt.out]; exact any_some hml hmj h))
        obtain ⟨⟨ya, yu, yq⟩, hy⟩ : ∃ y, l[m] = y := ⟨_, rfl⟩
        rw [hy] at r0 r1 r2 HSn HSo
        clear hy hgk hany
        obtain ⟨wh, hwh⟩ : ∃ wh, wr.alloc (.cells #[.int .i64 ya, .int .i64 yu, .int .i64 yq] 26) = wh := ⟨_, rfl⟩
        have hbh : Below wr.heap.size wr wh := by rw [← hwh]; exact gAlloc _ _
        have HBh := Lib.hid (below_more HBi.out hbh)
        have G3 : wh.heap[wr.heap.size]? = some (.cells #[.int .i64 ya, .int .i64 yu, .int .i64 yq] 26 (0, 0)) := by rw [← hwh]; exact heap_alloc_new _ _
        have G4 := (HBh.out.block _ (heap_lt G2.out)).trans G2.out
        have H34 := Lib.hid (And.intro G3 G4)
        have x0 : wh.cell? ⟨XB, 0, none⟩ = some (.int .i64 a) := cell_of_row _ _ 0 _ _ _ G4
        have x1 : wh.cell? ⟨XB, 1, none⟩ = some (.int .i64 u) := cell_of_row _ _ 1 _ _ _ G4
        have x2 : wh.cell? ⟨XB, 2, none⟩ = some (.int .i64 q) := cell_of_row _ _ 2 _ _ _ G4
        have y0 : wh.cell? ⟨wr.heap.size, 0, none⟩ = some (.int .i64 ya) := cell_of_row _ _ 0 _ _ _ G3
        have y1 : wh.cell? ⟨wr.heap.size, 1, none⟩ = some (.int .i64 yu) := cell_of_row _ _ 1 _ _ _ G3
        have y2 : wh.cell? ⟨wr.heap.size, 2, none⟩ = some (.int .i64 yq) := cell_of_row _ _ 2 _ _ _ G3
        have HB1 := Lib.hid (fun w => sBel12 a u q c w hc0 (by omega))
        have HB2 := Lib.hid (fun w => sBel12 ya yu yq c w hc0 (by omega))
        clear HBi hbh G3 G4
        cases hne : (a != ya)
        · have HP : Hid ((l.take (m + 1)).any (prB c (a, u, q)) = false) := by show _ = _; rw [HSn.out, prB, hne]; rfl
          clear HSn HSo HB1 HB2 hmj hml
          go_wp2_with fail
          go_roundg (j - m - 1)
          case measure => exact HGM.out.1
          case rel => exact ⟨m + 1, HGM.out.2, by go_num, HP.out, HBh.out⟩
        cases h1 : belB u c
        · have HP : Hid ((l.take (m + 1)).any (prB c (a, u, q)) = false) := by show _ = _; rw [HSn.out, prB]; simp [h1]
          rw [h1] at HB1
          clear HSn HSo HB2 h1 hmj hml
          go_wp2_with fail
          refine (HB1.out _).mono ?_
          rintro e w5 ⟨rfl, hb5⟩
          go_wp2_with fail
          go_roundg (j - m - 1)
          case measure => exact HGM.out.1
          case rel => exact ⟨m + 1, HGM.out.2, by go_num, HP.out, below_more HBh.out hb5⟩
        rw [h1] at HB1
        cases h2 : belB yu c
        · have HP : Hid ((l.take (m + 1)).any (prB c (a, u, q)) = false) := by show _ = _; rw [HSn.out, prB]; simp [h2]
          rw [h2] at HB2
          clear HSn HSo h1 h2 hmj hml
          go_wp2_with fail
          refine (HB1.out _).mono ?_
          rintro e w5 ⟨rfl, hb5⟩
          have G5 := (hb5.block _ (heap_lt H34.out.1)).trans H34.out.1
          have z0 : w5.cell? ⟨wr.heap.size, 0, none⟩ = some (.int .i64 ya) := cell_of_row _ _ 0 _ _ _ G5
          have z1 : w5.cell? ⟨wr.heap.size, 1, none⟩ = some (.int .i64 yu) := cell_of_row _ _ 1 _ _ _ G5
          have z2 : w5.cell? ⟨wr.heap.size, 2, none⟩ = some (.int .i64 yq) := cell_of_row _ _ 2 _ _ _ G5
          go_wp2_with fail
          refine (HB2.out _).mono ?_
          rintro e w6 ⟨rfl, hb6⟩
          go_wp2_with fail
          go_roundg (j - m - 1)
          case measure => exact HGM.out.1
          case rel => exact ⟨m + 1, HGM.out.2, by go_num, HP.out, below_more (below_more HBh.out hb5) hb6⟩
        · have HP := Lib.hid (HSo.out (by rw [prB]; show ((a != ya) && (belB u c && belB yu c)) = true; rw [hne, h1, h2]; rfl))
          rw [h2] at HB2
          clear HSn HSo h1 h2 hmj hml
          go_wp2_with fail
          refine (HB1.out _).mono ?_
          rintro e w5 ⟨rfl, hb5⟩
          have G5 := (hb5.block _ (heap_lt H34.out.1)).trans H34.out.1
          have z0 : w5.cell? ⟨wr.heap.size, 0, none⟩ = some (.int .i64 ya) := cell_of_row _ _ 0 _ _ _ G5
          have z1 : w5.cell? ⟨wr.heap.size, 1, none⟩ = some (.int .i64 yu) := cell_of_row _ _ 1 _ _ _ G5
          have z2 : w5.cell? ⟨wr.heap.size, 2, none⟩ = some (.int .i64 yq) := cell_of_row _ _ 2 _ _ _ G5
          go_wp2_with fail
          refine (HB2.out _).mono ?_
          rintro e w6 ⟨rfl, hb6⟩
          go_wp2_with fail
          go_ret2
          exact ⟨by rw [HE.out.1, HE.out.2, HP.out]; rfl, below_more HBg.out (below_more (below_more HBh.out hb5) hb6)⟩
end Go.Proofs.Ythmnenejfonfgaa
