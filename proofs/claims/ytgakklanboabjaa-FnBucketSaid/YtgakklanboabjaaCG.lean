/-
  Chapter 13: SumTaken, the model's and the program's.
-/
import Derived.Test.YtgakklanboabjaaCD
namespace Go.Proofs.Ytgakklanboabjaa
open Go.RowKit

theorem bols_at13 {w : World} {A : Option Addr} {bs : List Bool} (h : Bols w A bs) {j : Nat} (hj : j < bs.length) : ∃ b o, A = some ⟨b, o, none⟩ ∧ w.cell? ⟨b, o + j, none⟩ = some (.bool bs[j]) := by
  obtain ⟨b, o, e, hc⟩ := h (by intro e; rw [e] at hj; simp at hj)
  exact ⟨b, o, e, hc j hj⟩
/-- What is taken in [u, v]. -/
def suS (u v : Int) : List Wtc → List Bool → Int
  | x :: l, t :: ts => (if (t && inB x.1 u v) = true then x.2 else 0) + suS u v l ts
  | _, _ => 0
def szB (x : Wtc) : Bool := inB x.2 1 100
def suOk (l : List Wtc) (ts : List Bool) (u v : Int) : Bool := (((decide (l.length ≤ 40) && decide (l.length = ts.length)) && ckB u) && ckB v) && l.all szB
def suI (l : List Wtc) (ts : List Bool) (u v : Int) : Int := if suOk l ts u v = true then suS u v l ts else 0
theorem su_no {l : List Wtc} {ts : List Bool} {u v : Int} (h : suOk l ts u v = false) : suI l ts u v = 0 ∧ suOk l ts u v = false := ⟨by rw [suI, h]; rfl, h⟩
theorem su_yes {l : List Wtc} {ts : List Bool} {u v : Int} (h : suOk l ts u v = true) : suI l ts u v = suS u v l ts ∧ suOk l ts u v = true := ⟨by rw [suI, if_pos h], h⟩
theorem suS_snoc (u v : Int) : ∀ (l : List Wtc) (ts : List Bool) {j : Nat} (h : j < l.length) (h2 : j < ts.length), suS u v (l.take (j + 1)) (ts.take (j + 1)) = suS u v (l.take j) (ts.take j) + (if (ts[j] && inB l[j].1 u v) = true then l[j].2 else 0)
  | x :: l, t :: ts, 0, _, _ => by simp [suS]
  | x :: l, t :: ts, j + 1, h, h2 => by
    have := suS_snoc u v l ts (j := j) (by simpa using h) (by simpa using h2)
    simp only [List.take_succ_cons, suS, List.getElem_cons_succ]
    omega
theorem suS_bounds (u v : Int) : ∀ (l : List Wtc) (ts : List Bool), l.all szB = true → 0 ≤ suS u v l ts ∧ suS u v l ts ≤ 100 * (l.length : Int)
  | [], _, _ => by simp [suS]
  | _ :: _, [], _ => by simp [suS]; omega
  | x :: l, t :: ts, h => by
    have h2 : szB x = true ∧ l.all szB = true := by simpa using h
    have h3 := suS_bounds u v l ts h2.2
    have h4 := inB_andL h2.1
    simp only [suS, List.length_cons]
    split <;> omega
theorem all_snoc {l : List Wtc} {j : Nat} (hj : j < l.length) (h : (l.take j).all szB = true) : (l.take (j + 1)).all szB = szB l[j] := by
  rw [List.take_succ_eq_append_getElem hj, List.all_append, h]; simp
theorem all_pre {l : List Wtc} (j : Nat) (h : (l.take j).all szB = false) : l.all szB = false := by
  have := List.all_append (xs := l.take j) (ys := l.drop j) (f := szB)
  rw [List.take_append_drop, h] at this; simpa using this
set_option maxRecDepth 100000 in
set_option maxHeartbeats 2000000 in
theorem sSumTaken (A B : Option Addr) (l : List Wtc) (ts : List Bool) (ca cb : Nat) (u v : Int) (w : World) (ha : RdR 2 fWt w A l) (hb : Bols w B ts) (hl : l.length ≤ 1048576) (hl2 : ts.length ≤ 1048576) :
    Calls Try.prog 20 #[.slice A l.length ca, .slice B ts.length cb, .int .i64 u, .int .i64 v] w fun e w' => e = .returned (.tuple #[.int .i64 (suI l ts u v), .bool (suOk l ts u v)]) ∧ Below w.heap.size w w' := by
  have HA := Lib.hid ha
  have HB := Lib.hid hb
  have HU := Lib.hid (fun w => sClock12 u w)
  have HV := Lib.hid (fun w => sClock12 v w)
  clear ha hb
  by_cases h40 : l.length ≤ 40
  case neg =>
    have HE := Lib.hid (su_no (l := l) (ts := ts) (u := u) (v := v) (by rw [suOk]; simp [h40]))
    have hi : (40 : Int) < (l.length : Int) := by omega
    clear h40
    go_enter Try.func20, Try.ntmps20
    go_wp2_with fail
    go_ret2
    exact ⟨by rw [HE.out.1, HE.out.2]; rfl, Below.refl _ _⟩
  have hi : ¬ (40 : Int) < (l.length : Int) := by omega
  by_cases hle : l.length = ts.length
  case neg =>
    have HE := Lib.hid (su_no (l := l) (ts := ts) (u := u) (v := v) (by rw [suOk]; simp [hle]))
    have hq1 : ((l.length : Int) != (ts.length : Int)) = true := by simp; omega
    have hq2 : ((ts.length : Int) != (l.length : Int)) = true := by simp; omega
    have hq3 : ¬ (l.length : Int) = (ts.length : Int) := by omega
    have hq4 : ¬ (ts.length : Int) = (l.length : Int) := by omega
    clear h40 hle
    go_enter Try.func20, Try.ntmps20
    go_wp2_with fail
    go_ret2
    exact ⟨by rw [HE.out.1, HE.out.2]; rfl, Below.refl _ _⟩
  have HLE := Lib.hid hle
  rw [← hle]
  have hq1 : ((l.length : Int) != (l.length : Int)) = false := by simp
  clear hle
  cases hu : ckB u
  · have HE := Lib.hid (su_no (l := l) (ts := ts) (u := u) (v := v) (by rw [suOk, hu]; simp))
    rw [hu] at HU
    clear hu
    go_enter Try.func20, Try.ntmps20
    go_wp2_with (first | (go_at_call 51; go_loud (refine (HU.out _).mono ?_); rintro e w' ⟨rfl, rfl⟩))
    go_ret2
    exact ⟨by rw [HE.out.1, HE.out.2]; rfl, Below.refl _ _⟩
  · rw [hu] at HU
    cases hv : ckB v
    · have HE := Lib.hid (su_no (l := l) (ts := ts) (u := u) (v := v) (by rw [suOk, hv]; simp))
      rw [hv] at HV
      clear hv hu
      go_enter Try.func20, Try.ntmps20
      go_wp2_with fail
      refine (HU.out _).mono ?_
      rintro e w' ⟨rfl, rfl⟩
      go_wp2_with fail
      refine (HV.out _).mono ?_
      rintro e w' ⟨rfl, rfl⟩
      go_wp2_with fail
      go_ret2
      exact ⟨by rw [HE.out.1, HE.out.2]; rfl, Below.refl _ _⟩
    · rw [hv] at HV
      have HOk : Hid (suOk l ts u v = l.all szB) := by show _ = _; rw [suOk, hu, hv, decide_eq_true h40, decide_eq_true HLE.out]; rfl
      clear hu hv
      go_enter Try.func20, Try.ntmps20
      go_wp2_with fail
      refine (HU.out _).mono ?_
      rintro e w' ⟨rfl, rfl⟩
      go_wp2_with fail
      refine (HV.out _).mono ?_
      rintro e w' ⟨rfl, rfl⟩
      go_wp2_with fail
      go_loopg [35, 10] l.length (fun gk i n wr => ∃ j : Nat, j + gk = l.length ∧ i = .int .i64 j ∧ n = .int .i64 (suS u v (l.take j) (ts.take j)) ∧ (l.take j).all szB = true ∧ Below w.heap.size w wr)
      case atStart => exact ⟨0, by omega, rfl, by simp [suS], rfl, Below.refl _ _⟩
      case round =>
        obtain ⟨j, hgk, rfl, rfl, hal, hbel⟩ := hrel
        have HBl := Lib.hid hbel
        clear hbel
        by_cases hlt : j < l.length
        case neg =>
          obtain rfl : j = l.length := by omega
          have hji : ¬ (l.length : Int) < (l.length : Int) := by omega
          have ht : ts.take l.length = ts := by rw [HLE.out]; exact List.take_of_length_le (Nat.le_refl _)
          rw [List.take_of_length_le (Nat.le_refl l.length)] at hal
          rw [ht, List.take_of_length_le (Nat.le_refl l.length)]
          have HE := Lib.hid (su_yes (HOk.out.trans hal))
          clear hal ht hgk hlt
          generalize suS u v l ts = S at *
          go_wp2_with fail
          go_ret2
          exact ⟨by rw [HE.out.1, HE.out.2]; rfl, HBl.out⟩
        have hji : (j : Int) < (l.length : Int) := by omega
        have hlt2 : j < ts.length := by rw [← HLE.out]; exact hlt
        obtain ⟨ba, oa, rfl, q0, q1⟩ := Wt_at (HA.out.below HBl.out) hlt
        obtain ⟨bt, ot, rfl, q2⟩ := bols_at13 (HB.out.below HBl.out) hlt2
        have hb1 := suS_bounds u v (l.take j) (ts.take j) hal
        rw [List.length_take] at hb1
        have HS1 := Lib.hid (suS_snoc u v l ts hlt hlt2)
        have HW1 := Lib.hid (all_snoc hlt hal)
        have HNo := Lib.hid (fun (h : (l.take (j + 1)).all szB = false) => su_no (HOk.out.trans (all_pre (j + 1) h)))
        obtain ⟨⟨a, s⟩, hx⟩ : ∃ x, l[j] = x := ⟨_, rfl⟩
        obtain ⟨t, ht⟩ : ∃ t, ts[j] = t := ⟨_, rfl⟩
        rw [hx] at q0 q1 HS1 HW1
        rw [ht] at q2 HS1
        generalize suS u v (l.take j) (ts.take j) = S at *
        obtain ⟨S0, S1'⟩ := hb1
        have S1 : S ≤ 4000 := by omega
        clear S1' hx ht hal hlt2
        have HGK : Hid (l.length - j - 1 < gk ∧ j + 1 + (l.length - j - 1) = l.length) := by show _ ∧ _; omega
        clear hgk
        obtain ⟨wg, hwg⟩ : ∃ wg, wr.alloc (.cells #[.int .i64 a, .int .i64 s] 34) = wg := ⟨_, rfl⟩
        have hbg : Below wr.heap.size wr wg := by rw [← hwg]; exact gAlloc _ _
        have HBg := Lib.hid (below_more HBl.out hbg)
        have q2g := cell_onU hbg q2
        have G2 : wg.heap[wr.heap.size]? = some (.cells #[.int .i64 a, .int .i64 s] 34 (0, 0)) := by rw [← hwg]; exact heap_alloc_new _ _
        have v0 : wg.cell? ⟨wr.heap.size, 0, none⟩ = some (.int .i64 a) := cell_of_row _ _ 0 _ _ _ G2
        have v1 : wg.cell? ⟨wr.heap.size, 1, none⟩ = some (.int .i64 s) := cell_of_row _ _ 1 _ _ _ G2
        clear G2 hbg
        have HSz := Lib.hid (fun w => l1In_any s 1 100 w)
        cases hs : inB s 1 100
        · have HE := Lib.hid (HNo.out (by rw [HW1.out]; exact hs))
          rw [hs] at HSz
          clear HNo HW1 hs HS1
          go_wp2_with (go_at_call 50; go_loud (refine (HSz.out _).mono ?_); rintro e w' ⟨rfl, rfl⟩)
          go_ret2
          exact ⟨by rw [HE.out.1, HE.out.2]; rfl, HBg.out⟩
        have hmj : Hid ((l.take (j + 1)).all szB = true) := by show _ = _; rw [HW1.out]; exact hs
        rw [hs] at HSz
        obtain ⟨s0, s1⟩ := inB_andL hs
        clear HNo HW1 hs
        cases t
        · have HE : Hid (suS u v (l.take (j + 1)) (ts.take (j + 1)) = S) := by show _ = _; rw [HS1.out]; simp
          clear HS1
          go_wp2_with (go_at_call 50; go_loud (refine (HSz.out _).mono ?_); rintro e w' ⟨rfl, rfl⟩)
          go_roundg (l.length - j - 1)
          case measure => exact HGK.out.1
          case rel => exact ⟨j + 1, HGK.out.2, by go_num, by rw [HE.out], hmj.out, HBg.out⟩
        · have HI := Lib.hid (fun w => l1In_any a u v w)
          cases hin : inB a u v
          · rw [hin] at HI
            have HE : Hid (suS u v (l.take (j + 1)) (ts.take (j + 1)) = S) := by show _ = _; rw [HS1.out]; simp [hin]
            clear HS1 hin
            go_wp2_with fail
            refine (HSz.out _).mono ?_
            rintro e w' ⟨rfl, rfl⟩
            go_wp2_with fail
            refine (HI.out _).mono ?_
            rintro e w' ⟨rfl, rfl⟩
            go_wp2_with fail
            go_roundg (l.length - j - 1)
            case measure => exact HGK.out.1
            case rel => exact ⟨j + 1, HGK.out.2, by go_num, by rw [HE.out], hmj.out, HBg.out⟩
          · rw [hin] at HI
            have HE : Hid (suS u v (l.take (j + 1)) (ts.take (j + 1)) = S + s) := by show _ = _; rw [HS1.out]; simp [hin]
            clear HS1 hin
            have hsw : IntKind.i64.wrap (S + s) = S + s := wrap13 _ (by omega) (by omega)
            go_wp2_with fail
            refine (HSz.out _).mono ?_
            rintro e w' ⟨rfl, rfl⟩
            go_wp2_with fail
            refine (HI.out _).mono ?_
            rintro e w' ⟨rfl, rfl⟩
            go_wp2_with fail
            go_roundg (l.length - j - 1)
            case measure => exact HGK.out.1
            case rel => exact ⟨j + 1, HGK.out.2, by go_num, by rw [HE.out], hmj.out, HBg.out⟩
set_option maxRecDepth 100000 in
set_option maxHeartbeats 2000000 in
theorem iSumTaken (A B : Option Addr) (l : List Wtc) (ts : List Bool) (ca cb : Nat) (u v : Int) (w : World) (ha : RdR 2 fWt w A l) (hb : Bols w B ts) (hl : l.length ≤ 1048576) (hl2 : ts.length ≤ 1048576) :
    Calls Try.prog 18 #[.slice A l.length ca, .slice B ts.length cb, .int .i64 u, .int .i64 v] w fun e w' => e = .returned (.tuple #[.int .i64 (suI l ts u v), .bool (suOk l ts u v)]) ∧ Below w.heap.size w w' := by
  have HA := Lib.hid ha
  have HB := Lib.hid hb
  have HU := Lib.hid (fun w => iClock13 u w)
  have HV := Lib.hid (fun w => iClock13 v w)
  clear ha hb
  by_cases h40 : l.length ≤ 40
  case neg =>
    have HE := Lib.hid (su_no (l := l) (ts := ts) (u := u) (v := v) (by rw [suOk]; simp [h40]))
    have hi : (40 : Int) < (l.length : Int) := by omega
    clear h40
    go_enter Try.func18, Try.ntmps18
    go_wp2_with fail
    go_ret2
    exact ⟨by rw [HE.out.1, HE.out.2]; rfl, Below.refl _ _⟩
  have hi : ¬ (40 : Int) < (l.length : Int) := by omega
  by_cases hle : l.length = ts.length
  case neg =>
    have HE := Lib.hid (su_no (l := l) (ts := ts) (u := u) (v := v) (by rw [suOk]; simp [hle]))
    have hq1 : ((l.length : Int) != (ts.length : Int)) = true := by simp; omega
    have hq2 : ((ts.length : Int) != (l.length : Int)) = true := by simp; omega
    have hq3 : ¬ (l.length : Int) = (ts.length : Int) := by omega
    have hq4 : ¬ (ts.length : Int) = (l.length : Int) := by omega
    clear h40 hle
    go_enter Try.func18, Try.ntmps18
    go_wp2_with fail
    go_ret2
    exact ⟨by rw [HE.out.1, HE.out.2]; rfl, Below.refl _ _⟩
  have HLE := Lib.hid hle
  rw [← hle]
  have hq1 : ((l.length : Int) != (l.length : Int)) = false := by simp
  clear hle
  cases hu : ckB u
  · have HE := Lib.hid (su_no (l := l) (ts := ts) (u := u) (v := v) (by rw [suOk, hu]; simp))
    rw [hu] at HU
    clear hu
    go_enter Try.func18, Try.ntmps18
    go_wp2_with (first | (go_at_call 49; go_loud (refine (HU.out _).mono ?_); rintro e w' ⟨rfl, rfl⟩))
    go_ret2
    exact ⟨by rw [HE.out.1, HE.out.2]; rfl, Below.refl _ _⟩
  · rw [hu] at HU
    cases hv : ckB v
    · have HE := Lib.hid (su_no (l := l) (ts := ts) (u := u) (v := v) (by rw [suOk, hv]; simp))
      rw [hv] at HV
      clear hv hu
      go_enter Try.func18, Try.ntmps18
      go_wp2_with fail
      refine (HU.out _).mono ?_
      rintro e w' ⟨rfl, rfl⟩
      go_wp2_with fail
      refine (HV.out _).mono ?_
      rintro e w' ⟨rfl, rfl⟩
      go_wp2_with fail
      go_ret2
      exact ⟨by rw [HE.out.1, HE.out.2]; rfl, Below.refl _ _⟩
    · rw [hv] at HV
      have HOk : Hid (suOk l ts u v = l.all szB) := by show _ = _; rw [suOk, hu, hv, decide_eq_true h40, decide_eq_true HLE.out]; rfl
      clear hu hv
      go_enter Try.func18, Try.ntmps18
      go_wp2_with fail
      refine (HU.out _).mono ?_
      rintro e w' ⟨rfl, rfl⟩
      go_wp2_with fail
      refine (HV.out _).mono ?_
      rintro e w' ⟨rfl, rfl⟩
      go_wp2_with fail
      go_loopg [35, 10] l.length (fun gk i n wr => ∃ j : Nat, j + gk = l.length ∧ i = .int .i64 j ∧ n = .int .i64 (suS u v (l.take j) (ts.take j)) ∧ (l.take j).all szB = true ∧ Below w.heap.size w wr)
      case atStart => exact ⟨0, by omega, rfl, by simp [suS], rfl, Below.refl _ _⟩
      case round =>
        obtain ⟨j, hgk, rfl, rfl, hal, hbel⟩ := hrel
        have HBl := Lib.hid hbel
        clear hbel
        by_cases hlt : j < l.length
        case neg =>
          obtain rfl : j = l.length := by omega
          have hji : ¬ (l.length : Int) < (l.length : Int) := by omega
          have ht : ts.take l.length = ts := by rw [HLE.out]; exact List.take_of_length_le (Nat.le_refl _)
          rw [List.take_of_length_le (Nat.le_refl l.length)] at hal
          rw [ht, List.take_of_length_le (Nat.le_refl l.length)]
          have HE := Lib.hid (su_yes (HOk.out.trans hal))
          clear hal ht hgk hlt
          generalize suS u v l ts = S at *
          go_wp2_with fail
          go_ret2
          exact ⟨by rw [HE.out.1, HE.out.2]; rfl, HBl.out⟩
        have hji : (j : Int) < (l.length : Int) := by omega
        have hlt2 : j < ts.length := by rw [← HLE.out]; exact hlt
        obtain ⟨ba, oa, rfl, q0, q1⟩ := Wt_at (HA.out.below HBl.out) hlt
        obtain ⟨bt, ot, rfl, q2⟩ := bols_at13 (HB.out.below HBl.out) hlt2
        have hb1 := suS_bounds u v (l.take j) (ts.take j) hal
        rw [List.length_take] at hb1
        have HS1 := Lib.hid (suS_snoc u v l ts hlt hlt2)
        have HW1 := Lib.hid (all_snoc hlt hal)
        have HNo := Lib.hid (fun (h : (l.take (j + 1)).all szB = false) => su_no (HOk.out.trans (all_pre (j + 1) h)))
        obtain ⟨⟨a, s⟩, hx⟩ : ∃ x, l[j] = x := ⟨_, rfl⟩
        obtain ⟨t, ht⟩ : ∃ t, ts[j] = t := ⟨_, rfl⟩
        rw [hx] at q0 q1 HS1 HW1
        rw [ht] at q2 HS1
        generalize suS u v (l.take j) (ts.take j) = S at *
        obtain ⟨S0, S1'⟩ := hb1
        have S1 : S ≤ 4000 := by omega
        clear S1' hx ht hal hlt2
        have HGK : Hid (l.length - j - 1 < gk ∧ j + 1 + (l.length - j - 1) = l.length) := by show _ ∧ _; omega
        clear hgk
        obtain ⟨wg, hwg⟩ : ∃ wg, wr.alloc (.cells #[.int .i64 a, .int .i64 s] 34) = wg := ⟨_, rfl⟩
        have hbg : Below wr.heap.size wr wg := by rw [← hwg]; exact gAlloc _ _
        have HBg := Lib.hid (below_more HBl.out hbg)
        have q2g := cell_onU hbg q2
        have G2 : wg.heap[wr.heap.size]? = some (.cells #[.int .i64 a, .int .i64 s] 34 (0, 0)) := by rw [← hwg]; exact heap_alloc_new _ _
        have v0 : wg.cell? ⟨wr.heap.size, 0, none⟩ = some (.int .i64 a) := cell_of_row _ _ 0 _ _ _ G2
        have v1 : wg.cell? ⟨wr.heap.size, 1, none⟩ = some (.int .i64 s) := cell_of_row _ _ 1 _ _ _ G2
        clear G2 hbg
        have HSz := Lib.hid (fun w => iAmt13 s w)
        cases hs : inB s 1 100
        · have HE := Lib.hid (HNo.out (by rw [HW1.out]; exact hs))
          rw [hs] at HSz
          clear HNo HW1 hs HS1
          go_wp2_with (go_at_call 52; go_loud (refine (HSz.out _).mono ?_); rintro e w' ⟨rfl, rfl⟩)
          go_ret2
          exact ⟨by rw [HE.out.1, HE.out.2]; rfl, HBg.out⟩
        have hmj : Hid ((l.take (j + 1)).all szB = true) := by show _ = _; rw [HW1.out]; exact hs
        rw [hs] at HSz
        obtain ⟨s0, s1⟩ := inB_andL hs
        clear HNo HW1 hs
        cases t
        · have HE : Hid (suS u v (l.take (j + 1)) (ts.take (j + 1)) = S) := by show _ = _; rw [HS1.out]; simp
          clear HS1
          go_wp2_with (go_at_call 52; go_loud (refine (HSz.out _).mono ?_); rintro e w' ⟨rfl, rfl⟩)
          go_roundg (l.length - j - 1)
          case measure => exact HGK.out.1
          case rel => exact ⟨j + 1, HGK.out.2, by go_num, by rw [HE.out], hmj.out, HBg.out⟩
        · by_cases hu1 : u ≤ a
          case neg =>
            have hin : inB a u v = false := by simp [inB]; omega
            have HE : Hid (suS u v (l.take (j + 1)) (ts.take (j + 1)) = S) := by show _ = _; rw [HS1.out]; simp [hin]
            clear HS1 hin
            go_wp2_with (go_at_call 52; go_loud (refine (HSz.out _).mono ?_); rintro e w' ⟨rfl, rfl⟩)
            go_roundg (l.length - j - 1)
            case measure => exact HGK.out.1
            case rel => exact ⟨j + 1, HGK.out.2, by go_num, by rw [HE.out], hmj.out, HBg.out⟩
          by_cases hv1 : a ≤ v
          case neg =>
            have hin : inB a u v = false := by simp [inB]; omega
            have HE : Hid (suS u v (l.take (j + 1)) (ts.take (j + 1)) = S) := by show _ = _; rw [HS1.out]; simp [hin]
            clear HS1 hin
            go_wp2_with (go_at_call 52; go_loud (refine (HSz.out _).mono ?_); rintro e w' ⟨rfl, rfl⟩)
            go_roundg (l.length - j - 1)
            case measure => exact HGK.out.1
            case rel => exact ⟨j + 1, HGK.out.2, by go_num, by rw [HE.out], hmj.out, HBg.out⟩
          have hin : inB a u v = true := inB_mkL hu1 hv1
          have HE : Hid (suS u v (l.take (j + 1)) (ts.take (j + 1)) = S + s) := by show _ = _; rw [HS1.out]; simp [hin]
          clear HS1 hin
          have hsw : IntKind.i64.wrap (S + s) = S + s := wrap13 _ (by omega) (by omega)
          go_wp2_with (go_at_call 52; go_loud (refine (HSz.out _).mono ?_); rintro e w' ⟨rfl, rfl⟩)
          go_roundg (l.length - j - 1)
          case measure => exact HGK.out.1
          case rel => exact ⟨j + 1, HGK.out.2, by go_num, by rw [HE.out], hmj.out, HBg.out⟩
end Go.Proofs.Ytgakklanboabjaa
