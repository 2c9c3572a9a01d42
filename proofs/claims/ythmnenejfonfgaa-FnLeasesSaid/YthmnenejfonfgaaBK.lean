/-
  The program's chapter 12, second part: countOf, MayOverlap.
-/
import Derived.Test.YthmnenejfonfgaaBJ
import Derived.Test.YthmnenejfonfgaaBF
namespace Go.Proofs.Ythmnenejfonfgaa
open Go.RowKit

theorem filter_snoc12 {α : Type} {p : α → Bool} {l : List α} {j : Nat} (hj : j < l.length) : ((l.take (j + 1)).filter p).length = ((l.take j).filter p).length + (if p l[j] = true then 1 else 0) := by
  rw [List.take_succ_eq_append_getElem hj, List.filter_append, List.length_append]
  congr 1
  by_cases h : p l[j] = true
  · simp [h]
  · simp [h]
theorem filter_all12 {α : Type} {p : α → Bool} : ∀ (l : List α), l.all p = decide ((l.filter p).length = l.length)
  | [] => by simp
  | x :: r => by
    have h := filter_all12 (p := p) r
    have h2 := List.length_filter_le p r
    cases e : p x
    · rw [List.all_cons, e, Bool.false_and, List.filter_cons_of_neg (by simp [e])]
      simp only [List.length_cons]
      symm; rw [decide_eq_false_iff_not]; omega
    · rw [List.all_cons, e, Bool.true_and, List.filter_cons_of_pos e, h]
      simp
set_option maxRecDepth 100000 in
set_option maxHeartbeats 4000000 in
theorem iCountZ (A : Option Addr) (l : List Zac) (ca : Nat) (w : World) (ha : RdR 3 fZa w A l) (hl : l.length ≤ 1048576) :
    Calls Try.prog 46 #[.slice A l.length ca, .func (.func 14) #[] #[]] w fun e w' => e = .returned (.int .i64 ((l.filter goodZ).length : Nat)) ∧ Below w.heap.size w w' := by
  have HA := Lib.hid ha
  clear ha
  go_enter Try.func46, Try.ntmps46
  go_wp2_with fail
  go_loopg [5, 10] l.length (fun gk s i wr => ∃ t : Nat, t + gk = l.length ∧ i = .int .i64 t ∧ s = .int .i64 (((l.take t).filter goodZ).length : Nat) ∧ Below w.heap.size w wr)
  case atStart => exact ⟨0, by omega, rfl, rfl, Below.refl _ _⟩
  case round =>
    obtain ⟨t, hg, rfl, rfl, hbel⟩ := hrel
    have HBl := Lib.hid hbel
    clear hbel
    by_cases hlt : t < l.length
    · have hti : (t : Int) < (l.length : Int) := by omega
      obtain ⟨b1, o1, rfl, p1, p2, p3⟩ := Za_at (HA.out.below HBl.out) hlt
      have HS := Lib.hid (filter_snoc12 (p := goodZ) hlt)
      have hal : ((l.take t).filter goodZ).length ≤ 1048576 := Nat.le_trans (List.length_filter_le _ _) (by rw [List.length_take]; omega)
      have HGK : Hid (l.length - t - 1 < gk ∧ t + 1 + (l.length - t - 1) = l.length) := by show _ ∧ _; omega
      clear hg
      generalize l[t] = z at *
      obtain ⟨z1, z2, z3⟩ := z
      generalize ((l.take t).filter goodZ).length = s at *
      obtain ⟨W, hW⟩ : ∃ W, wr.alloc (.cells #[.int .i64 z1, .int .i64 z2, .int .i64 z3] 26) = W := ⟨_, rfl⟩
      have hbW : Below wr.heap.size wr W := by rw [← hW]; exact gAlloc _ _
      have h1 : W.heap[wr.heap.size]? = some (.cells #[.int .i64 z1, .int .i64 z2, .int .i64 z3] 26 (0, 0)) := by rw [← hW]; exact heap_alloc_new _ _
      have HBw := Lib.hid (below_more HBl.out hbW)
      have x0 : W.cell? ⟨wr.heap.size, 0, none⟩ = some (.int .i64 z1) := cell_of_row _ _ 0 _ _ _ h1
      have x1 : W.cell? ⟨wr.heap.size, 1, none⟩ = some (.int .i64 z2) := cell_of_row _ _ 1 _ _ _ h1
      have x2 : W.cell? ⟨wr.heap.size, 2, none⟩ = some (.int .i64 z3) := cell_of_row _ _ 2 _ _ _ h1
      have HC := Lib.hid (iGoodL z1 z2 z3 W)
      clear hbW h1
      cases he : goodZ (z1, z2, z3)
      · have HS2 : Hid (((l.take (t + 1)).filter goodZ).length = s) := by show _ = _; rw [HS.out, if_neg (by rw [he]; decide)]; rfl
        rw [show goodZB z1 z2 z3 = false from he] at HC
        clear he HS
        go_wp2_with (go_at_call 14; refine HC.out.mono ?_; rintro e w2 ⟨rfl, hb2⟩)
        have HB2 := Lib.hid (below_more HBw.out hb2)
        go_roundg (l.length - t - 1)
        case measure => exact HGK.out.1
        case rel => exact ⟨t + 1, HGK.out.2, by go_num, by rw [HS2.out], HB2.out⟩
      · have HS2 : Hid (((l.take (t + 1)).filter goodZ).length = s + 1) := by show _ = _; rw [HS.out, if_pos he]
        rw [show goodZB z1 z2 z3 = true from he] at HC
        clear he HS
        go_wp2_with (go_at_call 14; refine HC.out.mono ?_; rintro e w2 ⟨rfl, hb2⟩)
        have HB2 := Lib.hid (below_more HBw.out hb2)
        go_roundg (l.length - t - 1)
        case measure => exact HGK.out.1
        case rel => exact ⟨t + 1, HGK.out.2, by go_num, by rw [HS2.out]; go_num, HB2.out⟩
    · obtain rfl : t = l.length := by omega
      rw [List.take_length]
      have hti : ¬ (l.length : Int) < (l.length : Int) := by omega
      clear hg
      go_wp2_with fail
      go_ret
      exact ⟨rfl, HBl.out⟩
/-- Among the first j leases all that are used at c are used by one: user (0: none is used). -/
structure Us12 (c : Int) (l : List Zac) (j : Nat) (user : Int) : Prop where
  all : ∀ y ∈ l.take j, belB y.2.1 c = true → y.1 = user
  ex : user ≠ 0 → ∃ i, ∃ h : i < l.length, i < j ∧ belB l[i].2.1 c = true ∧ l[i].1 = user
  no : moU c l j = false
theorem mem_snoc12 {α : Type} {l : List α} {j : Nat} (hj : j < l.length) {y : α} (h : y ∈ l.take (j + 1)) : y ∈ l.take j ∨ y = l[j] := by
  rw [List.take_succ_eq_append_getElem hj, List.mem_append] at h
  rcases h with h | h
  · exact Or.inl h
  · exact Or.inr (by simpa using h)
theorem us_start (c : Int) (l : List Zac) : Us12 c l 0 0 := ⟨fun y h => by simp at h, fun h => absurd rfl h, rfl⟩
theorem us_not {c : Int} {l : List Zac} {j : Nat} {user : Int} (h : Us12 c l j user) (hj : j < l.length) (hb : belB l[j].2.1 c = false) : Us12 c l (j + 1) user := by
  refine ⟨fun y hy hyb => ?_, fun hu => ?_, ?_⟩
  · rcases mem_snoc12 hj hy with h1 | rfl
    · exact h.all y h1 hyb
    · rw [hb] at hyb; exact absurd hyb (by decide)
  · obtain ⟨i, hi, h1, h2⟩ := h.ex hu; exact ⟨i, hi, by omega, h2⟩
  · rw [moU_at h.no hj, List.any_eq_false]
    intro y _
    simp [prB, hb]
theorem us_yes {c : Int} {l : List Zac} {j : Nat} {user : Int} (h : Us12 c l j user) (hj : j < l.length) (hb : belB l[j].2.1 c = true) (hg : l.all goodZ = true) (hc : 0 ≤ c) (hu : user = 0 ∨ user = l[j].1) : Us12 c l (j + 1) l[j].1 := by
  have key : ∀ y ∈ l.take j, belB y.2.1 c = true → y.1 = l[j].1 := by
    intro y hy hyb
    have e := h.all y hy hyb
    rcases hu with hu | hu
    · have h1 : goodZ y = true := List.all_eq_true.1 hg y (List.mem_of_mem_take hy)
      have h2 := gls_ok (show goodZB y.1 y.2.1 y.2.2 = true from h1)
      have h3 : c + 3 < y.2.1 := by simpa [belB] using hyb
      omega
    · exact e.trans hu
  refine ⟨fun y hy hyb => ?_, fun _ => ⟨j, hj, by omega, hb, rfl⟩, ?_⟩
  · rcases mem_snoc12 hj hy with h1 | rfl
    · exact key y h1 hyb
    · rfl
  · rw [moU_at h.no hj, List.any_eq_false]
    intro y hy
    cases hyb : belB y.2.1 c
    · simp [prB, hyb]
    · have := key y hy hyb
      simp [prB, this]
theorem us_two {c : Int} {l : List Zac} {j : Nat} {user : Int} (h : Us12 c l j user) (hj : j < l.length) (hb : belB l[j].2.1 c = true) (h0 : user ≠ 0) (hu : user ≠ l[j].1) : moU c l l.length = true := by
  obtain ⟨i, hi, h1, h2, h3⟩ := h.ex h0
  refine moU_yes (j := j) ?_ hj
  rw [moU_at h.no hj]
  refine any_some hi h1 ?_
  simp [prB, hb, h2, h3]
  exact fun e => hu e.symm
set_option maxRecDepth 100000 in
set_option maxHeartbeats 4000000 in
theorem iOver12 (A : Option Addr) (l : List Zac) (ca : Nat) (now drift : Int) (w : World) (ha : RdR 3 fZa w A l) (hl : l.length ≤ 1048576) :
    Calls Try.prog 16 #[.slice A l.length ca, .int .i64 now, .int .i64 drift] w fun e w' => e = .returned (.tuple #[.bool (ovB l now drift), .bool (ovOk l now drift)]) ∧ Below w.heap.size w w' := by
  have HA := Lib.hid ha
  have HN := Lib.hid (iCountZ A l ca w ha hl)
  have HC := Lib.hid (fun w => iClock12 now w)
  clear ha
  by_cases h40 : l.length ≤ 40
  case neg =>
    have hi2 : (40 : Int) < (l.length : Int) := by omega
    have HE := Lib.hid (ov_no (l := l) (now := now) (drift := drift) (by rw [ovOk]; simp [h40]))
    rw [HE.out.1, HE.out.2]
    clear h40
    go_enter Try.func16, Try.ntmps16
    go_wp2_with fail
    go_ret2
    exact ⟨rfl, Below.refl _ _⟩
  have hi2 : ¬ (40 : Int) < (l.length : Int) := by omega
  have hfl := List.length_filter_le goodZ l
  have HF := Lib.hid (filter_all12 (p := goodZ) l)
  generalize (l.filter goodZ).length = n1 at *
  cases hall : l.all goodZ
  · have HE := Lib.hid (ov_no (l := l) (now := now) (drift := drift) (by rw [ovOk, hall]; simp))
    rw [HE.out.1, HE.out.2]
    have hlt : (n1 : Int) < (l.length : Int) := by
      have h1 := HF.out
      rw [hall] at h1
      have h2 : ¬ n1 = l.length := of_decide_eq_false h1.symm
      omega
    clear h40 hfl hall
    go_enter Try.func16, Try.ntmps16
    go_wp2_with (go_at_call 46; refine HN.out.mono ?_; rintro e w1 ⟨rfl, hb1⟩)
    go_ret2
    exact ⟨rfl, hb1⟩
  have hlt : ¬ (n1 : Int) < (l.length : Int) := by
    have h1 := HF.out
    rw [hall] at h1
    have h2 : n1 = l.length := of_decide_eq_true h1.symm
    omega
  clear hfl HF
  cases hc : ckB now
  · have HE := Lib.hid (ov_no (l := l) (now := now) (drift := drift) (by rw [ovOk, hc]; simp))
    rw [HE.out.1, HE.out.2]
    rw [hc] at HC
    clear h40 hall hc
    go_enter Try.func16, Try.ntmps16
    go_wp2_with (first
      | (go_at_call 46; refine HN.out.mono ?_; rintro e w1 ⟨rfl, hb1⟩)
      | (go_at_call 45; refine (HC.out _).mono ?_; rintro e w' ⟨rfl, rfl⟩))
    go_ret2
    exact ⟨rfl, hb1⟩
  by_cases hd0 : drift < 0
  · have HE := Lib.hid (ov_no (l := l) (now := now) (drift := drift) (by rw [ovOk, show inB drift 0 3 = false by simp [inB]; omega]; simp))
    rw [HE.out.1, HE.out.2]
    rw [hc] at HC
    clear h40 hall hc
    go_enter Try.func16, Try.ntmps16
    go_wp2_with (first
      | (go_at_call 46; refine HN.out.mono ?_; rintro e w1 ⟨rfl, hb1⟩)
      | (go_at_call 45; refine (HC.out _).mono ?_; rintro e w' ⟨rfl, rfl⟩))
    go_ret2
    exact ⟨rfl, hb1⟩
  by_cases hd3 : 3 < drift
  · have HE := Lib.hid (ov_no (l := l) (now := now) (drift := drift) (by rw [ovOk, show inB drift 0 3 = false by simp [inB]; omega]; simp))
    rw [HE.out.1, HE.out.2]
    rw [hc] at HC
    clear h40 hall hc
    go_enter Try.func16, Try.ntmps16
    go_wp2_with (first
      | (go_at_call 46; refine HN.out.mono ?_; rintro e w1 ⟨rfl, hb1⟩)
      | (go_at_call 45; refine (HC.out _).mono ?_; rintro e w' ⟨rfl, rfl⟩))
    go_ret2
    exact ⟨rfl, hb1⟩
  have hck : 0 ≤ now ∧ now ≤ 10000 := inB_andL hc
  have HE := Lib.hid (ov_yes (l := l) (now := now) (drift := drift) (by rw [ovOk, hc, hall, inB_mkL (by omega) (by omega)]; simp [h40]))
  rw [HE.out.1, HE.out.2]
  have HL := Lib.hid (fun w => iEarlier now drift w hck.1 hck.2 (by omega) (by omega))
  have HD : Hid (0 ≤ max 0 (now - drift) ∧ max 0 (now - drift) ≤ 10000) := by show _ ∧ _; omega
  have HG := Lib.hid hall
  rw [hc] at HC
  clear hck hall hc h40
  generalize max 0 (now - drift) = c at *
  have HK : Hid (ckB c = true) := inB_mkL HD.out.1 HD.out.2
  go_enter Try.func16, Try.ntmps16
  go_wp2_with (first
    | (go_at_call 46; refine HN.out.mono ?_; rintro e w1 ⟨rfl, hb1⟩)
    | (go_at_call 45; refine (HC.out _).mono ?_; rintro e w' ⟨rfl, rfl⟩))
  have HB1 := Lib.hid hb1
  clear hb1 HN HC hd0 hd3 hlt hi2
  go_loopg [8, 36] l.length (fun gk s i wr => ∃ t : Nat, ∃ user : Int, t + gk = l.length ∧ i = .int .i64 t ∧ s = .int .i64 user ∧ Us12 c l t user ∧ Below w.heap.size w wr)
  case atStart => exact ⟨0, 0, by omega, rfl, rfl, us_start c l, HB1.out⟩
  case round =>
    obtain ⟨t, user, hg, rfl, rfl, hus, hbel⟩ := hrel
    have HBl := Lib.hid hbel
    have HU := Lib.hid hus
    clear hbel hus HB1
    by_cases hlt : t < l.length
    case neg =>
      obtain rfl : t = l.length := by omega
      have HM := Lib.hid HU.out.no
      have hti : ¬ (l.length : Int) < (l.length : Int) := by omega
      clear hg hlt
      go_wp2_with fail
      go_ret2
      exact ⟨by rw [HM.out]; rfl, HBl.out⟩
    have hti : (t : Int) < (l.length : Int) := by omega
    obtain ⟨b1, o1, rfl, p1, p2, p3⟩ := Za_at (HA.out.below HBl.out) hlt
    have HS : Hid (belB l[t].2.1 c = false → Us12 c l (t + 1) user) := us_not HU.out hlt
    have HY : Hid (belB l[t].2.1 c = true → (user = 0 ∨ user = l[t].1) → Us12 c l (t + 1) l[t].1) := fun h h1 => us_yes HU.out hlt h HG.out HD.out.1 h1
    have HT : Hid (belB l[t].2.1 c = true → user ≠ 0 → user ≠ l[t].1 → moU c l l.length = true) := fun h h1 h2 => us_two HU.out hlt h h1 h2
    have hgz : goodZ l[t] = true := List.all_eq_true.1 HG.out _ (List.getElem_mem hlt)
    have HGK : Hid (l.length - t - 1 < gk ∧ t + 1 + (l.length - t - 1) = l.length) := by show _ ∧ _; omega
    clear hg HU
    generalize l[t] = z at *
    obtain ⟨z1, z2, z3⟩ := z
    have HV : Hid (blB z1 z2 z3 c = belB z2 c ∧ hdOkB z1 z2 z3 c = true) := by
      show _ ∧ _
      rw [blB, hdOkB, show goodZB z1 z2 z3 = true from hgz, HK.out]; exact ⟨rfl, rfl⟩
    clear hgz
    obtain ⟨W, hW⟩ : ∃ W, wr.alloc (.cells #[.int .i64 z1, .int .i64 z2, .int .i64 z3] 26) = W := ⟨_, rfl⟩
    have hbW : Below wr.heap.size wr W := by rw [← hW]; exact gAlloc _ _
    have h1 : W.heap[wr.heap.size]? = some (.cells #[.int .i64 z1, .int .i64 z2, .int .i64 z3] 26 (0, 0)) := by rw [← hW]; exact heap_alloc_new _ _
    have HBw := Lib.hid (below_more HBl.out hbW)
    have x0 : W.cell? ⟨wr.heap.size, 0, none⟩ = some (.int .i64 z1) := cell_of_row _ _ 0 _ _ _ h1
    have x1 : W.cell? ⟨wr.heap.size, 1, none⟩ = some (.int .i64 z2) := cell_of_row _ _ 1 _ _ _ h1
    have x2 : W.cell? ⟨wr.heap.size, 2, none⟩ = some (.int .i64 z3) := cell_of_row _ _ 2 _ _ _ h1
    have y0 := on_cell x0
    have y1 := on_cell x1
    have y2 := on_cell x2
    have HH1 := Lib.hid h1
    clear hbW h1
    have HW2 := Lib.hid (fun w => iBelAt z1 z2 z3 c w)
    rw [HV.out.1, HV.out.2] at HW2
    cases hb : belB z2 c
    · rw [hb] at HW2
      have HS2 := Lib.hid (HS.out hb)
      clear HS HY HT hb HV
      go_wp2_with fail
      refine wp_region_on (by kernel_rfl) (by kernel_rfl) ?_
      repeat ((with_reducible refine wpQuiet_step (fun K hK => ?_)); go_simp; first | ((with_reducible refine hK _ ?_); clear hK K) | (refine ite_no (by decide) (hK _ ?_); clear hK K) | (apply Exists.intro; refine ⟨fun _ => ?_, hK _ ?_⟩; (first | (go_at_call 47; exact on_same (HL.out _)) | (go_at_call 15; exact on_of (HW2.out _))); clear hK K))
      with_reducible refine wpQuiet_nil ?_
      rintro _ ⟨⟨w2, hb2⟩, rfl⟩
      have HB2 := Lib.hid (below_more HBw.out hb2)
      clear hb2 x0 x1 x2 y0 y1 y2
      go_wp2_with fail
      go_roundg (l.length - t - 1)
      case measure => exact HGK.out.1
      case rel => exact ⟨t + 1, user, HGK.out.2, by go_num, rfl, HS2.out, HB2.out⟩
    · rw [hb] at HW2
      have HY2 : Hid ((user = 0 ∨ user = z1) → Us12 c l (t + 1) z1) := HY.out hb
      have HT2 : Hid (user ≠ 0 → user ≠ z1 → moU c l l.length = true) := HT.out hb
      clear HS HY HT hb HV
      go_wp2_with fail
      refine wp_region_on (by kernel_rfl) (by kernel_rfl) ?_
      repeat ((with_reducible refine wpQuiet_step (fun K hK => ?_)); go_simp; first | ((with_reducible refine hK _ ?_); clear hK K) | (refine ite_no (by decide) (hK _ ?_); clear hK K) | (apply Exists.intro; refine ⟨fun _ => ?_, hK _ ?_⟩; (first | (go_at_call 47; exact on_same (HL.out _)) | (go_at_call 15; exact on_of (HW2.out _))); clear hK K))
      with_reducible refine wpQuiet_nil ?_
      rintro _ ⟨⟨w2, hb2⟩, rfl⟩
      have HB2 := Lib.hid (below_more HBw.out hb2)
      have q0 := (hb2.cell (World.block_lt_of_cell? _ _ x0)).trans x0
      clear hb2 x0 x1 x2 y0 y1 y2
      by_cases hu0 : user = 0
      · have HY3 := Lib.hid (HY2.out (Or.inl hu0))
        subst hu0
        clear HT2 HY2
        go_wp2_with fail
        go_roundg (l.length - t - 1)
        case measure => exact HGK.out.1
        case rel => exact ⟨t + 1, z1, HGK.out.2, by go_num, rfl, HY3.out, HB2.out⟩
      · have m0 : (user != 0) = true := by simpa using hu0
        by_cases hu1 : user = z1
        · have HY3 := Lib.hid (HY2.out (Or.inr hu1))
          subst hu1
          clear HT2 HY2
          go_wp2_with fail
          go_roundg (l.length - t - 1)
          case measure => exact HGK.out.1
          case rel => exact ⟨t + 1, user, HGK.out.2, by go_num, rfl, HY3.out, HB2.out⟩
        · have m1 : (user != z1) = true := by simpa using hu1
          have HM := Lib.hid (HT2.out hu0 hu1)
          clear HT2 HY2
          go_wp2_with fail
          go_ret2
          exact ⟨by rw [HM.out]; rfl, HB2.out⟩
end Go.Proofs.Ythmnenejfonfgaa
