/-
  FnGiven: no number is issued twice, none beyond the durable reservation.
-/
import Derived.Test.YtbegikjoialahaaHB
import Derived.Test.YtbegikjoialahaaXM
namespace Go.Proofs.Ytbegikjoialahaa
open Go.RowKit

theorem sameBo_self (A B : Option Addr) (l : List Bool) (ca cb : Nat) (w : World) (ha : Bols w A l) (hb : Bols w B l) (hl : l.length ≤ 1048576) :
    Calls Try.prog 14 #[.slice A l.length ca, .slice B l.length cb] w fun e w' => e = .returned (.bool true) ∧ Below w.heap.size w w' :=
  (sameBools_any A B l l ca cb w ha hb hl).mono (fun _ _ h => by obtain ⟨he, n, rfl⟩ := h; exact ⟨by rw [he, eqT_self], gDrewN n⟩)
/-- How many of the steps that were performed issue a number. -/
def gvs : List Bool → List Idc → Nat
  | b :: bs, x :: L => gvs bs L + (if (b && x.1 == 1) = true then 1 else 0)
  | _, _ => 0
theorem gvs_app (b : Bool) (x : Idc) : ∀ (bs : List Bool) (L : List Idc), bs.length = L.length → gvs (bs ++ [b]) (L ++ [x]) = gvs bs L + (if (b && x.1 == 1) = true then 1 else 0)
  | [], [], _ => by simp [gvs]
  | c :: bs, y :: L, h => by
    have ih := gvs_app b x bs L (by simpa using h)
    show gvs (bs ++ [b]) (L ++ [x]) + _ = gvs bs L + _ + _
    rw [ih]; omega
  | [], _ :: _, h => by simp at h
  | _ :: _, [], h => by simp at h
theorem gvs_snoc {bs : List Bool} {L : List Idc} (hl : bs.length = L.length) {j : Nat} (hj : j < L.length) : gvs (bs.take (j + 1)) (L.take (j + 1)) = gvs (bs.take j) (L.take j) + (if (bs[j]'(by omega) && L[j].1 == 1) = true then 1 else 0) := by
  rw [List.take_succ_eq_append_getElem hj, List.take_succ_eq_append_getElem (show j < bs.length by omega), gvs_app _ _ _ _ (by simp [List.length_take]; omega)]
theorem st_len (n a s : Int) (zs : List Int) (k : Int) (p : Bool) : (stZ n s zs k p).length = zs.length + (if (stOkB n s zs k p && k == 1) = true then 1 else 0) := by
  cases hg : giveB n s zs k p
  · cases hs : syncB k p
    · by_cases hk : k = 3
      · subst hk
        obtain ⟨-, -, -, e4, e5⟩ := st_crash n a s zs p
        rw [e4]; simp
      · obtain ⟨-, -, -, e4, e5⟩ := st_none (a := a) hg hs hk
        rw [e4, e5]; simp
    · obtain ⟨hk, -⟩ := syncB_and hs
      obtain ⟨-, -, -, e4, e5⟩ := st_sync (n := n) (a := a) (s := s) (zs := zs) hs
      rw [e4, hk]; simp
  · obtain ⟨hk, -, -, -⟩ := giveB_and hg
    obtain ⟨-, -, -, e4, e5⟩ := st_give (a := a) hg
    rw [e4, e5, hk]; simp
theorem gvs_all : ∀ (L : List Idc) (g : Gvr), (L.foldl stG g).2.2.2.length = g.2.2.2.length + gvs (pgD g L) L
  | [], g => by simp [gvs]
  | x :: L, g => by
    have ih := gvs_all L (stG g x)
    show (L.foldl stG (stG g x)).2.2.2.length = _
    rw [ih]
    show (stZ g.1 g.2.2.1 g.2.2.2 x.1 x.2).length + _ = _ + (gvs (pgD (stG g x) L) L + (if (stGok g x && x.1 == 1) = true then 1 else 0))
    rw [st_len g.1 g.2.1]
    show _ + (if (stGok g x && x.1 == 1) = true then 1 else 0) + _ = _
    omega
theorem gvs_is (L : List Idc) : gvs (pgD (1, 4, 0, []) L) L = (pgG L).2.2.2.length := by
  have := gvs_all L (1, 4, 0, [])
  rw [pgG, this]; simp
theorem gvs_le : ∀ (bs : List Bool) (L : List Idc), gvs bs L ≤ L.length
  | b :: bs, x :: L => by
    have := gvs_le bs L
    rw [gvs, List.length_cons]; split <;> omega
  | [], _ => by simp [gvs]
  | _ :: _, [] => by simp [gvs]
theorem ris_lenG : ∀ {zs : List Int} {l c : Int}, risB l c zs = true → l ≤ c → l + (zs.length : Int) ≤ c
  | [], _, _, _, h => by simpa using h
  | k :: r, l, c, h, hlc => by
    rw [risB] at h
    split at h
    · cases h
    · rename_i hk
      have := ris_lenG h (by omega)
      rw [List.length_cons]; omega
theorem ris_atG : ∀ {zs : List Int} {l c : Int}, risB l c zs = true → ∀ (i : Nat) (h : i < zs.length), l ≤ zs[i] ∧ zs[i] < c ∧ ∀ (h0 : 0 < i), zs[i - 1]'(by omega) < zs[i]
  | k :: r, l, c, h, i, hi => by
    rw [risB] at h
    split at h
    · cases h
    · rename_i hk
      cases i with
      | zero => exact ⟨by show l ≤ k; omega, by show k < c; omega, fun h0 => absurd h0 (by omega)⟩
      | succ i =>
        have hi' : i < r.length := by simpa using hi
        obtain ⟨h1, h2, h3⟩ := ris_atG h i hi'
        refine ⟨by show l ≤ r[i]; omega, h2, fun _ => ?_⟩
        cases i with
        | zero => show k < r[0]; omega
        | succ i => exact h3 (by omega)
theorem bols_at {w : World} {A : Option Addr} {bs : List Bool} (h : Bols w A bs) {j : Nat} (hj : j < bs.length) : ∃ b o, A = some ⟨b, o, none⟩ ∧ w.cell? ⟨b, o + j, none⟩ = some (.bool bs[j]) := by
  obtain ⟨b, o, e, hc⟩ := h (by intro e; rw [e] at hj; simp at hj)
  exact ⟨b, o, e, hc j hj⟩
theorem ints_at11 {w : World} {A : Option Addr} {zs : List Int} (h : Ints w A zs) {j : Nat} (hj : j < zs.length) : ∃ b o, A = some ⟨b, o, none⟩ ∧ ∀ i (hi : i < zs.length), w.cell? ⟨b, o + i, none⟩ = some (.int .i64 zs[i]) := by
  obtain ⟨b, o, e, hc⟩ := h (by intro e; rw [e] at hj; simp at hj)
  refine ⟨b, o, e, fun i hi => ?_⟩
  rw [hc i hi, List.getD_eq_getElem?_getD, List.getElem?_eq_getElem hi]; rfl
set_option maxRecDepth 100000 in
set_option maxHeartbeats 8000000 in
theorem fnGiven_small (A : Option Addr) (za : List Int) (ca : Nat) (B : Option Addr) (zb : List Int) (cb : Nat) (w : World) (ha : Byts w w.heap.size A za) (hb : Byts w w.heap.size B zb) (hl : za.length + zb.length ≤ 1048576) :
    Calls Try.prog 3 #[.slice A za.length ca, .slice B zb.length cb] w fun e w' => e = .returned (.bool true) ∧ Below w.heap.size w w' := by
  have HAy := Lib.hid ha
  have HBy := Lib.hid hb
  have hli : ¬ (1048576 : Int) < (za.length : Int) + (zb.length : Int) := by omega
  have hlb : zb.length ≤ 1048576 := by omega
  clear ha hb
  go_enter Try.func3, Try.ntmps3
  go_wp2_with fail
  refine (drawPlay11 A za ca _ HAy.out).mono ?_
  rintro e w1 ⟨A1, c1, L, rfl, ho1, hL, hb1⟩
  have HL_0 := Lib.hid (OwnR.rd fId_len ho1)
  clear ho1
  have HB_2 := Lib.hid (hb1)
  clear  hb1
  go_wp2_with fail
  refine (iPlayG A1 L c1 _ HL_0.out (by omega)).mono ?_
  rintro e w3 ⟨v2, d2, rfl, ho2, hd2, -, hb2⟩
  obtain ⟨Ag, cg, rfl, hr2⟩ := ho2.form
  obtain ⟨Ad, cd, rfl, hs2⟩ := hd2.form
  clear ho2 hd2
  have HG_0 := Lib.hid hr2
  have HD_0 := Lib.hid hs2
  clear hr2 hs2
  have HL_4 := Lib.hid (HL_0.out.below hb2)
  have HB_4 := Lib.hid (below_more HB_2.out hb2)
  clear HL_0 HB_2 hb2
  obtain ⟨w5, hw5⟩ : ∃ wn, w3.alloc (.cells #[.int .i64 (pyG L).1, .int .i64 (pyG L).2.1, .int .i64 (pyG L).2.2.1, .slice Ag (pyG L).2.2.2.length cg] 27) = wn := ⟨_, rfl⟩
  have hbx5 : Below w3.heap.size w3 w5 := by rw [← hw5]; exact gAlloc _ _
  have KG_50 : Hid (w5.heap[w3.heap.size]? = some (.cells #[.int .i64 (pyG L).1, .int .i64 (pyG L).2.1, .int .i64 (pyG L).2.2.1, .slice Ag (pyG L).2.2.2.length cg] 27 (0, 0))) := by rw [← hw5]; exact heap_alloc_new _ _
  have HL_6 := Lib.hid (HL_4.out.below hbx5)
  have HG_6 := Lib.hid (HG_0.out.below hbx5)
  have HD_6 := Lib.hid (HD_0.out.below hbx5)
  have HB_6 := Lib.hid (below_more HB_4.out hbx5)
  clear HL_4 HG_0 HD_0 HB_4 hbx5
  have cKG0 : w5.cell? ⟨w3.heap.size, 0, none⟩ = some (.int .i64 (pyG L).1) := cell_of_row _ _ 0 _ _ _ KG_50.out
  have cKG1 : w5.cell? ⟨w3.heap.size, 1, none⟩ = some (.int .i64 (pyG L).2.1) := cell_of_row _ _ 1 _ _ _ KG_50.out
  have cKG2 : w5.cell? ⟨w3.heap.size, 2, none⟩ = some (.int .i64 (pyG L).2.2.1) := cell_of_row _ _ 2 _ _ _ KG_50.out
  have cKG3 : w5.cell? ⟨w3.heap.size, 3, none⟩ = some (.slice Ag (pyG L).2.2.2.length cg) := cell_of_row _ _ 3 _ _ _ KG_50.out
  go_wp2_with fail
  clear cKG0 cKG1 cKG2 cKG3 hw5
  refine (sPlayG A1 L c1 _ HL_6.out (by omega)).mono ?_
  rintro e w7 ⟨v3, d3, rfl, ho3, hd3, -, hb3⟩
  obtain ⟨Aw, cw, rfl, hr3⟩ := ho3.form
  obtain ⟨At, ct, rfl, hs3⟩ := hd3.form
  clear ho3 hd3
  have HW_0 := Lib.hid hr3
  have HT_0 := Lib.hid hs3
  clear hr3 hs3
  have HL_8 := Lib.hid (HL_6.out.below hb3)
  have HG_8 := Lib.hid (HG_6.out.below hb3)
  have HD_8 := Lib.hid (HD_6.out.below hb3)
  have KG_8 := Lib.hid ((hb3.block _ (heap_lt KG_50.out)).trans KG_50.out)
  have HB_8 := Lib.hid (below_more HB_6.out hb3)
  clear HL_6 HG_6 HD_6 KG_50 HB_6 hb3
  obtain ⟨w9, hw9⟩ : ∃ wn, w7.alloc (.cells #[.int .i64 (pyG L).1, .int .i64 (pyG L).2.1, .int .i64 (pyG L).2.2.1, .slice Aw (pyG L).2.2.2.length cw] 27) = wn := ⟨_, rfl⟩
  have hbx9 : Below w7.heap.size w7 w9 := by rw [← hw9]; exact gAlloc _ _
  have KW_90 : Hid (w9.heap[w7.heap.size]? = some (.cells #[.int .i64 (pyG L).1, .int .i64 (pyG L).2.1, .int .i64 (pyG L).2.2.1, .slice Aw (pyG L).2.2.2.length cw] 27 (0, 0))) := by rw [← hw9]; exact heap_alloc_new _ _
  have HL_10 := Lib.hid (HL_8.out.below hbx9)
  have HG_10 := Lib.hid (HG_8.out.below hbx9)
  have HD_10 := Lib.hid (HD_8.out.below hbx9)
  have KG_10 := Lib.hid ((hbx9.block _ (heap_lt KG_8.out)).trans KG_8.out)
  have HW_10 := Lib.hid (HW_0.out.below hbx9)
  have HT_10 := Lib.hid (HT_0.out.below hbx9)
  have HB_10 := Lib.hid (below_more HB_8.out hbx9)
  clear HL_8 HG_8 HD_8 KG_8 HW_0 HT_0 HB_8 hbx9
  have hz60 := py_len L
  have hbs40 := pyD_len L
  have HM : Hid (L.length ≤ 40 → goodGB (pyG L).1 (pyG L).2.1 (pyG L).2.2.1 (pyG L).2.2.2 = true ∧ (pyD L).length = L.length ∧ gvs (pyD L) L = (pyG L).2.2.2.length) := fun h => by
    rw [pyG, if_pos h, pyD, if_pos h]
    exact ⟨pg_good L, pgD_len _ _, gvs_is L⟩
  generalize (pyG L).2.2.2 = zs at *
  generalize (pyG L).1 = n at *
  generalize (pyG L).2.1 = a at *
  generalize (pyG L).2.2.1 = s at *
  generalize pyD L = bs at *
  generalize hok : decide (L.length ≤ 40) = ok at *
  have cKG0 : w9.cell? ⟨w3.heap.size, 0, none⟩ = some (.int .i64 n) := cell_of_row _ _ 0 _ _ _ KG_10.out
  have cKG1 : w9.cell? ⟨w3.heap.size, 1, none⟩ = some (.int .i64 a) := cell_of_row _ _ 1 _ _ _ KG_10.out
  have cKG2 : w9.cell? ⟨w3.heap.size, 2, none⟩ = some (.int .i64 s) := cell_of_row _ _ 2 _ _ _ KG_10.out
  have cKG3 : w9.cell? ⟨w3.heap.size, 3, none⟩ = some (.slice Ag zs.length cg) := cell_of_row _ _ 3 _ _ _ KG_10.out
  have cKW0 : w9.cell? ⟨w7.heap.size, 0, none⟩ = some (.int .i64 n) := cell_of_row _ _ 0 _ _ _ KW_90.out
  have cKW1 : w9.cell? ⟨w7.heap.size, 1, none⟩ = some (.int .i64 a) := cell_of_row _ _ 1 _ _ _ KW_90.out
  have cKW2 : w9.cell? ⟨w7.heap.size, 2, none⟩ = some (.int .i64 s) := cell_of_row _ _ 2 _ _ _ KW_90.out
  have cKW3 : w9.cell? ⟨w7.heap.size, 3, none⟩ = some (.slice Aw zs.length cw) := cell_of_row _ _ 3 _ _ _ KW_90.out
  go_wp2_with fail
  clear cKG0 cKG1 cKG2 cKG3 cKW0 cKW1 cKW2 cKW3 hw9
  refine (sameBo_self Ad At bs cd ct _ HD_10.out HT_10.out (by omega)).mono ?_
  rintro e w11 ⟨rfl, hb4⟩
  have HL_12 := Lib.hid (HL_10.out.below hb4)
  have HG_12 := Lib.hid (HG_10.out.below hb4)
  have HD_12 := Lib.hid (HD_10.out.below hb4)
  have KG_12 := Lib.hid ((hb4.block _ (heap_lt KG_10.out)).trans KG_10.out)
  have HW_12 := Lib.hid (HW_10.out.below hb4)
  have HT_12 := Lib.hid (HT_10.out.below hb4)
  have KW_12 := Lib.hid ((hb4.block _ (heap_lt KW_90.out)).trans KW_90.out)
  have HB_12 := Lib.hid (below_more HB_10.out hb4)
  clear HL_10 HG_10 HD_10 KG_10 HW_10 HT_10 KW_90 HB_10 hb4
  have cKG0 : w11.cell? ⟨w3.heap.size, 0, none⟩ = some (.int .i64 n) := cell_of_row _ _ 0 _ _ _ KG_12.out
  have cKG1 : w11.cell? ⟨w3.heap.size, 1, none⟩ = some (.int .i64 a) := cell_of_row _ _ 1 _ _ _ KG_12.out
  have cKG2 : w11.cell? ⟨w3.heap.size, 2, none⟩ = some (.int .i64 s) := cell_of_row _ _ 2 _ _ _ KG_12.out
  have cKG3 : w11.cell? ⟨w3.heap.size, 3, none⟩ = some (.slice Ag zs.length cg) := cell_of_row _ _ 3 _ _ _ KG_12.out
  have cKW0 : w11.cell? ⟨w7.heap.size, 0, none⟩ = some (.int .i64 n) := cell_of_row _ _ 0 _ _ _ KW_12.out
  have cKW1 : w11.cell? ⟨w7.heap.size, 1, none⟩ = some (.int .i64 a) := cell_of_row _ _ 1 _ _ _ KW_12.out
  have cKW2 : w11.cell? ⟨w7.heap.size, 2, none⟩ = some (.int .i64 s) := cell_of_row _ _ 2 _ _ _ KW_12.out
  have cKW3 : w11.cell? ⟨w7.heap.size, 3, none⟩ = some (.slice Aw zs.length cw) := cell_of_row _ _ 3 _ _ _ KW_12.out
  go_wp2_with fail
  clear cKG0 cKG1 cKG2 cKG3 cKW0 cKW1 cKW2 cKW3
  refine (sameGv_self n a s Ag Aw zs cg cw _ HG_12.out HW_12.out (by omega)).mono ?_
  rintro e w13 ⟨rfl, hb5⟩
  have HL_14 := Lib.hid (HL_12.out.below hb5)
  have HG_14 := Lib.hid (HG_12.out.below hb5)
  have HD_14 := Lib.hid (HD_12.out.below hb5)
  have KG_14 := Lib.hid ((hb5.block _ (heap_lt KG_12.out)).trans KG_12.out)
  have HW_14 := Lib.hid (HW_12.out.below hb5)
  have KW_14 := Lib.hid ((hb5.block _ (heap_lt KW_12.out)).trans KW_12.out)
  have HB_14 := Lib.hid (below_more HB_12.out hb5)
  clear HL_12 HG_12 HD_12 KG_12 HW_12 KW_12 HB_12 hb5
  cases ok
  · clear HM hok
    go_wp2_with fail
    refine (drawLost11 B zb cb _ (byts_on11 HBy.out HB_14.out)).mono ?_
    rintro e w15 ⟨nu, au, su, vu, zu, rfl, hdu⟩
    obtain ⟨Au, cu, rfl, hru⟩ := hdu.own.form
    have hlu := hdu.len
    have hsu := hdu.sure
    have hbu := hdu.below
    clear hdu
    have HU_0 := Lib.hid hru
    clear hru
    have HB_16 := Lib.hid (below_more HB_14.out hbu)
    clear HB_14 hbu
    obtain ⟨w17, hw17⟩ : ∃ wn, w15.alloc (.cells #[.int .i64 nu, .int .i64 au, .int .i64 su, .slice Au zu.length cu] 27) = wn := ⟨_, rfl⟩
    have hbx17 : Below w15.heap.size w15 w17 := by rw [← hw17]; exact gAlloc _ _
    have KU_170 : Hid (w17.heap[w15.heap.size]? = some (.cells #[.int .i64 nu, .int .i64 au, .int .i64 su, .slice Au zu.length cu] 27 (0, 0))) := by rw [← hw17]; exact heap_alloc_new _ _
    have HU_18 := Lib.hid (HU_0.out.below hbx17)
    have HB_18 := Lib.hid (below_more HB_16.out hbx17)
    clear HU_0 HB_16 hbx17
    have HI1 := Lib.hid (fun w h => iLost11 nu au su Au zu cu w h (by omega) (by omega))
    have HI2 := Lib.hid (fun w h => sLost nu au su Au zu cu w h (by omega))
    generalize loI nu au su zu = lo at *
    generalize goodGB nu au su zu = gb at *
    have cKU0 : w17.cell? ⟨w15.heap.size, 0, none⟩ = some (.int .i64 nu) := cell_of_row _ _ 0 _ _ _ KU_170.out
    have cKU1 : w17.cell? ⟨w15.heap.size, 1, none⟩ = some (.int .i64 au) := cell_of_row _ _ 1 _ _ _ KU_170.out
    have cKU2 : w17.cell? ⟨w15.heap.size, 2, none⟩ = some (.int .i64 su) := cell_of_row _ _ 2 _ _ _ KU_170.out
    have cKU3 : w17.cell? ⟨w15.heap.size, 3, none⟩ = some (.slice Au zu.length cu) := cell_of_row _ _ 3 _ _ _ KU_170.out
    go_wp2_with fail
    clear cKU0 cKU1 cKU2 cKU3 hw17
    refine (HI1.out _ HU_18.out).mono ?_
    rintro e w19 ⟨rfl, hb6⟩
    have HU_20 := Lib.hid (HU_18.out.below hb6)
    have KU_20 := Lib.hid ((hb6.block _ (heap_lt KU_170.out)).trans KU_170.out)
    have HB_20 := Lib.hid (below_more HB_18.out hb6)
    clear HU_18 KU_170 HB_18 hb6
    have cKU0 : w19.cell? ⟨w15.heap.size, 0, none⟩ = some (.int .i64 nu) := cell_of_row _ _ 0 _ _ _ KU_20.out
    have cKU1 : w19.cell? ⟨w15.heap.size, 1, none⟩ = some (.int .i64 au) := cell_of_row _ _ 1 _ _ _ KU_20.out
    have cKU2 : w19.cell? ⟨w15.heap.size, 2, none⟩ = some (.int .i64 su) := cell_of_row _ _ 2 _ _ _ KU_20.out
    have cKU3 : w19.cell? ⟨w15.heap.size, 3, none⟩ = some (.slice Au zu.length cu) := cell_of_row _ _ 3 _ _ _ KU_20.out
    go_wp2_with fail
    clear cKU0 cKU1 cKU2 cKU3
    refine (HI2.out _ HU_20.out).mono ?_
    rintro e w21 ⟨rfl, hb7⟩
    have HU_22 := Lib.hid (HU_20.out.below hb7)
    have KU_22 := Lib.hid ((hb7.block _ (heap_lt KU_20.out)).trans KU_20.out)
    have HB_22 := Lib.hid (below_more HB_20.out hb7)
    clear HU_20 KU_20 HB_20 hb7
    go_wp2_with fail
    refine (iNewGv _).mono ?_
    rintro e w23 ⟨v8, rfl, ho8, hb8⟩
    obtain ⟨A8, c8, rfl, hr8⟩ := ho8.form
    clear ho8
    have H8_0 := Lib.hid hr8
    clear hr8
    have HB_24 := Lib.hid (below_more HB_22.out hb8)
    clear HB_22 hb8
    go_wp2_with fail
    refine (sNewGv5 _).mono ?_
    rintro e w25 ⟨v9, rfl, ho9, hb9⟩
    obtain ⟨A9, c9, rfl, hr9⟩ := ho9.form
    clear ho9
    have H9_0 := Lib.hid hr9
    clear hr9
    have H8_26 := Lib.hid (H8_0.out.below hb9)
    have HB_26 := Lib.hid (below_more HB_24.out hb9)
    clear H8_0 HB_24 hb9
    have HQ := Lib.hid (sameGv_self 1 4 0 A8 A9 [] c8 c9 _ H8_26.out H9_0.out (by simp))
    go_wp2_with fail
    refine HQ.out.mono ?_
    rintro e wz ⟨rfl, hbz⟩
    have HBz := Lib.hid (below_more HB_26.out hbz)
    clear hbz
    go_wp2_with fail
    go_ret
    exact ⟨rfl, HBz.out⟩
  · have h40 : L.length ≤ 40 := by simpa using hok
    obtain ⟨hgood, hbl, hgv⟩ := HM.out h40
    obtain ⟨⟨g1, g2⟩, ⟨g3, g4⟩, g5, ⟨g6, g7⟩, hris, g9⟩ := gvr_ok hgood
    clear HM hok
    have HGv := Lib.hid hgv
    have HRis := Lib.hid hris
    have hrl := ris_lenG hris g6
    have HBl := Lib.hid hbl
    have hll : loI n a s zs = n - 1 - (zs.length : Int) := by rw [loI, if_pos hgood]
    clear hgv hris hbl
    have cKG0 : w13.cell? ⟨w3.heap.size, 0, none⟩ = some (.int .i64 n) := cell_of_row _ _ 0 _ _ _ KG_14.out
    have cKG1 : w13.cell? ⟨w3.heap.size, 1, none⟩ = some (.int .i64 a) := cell_of_row _ _ 1 _ _ _ KG_14.out
    have cKG2 : w13.cell? ⟨w3.heap.size, 2, none⟩ = some (.int .i64 s) := cell_of_row _ _ 2 _ _ _ KG_14.out
    have cKG3 : w13.cell? ⟨w3.heap.size, 3, none⟩ = some (.slice Ag zs.length cg) := cell_of_row _ _ 3 _ _ _ KG_14.out
    go_wp2_with fail
    clear cKG0 cKG1 cKG2 cKG3
    go_loopg [62, 12] L.length (fun gk i gg wr => ∃ j : Nat, j + gk = L.length ∧ i = .int .i64 j ∧ gg = .int .i64 ((gvs (bs.take j) (L.take j) : Nat) : Int) ∧ Below w13.heap.size w13 wr)
    case atStart => exact ⟨0, by omega, rfl, rfl, Below.refl _ _⟩
    case round =>
      obtain ⟨j, hgk, rfl, rfl, hbel⟩ := hrel
      have HBel := Lib.hid hbel
      clear hbel
      by_cases hlt : j < L.length
      case pos =>
        have hji : (j : Int) < (L.length : Int) := by omega
        have hjb : j < bs.length := by have := HBl.out; omega
        obtain ⟨b1, o1, rfl, q0, q1⟩ := Id_at (HL_14.out.below HBel.out) hlt
        obtain ⟨b2, o2, rfl, q2⟩ := bols_at (HD_14.out.below HBel.out) hjb
        have HSn := Lib.hid (gvs_snoc HBl.out hlt)
        have hgl := gvs_le (bs.take j) (L.take j)
        rw [List.length_take] at hgl
        obtain ⟨⟨k, p⟩, hx⟩ : ∃ x, L[j] = x := ⟨_, rfl⟩
        rw [hx] at q0 q1 HSn
        obtain ⟨b, hb⟩ : ∃ b, bs[j] = b := ⟨_, rfl⟩
        rw [hb] at q2 HSn
        clear hx hb
        have HGK : Hid (L.length - j - 1 < gk ∧ j + 1 + (L.length - j - 1) = L.length) := by show _ ∧ _; omega
        obtain ⟨Q, hQ⟩ : ∃ Q, gvs (bs.take j) (L.take j) = Q := ⟨_, rfl⟩
        rw [hQ] at HSn hgl ⊢
        clear hQ hgk
        obtain ⟨ws, hws⟩ : ∃ ws, wr.alloc (.cells #[.int .i64 k, .bool p] 34) = ws := ⟨_, rfl⟩
        have hbs : Below wr.heap.size wr ws := by rw [← hws]; exact gAlloc _ _
        have G2 : ws.heap[wr.heap.size]? = some (.cells #[.int .i64 k, .bool p] 34 (0, 0)) := by rw [← hws]; exact heap_alloc_new _ _
        have v0 : ws.cell? ⟨wr.heap.size, 0, none⟩ = some (.int .i64 k) := cell_of_row _ _ 0 _ _ _ G2
        have q2' : ws.cell? ⟨b2, o2 + j, none⟩ = some (.bool b) := cell_in hbs q2
        have HBs := Lib.hid (below_more HBel.out hbs)
        clear hbs G2
        have hQ1 : (Q : Int) ≤ 100 := by omega
        have hjl : (j : Int) < (bs.length : Int) := by omega
        cases b
        · have HSn' : Hid (gvs (bs.take (j + 1)) (L.take (j + 1)) = Q) := by show _ = _; rw [HSn.out]; simp
          clear HSn
          go_wp2_with fail
          go_roundg (L.length - j - 1)
          case measure => exact HGK.out.1
          case rel => exact ⟨j + 1, HGK.out.2, by go_num, by rw [HSn'.out], HBs.out⟩
        · by_cases hk : k = 1
          · have HSn' : Hid (gvs (bs.take (j + 1)) (L.take (j + 1)) = Q + 1) := by show _ = _; rw [HSn.out, hk]; simp
            subst hk
            clear HSn
            go_wp2_with fail
            go_roundg (L.length - j - 1)
            case measure => exact HGK.out.1
            case rel => exact ⟨j + 1, HGK.out.2, by go_num, by rw [HSn'.out]; go_num, HBs.out⟩
          · have hkb : (k == 1) = false := by simpa using hk
            have HSn' : Hid (gvs (bs.take (j + 1)) (L.take (j + 1)) = Q) := by show _ = _; rw [HSn.out]; simp [hk]
            clear HSn
            go_wp2_with fail
            go_roundg (L.length - j - 1)
            case measure => exact HGK.out.1
            case rel => exact ⟨j + 1, HGK.out.2, by go_num, by rw [HSn'.out], HBs.out⟩
      obtain rfl : j = L.length := by omega
      have hji : ¬ (L.length : Int) < (L.length : Int) := by omega
      rw [List.take_of_length_le (Nat.le_refl _), List.take_of_length_le (show bs.length ≤ L.length by have := HBl.out; omega), HGv.out]
      clear hgk hlt HBl HGv
      have hbq := HBel.out
      clear HBel
      have HG_15 := Lib.hid (HG_14.out.below hbq)
      have KG_15 := Lib.hid ((hbq.block _ (heap_lt KG_14.out)).trans KG_14.out)
      have HB_15 := Lib.hid (below_more HB_14.out hbq)
      clear HG_14 KG_14 HB_14 hbq
      have HI3 := Lib.hid (fun w h => iLost11 n a s Ag zs cg w h (by omega) (by omega))
      have HI4 := Lib.hid (fun w h => iGoodG n a s Ag zs cg w h (by omega) (by omega))
      rw [hgood, hll] at HI3
      rw [hgood] at HI4
      clear hgood hll
      have cKG0 : wr.cell? ⟨w3.heap.size, 0, none⟩ = some (.int .i64 n) := cell_of_row _ _ 0 _ _ _ KG_15.out
      have cKG1 : wr.cell? ⟨w3.heap.size, 1, none⟩ = some (.int .i64 a) := cell_of_row _ _ 1 _ _ _ KG_15.out
      have cKG2 : wr.cell? ⟨w3.heap.size, 2, none⟩ = some (.int .i64 s) := cell_of_row _ _ 2 _ _ _ KG_15.out
      have cKG3 : wr.cell? ⟨w3.heap.size, 3, none⟩ = some (.slice Ag zs.length cg) := cell_of_row _ _ 3 _ _ _ KG_15.out
      go_wp2_with fail
      clear cKG0 cKG1 cKG2 cKG3
      refine (HI3.out _ HG_15.out).mono ?_
      rintro e w16 ⟨rfl, hb6⟩
      have HG_17 := Lib.hid (HG_15.out.below hb6)
      have KG_17 := Lib.hid ((hb6.block _ (heap_lt KG_15.out)).trans KG_15.out)
      have HB_17 := Lib.hid (below_more HB_15.out hb6)
      clear HG_15 KG_15 HB_15 hb6
      have cKG0 : w16.cell? ⟨w3.heap.size, 0, none⟩ = some (.int .i64 n) := cell_of_row _ _ 0 _ _ _ KG_17.out
      have cKG1 : w16.cell? ⟨w3.heap.size, 1, none⟩ = some (.int .i64 a) := cell_of_row _ _ 1 _ _ _ KG_17.out
      have cKG2 : w16.cell? ⟨w3.heap.size, 2, none⟩ = some (.int .i64 s) := cell_of_row _ _ 2 _ _ _ KG_17.out
      have cKG3 : w16.cell? ⟨w3.heap.size, 3, none⟩ = some (.slice Ag zs.length cg) := cell_of_row _ _ 3 _ _ _ KG_17.out
      go_wp2_with fail
      clear cKG0 cKG1 cKG2 cKG3
      refine (HI4.out _ HG_17.out).mono ?_
      rintro e w18 ⟨rfl, hb7⟩
      have HG_19 := Lib.hid (HG_17.out.below hb7)
      have KG_19 := Lib.hid ((hb7.block _ (heap_lt KG_17.out)).trans KG_17.out)
      have HB_19 := Lib.hid (below_more HB_17.out hb7)
      clear HG_17 KG_17 HB_17 hb7
      have hnn : ¬ n - 1 - (zs.length : Int) < 0 := by omega
      have hz60i : (zs.length : Int) ≤ 60 := by omega
      have cKG0 : w18.cell? ⟨w3.heap.size, 0, none⟩ = some (.int .i64 n) := cell_of_row _ _ 0 _ _ _ KG_19.out
      have cKG1 : w18.cell? ⟨w3.heap.size, 1, none⟩ = some (.int .i64 a) := cell_of_row _ _ 1 _ _ _ KG_19.out
      have cKG2 : w18.cell? ⟨w3.heap.size, 2, none⟩ = some (.int .i64 s) := cell_of_row _ _ 2 _ _ _ KG_19.out
      have cKG3 : w18.cell? ⟨w3.heap.size, 3, none⟩ = some (.slice Ag zs.length cg) := cell_of_row _ _ 3 _ _ _ KG_19.out
      go_wp2_with fail
      clear cKG0 cKG1 cKG2 cKG3
      go_loopg [105] zs.length (fun gk i wr2 => ∃ j : Nat, j + gk = zs.length ∧ i = .int .i64 j ∧ w18 = wr2)
      case atStart => exact ⟨0, by omega, rfl, rfl⟩
      case round =>
        obtain ⟨j, hgk, rfl, rfl⟩ := hrel
        by_cases hlt : j < zs.length
        case pos =>
          have hji : (j : Int) < (zs.length : Int) := by omega
          obtain ⟨b1, o1, rfl, hq⟩ := ints_at11 HG_19.out hlt
          obtain ⟨e1, e2, e3⟩ := ris_atG HRis.out j hlt
          have q0 := hq j hlt
          have HGK : Hid (zs.length - j - 1 < gk ∧ j + 1 + (zs.length - j - 1) = zs.length) := by show _ ∧ _; omega
          have hgt : ¬ s < zs[j] := by omega
          clear hgk
          have cKG0 : w18.cell? ⟨w3.heap.size, 0, none⟩ = some (.int .i64 n) := cell_of_row _ _ 0 _ _ _ KG_19.out
          have cKG1 : w18.cell? ⟨w3.heap.size, 1, none⟩ = some (.int .i64 a) := cell_of_row _ _ 1 _ _ _ KG_19.out
          have cKG2 : w18.cell? ⟨w3.heap.size, 2, none⟩ = some (.int .i64 s) := cell_of_row _ _ 2 _ _ _ KG_19.out
          have cKG3 : w18.cell? ⟨w3.heap.size, 3, none⟩ = some (.slice (some ⟨b1, o1, none⟩) zs.length cg) := cell_of_row _ _ 3 _ _ _ KG_19.out
          cases j with
          | zero =>
            generalize zs[0] = x at *
            have q0' : w18.cell? ⟨b1, o1, none⟩ = some (.int .i64 x) := by simpa using q0
            clear hq e3
            go_wp2_with fail
            go_roundg (zs.length - 0 - 1)
            case measure => exact HGK.out.1
            case rel => exact ⟨0 + 1, HGK.out.2, by go_num, rfl⟩
          | succ j =>
            have q1 := hq j (by omega)
            have e4 : zs[j] < zs[j + 1] := e3 (by omega)
            have e5 : ¬ zs[j + 1] ≤ zs[j] := by omega
            have hsub : ((j + 1 : Nat) : Int) - 1 = (j : Int) := by omega
            have hj0 : (0 : Int) < ((j + 1 : Nat) : Int) := by omega
            have hj1 : (j : Int) < (zs.length : Int) := by omega
            generalize zs[j + 1] = x at *
            generalize zs[j] = y at *
            clear hq e3
            go_wp2_with fail
            go_roundg (zs.length - (j + 1) - 1)
            case measure => exact HGK.out.1
            case rel => exact ⟨j + 1 + 1, HGK.out.2, by go_num, rfl⟩
        obtain rfl : j = zs.length := by omega
        have hji : ¬ (zs.length : Int) < (zs.length : Int) := by omega
        clear hgk hlt HRis HI3 HI4
        go_wp2_with fail
        refine (drawLost11 B zb cb _ (byts_on11 HBy.out HB_19.out)).mono ?_
        rintro e w20 ⟨nu, au, su, vu, zu, rfl, hdu⟩
        obtain ⟨Au, cu, rfl, hru⟩ := hdu.own.form
        have hlu := hdu.len
        have hsu := hdu.sure
        have hbu := hdu.below
        clear hdu
        have HU_0 := Lib.hid hru
        clear hru
        have HB_21 := Lib.hid (below_more HB_19.out hbu)
        clear HB_19 hbu
        obtain ⟨w22, hw22⟩ : ∃ wn, w20.alloc (.cells #[.int .i64 nu, .int .i64 au, .int .i64 su, .slice Au zu.length cu] 27) = wn := ⟨_, rfl⟩
        have hbx22 : Below w20.heap.size w20 w22 := by rw [← hw22]; exact gAlloc _ _
        have KU_220 : Hid (w22.heap[w20.heap.size]? = some (.cells #[.int .i64 nu, .int .i64 au, .int .i64 su, .slice Au zu.length cu] 27 (0, 0))) := by rw [← hw22]; exact heap_alloc_new _ _
        have HU_23 := Lib.hid (HU_0.out.below hbx22)
        have HB_23 := Lib.hid (below_more HB_21.out hbx22)
        clear HU_0 HB_21 hbx22
        have HI1 := Lib.hid (fun w h => iLost11 nu au su Au zu cu w h (by omega) (by omega))
        have HI2 := Lib.hid (fun w h => sLost nu au su Au zu cu w h (by omega))
        generalize loI nu au su zu = lo at *
        generalize goodGB nu au su zu = gb at *
        have cKU0 : w22.cell? ⟨w20.heap.size, 0, none⟩ = some (.int .i64 nu) := cell_of_row _ _ 0 _ _ _ KU_220.out
        have cKU1 : w22.cell? ⟨w20.heap.size, 1, none⟩ = some (.int .i64 au) := cell_of_row _ _ 1 _ _ _ KU_220.out
        have cKU2 : w22.cell? ⟨w20.heap.size, 2, none⟩ = some (.int .i64 su) := cell_of_row _ _ 2 _ _ _ KU_220.out
        have cKU3 : w22.cell? ⟨w20.heap.size, 3, none⟩ = some (.slice Au zu.length cu) := cell_of_row _ _ 3 _ _ _ KU_220.out
        go_wp2_with fail
        clear cKU0 cKU1 cKU2 cKU3 hw22
        refine (HI1.out _ HU_23.out).mono ?_
        rintro e w24 ⟨rfl, hb6⟩
        have HU_25 := Lib.hid (HU_23.out.below hb6)
        have KU_25 := Lib.hid ((hb6.block _ (heap_lt KU_220.out)).trans KU_220.out)
        have HB_25 := Lib.hid (below_more HB_23.out hb6)
        clear HU_23 KU_220 HB_23 hb6
        have cKU0 : w24.cell? ⟨w20.heap.size, 0, none⟩ = some (.int .i64 nu) := cell_of_row _ _ 0 _ _ _ KU_25.out
        have cKU1 : w24.cell? ⟨w20.heap.size, 1, none⟩ = some (.int .i64 au) := cell_of_row _ _ 1 _ _ _ KU_25.out
        have cKU2 : w24.cell? ⟨w20.heap.size, 2, none⟩ = some (.int .i64 su) := cell_of_row _ _ 2 _ _ _ KU_25.out
        have cKU3 : w24.cell? ⟨w20.heap.size, 3, none⟩ = some (.slice Au zu.length cu) := cell_of_row _ _ 3 _ _ _ KU_25.out
        go_wp2_with fail
        clear cKU0 cKU1 cKU2 cKU3
        refine (HI2.out _ HU_25.out).mono ?_
        rintro e w26 ⟨rfl, hb7⟩
        have HU_27 := Lib.hid (HU_25.out.below hb7)
        have KU_27 := Lib.hid ((hb7.block _ (heap_lt KU_25.out)).trans KU_25.out)
        have HB_27 := Lib.hid (below_more HB_25.out hb7)
        clear HU_25 KU_25 HB_25 hb7
        go_wp2_with fail
        refine (iNewGv _).mono ?_
        rintro e w28 ⟨v8, rfl, ho8, hb8⟩
        obtain ⟨A8, c8, rfl, hr8⟩ := ho8.form
        clear ho8
        have H8_0 := Lib.hid hr8
        clear hr8
        have HB_29 := Lib.hid (below_more HB_27.out hb8)
        clear HB_27 hb8
        go_wp2_with fail
        refine (sNewGv5 _).mono ?_
        rintro e w30 ⟨v9, rfl, ho9, hb9⟩
        obtain ⟨A9, c9, rfl, hr9⟩ := ho9.form
        clear ho9
        have H9_0 := Lib.hid hr9
        clear hr9
        have H8_31 := Lib.hid (H8_0.out.below hb9)
        have HB_31 := Lib.hid (below_more HB_29.out hb9)
        clear H8_0 HB_29 hb9
        have HQ := Lib.hid (sameGv_self 1 4 0 A8 A9 [] c8 c9 _ H8_31.out H9_0.out (by simp))
        go_wp2_with fail
        refine HQ.out.mono ?_
        rintro e wz ⟨rfl, hbz⟩
        have HBz := Lib.hid (below_more HB_31.out hbz)
        clear hbz
        go_wp2_with fail
        go_ret
        exact ⟨rfl, HBz.out⟩
end Go.Proofs.Ytbegikjoialahaa
