/-
  The model of chapter 8: MendLines.
-/
import Derived.Test.YtipcdaiobfgkeaaKO
namespace Go.Proofs.Ytipcdaiobfgkeaa
open Go.RowKit

/-- A slice as a call has one: none, or somewhere in a block. -/
def Lies8 (A : Option Addr) (ca : Nat) : Prop := (A = none ∧ ca = 0) ∨ ∃ b o, A = some ⟨b, o, none⟩
theorem ris_nat {c : Nat} : ∀ {zs : List Int} {l : Int}, 0 ≤ l → risB l (c : Int) zs = true → ∃ K : List Nat, zs = zI K ∧ K.Pairwise (· < ·) ∧ (∀ k ∈ K, k < c) ∧ ∀ k ∈ K, l ≤ (k : Int)
  | [], l, _, _ => ⟨[], rfl, List.Pairwise.nil, (fun k hk => by cases hk), (fun k hk => by cases hk)⟩
  | z :: zs, l, hl, h => by
    have hin := risB_in h z (by simp)
    have h0 : risB (z + 1) (c : Int) zs = true := by
      have e := risB_yes (l := l) (c := (c : Int)) (zs := z :: zs) (j := 0) (by simp) hin.1 hin.2
      simp only [List.drop_zero, List.getElem_cons_zero, Nat.zero_add, List.drop_succ_cons] at e
      rw [← e]; exact h
    obtain ⟨K, rfl, hr, hk, hlow⟩ := ris_nat (show 0 ≤ z + 1 by omega) h0
    obtain ⟨k, rfl⟩ := Int.eq_ofNat_of_zero_le (show 0 ≤ z by omega)
    refine ⟨k :: K, rfl, List.pairwise_cons.2 ⟨fun j hj => by have := hlow j hj; omega, hr⟩, fun j hj => ?_, fun j hj => ?_⟩
    · rcases List.mem_cons.1 hj with rfl | hj
      · omega
      · exact hk j hj
    · rcases List.mem_cons.1 hj with rfl | hj
      · exact hin.1
      · have := hlow j hj; omega
def mdPreB (zs : List Int) (n : Int) (ps ks : List Int) : Bool := list8 zs n && (decide ((ps.length : Int) = n) && (allIn ps 255 && risB 0 (zs.length : Int) ks))
def mdN (zs : List Int) (n : Int) (ps ks : List Int) : Option (List Nat) := if mdPreB zs n ps ks = true then mend8 (zs.length / n.toNat) (ps.map Int.toNat) (zs.map Int.toNat) (-1) (ks.map Int.toNat) else none
def mdI (zs : List Int) (n : Int) (ps ks : List Int) : List Int := zI ((mdN zs n ps ks).getD [])
def mdOkB (zs : List Int) (n : Int) (ps ks : List Int) : Bool := (mdN zs n ps ks).isSome
theorem md_not {zs : List Int} {n : Int} {ps ks : List Int} (h : mdPreB zs n ps ks = false) : mdI zs n ps ks = [] ∧ mdOkB zs n ps ks = false := by
  have e : mdN zs n ps ks = none := by rw [mdN, h]; rfl
  rw [mdI, mdOkB, e]; exact ⟨rfl, rfl⟩
theorem all8_nat {zs : List Int} (h : allIn zs 255 = true) : ∃ L : List Nat, zs = zI L ∧ ∀ c ∈ L, c < 256 := by
  have hz : ∀ z ∈ zs, 0 ≤ z ∧ z ≤ 255 := fun z hz => by
    have := List.all_eq_true.1 h z hz
    simpa [inB] using this
  refine ⟨zs.map Int.toNat, ?_, fun c hc => ?_⟩
  · unfold zI
    rw [List.map_map]
    conv => lhs; rw [← List.map_id zs]
    refine List.map_congr_left fun z hzm => ?_
    have := hz z hzm
    simp; omega
  · obtain ⟨z, hzm, rfl⟩ := List.mem_map.1 hc
    have := hz z hzm
    omega
theorem md_nat {zs : List Int} {n : Int} {ps ks : List Int} (h : mdPreB zs n ps ks = true) : ∃ (L S K : List Nat) (per m : Nat), zs = zI L ∧ n = m ∧ ps = zI S ∧ ks = zI K ∧ L.length = per * m ∧ 1 ≤ m ∧ m ≤ 10 ∧ L.length ≤ 60 ∧ (∀ c ∈ L, c < 256) ∧ S.length = m ∧ (∀ c ∈ S, c < 256) ∧ K.Pairwise (· < ·) ∧ (∀ k ∈ K, k < L.length) ∧ mdN zs n ps ks = mend8 per S L (-1) K := by
  have h' := h
  simp only [mdPreB, Bool.and_eq_true, decide_eq_true_eq] at h'
  obtain ⟨h1, h2, h3, h4⟩ := h'
  obtain ⟨L, per, m, rfl, hL, rfl, hm1, hm10, h60, hLb⟩ := list8_nat h1
  obtain ⟨S, rfl, hSb⟩ := all8_nat h3
  rw [zI_length] at h2 h4
  obtain ⟨K, rfl, hr, hk, _⟩ := ris_nat (Int.le_refl 0) h4
  refine ⟨L, S, K, per, m, rfl, rfl, rfl, rfl, hL, hm1, hm10, by omega, hLb, by omega, hSb, hr, hk, ?_⟩
  rw [mdN, if_pos h, zI8_back, zI8_back, zI8_back, zI_length, Int.toNat_natCast, hL, Nat.mul_div_cancel _ (by omega)]
theorem mdI_len (zs : List Int) (n : Int) (ps ks : List Int) : (mdI zs n ps ks).length ≤ 60 := by
  cases h : mdPreB zs n ps ks
  · rw [(md_not h).1]; simp
  · obtain ⟨L, S, K, per, m, rfl, rfl, rfl, rfl, hL, hm1, hm10, h60, hLb, hS, hSb, hr, hk, e⟩ := md_nat h
    rw [mdI, e, zI_length]
    cases hm : mend8 per S L (-1) K with
    | none => simp
    | some R => rw [Option.getD_some, mend8_length hm]; exact h60
theorem own8_block {w : World} {base : Nat} {v : Value} {l : List Nat} (h : Own w base v (zI l)) (h0 : 0 < l.length) : ∃ g cap, v = .slice (some ⟨g, 0, none⟩) l.length cap ∧ l.length ≤ cap ∧ base ≤ g := by
  obtain ⟨A, c, e, hc, _⟩ := gFormC h
  rcases h.2 with ⟨_, hn⟩ | ⟨g, cap, cur, e', _⟩
  · rw [zI_length] at hn; omega
  · rw [zI_length] at e hc
    have hgl := (h.lt g (by rw [e']; rfl)).1
    rw [e'] at e
    injection e with e1 e2 e3
    subst e1; subst e3
    rw [zI_length] at e'
    exact ⟨g, cap, e', hc, hgl⟩
theorem own8_ints {w : World} {base : Nat} {A : Option Addr} {n c : Nat} {zs : List Int} (h : Own w base (.slice A n c) zs) : Ints w A zs := by
  obtain ⟨A', c', e, hI⟩ := h.form
  injection e with e1
  subst e1; exact hI
set_option maxRecDepth 100000 in
set_option maxHeartbeats 4000000 in
theorem sMend_loop (L S K : List Nat) (A B C : Option Addr) (ca cb cc per m : Nat) (w : World) (ha : Ints w A (zI L)) (hA : Lies8 A ca) (hb : Ints w B (zI S)) (hc : Ints w C (zI K))
    (hL : L.length = per * m) (hm1 : 1 ≤ m) (hm10 : m ≤ 10) (h60 : L.length ≤ 60) (hLb : ∀ c ∈ L, c < 256) (hS : S.length = m) (hSb : ∀ c ∈ S, c < 256) (hKl : K.length ≤ 1048576) (hk : ∀ k ∈ K, k < L.length)
    (HG : Hid (Calls Try.prog 40 #[.slice A L.length ca, .int .i64 m] w fun e w' => e = .returned (.bool true) ∧ w = w'))
    (HAl : Hid (Calls Try.prog 53 #[.slice B m cb, .int .i64 0, .int .i64 255] w fun e w' => e = .returned (.bool true) ∧ w = w'))
    (HRi : Hid (Calls Try.prog 54 #[.slice C K.length cc, .int .i64 0, .int .i64 ((L.length : Int) - 1)] w fun e w' => e = .returned (.bool true) ∧ w = w')) :
    Calls Try.prog 28 #[.slice A L.length ca, .int .i64 m, .slice B m cb, .slice C K.length cc] w fun e w' => ∃ v, e = .returned (.tuple #[v, .bool (mend8 per S L (-1) K).isSome]) ∧ Own w' w.heap.size v (zI ((mend8 per S L (-1) K).getD [])) ∧ Below w.heap.size w w' := by
  have HA := Lib.hid ha
  have HB := Lib.hid hb
  have HC := Lib.hid hc
  have HLb := Lib.hid hLb
  have HSb := Lib.hid hSb
  have HSl := Lib.hid hS
  have HKb := Lib.hid hk
  have HL := Lib.hid hL
  have hp60 : per ≤ 60 := Nat.le_trans (Nat.le_mul_of_pos_right per (by omega)) (hL ▸ h60)
  have hqq : (L.length : Int) / (m : Int) = (per : Int) := by rw [hL, ← Int.natCast_ediv, Nat.mul_div_cancel _ (by omega)]
  have HPer : Hid (∀ k, k < L.length → 1 ≤ per ∧ k / per < m) := fun k hk => by
    rw [hL] at hk
    exact ⟨by rcases Nat.eq_zero_or_pos per with rfl | h; (· simp at hk); exact h, Nat.div_lt_of_lt_mul hk⟩
  obtain ⟨i0, hi, hz0, hz1, hz2⟩ := info_parts intInfo
  have HO0 := Lib.hid (own_lit0 w)
  have HB0 := Lib.hid (jAlloc1f w)
  have hmm : ((m : Int) != (m : Int)) = false := by simp
  clear ha hb hc hLb hSb hS hk hL
  rcases hA with ⟨rfl, rfl⟩ | ⟨b0, o0, rfl⟩
  · have hL0 : L = [] := by
      cases L with
      | nil => rfl
      | cons x l =>
        obtain ⟨b, o, e, _⟩ := HA.out (by simp [zI])
        cases e
    subst hL0
    have hK0 : K = [] := by
      cases K with
      | nil => rfl
      | cons k l => have := HKb.out k (by simp); simp at this
    subst hK0
    clear HPer hqq
    go_enter Try.func28, Try.ntmps28
    go_wp2_with (first
      | (go_at_call 40; refine HG.out.mono ?_; rintro e w' ⟨rfl, rfl⟩)
      | (go_at_call 53; refine HAl.out.mono ?_; rintro e w' ⟨rfl, rfl⟩)
      | (go_at_call 54; refine HRi.out.mono ?_; rintro e w' ⟨rfl, rfl⟩)
      | (at_builtin; refine wpList_append_own_none rfl _ _ 23 rfl w.heap.size 3 i0 1 Try.underlying23 hi _ 0 [] rfl HO0.out rfl ?_))
    go_loopg [43] 0 (fun gk i wr => gk = 0 ∧ i = .int .i64 0 ∧ w.alloc (.cells #[] 3) = wr)
    case atStart => exact ⟨rfl, rfl, rfl⟩
    case round =>
      obtain ⟨_, rfl, rfl⟩ := hrel
      go_wp2_with fail
      go_ret2
      exact ⟨_, rfl, HO0.out, HB0.out⟩
  · have HCl : Hid (∀ j, j < L.length → w.cell? ⟨b0, o0 + j, none⟩ = some (.int .i64 ((L.getD j 0 : Nat) : Int)) ∧ b0 < w.heap.size) := fun j hj => by
      obtain ⟨b, o, e, hcell⟩ := HA.out (by intro e; have := congrArg List.length e; rw [zI_length, List.length_nil] at this; omega)
      injection e with e
      injection e with e1 e2
      subst e1; subst e2
      have h1 := hcell j (by rw [zI_length]; exact hj)
      refine ⟨?_, World.block_lt_of_cell? _ _ h1⟩
      rw [h1, zI_getD]
    go_enter Try.func28, Try.ntmps28
    go_wp2_with (first
      | (go_at_call 40; refine HG.out.mono ?_; rintro e w' ⟨rfl, rfl⟩)
      | (go_at_call 53; refine HAl.out.mono ?_; rintro e w' ⟨rfl, rfl⟩)
      | (go_at_call 54; refine HRi.out.mono ?_; rintro e w' ⟨rfl, rfl⟩)
      | (at_builtin; refine app_cnt (w.alloc (.cells #[] 3)) w.heap.size _ [] L L.length rfl b0 o0 ca rfl _ _ rfl rfl rfl (fun j hj => ((HB0.out).cell (HCl.out j hj).2).trans (HCl.out j hj).1) HO0.out (by simp) (by simp) (by omega) w HB0.out ?_))
    intro v1 w1 H1
    have HO1 : Hid (Own w1 w.heap.size v1 (zI L)) := H1.out.1
    have HB1 := Lib.hid H1.out.2.1
    clear H1 HO0 HB0 HCl
    go_wp2_with fail
    go_loopg [11, 43] K.length (fun gk was i wr => ∃ (j : Nat) (O : List Nat) (wz : Int), j + gk = K.length ∧ was = .int .i64 wz ∧ i = .int .i64 j ∧ Own wr w.heap.size v1 (zI O) ∧ O.length = L.length ∧ (∀ c ∈ O, c < 256) ∧ mend8 per S O wz (K.drop j) = mend8 per S L (-1) K ∧ -1 ≤ wz ∧ wz ≤ 60 ∧ Below w.heap.size w wr)
    case atStart => exact ⟨0, L, -1, by omega, rfl, rfl, HO1.out, rfl, HLb.out, rfl, by omega, by omega, HB1.out⟩
    case round =>
      obtain ⟨j, O, wz, hg, rfl, rfl, hown, hOl, hOb, hmd, hw0, hw1, hbel⟩ := hrel
      have HO := Lib.hid hown
      have HBl := Lib.hid hbel
      have HOb := Lib.hid hOb
      have HMd := Lib.hid hmd
      have HOl := Lib.hid hOl
      clear hown hbel hOb hmd hOl HO1 HB1
      by_cases hlt : j < K.length
      · have hji : (j : Int) < (K.length : Int) := by omega
        have HGK : Hid (K.length - j - 1 < gk ∧ j + 1 + (K.length - j - 1) = K.length) := by show _ ∧ _; omega
        obtain ⟨b3, o3, rfl, hc3⟩ := (HC.out.below HBl.out).cellN hlt
        have hkk := HKb.out K[j] (List.getElem_mem hlt)
        obtain ⟨hper, hqm⟩ := HPer.out K[j] hkk
        have hdd : (K[j] : Int) / (per : Int) = ((K[j] / per : Nat) : Int) := by rw [Int.natCast_ediv]
        rw [List.drop_eq_getElem_cons hlt, mend8] at HMd
        generalize K[j] = kk at *
        generalize kk / per = q at *
        have hqS : q < S.length := by rw [HSl.out]; exact hqm
        have HSq : Hid (S.getD q 0 = S[q]) := by show _ = _; simp [List.getD, hqS]
        by_cases hq : (q : Int) = wz
        · rw [if_pos hq] at HMd
          subst hq
          have HN : Hid ((mend8 per S L (-1) K).isSome = false ∧ (mend8 per S L (-1) K).getD [] = []) := by show _ ∧ _; rw [← HMd.out]; exact ⟨rfl, rfl⟩
          clear hg HSq HMd hqS
          go_wp2_with fail
          go_ret2
          exact ⟨_, by rw [HN.out.1]; rfl, by rw [HN.out.2]; exact Own.nil _ _, HBl.out⟩
        · rw [if_neg hq, HOl.out] at HMd
          have hOk : kk < O.length := by rw [HOl.out]; exact hkk
          obtain ⟨g, cap, hv, hcap, hlow⟩ := own8_block HO.out (by omega)
          rw [HOl.out] at hv hcap
          subst hv
          obtain ⟨q1, f1, -, -⟩ := own8_at HO.out hOk
          have hp1 := own8_put HO.out (j := kk) 0
          have hO2 := hp1.1
          rw [show (0 : Int) = ((0 : Nat) : Int) from rfl, ← zI8_set] at hO2
          have HO2 := Lib.hid hO2
          have HB2 := Lib.hid (gGrown HBl.out HBl.out.size hp1.2 hlow)
          have hqn : ((q : Int) == wz) = false := by simp [hq]
          have HX2 : Hid (∀ c ∈ O.set kk 0, c < 256) := fun c hc => by
            rcases List.mem_or_eq_of_mem_set hc with hc | rfl
            · exact HOb.out c hc
            · omega
          have HOl2 : Hid ((O.set kk 0).length = L.length) := by show _ = _; rw [List.length_set]; exact HOl.out
          have HPa := Lib.hid (fun w' h => sParity8 (some ⟨g, 0, none⟩) (O.set kk 0) cap per m w' h (HOl2.out.trans HL.out) hm1 hm10 (by rw [HOl2.out]; exact h60) HX2.out)
          rw [HOl2.out] at HPa
          generalize O[kk] = y0 at *
          obtain ⟨b2, o2, rfl, hc0⟩ := HB.out.cellN hqS
          have hb2 := World.block_lt_of_cell? _ _ hc0
          have hc2 := (HB2.out.cell hb2).trans hc0
          clear hc0
          have hsb := HSb.out S[q] (List.getElem_mem hqS)
          rw [HSq.out] at HMd
          generalize S[q] = s at *
          clear hO2 hp1 hg hq hqS HSq
          go_wp2_with fail
          generalize wr.setCell ⟨g, kk, none⟩ (.int .i64 0) = w2 at *
          have hPl : q < (par8 per m (O.set kk 0) L.length).length := by rw [par8_length]; exact hqm
          have HPq : Hid ((par8 per m (O.set kk 0) L.length)[q] = lin8 per (O.set kk 0) q L.length) := by
            show _ = _
            rw [← par8_at hqm, List.getD, List.getElem?_eq_getElem hPl]; rfl
          have hyb : (par8 per m (O.set kk 0) L.length)[q] < 256 := par8_lt HX2.out _ _ (List.getElem_mem hPl)
          have HPl : Hid ((par8 per m (O.set kk 0) L.length).length = m) := par8_length _ _ _ _
          have hOk2 : kk < (O.set kk 0).length := by rw [List.length_set]; exact hOk
          have HXr := Lib.hid (xor_i64 (par8 per m (O.set kk 0) L.length)[q] s (by omega) (by omega))
          have HAt7 : Hid (∀ w7 g7 base n7 c7, Own w7 base (.slice (some ⟨g7, 0, none⟩) n7 c7) (zI (par8 per m (O.set kk 0) L.length)) → w7.cell? ⟨g7, q, none⟩ = some (.int .i64 ((par8 per m (O.set kk 0) L.length)[q] : Nat))) := fun w7 g7 base n7 c7 h => (own8_at h hPl).1
          generalize (par8 per m (O.set kk 0) L.length)[q] = y at *
          clear hOk q1 f1 hPl HBl HO
          have HPz : Hid (∀ {w7 : World} {base : Nat} {v7 : Value}, Own w7 base v7 (zI (par8 per m (O.set kk 0) L.length)) → ∃ g7 c7, v7 = .slice (some ⟨g7, 0, none⟩) m c7 ∧ w7.cell? ⟨g7, q, none⟩ = some (.int .i64 (y : Nat))) := fun {w7 base v7} h => by
            obtain ⟨g7, c7, e7, _, _⟩ := own8_block h (by rw [HPl.out]; omega)
            rw [HPl.out] at e7
            subst e7
            exact ⟨g7, c7, rfl, HAt7.out _ _ _ _ _ h⟩
          rw [← HPq.out] at HMd
          have HLn : Hid ((O.set kk (y ^^^ s)).length = L.length) := by show _ = _; rw [List.length_set]; exact HOl.out
          have HBn : Hid (∀ c ∈ O.set kk (y ^^^ s), c < 256) := fun c hc => by
            rcases List.mem_or_eq_of_mem_set hc with hc | rfl
            · exact HOb.out c hc
            · exact Nat.xor_lt_two_pow (n := 8) hyb hsb
          go_region_with (first
            | (go_at_call 55; refine (HPa.out _ ((own8_ints HO2.out).below gDrew)).mono ?_; rintro e w7 ⟨v7, rfl, ho7, hb7⟩; have r0 := (hb7.cell (World.block_lt_of_cell? _ _ hc2)).trans hc2; obtain ⟨g7, c7, rfl, r7⟩ := HPz.out ho7; have HO7 := Lib.hid ((HO2.out.below gDrew).below hb7); obtain ⟨q1, f1, -, -⟩ := own8_at HO7.out hOk2))
          all_goals
            have hp9 := own8_put HO7.out (j := kk) (bits .xor .i64 (y : Int) (s : Int))
            have HO9 : Hid (Own (w7.setCell ⟨g, kk, none⟩ (.int .i64 (bits .xor .i64 (y : Int) (s : Int)))) w.heap.size (.slice (some ⟨g, 0, none⟩) L.length cap) (zI (O.set kk (y ^^^ s)))) := by
              show Own _ _ _ _
              rw [zI8_set, ← HXr.out]
              have h := hp9.1
              rw [zI8_set, List.set_set] at h
              exact h
            have hB7 := below_more (below_more HB2.out gDrew) hb7
            have HB9 := Lib.hid (gGrown hB7 hB7.size hp9.2 hlow)
            clear hp9 hB7 hb7 ho7
            generalize w7.setCell ⟨g, kk, none⟩ (.int .i64 (bits .xor .i64 (y : Int) (s : Int))) = w9 at *
            clear q1 f1 r0 r7 hc2 hc3
            go_wp2_with fail
            go_roundg (K.length - j - 1)
            case measure => exact HGK.out.1
            case rel => exact ⟨j + 1, O.set kk (y ^^^ s), (q : Int), HGK.out.2, rfl, by go_num, HO9.out, HLn.out, HBn.out, HMd.out, by omega, by omega, HB9.out⟩
      · obtain rfl : j = K.length := by omega
        have hji : ¬ (K.length : Int) < (K.length : Int) := by omega
        obtain ⟨A1, c1, rfl, _⟩ := HO.out.form
        have HN : Hid (mend8 per S L (-1) K = some O) := by show _ = _; rw [← HMd.out]; simp [mend8]
        go_wp2_with fail
        go_ret2
        exact ⟨_, by rw [HN.out]; rfl, by rw [HN.out]; exact HO.out, HBl.out⟩
set_option maxRecDepth 100000 in
set_option maxHeartbeats 2000000 in
theorem sMend_any (A B C : Option Addr) (zs ps ks : List Int) (ca cb cc : Nat) (n : Int) (w : World) (ha : Ints w A zs) (hb : Ints w B ps) (hc : Ints w C ks) (hA : Lies8 A ca) (hl : zs.length ≤ 1048576) (hl2 : ps.length ≤ 1048576) (hl3 : ks.length ≤ 1048576) :
    Calls Try.prog 28 #[.slice A zs.length ca, .int .i64 n, .slice B ps.length cb, .slice C ks.length cc] w fun e w' => ∃ v, e = .returned (.tuple #[v, .bool (mdOkB zs n ps ks)]) ∧ Own w' w.heap.size v (mdI zs n ps ks) ∧ Below w.heap.size w w' := by
  have HG := Lib.hid (sList8 A zs ca n w ha hl)
  have HAl := Lib.hid (sAll B ps cb 255 w hb hl2)
  have HRi := Lib.hid (sRising C ks cc (zs.length : Int) w hc hl3)
  cases h : mdPreB zs n ps ks
  · have HE := Lib.hid (md_not h)
    rw [HE.out.2]
    clear ha hb hc hA
    cases h1 : list8 zs n
    · rw [h1] at HG
      clear h
      go_enter Try.func28, Try.ntmps28
      go_wp2_with (go_at_call 40; refine HG.out.mono ?_; rintro e w' ⟨rfl, rfl⟩)
      go_ret2
      exact ⟨_, rfl, by rw [HE.out.1]; exact Own.nil _ _, Below.refl _ _⟩
    · rw [h1] at HG
      by_cases h2 : (ps.length : Int) = n
      · have hn2 : ((ps.length : Int) != n) = false := by simp [h2]
        cases h3 : allIn ps 255
        · rw [h3] at HAl
          clear h h1 h2
          go_enter Try.func28, Try.ntmps28
          go_wp2_with (first
            | (go_at_call 40; refine HG.out.mono ?_; rintro e w' ⟨rfl, rfl⟩)
            | (go_at_call 53; refine HAl.out.mono ?_; rintro e w' ⟨rfl, rfl⟩))
          go_ret2
          exact ⟨_, rfl, by rw [HE.out.1]; exact Own.nil _ _, Below.refl _ _⟩
        · have h4 : risB 0 (zs.length : Int) ks = false := by
            rw [mdPreB, h1, h3] at h
            simpa [h2] using h
          rw [h3] at HAl
          rw [h4] at HRi
          clear h h1 h2 h4
          go_enter Try.func28, Try.ntmps28
          go_wp2_with (first
            | (go_at_call 40; refine HG.out.mono ?_; rintro e w' ⟨rfl, rfl⟩)
            | (go_at_call 53; refine HAl.out.mono ?_; rintro e w' ⟨rfl, rfl⟩)
            | (go_at_call 54; refine HRi.out.mono ?_; rintro e w' ⟨rfl, rfl⟩))
          go_ret2
          exact ⟨_, rfl, by rw [HE.out.1]; exact Own.nil _ _, Below.refl _ _⟩
      · have hn2 : ((ps.length : Int) != n) = true := by simp [h2]
        clear h h1 h2
        go_enter Try.func28, Try.ntmps28
        go_wp2_with (go_at_call 40; refine HG.out.mono ?_; rintro e w' ⟨rfl, rfl⟩)
        go_ret2
        exact ⟨_, rfl, by rw [HE.out.1]; exact Own.nil _ _, Below.refl _ _⟩
  · have h' := h
    simp only [mdPreB, Bool.and_eq_true, decide_eq_true_eq] at h'
    rw [h'.1] at HG
    rw [h'.2.2.1] at HAl
    rw [h'.2.2.2] at HRi
    clear h'
    obtain ⟨L, S, K, per, m, rfl, rfl, rfl, rfl, hL, hm1, hm10, h60, hLb, hS, hSb, hr, hk, e⟩ := md_nat h
    rw [zI_length] at HG HAl HRi
    rw [zI_length] at HRi
    rw [zI_length] at hl3
    rw [hS] at HAl
    rw [mdI, mdOkB, e, zI_length, zI_length, zI_length, hS]
    exact sMend_loop L S K A B C ca cb cc per m w ha hA hb hc hL hm1 hm10 h60 hLb hS hSb hl3 hk HG HAl HRi
end Go.Proofs.Ytipcdaiobfgkeaa
