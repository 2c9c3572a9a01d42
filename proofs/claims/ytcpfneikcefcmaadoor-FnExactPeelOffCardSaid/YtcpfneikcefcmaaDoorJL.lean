/-
  The model of chapter 5: PeelOff, walked.
-/
import Derived.Test.YtcpfneikcefcmaaDoorJK
namespace Go.Proofs.YtcpfneikcefcmaaDoor
open Go.RowKit

theorem results_tmp3 {fn : Func} {a b c : Tmp} (h : fn.results = #[.tmp a, .tmp b, .tmp c]) (tmps : Array Value) (P : Program) (w : World) :
    (results fn tmps).run P w = .ok (.tuple #[tmps.getD a undef, tmps.getD b undef, tmps.getD c undef]) w := by
  simp [results, h]
theorem cell_set_other (w : World) (a b : Addr) (v : Value) (h : b.block ≠ a.block) : (w.setCell a v).cell? b = w.cell? b := by
  have := heap_setCell_other w a b.block v h
  simp [World.cell?, this]
theorem frozen_set_other (w : World) (a b : Addr) (v : Value) (h : b.block ≠ a.block) : (w.setCell a v).frozen? b = w.frozen? b := by
  have := heap_setCell_other w a b.block v h
  simp [World.frozen?, this]
theorem peel1_none {n : Nat} {L : List (Nat × Nat)} {S : Know} (h : ∀ x ∈ L, stepS n S x = none) : peel1 n L S = none := by
  unfold peel1
  rw [List.findSome?_eq_none_iff]
  exact h
theorem peel1_some {n : Nat} {L : List (Nat × Nat)} {S S' : Know} {k : Nat} (hk : k < L.length) (h : ∀ x ∈ L.take k, stepS n S x = none) (h2 : stepS n S L[k] = some S') : peel1 n L S = some S' := by
  unfold peel1
  have e : L = L.take k ++ L[k] :: L.drop (k + 1) := by rw [List.getElem_cons_drop, List.take_append_drop]
  rw [e, List.findSome?_append, List.findSome?_eq_none_iff.2 h, Option.none_or, List.findSome?_cons]
  rw [h2]
theorem steps_more {n : Nat} {L : List (Nat × Nat)} {S : Know} {k : Nat} (hk : k < L.length) (h : ∀ x ∈ L.take k, stepS n S x = none) (h2 : stepS n S L[k] = none) : ∀ x ∈ L.take (k + 1), stepS n S x = none := fun x hx => by
  rw [List.take_succ_eq_append_getElem hk, List.mem_append, List.mem_singleton] at hx
  rcases hx with hx | rfl
  · exact h x hx
  · exact h2
theorem intL_at {L : List (Nat × Nat)} {k : Nat} (h : k < (intL L).length) : (intL L)[k] = (((L[k]'(by rw [intL_length] at h; exact h)).1 : Int), ((L[k]'(by rw [intL_length] at h; exact h)).2 : Int)) := by simp [intL]

set_option maxRecDepth 100000 in
set_option maxHeartbeats 8000000 in
theorem sPeel (n : Nat) (A : Option Addr) (L : List (Nat × Nat)) (ca : Nat) (w : World) (ha : Lets w A (intL L)) (hn1 : 1 ≤ n) (hn8 : n ≤ 8) (hL : L.length ≤ 40) (hx : ∀ x ∈ L, x.1 ≤ 999 ∧ x.2 < 2 ^ 32) (hca : L.length ≤ ca) (hgood : goodLB n (intL L) = true) :
    Calls Tryd.prog 8 #[.int .i64 n, .slice A L.length ca] w fun e w' => ∃ a b, e = .returned (.tuple #[.slice (some ⟨a, 0, none⟩) n n, .slice (some ⟨b, 0, none⟩) n n, .bool true]) ∧ PS w' w.heap.size a b n (peelL n L) ∧ Below w.heap.size w w' := by
  obtain ⟨i0, hi, hz0, hz1, hz2⟩ := info_parts intInfo
  obtain ⟨i1, hi', hy0, hy1, hy2⟩ := info_parts boolInfo
  have HA := Lib.hid ha
  have HX := Lib.hid hx
  have HG := Lib.hid (sGoodL_any (n : Int) A (intL L) ca w ha (by rw [intL_length]; omega) (by rw [intL_length]; exact hca))
  rw [hgood, intL_length] at HG
  have HRes : Hid (peelK n L (n + 1) (List.replicate n none) = peelL n L) := rfl
  generalize peelL n L = RES at *
  clear ha hx hgood
  go_enter Tryd.func8, Tryd.ntmps8
  go_wp2_with fail
  refine HG.out.mono ?_
  rintro e w1 ⟨rfl, hb1⟩
  have HB1 := Lib.hid hb1
  have hs1 := hb1.size
  clear hb1 HG
  go_wp2_with (first
    | (at_make; refine wpList_make_full _ rfl _ _ 24 rfl w1.heap.size 3 i0 (.int .i64 0) 1 Tryd.underlying24 hi hz0 hz1 .i64 .i64 _ _ n rfl rfl rfl rfl (by rw [hz2]; omega) (by unfold maxLen; omega) (Nat.le_refl _) ?_; intro w2 hown2 hgr2)
    | (at_make; refine wpList_make_full _ rfl _ _ 25 rfl w2.heap.size 4 i1 (.bool false) 1 Tryd.underlying25 hi' hy0 hy1 .i64 .i64 _ _ n rfl rfl rfl rfl (by rw [hy2]; omega) (by unfold maxLen; omega) (Nat.le_refl _) ?_; intro w3 hown3 hgr3))
  have hb2 : Below w1.heap.size w1 w2 := (Below.refl _ _).grown hgr2 (Nat.le_refl _) (by simp)
  have hs2 := hb2.size
  have HO2 := Lib.hid hown2
  have HB2 := Lib.hid hb2
  clear hgr2 hown2 hb2
  have hb3 : Below w2.heap.size w2 w3 := (Below.refl _ _).grown hgr3 (Nat.le_refl _) (by simp)
  have HPS : Hid (PS w3 w1.heap.size w1.heap.size w2.heap.size n (List.replicate n none)) := by
    refine ⟨?_, ?_, by simp⟩
    · have h := World.ownsRow.kept HO2.out (gBelowN hb3) (gNone _)
      rw [made_row _ _ rfl] at h
      simpa using h
    · have h := hown3
      rw [made_row _ _ rfl] at h
      have h' : w3.ownsRow w1.heap.size 4 1 (.slice (some ⟨w2.heap.size, 0, none⟩) n n) n (List.replicate n (.bool false)) :=
        ⟨h.1, by
          rcases h.2 with hn | ⟨g, cap, cur, e, hg, r⟩
          · exact Or.inl hn
          · exact Or.inr ⟨g, cap, cur, e, Nat.le_trans hs2 hg, r⟩⟩
      simpa using h'
  have HB3 := Lib.hid (below_more HB2.out hb3)
  clear hgr3 hown3 hb3 HO2 HB2 hi hz0 hz1 hz2 hi' hy0 hy1 hy2
  have HAw := Lib.hid (HA.out.below HB1.out)
  generalize hga : w1.heap.size = ga at *
  generalize w2.heap.size = gb at *
  have hga' : w1.heap.size = ga := hga
  have HGa := Lib.hid hga'
  clear hga hga'
  go_loopg [9] (n + 2) (fun gk m wr => ∃ S : Know, PS wr ga ga gb n S ∧ (∀ k, knV S k < 2 ^ 32) ∧ ((m = .bool true ∧ ∃ f, gk = f + 1 ∧ noneN S + 1 ≤ f ∧ peelK n L f S = RES) ∨ (m = .bool false ∧ S = RES)) ∧ Below ga w1 wr)
  case atStart => exact ⟨_, HPS.out, (fun k => by rw [knV, know_none]; decide), Or.inl ⟨rfl, n + 1, rfl, by have := noneN_le (List.replicate n (none : Option Nat)); rw [List.length_replicate] at this; omega, HRes.out⟩, HB3.out⟩
  case round =>
    obtain ⟨S, hps, hkb, hst, hbel⟩ := hrel
    have HKb := Lib.hid hkb
    clear hkb
    have HP := Lib.hid hps
    have HBl := Lib.hid hbel
    clear hps hbel HPS HB3
    rcases hst with ⟨rfl, f, hgf, hnf, hpk⟩ | ⟨rfl, hres⟩
    · obtain ⟨f, rfl⟩ : ∃ f', f = f' + 1 := ⟨f - 1, by omega⟩
      have HPk := Lib.hid hpk
      have HGO : Hid (f + 1 < gk ∧ 0 < gk) := by show _ ∧ _; omega
      have HPk1 : Hid (∀ S', peel1 n L S = some S' → peelK n L f S' = RES) := fun S' h => by
        have h1 := HPk.out
        rw [peelK, h] at h1
        exact h1
      have HPk2 : Hid (peel1 n L S = none → S = RES) := fun h => by
        have h1 := HPk.out
        rw [peelK, h] at h1
        exact h1
      clear hpk HPk hgf
      go_wp2_with fail
      go_loopg [9, 28] L.length (fun g2 m i wx => ∃ k : Nat, k + g2 = L.length ∧ m = .bool false ∧ i = .int .i64 k ∧ (∀ x ∈ L.take k, stepS n S x = none) ∧ PS wx ga ga gb n S ∧ Below ga w1 wx)
      case atStart => exact ⟨0, by omega, rfl, rfl, fun x hx => by simp at hx, HP.out, HBl.out⟩
      case round =>
        obtain ⟨k, hg2, rfl, rfl, hno, hps2, hbel2⟩ := hrel
        have HNo := Lib.hid hno
        have HP2 := Lib.hid hps2
        have HB2 := Lib.hid hbel2
        clear hno hps2 hbel2
        by_cases hlt : k < L.length
        · have hki : (k : Int) < (L.length : Int) := by omega
          have hlt' : k < (intL L).length := by rw [intL_length]; exact hlt
          have HAr := Lib.hid (HAw.out.below (by rw [HGa.out]; exact HB2.out))
          obtain ⟨b1, o1, rfl, hc1⟩ := HAr.out (by intro e0; rw [e0] at hlt'; simp at hlt')
          obtain ⟨p1, p2⟩ := hc1 k hlt'
          rw [intL_at hlt'] at p1 p2
          obtain ⟨hx1, hx2⟩ := HX.out L[k] (List.getElem_mem hlt)
          have HSome := Lib.hid (fun S' h => peel1_some (S' := S') hlt HNo.out h)
          have HMore := Lib.hid (fun h => steps_more hlt HNo.out h)
          have HGK : Hid (L.length - k - 1 < gk ∧ k + 1 + (L.length - k - 1) = L.length) := by show _ ∧ _; omega
          have HStep : Hid (∀ x : Nat × Nat, stepS n S x = if (unkL S (partsL x.1 n)).length = 1 then some (S.set ((unkL S (partsL x.1 n)).getD 0 0) (some (x.2 ^^^ xorL (knV S) (partsL x.1 n)))) else none) := fun x => rfl
          clear hc1 hg2
          generalize L[k] = p at *
          have hW := gAlloc wr (.cells #[.int .i64 p.1, .int .i64 p.2] 50)
          have HPar := Lib.hid (sParts p.1 n (wr.alloc (.cells #[.int .i64 p.1, .int .i64 p.2] 50)) hx1 hn1 hn8)
          have HPW := Lib.hid (HP2.out.below hW)
          have HBW : Hid (Below ga w1 (wr.alloc (.cells #[.int .i64 p.1, .int .i64 p.2] 50))) := HB2.out.alloc (by have := HB2.out.size; rw [HGa.out] at this; exact this) _
          obtain ⟨hri, hrl⟩ := parts_ok p.1 hn1
          have hd4 := (degN_bd p.1 hn1).2.1
          have HRi := Lib.hid hri.2
          have hP4 : (partsL p.1 n).length ≤ 4 := by omega
          clear hri hrl hW HNo HP2 HB2
          obtain ⟨P, hPP⟩ : ∃ P, partsL p.1 n = P := ⟨_, rfl⟩
          rw [hPP] at HPar HRi hP4
          have HPP := Lib.hid hPP
          clear hPP
          go_wp2_with fail
          refine HPar.out.mono ?_
          rintro e w4 ⟨v4, rfl, ho4, hb4⟩
          obtain ⟨A4, c4, rfl, hI4⟩ := ho4.form
          rw [zI_length]
          have HI4 := Lib.hid hI4
          have HP4 := Lib.hid (HPW.out.below hb4)
          have HB4 : Hid (Below ga w1 w4) := HBW.out.trans (hb4.mono (by have := HBW.out.size; rw [HGa.out] at this; exact this))
          clear ho4 hI4 hb4 HPW HBW HPar p1 p2
          go_wp2_with fail
          go_loopg [12, 13, 14, 39] P.length (fun g3 sm lf mn i wx => ∃ (t : Nat) (z : Int), t + g3 = P.length ∧ i = .int .i64 t ∧ sm = .int .i64 ((p.2 ^^^ xorL (knV S) (P.take t) : Nat) : Int) ∧ lf = .int .i64 z ∧ mn = .int .i64 ((unkL S (P.take t)).length : Nat) ∧ ((unkL S (P.take t)).length = 1 → z = ((unkL S (P.take t)).getD 0 0 : Nat)) ∧ w4 = wx)
          case atStart => exact ⟨0, -1, by omega, rfl, by simp [xorL], rfl, rfl, fun h => by simp [unkL] at h, rfl⟩
          case round =>
            obtain ⟨t, z, hg3, rfl, rfl, rfl, rfl, hz, rfl⟩ := hrel
            have HZ := Lib.hid hz
            clear hz
            by_cases hlt3 : t < P.length
            · have hti : (t : Int) < (P.length : Int) := by omega
              obtain ⟨b5, o5, rfl, hc5⟩ := HI4.out.cellN hlt3
              have hqn := HRi.out P[t] (List.getElem_mem hlt3)
              have HU := Lib.hid (unk_snoc (S := S) hlt3)
              have HK := Lib.hid (kn_snoc (S := S) hlt3)
              have hul : (unkL S (P.take t)).length ≤ 4 := Nat.le_trans (List.length_filter_le _ _) (by rw [List.length_take]; omega)
              have hxl : xorL (knV S) (P.take t) < 2 ^ 32 := xorL_lt fun k _ => HKb.out k
              have HGK3 : Hid (P.length - t - 1 < gk ∧ t + 1 + (P.length - t - 1) = P.length) := by show _ ∧ _; omega
              generalize P[t] = q at *
              obtain ⟨hq1, hq2⟩ := HP4.out.cells hqn
              have hkq := HKb.out q
              have hqni : (q : Int) < (n : Int) := by omega
              have hsl : p.2 ^^^ xorL (knV S) (P.take t) < 2 ^ 32 := Nat.xor_lt_two_pow hx2 hxl
              have HAs : Hid (∀ y, p.2 ^^^ (xorL (knV S) (P.take t) ^^^ y) = (p.2 ^^^ xorL (knV S) (P.take t)) ^^^ y) := fun y => (Nat.xor_assoc _ _ _).symm
              cases hs : (S.getD q none).isSome
              · rw [hs] at hq2
                have HU2 : Hid (unkL S (P.take (t + 1)) = unkL S (P.take t) ++ [q]) := by show _ = _; rw [HU.out, if_neg (by rw [hs]; decide)]
                have HK2 : Hid (p.2 ^^^ xorL (knV S) (P.take (t + 1)) = p.2 ^^^ xorL (knV S) (P.take t)) := by show _ = _; rw [HK.out, kn_none hs, Nat.xor_zero]
                clear HU HK hs hxl HAs
                generalize p.2 ^^^ xorL (knV S) (P.take t) = sm at *
                generalize unkL S (P.take t) = un at *
                go_wp2_with fail
                go_roundg (P.length - t - 1)
                case measure => exact HGK3.out.1
                case rel => exact ⟨t + 1, (q : Int), HGK3.out.2, by go_num, by rw [HK2.out], rfl, by rw [HU2.out, List.length_append]; go_num, fun h => by
                  rw [HU2.out] at h ⊢
                  rw [List.length_append, List.length_singleton] at h
                  obtain rfl : un = [] := List.eq_nil_of_length_eq_zero (by omega)
                  rfl, rfl⟩
              · rw [hs] at hq2
                have HU2 : Hid (unkL S (P.take (t + 1)) = unkL S (P.take t)) := by show _ = _; rw [HU.out, if_pos hs]
                have HK2 : Hid (p.2 ^^^ xorL (knV S) (P.take (t + 1)) = (p.2 ^^^ xorL (knV S) (P.take t)) ^^^ knV S q) := by show _ = _; rw [HK.out, HAs.out]
                clear HU HK hs hxl HAs
                generalize p.2 ^^^ xorL (knV S) (P.take t) = sm at *
                generalize knV S q = y at *
                have hxr := xor_i64 sm y (by omega) (by omega)
                go_wp2_with fail
                go_roundg (P.length - t - 1)
                case measure => exact HGK3.out.1
                case rel => exact ⟨t + 1, z, HGK3.out.2, by go_num, by rw [HK2.out], rfl, by rw [HU2.out], fun h => by rw [HU2.out] at h ⊢; exact HZ.out h, rfl⟩
            · obtain rfl : t = P.length := by omega
              rw [List.take_length] at HZ ⊢
              have hti : ¬ (P.length : Int) < (P.length : Int) := by omega
              have hul : (unkL S P).length ≤ 4 := Nat.le_trans (List.length_filter_le _ _) hP4
              have hxl : xorL (knV S) P < 2 ^ 32 := xorL_lt fun k _ => HKb.out k
              have hsl : p.2 ^^^ xorL (knV S) P < 2 ^ 32 := Nat.xor_lt_two_pow hx2 hxl
              by_cases h1 : (unkL S P).length = 1
              · have hb1 : (((unkL S P).length : Int) == 1) = true := by rw [h1]; rfl
                obtain rfl : z = ((unkL S P).getD 0 0 : Nat) := HZ.out h1
                have hmem : (unkL S P).getD 0 0 ∈ P := by
                  rw [show (unkL S P).getD 0 0 = (unkL S P)[0]'(by omega) by simp [List.getD, h1]]
                  exact (List.mem_filter.1 (List.getElem_mem _)).1
                have hun := HRi.out _ hmem
                have HSt : Hid (stepS n S p = some (S.set ((unkL S P).getD 0 0) (some (p.2 ^^^ xorL (knV S) P)))) := by show _ = _; rw [HStep.out, HPP.out, if_pos h1]
                obtain ⟨_, _, _, _, _, _, hlen', hnn⟩ := step_facts hn1 HP4.out.2.2 HSt.out
                have HP1 := Lib.hid (HSome.out _ HSt.out)
                have HRec := Lib.hid (HPk1.out _ HP1.out)
                have HPut := Lib.hid (HP4.out.put (u := (unkL S P).getD 0 0) (p.2 ^^^ xorL (knV S) P) (Nat.le_refl _) HB4.out)
                obtain ⟨hc1, hc2⟩ := HP4.out.cells hun
                obtain ⟨hf1, hf2⟩ := HP4.out.frozen ((unkL S P).getD 0 0)
                have hne := HP4.out.ne
                have HKn : Hid (∀ k, knV (S.set ((unkL S P).getD 0 0) (some (p.2 ^^^ xorL (knV S) P))) k < 2 ^ 32) := fun k => by
                  rw [knV, getD_set (by rw [HP4.out.2.2]; exact hun)]
                  split
                  · exact hsl
                  · exact HKb.out k
                have hnf' : noneN (S.set ((unkL S P).getD 0 0) (some (p.2 ^^^ xorL (knV S) P))) + 1 ≤ f := by omega
                have HNF := Lib.hid hnf'
                clear HStep HSome HMore HZ hlen' hnn hmem HSt HP1 hxl hnf'
                generalize (unkL S P).getD 0 0 = u at *
                generalize p.2 ^^^ xorL (knV S) P = sm at *
                have hui : (u : Int) < (n : Int) := by omega
                have hc2' : (w4.setCell ⟨ga, u, none⟩ (.int .i64 (sm : Nat))).cell? ⟨gb, u, none⟩ = some (.bool (S.getD u none).isSome) := by
                  rw [cell_set_other _ _ _ _ (by exact hne.symm)]; exact hc2
                have hf2' : (w4.setCell ⟨ga, u, none⟩ (.int .i64 (sm : Nat))).frozen? ⟨gb, u, none⟩ = false := by
                  rw [frozen_set_other _ _ _ _ (by exact hne.symm)]; exact hf2
                go_wp2_with fail
                go_roundg (f + 1)
                case measure => exact HGO.out.1
                case rel => exact ⟨_, HPut.out.1, HKn.out, Or.inl ⟨rfl, f, rfl, HNF.out, HRec.out⟩, HPut.out.2⟩
              · have hb1 : (((unkL S P).length : Int) == 1) = false := by rw [beq_eq_false_iff_ne]; omega
                have HSt : Hid (stepS n S p = none) := by show _ = _; rw [HStep.out, HPP.out, if_neg h1]
                have HM := Lib.hid (HMore.out HSt.out)
                clear HStep HSome HMore HZ HSt h1 hxl
                generalize p.2 ^^^ xorL (knV S) P = sm at *
                generalize (unkL S P).length = ul at *
                go_wp2_with fail
                go_roundg (L.length - k - 1)
                case measure => exact HGK.out.1
                case rel => exact ⟨k + 1, HGK.out.2, rfl, by go_num, HM.out, HP4.out, HB4.out⟩
        · obtain rfl : k = L.length := by omega
          rw [List.take_length] at HNo
          have hki : ¬ (L.length : Int) < (L.length : Int) := by omega
          have HRes2 := Lib.hid (HPk2.out (peel1_none HNo.out))
          go_wp2_with fail
          go_roundg 0
          case measure => exact HGO.out.2
          case rel => exact ⟨S, HP2.out, HKb.out, Or.inr ⟨rfl, HRes2.out⟩, HB2.out⟩
    · subst hres
      go_wp2_with fail
      (try simp only [Exit.inBlock, Exit.then])
      refine bodyPost_ret (results_tmp3 rfl _ _ _) rfl ?_
      exact ⟨ga, gb, rfl, HP.out.lower hs1, HB1.out.trans (HBl.out.mono hs1)⟩

theorem tupP {v u v' u' : Value} {c d : Bool} (h1 : v = v') (h2 : u = u') (k : c = d) : Ending.returned (.tuple #[v, u, .bool c]) = .returned (.tuple #[v', u', .bool d]) := by rw [h1, h2, k]
set_option maxRecDepth 100000 in
set_option maxHeartbeats 400000 in
theorem sPeel_any (n : Int) (A : Option Addr) (ls : List (Int × Int)) (ca : Nat) (w : World) (ha : Lets w A ls) (hl : ls.length ≤ 1048576) (hca : ls.length ≤ ca) :
    Calls Tryd.prog 8 #[.int .i64 n, .slice A ls.length ca] w fun e w' => ∃ v u, e = .returned (.tuple #[v, u, .bool (goodLB n ls)]) ∧ Own w' w.heap.size v (peelOI n ls) ∧ OwnT w' w.heap.size u (peelBI n ls) ∧ (v.ownBlock = none ∨ v.ownBlock ≠ u.ownBlock) ∧ Below w.heap.size w w' := by
  cases h : goodLB n ls
  · have HE : Hid (peelOI n ls = [] ∧ peelBI n ls = []) := by show _ ∧ _; simp [peelOI, peelBI, h]
    go_enter Tryd.func8, Tryd.ntmps8
    go_wp2_with fail
    refine (sGoodL_any n A ls ca w ha hl hca).mono ?_
    rintro e w1 ⟨rfl, hb1⟩
    rw [h]
    go_wp2_with fail
    (try simp only [Exit.inBlock, Exit.then])
    refine bodyPost_ret (results_tmp3 rfl _ _ _) rfl ?_
    obtain ⟨e1, e2⟩ := HE.out
    exact ⟨_, _, rfl, by rw [e1]; exact Own.nil _ _, by rw [e2]; exact OwnT.nil _ _, Or.inl rfl, hb1⟩
  · obtain ⟨m, L, rfl, rfl, h1, h2, h3, h4⟩ := goodL_nat h
    have e1 : peelOI (m : Int) (intL L) = zI ((peelL m L).map fun s => s.getD 0) := by rw [peelOI, if_pos h, natL_intL, Int.toNat_natCast]
    have e2 : peelBI (m : Int) (intL L) = (peelL m L).map Option.isSome := by rw [peelBI, if_pos h, natL_intL, Int.toNat_natCast]
    rw [intL_length] at hca ⊢
    refine (sPeel m A L ca w ha h1 h2 h3 h4 hca h).mono ?_
    rintro e w1 ⟨a, b, rfl, hps, hb1⟩
    obtain ⟨o1, o2⟩ := hps.outs
    exact ⟨_, _, rfl, by rw [e1]; exact o1, by rw [e2]; exact o2, Or.inr (by intro e; injection e with e; exact hps.ne e), hb1⟩
end Go.Proofs.YtcpfneikcefcmaaDoor
