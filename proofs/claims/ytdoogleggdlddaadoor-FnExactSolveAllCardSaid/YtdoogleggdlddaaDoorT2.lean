/-
  What the model's l2Steps answers: the rows brought to steps.
-/
import Derived.Test.YtdoogleggdlddaaDoorT1
import Derived.Test.YtdoogleggdlddaaDoorD4
import Derived.Maps.AppendAt
namespace Go.Proofs.YtdoogleggdlddaaDoor
open Go.RowKit

/-- What a list of the model's holds behind the first j rows, r having been put or not. -/
def putAt (r : Nat) (O : List Nat) (j : Nat) (b : Bool) : List Nat := if b = true then (O.drop j).map (clr r) else putR r (O.drop j)
theorem putAt_end_no (r : Nat) (O : List Nat) : putAt r O O.length false = [r] := by simp [putAt, putR]
theorem putAt_end_yes (r : Nat) (O : List Nat) : putAt r O O.length true = [] := by simp [putAt]
theorem putAt_yes {r : Nat} {O : List Nat} {j : Nat} (hj : j < O.length) : putAt r O j true = clr r O[j] :: putAt r O (j + 1) true := by
  simp only [putAt, if_true]
  rw [List.drop_eq_getElem_cons hj]; rfl
theorem putAt_here {r : Nat} {O : List Nat} {j : Nat} (hj : j < O.length) (h : clr r O[j] < r) : putAt r O j false = r :: clr r O[j] :: putAt r O (j + 1) true := by
  simp only [putAt, if_true]
  rw [List.drop_eq_getElem_cons hj]
  simp [putR, h]
theorem putAt_later {r : Nat} {O : List Nat} {j : Nat} (hj : j < O.length) (h : ¬ clr r O[j] < r) : putAt r O j false = clr r O[j] :: putAt r O (j + 1) false := by
  simp only [putAt]
  rw [List.drop_eq_getElem_cons hj]
  simp [putR, h]

set_option maxRecDepth 100000 in
set_option maxHeartbeats 4000000 in
theorem sSteps (A : Option Addr) (R : List Nat) (ca : Nat) (w : World) (ha : Ints w A (zI R)) (hl : R.length ≤ 1048576) (hR : ∀ r ∈ R, r < 65536) :
    Calls Tryd.prog 50 #[.slice A R.length ca] w fun e w' => ∃ v, e = .returned v ∧ Own w' w.heap.size v (zI (steps R)) ∧ Below w.heap.size w w' := by
  obtain ⟨i0, hi, hz0, hz1, hz2⟩ := info_parts intInfo
  have HA := Lib.hid ha
  have HR := Lib.hid hR
  clear ha hR
  go_enter Tryd.func50, Tryd.ntmps50
  go_wp2_with fail
  go_loopg [3, 14] R.length (fun g v i wr => ∃ k : Nat, k + g = R.length ∧ i = .int .i64 k ∧ Own wr w.heap.size v (zI (steps (R.take k))) ∧ Below w.heap.size w wr)
  case atStart => exact ⟨0, by omega, rfl, Own.nil _ _, Below.refl _ _⟩
  case round =>
    obtain ⟨k, hg, rfl, hown, hbel⟩ := hrel
    by_cases hlt : k < R.length
    · have hi1 : (k : Int) < (R.length : Int) := by omega
      have HGK : Hid (R.length - k - 1 < gk ∧ k + 1 + (R.length - k - 1) = R.length) := by show _ ∧ _; omega
      obtain ⟨b, o, rfl, hc⟩ := (HA.out.below hbel).cellN hlt
      have HST := Lib.hid (steps_snoc R hlt)
      have hr0 := HR.out R[k] (List.getElem_mem hlt)
      have HO : Hid (∀ s ∈ steps (R.take k), s ≠ 0 ∧ s < 65536) := fun s hs => ⟨(steps_rref _).1.ne s hs, steps_lt (w := 16) (fun r hr => HR.out r (List.mem_of_mem_take hr)) s hs⟩
      have hOl : (steps (R.take k)).length ≤ 16 := rank_le_width (w := 16) (fun r hr => HR.out r (List.mem_of_mem_take hr))
      generalize steps (R.take k) = O at *
      generalize R[k] = r0 at *
      have hol : O.length = (zI O).length := (zI_length O).symm
      obtain ⟨A3, c3, rfl, hI3⟩ := hown.form
      rw [zI_length] at *
      have HI3 := Lib.hid hI3
      have HOwn := Lib.hid hown
      have HBel := Lib.hid hbel
      clear hI3 hown hbel hg hol
      go_wp2_with fail
      go_loopg [5, 20] O.length (fun g2 u i wx => ∃ (j ρ : Nat), j + g2 = O.length ∧ i = .int .i64 j ∧ u = .int .i64 ρ ∧ ρ < 65536 ∧ red (O.drop j) ρ = red O r0 ∧ wr = wx)
      case atStart => exact ⟨0, r0, by omega, rfl, rfl, hr0, rfl, rfl⟩
      case round =>
        obtain ⟨j, ρ, hg2, rfl, rfl, hρ, hred, rfl⟩ := hrel
        by_cases hlt2 : j < O.length
        · have hi2 : (j : Int) < (O.length : Int) := by omega
          obtain ⟨b3, o3, rfl, hc3⟩ := HI3.out.cellN hlt2
          obtain ⟨hs0, hs1⟩ := HO.out O[j] (List.getElem_mem hlt2)
          have HRed : Hid (red (O.drop (j + 1)) (if ρ.testBit (O[j]).log2 = true then ρ ^^^ O[j] else ρ) = red O r0) := by rw [← hred]; exact (red_drop hlt2 ρ).symm
          clear hred
          generalize O[j] = s at *
          have hsl := log2_lt (w := 16) hs0 hs1
          have hx := xor_i64 ρ s (by omega) (by omega)
          cases hbit : ρ.testBit s.log2
          · have hb := (bit_shr (k := s.log2) hρ).trans hbit
            rw [hbit] at HRed
            clear hbit hx
            go_wp2_with (go_at_call 82; refine (sTop s _ hs0 hs1).mono ?_; rintro e w' ⟨rfl, rfl⟩)
            go_roundg (O.length - j - 1)
            case measure => omega
            case rel => exact ⟨j + 1, ρ, by omega, by go_num, rfl, hρ, HRed.out, rfl⟩
          · have hb := (bit_shr (k := s.log2) hρ).trans hbit
            rw [hbit] at HRed
            clear hbit
            go_wp2_with (go_at_call 82; refine (sTop s _ hs0 hs1).mono ?_; rintro e w' ⟨rfl, rfl⟩)
            go_roundg (O.length - j - 1)
            case measure => omega
            case rel => exact ⟨j + 1, ρ ^^^ s, by omega, by go_num, rfl, Nat.xor_lt_two_pow (n := 16) hρ hs1, HRed.out, rfl⟩
        · obtain rfl : j = O.length := by omega
          have hred' : ρ = red O r0 := by rw [← hred, List.drop_length]; rfl
          clear hred hg2
          by_cases hz : ρ = 0
          · have HE : Hid (ins O r0 = O) := by show _ = _; unfold ins; rw [← hred', if_pos hz]
            subst hz
            clear hred'
            go_wp2_with fail
            go_roundg (R.length - k - 1)
            case measure => exact HGK.out.1
            case rel => exact ⟨k + 1, HGK.out.2, by go_num, by rw [HST.out, HE.out]; exact HOwn.out, HBel.out⟩
          · have HE : Hid (ins O r0 = putR ρ O) := by show _ = _; unfold ins; rw [← hred', if_neg hz]
            have hzi : ((ρ : Int) == 0) = false := by simpa using hz
            have hrl := log2_lt (w := 16) hz hρ
            clear hred'
            go_wp2_with fail
            clear hc hi1 hr0
            generalize hwr0 : wr = W0 at *
            clear hwr0
            go_loopg [8, 9, 39] O.length (fun g3 v8 v9 i wx => ∃ (j : Nat) (N : List Nat) (b : Bool), j + g3 = O.length ∧ i = .int .i64 j ∧ v9 = .bool b ∧ N.length ≤ j + b.toNat ∧ N ++ putAt ρ O j b = putR ρ O ∧ Own wx W0.heap.size v8 (zI N) ∧ Below W0.heap.size W0 wx)
            case atStart => exact ⟨0, [], false, by omega, rfl, rfl, by simp, by simp [putAt], Own.nil _ _, Below.refl _ _⟩
            case round =>
              obtain ⟨j, N, b, hg3, rfl, rfl, hNl, hN, hO8, hB8⟩ := hrel
              have HN := Lib.hid hN
              have HO8 := Lib.hid hO8
              have HB8 := Lib.hid hB8
              have hbs := hB8.size
              have hN20 : N.length ≤ 20 := by have := Bool.toNat_le b; omega
              clear hN hO8 hB8
              by_cases hlt3 : j < O.length
              · have hi3 : (j : Int) < (O.length : Int) := by omega
                obtain ⟨b3, o3, rfl, hc3⟩ := (HI3.out.below HB8.out).cellN hlt3
                obtain ⟨hs0, hs1⟩ := HO.out O[j] (List.getElem_mem hlt3)
                have HY := Lib.hid (fun h => putAt_yes (r := ρ) (O := O) (j := j) h)
                have HH := Lib.hid (fun h => putAt_here (r := ρ) (O := O) (j := j) h)
                have HLt := Lib.hid (fun h => putAt_later (r := ρ) (O := O) (j := j) h)
                have HC : Hid (clr ρ O[j] = if O[j].testBit ρ.log2 = true then O[j] ^^^ ρ else O[j]) := rfl
                rw [Hid] at HY HH HLt
                have HY := Lib.hid (HY hlt3)
                have HH := Lib.hid (HH hlt3)
                have HLt := Lib.hid (HLt hlt3)
                generalize O[j] = s at *
                have hx := xor_i64 s ρ (by omega) (by omega)
                cases hbit : s.testBit ρ.log2
                · have hbt := (bit_shr (k := ρ.log2) hs1).trans hbit
                  rw [hbit] at HC
                  have HC' : Hid (clr ρ s = s) := HC.out
                  rw [HC'.out] at HY HH HLt
                  clear hbit hx HC HC'
                  cases b
                  · by_cases hcmp : s < ρ
                    · have hcmpI : ((s : Nat) : Int) < (ρ : Int) := by omega
                      have HF : Hid ((N ++ [ρ]) ++ [s] ++ putAt ρ O (j + 1) true = putR ρ O) := by
                        have := HN.out; rw [HH.out hcmp] at this; show _ = _; simpa using this
                      go_wp2_with (first
                        | (go_at_call 82; refine (sTop ρ _ hz hρ).mono ?_; rintro e w' ⟨rfl, rfl⟩)
                        | (at_builtin; refine app_law wr W0.heap.size _ N ρ rfl _ _ rfl rfl rfl HO8.out hbs (by omega) W0 HB8.out ?_))
                      intro v' w' H'
                      have hbs' := H'.out.2.1.size
                      go_wp2_with (at_builtin; refine app_law w' W0.heap.size _ (N ++ [ρ]) s rfl _ _ rfl rfl rfl H'.out.1 hbs' (by simp; omega) W0 H'.out.2.1 ?_)
                      intro v'' w'' H''
                      go_wp2_with fail
                      go_roundg (O.length - j - 1)
                      case measure => omega
                      case rel => exact ⟨j + 1, N ++ [ρ] ++ [s], true, by omega, by go_num, rfl, by simp at hNl ⊢; omega, HF.out, by simpa using H''.out.1, H''.out.2.1⟩
                    · have hcmpI : ¬ ((s : Nat) : Int) < (ρ : Int) := by omega
                      have HF : Hid ((N ++ [s]) ++ putAt ρ O (j + 1) false = putR ρ O) := by
                        have := HN.out; rw [HLt.out hcmp] at this; show _ = _; simpa using this
                      go_wp2_with (first
                        | (go_at_call 82; refine (sTop ρ _ hz hρ).mono ?_; rintro e w' ⟨rfl, rfl⟩)
                        | (at_builtin; refine app_law wr W0.heap.size _ N s rfl _ _ rfl rfl rfl HO8.out hbs (by omega) W0 HB8.out ?_))
                      intro v' w' H'
                      go_wp2_with fail
                      go_roundg (O.length - j - 1)
                      case measure => omega
                      case rel => exact ⟨j + 1, N ++ [s], false, by omega, by go_num, rfl, by simp at hNl ⊢; omega, HF.out, H'.out.1, H'.out.2.1⟩
                  · have HF : Hid ((N ++ [s]) ++ putAt ρ O (j + 1) true = putR ρ O) := by
                      have := HN.out; rw [HY.out] at this; show _ = _; simpa using this
                    go_wp2_with (first
                      | (go_at_call 82; refine (sTop ρ _ hz hρ).mono ?_; rintro e w' ⟨rfl, rfl⟩)
                      | (at_builtin; refine app_law wr W0.heap.size _ N s rfl _ _ rfl rfl rfl HO8.out hbs (by omega) W0 HB8.out ?_))
                    intro v' w' H'
                    go_wp2_with fail
                    go_roundg (O.length - j - 1)
                    case measure => omega
                    case rel => exact ⟨j + 1, N ++ [s], true, by omega, by go_num, rfl, by simp at hNl ⊢; omega, HF.out, H'.out.1, H'.out.2.1⟩
                · have hbt := (bit_shr (k := ρ.log2) hs1).trans hbit
                  rw [hbit] at HC
                  have HC' : Hid (clr ρ s = s ^^^ ρ) := HC.out
                  rw [HC'.out] at HY HH HLt
                  clear hbit HC HC'
                  cases b
                  · by_cases hcmp : (s ^^^ ρ) < ρ
                    · have hcmpI : (((s ^^^ ρ) : Nat) : Int) < (ρ : Int) := by omega
                      have HF : Hid ((N ++ [ρ]) ++ [(s ^^^ ρ)] ++ putAt ρ O (j + 1) true = putR ρ O) := by
                        have := HN.out; rw [HH.out hcmp] at this; show _ = _; simpa using this
                      go_wp2_with (first
                        | (go_at_call 82; refine (sTop ρ _ hz hρ).mono ?_; rintro e w' ⟨rfl, rfl⟩)
                        | (at_builtin; refine app_law wr W0.heap.size _ N ρ rfl _ _ rfl rfl rfl HO8.out hbs (by omega) W0 HB8.out ?_))
                      intro v' w' H'
                      have hbs' := H'.out.2.1.size
                      go_wp2_with (at_builtin; refine app_law w' W0.heap.size _ (N ++ [ρ]) (s ^^^ ρ) rfl _ _ rfl rfl rfl H'.out.1 hbs' (by simp; omega) W0 H'.out.2.1 ?_)
                      intro v'' w'' H''
                      go_wp2_with fail
                      go_roundg (O.length - j - 1)
                      case measure => omega
                      case rel => exact ⟨j + 1, N ++ [ρ] ++ [(s ^^^ ρ)], true, by omega, by go_num, rfl, by simp at hNl ⊢; omega, HF.out, by simpa using H''.out.1, H''.out.2.1⟩
                    · have hcmpI : ¬ (((s ^^^ ρ) : Nat) : Int) < (ρ : Int) := by omega
                      have HF : Hid ((N ++ [(s ^^^ ρ)]) ++ putAt ρ O (j + 1) false = putR ρ O) := by
                        have := HN.out; rw [HLt.out hcmp] at this; show _ = _; simpa using this
                      go_wp2_with (first
                        | (go_at_call 82; refine (sTop ρ _ hz hρ).mono ?_; rintro e w' ⟨rfl, rfl⟩)
                        | (at_builtin; refine app_law wr W0.heap.size _ N (s ^^^ ρ) rfl _ _ rfl rfl rfl HO8.out hbs (by omega) W0 HB8.out ?_))
                      intro v' w' H'
                      go_wp2_with fail
                      go_roundg (O.length - j - 1)
                      case measure => omega
                      case rel => exact ⟨j + 1, N ++ [(s ^^^ ρ)], false, by omega, by go_num, rfl, by simp at hNl ⊢; omega, HF.out, H'.out.1, H'.out.2.1⟩
                  · have HF : Hid ((N ++ [(s ^^^ ρ)]) ++ putAt ρ O (j + 1) true = putR ρ O) := by
                      have := HN.out; rw [HY.out] at this; show _ = _; simpa using this
                    go_wp2_with (first
                      | (go_at_call 82; refine (sTop ρ _ hz hρ).mono ?_; rintro e w' ⟨rfl, rfl⟩)
                      | (at_builtin; refine app_law wr W0.heap.size _ N (s ^^^ ρ) rfl _ _ rfl rfl rfl HO8.out hbs (by omega) W0 HB8.out ?_))
                    intro v' w' H'
                    go_wp2_with fail
                    go_roundg (O.length - j - 1)
                    case measure => omega
                    case rel => exact ⟨j + 1, N ++ [(s ^^^ ρ)], true, by omega, by go_num, rfl, by simp at hNl ⊢; omega, HF.out, H'.out.1, H'.out.2.1⟩
              · obtain rfl : j = O.length := by omega
                cases b
                · have HF : Hid (N ++ [ρ] = putR ρ O) := by have := HN.out; rwa [putAt_end_no] at this
                  go_wp2_with (at_builtin; refine app_law wr W0.heap.size _ N ρ rfl _ _ rfl rfl rfl HO8.out hbs (by omega) W0 HB8.out ?_)
                  intro v' w' H'
                  rw [HF.out] at H'
                  go_wp2_with fail
                  go_roundg (R.length - k - 1)
                  case measure => exact HGK.out.1
                  case rel => exact ⟨k + 1, HGK.out.2, by go_num, by rw [HST.out, HE.out]; exact H'.out.1.lower HBel.out.size, below_more HBel.out H'.out.2.1⟩
                · have HF : Hid (N = putR ρ O) := by have := HN.out; rwa [putAt_end_yes, List.append_nil] at this
                  go_wp2_with fail
                  go_roundg (R.length - k - 1)
                  case measure => exact HGK.out.1
                  case rel => exact ⟨k + 1, HGK.out.2, by go_num, by rw [HST.out, HE.out, ← HF.out]; exact HO8.out.lower HBel.out.size, below_more HBel.out HB8.out⟩
    · obtain rfl : k = R.length := by omega
      obtain ⟨A3, c3, rfl, _⟩ := hown.form
      have HO := Lib.hid hown
      have HB := Lib.hid hbel
      clear hown hbel
      go_wp2_with fail
      go_ret
      exact ⟨_, rfl, by have := HO.out; simp only [List.take_length] at this ⊢; exact this, HB.out⟩
end Go.Proofs.YtdoogleggdlddaaDoor
