/-
  The model of chapter 8: LossesIn, l8Parity, ParityFor.
-/
import Derived.Test.YtipcdaiobfgkeaaKN
namespace Go.Proofs.Ytipcdaiobfgkeaa
open Go.RowKit

def lsOkB (a n f mn : Int) : Bool := shape8 a n && (inB f 0 a && inB mn 0 (a - f))
def lsI (a n f mn : Int) : List Int := if lsOkB a n f mn = true then zI (loss8 n.toNat f.toNat mn.toNat) else []
theorem lsI_len (a n f mn : Int) : (lsI a n f mn).length ≤ 10 := by
  unfold lsI; split
  · rename_i h
    simp only [lsOkB, Bool.and_eq_true] at h
    obtain ⟨per, m, _, rfl, _, hm10, _⟩ := shape8_nat h.1
    rw [zI_length, loss8_length, Int.toNat_natCast]; exact hm10
  · simp
set_option maxRecDepth 100000 in
set_option maxHeartbeats 2000000 in
theorem sLosses_any (a n f mn : Int) (w : World) : Calls Try.prog 22 #[.int .i64 a, .int .i64 n, .int .i64 f, .int .i64 mn] w fun e w' => ∃ v, e = .returned (.tuple #[v, .bool (lsOkB a n f mn)]) ∧ Own w' w.heap.size v (lsI a n f mn) ∧ Below w.heap.size w w' := by
  have HS := Lib.hid (sShape8 a n w)
  cases h1 : shape8 a n
  · have hok : lsOkB a n f mn = false := by rw [lsOkB, h1]; rfl
    have HE : Hid (lsI a n f mn = []) := by show _ = _; rw [lsI, hok]; rfl
    rw [h1] at HS
    rw [hok]
    go_enter Try.func22, Try.ntmps22
    go_wp2_with (go_at_call 46; refine HS.out.mono ?_; rintro e w' ⟨rfl, rfl⟩)
    go_ret2
    exact ⟨_, rfl, by rw [HE.out]; exact Own.nil _ _, Below.refl _ _⟩
  · rw [h1] at HS
    cases h2 : inB f 0 a
    · have hok : lsOkB a n f mn = false := by rw [lsOkB, h2]; simp
      have HE : Hid (lsI a n f mn = []) := by show _ = _; rw [lsI, hok]; rfl
      rw [hok]
      clear h1
      go_enter Try.func22, Try.ntmps22
      go_wp2_with (first
        | (go_at_call 46; refine HS.out.mono ?_; rintro e w' ⟨rfl, rfl⟩)
        | (go_at_call 47; refine (l1In_any _ _ _ _).mono ?_; rintro e w' ⟨rfl, rfl⟩))
      go_ret2
      exact ⟨_, rfl, by rw [HE.out]; exact Own.nil _ _, Below.refl _ _⟩
    · have hf : 0 ≤ f ∧ f ≤ a := by simpa [inB] using h2
      have ha60 : 0 ≤ a ∧ a ≤ 60 := by
        have h := h1
        simp only [shape8, Bool.and_eq_true] at h
        simpa [inB] using h.1
      cases h3 : inB mn 0 (a - f)
      · have hok : lsOkB a n f mn = false := by rw [lsOkB, h3]; simp
        have HE : Hid (lsI a n f mn = []) := by show _ = _; rw [lsI, hok]; rfl
        rw [hok]
        clear h1
        go_enter Try.func22, Try.ntmps22
        go_wp2_with (first
          | (go_at_call 46; refine HS.out.mono ?_; rintro e w' ⟨rfl, rfl⟩)
          | (go_at_call 47; refine (l1In_any _ _ _ _).mono ?_; rintro e w' ⟨rfl, rfl⟩))
        go_ret2
        exact ⟨_, rfl, by rw [HE.out]; exact Own.nil _ _, Below.refl _ _⟩
      · have hok : lsOkB a n f mn = true := by rw [lsOkB, h1, h2, h3]; rfl
        have hmn : 0 ≤ mn ∧ mn ≤ a - f := by simpa [inB] using h3
        obtain ⟨per, m, -, rfl, hm1, hm10, -⟩ := shape8_nat h1
        obtain ⟨F, rfl⟩ := Int.eq_ofNat_of_zero_le hf.1
        obtain ⟨M, rfl⟩ := Int.eq_ofNat_of_zero_le hmn.1
        have HE : Hid (lsI a (m : Int) (F : Int) (M : Int) = zI (loss8 m F M)) := by show _ = _; rw [lsI, if_pos hok, Int.toNat_natCast, Int.toNat_natCast, Int.toNat_natCast]
        obtain ⟨i0, hi, hz0, hz1, hz2⟩ := info_parts intInfo
        have hF60 : F ≤ 60 := by omega
        have hM60 : F + M ≤ 60 := by omega
        rw [hok]
        clear hok h1
        go_enter Try.func22, Try.ntmps22
        go_wp2_with (first
          | (go_at_call 46; refine HS.out.mono ?_; rintro e w' ⟨rfl, rfl⟩)
          | (go_at_call 47; refine (l1In_any _ _ _ _).mono ?_; rintro e w' ⟨rfl, rfl⟩)
          | (at_make; refine wpList_make_full _ rfl _ _ 23 rfl w.heap.size 3 i0 (.int .i64 0) 1 Try.underlying23 hi hz0 hz1 .i64 .i64 _ _ m rfl rfl rfl rfl (by rw [hz2]; omega) (by unfold maxLen; omega) (Nat.le_refl _) ?_; intro w2 hown2 hgr2))
        have HB2 : Hid (Below w.heap.size w w2) := (Below.refl _ _).grown hgr2 (Nat.le_refl _) (by simp)
        have HO2 := Lib.hid (fresh8 hown2)
        clear hgr2 hown2 hi hz0 hz1 hz2 h2 h3
        generalize hg0 : w.heap.size = g at *
        have HG0 := Lib.hid hg0
        clear hg0
        go_wp2_with fail
        go_loopg [11] M (fun gk i wr => ∃ t : Nat, t + gk = M ∧ i = .int .i64 ((F + t : Nat) : Int) ∧ Own wr g (.slice (some ⟨g, 0, none⟩) m m) (zI (loss8 m F t)) ∧ Below g w wr)
        case atStart => exact ⟨0, by omega, rfl, HO2.out, HB2.out⟩
        case round =>
          obtain ⟨t, hg, rfl, hown, hbel⟩ := hrel
          have HO := Lib.hid hown
          have HB := Lib.hid hbel
          clear hown hbel HO2 HB2
          by_cases hlt : t < M
          · have hki : ((F + t : Nat) : Int) < (F : Int) + (M : Int) := by omega
            have HGK : Hid (M - t - 1 < gk ∧ t + 1 + (M - t - 1) = M) := by show _ ∧ _; omega
            have HSt : Hid (loss8 m F (t + 1) = (loss8 m F t).set ((F + t) % m) ((loss8 m F t).getD ((F + t) % m) 0 + 1)) := rfl
            have hrm : (F + t) % m < m := Nat.mod_lt _ (by omega)
            have hle := loss8_le m F t ((F + t) % m)
            have hrr : ((F + t : Nat) : Int) % (m : Int) = (((F + t) % m : Nat) : Int) := by rw [Int.natCast_emod]
            have hpf : (F + t) % m < (loss8 m F t).length := by rw [loss8_length]; exact hrm
            have HS2 : Hid (((F + t + 1 : Nat) : Int) = ((F + t : Nat) : Int) + 1) := by show _ = _; omega
            have hFt : F + t < 60 := by omega
            generalize (F + t) % m = r at *
            obtain ⟨q1, f1, -, -⟩ := own8_at HO.out hpf
            rw [show (loss8 m F t).getD r 0 = (loss8 m F t)[r] by simp [List.getD, hpf]] at HSt hle
            have hP := (own8_put HO.out (j := r) (((loss8 m F t)[r] : Int) + 1)).1
            rw [show (((loss8 m F t)[r] : Nat) : Int) + 1 = (((loss8 m F t)[r] + 1 : Nat) : Int) by omega, ← zI8_set, ← HSt.out] at hP
            have HO4 : Hid (Own (wr.setCell ⟨g, r, none⟩ (.int .i64 (((loss8 m F t)[r] : Int) + 1))) g (.slice (some ⟨g, 0, none⟩) m m) (zI (loss8 m F (t + 1)))) := by
              show Own _ _ _ _
              rw [show (((loss8 m F t)[r] : Nat) : Int) + 1 = (((loss8 m F t)[r] + 1 : Nat) : Int) by omega]
              exact hP
            have HB4 : Hid (Below g w (wr.setCell ⟨g, r, none⟩ (.int .i64 (((loss8 m F t)[r] : Int) + 1)))) := HB.out.setCell (Nat.le_refl _) _
            generalize (loss8 m F t)[r] = y at *
            clear hg hpf hP HO HB
            generalize hs : F + t = s at *
            have HSs := Lib.hid hs
            clear hs
            go_wp2_with fail
            go_roundg (M - t - 1)
            case measure => exact HGK.out.1
            case rel => exact ⟨t + 1, HGK.out.2, by rw [← Nat.add_assoc, HSs.out, HS2.out], HO4.out, HB4.out⟩
          · obtain rfl : t = M := by omega
            have hki : ¬ ((F + t : Nat) : Int) < (F : Int) + (t : Int) := by omega
            go_wp2_with fail
            go_ret2
            exact ⟨_, rfl, by rw [HE.out, HG0.out]; exact HO.out, by rw [HG0.out]; exact HB.out⟩
def paI (zs : List Int) (n : Int) : List Int := if list8 zs n = true then zI (par8 (zs.length / n.toNat) n.toNat (zs.map Int.toNat) zs.length) else []
theorem paI_nat {L : List Nat} {per m : Nat} (hL : L.length = per * m) (hm1 : 1 ≤ m) (h : list8 (zI L) (m : Int) = true) : paI (zI L) (m : Int) = zI (par8 per m L L.length) := by
  rw [paI, if_pos h, zI8_back, zI_length, Int.toNat_natCast]
  conv => lhs; rw [show L.length / m = per by rw [hL, Nat.mul_div_cancel _ (by omega)]]
theorem paI_len (zs : List Int) (n : Int) : (paI zs n).length ≤ 10 := by
  cases h : list8 zs n
  · rw [paI, h]; simp
  · obtain ⟨L, per, m, rfl, hL, rfl, hm1, hm10, h60, _⟩ := list8_nat h
    rw [paI_nat hL hm1 h, zI_length, par8_length]; exact hm10
set_option maxRecDepth 100000 in
set_option maxHeartbeats 2000000 in
theorem sParity8 (A : Option Addr) (L : List Nat) (ca per m : Nat) (w : World) (ha : Ints w A (zI L)) (hL : L.length = per * m) (hm1 : 1 ≤ m) (hm10 : m ≤ 10) (h60 : L.length ≤ 60) (hLb : ∀ c ∈ L, c < 256) :
    Calls Try.prog 55 #[.slice A L.length ca, .int .i64 m] w fun e w' => ∃ v, e = .returned v ∧ Own w' w.heap.size v (zI (par8 per m L L.length)) ∧ Below w.heap.size w w' := by
  have HA := Lib.hid ha
  have HLb := Lib.hid hLb
  obtain ⟨i0, hi, hz0, hz1, hz2⟩ := info_parts intInfo
  have hqq : (L.length : Int) / (m : Int) = (per : Int) := by rw [hL, ← Int.natCast_ediv, Nat.mul_div_cancel _ (by omega)]
  have HPer : Hid (∀ k, k < L.length → 1 ≤ per ∧ k / per < m) := fun k hk => by
    rw [hL] at hk
    exact ⟨by rcases Nat.eq_zero_or_pos per with rfl | h; (· simp at hk); exact h, Nat.div_lt_of_lt_mul hk⟩
  have hp60 : per ≤ 60 := Nat.le_trans (Nat.le_mul_of_pos_right per (by omega)) (hL ▸ h60)
  clear ha hLb hL
  go_enter Try.func55, Try.ntmps55
  go_wp2_with (at_make; refine wpList_make_full _ rfl _ _ 23 rfl w.heap.size 3 i0 (.int .i64 0) 1 Try.underlying23 hi hz0 hz1 .i64 .i64 _ _ m rfl rfl rfl rfl (by rw [hz2]; omega) (by unfold maxLen; omega) (Nat.le_refl _) ?_; intro w2 hown2 hgr2)
  have HB2 : Hid (Below w.heap.size w w2) := (Below.refl _ _).grown hgr2 (Nat.le_refl _) (by simp)
  have HO2 := Lib.hid (fresh8 hown2)
  clear hgr2 hown2 hi hz0 hz1 hz2
  generalize hg0 : w.heap.size = g at *
  have HG0 := Lib.hid hg0
  clear hg0
  go_wp2_with fail
  go_loopg [12] L.length (fun gk i wr => ∃ k : Nat, k + gk = L.length ∧ i = .int .i64 k ∧ Own wr g (.slice (some ⟨g, 0, none⟩) m m) (zI (par8 per m L k)) ∧ Below g w wr)
  case atStart => exact ⟨0, by omega, rfl, HO2.out, HB2.out⟩
  case round =>
    obtain ⟨k, hg, rfl, hown, hbel⟩ := hrel
    have HO := Lib.hid hown
    have HB := Lib.hid hbel
    clear hown hbel HO2 HB2
    by_cases hlt : k < L.length
    · have hki : (k : Int) < (L.length : Int) := by omega
      have HGK : Hid (L.length - k - 1 < gk ∧ k + 1 + (L.length - k - 1) = L.length) := by show _ ∧ _; omega
      obtain ⟨b1, o1, rfl, hc1⟩ := (HA.out.below (by rw [HG0.out]; exact HB.out)).cellN hlt
      obtain ⟨hper, hqm⟩ := HPer.out k hlt
      have hdd : (k : Int) / (per : Int) = ((k / per : Nat) : Int) := by rw [Int.natCast_ediv]
      have hcb := HLb.out L[k] (List.getElem_mem hlt)
      have HSt : Hid (par8 per m L (k + 1) = (par8 per m L k).set (k / per) ((par8 per m L k).getD (k / per) 0 ^^^ L[k])) := by
        show _ = _
        rw [par8, show L.getD k 0 = L[k] by simp [List.getD, hlt]]
      have hpf : k / per < (par8 per m L k).length := by rw [par8_length]; exact hqm
      have hyb : (par8 per m L k)[k / per] < 256 := par8_lt HLb.out k _ (List.getElem_mem hpf)
      rw [show (par8 per m L k).getD (k / per) 0 = (par8 per m L k)[k / per] by simp [List.getD, hpf]] at HSt
      obtain ⟨q1, f1, -, -⟩ := own8_at HO.out hpf
      have HX := Lib.hid (xor_i64 (par8 per m L k)[k / per] L[k] (by omega) (by omega))
      have hP := (own8_put HO.out (j := k / per) (bits .xor .i64 ((par8 per m L k)[k / per] : Int) (L[k] : Int))).1
      have HO4 : Hid (Own (wr.setCell ⟨g, k / per, none⟩ (.int .i64 (bits .xor .i64 ((par8 per m L k)[k / per] : Int) (L[k] : Int)))) g (.slice (some ⟨g, 0, none⟩) m m) (zI (par8 per m L (k + 1)))) := by
        show Own _ _ _ _
        rw [HSt.out, zI8_set, ← HX.out]
        exact hP
      have HB4 : Hid (Below g w (wr.setCell ⟨g, k / per, none⟩ (.int .i64 (bits .xor .i64 ((par8 per m L k)[k / per] : Int) (L[k] : Int))))) := HB.out.setCell (Nat.le_refl _) _
      generalize (par8 per m L k)[k / per] = y at *
      generalize k / per = q at *
      generalize L[k] = c at *
      clear hg hpf hP HO HB HSt
      go_wp2_with fail
      go_roundg (L.length - k - 1)
      case measure => exact HGK.out.1
      case rel => exact ⟨k + 1, HGK.out.2, by go_num, HO4.out, HB4.out⟩
    · obtain rfl : k = L.length := by omega
      have hki : ¬ (L.length : Int) < (L.length : Int) := by omega
      go_wp2_with fail
      go_ret
      exact ⟨_, rfl, by rw [HG0.out]; exact HO.out, by rw [HG0.out]; exact HB.out⟩
set_option maxRecDepth 100000 in
set_option maxHeartbeats 2000000 in
theorem sParityFor_any (A : Option Addr) (zs : List Int) (ca : Nat) (n : Int) (w : World) (ha : Ints w A zs) (hl : zs.length ≤ 1048576) :
    Calls Try.prog 31 #[.slice A zs.length ca, .int .i64 n] w fun e w' => ∃ v, e = .returned (.tuple #[v, .bool (list8 zs n)]) ∧ Own w' w.heap.size v (paI zs n) ∧ Below w.heap.size w w' := by
  have HG := Lib.hid (sList8 A zs ca n w ha hl)
  cases h : list8 zs n
  · have HE : Hid (paI zs n = []) := by show _ = _; rw [paI, h]; rfl
    rw [h] at HG
    clear ha
    go_enter Try.func31, Try.ntmps31
    go_wp2_with (go_at_call 40; refine HG.out.mono ?_; rintro e w' ⟨rfl, rfl⟩)
    go_ret2
    exact ⟨_, rfl, by rw [HE.out]; exact Own.nil _ _, Below.refl _ _⟩
  · rw [h] at HG
    obtain ⟨L, per, m, rfl, hL, rfl, hm1, hm10, h60, hLb⟩ := list8_nat h
    have HE := Lib.hid (paI_nat hL hm1 h)
    have HP := Lib.hid (sParity8 A L ca per m w ha hL hm1 hm10 (by omega) hLb)
    rw [zI_length] at HG ⊢
    clear ha h hl h60 hLb hL
    go_enter Try.func31, Try.ntmps31
    go_wp2_with (go_at_call 40; refine HG.out.mono ?_; rintro e w' ⟨rfl, rfl⟩)
    refine HP.out.mono ?_
    rintro e w3 ⟨v3, rfl, ho3, hb3⟩
    have HO3 := Lib.hid ho3
    have HB3 := Lib.hid hb3
    obtain ⟨A3, c3, rfl, _⟩ := ho3.form
    clear ho3 hb3
    go_wp2_with fail
    go_ret2
    exact ⟨_, rfl, by rw [HE.out]; exact HO3.out, HB3.out⟩
end Go.Proofs.Ytipcdaiobfgkeaa
