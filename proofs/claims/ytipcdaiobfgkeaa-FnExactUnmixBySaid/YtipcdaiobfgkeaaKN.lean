/-
  The model of chapter 8: l8Shape, l8List, l8Place, PlaceOf, SpreadOf.
-/
import Derived.Test.YtipcdaiobfgkeaaML
import Derived.Test.YtipcdaiobfgkeaaJW
namespace Go.Proofs.Ytipcdaiobfgkeaa
open Go.RowKit

theorem own8_put {w : World} {base g n cap : Nat} {zs : List Int} (h : Own w base (.slice (some ⟨g, 0, none⟩) n cap) zs) {j : Nat} (z : Int) :
    Own (w.setCell ⟨g, j, none⟩ (.int .i64 z)) base (.slice (some ⟨g, 0, none⟩) n cap) (zs.set j z) ∧ w.grownBy (w.setCell ⟨g, j, none⟩ (.int .i64 z)) (some g) := by
  have hl := own_len h
  subst hl
  have hs := World.ownsRow.stored h j (.int .i64 z)
  refine ⟨?_, hs.2⟩
  unfold Own
  rw [List.length_set, List.map_set]
  exact hs.1
theorem own8_at {w : World} {base g n cap : Nat} {O : List Nat} (h : Own w base (.slice (some ⟨g, 0, none⟩) n cap) (zI O)) {j : Nat} (hj : j < O.length) : w.cell? ⟨g, j, none⟩ = some (.int .i64 (O[j] : Nat)) ∧ w.frozen? ⟨g, j, none⟩ = false ∧ n = O.length ∧ base ≤ g := by
  have hl : n = (zI O).length := own_len h
  rw [zI_length] at hl
  have h' : w.ownsRow base 3 1 (.slice (some ⟨g, 0, none⟩) n cap) n ((zI O).map (Value.int .i64)) := by
    have h0 := h
    unfold Own at h0
    rw [zI_length, ← hl] at h0
    exact h0
  refine ⟨?_, World.ownsRow.frozenAt h' j, hl, (h.lt g rfl).1⟩
  rw [World.ownsRow.cellAt h' j (by omega)]
  simp [zI, hj]
theorem zI8_set (O : List Nat) (j z : Nat) : zI (O.set j z) = (zI O).set j (z : Int) := by simp [zI, List.map_set]

def shape8 (a n : Int) : Bool := inB a 0 60 && (inB n 1 10 && decide (a % n = 0))
def list8 (zs : List Int) (n : Int) : Bool := shape8 (zs.length : Int) n && allIn zs 255
theorem shape8_nat {a n : Int} (h : shape8 a n = true) : ∃ per m : Nat, a = ((per * m : Nat) : Int) ∧ n = m ∧ 1 ≤ m ∧ m ≤ 10 ∧ per * m ≤ 60 := by
  simp only [shape8, Bool.and_eq_true, decide_eq_true_eq] at h
  have h1 : 0 ≤ a ∧ a ≤ 60 := by simpa [inB] using h.1
  have h2 : 1 ≤ n ∧ n ≤ 10 := by simpa [inB] using h.2.1
  obtain ⟨A, rfl⟩ := Int.eq_ofNat_of_zero_le h1.1
  obtain ⟨m, rfl⟩ := Int.eq_ofNat_of_zero_le (show 0 ≤ n by omega)
  have h3 : A % m = 0 := by have := h.2.2; exact_mod_cast this
  have h4 := Nat.div_mul_cancel (Nat.dvd_of_mod_eq_zero h3)
  exact ⟨A / m, m, by rw [h4], rfl, by omega, by omega, by omega⟩
theorem list8_nat {zs : List Int} {n : Int} (h : list8 zs n = true) : ∃ (L : List Nat) (per m : Nat), zs = zI L ∧ L.length = per * m ∧ n = m ∧ 1 ≤ m ∧ m ≤ 10 ∧ per * m ≤ 60 ∧ ∀ c ∈ L, c < 256 := by
  simp only [list8, Bool.and_eq_true] at h
  obtain ⟨h1, h2⟩ := h
  obtain ⟨per, m, e1, rfl, hm1, hm10, h60⟩ := shape8_nat h1
  have hz : ∀ z ∈ zs, 0 ≤ z ∧ z ≤ 255 := fun z hz => by
    have := List.all_eq_true.1 h2 z hz
    simpa [inB] using this
  refine ⟨zs.map Int.toNat, per, m, ?_, by simp; omega, rfl, hm1, hm10, h60, fun c hc => ?_⟩
  · unfold zI
    rw [List.map_map]
    conv => lhs; rw [← List.map_id zs]
    refine List.map_congr_left fun z hzm => ?_
    have := hz z hzm
    simp; omega
  · obtain ⟨z, hzm, rfl⟩ := List.mem_map.1 hc
    have := hz z hzm
    omega
set_option maxRecDepth 100000 in
set_option maxHeartbeats 1000000 in
theorem sShape8 (a n : Int) (w : World) : Calls Try.prog 46 #[.int .i64 a, .int .i64 n] w fun e w' => e = .returned (.bool (shape8 a n)) ∧ w = w' := by
  cases h1 : inB a 0 60
  · have HE : Hid (shape8 a n = false) := by show _ = _; rw [shape8, h1]; rfl
    go_enter Try.func46, Try.ntmps46
    go_wp2_with (go_at_call 47; refine (l1In_any _ _ _ _).mono ?_; rintro e w' ⟨rfl, rfl⟩)
    go_ret
    exact ⟨ret_bool' HE.out.symm, rfl⟩
  · cases h2 : inB n 1 10
    · have HE : Hid (shape8 a n = false) := by show _ = _; rw [shape8, h1, h2]; rfl
      go_enter Try.func46, Try.ntmps46
      go_wp2_with (go_at_call 47; refine (l1In_any _ _ _ _).mono ?_; rintro e w' ⟨rfl, rfl⟩)
      go_ret
      exact ⟨ret_bool' HE.out.symm, rfl⟩
    · have HE : Hid (shape8 a n = decide (a % n = 0)) := by show _ = _; rw [shape8, h1, h2]; rfl
      have h3 : 0 ≤ a ∧ a ≤ 60 := by simpa [inB] using h1
      have h4 : 1 ≤ n ∧ n ≤ 10 := by simpa [inB] using h2
      go_enter Try.func46, Try.ntmps46
      go_wp2_with (go_at_call 47; refine (l1In_any _ _ _ _).mono ?_; rintro e w' ⟨rfl, rfl⟩)
      go_ret
      refine ⟨ret_bool' ?_, rfl⟩
      rw [HE.out]
      rfl
set_option maxRecDepth 100000 in
set_option maxHeartbeats 1000000 in
theorem sList8 (A : Option Addr) (zs : List Int) (ca : Nat) (n : Int) (w : World) (ha : Ints w A zs) (hl : zs.length ≤ 1048576) :
    Calls Try.prog 40 #[.slice A zs.length ca, .int .i64 n] w fun e w' => e = .returned (.bool (list8 zs n)) ∧ w = w' := by
  have HS := Lib.hid (sShape8 (zs.length : Int) n w)
  cases h : shape8 (zs.length : Int) n
  · have HE : Hid (list8 zs n = false) := by show _ = _; rw [list8, h]; rfl
    rw [h] at HS
    go_enter Try.func40, Try.ntmps40
    go_wp2_with (go_at_call 46; refine HS.out.mono ?_; rintro e w' ⟨rfl, rfl⟩)
    go_ret
    exact ⟨ret_bool' HE.out.symm, rfl⟩
  · have HE : Hid (list8 zs n = allIn zs 255) := by show _ = _; rw [list8, h]; rfl
    rw [h] at HS
    go_enter Try.func40, Try.ntmps40
    go_wp2_with (first
      | (go_at_call 46; refine HS.out.mono ?_; rintro e w' ⟨rfl, rfl⟩)
      | (go_at_call 53; refine (sAll A zs ca _ _ ha hl).mono ?_; rintro e w' ⟨rfl, rfl⟩))
    go_ret
    exact ⟨ret_bool' HE.out.symm, rfl⟩
theorem mul8_bd {a b : Nat} {A B : Nat} (ha : a ≤ A) (hb : b ≤ B) : 0 ≤ (a : Int) * (b : Int) ∧ (a : Int) * (b : Int) ≤ ((A * B : Nat) : Int) := by
  have h := Nat.mul_le_mul ha hb
  have e : (a : Int) * (b : Int) = ((a * b : Nat) : Int) := by simp
  rw [e]; omega
set_option maxRecDepth 100000 in
set_option maxHeartbeats 1000000 in
theorem sPlace8 (a per m k : Nat) (w : World) (hap : a = per * m) (hm1 : 1 ≤ m) (hm10 : m ≤ 10) (h60 : a ≤ 60) (hk : k < a) :
    Calls Try.prog 41 #[.int .i64 a, .int .i64 m, .int .i64 k] w fun e w' => e = .returned (.int .i64 (plN per m k : Nat)) ∧ Below w.heap.size w w' := by
  have hper : 1 ≤ per := by rcases Nat.eq_zero_or_pos per with rfl | h; (· simp at hap; omega); exact h
  have hp60 : per ≤ 60 := Nat.le_trans (Nat.le_mul_of_pos_right per (by omega)) (hap ▸ h60)
  have HE : Hid ((plN per m k : Nat) = k % per * m + k / per) := rfl
  have hr : k % per < per := Nat.mod_lt _ (by omega)
  have hqm : k / per ≤ k := Nat.div_le_self _ _
  have hqq : (a : Int) / (m : Int) = (per : Int) := by rw [← Int.natCast_ediv, hap, Nat.mul_div_cancel _ (by omega)]
  have hrr : (k : Int) % (per : Int) = ((k % per : Nat) : Int) := by rw [Int.natCast_emod]
  have hdd : (k : Int) / (per : Int) = ((k / per : Nat) : Int) := by rw [Int.natCast_ediv]
  generalize plN per m k = pl at *
  generalize k % per = r at *
  generalize k / per = q at *
  clear hap
  obtain ⟨hb0, hb1⟩ := mul8_bd (a := r) (b := m) (A := 60) (B := 10) (by omega) hm10
  go_enter Try.func41, Try.ntmps41
  go_wp2_with fail
  go_quiet (fail)
  go_wp2_with fail
  go_ret
  exact ⟨by rw [HE.out]; simp, gDrewN _⟩
/-- The interleaved list, and the list before it was interleaved. -/
def mixI (zs : List Int) (n : Int) : List Int := if list8 zs n = true then zI (perm8 n.toNat (zs.length / n.toNat) (zs.map Int.toNat)) else []
def unmixI (zs : List Int) (n : Int) : List Int := if list8 zs n = true then zI (perm8 (zs.length / n.toNat) n.toNat (zs.map Int.toNat)) else []
theorem zI8_back (L : List Nat) : (zI L).map Int.toNat = L := by simp [zI, List.map_map, Function.comp_def]
theorem mixI_nat {L : List Nat} {per m : Nat} (hL : L.length = per * m) (hm1 : 1 ≤ m) (h : list8 (zI L) (m : Int) = true) : mixI (zI L) (m : Int) = zI (perm8 m per L) ∧ unmixI (zI L) (m : Int) = zI (perm8 per m L) := by
  rw [mixI, unmixI, if_pos h, if_pos h, zI8_back, zI_length, Int.toNat_natCast, hL, Nat.mul_div_cancel _ (by omega)]
  exact ⟨rfl, rfl⟩
theorem mixI_len (zs : List Int) (n : Int) : (mixI zs n).length ≤ 60 ∧ (unmixI zs n).length ≤ 60 := by
  cases h : list8 zs n
  · rw [mixI, unmixI, h]; simp
  · obtain ⟨L, per, m, rfl, hL, rfl, hm1, _, h60, _⟩ := list8_nat h
    rw [(mixI_nat hL hm1 h).1, (mixI_nat hL hm1 h).2, zI_length, zI_length, perm8_length, perm8_length, Nat.mul_comm m per]
    exact ⟨h60, h60⟩
theorem fresh8 {w w2 : World} {n : Nat} (hown2 : w2.ownsRow w.heap.size 3 1 (.slice (some ⟨w.heap.size, 0, none⟩) n n) n (madeCells (Value.int .i64 0).cells (n * 1)).toList) : Own w2 w.heap.size (.slice (some ⟨w.heap.size, 0, none⟩) n n) (zI (List.replicate n 0)) := by
  have h := hown2
  rw [made_row _ _ rfl] at h
  unfold Own
  rw [zI_length, List.length_replicate]
  simpa [zI] using h
set_option maxRecDepth 100000 in
set_option maxHeartbeats 2000000 in
theorem sMix_any (A : Option Addr) (zs : List Int) (ca : Nat) (n : Int) (w : World) (ha : Ints w A zs) (hl : zs.length ≤ 1048576) :
    Calls Try.prog 14 #[.slice A zs.length ca, .int .i64 n] w fun e w' => ∃ v, e = .returned (.tuple #[v, .bool (list8 zs n)]) ∧ Own w' w.heap.size v (mixI zs n) ∧ Below w.heap.size w w' := by
  have HG := Lib.hid (sList8 A zs ca n w ha hl)
  cases h : list8 zs n
  · have HE : Hid (mixI zs n = []) := by show _ = _; rw [mixI, h]; rfl
    rw [h] at HG
    clear ha
    go_enter Try.func14, Try.ntmps14
    go_wp2_with (go_at_call 40; refine HG.out.mono ?_; rintro e w' ⟨rfl, rfl⟩)
    go_ret2
    exact ⟨_, rfl, by rw [HE.out]; exact Own.nil _ _, Below.refl _ _⟩
  · rw [h] at HG
    obtain ⟨L, per, m, rfl, hL, rfl, hm1, hm10, h60, hLb⟩ := list8_nat h
    have HE := Lib.hid (mixI_nat hL hm1 h).1
    have HA := Lib.hid ha
    have HF := Lib.hid (fill8_end per m L)
    have HZ := Lib.hid (fill8_zero per m L)
    obtain ⟨i0, hi, hz0, hz1, hz2⟩ := info_parts intInfo
    rw [zI_length] at HG ⊢
    have HP := Lib.hid (fun k w hk => sPlace8 L.length per m k w hL hm1 hm10 (by omega) hk)
    have HFs := Lib.hid (fun k (hk : k < L.length) => fill8_step (a := per) (b := m) (L := L) (k := k) (by omega))
    have HFl := Lib.hid (fun k => (fill8_length per m L k).trans hL.symm)
    have HLt := Lib.hid (fun k (hk : k < L.length) => pl_lt (a := per) (b := m) (k := k) (by omega))
    rw [← hL] at HF HZ HLt
    have hl60 : L.length ≤ 60 := by omega
    clear ha h hl h60 hLb hL
    go_enter Try.func14, Try.ntmps14
    go_wp2_with (first
      | (go_at_call 40; refine HG.out.mono ?_; rintro e w' ⟨rfl, rfl⟩)
      | (at_make; refine wpList_make_full _ rfl _ _ 23 rfl w.heap.size 3 i0 (.int .i64 0) 1 Try.underlying23 hi hz0 hz1 .i64 .i64 _ _ L.length rfl rfl rfl rfl (by rw [hz2]; omega) (by unfold maxLen; omega) (Nat.le_refl _) ?_; intro w2 hown2 hgr2))
    have HB2 : Hid (Below w.heap.size w w2) := (Below.refl _ _).grown hgr2 (Nat.le_refl _) (by simp)
    have HO2 := Lib.hid (fresh8 hown2)
    rw [← HZ.out] at HO2
    clear hgr2 hown2 hi hz0 hz1 hz2
    generalize hg0 : w.heap.size = g at *
    have HG0 := Lib.hid hg0
    clear hg0
    go_wp2_with fail
    go_loopg [18] L.length (fun gk i wr => ∃ k : Nat, k + gk = L.length ∧ i = .int .i64 k ∧ Own wr g (.slice (some ⟨g, 0, none⟩) L.length L.length) (zI (fill8 per m L k)) ∧ Below g w wr)
    case atStart => exact ⟨0, by omega, rfl, HO2.out, HB2.out⟩
    case round =>
      obtain ⟨k, hg, rfl, hown, hbel⟩ := hrel
      have HO := Lib.hid hown
      have HB := Lib.hid hbel
      clear hown hbel HO2 HB2
      by_cases hlt : k < L.length
      · have hki : (k : Int) < (L.length : Int) := by omega
        have HGK : Hid (L.length - k - 1 < gk ∧ k + 1 + (L.length - k - 1) = L.length) := by show _ ∧ _; omega
        obtain ⟨b1, o1, rfl, hc1⟩ := (HA.out.below (by rw [HG0.out]; exact HB.out)).cellN hlt
        have HSt : Hid (fill8 per m L (k + 1) = (fill8 per m L k).set (plN per m k) L[k]) := by show _ = _; rw [HFs.out k hlt, show L.getD k 0 = L[k] by simp [List.getD, hlt]]
        have hpl := HLt.out k hlt
        have HC := Lib.hid (HP.out k wr hlt)
        have hpf : plN per m k < (fill8 per m L k).length := by rw [HFl.out k]; exact hpl
        generalize plN per m k = p at *
        generalize L[k] = c at *
        clear hg
        go_wp2_with fail
        refine HC.out.mono ?_
        rintro e w3 ⟨rfl, hb3⟩
        have hO3 := HO.out.below hb3
        obtain ⟨q1, f1, -, -⟩ := own8_at hO3 hpf
        have hP := (own8_put hO3 (j := p) (c : Int)).1
        rw [← zI8_set, ← HSt.out] at hP
        have HO4 := Lib.hid hP
        have hb4 : Below w.heap.size w w3 := below_more (by rw [HG0.out]; exact HB.out) hb3
        rw [HG0.out] at hb4
        have HB4 : Hid (Below g w (w3.setCell ⟨g, p, none⟩ (.int .i64 (c : Nat)))) := hb4.setCell (Nat.le_refl _) _
        clear hb4
        generalize (fill8 per m L k)[p] = y at *
        clear hpf hO3 hP hb3 HO HB hc1
        go_wp2_with fail
        go_roundg (L.length - k - 1)
        case measure => exact HGK.out.1
        case rel => exact ⟨k + 1, HGK.out.2, by go_num, HO4.out, HB4.out⟩
      · obtain rfl : k = L.length := by omega
        have hki : ¬ (L.length : Int) < (L.length : Int) := by omega
        have HO' := HO
        rw [HF.out] at HO'
        go_wp2_with fail
        go_ret2
        exact ⟨_, rfl, by rw [HE.out, HG0.out]; exact HO'.out, by rw [HG0.out]; exact HB.out⟩
/-- A list that is being filled from its start, zeros behind. -/
def part8 (P : List Nat) (k : Nat) : List Nat := P.take k ++ List.replicate (P.length - k) 0
theorem part8_length {P : List Nat} {k : Nat} (h : k ≤ P.length) : (part8 P k).length = P.length := by simp [part8]; omega
theorem part8_zero (P : List Nat) : part8 P 0 = List.replicate P.length 0 := by simp [part8]
theorem part8_end (P : List Nat) : part8 P P.length = P := by simp [part8]
theorem part8_step {P : List Nat} {k : Nat} (h : k < P.length) : part8 P (k + 1) = (part8 P k).set k P[k] := by
  unfold part8
  have hk : (P.take k).length = k := by rw [List.length_take]; omega
  rw [List.set_append_right _ _ (by omega), hk, Nat.sub_self, List.take_succ_eq_append_getElem h, List.append_assoc]
  congr 1
  rw [show P.length - k = (P.length - (k + 1)) + 1 by omega, List.replicate_succ]
  rfl
set_option maxRecDepth 100000 in
set_option maxHeartbeats 2000000 in
theorem sUnmix_any (A : Option Addr) (zs : List Int) (ca : Nat) (n : Int) (w : World) (ha : Ints w A zs) (hl : zs.length ≤ 1048576) :
    Calls Try.prog 16 #[.slice A zs.length ca, .int .i64 n] w fun e w' => ∃ v, e = .returned (.tuple #[v, .bool (list8 zs n)]) ∧ Own w' w.heap.size v (unmixI zs n) ∧ Below w.heap.size w w' := by
  have HG := Lib.hid (sList8 A zs ca n w ha hl)
  cases h : list8 zs n
  · have HE : Hid (unmixI zs n = []) := by show _ = _; rw [unmixI, h]; rfl
    rw [h] at HG
    clear ha
    go_enter Try.func16, Try.ntmps16
    go_wp2_with (go_at_call 40; refine HG.out.mono ?_; rintro e w' ⟨rfl, rfl⟩)
    go_ret2
    exact ⟨_, rfl, by rw [HE.out]; exact Own.nil _ _, Below.refl _ _⟩
  · rw [h] at HG
    obtain ⟨L, per, m, rfl, hL, rfl, hm1, hm10, h60, hLb⟩ := list8_nat h
    have HE := Lib.hid (mixI_nat hL hm1 h).2
    have HA := Lib.hid ha
    obtain ⟨i0, hi, hz0, hz1, hz2⟩ := info_parts intInfo
    rw [zI_length] at HG ⊢
    have HP := Lib.hid (fun k w hk => sPlace8 L.length per m k w hL hm1 hm10 (by omega) hk)
    have HLt := Lib.hid (fun k (hk : k < L.length) => pl_lt (a := per) (b := m) (k := k) (by omega))
    rw [← hL] at HLt
    have HPl : Hid ((perm8 per m L).length = L.length) := by show _ = _; rw [perm8_length, hL]
    have HPa : Hid (∀ k (hk : k < (perm8 per m L).length) (hp : plN per m k < L.length), (perm8 per m L)[k] = L[plN per m k]) := fun k hk hp => by
      simp [perm8, List.getD, hp]
    have hl60 : L.length ≤ 60 := by omega
    have HZ := Lib.hid (part8_zero (perm8 per m L))
    have HF := Lib.hid (part8_end (perm8 per m L))
    rw [HPl.out] at HZ HF
    clear ha h hl h60 hLb hL
    generalize perm8 per m L = P at *
    go_enter Try.func16, Try.ntmps16
    go_wp2_with (first
      | (go_at_call 40; refine HG.out.mono ?_; rintro e w' ⟨rfl, rfl⟩)
      | (at_make; refine wpList_make_full _ rfl _ _ 23 rfl w.heap.size 3 i0 (.int .i64 0) 1 Try.underlying23 hi hz0 hz1 .i64 .i64 _ _ L.length rfl rfl rfl rfl (by rw [hz2]; omega) (by unfold maxLen; omega) (Nat.le_refl _) ?_; intro w2 hown2 hgr2))
    have HB2 : Hid (Below w.heap.size w w2) := (Below.refl _ _).grown hgr2 (Nat.le_refl _) (by simp)
    have HO2 := Lib.hid (fresh8 hown2)
    rw [← HZ.out] at HO2
    clear hgr2 hown2 hi hz0 hz1 hz2
    generalize hg0 : w.heap.size = g at *
    have HG0 := Lib.hid hg0
    clear hg0
    go_wp2_with fail
    go_loopg [17] L.length (fun gk i wr => ∃ k : Nat, k + gk = L.length ∧ i = .int .i64 k ∧ Own wr g (.slice (some ⟨g, 0, none⟩) L.length L.length) (zI (part8 P k)) ∧ Below g w wr)
    case atStart => exact ⟨0, by omega, rfl, HO2.out, HB2.out⟩
    case round =>
      obtain ⟨k, hg, rfl, hown, hbel⟩ := hrel
      have HO := Lib.hid hown
      have HB := Lib.hid hbel
      clear hown hbel HO2 HB2
      by_cases hlt : k < L.length
      · have hki : (k : Int) < (L.length : Int) := by omega
        have HGK : Hid (L.length - k - 1 < gk ∧ k + 1 + (L.length - k - 1) = L.length) := by show _ ∧ _; omega
        have hpl := HLt.out k hlt
        have hkP : k < P.length := by rw [HPl.out]; exact hlt
        have HC := Lib.hid (HP.out k wr hlt)
        have HSt := Lib.hid (part8_step hkP)
        rw [HPa.out k hkP hpl] at HSt
        have hpf : k < (part8 P k).length := by rw [part8_length (by omega)]; exact hkP
        have HcN : Hid (∀ w', Below g w w' → ∃ b o, A = some ⟨b, o, none⟩ ∧ w'.cell? ⟨b, o + plN per m k, none⟩ = some (.int .i64 (L[plN per m k] : Nat))) := fun w' hb' => by
          obtain ⟨b1, o1, e1, hc1⟩ := (HA.out.below (by rw [HG0.out]; exact hb')).cellN hpl
          exact ⟨b1, o1, e1, hc1⟩
        generalize L[plN per m k] = c at *
        generalize plN per m k = p at *
        clear hg hkP
        go_wp2_with fail
        refine HC.out.mono ?_
        rintro e w3 ⟨rfl, hb3⟩
        have hO3 := HO.out.below hb3
        obtain ⟨q1, f1, -, -⟩ := own8_at hO3 hpf
        have hP := (own8_put hO3 (j := k) (c : Int)).1
        rw [← zI8_set, ← HSt.out] at hP
        have HO4 := Lib.hid hP
        have hb4 : Below w.heap.size w w3 := below_more (by rw [HG0.out]; exact HB.out) hb3
        rw [HG0.out] at hb4
        obtain ⟨b1, o1, rfl, hc1⟩ := HcN.out w3 hb4
        have HB4 : Hid (Below g w (w3.setCell ⟨g, k, none⟩ (.int .i64 (c : Nat)))) := hb4.setCell (Nat.le_refl _) _
        generalize (part8 P k)[k] = y at *
        clear hpf hO3 hP hb3 HO HB hb4 HcN
        have hpi : (p : Int) < (L.length : Int) := by omega
        go_wp2_with fail
        go_roundg (L.length - k - 1)
        case measure => exact HGK.out.1
        case rel => exact ⟨k + 1, HGK.out.2, by go_num, HO4.out, HB4.out⟩
      · obtain rfl : k = L.length := by omega
        have hki : ¬ (L.length : Int) < (L.length : Int) := by omega
        have HO' := HO
        rw [HF.out] at HO'
        go_wp2_with fail
        go_ret2
        exact ⟨_, rfl, by rw [HE.out, HG0.out]; exact HO'.out, by rw [HG0.out]; exact HB.out⟩
def plOkB (a n k : Int) : Bool := shape8 a n && inB k 0 (a - 1)
def plI (a n k : Int) : Int := if plOkB a n k = true then (plN (a.toNat / n.toNat) n.toNat k.toNat : Nat) else 0
set_option maxRecDepth 100000 in
set_option maxHeartbeats 1000000 in
theorem sPlaceOf_any (a n k : Int) (w : World) : Calls Try.prog 33 #[.int .i64 a, .int .i64 n, .int .i64 k] w fun e w' => e = .returned (.tuple #[.int .i64 (plI a n k), .bool (plOkB a n k)]) ∧ Below w.heap.size w w' := by
  have HS := Lib.hid (sShape8 a n w)
  cases h1 : shape8 a n
  · have hok : plOkB a n k = false := by rw [plOkB, h1]; rfl
    have HE : Hid (plI a n k = 0) := by show _ = _; rw [plI, hok]; rfl
    rw [h1] at HS
    rw [hok]
    go_enter Try.func33, Try.ntmps33
    go_wp2_with (go_at_call 46; refine HS.out.mono ?_; rintro e w' ⟨rfl, rfl⟩)
    go_ret2
    exact ⟨by rw [HE.out]; rfl, Below.refl _ _⟩
  · rw [h1] at HS
    obtain ⟨per, m, rfl, rfl, hm1, hm10, h60⟩ := shape8_nat h1
    cases h2 : inB k 0 (((per * m : Nat) : Int) - 1)
    · have hok : plOkB ((per * m : Nat) : Int) (m : Int) k = false := by rw [plOkB, h2]; simp
      have HE : Hid (plI ((per * m : Nat) : Int) (m : Int) k = 0) := by show _ = _; rw [plI, hok]; rfl
      rw [hok]
      generalize per * m = a at *
      go_enter Try.func33, Try.ntmps33
      go_wp2_with (first
        | (go_at_call 46; refine HS.out.mono ?_; rintro e w' ⟨rfl, rfl⟩)
        | (go_at_call 47; refine (l1In_any _ _ _ _).mono ?_; rintro e w' ⟨rfl, rfl⟩))
      go_ret2
      exact ⟨by rw [HE.out]; rfl, Below.refl _ _⟩
    · have hok : plOkB ((per * m : Nat) : Int) (m : Int) k = true := by rw [plOkB, h1, h2]; rfl
      have hk : 0 ≤ k ∧ k ≤ ((per * m : Nat) : Int) - 1 := by simpa [inB] using h2
      obtain ⟨j, rfl⟩ := Int.eq_ofNat_of_zero_le hk.1
      have HE : Hid (plI ((per * m : Nat) : Int) (m : Int) (j : Int) = (plN per m j : Nat)) := by show _ = _; rw [plI, if_pos hok, Int.toNat_natCast, Int.toNat_natCast, Int.toNat_natCast, Nat.mul_div_cancel _ (by omega)]
      have HP := Lib.hid (sPlace8 (per * m) per m j w rfl hm1 hm10 h60 (by omega))
      rw [hok]
      generalize plN per m j = p at *
      clear hok h1
      generalize per * m = a at *
      go_enter Try.func33, Try.ntmps33
      go_wp2_with (first
        | (go_at_call 46; refine HS.out.mono ?_; rintro e w' ⟨rfl, rfl⟩)
        | (go_at_call 47; refine (l1In_any _ _ _ _).mono ?_; rintro e w' ⟨rfl, rfl⟩))
      refine HP.out.mono ?_
      rintro e w' ⟨rfl, hb⟩
      have HB := Lib.hid hb
      clear hb
      go_wp2_with fail
      go_ret2
      exact ⟨by rw [HE.out]; rfl, HB.out⟩
def spI (a n : Int) : Int := if shape8 a n = true then (if a / n < 2 then a else n) else 0
set_option maxRecDepth 100000 in
set_option maxHeartbeats 1000000 in
theorem sSpread_any (a n : Int) (w : World) : Calls Try.prog 25 #[.int .i64 a, .int .i64 n] w fun e w' => e = .returned (.tuple #[.int .i64 (spI a n), .bool (shape8 a n)]) ∧ w = w' := by
  have HS := Lib.hid (sShape8 a n w)
  cases h1 : shape8 a n
  · have HE : Hid (spI a n = 0) := by show _ = _; rw [spI, h1]; rfl
    rw [h1] at HS
    go_enter Try.func25, Try.ntmps25
    go_wp2_with (go_at_call 46; refine HS.out.mono ?_; rintro e w' ⟨rfl, rfl⟩)
    go_ret2
    exact ⟨by rw [HE.out]; rfl, rfl⟩
  · rw [h1] at HS
    have HE : Hid (spI a n = if a / n < 2 then a else n) := by show _ = _; rw [spI, if_pos h1]
    obtain ⟨per, m, e1, rfl, hm1, hm10, h60⟩ := shape8_nat h1
    have hq : a / (m : Int) = (per : Int) := by rw [e1, ← Int.natCast_ediv, Nat.mul_div_cancel _ (by omega)]
    have ha0 : 0 ≤ a ∧ a ≤ 60 := by omega
    rw [hq] at HE
    clear h1 e1 h60
    by_cases h2 : (per : Int) < 2
    · rw [if_pos h2] at HE
      go_enter Try.func25, Try.ntmps25
      go_wp2_with (go_at_call 46; refine HS.out.mono ?_; rintro e w' ⟨rfl, rfl⟩)
      go_ret2
      exact ⟨by rw [HE.out]; rfl, rfl⟩
    · rw [if_neg h2] at HE
      go_enter Try.func25, Try.ntmps25
      go_wp2_with (go_at_call 46; refine HS.out.mono ?_; rintro e w' ⟨rfl, rfl⟩)
      go_ret2
      exact ⟨by rw [HE.out]; rfl, rfl⟩
end Go.Proofs.Ytipcdaiobfgkeaa
