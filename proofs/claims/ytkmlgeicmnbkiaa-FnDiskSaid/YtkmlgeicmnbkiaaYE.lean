/-
  FnDisk walked, whatever the program's own texts are.
-/
import Derived.Test.YtkmlgeicmnbkiaaDI
import Derived.Test.YtkmlgeicmnbkiaaVO
namespace Go.Proofs.Ytkmlgeicmnbkiaa
open Go.RowKit

theorem ret_eq9 {b : Bool} : Ending.returned (.bool b) = Ending.returned (.bool b) := rfl
theorem below_drew9 {B : Nat} {w w' : World} (h : Below B w w') (n : Nat) : Below B w (w'.drewN n) := below_drewN h n
theorem sync_at9 {k : Nat} (hk : k < 12) : ∀ (qs : List (Int × ByteArray)) (s : List ByteArray), s.length = 12 → (∀ p ∈ qs, 0 ≤ p.1 ∧ p.1 ≤ 11) → (syncL s qs).getD k ⟨#[]⟩ = qs.foldl (fun x p => if p.1 = (k : Int) then p.2 else x) (s.getD k ⟨#[]⟩)
  | [], _, _, _ => rfl
  | p :: qs, s, hs, hq => by
    have hp := hq p (by simp)
    have ih := sync_at9 hk qs (s.set p.1.toNat p.2) (by rw [List.length_set]; exact hs) (fun q hq' => hq q (by simp [hq']))
    show (syncL (s.set p.1.toNat p.2) qs).getD k _ = _
    rw [ih, List.foldl_cons]
    congr 1
    rw [List.getD, List.getElem?_set]
    by_cases e : p.1 = (k : Int)
    · rw [if_pos (by omega), if_pos (by omega), if_pos e]; rfl
    · rw [if_neg (by omega), if_neg e]; rfl
theorem crash_far9 {ks : List Int} {torn : Int} {b : Nat} {ss : List ByteArray} {ps : List (Int × ByteArray)} {j : Nat} (hin : ∀ p ∈ ps, 0 ≤ p.1) (h : ps.any (fun p => p.1 == (j : Int)) = false) : ∀ k, k ≤ ps.length → (crL ks torn b ss ps k).getD j ⟨#[]⟩ = ss.getD j ⟨#[]⟩
  | 0, _ => rfl
  | k + 1, hk => by
    have ih := crash_far9 (ks := ks) (torn := torn) (b := b) (ss := ss) hin h k (by omega)
    have hkl : k < ps.length := by omega
    have hne : (ps.getD k (0, ⟨#[]⟩)).1.toNat ≠ j := by
      rw [show ps.getD k (0, ⟨#[]⟩) = ps[k] by simp [List.getD, hkl]]
      have h0 := hin ps[k] (List.getElem_mem hkl)
      have h1 := List.any_eq_false.1 h ps[k] (List.getElem_mem hkl)
      simp at h1
      omega
    have hset : ∀ (s : List ByteArray) (x : ByteArray), (s.set (ps.getD k (0, ⟨#[]⟩)).1.toNat x).getD j ⟨#[]⟩ = s.getD j ⟨#[]⟩ := fun s x => by
      rw [List.getD, List.getElem?_set, if_neg hne]; rfl
    rw [crL, crStep]
    split
    · rw [hset, keepS]; split
      · rw [hset, ih]
      · exact ih
    · rw [keepS]; split
      · rw [hset, ih]
      · exact ih
theorem crL_good9 {ks : List Int} {torn : Int} {b : Nat} {ss : List ByteArray} {ps : List (Int × ByteArray)} (hg : goodDB ss ps = true) (hb : b ≤ 16) : ∀ k, k ≤ ps.length → Good16 (crL ks torn b ss ps k)
  | 0, _ => ⟨(good_len hg).1, (good_len hg).2.2.1⟩
  | k + 1, hk => by
    have hkl : k < ps.length := by omega
    have hp := (good_len hg).2.2.2 ps[k] (List.getElem_mem hkl)
    rw [crL, show ps.getD k (0, ⟨#[]⟩) = ps[k] by simp [List.getD, hkl]]
    exact (crL_good9 hg hb k (by omega)).step ks torn k hp.2 (by omega) hb
theorem good16_good {s : List ByteArray} (h : Good16 s) : goodDB s [] = true := by
  simp only [goodDB, Bool.and_eq_true, decide_eq_true_eq]
  refine ⟨List.all_eq_true.2 fun x hx => ?_, rfl, h.1, by simp⟩
  simp [stB9, h.2 x hx]
theorem ra_sync9 {ss : List ByteArray} {ps : List (Int × ByteArray)} (hg : goodDB ss ps = true) : ∀ k, k ≤ 12 → raL (syncL ss ps) [] k = raL ss ps k
  | 0, _ => rfl
  | k + 1, hk => by
    rw [raL, raL, ra_sync9 hg k (by omega)]
    congr 1
    obtain ⟨h1, _, _, h4⟩ := good_len hg
    exact sync_at9 (by omega) ps ss h1 (fun p hp => (h4 p hp).1)
theorem crash_ok9 {ss : List ByteArray} {ps : List (Int × ByteArray)} {ks : List Int} {torn b : Int} : crOkB ss ps ks torn b = true →
    goodDB ss ps = true ∧ goodDB (crI ss ps ks torn b) [] = true ∧ goodDB (syI ss ps) [] = true ∧ (crI ss ps ks torn b).length = 12 ∧ (syI ss ps).length = 12 ∧
      (∀ j (h1 : j < (crI ss ps ks torn b).length) (h2 : j < ss.length), ps.any (fun p => p.1 == (j : Int)) = false → (crI ss ps ks torn b)[j] = ss[j]) ∧
      crOkB (syI ss ps) [] [] (-1) 0 = true ∧ crI (syI ss ps) [] [] (-1) 0 = syI ss ps ∧ raI (syI ss ps) [] = raI ss ps := fun h => by
  have h' := h
  simp only [crOkB, Bool.and_eq_true] at h'
  have hg := h'.1
  have hb : 0 ≤ b ∧ b ≤ 16 := by simpa [inB] using h'.2.2.2.2.1
  have e1 : crI ss ps ks torn b = crL ks torn b.toNat ss ps ps.length := by rw [crI, if_pos h]
  have e2 : syI ss ps = syncL ss ps := by rw [syI, if_pos hg]
  have hgs : goodDB (syncL ss ps) [] = true := good_sync hg
  have hc : Good16 (crL ks torn b.toNat ss ps ps.length) := crL_good9 hg (by omega) _ (Nat.le_refl _)
  obtain ⟨h1, h2, h3, h4⟩ := good_len hg
  have hok2 : crOkB (syncL ss ps) [] [] (-1) 0 = true := by rw [crOkB, hgs]; decide
  refine ⟨hg, by rw [e1]; exact good16_good hc, by rw [e2]; exact hgs, by rw [e1]; exact hc.1, by rw [e2, syncL_length]; exact h1, fun j hj1 hj2 hany => ?_, by rw [e2]; exact hok2, by rw [e2, crI, if_pos hok2]; rfl, ?_⟩
  · have hf := crash_far9 (ks := ks) (torn := torn) (b := b.toNat) (ss := ss) (fun p hp => (h4 p hp).1.1) hany ps.length (Nat.le_refl _)
    rw [← e1] at hf
    rw [show (crI ss ps ks torn b).getD j ⟨#[]⟩ = (crI ss ps ks torn b)[j] by simp [List.getD, hj1], show ss.getD j ⟨#[]⟩ = ss[j] by simp [List.getD, hj2]] at hf
    exact hf
  · rw [e2, raI, raI, if_pos hgs, if_pos hg]; exact ra_sync9 hg 12 (Nat.le_refl _)
set_option maxRecDepth 100000 in
set_option maxHeartbeats 8000000 in
theorem fnDisk_small {K : World → Prop} (hK : Stays5 K)
    (hG : ∀ (A B : Option Addr) (ss : List ByteArray) (ps : List (Int × ByteArray)) (ca cb : Nat) (w : World), K w → DiskIn w A B ss ps → Lies9 A ca → Lies9 B cb → Calls Try.prog 16 #[diskV (.slice A ss.length ca) (.slice B ps.length cb)] w fun e w' => e = .returned (.bool (goodDB ss ps)) ∧ Below w.heap.size w w')
    (hA : ∀ (A B : Option Addr) (ss : List ByteArray) (ps : List (Int × ByteArray)) (ca cb : Nat) (w : World), K w → DiskIn w A B ss ps → Lies9 A ca → Lies9 B cb → Calls Try.prog 19 #[diskV (.slice A ss.length ca) (.slice B ps.length cb)] w fun e w' => e = .returned (.tuple #[.string (raI ss ps), .bool (goodDB ss ps)]) ∧ Below w.heap.size w w')
    (hS : ∀ (A B : Option Addr) (ss : List ByteArray) (ps : List (Int × ByteArray)) (ca cb : Nat) (w : World), K w → DiskIn w A B ss ps → Lies9 A ca → Lies9 B cb → Calls Try.prog 18 #[diskV (.slice A ss.length ca) (.slice B ps.length cb)] w fun e w' => ∃ v1 v2, e = .returned (.tuple #[diskV v1 v2, .bool (goodDB ss ps)]) ∧ OwnD w' w.heap.size v1 v2 (syI ss ps) ([]) ∧ Below w.heap.size w w')
    (hC : ∀ (A B : Option Addr) (ss : List ByteArray) (ps : List (Int × ByteArray)) (ca cb : Nat) (C : Option Addr) (ks : List Int) (cc : Nat) (torn bb : Int) (w : World), K w → DiskIn w A B ss ps → Lies9 A ca → Lies9 B cb → Ints w C ks → Lies9 C cc → ks.length ≤ 1048576 → Calls Try.prog 13 #[diskV (.slice A ss.length ca) (.slice B ps.length cb), .slice C ks.length cc, .int .i64 torn, .int .i64 bb] w fun e w' => ∃ v1 v2, e = .returned (.tuple #[diskV v1 v2, .bool (crOkB ss ps ks torn bb)]) ∧ OwnD w' w.heap.size v1 v2 (crI ss ps ks torn bb) ([]) ∧ Below w.heap.size w w')
    (hN : ∀ (w : World), K w → Calls Try.prog 24 #[] w fun e w' => ∃ v1 v2, e = .returned (diskV v1 v2) ∧ OwnD w' w.heap.size v1 v2 (List.replicate 12 zero16) ([]) ∧ Below w.heap.size w w')
    (A : Option Addr) (za : List Int) (ca : Nat) (B : Option Addr) (zb : List Int) (cb : Nat) (w : World) (hw : K w) (ha : Byts w w.heap.size A za) (hb : Byts w w.heap.size B zb) (hl : za.length + zb.length ≤ 1048576) :
    Calls Try.prog 3 #[.slice A za.length ca, .slice B zb.length cb] w fun e w' => e = .returned (.bool true) ∧ Below w.heap.size w w' := by
  have HAy := Lib.hid ha
  have HBy := Lib.hid hb
  have HW := Lib.hid hw
  have HG := Lib.hid hG
  have HA := Lib.hid hA
  have HS := Lib.hid hS
  have HC := Lib.hid hC
  have HN := Lib.hid hN
  have hli : ¬ (1048576 : Int) < (za.length : Int) + (zb.length : Int) := by omega
  clear ha hb hw hG hA hS hC hN
  go_enter Try.func3, Try.ntmps3
  go_wp2_with fail
  refine (drawCrash9 A za ca _ HAy.out).mono ?_
  rintro e w1 ⟨vd0, vd1, vk, ss, ps, ks, torn, bb, rfl, hdr, hok0, hkl, ht0, ht1, hb0, hb1⟩
  have hld0 : ss.length ≤ 12 := by have := hdr.len; omega
  have hld1 : ps.length ≤ 41 := hdr.len2
  have HLd : Hid (ss.length = 12) := hdr.len
  have HZd0 : Hid (∀ s ∈ ss, s.size ≤ 1048576) := fun s hs => by have := hdr.size s hs; omega
  have HZd1 : Hid (∀ p ∈ ps, p.2.size ≤ 1048576) := fun p hp => by have := hdr.size2 p hp; omega
  obtain ⟨⟨hod0, hod1, had⟩, -, -, -, -, hbd⟩ := hdr
  obtain ⟨Ae, ce, hve, hre⟩ := hok0.form
  subst hve
  have hKe := hok0
  obtain ⟨Ad0, cd0, hvd0, hcapd0, _⟩ := OwnR.form fSt_len hod0
  subst hvd0
  obtain ⟨Ad1, cd1, hvd1, hcapd1, _⟩ := OwnR.form fPu_len hod1
  subst hvd1
  have HAp_d0_d1 := Lib.hid had
  have Hd0_1 := Lib.hid (hod0)
  have Hd1_1 := Lib.hid (hod1)
  have HB_1 := Lib.hid (hbd)
  clear hod0 hod1 had hbd
  have HKe_0 := Lib.hid hKe
  clear hKe hok0 hre
  obtain ⟨w2, hw2⟩ : ∃ wn, w1.alloc (.cells #[.slice Ad0 ss.length cd0, .slice Ad1 ps.length cd1] 26) = wn := ⟨_, rfl⟩
  have hbx : Below w1.heap.size w1 w2 := by rw [← hw2]; exact gAlloc _ _
  have KX : w2.heap[w1.heap.size]? = some (.cells #[.slice Ad0 ss.length cd0, .slice Ad1 ps.length cd1] 26 (0, 0)) := by rw [← hw2]; exact heap_alloc_new _ _
  have HNX_d_d0 := Lib.hid (fun g hg => Nat.ne_of_lt (Hd0_1.out.lt g hg).2)
  have HNX_d_d1 := Lib.hid (fun g hg => Nat.ne_of_lt (Hd1_1.out.lt g hg).2)
  have HNX_d_Ke := Lib.hid (fun g hg => Nat.ne_of_lt (HKe_0.out.lt g hg).2)
  have Hd0_3 := Lib.hid (Hd0_1.out.below hbx)
  have Hd1_3 := Lib.hid (Hd1_1.out.below hbx)
  have HKe_3 := Lib.hid (HKe_0.out.below hbx)
  have HB_3 := Lib.hid (below_more HB_1.out hbx)
  clear Hd0_1 Hd1_1 HKe_0 HB_1
  have Kd_2 := Lib.hid KX
  clear hbx KX
  have hVl := crI_len ss ps ks torn bb
  have HC1 := Lib.hid (fun A B C ca cb cc w hk hd hA hB hC hCl => HC.out A B ss ps ca cb C ks cc torn bb w hk hd hA hB hC hCl (by omega))
  have HC2 := Lib.hid (fun A B C ca cb cc w hd hA hC => sCrash_D A B C ss ps ks ca cb cc torn bb w hd hA hC (by omega))
  have HG1 := Lib.hid (fun A B ca cb w hk hd hA hB => HG.out A B ss ps ca cb w hk hd hA hB)
  have HG2 := Lib.hid (fun A B ca cb w hd => sGoodD_any A B ss ps ca cb w hd)
  have HOK := Lib.hid (crash_ok9 (ss := ss) (ps := ps) (ks := ks) (torn := torn) (b := bb))
  have HSg := Lib.hid (fun A B ss ps ca cb w hd hA => sSync_D A B ss ps ca cb w hd hA)
  have HNg := Lib.hid (fun w => sNewDisk_D w)
  have HGn := Lib.hid good_new
  have HZe0 : Hid (∀ p ∈ ([] : List (Int × ByteArray)), p.2.size ≤ 1048576) := fun p hp => by cases hp
  cases hok : crOkB ss ps ks torn bb
  · clear HOK
    generalize goodDB ss ps = gd at *
    rw [hok] at HC1 HC2
    have hU : ([] : List (Int × ByteArray)).length ≤ 41 := by simp
    clear hok
    generalize crI ss ps ks torn bb = V at *
    generalize ([] : List (Int × ByteArray)) = U at *
    have cd_0 : w2.cell? ⟨w1.heap.size, 0, none⟩ = some (.slice Ad0 ss.length cd0) := cell_of_row _ _ 0 _ _ _ Kd_2.out
    have cd_1 : w2.cell? ⟨w1.heap.size, 1, none⟩ = some (.slice Ad1 ps.length cd1) := cell_of_row _ _ 1 _ _ _ Kd_2.out
    go_wp2_with fail
    clear cd_0 cd_1 hw2
    refine (HC1.out Ad0 Ad1 Ae cd0 cd1 ce _ (hK _ _ HW.out HB_3.out) ⟨(OwnR.rd fSt_len Hd0_3.out), (OwnR.rd fPu_len Hd1_3.out), by omega, by omega, HZd0.out, HZd1.out⟩ (ownR_lies Hd0_3.out) (ownR_lies Hd1_3.out) (own_ints5 HKe_3.out) (own9_lies HKe_3.out)).mono ?_
    rintro e w3 ⟨vc0, vc1, rfl, hpk, hbc⟩
    obtain ⟨hoc0, hoc1, hac⟩ := hpk
    obtain ⟨Ac0, cc0, hvc0, hcapc0, _⟩ := OwnR.form fSt_len hoc0
    subst hvc0
    obtain ⟨Ac1, cc1, hvc1, hcapc1, _⟩ := OwnR.form fPu_len hoc1
    subst hvc1
    have HAp_d0_c0 := Lib.hid (apart5 (fun k hk => (Hd0_3.out.lt k hk).2) (fun k hk => (hoc0.lt k hk).1))
    have HAp_d1_c0 := Lib.hid (apart5 (fun k hk => (Hd1_3.out.lt k hk).2) (fun k hk => (hoc0.lt k hk).1))
    have HAp_Ke_c0 := Lib.hid (apart5 (fun k hk => (HKe_3.out.lt k hk).2) (fun k hk => (hoc0.lt k hk).1))
    have HAp_d0_c1 := Lib.hid (apart5 (fun k hk => (Hd0_3.out.lt k hk).2) (fun k hk => (hoc1.lt k hk).1))
    have HAp_d1_c1 := Lib.hid (apart5 (fun k hk => (Hd1_3.out.lt k hk).2) (fun k hk => (hoc1.lt k hk).1))
    have HAp_Ke_c1 := Lib.hid (apart5 (fun k hk => (HKe_3.out.lt k hk).2) (fun k hk => (hoc1.lt k hk).1))
    have HNX_d_c0 := Lib.hid (fun g hg => Nat.ne_of_gt (Nat.lt_of_lt_of_le (heap_lt Kd_2.out) (hoc0.lt g hg).1))
    have HNX_d_c1 := Lib.hid (fun g hg => Nat.ne_of_gt (Nat.lt_of_lt_of_le (heap_lt Kd_2.out) (hoc1.lt g hg).1))
    have HAp_c0_c1 := Lib.hid hac
    have Hd0_4 := Lib.hid (Hd0_3.out.below hbc)
    have Hd1_4 := Lib.hid (Hd1_3.out.below hbc)
    have HKe_4 := Lib.hid (HKe_3.out.below hbc)
    have Hc0_4 := Lib.hid (hoc0.lower HB_3.out.size)
    have Hc1_4 := Lib.hid (hoc1.lower HB_3.out.size)
    have Kd_4 := Lib.hid ((hbc.block _ (heap_lt Kd_2.out)).trans Kd_2.out)
    have HB_4 := Lib.hid (below_more HB_3.out hbc)
    clear Hd0_3 Hd1_3 HKe_3 Kd_2 HB_3 hoc0 hoc1 hac hbc
    obtain ⟨w4, hw5⟩ : ∃ wn, w3.alloc (.cells #[.slice Ac0 V.length cc0, .slice Ac1 U.length cc1] 26) = wn := ⟨_, rfl⟩
    have hbx : Below w3.heap.size w3 w4 := by rw [← hw5]; exact gAlloc _ _
    have KX : w4.heap[w3.heap.size]? = some (.cells #[.slice Ac0 V.length cc0, .slice Ac1 U.length cc1] 26 (0, 0)) := by rw [← hw5]; exact heap_alloc_new _ _
    have HNX_c_d0 := Lib.hid (fun g hg => Nat.ne_of_lt (Hd0_4.out.lt g hg).2)
    have HNX_c_d1 := Lib.hid (fun g hg => Nat.ne_of_lt (Hd1_4.out.lt g hg).2)
    have HNX_c_Ke := Lib.hid (fun g hg => Nat.ne_of_lt (HKe_4.out.lt g hg).2)
    have HNX_c_c0 := Lib.hid (fun g hg => Nat.ne_of_lt (Hc0_4.out.lt g hg).2)
    have HNX_c_c1 := Lib.hid (fun g hg => Nat.ne_of_lt (Hc1_4.out.lt g hg).2)
    have Hd0_6 := Lib.hid (Hd0_4.out.below hbx)
    have Hd1_6 := Lib.hid (Hd1_4.out.below hbx)
    have HKe_6 := Lib.hid (HKe_4.out.below hbx)
    have Hc0_6 := Lib.hid (Hc0_4.out.below hbx)
    have Hc1_6 := Lib.hid (Hc1_4.out.below hbx)
    have Kd_6 := Lib.hid ((hbx.block _ (heap_lt Kd_4.out)).trans Kd_4.out)
    have HB_6 := Lib.hid (below_more HB_4.out hbx)
    clear Hd0_4 Hd1_4 HKe_4 Hc0_4 Hc1_4 Kd_4 HB_4
    have Kc_5 := Lib.hid KX
    clear hbx KX
    have cd_0 : w4.cell? ⟨w1.heap.size, 0, none⟩ = some (.slice Ad0 ss.length cd0) := cell_of_row _ _ 0 _ _ _ Kd_6.out
    have cd_1 : w4.cell? ⟨w1.heap.size, 1, none⟩ = some (.slice Ad1 ps.length cd1) := cell_of_row _ _ 1 _ _ _ Kd_6.out
    have cc_0 : w4.cell? ⟨w3.heap.size, 0, none⟩ = some (.slice Ac0 V.length cc0) := cell_of_row _ _ 0 _ _ _ Kc_5.out
    have cc_1 : w4.cell? ⟨w3.heap.size, 1, none⟩ = some (.slice Ac1 U.length cc1) := cell_of_row _ _ 1 _ _ _ Kc_5.out
    go_wp2_with fail
    clear cd_0 cd_1 cc_0 cc_1 hw5
    refine (HC2.out Ad0 Ad1 Ae cd0 cd1 ce _ ⟨(OwnR.rd fSt_len Hd0_6.out), (OwnR.rd fPu_len Hd1_6.out), by omega, by omega, HZd0.out, HZd1.out⟩ (ownR_lies Hd0_6.out) (own_ints5 HKe_6.out)).mono ?_
    rintro e w5 ⟨vq0, vq1, rfl, hpk, hbq⟩
    obtain ⟨hoq0, hoq1, haq⟩ := hpk
    obtain ⟨Aq0, cq0, hvq0, hcapq0, _⟩ := OwnR.form fSt_len hoq0
    subst hvq0
    obtain ⟨Aq1, cq1, hvq1, hcapq1, _⟩ := OwnR.form fPu_len hoq1
    subst hvq1
    have HAp_d0_q0 := Lib.hid (apart5 (fun k hk => (Hd0_6.out.lt k hk).2) (fun k hk => (hoq0.lt k hk).1))
    have HAp_d1_q0 := Lib.hid (apart5 (fun k hk => (Hd1_6.out.lt k hk).2) (fun k hk => (hoq0.lt k hk).1))
    have HAp_Ke_q0 := Lib.hid (apart5 (fun k hk => (HKe_6.out.lt k hk).2) (fun k hk => (hoq0.lt k hk).1))
    have HAp_c0_q0 := Lib.hid (apart5 (fun k hk => (Hc0_6.out.lt k hk).2) (fun k hk => (hoq0.lt k hk).1))
    have HAp_c1_q0 := Lib.hid (apart5 (fun k hk => (Hc1_6.out.lt k hk).2) (fun k hk => (hoq0.lt k hk).1))
    have HAp_d0_q1 := Lib.hid (apart5 (fun k hk => (Hd0_6.out.lt k hk).2) (fun k hk => (hoq1.lt k hk).1))
    have HAp_d1_q1 := Lib.hid (apart5 (fun k hk => (Hd1_6.out.lt k hk).2) (fun k hk => (hoq1.lt k hk).1))
    have HAp_Ke_q1 := Lib.hid (apart5 (fun k hk => (HKe_6.out.lt k hk).2) (fun k hk => (hoq1.lt k hk).1))
    have HAp_c0_q1 := Lib.hid (apart5 (fun k hk => (Hc0_6.out.lt k hk).2) (fun k hk => (hoq1.lt k hk).1))
    have HAp_c1_q1 := Lib.hid (apart5 (fun k hk => (Hc1_6.out.lt k hk).2) (fun k hk => (hoq1.lt k hk).1))
    have HNX_d_q0 := Lib.hid (fun g hg => Nat.ne_of_gt (Nat.lt_of_lt_of_le (heap_lt Kd_6.out) (hoq0.lt g hg).1))
    have HNX_c_q0 := Lib.hid (fun g hg => Nat.ne_of_gt (Nat.lt_of_lt_of_le (heap_lt Kc_5.out) (hoq0.lt g hg).1))
    have HNX_d_q1 := Lib.hid (fun g hg => Nat.ne_of_gt (Nat.lt_of_lt_of_le (heap_lt Kd_6.out) (hoq1.lt g hg).1))
    have HNX_c_q1 := Lib.hid (fun g hg => Nat.ne_of_gt (Nat.lt_of_lt_of_le (heap_lt Kc_5.out) (hoq1.lt g hg).1))
    have HAp_q0_q1 := Lib.hid haq
    have Hd0_7 := Lib.hid (Hd0_6.out.below hbq)
    have Hd1_7 := Lib.hid (Hd1_6.out.below hbq)
    have HKe_7 := Lib.hid (HKe_6.out.below hbq)
    have Hc0_7 := Lib.hid (Hc0_6.out.below hbq)
    have Hc1_7 := Lib.hid (Hc1_6.out.below hbq)
    have Hq0_7 := Lib.hid (hoq0.lower HB_6.out.size)
    have Hq1_7 := Lib.hid (hoq1.lower HB_6.out.size)
    have Kd_7 := Lib.hid ((hbq.block _ (heap_lt Kd_6.out)).trans Kd_6.out)
    have Kc_7 := Lib.hid ((hbq.block _ (heap_lt Kc_5.out)).trans Kc_5.out)
    have HB_7 := Lib.hid (below_more HB_6.out hbq)
    clear Hd0_6 Hd1_6 HKe_6 Hc0_6 Hc1_6 Kd_6 Kc_5 HB_6 hoq0 hoq1 haq hbq
    obtain ⟨w6, hw8⟩ : ∃ wn, w5.alloc (.cells #[.slice Aq0 V.length cq0, .slice Aq1 U.length cq1] 26) = wn := ⟨_, rfl⟩
    have hbx : Below w5.heap.size w5 w6 := by rw [← hw8]; exact gAlloc _ _
    have KX : w6.heap[w5.heap.size]? = some (.cells #[.slice Aq0 V.length cq0, .slice Aq1 U.length cq1] 26 (0, 0)) := by rw [← hw8]; exact heap_alloc_new _ _
    have HNX_q_d0 := Lib.hid (fun g hg => Nat.ne_of_lt (Hd0_7.out.lt g hg).2)
    have HNX_q_d1 := Lib.hid (fun g hg => Nat.ne_of_lt (Hd1_7.out.lt g hg).2)
    have HNX_q_Ke := Lib.hid (fun g hg => Nat.ne_of_lt (HKe_7.out.lt g hg).2)
    have HNX_q_c0 := Lib.hid (fun g hg => Nat.ne_of_lt (Hc0_7.out.lt g hg).2)
    have HNX_q_c1 := Lib.hid (fun g hg => Nat.ne_of_lt (Hc1_7.out.lt g hg).2)
    have HNX_q_q0 := Lib.hid (fun g hg => Nat.ne_of_lt (Hq0_7.out.lt g hg).2)
    have HNX_q_q1 := Lib.hid (fun g hg => Nat.ne_of_lt (Hq1_7.out.lt g hg).2)
    have Hd0_9 := Lib.hid (Hd0_7.out.below hbx)
    have Hd1_9 := Lib.hid (Hd1_7.out.below hbx)
    have HKe_9 := Lib.hid (HKe_7.out.below hbx)
    have Hc0_9 := Lib.hid (Hc0_7.out.below hbx)
    have Hc1_9 := Lib.hid (Hc1_7.out.below hbx)
    have Hq0_9 := Lib.hid (Hq0_7.out.below hbx)
    have Hq1_9 := Lib.hid (Hq1_7.out.below hbx)
    have Kd_9 := Lib.hid ((hbx.block _ (heap_lt Kd_7.out)).trans Kd_7.out)
    have Kc_9 := Lib.hid ((hbx.block _ (heap_lt Kc_7.out)).trans Kc_7.out)
    have HB_9 := Lib.hid (below_more HB_7.out hbx)
    clear Hd0_7 Hd1_7 HKe_7 Hc0_7 Hc1_7 Hq0_7 Hq1_7 Kd_7 Kc_7 HB_7
    have Kq_8 := Lib.hid KX
    clear hbx KX
    clear HKe_9
    have cd_0 : w6.cell? ⟨w1.heap.size, 0, none⟩ = some (.slice Ad0 ss.length cd0) := cell_of_row _ _ 0 _ _ _ Kd_9.out
    have cd_1 : w6.cell? ⟨w1.heap.size, 1, none⟩ = some (.slice Ad1 ps.length cd1) := cell_of_row _ _ 1 _ _ _ Kd_9.out
    have cc_0 : w6.cell? ⟨w3.heap.size, 0, none⟩ = some (.slice Ac0 V.length cc0) := cell_of_row _ _ 0 _ _ _ Kc_9.out
    have cc_1 : w6.cell? ⟨w3.heap.size, 1, none⟩ = some (.slice Ac1 U.length cc1) := cell_of_row _ _ 1 _ _ _ Kc_9.out
    have cq_0 : w6.cell? ⟨w5.heap.size, 0, none⟩ = some (.slice Aq0 V.length cq0) := cell_of_row _ _ 0 _ _ _ Kq_8.out
    have cq_1 : w6.cell? ⟨w5.heap.size, 1, none⟩ = some (.slice Aq1 U.length cq1) := cell_of_row _ _ 1 _ _ _ Kq_8.out
    go_wp2_with fail
    go_region_held3 (fun w' => w'.cell? ⟨w3.heap.size, 0, none⟩ = some (.slice Ac0 V.length cc0) ∧ w'.cell? ⟨w3.heap.size, 1, none⟩ = some (.slice Ac1 U.length cc1) ∧ w'.cell? ⟨w5.heap.size, 0, none⟩ = some (.slice Aq0 V.length cq0) ∧ w'.cell? ⟨w5.heap.size, 1, none⟩ = some (.slice Aq1 U.length cq1) ∧ w'.cell? ⟨w1.heap.size, 0, none⟩ = some (.slice Ad0 ss.length cd0) ∧ w'.cell? ⟨w1.heap.size, 1, none⟩ = some (.slice Ad1 ps.length cd1)) (first | exact ⟨r2_cc_0, r2_cc_1, r2_cq_0, r2_cq_1, r2_cd_0, r2_cd_1⟩ | exact ⟨r1_cc_0, r1_cc_1, r1_cq_0, r1_cq_1, r1_cd_0, r1_cd_1⟩ | exact ⟨r0_cc_0, r0_cc_1, r0_cq_0, r0_cq_1, r0_cd_0, r0_cd_1⟩ | exact ⟨cc_0, cc_1, cq_0, cq_1, cd_0, cd_1⟩ | go_keep) (first
      | (go_at_call 17; refine (HG2.out Ad0 Ad1 cd0 cd1 _ ⟨(OwnR.rd fSt_len (((Hd0_9.out.below gDrew).below hbd0).below hbd1)), (OwnR.rd fPu_len (((Hd1_9.out.below gDrew).below hbd0).below hbd1)), by omega, by omega, HZd0.out, HZd1.out⟩).mono ?_; rintro e w9 ⟨rfl, hbd2⟩; have r2_cc_0 := (hbd2.cell (World.block_lt_of_cell? _ _ r1_cc_0)).trans r1_cc_0; have r2_cc_1 := (hbd2.cell (World.block_lt_of_cell? _ _ r1_cc_1)).trans r1_cc_1; have r2_cq_0 := (hbd2.cell (World.block_lt_of_cell? _ _ r1_cq_0)).trans r1_cq_0; have r2_cq_1 := (hbd2.cell (World.block_lt_of_cell? _ _ r1_cq_1)).trans r1_cq_1; have r2_cd_0 := (hbd2.cell (World.block_lt_of_cell? _ _ r1_cd_0)).trans r1_cd_0; have r2_cd_1 := (hbd2.cell (World.block_lt_of_cell? _ _ r1_cd_1)).trans r1_cd_1)
      | (go_at_call 16; refine (HG1.out Ad0 Ad1 cd0 cd1 _ (hK _ _ HW.out (below_more HB_9.out (below_more gDrew hbd0))) ⟨(OwnR.rd fSt_len ((Hd0_9.out.below gDrew).below hbd0)), (OwnR.rd fPu_len ((Hd1_9.out.below gDrew).below hbd0)), by omega, by omega, HZd0.out, HZd1.out⟩ (ownR_lies ((Hd0_9.out.below gDrew).below hbd0)) (ownR_lies ((Hd1_9.out.below gDrew).below hbd0))).mono ?_; rintro e w8 ⟨rfl, hbd1⟩; have r1_cc_0 := (hbd1.cell (World.block_lt_of_cell? _ _ r0_cc_0)).trans r0_cc_0; have r1_cc_1 := (hbd1.cell (World.block_lt_of_cell? _ _ r0_cc_1)).trans r0_cc_1; have r1_cq_0 := (hbd1.cell (World.block_lt_of_cell? _ _ r0_cq_0)).trans r0_cq_0; have r1_cq_1 := (hbd1.cell (World.block_lt_of_cell? _ _ r0_cq_1)).trans r0_cq_1; have r1_cd_0 := (hbd1.cell (World.block_lt_of_cell? _ _ r0_cd_0)).trans r0_cd_0; have r1_cd_1 := (hbd1.cell (World.block_lt_of_cell? _ _ r0_cd_1)).trans r0_cd_1)
      | (go_at_call 15; refine (sameDisk_self Ac0 Ac1 Aq0 Aq1 V U cc0 cc1 cq0 cq1 _ (OwnR.rd fSt_len (Hc0_9.out.below gDrew)) (OwnR.rd fPu_len (Hc1_9.out.below gDrew)) (OwnR.rd fSt_len (Hq0_9.out.below gDrew)) (OwnR.rd fPu_len (Hq1_9.out.below gDrew)) (by omega) (by omega)).mono ?_; rintro e w7 ⟨rfl, hbd0⟩; have r0_cc_0 := (hbd0.cell (World.block_lt_of_cell? _ _ cc_0)).trans cc_0; have r0_cc_1 := (hbd0.cell (World.block_lt_of_cell? _ _ cc_1)).trans cc_1; have r0_cq_0 := (hbd0.cell (World.block_lt_of_cell? _ _ cq_0)).trans cq_0; have r0_cq_1 := (hbd0.cell (World.block_lt_of_cell? _ _ cq_1)).trans cq_1; have r0_cd_0 := (hbd0.cell (World.block_lt_of_cell? _ _ cd_0)).trans cd_0; have r0_cd_1 := (hbd0.cell (World.block_lt_of_cell? _ _ cd_1)).trans cd_1))
    have hbq := below_more gDrew (below_more hbd0 (below_more hbd1 (hbd2)))
    clear r0_cc_0 r0_cc_1 r0_cq_0 r0_cq_1 r0_cd_0 r0_cd_1 r1_cc_0 r1_cc_1 r1_cq_0 r1_cq_1 r1_cd_0 r1_cd_1 r2_cc_0 r2_cc_1 r2_cq_0 r2_cq_1 r2_cd_0 r2_cd_1 cd_0 cd_1 cc_0 cc_1 cq_0 cq_1 hw8
    have Hd0_10 := Lib.hid (Hd0_9.out.below hbq)
    have Hd1_10 := Lib.hid (Hd1_9.out.below hbq)
    have Hc0_10 := Lib.hid (Hc0_9.out.below hbq)
    have Hc1_10 := Lib.hid (Hc1_9.out.below hbq)
    have Hq0_10 := Lib.hid (Hq0_9.out.below hbq)
    have Hq1_10 := Lib.hid (Hq1_9.out.below hbq)
    have Kd_10 := Lib.hid ((hbq.block _ (heap_lt Kd_9.out)).trans Kd_9.out)
    have Kc_10 := Lib.hid ((hbq.block _ (heap_lt Kc_9.out)).trans Kc_9.out)
    have Kq_10 := Lib.hid ((hbq.block _ (heap_lt Kq_8.out)).trans Kq_8.out)
    have HB_10 := Lib.hid (below_more HB_9.out hbq)
    clear Hd0_9 Hd1_9 Hc0_9 Hc1_9 Hq0_9 Hq1_9 Kd_9 Kc_9 Kq_8 HB_9
    clear hbq hbd0 hbd1 hbd2
    clear Hq0_10 Hq1_10
    clear Kq_10
    clear HC1 HC2 HG1 HG2
    clear Hd0_10 Hd1_10 Hc0_10 Hc1_10
    clear Kc_10
    clear Kd_10
    go_wp2_with fail
    refine (drawSync9 B zb cb _ (byts_on9 HBy.out HB_10.out)).mono ?_
    rintro e w10 ⟨vu0, vu1, su, pu, rfl, hdr⟩
    have hlu0 : su.length ≤ 12 := by have := hdr.len; omega
    have hlu1 : pu.length ≤ 41 := hdr.len2
    have HZu0 : Hid (∀ s ∈ su, s.size ≤ 1048576) := fun s hs => by have := hdr.size s hs; omega
    have HZu1 : Hid (∀ p ∈ pu, p.2.size ≤ 1048576) := fun p hp => by have := hdr.size2 p hp; omega
    obtain ⟨⟨hou0, hou1, hau⟩, -, -, -, -, hbu⟩ := hdr
    obtain ⟨Au0, cu0, hvu0, hcapu0, _⟩ := OwnR.form fSt_len hou0
    subst hvu0
    obtain ⟨Au1, cu1, hvu1, hcapu1, _⟩ := OwnR.form fPu_len hou1
    subst hvu1
    have HAp_u0_u1 := Lib.hid hau
    have Hu0_11 := Lib.hid (hou0.lower HB_10.out.size)
    have Hu1_11 := Lib.hid (hou1.lower HB_10.out.size)
    have HB_11 := Lib.hid (below_more HB_10.out hbu)
    clear HB_10 hou0 hou1 hau hbu
    obtain ⟨w11, hw12⟩ : ∃ wn, w10.alloc (.cells #[.slice Au0 su.length cu0, .slice Au1 pu.length cu1] 26) = wn := ⟨_, rfl⟩
    have hbx : Below w10.heap.size w10 w11 := by rw [← hw12]; exact gAlloc _ _
    have KX : w11.heap[w10.heap.size]? = some (.cells #[.slice Au0 su.length cu0, .slice Au1 pu.length cu1] 26 (0, 0)) := by rw [← hw12]; exact heap_alloc_new _ _
    have HNX_u_u0 := Lib.hid (fun g hg => Nat.ne_of_lt (Hu0_11.out.lt g hg).2)
    have HNX_u_u1 := Lib.hid (fun g hg => Nat.ne_of_lt (Hu1_11.out.lt g hg).2)
    have Hu0_13 := Lib.hid (Hu0_11.out.below hbx)
    have Hu1_13 := Lib.hid (Hu1_11.out.below hbx)
    have HB_13 := Lib.hid (below_more HB_11.out hbx)
    clear Hu0_11 Hu1_11 HB_11
    have Ku_12 := Lib.hid KX
    clear hbx KX
    have hSl := syI_len su pu
    have HS1 := Lib.hid (fun A B ca cb w hk hd hA hB => HS.out A B su pu ca cb w hk hd hA hB)
    have HS2 := Lib.hid (fun A B ca cb w hd hA => HSg.out A B su pu ca cb w hd hA)
    generalize syI su pu = Su at *
    generalize goodDB su pu = gu at *
    have cu_0 : w11.cell? ⟨w10.heap.size, 0, none⟩ = some (.slice Au0 su.length cu0) := cell_of_row _ _ 0 _ _ _ Ku_12.out
    have cu_1 : w11.cell? ⟨w10.heap.size, 1, none⟩ = some (.slice Au1 pu.length cu1) := cell_of_row _ _ 1 _ _ _ Ku_12.out
    go_wp2_with fail
    clear cu_0 cu_1 hw12
    refine (HS1.out Au0 Au1 cu0 cu1 _ (hK _ _ HW.out HB_13.out) ⟨(OwnR.rd fSt_len Hu0_13.out), (OwnR.rd fPu_len Hu1_13.out), by omega, by omega, HZu0.out, HZu1.out⟩ (ownR_lies Hu0_13.out) (ownR_lies Hu1_13.out)).mono ?_
    rintro e w12 ⟨vus0, vus1, rfl, hpk, hbus⟩
    obtain ⟨hous0, hous1, haus⟩ := hpk
    obtain ⟨Aus0, cus0, hvus0, hcapus0, _⟩ := OwnR.form fSt_len hous0
    subst hvus0
    obtain ⟨Aus1, cus1, hvus1, hcapus1, _⟩ := OwnR.form fPu_len hous1
    subst hvus1
    have HAp_u0_us0 := Lib.hid (apart5 (fun k hk => (Hu0_13.out.lt k hk).2) (fun k hk => (hous0.lt k hk).1))
    have HAp_u1_us0 := Lib.hid (apart5 (fun k hk => (Hu1_13.out.lt k hk).2) (fun k hk => (hous0.lt k hk).1))
    have HAp_u0_us1 := Lib.hid (apart5 (fun k hk => (Hu0_13.out.lt k hk).2) (fun k hk => (hous1.lt k hk).1))
    have HAp_u1_us1 := Lib.hid (apart5 (fun k hk => (Hu1_13.out.lt k hk).2) (fun k hk => (hous1.lt k hk).1))
    have HNX_u_us0 := Lib.hid (fun g hg => Nat.ne_of_gt (Nat.lt_of_lt_of_le (heap_lt Ku_12.out) (hous0.lt g hg).1))
    have HNX_u_us1 := Lib.hid (fun g hg => Nat.ne_of_gt (Nat.lt_of_lt_of_le (heap_lt Ku_12.out) (hous1.lt g hg).1))
    have HAp_us0_us1 := Lib.hid haus
    have Hu0_14 := Lib.hid (Hu0_13.out.below hbus)
    have Hu1_14 := Lib.hid (Hu1_13.out.below hbus)
    have Hus0_14 := Lib.hid (hous0.lower HB_13.out.size)
    have Hus1_14 := Lib.hid (hous1.lower HB_13.out.size)
    have Ku_14 := Lib.hid ((hbus.block _ (heap_lt Ku_12.out)).trans Ku_12.out)
    have HB_14 := Lib.hid (below_more HB_13.out hbus)
    clear Hu0_13 Hu1_13 Ku_12 HB_13 hous0 hous1 haus hbus
    obtain ⟨w13, hw15⟩ : ∃ wn, w12.alloc (.cells #[.slice Aus0 Su.length cus0, .slice Aus1 U.length cus1] 26) = wn := ⟨_, rfl⟩
    have hbx : Below w12.heap.size w12 w13 := by rw [← hw15]; exact gAlloc _ _
    have KX : w13.heap[w12.heap.size]? = some (.cells #[.slice Aus0 Su.length cus0, .slice Aus1 U.length cus1] 26 (0, 0)) := by rw [← hw15]; exact heap_alloc_new _ _
    have HNX_us_u0 := Lib.hid (fun g hg => Nat.ne_of_lt (Hu0_14.out.lt g hg).2)
    have HNX_us_u1 := Lib.hid (fun g hg => Nat.ne_of_lt (Hu1_14.out.lt g hg).2)
    have HNX_us_us0 := Lib.hid (fun g hg => Nat.ne_of_lt (Hus0_14.out.lt g hg).2)
    have HNX_us_us1 := Lib.hid (fun g hg => Nat.ne_of_lt (Hus1_14.out.lt g hg).2)
    have Hu0_16 := Lib.hid (Hu0_14.out.below hbx)
    have Hu1_16 := Lib.hid (Hu1_14.out.below hbx)
    have Hus0_16 := Lib.hid (Hus0_14.out.below hbx)
    have Hus1_16 := Lib.hid (Hus1_14.out.below hbx)
    have Ku_16 := Lib.hid ((hbx.block _ (heap_lt Ku_14.out)).trans Ku_14.out)
    have HB_16 := Lib.hid (below_more HB_14.out hbx)
    clear Hu0_14 Hu1_14 Hus0_14 Hus1_14 Ku_14 HB_14
    have Kus_15 := Lib.hid KX
    clear hbx KX
    have cu_0 : w13.cell? ⟨w10.heap.size, 0, none⟩ = some (.slice Au0 su.length cu0) := cell_of_row _ _ 0 _ _ _ Ku_16.out
    have cu_1 : w13.cell? ⟨w10.heap.size, 1, none⟩ = some (.slice Au1 pu.length cu1) := cell_of_row _ _ 1 _ _ _ Ku_16.out
    have cus_0 : w13.cell? ⟨w12.heap.size, 0, none⟩ = some (.slice Aus0 Su.length cus0) := cell_of_row _ _ 0 _ _ _ Kus_15.out
    have cus_1 : w13.cell? ⟨w12.heap.size, 1, none⟩ = some (.slice Aus1 U.length cus1) := cell_of_row _ _ 1 _ _ _ Kus_15.out
    go_wp2_with fail
    clear cu_0 cu_1 cus_0 cus_1 hw15
    refine (HS2.out Au0 Au1 cu0 cu1 _ ⟨(OwnR.rd fSt_len Hu0_16.out), (OwnR.rd fPu_len Hu1_16.out), by omega, by omega, HZu0.out, HZu1.out⟩ (ownR_lies Hu0_16.out)).mono ?_
    rintro e w14 ⟨vuy0, vuy1, rfl, hpk, hbuy⟩
    obtain ⟨houy0, houy1, hauy⟩ := hpk
    obtain ⟨Auy0, cuy0, hvuy0, hcapuy0, _⟩ := OwnR.form fSt_len houy0
    subst hvuy0
    obtain ⟨Auy1, cuy1, hvuy1, hcapuy1, _⟩ := OwnR.form fPu_len houy1
    subst hvuy1
    have HAp_u0_uy0 := Lib.hid (apart5 (fun k hk => (Hu0_16.out.lt k hk).2) (fun k hk => (houy0.lt k hk).1))
    have HAp_u1_uy0 := Lib.hid (apart5 (fun k hk => (Hu1_16.out.lt k hk).2) (fun k hk => (houy0.lt k hk).1))
    have HAp_us0_uy0 := Lib.hid (apart5 (fun k hk => (Hus0_16.out.lt k hk).2) (fun k hk => (houy0.lt k hk).1))
    have HAp_us1_uy0 := Lib.hid (apart5 (fun k hk => (Hus1_16.out.lt k hk).2) (fun k hk => (houy0.lt k hk).1))
    have HAp_u0_uy1 := Lib.hid (apart5 (fun k hk => (Hu0_16.out.lt k hk).2) (fun k hk => (houy1.lt k hk).1))
    have HAp_u1_uy1 := Lib.hid (apart5 (fun k hk => (Hu1_16.out.lt k hk).2) (fun k hk => (houy1.lt k hk).1))
    have HAp_us0_uy1 := Lib.hid (apart5 (fun k hk => (Hus0_16.out.lt k hk).2) (fun k hk => (houy1.lt k hk).1))
    have HAp_us1_uy1 := Lib.hid (apart5 (fun k hk => (Hus1_16.out.lt k hk).2) (fun k hk => (houy1.lt k hk).1))
    have HNX_u_uy0 := Lib.hid (fun g hg => Nat.ne_of_gt (Nat.lt_of_lt_of_le (heap_lt Ku_16.out) (houy0.lt g hg).1))
    have HNX_us_uy0 := Lib.hid (fun g hg => Nat.ne_of_gt (Nat.lt_of_lt_of_le (heap_lt Kus_15.out) (houy0.lt g hg).1))
    have HNX_u_uy1 := Lib.hid (fun g hg => Nat.ne_of_gt (Nat.lt_of_lt_of_le (heap_lt Ku_16.out) (houy1.lt g hg).1))
    have HNX_us_uy1 := Lib.hid (fun g hg => Nat.ne_of_gt (Nat.lt_of_lt_of_le (heap_lt Kus_15.out) (houy1.lt g hg).1))
    have HAp_uy0_uy1 := Lib.hid hauy
    have Hu0_17 := Lib.hid (Hu0_16.out.below hbuy)
    have Hu1_17 := Lib.hid (Hu1_16.out.below hbuy)
    have Hus0_17 := Lib.hid (Hus0_16.out.below hbuy)
    have Hus1_17 := Lib.hid (Hus1_16.out.below hbuy)
    have Huy0_17 := Lib.hid (houy0.lower HB_16.out.size)
    have Huy1_17 := Lib.hid (houy1.lower HB_16.out.size)
    have Ku_17 := Lib.hid ((hbuy.block _ (heap_lt Ku_16.out)).trans Ku_16.out)
    have Kus_17 := Lib.hid ((hbuy.block _ (heap_lt Kus_15.out)).trans Kus_15.out)
    have HB_17 := Lib.hid (below_more HB_16.out hbuy)
    clear Hu0_16 Hu1_16 Hus0_16 Hus1_16 Ku_16 Kus_15 HB_16 houy0 houy1 hauy hbuy
    obtain ⟨w15, hw18⟩ : ∃ wn, w14.alloc (.cells #[.slice Auy0 Su.length cuy0, .slice Auy1 U.length cuy1] 26) = wn := ⟨_, rfl⟩
    have hbx : Below w14.heap.size w14 w15 := by rw [← hw18]; exact gAlloc _ _
    have KX : w15.heap[w14.heap.size]? = some (.cells #[.slice Auy0 Su.length cuy0, .slice Auy1 U.length cuy1] 26 (0, 0)) := by rw [← hw18]; exact heap_alloc_new _ _
    have HNX_uy_u0 := Lib.hid (fun g hg => Nat.ne_of_lt (Hu0_17.out.lt g hg).2)
    have HNX_uy_u1 := Lib.hid (fun g hg => Nat.ne_of_lt (Hu1_17.out.lt g hg).2)
    have HNX_uy_us0 := Lib.hid (fun g hg => Nat.ne_of_lt (Hus0_17.out.lt g hg).2)
    have HNX_uy_us1 := Lib.hid (fun g hg => Nat.ne_of_lt (Hus1_17.out.lt g hg).2)
    have HNX_uy_uy0 := Lib.hid (fun g hg => Nat.ne_of_lt (Huy0_17.out.lt g hg).2)
    have HNX_uy_uy1 := Lib.hid (fun g hg => Nat.ne_of_lt (Huy1_17.out.lt g hg).2)
    have Hu0_19 := Lib.hid (Hu0_17.out.below hbx)
    have Hu1_19 := Lib.hid (Hu1_17.out.below hbx)
    have Hus0_19 := Lib.hid (Hus0_17.out.below hbx)
    have Hus1_19 := Lib.hid (Hus1_17.out.below hbx)
    have Huy0_19 := Lib.hid (Huy0_17.out.below hbx)
    have Huy1_19 := Lib.hid (Huy1_17.out.below hbx)
    have Ku_19 := Lib.hid ((hbx.block _ (heap_lt Ku_17.out)).trans Ku_17.out)
    have Kus_19 := Lib.hid ((hbx.block _ (heap_lt Kus_17.out)).trans Kus_17.out)
    have HB_19 := Lib.hid (below_more HB_17.out hbx)
    clear Hu0_17 Hu1_17 Hus0_17 Hus1_17 Huy0_17 Huy1_17 Ku_17 Kus_17 HB_17
    have Kuy_18 := Lib.hid KX
    clear hbx KX
    clear Hu0_19 Hu1_19
    clear Ku_19
    clear HS1 HS2
    have cus_0 : w15.cell? ⟨w12.heap.size, 0, none⟩ = some (.slice Aus0 Su.length cus0) := cell_of_row _ _ 0 _ _ _ Kus_19.out
    have cus_1 : w15.cell? ⟨w12.heap.size, 1, none⟩ = some (.slice Aus1 U.length cus1) := cell_of_row _ _ 1 _ _ _ Kus_19.out
    have cuy_0 : w15.cell? ⟨w14.heap.size, 0, none⟩ = some (.slice Auy0 Su.length cuy0) := cell_of_row _ _ 0 _ _ _ Kuy_18.out
    have cuy_1 : w15.cell? ⟨w14.heap.size, 1, none⟩ = some (.slice Auy1 U.length cuy1) := cell_of_row _ _ 1 _ _ _ Kuy_18.out
    go_wp2_with fail
    clear cus_0 cus_1 cuy_0 cuy_1 hw18
    refine (drawAll9 B zb cb _ (byts_on9 HBy.out HB_19.out)).mono ?_
    rintro e w16 ⟨vv0, vv1, sv, pv, rfl, hdr⟩
    have hlv0 : sv.length ≤ 12 := by have := hdr.len; omega
    have hlv1 : pv.length ≤ 41 := hdr.len2
    have HZv0 : Hid (∀ s ∈ sv, s.size ≤ 1048576) := fun s hs => by have := hdr.size s hs; omega
    have HZv1 : Hid (∀ p ∈ pv, p.2.size ≤ 1048576) := fun p hp => by have := hdr.size2 p hp; omega
    obtain ⟨⟨hov0, hov1, hav⟩, -, -, -, -, hbv⟩ := hdr
    obtain ⟨Av0, cv0, hvv0, hcapv0, _⟩ := OwnR.form fSt_len hov0
    subst hvv0
    obtain ⟨Av1, cv1, hvv1, hcapv1, _⟩ := OwnR.form fPu_len hov1
    subst hvv1
    have HAp_us0_v0 := Lib.hid (apart5 (fun k hk => (Hus0_19.out.lt k hk).2) (fun k hk => (hov0.lt k hk).1))
    have HAp_us1_v0 := Lib.hid (apart5 (fun k hk => (Hus1_19.out.lt k hk).2) (fun k hk => (hov0.lt k hk).1))
    have HAp_uy0_v0 := Lib.hid (apart5 (fun k hk => (Huy0_19.out.lt k hk).2) (fun k hk => (hov0.lt k hk).1))
    have HAp_uy1_v0 := Lib.hid (apart5 (fun k hk => (Huy1_19.out.lt k hk).2) (fun k hk => (hov0.lt k hk).1))
    have HAp_us0_v1 := Lib.hid (apart5 (fun k hk => (Hus0_19.out.lt k hk).2) (fun k hk => (hov1.lt k hk).1))
    have HAp_us1_v1 := Lib.hid (apart5 (fun k hk => (Hus1_19.out.lt k hk).2) (fun k hk => (hov1.lt k hk).1))
    have HAp_uy0_v1 := Lib.hid (apart5 (fun k hk => (Huy0_19.out.lt k hk).2) (fun k hk => (hov1.lt k hk).1))
    have HAp_uy1_v1 := Lib.hid (apart5 (fun k hk => (Huy1_19.out.lt k hk).2) (fun k hk => (hov1.lt k hk).1))
    have HNX_us_v0 := Lib.hid (fun g hg => Nat.ne_of_gt (Nat.lt_of_lt_of_le (heap_lt Kus_19.out) (hov0.lt g hg).1))
    have HNX_uy_v0 := Lib.hid (fun g hg => Nat.ne_of_gt (Nat.lt_of_lt_of_le (heap_lt Kuy_18.out) (hov0.lt g hg).1))
    have HNX_us_v1 := Lib.hid (fun g hg => Nat.ne_of_gt (Nat.lt_of_lt_of_le (heap_lt Kus_19.out) (hov1.lt g hg).1))
    have HNX_uy_v1 := Lib.hid (fun g hg => Nat.ne_of_gt (Nat.lt_of_lt_of_le (heap_lt Kuy_18.out) (hov1.lt g hg).1))
    have HAp_v0_v1 := Lib.hid hav
    have Hus0_20 := Lib.hid (Hus0_19.out.below hbv)
    have Hus1_20 := Lib.hid (Hus1_19.out.below hbv)
    have Huy0_20 := Lib.hid (Huy0_19.out.below hbv)
    have Huy1_20 := Lib.hid (Huy1_19.out.below hbv)
    have Hv0_20 := Lib.hid (hov0.lower HB_19.out.size)
    have Hv1_20 := Lib.hid (hov1.lower HB_19.out.size)
    have Kus_20 := Lib.hid ((hbv.block _ (heap_lt Kus_19.out)).trans Kus_19.out)
    have Kuy_20 := Lib.hid ((hbv.block _ (heap_lt Kuy_18.out)).trans Kuy_18.out)
    have HB_20 := Lib.hid (below_more HB_19.out hbv)
    clear Hus0_19 Hus1_19 Huy0_19 Huy1_19 Kus_19 Kuy_18 HB_19 hov0 hov1 hav hbv
    obtain ⟨w17, hw21⟩ : ∃ wn, w16.alloc (.cells #[.slice Av0 sv.length cv0, .slice Av1 pv.length cv1] 26) = wn := ⟨_, rfl⟩
    have hbx : Below w16.heap.size w16 w17 := by rw [← hw21]; exact gAlloc _ _
    have KX : w17.heap[w16.heap.size]? = some (.cells #[.slice Av0 sv.length cv0, .slice Av1 pv.length cv1] 26 (0, 0)) := by rw [← hw21]; exact heap_alloc_new _ _
    have HNX_v_us0 := Lib.hid (fun g hg => Nat.ne_of_lt (Hus0_20.out.lt g hg).2)
    have HNX_v_us1 := Lib.hid (fun g hg => Nat.ne_of_lt (Hus1_20.out.lt g hg).2)
    have HNX_v_uy0 := Lib.hid (fun g hg => Nat.ne_of_lt (Huy0_20.out.lt g hg).2)
    have HNX_v_uy1 := Lib.hid (fun g hg => Nat.ne_of_lt (Huy1_20.out.lt g hg).2)
    have HNX_v_v0 := Lib.hid (fun g hg => Nat.ne_of_lt (Hv0_20.out.lt g hg).2)
    have HNX_v_v1 := Lib.hid (fun g hg => Nat.ne_of_lt (Hv1_20.out.lt g hg).2)
    have Hus0_22 := Lib.hid (Hus0_20.out.below hbx)
    have Hus1_22 := Lib.hid (Hus1_20.out.below hbx)
    have Huy0_22 := Lib.hid (Huy0_20.out.below hbx)
    have Huy1_22 := Lib.hid (Huy1_20.out.below hbx)
    have Hv0_22 := Lib.hid (Hv0_20.out.below hbx)
    have Hv1_22 := Lib.hid (Hv1_20.out.below hbx)
    have Kus_22 := Lib.hid ((hbx.block _ (heap_lt Kus_20.out)).trans Kus_20.out)
    have Kuy_22 := Lib.hid ((hbx.block _ (heap_lt Kuy_20.out)).trans Kuy_20.out)
    have HB_22 := Lib.hid (below_more HB_20.out hbx)
    clear Hus0_20 Hus1_20 Huy0_20 Huy1_20 Hv0_20 Hv1_20 Kus_20 Kuy_20 HB_20
    have Kv_21 := Lib.hid KX
    clear hbx KX
    have HA1 := Lib.hid (fun A B ca cb w hk hd hA hB => HA.out A B sv pv ca cb w hk hd hA hB)
    have HA2 := Lib.hid (fun A B ca cb w hd => sReadAll_any A B sv pv ca cb w hd)
    generalize raI sv pv = rv at *
    generalize goodDB sv pv = gv at *
    have cus_0 : w17.cell? ⟨w12.heap.size, 0, none⟩ = some (.slice Aus0 Su.length cus0) := cell_of_row _ _ 0 _ _ _ Kus_22.out
    have cus_1 : w17.cell? ⟨w12.heap.size, 1, none⟩ = some (.slice Aus1 U.length cus1) := cell_of_row _ _ 1 _ _ _ Kus_22.out
    have cuy_0 : w17.cell? ⟨w14.heap.size, 0, none⟩ = some (.slice Auy0 Su.length cuy0) := cell_of_row _ _ 0 _ _ _ Kuy_22.out
    have cuy_1 : w17.cell? ⟨w14.heap.size, 1, none⟩ = some (.slice Auy1 U.length cuy1) := cell_of_row _ _ 1 _ _ _ Kuy_22.out
    have cv_0 : w17.cell? ⟨w16.heap.size, 0, none⟩ = some (.slice Av0 sv.length cv0) := cell_of_row _ _ 0 _ _ _ Kv_21.out
    have cv_1 : w17.cell? ⟨w16.heap.size, 1, none⟩ = some (.slice Av1 pv.length cv1) := cell_of_row _ _ 1 _ _ _ Kv_21.out
    go_wp2_with fail
    clear cus_0 cus_1 cuy_0 cuy_1 cv_0 cv_1 hw21
    refine (HA1.out Av0 Av1 cv0 cv1 _ (hK _ _ HW.out HB_22.out) ⟨(OwnR.rd fSt_len Hv0_22.out), (OwnR.rd fPu_len Hv1_22.out), by omega, by omega, HZv0.out, HZv1.out⟩ (ownR_lies Hv0_22.out) (ownR_lies Hv1_22.out)).mono ?_
    rintro e w18 ⟨rfl, hbq⟩
    have Hus0_23 := Lib.hid (Hus0_22.out.below hbq)
    have Hus1_23 := Lib.hid (Hus1_22.out.below hbq)
    have Huy0_23 := Lib.hid (Huy0_22.out.below hbq)
    have Huy1_23 := Lib.hid (Huy1_22.out.below hbq)
    have Hv0_23 := Lib.hid (Hv0_22.out.below hbq)
    have Hv1_23 := Lib.hid (Hv1_22.out.below hbq)
    have Kus_23 := Lib.hid ((hbq.block _ (heap_lt Kus_22.out)).trans Kus_22.out)
    have Kuy_23 := Lib.hid ((hbq.block _ (heap_lt Kuy_22.out)).trans Kuy_22.out)
    have Kv_23 := Lib.hid ((hbq.block _ (heap_lt Kv_21.out)).trans Kv_21.out)
    have HB_23 := Lib.hid (below_more HB_22.out hbq)
    clear Hus0_22 Hus1_22 Huy0_22 Huy1_22 Hv0_22 Hv1_22 Kus_22 Kuy_22 Kv_21 HB_22
    clear hbq
    have cus_0 : w18.cell? ⟨w12.heap.size, 0, none⟩ = some (.slice Aus0 Su.length cus0) := cell_of_row _ _ 0 _ _ _ Kus_23.out
    have cus_1 : w18.cell? ⟨w12.heap.size, 1, none⟩ = some (.slice Aus1 U.length cus1) := cell_of_row _ _ 1 _ _ _ Kus_23.out
    have cuy_0 : w18.cell? ⟨w14.heap.size, 0, none⟩ = some (.slice Auy0 Su.length cuy0) := cell_of_row _ _ 0 _ _ _ Kuy_23.out
    have cuy_1 : w18.cell? ⟨w14.heap.size, 1, none⟩ = some (.slice Auy1 U.length cuy1) := cell_of_row _ _ 1 _ _ _ Kuy_23.out
    have cv_0 : w18.cell? ⟨w16.heap.size, 0, none⟩ = some (.slice Av0 sv.length cv0) := cell_of_row _ _ 0 _ _ _ Kv_23.out
    have cv_1 : w18.cell? ⟨w16.heap.size, 1, none⟩ = some (.slice Av1 pv.length cv1) := cell_of_row _ _ 1 _ _ _ Kv_23.out
    go_wp2_with fail
    clear cus_0 cus_1 cuy_0 cuy_1 cv_0 cv_1
    refine (HA2.out Av0 Av1 cv0 cv1 _ ⟨(OwnR.rd fSt_len Hv0_23.out), (OwnR.rd fPu_len Hv1_23.out), by omega, by omega, HZv0.out, HZv1.out⟩).mono ?_
    rintro e w19 ⟨rfl, hbq⟩
    have Hus0_24 := Lib.hid (Hus0_23.out.below hbq)
    have Hus1_24 := Lib.hid (Hus1_23.out.below hbq)
    have Huy0_24 := Lib.hid (Huy0_23.out.below hbq)
    have Huy1_24 := Lib.hid (Huy1_23.out.below hbq)
    have Hv0_24 := Lib.hid (Hv0_23.out.below hbq)
    have Hv1_24 := Lib.hid (Hv1_23.out.below hbq)
    have Kus_24 := Lib.hid ((hbq.block _ (heap_lt Kus_23.out)).trans Kus_23.out)
    have Kuy_24 := Lib.hid ((hbq.block _ (heap_lt Kuy_23.out)).trans Kuy_23.out)
    have Kv_24 := Lib.hid ((hbq.block _ (heap_lt Kv_23.out)).trans Kv_23.out)
    have HB_24 := Lib.hid (below_more HB_23.out hbq)
    clear Hus0_23 Hus1_23 Huy0_23 Huy1_23 Hv0_23 Hv1_23 Kus_23 Kuy_23 Kv_23 HB_23
    clear hbq
    clear Hv0_24 Hv1_24
    clear Kv_24
    clear HA1 HA2
    have HN1 := Lib.hid (fun w hk => HN.out w hk)
    have HN2 := Lib.hid (fun w => HNg.out w)
    have HG1 := Lib.hid (fun A B ca cb w hk hd hA hB => HG.out A B (List.replicate 12 zero16) U ca cb w hk hd hA hB)
    rw [HGn.out] at HG1
    have hz0 : (List.replicate 12 zero16).length ≤ 12 := by simp
    have HZn0 : Hid (∀ s ∈ List.replicate 12 zero16, s.size ≤ 1048576) := fun s hs => by rw [List.eq_of_mem_replicate hs]; decide +kernel
    generalize List.replicate 12 zero16 = Zn at *
    have cus_0 : w19.cell? ⟨w12.heap.size, 0, none⟩ = some (.slice Aus0 Su.length cus0) := cell_of_row _ _ 0 _ _ _ Kus_24.out
    have cus_1 : w19.cell? ⟨w12.heap.size, 1, none⟩ = some (.slice Aus1 U.length cus1) := cell_of_row _ _ 1 _ _ _ Kus_24.out
    have cuy_0 : w19.cell? ⟨w14.heap.size, 0, none⟩ = some (.slice Auy0 Su.length cuy0) := cell_of_row _ _ 0 _ _ _ Kuy_24.out
    have cuy_1 : w19.cell? ⟨w14.heap.size, 1, none⟩ = some (.slice Auy1 U.length cuy1) := cell_of_row _ _ 1 _ _ _ Kuy_24.out
    go_wp2_with fail
    clear cus_0 cus_1 cuy_0 cuy_1
    refine (HN1.out _ (hK _ _ HW.out HB_24.out)).mono ?_
    rintro e w20 ⟨vn0, vn1, rfl, hpk, hbn⟩
    obtain ⟨hon0, hon1, han⟩ := hpk
    obtain ⟨An0, cn0, hvn0, hcapn0, _⟩ := OwnR.form fSt_len hon0
    subst hvn0
    obtain ⟨An1, cn1, hvn1, hcapn1, _⟩ := OwnR.form fPu_len hon1
    subst hvn1
    have HAp_us0_n0 := Lib.hid (apart5 (fun k hk => (Hus0_24.out.lt k hk).2) (fun k hk => (hon0.lt k hk).1))
    have HAp_us1_n0 := Lib.hid (apart5 (fun k hk => (Hus1_24.out.lt k hk).2) (fun k hk => (hon0.lt k hk).1))
    have HAp_uy0_n0 := Lib.hid (apart5 (fun k hk => (Huy0_24.out.lt k hk).2) (fun k hk => (hon0.lt k hk).1))
    have HAp_uy1_n0 := Lib.hid (apart5 (fun k hk => (Huy1_24.out.lt k hk).2) (fun k hk => (hon0.lt k hk).1))
    have HAp_us0_n1 := Lib.hid (apart5 (fun k hk => (Hus0_24.out.lt k hk).2) (fun k hk => (hon1.lt k hk).1))
    have HAp_us1_n1 := Lib.hid (apart5 (fun k hk => (Hus1_24.out.lt k hk).2) (fun k hk => (hon1.lt k hk).1))
    have HAp_uy0_n1 := Lib.hid (apart5 (fun k hk => (Huy0_24.out.lt k hk).2) (fun k hk => (hon1.lt k hk).1))
    have HAp_uy1_n1 := Lib.hid (apart5 (fun k hk => (Huy1_24.out.lt k hk).2) (fun k hk => (hon1.lt k hk).1))
    have HNX_us_n0 := Lib.hid (fun g hg => Nat.ne_of_gt (Nat.lt_of_lt_of_le (heap_lt Kus_24.out) (hon0.lt g hg).1))
    have HNX_uy_n0 := Lib.hid (fun g hg => Nat.ne_of_gt (Nat.lt_of_lt_of_le (heap_lt Kuy_24.out) (hon0.lt g hg).1))
    have HNX_us_n1 := Lib.hid (fun g hg => Nat.ne_of_gt (Nat.lt_of_lt_of_le (heap_lt Kus_24.out) (hon1.lt g hg).1))
    have HNX_uy_n1 := Lib.hid (fun g hg => Nat.ne_of_gt (Nat.lt_of_lt_of_le (heap_lt Kuy_24.out) (hon1.lt g hg).1))
    have HAp_n0_n1 := Lib.hid han
    have Hus0_25 := Lib.hid (Hus0_24.out.below hbn)
    have Hus1_25 := Lib.hid (Hus1_24.out.below hbn)
    have Huy0_25 := Lib.hid (Huy0_24.out.below hbn)
    have Huy1_25 := Lib.hid (Huy1_24.out.below hbn)
    have Hn0_25 := Lib.hid (hon0.lower HB_24.out.size)
    have Hn1_25 := Lib.hid (hon1.lower HB_24.out.size)
    have Kus_25 := Lib.hid ((hbn.block _ (heap_lt Kus_24.out)).trans Kus_24.out)
    have Kuy_25 := Lib.hid ((hbn.block _ (heap_lt Kuy_24.out)).trans Kuy_24.out)
    have HB_25 := Lib.hid (below_more HB_24.out hbn)
    clear Hus0_24 Hus1_24 Huy0_24 Huy1_24 Kus_24 Kuy_24 HB_24 hon0 hon1 han hbn
    obtain ⟨w21, hw26⟩ : ∃ wn, w20.alloc (.cells #[.slice An0 Zn.length cn0, .slice An1 U.length cn1] 26) = wn := ⟨_, rfl⟩
    have hbx : Below w20.heap.size w20 w21 := by rw [← hw26]; exact gAlloc _ _
    have KX : w21.heap[w20.heap.size]? = some (.cells #[.slice An0 Zn.length cn0, .slice An1 U.length cn1] 26 (0, 0)) := by rw [← hw26]; exact heap_alloc_new _ _
    have HNX_n_us0 := Lib.hid (fun g hg => Nat.ne_of_lt (Hus0_25.out.lt g hg).2)
    have HNX_n_us1 := Lib.hid (fun g hg => Nat.ne_of_lt (Hus1_25.out.lt g hg).2)
    have HNX_n_uy0 := Lib.hid (fun g hg => Nat.ne_of_lt (Huy0_25.out.lt g hg).2)
    have HNX_n_uy1 := Lib.hid (fun g hg => Nat.ne_of_lt (Huy1_25.out.lt g hg).2)
    have HNX_n_n0 := Lib.hid (fun g hg => Nat.ne_of_lt (Hn0_25.out.lt g hg).2)
    have HNX_n_n1 := Lib.hid (fun g hg => Nat.ne_of_lt (Hn1_25.out.lt g hg).2)
    have Hus0_27 := Lib.hid (Hus0_25.out.below hbx)
    have Hus1_27 := Lib.hid (Hus1_25.out.below hbx)
    have Huy0_27 := Lib.hid (Huy0_25.out.below hbx)
    have Huy1_27 := Lib.hid (Huy1_25.out.below hbx)
    have Hn0_27 := Lib.hid (Hn0_25.out.below hbx)
    have Hn1_27 := Lib.hid (Hn1_25.out.below hbx)
    have Kus_27 := Lib.hid ((hbx.block _ (heap_lt Kus_25.out)).trans Kus_25.out)
    have Kuy_27 := Lib.hid ((hbx.block _ (heap_lt Kuy_25.out)).trans Kuy_25.out)
    have HB_27 := Lib.hid (below_more HB_25.out hbx)
    clear Hus0_25 Hus1_25 Huy0_25 Huy1_25 Hn0_25 Hn1_25 Kus_25 Kuy_25 HB_25
    have Kn_26 := Lib.hid KX
    clear hbx KX
    have cus_0 : w21.cell? ⟨w12.heap.size, 0, none⟩ = some (.slice Aus0 Su.length cus0) := cell_of_row _ _ 0 _ _ _ Kus_27.out
    have cus_1 : w21.cell? ⟨w12.heap.size, 1, none⟩ = some (.slice Aus1 U.length cus1) := cell_of_row _ _ 1 _ _ _ Kus_27.out
    have cuy_0 : w21.cell? ⟨w14.heap.size, 0, none⟩ = some (.slice Auy0 Su.length cuy0) := cell_of_row _ _ 0 _ _ _ Kuy_27.out
    have cuy_1 : w21.cell? ⟨w14.heap.size, 1, none⟩ = some (.slice Auy1 U.length cuy1) := cell_of_row _ _ 1 _ _ _ Kuy_27.out
    have cn_0 : w21.cell? ⟨w20.heap.size, 0, none⟩ = some (.slice An0 Zn.length cn0) := cell_of_row _ _ 0 _ _ _ Kn_26.out
    have cn_1 : w21.cell? ⟨w20.heap.size, 1, none⟩ = some (.slice An1 U.length cn1) := cell_of_row _ _ 1 _ _ _ Kn_26.out
    go_wp2_with fail
    go_region_held3 (fun w' => w'.cell? ⟨w12.heap.size, 0, none⟩ = some (.slice Aus0 Su.length cus0) ∧ w'.cell? ⟨w12.heap.size, 1, none⟩ = some (.slice Aus1 U.length cus1) ∧ w'.cell? ⟨w14.heap.size, 0, none⟩ = some (.slice Auy0 Su.length cuy0) ∧ w'.cell? ⟨w14.heap.size, 1, none⟩ = some (.slice Auy1 U.length cuy1) ∧ w'.cell? ⟨w20.heap.size, 0, none⟩ = some (.slice An0 Zn.length cn0) ∧ w'.cell? ⟨w20.heap.size, 1, none⟩ = some (.slice An1 U.length cn1)) (first | exact ⟨r3_cus_0, r3_cus_1, r3_cuy_0, r3_cuy_1, r3_cn_0, r3_cn_1⟩ | exact ⟨r2_cus_0, r2_cus_1, r2_cuy_0, r2_cuy_1, r2_cn_0, r2_cn_1⟩ | exact ⟨r1_cus_0, r1_cus_1, r1_cuy_0, r1_cuy_1, r1_cn_0, r1_cn_1⟩ | exact ⟨r0_cus_0, r0_cus_1, r0_cuy_0, r0_cuy_1, r0_cn_0, r0_cn_1⟩ | exact ⟨cus_0, cus_1, cuy_0, cuy_1, cn_0, cn_1⟩ | go_keep) (first
      | (go_at_call 15; refine (sameDisk_self An0 An1 Am0 Am1 Zn U cn0 cn1 cm0 cm1 _ (OwnR.rd fSt_len ((((Hn0_27.out.below gDrew).below hbd0).below hbd1).below hbd2)) (OwnR.rd fPu_len ((((Hn1_27.out.below gDrew).below hbd0).below hbd1).below hbd2)) (OwnR.rd fSt_len hom0) (OwnR.rd fPu_len hom1) (by omega) (by omega)).mono ?_; rintro e w25 ⟨rfl, hbd3⟩; have r3_cus_0 := (hbd3.cell (World.block_lt_of_cell? _ _ r2_cus_0)).trans r2_cus_0; have r3_cus_1 := (hbd3.cell (World.block_lt_of_cell? _ _ r2_cus_1)).trans r2_cus_1; have r3_cuy_0 := (hbd3.cell (World.block_lt_of_cell? _ _ r2_cuy_0)).trans r2_cuy_0; have r3_cuy_1 := (hbd3.cell (World.block_lt_of_cell? _ _ r2_cuy_1)).trans r2_cuy_1; have r3_cn_0 := (hbd3.cell (World.block_lt_of_cell? _ _ r2_cn_0)).trans r2_cn_0; have r3_cn_1 := (hbd3.cell (World.block_lt_of_cell? _ _ r2_cn_1)).trans r2_cn_1)
      | (go_at_call 25; refine (HN2.out _).mono ?_; rintro e w24 ⟨vm0, vm1, rfl, hom, hbd2⟩; have r2_cus_0 := (hbd2.cell (World.block_lt_of_cell? _ _ r1_cus_0)).trans r1_cus_0; have r2_cus_1 := (hbd2.cell (World.block_lt_of_cell? _ _ r1_cus_1)).trans r1_cus_1; have r2_cuy_0 := (hbd2.cell (World.block_lt_of_cell? _ _ r1_cuy_0)).trans r1_cuy_0; have r2_cuy_1 := (hbd2.cell (World.block_lt_of_cell? _ _ r1_cuy_1)).trans r1_cuy_1; have r2_cn_0 := (hbd2.cell (World.block_lt_of_cell? _ _ r1_cn_0)).trans r1_cn_0; have r2_cn_1 := (hbd2.cell (World.block_lt_of_cell? _ _ r1_cn_1)).trans r1_cn_1; obtain ⟨hom0, hom1, -⟩ := hom; obtain ⟨Am0, cm0, rfl, _, _⟩ := OwnR.form fSt_len hom0; obtain ⟨Am1, cm1, rfl, _, _⟩ := OwnR.form fPu_len hom1)
      | (go_at_call 16; refine (HG1.out An0 An1 cn0 cn1 _ (hK _ _ HW.out (below_more HB_27.out (below_more gDrew hbd0))) ⟨(OwnR.rd fSt_len ((Hn0_27.out.below gDrew).below hbd0)), (OwnR.rd fPu_len ((Hn1_27.out.below gDrew).below hbd0)), by omega, by omega, HZn0.out, HZe0.out⟩ (ownR_lies ((Hn0_27.out.below gDrew).below hbd0)) (ownR_lies ((Hn1_27.out.below gDrew).below hbd0))).mono ?_; rintro e w23 ⟨rfl, hbd1⟩; have r1_cus_0 := (hbd1.cell (World.block_lt_of_cell? _ _ r0_cus_0)).trans r0_cus_0; have r1_cus_1 := (hbd1.cell (World.block_lt_of_cell? _ _ r0_cus_1)).trans r0_cus_1; have r1_cuy_0 := (hbd1.cell (World.block_lt_of_cell? _ _ r0_cuy_0)).trans r0_cuy_0; have r1_cuy_1 := (hbd1.cell (World.block_lt_of_cell? _ _ r0_cuy_1)).trans r0_cuy_1; have r1_cn_0 := (hbd1.cell (World.block_lt_of_cell? _ _ r0_cn_0)).trans r0_cn_0; have r1_cn_1 := (hbd1.cell (World.block_lt_of_cell? _ _ r0_cn_1)).trans r0_cn_1)
      | (go_at_call 15; refine (sameDisk_self Aus0 Aus1 Auy0 Auy1 Su U cus0 cus1 cuy0 cuy1 _ (OwnR.rd fSt_len (Hus0_27.out.below gDrew)) (OwnR.rd fPu_len (Hus1_27.out.below gDrew)) (OwnR.rd fSt_len (Huy0_27.out.below gDrew)) (OwnR.rd fPu_len (Huy1_27.out.below gDrew)) (by omega) (by omega)).mono ?_; rintro e w22 ⟨rfl, hbd0⟩; have r0_cus_0 := (hbd0.cell (World.block_lt_of_cell? _ _ cus_0)).trans cus_0; have r0_cus_1 := (hbd0.cell (World.block_lt_of_cell? _ _ cus_1)).trans cus_1; have r0_cuy_0 := (hbd0.cell (World.block_lt_of_cell? _ _ cuy_0)).trans cuy_0; have r0_cuy_1 := (hbd0.cell (World.block_lt_of_cell? _ _ cuy_1)).trans cuy_1; have r0_cn_0 := (hbd0.cell (World.block_lt_of_cell? _ _ cn_0)).trans cn_0; have r0_cn_1 := (hbd0.cell (World.block_lt_of_cell? _ _ cn_1)).trans cn_1))
    have hbq := below_more gDrew (below_more hbd0 (below_more hbd1 (below_more hbd2 (hbd3))))
    clear r0_cus_0 r0_cus_1 r0_cuy_0 r0_cuy_1 r0_cn_0 r0_cn_1 r1_cus_0 r1_cus_1 r1_cuy_0 r1_cuy_1 r1_cn_0 r1_cn_1 r2_cus_0 r2_cus_1 r2_cuy_0 r2_cuy_1 r2_cn_0 r2_cn_1 r3_cus_0 r3_cus_1 r3_cuy_0 r3_cuy_1 r3_cn_0 r3_cn_1 cus_0 cus_1 cuy_0 cuy_1 cn_0 cn_1 hw26
    have Hus0_28 := Lib.hid (Hus0_27.out.below hbq)
    have Hus1_28 := Lib.hid (Hus1_27.out.below hbq)
    have Huy0_28 := Lib.hid (Huy0_27.out.below hbq)
    have Huy1_28 := Lib.hid (Huy1_27.out.below hbq)
    have Hn0_28 := Lib.hid (Hn0_27.out.below hbq)
    have Hn1_28 := Lib.hid (Hn1_27.out.below hbq)
    have Kus_28 := Lib.hid ((hbq.block _ (heap_lt Kus_27.out)).trans Kus_27.out)
    have Kuy_28 := Lib.hid ((hbq.block _ (heap_lt Kuy_27.out)).trans Kuy_27.out)
    have Kn_28 := Lib.hid ((hbq.block _ (heap_lt Kn_26.out)).trans Kn_26.out)
    have HB_28 := Lib.hid (below_more HB_27.out hbq)
    clear Hus0_27 Hus1_27 Huy0_27 Huy1_27 Hn0_27 Hn1_27 Kus_27 Kuy_27 Kn_26 HB_27
    clear hbq hbd0 hbd1 hbd2 hbd3
    go_wp2_with fail
    go_ret
    exact ⟨ret_eq9, HB_28.out⟩
  · obtain ⟨hgd, hgc, hgs, hV12, hS12, hsec, hcr1, hcr2, hra⟩ := HOK.out hok
    have HGs := Lib.hid hgs
    have HSec := Lib.hid hsec
    have HV12 := Lib.hid hV12
    have HSy := Lib.hid (fun A B ca cb w hk hd hA hB => HS.out A B ss ps ca cb w hk hd hA hB)
    rw [hgd] at HSy HG1 HG2
    have HGc := Lib.hid (fun A B ca cb w hk hd hA hB => HG.out A B (crI ss ps ks torn bb) [] ca cb w hk hd hA hB)
    rw [hgc] at HGc
    have HCs := Lib.hid (fun A B ca cb w hk hd hA hB => HC.out A B (syI ss ps) [] ca cb none [] 0 (-1) 0 w hk hd hA hB (fun h => absurd rfl h) (Or.inl ⟨rfl, rfl⟩) (by simp))
    rw [hcr1, hcr2] at HCs
    have HAs := Lib.hid (fun A B ca cb w hk hd hA hB => HA.out A B (syI ss ps) [] ca cb w hk hd hA hB)
    have HAd := Lib.hid (fun A B ca cb w hk hd hA hB => HA.out A B ss ps ca cb w hk hd hA hB)
    rw [hgs, hra] at HAs
    rw [hgd] at HAd
    have HZs0 : Hid (∀ s ∈ syI ss ps, s.size ≤ 1048576) := fun s hs => by have := (good_len hgs).2.2.1 s hs; omega
    have HZc0 : Hid (∀ s ∈ crI ss ps ks torn bb, s.size ≤ 1048576) := fun s hs => by have := (good_len hgc).2.2.1 s hs; omega
    have HZe : Hid (∀ p ∈ ([] : List (Int × ByteArray)), p.2.size ≤ 1048576) := fun p hp => by cases hp
    have hS12' : (syI ss ps).length ≤ 12 := syI_len ss ps
    clear hgd hgc hgs hsec hcr1 hcr2 hra hV12 hS12 HOK
    generalize raI ss ps = ra at *
    generalize syI ss ps = S at *
    rw [hok] at HC1 HC2
    have hU : ([] : List (Int × ByteArray)).length ≤ 41 := by simp
    clear hok
    generalize crI ss ps ks torn bb = V at *
    generalize ([] : List (Int × ByteArray)) = U at *
    have cd_0 : w2.cell? ⟨w1.heap.size, 0, none⟩ = some (.slice Ad0 ss.length cd0) := cell_of_row _ _ 0 _ _ _ Kd_2.out
    have cd_1 : w2.cell? ⟨w1.heap.size, 1, none⟩ = some (.slice Ad1 ps.length cd1) := cell_of_row _ _ 1 _ _ _ Kd_2.out
    go_wp2_with fail
    clear cd_0 cd_1 hw2
    refine (HC1.out Ad0 Ad1 Ae cd0 cd1 ce _ (hK _ _ HW.out HB_3.out) ⟨(OwnR.rd fSt_len Hd0_3.out), (OwnR.rd fPu_len Hd1_3.out), by omega, by omega, HZd0.out, HZd1.out⟩ (ownR_lies Hd0_3.out) (ownR_lies Hd1_3.out) (own_ints5 HKe_3.out) (own9_lies HKe_3.out)).mono ?_
    rintro e w3 ⟨vc0, vc1, rfl, hpk, hbc⟩
    obtain ⟨hoc0, hoc1, hac⟩ := hpk
    obtain ⟨Ac0, cc0, hvc0, hcapc0, _⟩ := OwnR.form fSt_len hoc0
    subst hvc0
    obtain ⟨Ac1, cc1, hvc1, hcapc1, _⟩ := OwnR.form fPu_len hoc1
    subst hvc1
    have HAp_d0_c0 := Lib.hid (apart5 (fun k hk => (Hd0_3.out.lt k hk).2) (fun k hk => (hoc0.lt k hk).1))
    have HAp_d1_c0 := Lib.hid (apart5 (fun k hk => (Hd1_3.out.lt k hk).2) (fun k hk => (hoc0.lt k hk).1))
    have HAp_Ke_c0 := Lib.hid (apart5 (fun k hk => (HKe_3.out.lt k hk).2) (fun k hk => (hoc0.lt k hk).1))
    have HAp_d0_c1 := Lib.hid (apart5 (fun k hk => (Hd0_3.out.lt k hk).2) (fun k hk => (hoc1.lt k hk).1))
    have HAp_d1_c1 := Lib.hid (apart5 (fun k hk => (Hd1_3.out.lt k hk).2) (fun k hk => (hoc1.lt k hk).1))
    have HAp_Ke_c1 := Lib.hid (apart5 (fun k hk => (HKe_3.out.lt k hk).2) (fun k hk => (hoc1.lt k hk).1))
    have HNX_d_c0 := Lib.hid (fun g hg => Nat.ne_of_gt (Nat.lt_of_lt_of_le (heap_lt Kd_2.out) (hoc0.lt g hg).1))
    have HNX_d_c1 := Lib.hid (fun g hg => Nat.ne_of_gt (Nat.lt_of_lt_of_le (heap_lt Kd_2.out) (hoc1.lt g hg).1))
    have HAp_c0_c1 := Lib.hid hac
    have Hd0_4 := Lib.hid (Hd0_3.out.below hbc)
    have Hd1_4 := Lib.hid (Hd1_3.out.below hbc)
    have HKe_4 := Lib.hid (HKe_3.out.below hbc)
    have Hc0_4 := Lib.hid (hoc0.lower HB_3.out.size)
    have Hc1_4 := Lib.hid (hoc1.lower HB_3.out.size)
    have Kd_4 := Lib.hid ((hbc.block _ (heap_lt Kd_2.out)).trans Kd_2.out)
    have HB_4 := Lib.hid (below_more HB_3.out hbc)
    clear Hd0_3 Hd1_3 HKe_3 Kd_2 HB_3 hoc0 hoc1 hac hbc
    obtain ⟨w4, hw5⟩ : ∃ wn, w3.alloc (.cells #[.slice Ac0 V.length cc0, .slice Ac1 U.length cc1] 26) = wn := ⟨_, rfl⟩
    have hbx : Below w3.heap.size w3 w4 := by rw [← hw5]; exact gAlloc _ _
    have KX : w4.heap[w3.heap.size]? = some (.cells #[.slice Ac0 V.length cc0, .slice Ac1 U.length cc1] 26 (0, 0)) := by rw [← hw5]; exact heap_alloc_new _ _
    have HNX_c_d0 := Lib.hid (fun g hg => Nat.ne_of_lt (Hd0_4.out.lt g hg).2)
    have HNX_c_d1 := Lib.hid (fun g hg => Nat.ne_of_lt (Hd1_4.out.lt g hg).2)
    have HNX_c_Ke := Lib.hid (fun g hg => Nat.ne_of_lt (HKe_4.out.lt g hg).2)
    have HNX_c_c0 := Lib.hid (fun g hg => Nat.ne_of_lt (Hc0_4.out.lt g hg).2)
    have HNX_c_c1 := Lib.hid (fun g hg => Nat.ne_of_lt (Hc1_4.out.lt g hg).2)
    have Hd0_6 := Lib.hid (Hd0_4.out.below hbx)
    have Hd1_6 := Lib.hid (Hd1_4.out.below hbx)
    have HKe_6 := Lib.hid (HKe_4.out.below hbx)
    have Hc0_6 := Lib.hid (Hc0_4.out.below hbx)
    have Hc1_6 := Lib.hid (Hc1_4.out.below hbx)
    have Kd_6 := Lib.hid ((hbx.block _ (heap_lt Kd_4.out)).trans Kd_4.out)
    have HB_6 := Lib.hid (below_more HB_4.out hbx)
    clear Hd0_4 Hd1_4 HKe_4 Hc0_4 Hc1_4 Kd_4 HB_4
    have Kc_5 := Lib.hid KX
    clear hbx KX
    have cd_0 : w4.cell? ⟨w1.heap.size, 0, none⟩ = some (.slice Ad0 ss.length cd0) := cell_of_row _ _ 0 _ _ _ Kd_6.out
    have cd_1 : w4.cell? ⟨w1.heap.size, 1, none⟩ = some (.slice Ad1 ps.length cd1) := cell_of_row _ _ 1 _ _ _ Kd_6.out
    have cc_0 : w4.cell? ⟨w3.heap.size, 0, none⟩ = some (.slice Ac0 V.length cc0) := cell_of_row _ _ 0 _ _ _ Kc_5.out
    have cc_1 : w4.cell? ⟨w3.heap.size, 1, none⟩ = some (.slice Ac1 U.length cc1) := cell_of_row _ _ 1 _ _ _ Kc_5.out
    go_wp2_with fail
    clear cd_0 cd_1 cc_0 cc_1 hw5
    refine (HC2.out Ad0 Ad1 Ae cd0 cd1 ce _ ⟨(OwnR.rd fSt_len Hd0_6.out), (OwnR.rd fPu_len Hd1_6.out), by omega, by omega, HZd0.out, HZd1.out⟩ (ownR_lies Hd0_6.out) (own_ints5 HKe_6.out)).mono ?_
    rintro e w5 ⟨vq0, vq1, rfl, hpk, hbq⟩
    obtain ⟨hoq0, hoq1, haq⟩ := hpk
    obtain ⟨Aq0, cq0, hvq0, hcapq0, _⟩ := OwnR.form fSt_len hoq0
    subst hvq0
    obtain ⟨Aq1, cq1, hvq1, hcapq1, _⟩ := OwnR.form fPu_len hoq1
    subst hvq1
    have HAp_d0_q0 := Lib.hid (apart5 (fun k hk => (Hd0_6.out.lt k hk).2) (fun k hk => (hoq0.lt k hk).1))
    have HAp_d1_q0 := Lib.hid (apart5 (fun k hk => (Hd1_6.out.lt k hk).2) (fun k hk => (hoq0.lt k hk).1))
    have HAp_Ke_q0 := Lib.hid (apart5 (fun k hk => (HKe_6.out.lt k hk).2) (fun k hk => (hoq0.lt k hk).1))
    have HAp_c0_q0 := Lib.hid (apart5 (fun k hk => (Hc0_6.out.lt k hk).2) (fun k hk => (hoq0.lt k hk).1))
    have HAp_c1_q0 := Lib.hid (apart5 (fun k hk => (Hc1_6.out.lt k hk).2) (fun k hk => (hoq0.lt k hk).1))
    have HAp_d0_q1 := Lib.hid (apart5 (fun k hk => (Hd0_6.out.lt k hk).2) (fun k hk => (hoq1.lt k hk).1))
    have HAp_d1_q1 := Lib.hid (apart5 (fun k hk => (Hd1_6.out.lt k hk).2) (fun k hk => (hoq1.lt k hk).1))
    have HAp_Ke_q1 := Lib.hid (apart5 (fun k hk => (HKe_6.out.lt k hk).2) (fun k hk => (hoq1.lt k hk).1))
    have HAp_c0_q1 := Lib.hid (apart5 (fun k hk => (Hc0_6.out.lt k hk).2) (fun k hk => (hoq1.lt k hk).1))
    have HAp_c1_q1 := Lib.hid (apart5 (fun k hk => (Hc1_6.out.lt k hk).2) (fun k hk => (hoq1.lt k hk).1))
    have HNX_d_q0 := Lib.hid (fun g hg => Nat.ne_of_gt (Nat.lt_of_lt_of_le (heap_lt Kd_6.out) (hoq0.lt g hg).1))
    have HNX_c_q0 := Lib.hid (fun g hg => Nat.ne_of_gt (Nat.lt_of_lt_of_le (heap_lt Kc_5.out) (hoq0.lt g hg).1))
    have HNX_d_q1 := Lib.hid (fun g hg => Nat.ne_of_gt (Nat.lt_of_lt_of_le (heap_lt Kd_6.out) (hoq1.lt g hg).1))
    have HNX_c_q1 := Lib.hid (fun g hg => Nat.ne_of_gt (Nat.lt_of_lt_of_le (heap_lt Kc_5.out) (hoq1.lt g hg).1))
    have HAp_q0_q1 := Lib.hid haq
    have Hd0_7 := Lib.hid (Hd0_6.out.below hbq)
    have Hd1_7 := Lib.hid (Hd1_6.out.below hbq)
    have HKe_7 := Lib.hid (HKe_6.out.below hbq)
    have Hc0_7 := Lib.hid (Hc0_6.out.below hbq)
    have Hc1_7 := Lib.hid (Hc1_6.out.below hbq)
    have Hq0_7 := Lib.hid (hoq0.lower HB_6.out.size)
    have Hq1_7 := Lib.hid (hoq1.lower HB_6.out.size)
    have Kd_7 := Lib.hid ((hbq.block _ (heap_lt Kd_6.out)).trans Kd_6.out)
    have Kc_7 := Lib.hid ((hbq.block _ (heap_lt Kc_5.out)).trans Kc_5.out)
    have HB_7 := Lib.hid (below_more HB_6.out hbq)
    clear Hd0_6 Hd1_6 HKe_6 Hc0_6 Hc1_6 Kd_6 Kc_5 HB_6 hoq0 hoq1 haq hbq
    obtain ⟨w6, hw8⟩ : ∃ wn, w5.alloc (.cells #[.slice Aq0 V.length cq0, .slice Aq1 U.length cq1] 26) = wn := ⟨_, rfl⟩
    have hbx : Below w5.heap.size w5 w6 := by rw [← hw8]; exact gAlloc _ _
    have KX : w6.heap[w5.heap.size]? = some (.cells #[.slice Aq0 V.length cq0, .slice Aq1 U.length cq1] 26 (0, 0)) := by rw [← hw8]; exact heap_alloc_new _ _
    have HNX_q_d0 := Lib.hid (fun g hg => Nat.ne_of_lt (Hd0_7.out.lt g hg).2)
    have HNX_q_d1 := Lib.hid (fun g hg => Nat.ne_of_lt (Hd1_7.out.lt g hg).2)
    have HNX_q_Ke := Lib.hid (fun g hg => Nat.ne_of_lt (HKe_7.out.lt g hg).2)
    have HNX_q_c0 := Lib.hid (fun g hg => Nat.ne_of_lt (Hc0_7.out.lt g hg).2)
    have HNX_q_c1 := Lib.hid (fun g hg => Nat.ne_of_lt (Hc1_7.out.lt g hg).2)
    have HNX_q_q0 := Lib.hid (fun g hg => Nat.ne_of_lt (Hq0_7.out.lt g hg).2)
    have HNX_q_q1 := Lib.hid (fun g hg => Nat.ne_of_lt (Hq1_7.out.lt g hg).2)
    have Hd0_9 := Lib.hid (Hd0_7.out.below hbx)
    have Hd1_9 := Lib.hid (Hd1_7.out.below hbx)
    have HKe_9 := Lib.hid (HKe_7.out.below hbx)
    have Hc0_9 := Lib.hid (Hc0_7.out.below hbx)
    have Hc1_9 := Lib.hid (Hc1_7.out.below hbx)
    have Hq0_9 := Lib.hid (Hq0_7.out.below hbx)
    have Hq1_9 := Lib.hid (Hq1_7.out.below hbx)
    have Kd_9 := Lib.hid ((hbx.block _ (heap_lt Kd_7.out)).trans Kd_7.out)
    have Kc_9 := Lib.hid ((hbx.block _ (heap_lt Kc_7.out)).trans Kc_7.out)
    have HB_9 := Lib.hid (below_more HB_7.out hbx)
    clear Hd0_7 Hd1_7 HKe_7 Hc0_7 Hc1_7 Hq0_7 Hq1_7 Kd_7 Kc_7 HB_7
    have Kq_8 := Lib.hid KX
    clear hbx KX
    clear HKe_9
    have cd_0 : w6.cell? ⟨w1.heap.size, 0, none⟩ = some (.slice Ad0 ss.length cd0) := cell_of_row _ _ 0 _ _ _ Kd_9.out
    have cd_1 : w6.cell? ⟨w1.heap.size, 1, none⟩ = some (.slice Ad1 ps.length cd1) := cell_of_row _ _ 1 _ _ _ Kd_9.out
    have cc_0 : w6.cell? ⟨w3.heap.size, 0, none⟩ = some (.slice Ac0 V.length cc0) := cell_of_row _ _ 0 _ _ _ Kc_9.out
    have cc_1 : w6.cell? ⟨w3.heap.size, 1, none⟩ = some (.slice Ac1 U.length cc1) := cell_of_row _ _ 1 _ _ _ Kc_9.out
    have cq_0 : w6.cell? ⟨w5.heap.size, 0, none⟩ = some (.slice Aq0 V.length cq0) := cell_of_row _ _ 0 _ _ _ Kq_8.out
    have cq_1 : w6.cell? ⟨w5.heap.size, 1, none⟩ = some (.slice Aq1 U.length cq1) := cell_of_row _ _ 1 _ _ _ Kq_8.out
    go_wp2_with fail
    go_region_held3 (fun w' => w'.cell? ⟨w3.heap.size, 0, none⟩ = some (.slice Ac0 V.length cc0) ∧ w'.cell? ⟨w3.heap.size, 1, none⟩ = some (.slice Ac1 U.length cc1) ∧ w'.cell? ⟨w5.heap.size, 0, none⟩ = some (.slice Aq0 V.length cq0) ∧ w'.cell? ⟨w5.heap.size, 1, none⟩ = some (.slice Aq1 U.length cq1) ∧ w'.cell? ⟨w1.heap.size, 0, none⟩ = some (.slice Ad0 ss.length cd0) ∧ w'.cell? ⟨w1.heap.size, 1, none⟩ = some (.slice Ad1 ps.length cd1)) (first | exact ⟨r2_cc_0, r2_cc_1, r2_cq_0, r2_cq_1, r2_cd_0, r2_cd_1⟩ | exact ⟨r1_cc_0, r1_cc_1, r1_cq_0, r1_cq_1, r1_cd_0, r1_cd_1⟩ | exact ⟨r0_cc_0, r0_cc_1, r0_cq_0, r0_cq_1, r0_cd_0, r0_cd_1⟩ | exact ⟨cc_0, cc_1, cq_0, cq_1, cd_0, cd_1⟩ | go_keep) (first
      | (go_at_call 17; refine (HG2.out Ad0 Ad1 cd0 cd1 _ ⟨(OwnR.rd fSt_len (((Hd0_9.out.below gDrew).below hbd0).below hbd1)), (OwnR.rd fPu_len (((Hd1_9.out.below gDrew).below hbd0).below hbd1)), by omega, by omega, HZd0.out, HZd1.out⟩).mono ?_; rintro e w9 ⟨rfl, hbd2⟩; have r2_cc_0 := (hbd2.cell (World.block_lt_of_cell? _ _ r1_cc_0)).trans r1_cc_0; have r2_cc_1 := (hbd2.cell (World.block_lt_of_cell? _ _ r1_cc_1)).trans r1_cc_1; have r2_cq_0 := (hbd2.cell (World.block_lt_of_cell? _ _ r1_cq_0)).trans r1_cq_0; have r2_cq_1 := (hbd2.cell (World.block_lt_of_cell? _ _ r1_cq_1)).trans r1_cq_1; have r2_cd_0 := (hbd2.cell (World.block_lt_of_cell? _ _ r1_cd_0)).trans r1_cd_0; have r2_cd_1 := (hbd2.cell (World.block_lt_of_cell? _ _ r1_cd_1)).trans r1_cd_1)
      | (go_at_call 16; refine (HG1.out Ad0 Ad1 cd0 cd1 _ (hK _ _ HW.out (below_more HB_9.out (below_more gDrew hbd0))) ⟨(OwnR.rd fSt_len ((Hd0_9.out.below gDrew).below hbd0)), (OwnR.rd fPu_len ((Hd1_9.out.below gDrew).below hbd0)), by omega, by omega, HZd0.out, HZd1.out⟩ (ownR_lies ((Hd0_9.out.below gDrew).below hbd0)) (ownR_lies ((Hd1_9.out.below gDrew).below hbd0))).mono ?_; rintro e w8 ⟨rfl, hbd1⟩; have r1_cc_0 := (hbd1.cell (World.block_lt_of_cell? _ _ r0_cc_0)).trans r0_cc_0; have r1_cc_1 := (hbd1.cell (World.block_lt_of_cell? _ _ r0_cc_1)).trans r0_cc_1; have r1_cq_0 := (hbd1.cell (World.block_lt_of_cell? _ _ r0_cq_0)).trans r0_cq_0; have r1_cq_1 := (hbd1.cell (World.block_lt_of_cell? _ _ r0_cq_1)).trans r0_cq_1; have r1_cd_0 := (hbd1.cell (World.block_lt_of_cell? _ _ r0_cd_0)).trans r0_cd_0; have r1_cd_1 := (hbd1.cell (World.block_lt_of_cell? _ _ r0_cd_1)).trans r0_cd_1)
      | (go_at_call 15; refine (sameDisk_self Ac0 Ac1 Aq0 Aq1 V U cc0 cc1 cq0 cq1 _ (OwnR.rd fSt_len (Hc0_9.out.below gDrew)) (OwnR.rd fPu_len (Hc1_9.out.below gDrew)) (OwnR.rd fSt_len (Hq0_9.out.below gDrew)) (OwnR.rd fPu_len (Hq1_9.out.below gDrew)) (by omega) (by omega)).mono ?_; rintro e w7 ⟨rfl, hbd0⟩; have r0_cc_0 := (hbd0.cell (World.block_lt_of_cell? _ _ cc_0)).trans cc_0; have r0_cc_1 := (hbd0.cell (World.block_lt_of_cell? _ _ cc_1)).trans cc_1; have r0_cq_0 := (hbd0.cell (World.block_lt_of_cell? _ _ cq_0)).trans cq_0; have r0_cq_1 := (hbd0.cell (World.block_lt_of_cell? _ _ cq_1)).trans cq_1; have r0_cd_0 := (hbd0.cell (World.block_lt_of_cell? _ _ cd_0)).trans cd_0; have r0_cd_1 := (hbd0.cell (World.block_lt_of_cell? _ _ cd_1)).trans cd_1))
    have hbq := below_more gDrew (below_more hbd0 (below_more hbd1 (hbd2)))
    clear r0_cc_0 r0_cc_1 r0_cq_0 r0_cq_1 r0_cd_0 r0_cd_1 r1_cc_0 r1_cc_1 r1_cq_0 r1_cq_1 r1_cd_0 r1_cd_1 r2_cc_0 r2_cc_1 r2_cq_0 r2_cq_1 r2_cd_0 r2_cd_1 cd_0 cd_1 cc_0 cc_1 cq_0 cq_1 hw8
    have Hd0_10 := Lib.hid (Hd0_9.out.below hbq)
    have Hd1_10 := Lib.hid (Hd1_9.out.below hbq)
    have Hc0_10 := Lib.hid (Hc0_9.out.below hbq)
    have Hc1_10 := Lib.hid (Hc1_9.out.below hbq)
    have Hq0_10 := Lib.hid (Hq0_9.out.below hbq)
    have Hq1_10 := Lib.hid (Hq1_9.out.below hbq)
    have Kd_10 := Lib.hid ((hbq.block _ (heap_lt Kd_9.out)).trans Kd_9.out)
    have Kc_10 := Lib.hid ((hbq.block _ (heap_lt Kc_9.out)).trans Kc_9.out)
    have Kq_10 := Lib.hid ((hbq.block _ (heap_lt Kq_8.out)).trans Kq_8.out)
    have HB_10 := Lib.hid (below_more HB_9.out hbq)
    clear Hd0_9 Hd1_9 Hc0_9 Hc1_9 Hq0_9 Hq1_9 Kd_9 Kc_9 Kq_8 HB_9
    clear hbq hbd0 hbd1 hbd2
    clear Hq0_10 Hq1_10
    clear Kq_10
    clear HC1 HC2 HG1 HG2
    have cd_0 : w9.cell? ⟨w1.heap.size, 0, none⟩ = some (.slice Ad0 ss.length cd0) := cell_of_row _ _ 0 _ _ _ Kd_10.out
    have cd_1 : w9.cell? ⟨w1.heap.size, 1, none⟩ = some (.slice Ad1 ps.length cd1) := cell_of_row _ _ 1 _ _ _ Kd_10.out
    have cc_0 : w9.cell? ⟨w3.heap.size, 0, none⟩ = some (.slice Ac0 V.length cc0) := cell_of_row _ _ 0 _ _ _ Kc_10.out
    have cc_1 : w9.cell? ⟨w3.heap.size, 1, none⟩ = some (.slice Ac1 U.length cc1) := cell_of_row _ _ 1 _ _ _ Kc_10.out
    go_wp2_with fail
    clear cd_0 cd_1 cc_0 cc_1
    refine (HSy.out Ad0 Ad1 cd0 cd1 _ (hK _ _ HW.out HB_10.out) ⟨(OwnR.rd fSt_len Hd0_10.out), (OwnR.rd fPu_len Hd1_10.out), by omega, by omega, HZd0.out, HZd1.out⟩ (ownR_lies Hd0_10.out) (ownR_lies Hd1_10.out)).mono ?_
    rintro e w10 ⟨vs0, vs1, rfl, hpk, hbs⟩
    obtain ⟨hos0, hos1, has⟩ := hpk
    obtain ⟨As0, cs0, hvs0, hcaps0, _⟩ := OwnR.form fSt_len hos0
    subst hvs0
    obtain ⟨As1, cs1, hvs1, hcaps1, _⟩ := OwnR.form fPu_len hos1
    subst hvs1
    have HAp_d0_s0 := Lib.hid (apart5 (fun k hk => (Hd0_10.out.lt k hk).2) (fun k hk => (hos0.lt k hk).1))
    have HAp_d1_s0 := Lib.hid (apart5 (fun k hk => (Hd1_10.out.lt k hk).2) (fun k hk => (hos0.lt k hk).1))
    have HAp_c0_s0 := Lib.hid (apart5 (fun k hk => (Hc0_10.out.lt k hk).2) (fun k hk => (hos0.lt k hk).1))
    have HAp_c1_s0 := Lib.hid (apart5 (fun k hk => (Hc1_10.out.lt k hk).2) (fun k hk => (hos0.lt k hk).1))
    have HAp_d0_s1 := Lib.hid (apart5 (fun k hk => (Hd0_10.out.lt k hk).2) (fun k hk => (hos1.lt k hk).1))
    have HAp_d1_s1 := Lib.hid (apart5 (fun k hk => (Hd1_10.out.lt k hk).2) (fun k hk => (hos1.lt k hk).1))
    have HAp_c0_s1 := Lib.hid (apart5 (fun k hk => (Hc0_10.out.lt k hk).2) (fun k hk => (hos1.lt k hk).1))
    have HAp_c1_s1 := Lib.hid (apart5 (fun k hk => (Hc1_10.out.lt k hk).2) (fun k hk => (hos1.lt k hk).1))
    have HNX_d_s0 := Lib.hid (fun g hg => Nat.ne_of_gt (Nat.lt_of_lt_of_le (heap_lt Kd_10.out) (hos0.lt g hg).1))
    have HNX_c_s0 := Lib.hid (fun g hg => Nat.ne_of_gt (Nat.lt_of_lt_of_le (heap_lt Kc_10.out) (hos0.lt g hg).1))
    have HNX_d_s1 := Lib.hid (fun g hg => Nat.ne_of_gt (Nat.lt_of_lt_of_le (heap_lt Kd_10.out) (hos1.lt g hg).1))
    have HNX_c_s1 := Lib.hid (fun g hg => Nat.ne_of_gt (Nat.lt_of_lt_of_le (heap_lt Kc_10.out) (hos1.lt g hg).1))
    have HAp_s0_s1 := Lib.hid has
    have Hd0_11 := Lib.hid (Hd0_10.out.below hbs)
    have Hd1_11 := Lib.hid (Hd1_10.out.below hbs)
    have Hc0_11 := Lib.hid (Hc0_10.out.below hbs)
    have Hc1_11 := Lib.hid (Hc1_10.out.below hbs)
    have Hs0_11 := Lib.hid (hos0.lower HB_10.out.size)
    have Hs1_11 := Lib.hid (hos1.lower HB_10.out.size)
    have Kd_11 := Lib.hid ((hbs.block _ (heap_lt Kd_10.out)).trans Kd_10.out)
    have Kc_11 := Lib.hid ((hbs.block _ (heap_lt Kc_10.out)).trans Kc_10.out)
    have HB_11 := Lib.hid (below_more HB_10.out hbs)
    clear Hd0_10 Hd1_10 Hc0_10 Hc1_10 Kd_10 Kc_10 HB_10 hos0 hos1 has hbs
    obtain ⟨w11, hw12⟩ : ∃ wn, w10.alloc (.cells #[.slice As0 S.length cs0, .slice As1 U.length cs1] 26) = wn := ⟨_, rfl⟩
    have hbx : Below w10.heap.size w10 w11 := by rw [← hw12]; exact gAlloc _ _
    have KX : w11.heap[w10.heap.size]? = some (.cells #[.slice As0 S.length cs0, .slice As1 U.length cs1] 26 (0, 0)) := by rw [← hw12]; exact heap_alloc_new _ _
    have HNX_s_d0 := Lib.hid (fun g hg => Nat.ne_of_lt (Hd0_11.out.lt g hg).2)
    have HNX_s_d1 := Lib.hid (fun g hg => Nat.ne_of_lt (Hd1_11.out.lt g hg).2)
    have HNX_s_c0 := Lib.hid (fun g hg => Nat.ne_of_lt (Hc0_11.out.lt g hg).2)
    have HNX_s_c1 := Lib.hid (fun g hg => Nat.ne_of_lt (Hc1_11.out.lt g hg).2)
    have HNX_s_s0 := Lib.hid (fun g hg => Nat.ne_of_lt (Hs0_11.out.lt g hg).2)
    have HNX_s_s1 := Lib.hid (fun g hg => Nat.ne_of_lt (Hs1_11.out.lt g hg).2)
    have Hd0_13 := Lib.hid (Hd0_11.out.below hbx)
    have Hd1_13 := Lib.hid (Hd1_11.out.below hbx)
    have Hc0_13 := Lib.hid (Hc0_11.out.below hbx)
    have Hc1_13 := Lib.hid (Hc1_11.out.below hbx)
    have Hs0_13 := Lib.hid (Hs0_11.out.below hbx)
    have Hs1_13 := Lib.hid (Hs1_11.out.below hbx)
    have Kd_13 := Lib.hid ((hbx.block _ (heap_lt Kd_11.out)).trans Kd_11.out)
    have Kc_13 := Lib.hid ((hbx.block _ (heap_lt Kc_11.out)).trans Kc_11.out)
    have HB_13 := Lib.hid (below_more HB_11.out hbx)
    clear Hd0_11 Hd1_11 Hc0_11 Hc1_11 Hs0_11 Hs1_11 Kd_11 Kc_11 HB_11
    have Ks_12 := Lib.hid KX
    clear hbx KX
    have cd_0 : w11.cell? ⟨w1.heap.size, 0, none⟩ = some (.slice Ad0 ss.length cd0) := cell_of_row _ _ 0 _ _ _ Kd_13.out
    have cd_1 : w11.cell? ⟨w1.heap.size, 1, none⟩ = some (.slice Ad1 ps.length cd1) := cell_of_row _ _ 1 _ _ _ Kd_13.out
    have cc_0 : w11.cell? ⟨w3.heap.size, 0, none⟩ = some (.slice Ac0 V.length cc0) := cell_of_row _ _ 0 _ _ _ Kc_13.out
    have cc_1 : w11.cell? ⟨w3.heap.size, 1, none⟩ = some (.slice Ac1 U.length cc1) := cell_of_row _ _ 1 _ _ _ Kc_13.out
    have cs_0 : w11.cell? ⟨w10.heap.size, 0, none⟩ = some (.slice As0 S.length cs0) := cell_of_row _ _ 0 _ _ _ Ks_12.out
    have cs_1 : w11.cell? ⟨w10.heap.size, 1, none⟩ = some (.slice As1 U.length cs1) := cell_of_row _ _ 1 _ _ _ Ks_12.out
    go_wp2_with fail
    clear cd_0 cd_1 cc_0 cc_1 cs_0 cs_1 hw12
    refine (HCs.out As0 As1 cs0 cs1 _ (hK _ _ HW.out HB_13.out) ⟨(OwnR.rd fSt_len Hs0_13.out), (OwnR.rd fPu_len Hs1_13.out), by omega, by omega, HZs0.out, HZe.out⟩ (ownR_lies Hs0_13.out) (ownR_lies Hs1_13.out)).mono ?_
    rintro e w12 ⟨vx0, vx1, rfl, hpk, hbx⟩
    obtain ⟨hox0, hox1, hax⟩ := hpk
    obtain ⟨Ax0, cx0, hvx0, hcapx0, _⟩ := OwnR.form fSt_len hox0
    subst hvx0
    obtain ⟨Ax1, cx1, hvx1, hcapx1, _⟩ := OwnR.form fPu_len hox1
    subst hvx1
    have HAp_d0_x0 := Lib.hid (apart5 (fun k hk => (Hd0_13.out.lt k hk).2) (fun k hk => (hox0.lt k hk).1))
    have HAp_d1_x0 := Lib.hid (apart5 (fun k hk => (Hd1_13.out.lt k hk).2) (fun k hk => (hox0.lt k hk).1))
    have HAp_c0_x0 := Lib.hid (apart5 (fun k hk => (Hc0_13.out.lt k hk).2) (fun k hk => (hox0.lt k hk).1))
    have HAp_c1_x0 := Lib.hid (apart5 (fun k hk => (Hc1_13.out.lt k hk).2) (fun k hk => (hox0.lt k hk).1))
    have HAp_s0_x0 := Lib.hid (apart5 (fun k hk => (Hs0_13.out.lt k hk).2) (fun k hk => (hox0.lt k hk).1))
    have HAp_s1_x0 := Lib.hid (apart5 (fun k hk => (Hs1_13.out.lt k hk).2) (fun k hk => (hox0.lt k hk).1))
    have HAp_d0_x1 := Lib.hid (apart5 (fun k hk => (Hd0_13.out.lt k hk).2) (fun k hk => (hox1.lt k hk).1))
    have HAp_d1_x1 := Lib.hid (apart5 (fun k hk => (Hd1_13.out.lt k hk).2) (fun k hk => (hox1.lt k hk).1))
    have HAp_c0_x1 := Lib.hid (apart5 (fun k hk => (Hc0_13.out.lt k hk).2) (fun k hk => (hox1.lt k hk).1))
    have HAp_c1_x1 := Lib.hid (apart5 (fun k hk => (Hc1_13.out.lt k hk).2) (fun k hk => (hox1.lt k hk).1))
    have HAp_s0_x1 := Lib.hid (apart5 (fun k hk => (Hs0_13.out.lt k hk).2) (fun k hk => (hox1.lt k hk).1))
    have HAp_s1_x1 := Lib.hid (apart5 (fun k hk => (Hs1_13.out.lt k hk).2) (fun k hk => (hox1.lt k hk).1))
    have HNX_d_x0 := Lib.hid (fun g hg => Nat.ne_of_gt (Nat.lt_of_lt_of_le (heap_lt Kd_13.out) (hox0.lt g hg).1))
    have HNX_c_x0 := Lib.hid (fun g hg => Nat.ne_of_gt (Nat.lt_of_lt_of_le (heap_lt Kc_13.out) (hox0.lt g hg).1))
    have HNX_s_x0 := Lib.hid (fun g hg => Nat.ne_of_gt (Nat.lt_of_lt_of_le (heap_lt Ks_12.out) (hox0.lt g hg).1))
    have HNX_d_x1 := Lib.hid (fun g hg => Nat.ne_of_gt (Nat.lt_of_lt_of_le (heap_lt Kd_13.out) (hox1.lt g hg).1))
    have HNX_c_x1 := Lib.hid (fun g hg => Nat.ne_of_gt (Nat.lt_of_lt_of_le (heap_lt Kc_13.out) (hox1.lt g hg).1))
    have HNX_s_x1 := Lib.hid (fun g hg => Nat.ne_of_gt (Nat.lt_of_lt_of_le (heap_lt Ks_12.out) (hox1.lt g hg).1))
    have HAp_x0_x1 := Lib.hid hax
    have Hd0_14 := Lib.hid (Hd0_13.out.below hbx)
    have Hd1_14 := Lib.hid (Hd1_13.out.below hbx)
    have Hc0_14 := Lib.hid (Hc0_13.out.below hbx)
    have Hc1_14 := Lib.hid (Hc1_13.out.below hbx)
    have Hs0_14 := Lib.hid (Hs0_13.out.below hbx)
    have Hs1_14 := Lib.hid (Hs1_13.out.below hbx)
    have Hx0_14 := Lib.hid (hox0.lower HB_13.out.size)
    have Hx1_14 := Lib.hid (hox1.lower HB_13.out.size)
    have Kd_14 := Lib.hid ((hbx.block _ (heap_lt Kd_13.out)).trans Kd_13.out)
    have Kc_14 := Lib.hid ((hbx.block _ (heap_lt Kc_13.out)).trans Kc_13.out)
    have Ks_14 := Lib.hid ((hbx.block _ (heap_lt Ks_12.out)).trans Ks_12.out)
    have HB_14 := Lib.hid (below_more HB_13.out hbx)
    clear Hd0_13 Hd1_13 Hc0_13 Hc1_13 Hs0_13 Hs1_13 Kd_13 Kc_13 Ks_12 HB_13 hox0 hox1 hax hbx
    obtain ⟨w13, hw15⟩ : ∃ wn, w12.alloc (.cells #[.slice Ax0 S.length cx0, .slice Ax1 U.length cx1] 26) = wn := ⟨_, rfl⟩
    have hbx : Below w12.heap.size w12 w13 := by rw [← hw15]; exact gAlloc _ _
    have KX : w13.heap[w12.heap.size]? = some (.cells #[.slice Ax0 S.length cx0, .slice Ax1 U.length cx1] 26 (0, 0)) := by rw [← hw15]; exact heap_alloc_new _ _
    have HNX_x_d0 := Lib.hid (fun g hg => Nat.ne_of_lt (Hd0_14.out.lt g hg).2)
    have HNX_x_d1 := Lib.hid (fun g hg => Nat.ne_of_lt (Hd1_14.out.lt g hg).2)
    have HNX_x_c0 := Lib.hid (fun g hg => Nat.ne_of_lt (Hc0_14.out.lt g hg).2)
    have HNX_x_c1 := Lib.hid (fun g hg => Nat.ne_of_lt (Hc1_14.out.lt g hg).2)
    have HNX_x_s0 := Lib.hid (fun g hg => Nat.ne_of_lt (Hs0_14.out.lt g hg).2)
    have HNX_x_s1 := Lib.hid (fun g hg => Nat.ne_of_lt (Hs1_14.out.lt g hg).2)
    have HNX_x_x0 := Lib.hid (fun g hg => Nat.ne_of_lt (Hx0_14.out.lt g hg).2)
    have HNX_x_x1 := Lib.hid (fun g hg => Nat.ne_of_lt (Hx1_14.out.lt g hg).2)
    have Hd0_16 := Lib.hid (Hd0_14.out.below hbx)
    have Hd1_16 := Lib.hid (Hd1_14.out.below hbx)
    have Hc0_16 := Lib.hid (Hc0_14.out.below hbx)
    have Hc1_16 := Lib.hid (Hc1_14.out.below hbx)
    have Hs0_16 := Lib.hid (Hs0_14.out.below hbx)
    have Hs1_16 := Lib.hid (Hs1_14.out.below hbx)
    have Hx0_16 := Lib.hid (Hx0_14.out.below hbx)
    have Hx1_16 := Lib.hid (Hx1_14.out.below hbx)
    have Kd_16 := Lib.hid ((hbx.block _ (heap_lt Kd_14.out)).trans Kd_14.out)
    have Kc_16 := Lib.hid ((hbx.block _ (heap_lt Kc_14.out)).trans Kc_14.out)
    have Ks_16 := Lib.hid ((hbx.block _ (heap_lt Ks_14.out)).trans Ks_14.out)
    have HB_16 := Lib.hid (below_more HB_14.out hbx)
    clear Hd0_14 Hd1_14 Hc0_14 Hc1_14 Hs0_14 Hs1_14 Hx0_14 Hx1_14 Kd_14 Kc_14 Ks_14 HB_14
    have Kx_15 := Lib.hid KX
    clear hbx KX
    have cd_0 : w13.cell? ⟨w1.heap.size, 0, none⟩ = some (.slice Ad0 ss.length cd0) := cell_of_row _ _ 0 _ _ _ Kd_16.out
    have cd_1 : w13.cell? ⟨w1.heap.size, 1, none⟩ = some (.slice Ad1 ps.length cd1) := cell_of_row _ _ 1 _ _ _ Kd_16.out
    have cc_0 : w13.cell? ⟨w3.heap.size, 0, none⟩ = some (.slice Ac0 V.length cc0) := cell_of_row _ _ 0 _ _ _ Kc_16.out
    have cc_1 : w13.cell? ⟨w3.heap.size, 1, none⟩ = some (.slice Ac1 U.length cc1) := cell_of_row _ _ 1 _ _ _ Kc_16.out
    have cs_0 : w13.cell? ⟨w10.heap.size, 0, none⟩ = some (.slice As0 S.length cs0) := cell_of_row _ _ 0 _ _ _ Ks_16.out
    have cs_1 : w13.cell? ⟨w10.heap.size, 1, none⟩ = some (.slice As1 U.length cs1) := cell_of_row _ _ 1 _ _ _ Ks_16.out
    have cx_0 : w13.cell? ⟨w12.heap.size, 0, none⟩ = some (.slice Ax0 S.length cx0) := cell_of_row _ _ 0 _ _ _ Kx_15.out
    have cx_1 : w13.cell? ⟨w12.heap.size, 1, none⟩ = some (.slice Ax1 U.length cx1) := cell_of_row _ _ 1 _ _ _ Kx_15.out
    go_wp2_with fail
    clear cd_0 cd_1 cc_0 cc_1 cs_0 cs_1 cx_0 cx_1 hw15
    refine (HAs.out As0 As1 cs0 cs1 _ (hK _ _ HW.out HB_16.out) ⟨(OwnR.rd fSt_len Hs0_16.out), (OwnR.rd fPu_len Hs1_16.out), by omega, by omega, HZs0.out, HZe.out⟩ (ownR_lies Hs0_16.out) (ownR_lies Hs1_16.out)).mono ?_
    rintro e w14 ⟨rfl, hbq⟩
    have Hd0_17 := Lib.hid (Hd0_16.out.below hbq)
    have Hd1_17 := Lib.hid (Hd1_16.out.below hbq)
    have Hc0_17 := Lib.hid (Hc0_16.out.below hbq)
    have Hc1_17 := Lib.hid (Hc1_16.out.below hbq)
    have Hs0_17 := Lib.hid (Hs0_16.out.below hbq)
    have Hs1_17 := Lib.hid (Hs1_16.out.below hbq)
    have Hx0_17 := Lib.hid (Hx0_16.out.below hbq)
    have Hx1_17 := Lib.hid (Hx1_16.out.below hbq)
    have Kd_17 := Lib.hid ((hbq.block _ (heap_lt Kd_16.out)).trans Kd_16.out)
    have Kc_17 := Lib.hid ((hbq.block _ (heap_lt Kc_16.out)).trans Kc_16.out)
    have Ks_17 := Lib.hid ((hbq.block _ (heap_lt Ks_16.out)).trans Ks_16.out)
    have Kx_17 := Lib.hid ((hbq.block _ (heap_lt Kx_15.out)).trans Kx_15.out)
    have HB_17 := Lib.hid (below_more HB_16.out hbq)
    clear Hd0_16 Hd1_16 Hc0_16 Hc1_16 Hs0_16 Hs1_16 Hx0_16 Hx1_16 Kd_16 Kc_16 Ks_16 Kx_15 HB_16
    clear hbq
    have cd_0 : w14.cell? ⟨w1.heap.size, 0, none⟩ = some (.slice Ad0 ss.length cd0) := cell_of_row _ _ 0 _ _ _ Kd_17.out
    have cd_1 : w14.cell? ⟨w1.heap.size, 1, none⟩ = some (.slice Ad1 ps.length cd1) := cell_of_row _ _ 1 _ _ _ Kd_17.out
    have cc_0 : w14.cell? ⟨w3.heap.size, 0, none⟩ = some (.slice Ac0 V.length cc0) := cell_of_row _ _ 0 _ _ _ Kc_17.out
    have cc_1 : w14.cell? ⟨w3.heap.size, 1, none⟩ = some (.slice Ac1 U.length cc1) := cell_of_row _ _ 1 _ _ _ Kc_17.out
    have cs_0 : w14.cell? ⟨w10.heap.size, 0, none⟩ = some (.slice As0 S.length cs0) := cell_of_row _ _ 0 _ _ _ Ks_17.out
    have cs_1 : w14.cell? ⟨w10.heap.size, 1, none⟩ = some (.slice As1 U.length cs1) := cell_of_row _ _ 1 _ _ _ Ks_17.out
    have cx_0 : w14.cell? ⟨w12.heap.size, 0, none⟩ = some (.slice Ax0 S.length cx0) := cell_of_row _ _ 0 _ _ _ Kx_17.out
    have cx_1 : w14.cell? ⟨w12.heap.size, 1, none⟩ = some (.slice Ax1 U.length cx1) := cell_of_row _ _ 1 _ _ _ Kx_17.out
    go_wp2_with fail
    clear cd_0 cd_1 cc_0 cc_1 cs_0 cs_1 cx_0 cx_1
    refine (HAd.out Ad0 Ad1 cd0 cd1 _ (hK _ _ HW.out HB_17.out) ⟨(OwnR.rd fSt_len Hd0_17.out), (OwnR.rd fPu_len Hd1_17.out), by omega, by omega, HZd0.out, HZd1.out⟩ (ownR_lies Hd0_17.out) (ownR_lies Hd1_17.out)).mono ?_
    rintro e w15 ⟨rfl, hbq⟩
    have Hd0_18 := Lib.hid (Hd0_17.out.below hbq)
    have Hd1_18 := Lib.hid (Hd1_17.out.below hbq)
    have Hc0_18 := Lib.hid (Hc0_17.out.below hbq)
    have Hc1_18 := Lib.hid (Hc1_17.out.below hbq)
    have Hs0_18 := Lib.hid (Hs0_17.out.below hbq)
    have Hs1_18 := Lib.hid (Hs1_17.out.below hbq)
    have Hx0_18 := Lib.hid (Hx0_17.out.below hbq)
    have Hx1_18 := Lib.hid (Hx1_17.out.below hbq)
    have Kd_18 := Lib.hid ((hbq.block _ (heap_lt Kd_17.out)).trans Kd_17.out)
    have Kc_18 := Lib.hid ((hbq.block _ (heap_lt Kc_17.out)).trans Kc_17.out)
    have Ks_18 := Lib.hid ((hbq.block _ (heap_lt Ks_17.out)).trans Ks_17.out)
    have Kx_18 := Lib.hid ((hbq.block _ (heap_lt Kx_17.out)).trans Kx_17.out)
    have HB_18 := Lib.hid (below_more HB_17.out hbq)
    clear Hd0_17 Hd1_17 Hc0_17 Hc1_17 Hs0_17 Hs1_17 Hx0_17 Hx1_17 Kd_17 Kc_17 Ks_17 Kx_17 HB_17
    clear hbq
    have cd_0 : w15.cell? ⟨w1.heap.size, 0, none⟩ = some (.slice Ad0 ss.length cd0) := cell_of_row _ _ 0 _ _ _ Kd_18.out
    have cd_1 : w15.cell? ⟨w1.heap.size, 1, none⟩ = some (.slice Ad1 ps.length cd1) := cell_of_row _ _ 1 _ _ _ Kd_18.out
    have cc_0 : w15.cell? ⟨w3.heap.size, 0, none⟩ = some (.slice Ac0 V.length cc0) := cell_of_row _ _ 0 _ _ _ Kc_18.out
    have cc_1 : w15.cell? ⟨w3.heap.size, 1, none⟩ = some (.slice Ac1 U.length cc1) := cell_of_row _ _ 1 _ _ _ Kc_18.out
    have cs_0 : w15.cell? ⟨w10.heap.size, 0, none⟩ = some (.slice As0 S.length cs0) := cell_of_row _ _ 0 _ _ _ Ks_18.out
    have cs_1 : w15.cell? ⟨w10.heap.size, 1, none⟩ = some (.slice As1 U.length cs1) := cell_of_row _ _ 1 _ _ _ Ks_18.out
    have cx_0 : w15.cell? ⟨w12.heap.size, 0, none⟩ = some (.slice Ax0 S.length cx0) := cell_of_row _ _ 0 _ _ _ Kx_18.out
    have cx_1 : w15.cell? ⟨w12.heap.size, 1, none⟩ = some (.slice Ax1 U.length cx1) := cell_of_row _ _ 1 _ _ _ Kx_18.out
    go_wp2_with fail
    clear cd_0 cd_1 cc_0 cc_1 cs_0 cs_1 cx_0 cx_1
    refine (HGc.out Ac0 Ac1 cc0 cc1 _ (hK _ _ HW.out HB_18.out) ⟨(OwnR.rd fSt_len Hc0_18.out), (OwnR.rd fPu_len Hc1_18.out), by omega, by omega, HZc0.out, HZe.out⟩ (ownR_lies Hc0_18.out) (ownR_lies Hc1_18.out)).mono ?_
    rintro e w16 ⟨rfl, hbq⟩
    have Hd0_19 := Lib.hid (Hd0_18.out.below hbq)
    have Hd1_19 := Lib.hid (Hd1_18.out.below hbq)
    have Hc0_19 := Lib.hid (Hc0_18.out.below hbq)
    have Hc1_19 := Lib.hid (Hc1_18.out.below hbq)
    have Hs0_19 := Lib.hid (Hs0_18.out.below hbq)
    have Hs1_19 := Lib.hid (Hs1_18.out.below hbq)
    have Hx0_19 := Lib.hid (Hx0_18.out.below hbq)
    have Hx1_19 := Lib.hid (Hx1_18.out.below hbq)
    have Kd_19 := Lib.hid ((hbq.block _ (heap_lt Kd_18.out)).trans Kd_18.out)
    have Kc_19 := Lib.hid ((hbq.block _ (heap_lt Kc_18.out)).trans Kc_18.out)
    have Ks_19 := Lib.hid ((hbq.block _ (heap_lt Ks_18.out)).trans Ks_18.out)
    have Kx_19 := Lib.hid ((hbq.block _ (heap_lt Kx_18.out)).trans Kx_18.out)
    have HB_19 := Lib.hid (below_more HB_18.out hbq)
    clear Hd0_18 Hd1_18 Hc0_18 Hc1_18 Hs0_18 Hs1_18 Hx0_18 Hx1_18 Kd_18 Kc_18 Ks_18 Kx_18 HB_18
    clear hbq
    have cd_0 : w16.cell? ⟨w1.heap.size, 0, none⟩ = some (.slice Ad0 ss.length cd0) := cell_of_row _ _ 0 _ _ _ Kd_19.out
    have cd_1 : w16.cell? ⟨w1.heap.size, 1, none⟩ = some (.slice Ad1 ps.length cd1) := cell_of_row _ _ 1 _ _ _ Kd_19.out
    have cc_0 : w16.cell? ⟨w3.heap.size, 0, none⟩ = some (.slice Ac0 V.length cc0) := cell_of_row _ _ 0 _ _ _ Kc_19.out
    have cc_1 : w16.cell? ⟨w3.heap.size, 1, none⟩ = some (.slice Ac1 U.length cc1) := cell_of_row _ _ 1 _ _ _ Kc_19.out
    have cs_0 : w16.cell? ⟨w10.heap.size, 0, none⟩ = some (.slice As0 S.length cs0) := cell_of_row _ _ 0 _ _ _ Ks_19.out
    have cs_1 : w16.cell? ⟨w10.heap.size, 1, none⟩ = some (.slice As1 U.length cs1) := cell_of_row _ _ 1 _ _ _ Ks_19.out
    have cx_0 : w16.cell? ⟨w12.heap.size, 0, none⟩ = some (.slice Ax0 S.length cx0) := cell_of_row _ _ 0 _ _ _ Kx_19.out
    have cx_1 : w16.cell? ⟨w12.heap.size, 1, none⟩ = some (.slice Ax1 U.length cx1) := cell_of_row _ _ 1 _ _ _ Kx_19.out
    go_wp2_with fail
    clear cd_0 cd_1 cc_0 cc_1 cs_0 cs_1 cx_0 cx_1
    refine (sameDisk_self Ax0 Ax1 As0 As1 S U cx0 cx1 cs0 cs1 _ (OwnR.rd fSt_len Hx0_19.out) (OwnR.rd fPu_len Hx1_19.out) (OwnR.rd fSt_len Hs0_19.out) (OwnR.rd fPu_len Hs1_19.out) (by omega) (by omega)).mono ?_
    rintro e w17 ⟨rfl, hbq⟩
    have Hd0_20 := Lib.hid (Hd0_19.out.below hbq)
    have Hd1_20 := Lib.hid (Hd1_19.out.below hbq)
    have Hc0_20 := Lib.hid (Hc0_19.out.below hbq)
    have Hc1_20 := Lib.hid (Hc1_19.out.below hbq)
    have Hs0_20 := Lib.hid (Hs0_19.out.below hbq)
    have Hs1_20 := Lib.hid (Hs1_19.out.below hbq)
    have Hx0_20 := Lib.hid (Hx0_19.out.below hbq)
    have Hx1_20 := Lib.hid (Hx1_19.out.below hbq)
    have Kd_20 := Lib.hid ((hbq.block _ (heap_lt Kd_19.out)).trans Kd_19.out)
    have Kc_20 := Lib.hid ((hbq.block _ (heap_lt Kc_19.out)).trans Kc_19.out)
    have Ks_20 := Lib.hid ((hbq.block _ (heap_lt Ks_19.out)).trans Ks_19.out)
    have Kx_20 := Lib.hid ((hbq.block _ (heap_lt Kx_19.out)).trans Kx_19.out)
    have HB_20 := Lib.hid (below_more HB_19.out hbq)
    clear Hd0_19 Hd1_19 Hc0_19 Hc1_19 Hs0_19 Hs1_19 Hx0_19 Hx1_19 Kd_19 Kc_19 Ks_19 Kx_19 HB_19
    clear hbq
    clear Hs0_20 Hs1_20 Hx0_20 Hx1_20
    clear Ks_20
    clear Kx_20
    clear HSy HCs HAs HAd HGc
    have cd_0 : w17.cell? ⟨w1.heap.size, 0, none⟩ = some (.slice Ad0 ss.length cd0) := cell_of_row _ _ 0 _ _ _ Kd_20.out
    have cd_1 : w17.cell? ⟨w1.heap.size, 1, none⟩ = some (.slice Ad1 ps.length cd1) := cell_of_row _ _ 1 _ _ _ Kd_20.out
    have cc_0 : w17.cell? ⟨w3.heap.size, 0, none⟩ = some (.slice Ac0 V.length cc0) := cell_of_row _ _ 0 _ _ _ Kc_20.out
    have cc_1 : w17.cell? ⟨w3.heap.size, 1, none⟩ = some (.slice Ac1 U.length cc1) := cell_of_row _ _ 1 _ _ _ Kc_20.out
    go_wp2_with fail
    clear cd_0 cd_1 cc_0 cc_1
    go_loopg [135] ss.length (fun gk i wr => ∃ j : Nat, j + gk = ss.length ∧ i = .int .i64 j ∧ Below w17.heap.size w17 wr)
    case atStart => exact ⟨0, by omega, rfl, Below.refl _ _⟩
    case round =>
      obtain ⟨j, hg, rfl, hbel⟩ := hrel
      rename World => wo
      have HLp := Lib.hid hbel
      have Hd0_21 := Lib.hid (Hd0_20.out.below hbel)
      have Hd1_21 := Lib.hid (Hd1_20.out.below hbel)
      have Hc0_21 := Lib.hid (Hc0_20.out.below hbel)
      have Hc1_21 := Lib.hid (Hc1_20.out.below hbel)
      have Kd_21 := Lib.hid ((hbel.block _ (heap_lt Kd_20.out)).trans Kd_20.out)
      have Kc_21 := Lib.hid ((hbel.block _ (heap_lt Kc_20.out)).trans Kc_20.out)
      have HB_21 := Lib.hid (below_more HB_20.out hbel)
      clear Hd0_20 Hd1_20 Hc0_20 Hc1_20 Kd_20 Kc_20 HB_20
      clear hbel
      by_cases hlt : j < ss.length
      · have hji : (j : Int) < (ss.length : Int) := by omega
        have HGm : Hid (ss.length - j - 1 < gk ∧ j + 1 + (ss.length - j - 1) = ss.length) := by show _ ∧ _; omega
        clear hg
        have cd_0 : wo.cell? ⟨w1.heap.size, 0, none⟩ = some (.slice Ad0 ss.length cd0) := cell_of_row _ _ 0 _ _ _ Kd_21.out
        have cd_1 : wo.cell? ⟨w1.heap.size, 1, none⟩ = some (.slice Ad1 ps.length cd1) := cell_of_row _ _ 1 _ _ _ Kd_21.out
        have cc_0 : wo.cell? ⟨w3.heap.size, 0, none⟩ = some (.slice Ac0 V.length cc0) := cell_of_row _ _ 0 _ _ _ Kc_21.out
        have cc_1 : wo.cell? ⟨w3.heap.size, 1, none⟩ = some (.slice Ac1 U.length cc1) := cell_of_row _ _ 1 _ _ _ Kc_21.out
        go_wp2_with fail
        clear cd_0 cd_1 cc_0 cc_1
        go_loopg [22, 141] ps.length (fun gk pt i2 wr => ∃ t : Nat, t + gk = ps.length ∧ i2 = .int .i64 t ∧ pt = .bool ((ps.take t).any fun p => p.1 == (j : Int)) ∧ Below wo.heap.size wo wr)
        case atStart => exact ⟨0, by omega, rfl, rfl, Below.refl _ _⟩
        case round =>
          obtain ⟨t, hg2, rfl, rfl, hbel2⟩ := hrel
          have HLq := Lib.hid hbel2
          have Hd0_22 := Lib.hid (Hd0_21.out.below hbel2)
          have Hd1_22 := Lib.hid (Hd1_21.out.below hbel2)
          have Hc0_22 := Lib.hid (Hc0_21.out.below hbel2)
          have Hc1_22 := Lib.hid (Hc1_21.out.below hbel2)
          have Kd_22 := Lib.hid ((hbel2.block _ (heap_lt Kd_21.out)).trans Kd_21.out)
          have Kc_22 := Lib.hid ((hbel2.block _ (heap_lt Kc_21.out)).trans Kc_21.out)
          have HL_22 := Lib.hid (below_more HLp.out hbel2)
          have HB_22 := Lib.hid (below_more HB_21.out hbel2)
          clear Hd0_21 Hd1_21 Hc0_21 Hc1_21 Kd_21 Kc_21 HLp HB_21
          clear hbel2
          by_cases hlt2 : t < ps.length
          · have hti : (t : Int) < (ps.length : Int) := by omega
            have HGn : Hid (ps.length - t - 1 < gk ∧ t + 1 + (ps.length - t - 1) = ps.length) := by show _ ∧ _; omega
            obtain ⟨bp, op, rfl, p1, p2⟩ := puts_at (OwnR.rd fPu_len Hd1_22.out) hlt2
            have HTk : Hid ((ps.take (t + 1)).any (fun p => p.1 == (j : Int)) = ((ps.take t).any (fun p => p.1 == (j : Int)) || (ps[t].1 == (j : Int)))) := by show _ = _; rw [List.take_succ_eq_append_getElem hlt2, List.any_append]; simp
            have hba := gAlloc wr (.cells #[.int .i64 ps[t].1, .string ps[t].2] 38)
            have HQ2 := Lib.hid (below_more HLq.out hba)
            clear hg2 hba
            generalize ps[t] = pp at *
            generalize (ps.take t).any (fun p => p.1 == (j : Int)) = pb at *
            have cd_0 : wr.cell? ⟨w1.heap.size, 0, none⟩ = some (.slice Ad0 ss.length cd0) := cell_of_row _ _ 0 _ _ _ Kd_22.out
            have cd_1 : wr.cell? ⟨w1.heap.size, 1, none⟩ = some (.slice (some ⟨bp, op, none⟩) ps.length cd1) := cell_of_row _ _ 1 _ _ _ Kd_22.out
            have cc_0 : wr.cell? ⟨w3.heap.size, 0, none⟩ = some (.slice Ac0 V.length cc0) := cell_of_row _ _ 0 _ _ _ Kc_22.out
            have cc_1 : wr.cell? ⟨w3.heap.size, 1, none⟩ = some (.slice Ac1 U.length cc1) := cell_of_row _ _ 1 _ _ _ Kc_22.out
            cases pb
            · go_wp2_with fail
              go_roundg (ps.length - t - 1)
              case measure => exact HGn.out.1
              case rel => exact ⟨t + 1, HGn.out.2, by go_num, by rw [HTk.out]; simp, HQ2.out⟩
            · go_wp2_with fail
              go_roundg (ps.length - t - 1)
              case measure => exact HGn.out.1
              case rel => exact ⟨t + 1, HGn.out.2, by go_num, by rw [HTk.out]; simp, HQ2.out⟩
          · obtain rfl : t = ps.length := by omega
            have hti : ¬ (ps.length : Int) < (ps.length : Int) := by omega
            rw [List.take_length]
            have hjV : j < V.length := by rw [HV12.out]; omega
            have HSe := Lib.hid (fun h => HSec.out j hjV hlt h)
            obtain ⟨b1, o1, rfl, p1⟩ := strs_at (OwnR.rd fSt_len Hc0_22.out) hjV
            obtain ⟨b2, o2, rfl, p2⟩ := strs_at (OwnR.rd fSt_len Hd0_22.out) hlt
            have HVl : Hid (V.length = 12) := HV12.out
            have hjV2 : (j : Int) < (V.length : Int) := by omega
            generalize hc1 : V[j] = vc at *
            generalize hc2 : ss[j] = vs at *
            clear hc1 hc2
            generalize (ps.any fun p => p.1 == (j : Int)) = pb at *
            cases pb
            · obtain rfl := HSe.out rfl
              have cd_0 : wr.cell? ⟨w1.heap.size, 0, none⟩ = some (.slice (some ⟨b2, o2, none⟩) ss.length cd0) := cell_of_row _ _ 0 _ _ _ Kd_22.out
              have cd_1 : wr.cell? ⟨w1.heap.size, 1, none⟩ = some (.slice Ad1 ps.length cd1) := cell_of_row _ _ 1 _ _ _ Kd_22.out
              have cc_0 : wr.cell? ⟨w3.heap.size, 0, none⟩ = some (.slice (some ⟨b1, o1, none⟩) V.length cc0) := cell_of_row _ _ 0 _ _ _ Kc_22.out
              have cc_1 : wr.cell? ⟨w3.heap.size, 1, none⟩ = some (.slice Ac1 U.length cc1) := cell_of_row _ _ 1 _ _ _ Kc_22.out
              go_wp2_with fail
              go_quiet (fail)
              go_wp2_with fail
              go_roundg (ss.length - j - 1)
              case measure => exact HGm.out.1
              case rel => exact ⟨j + 1, HGm.out.2, by go_num, by first | exact below_drew9 HL_22.out _ | exact HL_22.out⟩
            · skip
              have cd_0 : wr.cell? ⟨w1.heap.size, 0, none⟩ = some (.slice (some ⟨b2, o2, none⟩) ss.length cd0) := cell_of_row _ _ 0 _ _ _ Kd_22.out
              have cd_1 : wr.cell? ⟨w1.heap.size, 1, none⟩ = some (.slice Ad1 ps.length cd1) := cell_of_row _ _ 1 _ _ _ Kd_22.out
              have cc_0 : wr.cell? ⟨w3.heap.size, 0, none⟩ = some (.slice (some ⟨b1, o1, none⟩) V.length cc0) := cell_of_row _ _ 0 _ _ _ Kc_22.out
              have cc_1 : wr.cell? ⟨w3.heap.size, 1, none⟩ = some (.slice Ac1 U.length cc1) := cell_of_row _ _ 1 _ _ _ Kc_22.out
              go_wp2_with fail
              go_quiet (fail)
              go_wp2_with fail
              go_roundg (ss.length - j - 1)
              case measure => exact HGm.out.1
              case rel => exact ⟨j + 1, HGm.out.2, by go_num, by first | exact below_drew9 HL_22.out _ | exact HL_22.out⟩
      · obtain rfl : j = ss.length := by omega
        have hji : ¬ (ss.length : Int) < (ss.length : Int) := by omega
        clear Hd0_21 Hd1_21 Hc0_21 Hc1_21
        clear Kd_21
        clear Kc_21
        go_wp2_with fail
        refine (drawSync9 B zb cb _ (byts_on9 HBy.out HB_21.out)).mono ?_
        rintro e w18 ⟨vu0, vu1, su, pu, rfl, hdr⟩
        have hlu0 : su.length ≤ 12 := by have := hdr.len; omega
        have hlu1 : pu.length ≤ 41 := hdr.len2
        have HZu0 : Hid (∀ s ∈ su, s.size ≤ 1048576) := fun s hs => by have := hdr.size s hs; omega
        have HZu1 : Hid (∀ p ∈ pu, p.2.size ≤ 1048576) := fun p hp => by have := hdr.size2 p hp; omega
        obtain ⟨⟨hou0, hou1, hau⟩, -, -, -, -, hbu⟩ := hdr
        obtain ⟨Au0, cu0, hvu0, hcapu0, _⟩ := OwnR.form fSt_len hou0
        subst hvu0
        obtain ⟨Au1, cu1, hvu1, hcapu1, _⟩ := OwnR.form fPu_len hou1
        subst hvu1
        have HAp_u0_u1 := Lib.hid hau
        have Hu0_22 := Lib.hid (hou0.lower HB_21.out.size)
        have Hu1_22 := Lib.hid (hou1.lower HB_21.out.size)
        have HB_22 := Lib.hid (below_more HB_21.out hbu)
        clear HB_21 hou0 hou1 hau hbu
        obtain ⟨w19, hw23⟩ : ∃ wn, w18.alloc (.cells #[.slice Au0 su.length cu0, .slice Au1 pu.length cu1] 26) = wn := ⟨_, rfl⟩
        have hbx : Below w18.heap.size w18 w19 := by rw [← hw23]; exact gAlloc _ _
        have KX : w19.heap[w18.heap.size]? = some (.cells #[.slice Au0 su.length cu0, .slice Au1 pu.length cu1] 26 (0, 0)) := by rw [← hw23]; exact heap_alloc_new _ _
        have HNX_u_u0 := Lib.hid (fun g hg => Nat.ne_of_lt (Hu0_22.out.lt g hg).2)
        have HNX_u_u1 := Lib.hid (fun g hg => Nat.ne_of_lt (Hu1_22.out.lt g hg).2)
        have Hu0_24 := Lib.hid (Hu0_22.out.below hbx)
        have Hu1_24 := Lib.hid (Hu1_22.out.below hbx)
        have HB_24 := Lib.hid (below_more HB_22.out hbx)
        clear Hu0_22 Hu1_22 HB_22
        have Ku_23 := Lib.hid KX
        clear hbx KX
        have hSl := syI_len su pu
        have HS1 := Lib.hid (fun A B ca cb w hk hd hA hB => HS.out A B su pu ca cb w hk hd hA hB)
        have HS2 := Lib.hid (fun A B ca cb w hd hA => HSg.out A B su pu ca cb w hd hA)
        generalize syI su pu = Su at *
        generalize goodDB su pu = gu at *
        have cu_0 : w19.cell? ⟨w18.heap.size, 0, none⟩ = some (.slice Au0 su.length cu0) := cell_of_row _ _ 0 _ _ _ Ku_23.out
        have cu_1 : w19.cell? ⟨w18.heap.size, 1, none⟩ = some (.slice Au1 pu.length cu1) := cell_of_row _ _ 1 _ _ _ Ku_23.out
        go_wp2_with fail
        clear cu_0 cu_1 hw23
        refine (HS1.out Au0 Au1 cu0 cu1 _ (hK _ _ HW.out HB_24.out) ⟨(OwnR.rd fSt_len Hu0_24.out), (OwnR.rd fPu_len Hu1_24.out), by omega, by omega, HZu0.out, HZu1.out⟩ (ownR_lies Hu0_24.out) (ownR_lies Hu1_24.out)).mono ?_
        rintro e w20 ⟨vus0, vus1, rfl, hpk, hbus⟩
        obtain ⟨hous0, hous1, haus⟩ := hpk
        obtain ⟨Aus0, cus0, hvus0, hcapus0, _⟩ := OwnR.form fSt_len hous0
        subst hvus0
        obtain ⟨Aus1, cus1, hvus1, hcapus1, _⟩ := OwnR.form fPu_len hous1
        subst hvus1
        have HAp_u0_us0 := Lib.hid (apart5 (fun k hk => (Hu0_24.out.lt k hk).2) (fun k hk => (hous0.lt k hk).1))
        have HAp_u1_us0 := Lib.hid (apart5 (fun k hk => (Hu1_24.out.lt k hk).2) (fun k hk => (hous0.lt k hk).1))
        have HAp_u0_us1 := Lib.hid (apart5 (fun k hk => (Hu0_24.out.lt k hk).2) (fun k hk => (hous1.lt k hk).1))
        have HAp_u1_us1 := Lib.hid (apart5 (fun k hk => (Hu1_24.out.lt k hk).2) (fun k hk => (hous1.lt k hk).1))
        have HNX_u_us0 := Lib.hid (fun g hg => Nat.ne_of_gt (Nat.lt_of_lt_of_le (heap_lt Ku_23.out) (hous0.lt g hg).1))
        have HNX_u_us1 := Lib.hid (fun g hg => Nat.ne_of_gt (Nat.lt_of_lt_of_le (heap_lt Ku_23.out) (hous1.lt g hg).1))
        have HAp_us0_us1 := Lib.hid haus
        have Hu0_25 := Lib.hid (Hu0_24.out.below hbus)
        have Hu1_25 := Lib.hid (Hu1_24.out.below hbus)
        have Hus0_25 := Lib.hid (hous0.lower HB_24.out.size)
        have Hus1_25 := Lib.hid (hous1.lower HB_24.out.size)
        have Ku_25 := Lib.hid ((hbus.block _ (heap_lt Ku_23.out)).trans Ku_23.out)
        have HB_25 := Lib.hid (below_more HB_24.out hbus)
        clear Hu0_24 Hu1_24 Ku_23 HB_24 hous0 hous1 haus hbus
        obtain ⟨w21, hw26⟩ : ∃ wn, w20.alloc (.cells #[.slice Aus0 Su.length cus0, .slice Aus1 U.length cus1] 26) = wn := ⟨_, rfl⟩
        have hbx : Below w20.heap.size w20 w21 := by rw [← hw26]; exact gAlloc _ _
        have KX : w21.heap[w20.heap.size]? = some (.cells #[.slice Aus0 Su.length cus0, .slice Aus1 U.length cus1] 26 (0, 0)) := by rw [← hw26]; exact heap_alloc_new _ _
        have HNX_us_u0 := Lib.hid (fun g hg => Nat.ne_of_lt (Hu0_25.out.lt g hg).2)
        have HNX_us_u1 := Lib.hid (fun g hg => Nat.ne_of_lt (Hu1_25.out.lt g hg).2)
        have HNX_us_us0 := Lib.hid (fun g hg => Nat.ne_of_lt (Hus0_25.out.lt g hg).2)
        have HNX_us_us1 := Lib.hid (fun g hg => Nat.ne_of_lt (Hus1_25.out.lt g hg).2)
        have Hu0_27 := Lib.hid (Hu0_25.out.below hbx)
        have Hu1_27 := Lib.hid (Hu1_25.out.below hbx)
        have Hus0_27 := Lib.hid (Hus0_25.out.below hbx)
        have Hus1_27 := Lib.hid (Hus1_25.out.below hbx)
        have Ku_27 := Lib.hid ((hbx.block _ (heap_lt Ku_25.out)).trans Ku_25.out)
        have HB_27 := Lib.hid (below_more HB_25.out hbx)
        clear Hu0_25 Hu1_25 Hus0_25 Hus1_25 Ku_25 HB_25
        have Kus_26 := Lib.hid KX
        clear hbx KX
        have cu_0 : w21.cell? ⟨w18.heap.size, 0, none⟩ = some (.slice Au0 su.length cu0) := cell_of_row _ _ 0 _ _ _ Ku_27.out
        have cu_1 : w21.cell? ⟨w18.heap.size, 1, none⟩ = some (.slice Au1 pu.length cu1) := cell_of_row _ _ 1 _ _ _ Ku_27.out
        have cus_0 : w21.cell? ⟨w20.heap.size, 0, none⟩ = some (.slice Aus0 Su.length cus0) := cell_of_row _ _ 0 _ _ _ Kus_26.out
        have cus_1 : w21.cell? ⟨w20.heap.size, 1, none⟩ = some (.slice Aus1 U.length cus1) := cell_of_row _ _ 1 _ _ _ Kus_26.out
        go_wp2_with fail
        clear cu_0 cu_1 cus_0 cus_1 hw26
        refine (HS2.out Au0 Au1 cu0 cu1 _ ⟨(OwnR.rd fSt_len Hu0_27.out), (OwnR.rd fPu_len Hu1_27.out), by omega, by omega, HZu0.out, HZu1.out⟩ (ownR_lies Hu0_27.out)).mono ?_
        rintro e w22 ⟨vuy0, vuy1, rfl, hpk, hbuy⟩
        obtain ⟨houy0, houy1, hauy⟩ := hpk
        obtain ⟨Auy0, cuy0, hvuy0, hcapuy0, _⟩ := OwnR.form fSt_len houy0
        subst hvuy0
        obtain ⟨Auy1, cuy1, hvuy1, hcapuy1, _⟩ := OwnR.form fPu_len houy1
        subst hvuy1
        have HAp_u0_uy0 := Lib.hid (apart5 (fun k hk => (Hu0_27.out.lt k hk).2) (fun k hk => (houy0.lt k hk).1))
        have HAp_u1_uy0 := Lib.hid (apart5 (fun k hk => (Hu1_27.out.lt k hk).2) (fun k hk => (houy0.lt k hk).1))
        have HAp_us0_uy0 := Lib.hid (apart5 (fun k hk => (Hus0_27.out.lt k hk).2) (fun k hk => (houy0.lt k hk).1))
        have HAp_us1_uy0 := Lib.hid (apart5 (fun k hk => (Hus1_27.out.lt k hk).2) (fun k hk => (houy0.lt k hk).1))
        have HAp_u0_uy1 := Lib.hid (apart5 (fun k hk => (Hu0_27.out.lt k hk).2) (fun k hk => (houy1.lt k hk).1))
        have HAp_u1_uy1 := Lib.hid (apart5 (fun k hk => (Hu1_27.out.lt k hk).2) (fun k hk => (houy1.lt k hk).1))
        have HAp_us0_uy1 := Lib.hid (apart5 (fun k hk => (Hus0_27.out.lt k hk).2) (fun k hk => (houy1.lt k hk).1))
        have HAp_us1_uy1 := Lib.hid (apart5 (fun k hk => (Hus1_27.out.lt k hk).2) (fun k hk => (houy1.lt k hk).1))
        have HNX_u_uy0 := Lib.hid (fun g hg => Nat.ne_of_gt (Nat.lt_of_lt_of_le (heap_lt Ku_27.out) (houy0.lt g hg).1))
        have HNX_us_uy0 := Lib.hid (fun g hg => Nat.ne_of_gt (Nat.lt_of_lt_of_le (heap_lt Kus_26.out) (houy0.lt g hg).1))
        have HNX_u_uy1 := Lib.hid (fun g hg => Nat.ne_of_gt (Nat.lt_of_lt_of_le (heap_lt Ku_27.out) (houy1.lt g hg).1))
        have HNX_us_uy1 := Lib.hid (fun g hg => Nat.ne_of_gt (Nat.lt_of_lt_of_le (heap_lt Kus_26.out) (houy1.lt g hg).1))
        have HAp_uy0_uy1 := Lib.hid hauy
        have Hu0_28 := Lib.hid (Hu0_27.out.below hbuy)
        have Hu1_28 := Lib.hid (Hu1_27.out.below hbuy)
        have Hus0_28 := Lib.hid (Hus0_27.out.below hbuy)
        have Hus1_28 := Lib.hid (Hus1_27.out.below hbuy)
        have Huy0_28 := Lib.hid (houy0.lower HB_27.out.size)
        have Huy1_28 := Lib.hid (houy1.lower HB_27.out.size)
        have Ku_28 := Lib.hid ((hbuy.block _ (heap_lt Ku_27.out)).trans Ku_27.out)
        have Kus_28 := Lib.hid ((hbuy.block _ (heap_lt Kus_26.out)).trans Kus_26.out)
        have HB_28 := Lib.hid (below_more HB_27.out hbuy)
        clear Hu0_27 Hu1_27 Hus0_27 Hus1_27 Ku_27 Kus_26 HB_27 houy0 houy1 hauy hbuy
        obtain ⟨w23, hw29⟩ : ∃ wn, w22.alloc (.cells #[.slice Auy0 Su.length cuy0, .slice Auy1 U.length cuy1] 26) = wn := ⟨_, rfl⟩
        have hbx : Below w22.heap.size w22 w23 := by rw [← hw29]; exact gAlloc _ _
        have KX : w23.heap[w22.heap.size]? = some (.cells #[.slice Auy0 Su.length cuy0, .slice Auy1 U.length cuy1] 26 (0, 0)) := by rw [← hw29]; exact heap_alloc_new _ _
        have HNX_uy_u0 := Lib.hid (fun g hg => Nat.ne_of_lt (Hu0_28.out.lt g hg).2)
        have HNX_uy_u1 := Lib.hid (fun g hg => Nat.ne_of_lt (Hu1_28.out.lt g hg).2)
        have HNX_uy_us0 := Lib.hid (fun g hg => Nat.ne_of_lt (Hus0_28.out.lt g hg).2)
        have HNX_uy_us1 := Lib.hid (fun g hg => Nat.ne_of_lt (Hus1_28.out.lt g hg).2)
        have HNX_uy_uy0 := Lib.hid (fun g hg => Nat.ne_of_lt (Huy0_28.out.lt g hg).2)
        have HNX_uy_uy1 := Lib.hid (fun g hg => Nat.ne_of_lt (Huy1_28.out.lt g hg).2)
        have Hu0_30 := Lib.hid (Hu0_28.out.below hbx)
        have Hu1_30 := Lib.hid (Hu1_28.out.below hbx)
        have Hus0_30 := Lib.hid (Hus0_28.out.below hbx)
        have Hus1_30 := Lib.hid (Hus1_28.out.below hbx)
        have Huy0_30 := Lib.hid (Huy0_28.out.below hbx)
        have Huy1_30 := Lib.hid (Huy1_28.out.below hbx)
        have Ku_30 := Lib.hid ((hbx.block _ (heap_lt Ku_28.out)).trans Ku_28.out)
        have Kus_30 := Lib.hid ((hbx.block _ (heap_lt Kus_28.out)).trans Kus_28.out)
        have HB_30 := Lib.hid (below_more HB_28.out hbx)
        clear Hu0_28 Hu1_28 Hus0_28 Hus1_28 Huy0_28 Huy1_28 Ku_28 Kus_28 HB_28
        have Kuy_29 := Lib.hid KX
        clear hbx KX
        clear Hu0_30 Hu1_30
        clear Ku_30
        clear HS1 HS2
        have cus_0 : w23.cell? ⟨w20.heap.size, 0, none⟩ = some (.slice Aus0 Su.length cus0) := cell_of_row _ _ 0 _ _ _ Kus_30.out
        have cus_1 : w23.cell? ⟨w20.heap.size, 1, none⟩ = some (.slice Aus1 U.length cus1) := cell_of_row _ _ 1 _ _ _ Kus_30.out
        have cuy_0 : w23.cell? ⟨w22.heap.size, 0, none⟩ = some (.slice Auy0 Su.length cuy0) := cell_of_row _ _ 0 _ _ _ Kuy_29.out
        have cuy_1 : w23.cell? ⟨w22.heap.size, 1, none⟩ = some (.slice Auy1 U.length cuy1) := cell_of_row _ _ 1 _ _ _ Kuy_29.out
        go_wp2_with fail
        clear cus_0 cus_1 cuy_0 cuy_1 hw29
        refine (drawAll9 B zb cb _ (byts_on9 HBy.out HB_30.out)).mono ?_
        rintro e w24 ⟨vv0, vv1, sv, pv, rfl, hdr⟩
        have hlv0 : sv.length ≤ 12 := by have := hdr.len; omega
        have hlv1 : pv.length ≤ 41 := hdr.len2
        have HZv0 : Hid (∀ s ∈ sv, s.size ≤ 1048576) := fun s hs => by have := hdr.size s hs; omega
        have HZv1 : Hid (∀ p ∈ pv, p.2.size ≤ 1048576) := fun p hp => by have := hdr.size2 p hp; omega
        obtain ⟨⟨hov0, hov1, hav⟩, -, -, -, -, hbv⟩ := hdr
        obtain ⟨Av0, cv0, hvv0, hcapv0, _⟩ := OwnR.form fSt_len hov0
        subst hvv0
        obtain ⟨Av1, cv1, hvv1, hcapv1, _⟩ := OwnR.form fPu_len hov1
        subst hvv1
        have HAp_us0_v0 := Lib.hid (apart5 (fun k hk => (Hus0_30.out.lt k hk).2) (fun k hk => (hov0.lt k hk).1))
        have HAp_us1_v0 := Lib.hid (apart5 (fun k hk => (Hus1_30.out.lt k hk).2) (fun k hk => (hov0.lt k hk).1))
        have HAp_uy0_v0 := Lib.hid (apart5 (fun k hk => (Huy0_30.out.lt k hk).2) (fun k hk => (hov0.lt k hk).1))
        have HAp_uy1_v0 := Lib.hid (apart5 (fun k hk => (Huy1_30.out.lt k hk).2) (fun k hk => (hov0.lt k hk).1))
        have HAp_us0_v1 := Lib.hid (apart5 (fun k hk => (Hus0_30.out.lt k hk).2) (fun k hk => (hov1.lt k hk).1))
        have HAp_us1_v1 := Lib.hid (apart5 (fun k hk => (Hus1_30.out.lt k hk).2) (fun k hk => (hov1.lt k hk).1))
        have HAp_uy0_v1 := Lib.hid (apart5 (fun k hk => (Huy0_30.out.lt k hk).2) (fun k hk => (hov1.lt k hk).1))
        have HAp_uy1_v1 := Lib.hid (apart5 (fun k hk => (Huy1_30.out.lt k hk).2) (fun k hk => (hov1.lt k hk).1))
        have HNX_us_v0 := Lib.hid (fun g hg => Nat.ne_of_gt (Nat.lt_of_lt_of_le (heap_lt Kus_30.out) (hov0.lt g hg).1))
        have HNX_uy_v0 := Lib.hid (fun g hg => Nat.ne_of_gt (Nat.lt_of_lt_of_le (heap_lt Kuy_29.out) (hov0.lt g hg).1))
        have HNX_us_v1 := Lib.hid (fun g hg => Nat.ne_of_gt (Nat.lt_of_lt_of_le (heap_lt Kus_30.out) (hov1.lt g hg).1))
        have HNX_uy_v1 := Lib.hid (fun g hg => Nat.ne_of_gt (Nat.lt_of_lt_of_le (heap_lt Kuy_29.out) (hov1.lt g hg).1))
        have HAp_v0_v1 := Lib.hid hav
        have Hus0_31 := Lib.hid (Hus0_30.out.below hbv)
        have Hus1_31 := Lib.hid (Hus1_30.out.below hbv)
        have Huy0_31 := Lib.hid (Huy0_30.out.below hbv)
        have Huy1_31 := Lib.hid (Huy1_30.out.below hbv)
        have Hv0_31 := Lib.hid (hov0.lower HB_30.out.size)
        have Hv1_31 := Lib.hid (hov1.lower HB_30.out.size)
        have Kus_31 := Lib.hid ((hbv.block _ (heap_lt Kus_30.out)).trans Kus_30.out)
        have Kuy_31 := Lib.hid ((hbv.block _ (heap_lt Kuy_29.out)).trans Kuy_29.out)
        have HB_31 := Lib.hid (below_more HB_30.out hbv)
        clear Hus0_30 Hus1_30 Huy0_30 Huy1_30 Kus_30 Kuy_29 HB_30 hov0 hov1 hav hbv
        obtain ⟨w25, hw32⟩ : ∃ wn, w24.alloc (.cells #[.slice Av0 sv.length cv0, .slice Av1 pv.length cv1] 26) = wn := ⟨_, rfl⟩
        have hbx : Below w24.heap.size w24 w25 := by rw [← hw32]; exact gAlloc _ _
        have KX : w25.heap[w24.heap.size]? = some (.cells #[.slice Av0 sv.length cv0, .slice Av1 pv.length cv1] 26 (0, 0)) := by rw [← hw32]; exact heap_alloc_new _ _
        have HNX_v_us0 := Lib.hid (fun g hg => Nat.ne_of_lt (Hus0_31.out.lt g hg).2)
        have HNX_v_us1 := Lib.hid (fun g hg => Nat.ne_of_lt (Hus1_31.out.lt g hg).2)
        have HNX_v_uy0 := Lib.hid (fun g hg => Nat.ne_of_lt (Huy0_31.out.lt g hg).2)
        have HNX_v_uy1 := Lib.hid (fun g hg => Nat.ne_of_lt (Huy1_31.out.lt g hg).2)
        have HNX_v_v0 := Lib.hid (fun g hg => Nat.ne_of_lt (Hv0_31.out.lt g hg).2)
        have HNX_v_v1 := Lib.hid (fun g hg => Nat.ne_of_lt (Hv1_31.out.lt g hg).2)
        have Hus0_33 := Lib.hid (Hus0_31.out.below hbx)
        have Hus1_33 := Lib.hid (Hus1_31.out.below hbx)
        have Huy0_33 := Lib.hid (Huy0_31.out.below hbx)
        have Huy1_33 := Lib.hid (Huy1_31.out.below hbx)
        have Hv0_33 := Lib.hid (Hv0_31.out.below hbx)
        have Hv1_33 := Lib.hid (Hv1_31.out.below hbx)
        have Kus_33 := Lib.hid ((hbx.block _ (heap_lt Kus_31.out)).trans Kus_31.out)
        have Kuy_33 := Lib.hid ((hbx.block _ (heap_lt Kuy_31.out)).trans Kuy_31.out)
        have HB_33 := Lib.hid (below_more HB_31.out hbx)
        clear Hus0_31 Hus1_31 Huy0_31 Huy1_31 Hv0_31 Hv1_31 Kus_31 Kuy_31 HB_31
        have Kv_32 := Lib.hid KX
        clear hbx KX
        have HA1 := Lib.hid (fun A B ca cb w hk hd hA hB => HA.out A B sv pv ca cb w hk hd hA hB)
        have HA2 := Lib.hid (fun A B ca cb w hd => sReadAll_any A B sv pv ca cb w hd)
        generalize raI sv pv = rv at *
        generalize goodDB sv pv = gv at *
        have cus_0 : w25.cell? ⟨w20.heap.size, 0, none⟩ = some (.slice Aus0 Su.length cus0) := cell_of_row _ _ 0 _ _ _ Kus_33.out
        have cus_1 : w25.cell? ⟨w20.heap.size, 1, none⟩ = some (.slice Aus1 U.length cus1) := cell_of_row _ _ 1 _ _ _ Kus_33.out
        have cuy_0 : w25.cell? ⟨w22.heap.size, 0, none⟩ = some (.slice Auy0 Su.length cuy0) := cell_of_row _ _ 0 _ _ _ Kuy_33.out
        have cuy_1 : w25.cell? ⟨w22.heap.size, 1, none⟩ = some (.slice Auy1 U.length cuy1) := cell_of_row _ _ 1 _ _ _ Kuy_33.out
        have cv_0 : w25.cell? ⟨w24.heap.size, 0, none⟩ = some (.slice Av0 sv.length cv0) := cell_of_row _ _ 0 _ _ _ Kv_32.out
        have cv_1 : w25.cell? ⟨w24.heap.size, 1, none⟩ = some (.slice Av1 pv.length cv1) := cell_of_row _ _ 1 _ _ _ Kv_32.out
        go_wp2_with fail
        clear cus_0 cus_1 cuy_0 cuy_1 cv_0 cv_1 hw32
        refine (HA1.out Av0 Av1 cv0 cv1 _ (hK _ _ HW.out HB_33.out) ⟨(OwnR.rd fSt_len Hv0_33.out), (OwnR.rd fPu_len Hv1_33.out), by omega, by omega, HZv0.out, HZv1.out⟩ (ownR_lies Hv0_33.out) (ownR_lies Hv1_33.out)).mono ?_
        rintro e w26 ⟨rfl, hbq⟩
        have Hus0_34 := Lib.hid (Hus0_33.out.below hbq)
        have Hus1_34 := Lib.hid (Hus1_33.out.below hbq)
        have Huy0_34 := Lib.hid (Huy0_33.out.below hbq)
        have Huy1_34 := Lib.hid (Huy1_33.out.below hbq)
        have Hv0_34 := Lib.hid (Hv0_33.out.below hbq)
        have Hv1_34 := Lib.hid (Hv1_33.out.below hbq)
        have Kus_34 := Lib.hid ((hbq.block _ (heap_lt Kus_33.out)).trans Kus_33.out)
        have Kuy_34 := Lib.hid ((hbq.block _ (heap_lt Kuy_33.out)).trans Kuy_33.out)
        have Kv_34 := Lib.hid ((hbq.block _ (heap_lt Kv_32.out)).trans Kv_32.out)
        have HB_34 := Lib.hid (below_more HB_33.out hbq)
        clear Hus0_33 Hus1_33 Huy0_33 Huy1_33 Hv0_33 Hv1_33 Kus_33 Kuy_33 Kv_32 HB_33
        clear hbq
        have cus_0 : w26.cell? ⟨w20.heap.size, 0, none⟩ = some (.slice Aus0 Su.length cus0) := cell_of_row _ _ 0 _ _ _ Kus_34.out
        have cus_1 : w26.cell? ⟨w20.heap.size, 1, none⟩ = some (.slice Aus1 U.length cus1) := cell_of_row _ _ 1 _ _ _ Kus_34.out
        have cuy_0 : w26.cell? ⟨w22.heap.size, 0, none⟩ = some (.slice Auy0 Su.length cuy0) := cell_of_row _ _ 0 _ _ _ Kuy_34.out
        have cuy_1 : w26.cell? ⟨w22.heap.size, 1, none⟩ = some (.slice Auy1 U.length cuy1) := cell_of_row _ _ 1 _ _ _ Kuy_34.out
        have cv_0 : w26.cell? ⟨w24.heap.size, 0, none⟩ = some (.slice Av0 sv.length cv0) := cell_of_row _ _ 0 _ _ _ Kv_34.out
        have cv_1 : w26.cell? ⟨w24.heap.size, 1, none⟩ = some (.slice Av1 pv.length cv1) := cell_of_row _ _ 1 _ _ _ Kv_34.out
        go_wp2_with fail
        clear cus_0 cus_1 cuy_0 cuy_1 cv_0 cv_1
        refine (HA2.out Av0 Av1 cv0 cv1 _ ⟨(OwnR.rd fSt_len Hv0_34.out), (OwnR.rd fPu_len Hv1_34.out), by omega, by omega, HZv0.out, HZv1.out⟩).mono ?_
        rintro e w27 ⟨rfl, hbq⟩
        have Hus0_35 := Lib.hid (Hus0_34.out.below hbq)
        have Hus1_35 := Lib.hid (Hus1_34.out.below hbq)
        have Huy0_35 := Lib.hid (Huy0_34.out.below hbq)
        have Huy1_35 := Lib.hid (Huy1_34.out.below hbq)
        have Hv0_35 := Lib.hid (Hv0_34.out.below hbq)
        have Hv1_35 := Lib.hid (Hv1_34.out.below hbq)
        have Kus_35 := Lib.hid ((hbq.block _ (heap_lt Kus_34.out)).trans Kus_34.out)
        have Kuy_35 := Lib.hid ((hbq.block _ (heap_lt Kuy_34.out)).trans Kuy_34.out)
        have Kv_35 := Lib.hid ((hbq.block _ (heap_lt Kv_34.out)).trans Kv_34.out)
        have HB_35 := Lib.hid (below_more HB_34.out hbq)
        clear Hus0_34 Hus1_34 Huy0_34 Huy1_34 Hv0_34 Hv1_34 Kus_34 Kuy_34 Kv_34 HB_34
        clear hbq
        clear Hv0_35 Hv1_35
        clear Kv_35
        clear HA1 HA2
        have HN1 := Lib.hid (fun w hk => HN.out w hk)
        have HN2 := Lib.hid (fun w => HNg.out w)
        have HG1 := Lib.hid (fun A B ca cb w hk hd hA hB => HG.out A B (List.replicate 12 zero16) U ca cb w hk hd hA hB)
        rw [HGn.out] at HG1
        have hz0 : (List.replicate 12 zero16).length ≤ 12 := by simp
        have HZn0 : Hid (∀ s ∈ List.replicate 12 zero16, s.size ≤ 1048576) := fun s hs => by rw [List.eq_of_mem_replicate hs]; decide +kernel
        generalize List.replicate 12 zero16 = Zn at *
        have cus_0 : w27.cell? ⟨w20.heap.size, 0, none⟩ = some (.slice Aus0 Su.length cus0) := cell_of_row _ _ 0 _ _ _ Kus_35.out
        have cus_1 : w27.cell? ⟨w20.heap.size, 1, none⟩ = some (.slice Aus1 U.length cus1) := cell_of_row _ _ 1 _ _ _ Kus_35.out
        have cuy_0 : w27.cell? ⟨w22.heap.size, 0, none⟩ = some (.slice Auy0 Su.length cuy0) := cell_of_row _ _ 0 _ _ _ Kuy_35.out
        have cuy_1 : w27.cell? ⟨w22.heap.size, 1, none⟩ = some (.slice Auy1 U.length cuy1) := cell_of_row _ _ 1 _ _ _ Kuy_35.out
        go_wp2_with fail
        clear cus_0 cus_1 cuy_0 cuy_1
        refine (HN1.out _ (hK _ _ HW.out HB_35.out)).mono ?_
        rintro e w28 ⟨vn0, vn1, rfl, hpk, hbn⟩
        obtain ⟨hon0, hon1, han⟩ := hpk
        obtain ⟨An0, cn0, hvn0, hcapn0, _⟩ := OwnR.form fSt_len hon0
        subst hvn0
        obtain ⟨An1, cn1, hvn1, hcapn1, _⟩ := OwnR.form fPu_len hon1
        subst hvn1
        have HAp_us0_n0 := Lib.hid (apart5 (fun k hk => (Hus0_35.out.lt k hk).2) (fun k hk => (hon0.lt k hk).1))
        have HAp_us1_n0 := Lib.hid (apart5 (fun k hk => (Hus1_35.out.lt k hk).2) (fun k hk => (hon0.lt k hk).1))
        have HAp_uy0_n0 := Lib.hid (apart5 (fun k hk => (Huy0_35.out.lt k hk).2) (fun k hk => (hon0.lt k hk).1))
        have HAp_uy1_n0 := Lib.hid (apart5 (fun k hk => (Huy1_35.out.lt k hk).2) (fun k hk => (hon0.lt k hk).1))
        have HAp_us0_n1 := Lib.hid (apart5 (fun k hk => (Hus0_35.out.lt k hk).2) (fun k hk => (hon1.lt k hk).1))
        have HAp_us1_n1 := Lib.hid (apart5 (fun k hk => (Hus1_35.out.lt k hk).2) (fun k hk => (hon1.lt k hk).1))
        have HAp_uy0_n1 := Lib.hid (apart5 (fun k hk => (Huy0_35.out.lt k hk).2) (fun k hk => (hon1.lt k hk).1))
        have HAp_uy1_n1 := Lib.hid (apart5 (fun k hk => (Huy1_35.out.lt k hk).2) (fun k hk => (hon1.lt k hk).1))
        have HNX_us_n0 := Lib.hid (fun g hg => Nat.ne_of_gt (Nat.lt_of_lt_of_le (heap_lt Kus_35.out) (hon0.lt g hg).1))
        have HNX_uy_n0 := Lib.hid (fun g hg => Nat.ne_of_gt (Nat.lt_of_lt_of_le (heap_lt Kuy_35.out) (hon0.lt g hg).1))
        have HNX_us_n1 := Lib.hid (fun g hg => Nat.ne_of_gt (Nat.lt_of_lt_of_le (heap_lt Kus_35.out) (hon1.lt g hg).1))
        have HNX_uy_n1 := Lib.hid (fun g hg => Nat.ne_of_gt (Nat.lt_of_lt_of_le (heap_lt Kuy_35.out) (hon1.lt g hg).1))
        have HAp_n0_n1 := Lib.hid han
        have Hus0_36 := Lib.hid (Hus0_35.out.below hbn)
        have Hus1_36 := Lib.hid (Hus1_35.out.below hbn)
        have Huy0_36 := Lib.hid (Huy0_35.out.below hbn)
        have Huy1_36 := Lib.hid (Huy1_35.out.below hbn)
        have Hn0_36 := Lib.hid (hon0.lower HB_35.out.size)
        have Hn1_36 := Lib.hid (hon1.lower HB_35.out.size)
        have Kus_36 := Lib.hid ((hbn.block _ (heap_lt Kus_35.out)).trans Kus_35.out)
        have Kuy_36 := Lib.hid ((hbn.block _ (heap_lt Kuy_35.out)).trans Kuy_35.out)
        have HB_36 := Lib.hid (below_more HB_35.out hbn)
        clear Hus0_35 Hus1_35 Huy0_35 Huy1_35 Kus_35 Kuy_35 HB_35 hon0 hon1 han hbn
        obtain ⟨w29, hw37⟩ : ∃ wn, w28.alloc (.cells #[.slice An0 Zn.length cn0, .slice An1 U.length cn1] 26) = wn := ⟨_, rfl⟩
        have hbx : Below w28.heap.size w28 w29 := by rw [← hw37]; exact gAlloc _ _
        have KX : w29.heap[w28.heap.size]? = some (.cells #[.slice An0 Zn.length cn0, .slice An1 U.length cn1] 26 (0, 0)) := by rw [← hw37]; exact heap_alloc_new _ _
        have HNX_n_us0 := Lib.hid (fun g hg => Nat.ne_of_lt (Hus0_36.out.lt g hg).2)
        have HNX_n_us1 := Lib.hid (fun g hg => Nat.ne_of_lt (Hus1_36.out.lt g hg).2)
        have HNX_n_uy0 := Lib.hid (fun g hg => Nat.ne_of_lt (Huy0_36.out.lt g hg).2)
        have HNX_n_uy1 := Lib.hid (fun g hg => Nat.ne_of_lt (Huy1_36.out.lt g hg).2)
        have HNX_n_n0 := Lib.hid (fun g hg => Nat.ne_of_lt (Hn0_36.out.lt g hg).2)
        have HNX_n_n1 := Lib.hid (fun g hg => Nat.ne_of_lt (Hn1_36.out.lt g hg).2)
        have Hus0_38 := Lib.hid (Hus0_36.out.below hbx)
        have Hus1_38 := Lib.hid (Hus1_36.out.below hbx)
        have Huy0_38 := Lib.hid (Huy0_36.out.below hbx)
        have Huy1_38 := Lib.hid (Huy1_36.out.below hbx)
        have Hn0_38 := Lib.hid (Hn0_36.out.below hbx)
        have Hn1_38 := Lib.hid (Hn1_36.out.below hbx)
        have Kus_38 := Lib.hid ((hbx.block _ (heap_lt Kus_36.out)).trans Kus_36.out)
        have Kuy_38 := Lib.hid ((hbx.block _ (heap_lt Kuy_36.out)).trans Kuy_36.out)
        have HB_38 := Lib.hid (below_more HB_36.out hbx)
        clear Hus0_36 Hus1_36 Huy0_36 Huy1_36 Hn0_36 Hn1_36 Kus_36 Kuy_36 HB_36
        have Kn_37 := Lib.hid KX
        clear hbx KX
        have cus_0 : w29.cell? ⟨w20.heap.size, 0, none⟩ = some (.slice Aus0 Su.length cus0) := cell_of_row _ _ 0 _ _ _ Kus_38.out
        have cus_1 : w29.cell? ⟨w20.heap.size, 1, none⟩ = some (.slice Aus1 U.length cus1) := cell_of_row _ _ 1 _ _ _ Kus_38.out
        have cuy_0 : w29.cell? ⟨w22.heap.size, 0, none⟩ = some (.slice Auy0 Su.length cuy0) := cell_of_row _ _ 0 _ _ _ Kuy_38.out
        have cuy_1 : w29.cell? ⟨w22.heap.size, 1, none⟩ = some (.slice Auy1 U.length cuy1) := cell_of_row _ _ 1 _ _ _ Kuy_38.out
        have cn_0 : w29.cell? ⟨w28.heap.size, 0, none⟩ = some (.slice An0 Zn.length cn0) := cell_of_row _ _ 0 _ _ _ Kn_37.out
        have cn_1 : w29.cell? ⟨w28.heap.size, 1, none⟩ = some (.slice An1 U.length cn1) := cell_of_row _ _ 1 _ _ _ Kn_37.out
        go_wp2_with fail
        go_region_held3 (fun w' => w'.cell? ⟨w20.heap.size, 0, none⟩ = some (.slice Aus0 Su.length cus0) ∧ w'.cell? ⟨w20.heap.size, 1, none⟩ = some (.slice Aus1 U.length cus1) ∧ w'.cell? ⟨w22.heap.size, 0, none⟩ = some (.slice Auy0 Su.length cuy0) ∧ w'.cell? ⟨w22.heap.size, 1, none⟩ = some (.slice Auy1 U.length cuy1) ∧ w'.cell? ⟨w28.heap.size, 0, none⟩ = some (.slice An0 Zn.length cn0) ∧ w'.cell? ⟨w28.heap.size, 1, none⟩ = some (.slice An1 U.length cn1)) (first | exact ⟨r3_cus_0, r3_cus_1, r3_cuy_0, r3_cuy_1, r3_cn_0, r3_cn_1⟩ | exact ⟨r2_cus_0, r2_cus_1, r2_cuy_0, r2_cuy_1, r2_cn_0, r2_cn_1⟩ | exact ⟨r1_cus_0, r1_cus_1, r1_cuy_0, r1_cuy_1, r1_cn_0, r1_cn_1⟩ | exact ⟨r0_cus_0, r0_cus_1, r0_cuy_0, r0_cuy_1, r0_cn_0, r0_cn_1⟩ | exact ⟨cus_0, cus_1, cuy_0, cuy_1, cn_0, cn_1⟩ | go_keep) (first
          | (go_at_call 15; refine (sameDisk_self An0 An1 Am0 Am1 Zn U cn0 cn1 cm0 cm1 _ (OwnR.rd fSt_len ((((Hn0_38.out.below gDrew).below hbd0).below hbd1).below hbd2)) (OwnR.rd fPu_len ((((Hn1_38.out.below gDrew).below hbd0).below hbd1).below hbd2)) (OwnR.rd fSt_len hom0) (OwnR.rd fPu_len hom1) (by omega) (by omega)).mono ?_; rintro e w33 ⟨rfl, hbd3⟩; have r3_cus_0 := (hbd3.cell (World.block_lt_of_cell? _ _ r2_cus_0)).trans r2_cus_0; have r3_cus_1 := (hbd3.cell (World.block_lt_of_cell? _ _ r2_cus_1)).trans r2_cus_1; have r3_cuy_0 := (hbd3.cell (World.block_lt_of_cell? _ _ r2_cuy_0)).trans r2_cuy_0; have r3_cuy_1 := (hbd3.cell (World.block_lt_of_cell? _ _ r2_cuy_1)).trans r2_cuy_1; have r3_cn_0 := (hbd3.cell (World.block_lt_of_cell? _ _ r2_cn_0)).trans r2_cn_0; have r3_cn_1 := (hbd3.cell (World.block_lt_of_cell? _ _ r2_cn_1)).trans r2_cn_1)
          | (go_at_call 25; refine (HN2.out _).mono ?_; rintro e w32 ⟨vm0, vm1, rfl, hom, hbd2⟩; have r2_cus_0 := (hbd2.cell (World.block_lt_of_cell? _ _ r1_cus_0)).trans r1_cus_0; have r2_cus_1 := (hbd2.cell (World.block_lt_of_cell? _ _ r1_cus_1)).trans r1_cus_1; have r2_cuy_0 := (hbd2.cell (World.block_lt_of_cell? _ _ r1_cuy_0)).trans r1_cuy_0; have r2_cuy_1 := (hbd2.cell (World.block_lt_of_cell? _ _ r1_cuy_1)).trans r1_cuy_1; have r2_cn_0 := (hbd2.cell (World.block_lt_of_cell? _ _ r1_cn_0)).trans r1_cn_0; have r2_cn_1 := (hbd2.cell (World.block_lt_of_cell? _ _ r1_cn_1)).trans r1_cn_1; obtain ⟨hom0, hom1, -⟩ := hom; obtain ⟨Am0, cm0, rfl, _, _⟩ := OwnR.form fSt_len hom0; obtain ⟨Am1, cm1, rfl, _, _⟩ := OwnR.form fPu_len hom1)
          | (go_at_call 16; refine (HG1.out An0 An1 cn0 cn1 _ (hK _ _ HW.out (below_more HB_38.out (below_more gDrew hbd0))) ⟨(OwnR.rd fSt_len ((Hn0_38.out.below gDrew).below hbd0)), (OwnR.rd fPu_len ((Hn1_38.out.below gDrew).below hbd0)), by omega, by omega, HZn0.out, HZe0.out⟩ (ownR_lies ((Hn0_38.out.below gDrew).below hbd0)) (ownR_lies ((Hn1_38.out.below gDrew).below hbd0))).mono ?_; rintro e w31 ⟨rfl, hbd1⟩; have r1_cus_0 := (hbd1.cell (World.block_lt_of_cell? _ _ r0_cus_0)).trans r0_cus_0; have r1_cus_1 := (hbd1.cell (World.block_lt_of_cell? _ _ r0_cus_1)).trans r0_cus_1; have r1_cuy_0 := (hbd1.cell (World.block_lt_of_cell? _ _ r0_cuy_0)).trans r0_cuy_0; have r1_cuy_1 := (hbd1.cell (World.block_lt_of_cell? _ _ r0_cuy_1)).trans r0_cuy_1; have r1_cn_0 := (hbd1.cell (World.block_lt_of_cell? _ _ r0_cn_0)).trans r0_cn_0; have r1_cn_1 := (hbd1.cell (World.block_lt_of_cell? _ _ r0_cn_1)).trans r0_cn_1)
          | (go_at_call 15; refine (sameDisk_self Aus0 Aus1 Auy0 Auy1 Su U cus0 cus1 cuy0 cuy1 _ (OwnR.rd fSt_len (Hus0_38.out.below gDrew)) (OwnR.rd fPu_len (Hus1_38.out.below gDrew)) (OwnR.rd fSt_len (Huy0_38.out.below gDrew)) (OwnR.rd fPu_len (Huy1_38.out.below gDrew)) (by omega) (by omega)).mono ?_; rintro e w30 ⟨rfl, hbd0⟩; have r0_cus_0 := (hbd0.cell (World.block_lt_of_cell? _ _ cus_0)).trans cus_0; have r0_cus_1 := (hbd0.cell (World.block_lt_of_cell? _ _ cus_1)).trans cus_1; have r0_cuy_0 := (hbd0.cell (World.block_lt_of_cell? _ _ cuy_0)).trans cuy_0; have r0_cuy_1 := (hbd0.cell (World.block_lt_of_cell? _ _ cuy_1)).trans cuy_1; have r0_cn_0 := (hbd0.cell (World.block_lt_of_cell? _ _ cn_0)).trans cn_0; have r0_cn_1 := (hbd0.cell (World.block_lt_of_cell? _ _ cn_1)).trans cn_1))
        have hbq := below_more gDrew (below_more hbd0 (below_more hbd1 (below_more hbd2 (hbd3))))
        clear r0_cus_0 r0_cus_1 r0_cuy_0 r0_cuy_1 r0_cn_0 r0_cn_1 r1_cus_0 r1_cus_1 r1_cuy_0 r1_cuy_1 r1_cn_0 r1_cn_1 r2_cus_0 r2_cus_1 r2_cuy_0 r2_cuy_1 r2_cn_0 r2_cn_1 r3_cus_0 r3_cus_1 r3_cuy_0 r3_cuy_1 r3_cn_0 r3_cn_1 cus_0 cus_1 cuy_0 cuy_1 cn_0 cn_1 hw37
        have Hus0_39 := Lib.hid (Hus0_38.out.below hbq)
        have Hus1_39 := Lib.hid (Hus1_38.out.below hbq)
        have Huy0_39 := Lib.hid (Huy0_38.out.below hbq)
        have Huy1_39 := Lib.hid (Huy1_38.out.below hbq)
        have Hn0_39 := Lib.hid (Hn0_38.out.below hbq)
        have Hn1_39 := Lib.hid (Hn1_38.out.below hbq)
        have Kus_39 := Lib.hid ((hbq.block _ (heap_lt Kus_38.out)).trans Kus_38.out)
        have Kuy_39 := Lib.hid ((hbq.block _ (heap_lt Kuy_38.out)).trans Kuy_38.out)
        have Kn_39 := Lib.hid ((hbq.block _ (heap_lt Kn_37.out)).trans Kn_37.out)
        have HB_39 := Lib.hid (below_more HB_38.out hbq)
        clear Hus0_38 Hus1_38 Huy0_38 Huy1_38 Hn0_38 Hn1_38 Kus_38 Kuy_38 Kn_37 HB_38
        clear hbq hbd0 hbd1 hbd2 hbd3
        go_wp2_with fail
        go_ret
        exact ⟨ret_eq9, HB_39.out⟩
set_option maxRecDepth 100000 in
set_option maxHeartbeats 1000000 in
theorem fnDisk_law {K : World → Prop} (hK : Stays5 K)
    (hG : ∀ (A B : Option Addr) (ss : List ByteArray) (ps : List (Int × ByteArray)) (ca cb : Nat) (w : World), K w → DiskIn w A B ss ps → Lies9 A ca → Lies9 B cb → Calls Try.prog 16 #[diskV (.slice A ss.length ca) (.slice B ps.length cb)] w fun e w' => e = .returned (.bool (goodDB ss ps)) ∧ Below w.heap.size w w')
    (hA : ∀ (A B : Option Addr) (ss : List ByteArray) (ps : List (Int × ByteArray)) (ca cb : Nat) (w : World), K w → DiskIn w A B ss ps → Lies9 A ca → Lies9 B cb → Calls Try.prog 19 #[diskV (.slice A ss.length ca) (.slice B ps.length cb)] w fun e w' => e = .returned (.tuple #[.string (raI ss ps), .bool (goodDB ss ps)]) ∧ Below w.heap.size w w')
    (hS : ∀ (A B : Option Addr) (ss : List ByteArray) (ps : List (Int × ByteArray)) (ca cb : Nat) (w : World), K w → DiskIn w A B ss ps → Lies9 A ca → Lies9 B cb → Calls Try.prog 18 #[diskV (.slice A ss.length ca) (.slice B ps.length cb)] w fun e w' => ∃ v1 v2, e = .returned (.tuple #[diskV v1 v2, .bool (goodDB ss ps)]) ∧ OwnD w' w.heap.size v1 v2 (syI ss ps) ([]) ∧ Below w.heap.size w w')
    (hC : ∀ (A B : Option Addr) (ss : List ByteArray) (ps : List (Int × ByteArray)) (ca cb : Nat) (C : Option Addr) (ks : List Int) (cc : Nat) (torn bb : Int) (w : World), K w → DiskIn w A B ss ps → Lies9 A ca → Lies9 B cb → Ints w C ks → Lies9 C cc → ks.length ≤ 1048576 → Calls Try.prog 13 #[diskV (.slice A ss.length ca) (.slice B ps.length cb), .slice C ks.length cc, .int .i64 torn, .int .i64 bb] w fun e w' => ∃ v1 v2, e = .returned (.tuple #[diskV v1 v2, .bool (crOkB ss ps ks torn bb)]) ∧ OwnD w' w.heap.size v1 v2 (crI ss ps ks torn bb) ([]) ∧ Below w.heap.size w w')
    (hN : ∀ (w : World), K w → Calls Try.prog 24 #[] w fun e w' => ∃ v1 v2, e = .returned (diskV v1 v2) ∧ OwnD w' w.heap.size v1 v2 (List.replicate 12 zero16) ([]) ∧ Below w.heap.size w w')
    (A : Option Addr) (za : List Int) (ca : Nat) (B : Option Addr) (zb : List Int) (cb : Nat) (w : World) (hw : K w) (ha : Byts w w.heap.size A za) (hb : Byts w w.heap.size B zb) (hla : za.length ≤ 140737488355328) (hlb : zb.length ≤ 140737488355328) :
    Calls Try.prog 3 #[.slice A za.length ca, .slice B zb.length cb] w fun e w' => e = .returned (.bool true) ∧ Below w.heap.size w w' := by
  by_cases hl : za.length + zb.length ≤ 1048576
  · exact fnDisk_small hK hG hA hS hC hN A za ca B zb cb w hw ha hb hl
  · have hli : (1048576 : Int) < (za.length : Int) + (zb.length : Int) := by omega
    clear hG hA hS hC hN ha hb
    go_enter Try.func3, Try.ntmps3
    go_wp2_with fail
    go_ret
    exact ⟨rfl, Below.refl _ _⟩
end Go.Proofs.Ytkmlgeicmnbkiaa
