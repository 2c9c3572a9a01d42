/-
  FnPut walked, whatever the program's own texts are.
-/
import Derived.Test.YtkmlgeicmnbkiaaDI
import Derived.Test.YtkmlgeicmnbkiaaVO
namespace Go.Proofs.Ytkmlgeicmnbkiaa
open Go.RowKit

theorem ret_ok9 {b : Bool} : Ending.returned (.bool b) = Ending.returned (.bool b) := rfl
theorem put_ok9 {ss : List ByteArray} {ps : List (Int × ByteArray)} {k : Int} {y : ByteArray} : puOkB ss ps k y = true → ss = puS ss ps k y ∧ ps ++ [(k, y)] = puP ss ps k y ∧ goodDB ss ps = true ∧ 0 ≤ k ∧ k ≤ 11 ∧ goodDB ss (ps ++ [(k, y)]) = true := fun h => by
  have h' := h
  simp only [puOkB, Bool.and_eq_true] at h'
  have h2 : 0 ≤ k ∧ k ≤ 11 := by simpa [inB] using h'.2.1
  exact ⟨(pu_yes h).1.symm, (pu_yes h).2.1.symm, h'.1, h2.1, h2.2, good_put h⟩
theorem put_size9 {ps : List (Int × ByteArray)} {k : Int} {y : ByteArray} (h : ∀ p ∈ ps, p.2.size ≤ 1048576) (hy : y.size ≤ 1048576) : ∀ p ∈ ps ++ [(k, y)], p.2.size ≤ 1048576 := fun p hp => by
  rcases List.mem_append.1 hp with hp | hp
  · exact h p hp
  · rw [List.mem_singleton.1 hp]; exact hy
theorem put_read9 {ss : List ByteArray} {ps : List (Int × ByteArray)} {k : Int} {y : ByteArray} (hg : goodDB ss ps = true) (_h0 : 0 ≤ k) (_h1 : k ≤ 11) (hg2 : goodDB ss (ps ++ [(k, y)]) = true) (j : Nat) (hj : j < 12) :
    rsOkB ss ps (j : Int) = true ∧ rsOkB ss (ps ++ [(k, y)]) (j : Int) = true ∧ ((j : Int) = k → rsI ss (ps ++ [(k, y)]) (j : Int) = y) ∧ (¬ (j : Int) = k → rsI ss (ps ++ [(k, y)]) (j : Int) = rsI ss ps (j : Int)) := by
  have hin : inB (j : Int) 0 11 = true := inB_true (by omega) (by omega)
  have o1 : rsOkB ss ps (j : Int) = true := by rw [rsOkB, hg, hin]; rfl
  have o2 : rsOkB ss (ps ++ [(k, y)]) (j : Int) = true := by rw [rsOkB, hg2, hin]; rfl
  have e : rdL ss (ps ++ [(k, y)]) j = if k = (j : Int) then y else rdL ss ps j := by rw [rdL, List.foldl_append]; rfl
  refine ⟨o1, o2, fun h => ?_, fun h => ?_⟩
  · rw [rsI, if_pos o2, Int.toNat_natCast, e, if_pos h.symm]
  · rw [rsI, rsI, if_pos o2, if_pos o1, Int.toNat_natCast, e, if_neg (fun h' => h h'.symm)]
set_option maxRecDepth 100000 in
set_option maxHeartbeats 8000000 in
theorem fnPut_small {K : World → Prop} (hK : Stays5 K)
    (hP : ∀ (A B : Option Addr) (ss : List ByteArray) (ps : List (Int × ByteArray)) (ca cb : Nat) (k : Int) (y : ByteArray) (w : World), K w → DiskIn w A B ss ps → Lies9 A ca → Lies9 B cb → y.size ≤ 1048576 → Calls Try.prog 27 #[diskV (.slice A ss.length ca) (.slice B ps.length cb), .int .i64 k, .string y] w fun e w' => ∃ v1 v2, e = .returned (.tuple #[diskV v1 v2, .bool (puOkB ss ps k y)]) ∧ OwnD w' w.heap.size v1 v2 (puS ss ps k y) (puP ss ps k y) ∧ Below w.heap.size w w')
    (hR : ∀ (A B : Option Addr) (ss : List ByteArray) (ps : List (Int × ByteArray)) (ca cb : Nat) (k : Int) (w : World), K w → DiskIn w A B ss ps → Lies9 A ca → Lies9 B cb → Calls Try.prog 29 #[diskV (.slice A ss.length ca) (.slice B ps.length cb), .int .i64 k] w fun e w' => e = .returned (.tuple #[.string (rsI ss ps k), .bool (rsOkB ss ps k)]) ∧ Below w.heap.size w w')
    (A : Option Addr) (za : List Int) (ca : Nat) (B : Option Addr) (zb : List Int) (cb : Nat) (w : World) (hw : K w) (ha : Byts w w.heap.size A za) (hb : Byts w w.heap.size B zb) (hl : za.length + zb.length ≤ 1048576) :
    Calls Try.prog 4 #[.slice A za.length ca, .slice B zb.length cb] w fun e w' => e = .returned (.bool true) ∧ Below w.heap.size w w' := by
  have HAy := Lib.hid ha
  have HBy := Lib.hid hb
  have HW := Lib.hid hw
  have HP := Lib.hid hP
  have HR := Lib.hid hR
  have hli : ¬ (1048576 : Int) < (za.length : Int) + (zb.length : Int) := by omega
  clear ha hb hw hP hR
  go_enter Try.func4, Try.ntmps4
  go_wp2_with fail
  refine (drawPut9 A za ca _ HAy.out).mono ?_
  rintro e w1 ⟨vd0, vd1, ss, ps, k, y, rfl, hdr, hk0, hk1, hy⟩
  have hld0 : ss.length ≤ 12 := by have := hdr.len; omega
  have hld1 : ps.length ≤ 41 := hdr.len2
  have HZs : Hid (∀ s ∈ ss, s.size ≤ 1048576) := fun s hs => by have := hdr.size s hs; omega
  have HZp : Hid (∀ p ∈ ps, p.2.size ≤ 1048576) := fun p hp => by have := hdr.size2 p hp; omega
  obtain ⟨⟨hod0, hod1, had⟩, -, -, -, -, hbd⟩ := hdr
  obtain ⟨Ad0, cd0, hvd0, hcapd0, _⟩ := OwnR.form fSt_len hod0
  subst hvd0
  obtain ⟨Ad1, cd1, hvd1, hcapd1, _⟩ := OwnR.form fPu_len hod1
  subst hvd1
  have HAp_d0_d1 := Lib.hid had
  have Hd0_1 := Lib.hid (hod0)
  have Hd1_1 := Lib.hid (hod1)
  have HB_1 := Lib.hid (hbd)
  clear hod0 hod1 had hbd
  obtain ⟨w2, hw2⟩ : ∃ wn, w1.alloc (.cells #[.slice Ad0 ss.length cd0, .slice Ad1 ps.length cd1] 26) = wn := ⟨_, rfl⟩
  have hbx : Below w1.heap.size w1 w2 := by rw [← hw2]; exact gAlloc _ _
  have KX : w2.heap[w1.heap.size]? = some (.cells #[.slice Ad0 ss.length cd0, .slice Ad1 ps.length cd1] 26 (0, 0)) := by rw [← hw2]; exact heap_alloc_new _ _
  have HNX_d_d0 := Lib.hid (fun g hg => Nat.ne_of_lt (Hd0_1.out.lt g hg).2)
  have HNX_d_d1 := Lib.hid (fun g hg => Nat.ne_of_lt (Hd1_1.out.lt g hg).2)
  have Hd0_3 := Lib.hid (Hd0_1.out.below hbx)
  have Hd1_3 := Lib.hid (Hd1_1.out.below hbx)
  have HB_3 := Lib.hid (below_more HB_1.out hbx)
  clear Hd0_1 Hd1_1 HB_1
  have Kd_2 := Lib.hid KX
  clear hbx KX
  have hVU := pu_len ss ps k y
  have HSp := Lib.hid (fun A B ca cb w hd hA hB => sPut_any A B ss ps ca cb k y w hd hA hB)
  have HPp := Lib.hid (fun A B ca cb w hk hd hA hB => HP.out A B ss ps ca cb k y w hk hd hA hB (by omega))
  have HOK := Lib.hid (put_ok9 (ss := ss) (ps := ps) (k := k) (y := y))
  generalize puS ss ps k y = V at *
  generalize puP ss ps k y = U at *
  generalize puOkB ss ps k y = bb at *
  obtain ⟨hV, hU⟩ := hVU
  have cd_0 : w2.cell? ⟨w1.heap.size, 0, none⟩ = some (.slice Ad0 ss.length cd0) := cell_of_row _ _ 0 _ _ _ Kd_2.out
  have cd_1 : w2.cell? ⟨w1.heap.size, 1, none⟩ = some (.slice Ad1 ps.length cd1) := cell_of_row _ _ 1 _ _ _ Kd_2.out
  go_wp2_with fail
  clear cd_0 cd_1 hw2
  refine (HPp.out Ad0 Ad1 cd0 cd1 _ (hK _ _ HW.out HB_3.out) ⟨(OwnR.rd fSt_len Hd0_3.out), (OwnR.rd fPu_len Hd1_3.out), by omega, by omega, HZs.out, HZp.out⟩ (ownR_lies Hd0_3.out) (ownR_lies Hd1_3.out)).mono ?_
  rintro e w3 ⟨vp0, vp1, rfl, hpk, hbp⟩
  obtain ⟨hop0, hop1, hap⟩ := hpk
  obtain ⟨Ap0, cp0, hvp0, hcapp0, _⟩ := OwnR.form fSt_len hop0
  subst hvp0
  obtain ⟨Ap1, cp1, hvp1, hcapp1, _⟩ := OwnR.form fPu_len hop1
  subst hvp1
  have HAp_d0_p0 := Lib.hid (apart5 (fun k hk => (Hd0_3.out.lt k hk).2) (fun k hk => (hop0.lt k hk).1))
  have HAp_d1_p0 := Lib.hid (apart5 (fun k hk => (Hd1_3.out.lt k hk).2) (fun k hk => (hop0.lt k hk).1))
  have HAp_d0_p1 := Lib.hid (apart5 (fun k hk => (Hd0_3.out.lt k hk).2) (fun k hk => (hop1.lt k hk).1))
  have HAp_d1_p1 := Lib.hid (apart5 (fun k hk => (Hd1_3.out.lt k hk).2) (fun k hk => (hop1.lt k hk).1))
  have HNX_d_p0 := Lib.hid (fun g hg => Nat.ne_of_gt (Nat.lt_of_lt_of_le (heap_lt Kd_2.out) (hop0.lt g hg).1))
  have HNX_d_p1 := Lib.hid (fun g hg => Nat.ne_of_gt (Nat.lt_of_lt_of_le (heap_lt Kd_2.out) (hop1.lt g hg).1))
  have HAp_p0_p1 := Lib.hid hap
  have Hd0_4 := Lib.hid (Hd0_3.out.below hbp)
  have Hd1_4 := Lib.hid (Hd1_3.out.below hbp)
  have Hp0_4 := Lib.hid (hop0.lower HB_3.out.size)
  have Hp1_4 := Lib.hid (hop1.lower HB_3.out.size)
  have Kd_4 := Lib.hid ((hbp.block _ (heap_lt Kd_2.out)).trans Kd_2.out)
  have HB_4 := Lib.hid (below_more HB_3.out hbp)
  clear Hd0_3 Hd1_3 Kd_2 HB_3 hop0 hop1 hap hbp
  obtain ⟨w4, hw5⟩ : ∃ wn, w3.alloc (.cells #[.slice Ap0 V.length cp0, .slice Ap1 U.length cp1] 26) = wn := ⟨_, rfl⟩
  have hbx : Below w3.heap.size w3 w4 := by rw [← hw5]; exact gAlloc _ _
  have KX : w4.heap[w3.heap.size]? = some (.cells #[.slice Ap0 V.length cp0, .slice Ap1 U.length cp1] 26 (0, 0)) := by rw [← hw5]; exact heap_alloc_new _ _
  have HNX_p_d0 := Lib.hid (fun g hg => Nat.ne_of_lt (Hd0_4.out.lt g hg).2)
  have HNX_p_d1 := Lib.hid (fun g hg => Nat.ne_of_lt (Hd1_4.out.lt g hg).2)
  have HNX_p_p0 := Lib.hid (fun g hg => Nat.ne_of_lt (Hp0_4.out.lt g hg).2)
  have HNX_p_p1 := Lib.hid (fun g hg => Nat.ne_of_lt (Hp1_4.out.lt g hg).2)
  have Hd0_6 := Lib.hid (Hd0_4.out.below hbx)
  have Hd1_6 := Lib.hid (Hd1_4.out.below hbx)
  have Hp0_6 := Lib.hid (Hp0_4.out.below hbx)
  have Hp1_6 := Lib.hid (Hp1_4.out.below hbx)
  have Kd_6 := Lib.hid ((hbx.block _ (heap_lt Kd_4.out)).trans Kd_4.out)
  have HB_6 := Lib.hid (below_more HB_4.out hbx)
  clear Hd0_4 Hd1_4 Hp0_4 Hp1_4 Kd_4 HB_4
  have Kp_5 := Lib.hid KX
  clear hbx KX
  have cd_0 : w4.cell? ⟨w1.heap.size, 0, none⟩ = some (.slice Ad0 ss.length cd0) := cell_of_row _ _ 0 _ _ _ Kd_6.out
  have cd_1 : w4.cell? ⟨w1.heap.size, 1, none⟩ = some (.slice Ad1 ps.length cd1) := cell_of_row _ _ 1 _ _ _ Kd_6.out
  have cp_0 : w4.cell? ⟨w3.heap.size, 0, none⟩ = some (.slice Ap0 V.length cp0) := cell_of_row _ _ 0 _ _ _ Kp_5.out
  have cp_1 : w4.cell? ⟨w3.heap.size, 1, none⟩ = some (.slice Ap1 U.length cp1) := cell_of_row _ _ 1 _ _ _ Kp_5.out
  go_wp2_with fail
  clear cd_0 cd_1 cp_0 cp_1 hw5
  refine (HSp.out Ad0 Ad1 cd0 cd1 _ ⟨(OwnR.rd fSt_len Hd0_6.out), (OwnR.rd fPu_len Hd1_6.out), by omega, by omega, HZs.out, HZp.out⟩ (ownR_lies Hd0_6.out) (ownR_lies Hd1_6.out)).mono ?_
  rintro e w5 ⟨vq0, vq1, rfl, hpk, hbq⟩
  obtain ⟨hoq0, hoq1, haq⟩ := hpk
  obtain ⟨Aq0, cq0, hvq0, hcapq0, _⟩ := OwnR.form fSt_len hoq0
  subst hvq0
  obtain ⟨Aq1, cq1, hvq1, hcapq1, _⟩ := OwnR.form fPu_len hoq1
  subst hvq1
  have HAp_d0_q0 := Lib.hid (apart5 (fun k hk => (Hd0_6.out.lt k hk).2) (fun k hk => (hoq0.lt k hk).1))
  have HAp_d1_q0 := Lib.hid (apart5 (fun k hk => (Hd1_6.out.lt k hk).2) (fun k hk => (hoq0.lt k hk).1))
  have HAp_p0_q0 := Lib.hid (apart5 (fun k hk => (Hp0_6.out.lt k hk).2) (fun k hk => (hoq0.lt k hk).1))
  have HAp_p1_q0 := Lib.hid (apart5 (fun k hk => (Hp1_6.out.lt k hk).2) (fun k hk => (hoq0.lt k hk).1))
  have HAp_d0_q1 := Lib.hid (apart5 (fun k hk => (Hd0_6.out.lt k hk).2) (fun k hk => (hoq1.lt k hk).1))
  have HAp_d1_q1 := Lib.hid (apart5 (fun k hk => (Hd1_6.out.lt k hk).2) (fun k hk => (hoq1.lt k hk).1))
  have HAp_p0_q1 := Lib.hid (apart5 (fun k hk => (Hp0_6.out.lt k hk).2) (fun k hk => (hoq1.lt k hk).1))
  have HAp_p1_q1 := Lib.hid (apart5 (fun k hk => (Hp1_6.out.lt k hk).2) (fun k hk => (hoq1.lt k hk).1))
  have HNX_d_q0 := Lib.hid (fun g hg => Nat.ne_of_gt (Nat.lt_of_lt_of_le (heap_lt Kd_6.out) (hoq0.lt g hg).1))
  have HNX_p_q0 := Lib.hid (fun g hg => Nat.ne_of_gt (Nat.lt_of_lt_of_le (heap_lt Kp_5.out) (hoq0.lt g hg).1))
  have HNX_d_q1 := Lib.hid (fun g hg => Nat.ne_of_gt (Nat.lt_of_lt_of_le (heap_lt Kd_6.out) (hoq1.lt g hg).1))
  have HNX_p_q1 := Lib.hid (fun g hg => Nat.ne_of_gt (Nat.lt_of_lt_of_le (heap_lt Kp_5.out) (hoq1.lt g hg).1))
  have HAp_q0_q1 := Lib.hid haq
  have Hd0_7 := Lib.hid (Hd0_6.out.below hbq)
  have Hd1_7 := Lib.hid (Hd1_6.out.below hbq)
  have Hp0_7 := Lib.hid (Hp0_6.out.below hbq)
  have Hp1_7 := Lib.hid (Hp1_6.out.below hbq)
  have Hq0_7 := Lib.hid (hoq0.lower HB_6.out.size)
  have Hq1_7 := Lib.hid (hoq1.lower HB_6.out.size)
  have Kd_7 := Lib.hid ((hbq.block _ (heap_lt Kd_6.out)).trans Kd_6.out)
  have Kp_7 := Lib.hid ((hbq.block _ (heap_lt Kp_5.out)).trans Kp_5.out)
  have HB_7 := Lib.hid (below_more HB_6.out hbq)
  clear Hd0_6 Hd1_6 Hp0_6 Hp1_6 Kd_6 Kp_5 HB_6 hoq0 hoq1 haq hbq
  obtain ⟨w6, hw8⟩ : ∃ wn, w5.alloc (.cells #[.slice Aq0 V.length cq0, .slice Aq1 U.length cq1] 26) = wn := ⟨_, rfl⟩
  have hbx : Below w5.heap.size w5 w6 := by rw [← hw8]; exact gAlloc _ _
  have KX : w6.heap[w5.heap.size]? = some (.cells #[.slice Aq0 V.length cq0, .slice Aq1 U.length cq1] 26 (0, 0)) := by rw [← hw8]; exact heap_alloc_new _ _
  have HNX_q_d0 := Lib.hid (fun g hg => Nat.ne_of_lt (Hd0_7.out.lt g hg).2)
  have HNX_q_d1 := Lib.hid (fun g hg => Nat.ne_of_lt (Hd1_7.out.lt g hg).2)
  have HNX_q_p0 := Lib.hid (fun g hg => Nat.ne_of_lt (Hp0_7.out.lt g hg).2)
  have HNX_q_p1 := Lib.hid (fun g hg => Nat.ne_of_lt (Hp1_7.out.lt g hg).2)
  have HNX_q_q0 := Lib.hid (fun g hg => Nat.ne_of_lt (Hq0_7.out.lt g hg).2)
  have HNX_q_q1 := Lib.hid (fun g hg => Nat.ne_of_lt (Hq1_7.out.lt g hg).2)
  have Hd0_9 := Lib.hid (Hd0_7.out.below hbx)
  have Hd1_9 := Lib.hid (Hd1_7.out.below hbx)
  have Hp0_9 := Lib.hid (Hp0_7.out.below hbx)
  have Hp1_9 := Lib.hid (Hp1_7.out.below hbx)
  have Hq0_9 := Lib.hid (Hq0_7.out.below hbx)
  have Hq1_9 := Lib.hid (Hq1_7.out.below hbx)
  have Kd_9 := Lib.hid ((hbx.block _ (heap_lt Kd_7.out)).trans Kd_7.out)
  have Kp_9 := Lib.hid ((hbx.block _ (heap_lt Kp_7.out)).trans Kp_7.out)
  have HB_9 := Lib.hid (below_more HB_7.out hbx)
  clear Hd0_7 Hd1_7 Hp0_7 Hp1_7 Hq0_7 Hq1_7 Kd_7 Kp_7 HB_7
  have Kq_8 := Lib.hid KX
  clear hbx KX
  have cd_0 : w6.cell? ⟨w1.heap.size, 0, none⟩ = some (.slice Ad0 ss.length cd0) := cell_of_row _ _ 0 _ _ _ Kd_9.out
  have cd_1 : w6.cell? ⟨w1.heap.size, 1, none⟩ = some (.slice Ad1 ps.length cd1) := cell_of_row _ _ 1 _ _ _ Kd_9.out
  have cp_0 : w6.cell? ⟨w3.heap.size, 0, none⟩ = some (.slice Ap0 V.length cp0) := cell_of_row _ _ 0 _ _ _ Kp_9.out
  have cp_1 : w6.cell? ⟨w3.heap.size, 1, none⟩ = some (.slice Ap1 U.length cp1) := cell_of_row _ _ 1 _ _ _ Kp_9.out
  have cq_0 : w6.cell? ⟨w5.heap.size, 0, none⟩ = some (.slice Aq0 V.length cq0) := cell_of_row _ _ 0 _ _ _ Kq_8.out
  have cq_1 : w6.cell? ⟨w5.heap.size, 1, none⟩ = some (.slice Aq1 U.length cq1) := cell_of_row _ _ 1 _ _ _ Kq_8.out
  go_wp2_with fail
  clear cd_0 cd_1 cp_0 cp_1 cq_0 cq_1 hw8
  refine (sameDisk_self Ap0 Ap1 Aq0 Aq1 V U cp0 cp1 cq0 cq1 _ (OwnR.rd fSt_len Hp0_9.out) (OwnR.rd fPu_len Hp1_9.out) (OwnR.rd fSt_len Hq0_9.out) (OwnR.rd fPu_len Hq1_9.out) (by omega) (by omega)).mono ?_
  rintro e w7 ⟨rfl, hbq⟩
  have Hd0_10 := Lib.hid (Hd0_9.out.below hbq)
  have Hd1_10 := Lib.hid (Hd1_9.out.below hbq)
  have Hp0_10 := Lib.hid (Hp0_9.out.below hbq)
  have Hp1_10 := Lib.hid (Hp1_9.out.below hbq)
  have Hq0_10 := Lib.hid (Hq0_9.out.below hbq)
  have Hq1_10 := Lib.hid (Hq1_9.out.below hbq)
  have Kd_10 := Lib.hid ((hbq.block _ (heap_lt Kd_9.out)).trans Kd_9.out)
  have Kp_10 := Lib.hid ((hbq.block _ (heap_lt Kp_9.out)).trans Kp_9.out)
  have Kq_10 := Lib.hid ((hbq.block _ (heap_lt Kq_8.out)).trans Kq_8.out)
  have HB_10 := Lib.hid (below_more HB_9.out hbq)
  clear Hd0_9 Hd1_9 Hp0_9 Hp1_9 Hq0_9 Hq1_9 Kd_9 Kp_9 Kq_8 HB_9
  clear hbq
  clear Hq0_10 Hq1_10
  clear Kq_10
  clear HSp HPp HP
  cases bb
  · clear Hd0_10 Hd1_10 Hp0_10 Hp1_10
    clear Kd_10
    clear Kp_10
    go_wp2_with fail
    refine (drawRead9 B zb cb _ (byts_on9 HBy.out HB_10.out)).mono ?_
    rintro e w8 ⟨vu0, vu1, su, pu, ku, rfl, hdr, hku0, hku1⟩
    have hlu0 : su.length ≤ 12 := by have := hdr.len; omega
    have hlu1 : pu.length ≤ 41 := hdr.len2
    have HZu : Hid (∀ s ∈ su, s.size ≤ 1048576) := fun s hs => by have := hdr.size s hs; omega
    have HZv : Hid (∀ p ∈ pu, p.2.size ≤ 1048576) := fun p hp => by have := hdr.size2 p hp; omega
    obtain ⟨⟨hou0, hou1, hau⟩, -, -, -, -, hbu⟩ := hdr
    obtain ⟨Au0, cu0, hvu0, hcapu0, _⟩ := OwnR.form fSt_len hou0
    subst hvu0
    obtain ⟨Au1, cu1, hvu1, hcapu1, _⟩ := OwnR.form fPu_len hou1
    subst hvu1
    have HAp_u0_u1 := Lib.hid hau
    have Hu0_11 := Lib.hid (hou0.lower HB_10.out.size)
    have Hu1_11 := Lib.hid (hou1.lower HB_10.out.size)
    have HB_11 := Lib.hid (below_more HB_10.out hbu)
    clear HB_10 hou0 hou1 hau hbu
    obtain ⟨w9, hw12⟩ : ∃ wn, w8.alloc (.cells #[.slice Au0 su.length cu0, .slice Au1 pu.length cu1] 26) = wn := ⟨_, rfl⟩
    have hbx : Below w8.heap.size w8 w9 := by rw [← hw12]; exact gAlloc _ _
    have KX : w9.heap[w8.heap.size]? = some (.cells #[.slice Au0 su.length cu0, .slice Au1 pu.length cu1] 26 (0, 0)) := by rw [← hw12]; exact heap_alloc_new _ _
    have HNX_u_u0 := Lib.hid (fun g hg => Nat.ne_of_lt (Hu0_11.out.lt g hg).2)
    have HNX_u_u1 := Lib.hid (fun g hg => Nat.ne_of_lt (Hu1_11.out.lt g hg).2)
    have Hu0_13 := Lib.hid (Hu0_11.out.below hbx)
    have Hu1_13 := Lib.hid (Hu1_11.out.below hbx)
    have HB_13 := Lib.hid (below_more HB_11.out hbx)
    clear Hu0_11 Hu1_11 HB_11
    have Ku_12 := Lib.hid KX
    clear hbx KX
    have cu_0 : w9.cell? ⟨w8.heap.size, 0, none⟩ = some (.slice Au0 su.length cu0) := cell_of_row _ _ 0 _ _ _ Ku_12.out
    have cu_1 : w9.cell? ⟨w8.heap.size, 1, none⟩ = some (.slice Au1 pu.length cu1) := cell_of_row _ _ 1 _ _ _ Ku_12.out
    go_wp2_with fail
    clear cu_0 cu_1 hw12
    refine (HR.out Au0 Au1 su pu cu0 cu1 ku _ (hK _ _ HW.out HB_13.out) ⟨(OwnR.rd fSt_len Hu0_13.out), (OwnR.rd fPu_len Hu1_13.out), by omega, by omega, HZu.out, HZv.out⟩ (ownR_lies Hu0_13.out) (ownR_lies Hu1_13.out)).mono ?_
    rintro e w10 ⟨rfl, hbq⟩
    have Hu0_14 := Lib.hid (Hu0_13.out.below hbq)
    have Hu1_14 := Lib.hid (Hu1_13.out.below hbq)
    have Ku_14 := Lib.hid ((hbq.block _ (heap_lt Ku_12.out)).trans Ku_12.out)
    have HB_14 := Lib.hid (below_more HB_13.out hbq)
    clear Hu0_13 Hu1_13 Ku_12 HB_13
    clear hbq
    have cu_0 : w10.cell? ⟨w8.heap.size, 0, none⟩ = some (.slice Au0 su.length cu0) := cell_of_row _ _ 0 _ _ _ Ku_14.out
    have cu_1 : w10.cell? ⟨w8.heap.size, 1, none⟩ = some (.slice Au1 pu.length cu1) := cell_of_row _ _ 1 _ _ _ Ku_14.out
    go_wp2_with fail
    clear cu_0 cu_1
    refine (sReadS_any Au0 Au1 su pu cu0 cu1 ku _ ⟨(OwnR.rd fSt_len Hu0_14.out), (OwnR.rd fPu_len Hu1_14.out), by omega, by omega, HZu.out, HZv.out⟩).mono ?_
    rintro e w11 ⟨rfl, hbq⟩
    have Hu0_15 := Lib.hid (Hu0_14.out.below hbq)
    have Hu1_15 := Lib.hid (Hu1_14.out.below hbq)
    have Ku_15 := Lib.hid ((hbq.block _ (heap_lt Ku_14.out)).trans Ku_14.out)
    have HB_15 := Lib.hid (below_more HB_14.out hbq)
    clear Hu0_14 Hu1_14 Ku_14 HB_14
    clear hbq
    go_wp2_with fail
    go_ret
    exact ⟨ret_ok9, HB_15.out⟩
  · obtain ⟨rfl, rfl, hgd, hk0', hk1', hy16⟩ := HOK.out rfl
    have HG := Lib.hid (put_read9 hgd hk0' hk1' hy16)
    clear hgd hy16 HOK
    have cd_0 : w7.cell? ⟨w1.heap.size, 0, none⟩ = some (.slice Ad0 ss.length cd0) := cell_of_row _ _ 0 _ _ _ Kd_10.out
    have cd_1 : w7.cell? ⟨w1.heap.size, 1, none⟩ = some (.slice Ad1 ps.length cd1) := cell_of_row _ _ 1 _ _ _ Kd_10.out
    have cp_0 : w7.cell? ⟨w3.heap.size, 0, none⟩ = some (.slice Ap0 ss.length cp0) := cell_of_row _ _ 0 _ _ _ Kp_10.out
    have cp_1 : w7.cell? ⟨w3.heap.size, 1, none⟩ = some (.slice Ap1 (ps ++ [(k, y)]).length cp1) := cell_of_row _ _ 1 _ _ _ Kp_10.out
    go_wp2_with fail
    clear cd_0 cd_1 cp_0 cp_1
    go_loopg [12] 12 (fun gk i wr => ∃ j : Nat, j + gk = 12 ∧ i = .int .i64 j ∧ Below w7.heap.size w7 wr)
    case atStart => exact ⟨0, by omega, rfl, Below.refl _ _⟩
    case round =>
      obtain ⟨j, hg, rfl, hbel⟩ := hrel
      have HLp := Lib.hid hbel
      have Hd0_11 := Lib.hid (Hd0_10.out.below hbel)
      have Hd1_11 := Lib.hid (Hd1_10.out.below hbel)
      have Hp0_11 := Lib.hid (Hp0_10.out.below hbel)
      have Hp1_11 := Lib.hid (Hp1_10.out.below hbel)
      have Kd_11 := Lib.hid ((hbel.block _ (heap_lt Kd_10.out)).trans Kd_10.out)
      have Kp_11 := Lib.hid ((hbel.block _ (heap_lt Kp_10.out)).trans Kp_10.out)
      have HB_11 := Lib.hid (below_more HB_10.out hbel)
      clear Hd0_10 Hd1_10 Hp0_10 Hp1_10 Kd_10 Kp_10 HB_10
      clear hbel
      by_cases hlt : j < 12
      · have hji : (j : Int) < 12 := by omega
        obtain ⟨hg1, hg2, hg3, hg4⟩ := HG.out j hlt
        have HG3 := Lib.hid hg3
        have HG4 := Lib.hid hg4
        clear hg3 hg4
        have HR1 := Lib.hid (fun A B ca cb w hk hd hA hB => HR.out A B ss ps ca cb (j : Int) w hk hd hA hB)
        have HR2 := Lib.hid (fun A B ca cb w hk hd hA hB => HR.out A B ss (ps ++ [(k, y)]) ca cb (j : Int) w hk hd hA hB)
        rw [hg1] at HR1
        rw [hg2] at HR2
        have HZq : Hid (∀ p ∈ ps ++ [(k, y)], p.2.size ≤ 1048576) := put_size9 HZp.out (by omega)
        generalize hUU : ps ++ [(k, y)] = UU at *
        have HUU := Lib.hid hUU
        clear hUU
        generalize rsI ss ps (j : Int) = r1 at *
        generalize rsI ss UU (j : Int) = r2 at *
        clear hg1 hg2
        have cd_0 : wr.cell? ⟨w1.heap.size, 0, none⟩ = some (.slice Ad0 ss.length cd0) := cell_of_row _ _ 0 _ _ _ Kd_11.out
        have cd_1 : wr.cell? ⟨w1.heap.size, 1, none⟩ = some (.slice Ad1 ps.length cd1) := cell_of_row _ _ 1 _ _ _ Kd_11.out
        have cp_0 : wr.cell? ⟨w3.heap.size, 0, none⟩ = some (.slice Ap0 ss.length cp0) := cell_of_row _ _ 0 _ _ _ Kp_11.out
        have cp_1 : wr.cell? ⟨w3.heap.size, 1, none⟩ = some (.slice Ap1 UU.length cp1) := cell_of_row _ _ 1 _ _ _ Kp_11.out
        go_wp2_with fail
        clear cd_0 cd_1 cp_0 cp_1
        refine (HR1.out Ad0 Ad1 cd0 cd1 _ (hK _ _ HW.out HB_11.out) ⟨(OwnR.rd fSt_len Hd0_11.out), (OwnR.rd fPu_len Hd1_11.out), by omega, by omega, HZs.out, HZp.out⟩ (ownR_lies Hd0_11.out) (ownR_lies Hd1_11.out)).mono ?_
        rintro e w8 ⟨rfl, hbq⟩
        have Hd0_12 := Lib.hid (Hd0_11.out.below hbq)
        have Hd1_12 := Lib.hid (Hd1_11.out.below hbq)
        have Hp0_12 := Lib.hid (Hp0_11.out.below hbq)
        have Hp1_12 := Lib.hid (Hp1_11.out.below hbq)
        have Kd_12 := Lib.hid ((hbq.block _ (heap_lt Kd_11.out)).trans Kd_11.out)
        have Kp_12 := Lib.hid ((hbq.block _ (heap_lt Kp_11.out)).trans Kp_11.out)
        have HL_12 := Lib.hid (below_more HLp.out hbq)
        have HB_12 := Lib.hid (below_more HB_11.out hbq)
        clear Hd0_11 Hd1_11 Hp0_11 Hp1_11 Kd_11 Kp_11 HLp HB_11
        clear hbq
        have cd_0 : w8.cell? ⟨w1.heap.size, 0, none⟩ = some (.slice Ad0 ss.length cd0) := cell_of_row _ _ 0 _ _ _ Kd_12.out
        have cd_1 : w8.cell? ⟨w1.heap.size, 1, none⟩ = some (.slice Ad1 ps.length cd1) := cell_of_row _ _ 1 _ _ _ Kd_12.out
        have cp_0 : w8.cell? ⟨w3.heap.size, 0, none⟩ = some (.slice Ap0 ss.length cp0) := cell_of_row _ _ 0 _ _ _ Kp_12.out
        have cp_1 : w8.cell? ⟨w3.heap.size, 1, none⟩ = some (.slice Ap1 UU.length cp1) := cell_of_row _ _ 1 _ _ _ Kp_12.out
        go_wp2_with fail
        clear cd_0 cd_1 cp_0 cp_1
        refine (HR2.out Ap0 Ap1 cp0 cp1 _ (hK _ _ HW.out HB_12.out) ⟨(OwnR.rd fSt_len Hp0_12.out), (OwnR.rd fPu_len Hp1_12.out), by omega, by omega, HZs.out, HZq.out⟩ (ownR_lies Hp0_12.out) (ownR_lies Hp1_12.out)).mono ?_
        rintro e w9 ⟨rfl, hbq⟩
        have Hd0_13 := Lib.hid (Hd0_12.out.below hbq)
        have Hd1_13 := Lib.hid (Hd1_12.out.below hbq)
        have Hp0_13 := Lib.hid (Hp0_12.out.below hbq)
        have Hp1_13 := Lib.hid (Hp1_12.out.below hbq)
        have Kd_13 := Lib.hid ((hbq.block _ (heap_lt Kd_12.out)).trans Kd_12.out)
        have Kp_13 := Lib.hid ((hbq.block _ (heap_lt Kp_12.out)).trans Kp_12.out)
        have HL_13 := Lib.hid (below_more HL_12.out hbq)
        have HB_13 := Lib.hid (below_more HB_12.out hbq)
        clear Hd0_12 Hd1_12 Hp0_12 Hp1_12 Kd_12 Kp_12 HL_12 HB_12
        clear hbq
        have HGm : Hid (12 - j - 1 < gk ∧ j + 1 + (12 - j - 1) = 12) := by show _ ∧ _; omega
        have HBel := HL_13
        by_cases hjk : (j : Int) = k
        · obtain rfl := HG3.out hjk
          have hjb : ((j : Int) == k) = true := by simp [hjk]
          have hjn : ((j : Int) != k) = false := by simp [hjk]
          clear hjk
          go_wp2_with fail
          go_roundg (12 - j - 1)
          case measure => exact HGm.out.1
          case rel => exact ⟨j + 1, HGm.out.2, by go_num, HBel.out⟩
        · obtain rfl := HG4.out hjk
          have hjb : ((j : Int) == k) = false := by simp [hjk]
          have hjn : ((j : Int) != k) = true := by simp [hjk]
          clear hjk
          go_wp2_with fail
          go_roundg (12 - j - 1)
          case measure => exact HGm.out.1
          case rel => exact ⟨j + 1, HGm.out.2, by go_num, HBel.out⟩
      · obtain rfl : j = 12 := by omega
        have hji : ¬ ((12 : Nat) : Int) < 12 := by omega
        clear Hd0_11 Hd1_11 Hp0_11 Hp1_11
        clear Kd_11
        clear Kp_11
        go_wp2_with fail
        refine (drawRead9 B zb cb _ (byts_on9 HBy.out HB_11.out)).mono ?_
        rintro e w8 ⟨vu0, vu1, su, pu, ku, rfl, hdr, hku0, hku1⟩
        have hlu0 : su.length ≤ 12 := by have := hdr.len; omega
        have hlu1 : pu.length ≤ 41 := hdr.len2
        have HZu : Hid (∀ s ∈ su, s.size ≤ 1048576) := fun s hs => by have := hdr.size s hs; omega
        have HZv : Hid (∀ p ∈ pu, p.2.size ≤ 1048576) := fun p hp => by have := hdr.size2 p hp; omega
        obtain ⟨⟨hou0, hou1, hau⟩, -, -, -, -, hbu⟩ := hdr
        obtain ⟨Au0, cu0, hvu0, hcapu0, _⟩ := OwnR.form fSt_len hou0
        subst hvu0
        obtain ⟨Au1, cu1, hvu1, hcapu1, _⟩ := OwnR.form fPu_len hou1
        subst hvu1
        have HAp_u0_u1 := Lib.hid hau
        have Hu0_12 := Lib.hid (hou0.lower HB_11.out.size)
        have Hu1_12 := Lib.hid (hou1.lower HB_11.out.size)
        have HB_12 := Lib.hid (below_more HB_11.out hbu)
        clear HB_11 hou0 hou1 hau hbu
        obtain ⟨w9, hw13⟩ : ∃ wn, w8.alloc (.cells #[.slice Au0 su.length cu0, .slice Au1 pu.length cu1] 26) = wn := ⟨_, rfl⟩
        have hbx : Below w8.heap.size w8 w9 := by rw [← hw13]; exact gAlloc _ _
        have KX : w9.heap[w8.heap.size]? = some (.cells #[.slice Au0 su.length cu0, .slice Au1 pu.length cu1] 26 (0, 0)) := by rw [← hw13]; exact heap_alloc_new _ _
        have HNX_u_u0 := Lib.hid (fun g hg => Nat.ne_of_lt (Hu0_12.out.lt g hg).2)
        have HNX_u_u1 := Lib.hid (fun g hg => Nat.ne_of_lt (Hu1_12.out.lt g hg).2)
        have Hu0_14 := Lib.hid (Hu0_12.out.below hbx)
        have Hu1_14 := Lib.hid (Hu1_12.out.below hbx)
        have HB_14 := Lib.hid (below_more HB_12.out hbx)
        clear Hu0_12 Hu1_12 HB_12
        have Ku_13 := Lib.hid KX
        clear hbx KX
        have cu_0 : w9.cell? ⟨w8.heap.size, 0, none⟩ = some (.slice Au0 su.length cu0) := cell_of_row _ _ 0 _ _ _ Ku_13.out
        have cu_1 : w9.cell? ⟨w8.heap.size, 1, none⟩ = some (.slice Au1 pu.length cu1) := cell_of_row _ _ 1 _ _ _ Ku_13.out
        go_wp2_with fail
        clear cu_0 cu_1 hw13
        refine (HR.out Au0 Au1 su pu cu0 cu1 ku _ (hK _ _ HW.out HB_14.out) ⟨(OwnR.rd fSt_len Hu0_14.out), (OwnR.rd fPu_len Hu1_14.out), by omega, by omega, HZu.out, HZv.out⟩ (ownR_lies Hu0_14.out) (ownR_lies Hu1_14.out)).mono ?_
        rintro e w10 ⟨rfl, hbq⟩
        have Hu0_15 := Lib.hid (Hu0_14.out.below hbq)
        have Hu1_15 := Lib.hid (Hu1_14.out.below hbq)
        have Ku_15 := Lib.hid ((hbq.block _ (heap_lt Ku_13.out)).trans Ku_13.out)
        have HB_15 := Lib.hid (below_more HB_14.out hbq)
        clear Hu0_14 Hu1_14 Ku_13 HB_14
        clear hbq
        have cu_0 : w10.cell? ⟨w8.heap.size, 0, none⟩ = some (.slice Au0 su.length cu0) := cell_of_row _ _ 0 _ _ _ Ku_15.out
        have cu_1 : w10.cell? ⟨w8.heap.size, 1, none⟩ = some (.slice Au1 pu.length cu1) := cell_of_row _ _ 1 _ _ _ Ku_15.out
        go_wp2_with fail
        clear cu_0 cu_1
        refine (sReadS_any Au0 Au1 su pu cu0 cu1 ku _ ⟨(OwnR.rd fSt_len Hu0_15.out), (OwnR.rd fPu_len Hu1_15.out), by omega, by omega, HZu.out, HZv.out⟩).mono ?_
        rintro e w11 ⟨rfl, hbq⟩
        have Hu0_16 := Lib.hid (Hu0_15.out.below hbq)
        have Hu1_16 := Lib.hid (Hu1_15.out.below hbq)
        have Ku_16 := Lib.hid ((hbq.block _ (heap_lt Ku_15.out)).trans Ku_15.out)
        have HB_16 := Lib.hid (below_more HB_15.out hbq)
        clear Hu0_15 Hu1_15 Ku_15 HB_15
        clear hbq
        go_wp2_with fail
        go_ret
        exact ⟨ret_ok9, HB_16.out⟩

set_option maxRecDepth 100000 in
set_option maxHeartbeats 1000000 in
theorem fnPut_law {K : World → Prop} (hK : Stays5 K)
    (hP : ∀ (A B : Option Addr) (ss : List ByteArray) (ps : List (Int × ByteArray)) (ca cb : Nat) (k : Int) (y : ByteArray) (w : World), K w → DiskIn w A B ss ps → Lies9 A ca → Lies9 B cb → y.size ≤ 1048576 → Calls Try.prog 27 #[diskV (.slice A ss.length ca) (.slice B ps.length cb), .int .i64 k, .string y] w fun e w' => ∃ v1 v2, e = .returned (.tuple #[diskV v1 v2, .bool (puOkB ss ps k y)]) ∧ OwnD w' w.heap.size v1 v2 (puS ss ps k y) (puP ss ps k y) ∧ Below w.heap.size w w')
    (hR : ∀ (A B : Option Addr) (ss : List ByteArray) (ps : List (Int × ByteArray)) (ca cb : Nat) (k : Int) (w : World), K w → DiskIn w A B ss ps → Lies9 A ca → Lies9 B cb → Calls Try.prog 29 #[diskV (.slice A ss.length ca) (.slice B ps.length cb), .int .i64 k] w fun e w' => e = .returned (.tuple #[.string (rsI ss ps k), .bool (rsOkB ss ps k)]) ∧ Below w.heap.size w w')
    (A : Option Addr) (za : List Int) (ca : Nat) (B : Option Addr) (zb : List Int) (cb : Nat) (w : World) (hw : K w) (ha : Byts w w.heap.size A za) (hb : Byts w w.heap.size B zb) (hla : za.length ≤ 140737488355328) (hlb : zb.length ≤ 140737488355328) :
    Calls Try.prog 4 #[.slice A za.length ca, .slice B zb.length cb] w fun e w' => e = .returned (.bool true) ∧ Below w.heap.size w w' := by
  by_cases hl : za.length + zb.length ≤ 1048576
  · exact fnPut_small hK hP hR A za ca B zb cb w hw ha hb hl
  · have hli : (1048576 : Int) < (za.length : Int) + (zb.length : Int) := by omega
    clear hP hR ha hb
    go_enter Try.func4, Try.ntmps4
    go_wp2_with fail
    go_ret
    exact ⟨rfl, Below.refl _ _⟩
end Go.Proofs.Ytkmlgeicmnbkiaa
