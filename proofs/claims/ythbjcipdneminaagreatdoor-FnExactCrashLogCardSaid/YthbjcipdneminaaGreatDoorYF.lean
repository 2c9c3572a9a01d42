/-
  Exact laws of chapter 10, walked, whatever the program's own texts are: ReadLog, NextNo, CrashLog, Append.
-/
import Derived.Test.YthbjcipdneminaaGreatDoorGQ
import Derived.Test.YthbjcipdneminaaGreatDoorVO
namespace Go.Proofs.YthbjcipdneminaaGreatDoor
open Go.RowKit

theorem ap_len (ss : List ByteArray) (ps : List (Int × ByteArray)) (r : Rec) : (apS ss ps r).length ≤ 12 ∧ (apP ss ps r).length ≤ 41 := by
  unfold apS apP; split
  · exact pu_len ss ps _ _
  · simp
set_option maxRecDepth 100000 in
set_option maxHeartbeats 8000000 in
theorem crashLog_law {K : World → Prop} (hK : Stays5 K) (hI : ∀ (A B : Option Addr) (ss : List ByteArray) (ps : List (Int × ByteArray)) (ca cb : Nat) (C : Option Addr) (ks : List Int) (cc : Nat) (torn : Int) (bb : Int) (w : World), K w → DiskIn w A B ss ps → Lies9 A ca → Lies9 B cb → Ints w C ks → Lies9 C cc → ks.length ≤ 1048576 → Calls Tryz.prog 6 #[diskV (.slice A ss.length ca) (.slice B ps.length cb), .slice C ks.length cc, .int .i64 torn, .int .i64 bb] w fun e w' => ∃ v1, e = .returned (.tuple #[v1, .bool (crOkB ss ps ks torn bb)]) ∧ OwnRe w' w.heap.size v1 (clI ss ps ks torn bb) ∧ Below w.heap.size w w')
    (A B : Option Addr) (ss : List ByteArray) (ps : List (Int × ByteArray)) (ca cb : Nat) (C : Option Addr) (ks : List Int) (cc : Nat) (torn : Int) (bb : Int) (w : World) (hw : K w) (hA : Strs w A ss) (hB : Puts w B ps) (hl : ss.length ≤ 9223372036854775807) (hz : ∀ s ∈ ss, s.size ≤ 9223372036854775807) (hl2 : ps.length ≤ 9223372036854775807) (hz2 : ∀ p ∈ ps, p.2.size ≤ 9223372036854775807) (hC : Ints w C ks) : Calls Tryz.prog 4 #[diskV (.slice A ss.length ca) (.slice B ps.length cb), .slice C ks.length cc, .int .i64 torn, .int .i64 bb] w fun e w' => e = .returned (.bool true) ∧ Below w.heap.size w w' := by
  by_cases hlb0 : ks.length ≤ 1048576
  case neg =>
    have hli : (1048576 : Int) < (ks.length : Int) := by omega
    clear hI
    go_enter Tryz.func4, Tryz.ntmps4
    go_wp2_with fail
    go_ret
    exact ⟨rfl, by first | exact Below.refl _ _ | exact gAlloc _ _⟩
  have hli0 : ¬ (1048576 : Int) < (ks.length : Int) := by omega
  have HRA := Lib.hid hA
  have HRB := Lib.hid hB
  have HZ := Lib.hid hz
  have HZ2 := Lib.hid hz2
  have HRC := Lib.hid hC
  have hqC : eqL ks ks = true := by simp [eqL]
  have HI := Lib.hid (fun A B C ca cb cc w hk hd hA hB hC hCl => hI A B ss ps ca cb C ks cc torn bb w hk hd hA hB hC hCl hlb0)
  have HW := Lib.hid hw
  have HS0 := Lib.hid (fun A B C ca cb cc w hd hA hC => sCrashLog_any A B C ss ps ks ca cb cc torn bb w hd hA hC hlb0)
  clear hI hw hA hB hz hz2 hC
  have hV := cl_len ss ps ks torn bb
  generalize clI ss ps ks torn bb = V at *
  generalize crOkB ss ps ks torn bb = ok at *
  obtain ⟨w1, hw1⟩ : ∃ wn, w.alloc (.cells #[.slice A ss.length ca, .slice B ps.length cb] 48) = wn := ⟨_, rfl⟩
  have hbx : Below w.heap.size w w1 := by rw [← hw1]; exact gAlloc _ _
  have KX : w1.heap[w.heap.size]? = some (.cells #[.slice A ss.length ca, .slice B ps.length cb] 48 (0, 0)) := by rw [← hw1]; exact heap_alloc_new _ _
  have HB_2 := Lib.hid (hbx)
  have KaD_1 := Lib.hid KX
  clear hbx KX
  go_enter Tryz.func4, Tryz.ntmps4
  have caD_0 : w1.cell? ⟨w.heap.size, 0, none⟩ = some (.slice A ss.length ca) := cell_of_row _ _ 0 _ _ _ KaD_1.out
  have caD_1 : w1.cell? ⟨w.heap.size, 1, none⟩ = some (.slice B ps.length cb) := cell_of_row _ _ 1 _ _ _ KaD_1.out
  go_wp2_with fail
  clear caD_0 caD_1 hw1
  refine (szDisk_any A B ss ps ca cb 1048576 _ (HRA.out.below HB_2.out) (HRB.out.below HB_2.out) hl HZ.out hl2 HZ2.out (by omega) (by omega)).mono ?_
  rintro e w2 ⟨rz, rfl, hrz, hbq⟩
  have KaD_3 := Lib.hid ((hbq.block _ (heap_lt KaD_1.out)).trans KaD_1.out)
  have HB_3 := Lib.hid (below_more HB_2.out hbq)
  clear KaD_1 HB_2
  clear hbq
  rcases hrz with hrz | ⟨hrz0, hrz1, hrz2, hrz3⟩
  · go_wp2_with fail
    go_ret
    exact ⟨rfl, HB_3.out⟩
  have HZs := Lib.hid hrz2
  have HZp := Lib.hid hrz3
  have hls : ss.length ≤ 1048576 := by omega
  have hlp : ps.length ≤ 1048576 := by omega
  have hlt : ss.length + ps.length ≤ 1048576 := by omega
  have hrzn : ¬ rz < 0 := by omega
  clear hrz2 hrz3 HZ HZ2 hl hl2 hrz1
  have caD_0 : w2.cell? ⟨w.heap.size, 0, none⟩ = some (.slice A ss.length ca) := cell_of_row _ _ 0 _ _ _ KaD_3.out
  have caD_1 : w2.cell? ⟨w.heap.size, 1, none⟩ = some (.slice B ps.length cb) := cell_of_row _ _ 1 _ _ _ KaD_3.out
  go_wp2_with fail
  clear caD_0 caD_1
  refine (toDisk_any A B ss ps ca cb _ (HRA.out.below HB_3.out) (HRB.out.below HB_3.out) (by omega) (by omega)).mono ?_
  rintro e w3 ⟨vt10, vt11, rfl, hot10, hot11, hat1, hbt1⟩
  obtain ⟨At10, ct10, hvt10, hcapt10, _⟩ := OwnR.form fSt_len hot10
  subst hvt10
  obtain ⟨At11, ct11, hvt11, hcapt11, _⟩ := OwnR.form fPu_len hot11
  subst hvt11
  have HNX_aD_t10 := Lib.hid (fun g hg => Nat.ne_of_gt (Nat.lt_of_lt_of_le (heap_lt KaD_3.out) (hot10.lt g hg).1))
  have HNX_aD_t11 := Lib.hid (fun g hg => Nat.ne_of_gt (Nat.lt_of_lt_of_le (heap_lt KaD_3.out) (hot11.lt g hg).1))
  have HAp_t10_t11 := Lib.hid hat1
  have Ht10_4 := Lib.hid (hot10.lower HB_3.out.size)
  have Ht11_4 := Lib.hid (hot11.lower HB_3.out.size)
  have KaD_4 := Lib.hid ((hbt1.block _ (heap_lt KaD_3.out)).trans KaD_3.out)
  have HB_4 := Lib.hid (below_more HB_3.out hbt1)
  clear KaD_3 HB_3 hot10 hot11 hat1 hbt1
  have caD_0 : w3.cell? ⟨w.heap.size, 0, none⟩ = some (.slice A ss.length ca) := cell_of_row _ _ 0 _ _ _ KaD_4.out
  have caD_1 : w3.cell? ⟨w.heap.size, 1, none⟩ = some (.slice B ps.length cb) := cell_of_row _ _ 1 _ _ _ KaD_4.out
  go_wp2_with fail
  clear caD_0 caD_1
  refine (toInts_any C ks cc _ (HRC.out.below HB_4.out) (by omega)).mono ?_
  rintro e w4 ⟨vt20, rfl, hot20, hbt2⟩
  obtain ⟨At20, ct20, hvt20, hcapt20, _⟩ := gFormC hot20
  subst hvt20
  have HAp_t10_t20 := Lib.hid (apart5 (fun k hk => (Ht10_4.out.lt k hk).2) (fun k hk => (hot20.lt k hk).1))
  have HAp_t11_t20 := Lib.hid (apart5 (fun k hk => (Ht11_4.out.lt k hk).2) (fun k hk => (hot20.lt k hk).1))
  have HNX_aD_t20 := Lib.hid (fun g hg => Nat.ne_of_gt (Nat.lt_of_lt_of_le (heap_lt KaD_4.out) (hot20.lt g hg).1))
  have Ht10_5 := Lib.hid (Ht10_4.out.below hbt2)
  have Ht11_5 := Lib.hid (Ht11_4.out.below hbt2)
  have Ht20_5 := Lib.hid (hot20.lower HB_4.out.size)
  have KaD_5 := Lib.hid ((hbt2.block _ (heap_lt KaD_4.out)).trans KaD_4.out)
  have HB_5 := Lib.hid (below_more HB_4.out hbt2)
  clear Ht10_4 Ht11_4 KaD_4 HB_4 hot20 hbt2
  have caD_0 : w4.cell? ⟨w.heap.size, 0, none⟩ = some (.slice A ss.length ca) := cell_of_row _ _ 0 _ _ _ KaD_5.out
  have caD_1 : w4.cell? ⟨w.heap.size, 1, none⟩ = some (.slice B ps.length cb) := cell_of_row _ _ 1 _ _ _ KaD_5.out
  go_wp2_with fail
  clear caD_0 caD_1
  refine (HS0.out At10 At11 At20 ct10 ct11 ct20 _ ⟨(OwnR.rd fSt_len Ht10_5.out), (OwnR.rd fPu_len Ht11_5.out), by omega, by omega, HZs.out, HZp.out⟩ (ownR_lies Ht10_5.out) (own_ints5 Ht20_5.out)).mono ?_
  rintro e w5 ⟨vr30, rfl, hor30, hbr3⟩
  obtain ⟨Ar30, cr30, hvr30, hcapr30, _⟩ := OwnR.form fRe_len hor30
  subst hvr30
  have HAp_t10_r30 := Lib.hid (apart5 (fun k hk => (Ht10_5.out.lt k hk).2) (fun k hk => (hor30.lt k hk).1))
  have HAp_t11_r30 := Lib.hid (apart5 (fun k hk => (Ht11_5.out.lt k hk).2) (fun k hk => (hor30.lt k hk).1))
  have HAp_t20_r30 := Lib.hid (apart5 (fun k hk => (Ht20_5.out.lt k hk).2) (fun k hk => (hor30.lt k hk).1))
  have HNX_aD_r30 := Lib.hid (fun g hg => Nat.ne_of_gt (Nat.lt_of_lt_of_le (heap_lt KaD_5.out) (hor30.lt g hg).1))
  have Ht10_6 := Lib.hid (Ht10_5.out.below hbr3)
  have Ht11_6 := Lib.hid (Ht11_5.out.below hbr3)
  have Ht20_6 := Lib.hid (Ht20_5.out.below hbr3)
  have Hr30_6 := Lib.hid (hor30.lower HB_5.out.size)
  have KaD_6 := Lib.hid ((hbr3.block _ (heap_lt KaD_5.out)).trans KaD_5.out)
  have HB_6 := Lib.hid (below_more HB_5.out hbr3)
  clear Ht10_5 Ht11_5 Ht20_5 KaD_5 HB_5 hor30 hbr3
  clear Ht10_6 Ht11_6 Ht20_6
  have caD_0 : w5.cell? ⟨w.heap.size, 0, none⟩ = some (.slice A ss.length ca) := cell_of_row _ _ 0 _ _ _ KaD_6.out
  have caD_1 : w5.cell? ⟨w.heap.size, 1, none⟩ = some (.slice B ps.length cb) := cell_of_row _ _ 1 _ _ _ KaD_6.out
  go_wp2_with fail
  clear caD_0 caD_1
  refine (toDisk_any A B ss ps ca cb _ (HRA.out.below HB_6.out) (HRB.out.below HB_6.out) (by omega) (by omega)).mono ?_
  rintro e w6 ⟨vx00, vx01, rfl, hox00, hox01, hax0, hbx0⟩
  obtain ⟨Ax00, cx00, hvx00, hcapx00, _⟩ := OwnR.form fSt_len hox00
  subst hvx00
  obtain ⟨Ax01, cx01, hvx01, hcapx01, _⟩ := OwnR.form fPu_len hox01
  subst hvx01
  have HAp_r30_x00 := Lib.hid (apart5 (fun k hk => (Hr30_6.out.lt k hk).2) (fun k hk => (hox00.lt k hk).1))
  have HAp_r30_x01 := Lib.hid (apart5 (fun k hk => (Hr30_6.out.lt k hk).2) (fun k hk => (hox01.lt k hk).1))
  have HNX_aD_x00 := Lib.hid (fun g hg => Nat.ne_of_gt (Nat.lt_of_lt_of_le (heap_lt KaD_6.out) (hox00.lt g hg).1))
  have HNX_aD_x01 := Lib.hid (fun g hg => Nat.ne_of_gt (Nat.lt_of_lt_of_le (heap_lt KaD_6.out) (hox01.lt g hg).1))
  have HAp_x00_x01 := Lib.hid hax0
  have Hr30_7 := Lib.hid (Hr30_6.out.below hbx0)
  have Hx00_7 := Lib.hid (hox00.lower HB_6.out.size)
  have Hx01_7 := Lib.hid (hox01.lower HB_6.out.size)
  have KaD_7 := Lib.hid ((hbx0.block _ (heap_lt KaD_6.out)).trans KaD_6.out)
  have HB_7 := Lib.hid (below_more HB_6.out hbx0)
  clear Hr30_6 KaD_6 HB_6 hox00 hox01 hax0 hbx0
  obtain ⟨w7, hw8⟩ : ∃ wn, w6.alloc (.cells #[.slice Ax00 ss.length cx00, .slice Ax01 ps.length cx01] 26) = wn := ⟨_, rfl⟩
  have hbx : Below w6.heap.size w6 w7 := by rw [← hw8]; exact gAlloc _ _
  have KX : w7.heap[w6.heap.size]? = some (.cells #[.slice Ax00 ss.length cx00, .slice Ax01 ps.length cx01] 26 (0, 0)) := by rw [← hw8]; exact heap_alloc_new _ _
  have HNX_x0_r30 := Lib.hid (fun g hg => Nat.ne_of_lt (Hr30_7.out.lt g hg).2)
  have HNX_x0_x00 := Lib.hid (fun g hg => Nat.ne_of_lt (Hx00_7.out.lt g hg).2)
  have HNX_x0_x01 := Lib.hid (fun g hg => Nat.ne_of_lt (Hx01_7.out.lt g hg).2)
  have Hr30_9 := Lib.hid (Hr30_7.out.below hbx)
  have Hx00_9 := Lib.hid (Hx00_7.out.below hbx)
  have Hx01_9 := Lib.hid (Hx01_7.out.below hbx)
  have KaD_9 := Lib.hid ((hbx.block _ (heap_lt KaD_7.out)).trans KaD_7.out)
  have HB_9 := Lib.hid (below_more HB_7.out hbx)
  clear Hr30_7 Hx00_7 Hx01_7 KaD_7 HB_7
  have Kx0_8 := Lib.hid KX
  clear hbx KX
  have caD_0 : w7.cell? ⟨w.heap.size, 0, none⟩ = some (.slice A ss.length ca) := cell_of_row _ _ 0 _ _ _ KaD_9.out
  have caD_1 : w7.cell? ⟨w.heap.size, 1, none⟩ = some (.slice B ps.length cb) := cell_of_row _ _ 1 _ _ _ KaD_9.out
  have cx0_0 : w7.cell? ⟨w6.heap.size, 0, none⟩ = some (.slice Ax00 ss.length cx00) := cell_of_row _ _ 0 _ _ _ Kx0_8.out
  have cx0_1 : w7.cell? ⟨w6.heap.size, 1, none⟩ = some (.slice Ax01 ps.length cx01) := cell_of_row _ _ 1 _ _ _ Kx0_8.out
  go_wp2_with fail
  clear caD_0 caD_1 cx0_0 cx0_1 hw8
  refine (toInts_any C ks cc _ (HRC.out.below HB_9.out) (by omega)).mono ?_
  rintro e w8 ⟨vx10, rfl, hox10, hbx1⟩
  obtain ⟨Ax10, cx10, hvx10, hcapx10, _⟩ := gFormC hox10
  subst hvx10
  have HAp_r30_x10 := Lib.hid (apart5 (fun k hk => (Hr30_9.out.lt k hk).2) (fun k hk => (hox10.lt k hk).1))
  have HAp_x00_x10 := Lib.hid (apart5 (fun k hk => (Hx00_9.out.lt k hk).2) (fun k hk => (hox10.lt k hk).1))
  have HAp_x01_x10 := Lib.hid (apart5 (fun k hk => (Hx01_9.out.lt k hk).2) (fun k hk => (hox10.lt k hk).1))
  have HNX_aD_x10 := Lib.hid (fun g hg => Nat.ne_of_gt (Nat.lt_of_lt_of_le (heap_lt KaD_9.out) (hox10.lt g hg).1))
  have HNX_x0_x10 := Lib.hid (fun g hg => Nat.ne_of_gt (Nat.lt_of_lt_of_le (heap_lt Kx0_8.out) (hox10.lt g hg).1))
  have Hr30_10 := Lib.hid (Hr30_9.out.below hbx1)
  have Hx00_10 := Lib.hid (Hx00_9.out.below hbx1)
  have Hx01_10 := Lib.hid (Hx01_9.out.below hbx1)
  have Hx10_10 := Lib.hid (hox10.lower HB_9.out.size)
  have KaD_10 := Lib.hid ((hbx1.block _ (heap_lt KaD_9.out)).trans KaD_9.out)
  have Kx0_10 := Lib.hid ((hbx1.block _ (heap_lt Kx0_8.out)).trans Kx0_8.out)
  have HB_10 := Lib.hid (below_more HB_9.out hbx1)
  clear Hr30_9 Hx00_9 Hx01_9 KaD_9 Kx0_8 HB_9 hox10 hbx1
  have caD_0 : w8.cell? ⟨w.heap.size, 0, none⟩ = some (.slice A ss.length ca) := cell_of_row _ _ 0 _ _ _ KaD_10.out
  have caD_1 : w8.cell? ⟨w.heap.size, 1, none⟩ = some (.slice B ps.length cb) := cell_of_row _ _ 1 _ _ _ KaD_10.out
  have cx0_0 : w8.cell? ⟨w6.heap.size, 0, none⟩ = some (.slice Ax00 ss.length cx00) := cell_of_row _ _ 0 _ _ _ Kx0_10.out
  have cx0_1 : w8.cell? ⟨w6.heap.size, 1, none⟩ = some (.slice Ax01 ps.length cx01) := cell_of_row _ _ 1 _ _ _ Kx0_10.out
  go_wp2_with fail
  clear caD_0 caD_1 cx0_0 cx0_1
  refine (HI.out Ax00 Ax01 Ax10 cx00 cx01 cx10 _ (hK _ _ HW.out HB_10.out) ⟨(OwnR.rd fSt_len Hx00_10.out), (OwnR.rd fPu_len Hx01_10.out), by omega, by omega, HZs.out, HZp.out⟩ (ownR_lies Hx00_10.out) (ownR_lies Hx01_10.out) (own_ints5 Hx10_10.out) (own9_lies Hx10_10.out)).mono ?_
  rintro e w9 ⟨vr40, rfl, hor40, hbr4⟩
  obtain ⟨Ar40, cr40, hvr40, hcapr40, _⟩ := OwnR.form fRe_len hor40
  subst hvr40
  have HAp_r30_r40 := Lib.hid (apart5 (fun k hk => (Hr30_10.out.lt k hk).2) (fun k hk => (hor40.lt k hk).1))
  have HAp_x00_r40 := Lib.hid (apart5 (fun k hk => (Hx00_10.out.lt k hk).2) (fun k hk => (hor40.lt k hk).1))
  have HAp_x01_r40 := Lib.hid (apart5 (fun k hk => (Hx01_10.out.lt k hk).2) (fun k hk => (hor40.lt k hk).1))
  have HAp_x10_r40 := Lib.hid (apart5 (fun k hk => (Hx10_10.out.lt k hk).2) (fun k hk => (hor40.lt k hk).1))
  have HNX_aD_r40 := Lib.hid (fun g hg => Nat.ne_of_gt (Nat.lt_of_lt_of_le (heap_lt KaD_10.out) (hor40.lt g hg).1))
  have HNX_x0_r40 := Lib.hid (fun g hg => Nat.ne_of_gt (Nat.lt_of_lt_of_le (heap_lt Kx0_10.out) (hor40.lt g hg).1))
  have Hr30_11 := Lib.hid (Hr30_10.out.below hbr4)
  have Hx00_11 := Lib.hid (Hx00_10.out.below hbr4)
  have Hx01_11 := Lib.hid (Hx01_10.out.below hbr4)
  have Hx10_11 := Lib.hid (Hx10_10.out.below hbr4)
  have Hr40_11 := Lib.hid (hor40.lower HB_10.out.size)
  have KaD_11 := Lib.hid ((hbr4.block _ (heap_lt KaD_10.out)).trans KaD_10.out)
  have Kx0_11 := Lib.hid ((hbr4.block _ (heap_lt Kx0_10.out)).trans Kx0_10.out)
  have HB_11 := Lib.hid (below_more HB_10.out hbr4)
  clear Hr30_10 Hx00_10 Hx01_10 Hx10_10 KaD_10 Kx0_10 HB_10 hor40 hbr4
  have caD_0 : w9.cell? ⟨w.heap.size, 0, none⟩ = some (.slice A ss.length ca) := cell_of_row _ _ 0 _ _ _ KaD_11.out
  have caD_1 : w9.cell? ⟨w.heap.size, 1, none⟩ = some (.slice B ps.length cb) := cell_of_row _ _ 1 _ _ _ KaD_11.out
  have cx0_0 : w9.cell? ⟨w6.heap.size, 0, none⟩ = some (.slice Ax00 ss.length cx00) := cell_of_row _ _ 0 _ _ _ Kx0_11.out
  have cx0_1 : w9.cell? ⟨w6.heap.size, 1, none⟩ = some (.slice Ax01 ps.length cx01) := cell_of_row _ _ 1 _ _ _ Kx0_11.out
  go_wp2_with fail
  clear caD_0 caD_1 cx0_0 cx0_1
  refine (eqReS_self Ar40 Ar30 V cr40 cr30 _ (OwnR.rd fRe_len Hr40_11.out) (OwnR.rd fRe_len Hr30_11.out) (by omega)).mono ?_
  rintro e w10 ⟨rfl, hbq⟩
  have Hr30_12 := Lib.hid (Hr30_11.out.below hbq)
  have Hx00_12 := Lib.hid (Hx00_11.out.below hbq)
  have Hx01_12 := Lib.hid (Hx01_11.out.below hbq)
  have Hx10_12 := Lib.hid (Hx10_11.out.below hbq)
  have Hr40_12 := Lib.hid (Hr40_11.out.below hbq)
  have KaD_12 := Lib.hid ((hbq.block _ (heap_lt KaD_11.out)).trans KaD_11.out)
  have Kx0_12 := Lib.hid ((hbq.block _ (heap_lt Kx0_11.out)).trans Kx0_11.out)
  have HB_12 := Lib.hid (below_more HB_11.out hbq)
  clear Hr30_11 Hx00_11 Hx01_11 Hx10_11 Hr40_11 KaD_11 Kx0_11 HB_11
  clear hbq
  have caD_0 : w10.cell? ⟨w.heap.size, 0, none⟩ = some (.slice A ss.length ca) := cell_of_row _ _ 0 _ _ _ KaD_12.out
  have caD_1 : w10.cell? ⟨w.heap.size, 1, none⟩ = some (.slice B ps.length cb) := cell_of_row _ _ 1 _ _ _ KaD_12.out
  have cx0_0 : w10.cell? ⟨w6.heap.size, 0, none⟩ = some (.slice Ax00 ss.length cx00) := cell_of_row _ _ 0 _ _ _ Kx0_12.out
  have cx0_1 : w10.cell? ⟨w6.heap.size, 1, none⟩ = some (.slice Ax01 ps.length cx01) := cell_of_row _ _ 1 _ _ _ Kx0_12.out
  go_wp2_with fail
  go_region_held3 (fun w' => w'.cell? ⟨w6.heap.size, 0, none⟩ = some (.slice Ax00 ss.length cx00) ∧ w'.cell? ⟨w6.heap.size, 1, none⟩ = some (.slice Ax01 ps.length cx01) ∧ w'.cell? ⟨w.heap.size, 0, none⟩ = some (.slice A ss.length ca) ∧ w'.cell? ⟨w.heap.size, 1, none⟩ = some (.slice B ps.length cb)) (first | exact ⟨cx0_0, cx0_1, caD_0, caD_1⟩ | exact ⟨rr0, rr1, rr2, rr3⟩ | exact ⟨srr0, srr1, srr2, srr3⟩ | go_keep) (first
    | (go_at_call 18; refine (toDisk_any A B ss ps ca cb _ ((HRA.out.below HB_12.out).below gDrew) ((HRB.out.below HB_12.out).below gDrew) (by omega) (by omega)).mono ?_; rintro e we ⟨ve0, ve1, rfl, hoe0, hoe1, hae, hbe⟩; have rr0 := (hbe.cell (World.block_lt_of_cell? _ _ cx0_0)).trans cx0_0; have rr1 := (hbe.cell (World.block_lt_of_cell? _ _ cx0_1)).trans cx0_1; have rr2 := (hbe.cell (World.block_lt_of_cell? _ _ caD_0)).trans caD_0; have rr3 := (hbe.cell (World.block_lt_of_cell? _ _ caD_1)).trans caD_1; obtain ⟨Ae0, ce0, rfl, hcape0, _⟩ := OwnR.form fSt_len hoe0; obtain ⟨Ae1, ce1, rfl, hcape1, _⟩ := OwnR.form fPu_len hoe1)
    | (go_at_call 21; refine (eqDisk_self Ax00 Ax01 Ae0 Ae1 ss ps cx00 cx01 ce0 ce1 _ (OwnR.rd fSt_len (Lib.hid ((Hx00_12.out.below gDrew).below hbe)).out) (OwnR.rd fPu_len (Lib.hid ((Hx01_12.out.below gDrew).below hbe)).out) (OwnR.rd fSt_len (Lib.hid hoe0).out) (OwnR.rd fPu_len (Lib.hid hoe1).out) (by omega) (by omega)).mono ?_; rintro e w11 ⟨rfl, hbf⟩; have srr0 := (hbf.cell (World.block_lt_of_cell? _ _ rr0)).trans rr0; have srr1 := (hbf.cell (World.block_lt_of_cell? _ _ rr1)).trans rr1; have srr2 := (hbf.cell (World.block_lt_of_cell? _ _ rr2)).trans rr2; have srr3 := (hbf.cell (World.block_lt_of_cell? _ _ rr3)).trans rr3))
  have hbq := below_more gDrew (below_more hbe hbf)
  clear srr0 srr1 srr2 srr3 rr0 rr1 rr2 rr3 caD_0 caD_1 cx0_0 cx0_1 hoe0 hoe1 hae
  have Hr30_13 := Lib.hid (Hr30_12.out.below hbq)
  have Hx00_13 := Lib.hid (Hx00_12.out.below hbq)
  have Hx01_13 := Lib.hid (Hx01_12.out.below hbq)
  have Hx10_13 := Lib.hid (Hx10_12.out.below hbq)
  have Hr40_13 := Lib.hid (Hr40_12.out.below hbq)
  have KaD_13 := Lib.hid ((hbq.block _ (heap_lt KaD_12.out)).trans KaD_12.out)
  have Kx0_13 := Lib.hid ((hbq.block _ (heap_lt Kx0_12.out)).trans Kx0_12.out)
  have HB_13 := Lib.hid (below_more HB_12.out hbq)
  clear Hr30_12 Hx00_12 Hx01_12 Hx10_12 Hr40_12 KaD_12 Kx0_12 HB_12
  clear hbq hbe hbf
  have caD_0 : w11.cell? ⟨w.heap.size, 0, none⟩ = some (.slice A ss.length ca) := cell_of_row _ _ 0 _ _ _ KaD_13.out
  have caD_1 : w11.cell? ⟨w.heap.size, 1, none⟩ = some (.slice B ps.length cb) := cell_of_row _ _ 1 _ _ _ KaD_13.out
  have cx0_0 : w11.cell? ⟨w6.heap.size, 0, none⟩ = some (.slice Ax00 ss.length cx00) := cell_of_row _ _ 0 _ _ _ Kx0_13.out
  have cx0_1 : w11.cell? ⟨w6.heap.size, 1, none⟩ = some (.slice Ax01 ps.length cx01) := cell_of_row _ _ 1 _ _ _ Kx0_13.out
  go_wp2_with fail
  clear caD_0 caD_1 cx0_0 cx0_1
  refine (toInts_any C ks cc _ (HRC.out.below HB_13.out) (by omega)).mono ?_
  rintro e w12 ⟨ve50, rfl, hoe50, hbe5⟩
  obtain ⟨Ae50, ce50, hve50, hcape50, _⟩ := gFormC hoe50
  subst hve50
  have HAp_r30_e50 := Lib.hid (apart5 (fun k hk => (Hr30_13.out.lt k hk).2) (fun k hk => (hoe50.lt k hk).1))
  have HAp_x00_e50 := Lib.hid (apart5 (fun k hk => (Hx00_13.out.lt k hk).2) (fun k hk => (hoe50.lt k hk).1))
  have HAp_x01_e50 := Lib.hid (apart5 (fun k hk => (Hx01_13.out.lt k hk).2) (fun k hk => (hoe50.lt k hk).1))
  have HAp_x10_e50 := Lib.hid (apart5 (fun k hk => (Hx10_13.out.lt k hk).2) (fun k hk => (hoe50.lt k hk).1))
  have HAp_r40_e50 := Lib.hid (apart5 (fun k hk => (Hr40_13.out.lt k hk).2) (fun k hk => (hoe50.lt k hk).1))
  have HNX_aD_e50 := Lib.hid (fun g hg => Nat.ne_of_gt (Nat.lt_of_lt_of_le (heap_lt KaD_13.out) (hoe50.lt g hg).1))
  have HNX_x0_e50 := Lib.hid (fun g hg => Nat.ne_of_gt (Nat.lt_of_lt_of_le (heap_lt Kx0_13.out) (hoe50.lt g hg).1))
  have Hr30_14 := Lib.hid (Hr30_13.out.below hbe5)
  have Hx00_14 := Lib.hid (Hx00_13.out.below hbe5)
  have Hx01_14 := Lib.hid (Hx01_13.out.below hbe5)
  have Hx10_14 := Lib.hid (Hx10_13.out.below hbe5)
  have Hr40_14 := Lib.hid (Hr40_13.out.below hbe5)
  have He50_14 := Lib.hid (hoe50.lower HB_13.out.size)
  have KaD_14 := Lib.hid ((hbe5.block _ (heap_lt KaD_13.out)).trans KaD_13.out)
  have Kx0_14 := Lib.hid ((hbe5.block _ (heap_lt Kx0_13.out)).trans Kx0_13.out)
  have HB_14 := Lib.hid (below_more HB_13.out hbe5)
  clear Hr30_13 Hx00_13 Hx01_13 Hx10_13 Hr40_13 KaD_13 Kx0_13 HB_13 hoe50 hbe5
  have caD_0 : w12.cell? ⟨w.heap.size, 0, none⟩ = some (.slice A ss.length ca) := cell_of_row _ _ 0 _ _ _ KaD_14.out
  have caD_1 : w12.cell? ⟨w.heap.size, 1, none⟩ = some (.slice B ps.length cb) := cell_of_row _ _ 1 _ _ _ KaD_14.out
  have cx0_0 : w12.cell? ⟨w6.heap.size, 0, none⟩ = some (.slice Ax00 ss.length cx00) := cell_of_row _ _ 0 _ _ _ Kx0_14.out
  have cx0_1 : w12.cell? ⟨w6.heap.size, 1, none⟩ = some (.slice Ax01 ps.length cx01) := cell_of_row _ _ 1 _ _ _ Kx0_14.out
  go_wp2_with fail
  clear caD_0 caD_1 cx0_0 cx0_1
  refine (eqInts_any Ax10 Ae50 ks ks cx10 ce50 _ (own_ints5 Hx10_14.out) (own_ints5 He50_14.out) (by omega)).mono ?_
  rintro e wq ⟨rfl, n15, rfl⟩
  have hdr : Below w12.heap.size w12 (w12.drewN n15) := gDrewN n15
  have Hr30_16 := Lib.hid (Hr30_14.out.below hdr)
  have Hx00_16 := Lib.hid (Hx00_14.out.below hdr)
  have Hx01_16 := Lib.hid (Hx01_14.out.below hdr)
  have Hx10_16 := Lib.hid (Hx10_14.out.below hdr)
  have Hr40_16 := Lib.hid (Hr40_14.out.below hdr)
  have He50_16 := Lib.hid (He50_14.out.below hdr)
  have KaD_16 := Lib.hid ((hdr.block _ (heap_lt KaD_14.out)).trans KaD_14.out)
  have Kx0_16 := Lib.hid ((hdr.block _ (heap_lt Kx0_14.out)).trans Kx0_14.out)
  have HB_16 := Lib.hid (below_more HB_14.out hdr)
  clear Hr30_14 Hx00_14 Hx01_14 Hx10_14 Hr40_14 He50_14 KaD_14 Kx0_14 HB_14
  clear hdr
  generalize w12.drewN n15 = w13 at *
  clear He50_16
  have caD_0 : w13.cell? ⟨w.heap.size, 0, none⟩ = some (.slice A ss.length ca) := cell_of_row _ _ 0 _ _ _ KaD_16.out
  have caD_1 : w13.cell? ⟨w.heap.size, 1, none⟩ = some (.slice B ps.length cb) := cell_of_row _ _ 1 _ _ _ KaD_16.out
  have cx0_0 : w13.cell? ⟨w6.heap.size, 0, none⟩ = some (.slice Ax00 ss.length cx00) := cell_of_row _ _ 0 _ _ _ Kx0_16.out
  have cx0_1 : w13.cell? ⟨w6.heap.size, 1, none⟩ = some (.slice Ax01 ps.length cx01) := cell_of_row _ _ 1 _ _ _ Kx0_16.out
  go_wp2_with fail
  clear caD_0 caD_1 cx0_0 cx0_1
  refine (markDisk_any _ _ ss ps _ 1 _ Hx00_16.out Hx01_16.out HAp_x00_x01.out (by omega) (by omega) (by omega) (by omega)).mono ?_
  rintro e w14 ⟨rfl, hm0, hm1, wm, hg0, hg1⟩
  have Hr30_17 := Lib.hid ((Hr30_16.out.kept hg0 HAp_r30_x00.out).kept hg1 HAp_r30_x01.out)
  have Hx10_17 := Lib.hid ((Hx10_16.out.kept hg0 (gApart HAp_x00_x10.out)).kept hg1 (gApart HAp_x01_x10.out))
  have Hr40_17 := Lib.hid ((Hr40_16.out.kept hg0 (gApart HAp_x00_r40.out)).kept hg1 (gApart HAp_x01_r40.out))
  have KaD_17 := Lib.hid ((hg1.block _ (Nat.lt_of_lt_of_le (heap_lt KaD_16.out) hg0.size) (fun e => HNX_aD_x01.out _ e.symm rfl)).trans ((hg0.block _ (heap_lt KaD_16.out) (fun e => HNX_aD_x00.out _ e.symm rfl)).trans KaD_16.out))
  have Kx0_17 := Lib.hid ((hg1.block _ (Nat.lt_of_lt_of_le (heap_lt Kx0_16.out) hg0.size) (fun e => HNX_x0_x01.out _ e.symm rfl)).trans ((hg0.block _ (heap_lt Kx0_16.out) (fun e => HNX_x0_x00.out _ e.symm rfl)).trans Kx0_16.out))
  have HMb0 := Lib.hid (fun k hk => (Hx00_16.out.lt k hk).1)
  have HMb1 := Lib.hid (fun k hk => (Hx01_16.out.lt k hk).1)
  have HB_17 : Hid (Below w.heap.size w w14) := ((HB_16.out.grown hg0 HB_16.out.size HMb0.out).grown hg1 (HB_16.out.grown hg0 HB_16.out.size HMb0.out).size HMb1.out)
  have Hx00_17 := Lib.hid hm0
  have Hx01_17 := Lib.hid hm1
  clear Hr30_16 Hx10_16 Hr40_16 KaD_16 Kx0_16 HB_16 Hx00_16 Hx01_16 hm0 hm1 hg0 hg1 HMb0 HMb1
  clear Hx00_17 Hx01_17
  clear Kx0_17
  have caD_0 : w14.cell? ⟨w.heap.size, 0, none⟩ = some (.slice A ss.length ca) := cell_of_row _ _ 0 _ _ _ KaD_17.out
  have caD_1 : w14.cell? ⟨w.heap.size, 1, none⟩ = some (.slice B ps.length cb) := cell_of_row _ _ 1 _ _ _ KaD_17.out
  go_wp2_with fail
  clear caD_0 caD_1
  refine (markInts_any _ ks _ ((1 + ss.length + 2 * ps.length : Nat) : Int) _ Hx10_17.out (by omega) (by omega) (by omega)).mono ?_
  rintro e w15 ⟨rfl, hm0, hg0⟩
  have Hr30_18 := Lib.hid (Hr30_17.out.kept hg0 HAp_r30_x10.out)
  have Hr40_18 := Lib.hid (Hr40_17.out.kept hg0 (gApart HAp_x10_r40.out))
  have KaD_18 := Lib.hid ((hg0.block _ (heap_lt KaD_17.out) (fun e => HNX_aD_x10.out _ e.symm rfl)).trans KaD_17.out)
  have HMb0 := Lib.hid (fun k hk => (Hx10_17.out.lt k hk).1)
  have HB_18 : Hid (Below w.heap.size w w15) := (HB_17.out.grown hg0 HB_17.out.size HMb0.out)
  have Hx10_18 := Lib.hid hm0
  clear Hr30_17 Hr40_17 KaD_17 HB_17 Hx10_17 hm0 hg0 HMb0
  clear Hx10_18
  have caD_0 : w15.cell? ⟨w.heap.size, 0, none⟩ = some (.slice A ss.length ca) := cell_of_row _ _ 0 _ _ _ KaD_18.out
  have caD_1 : w15.cell? ⟨w.heap.size, 1, none⟩ = some (.slice B ps.length cb) := cell_of_row _ _ 1 _ _ _ KaD_18.out
  go_wp2_with fail
  clear caD_0 caD_1
  refine (eqReS_self Ar40 Ar30 V cr40 cr30 _ (OwnR.rd fRe_len Hr40_18.out) (OwnR.rd fRe_len Hr30_18.out) (by omega)).mono ?_
  rintro e w16 ⟨rfl, hbq⟩
  have Hr30_19 := Lib.hid (Hr30_18.out.below hbq)
  have Hr40_19 := Lib.hid (Hr40_18.out.below hbq)
  have KaD_19 := Lib.hid ((hbq.block _ (heap_lt KaD_18.out)).trans KaD_18.out)
  have HB_19 := Lib.hid (below_more HB_18.out hbq)
  clear Hr30_18 Hr40_18 KaD_18 HB_18
  clear hbq
  have caD_0 : w16.cell? ⟨w.heap.size, 0, none⟩ = some (.slice A ss.length ca) := cell_of_row _ _ 0 _ _ _ KaD_19.out
  have caD_1 : w16.cell? ⟨w.heap.size, 1, none⟩ = some (.slice B ps.length cb) := cell_of_row _ _ 1 _ _ _ KaD_19.out
  go_wp2_with fail
  clear caD_0 caD_1
  refine (markReS_any _ V _ 1 _ Hr40_19.out (by omega) (by omega) (by omega)).mono ?_
  rintro e w17 ⟨rfl, hm0, hg0⟩
  have Hr30_20 := Lib.hid (Hr30_19.out.kept hg0 HAp_r30_r40.out)
  have KaD_20 := Lib.hid ((hg0.block _ (heap_lt KaD_19.out) (fun e => HNX_aD_r40.out _ e.symm rfl)).trans KaD_19.out)
  have HMb0 := Lib.hid (fun k hk => (Hr40_19.out.lt k hk).1)
  have HB_20 : Hid (Below w.heap.size w w17) := (HB_19.out.grown hg0 HB_19.out.size HMb0.out)
  have Hr40_20 := Lib.hid hm0
  clear Hr30_19 KaD_19 HB_19 Hr40_19 hm0 hg0 HMb0
  have caD_0 : w17.cell? ⟨w.heap.size, 0, none⟩ = some (.slice A ss.length ca) := cell_of_row _ _ 0 _ _ _ KaD_20.out
  have caD_1 : w17.cell? ⟨w.heap.size, 1, none⟩ = some (.slice B ps.length cb) := cell_of_row _ _ 1 _ _ _ KaD_20.out
  go_wp2_with fail
  clear caD_0 caD_1
  refine (heldReS_any Ar40 1 V.length cr40 _ (OwnR.rd fRe_len Hr40_20.out) (by omega) (by omega) (by omega)).mono ?_
  rintro e w18 ⟨rfl, hbq⟩
  have Hr30_21 := Lib.hid (Hr30_20.out.below hbq)
  have Hr40_21 := Lib.hid (Hr40_20.out.below hbq)
  have KaD_21 := Lib.hid ((hbq.block _ (heap_lt KaD_20.out)).trans KaD_20.out)
  have HB_21 := Lib.hid (below_more HB_20.out hbq)
  clear Hr30_20 Hr40_20 KaD_20 HB_20
  clear hbq
  have caD_0 : w18.cell? ⟨w.heap.size, 0, none⟩ = some (.slice A ss.length ca) := cell_of_row _ _ 0 _ _ _ KaD_21.out
  have caD_1 : w18.cell? ⟨w.heap.size, 1, none⟩ = some (.slice B ps.length cb) := cell_of_row _ _ 1 _ _ _ KaD_21.out
  go_wp2_with fail
  clear caD_0 caD_1
  refine (toDisk_any A B ss ps ca cb _ (HRA.out.below HB_21.out) (HRB.out.below HB_21.out) (by omega) (by omega)).mono ?_
  rintro e w19 ⟨vt60, vt61, rfl, hot60, hot61, hat6, hbt6⟩
  obtain ⟨At60, ct60, hvt60, hcapt60, _⟩ := OwnR.form fSt_len hot60
  subst hvt60
  obtain ⟨At61, ct61, hvt61, hcapt61, _⟩ := OwnR.form fPu_len hot61
  subst hvt61
  have HAp_r30_t60 := Lib.hid (apart5 (fun k hk => (Hr30_21.out.lt k hk).2) (fun k hk => (hot60.lt k hk).1))
  have HAp_r40_t60 := Lib.hid (apart5 (fun k hk => (Hr40_21.out.lt k hk).2) (fun k hk => (hot60.lt k hk).1))
  have HAp_r30_t61 := Lib.hid (apart5 (fun k hk => (Hr30_21.out.lt k hk).2) (fun k hk => (hot61.lt k hk).1))
  have HAp_r40_t61 := Lib.hid (apart5 (fun k hk => (Hr40_21.out.lt k hk).2) (fun k hk => (hot61.lt k hk).1))
  have HNX_aD_t60 := Lib.hid (fun g hg => Nat.ne_of_gt (Nat.lt_of_lt_of_le (heap_lt KaD_21.out) (hot60.lt g hg).1))
  have HNX_aD_t61 := Lib.hid (fun g hg => Nat.ne_of_gt (Nat.lt_of_lt_of_le (heap_lt KaD_21.out) (hot61.lt g hg).1))
  have HAp_t60_t61 := Lib.hid hat6
  have Hr30_22 := Lib.hid (Hr30_21.out.below hbt6)
  have Hr40_22 := Lib.hid (Hr40_21.out.below hbt6)
  have Ht60_22 := Lib.hid (hot60.lower HB_21.out.size)
  have Ht61_22 := Lib.hid (hot61.lower HB_21.out.size)
  have KaD_22 := Lib.hid ((hbt6.block _ (heap_lt KaD_21.out)).trans KaD_21.out)
  have HB_22 := Lib.hid (below_more HB_21.out hbt6)
  clear Hr30_21 Hr40_21 KaD_21 HB_21 hot60 hot61 hat6 hbt6
  have caD_0 : w19.cell? ⟨w.heap.size, 0, none⟩ = some (.slice A ss.length ca) := cell_of_row _ _ 0 _ _ _ KaD_22.out
  have caD_1 : w19.cell? ⟨w.heap.size, 1, none⟩ = some (.slice B ps.length cb) := cell_of_row _ _ 1 _ _ _ KaD_22.out
  go_wp2_with fail
  clear caD_0 caD_1
  refine (toInts_any C ks cc _ (HRC.out.below HB_22.out) (by omega)).mono ?_
  rintro e w20 ⟨vt70, rfl, hot70, hbt7⟩
  obtain ⟨At70, ct70, hvt70, hcapt70, _⟩ := gFormC hot70
  subst hvt70
  have HAp_r30_t70 := Lib.hid (apart5 (fun k hk => (Hr30_22.out.lt k hk).2) (fun k hk => (hot70.lt k hk).1))
  have HAp_r40_t70 := Lib.hid (apart5 (fun k hk => (Hr40_22.out.lt k hk).2) (fun k hk => (hot70.lt k hk).1))
  have HAp_t60_t70 := Lib.hid (apart5 (fun k hk => (Ht60_22.out.lt k hk).2) (fun k hk => (hot70.lt k hk).1))
  have HAp_t61_t70 := Lib.hid (apart5 (fun k hk => (Ht61_22.out.lt k hk).2) (fun k hk => (hot70.lt k hk).1))
  have HNX_aD_t70 := Lib.hid (fun g hg => Nat.ne_of_gt (Nat.lt_of_lt_of_le (heap_lt KaD_22.out) (hot70.lt g hg).1))
  have Hr30_23 := Lib.hid (Hr30_22.out.below hbt7)
  have Hr40_23 := Lib.hid (Hr40_22.out.below hbt7)
  have Ht60_23 := Lib.hid (Ht60_22.out.below hbt7)
  have Ht61_23 := Lib.hid (Ht61_22.out.below hbt7)
  have Ht70_23 := Lib.hid (hot70.lower HB_22.out.size)
  have KaD_23 := Lib.hid ((hbt7.block _ (heap_lt KaD_22.out)).trans KaD_22.out)
  have HB_23 := Lib.hid (below_more HB_22.out hbt7)
  clear Hr30_22 Hr40_22 Ht60_22 Ht61_22 KaD_22 HB_22 hot70 hbt7
  have caD_0 : w20.cell? ⟨w.heap.size, 0, none⟩ = some (.slice A ss.length ca) := cell_of_row _ _ 0 _ _ _ KaD_23.out
  have caD_1 : w20.cell? ⟨w.heap.size, 1, none⟩ = some (.slice B ps.length cb) := cell_of_row _ _ 1 _ _ _ KaD_23.out
  go_wp2_with fail
  clear caD_0 caD_1
  refine (HI.out At60 At61 At70 ct60 ct61 ct70 _ (hK _ _ HW.out HB_23.out) ⟨(OwnR.rd fSt_len Ht60_23.out), (OwnR.rd fPu_len Ht61_23.out), by omega, by omega, HZs.out, HZp.out⟩ (ownR_lies Ht60_23.out) (ownR_lies Ht61_23.out) (own_ints5 Ht70_23.out) (own9_lies Ht70_23.out)).mono ?_
  rintro e w21 ⟨vr80, rfl, hor80, hbr8⟩
  obtain ⟨Ar80, cr80, hvr80, hcapr80, _⟩ := OwnR.form fRe_len hor80
  subst hvr80
  have HAp_r30_r80 := Lib.hid (apart5 (fun k hk => (Hr30_23.out.lt k hk).2) (fun k hk => (hor80.lt k hk).1))
  have HAp_r40_r80 := Lib.hid (apart5 (fun k hk => (Hr40_23.out.lt k hk).2) (fun k hk => (hor80.lt k hk).1))
  have HAp_t60_r80 := Lib.hid (apart5 (fun k hk => (Ht60_23.out.lt k hk).2) (fun k hk => (hor80.lt k hk).1))
  have HAp_t61_r80 := Lib.hid (apart5 (fun k hk => (Ht61_23.out.lt k hk).2) (fun k hk => (hor80.lt k hk).1))
  have HAp_t70_r80 := Lib.hid (apart5 (fun k hk => (Ht70_23.out.lt k hk).2) (fun k hk => (hor80.lt k hk).1))
  have HNX_aD_r80 := Lib.hid (fun g hg => Nat.ne_of_gt (Nat.lt_of_lt_of_le (heap_lt KaD_23.out) (hor80.lt g hg).1))
  have Hr30_24 := Lib.hid (Hr30_23.out.below hbr8)
  have Hr40_24 := Lib.hid (Hr40_23.out.below hbr8)
  have Ht60_24 := Lib.hid (Ht60_23.out.below hbr8)
  have Ht61_24 := Lib.hid (Ht61_23.out.below hbr8)
  have Ht70_24 := Lib.hid (Ht70_23.out.below hbr8)
  have Hr80_24 := Lib.hid (hor80.lower HB_23.out.size)
  have KaD_24 := Lib.hid ((hbr8.block _ (heap_lt KaD_23.out)).trans KaD_23.out)
  have HB_24 := Lib.hid (below_more HB_23.out hbr8)
  clear Hr30_23 Hr40_23 Ht60_23 Ht61_23 Ht70_23 KaD_23 HB_23 hor80 hbr8
  clear Ht60_24 Ht61_24 Ht70_24
  have caD_0 : w21.cell? ⟨w.heap.size, 0, none⟩ = some (.slice A ss.length ca) := cell_of_row _ _ 0 _ _ _ KaD_24.out
  have caD_1 : w21.cell? ⟨w.heap.size, 1, none⟩ = some (.slice B ps.length cb) := cell_of_row _ _ 1 _ _ _ KaD_24.out
  go_wp2_with fail
  clear caD_0 caD_1
  refine (eqReS_self Ar80 Ar30 V cr80 cr30 _ (OwnR.rd fRe_len Hr80_24.out) (OwnR.rd fRe_len Hr30_24.out) (by omega)).mono ?_
  rintro e w22 ⟨rfl, hbq⟩
  have Hr30_25 := Lib.hid (Hr30_24.out.below hbq)
  have Hr40_25 := Lib.hid (Hr40_24.out.below hbq)
  have Hr80_25 := Lib.hid (Hr80_24.out.below hbq)
  have KaD_25 := Lib.hid ((hbq.block _ (heap_lt KaD_24.out)).trans KaD_24.out)
  have HB_25 := Lib.hid (below_more HB_24.out hbq)
  clear Hr30_24 Hr40_24 Hr80_24 KaD_24 HB_24
  clear hbq
  clear Hr30_25
  clear Hr80_25
  have caD_0 : w22.cell? ⟨w.heap.size, 0, none⟩ = some (.slice A ss.length ca) := cell_of_row _ _ 0 _ _ _ KaD_25.out
  have caD_1 : w22.cell? ⟨w.heap.size, 1, none⟩ = some (.slice B ps.length cb) := cell_of_row _ _ 1 _ _ _ KaD_25.out
  go_wp2_with fail
  clear caD_0 caD_1
  refine (heldReS_any Ar40 1 V.length cr40 _ (OwnR.rd fRe_len Hr40_25.out) (by omega) (by omega) (by omega)).mono ?_
  rintro e w23 ⟨rfl, hbq⟩
  have Hr40_26 := Lib.hid (Hr40_25.out.below hbq)
  have KaD_26 := Lib.hid ((hbq.block _ (heap_lt KaD_25.out)).trans KaD_25.out)
  have HB_26 := Lib.hid (below_more HB_25.out hbq)
  clear Hr40_25 KaD_25 HB_25
  clear hbq
  go_wp2_with fail
  go_ret
  exact ⟨rfl, HB_26.out⟩

end Go.Proofs.YthbjcipdneminaaGreatDoor
