/-
  Exact laws of chapter 10, walked, whatever the program's own texts are: ReadLog, NextNo, CrashLog, Append.
-/
import Derived.Test.YthbjcipdneminaaDoorGQ
import Derived.Test.YthbjcipdneminaaDoorVO
namespace Go.Proofs.YthbjcipdneminaaDoor
open Go.RowKit

theorem ap_len (ss : List ByteArray) (ps : List (Int × ByteArray)) (r : Rec) : (apS ss ps r).length ≤ 12 ∧ (apP ss ps r).length ≤ 41 := by
  unfold apS apP; split
  · exact pu_len ss ps _ _
  · simp
set_option maxRecDepth 100000 in
set_option maxHeartbeats 8000000 in
theorem readLog_law {K : World → Prop} (hK : Stays5 K) (hI : ∀ (A B : Option Addr) (ss : List ByteArray) (ps : List (Int × ByteArray)) (ca cb : Nat) (w : World), K w → DiskIn w A B ss ps → Lies9 A ca → Lies9 B cb → Calls Tryd.prog 10 #[diskV (.slice A ss.length ca) (.slice B ps.length cb)] w fun e w' => ∃ v1, e = .returned (.tuple #[v1, .bool (goodDB ss ps)]) ∧ OwnRe w' w.heap.size v1 (rlI ss ps) ∧ Below w.heap.size w w')
    (A B : Option Addr) (ss : List ByteArray) (ps : List (Int × ByteArray)) (ca cb : Nat) (w : World) (hw : K w) (hA : Strs w A ss) (hB : Puts w B ps) (hl : ss.length ≤ 9223372036854775807) (hz : ∀ s ∈ ss, s.size ≤ 9223372036854775807) (hl2 : ps.length ≤ 9223372036854775807) (hz2 : ∀ p ∈ ps, p.2.size ≤ 9223372036854775807) : Calls Tryd.prog 5 #[diskV (.slice A ss.length ca) (.slice B ps.length cb)] w fun e w' => e = .returned (.bool true) ∧ Below w.heap.size w w' := by
  have HRA := Lib.hid hA
  have HRB := Lib.hid hB
  have HZ := Lib.hid hz
  have HZ2 := Lib.hid hz2
  have HI := Lib.hid (fun A B ca cb w hk hd hA hB => hI A B ss ps ca cb w hk hd hA hB)
  have HW := Lib.hid hw
  have HS0 := Lib.hid (fun A B ca cb w hd => sReadLog_any A B ss ps ca cb w hd)
  clear hI hw hA hB hz hz2
  have hV := rl_len ss ps
  generalize rlI ss ps = V at *
  generalize goodDB ss ps = bb at *
  obtain ⟨w1, hw1⟩ : ∃ wn, w.alloc (.cells #[.slice A ss.length ca, .slice B ps.length cb] 51) = wn := ⟨_, rfl⟩
  have hbx : Below w.heap.size w w1 := by rw [← hw1]; exact gAlloc _ _
  have KX : w1.heap[w.heap.size]? = some (.cells #[.slice A ss.length ca, .slice B ps.length cb] 51 (0, 0)) := by rw [← hw1]; exact heap_alloc_new _ _
  have HB_2 := Lib.hid (hbx)
  have KaD_1 := Lib.hid KX
  clear hbx KX
  go_enter Tryd.func5, Tryd.ntmps5
  have caD_0 : w1.cell? ⟨w.heap.size, 0, none⟩ = some (.slice A ss.length ca) := cell_of_row _ _ 0 _ _ _ KaD_1.out
  have caD_1 : w1.cell? ⟨w.heap.size, 1, none⟩ = some (.slice B ps.length cb) := cell_of_row _ _ 1 _ _ _ KaD_1.out
  go_wp2_with fail
  clear caD_0 caD_1 hw1
  refine (szDisk_any A B ss ps ca cb 1048576 _ (HRA.out.below HB_2.out) (HRB.out.below HB_2.out) hl HZ.out hl2 HZ2.out (by omega) (by omega)).mono ?_
  rintro e w2 ⟨rz, rfl, hrz, hbq⟩
  have KaD_3 := Lib.hid ((hbq.block _ (heap_lt KaD_1.out)).trans KaD_1.out)
  have HB_3 := Lib.hid (below_more HB_2.out hbq)
  clear KaD_1 HB_2
  clear hbq
  rcases hrz with hrz | ⟨hrz0, hrz1, hrz2, hrz3⟩
  · go_wp2_with fail
    go_ret
    exact ⟨rfl, HB_3.out⟩
  have HZs := Lib.hid hrz2
  have HZp := Lib.hid hrz3
  have hls : ss.length ≤ 1048576 := by omega
  have hlp : ps.length ≤ 1048576 := by omega
  have hlt : ss.length + ps.length ≤ 1048576 := by omega
  have hrzn : ¬ rz < 0 := by omega
  clear hrz2 hrz3 HZ HZ2 hl hl2 hrz1
  have caD_0 : w2.cell? ⟨w.heap.size, 0, none⟩ = some (.slice A ss.length ca) := cell_of_row _ _ 0 _ _ _ KaD_3.out
  have caD_1 : w2.cell? ⟨w.heap.size, 1, none⟩ = some (.slice B ps.length cb) := cell_of_row _ _ 1 _ _ _ KaD_3.out
  go_wp2_with fail
  clear caD_0 caD_1
  refine (toDisk_any A B ss ps ca cb _ (HRA.out.below HB_3.out) (HRB.out.below HB_3.out) (by omega) (by omega)).mono ?_
  rintro e w3 ⟨vt10, vt11, rfl, hot10, hot11, hat1, hbt1⟩
  obtain ⟨At10, ct10, hvt10, hcapt10, _⟩ := OwnR.form fSt_len hot10
  subst hvt10
  obtain ⟨At11, ct11, hvt11, hcapt11, _⟩ := OwnR.form fPu_len hot11
  subst hvt11
  have HNX_aD_t10 := Lib.hid (fun g hg => Nat.ne_of_gt (Nat.lt_of_lt_of_le (heap_lt KaD_3.out) (hot10.lt g hg).1))
  have HNX_aD_t11 := Lib.hid (fun g hg => Nat.ne_of_gt (Nat.lt_of_lt_of_le (heap_lt KaD_3.out) (hot11.lt g hg).1))
  have HAp_t10_t11 := Lib.hid hat1
  have Ht10_4 := Lib.hid (hot10.lower HB_3.out.size)
  have Ht11_4 := Lib.hid (hot11.lower HB_3.out.size)
  have KaD_4 := Lib.hid ((hbt1.block _ (heap_lt KaD_3.out)).trans KaD_3.out)
  have HB_4 := Lib.hid (below_more HB_3.out hbt1)
  clear KaD_3 HB_3 hot10 hot11 hat1 hbt1
  have caD_0 : w3.cell? ⟨w.heap.size, 0, none⟩ = some (.slice A ss.length ca) := cell_of_row _ _ 0 _ _ _ KaD_4.out
  have caD_1 : w3.cell? ⟨w.heap.size, 1, none⟩ = some (.slice B ps.length cb) := cell_of_row _ _ 1 _ _ _ KaD_4.out
  go_wp2_with fail
  clear caD_0 caD_1
  refine (HS0.out At10 At11 ct10 ct11 _ ⟨(OwnR.rd fSt_len Ht10_4.out), (OwnR.rd fPu_len Ht11_4.out), by omega, by omega, HZs.out, HZp.out⟩).mono ?_
  rintro e w4 ⟨vr20, rfl, hor20, hbr2⟩
  obtain ⟨Ar20, cr20, hvr20, hcapr20, _⟩ := OwnR.form fRe_len hor20
  subst hvr20
  have HAp_t10_r20 := Lib.hid (apart5 (fun k hk => (Ht10_4.out.lt k hk).2) (fun k hk => (hor20.lt k hk).1))
  have HAp_t11_r20 := Lib.hid (apart5 (fun k hk => (Ht11_4.out.lt k hk).2) (fun k hk => (hor20.lt k hk).1))
  have HNX_aD_r20 := Lib.hid (fun g hg => Nat.ne_of_gt (Nat.lt_of_lt_of_le (heap_lt KaD_4.out) (hor20.lt g hg).1))
  have Ht10_5 := Lib.hid (Ht10_4.out.below hbr2)
  have Ht11_5 := Lib.hid (Ht11_4.out.below hbr2)
  have Hr20_5 := Lib.hid (hor20.lower HB_4.out.size)
  have KaD_5 := Lib.hid ((hbr2.block _ (heap_lt KaD_4.out)).trans KaD_4.out)
  have HB_5 := Lib.hid (below_more HB_4.out hbr2)
  clear Ht10_4 Ht11_4 KaD_4 HB_4 hor20 hbr2
  clear Ht10_5 Ht11_5
  have caD_0 : w4.cell? ⟨w.heap.size, 0, none⟩ = some (.slice A ss.length ca) := cell_of_row _ _ 0 _ _ _ KaD_5.out
  have caD_1 : w4.cell? ⟨w.heap.size, 1, none⟩ = some (.slice B ps.length cb) := cell_of_row _ _ 1 _ _ _ KaD_5.out
  go_wp2_with fail
  clear caD_0 caD_1
  refine (toDisk_any A B ss ps ca cb _ (HRA.out.below HB_5.out) (HRB.out.below HB_5.out) (by omega) (by omega)).mono ?_
  rintro e w5 ⟨vx00, vx01, rfl, hox00, hox01, hax0, hbx0⟩
  obtain ⟨Ax00, cx00, hvx00, hcapx00, _⟩ := OwnR.form fSt_len hox00
  subst hvx00
  obtain ⟨Ax01, cx01, hvx01, hcapx01, _⟩ := OwnR.form fPu_len hox01
  subst hvx01
  have HAp_r20_x00 := Lib.hid (apart5 (fun k hk => (Hr20_5.out.lt k hk).2) (fun k hk => (hox00.lt k hk).1))
  have HAp_r20_x01 := Lib.hid (apart5 (fun k hk => (Hr20_5.out.lt k hk).2) (fun k hk => (hox01.lt k hk).1))
  have HNX_aD_x00 := Lib.hid (fun g hg => Nat.ne_of_gt (Nat.lt_of_lt_of_le (heap_lt KaD_5.out) (hox00.lt g hg).1))
  have HNX_aD_x01 := Lib.hid (fun g hg => Nat.ne_of_gt (Nat.lt_of_lt_of_le (heap_lt KaD_5.out) (hox01.lt g hg).1))
  have HAp_x00_x01 := Lib.hid hax0
  have Hr20_6 := Lib.hid (Hr20_5.out.below hbx0)
  have Hx00_6 := Lib.hid (hox00.lower HB_5.out.size)
  have Hx01_6 := Lib.hid (hox01.lower HB_5.out.size)
  have KaD_6 := Lib.hid ((hbx0.block _ (heap_lt KaD_5.out)).trans KaD_5.out)
  have HB_6 := Lib.hid (below_more HB_5.out hbx0)
  clear Hr20_5 KaD_5 HB_5 hox00 hox01 hax0 hbx0
  obtain ⟨w6, hw7⟩ : ∃ wn, w5.alloc (.cells #[.slice Ax00 ss.length cx00, .slice Ax01 ps.length cx01] 26) = wn := ⟨_, rfl⟩
  have hbx : Below w5.heap.size w5 w6 := by rw [← hw7]; exact gAlloc _ _
  have KX : w6.heap[w5.heap.size]? = some (.cells #[.slice Ax00 ss.length cx00, .slice Ax01 ps.length cx01] 26 (0, 0)) := by rw [← hw7]; exact heap_alloc_new _ _
  have HNX_x0_r20 := Lib.hid (fun g hg => Nat.ne_of_lt (Hr20_6.out.lt g hg).2)
  have HNX_x0_x00 := Lib.hid (fun g hg => Nat.ne_of_lt (Hx00_6.out.lt g hg).2)
  have HNX_x0_x01 := Lib.hid (fun g hg => Nat.ne_of_lt (Hx01_6.out.lt g hg).2)
  have Hr20_8 := Lib.hid (Hr20_6.out.below hbx)
  have Hx00_8 := Lib.hid (Hx00_6.out.below hbx)
  have Hx01_8 := Lib.hid (Hx01_6.out.below hbx)
  have KaD_8 := Lib.hid ((hbx.block _ (heap_lt KaD_6.out)).trans KaD_6.out)
  have HB_8 := Lib.hid (below_more HB_6.out hbx)
  clear Hr20_6 Hx00_6 Hx01_6 KaD_6 HB_6
  have Kx0_7 := Lib.hid KX
  clear hbx KX
  have caD_0 : w6.cell? ⟨w.heap.size, 0, none⟩ = some (.slice A ss.length ca) := cell_of_row _ _ 0 _ _ _ KaD_8.out
  have caD_1 : w6.cell? ⟨w.heap.size, 1, none⟩ = some (.slice B ps.length cb) := cell_of_row _ _ 1 _ _ _ KaD_8.out
  have cx0_0 : w6.cell? ⟨w5.heap.size, 0, none⟩ = some (.slice Ax00 ss.length cx00) := cell_of_row _ _ 0 _ _ _ Kx0_7.out
  have cx0_1 : w6.cell? ⟨w5.heap.size, 1, none⟩ = some (.slice Ax01 ps.length cx01) := cell_of_row _ _ 1 _ _ _ Kx0_7.out
  go_wp2_with fail
  clear caD_0 caD_1 cx0_0 cx0_1 hw7
  refine (HI.out Ax00 Ax01 cx00 cx01 _ (hK _ _ HW.out HB_8.out) ⟨(OwnR.rd fSt_len Hx00_8.out), (OwnR.rd fPu_len Hx01_8.out), by omega, by omega, HZs.out, HZp.out⟩ (ownR_lies Hx00_8.out) (ownR_lies Hx01_8.out)).mono ?_
  rintro e w7 ⟨vr30, rfl, hor30, hbr3⟩
  obtain ⟨Ar30, cr30, hvr30, hcapr30, _⟩ := OwnR.form fRe_len hor30
  subst hvr30
  have HAp_r20_r30 := Lib.hid (apart5 (fun k hk => (Hr20_8.out.lt k hk).2) (fun k hk => (hor30.lt k hk).1))
  have HAp_x00_r30 := Lib.hid (apart5 (fun k hk => (Hx00_8.out.lt k hk).2) (fun k hk => (hor30.lt k hk).1))
  have HAp_x01_r30 := Lib.hid (apart5 (fun k hk => (Hx01_8.out.lt k hk).2) (fun k hk => (hor30.lt k hk).1))
  have HNX_aD_r30 := Lib.hid (fun g hg => Nat.ne_of_gt (Nat.lt_of_lt_of_le (heap_lt KaD_8.out) (hor30.lt g hg).1))
  have HNX_x0_r30 := Lib.hid (fun g hg => Nat.ne_of_gt (Nat.lt_of_lt_of_le (heap_lt Kx0_7.out) (hor30.lt g hg).1))
  have Hr20_9 := Lib.hid (Hr20_8.out.below hbr3)
  have Hx00_9 := Lib.hid (Hx00_8.out.below hbr3)
  have Hx01_9 := Lib.hid (Hx01_8.out.below hbr3)
  have Hr30_9 := Lib.hid (hor30.lower HB_8.out.size)
  have KaD_9 := Lib.hid ((hbr3.block _ (heap_lt KaD_8.out)).trans KaD_8.out)
  have Kx0_9 := Lib.hid ((hbr3.block _ (heap_lt Kx0_7.out)).trans Kx0_7.out)
  have HB_9 := Lib.hid (below_more HB_8.out hbr3)
  clear Hr20_8 Hx00_8 Hx01_8 KaD_8 Kx0_7 HB_8 hor30 hbr3
  have caD_0 : w7.cell? ⟨w.heap.size, 0, none⟩ = some (.slice A ss.length ca) := cell_of_row _ _ 0 _ _ _ KaD_9.out
  have caD_1 : w7.cell? ⟨w.heap.size, 1, none⟩ = some (.slice B ps.length cb) := cell_of_row _ _ 1 _ _ _ KaD_9.out
  have cx0_0 : w7.cell? ⟨w5.heap.size, 0, none⟩ = some (.slice Ax00 ss.length cx00) := cell_of_row _ _ 0 _ _ _ Kx0_9.out
  have cx0_1 : w7.cell? ⟨w5.heap.size, 1, none⟩ = some (.slice Ax01 ps.length cx01) := cell_of_row _ _ 1 _ _ _ Kx0_9.out
  go_wp2_with fail
  clear caD_0 caD_1 cx0_0 cx0_1
  refine (eqReS_self Ar30 Ar20 V cr30 cr20 _ (OwnR.rd fRe_len Hr30_9.out) (OwnR.rd fRe_len Hr20_9.out) (by omega)).mono ?_
  rintro e w8 ⟨rfl, hbq⟩
  have Hr20_10 := Lib.hid (Hr20_9.out.below hbq)
  have Hx00_10 := Lib.hid (Hx00_9.out.below hbq)
  have Hx01_10 := Lib.hid (Hx01_9.out.below hbq)
  have Hr30_10 := Lib.hid (Hr30_9.out.below hbq)
  have KaD_10 := Lib.hid ((hbq.block _ (heap_lt KaD_9.out)).trans KaD_9.out)
  have Kx0_10 := Lib.hid ((hbq.block _ (heap_lt Kx0_9.out)).trans Kx0_9.out)
  have HB_10 := Lib.hid (below_more HB_9.out hbq)
  clear Hr20_9 Hx00_9 Hx01_9 Hr30_9 KaD_9 Kx0_9 HB_9
  clear hbq
  have caD_0 : w8.cell? ⟨w.heap.size, 0, none⟩ = some (.slice A ss.length ca) := cell_of_row _ _ 0 _ _ _ KaD_10.out
  have caD_1 : w8.cell? ⟨w.heap.size, 1, none⟩ = some (.slice B ps.length cb) := cell_of_row _ _ 1 _ _ _ KaD_10.out
  have cx0_0 : w8.cell? ⟨w5.heap.size, 0, none⟩ = some (.slice Ax00 ss.length cx00) := cell_of_row _ _ 0 _ _ _ Kx0_10.out
  have cx0_1 : w8.cell? ⟨w5.heap.size, 1, none⟩ = some (.slice Ax01 ps.length cx01) := cell_of_row _ _ 1 _ _ _ Kx0_10.out
  go_wp2_with fail
  go_region_held3 (fun w' => w'.cell? ⟨w5.heap.size, 0, none⟩ = some (.slice Ax00 ss.length cx00) ∧ w'.cell? ⟨w5.heap.size, 1, none⟩ = some (.slice Ax01 ps.length cx01) ∧ w'.cell? ⟨w.heap.size, 0, none⟩ = some (.slice A ss.length ca) ∧ w'.cell? ⟨w.heap.size, 1, none⟩ = some (.slice B ps.length cb)) (first | exact ⟨cx0_0, cx0_1, caD_0, caD_1⟩ | exact ⟨rr0, rr1, rr2, rr3⟩ | exact ⟨srr0, srr1, srr2, srr3⟩ | go_keep) (first
    | (go_at_call 25; refine (toDisk_any A B ss ps ca cb _ ((HRA.out.below HB_10.out).below gDrew) ((HRB.out.below HB_10.out).below gDrew) (by omega) (by omega)).mono ?_; rintro e we ⟨ve0, ve1, rfl, hoe0, hoe1, hae, hbe⟩; have rr0 := (hbe.cell (World.block_lt_of_cell? _ _ cx0_0)).trans cx0_0; have rr1 := (hbe.cell (World.block_lt_of_cell? _ _ cx0_1)).trans cx0_1; have rr2 := (hbe.cell (World.block_lt_of_cell? _ _ caD_0)).trans caD_0; have rr3 := (hbe.cell (World.block_lt_of_cell? _ _ caD_1)).trans caD_1; obtain ⟨Ae0, ce0, rfl, hcape0, _⟩ := OwnR.form fSt_len hoe0; obtain ⟨Ae1, ce1, rfl, hcape1, _⟩ := OwnR.form fPu_len hoe1)
    | (go_at_call 27; refine (eqDisk_self Ax00 Ax01 Ae0 Ae1 ss ps cx00 cx01 ce0 ce1 _ (OwnR.rd fSt_len (Lib.hid ((Hx00_10.out.below gDrew).below hbe)).out) (OwnR.rd fPu_len (Lib.hid ((Hx01_10.out.below gDrew).below hbe)).out) (OwnR.rd fSt_len (Lib.hid hoe0).out) (OwnR.rd fPu_len (Lib.hid hoe1).out) (by omega) (by omega)).mono ?_; rintro e w9 ⟨rfl, hbf⟩; have srr0 := (hbf.cell (World.block_lt_of_cell? _ _ rr0)).trans rr0; have srr1 := (hbf.cell (World.block_lt_of_cell? _ _ rr1)).trans rr1; have srr2 := (hbf.cell (World.block_lt_of_cell? _ _ rr2)).trans rr2; have srr3 := (hbf.cell (World.block_lt_of_cell? _ _ rr3)).trans rr3))
  have hbq := below_more gDrew (below_more hbe hbf)
  clear srr0 srr1 srr2 srr3 rr0 rr1 rr2 rr3 caD_0 caD_1 cx0_0 cx0_1 hoe0 hoe1 hae
  have Hr20_11 := Lib.hid (Hr20_10.out.below hbq)
  have Hx00_11 := Lib.hid (Hx00_10.out.below hbq)
  have Hx01_11 := Lib.hid (Hx01_10.out.below hbq)
  have Hr30_11 := Lib.hid (Hr30_10.out.below hbq)
  have KaD_11 := Lib.hid ((hbq.block _ (heap_lt KaD_10.out)).trans KaD_10.out)
  have Kx0_11 := Lib.hid ((hbq.block _ (heap_lt Kx0_10.out)).trans Kx0_10.out)
  have HB_11 := Lib.hid (below_more HB_10.out hbq)
  clear Hr20_10 Hx00_10 Hx01_10 Hr30_10 KaD_10 Kx0_10 HB_10
  clear hbq hbe hbf
  have caD_0 : w9.cell? ⟨w.heap.size, 0, none⟩ = some (.slice A ss.length ca) := cell_of_row _ _ 0 _ _ _ KaD_11.out
  have caD_1 : w9.cell? ⟨w.heap.size, 1, none⟩ = some (.slice B ps.length cb) := cell_of_row _ _ 1 _ _ _ KaD_11.out
  have cx0_0 : w9.cell? ⟨w5.heap.size, 0, none⟩ = some (.slice Ax00 ss.length cx00) := cell_of_row _ _ 0 _ _ _ Kx0_11.out
  have cx0_1 : w9.cell? ⟨w5.heap.size, 1, none⟩ = some (.slice Ax01 ps.length cx01) := cell_of_row _ _ 1 _ _ _ Kx0_11.out
  go_wp2_with fail
  clear caD_0 caD_1 cx0_0 cx0_1
  refine (markDisk_any _ _ ss ps _ 1 _ Hx00_11.out Hx01_11.out HAp_x00_x01.out (by omega) (by omega) (by omega) (by omega)).mono ?_
  rintro e w10 ⟨rfl, hm0, hm1, wm, hg0, hg1⟩
  have Hr20_12 := Lib.hid ((Hr20_11.out.kept hg0 HAp_r20_x00.out).kept hg1 HAp_r20_x01.out)
  have Hr30_12 := Lib.hid ((Hr30_11.out.kept hg0 (gApart HAp_x00_r30.out)).kept hg1 (gApart HAp_x01_r30.out))
  have KaD_12 := Lib.hid ((hg1.block _ (Nat.lt_of_lt_of_le (heap_lt KaD_11.out) hg0.size) (fun e => HNX_aD_x01.out _ e.symm rfl)).trans ((hg0.block _ (heap_lt KaD_11.out) (fun e => HNX_aD_x00.out _ e.symm rfl)).trans KaD_11.out))
  have Kx0_12 := Lib.hid ((hg1.block _ (Nat.lt_of_lt_of_le (heap_lt Kx0_11.out) hg0.size) (fun e => HNX_x0_x01.out _ e.symm rfl)).trans ((hg0.block _ (heap_lt Kx0_11.out) (fun e => HNX_x0_x00.out _ e.symm rfl)).trans Kx0_11.out))
  have HMb0 := Lib.hid (fun k hk => (Hx00_11.out.lt k hk).1)
  have HMb1 := Lib.hid (fun k hk => (Hx01_11.out.lt k hk).1)
  have HB_12 : Hid (Below w.heap.size w w10) := ((HB_11.out.grown hg0 HB_11.out.size HMb0.out).grown hg1 (HB_11.out.grown hg0 HB_11.out.size HMb0.out).size HMb1.out)
  have Hx00_12 := Lib.hid hm0
  have Hx01_12 := Lib.hid hm1
  clear Hr20_11 Hr30_11 KaD_11 Kx0_11 HB_11 Hx00_11 Hx01_11 hm0 hm1 hg0 hg1 HMb0 HMb1
  clear Hx00_12 Hx01_12
  clear Kx0_12
  have caD_0 : w10.cell? ⟨w.heap.size, 0, none⟩ = some (.slice A ss.length ca) := cell_of_row _ _ 0 _ _ _ KaD_12.out
  have caD_1 : w10.cell? ⟨w.heap.size, 1, none⟩ = some (.slice B ps.length cb) := cell_of_row _ _ 1 _ _ _ KaD_12.out
  go_wp2_with fail
  clear caD_0 caD_1
  refine (eqReS_self Ar30 Ar20 V cr30 cr20 _ (OwnR.rd fRe_len Hr30_12.out) (OwnR.rd fRe_len Hr20_12.out) (by omega)).mono ?_
  rintro e w11 ⟨rfl, hbq⟩
  have Hr20_13 := Lib.hid (Hr20_12.out.below hbq)
  have Hr30_13 := Lib.hid (Hr30_12.out.below hbq)
  have KaD_13 := Lib.hid ((hbq.block _ (heap_lt KaD_12.out)).trans KaD_12.out)
  have HB_13 := Lib.hid (below_more HB_12.out hbq)
  clear Hr20_12 Hr30_12 KaD_12 HB_12
  clear hbq
  have caD_0 : w11.cell? ⟨w.heap.size, 0, none⟩ = some (.slice A ss.length ca) := cell_of_row _ _ 0 _ _ _ KaD_13.out
  have caD_1 : w11.cell? ⟨w.heap.size, 1, none⟩ = some (.slice B ps.length cb) := cell_of_row _ _ 1 _ _ _ KaD_13.out
  go_wp2_with fail
  clear caD_0 caD_1
  refine (markReS_any _ V _ 1 _ Hr30_13.out (by omega) (by omega) (by omega)).mono ?_
  rintro e w12 ⟨rfl, hm0, hg0⟩
  have Hr20_14 := Lib.hid (Hr20_13.out.kept hg0 HAp_r20_r30.out)
  have KaD_14 := Lib.hid ((hg0.block _ (heap_lt KaD_13.out) (fun e => HNX_aD_r30.out _ e.symm rfl)).trans KaD_13.out)
  have HMb0 := Lib.hid (fun k hk => (Hr30_13.out.lt k hk).1)
  have HB_14 : Hid (Below w.heap.size w w12) := (HB_13.out.grown hg0 HB_13.out.size HMb0.out)
  have Hr30_14 := Lib.hid hm0
  clear Hr20_13 KaD_13 HB_13 Hr30_13 hm0 hg0 HMb0
  have caD_0 : w12.cell? ⟨w.heap.size, 0, none⟩ = some (.slice A ss.length ca) := cell_of_row _ _ 0 _ _ _ KaD_14.out
  have caD_1 : w12.cell? ⟨w.heap.size, 1, none⟩ = some (.slice B ps.length cb) := cell_of_row _ _ 1 _ _ _ KaD_14.out
  go_wp2_with fail
  clear caD_0 caD_1
  refine (heldReS_any Ar30 1 V.length cr30 _ (OwnR.rd fRe_len Hr30_14.out) (by omega) (by omega) (by omega)).mono ?_
  rintro e w13 ⟨rfl, hbq⟩
  have Hr20_15 := Lib.hid (Hr20_14.out.below hbq)
  have Hr30_15 := Lib.hid (Hr30_14.out.below hbq)
  have KaD_15 := Lib.hid ((hbq.block _ (heap_lt KaD_14.out)).trans KaD_14.out)
  have HB_15 := Lib.hid (below_more HB_14.out hbq)
  clear Hr20_14 Hr30_14 KaD_14 HB_14
  clear hbq
  have caD_0 : w13.cell? ⟨w.heap.size, 0, none⟩ = some (.slice A ss.length ca) := cell_of_row _ _ 0 _ _ _ KaD_15.out
  have caD_1 : w13.cell? ⟨w.heap.size, 1, none⟩ = some (.slice B ps.length cb) := cell_of_row _ _ 1 _ _ _ KaD_15.out
  go_wp2_with fail
  clear caD_0 caD_1
  refine (toDisk_any A B ss ps ca cb _ (HRA.out.below HB_15.out) (HRB.out.below HB_15.out) (by omega) (by omega)).mono ?_
  rintro e w14 ⟨vt40, vt41, rfl, hot40, hot41, hat4, hbt4⟩
  obtain ⟨At40, ct40, hvt40, hcapt40, _⟩ := OwnR.form fSt_len hot40
  subst hvt40
  obtain ⟨At41, ct41, hvt41, hcapt41, _⟩ := OwnR.form fPu_len hot41
  subst hvt41
  have HAp_r20_t40 := Lib.hid (apart5 (fun k hk => (Hr20_15.out.lt k hk).2) (fun k hk => (hot40.lt k hk).1))
  have HAp_r30_t40 := Lib.hid (apart5 (fun k hk => (Hr30_15.out.lt k hk).2) (fun k hk => (hot40.lt k hk).1))
  have HAp_r20_t41 := Lib.hid (apart5 (fun k hk => (Hr20_15.out.lt k hk).2) (fun k hk => (hot41.lt k hk).1))
  have HAp_r30_t41 := Lib.hid (apart5 (fun k hk => (Hr30_15.out.lt k hk).2) (fun k hk => (hot41.lt k hk).1))
  have HNX_aD_t40 := Lib.hid (fun g hg => Nat.ne_of_gt (Nat.lt_of_lt_of_le (heap_lt KaD_15.out) (hot40.lt g hg).1))
  have HNX_aD_t41 := Lib.hid (fun g hg => Nat.ne_of_gt (Nat.lt_of_lt_of_le (heap_lt KaD_15.out) (hot41.lt g hg).1))
  have HAp_t40_t41 := Lib.hid hat4
  have Hr20_16 := Lib.hid (Hr20_15.out.below hbt4)
  have Hr30_16 := Lib.hid (Hr30_15.out.below hbt4)
  have Ht40_16 := Lib.hid (hot40.lower HB_15.out.size)
  have Ht41_16 := Lib.hid (hot41.lower HB_15.out.size)
  have KaD_16 := Lib.hid ((hbt4.block _ (heap_lt KaD_15.out)).trans KaD_15.out)
  have HB_16 := Lib.hid (below_more HB_15.out hbt4)
  clear Hr20_15 Hr30_15 KaD_15 HB_15 hot40 hot41 hat4 hbt4
  have caD_0 : w14.cell? ⟨w.heap.size, 0, none⟩ = some (.slice A ss.length ca) := cell_of_row _ _ 0 _ _ _ KaD_16.out
  have caD_1 : w14.cell? ⟨w.heap.size, 1, none⟩ = some (.slice B ps.length cb) := cell_of_row _ _ 1 _ _ _ KaD_16.out
  go_wp2_with fail
  clear caD_0 caD_1
  refine (HI.out At40 At41 ct40 ct41 _ (hK _ _ HW.out HB_16.out) ⟨(OwnR.rd fSt_len Ht40_16.out), (OwnR.rd fPu_len Ht41_16.out), by omega, by omega, HZs.out, HZp.out⟩ (ownR_lies Ht40_16.out) (ownR_lies Ht41_16.out)).mono ?_
  rintro e w15 ⟨vr50, rfl, hor50, hbr5⟩
  obtain ⟨Ar50, cr50, hvr50, hcapr50, _⟩ := OwnR.form fRe_len hor50
  subst hvr50
  have HAp_r20_r50 := Lib.hid (apart5 (fun k hk => (Hr20_16.out.lt k hk).2) (fun k hk => (hor50.lt k hk).1))
  have HAp_r30_r50 := Lib.hid (apart5 (fun k hk => (Hr30_16.out.lt k hk).2) (fun k hk => (hor50.lt k hk).1))
  have HAp_t40_r50 := Lib.hid (apart5 (fun k hk => (Ht40_16.out.lt k hk).2) (fun k hk => (hor50.lt k hk).1))
  have HAp_t41_r50 := Lib.hid (apart5 (fun k hk => (Ht41_16.out.lt k hk).2) (fun k hk => (hor50.lt k hk).1))
  have HNX_aD_r50 := Lib.hid (fun g hg => Nat.ne_of_gt (Nat.lt_of_lt_of_le (heap_lt KaD_16.out) (hor50.lt g hg).1))
  have Hr20_17 := Lib.hid (Hr20_16.out.below hbr5)
  have Hr30_17 := Lib.hid (Hr30_16.out.below hbr5)
  have Ht40_17 := Lib.hid (Ht40_16.out.below hbr5)
  have Ht41_17 := Lib.hid (Ht41_16.out.below hbr5)
  have Hr50_17 := Lib.hid (hor50.lower HB_16.out.size)
  have KaD_17 := Lib.hid ((hbr5.block _ (heap_lt KaD_16.out)).trans KaD_16.out)
  have HB_17 := Lib.hid (below_more HB_16.out hbr5)
  clear Hr20_16 Hr30_16 Ht40_16 Ht41_16 KaD_16 HB_16 hor50 hbr5
  clear Ht40_17 Ht41_17
  have caD_0 : w15.cell? ⟨w.heap.size, 0, none⟩ = some (.slice A ss.length ca) := cell_of_row _ _ 0 _ _ _ KaD_17.out
  have caD_1 : w15.cell? ⟨w.heap.size, 1, none⟩ = some (.slice B ps.length cb) := cell_of_row _ _ 1 _ _ _ KaD_17.out
  go_wp2_with fail
  clear caD_0 caD_1
  refine (eqReS_self Ar50 Ar20 V cr50 cr20 _ (OwnR.rd fRe_len Hr50_17.out) (OwnR.rd fRe_len Hr20_17.out) (by omega)).mono ?_
  rintro e w16 ⟨rfl, hbq⟩
  have Hr20_18 := Lib.hid (Hr20_17.out.below hbq)
  have Hr30_18 := Lib.hid (Hr30_17.out.below hbq)
  have Hr50_18 := Lib.hid (Hr50_17.out.below hbq)
  have KaD_18 := Lib.hid ((hbq.block _ (heap_lt KaD_17.out)).trans KaD_17.out)
  have HB_18 := Lib.hid (below_more HB_17.out hbq)
  clear Hr20_17 Hr30_17 Hr50_17 KaD_17 HB_17
  clear hbq
  clear Hr20_18
  clear Hr50_18
  have caD_0 : w16.cell? ⟨w.heap.size, 0, none⟩ = some (.slice A ss.length ca) := cell_of_row _ _ 0 _ _ _ KaD_18.out
  have caD_1 : w16.cell? ⟨w.heap.size, 1, none⟩ = some (.slice B ps.length cb) := cell_of_row _ _ 1 _ _ _ KaD_18.out
  go_wp2_with fail
  clear caD_0 caD_1
  refine (heldReS_any Ar30 1 V.length cr30 _ (OwnR.rd fRe_len Hr30_18.out) (by omega) (by omega) (by omega)).mono ?_
  rintro e w17 ⟨rfl, hbq⟩
  have Hr30_19 := Lib.hid (Hr30_18.out.below hbq)
  have KaD_19 := Lib.hid ((hbq.block _ (heap_lt KaD_18.out)).trans KaD_18.out)
  have HB_19 := Lib.hid (below_more HB_18.out hbq)
  clear Hr30_18 KaD_18 HB_18
  clear hbq
  go_wp2_with fail
  go_ret
  exact ⟨rfl, HB_19.out⟩

set_option maxRecDepth 100000 in
set_option maxHeartbeats 8000000 in
theorem nextNo_law {K : World → Prop} (hK : Stays5 K) (hI : ∀ (A B : Option Addr) (ss : List ByteArray) (ps : List (Int × ByteArray)) (ca cb : Nat) (w : World), K w → DiskIn w A B ss ps → Lies9 A ca → Lies9 B cb → Calls Tryd.prog 8 #[diskV (.slice A ss.length ca) (.slice B ps.length cb)] w fun e w' => e = .returned (.tuple #[.int .i64 ((nnI ss ps : Nat)), .bool (nnOkB ss ps)]) ∧ Below w.heap.size w w')
    (A B : Option Addr) (ss : List ByteArray) (ps : List (Int × ByteArray)) (ca cb : Nat) (w : World) (hw : K w) (hA : Strs w A ss) (hB : Puts w B ps) (hl : ss.length ≤ 9223372036854775807) (hz : ∀ s ∈ ss, s.size ≤ 9223372036854775807) (hl2 : ps.length ≤ 9223372036854775807) (hz2 : ∀ p ∈ ps, p.2.size ≤ 9223372036854775807) : Calls Tryd.prog 6 #[diskV (.slice A ss.length ca) (.slice B ps.length cb)] w fun e w' => e = .returned (.bool true) ∧ Below w.heap.size w w' := by
  have HRA := Lib.hid hA
  have HRB := Lib.hid hB
  have HZ := Lib.hid hz
  have HZ2 := Lib.hid hz2
  have HI := Lib.hid (fun A B ca cb w hk hd hA hB => hI A B ss ps ca cb w hk hd hA hB)
  have HW := Lib.hid hw
  have HS0 := Lib.hid (fun A B ca cb w hd => sNextNo_any A B ss ps ca cb w hd)
  clear hI hw hA hB hz hz2
  generalize nnI ss ps = rr at *
  generalize nnOkB ss ps = bb at *
  obtain ⟨w1, hw1⟩ : ∃ wn, w.alloc (.cells #[.slice A ss.length ca, .slice B ps.length cb] 51) = wn := ⟨_, rfl⟩
  have hbx : Below w.heap.size w w1 := by rw [← hw1]; exact gAlloc _ _
  have KX : w1.heap[w.heap.size]? = some (.cells #[.slice A ss.length ca, .slice B ps.length cb] 51 (0, 0)) := by rw [← hw1]; exact heap_alloc_new _ _
  have HB_2 := Lib.hid (hbx)
  have KaD_1 := Lib.hid KX
  clear hbx KX
  go_enter Tryd.func6, Tryd.ntmps6
  have caD_0 : w1.cell? ⟨w.heap.size, 0, none⟩ = some (.slice A ss.length ca) := cell_of_row _ _ 0 _ _ _ KaD_1.out
  have caD_1 : w1.cell? ⟨w.heap.size, 1, none⟩ = some (.slice B ps.length cb) := cell_of_row _ _ 1 _ _ _ KaD_1.out
  go_wp2_with fail
  clear caD_0 caD_1 hw1
  refine (szDisk_any A B ss ps ca cb 1048576 _ (HRA.out.below HB_2.out) (HRB.out.below HB_2.out) hl HZ.out hl2 HZ2.out (by omega) (by omega)).mono ?_
  rintro e w2 ⟨rz, rfl, hrz, hbq⟩
  have KaD_3 := Lib.hid ((hbq.block _ (heap_lt KaD_1.out)).trans KaD_1.out)
  have HB_3 := Lib.hid (below_more HB_2.out hbq)
  clear KaD_1 HB_2
  clear hbq
  rcases hrz with hrz | ⟨hrz0, hrz1, hrz2, hrz3⟩
  · go_wp2_with fail
    go_ret
    exact ⟨rfl, HB_3.out⟩
  have HZs := Lib.hid hrz2
  have HZp := Lib.hid hrz3
  have hls : ss.length ≤ 1048576 := by omega
  have hlp : ps.length ≤ 1048576 := by omega
  have hlt : ss.length + ps.length ≤ 1048576 := by omega
  have hrzn : ¬ rz < 0 := by omega
  clear hrz2 hrz3 HZ HZ2 hl hl2 hrz1
  have caD_0 : w2.cell? ⟨w.heap.size, 0, none⟩ = some (.slice A ss.length ca) := cell_of_row _ _ 0 _ _ _ KaD_3.out
  have caD_1 : w2.cell? ⟨w.heap.size, 1, none⟩ = some (.slice B ps.length cb) := cell_of_row _ _ 1 _ _ _ KaD_3.out
  go_wp2_with fail
  clear caD_0 caD_1
  refine (toDisk_any A B ss ps ca cb _ (HRA.out.below HB_3.out) (HRB.out.below HB_3.out) (by omega) (by omega)).mono ?_
  rintro e w3 ⟨vt10, vt11, rfl, hot10, hot11, hat1, hbt1⟩
  obtain ⟨At10, ct10, hvt10, hcapt10, _⟩ := OwnR.form fSt_len hot10
  subst hvt10
  obtain ⟨At11, ct11, hvt11, hcapt11, _⟩ := OwnR.form fPu_len hot11
  subst hvt11
  have HNX_aD_t10 := Lib.hid (fun g hg => Nat.ne_of_gt (Nat.lt_of_lt_of_le (heap_lt KaD_3.out) (hot10.lt g hg).1))
  have HNX_aD_t11 := Lib.hid (fun g hg => Nat.ne_of_gt (Nat.lt_of_lt_of_le (heap_lt KaD_3.out) (hot11.lt g hg).1))
  have HAp_t10_t11 := Lib.hid hat1
  have Ht10_4 := Lib.hid (hot10.lower HB_3.out.size)
  have Ht11_4 := Lib.hid (hot11.lower HB_3.out.size)
  have KaD_4 := Lib.hid ((hbt1.block _ (heap_lt KaD_3.out)).trans KaD_3.out)
  have HB_4 := Lib.hid (below_more HB_3.out hbt1)
  clear KaD_3 HB_3 hot10 hot11 hat1 hbt1
  have caD_0 : w3.cell? ⟨w.heap.size, 0, none⟩ = some (.slice A ss.length ca) := cell_of_row _ _ 0 _ _ _ KaD_4.out
  have caD_1 : w3.cell? ⟨w.heap.size, 1, none⟩ = some (.slice B ps.length cb) := cell_of_row _ _ 1 _ _ _ KaD_4.out
  go_wp2_with fail
  clear caD_0 caD_1
  refine (HS0.out At10 At11 ct10 ct11 _ ⟨(OwnR.rd fSt_len Ht10_4.out), (OwnR.rd fPu_len Ht11_4.out), by omega, by omega, HZs.out, HZp.out⟩).mono ?_
  rintro e w4 ⟨rfl, hbq⟩
  have Ht10_5 := Lib.hid (Ht10_4.out.below hbq)
  have Ht11_5 := Lib.hid (Ht11_4.out.below hbq)
  have KaD_5 := Lib.hid ((hbq.block _ (heap_lt KaD_4.out)).trans KaD_4.out)
  have HB_5 := Lib.hid (below_more HB_4.out hbq)
  clear Ht10_4 Ht11_4 KaD_4 HB_4
  clear hbq
  clear Ht10_5 Ht11_5
  have caD_0 : w4.cell? ⟨w.heap.size, 0, none⟩ = some (.slice A ss.length ca) := cell_of_row _ _ 0 _ _ _ KaD_5.out
  have caD_1 : w4.cell? ⟨w.heap.size, 1, none⟩ = some (.slice B ps.length cb) := cell_of_row _ _ 1 _ _ _ KaD_5.out
  go_wp2_with fail
  clear caD_0 caD_1
  refine (toDisk_any A B ss ps ca cb _ (HRA.out.below HB_5.out) (HRB.out.below HB_5.out) (by omega) (by omega)).mono ?_
  rintro e w5 ⟨vx00, vx01, rfl, hox00, hox01, hax0, hbx0⟩
  obtain ⟨Ax00, cx00, hvx00, hcapx00, _⟩ := OwnR.form fSt_len hox00
  subst hvx00
  obtain ⟨Ax01, cx01, hvx01, hcapx01, _⟩ := OwnR.form fPu_len hox01
  subst hvx01
  have HNX_aD_x00 := Lib.hid (fun g hg => Nat.ne_of_gt (Nat.lt_of_lt_of_le (heap_lt KaD_5.out) (hox00.lt g hg).1))
  have HNX_aD_x01 := Lib.hid (fun g hg => Nat.ne_of_gt (Nat.lt_of_lt_of_le (heap_lt KaD_5.out) (hox01.lt g hg).1))
  have HAp_x00_x01 := Lib.hid hax0
  have Hx00_6 := Lib.hid (hox00.lower HB_5.out.size)
  have Hx01_6 := Lib.hid (hox01.lower HB_5.out.size)
  have KaD_6 := Lib.hid ((hbx0.block _ (heap_lt KaD_5.out)).trans KaD_5.out)
  have HB_6 := Lib.hid (below_more HB_5.out hbx0)
  clear KaD_5 HB_5 hox00 hox01 hax0 hbx0
  obtain ⟨w6, hw7⟩ : ∃ wn, w5.alloc (.cells #[.slice Ax00 ss.length cx00, .slice Ax01 ps.length cx01] 26) = wn := ⟨_, rfl⟩
  have hbx : Below w5.heap.size w5 w6 := by rw [← hw7]; exact gAlloc _ _
  have KX : w6.heap[w5.heap.size]? = some (.cells #[.slice Ax00 ss.length cx00, .slice Ax01 ps.length cx01] 26 (0, 0)) := by rw [← hw7]; exact heap_alloc_new _ _
  have HNX_x0_x00 := Lib.hid (fun g hg => Nat.ne_of_lt (Hx00_6.out.lt g hg).2)
  have HNX_x0_x01 := Lib.hid (fun g hg => Nat.ne_of_lt (Hx01_6.out.lt g hg).2)
  have Hx00_8 := Lib.hid (Hx00_6.out.below hbx)
  have Hx01_8 := Lib.hid (Hx01_6.out.below hbx)
  have KaD_8 := Lib.hid ((hbx.block _ (heap_lt KaD_6.out)).trans KaD_6.out)
  have HB_8 := Lib.hid (below_more HB_6.out hbx)
  clear Hx00_6 Hx01_6 KaD_6 HB_6
  have Kx0_7 := Lib.hid KX
  clear hbx KX
  have caD_0 : w6.cell? ⟨w.heap.size, 0, none⟩ = some (.slice A ss.length ca) := cell_of_row _ _ 0 _ _ _ KaD_8.out
  have caD_1 : w6.cell? ⟨w.heap.size, 1, none⟩ = some (.slice B ps.length cb) := cell_of_row _ _ 1 _ _ _ KaD_8.out
  have cx0_0 : w6.cell? ⟨w5.heap.size, 0, none⟩ = some (.slice Ax00 ss.length cx00) := cell_of_row _ _ 0 _ _ _ Kx0_7.out
  have cx0_1 : w6.cell? ⟨w5.heap.size, 1, none⟩ = some (.slice Ax01 ps.length cx01) := cell_of_row _ _ 1 _ _ _ Kx0_7.out
  go_wp2_with fail
  clear caD_0 caD_1 cx0_0 cx0_1 hw7
  refine (HI.out Ax00 Ax01 cx00 cx01 _ (hK _ _ HW.out HB_8.out) ⟨(OwnR.rd fSt_len Hx00_8.out), (OwnR.rd fPu_len Hx01_8.out), by omega, by omega, HZs.out, HZp.out⟩ (ownR_lies Hx00_8.out) (ownR_lies Hx01_8.out)).mono ?_
  rintro e w7 ⟨rfl, hbq⟩
  have Hx00_9 := Lib.hid (Hx00_8.out.below hbq)
  have Hx01_9 := Lib.hid (Hx01_8.out.below hbq)
  have KaD_9 := Lib.hid ((hbq.block _ (heap_lt KaD_8.out)).trans KaD_8.out)
  have Kx0_9 := Lib.hid ((hbq.block _ (heap_lt Kx0_7.out)).trans Kx0_7.out)
  have HB_9 := Lib.hid (below_more HB_8.out hbq)
  clear Hx00_8 Hx01_8 KaD_8 Kx0_7 HB_8
  clear hbq
  have caD_0 : w7.cell? ⟨w.heap.size, 0, none⟩ = some (.slice A ss.length ca) := cell_of_row _ _ 0 _ _ _ KaD_9.out
  have caD_1 : w7.cell? ⟨w.heap.size, 1, none⟩ = some (.slice B ps.length cb) := cell_of_row _ _ 1 _ _ _ KaD_9.out
  have cx0_0 : w7.cell? ⟨w5.heap.size, 0, none⟩ = some (.slice Ax00 ss.length cx00) := cell_of_row _ _ 0 _ _ _ Kx0_9.out
  have cx0_1 : w7.cell? ⟨w5.heap.size, 1, none⟩ = some (.slice Ax01 ps.length cx01) := cell_of_row _ _ 1 _ _ _ Kx0_9.out
  go_wp2_with fail
  go_region_held3 (fun w' => w'.cell? ⟨w5.heap.size, 0, none⟩ = some (.slice Ax00 ss.length cx00) ∧ w'.cell? ⟨w5.heap.size, 1, none⟩ = some (.slice Ax01 ps.length cx01) ∧ w'.cell? ⟨w.heap.size, 0, none⟩ = some (.slice A ss.length ca) ∧ w'.cell? ⟨w.heap.size, 1, none⟩ = some (.slice B ps.length cb)) (first | exact ⟨cx0_0, cx0_1, caD_0, caD_1⟩ | exact ⟨rr0, rr1, rr2, rr3⟩ | exact ⟨srr0, srr1, srr2, srr3⟩ | go_keep) (first
    | (go_at_call 25; refine (toDisk_any A B ss ps ca cb _ ((HRA.out.below HB_9.out).below gDrew) ((HRB.out.below HB_9.out).below gDrew) (by omega) (by omega)).mono ?_; rintro e we ⟨ve0, ve1, rfl, hoe0, hoe1, hae, hbe⟩; have rr0 := (hbe.cell (World.block_lt_of_cell? _ _ cx0_0)).trans cx0_0; have rr1 := (hbe.cell (World.block_lt_of_cell? _ _ cx0_1)).trans cx0_1; have rr2 := (hbe.cell (World.block_lt_of_cell? _ _ caD_0)).trans caD_0; have rr3 := (hbe.cell (World.block_lt_of_cell? _ _ caD_1)).trans caD_1; obtain ⟨Ae0, ce0, rfl, hcape0, _⟩ := OwnR.form fSt_len hoe0; obtain ⟨Ae1, ce1, rfl, hcape1, _⟩ := OwnR.form fPu_len hoe1)
    | (go_at_call 27; refine (eqDisk_self Ax00 Ax01 Ae0 Ae1 ss ps cx00 cx01 ce0 ce1 _ (OwnR.rd fSt_len (Lib.hid ((Hx00_9.out.below gDrew).below hbe)).out) (OwnR.rd fPu_len (Lib.hid ((Hx01_9.out.below gDrew).below hbe)).out) (OwnR.rd fSt_len (Lib.hid hoe0).out) (OwnR.rd fPu_len (Lib.hid hoe1).out) (by omega) (by omega)).mono ?_; rintro e w8 ⟨rfl, hbf⟩; have srr0 := (hbf.cell (World.block_lt_of_cell? _ _ rr0)).trans rr0; have srr1 := (hbf.cell (World.block_lt_of_cell? _ _ rr1)).trans rr1; have srr2 := (hbf.cell (World.block_lt_of_cell? _ _ rr2)).trans rr2; have srr3 := (hbf.cell (World.block_lt_of_cell? _ _ rr3)).trans rr3))
  have hbq := below_more gDrew (below_more hbe hbf)
  clear srr0 srr1 srr2 srr3 rr0 rr1 rr2 rr3 caD_0 caD_1 cx0_0 cx0_1 hoe0 hoe1 hae
  have Hx00_10 := Lib.hid (Hx00_9.out.below hbq)
  have Hx01_10 := Lib.hid (Hx01_9.out.below hbq)
  have KaD_10 := Lib.hid ((hbq.block _ (heap_lt KaD_9.out)).trans KaD_9.out)
  have Kx0_10 := Lib.hid ((hbq.block _ (heap_lt Kx0_9.out)).trans Kx0_9.out)
  have HB_10 := Lib.hid (below_more HB_9.out hbq)
  clear Hx00_9 Hx01_9 KaD_9 Kx0_9 HB_9
  clear hbq hbe hbf
  clear Hx00_10 Hx01_10
  clear Kx0_10
  go_wp2_with fail
  go_ret
  exact ⟨rfl, HB_10.out⟩

end Go.Proofs.YthbjcipdneminaaDoor
