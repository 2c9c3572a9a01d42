/-
  The exact laws of chapter 9, walked, whatever the program's own texts are.
-/
import Derived.Test.YtkmlgeicmnbkiaaKY
import Derived.Test.YtkmlgeicmnbkiaaVO
namespace Go.Proofs.Ytkmlgeicmnbkiaa
open Go.RowKit

set_option maxRecDepth 100000 in
set_option maxHeartbeats 8000000 in
theorem goodDisk_law {K : World → Prop} (hK : Stays5 K) (hI : ∀ (A B : Option Addr) (ss : List ByteArray) (ps : List (Int × ByteArray)) (ca cb : Nat) (w : World), K w → DiskIn w A B ss ps → Lies9 A ca → Lies9 B cb → Calls Try.prog 16 #[diskV (.slice A ss.length ca) (.slice B ps.length cb)] w fun e w' => e = .returned (.bool (goodDB ss ps)) ∧ Below w.heap.size w w')
    (A B : Option Addr) (ss : List ByteArray) (ps : List (Int × ByteArray)) (ca cb : Nat) (w : World) (hw : K w) (hA : Strs w A ss) (hB : Puts w B ps) (hl : ss.length ≤ 9223372036854775807) (hz : ∀ s ∈ ss, s.size ≤ 9223372036854775807) (hl2 : ps.length ≤ 9223372036854775807) (hz2 : ∀ p ∈ ps, p.2.size ≤ 9223372036854775807) : Calls Try.prog 6 #[diskV (.slice A ss.length ca) (.slice B ps.length cb)] w fun e w' => e = .returned (.bool true) ∧ Below w.heap.size w w' := by
  have HRA := Lib.hid hA
  have HRB := Lib.hid hB
  have HZ := Lib.hid hz
  have HZ2 := Lib.hid hz2
  have HI := Lib.hid (fun A B ca cb w hk hd hA hB => hI A B ss ps ca cb w hk hd hA hB)
  have HW := Lib.hid hw
  have HS0 := Lib.hid (fun A B ca cb w hd => sGoodD_any A B ss ps ca cb w hd)
  clear hI hw hA hB hz hz2
  generalize goodDB ss ps = bb at *
  obtain ⟨w1, hw1⟩ : ∃ wn, w.alloc (.cells #[.slice A ss.length ca, .slice B ps.length cb] 52) = wn := ⟨_, rfl⟩
  have hbx : Below w.heap.size w w1 := by rw [← hw1]; exact gAlloc _ _
  have KX : w1.heap[w.heap.size]? = some (.cells #[.slice A ss.length ca, .slice B ps.length cb] 52 (0, 0)) := by rw [← hw1]; exact heap_alloc_new _ _
  have HB_2 := Lib.hid (hbx)
  have KaD_1 := Lib.hid KX
  clear hbx KX
  go_enter Try.func6, Try.ntmps6
  have caD_0 : w1.cell? ⟨w.heap.size, 0, none⟩ = some (.slice A ss.length ca) := cell_of_row _ _ 0 _ _ _ KaD_1.out
  have caD_1 : w1.cell? ⟨w.heap.size, 1, none⟩ = some (.slice B ps.length cb) := cell_of_row _ _ 1 _ _ _ KaD_1.out
  go_wp2_with fail
  clear caD_0 caD_1 hw1
  refine (szDisk_any A B ss ps ca cb 1048576 _ (HRA.out.below HB_2.out) (HRB.out.below HB_2.out) hl HZ.out hl2 HZ2.out (by omega) (by omega)).mono ?_
  rintro e w2 ⟨rz, rfl, hrz, hbq⟩
  have KaD_3 := Lib.hid ((hbq.block _ (heap_lt KaD_1.out)).trans KaD_1.out)
  have HB_3 := Lib.hid (below_more HB_2.out hbq)
  clear KaD_1 HB_2
  clear hbq
  rcases hrz with hrz | ⟨hrz0, hrz1, hrz2, hrz3⟩
  · go_wp2_with fail
    go_ret
    exact ⟨rfl, HB_3.out⟩
  have HZs := Lib.hid hrz2
  have HZp := Lib.hid hrz3
  have hls : ss.length ≤ 1048576 := by omega
  have hlp : ps.length ≤ 1048576 := by omega
  have hlt : ss.length + ps.length ≤ 1048576 := by omega
  have hrzn : ¬ rz < 0 := by omega
  clear hrz2 hrz3 HZ HZ2 hl hl2 hrz1
  have caD_0 : w2.cell? ⟨w.heap.size, 0, none⟩ = some (.slice A ss.length ca) := cell_of_row _ _ 0 _ _ _ KaD_3.out
  have caD_1 : w2.cell? ⟨w.heap.size, 1, none⟩ = some (.slice B ps.length cb) := cell_of_row _ _ 1 _ _ _ KaD_3.out
  go_wp2_with fail
  clear caD_0 caD_1
  refine (toDisk_any A B ss ps ca cb _ (HRA.out.below HB_3.out) (HRB.out.below HB_3.out) (by omega) (by omega)).mono ?_
  rintro e w3 ⟨vt10, vt11, rfl, hot10, hot11, hat1, hbt1⟩
  obtain ⟨At10, ct10, hvt10, hcapt10, _⟩ := OwnR.form fSt_len hot10
  subst hvt10
  obtain ⟨At11, ct11, hvt11, hcapt11, _⟩ := OwnR.form fPu_len hot11
  subst hvt11
  have HNX_aD_t10 := Lib.hid (fun g hg => Nat.ne_of_gt (Nat.lt_of_lt_of_le (heap_lt KaD_3.out) (hot10.lt g hg).1))
  have HNX_aD_t11 := Lib.hid (fun g hg => Nat.ne_of_gt (Nat.lt_of_lt_of_le (heap_lt KaD_3.out) (hot11.lt g hg).1))
  have HAp_t10_t11 := Lib.hid hat1
  have Ht10_4 := Lib.hid (hot10.lower HB_3.out.size)
  have Ht11_4 := Lib.hid (hot11.lower HB_3.out.size)
  have KaD_4 := Lib.hid ((hbt1.block _ (heap_lt KaD_3.out)).trans KaD_3.out)
  have HB_4 := Lib.hid (below_more HB_3.out hbt1)
  clear KaD_3 HB_3 hot10 hot11 hat1 hbt1
  have caD_0 : w3.cell? ⟨w.heap.size, 0, none⟩ = some (.slice A ss.length ca) := cell_of_row _ _ 0 _ _ _ KaD_4.out
  have caD_1 : w3.cell? ⟨w.heap.size, 1, none⟩ = some (.slice B ps.length cb) := cell_of_row _ _ 1 _ _ _ KaD_4.out
  go_wp2_with fail
  clear caD_0 caD_1
  refine (HS0.out At10 At11 ct10 ct11 _ ⟨(OwnR.rd fSt_len Ht10_4.out), (OwnR.rd fPu_len Ht11_4.out), by omega, by omega, HZs.out, HZp.out⟩).mono ?_
  rintro e w4 ⟨rfl, hbq⟩
  have Ht10_5 := Lib.hid (Ht10_4.out.below hbq)
  have Ht11_5 := Lib.hid (Ht11_4.out.below hbq)
  have KaD_5 := Lib.hid ((hbq.block _ (heap_lt KaD_4.out)).trans KaD_4.out)
  have HB_5 := Lib.hid (below_more HB_4.out hbq)
  clear Ht10_4 Ht11_4 KaD_4 HB_4
  clear hbq
  clear Ht10_5 Ht11_5
  have caD_0 : w4.cell? ⟨w.heap.size, 0, none⟩ = some (.slice A ss.length ca) := cell_of_row _ _ 0 _ _ _ KaD_5.out
  have caD_1 : w4.cell? ⟨w.heap.size, 1, none⟩ = some (.slice B ps.length cb) := cell_of_row _ _ 1 _ _ _ KaD_5.out
  go_wp2_with fail
  clear caD_0 caD_1
  refine (toDisk_any A B ss ps ca cb _ (HRA.out.below HB_5.out) (HRB.out.below HB_5.out) (by omega) (by omega)).mono ?_
  rintro e w5 ⟨vx00, vx01, rfl, hox00, hox01, hax0, hbx0⟩
  obtain ⟨Ax00, cx00, hvx00, hcapx00, _⟩ := OwnR.form fSt_len hox00
  subst hvx00
  obtain ⟨Ax01, cx01, hvx01, hcapx01, _⟩ := OwnR.form fPu_len hox01
  subst hvx01
  have HNX_aD_x00 := Lib.hid (fun g hg => Nat.ne_of_gt (Nat.lt_of_lt_of_le (heap_lt KaD_5.out) (hox00.lt g hg).1))
  have HNX_aD_x01 := Lib.hid (fun g hg => Nat.ne_of_gt (Nat.lt_of_lt_of_le (heap_lt KaD_5.out) (hox01.lt g hg).1))
  have HAp_x00_x01 := Lib.hid hax0
  have Hx00_6 := Lib.hid (hox00.lower HB_5.out.size)
  have Hx01_6 := Lib.hid (hox01.lower HB_5.out.size)
  have KaD_6 := Lib.hid ((hbx0.block _ (heap_lt KaD_5.out)).trans KaD_5.out)
  have HB_6 := Lib.hid (below_more HB_5.out hbx0)
  clear KaD_5 HB_5 hox00 hox01 hax0 hbx0
  obtain ⟨w6, hw7⟩ : ∃ wn, w5.alloc (.cells #[.slice Ax00 ss.length cx00, .slice Ax01 ps.length cx01] 26) = wn := ⟨_, rfl⟩
  have hbx : Below w5.heap.size w5 w6 := by rw [← hw7]; exact gAlloc _ _
  have KX : w6.heap[w5.heap.size]? = some (.cells #[.slice Ax00 ss.length cx00, .slice Ax01 ps.length cx01] 26 (0, 0)) := by rw [← hw7]; exact heap_alloc_new _ _
  have HNX_x0_x00 := Lib.hid (fun g hg => Nat.ne_of_lt (Hx00_6.out.lt g hg).2)
  have HNX_x0_x01 := Lib.hid (fun g hg => Nat.ne_of_lt (Hx01_6.out.lt g hg).2)
  have Hx00_8 := Lib.hid (Hx00_6.out.below hbx)
  have Hx01_8 := Lib.hid (Hx01_6.out.below hbx)
  have KaD_8 := Lib.hid ((hbx.block _ (heap_lt KaD_6.out)).trans KaD_6.out)
  have HB_8 := Lib.hid (below_more HB_6.out hbx)
  clear Hx00_6 Hx01_6 KaD_6 HB_6
  have Kx0_7 := Lib.hid KX
  clear hbx KX
  have caD_0 : w6.cell? ⟨w.heap.size, 0, none⟩ = some (.slice A ss.length ca) := cell_of_row _ _ 0 _ _ _ KaD_8.out
  have caD_1 : w6.cell? ⟨w.heap.size, 1, none⟩ = some (.slice B ps.length cb) := cell_of_row _ _ 1 _ _ _ KaD_8.out
  have cx0_0 : w6.cell? ⟨w5.heap.size, 0, none⟩ = some (.slice Ax00 ss.length cx00) := cell_of_row _ _ 0 _ _ _ Kx0_7.out
  have cx0_1 : w6.cell? ⟨w5.heap.size, 1, none⟩ = some (.slice Ax01 ps.length cx01) := cell_of_row _ _ 1 _ _ _ Kx0_7.out
  go_wp2_with fail
  clear caD_0 caD_1 cx0_0 cx0_1 hw7
  refine (HI.out Ax00 Ax01 cx00 cx01 _ (hK _ _ HW.out HB_8.out) ⟨(OwnR.rd fSt_len Hx00_8.out), (OwnR.rd fPu_len Hx01_8.out), by omega, by omega, HZs.out, HZp.out⟩ (ownR_lies Hx00_8.out) (ownR_lies Hx01_8.out)).mono ?_
  rintro e w7 ⟨rfl, hbq⟩
  have Hx00_9 := Lib.hid (Hx00_8.out.below hbq)
  have Hx01_9 := Lib.hid (Hx01_8.out.below hbq)
  have KaD_9 := Lib.hid ((hbq.block _ (heap_lt KaD_8.out)).trans KaD_8.out)
  have Kx0_9 := Lib.hid ((hbq.block _ (heap_lt Kx0_7.out)).trans Kx0_7.out)
  have HB_9 := Lib.hid (below_more HB_8.out hbq)
  clear Hx00_8 Hx01_8 KaD_8 Kx0_7 HB_8
  clear hbq
  have caD_0 : w7.cell? ⟨w.heap.size, 0, none⟩ = some (.slice A ss.length ca) := cell_of_row _ _ 0 _ _ _ KaD_9.out
  have caD_1 : w7.cell? ⟨w.heap.size, 1, none⟩ = some (.slice B ps.length cb) := cell_of_row _ _ 1 _ _ _ KaD_9.out
  have cx0_0 : w7.cell? ⟨w5.heap.size, 0, none⟩ = some (.slice Ax00 ss.length cx00) := cell_of_row _ _ 0 _ _ _ Kx0_9.out
  have cx0_1 : w7.cell? ⟨w5.heap.size, 1, none⟩ = some (.slice Ax01 ps.length cx01) := cell_of_row _ _ 1 _ _ _ Kx0_9.out
  go_wp2_with fail
  go_region_held3 (fun w' => w'.cell? ⟨w5.heap.size, 0, none⟩ = some (.slice Ax00 ss.length cx00) ∧ w'.cell? ⟨w5.heap.size, 1, none⟩ = some (.slice Ax01 ps.length cx01) ∧ w'.cell? ⟨w.heap.size, 0, none⟩ = some (.slice A ss.length ca) ∧ w'.cell? ⟨w.heap.size, 1, none⟩ = some (.slice B ps.length cb)) (first | exact ⟨cx0_0, cx0_1, caD_0, caD_1⟩ | exact ⟨rr0, rr1, rr2, rr3⟩ | exact ⟨srr0, srr1, srr2, srr3⟩ | go_keep) (first
    | (go_at_call 36; refine (toDisk_any A B ss ps ca cb _ ((HRA.out.below HB_9.out).below gDrew) ((HRB.out.below HB_9.out).below gDrew) (by omega) (by omega)).mono ?_; rintro e we ⟨ve0, ve1, rfl, hoe0, hoe1, hae, hbe⟩; have rr0 := (hbe.cell (World.block_lt_of_cell? _ _ cx0_0)).trans cx0_0; have rr1 := (hbe.cell (World.block_lt_of_cell? _ _ cx0_1)).trans cx0_1; have rr2 := (hbe.cell (World.block_lt_of_cell? _ _ caD_0)).trans caD_0; have rr3 := (hbe.cell (World.block_lt_of_cell? _ _ caD_1)).trans caD_1; obtain ⟨Ae0, ce0, rfl, hcape0, _⟩ := OwnR.form fSt_len hoe0; obtain ⟨Ae1, ce1, rfl, hcape1, _⟩ := OwnR.form fPu_len hoe1)
    | (go_at_call 32; refine (eqDisk_self Ax00 Ax01 Ae0 Ae1 ss ps cx00 cx01 ce0 ce1 _ (OwnR.rd fSt_len (Lib.hid ((Hx00_9.out.below gDrew).below hbe)).out) (OwnR.rd fPu_len (Lib.hid ((Hx01_9.out.below gDrew).below hbe)).out) (OwnR.rd fSt_len (Lib.hid hoe0).out) (OwnR.rd fPu_len (Lib.hid hoe1).out) (by omega) (by omega)).mono ?_; rintro e w8 ⟨rfl, hbf⟩; have srr0 := (hbf.cell (World.block_lt_of_cell? _ _ rr0)).trans rr0; have srr1 := (hbf.cell (World.block_lt_of_cell? _ _ rr1)).trans rr1; have srr2 := (hbf.cell (World.block_lt_of_cell? _ _ rr2)).trans rr2; have srr3 := (hbf.cell (World.block_lt_of_cell? _ _ rr3)).trans rr3))
  have hbq := below_more gDrew (below_more hbe hbf)
  clear srr0 srr1 srr2 srr3 rr0 rr1 rr2 rr3 caD_0 caD_1 cx0_0 cx0_1 hoe0 hoe1 hae
  have Hx00_10 := Lib.hid (Hx00_9.out.below hbq)
  have Hx01_10 := Lib.hid (Hx01_9.out.below hbq)
  have KaD_10 := Lib.hid ((hbq.block _ (heap_lt KaD_9.out)).trans KaD_9.out)
  have Kx0_10 := Lib.hid ((hbq.block _ (heap_lt Kx0_9.out)).trans Kx0_9.out)
  have HB_10 := Lib.hid (below_more HB_9.out hbq)
  clear Hx00_9 Hx01_9 KaD_9 Kx0_9 HB_9
  clear hbq hbe hbf
  clear Hx00_10 Hx01_10
  clear Kx0_10
  go_wp2_with fail
  go_ret
  exact ⟨rfl, HB_10.out⟩

set_option maxRecDepth 100000 in
set_option maxHeartbeats 8000000 in
theorem readAll_law {K : World → Prop} (hK : Stays5 K) (hI : ∀ (A B : Option Addr) (ss : List ByteArray) (ps : List (Int × ByteArray)) (ca cb : Nat) (w : World), K w → DiskIn w A B ss ps → Lies9 A ca → Lies9 B cb → Calls Try.prog 19 #[diskV (.slice A ss.length ca) (.slice B ps.length cb)] w fun e w' => e = .returned (.tuple #[.string (raI ss ps), .bool (goodDB ss ps)]) ∧ Below w.heap.size w w')
    (A B : Option Addr) (ss : List ByteArray) (ps : List (Int × ByteArray)) (ca cb : Nat) (w : World) (hw : K w) (hA : Strs w A ss) (hB : Puts w B ps) (hl : ss.length ≤ 9223372036854775807) (hz : ∀ s ∈ ss, s.size ≤ 9223372036854775807) (hl2 : ps.length ≤ 9223372036854775807) (hz2 : ∀ p ∈ ps, p.2.size ≤ 9223372036854775807) : Calls Try.prog 11 #[diskV (.slice A ss.length ca) (.slice B ps.length cb)] w fun e w' => e = .returned (.bool true) ∧ Below w.heap.size w w' := by
  have HRA := Lib.hid hA
  have HRB := Lib.hid hB
  have HZ := Lib.hid hz
  have HZ2 := Lib.hid hz2
  have HI := Lib.hid (fun A B ca cb w hk hd hA hB => hI A B ss ps ca cb w hk hd hA hB)
  have HW := Lib.hid hw
  have HS0 := Lib.hid (fun A B ca cb w hd => sReadAll_any A B ss ps ca cb w hd)
  clear hI hw hA hB hz hz2
  generalize raI ss ps = rr at *
  generalize goodDB ss ps = bb at *
  obtain ⟨w1, hw1⟩ : ∃ wn, w.alloc (.cells #[.slice A ss.length ca, .slice B ps.length cb] 52) = wn := ⟨_, rfl⟩
  have hbx : Below w.heap.size w w1 := by rw [← hw1]; exact gAlloc _ _
  have KX : w1.heap[w.heap.size]? = some (.cells #[.slice A ss.length ca, .slice B ps.length cb] 52 (0, 0)) := by rw [← hw1]; exact heap_alloc_new _ _
  have HB_2 := Lib.hid (hbx)
  have KaD_1 := Lib.hid KX
  clear hbx KX
  go_enter Try.func11, Try.ntmps11
  have caD_0 : w1.cell? ⟨w.heap.size, 0, none⟩ = some (.slice A ss.length ca) := cell_of_row _ _ 0 _ _ _ KaD_1.out
  have caD_1 : w1.cell? ⟨w.heap.size, 1, none⟩ = some (.slice B ps.length cb) := cell_of_row _ _ 1 _ _ _ KaD_1.out
  go_wp2_with fail
  clear caD_0 caD_1 hw1
  refine (szDisk_any A B ss ps ca cb 1048576 _ (HRA.out.below HB_2.out) (HRB.out.below HB_2.out) hl HZ.out hl2 HZ2.out (by omega) (by omega)).mono ?_
  rintro e w2 ⟨rz, rfl, hrz, hbq⟩
  have KaD_3 := Lib.hid ((hbq.block _ (heap_lt KaD_1.out)).trans KaD_1.out)
  have HB_3 := Lib.hid (below_more HB_2.out hbq)
  clear KaD_1 HB_2
  clear hbq
  rcases hrz with hrz | ⟨hrz0, hrz1, hrz2, hrz3⟩
  · go_wp2_with fail
    go_ret
    exact ⟨rfl, HB_3.out⟩
  have HZs := Lib.hid hrz2
  have HZp := Lib.hid hrz3
  have hls : ss.length ≤ 1048576 := by omega
  have hlp : ps.length ≤ 1048576 := by omega
  have hlt : ss.length + ps.length ≤ 1048576 := by omega
  have hrzn : ¬ rz < 0 := by omega
  clear hrz2 hrz3 HZ HZ2 hl hl2 hrz1
  have caD_0 : w2.cell? ⟨w.heap.size, 0, none⟩ = some (.slice A ss.length ca) := cell_of_row _ _ 0 _ _ _ KaD_3.out
  have caD_1 : w2.cell? ⟨w.heap.size, 1, none⟩ = some (.slice B ps.length cb) := cell_of_row _ _ 1 _ _ _ KaD_3.out
  go_wp2_with fail
  clear caD_0 caD_1
  refine (toDisk_any A B ss ps ca cb _ (HRA.out.below HB_3.out) (HRB.out.below HB_3.out) (by omega) (by omega)).mono ?_
  rintro e w3 ⟨vt10, vt11, rfl, hot10, hot11, hat1, hbt1⟩
  obtain ⟨At10, ct10, hvt10, hcapt10, _⟩ := OwnR.form fSt_len hot10
  subst hvt10
  obtain ⟨At11, ct11, hvt11, hcapt11, _⟩ := OwnR.form fPu_len hot11
  subst hvt11
  have HNX_aD_t10 := Lib.hid (fun g hg => Nat.ne_of_gt (Nat.lt_of_lt_of_le (heap_lt KaD_3.out) (hot10.lt g hg).1))
  have HNX_aD_t11 := Lib.hid (fun g hg => Nat.ne_of_gt (Nat.lt_of_lt_of_le (heap_lt KaD_3.out) (hot11.lt g hg).1))
  have HAp_t10_t11 := Lib.hid hat1
  have Ht10_4 := Lib.hid (hot10.lower HB_3.out.size)
  have Ht11_4 := Lib.hid (hot11.lower HB_3.out.size)
  have KaD_4 := Lib.hid ((hbt1.block _ (heap_lt KaD_3.out)).trans KaD_3.out)
  have HB_4 := Lib.hid (below_more HB_3.out hbt1)
  clear KaD_3 HB_3 hot10 hot11 hat1 hbt1
  have caD_0 : w3.cell? ⟨w.heap.size, 0, none⟩ = some (.slice A ss.length ca) := cell_of_row _ _ 0 _ _ _ KaD_4.out
  have caD_1 : w3.cell? ⟨w.heap.size, 1, none⟩ = some (.slice B ps.length cb) := cell_of_row _ _ 1 _ _ _ KaD_4.out
  go_wp2_with fail
  clear caD_0 caD_1
  refine (HS0.out At10 At11 ct10 ct11 _ ⟨(OwnR.rd fSt_len Ht10_4.out), (OwnR.rd fPu_len Ht11_4.out), by omega, by omega, HZs.out, HZp.out⟩).mono ?_
  rintro e w4 ⟨rfl, hbq⟩
  have Ht10_5 := Lib.hid (Ht10_4.out.below hbq)
  have Ht11_5 := Lib.hid (Ht11_4.out.below hbq)
  have KaD_5 := Lib.hid ((hbq.block _ (heap_lt KaD_4.out)).trans KaD_4.out)
  have HB_5 := Lib.hid (below_more HB_4.out hbq)
  clear Ht10_4 Ht11_4 KaD_4 HB_4
  clear hbq
  clear Ht10_5 Ht11_5
  have caD_0 : w4.cell? ⟨w.heap.size, 0, none⟩ = some (.slice A ss.length ca) := cell_of_row _ _ 0 _ _ _ KaD_5.out
  have caD_1 : w4.cell? ⟨w.heap.size, 1, none⟩ = some (.slice B ps.length cb) := cell_of_row _ _ 1 _ _ _ KaD_5.out
  go_wp2_with fail
  clear caD_0 caD_1
  refine (toDisk_any A B ss ps ca cb _ (HRA.out.below HB_5.out) (HRB.out.below HB_5.out) (by omega) (by omega)).mono ?_
  rintro e w5 ⟨vx00, vx01, rfl, hox00, hox01, hax0, hbx0⟩
  obtain ⟨Ax00, cx00, hvx00, hcapx00, _⟩ := OwnR.form fSt_len hox00
  subst hvx00
  obtain ⟨Ax01, cx01, hvx01, hcapx01, _⟩ := OwnR.form fPu_len hox01
  subst hvx01
  have HNX_aD_x00 := Lib.hid (fun g hg => Nat.ne_of_gt (Nat.lt_of_lt_of_le (heap_lt KaD_5.out) (hox00.lt g hg).1))
  have HNX_aD_x01 := Lib.hid (fun g hg => Nat.ne_of_gt (Nat.lt_of_lt_of_le (heap_lt KaD_5.out) (hox01.lt g hg).1))
  have HAp_x00_x01 := Lib.hid hax0
  have Hx00_6 := Lib.hid (hox00.lower HB_5.out.size)
  have Hx01_6 := Lib.hid (hox01.lower HB_5.out.size)
  have KaD_6 := Lib.hid ((hbx0.block _ (heap_lt KaD_5.out)).trans KaD_5.out)
  have HB_6 := Lib.hid (below_more HB_5.out hbx0)
  clear KaD_5 HB_5 hox00 hox01 hax0 hbx0
  obtain ⟨w6, hw7⟩ : ∃ wn, w5.alloc (.cells #[.slice Ax00 ss.length cx00, .slice Ax01 ps.length cx01] 26) = wn := ⟨_, rfl⟩
  have hbx : Below w5.heap.size w5 w6 := by rw [← hw7]; exact gAlloc _ _
  have KX : w6.heap[w5.heap.size]? = some (.cells #[.slice Ax00 ss.length cx00, .slice Ax01 ps.length cx01] 26 (0, 0)) := by rw [← hw7]; exact heap_alloc_new _ _
  have HNX_x0_x00 := Lib.hid (fun g hg => Nat.ne_of_lt (Hx00_6.out.lt g hg).2)
  have HNX_x0_x01 := Lib.hid (fun g hg => Nat.ne_of_lt (Hx01_6.out.lt g hg).2)
  have Hx00_8 := Lib.hid (Hx00_6.out.below hbx)
  have Hx01_8 := Lib.hid (Hx01_6.out.below hbx)
  have KaD_8 := Lib.hid ((hbx.block _ (heap_lt KaD_6.out)).trans KaD_6.out)
  have HB_8 := Lib.hid (below_more HB_6.out hbx)
  clear Hx00_6 Hx01_6 KaD_6 HB_6
  have Kx0_7 := Lib.hid KX
  clear hbx KX
  have caD_0 : w6.cell? ⟨w.heap.size, 0, none⟩ = some (.slice A ss.length ca) := cell_of_row _ _ 0 _ _ _ KaD_8.out
  have caD_1 : w6.cell? ⟨w.heap.size, 1, none⟩ = some (.slice B ps.length cb) := cell_of_row _ _ 1 _ _ _ KaD_8.out
  have cx0_0 : w6.cell? ⟨w5.heap.size, 0, none⟩ = some (.slice Ax00 ss.length cx00) := cell_of_row _ _ 0 _ _ _ Kx0_7.out
  have cx0_1 : w6.cell? ⟨w5.heap.size, 1, none⟩ = some (.slice Ax01 ps.length cx01) := cell_of_row _ _ 1 _ _ _ Kx0_7.out
  go_wp2_with fail
  clear caD_0 caD_1 cx0_0 cx0_1 hw7
  refine (HI.out Ax00 Ax01 cx00 cx01 _ (hK _ _ HW.out HB_8.out) ⟨(OwnR.rd fSt_len Hx00_8.out), (OwnR.rd fPu_len Hx01_8.out), by omega, by omega, HZs.out, HZp.out⟩ (ownR_lies Hx00_8.out) (ownR_lies Hx01_8.out)).mono ?_
  rintro e w7 ⟨rfl, hbq⟩
  have Hx00_9 := Lib.hid (Hx00_8.out.below hbq)
  have Hx01_9 := Lib.hid (Hx01_8.out.below hbq)
  have KaD_9 := Lib.hid ((hbq.block _ (heap_lt KaD_8.out)).trans KaD_8.out)
  have Kx0_9 := Lib.hid ((hbq.block _ (heap_lt Kx0_7.out)).trans Kx0_7.out)
  have HB_9 := Lib.hid (below_more HB_8.out hbq)
  clear Hx00_8 Hx01_8 KaD_8 Kx0_7 HB_8
  clear hbq
  have caD_0 : w7.cell? ⟨w.heap.size, 0, none⟩ = some (.slice A ss.length ca) := cell_of_row _ _ 0 _ _ _ KaD_9.out
  have caD_1 : w7.cell? ⟨w.heap.size, 1, none⟩ = some (.slice B ps.length cb) := cell_of_row _ _ 1 _ _ _ KaD_9.out
  have cx0_0 : w7.cell? ⟨w5.heap.size, 0, none⟩ = some (.slice Ax00 ss.length cx00) := cell_of_row _ _ 0 _ _ _ Kx0_9.out
  have cx0_1 : w7.cell? ⟨w5.heap.size, 1, none⟩ = some (.slice Ax01 ps.length cx01) := cell_of_row _ _ 1 _ _ _ Kx0_9.out
  go_wp2_with fail
  go_region_held3 (fun w' => w'.cell? ⟨w5.heap.size, 0, none⟩ = some (.slice Ax00 ss.length cx00) ∧ w'.cell? ⟨w5.heap.size, 1, none⟩ = some (.slice Ax01 ps.length cx01) ∧ w'.cell? ⟨w.heap.size, 0, none⟩ = some (.slice A ss.length ca) ∧ w'.cell? ⟨w.heap.size, 1, none⟩ = some (.slice B ps.length cb)) (first | exact ⟨cx0_0, cx0_1, caD_0, caD_1⟩ | exact ⟨rr0, rr1, rr2, rr3⟩ | exact ⟨srr0, srr1, srr2, srr3⟩ | go_keep) (first
    | (go_at_call 36; refine (toDisk_any A B ss ps ca cb _ ((HRA.out.below HB_9.out).below gDrew) ((HRB.out.below HB_9.out).below gDrew) (by omega) (by omega)).mono ?_; rintro e we ⟨ve0, ve1, rfl, hoe0, hoe1, hae, hbe⟩; have rr0 := (hbe.cell (World.block_lt_of_cell? _ _ cx0_0)).trans cx0_0; have rr1 := (hbe.cell (World.block_lt_of_cell? _ _ cx0_1)).trans cx0_1; have rr2 := (hbe.cell (World.block_lt_of_cell? _ _ caD_0)).trans caD_0; have rr3 := (hbe.cell (World.block_lt_of_cell? _ _ caD_1)).trans caD_1; obtain ⟨Ae0, ce0, rfl, hcape0, _⟩ := OwnR.form fSt_len hoe0; obtain ⟨Ae1, ce1, rfl, hcape1, _⟩ := OwnR.form fPu_len hoe1)
    | (go_at_call 32; refine (eqDisk_self Ax00 Ax01 Ae0 Ae1 ss ps cx00 cx01 ce0 ce1 _ (OwnR.rd fSt_len (Lib.hid ((Hx00_9.out.below gDrew).below hbe)).out) (OwnR.rd fPu_len (Lib.hid ((Hx01_9.out.below gDrew).below hbe)).out) (OwnR.rd fSt_len (Lib.hid hoe0).out) (OwnR.rd fPu_len (Lib.hid hoe1).out) (by omega) (by omega)).mono ?_; rintro e w8 ⟨rfl, hbf⟩; have srr0 := (hbf.cell (World.block_lt_of_cell? _ _ rr0)).trans rr0; have srr1 := (hbf.cell (World.block_lt_of_cell? _ _ rr1)).trans rr1; have srr2 := (hbf.cell (World.block_lt_of_cell? _ _ rr2)).trans rr2; have srr3 := (hbf.cell (World.block_lt_of_cell? _ _ rr3)).trans rr3))
  have hbq := below_more gDrew (below_more hbe hbf)
  clear srr0 srr1 srr2 srr3 rr0 rr1 rr2 rr3 caD_0 caD_1 cx0_0 cx0_1 hoe0 hoe1 hae
  have Hx00_10 := Lib.hid (Hx00_9.out.below hbq)
  have Hx01_10 := Lib.hid (Hx01_9.out.below hbq)
  have KaD_10 := Lib.hid ((hbq.block _ (heap_lt KaD_9.out)).trans KaD_9.out)
  have Kx0_10 := Lib.hid ((hbq.block _ (heap_lt Kx0_9.out)).trans Kx0_9.out)
  have HB_10 := Lib.hid (below_more HB_9.out hbq)
  clear Hx00_9 Hx01_9 KaD_9 Kx0_9 HB_9
  clear hbq hbe hbf
  clear Hx00_10 Hx01_10
  clear Kx0_10
  go_wp2_with fail
  go_ret
  exact ⟨rfl, HB_10.out⟩

set_option maxRecDepth 100000 in
set_option maxHeartbeats 8000000 in
theorem readSector_law {K : World → Prop} (hK : Stays5 K) (hI : ∀ (A B : Option Addr) (ss : List ByteArray) (ps : List (Int × ByteArray)) (ca cb : Nat) (k : Int) (w : World), K w → DiskIn w A B ss ps → Lies9 A ca → Lies9 B cb → Calls Try.prog 29 #[diskV (.slice A ss.length ca) (.slice B ps.length cb), .int .i64 k] w fun e w' => e = .returned (.tuple #[.string (rsI ss ps k), .bool (rsOkB ss ps k)]) ∧ Below w.heap.size w w')
    (A B : Option Addr) (ss : List ByteArray) (ps : List (Int × ByteArray)) (ca cb : Nat) (k : Int) (w : World) (hw : K w) (hA : Strs w A ss) (hB : Puts w B ps) (hl : ss.length ≤ 9223372036854775807) (hz : ∀ s ∈ ss, s.size ≤ 9223372036854775807) (hl2 : ps.length ≤ 9223372036854775807) (hz2 : ∀ p ∈ ps, p.2.size ≤ 9223372036854775807) : Calls Try.prog 8 #[diskV (.slice A ss.length ca) (.slice B ps.length cb), .int .i64 k] w fun e w' => e = .returned (.bool true) ∧ Below w.heap.size w w' := by
  have HRA := Lib.hid hA
  have HRB := Lib.hid hB
  have HZ := Lib.hid hz
  have HZ2 := Lib.hid hz2
  have HI := Lib.hid (fun A B ca cb w hk hd hA hB => hI A B ss ps ca cb k w hk hd hA hB)
  have HW := Lib.hid hw
  have HS0 := Lib.hid (fun A B ca cb w hd => sReadS_any A B ss ps ca cb k w hd)
  clear hI hw hA hB hz hz2
  generalize rsI ss ps k = rr at *
  generalize rsOkB ss ps k = bb at *
  obtain ⟨w1, hw1⟩ : ∃ wn, w.alloc (.cells #[.slice A ss.length ca, .slice B ps.length cb] 52) = wn := ⟨_, rfl⟩
  have hbx : Below w.heap.size w w1 := by rw [← hw1]; exact gAlloc _ _
  have KX : w1.heap[w.heap.size]? = some (.cells #[.slice A ss.length ca, .slice B ps.length cb] 52 (0, 0)) := by rw [← hw1]; exact heap_alloc_new _ _
  have HB_2 := Lib.hid (hbx)
  have KaD_1 := Lib.hid KX
  clear hbx KX
  go_enter Try.func8, Try.ntmps8
  have caD_0 : w1.cell? ⟨w.heap.size, 0, none⟩ = some (.slice A ss.length ca) := cell_of_row _ _ 0 _ _ _ KaD_1.out
  have caD_1 : w1.cell? ⟨w.heap.size, 1, none⟩ = some (.slice B ps.length cb) := cell_of_row _ _ 1 _ _ _ KaD_1.out
  go_wp2_with fail
  clear caD_0 caD_1 hw1
  refine (szDisk_any A B ss ps ca cb 1048576 _ (HRA.out.below HB_2.out) (HRB.out.below HB_2.out) hl HZ.out hl2 HZ2.out (by omega) (by omega)).mono ?_
  rintro e w2 ⟨rz, rfl, hrz, hbq⟩
  have KaD_3 := Lib.hid ((hbq.block _ (heap_lt KaD_1.out)).trans KaD_1.out)
  have HB_3 := Lib.hid (below_more HB_2.out hbq)
  clear KaD_1 HB_2
  clear hbq
  rcases hrz with hrz | ⟨hrz0, hrz1, hrz2, hrz3⟩
  · go_wp2_with fail
    go_ret
    exact ⟨rfl, HB_3.out⟩
  have HZs := Lib.hid hrz2
  have HZp := Lib.hid hrz3
  have hls : ss.length ≤ 1048576 := by omega
  have hlp : ps.length ≤ 1048576 := by omega
  have hlt : ss.length + ps.length ≤ 1048576 := by omega
  have hrzn : ¬ rz < 0 := by omega
  clear hrz2 hrz3 HZ HZ2 hl hl2 hrz1
  have caD_0 : w2.cell? ⟨w.heap.size, 0, none⟩ = some (.slice A ss.length ca) := cell_of_row _ _ 0 _ _ _ KaD_3.out
  have caD_1 : w2.cell? ⟨w.heap.size, 1, none⟩ = some (.slice B ps.length cb) := cell_of_row _ _ 1 _ _ _ KaD_3.out
  go_wp2_with fail
  clear caD_0 caD_1
  refine (toDisk_any A B ss ps ca cb _ (HRA.out.below HB_3.out) (HRB.out.below HB_3.out) (by omega) (by omega)).mono ?_
  rintro e w3 ⟨vt10, vt11, rfl, hot10, hot11, hat1, hbt1⟩
  obtain ⟨At10, ct10, hvt10, hcapt10, _⟩ := OwnR.form fSt_len hot10
  subst hvt10
  obtain ⟨At11, ct11, hvt11, hcapt11, _⟩ := OwnR.form fPu_len hot11
  subst hvt11
  have HNX_aD_t10 := Lib.hid (fun g hg => Nat.ne_of_gt (Nat.lt_of_lt_of_le (heap_lt KaD_3.out) (hot10.lt g hg).1))
  have HNX_aD_t11 := Lib.hid (fun g hg => Nat.ne_of_gt (Nat.lt_of_lt_of_le (heap_lt KaD_3.out) (hot11.lt g hg).1))
  have HAp_t10_t11 := Lib.hid hat1
  have Ht10_4 := Lib.hid (hot10.lower HB_3.out.size)
  have Ht11_4 := Lib.hid (hot11.lower HB_3.out.size)
  have KaD_4 := Lib.hid ((hbt1.block _ (heap_lt KaD_3.out)).trans KaD_3.out)
  have HB_4 := Lib.hid (below_more HB_3.out hbt1)
  clear KaD_3 HB_3 hot10 hot11 hat1 hbt1
  have caD_0 : w3.cell? ⟨w.heap.size, 0, none⟩ = some (.slice A ss.length ca) := cell_of_row _ _ 0 _ _ _ KaD_4.out
  have caD_1 : w3.cell? ⟨w.heap.size, 1, none⟩ = some (.slice B ps.length cb) := cell_of_row _ _ 1 _ _ _ KaD_4.out
  go_wp2_with fail
  clear caD_0 caD_1
  refine (HS0.out At10 At11 ct10 ct11 _ ⟨(OwnR.rd fSt_len Ht10_4.out), (OwnR.rd fPu_len Ht11_4.out), by omega, by omega, HZs.out, HZp.out⟩).mono ?_
  rintro e w4 ⟨rfl, hbq⟩
  have Ht10_5 := Lib.hid (Ht10_4.out.below hbq)
  have Ht11_5 := Lib.hid (Ht11_4.out.below hbq)
  have KaD_5 := Lib.hid ((hbq.block _ (heap_lt KaD_4.out)).trans KaD_4.out)
  have HB_5 := Lib.hid (below_more HB_4.out hbq)
  clear Ht10_4 Ht11_4 KaD_4 HB_4
  clear hbq
  clear Ht10_5 Ht11_5
  have caD_0 : w4.cell? ⟨w.heap.size, 0, none⟩ = some (.slice A ss.length ca) := cell_of_row _ _ 0 _ _ _ KaD_5.out
  have caD_1 : w4.cell? ⟨w.heap.size, 1, none⟩ = some (.slice B ps.length cb) := cell_of_row _ _ 1 _ _ _ KaD_5.out
  go_wp2_with fail
  clear caD_0 caD_1
  refine (toDisk_any A B ss ps ca cb _ (HRA.out.below HB_5.out) (HRB.out.below HB_5.out) (by omega) (by omega)).mono ?_
  rintro e w5 ⟨vx00, vx01, rfl, hox00, hox01, hax0, hbx0⟩
  obtain ⟨Ax00, cx00, hvx00, hcapx00, _⟩ := OwnR.form fSt_len hox00
  subst hvx00
  obtain ⟨Ax01, cx01, hvx01, hcapx01, _⟩ := OwnR.form fPu_len hox01
  subst hvx01
  have HNX_aD_x00 := Lib.hid (fun g hg => Nat.ne_of_gt (Nat.lt_of_lt_of_le (heap_lt KaD_5.out) (hox00.lt g hg).1))
  have HNX_aD_x01 := Lib.hid (fun g hg => Nat.ne_of_gt (Nat.lt_of_lt_of_le (heap_lt KaD_5.out) (hox01.lt g hg).1))
  have HAp_x00_x01 := Lib.hid hax0
  have Hx00_6 := Lib.hid (hox00.lower HB_5.out.size)
  have Hx01_6 := Lib.hid (hox01.lower HB_5.out.size)
  have KaD_6 := Lib.hid ((hbx0.block _ (heap_lt KaD_5.out)).trans KaD_5.out)
  have HB_6 := Lib.hid (below_more HB_5.out hbx0)
  clear KaD_5 HB_5 hox00 hox01 hax0 hbx0
  obtain ⟨w6, hw7⟩ : ∃ wn, w5.alloc (.cells #[.slice Ax00 ss.length cx00, .slice Ax01 ps.length cx01] 26) = wn := ⟨_, rfl⟩
  have hbx : Below w5.heap.size w5 w6 := by rw [← hw7]; exact gAlloc _ _
  have KX : w6.heap[w5.heap.size]? = some (.cells #[.slice Ax00 ss.length cx00, .slice Ax01 ps.length cx01] 26 (0, 0)) := by rw [← hw7]; exact heap_alloc_new _ _
  have HNX_x0_x00 := Lib.hid (fun g hg => Nat.ne_of_lt (Hx00_6.out.lt g hg).2)
  have HNX_x0_x01 := Lib.hid (fun g hg => Nat.ne_of_lt (Hx01_6.out.lt g hg).2)
  have Hx00_8 := Lib.hid (Hx00_6.out.below hbx)
  have Hx01_8 := Lib.hid (Hx01_6.out.below hbx)
  have KaD_8 := Lib.hid ((hbx.block _ (heap_lt KaD_6.out)).trans KaD_6.out)
  have HB_8 := Lib.hid (below_more HB_6.out hbx)
  clear Hx00_6 Hx01_6 KaD_6 HB_6
  have Kx0_7 := Lib.hid KX
  clear hbx KX
  have caD_0 : w6.cell? ⟨w.heap.size, 0, none⟩ = some (.slice A ss.length ca) := cell_of_row _ _ 0 _ _ _ KaD_8.out
  have caD_1 : w6.cell? ⟨w.heap.size, 1, none⟩ = some (.slice B ps.length cb) := cell_of_row _ _ 1 _ _ _ KaD_8.out
  have cx0_0 : w6.cell? ⟨w5.heap.size, 0, none⟩ = some (.slice Ax00 ss.length cx00) := cell_of_row _ _ 0 _ _ _ Kx0_7.out
  have cx0_1 : w6.cell? ⟨w5.heap.size, 1, none⟩ = some (.slice Ax01 ps.length cx01) := cell_of_row _ _ 1 _ _ _ Kx0_7.out
  go_wp2_with fail
  clear caD_0 caD_1 cx0_0 cx0_1 hw7
  refine (HI.out Ax00 Ax01 cx00 cx01 _ (hK _ _ HW.out HB_8.out) ⟨(OwnR.rd fSt_len Hx00_8.out), (OwnR.rd fPu_len Hx01_8.out), by omega, by omega, HZs.out, HZp.out⟩ (ownR_lies Hx00_8.out) (ownR_lies Hx01_8.out)).mono ?_
  rintro e w7 ⟨rfl, hbq⟩
  have Hx00_9 := Lib.hid (Hx00_8.out.below hbq)
  have Hx01_9 := Lib.hid (Hx01_8.out.below hbq)
  have KaD_9 := Lib.hid ((hbq.block _ (heap_lt KaD_8.out)).trans KaD_8.out)
  have Kx0_9 := Lib.hid ((hbq.block _ (heap_lt Kx0_7.out)).trans Kx0_7.out)
  have HB_9 := Lib.hid (below_more HB_8.out hbq)
  clear Hx00_8 Hx01_8 KaD_8 Kx0_7 HB_8
  clear hbq
  have caD_0 : w7.cell? ⟨w.heap.size, 0, none⟩ = some (.slice A ss.length ca) := cell_of_row _ _ 0 _ _ _ KaD_9.out
  have caD_1 : w7.cell? ⟨w.heap.size, 1, none⟩ = some (.slice B ps.length cb) := cell_of_row _ _ 1 _ _ _ KaD_9.out
  have cx0_0 : w7.cell? ⟨w5.heap.size, 0, none⟩ = some (.slice Ax00 ss.length cx00) := cell_of_row _ _ 0 _ _ _ Kx0_9.out
  have cx0_1 : w7.cell? ⟨w5.heap.size, 1, none⟩ = some (.slice Ax01 ps.length cx01) := cell_of_row _ _ 1 _ _ _ Kx0_9.out
  go_wp2_with fail
  go_region_held3 (fun w' => w'.cell? ⟨w5.heap.size, 0, none⟩ = some (.slice Ax00 ss.length cx00) ∧ w'.cell? ⟨w5.heap.size, 1, none⟩ = some (.slice Ax01 ps.length cx01) ∧ w'.cell? ⟨w.heap.size, 0, none⟩ = some (.slice A ss.length ca) ∧ w'.cell? ⟨w.heap.size, 1, none⟩ = some (.slice B ps.length cb)) (first | exact ⟨cx0_0, cx0_1, caD_0, caD_1⟩ | exact ⟨rr0, rr1, rr2, rr3⟩ | exact ⟨srr0, srr1, srr2, srr3⟩ | go_keep) (first
    | (go_at_call 36; refine (toDisk_any A B ss ps ca cb _ ((HRA.out.below HB_9.out).below gDrew) ((HRB.out.below HB_9.out).below gDrew) (by omega) (by omega)).mono ?_; rintro e we ⟨ve0, ve1, rfl, hoe0, hoe1, hae, hbe⟩; have rr0 := (hbe.cell (World.block_lt_of_cell? _ _ cx0_0)).trans cx0_0; have rr1 := (hbe.cell (World.block_lt_of_cell? _ _ cx0_1)).trans cx0_1; have rr2 := (hbe.cell (World.block_lt_of_cell? _ _ caD_0)).trans caD_0; have rr3 := (hbe.cell (World.block_lt_of_cell? _ _ caD_1)).trans caD_1; obtain ⟨Ae0, ce0, rfl, hcape0, _⟩ := OwnR.form fSt_len hoe0; obtain ⟨Ae1, ce1, rfl, hcape1, _⟩ := OwnR.form fPu_len hoe1)
    | (go_at_call 32; refine (eqDisk_self Ax00 Ax01 Ae0 Ae1 ss ps cx00 cx01 ce0 ce1 _ (OwnR.rd fSt_len (Lib.hid ((Hx00_9.out.below gDrew).below hbe)).out) (OwnR.rd fPu_len (Lib.hid ((Hx01_9.out.below gDrew).below hbe)).out) (OwnR.rd fSt_len (Lib.hid hoe0).out) (OwnR.rd fPu_len (Lib.hid hoe1).out) (by omega) (by omega)).mono ?_; rintro e w8 ⟨rfl, hbf⟩; have srr0 := (hbf.cell (World.block_lt_of_cell? _ _ rr0)).trans rr0; have srr1 := (hbf.cell (World.block_lt_of_cell? _ _ rr1)).trans rr1; have srr2 := (hbf.cell (World.block_lt_of_cell? _ _ rr2)).trans rr2; have srr3 := (hbf.cell (World.block_lt_of_cell? _ _ rr3)).trans rr3))
  have hbq := below_more gDrew (below_more hbe hbf)
  clear srr0 srr1 srr2 srr3 rr0 rr1 rr2 rr3 caD_0 caD_1 cx0_0 cx0_1 hoe0 hoe1 hae
  have Hx00_10 := Lib.hid (Hx00_9.out.below hbq)
  have Hx01_10 := Lib.hid (Hx01_9.out.below hbq)
  have KaD_10 := Lib.hid ((hbq.block _ (heap_lt KaD_9.out)).trans KaD_9.out)
  have Kx0_10 := Lib.hid ((hbq.block _ (heap_lt Kx0_9.out)).trans Kx0_9.out)
  have HB_10 := Lib.hid (below_more HB_9.out hbq)
  clear Hx00_9 Hx01_9 KaD_9 Kx0_9 HB_9
  clear hbq hbe hbf
  clear Hx00_10 Hx01_10
  clear Kx0_10
  go_wp2_with fail
  go_ret
  exact ⟨rfl, HB_10.out⟩

set_option maxRecDepth 100000 in
set_option maxHeartbeats 8000000 in
theorem syncDisk_law {K : World → Prop} (hK : Stays5 K) (hI : ∀ (A B : Option Addr) (ss : List ByteArray) (ps : List (Int × ByteArray)) (ca cb : Nat) (w : World), K w → DiskIn w A B ss ps → Lies9 A ca → Lies9 B cb → Calls Try.prog 18 #[diskV (.slice A ss.length ca) (.slice B ps.length cb)] w fun e w' => ∃ v1 v2, e = .returned (.tuple #[diskV v1 v2, .bool (goodDB ss ps)]) ∧ OwnD w' w.heap.size v1 v2 (syI ss ps) ([]) ∧ Below w.heap.size w w')
    (A B : Option Addr) (ss : List ByteArray) (ps : List (Int × ByteArray)) (ca cb : Nat) (w : World) (hw : K w) (hA : Strs w A ss) (hB : Puts w B ps) (hl : ss.length ≤ 9223372036854775807) (hz : ∀ s ∈ ss, s.size ≤ 9223372036854775807) (hl2 : ps.length ≤ 9223372036854775807) (hz2 : ∀ p ∈ ps, p.2.size ≤ 9223372036854775807) : Calls Try.prog 9 #[diskV (.slice A ss.length ca) (.slice B ps.length cb)] w fun e w' => e = .returned (.bool true) ∧ Below w.heap.size w w' := by
  have hU : ([] : List (Int × ByteArray)).length ≤ 41 := by simp
  have HRA := Lib.hid hA
  have HRB := Lib.hid hB
  have HZ := Lib.hid hz
  have HZ2 := Lib.hid hz2
  have HI := Lib.hid (fun A B ca cb w hk hd hA hB => hI A B ss ps ca cb w hk hd hA hB)
  have HW := Lib.hid hw
  have HS0 := Lib.hid (fun A B ca cb w hd hA => sSync_D A B ss ps ca cb w hd hA)
  clear hI hw hA hB hz hz2
  have hV := syI_len ss ps
  generalize syI ss ps = V at *
  generalize goodDB ss ps = bb at *
  generalize ([] : List (Int × ByteArray)) = U at *
  obtain ⟨w1, hw1⟩ : ∃ wn, w.alloc (.cells #[.slice A ss.length ca, .slice B ps.length cb] 52) = wn := ⟨_, rfl⟩
  have hbx : Below w.heap.size w w1 := by rw [← hw1]; exact gAlloc _ _
  have KX : w1.heap[w.heap.size]? = some (.cells #[.slice A ss.length ca, .slice B ps.length cb] 52 (0, 0)) := by rw [← hw1]; exact heap_alloc_new _ _
  have HB_2 := Lib.hid (hbx)
  have KaD_1 := Lib.hid KX
  clear hbx KX
  go_enter Try.func9, Try.ntmps9
  have caD_0 : w1.cell? ⟨w.heap.size, 0, none⟩ = some (.slice A ss.length ca) := cell_of_row _ _ 0 _ _ _ KaD_1.out
  have caD_1 : w1.cell? ⟨w.heap.size, 1, none⟩ = some (.slice B ps.length cb) := cell_of_row _ _ 1 _ _ _ KaD_1.out
  go_wp2_with fail
  clear caD_0 caD_1 hw1
  refine (szDisk_any A B ss ps ca cb 1048576 _ (HRA.out.below HB_2.out) (HRB.out.below HB_2.out) hl HZ.out hl2 HZ2.out (by omega) (by omega)).mono ?_
  rintro e w2 ⟨rz, rfl, hrz, hbq⟩
  have KaD_3 := Lib.hid ((hbq.block _ (heap_lt KaD_1.out)).trans KaD_1.out)
  have HB_3 := Lib.hid (below_more HB_2.out hbq)
  clear KaD_1 HB_2
  clear hbq
  rcases hrz with hrz | ⟨hrz0, hrz1, hrz2, hrz3⟩
  · go_wp2_with fail
    go_ret
    exact ⟨rfl, HB_3.out⟩
  have HZs := Lib.hid hrz2
  have HZp := Lib.hid hrz3
  have hls : ss.length ≤ 1048576 := by omega
  have hlp : ps.length ≤ 1048576 := by omega
  have hlt : ss.length + ps.length ≤ 1048576 := by omega
  have hrzn : ¬ rz < 0 := by omega
  clear hrz2 hrz3 HZ HZ2 hl hl2 hrz1
  have caD_0 : w2.cell? ⟨w.heap.size, 0, none⟩ = some (.slice A ss.length ca) := cell_of_row _ _ 0 _ _ _ KaD_3.out
  have caD_1 : w2.cell? ⟨w.heap.size, 1, none⟩ = some (.slice B ps.length cb) := cell_of_row _ _ 1 _ _ _ KaD_3.out
  go_wp2_with fail
  clear caD_0 caD_1
  refine (toDisk_any A B ss ps ca cb _ (HRA.out.below HB_3.out) (HRB.out.below HB_3.out) (by omega) (by omega)).mono ?_
  rintro e w3 ⟨vt10, vt11, rfl, hot10, hot11, hat1, hbt1⟩
  obtain ⟨At10, ct10, hvt10, hcapt10, _⟩ := OwnR.form fSt_len hot10
  subst hvt10
  obtain ⟨At11, ct11, hvt11, hcapt11, _⟩ := OwnR.form fPu_len hot11
  subst hvt11
  have HNX_aD_t10 := Lib.hid (fun g hg => Nat.ne_of_gt (Nat.lt_of_lt_of_le (heap_lt KaD_3.out) (hot10.lt g hg).1))
  have HNX_aD_t11 := Lib.hid (fun g hg => Nat.ne_of_gt (Nat.lt_of_lt_of_le (heap_lt KaD_3.out) (hot11.lt g hg).1))
  have HAp_t10_t11 := Lib.hid hat1
  have Ht10_4 := Lib.hid (hot10.lower HB_3.out.size)
  have Ht11_4 := Lib.hid (hot11.lower HB_3.out.size)
  have KaD_4 := Lib.hid ((hbt1.block _ (heap_lt KaD_3.out)).trans KaD_3.out)
  have HB_4 := Lib.hid (below_more HB_3.out hbt1)
  clear KaD_3 HB_3 hot10 hot11 hat1 hbt1
  have caD_0 : w3.cell? ⟨w.heap.size, 0, none⟩ = some (.slice A ss.length ca) := cell_of_row _ _ 0 _ _ _ KaD_4.out
  have caD_1 : w3.cell? ⟨w.heap.size, 1, none⟩ = some (.slice B ps.length cb) := cell_of_row _ _ 1 _ _ _ KaD_4.out
  go_wp2_with fail
  clear caD_0 caD_1
  refine (HS0.out At10 At11 ct10 ct11 _ ⟨(OwnR.rd fSt_len Ht10_4.out), (OwnR.rd fPu_len Ht11_4.out), by omega, by omega, HZs.out, HZp.out⟩ (ownR_lies Ht10_4.out)).mono ?_
  rintro e w4 ⟨vr20, vr21, rfl, hpk, hbr2⟩
  obtain ⟨hor20, hor21, har2⟩ := hpk
  obtain ⟨Ar20, cr20, hvr20, hcapr20, _⟩ := OwnR.form fSt_len hor20
  subst hvr20
  obtain ⟨Ar21, cr21, hvr21, hcapr21, _⟩ := OwnR.form fPu_len hor21
  subst hvr21
  have HAp_t10_r20 := Lib.hid (apart5 (fun k hk => (Ht10_4.out.lt k hk).2) (fun k hk => (hor20.lt k hk).1))
  have HAp_t11_r20 := Lib.hid (apart5 (fun k hk => (Ht11_4.out.lt k hk).2) (fun k hk => (hor20.lt k hk).1))
  have HAp_t10_r21 := Lib.hid (apart5 (fun k hk => (Ht10_4.out.lt k hk).2) (fun k hk => (hor21.lt k hk).1))
  have HAp_t11_r21 := Lib.hid (apart5 (fun k hk => (Ht11_4.out.lt k hk).2) (fun k hk => (hor21.lt k hk).1))
  have HNX_aD_r20 := Lib.hid (fun g hg => Nat.ne_of_gt (Nat.lt_of_lt_of_le (heap_lt KaD_4.out) (hor20.lt g hg).1))
  have HNX_aD_r21 := Lib.hid (fun g hg => Nat.ne_of_gt (Nat.lt_of_lt_of_le (heap_lt KaD_4.out) (hor21.lt g hg).1))
  have HAp_r20_r21 := Lib.hid har2
  have Ht10_5 := Lib.hid (Ht10_4.out.below hbr2)
  have Ht11_5 := Lib.hid (Ht11_4.out.below hbr2)
  have Hr20_5 := Lib.hid (hor20.lower HB_4.out.size)
  have Hr21_5 := Lib.hid (hor21.lower HB_4.out.size)
  have KaD_5 := Lib.hid ((hbr2.block _ (heap_lt KaD_4.out)).trans KaD_4.out)
  have HB_5 := Lib.hid (below_more HB_4.out hbr2)
  clear Ht10_4 Ht11_4 KaD_4 HB_4 hor20 hor21 har2 hbr2
  obtain ⟨w5, hw6⟩ : ∃ wn, w4.alloc (.cells #[.slice Ar20 V.length cr20, .slice Ar21 U.length cr21] 26) = wn := ⟨_, rfl⟩
  have hbx : Below w4.heap.size w4 w5 := by rw [← hw6]; exact gAlloc _ _
  have KX : w5.heap[w4.heap.size]? = some (.cells #[.slice Ar20 V.length cr20, .slice Ar21 U.length cr21] 26 (0, 0)) := by rw [← hw6]; exact heap_alloc_new _ _
  have HNX_w0_t10 := Lib.hid (fun g hg => Nat.ne_of_lt (Ht10_5.out.lt g hg).2)
  have HNX_w0_t11 := Lib.hid (fun g hg => Nat.ne_of_lt (Ht11_5.out.lt g hg).2)
  have HNX_w0_r20 := Lib.hid (fun g hg => Nat.ne_of_lt (Hr20_5.out.lt g hg).2)
  have HNX_w0_r21 := Lib.hid (fun g hg => Nat.ne_of_lt (Hr21_5.out.lt g hg).2)
  have Ht10_7 := Lib.hid (Ht10_5.out.below hbx)
  have Ht11_7 := Lib.hid (Ht11_5.out.below hbx)
  have Hr20_7 := Lib.hid (Hr20_5.out.below hbx)
  have Hr21_7 := Lib.hid (Hr21_5.out.below hbx)
  have KaD_7 := Lib.hid ((hbx.block _ (heap_lt KaD_5.out)).trans KaD_5.out)
  have HB_7 := Lib.hid (below_more HB_5.out hbx)
  clear Ht10_5 Ht11_5 Hr20_5 Hr21_5 KaD_5 HB_5
  have Kw0_6 := Lib.hid KX
  clear hbx KX
  clear Ht10_7 Ht11_7
  have caD_0 : w5.cell? ⟨w.heap.size, 0, none⟩ = some (.slice A ss.length ca) := cell_of_row _ _ 0 _ _ _ KaD_7.out
  have caD_1 : w5.cell? ⟨w.heap.size, 1, none⟩ = some (.slice B ps.length cb) := cell_of_row _ _ 1 _ _ _ KaD_7.out
  have cw0_0 : w5.cell? ⟨w4.heap.size, 0, none⟩ = some (.slice Ar20 V.length cr20) := cell_of_row _ _ 0 _ _ _ Kw0_6.out
  have cw0_1 : w5.cell? ⟨w4.heap.size, 1, none⟩ = some (.slice Ar21 U.length cr21) := cell_of_row _ _ 1 _ _ _ Kw0_6.out
  go_wp2_with fail
  clear caD_0 caD_1 cw0_0 cw0_1 hw6
  refine (toDisk_any A B ss ps ca cb _ (HRA.out.below HB_7.out) (HRB.out.below HB_7.out) (by omega) (by omega)).mono ?_
  rintro e w6 ⟨vx00, vx01, rfl, hox00, hox01, hax0, hbx0⟩
  obtain ⟨Ax00, cx00, hvx00, hcapx00, _⟩ := OwnR.form fSt_len hox00
  subst hvx00
  obtain ⟨Ax01, cx01, hvx01, hcapx01, _⟩ := OwnR.form fPu_len hox01
  subst hvx01
  have HAp_r20_x00 := Lib.hid (apart5 (fun k hk => (Hr20_7.out.lt k hk).2) (fun k hk => (hox00.lt k hk).1))
  have HAp_r21_x00 := Lib.hid (apart5 (fun k hk => (Hr21_7.out.lt k hk).2) (fun k hk => (hox00.lt k hk).1))
  have HAp_r20_x01 := Lib.hid (apart5 (fun k hk => (Hr20_7.out.lt k hk).2) (fun k hk => (hox01.lt k hk).1))
  have HAp_r21_x01 := Lib.hid (apart5 (fun k hk => (Hr21_7.out.lt k hk).2) (fun k hk => (hox01.lt k hk).1))
  have HNX_aD_x00 := Lib.hid (fun g hg => Nat.ne_of_gt (Nat.lt_of_lt_of_le (heap_lt KaD_7.out) (hox00.lt g hg).1))
  have HNX_w0_x00 := Lib.hid (fun g hg => Nat.ne_of_gt (Nat.lt_of_lt_of_le (heap_lt Kw0_6.out) (hox00.lt g hg).1))
  have HNX_aD_x01 := Lib.hid (fun g hg => Nat.ne_of_gt (Nat.lt_of_lt_of_le (heap_lt KaD_7.out) (hox01.lt g hg).1))
  have HNX_w0_x01 := Lib.hid (fun g hg => Nat.ne_of_gt (Nat.lt_of_lt_of_le (heap_lt Kw0_6.out) (hox01.lt g hg).1))
  have HAp_x00_x01 := Lib.hid hax0
  have Hr20_8 := Lib.hid (Hr20_7.out.below hbx0)
  have Hr21_8 := Lib.hid (Hr21_7.out.below hbx0)
  have Hx00_8 := Lib.hid (hox00.lower HB_7.out.size)
  have Hx01_8 := Lib.hid (hox01.lower HB_7.out.size)
  have KaD_8 := Lib.hid ((hbx0.block _ (heap_lt KaD_7.out)).trans KaD_7.out)
  have Kw0_8 := Lib.hid ((hbx0.block _ (heap_lt Kw0_6.out)).trans Kw0_6.out)
  have HB_8 := Lib.hid (below_more HB_7.out hbx0)
  clear Hr20_7 Hr21_7 KaD_7 Kw0_6 HB_7 hox00 hox01 hax0 hbx0
  obtain ⟨w7, hw9⟩ : ∃ wn, w6.alloc (.cells #[.slice Ax00 ss.length cx00, .slice Ax01 ps.length cx01] 26) = wn := ⟨_, rfl⟩
  have hbx : Below w6.heap.size w6 w7 := by rw [← hw9]; exact gAlloc _ _
  have KX : w7.heap[w6.heap.size]? = some (.cells #[.slice Ax00 ss.length cx00, .slice Ax01 ps.length cx01] 26 (0, 0)) := by rw [← hw9]; exact heap_alloc_new _ _
  have HNX_x0_r20 := Lib.hid (fun g hg => Nat.ne_of_lt (Hr20_8.out.lt g hg).2)
  have HNX_x0_r21 := Lib.hid (fun g hg => Nat.ne_of_lt (Hr21_8.out.lt g hg).2)
  have HNX_x0_x00 := Lib.hid (fun g hg => Nat.ne_of_lt (Hx00_8.out.lt g hg).2)
  have HNX_x0_x01 := Lib.hid (fun g hg => Nat.ne_of_lt (Hx01_8.out.lt g hg).2)
  have Hr20_10 := Lib.hid (Hr20_8.out.below hbx)
  have Hr21_10 := Lib.hid (Hr21_8.out.below hbx)
  have Hx00_10 := Lib.hid (Hx00_8.out.below hbx)
  have Hx01_10 := Lib.hid (Hx01_8.out.below hbx)
  have KaD_10 := Lib.hid ((hbx.block _ (heap_lt KaD_8.out)).trans KaD_8.out)
  have Kw0_10 := Lib.hid ((hbx.block _ (heap_lt Kw0_8.out)).trans Kw0_8.out)
  have HB_10 := Lib.hid (below_more HB_8.out hbx)
  clear Hr20_8 Hr21_8 Hx00_8 Hx01_8 KaD_8 Kw0_8 HB_8
  have Kx0_9 := Lib.hid KX
  clear hbx KX
  have caD_0 : w7.cell? ⟨w.heap.size, 0, none⟩ = some (.slice A ss.length ca) := cell_of_row _ _ 0 _ _ _ KaD_10.out
  have caD_1 : w7.cell? ⟨w.heap.size, 1, none⟩ = some (.slice B ps.length cb) := cell_of_row _ _ 1 _ _ _ KaD_10.out
  have cw0_0 : w7.cell? ⟨w4.heap.size, 0, none⟩ = some (.slice Ar20 V.length cr20) := cell_of_row _ _ 0 _ _ _ Kw0_10.out
  have cw0_1 : w7.cell? ⟨w4.heap.size, 1, none⟩ = some (.slice Ar21 U.length cr21) := cell_of_row _ _ 1 _ _ _ Kw0_10.out
  have cx0_0 : w7.cell? ⟨w6.heap.size, 0, none⟩ = some (.slice Ax00 ss.length cx00) := cell_of_row _ _ 0 _ _ _ Kx0_9.out
  have cx0_1 : w7.cell? ⟨w6.heap.size, 1, none⟩ = some (.slice Ax01 ps.length cx01) := cell_of_row _ _ 1 _ _ _ Kx0_9.out
  go_wp2_with fail
  clear caD_0 caD_1 cw0_0 cw0_1 cx0_0 cx0_1 hw9
  refine (HI.out Ax00 Ax01 cx00 cx01 _ (hK _ _ HW.out HB_10.out) ⟨(OwnR.rd fSt_len Hx00_10.out), (OwnR.rd fPu_len Hx01_10.out), by omega, by omega, HZs.out, HZp.out⟩ (ownR_lies Hx00_10.out) (ownR_lies Hx01_10.out)).mono ?_
  rintro e w8 ⟨vr30, vr31, rfl, hpk, hbr3⟩
  obtain ⟨hor30, hor31, har3⟩ := hpk
  obtain ⟨Ar30, cr30, hvr30, hcapr30, _⟩ := OwnR.form fSt_len hor30
  subst hvr30
  obtain ⟨Ar31, cr31, hvr31, hcapr31, _⟩ := OwnR.form fPu_len hor31
  subst hvr31
  have HAp_r20_r30 := Lib.hid (apart5 (fun k hk => (Hr20_10.out.lt k hk).2) (fun k hk => (hor30.lt k hk).1))
  have HAp_r21_r30 := Lib.hid (apart5 (fun k hk => (Hr21_10.out.lt k hk).2) (fun k hk => (hor30.lt k hk).1))
  have HAp_x00_r30 := Lib.hid (apart5 (fun k hk => (Hx00_10.out.lt k hk).2) (fun k hk => (hor30.lt k hk).1))
  have HAp_x01_r30 := Lib.hid (apart5 (fun k hk => (Hx01_10.out.lt k hk).2) (fun k hk => (hor30.lt k hk).1))
  have HAp_r20_r31 := Lib.hid (apart5 (fun k hk => (Hr20_10.out.lt k hk).2) (fun k hk => (hor31.lt k hk).1))
  have HAp_r21_r31 := Lib.hid (apart5 (fun k hk => (Hr21_10.out.lt k hk).2) (fun k hk => (hor31.lt k hk).1))
  have HAp_x00_r31 := Lib.hid (apart5 (fun k hk => (Hx00_10.out.lt k hk).2) (fun k hk => (hor31.lt k hk).1))
  have HAp_x01_r31 := Lib.hid (apart5 (fun k hk => (Hx01_10.out.lt k hk).2) (fun k hk => (hor31.lt k hk).1))
  have HNX_aD_r30 := Lib.hid (fun g hg => Nat.ne_of_gt (Nat.lt_of_lt_of_le (heap_lt KaD_10.out) (hor30.lt g hg).1))
  have HNX_w0_r30 := Lib.hid (fun g hg => Nat.ne_of_gt (Nat.lt_of_lt_of_le (heap_lt Kw0_10.out) (hor30.lt g hg).1))
  have HNX_x0_r30 := Lib.hid (fun g hg => Nat.ne_of_gt (Nat.lt_of_lt_of_le (heap_lt Kx0_9.out) (hor30.lt g hg).1))
  have HNX_aD_r31 := Lib.hid (fun g hg => Nat.ne_of_gt (Nat.lt_of_lt_of_le (heap_lt KaD_10.out) (hor31.lt g hg).1))
  have HNX_w0_r31 := Lib.hid (fun g hg => Nat.ne_of_gt (Nat.lt_of_lt_of_le (heap_lt Kw0_10.out) (hor31.lt g hg).1))
  have HNX_x0_r31 := Lib.hid (fun g hg => Nat.ne_of_gt (Nat.lt_of_lt_of_le (heap_lt Kx0_9.out) (hor31.lt g hg).1))
  have HAp_r30_r31 := Lib.hid har3
  have Hr20_11 := Lib.hid (Hr20_10.out.below hbr3)
  have Hr21_11 := Lib.hid (Hr21_10.out.below hbr3)
  have Hx00_11 := Lib.hid (Hx00_10.out.below hbr3)
  have Hx01_11 := Lib.hid (Hx01_10.out.below hbr3)
  have Hr30_11 := Lib.hid (hor30.lower HB_10.out.size)
  have Hr31_11 := Lib.hid (hor31.lower HB_10.out.size)
  have KaD_11 := Lib.hid ((hbr3.block _ (heap_lt KaD_10.out)).trans KaD_10.out)
  have Kw0_11 := Lib.hid ((hbr3.block _ (heap_lt Kw0_10.out)).trans Kw0_10.out)
  have Kx0_11 := Lib.hid ((hbr3.block _ (heap_lt Kx0_9.out)).trans Kx0_9.out)
  have HB_11 := Lib.hid (below_more HB_10.out hbr3)
  clear Hr20_10 Hr21_10 Hx00_10 Hx01_10 KaD_10 Kw0_10 Kx0_9 HB_10 hor30 hor31 har3 hbr3
  obtain ⟨w9, hw12⟩ : ∃ wn, w8.alloc (.cells #[.slice Ar30 V.length cr30, .slice Ar31 U.length cr31] 26) = wn := ⟨_, rfl⟩
  have hbx : Below w8.heap.size w8 w9 := by rw [← hw12]; exact gAlloc _ _
  have KX : w9.heap[w8.heap.size]? = some (.cells #[.slice Ar30 V.length cr30, .slice Ar31 U.length cr31] 26 (0, 0)) := by rw [← hw12]; exact heap_alloc_new _ _
  have HNX_g0_r20 := Lib.hid (fun g hg => Nat.ne_of_lt (Hr20_11.out.lt g hg).2)
  have HNX_g0_r21 := Lib.hid (fun g hg => Nat.ne_of_lt (Hr21_11.out.lt g hg).2)
  have HNX_g0_x00 := Lib.hid (fun g hg => Nat.ne_of_lt (Hx00_11.out.lt g hg).2)
  have HNX_g0_x01 := Lib.hid (fun g hg => Nat.ne_of_lt (Hx01_11.out.lt g hg).2)
  have HNX_g0_r30 := Lib.hid (fun g hg => Nat.ne_of_lt (Hr30_11.out.lt g hg).2)
  have HNX_g0_r31 := Lib.hid (fun g hg => Nat.ne_of_lt (Hr31_11.out.lt g hg).2)
  have Hr20_13 := Lib.hid (Hr20_11.out.below hbx)
  have Hr21_13 := Lib.hid (Hr21_11.out.below hbx)
  have Hx00_13 := Lib.hid (Hx00_11.out.below hbx)
  have Hx01_13 := Lib.hid (Hx01_11.out.below hbx)
  have Hr30_13 := Lib.hid (Hr30_11.out.below hbx)
  have Hr31_13 := Lib.hid (Hr31_11.out.below hbx)
  have KaD_13 := Lib.hid ((hbx.block _ (heap_lt KaD_11.out)).trans KaD_11.out)
  have Kw0_13 := Lib.hid ((hbx.block _ (heap_lt Kw0_11.out)).trans Kw0_11.out)
  have Kx0_13 := Lib.hid ((hbx.block _ (heap_lt Kx0_11.out)).trans Kx0_11.out)
  have HB_13 := Lib.hid (below_more HB_11.out hbx)
  clear Hr20_11 Hr21_11 Hx00_11 Hx01_11 Hr30_11 Hr31_11 KaD_11 Kw0_11 Kx0_11 HB_11
  have Kg0_12 := Lib.hid KX
  clear hbx KX
  have caD_0 : w9.cell? ⟨w.heap.size, 0, none⟩ = some (.slice A ss.length ca) := cell_of_row _ _ 0 _ _ _ KaD_13.out
  have caD_1 : w9.cell? ⟨w.heap.size, 1, none⟩ = some (.slice B ps.length cb) := cell_of_row _ _ 1 _ _ _ KaD_13.out
  have cw0_0 : w9.cell? ⟨w4.heap.size, 0, none⟩ = some (.slice Ar20 V.length cr20) := cell_of_row _ _ 0 _ _ _ Kw0_13.out
  have cw0_1 : w9.cell? ⟨w4.heap.size, 1, none⟩ = some (.slice Ar21 U.length cr21) := cell_of_row _ _ 1 _ _ _ Kw0_13.out
  have cx0_0 : w9.cell? ⟨w6.heap.size, 0, none⟩ = some (.slice Ax00 ss.length cx00) := cell_of_row _ _ 0 _ _ _ Kx0_13.out
  have cx0_1 : w9.cell? ⟨w6.heap.size, 1, none⟩ = some (.slice Ax01 ps.length cx01) := cell_of_row _ _ 1 _ _ _ Kx0_13.out
  have cg0_0 : w9.cell? ⟨w8.heap.size, 0, none⟩ = some (.slice Ar30 V.length cr30) := cell_of_row _ _ 0 _ _ _ Kg0_12.out
  have cg0_1 : w9.cell? ⟨w8.heap.size, 1, none⟩ = some (.slice Ar31 U.length cr31) := cell_of_row _ _ 1 _ _ _ Kg0_12.out
  go_wp2_with fail
  clear caD_0 caD_1 cw0_0 cw0_1 cx0_0 cx0_1 cg0_0 cg0_1 hw12
  refine (eqDisk_self Ar30 Ar31 Ar20 Ar21 V U cr30 cr31 cr20 cr21 _ (OwnR.rd fSt_len Hr30_13.out) (OwnR.rd fPu_len Hr31_13.out) (OwnR.rd fSt_len Hr20_13.out) (OwnR.rd fPu_len Hr21_13.out) (by omega) (by omega)).mono ?_
  rintro e w10 ⟨rfl, hbq⟩
  have Hr20_14 := Lib.hid (Hr20_13.out.below hbq)
  have Hr21_14 := Lib.hid (Hr21_13.out.below hbq)
  have Hx00_14 := Lib.hid (Hx00_13.out.below hbq)
  have Hx01_14 := Lib.hid (Hx01_13.out.below hbq)
  have Hr30_14 := Lib.hid (Hr30_13.out.below hbq)
  have Hr31_14 := Lib.hid (Hr31_13.out.below hbq)
  have KaD_14 := Lib.hid ((hbq.block _ (heap_lt KaD_13.out)).trans KaD_13.out)
  have Kw0_14 := Lib.hid ((hbq.block _ (heap_lt Kw0_13.out)).trans Kw0_13.out)
  have Kx0_14 := Lib.hid ((hbq.block _ (heap_lt Kx0_13.out)).trans Kx0_13.out)
  have Kg0_14 := Lib.hid ((hbq.block _ (heap_lt Kg0_12.out)).trans Kg0_12.out)
  have HB_14 := Lib.hid (below_more HB_13.out hbq)
  clear Hr20_13 Hr21_13 Hx00_13 Hx01_13 Hr30_13 Hr31_13 KaD_13 Kw0_13 Kx0_13 Kg0_12 HB_13
  clear hbq
  have caD_0 : w10.cell? ⟨w.heap.size, 0, none⟩ = some (.slice A ss.length ca) := cell_of_row _ _ 0 _ _ _ KaD_14.out
  have caD_1 : w10.cell? ⟨w.heap.size, 1, none⟩ = some (.slice B ps.length cb) := cell_of_row _ _ 1 _ _ _ KaD_14.out
  have cw0_0 : w10.cell? ⟨w4.heap.size, 0, none⟩ = some (.slice Ar20 V.length cr20) := cell_of_row _ _ 0 _ _ _ Kw0_14.out
  have cw0_1 : w10.cell? ⟨w4.heap.size, 1, none⟩ = some (.slice Ar21 U.length cr21) := cell_of_row _ _ 1 _ _ _ Kw0_14.out
  have cx0_0 : w10.cell? ⟨w6.heap.size, 0, none⟩ = some (.slice Ax00 ss.length cx00) := cell_of_row _ _ 0 _ _ _ Kx0_14.out
  have cx0_1 : w10.cell? ⟨w6.heap.size, 1, none⟩ = some (.slice Ax01 ps.length cx01) := cell_of_row _ _ 1 _ _ _ Kx0_14.out
  have cg0_0 : w10.cell? ⟨w8.heap.size, 0, none⟩ = some (.slice Ar30 V.length cr30) := cell_of_row _ _ 0 _ _ _ Kg0_14.out
  have cg0_1 : w10.cell? ⟨w8.heap.size, 1, none⟩ = some (.slice Ar31 U.length cr31) := cell_of_row _ _ 1 _ _ _ Kg0_14.out
  go_wp2_with fail
  go_region_held3 (fun w' => w'.cell? ⟨w6.heap.size, 0, none⟩ = some (.slice Ax00 ss.length cx00) ∧ w'.cell? ⟨w6.heap.size, 1, none⟩ = some (.slice Ax01 ps.length cx01) ∧ w'.cell? ⟨w.heap.size, 0, none⟩ = some (.slice A ss.length ca) ∧ w'.cell? ⟨w.heap.size, 1, none⟩ = some (.slice B ps.length cb)) (first | exact ⟨cx0_0, cx0_1, caD_0, caD_1⟩ | exact ⟨rr0, rr1, rr2, rr3⟩ | exact ⟨srr0, srr1, srr2, srr3⟩ | go_keep) (first
    | (go_at_call 36; refine (toDisk_any A B ss ps ca cb _ ((HRA.out.below HB_14.out).below gDrew) ((HRB.out.below HB_14.out).below gDrew) (by omega) (by omega)).mono ?_; rintro e we ⟨ve0, ve1, rfl, hoe0, hoe1, hae, hbe⟩; have rr0 := (hbe.cell (World.block_lt_of_cell? _ _ cx0_0)).trans cx0_0; have rr1 := (hbe.cell (World.block_lt_of_cell? _ _ cx0_1)).trans cx0_1; have rr2 := (hbe.cell (World.block_lt_of_cell? _ _ caD_0)).trans caD_0; have rr3 := (hbe.cell (World.block_lt_of_cell? _ _ caD_1)).trans caD_1; obtain ⟨Ae0, ce0, rfl, hcape0, _⟩ := OwnR.form fSt_len hoe0; obtain ⟨Ae1, ce1, rfl, hcape1, _⟩ := OwnR.form fPu_len hoe1)
    | (go_at_call 32; refine (eqDisk_self Ax00 Ax01 Ae0 Ae1 ss ps cx00 cx01 ce0 ce1 _ (OwnR.rd fSt_len (Lib.hid ((Hx00_14.out.below gDrew).below hbe)).out) (OwnR.rd fPu_len (Lib.hid ((Hx01_14.out.below gDrew).below hbe)).out) (OwnR.rd fSt_len (Lib.hid hoe0).out) (OwnR.rd fPu_len (Lib.hid hoe1).out) (by omega) (by omega)).mono ?_; rintro e w11 ⟨rfl, hbf⟩; have srr0 := (hbf.cell (World.block_lt_of_cell? _ _ rr0)).trans rr0; have srr1 := (hbf.cell (World.block_lt_of_cell? _ _ rr1)).trans rr1; have srr2 := (hbf.cell (World.block_lt_of_cell? _ _ rr2)).trans rr2; have srr3 := (hbf.cell (World.block_lt_of_cell? _ _ rr3)).trans rr3))
  have hbq := below_more gDrew (below_more hbe hbf)
  clear srr0 srr1 srr2 srr3 rr0 rr1 rr2 rr3 caD_0 caD_1 cw0_0 cw0_1 cx0_0 cx0_1 cg0_0 cg0_1 hoe0 hoe1 hae
  have Hr20_15 := Lib.hid (Hr20_14.out.below hbq)
  have Hr21_15 := Lib.hid (Hr21_14.out.below hbq)
  have Hx00_15 := Lib.hid (Hx00_14.out.below hbq)
  have Hx01_15 := Lib.hid (Hx01_14.out.below hbq)
  have Hr30_15 := Lib.hid (Hr30_14.out.below hbq)
  have Hr31_15 := Lib.hid (Hr31_14.out.below hbq)
  have KaD_15 := Lib.hid ((hbq.block _ (heap_lt KaD_14.out)).trans KaD_14.out)
  have Kw0_15 := Lib.hid ((hbq.block _ (heap_lt Kw0_14.out)).trans Kw0_14.out)
  have Kx0_15 := Lib.hid ((hbq.block _ (heap_lt Kx0_14.out)).trans Kx0_14.out)
  have Kg0_15 := Lib.hid ((hbq.block _ (heap_lt Kg0_14.out)).trans Kg0_14.out)
  have HB_15 := Lib.hid (below_more HB_14.out hbq)
  clear Hr20_14 Hr21_14 Hx00_14 Hx01_14 Hr30_14 Hr31_14 KaD_14 Kw0_14 Kx0_14 Kg0_14 HB_14
  clear hbq hbe hbf
  have caD_0 : w11.cell? ⟨w.heap.size, 0, none⟩ = some (.slice A ss.length ca) := cell_of_row _ _ 0 _ _ _ KaD_15.out
  have caD_1 : w11.cell? ⟨w.heap.size, 1, none⟩ = some (.slice B ps.length cb) := cell_of_row _ _ 1 _ _ _ KaD_15.out
  have cw0_0 : w11.cell? ⟨w4.heap.size, 0, none⟩ = some (.slice Ar20 V.length cr20) := cell_of_row _ _ 0 _ _ _ Kw0_15.out
  have cw0_1 : w11.cell? ⟨w4.heap.size, 1, none⟩ = some (.slice Ar21 U.length cr21) := cell_of_row _ _ 1 _ _ _ Kw0_15.out
  have cx0_0 : w11.cell? ⟨w6.heap.size, 0, none⟩ = some (.slice Ax00 ss.length cx00) := cell_of_row _ _ 0 _ _ _ Kx0_15.out
  have cx0_1 : w11.cell? ⟨w6.heap.size, 1, none⟩ = some (.slice Ax01 ps.length cx01) := cell_of_row _ _ 1 _ _ _ Kx0_15.out
  have cg0_0 : w11.cell? ⟨w8.heap.size, 0, none⟩ = some (.slice Ar30 V.length cr30) := cell_of_row _ _ 0 _ _ _ Kg0_15.out
  have cg0_1 : w11.cell? ⟨w8.heap.size, 1, none⟩ = some (.slice Ar31 U.length cr31) := cell_of_row _ _ 1 _ _ _ Kg0_15.out
  go_wp2_with fail
  clear caD_0 caD_1 cw0_0 cw0_1 cx0_0 cx0_1 cg0_0 cg0_1
  refine (markDisk_any _ _ ss ps _ 1 _ Hx00_15.out Hx01_15.out HAp_x00_x01.out (by omega) (by omega) (by omega) (by omega)).mono ?_
  rintro e w12 ⟨rfl, hm0, hm1, wm, hg0, hg1⟩
  have Hr20_16 := Lib.hid ((Hr20_15.out.kept hg0 HAp_r20_x00.out).kept hg1 HAp_r20_x01.out)
  have Hr21_16 := Lib.hid ((Hr21_15.out.kept hg0 HAp_r21_x00.out).kept hg1 HAp_r21_x01.out)
  have Hr30_16 := Lib.hid ((Hr30_15.out.kept hg0 (gApart HAp_x00_r30.out)).kept hg1 (gApart HAp_x01_r30.out))
  have Hr31_16 := Lib.hid ((Hr31_15.out.kept hg0 (gApart HAp_x00_r31.out)).kept hg1 (gApart HAp_x01_r31.out))
  have KaD_16 := Lib.hid ((hg1.block _ (Nat.lt_of_lt_of_le (heap_lt KaD_15.out) hg0.size) (fun e => HNX_aD_x01.out _ e.symm rfl)).trans ((hg0.block _ (heap_lt KaD_15.out) (fun e => HNX_aD_x00.out _ e.symm rfl)).trans KaD_15.out))
  have Kw0_16 := Lib.hid ((hg1.block _ (Nat.lt_of_lt_of_le (heap_lt Kw0_15.out) hg0.size) (fun e => HNX_w0_x01.out _ e.symm rfl)).trans ((hg0.block _ (heap_lt Kw0_15.out) (fun e => HNX_w0_x00.out _ e.symm rfl)).trans Kw0_15.out))
  have Kx0_16 := Lib.hid ((hg1.block _ (Nat.lt_of_lt_of_le (heap_lt Kx0_15.out) hg0.size) (fun e => HNX_x0_x01.out _ e.symm rfl)).trans ((hg0.block _ (heap_lt Kx0_15.out) (fun e => HNX_x0_x00.out _ e.symm rfl)).trans Kx0_15.out))
  have Kg0_16 := Lib.hid ((hg1.block _ (Nat.lt_of_lt_of_le (heap_lt Kg0_15.out) hg0.size) (fun e => HNX_g0_x01.out _ e.symm rfl)).trans ((hg0.block _ (heap_lt Kg0_15.out) (fun e => HNX_g0_x00.out _ e.symm rfl)).trans Kg0_15.out))
  have HMb0 := Lib.hid (fun k hk => (Hx00_15.out.lt k hk).1)
  have HMb1 := Lib.hid (fun k hk => (Hx01_15.out.lt k hk).1)
  have HB_16 : Hid (Below w.heap.size w w12) := ((HB_15.out.grown hg0 HB_15.out.size HMb0.out).grown hg1 (HB_15.out.grown hg0 HB_15.out.size HMb0.out).size HMb1.out)
  have Hx00_16 := Lib.hid hm0
  have Hx01_16 := Lib.hid hm1
  clear Hr20_15 Hr21_15 Hr30_15 Hr31_15 KaD_15 Kw0_15 Kx0_15 Kg0_15 HB_15 Hx00_15 Hx01_15 hm0 hm1 hg0 hg1 HMb0 HMb1
  clear Hx00_16 Hx01_16
  clear Kx0_16
  have caD_0 : w12.cell? ⟨w.heap.size, 0, none⟩ = some (.slice A ss.length ca) := cell_of_row _ _ 0 _ _ _ KaD_16.out
  have caD_1 : w12.cell? ⟨w.heap.size, 1, none⟩ = some (.slice B ps.length cb) := cell_of_row _ _ 1 _ _ _ KaD_16.out
  have cw0_0 : w12.cell? ⟨w4.heap.size, 0, none⟩ = some (.slice Ar20 V.length cr20) := cell_of_row _ _ 0 _ _ _ Kw0_16.out
  have cw0_1 : w12.cell? ⟨w4.heap.size, 1, none⟩ = some (.slice Ar21 U.length cr21) := cell_of_row _ _ 1 _ _ _ Kw0_16.out
  have cg0_0 : w12.cell? ⟨w8.heap.size, 0, none⟩ = some (.slice Ar30 V.length cr30) := cell_of_row _ _ 0 _ _ _ Kg0_16.out
  have cg0_1 : w12.cell? ⟨w8.heap.size, 1, none⟩ = some (.slice Ar31 U.length cr31) := cell_of_row _ _ 1 _ _ _ Kg0_16.out
  go_wp2_with fail
  clear caD_0 caD_1 cw0_0 cw0_1 cg0_0 cg0_1
  refine (eqDisk_self Ar30 Ar31 Ar20 Ar21 V U cr30 cr31 cr20 cr21 _ (OwnR.rd fSt_len Hr30_16.out) (OwnR.rd fPu_len Hr31_16.out) (OwnR.rd fSt_len Hr20_16.out) (OwnR.rd fPu_len Hr21_16.out) (by omega) (by omega)).mono ?_
  rintro e w13 ⟨rfl, hbq⟩
  have Hr20_17 := Lib.hid (Hr20_16.out.below hbq)
  have Hr21_17 := Lib.hid (Hr21_16.out.below hbq)
  have Hr30_17 := Lib.hid (Hr30_16.out.below hbq)
  have Hr31_17 := Lib.hid (Hr31_16.out.below hbq)
  have KaD_17 := Lib.hid ((hbq.block _ (heap_lt KaD_16.out)).trans KaD_16.out)
  have Kw0_17 := Lib.hid ((hbq.block _ (heap_lt Kw0_16.out)).trans Kw0_16.out)
  have Kg0_17 := Lib.hid ((hbq.block _ (heap_lt Kg0_16.out)).trans Kg0_16.out)
  have HB_17 := Lib.hid (below_more HB_16.out hbq)
  clear Hr20_16 Hr21_16 Hr30_16 Hr31_16 KaD_16 Kw0_16 Kg0_16 HB_16
  clear hbq
  have caD_0 : w13.cell? ⟨w.heap.size, 0, none⟩ = some (.slice A ss.length ca) := cell_of_row _ _ 0 _ _ _ KaD_17.out
  have caD_1 : w13.cell? ⟨w.heap.size, 1, none⟩ = some (.slice B ps.length cb) := cell_of_row _ _ 1 _ _ _ KaD_17.out
  have cw0_0 : w13.cell? ⟨w4.heap.size, 0, none⟩ = some (.slice Ar20 V.length cr20) := cell_of_row _ _ 0 _ _ _ Kw0_17.out
  have cw0_1 : w13.cell? ⟨w4.heap.size, 1, none⟩ = some (.slice Ar21 U.length cr21) := cell_of_row _ _ 1 _ _ _ Kw0_17.out
  have cg0_0 : w13.cell? ⟨w8.heap.size, 0, none⟩ = some (.slice Ar30 V.length cr30) := cell_of_row _ _ 0 _ _ _ Kg0_17.out
  have cg0_1 : w13.cell? ⟨w8.heap.size, 1, none⟩ = some (.slice Ar31 U.length cr31) := cell_of_row _ _ 1 _ _ _ Kg0_17.out
  go_wp2_with fail
  clear caD_0 caD_1 cw0_0 cw0_1 cg0_0 cg0_1
  refine (markDisk_any _ _ V U _ 1 _ Hr30_17.out Hr31_17.out HAp_r30_r31.out (by omega) (by omega) (by omega) (by omega)).mono ?_
  rintro e w14 ⟨rfl, hm0, hm1, wm, hg0, hg1⟩
  have Hr20_18 := Lib.hid ((Hr20_17.out.kept hg0 HAp_r20_r30.out).kept hg1 HAp_r20_r31.out)
  have Hr21_18 := Lib.hid ((Hr21_17.out.kept hg0 HAp_r21_r30.out).kept hg1 HAp_r21_r31.out)
  have KaD_18 := Lib.hid ((hg1.block _ (Nat.lt_of_lt_of_le (heap_lt KaD_17.out) hg0.size) (fun e => HNX_aD_r31.out _ e.symm rfl)).trans ((hg0.block _ (heap_lt KaD_17.out) (fun e => HNX_aD_r30.out _ e.symm rfl)).trans KaD_17.out))
  have Kw0_18 := Lib.hid ((hg1.block _ (Nat.lt_of_lt_of_le (heap_lt Kw0_17.out) hg0.size) (fun e => HNX_w0_r31.out _ e.symm rfl)).trans ((hg0.block _ (heap_lt Kw0_17.out) (fun e => HNX_w0_r30.out _ e.symm rfl)).trans Kw0_17.out))
  have Kg0_18 := Lib.hid ((hg1.block _ (Nat.lt_of_lt_of_le (heap_lt Kg0_17.out) hg0.size) (fun e => HNX_g0_r31.out _ e.symm rfl)).trans ((hg0.block _ (heap_lt Kg0_17.out) (fun e => HNX_g0_r30.out _ e.symm rfl)).trans Kg0_17.out))
  have HMb0 := Lib.hid (fun k hk => (Hr30_17.out.lt k hk).1)
  have HMb1 := Lib.hid (fun k hk => (Hr31_17.out.lt k hk).1)
  have HB_18 : Hid (Below w.heap.size w w14) := ((HB_17.out.grown hg0 HB_17.out.size HMb0.out).grown hg1 (HB_17.out.grown hg0 HB_17.out.size HMb0.out).size HMb1.out)
  have Hr30_18 := Lib.hid hm0
  have Hr31_18 := Lib.hid hm1
  clear Hr20_17 Hr21_17 KaD_17 Kw0_17 Kg0_17 HB_17 Hr30_17 Hr31_17 hm0 hm1 hg0 hg1 HMb0 HMb1
  have caD_0 : w14.cell? ⟨w.heap.size, 0, none⟩ = some (.slice A ss.length ca) := cell_of_row _ _ 0 _ _ _ KaD_18.out
  have caD_1 : w14.cell? ⟨w.heap.size, 1, none⟩ = some (.slice B ps.length cb) := cell_of_row _ _ 1 _ _ _ KaD_18.out
  have cw0_0 : w14.cell? ⟨w4.heap.size, 0, none⟩ = some (.slice Ar20 V.length cr20) := cell_of_row _ _ 0 _ _ _ Kw0_18.out
  have cw0_1 : w14.cell? ⟨w4.heap.size, 1, none⟩ = some (.slice Ar21 U.length cr21) := cell_of_row _ _ 1 _ _ _ Kw0_18.out
  have cg0_0 : w14.cell? ⟨w8.heap.size, 0, none⟩ = some (.slice Ar30 V.length cr30) := cell_of_row _ _ 0 _ _ _ Kg0_18.out
  have cg0_1 : w14.cell? ⟨w8.heap.size, 1, none⟩ = some (.slice Ar31 U.length cr31) := cell_of_row _ _ 1 _ _ _ Kg0_18.out
  go_wp2_with fail
  clear caD_0 caD_1 cw0_0 cw0_1 cg0_0 cg0_1
  refine (heldDisk_any Ar30 Ar31 1 V.length U.length cr30 cr31 _ (OwnR.rd fSt_len Hr30_18.out) (OwnR.rd fPu_len Hr31_18.out) (by omega) (by omega) (by omega) (by omega)).mono ?_
  rintro e w15 ⟨rfl, hbq⟩
  have Hr20_19 := Lib.hid (Hr20_18.out.below hbq)
  have Hr21_19 := Lib.hid (Hr21_18.out.below hbq)
  have Hr30_19 := Lib.hid (Hr30_18.out.below hbq)
  have Hr31_19 := Lib.hid (Hr31_18.out.below hbq)
  have KaD_19 := Lib.hid ((hbq.block _ (heap_lt KaD_18.out)).trans KaD_18.out)
  have Kw0_19 := Lib.hid ((hbq.block _ (heap_lt Kw0_18.out)).trans Kw0_18.out)
  have Kg0_19 := Lib.hid ((hbq.block _ (heap_lt Kg0_18.out)).trans Kg0_18.out)
  have HB_19 := Lib.hid (below_more HB_18.out hbq)
  clear Hr20_18 Hr21_18 Hr30_18 Hr31_18 KaD_18 Kw0_18 Kg0_18 HB_18
  clear hbq
  have caD_0 : w15.cell? ⟨w.heap.size, 0, none⟩ = some (.slice A ss.length ca) := cell_of_row _ _ 0 _ _ _ KaD_19.out
  have caD_1 : w15.cell? ⟨w.heap.size, 1, none⟩ = some (.slice B ps.length cb) := cell_of_row _ _ 1 _ _ _ KaD_19.out
  have cw0_0 : w15.cell? ⟨w4.heap.size, 0, none⟩ = some (.slice Ar20 V.length cr20) := cell_of_row _ _ 0 _ _ _ Kw0_19.out
  have cw0_1 : w15.cell? ⟨w4.heap.size, 1, none⟩ = some (.slice Ar21 U.length cr21) := cell_of_row _ _ 1 _ _ _ Kw0_19.out
  have cg0_0 : w15.cell? ⟨w8.heap.size, 0, none⟩ = some (.slice Ar30 V.length cr30) := cell_of_row _ _ 0 _ _ _ Kg0_19.out
  have cg0_1 : w15.cell? ⟨w8.heap.size, 1, none⟩ = some (.slice Ar31 U.length cr31) := cell_of_row _ _ 1 _ _ _ Kg0_19.out
  go_wp2_with fail
  clear caD_0 caD_1 cw0_0 cw0_1 cg0_0 cg0_1
  refine (toDisk_any A B ss ps ca cb _ (HRA.out.below HB_19.out) (HRB.out.below HB_19.out) (by omega) (by omega)).mono ?_
  rintro e w16 ⟨vt40, vt41, rfl, hot40, hot41, hat4, hbt4⟩
  obtain ⟨At40, ct40, hvt40, hcapt40, _⟩ := OwnR.form fSt_len hot40
  subst hvt40
  obtain ⟨At41, ct41, hvt41, hcapt41, _⟩ := OwnR.form fPu_len hot41
  subst hvt41
  have HAp_r20_t40 := Lib.hid (apart5 (fun k hk => (Hr20_19.out.lt k hk).2) (fun k hk => (hot40.lt k hk).1))
  have HAp_r21_t40 := Lib.hid (apart5 (fun k hk => (Hr21_19.out.lt k hk).2) (fun k hk => (hot40.lt k hk).1))
  have HAp_r30_t40 := Lib.hid (apart5 (fun k hk => (Hr30_19.out.lt k hk).2) (fun k hk => (hot40.lt k hk).1))
  have HAp_r31_t40 := Lib.hid (apart5 (fun k hk => (Hr31_19.out.lt k hk).2) (fun k hk => (hot40.lt k hk).1))
  have HAp_r20_t41 := Lib.hid (apart5 (fun k hk => (Hr20_19.out.lt k hk).2) (fun k hk => (hot41.lt k hk).1))
  have HAp_r21_t41 := Lib.hid (apart5 (fun k hk => (Hr21_19.out.lt k hk).2) (fun k hk => (hot41.lt k hk).1))
  have HAp_r30_t41 := Lib.hid (apart5 (fun k hk => (Hr30_19.out.lt k hk).2) (fun k hk => (hot41.lt k hk).1))
  have HAp_r31_t41 := Lib.hid (apart5 (fun k hk => (Hr31_19.out.lt k hk).2) (fun k hk => (hot41.lt k hk).1))
  have HNX_aD_t40 := Lib.hid (fun g hg => Nat.ne_of_gt (Nat.lt_of_lt_of_le (heap_lt KaD_19.out) (hot40.lt g hg).1))
  have HNX_w0_t40 := Lib.hid (fun g hg => Nat.ne_of_gt (Nat.lt_of_lt_of_le (heap_lt Kw0_19.out) (hot40.lt g hg).1))
  have HNX_g0_t40 := Lib.hid (fun g hg => Nat.ne_of_gt (Nat.lt_of_lt_of_le (heap_lt Kg0_19.out) (hot40.lt g hg).1))
  have HNX_aD_t41 := Lib.hid (fun g hg => Nat.ne_of_gt (Nat.lt_of_lt_of_le (heap_lt KaD_19.out) (hot41.lt g hg).1))
  have HNX_w0_t41 := Lib.hid (fun g hg => Nat.ne_of_gt (Nat.lt_of_lt_of_le (heap_lt Kw0_19.out) (hot41.lt g hg).1))
  have HNX_g0_t41 := Lib.hid (fun g hg => Nat.ne_of_gt (Nat.lt_of_lt_of_le (heap_lt Kg0_19.out) (hot41.lt g hg).1))
  have HAp_t40_t41 := Lib.hid hat4
  have Hr20_20 := Lib.hid (Hr20_19.out.below hbt4)
  have Hr21_20 := Lib.hid (Hr21_19.out.below hbt4)
  have Hr30_20 := Lib.hid (Hr30_19.out.below hbt4)
  have Hr31_20 := Lib.hid (Hr31_19.out.below hbt4)
  have Ht40_20 := Lib.hid (hot40.lower HB_19.out.size)
  have Ht41_20 := Lib.hid (hot41.lower HB_19.out.size)
  have KaD_20 := Lib.hid ((hbt4.block _ (heap_lt KaD_19.out)).trans KaD_19.out)
  have Kw0_20 := Lib.hid ((hbt4.block _ (heap_lt Kw0_19.out)).trans Kw0_19.out)
  have Kg0_20 := Lib.hid ((hbt4.block _ (heap_lt Kg0_19.out)).trans Kg0_19.out)
  have HB_20 := Lib.hid (below_more HB_19.out hbt4)
  clear Hr20_19 Hr21_19 Hr30_19 Hr31_19 KaD_19 Kw0_19 Kg0_19 HB_19 hot40 hot41 hat4 hbt4
  have caD_0 : w16.cell? ⟨w.heap.size, 0, none⟩ = some (.slice A ss.length ca) := cell_of_row _ _ 0 _ _ _ KaD_20.out
  have caD_1 : w16.cell? ⟨w.heap.size, 1, none⟩ = some (.slice B ps.length cb) := cell_of_row _ _ 1 _ _ _ KaD_20.out
  have cw0_0 : w16.cell? ⟨w4.heap.size, 0, none⟩ = some (.slice Ar20 V.length cr20) := cell_of_row _ _ 0 _ _ _ Kw0_20.out
  have cw0_1 : w16.cell? ⟨w4.heap.size, 1, none⟩ = some (.slice Ar21 U.length cr21) := cell_of_row _ _ 1 _ _ _ Kw0_20.out
  have cg0_0 : w16.cell? ⟨w8.heap.size, 0, none⟩ = some (.slice Ar30 V.length cr30) := cell_of_row _ _ 0 _ _ _ Kg0_20.out
  have cg0_1 : w16.cell? ⟨w8.heap.size, 1, none⟩ = some (.slice Ar31 U.length cr31) := cell_of_row _ _ 1 _ _ _ Kg0_20.out
  go_wp2_with fail
  clear caD_0 caD_1 cw0_0 cw0_1 cg0_0 cg0_1
  refine (HI.out At40 At41 ct40 ct41 _ (hK _ _ HW.out HB_20.out) ⟨(OwnR.rd fSt_len Ht40_20.out), (OwnR.rd fPu_len Ht41_20.out), by omega, by omega, HZs.out, HZp.out⟩ (ownR_lies Ht40_20.out) (ownR_lies Ht41_20.out)).mono ?_
  rintro e w17 ⟨vr50, vr51, rfl, hpk, hbr5⟩
  obtain ⟨hor50, hor51, har5⟩ := hpk
  obtain ⟨Ar50, cr50, hvr50, hcapr50, _⟩ := OwnR.form fSt_len hor50
  subst hvr50
  obtain ⟨Ar51, cr51, hvr51, hcapr51, _⟩ := OwnR.form fPu_len hor51
  subst hvr51
  have HAp_r20_r50 := Lib.hid (apart5 (fun k hk => (Hr20_20.out.lt k hk).2) (fun k hk => (hor50.lt k hk).1))
  have HAp_r21_r50 := Lib.hid (apart5 (fun k hk => (Hr21_20.out.lt k hk).2) (fun k hk => (hor50.lt k hk).1))
  have HAp_r30_r50 := Lib.hid (apart5 (fun k hk => (Hr30_20.out.lt k hk).2) (fun k hk => (hor50.lt k hk).1))
  have HAp_r31_r50 := Lib.hid (apart5 (fun k hk => (Hr31_20.out.lt k hk).2) (fun k hk => (hor50.lt k hk).1))
  have HAp_t40_r50 := Lib.hid (apart5 (fun k hk => (Ht40_20.out.lt k hk).2) (fun k hk => (hor50.lt k hk).1))
  have HAp_t41_r50 := Lib.hid (apart5 (fun k hk => (Ht41_20.out.lt k hk).2) (fun k hk => (hor50.lt k hk).1))
  have HAp_r20_r51 := Lib.hid (apart5 (fun k hk => (Hr20_20.out.lt k hk).2) (fun k hk => (hor51.lt k hk).1))
  have HAp_r21_r51 := Lib.hid (apart5 (fun k hk => (Hr21_20.out.lt k hk).2) (fun k hk => (hor51.lt k hk).1))
  have HAp_r30_r51 := Lib.hid (apart5 (fun k hk => (Hr30_20.out.lt k hk).2) (fun k hk => (hor51.lt k hk).1))
  have HAp_r31_r51 := Lib.hid (apart5 (fun k hk => (Hr31_20.out.lt k hk).2) (fun k hk => (hor51.lt k hk).1))
  have HAp_t40_r51 := Lib.hid (apart5 (fun k hk => (Ht40_20.out.lt k hk).2) (fun k hk => (hor51.lt k hk).1))
  have HAp_t41_r51 := Lib.hid (apart5 (fun k hk => (Ht41_20.out.lt k hk).2) (fun k hk => (hor51.lt k hk).1))
  have HNX_aD_r50 := Lib.hid (fun g hg => Nat.ne_of_gt (Nat.lt_of_lt_of_le (heap_lt KaD_20.out) (hor50.lt g hg).1))
  have HNX_w0_r50 := Lib.hid (fun g hg => Nat.ne_of_gt (Nat.lt_of_lt_of_le (heap_lt Kw0_20.out) (hor50.lt g hg).1))
  have HNX_g0_r50 := Lib.hid (fun g hg => Nat.ne_of_gt (Nat.lt_of_lt_of_le (heap_lt Kg0_20.out) (hor50.lt g hg).1))
  have HNX_aD_r51 := Lib.hid (fun g hg => Nat.ne_of_gt (Nat.lt_of_lt_of_le (heap_lt KaD_20.out) (hor51.lt g hg).1))
  have HNX_w0_r51 := Lib.hid (fun g hg => Nat.ne_of_gt (Nat.lt_of_lt_of_le (heap_lt Kw0_20.out) (hor51.lt g hg).1))
  have HNX_g0_r51 := Lib.hid (fun g hg => Nat.ne_of_gt (Nat.lt_of_lt_of_le (heap_lt Kg0_20.out) (hor51.lt g hg).1))
  have HAp_r50_r51 := Lib.hid har5
  have Hr20_21 := Lib.hid (Hr20_20.out.below hbr5)
  have Hr21_21 := Lib.hid (Hr21_20.out.below hbr5)
  have Hr30_21 := Lib.hid (Hr30_20.out.below hbr5)
  have Hr31_21 := Lib.hid (Hr31_20.out.below hbr5)
  have Ht40_21 := Lib.hid (Ht40_20.out.below hbr5)
  have Ht41_21 := Lib.hid (Ht41_20.out.below hbr5)
  have Hr50_21 := Lib.hid (hor50.lower HB_20.out.size)
  have Hr51_21 := Lib.hid (hor51.lower HB_20.out.size)
  have KaD_21 := Lib.hid ((hbr5.block _ (heap_lt KaD_20.out)).trans KaD_20.out)
  have Kw0_21 := Lib.hid ((hbr5.block _ (heap_lt Kw0_20.out)).trans Kw0_20.out)
  have Kg0_21 := Lib.hid ((hbr5.block _ (heap_lt Kg0_20.out)).trans Kg0_20.out)
  have HB_21 := Lib.hid (below_more HB_20.out hbr5)
  clear Hr20_20 Hr21_20 Hr30_20 Hr31_20 Ht40_20 Ht41_20 KaD_20 Kw0_20 Kg0_20 HB_20 hor50 hor51 har5 hbr5
  obtain ⟨w18, hw22⟩ : ∃ wn, w17.alloc (.cells #[.slice Ar50 V.length cr50, .slice Ar51 U.length cr51] 26) = wn := ⟨_, rfl⟩
  have hbx : Below w17.heap.size w17 w18 := by rw [← hw22]; exact gAlloc _ _
  have KX : w18.heap[w17.heap.size]? = some (.cells #[.slice Ar50 V.length cr50, .slice Ar51 U.length cr51] 26 (0, 0)) := by rw [← hw22]; exact heap_alloc_new _ _
  have HNX_h0_r20 := Lib.hid (fun g hg => Nat.ne_of_lt (Hr20_21.out.lt g hg).2)
  have HNX_h0_r21 := Lib.hid (fun g hg => Nat.ne_of_lt (Hr21_21.out.lt g hg).2)
  have HNX_h0_r30 := Lib.hid (fun g hg => Nat.ne_of_lt (Hr30_21.out.lt g hg).2)
  have HNX_h0_r31 := Lib.hid (fun g hg => Nat.ne_of_lt (Hr31_21.out.lt g hg).2)
  have HNX_h0_t40 := Lib.hid (fun g hg => Nat.ne_of_lt (Ht40_21.out.lt g hg).2)
  have HNX_h0_t41 := Lib.hid (fun g hg => Nat.ne_of_lt (Ht41_21.out.lt g hg).2)
  have HNX_h0_r50 := Lib.hid (fun g hg => Nat.ne_of_lt (Hr50_21.out.lt g hg).2)
  have HNX_h0_r51 := Lib.hid (fun g hg => Nat.ne_of_lt (Hr51_21.out.lt g hg).2)
  have Hr20_23 := Lib.hid (Hr20_21.out.below hbx)
  have Hr21_23 := Lib.hid (Hr21_21.out.below hbx)
  have Hr30_23 := Lib.hid (Hr30_21.out.below hbx)
  have Hr31_23 := Lib.hid (Hr31_21.out.below hbx)
  have Ht40_23 := Lib.hid (Ht40_21.out.below hbx)
  have Ht41_23 := Lib.hid (Ht41_21.out.below hbx)
  have Hr50_23 := Lib.hid (Hr50_21.out.below hbx)
  have Hr51_23 := Lib.hid (Hr51_21.out.below hbx)
  have KaD_23 := Lib.hid ((hbx.block _ (heap_lt KaD_21.out)).trans KaD_21.out)
  have Kw0_23 := Lib.hid ((hbx.block _ (heap_lt Kw0_21.out)).trans Kw0_21.out)
  have Kg0_23 := Lib.hid ((hbx.block _ (heap_lt Kg0_21.out)).trans Kg0_21.out)
  have HB_23 := Lib.hid (below_more HB_21.out hbx)
  clear Hr20_21 Hr21_21 Hr30_21 Hr31_21 Ht40_21 Ht41_21 Hr50_21 Hr51_21 KaD_21 Kw0_21 Kg0_21 HB_21
  have Kh0_22 := Lib.hid KX
  clear hbx KX
  clear Ht40_23 Ht41_23
  have caD_0 : w18.cell? ⟨w.heap.size, 0, none⟩ = some (.slice A ss.length ca) := cell_of_row _ _ 0 _ _ _ KaD_23.out
  have caD_1 : w18.cell? ⟨w.heap.size, 1, none⟩ = some (.slice B ps.length cb) := cell_of_row _ _ 1 _ _ _ KaD_23.out
  have cw0_0 : w18.cell? ⟨w4.heap.size, 0, none⟩ = some (.slice Ar20 V.length cr20) := cell_of_row _ _ 0 _ _ _ Kw0_23.out
  have cw0_1 : w18.cell? ⟨w4.heap.size, 1, none⟩ = some (.slice Ar21 U.length cr21) := cell_of_row _ _ 1 _ _ _ Kw0_23.out
  have cg0_0 : w18.cell? ⟨w8.heap.size, 0, none⟩ = some (.slice Ar30 V.length cr30) := cell_of_row _ _ 0 _ _ _ Kg0_23.out
  have cg0_1 : w18.cell? ⟨w8.heap.size, 1, none⟩ = some (.slice Ar31 U.length cr31) := cell_of_row _ _ 1 _ _ _ Kg0_23.out
  have ch0_0 : w18.cell? ⟨w17.heap.size, 0, none⟩ = some (.slice Ar50 V.length cr50) := cell_of_row _ _ 0 _ _ _ Kh0_22.out
  have ch0_1 : w18.cell? ⟨w17.heap.size, 1, none⟩ = some (.slice Ar51 U.length cr51) := cell_of_row _ _ 1 _ _ _ Kh0_22.out
  go_wp2_with fail
  clear caD_0 caD_1 cw0_0 cw0_1 cg0_0 cg0_1 ch0_0 ch0_1 hw22
  refine (eqDisk_self Ar50 Ar51 Ar20 Ar21 V U cr50 cr51 cr20 cr21 _ (OwnR.rd fSt_len Hr50_23.out) (OwnR.rd fPu_len Hr51_23.out) (OwnR.rd fSt_len Hr20_23.out) (OwnR.rd fPu_len Hr21_23.out) (by omega) (by omega)).mono ?_
  rintro e w19 ⟨rfl, hbq⟩
  have Hr20_24 := Lib.hid (Hr20_23.out.below hbq)
  have Hr21_24 := Lib.hid (Hr21_23.out.below hbq)
  have Hr30_24 := Lib.hid (Hr30_23.out.below hbq)
  have Hr31_24 := Lib.hid (Hr31_23.out.below hbq)
  have Hr50_24 := Lib.hid (Hr50_23.out.below hbq)
  have Hr51_24 := Lib.hid (Hr51_23.out.below hbq)
  have KaD_24 := Lib.hid ((hbq.block _ (heap_lt KaD_23.out)).trans KaD_23.out)
  have Kw0_24 := Lib.hid ((hbq.block _ (heap_lt Kw0_23.out)).trans Kw0_23.out)
  have Kg0_24 := Lib.hid ((hbq.block _ (heap_lt Kg0_23.out)).trans Kg0_23.out)
  have Kh0_24 := Lib.hid ((hbq.block _ (heap_lt Kh0_22.out)).trans Kh0_22.out)
  have HB_24 := Lib.hid (below_more HB_23.out hbq)
  clear Hr20_23 Hr21_23 Hr30_23 Hr31_23 Hr50_23 Hr51_23 KaD_23 Kw0_23 Kg0_23 Kh0_22 HB_23
  clear hbq
  clear Hr20_24 Hr21_24
  clear Kw0_24
  clear Hr50_24 Hr51_24
  clear Kh0_24
  have caD_0 : w19.cell? ⟨w.heap.size, 0, none⟩ = some (.slice A ss.length ca) := cell_of_row _ _ 0 _ _ _ KaD_24.out
  have caD_1 : w19.cell? ⟨w.heap.size, 1, none⟩ = some (.slice B ps.length cb) := cell_of_row _ _ 1 _ _ _ KaD_24.out
  have cg0_0 : w19.cell? ⟨w8.heap.size, 0, none⟩ = some (.slice Ar30 V.length cr30) := cell_of_row _ _ 0 _ _ _ Kg0_24.out
  have cg0_1 : w19.cell? ⟨w8.heap.size, 1, none⟩ = some (.slice Ar31 U.length cr31) := cell_of_row _ _ 1 _ _ _ Kg0_24.out
  go_wp2_with fail
  clear caD_0 caD_1 cg0_0 cg0_1
  refine (heldDisk_any Ar30 Ar31 1 V.length U.length cr30 cr31 _ (OwnR.rd fSt_len Hr30_24.out) (OwnR.rd fPu_len Hr31_24.out) (by omega) (by omega) (by omega) (by omega)).mono ?_
  rintro e w20 ⟨rfl, hbq⟩
  have Hr30_25 := Lib.hid (Hr30_24.out.below hbq)
  have Hr31_25 := Lib.hid (Hr31_24.out.below hbq)
  have KaD_25 := Lib.hid ((hbq.block _ (heap_lt KaD_24.out)).trans KaD_24.out)
  have Kg0_25 := Lib.hid ((hbq.block _ (heap_lt Kg0_24.out)).trans Kg0_24.out)
  have HB_25 := Lib.hid (below_more HB_24.out hbq)
  clear Hr30_24 Hr31_24 KaD_24 Kg0_24 HB_24
  clear hbq
  go_wp2_with fail
  go_ret
  exact ⟨rfl, HB_25.out⟩

set_option maxRecDepth 100000 in
set_option maxHeartbeats 8000000 in
theorem putSector_law {K : World → Prop} (hK : Stays5 K) (hI : ∀ (A B : Option Addr) (ss : List ByteArray) (ps : List (Int × ByteArray)) (ca cb : Nat) (k : Int) (y : ByteArray) (w : World), K w → DiskIn w A B ss ps → Lies9 A ca → Lies9 B cb → y.size ≤ 1048576 → Calls Try.prog 27 #[diskV (.slice A ss.length ca) (.slice B ps.length cb), .int .i64 k, .string y] w fun e w' => ∃ v1 v2, e = .returned (.tuple #[diskV v1 v2, .bool (puOkB ss ps k y)]) ∧ OwnD w' w.heap.size v1 v2 (puS ss ps k y) (puP ss ps k y) ∧ Below w.heap.size w w')
    (A B : Option Addr) (ss : List ByteArray) (ps : List (Int × ByteArray)) (ca cb : Nat) (k : Int) (y : ByteArray) (w : World) (hw : K w) (hA : Strs w A ss) (hB : Puts w B ps) (hl : ss.length ≤ 9223372036854775807) (hz : ∀ s ∈ ss, s.size ≤ 9223372036854775807) (hl2 : ps.length ≤ 9223372036854775807) (hz2 : ∀ p ∈ ps, p.2.size ≤ 9223372036854775807) : Calls Try.prog 7 #[diskV (.slice A ss.length ca) (.slice B ps.length cb), .int .i64 k, .string y] w fun e w' => e = .returned (.bool true) ∧ Below w.heap.size w w' := by
  by_cases hlb0 : y.size ≤ 1048576
  case neg =>
    have hli : (1048576 : Int) < (y.size : Int) := by omega
    clear hI
    go_enter Try.func7, Try.ntmps7
    go_wp2_with fail
    go_ret
    exact ⟨rfl, by first | exact Below.refl _ _ | exact gAlloc _ _⟩
  have hli0 : ¬ (1048576 : Int) < (y.size : Int) := by omega
  have HRA := Lib.hid hA
  have HRB := Lib.hid hB
  have HZ := Lib.hid hz
  have HZ2 := Lib.hid hz2
  have HI := Lib.hid (fun A B ca cb w hk hd hA hB => hI A B ss ps ca cb k y w hk hd hA hB hlb0)
  have HW := Lib.hid hw
  have HS0 := Lib.hid (fun A B ca cb w hd hA hB => sPut_any A B ss ps ca cb k y w hd hA hB)
  clear hI hw hA hB hz hz2
  have hVU := pu_len ss ps k y
  generalize puS ss ps k y = V at *
  generalize puP ss ps k y = U at *
  generalize puOkB ss ps k y = bb at *
  obtain ⟨w1, hw1⟩ : ∃ wn, w.alloc (.cells #[.slice A ss.length ca, .slice B ps.length cb] 52) = wn := ⟨_, rfl⟩
  have hbx : Below w.heap.size w w1 := by rw [← hw1]; exact gAlloc _ _
  have KX : w1.heap[w.heap.size]? = some (.cells #[.slice A ss.length ca, .slice B ps.length cb] 52 (0, 0)) := by rw [← hw1]; exact heap_alloc_new _ _
  have HB_2 := Lib.hid (hbx)
  have KaD_1 := Lib.hid KX
  clear hbx KX
  go_enter Try.func7, Try.ntmps7
  have caD_0 : w1.cell? ⟨w.heap.size, 0, none⟩ = some (.slice A ss.length ca) := cell_of_row _ _ 0 _ _ _ KaD_1.out
  have caD_1 : w1.cell? ⟨w.heap.size, 1, none⟩ = some (.slice B ps.length cb) := cell_of_row _ _ 1 _ _ _ KaD_1.out
  go_wp2_with fail
  clear caD_0 caD_1 hw1
  refine (szDisk_any A B ss ps ca cb 1048576 _ (HRA.out.below HB_2.out) (HRB.out.below HB_2.out) hl HZ.out hl2 HZ2.out (by omega) (by omega)).mono ?_
  rintro e w2 ⟨rz, rfl, hrz, hbq⟩
  have KaD_3 := Lib.hid ((hbq.block _ (heap_lt KaD_1.out)).trans KaD_1.out)
  have HB_3 := Lib.hid (below_more HB_2.out hbq)
  clear KaD_1 HB_2
  clear hbq
  rcases hrz with hrz | ⟨hrz0, hrz1, hrz2, hrz3⟩
  · go_wp2_with fail
    go_ret
    exact ⟨rfl, HB_3.out⟩
  have HZs := Lib.hid hrz2
  have HZp := Lib.hid hrz3
  have hls : ss.length ≤ 1048576 := by omega
  have hlp : ps.length ≤ 1048576 := by omega
  have hlt : ss.length + ps.length ≤ 1048576 := by omega
  have hrzn : ¬ rz < 0 := by omega
  clear hrz2 hrz3 HZ HZ2 hl hl2 hrz1
  have caD_0 : w2.cell? ⟨w.heap.size, 0, none⟩ = some (.slice A ss.length ca) := cell_of_row _ _ 0 _ _ _ KaD_3.out
  have caD_1 : w2.cell? ⟨w.heap.size, 1, none⟩ = some (.slice B ps.length cb) := cell_of_row _ _ 1 _ _ _ KaD_3.out
  go_wp2_with fail
  clear caD_0 caD_1
  refine (toDisk_any A B ss ps ca cb _ (HRA.out.below HB_3.out) (HRB.out.below HB_3.out) (by omega) (by omega)).mono ?_
  rintro e w3 ⟨vt10, vt11, rfl, hot10, hot11, hat1, hbt1⟩
  obtain ⟨At10, ct10, hvt10, hcapt10, _⟩ := OwnR.form fSt_len hot10
  subst hvt10
  obtain ⟨At11, ct11, hvt11, hcapt11, _⟩ := OwnR.form fPu_len hot11
  subst hvt11
  have HNX_aD_t10 := Lib.hid (fun g hg => Nat.ne_of_gt (Nat.lt_of_lt_of_le (heap_lt KaD_3.out) (hot10.lt g hg).1))
  have HNX_aD_t11 := Lib.hid (fun g hg => Nat.ne_of_gt (Nat.lt_of_lt_of_le (heap_lt KaD_3.out) (hot11.lt g hg).1))
  have HAp_t10_t11 := Lib.hid hat1
  have Ht10_4 := Lib.hid (hot10.lower HB_3.out.size)
  have Ht11_4 := Lib.hid (hot11.lower HB_3.out.size)
  have KaD_4 := Lib.hid ((hbt1.block _ (heap_lt KaD_3.out)).trans KaD_3.out)
  have HB_4 := Lib.hid (below_more HB_3.out hbt1)
  clear KaD_3 HB_3 hot10 hot11 hat1 hbt1
  have caD_0 : w3.cell? ⟨w.heap.size, 0, none⟩ = some (.slice A ss.length ca) := cell_of_row _ _ 0 _ _ _ KaD_4.out
  have caD_1 : w3.cell? ⟨w.heap.size, 1, none⟩ = some (.slice B ps.length cb) := cell_of_row _ _ 1 _ _ _ KaD_4.out
  go_wp2_with fail
  clear caD_0 caD_1
  refine (HS0.out At10 At11 ct10 ct11 _ ⟨(OwnR.rd fSt_len Ht10_4.out), (OwnR.rd fPu_len Ht11_4.out), by omega, by omega, HZs.out, HZp.out⟩ (ownR_lies Ht10_4.out) (ownR_lies Ht11_4.out)).mono ?_
  rintro e w4 ⟨vr20, vr21, rfl, hpk, hbr2⟩
  obtain ⟨hor20, hor21, har2⟩ := hpk
  obtain ⟨Ar20, cr20, hvr20, hcapr20, _⟩ := OwnR.form fSt_len hor20
  subst hvr20
  obtain ⟨Ar21, cr21, hvr21, hcapr21, _⟩ := OwnR.form fPu_len hor21
  subst hvr21
  have HAp_t10_r20 := Lib.hid (apart5 (fun k hk => (Ht10_4.out.lt k hk).2) (fun k hk => (hor20.lt k hk).1))
  have HAp_t11_r20 := Lib.hid (apart5 (fun k hk => (Ht11_4.out.lt k hk).2) (fun k hk => (hor20.lt k hk).1))
  have HAp_t10_r21 := Lib.hid (apart5 (fun k hk => (Ht10_4.out.lt k hk).2) (fun k hk => (hor21.lt k hk).1))
  have HAp_t11_r21 := Lib.hid (apart5 (fun k hk => (Ht11_4.out.lt k hk).2) (fun k hk => (hor21.lt k hk).1))
  have HNX_aD_r20 := Lib.hid (fun g hg => Nat.ne_of_gt (Nat.lt_of_lt_of_le (heap_lt KaD_4.out) (hor20.lt g hg).1))
  have HNX_aD_r21 := Lib.hid (fun g hg => Nat.ne_of_gt (Nat.lt_of_lt_of_le (heap_lt KaD_4.out) (hor21.lt g hg).1))
  have HAp_r20_r21 := Lib.hid har2
  have Ht10_5 := Lib.hid (Ht10_4.out.below hbr2)
  have Ht11_5 := Lib.hid (Ht11_4.out.below hbr2)
  have Hr20_5 := Lib.hid (hor20.lower HB_4.out.size)
  have Hr21_5 := Lib.hid (hor21.lower HB_4.out.size)
  have KaD_5 := Lib.hid ((hbr2.block _ (heap_lt KaD_4.out)).trans KaD_4.out)
  have HB_5 := Lib.hid (below_more HB_4.out hbr2)
  clear Ht10_4 Ht11_4 KaD_4 HB_4 hor20 hor21 har2 hbr2
  obtain ⟨w5, hw6⟩ : ∃ wn, w4.alloc (.cells #[.slice Ar20 V.length cr20, .slice Ar21 U.length cr21] 26) = wn := ⟨_, rfl⟩
  have hbx : Below w4.heap.size w4 w5 := by rw [← hw6]; exact gAlloc _ _
  have KX : w5.heap[w4.heap.size]? = some (.cells #[.slice Ar20 V.length cr20, .slice Ar21 U.length cr21] 26 (0, 0)) := by rw [← hw6]; exact heap_alloc_new _ _
  have HNX_w0_t10 := Lib.hid (fun g hg => Nat.ne_of_lt (Ht10_5.out.lt g hg).2)
  have HNX_w0_t11 := Lib.hid (fun g hg => Nat.ne_of_lt (Ht11_5.out.lt g hg).2)
  have HNX_w0_r20 := Lib.hid (fun g hg => Nat.ne_of_lt (Hr20_5.out.lt g hg).2)
  have HNX_w0_r21 := Lib.hid (fun g hg => Nat.ne_of_lt (Hr21_5.out.lt g hg).2)
  have Ht10_7 := Lib.hid (Ht10_5.out.below hbx)
  have Ht11_7 := Lib.hid (Ht11_5.out.below hbx)
  have Hr20_7 := Lib.hid (Hr20_5.out.below hbx)
  have Hr21_7 := Lib.hid (Hr21_5.out.below hbx)
  have KaD_7 := Lib.hid ((hbx.block _ (heap_lt KaD_5.out)).trans KaD_5.out)
  have HB_7 := Lib.hid (below_more HB_5.out hbx)
  clear Ht10_5 Ht11_5 Hr20_5 Hr21_5 KaD_5 HB_5
  have Kw0_6 := Lib.hid KX
  clear hbx KX
  clear Ht10_7 Ht11_7
  have caD_0 : w5.cell? ⟨w.heap.size, 0, none⟩ = some (.slice A ss.length ca) := cell_of_row _ _ 0 _ _ _ KaD_7.out
  have caD_1 : w5.cell? ⟨w.heap.size, 1, none⟩ = some (.slice B ps.length cb) := cell_of_row _ _ 1 _ _ _ KaD_7.out
  have cw0_0 : w5.cell? ⟨w4.heap.size, 0, none⟩ = some (.slice Ar20 V.length cr20) := cell_of_row _ _ 0 _ _ _ Kw0_6.out
  have cw0_1 : w5.cell? ⟨w4.heap.size, 1, none⟩ = some (.slice Ar21 U.length cr21) := cell_of_row _ _ 1 _ _ _ Kw0_6.out
  go_wp2_with fail
  clear caD_0 caD_1 cw0_0 cw0_1 hw6
  refine (toDisk_any A B ss ps ca cb _ (HRA.out.below HB_7.out) (HRB.out.below HB_7.out) (by omega) (by omega)).mono ?_
  rintro e w6 ⟨vx00, vx01, rfl, hox00, hox01, hax0, hbx0⟩
  obtain ⟨Ax00, cx00, hvx00, hcapx00, _⟩ := OwnR.form fSt_len hox00
  subst hvx00
  obtain ⟨Ax01, cx01, hvx01, hcapx01, _⟩ := OwnR.form fPu_len hox01
  subst hvx01
  have HAp_r20_x00 := Lib.hid (apart5 (fun k hk => (Hr20_7.out.lt k hk).2) (fun k hk => (hox00.lt k hk).1))
  have HAp_r21_x00 := Lib.hid (apart5 (fun k hk => (Hr21_7.out.lt k hk).2) (fun k hk => (hox00.lt k hk).1))
  have HAp_r20_x01 := Lib.hid (apart5 (fun k hk => (Hr20_7.out.lt k hk).2) (fun k hk => (hox01.lt k hk).1))
  have HAp_r21_x01 := Lib.hid (apart5 (fun k hk => (Hr21_7.out.lt k hk).2) (fun k hk => (hox01.lt k hk).1))
  have HNX_aD_x00 := Lib.hid (fun g hg => Nat.ne_of_gt (Nat.lt_of_lt_of_le (heap_lt KaD_7.out) (hox00.lt g hg).1))
  have HNX_w0_x00 := Lib.hid (fun g hg => Nat.ne_of_gt (Nat.lt_of_lt_of_le (heap_lt Kw0_6.out) (hox00.lt g hg).1))
  have HNX_aD_x01 := Lib.hid (fun g hg => Nat.ne_of_gt (Nat.lt_of_lt_of_le (heap_lt KaD_7.out) (hox01.lt g hg).1))
  have HNX_w0_x01 := Lib.hid (fun g hg => Nat.ne_of_gt (Nat.lt_of_lt_of_le (heap_lt Kw0_6.out) (hox01.lt g hg).1))
  have HAp_x00_x01 := Lib.hid hax0
  have Hr20_8 := Lib.hid (Hr20_7.out.below hbx0)
  have Hr21_8 := Lib.hid (Hr21_7.out.below hbx0)
  have Hx00_8 := Lib.hid (hox00.lower HB_7.out.size)
  have Hx01_8 := Lib.hid (hox01.lower HB_7.out.size)
  have KaD_8 := Lib.hid ((hbx0.block _ (heap_lt KaD_7.out)).trans KaD_7.out)
  have Kw0_8 := Lib.hid ((hbx0.block _ (heap_lt Kw0_6.out)).trans Kw0_6.out)
  have HB_8 := Lib.hid (below_more HB_7.out hbx0)
  clear Hr20_7 Hr21_7 KaD_7 Kw0_6 HB_7 hox00 hox01 hax0 hbx0
  obtain ⟨w7, hw9⟩ : ∃ wn, w6.alloc (.cells #[.slice Ax00 ss.length cx00, .slice Ax01 ps.length cx01] 26) = wn := ⟨_, rfl⟩
  have hbx : Below w6.heap.size w6 w7 := by rw [← hw9]; exact gAlloc _ _
  have KX : w7.heap[w6.heap.size]? = some (.cells #[.slice Ax00 ss.length cx00, .slice Ax01 ps.length cx01] 26 (0, 0)) := by rw [← hw9]; exact heap_alloc_new _ _
  have HNX_x0_r20 := Lib.hid (fun g hg => Nat.ne_of_lt (Hr20_8.out.lt g hg).2)
  have HNX_x0_r21 := Lib.hid (fun g hg => Nat.ne_of_lt (Hr21_8.out.lt g hg).2)
  have HNX_x0_x00 := Lib.hid (fun g hg => Nat.ne_of_lt (Hx00_8.out.lt g hg).2)
  have HNX_x0_x01 := Lib.hid (fun g hg => Nat.ne_of_lt (Hx01_8.out.lt g hg).2)
  have Hr20_10 := Lib.hid (Hr20_8.out.below hbx)
  have Hr21_10 := Lib.hid (Hr21_8.out.below hbx)
  have Hx00_10 := Lib.hid (Hx00_8.out.below hbx)
  have Hx01_10 := Lib.hid (Hx01_8.out.below hbx)
  have KaD_10 := Lib.hid ((hbx.block _ (heap_lt KaD_8.out)).trans KaD_8.out)
  have Kw0_10 := Lib.hid ((hbx.block _ (heap_lt Kw0_8.out)).trans Kw0_8.out)
  have HB_10 := Lib.hid (below_more HB_8.out hbx)
  clear Hr20_8 Hr21_8 Hx00_8 Hx01_8 KaD_8 Kw0_8 HB_8
  have Kx0_9 := Lib.hid KX
  clear hbx KX
  have caD_0 : w7.cell? ⟨w.heap.size, 0, none⟩ = some (.slice A ss.length ca) := cell_of_row _ _ 0 _ _ _ KaD_10.out
  have caD_1 : w7.cell? ⟨w.heap.size, 1, none⟩ = some (.slice B ps.length cb) := cell_of_row _ _ 1 _ _ _ KaD_10.out
  have cw0_0 : w7.cell? ⟨w4.heap.size, 0, none⟩ = some (.slice Ar20 V.length cr20) := cell_of_row _ _ 0 _ _ _ Kw0_10.out
  have cw0_1 : w7.cell? ⟨w4.heap.size, 1, none⟩ = some (.slice Ar21 U.length cr21) := cell_of_row _ _ 1 _ _ _ Kw0_10.out
  have cx0_0 : w7.cell? ⟨w6.heap.size, 0, none⟩ = some (.slice Ax00 ss.length cx00) := cell_of_row _ _ 0 _ _ _ Kx0_9.out
  have cx0_1 : w7.cell? ⟨w6.heap.size, 1, none⟩ = some (.slice Ax01 ps.length cx01) := cell_of_row _ _ 1 _ _ _ Kx0_9.out
  go_wp2_with fail
  clear caD_0 caD_1 cw0_0 cw0_1 cx0_0 cx0_1 hw9
  refine (HI.out Ax00 Ax01 cx00 cx01 _ (hK _ _ HW.out HB_10.out) ⟨(OwnR.rd fSt_len Hx00_10.out), (OwnR.rd fPu_len Hx01_10.out), by omega, by omega, HZs.out, HZp.out⟩ (ownR_lies Hx00_10.out) (ownR_lies Hx01_10.out)).mono ?_
  rintro e w8 ⟨vr30, vr31, rfl, hpk, hbr3⟩
  obtain ⟨hor30, hor31, har3⟩ := hpk
  obtain ⟨Ar30, cr30, hvr30, hcapr30, _⟩ := OwnR.form fSt_len hor30
  subst hvr30
  obtain ⟨Ar31, cr31, hvr31, hcapr31, _⟩ := OwnR.form fPu_len hor31
  subst hvr31
  have HAp_r20_r30 := Lib.hid (apart5 (fun k hk => (Hr20_10.out.lt k hk).2) (fun k hk => (hor30.lt k hk).1))
  have HAp_r21_r30 := Lib.hid (apart5 (fun k hk => (Hr21_10.out.lt k hk).2) (fun k hk => (hor30.lt k hk).1))
  have HAp_x00_r30 := Lib.hid (apart5 (fun k hk => (Hx00_10.out.lt k hk).2) (fun k hk => (hor30.lt k hk).1))
  have HAp_x01_r30 := Lib.hid (apart5 (fun k hk => (Hx01_10.out.lt k hk).2) (fun k hk => (hor30.lt k hk).1))
  have HAp_r20_r31 := Lib.hid (apart5 (fun k hk => (Hr20_10.out.lt k hk).2) (fun k hk => (hor31.lt k hk).1))
  have HAp_r21_r31 := Lib.hid (apart5 (fun k hk => (Hr21_10.out.lt k hk).2) (fun k hk => (hor31.lt k hk).1))
  have HAp_x00_r31 := Lib.hid (apart5 (fun k hk => (Hx00_10.out.lt k hk).2) (fun k hk => (hor31.lt k hk).1))
  have HAp_x01_r31 := Lib.hid (apart5 (fun k hk => (Hx01_10.out.lt k hk).2) (fun k hk => (hor31.lt k hk).1))
  have HNX_aD_r30 := Lib.hid (fun g hg => Nat.ne_of_gt (Nat.lt_of_lt_of_le (heap_lt KaD_10.out) (hor30.lt g hg).1))
  have HNX_w0_r30 := Lib.hid (fun g hg => Nat.ne_of_gt (Nat.lt_of_lt_of_le (heap_lt Kw0_10.out) (hor30.lt g hg).1))
  have HNX_x0_r30 := Lib.hid (fun g hg => Nat.ne_of_gt (Nat.lt_of_lt_of_le (heap_lt Kx0_9.out) (hor30.lt g hg).1))
  have HNX_aD_r31 := Lib.hid (fun g hg => Nat.ne_of_gt (Nat.lt_of_lt_of_le (heap_lt KaD_10.out) (hor31.lt g hg).1))
  have HNX_w0_r31 := Lib.hid (fun g hg => Nat.ne_of_gt (Nat.lt_of_lt_of_le (heap_lt Kw0_10.out) (hor31.lt g hg).1))
  have HNX_x0_r31 := Lib.hid (fun g hg => Nat.ne_of_gt (Nat.lt_of_lt_of_le (heap_lt Kx0_9.out) (hor31.lt g hg).1))
  have HAp_r30_r31 := Lib.hid har3
  have Hr20_11 := Lib.hid (Hr20_10.out.below hbr3)
  have Hr21_11 := Lib.hid (Hr21_10.out.below hbr3)
  have Hx00_11 := Lib.hid (Hx00_10.out.below hbr3)
  have Hx01_11 := Lib.hid (Hx01_10.out.below hbr3)
  have Hr30_11 := Lib.hid (hor30.lower HB_10.out.size)
  have Hr31_11 := Lib.hid (hor31.lower HB_10.out.size)
  have KaD_11 := Lib.hid ((hbr3.block _ (heap_lt KaD_10.out)).trans KaD_10.out)
  have Kw0_11 := Lib.hid ((hbr3.block _ (heap_lt Kw0_10.out)).trans Kw0_10.out)
  have Kx0_11 := Lib.hid ((hbr3.block _ (heap_lt Kx0_9.out)).trans Kx0_9.out)
  have HB_11 := Lib.hid (below_more HB_10.out hbr3)
  clear Hr20_10 Hr21_10 Hx00_10 Hx01_10 KaD_10 Kw0_10 Kx0_9 HB_10 hor30 hor31 har3 hbr3
  obtain ⟨w9, hw12⟩ : ∃ wn, w8.alloc (.cells #[.slice Ar30 V.length cr30, .slice Ar31 U.length cr31] 26) = wn := ⟨_, rfl⟩
  have hbx : Below w8.heap.size w8 w9 := by rw [← hw12]; exact gAlloc _ _
  have KX : w9.heap[w8.heap.size]? = some (.cells #[.slice Ar30 V.length cr30, .slice Ar31 U.length cr31] 26 (0, 0)) := by rw [← hw12]; exact heap_alloc_new _ _
  have HNX_g0_r20 := Lib.hid (fun g hg => Nat.ne_of_lt (Hr20_11.out.lt g hg).2)
  have HNX_g0_r21 := Lib.hid (fun g hg => Nat.ne_of_lt (Hr21_11.out.lt g hg).2)
  have HNX_g0_x00 := Lib.hid (fun g hg => Nat.ne_of_lt (Hx00_11.out.lt g hg).2)
  have HNX_g0_x01 := Lib.hid (fun g hg => Nat.ne_of_lt (Hx01_11.out.lt g hg).2)
  have HNX_g0_r30 := Lib.hid (fun g hg => Nat.ne_of_lt (Hr30_11.out.lt g hg).2)
  have HNX_g0_r31 := Lib.hid (fun g hg => Nat.ne_of_lt (Hr31_11.out.lt g hg).2)
  have Hr20_13 := Lib.hid (Hr20_11.out.below hbx)
  have Hr21_13 := Lib.hid (Hr21_11.out.below hbx)
  have Hx00_13 := Lib.hid (Hx00_11.out.below hbx)
  have Hx01_13 := Lib.hid (Hx01_11.out.below hbx)
  have Hr30_13 := Lib.hid (Hr30_11.out.below hbx)
  have Hr31_13 := Lib.hid (Hr31_11.out.below hbx)
  have KaD_13 := Lib.hid ((hbx.block _ (heap_lt KaD_11.out)).trans KaD_11.out)
  have Kw0_13 := Lib.hid ((hbx.block _ (heap_lt Kw0_11.out)).trans Kw0_11.out)
  have Kx0_13 := Lib.hid ((hbx.block _ (heap_lt Kx0_11.out)).trans Kx0_11.out)
  have HB_13 := Lib.hid (below_more HB_11.out hbx)
  clear Hr20_11 Hr21_11 Hx00_11 Hx01_11 Hr30_11 Hr31_11 KaD_11 Kw0_11 Kx0_11 HB_11
  have Kg0_12 := Lib.hid KX
  clear hbx KX
  have caD_0 : w9.cell? ⟨w.heap.size, 0, none⟩ = some (.slice A ss.length ca) := cell_of_row _ _ 0 _ _ _ KaD_13.out
  have caD_1 : w9.cell? ⟨w.heap.size, 1, none⟩ = some (.slice B ps.length cb) := cell_of_row _ _ 1 _ _ _ KaD_13.out
  have cw0_0 : w9.cell? ⟨w4.heap.size, 0, none⟩ = some (.slice Ar20 V.length cr20) := cell_of_row _ _ 0 _ _ _ Kw0_13.out
  have cw0_1 : w9.cell? ⟨w4.heap.size, 1, none⟩ = some (.slice Ar21 U.length cr21) := cell_of_row _ _ 1 _ _ _ Kw0_13.out
  have cx0_0 : w9.cell? ⟨w6.heap.size, 0, none⟩ = some (.slice Ax00 ss.length cx00) := cell_of_row _ _ 0 _ _ _ Kx0_13.out
  have cx0_1 : w9.cell? ⟨w6.heap.size, 1, none⟩ = some (.slice Ax01 ps.length cx01) := cell_of_row _ _ 1 _ _ _ Kx0_13.out
  have cg0_0 : w9.cell? ⟨w8.heap.size, 0, none⟩ = some (.slice Ar30 V.length cr30) := cell_of_row _ _ 0 _ _ _ Kg0_12.out
  have cg0_1 : w9.cell? ⟨w8.heap.size, 1, none⟩ = some (.slice Ar31 U.length cr31) := cell_of_row _ _ 1 _ _ _ Kg0_12.out
  go_wp2_with fail
  clear caD_0 caD_1 cw0_0 cw0_1 cx0_0 cx0_1 cg0_0 cg0_1 hw12
  refine (eqDisk_self Ar30 Ar31 Ar20 Ar21 V U cr30 cr31 cr20 cr21 _ (OwnR.rd fSt_len Hr30_13.out) (OwnR.rd fPu_len Hr31_13.out) (OwnR.rd fSt_len Hr20_13.out) (OwnR.rd fPu_len Hr21_13.out) (by omega) (by omega)).mono ?_
  rintro e w10 ⟨rfl, hbq⟩
  have Hr20_14 := Lib.hid (Hr20_13.out.below hbq)
  have Hr21_14 := Lib.hid (Hr21_13.out.below hbq)
  have Hx00_14 := Lib.hid (Hx00_13.out.below hbq)
  have Hx01_14 := Lib.hid (Hx01_13.out.below hbq)
  have Hr30_14 := Lib.hid (Hr30_13.out.below hbq)
  have Hr31_14 := Lib.hid (Hr31_13.out.below hbq)
  have KaD_14 := Lib.hid ((hbq.block _ (heap_lt KaD_13.out)).trans KaD_13.out)
  have Kw0_14 := Lib.hid ((hbq.block _ (heap_lt Kw0_13.out)).trans Kw0_13.out)
  have Kx0_14 := Lib.hid ((hbq.block _ (heap_lt Kx0_13.out)).trans Kx0_13.out)
  have Kg0_14 := Lib.hid ((hbq.block _ (heap_lt Kg0_12.out)).trans Kg0_12.out)
  have HB_14 := Lib.hid (below_more HB_13.out hbq)
  clear Hr20_13 Hr21_13 Hx00_13 Hx01_13 Hr30_13 Hr31_13 KaD_13 Kw0_13 Kx0_13 Kg0_12 HB_13
  clear hbq
  have caD_0 : w10.cell? ⟨w.heap.size, 0, none⟩ = some (.slice A ss.length ca) := cell_of_row _ _ 0 _ _ _ KaD_14.out
  have caD_1 : w10.cell? ⟨w.heap.size, 1, none⟩ = some (.slice B ps.length cb) := cell_of_row _ _ 1 _ _ _ KaD_14.out
  have cw0_0 : w10.cell? ⟨w4.heap.size, 0, none⟩ = some (.slice Ar20 V.length cr20) := cell_of_row _ _ 0 _ _ _ Kw0_14.out
  have cw0_1 : w10.cell? ⟨w4.heap.size, 1, none⟩ = some (.slice Ar21 U.length cr21) := cell_of_row _ _ 1 _ _ _ Kw0_14.out
  have cx0_0 : w10.cell? ⟨w6.heap.size, 0, none⟩ = some (.slice Ax00 ss.length cx00) := cell_of_row _ _ 0 _ _ _ Kx0_14.out
  have cx0_1 : w10.cell? ⟨w6.heap.size, 1, none⟩ = some (.slice Ax01 ps.length cx01) := cell_of_row _ _ 1 _ _ _ Kx0_14.out
  have cg0_0 : w10.cell? ⟨w8.heap.size, 0, none⟩ = some (.slice Ar30 V.length cr30) := cell_of_row _ _ 0 _ _ _ Kg0_14.out
  have cg0_1 : w10.cell? ⟨w8.heap.size, 1, none⟩ = some (.slice Ar31 U.length cr31) := cell_of_row _ _ 1 _ _ _ Kg0_14.out
  go_wp2_with fail
  go_region_held3 (fun w' => w'.cell? ⟨w6.heap.size, 0, none⟩ = some (.slice Ax00 ss.length cx00) ∧ w'.cell? ⟨w6.heap.size, 1, none⟩ = some (.slice Ax01 ps.length cx01) ∧ w'.cell? ⟨w.heap.size, 0, none⟩ = some (.slice A ss.length ca) ∧ w'.cell? ⟨w.heap.size, 1, none⟩ = some (.slice B ps.length cb)) (first | exact ⟨cx0_0, cx0_1, caD_0, caD_1⟩ | exact ⟨rr0, rr1, rr2, rr3⟩ | exact ⟨srr0, srr1, srr2, srr3⟩ | go_keep) (first
    | (go_at_call 36; refine (toDisk_any A B ss ps ca cb _ ((HRA.out.below HB_14.out).below gDrew) ((HRB.out.below HB_14.out).below gDrew) (by omega) (by omega)).mono ?_; rintro e we ⟨ve0, ve1, rfl, hoe0, hoe1, hae, hbe⟩; have rr0 := (hbe.cell (World.block_lt_of_cell? _ _ cx0_0)).trans cx0_0; have rr1 := (hbe.cell (World.block_lt_of_cell? _ _ cx0_1)).trans cx0_1; have rr2 := (hbe.cell (World.block_lt_of_cell? _ _ caD_0)).trans caD_0; have rr3 := (hbe.cell (World.block_lt_of_cell? _ _ caD_1)).trans caD_1; obtain ⟨Ae0, ce0, rfl, hcape0, _⟩ := OwnR.form fSt_len hoe0; obtain ⟨Ae1, ce1, rfl, hcape1, _⟩ := OwnR.form fPu_len hoe1)
    | (go_at_call 32; refine (eqDisk_self Ax00 Ax01 Ae0 Ae1 ss ps cx00 cx01 ce0 ce1 _ (OwnR.rd fSt_len (Lib.hid ((Hx00_14.out.below gDrew).below hbe)).out) (OwnR.rd fPu_len (Lib.hid ((Hx01_14.out.below gDrew).below hbe)).out) (OwnR.rd fSt_len (Lib.hid hoe0).out) (OwnR.rd fPu_len (Lib.hid hoe1).out) (by omega) (by omega)).mono ?_; rintro e w11 ⟨rfl, hbf⟩; have srr0 := (hbf.cell (World.block_lt_of_cell? _ _ rr0)).trans rr0; have srr1 := (hbf.cell (World.block_lt_of_cell? _ _ rr1)).trans rr1; have srr2 := (hbf.cell (World.block_lt_of_cell? _ _ rr2)).trans rr2; have srr3 := (hbf.cell (World.block_lt_of_cell? _ _ rr3)).trans rr3))
  have hbq := below_more gDrew (below_more hbe hbf)
  clear srr0 srr1 srr2 srr3 rr0 rr1 rr2 rr3 caD_0 caD_1 cw0_0 cw0_1 cx0_0 cx0_1 cg0_0 cg0_1 hoe0 hoe1 hae
  have Hr20_15 := Lib.hid (Hr20_14.out.below hbq)
  have Hr21_15 := Lib.hid (Hr21_14.out.below hbq)
  have Hx00_15 := Lib.hid (Hx00_14.out.below hbq)
  have Hx01_15 := Lib.hid (Hx01_14.out.below hbq)
  have Hr30_15 := Lib.hid (Hr30_14.out.below hbq)
  have Hr31_15 := Lib.hid (Hr31_14.out.below hbq)
  have KaD_15 := Lib.hid ((hbq.block _ (heap_lt KaD_14.out)).trans KaD_14.out)
  have Kw0_15 := Lib.hid ((hbq.block _ (heap_lt Kw0_14.out)).trans Kw0_14.out)
  have Kx0_15 := Lib.hid ((hbq.block _ (heap_lt Kx0_14.out)).trans Kx0_14.out)
  have Kg0_15 := Lib.hid ((hbq.block _ (heap_lt Kg0_14.out)).trans Kg0_14.out)
  have HB_15 := Lib.hid (below_more HB_14.out hbq)
  clear Hr20_14 Hr21_14 Hx00_14 Hx01_14 Hr30_14 Hr31_14 KaD_14 Kw0_14 Kx0_14 Kg0_14 HB_14
  clear hbq hbe hbf
  have caD_0 : w11.cell? ⟨w.heap.size, 0, none⟩ = some (.slice A ss.length ca) := cell_of_row _ _ 0 _ _ _ KaD_15.out
  have caD_1 : w11.cell? ⟨w.heap.size, 1, none⟩ = some (.slice B ps.length cb) := cell_of_row _ _ 1 _ _ _ KaD_15.out
  have cw0_0 : w11.cell? ⟨w4.heap.size, 0, none⟩ = some (.slice Ar20 V.length cr20) := cell_of_row _ _ 0 _ _ _ Kw0_15.out
  have cw0_1 : w11.cell? ⟨w4.heap.size, 1, none⟩ = some (.slice Ar21 U.length cr21) := cell_of_row _ _ 1 _ _ _ Kw0_15.out
  have cx0_0 : w11.cell? ⟨w6.heap.size, 0, none⟩ = some (.slice Ax00 ss.length cx00) := cell_of_row _ _ 0 _ _ _ Kx0_15.out
  have cx0_1 : w11.cell? ⟨w6.heap.size, 1, none⟩ = some (.slice Ax01 ps.length cx01) := cell_of_row _ _ 1 _ _ _ Kx0_15.out
  have cg0_0 : w11.cell? ⟨w8.heap.size, 0, none⟩ = some (.slice Ar30 V.length cr30) := cell_of_row _ _ 0 _ _ _ Kg0_15.out
  have cg0_1 : w11.cell? ⟨w8.heap.size, 1, none⟩ = some (.slice Ar31 U.length cr31) := cell_of_row _ _ 1 _ _ _ Kg0_15.out
  go_wp2_with fail
  clear caD_0 caD_1 cw0_0 cw0_1 cx0_0 cx0_1 cg0_0 cg0_1
  refine (markDisk_any _ _ ss ps _ 1 _ Hx00_15.out Hx01_15.out HAp_x00_x01.out (by omega) (by omega) (by omega) (by omega)).mono ?_
  rintro e w12 ⟨rfl, hm0, hm1, wm, hg0, hg1⟩
  have Hr20_16 := Lib.hid ((Hr20_15.out.kept hg0 HAp_r20_x00.out).kept hg1 HAp_r20_x01.out)
  have Hr21_16 := Lib.hid ((Hr21_15.out.kept hg0 HAp_r21_x00.out).kept hg1 HAp_r21_x01.out)
  have Hr30_16 := Lib.hid ((Hr30_15.out.kept hg0 (gApart HAp_x00_r30.out)).kept hg1 (gApart HAp_x01_r30.out))
  have Hr31_16 := Lib.hid ((Hr31_15.out.kept hg0 (gApart HAp_x00_r31.out)).kept hg1 (gApart HAp_x01_r31.out))
  have KaD_16 := Lib.hid ((hg1.block _ (Nat.lt_of_lt_of_le (heap_lt KaD_15.out) hg0.size) (fun e => HNX_aD_x01.out _ e.symm rfl)).trans ((hg0.block _ (heap_lt KaD_15.out) (fun e => HNX_aD_x00.out _ e.symm rfl)).trans KaD_15.out))
  have Kw0_16 := Lib.hid ((hg1.block _ (Nat.lt_of_lt_of_le (heap_lt Kw0_15.out) hg0.size) (fun e => HNX_w0_x01.out _ e.symm rfl)).trans ((hg0.block _ (heap_lt Kw0_15.out) (fun e => HNX_w0_x00.out _ e.symm rfl)).trans Kw0_15.out))
  have Kx0_16 := Lib.hid ((hg1.block _ (Nat.lt_of_lt_of_le (heap_lt Kx0_15.out) hg0.size) (fun e => HNX_x0_x01.out _ e.symm rfl)).trans ((hg0.block _ (heap_lt Kx0_15.out) (fun e => HNX_x0_x00.out _ e.symm rfl)).trans Kx0_15.out))
  have Kg0_16 := Lib.hid ((hg1.block _ (Nat.lt_of_lt_of_le (heap_lt Kg0_15.out) hg0.size) (fun e => HNX_g0_x01.out _ e.symm rfl)).trans ((hg0.block _ (heap_lt Kg0_15.out) (fun e => HNX_g0_x00.out _ e.symm rfl)).trans Kg0_15.out))
  have HMb0 := Lib.hid (fun k hk => (Hx00_15.out.lt k hk).1)
  have HMb1 := Lib.hid (fun k hk => (Hx01_15.out.lt k hk).1)
  have HB_16 : Hid (Below w.heap.size w w12) := ((HB_15.out.grown hg0 HB_15.out.size HMb0.out).grown hg1 (HB_15.out.grown hg0 HB_15.out.size HMb0.out).size HMb1.out)
  have Hx00_16 := Lib.hid hm0
  have Hx01_16 := Lib.hid hm1
  clear Hr20_15 Hr21_15 Hr30_15 Hr31_15 KaD_15 Kw0_15 Kx0_15 Kg0_15 HB_15 Hx00_15 Hx01_15 hm0 hm1 hg0 hg1 HMb0 HMb1
  clear Hx00_16 Hx01_16
  clear Kx0_16
  have caD_0 : w12.cell? ⟨w.heap.size, 0, none⟩ = some (.slice A ss.length ca) := cell_of_row _ _ 0 _ _ _ KaD_16.out
  have caD_1 : w12.cell? ⟨w.heap.size, 1, none⟩ = some (.slice B ps.length cb) := cell_of_row _ _ 1 _ _ _ KaD_16.out
  have cw0_0 : w12.cell? ⟨w4.heap.size, 0, none⟩ = some (.slice Ar20 V.length cr20) := cell_of_row _ _ 0 _ _ _ Kw0_16.out
  have cw0_1 : w12.cell? ⟨w4.heap.size, 1, none⟩ = some (.slice Ar21 U.length cr21) := cell_of_row _ _ 1 _ _ _ Kw0_16.out
  have cg0_0 : w12.cell? ⟨w8.heap.size, 0, none⟩ = some (.slice Ar30 V.length cr30) := cell_of_row _ _ 0 _ _ _ Kg0_16.out
  have cg0_1 : w12.cell? ⟨w8.heap.size, 1, none⟩ = some (.slice Ar31 U.length cr31) := cell_of_row _ _ 1 _ _ _ Kg0_16.out
  go_wp2_with fail
  clear caD_0 caD_1 cw0_0 cw0_1 cg0_0 cg0_1
  refine (eqDisk_self Ar30 Ar31 Ar20 Ar21 V U cr30 cr31 cr20 cr21 _ (OwnR.rd fSt_len Hr30_16.out) (OwnR.rd fPu_len Hr31_16.out) (OwnR.rd fSt_len Hr20_16.out) (OwnR.rd fPu_len Hr21_16.out) (by omega) (by omega)).mono ?_
  rintro e w13 ⟨rfl, hbq⟩
  have Hr20_17 := Lib.hid (Hr20_16.out.below hbq)
  have Hr21_17 := Lib.hid (Hr21_16.out.below hbq)
  have Hr30_17 := Lib.hid (Hr30_16.out.below hbq)
  have Hr31_17 := Lib.hid (Hr31_16.out.below hbq)
  have KaD_17 := Lib.hid ((hbq.block _ (heap_lt KaD_16.out)).trans KaD_16.out)
  have Kw0_17 := Lib.hid ((hbq.block _ (heap_lt Kw0_16.out)).trans Kw0_16.out)
  have Kg0_17 := Lib.hid ((hbq.block _ (heap_lt Kg0_16.out)).trans Kg0_16.out)
  have HB_17 := Lib.hid (below_more HB_16.out hbq)
  clear Hr20_16 Hr21_16 Hr30_16 Hr31_16 KaD_16 Kw0_16 Kg0_16 HB_16
  clear hbq
  have caD_0 : w13.cell? ⟨w.heap.size, 0, none⟩ = some (.slice A ss.length ca) := cell_of_row _ _ 0 _ _ _ KaD_17.out
  have caD_1 : w13.cell? ⟨w.heap.size, 1, none⟩ = some (.slice B ps.length cb) := cell_of_row _ _ 1 _ _ _ KaD_17.out
  have cw0_0 : w13.cell? ⟨w4.heap.size, 0, none⟩ = some (.slice Ar20 V.length cr20) := cell_of_row _ _ 0 _ _ _ Kw0_17.out
  have cw0_1 : w13.cell? ⟨w4.heap.size, 1, none⟩ = some (.slice Ar21 U.length cr21) := cell_of_row _ _ 1 _ _ _ Kw0_17.out
  have cg0_0 : w13.cell? ⟨w8.heap.size, 0, none⟩ = some (.slice Ar30 V.length cr30) := cell_of_row _ _ 0 _ _ _ Kg0_17.out
  have cg0_1 : w13.cell? ⟨w8.heap.size, 1, none⟩ = some (.slice Ar31 U.length cr31) := cell_of_row _ _ 1 _ _ _ Kg0_17.out
  go_wp2_with fail
  clear caD_0 caD_1 cw0_0 cw0_1 cg0_0 cg0_1
  refine (markDisk_any _ _ V U _ 1 _ Hr30_17.out Hr31_17.out HAp_r30_r31.out (by omega) (by omega) (by omega) (by omega)).mono ?_
  rintro e w14 ⟨rfl, hm0, hm1, wm, hg0, hg1⟩
  have Hr20_18 := Lib.hid ((Hr20_17.out.kept hg0 HAp_r20_r30.out).kept hg1 HAp_r20_r31.out)
  have Hr21_18 := Lib.hid ((Hr21_17.out.kept hg0 HAp_r21_r30.out).kept hg1 HAp_r21_r31.out)
  have KaD_18 := Lib.hid ((hg1.block _ (Nat.lt_of_lt_of_le (heap_lt KaD_17.out) hg0.size) (fun e => HNX_aD_r31.out _ e.symm rfl)).trans ((hg0.block _ (heap_lt KaD_17.out) (fun e => HNX_aD_r30.out _ e.symm rfl)).trans KaD_17.out))
  have Kw0_18 := Lib.hid ((hg1.block _ (Nat.lt_of_lt_of_le (heap_lt Kw0_17.out) hg0.size) (fun e => HNX_w0_r31.out _ e.symm rfl)).trans ((hg0.block _ (heap_lt Kw0_17.out) (fun e => HNX_w0_r30.out _ e.symm rfl)).trans Kw0_17.out))
  have Kg0_18 := Lib.hid ((hg1.block _ (Nat.lt_of_lt_of_le (heap_lt Kg0_17.out) hg0.size) (fun e => HNX_g0_r31.out _ e.symm rfl)).trans ((hg0.block _ (heap_lt Kg0_17.out) (fun e => HNX_g0_r30.out _ e.symm rfl)).trans Kg0_17.out))
  have HMb0 := Lib.hid (fun k hk => (Hr30_17.out.lt k hk).1)
  have HMb1 := Lib.hid (fun k hk => (Hr31_17.out.lt k hk).1)
  have HB_18 : Hid (Below w.heap.size w w14) := ((HB_17.out.grown hg0 HB_17.out.size HMb0.out).grown hg1 (HB_17.out.grown hg0 HB_17.out.size HMb0.out).size HMb1.out)
  have Hr30_18 := Lib.hid hm0
  have Hr31_18 := Lib.hid hm1
  clear Hr20_17 Hr21_17 KaD_17 Kw0_17 Kg0_17 HB_17 Hr30_17 Hr31_17 hm0 hm1 hg0 hg1 HMb0 HMb1
  have caD_0 : w14.cell? ⟨w.heap.size, 0, none⟩ = some (.slice A ss.length ca) := cell_of_row _ _ 0 _ _ _ KaD_18.out
  have caD_1 : w14.cell? ⟨w.heap.size, 1, none⟩ = some (.slice B ps.length cb) := cell_of_row _ _ 1 _ _ _ KaD_18.out
  have cw0_0 : w14.cell? ⟨w4.heap.size, 0, none⟩ = some (.slice Ar20 V.length cr20) := cell_of_row _ _ 0 _ _ _ Kw0_18.out
  have cw0_1 : w14.cell? ⟨w4.heap.size, 1, none⟩ = some (.slice Ar21 U.length cr21) := cell_of_row _ _ 1 _ _ _ Kw0_18.out
  have cg0_0 : w14.cell? ⟨w8.heap.size, 0, none⟩ = some (.slice Ar30 V.length cr30) := cell_of_row _ _ 0 _ _ _ Kg0_18.out
  have cg0_1 : w14.cell? ⟨w8.heap.size, 1, none⟩ = some (.slice Ar31 U.length cr31) := cell_of_row _ _ 1 _ _ _ Kg0_18.out
  go_wp2_with fail
  clear caD_0 caD_1 cw0_0 cw0_1 cg0_0 cg0_1
  refine (heldDisk_any Ar30 Ar31 1 V.length U.length cr30 cr31 _ (OwnR.rd fSt_len Hr30_18.out) (OwnR.rd fPu_len Hr31_18.out) (by omega) (by omega) (by omega) (by omega)).mono ?_
  rintro e w15 ⟨rfl, hbq⟩
  have Hr20_19 := Lib.hid (Hr20_18.out.below hbq)
  have Hr21_19 := Lib.hid (Hr21_18.out.below hbq)
  have Hr30_19 := Lib.hid (Hr30_18.out.below hbq)
  have Hr31_19 := Lib.hid (Hr31_18.out.below hbq)
  have KaD_19 := Lib.hid ((hbq.block _ (heap_lt KaD_18.out)).trans KaD_18.out)
  have Kw0_19 := Lib.hid ((hbq.block _ (heap_lt Kw0_18.out)).trans Kw0_18.out)
  have Kg0_19 := Lib.hid ((hbq.block _ (heap_lt Kg0_18.out)).trans Kg0_18.out)
  have HB_19 := Lib.hid (below_more HB_18.out hbq)
  clear Hr20_18 Hr21_18 Hr30_18 Hr31_18 KaD_18 Kw0_18 Kg0_18 HB_18
  clear hbq
  have caD_0 : w15.cell? ⟨w.heap.size, 0, none⟩ = some (.slice A ss.length ca) := cell_of_row _ _ 0 _ _ _ KaD_19.out
  have caD_1 : w15.cell? ⟨w.heap.size, 1, none⟩ = some (.slice B ps.length cb) := cell_of_row _ _ 1 _ _ _ KaD_19.out
  have cw0_0 : w15.cell? ⟨w4.heap.size, 0, none⟩ = some (.slice Ar20 V.length cr20) := cell_of_row _ _ 0 _ _ _ Kw0_19.out
  have cw0_1 : w15.cell? ⟨w4.heap.size, 1, none⟩ = some (.slice Ar21 U.length cr21) := cell_of_row _ _ 1 _ _ _ Kw0_19.out
  have cg0_0 : w15.cell? ⟨w8.heap.size, 0, none⟩ = some (.slice Ar30 V.length cr30) := cell_of_row _ _ 0 _ _ _ Kg0_19.out
  have cg0_1 : w15.cell? ⟨w8.heap.size, 1, none⟩ = some (.slice Ar31 U.length cr31) := cell_of_row _ _ 1 _ _ _ Kg0_19.out
  go_wp2_with fail
  clear caD_0 caD_1 cw0_0 cw0_1 cg0_0 cg0_1
  refine (toDisk_any A B ss ps ca cb _ (HRA.out.below HB_19.out) (HRB.out.below HB_19.out) (by omega) (by omega)).mono ?_
  rintro e w16 ⟨vt40, vt41, rfl, hot40, hot41, hat4, hbt4⟩
  obtain ⟨At40, ct40, hvt40, hcapt40, _⟩ := OwnR.form fSt_len hot40
  subst hvt40
  obtain ⟨At41, ct41, hvt41, hcapt41, _⟩ := OwnR.form fPu_len hot41
  subst hvt41
  have HAp_r20_t40 := Lib.hid (apart5 (fun k hk => (Hr20_19.out.lt k hk).2) (fun k hk => (hot40.lt k hk).1))
  have HAp_r21_t40 := Lib.hid (apart5 (fun k hk => (Hr21_19.out.lt k hk).2) (fun k hk => (hot40.lt k hk).1))
  have HAp_r30_t40 := Lib.hid (apart5 (fun k hk => (Hr30_19.out.lt k hk).2) (fun k hk => (hot40.lt k hk).1))
  have HAp_r31_t40 := Lib.hid (apart5 (fun k hk => (Hr31_19.out.lt k hk).2) (fun k hk => (hot40.lt k hk).1))
  have HAp_r20_t41 := Lib.hid (apart5 (fun k hk => (Hr20_19.out.lt k hk).2) (fun k hk => (hot41.lt k hk).1))
  have HAp_r21_t41 := Lib.hid (apart5 (fun k hk => (Hr21_19.out.lt k hk).2) (fun k hk => (hot41.lt k hk).1))
  have HAp_r30_t41 := Lib.hid (apart5 (fun k hk => (Hr30_19.out.lt k hk).2) (fun k hk => (hot41.lt k hk).1))
  have HAp_r31_t41 := Lib.hid (apart5 (fun k hk => (Hr31_19.out.lt k hk).2) (fun k hk => (hot41.lt k hk).1))
  have HNX_aD_t40 := Lib.hid (fun g hg => Nat.ne_of_gt (Nat.lt_of_lt_of_le (heap_lt KaD_19.out) (hot40.lt g hg).1))
  have HNX_w0_t40 := Lib.hid (fun g hg => Nat.ne_of_gt (Nat.lt_of_lt_of_le (heap_lt Kw0_19.out) (hot40.lt g hg).1))
  have HNX_g0_t40 := Lib.hid (fun g hg => Nat.ne_of_gt (Nat.lt_of_lt_of_le (heap_lt Kg0_19.out) (hot40.lt g hg).1))
  have HNX_aD_t41 := Lib.hid (fun g hg => Nat.ne_of_gt (Nat.lt_of_lt_of_le (heap_lt KaD_19.out) (hot41.lt g hg).1))
  have HNX_w0_t41 := Lib.hid (fun g hg => Nat.ne_of_gt (Nat.lt_of_lt_of_le (heap_lt Kw0_19.out) (hot41.lt g hg).1))
  have HNX_g0_t41 := Lib.hid (fun g hg => Nat.ne_of_gt (Nat.lt_of_lt_of_le (heap_lt Kg0_19.out) (hot41.lt g hg).1))
  have HAp_t40_t41 := Lib.hid hat4
  have Hr20_20 := Lib.hid (Hr20_19.out.below hbt4)
  have Hr21_20 := Lib.hid (Hr21_19.out.below hbt4)
  have Hr30_20 := Lib.hid (Hr30_19.out.below hbt4)
  have Hr31_20 := Lib.hid (Hr31_19.out.below hbt4)
  have Ht40_20 := Lib.hid (hot40.lower HB_19.out.size)
  have Ht41_20 := Lib.hid (hot41.lower HB_19.out.size)
  have KaD_20 := Lib.hid ((hbt4.block _ (heap_lt KaD_19.out)).trans KaD_19.out)
  have Kw0_20 := Lib.hid ((hbt4.block _ (heap_lt Kw0_19.out)).trans Kw0_19.out)
  have Kg0_20 := Lib.hid ((hbt4.block _ (heap_lt Kg0_19.out)).trans Kg0_19.out)
  have HB_20 := Lib.hid (below_more HB_19.out hbt4)
  clear Hr20_19 Hr21_19 Hr30_19 Hr31_19 KaD_19 Kw0_19 Kg0_19 HB_19 hot40 hot41 hat4 hbt4
  have caD_0 : w16.cell? ⟨w.heap.size, 0, none⟩ = some (.slice A ss.length ca) := cell_of_row _ _ 0 _ _ _ KaD_20.out
  have caD_1 : w16.cell? ⟨w.heap.size, 1, none⟩ = some (.slice B ps.length cb) := cell_of_row _ _ 1 _ _ _ KaD_20.out
  have cw0_0 : w16.cell? ⟨w4.heap.size, 0, none⟩ = some (.slice Ar20 V.length cr20) := cell_of_row _ _ 0 _ _ _ Kw0_20.out
  have cw0_1 : w16.cell? ⟨w4.heap.size, 1, none⟩ = some (.slice Ar21 U.length cr21) := cell_of_row _ _ 1 _ _ _ Kw0_20.out
  have cg0_0 : w16.cell? ⟨w8.heap.size, 0, none⟩ = some (.slice Ar30 V.length cr30) := cell_of_row _ _ 0 _ _ _ Kg0_20.out
  have cg0_1 : w16.cell? ⟨w8.heap.size, 1, none⟩ = some (.slice Ar31 U.length cr31) := cell_of_row _ _ 1 _ _ _ Kg0_20.out
  go_wp2_with fail
  clear caD_0 caD_1 cw0_0 cw0_1 cg0_0 cg0_1
  refine (HI.out At40 At41 ct40 ct41 _ (hK _ _ HW.out HB_20.out) ⟨(OwnR.rd fSt_len Ht40_20.out), (OwnR.rd fPu_len Ht41_20.out), by omega, by omega, HZs.out, HZp.out⟩ (ownR_lies Ht40_20.out) (ownR_lies Ht41_20.out)).mono ?_
  rintro e w17 ⟨vr50, vr51, rfl, hpk, hbr5⟩
  obtain ⟨hor50, hor51, har5⟩ := hpk
  obtain ⟨Ar50, cr50, hvr50, hcapr50, _⟩ := OwnR.form fSt_len hor50
  subst hvr50
  obtain ⟨Ar51, cr51, hvr51, hcapr51, _⟩ := OwnR.form fPu_len hor51
  subst hvr51
  have HAp_r20_r50 := Lib.hid (apart5 (fun k hk => (Hr20_20.out.lt k hk).2) (fun k hk => (hor50.lt k hk).1))
  have HAp_r21_r50 := Lib.hid (apart5 (fun k hk => (Hr21_20.out.lt k hk).2) (fun k hk => (hor50.lt k hk).1))
  have HAp_r30_r50 := Lib.hid (apart5 (fun k hk => (Hr30_20.out.lt k hk).2) (fun k hk => (hor50.lt k hk).1))
  have HAp_r31_r50 := Lib.hid (apart5 (fun k hk => (Hr31_20.out.lt k hk).2) (fun k hk => (hor50.lt k hk).1))
  have HAp_t40_r50 := Lib.hid (apart5 (fun k hk => (Ht40_20.out.lt k hk).2) (fun k hk => (hor50.lt k hk).1))
  have HAp_t41_r50 := Lib.hid (apart5 (fun k hk => (Ht41_20.out.lt k hk).2) (fun k hk => (hor50.lt k hk).1))
  have HAp_r20_r51 := Lib.hid (apart5 (fun k hk => (Hr20_20.out.lt k hk).2) (fun k hk => (hor51.lt k hk).1))
  have HAp_r21_r51 := Lib.hid (apart5 (fun k hk => (Hr21_20.out.lt k hk).2) (fun k hk => (hor51.lt k hk).1))
  have HAp_r30_r51 := Lib.hid (apart5 (fun k hk => (Hr30_20.out.lt k hk).2) (fun k hk => (hor51.lt k hk).1))
  have HAp_r31_r51 := Lib.hid (apart5 (fun k hk => (Hr31_20.out.lt k hk).2) (fun k hk => (hor51.lt k hk).1))
  have HAp_t40_r51 := Lib.hid (apart5 (fun k hk => (Ht40_20.out.lt k hk).2) (fun k hk => (hor51.lt k hk).1))
  have HAp_t41_r51 := Lib.hid (apart5 (fun k hk => (Ht41_20.out.lt k hk).2) (fun k hk => (hor51.lt k hk).1))
  have HNX_aD_r50 := Lib.hid (fun g hg => Nat.ne_of_gt (Nat.lt_of_lt_of_le (heap_lt KaD_20.out) (hor50.lt g hg).1))
  have HNX_w0_r50 := Lib.hid (fun g hg => Nat.ne_of_gt (Nat.lt_of_lt_of_le (heap_lt Kw0_20.out) (hor50.lt g hg).1))
  have HNX_g0_r50 := Lib.hid (fun g hg => Nat.ne_of_gt (Nat.lt_of_lt_of_le (heap_lt Kg0_20.out) (hor50.lt g hg).1))
  have HNX_aD_r51 := Lib.hid (fun g hg => Nat.ne_of_gt (Nat.lt_of_lt_of_le (heap_lt KaD_20.out) (hor51.lt g hg).1))
  have HNX_w0_r51 := Lib.hid (fun g hg => Nat.ne_of_gt (Nat.lt_of_lt_of_le (heap_lt Kw0_20.out) (hor51.lt g hg).1))
  have HNX_g0_r51 := Lib.hid (fun g hg => Nat.ne_of_gt (Nat.lt_of_lt_of_le (heap_lt Kg0_20.out) (hor51.lt g hg).1))
  have HAp_r50_r51 := Lib.hid har5
  have Hr20_21 := Lib.hid (Hr20_20.out.below hbr5)
  have Hr21_21 := Lib.hid (Hr21_20.out.below hbr5)
  have Hr30_21 := Lib.hid (Hr30_20.out.below hbr5)
  have Hr31_21 := Lib.hid (Hr31_20.out.below hbr5)
  have Ht40_21 := Lib.hid (Ht40_20.out.below hbr5)
  have Ht41_21 := Lib.hid (Ht41_20.out.below hbr5)
  have Hr50_21 := Lib.hid (hor50.lower HB_20.out.size)
  have Hr51_21 := Lib.hid (hor51.lower HB_20.out.size)
  have KaD_21 := Lib.hid ((hbr5.block _ (heap_lt KaD_20.out)).trans KaD_20.out)
  have Kw0_21 := Lib.hid ((hbr5.block _ (heap_lt Kw0_20.out)).trans Kw0_20.out)
  have Kg0_21 := Lib.hid ((hbr5.block _ (heap_lt Kg0_20.out)).trans Kg0_20.out)
  have HB_21 := Lib.hid (below_more HB_20.out hbr5)
  clear Hr20_20 Hr21_20 Hr30_20 Hr31_20 Ht40_20 Ht41_20 KaD_20 Kw0_20 Kg0_20 HB_20 hor50 hor51 har5 hbr5
  obtain ⟨w18, hw22⟩ : ∃ wn, w17.alloc (.cells #[.slice Ar50 V.length cr50, .slice Ar51 U.length cr51] 26) = wn := ⟨_, rfl⟩
  have hbx : Below w17.heap.size w17 w18 := by rw [← hw22]; exact gAlloc _ _
  have KX : w18.heap[w17.heap.size]? = some (.cells #[.slice Ar50 V.length cr50, .slice Ar51 U.length cr51] 26 (0, 0)) := by rw [← hw22]; exact heap_alloc_new _ _
  have HNX_h0_r20 := Lib.hid (fun g hg => Nat.ne_of_lt (Hr20_21.out.lt g hg).2)
  have HNX_h0_r21 := Lib.hid (fun g hg => Nat.ne_of_lt (Hr21_21.out.lt g hg).2)
  have HNX_h0_r30 := Lib.hid (fun g hg => Nat.ne_of_lt (Hr30_21.out.lt g hg).2)
  have HNX_h0_r31 := Lib.hid (fun g hg => Nat.ne_of_lt (Hr31_21.out.lt g hg).2)
  have HNX_h0_t40 := Lib.hid (fun g hg => Nat.ne_of_lt (Ht40_21.out.lt g hg).2)
  have HNX_h0_t41 := Lib.hid (fun g hg => Nat.ne_of_lt (Ht41_21.out.lt g hg).2)
  have HNX_h0_r50 := Lib.hid (fun g hg => Nat.ne_of_lt (Hr50_21.out.lt g hg).2)
  have HNX_h0_r51 := Lib.hid (fun g hg => Nat.ne_of_lt (Hr51_21.out.lt g hg).2)
  have Hr20_23 := Lib.hid (Hr20_21.out.below hbx)
  have Hr21_23 := Lib.hid (Hr21_21.out.below hbx)
  have Hr30_23 := Lib.hid (Hr30_21.out.below hbx)
  have Hr31_23 := Lib.hid (Hr31_21.out.below hbx)
  have Ht40_23 := Lib.hid (Ht40_21.out.below hbx)
  have Ht41_23 := Lib.hid (Ht41_21.out.below hbx)
  have Hr50_23 := Lib.hid (Hr50_21.out.below hbx)
  have Hr51_23 := Lib.hid (Hr51_21.out.below hbx)
  have KaD_23 := Lib.hid ((hbx.block _ (heap_lt KaD_21.out)).trans KaD_21.out)
  have Kw0_23 := Lib.hid ((hbx.block _ (heap_lt Kw0_21.out)).trans Kw0_21.out)
  have Kg0_23 := Lib.hid ((hbx.block _ (heap_lt Kg0_21.out)).trans Kg0_21.out)
  have HB_23 := Lib.hid (below_more HB_21.out hbx)
  clear Hr20_21 Hr21_21 Hr30_21 Hr31_21 Ht40_21 Ht41_21 Hr50_21 Hr51_21 KaD_21 Kw0_21 Kg0_21 HB_21
  have Kh0_22 := Lib.hid KX
  clear hbx KX
  clear Ht40_23 Ht41_23
  have caD_0 : w18.cell? ⟨w.heap.size, 0, none⟩ = some (.slice A ss.length ca) := cell_of_row _ _ 0 _ _ _ KaD_23.out
  have caD_1 : w18.cell? ⟨w.heap.size, 1, none⟩ = some (.slice B ps.length cb) := cell_of_row _ _ 1 _ _ _ KaD_23.out
  have cw0_0 : w18.cell? ⟨w4.heap.size, 0, none⟩ = some (.slice Ar20 V.length cr20) := cell_of_row _ _ 0 _ _ _ Kw0_23.out
  have cw0_1 : w18.cell? ⟨w4.heap.size, 1, none⟩ = some (.slice Ar21 U.length cr21) := cell_of_row _ _ 1 _ _ _ Kw0_23.out
  have cg0_0 : w18.cell? ⟨w8.heap.size, 0, none⟩ = some (.slice Ar30 V.length cr30) := cell_of_row _ _ 0 _ _ _ Kg0_23.out
  have cg0_1 : w18.cell? ⟨w8.heap.size, 1, none⟩ = some (.slice Ar31 U.length cr31) := cell_of_row _ _ 1 _ _ _ Kg0_23.out
  have ch0_0 : w18.cell? ⟨w17.heap.size, 0, none⟩ = some (.slice Ar50 V.length cr50) := cell_of_row _ _ 0 _ _ _ Kh0_22.out
  have ch0_1 : w18.cell? ⟨w17.heap.size, 1, none⟩ = some (.slice Ar51 U.length cr51) := cell_of_row _ _ 1 _ _ _ Kh0_22.out
  go_wp2_with fail
  clear caD_0 caD_1 cw0_0 cw0_1 cg0_0 cg0_1 ch0_0 ch0_1 hw22
  refine (eqDisk_self Ar50 Ar51 Ar20 Ar21 V U cr50 cr51 cr20 cr21 _ (OwnR.rd fSt_len Hr50_23.out) (OwnR.rd fPu_len Hr51_23.out) (OwnR.rd fSt_len Hr20_23.out) (OwnR.rd fPu_len Hr21_23.out) (by omega) (by omega)).mono ?_
  rintro e w19 ⟨rfl, hbq⟩
  have Hr20_24 := Lib.hid (Hr20_23.out.below hbq)
  have Hr21_24 := Lib.hid (Hr21_23.out.below hbq)
  have Hr30_24 := Lib.hid (Hr30_23.out.below hbq)
  have Hr31_24 := Lib.hid (Hr31_23.out.below hbq)
  have Hr50_24 := Lib.hid (Hr50_23.out.below hbq)
  have Hr51_24 := Lib.hid (Hr51_23.out.below hbq)
  have KaD_24 := Lib.hid ((hbq.block _ (heap_lt KaD_23.out)).trans KaD_23.out)
  have Kw0_24 := Lib.hid ((hbq.block _ (heap_lt Kw0_23.out)).trans Kw0_23.out)
  have Kg0_24 := Lib.hid ((hbq.block _ (heap_lt Kg0_23.out)).trans Kg0_23.out)
  have Kh0_24 := Lib.hid ((hbq.block _ (heap_lt Kh0_22.out)).trans Kh0_22.out)
  have HB_24 := Lib.hid (below_more HB_23.out hbq)
  clear Hr20_23 Hr21_23 Hr30_23 Hr31_23 Hr50_23 Hr51_23 KaD_23 Kw0_23 Kg0_23 Kh0_22 HB_23
  clear hbq
  clear Hr20_24 Hr21_24
  clear Kw0_24
  clear Hr50_24 Hr51_24
  clear Kh0_24
  have caD_0 : w19.cell? ⟨w.heap.size, 0, none⟩ = some (.slice A ss.length ca) := cell_of_row _ _ 0 _ _ _ KaD_24.out
  have caD_1 : w19.cell? ⟨w.heap.size, 1, none⟩ = some (.slice B ps.length cb) := cell_of_row _ _ 1 _ _ _ KaD_24.out
  have cg0_0 : w19.cell? ⟨w8.heap.size, 0, none⟩ = some (.slice Ar30 V.length cr30) := cell_of_row _ _ 0 _ _ _ Kg0_24.out
  have cg0_1 : w19.cell? ⟨w8.heap.size, 1, none⟩ = some (.slice Ar31 U.length cr31) := cell_of_row _ _ 1 _ _ _ Kg0_24.out
  go_wp2_with fail
  clear caD_0 caD_1 cg0_0 cg0_1
  refine (heldDisk_any Ar30 Ar31 1 V.length U.length cr30 cr31 _ (OwnR.rd fSt_len Hr30_24.out) (OwnR.rd fPu_len Hr31_24.out) (by omega) (by omega) (by omega) (by omega)).mono ?_
  rintro e w20 ⟨rfl, hbq⟩
  have Hr30_25 := Lib.hid (Hr30_24.out.below hbq)
  have Hr31_25 := Lib.hid (Hr31_24.out.below hbq)
  have KaD_25 := Lib.hid ((hbq.block _ (heap_lt KaD_24.out)).trans KaD_24.out)
  have Kg0_25 := Lib.hid ((hbq.block _ (heap_lt Kg0_24.out)).trans Kg0_24.out)
  have HB_25 := Lib.hid (below_more HB_24.out hbq)
  clear Hr30_24 Hr31_24 KaD_24 Kg0_24 HB_24
  clear hbq
  go_wp2_with fail
  go_ret
  exact ⟨rfl, HB_25.out⟩

set_option maxRecDepth 100000 in
set_option maxHeartbeats 8000000 in
theorem crashDisk_law {K : World → Prop} (hK : Stays5 K) (hI : ∀ (A B : Option Addr) (ss : List ByteArray) (ps : List (Int × ByteArray)) (ca cb : Nat) (C : Option Addr) (ks : List Int) (cc : Nat) (torn : Int) (bb : Int) (w : World), K w → DiskIn w A B ss ps → Lies9 A ca → Lies9 B cb → Ints w C ks → Lies9 C cc → ks.length ≤ 1048576 → Calls Try.prog 13 #[diskV (.slice A ss.length ca) (.slice B ps.length cb), .slice C ks.length cc, .int .i64 torn, .int .i64 bb] w fun e w' => ∃ v1 v2, e = .returned (.tuple #[diskV v1 v2, .bool (crOkB ss ps ks torn bb)]) ∧ OwnD w' w.heap.size v1 v2 (crI ss ps ks torn bb) ([]) ∧ Below w.heap.size w w')
    (A B : Option Addr) (ss : List ByteArray) (ps : List (Int × ByteArray)) (ca cb : Nat) (C : Option Addr) (ks : List Int) (cc : Nat) (torn : Int) (bb : Int) (w : World) (hw : K w) (hA : Strs w A ss) (hB : Puts w B ps) (hl : ss.length ≤ 9223372036854775807) (hz : ∀ s ∈ ss, s.size ≤ 9223372036854775807) (hl2 : ps.length ≤ 9223372036854775807) (hz2 : ∀ p ∈ ps, p.2.size ≤ 9223372036854775807) (hC : Ints w C ks) : Calls Try.prog 10 #[diskV (.slice A ss.length ca) (.slice B ps.length cb), .slice C ks.length cc, .int .i64 torn, .int .i64 bb] w fun e w' => e = .returned (.bool true) ∧ Below w.heap.size w w' := by
  by_cases hlb0 : ks.length ≤ 1048576
  case neg =>
    have hli : (1048576 : Int) < (ks.length : Int) := by omega
    clear hI
    go_enter Try.func10, Try.ntmps10
    go_wp2_with fail
    go_ret
    exact ⟨rfl, by first | exact Below.refl _ _ | exact gAlloc _ _⟩
  have hli0 : ¬ (1048576 : Int) < (ks.length : Int) := by omega
  have hU : ([] : List (Int × ByteArray)).length ≤ 41 := by simp
  have HRA := Lib.hid hA
  have HRB := Lib.hid hB
  have HZ := Lib.hid hz
  have HZ2 := Lib.hid hz2
  have HRC := Lib.hid hC
  have hqC : eqL ks ks = true := by simp [eqL]
  have HI := Lib.hid (fun A B C ca cb cc w hk hd hA hB hC hCl => hI A B ss ps ca cb C ks cc torn bb w hk hd hA hB hC hCl hlb0)
  have HW := Lib.hid hw
  have HS0 := Lib.hid (fun A B C ca cb cc w hd hA hC => sCrash_D A B C ss ps ks ca cb cc torn bb w hd hA hC hlb0)
  clear hI hw hA hB hz hz2 hC
  have hV := crI_len ss ps ks torn bb
  generalize crI ss ps ks torn bb = V at *
  generalize crOkB ss ps ks torn bb = ok at *
  generalize ([] : List (Int × ByteArray)) = U at *
  obtain ⟨w1, hw1⟩ : ∃ wn, w.alloc (.cells #[.slice A ss.length ca, .slice B ps.length cb] 52) = wn := ⟨_, rfl⟩
  have hbx : Below w.heap.size w w1 := by rw [← hw1]; exact gAlloc _ _
  have KX : w1.heap[w.heap.size]? = some (.cells #[.slice A ss.length ca, .slice B ps.length cb] 52 (0, 0)) := by rw [← hw1]; exact heap_alloc_new _ _
  have HB_2 := Lib.hid (hbx)
  have KaD_1 := Lib.hid KX
  clear hbx KX
  go_enter Try.func10, Try.ntmps10
  have caD_0 : w1.cell? ⟨w.heap.size, 0, none⟩ = some (.slice A ss.length ca) := cell_of_row _ _ 0 _ _ _ KaD_1.out
  have caD_1 : w1.cell? ⟨w.heap.size, 1, none⟩ = some (.slice B ps.length cb) := cell_of_row _ _ 1 _ _ _ KaD_1.out
  go_wp2_with fail
  clear caD_0 caD_1 hw1
  refine (szDisk_any A B ss ps ca cb 1048576 _ (HRA.out.below HB_2.out) (HRB.out.below HB_2.out) hl HZ.out hl2 HZ2.out (by omega) (by omega)).mono ?_
  rintro e w2 ⟨rz, rfl, hrz, hbq⟩
  have KaD_3 := Lib.hid ((hbq.block _ (heap_lt KaD_1.out)).trans KaD_1.out)
  have HB_3 := Lib.hid (below_more HB_2.out hbq)
  clear KaD_1 HB_2
  clear hbq
  rcases hrz with hrz | ⟨hrz0, hrz1, hrz2, hrz3⟩
  · go_wp2_with fail
    go_ret
    exact ⟨rfl, HB_3.out⟩
  have HZs := Lib.hid hrz2
  have HZp := Lib.hid hrz3
  have hls : ss.length ≤ 1048576 := by omega
  have hlp : ps.length ≤ 1048576 := by omega
  have hlt : ss.length + ps.length ≤ 1048576 := by omega
  have hrzn : ¬ rz < 0 := by omega
  clear hrz2 hrz3 HZ HZ2 hl hl2 hrz1
  have caD_0 : w2.cell? ⟨w.heap.size, 0, none⟩ = some (.slice A ss.length ca) := cell_of_row _ _ 0 _ _ _ KaD_3.out
  have caD_1 : w2.cell? ⟨w.heap.size, 1, none⟩ = some (.slice B ps.length cb) := cell_of_row _ _ 1 _ _ _ KaD_3.out
  go_wp2_with fail
  clear caD_0 caD_1
  refine (toDisk_any A B ss ps ca cb _ (HRA.out.below HB_3.out) (HRB.out.below HB_3.out) (by omega) (by omega)).mono ?_
  rintro e w3 ⟨vt10, vt11, rfl, hot10, hot11, hat1, hbt1⟩
  obtain ⟨At10, ct10, hvt10, hcapt10, _⟩ := OwnR.form fSt_len hot10
  subst hvt10
  obtain ⟨At11, ct11, hvt11, hcapt11, _⟩ := OwnR.form fPu_len hot11
  subst hvt11
  have HNX_aD_t10 := Lib.hid (fun g hg => Nat.ne_of_gt (Nat.lt_of_lt_of_le (heap_lt KaD_3.out) (hot10.lt g hg).1))
  have HNX_aD_t11 := Lib.hid (fun g hg => Nat.ne_of_gt (Nat.lt_of_lt_of_le (heap_lt KaD_3.out) (hot11.lt g hg).1))
  have HAp_t10_t11 := Lib.hid hat1
  have Ht10_4 := Lib.hid (hot10.lower HB_3.out.size)
  have Ht11_4 := Lib.hid (hot11.lower HB_3.out.size)
  have KaD_4 := Lib.hid ((hbt1.block _ (heap_lt KaD_3.out)).trans KaD_3.out)
  have HB_4 := Lib.hid (below_more HB_3.out hbt1)
  clear KaD_3 HB_3 hot10 hot11 hat1 hbt1
  have caD_0 : w3.cell? ⟨w.heap.size, 0, none⟩ = some (.slice A ss.length ca) := cell_of_row _ _ 0 _ _ _ KaD_4.out
  have caD_1 : w3.cell? ⟨w.heap.size, 1, none⟩ = some (.slice B ps.length cb) := cell_of_row _ _ 1 _ _ _ KaD_4.out
  go_wp2_with fail
  clear caD_0 caD_1
  refine (toInts_any C ks cc _ (HRC.out.below HB_4.out) (by omega)).mono ?_
  rintro e w4 ⟨vt20, rfl, hot20, hbt2⟩
  obtain ⟨At20, ct20, hvt20, hcapt20, _⟩ := gFormC hot20
  subst hvt20
  have HAp_t10_t20 := Lib.hid (apart5 (fun k hk => (Ht10_4.out.lt k hk).2) (fun k hk => (hot20.lt k hk).1))
  have HAp_t11_t20 := Lib.hid (apart5 (fun k hk => (Ht11_4.out.lt k hk).2) (fun k hk => (hot20.lt k hk).1))
  have HNX_aD_t20 := Lib.hid (fun g hg => Nat.ne_of_gt (Nat.lt_of_lt_of_le (heap_lt KaD_4.out) (hot20.lt g hg).1))
  have Ht10_5 := Lib.hid (Ht10_4.out.below hbt2)
  have Ht11_5 := Lib.hid (Ht11_4.out.below hbt2)
  have Ht20_5 := Lib.hid (hot20.lower HB_4.out.size)
  have KaD_5 := Lib.hid ((hbt2.block _ (heap_lt KaD_4.out)).trans KaD_4.out)
  have HB_5 := Lib.hid (below_more HB_4.out hbt2)
  clear Ht10_4 Ht11_4 KaD_4 HB_4 hot20 hbt2
  have caD_0 : w4.cell? ⟨w.heap.size, 0, none⟩ = some (.slice A ss.length ca) := cell_of_row _ _ 0 _ _ _ KaD_5.out
  have caD_1 : w4.cell? ⟨w.heap.size, 1, none⟩ = some (.slice B ps.length cb) := cell_of_row _ _ 1 _ _ _ KaD_5.out
  go_wp2_with fail
  clear caD_0 caD_1
  refine (HS0.out At10 At11 At20 ct10 ct11 ct20 _ ⟨(OwnR.rd fSt_len Ht10_5.out), (OwnR.rd fPu_len Ht11_5.out), by omega, by omega, HZs.out, HZp.out⟩ (ownR_lies Ht10_5.out) (own_ints5 Ht20_5.out)).mono ?_
  rintro e w5 ⟨vr30, vr31, rfl, hpk, hbr3⟩
  obtain ⟨hor30, hor31, har3⟩ := hpk
  obtain ⟨Ar30, cr30, hvr30, hcapr30, _⟩ := OwnR.form fSt_len hor30
  subst hvr30
  obtain ⟨Ar31, cr31, hvr31, hcapr31, _⟩ := OwnR.form fPu_len hor31
  subst hvr31
  have HAp_t10_r30 := Lib.hid (apart5 (fun k hk => (Ht10_5.out.lt k hk).2) (fun k hk => (hor30.lt k hk).1))
  have HAp_t11_r30 := Lib.hid (apart5 (fun k hk => (Ht11_5.out.lt k hk).2) (fun k hk => (hor30.lt k hk).1))
  have HAp_t20_r30 := Lib.hid (apart5 (fun k hk => (Ht20_5.out.lt k hk).2) (fun k hk => (hor30.lt k hk).1))
  have HAp_t10_r31 := Lib.hid (apart5 (fun k hk => (Ht10_5.out.lt k hk).2) (fun k hk => (hor31.lt k hk).1))
  have HAp_t11_r31 := Lib.hid (apart5 (fun k hk => (Ht11_5.out.lt k hk).2) (fun k hk => (hor31.lt k hk).1))
  have HAp_t20_r31 := Lib.hid (apart5 (fun k hk => (Ht20_5.out.lt k hk).2) (fun k hk => (hor31.lt k hk).1))
  have HNX_aD_r30 := Lib.hid (fun g hg => Nat.ne_of_gt (Nat.lt_of_lt_of_le (heap_lt KaD_5.out) (hor30.lt g hg).1))
  have HNX_aD_r31 := Lib.hid (fun g hg => Nat.ne_of_gt (Nat.lt_of_lt_of_le (heap_lt KaD_5.out) (hor31.lt g hg).1))
  have HAp_r30_r31 := Lib.hid har3
  have Ht10_6 := Lib.hid (Ht10_5.out.below hbr3)
  have Ht11_6 := Lib.hid (Ht11_5.out.below hbr3)
  have Ht20_6 := Lib.hid (Ht20_5.out.below hbr3)
  have Hr30_6 := Lib.hid (hor30.lower HB_5.out.size)
  have Hr31_6 := Lib.hid (hor31.lower HB_5.out.size)
  have KaD_6 := Lib.hid ((hbr3.block _ (heap_lt KaD_5.out)).trans KaD_5.out)
  have HB_6 := Lib.hid (below_more HB_5.out hbr3)
  clear Ht10_5 Ht11_5 Ht20_5 KaD_5 HB_5 hor30 hor31 har3 hbr3
  obtain ⟨w6, hw7⟩ : ∃ wn, w5.alloc (.cells #[.slice Ar30 V.length cr30, .slice Ar31 U.length cr31] 26) = wn := ⟨_, rfl⟩
  have hbx : Below w5.heap.size w5 w6 := by rw [← hw7]; exact gAlloc _ _
  have KX : w6.heap[w5.heap.size]? = some (.cells #[.slice Ar30 V.length cr30, .slice Ar31 U.length cr31] 26 (0, 0)) := by rw [← hw7]; exact heap_alloc_new _ _
  have HNX_w0_t10 := Lib.hid (fun g hg => Nat.ne_of_lt (Ht10_6.out.lt g hg).2)
  have HNX_w0_t11 := Lib.hid (fun g hg => Nat.ne_of_lt (Ht11_6.out.lt g hg).2)
  have HNX_w0_t20 := Lib.hid (fun g hg => Nat.ne_of_lt (Ht20_6.out.lt g hg).2)
  have HNX_w0_r30 := Lib.hid (fun g hg => Nat.ne_of_lt (Hr30_6.out.lt g hg).2)
  have HNX_w0_r31 := Lib.hid (fun g hg => Nat.ne_of_lt (Hr31_6.out.lt g hg).2)
  have Ht10_8 := Lib.hid (Ht10_6.out.below hbx)
  have Ht11_8 := Lib.hid (Ht11_6.out.below hbx)
  have Ht20_8 := Lib.hid (Ht20_6.out.below hbx)
  have Hr30_8 := Lib.hid (Hr30_6.out.below hbx)
  have Hr31_8 := Lib.hid (Hr31_6.out.below hbx)
  have KaD_8 := Lib.hid ((hbx.block _ (heap_lt KaD_6.out)).trans KaD_6.out)
  have HB_8 := Lib.hid (below_more HB_6.out hbx)
  clear Ht10_6 Ht11_6 Ht20_6 Hr30_6 Hr31_6 KaD_6 HB_6
  have Kw0_7 := Lib.hid KX
  clear hbx KX
  clear Ht10_8 Ht11_8 Ht20_8
  have caD_0 : w6.cell? ⟨w.heap.size, 0, none⟩ = some (.slice A ss.length ca) := cell_of_row _ _ 0 _ _ _ KaD_8.out
  have caD_1 : w6.cell? ⟨w.heap.size, 1, none⟩ = some (.slice B ps.length cb) := cell_of_row _ _ 1 _ _ _ KaD_8.out
  have cw0_0 : w6.cell? ⟨w5.heap.size, 0, none⟩ = some (.slice Ar30 V.length cr30) := cell_of_row _ _ 0 _ _ _ Kw0_7.out
  have cw0_1 : w6.cell? ⟨w5.heap.size, 1, none⟩ = some (.slice Ar31 U.length cr31) := cell_of_row _ _ 1 _ _ _ Kw0_7.out
  go_wp2_with fail
  clear caD_0 caD_1 cw0_0 cw0_1 hw7
  refine (toDisk_any A B ss ps ca cb _ (HRA.out.below HB_8.out) (HRB.out.below HB_8.out) (by omega) (by omega)).mono ?_
  rintro e w7 ⟨vx00, vx01, rfl, hox00, hox01, hax0, hbx0⟩
  obtain ⟨Ax00, cx00, hvx00, hcapx00, _⟩ := OwnR.form fSt_len hox00
  subst hvx00
  obtain ⟨Ax01, cx01, hvx01, hcapx01, _⟩ := OwnR.form fPu_len hox01
  subst hvx01
  have HAp_r30_x00 := Lib.hid (apart5 (fun k hk => (Hr30_8.out.lt k hk).2) (fun k hk => (hox00.lt k hk).1))
  have HAp_r31_x00 := Lib.hid (apart5 (fun k hk => (Hr31_8.out.lt k hk).2) (fun k hk => (hox00.lt k hk).1))
  have HAp_r30_x01 := Lib.hid (apart5 (fun k hk => (Hr30_8.out.lt k hk).2) (fun k hk => (hox01.lt k hk).1))
  have HAp_r31_x01 := Lib.hid (apart5 (fun k hk => (Hr31_8.out.lt k hk).2) (fun k hk => (hox01.lt k hk).1))
  have HNX_aD_x00 := Lib.hid (fun g hg => Nat.ne_of_gt (Nat.lt_of_lt_of_le (heap_lt KaD_8.out) (hox00.lt g hg).1))
  have HNX_w0_x00 := Lib.hid (fun g hg => Nat.ne_of_gt (Nat.lt_of_lt_of_le (heap_lt Kw0_7.out) (hox00.lt g hg).1))
  have HNX_aD_x01 := Lib.hid (fun g hg => Nat.ne_of_gt (Nat.lt_of_lt_of_le (heap_lt KaD_8.out) (hox01.lt g hg).1))
  have HNX_w0_x01 := Lib.hid (fun g hg => Nat.ne_of_gt (Nat.lt_of_lt_of_le (heap_lt Kw0_7.out) (hox01.lt g hg).1))
  have HAp_x00_x01 := Lib.hid hax0
  have Hr30_9 := Lib.hid (Hr30_8.out.below hbx0)
  have Hr31_9 := Lib.hid (Hr31_8.out.below hbx0)
  have Hx00_9 := Lib.hid (hox00.lower HB_8.out.size)
  have Hx01_9 := Lib.hid (hox01.lower HB_8.out.size)
  have KaD_9 := Lib.hid ((hbx0.block _ (heap_lt KaD_8.out)).trans KaD_8.out)
  have Kw0_9 := Lib.hid ((hbx0.block _ (heap_lt Kw0_7.out)).trans Kw0_7.out)
  have HB_9 := Lib.hid (below_more HB_8.out hbx0)
  clear Hr30_8 Hr31_8 KaD_8 Kw0_7 HB_8 hox00 hox01 hax0 hbx0
  obtain ⟨w8, hw10⟩ : ∃ wn, w7.alloc (.cells #[.slice Ax00 ss.length cx00, .slice Ax01 ps.length cx01] 26) = wn := ⟨_, rfl⟩
  have hbx : Below w7.heap.size w7 w8 := by rw [← hw10]; exact gAlloc _ _
  have KX : w8.heap[w7.heap.size]? = some (.cells #[.slice Ax00 ss.length cx00, .slice Ax01 ps.length cx01] 26 (0, 0)) := by rw [← hw10]; exact heap_alloc_new _ _
  have HNX_x0_r30 := Lib.hid (fun g hg => Nat.ne_of_lt (Hr30_9.out.lt g hg).2)
  have HNX_x0_r31 := Lib.hid (fun g hg => Nat.ne_of_lt (Hr31_9.out.lt g hg).2)
  have HNX_x0_x00 := Lib.hid (fun g hg => Nat.ne_of_lt (Hx00_9.out.lt g hg).2)
  have HNX_x0_x01 := Lib.hid (fun g hg => Nat.ne_of_lt (Hx01_9.out.lt g hg).2)
  have Hr30_11 := Lib.hid (Hr30_9.out.below hbx)
  have Hr31_11 := Lib.hid (Hr31_9.out.below hbx)
  have Hx00_11 := Lib.hid (Hx00_9.out.below hbx)
  have Hx01_11 := Lib.hid (Hx01_9.out.below hbx)
  have KaD_11 := Lib.hid ((hbx.block _ (heap_lt KaD_9.out)).trans KaD_9.out)
  have Kw0_11 := Lib.hid ((hbx.block _ (heap_lt Kw0_9.out)).trans Kw0_9.out)
  have HB_11 := Lib.hid (below_more HB_9.out hbx)
  clear Hr30_9 Hr31_9 Hx00_9 Hx01_9 KaD_9 Kw0_9 HB_9
  have Kx0_10 := Lib.hid KX
  clear hbx KX
  have caD_0 : w8.cell? ⟨w.heap.size, 0, none⟩ = some (.slice A ss.length ca) := cell_of_row _ _ 0 _ _ _ KaD_11.out
  have caD_1 : w8.cell? ⟨w.heap.size, 1, none⟩ = some (.slice B ps.length cb) := cell_of_row _ _ 1 _ _ _ KaD_11.out
  have cw0_0 : w8.cell? ⟨w5.heap.size, 0, none⟩ = some (.slice Ar30 V.length cr30) := cell_of_row _ _ 0 _ _ _ Kw0_11.out
  have cw0_1 : w8.cell? ⟨w5.heap.size, 1, none⟩ = some (.slice Ar31 U.length cr31) := cell_of_row _ _ 1 _ _ _ Kw0_11.out
  have cx0_0 : w8.cell? ⟨w7.heap.size, 0, none⟩ = some (.slice Ax00 ss.length cx00) := cell_of_row _ _ 0 _ _ _ Kx0_10.out
  have cx0_1 : w8.cell? ⟨w7.heap.size, 1, none⟩ = some (.slice Ax01 ps.length cx01) := cell_of_row _ _ 1 _ _ _ Kx0_10.out
  go_wp2_with fail
  clear caD_0 caD_1 cw0_0 cw0_1 cx0_0 cx0_1 hw10
  refine (toInts_any C ks cc _ (HRC.out.below HB_11.out) (by omega)).mono ?_
  rintro e w9 ⟨vx10, rfl, hox10, hbx1⟩
  obtain ⟨Ax10, cx10, hvx10, hcapx10, _⟩ := gFormC hox10
  subst hvx10
  have HAp_r30_x10 := Lib.hid (apart5 (fun k hk => (Hr30_11.out.lt k hk).2) (fun k hk => (hox10.lt k hk).1))
  have HAp_r31_x10 := Lib.hid (apart5 (fun k hk => (Hr31_11.out.lt k hk).2) (fun k hk => (hox10.lt k hk).1))
  have HAp_x00_x10 := Lib.hid (apart5 (fun k hk => (Hx00_11.out.lt k hk).2) (fun k hk => (hox10.lt k hk).1))
  have HAp_x01_x10 := Lib.hid (apart5 (fun k hk => (Hx01_11.out.lt k hk).2) (fun k hk => (hox10.lt k hk).1))
  have HNX_aD_x10 := Lib.hid (fun g hg => Nat.ne_of_gt (Nat.lt_of_lt_of_le (heap_lt KaD_11.out) (hox10.lt g hg).1))
  have HNX_w0_x10 := Lib.hid (fun g hg => Nat.ne_of_gt (Nat.lt_of_lt_of_le (heap_lt Kw0_11.out) (hox10.lt g hg).1))
  have HNX_x0_x10 := Lib.hid (fun g hg => Nat.ne_of_gt (Nat.lt_of_lt_of_le (heap_lt Kx0_10.out) (hox10.lt g hg).1))
  have Hr30_12 := Lib.hid (Hr30_11.out.below hbx1)
  have Hr31_12 := Lib.hid (Hr31_11.out.below hbx1)
  have Hx00_12 := Lib.hid (Hx00_11.out.below hbx1)
  have Hx01_12 := Lib.hid (Hx01_11.out.below hbx1)
  have Hx10_12 := Lib.hid (hox10.lower HB_11.out.size)
  have KaD_12 := Lib.hid ((hbx1.block _ (heap_lt KaD_11.out)).trans KaD_11.out)
  have Kw0_12 := Lib.hid ((hbx1.block _ (heap_lt Kw0_11.out)).trans Kw0_11.out)
  have Kx0_12 := Lib.hid ((hbx1.block _ (heap_lt Kx0_10.out)).trans Kx0_10.out)
  have HB_12 := Lib.hid (below_more HB_11.out hbx1)
  clear Hr30_11 Hr31_11 Hx00_11 Hx01_11 KaD_11 Kw0_11 Kx0_10 HB_11 hox10 hbx1
  have caD_0 : w9.cell? ⟨w.heap.size, 0, none⟩ = some (.slice A ss.length ca) := cell_of_row _ _ 0 _ _ _ KaD_12.out
  have caD_1 : w9.cell? ⟨w.heap.size, 1, none⟩ = some (.slice B ps.length cb) := cell_of_row _ _ 1 _ _ _ KaD_12.out
  have cw0_0 : w9.cell? ⟨w5.heap.size, 0, none⟩ = some (.slice Ar30 V.length cr30) := cell_of_row _ _ 0 _ _ _ Kw0_12.out
  have cw0_1 : w9.cell? ⟨w5.heap.size, 1, none⟩ = some (.slice Ar31 U.length cr31) := cell_of_row _ _ 1 _ _ _ Kw0_12.out
  have cx0_0 : w9.cell? ⟨w7.heap.size, 0, none⟩ = some (.slice Ax00 ss.length cx00) := cell_of_row _ _ 0 _ _ _ Kx0_12.out
  have cx0_1 : w9.cell? ⟨w7.heap.size, 1, none⟩ = some (.slice Ax01 ps.length cx01) := cell_of_row _ _ 1 _ _ _ Kx0_12.out
  go_wp2_with fail
  clear caD_0 caD_1 cw0_0 cw0_1 cx0_0 cx0_1
  refine (HI.out Ax00 Ax01 Ax10 cx00 cx01 cx10 _ (hK _ _ HW.out HB_12.out) ⟨(OwnR.rd fSt_len Hx00_12.out), (OwnR.rd fPu_len Hx01_12.out), by omega, by omega, HZs.out, HZp.out⟩ (ownR_lies Hx00_12.out) (ownR_lies Hx01_12.out) (own_ints5 Hx10_12.out) (own9_lies Hx10_12.out)).mono ?_
  rintro e w10 ⟨vr40, vr41, rfl, hpk, hbr4⟩
  obtain ⟨hor40, hor41, har4⟩ := hpk
  obtain ⟨Ar40, cr40, hvr40, hcapr40, _⟩ := OwnR.form fSt_len hor40
  subst hvr40
  obtain ⟨Ar41, cr41, hvr41, hcapr41, _⟩ := OwnR.form fPu_len hor41
  subst hvr41
  have HAp_r30_r40 := Lib.hid (apart5 (fun k hk => (Hr30_12.out.lt k hk).2) (fun k hk => (hor40.lt k hk).1))
  have HAp_r31_r40 := Lib.hid (apart5 (fun k hk => (Hr31_12.out.lt k hk).2) (fun k hk => (hor40.lt k hk).1))
  have HAp_x00_r40 := Lib.hid (apart5 (fun k hk => (Hx00_12.out.lt k hk).2) (fun k hk => (hor40.lt k hk).1))
  have HAp_x01_r40 := Lib.hid (apart5 (fun k hk => (Hx01_12.out.lt k hk).2) (fun k hk => (hor40.lt k hk).1))
  have HAp_x10_r40 := Lib.hid (apart5 (fun k hk => (Hx10_12.out.lt k hk).2) (fun k hk => (hor40.lt k hk).1))
  have HAp_r30_r41 := Lib.hid (apart5 (fun k hk => (Hr30_12.out.lt k hk).2) (fun k hk => (hor41.lt k hk).1))
  have HAp_r31_r41 := Lib.hid (apart5 (fun k hk => (Hr31_12.out.lt k hk).2) (fun k hk => (hor41.lt k hk).1))
  have HAp_x00_r41 := Lib.hid (apart5 (fun k hk => (Hx00_12.out.lt k hk).2) (fun k hk => (hor41.lt k hk).1))
  have HAp_x01_r41 := Lib.hid (apart5 (fun k hk => (Hx01_12.out.lt k hk).2) (fun k hk => (hor41.lt k hk).1))
  have HAp_x10_r41 := Lib.hid (apart5 (fun k hk => (Hx10_12.out.lt k hk).2) (fun k hk => (hor41.lt k hk).1))
  have HNX_aD_r40 := Lib.hid (fun g hg => Nat.ne_of_gt (Nat.lt_of_lt_of_le (heap_lt KaD_12.out) (hor40.lt g hg).1))
  have HNX_w0_r40 := Lib.hid (fun g hg => Nat.ne_of_gt (Nat.lt_of_lt_of_le (heap_lt Kw0_12.out) (hor40.lt g hg).1))
  have HNX_x0_r40 := Lib.hid (fun g hg => Nat.ne_of_gt (Nat.lt_of_lt_of_le (heap_lt Kx0_12.out) (hor40.lt g hg).1))
  have HNX_aD_r41 := Lib.hid (fun g hg => Nat.ne_of_gt (Nat.lt_of_lt_of_le (heap_lt KaD_12.out) (hor41.lt g hg).1))
  have HNX_w0_r41 := Lib.hid (fun g hg => Nat.ne_of_gt (Nat.lt_of_lt_of_le (heap_lt Kw0_12.out) (hor41.lt g hg).1))
  have HNX_x0_r41 := Lib.hid (fun g hg => Nat.ne_of_gt (Nat.lt_of_lt_of_le (heap_lt Kx0_12.out) (hor41.lt g hg).1))
  have HAp_r40_r41 := Lib.hid har4
  have Hr30_13 := Lib.hid (Hr30_12.out.below hbr4)
  have Hr31_13 := Lib.hid (Hr31_12.out.below hbr4)
  have Hx00_13 := Lib.hid (Hx00_12.out.below hbr4)
  have Hx01_13 := Lib.hid (Hx01_12.out.below hbr4)
  have Hx10_13 := Lib.hid (Hx10_12.out.below hbr4)
  have Hr40_13 := Lib.hid (hor40.lower HB_12.out.size)
  have Hr41_13 := Lib.hid (hor41.lower HB_12.out.size)
  have KaD_13 := Lib.hid ((hbr4.block _ (heap_lt KaD_12.out)).trans KaD_12.out)
  have Kw0_13 := Lib.hid ((hbr4.block _ (heap_lt Kw0_12.out)).trans Kw0_12.out)
  have Kx0_13 := Lib.hid ((hbr4.block _ (heap_lt Kx0_12.out)).trans Kx0_12.out)
  have HB_13 := Lib.hid (below_more HB_12.out hbr4)
  clear Hr30_12 Hr31_12 Hx00_12 Hx01_12 Hx10_12 KaD_12 Kw0_12 Kx0_12 HB_12 hor40 hor41 har4 hbr4
  obtain ⟨w11, hw14⟩ : ∃ wn, w10.alloc (.cells #[.slice Ar40 V.length cr40, .slice Ar41 U.length cr41] 26) = wn := ⟨_, rfl⟩
  have hbx : Below w10.heap.size w10 w11 := by rw [← hw14]; exact gAlloc _ _
  have KX : w11.heap[w10.heap.size]? = some (.cells #[.slice Ar40 V.length cr40, .slice Ar41 U.length cr41] 26 (0, 0)) := by rw [← hw14]; exact heap_alloc_new _ _
  have HNX_g0_r30 := Lib.hid (fun g hg => Nat.ne_of_lt (Hr30_13.out.lt g hg).2)
  have HNX_g0_r31 := Lib.hid (fun g hg => Nat.ne_of_lt (Hr31_13.out.lt g hg).2)
  have HNX_g0_x00 := Lib.hid (fun g hg => Nat.ne_of_lt (Hx00_13.out.lt g hg).2)
  have HNX_g0_x01 := Lib.hid (fun g hg => Nat.ne_of_lt (Hx01_13.out.lt g hg).2)
  have HNX_g0_x10 := Lib.hid (fun g hg => Nat.ne_of_lt (Hx10_13.out.lt g hg).2)
  have HNX_g0_r40 := Lib.hid (fun g hg => Nat.ne_of_lt (Hr40_13.out.lt g hg).2)
  have HNX_g0_r41 := Lib.hid (fun g hg => Nat.ne_of_lt (Hr41_13.out.lt g hg).2)
  have Hr30_15 := Lib.hid (Hr30_13.out.below hbx)
  have Hr31_15 := Lib.hid (Hr31_13.out.below hbx)
  have Hx00_15 := Lib.hid (Hx00_13.out.below hbx)
  have Hx01_15 := Lib.hid (Hx01_13.out.below hbx)
  have Hx10_15 := Lib.hid (Hx10_13.out.below hbx)
  have Hr40_15 := Lib.hid (Hr40_13.out.below hbx)
  have Hr41_15 := Lib.hid (Hr41_13.out.below hbx)
  have KaD_15 := Lib.hid ((hbx.block _ (heap_lt KaD_13.out)).trans KaD_13.out)
  have Kw0_15 := Lib.hid ((hbx.block _ (heap_lt Kw0_13.out)).trans Kw0_13.out)
  have Kx0_15 := Lib.hid ((hbx.block _ (heap_lt Kx0_13.out)).trans Kx0_13.out)
  have HB_15 := Lib.hid (below_more HB_13.out hbx)
  clear Hr30_13 Hr31_13 Hx00_13 Hx01_13 Hx10_13 Hr40_13 Hr41_13 KaD_13 Kw0_13 Kx0_13 HB_13
  have Kg0_14 := Lib.hid KX
  clear hbx KX
  have caD_0 : w11.cell? ⟨w.heap.size, 0, none⟩ = some (.slice A ss.length ca) := cell_of_row _ _ 0 _ _ _ KaD_15.out
  have caD_1 : w11.cell? ⟨w.heap.size, 1, none⟩ = some (.slice B ps.length cb) := cell_of_row _ _ 1 _ _ _ KaD_15.out
  have cw0_0 : w11.cell? ⟨w5.heap.size, 0, none⟩ = some (.slice Ar30 V.length cr30) := cell_of_row _ _ 0 _ _ _ Kw0_15.out
  have cw0_1 : w11.cell? ⟨w5.heap.size, 1, none⟩ = some (.slice Ar31 U.length cr31) := cell_of_row _ _ 1 _ _ _ Kw0_15.out
  have cx0_0 : w11.cell? ⟨w7.heap.size, 0, none⟩ = some (.slice Ax00 ss.length cx00) := cell_of_row _ _ 0 _ _ _ Kx0_15.out
  have cx0_1 : w11.cell? ⟨w7.heap.size, 1, none⟩ = some (.slice Ax01 ps.length cx01) := cell_of_row _ _ 1 _ _ _ Kx0_15.out
  have cg0_0 : w11.cell? ⟨w10.heap.size, 0, none⟩ = some (.slice Ar40 V.length cr40) := cell_of_row _ _ 0 _ _ _ Kg0_14.out
  have cg0_1 : w11.cell? ⟨w10.heap.size, 1, none⟩ = some (.slice Ar41 U.length cr41) := cell_of_row _ _ 1 _ _ _ Kg0_14.out
  go_wp2_with fail
  clear caD_0 caD_1 cw0_0 cw0_1 cx0_0 cx0_1 cg0_0 cg0_1 hw14
  refine (eqDisk_self Ar40 Ar41 Ar30 Ar31 V U cr40 cr41 cr30 cr31 _ (OwnR.rd fSt_len Hr40_15.out) (OwnR.rd fPu_len Hr41_15.out) (OwnR.rd fSt_len Hr30_15.out) (OwnR.rd fPu_len Hr31_15.out) (by omega) (by omega)).mono ?_
  rintro e w12 ⟨rfl, hbq⟩
  have Hr30_16 := Lib.hid (Hr30_15.out.below hbq)
  have Hr31_16 := Lib.hid (Hr31_15.out.below hbq)
  have Hx00_16 := Lib.hid (Hx00_15.out.below hbq)
  have Hx01_16 := Lib.hid (Hx01_15.out.below hbq)
  have Hx10_16 := Lib.hid (Hx10_15.out.below hbq)
  have Hr40_16 := Lib.hid (Hr40_15.out.below hbq)
  have Hr41_16 := Lib.hid (Hr41_15.out.below hbq)
  have KaD_16 := Lib.hid ((hbq.block _ (heap_lt KaD_15.out)).trans KaD_15.out)
  have Kw0_16 := Lib.hid ((hbq.block _ (heap_lt Kw0_15.out)).trans Kw0_15.out)
  have Kx0_16 := Lib.hid ((hbq.block _ (heap_lt Kx0_15.out)).trans Kx0_15.out)
  have Kg0_16 := Lib.hid ((hbq.block _ (heap_lt Kg0_14.out)).trans Kg0_14.out)
  have HB_16 := Lib.hid (below_more HB_15.out hbq)
  clear Hr30_15 Hr31_15 Hx00_15 Hx01_15 Hx10_15 Hr40_15 Hr41_15 KaD_15 Kw0_15 Kx0_15 Kg0_14 HB_15
  clear hbq
  have caD_0 : w12.cell? ⟨w.heap.size, 0, none⟩ = some (.slice A ss.length ca) := cell_of_row _ _ 0 _ _ _ KaD_16.out
  have caD_1 : w12.cell? ⟨w.heap.size, 1, none⟩ = some (.slice B ps.length cb) := cell_of_row _ _ 1 _ _ _ KaD_16.out
  have cw0_0 : w12.cell? ⟨w5.heap.size, 0, none⟩ = some (.slice Ar30 V.length cr30) := cell_of_row _ _ 0 _ _ _ Kw0_16.out
  have cw0_1 : w12.cell? ⟨w5.heap.size, 1, none⟩ = some (.slice Ar31 U.length cr31) := cell_of_row _ _ 1 _ _ _ Kw0_16.out
  have cx0_0 : w12.cell? ⟨w7.heap.size, 0, none⟩ = some (.slice Ax00 ss.length cx00) := cell_of_row _ _ 0 _ _ _ Kx0_16.out
  have cx0_1 : w12.cell? ⟨w7.heap.size, 1, none⟩ = some (.slice Ax01 ps.length cx01) := cell_of_row _ _ 1 _ _ _ Kx0_16.out
  have cg0_0 : w12.cell? ⟨w10.heap.size, 0, none⟩ = some (.slice Ar40 V.length cr40) := cell_of_row _ _ 0 _ _ _ Kg0_16.out
  have cg0_1 : w12.cell? ⟨w10.heap.size, 1, none⟩ = some (.slice Ar41 U.length cr41) := cell_of_row _ _ 1 _ _ _ Kg0_16.out
  go_wp2_with fail
  go_region_held3 (fun w' => w'.cell? ⟨w7.heap.size, 0, none⟩ = some (.slice Ax00 ss.length cx00) ∧ w'.cell? ⟨w7.heap.size, 1, none⟩ = some (.slice Ax01 ps.length cx01) ∧ w'.cell? ⟨w.heap.size, 0, none⟩ = some (.slice A ss.length ca) ∧ w'.cell? ⟨w.heap.size, 1, none⟩ = some (.slice B ps.length cb)) (first | exact ⟨cx0_0, cx0_1, caD_0, caD_1⟩ | exact ⟨rr0, rr1, rr2, rr3⟩ | exact ⟨srr0, srr1, srr2, srr3⟩ | go_keep) (first
    | (go_at_call 36; refine (toDisk_any A B ss ps ca cb _ ((HRA.out.below HB_16.out).below gDrew) ((HRB.out.below HB_16.out).below gDrew) (by omega) (by omega)).mono ?_; rintro e we ⟨ve0, ve1, rfl, hoe0, hoe1, hae, hbe⟩; have rr0 := (hbe.cell (World.block_lt_of_cell? _ _ cx0_0)).trans cx0_0; have rr1 := (hbe.cell (World.block_lt_of_cell? _ _ cx0_1)).trans cx0_1; have rr2 := (hbe.cell (World.block_lt_of_cell? _ _ caD_0)).trans caD_0; have rr3 := (hbe.cell (World.block_lt_of_cell? _ _ caD_1)).trans caD_1; obtain ⟨Ae0, ce0, rfl, hcape0, _⟩ := OwnR.form fSt_len hoe0; obtain ⟨Ae1, ce1, rfl, hcape1, _⟩ := OwnR.form fPu_len hoe1)
    | (go_at_call 32; refine (eqDisk_self Ax00 Ax01 Ae0 Ae1 ss ps cx00 cx01 ce0 ce1 _ (OwnR.rd fSt_len (Lib.hid ((Hx00_16.out.below gDrew).below hbe)).out) (OwnR.rd fPu_len (Lib.hid ((Hx01_16.out.below gDrew).below hbe)).out) (OwnR.rd fSt_len (Lib.hid hoe0).out) (OwnR.rd fPu_len (Lib.hid hoe1).out) (by omega) (by omega)).mono ?_; rintro e w13 ⟨rfl, hbf⟩; have srr0 := (hbf.cell (World.block_lt_of_cell? _ _ rr0)).trans rr0; have srr1 := (hbf.cell (World.block_lt_of_cell? _ _ rr1)).trans rr1; have srr2 := (hbf.cell (World.block_lt_of_cell? _ _ rr2)).trans rr2; have srr3 := (hbf.cell (World.block_lt_of_cell? _ _ rr3)).trans rr3))
  have hbq := below_more gDrew (below_more hbe hbf)
  clear srr0 srr1 srr2 srr3 rr0 rr1 rr2 rr3 caD_0 caD_1 cw0_0 cw0_1 cx0_0 cx0_1 cg0_0 cg0_1 hoe0 hoe1 hae
  have Hr30_17 := Lib.hid (Hr30_16.out.below hbq)
  have Hr31_17 := Lib.hid (Hr31_16.out.below hbq)
  have Hx00_17 := Lib.hid (Hx00_16.out.below hbq)
  have Hx01_17 := Lib.hid (Hx01_16.out.below hbq)
  have Hx10_17 := Lib.hid (Hx10_16.out.below hbq)
  have Hr40_17 := Lib.hid (Hr40_16.out.below hbq)
  have Hr41_17 := Lib.hid (Hr41_16.out.below hbq)
  have KaD_17 := Lib.hid ((hbq.block _ (heap_lt KaD_16.out)).trans KaD_16.out)
  have Kw0_17 := Lib.hid ((hbq.block _ (heap_lt Kw0_16.out)).trans Kw0_16.out)
  have Kx0_17 := Lib.hid ((hbq.block _ (heap_lt Kx0_16.out)).trans Kx0_16.out)
  have Kg0_17 := Lib.hid ((hbq.block _ (heap_lt Kg0_16.out)).trans Kg0_16.out)
  have HB_17 := Lib.hid (below_more HB_16.out hbq)
  clear Hr30_16 Hr31_16 Hx00_16 Hx01_16 Hx10_16 Hr40_16 Hr41_16 KaD_16 Kw0_16 Kx0_16 Kg0_16 HB_16
  clear hbq hbe hbf
  have caD_0 : w13.cell? ⟨w.heap.size, 0, none⟩ = some (.slice A ss.length ca) := cell_of_row _ _ 0 _ _ _ KaD_17.out
  have caD_1 : w13.cell? ⟨w.heap.size, 1, none⟩ = some (.slice B ps.length cb) := cell_of_row _ _ 1 _ _ _ KaD_17.out
  have cw0_0 : w13.cell? ⟨w5.heap.size, 0, none⟩ = some (.slice Ar30 V.length cr30) := cell_of_row _ _ 0 _ _ _ Kw0_17.out
  have cw0_1 : w13.cell? ⟨w5.heap.size, 1, none⟩ = some (.slice Ar31 U.length cr31) := cell_of_row _ _ 1 _ _ _ Kw0_17.out
  have cx0_0 : w13.cell? ⟨w7.heap.size, 0, none⟩ = some (.slice Ax00 ss.length cx00) := cell_of_row _ _ 0 _ _ _ Kx0_17.out
  have cx0_1 : w13.cell? ⟨w7.heap.size, 1, none⟩ = some (.slice Ax01 ps.length cx01) := cell_of_row _ _ 1 _ _ _ Kx0_17.out
  have cg0_0 : w13.cell? ⟨w10.heap.size, 0, none⟩ = some (.slice Ar40 V.length cr40) := cell_of_row _ _ 0 _ _ _ Kg0_17.out
  have cg0_1 : w13.cell? ⟨w10.heap.size, 1, none⟩ = some (.slice Ar41 U.length cr41) := cell_of_row _ _ 1 _ _ _ Kg0_17.out
  go_wp2_with fail
  clear caD_0 caD_1 cw0_0 cw0_1 cx0_0 cx0_1 cg0_0 cg0_1
  refine (toInts_any C ks cc _ (HRC.out.below HB_17.out) (by omega)).mono ?_
  rintro e w14 ⟨ve50, rfl, hoe50, hbe5⟩
  obtain ⟨Ae50, ce50, hve50, hcape50, _⟩ := gFormC hoe50
  subst hve50
  have HAp_r30_e50 := Lib.hid (apart5 (fun k hk => (Hr30_17.out.lt k hk).2) (fun k hk => (hoe50.lt k hk).1))
  have HAp_r31_e50 := Lib.hid (apart5 (fun k hk => (Hr31_17.out.lt k hk).2) (fun k hk => (hoe50.lt k hk).1))
  have HAp_x00_e50 := Lib.hid (apart5 (fun k hk => (Hx00_17.out.lt k hk).2) (fun k hk => (hoe50.lt k hk).1))
  have HAp_x01_e50 := Lib.hid (apart5 (fun k hk => (Hx01_17.out.lt k hk).2) (fun k hk => (hoe50.lt k hk).1))
  have HAp_x10_e50 := Lib.hid (apart5 (fun k hk => (Hx10_17.out.lt k hk).2) (fun k hk => (hoe50.lt k hk).1))
  have HAp_r40_e50 := Lib.hid (apart5 (fun k hk => (Hr40_17.out.lt k hk).2) (fun k hk => (hoe50.lt k hk).1))
  have HAp_r41_e50 := Lib.hid (apart5 (fun k hk => (Hr41_17.out.lt k hk).2) (fun k hk => (hoe50.lt k hk).1))
  have HNX_aD_e50 := Lib.hid (fun g hg => Nat.ne_of_gt (Nat.lt_of_lt_of_le (heap_lt KaD_17.out) (hoe50.lt g hg).1))
  have HNX_w0_e50 := Lib.hid (fun g hg => Nat.ne_of_gt (Nat.lt_of_lt_of_le (heap_lt Kw0_17.out) (hoe50.lt g hg).1))
  have HNX_x0_e50 := Lib.hid (fun g hg => Nat.ne_of_gt (Nat.lt_of_lt_of_le (heap_lt Kx0_17.out) (hoe50.lt g hg).1))
  have HNX_g0_e50 := Lib.hid (fun g hg => Nat.ne_of_gt (Nat.lt_of_lt_of_le (heap_lt Kg0_17.out) (hoe50.lt g hg).1))
  have Hr30_18 := Lib.hid (Hr30_17.out.below hbe5)
  have Hr31_18 := Lib.hid (Hr31_17.out.below hbe5)
  have Hx00_18 := Lib.hid (Hx00_17.out.below hbe5)
  have Hx01_18 := Lib.hid (Hx01_17.out.below hbe5)
  have Hx10_18 := Lib.hid (Hx10_17.out.below hbe5)
  have Hr40_18 := Lib.hid (Hr40_17.out.below hbe5)
  have Hr41_18 := Lib.hid (Hr41_17.out.below hbe5)
  have He50_18 := Lib.hid (hoe50.lower HB_17.out.size)
  have KaD_18 := Lib.hid ((hbe5.block _ (heap_lt KaD_17.out)).trans KaD_17.out)
  have Kw0_18 := Lib.hid ((hbe5.block _ (heap_lt Kw0_17.out)).trans Kw0_17.out)
  have Kx0_18 := Lib.hid ((hbe5.block _ (heap_lt Kx0_17.out)).trans Kx0_17.out)
  have Kg0_18 := Lib.hid ((hbe5.block _ (heap_lt Kg0_17.out)).trans Kg0_17.out)
  have HB_18 := Lib.hid (below_more HB_17.out hbe5)
  clear Hr30_17 Hr31_17 Hx00_17 Hx01_17 Hx10_17 Hr40_17 Hr41_17 KaD_17 Kw0_17 Kx0_17 Kg0_17 HB_17 hoe50 hbe5
  have caD_0 : w14.cell? ⟨w.heap.size, 0, none⟩ = some (.slice A ss.length ca) := cell_of_row _ _ 0 _ _ _ KaD_18.out
  have caD_1 : w14.cell? ⟨w.heap.size, 1, none⟩ = some (.slice B ps.length cb) := cell_of_row _ _ 1 _ _ _ KaD_18.out
  have cw0_0 : w14.cell? ⟨w5.heap.size, 0, none⟩ = some (.slice Ar30 V.length cr30) := cell_of_row _ _ 0 _ _ _ Kw0_18.out
  have cw0_1 : w14.cell? ⟨w5.heap.size, 1, none⟩ = some (.slice Ar31 U.length cr31) := cell_of_row _ _ 1 _ _ _ Kw0_18.out
  have cx0_0 : w14.cell? ⟨w7.heap.size, 0, none⟩ = some (.slice Ax00 ss.length cx00) := cell_of_row _ _ 0 _ _ _ Kx0_18.out
  have cx0_1 : w14.cell? ⟨w7.heap.size, 1, none⟩ = some (.slice Ax01 ps.length cx01) := cell_of_row _ _ 1 _ _ _ Kx0_18.out
  have cg0_0 : w14.cell? ⟨w10.heap.size, 0, none⟩ = some (.slice Ar40 V.length cr40) := cell_of_row _ _ 0 _ _ _ Kg0_18.out
  have cg0_1 : w14.cell? ⟨w10.heap.size, 1, none⟩ = some (.slice Ar41 U.length cr41) := cell_of_row _ _ 1 _ _ _ Kg0_18.out
  go_wp2_with fail
  clear caD_0 caD_1 cw0_0 cw0_1 cx0_0 cx0_1 cg0_0 cg0_1
  refine (eqInts_any Ax10 Ae50 ks ks cx10 ce50 _ (own_ints5 Hx10_18.out) (own_ints5 He50_18.out) (by omega)).mono ?_
  rintro e wq ⟨rfl, n19, rfl⟩
  have hdr : Below w14.heap.size w14 (w14.drewN n19) := gDrewN n19
  have Hr30_20 := Lib.hid (Hr30_18.out.below hdr)
  have Hr31_20 := Lib.hid (Hr31_18.out.below hdr)
  have Hx00_20 := Lib.hid (Hx00_18.out.below hdr)
  have Hx01_20 := Lib.hid (Hx01_18.out.below hdr)
  have Hx10_20 := Lib.hid (Hx10_18.out.below hdr)
  have Hr40_20 := Lib.hid (Hr40_18.out.below hdr)
  have Hr41_20 := Lib.hid (Hr41_18.out.below hdr)
  have He50_20 := Lib.hid (He50_18.out.below hdr)
  have KaD_20 := Lib.hid ((hdr.block _ (heap_lt KaD_18.out)).trans KaD_18.out)
  have Kw0_20 := Lib.hid ((hdr.block _ (heap_lt Kw0_18.out)).trans Kw0_18.out)
  have Kx0_20 := Lib.hid ((hdr.block _ (heap_lt Kx0_18.out)).trans Kx0_18.out)
  have Kg0_20 := Lib.hid ((hdr.block _ (heap_lt Kg0_18.out)).trans Kg0_18.out)
  have HB_20 := Lib.hid (below_more HB_18.out hdr)
  clear Hr30_18 Hr31_18 Hx00_18 Hx01_18 Hx10_18 Hr40_18 Hr41_18 He50_18 KaD_18 Kw0_18 Kx0_18 Kg0_18 HB_18
  clear hdr
  generalize w14.drewN n19 = w15 at *
  clear He50_20
  have caD_0 : w15.cell? ⟨w.heap.size, 0, none⟩ = some (.slice A ss.length ca) := cell_of_row _ _ 0 _ _ _ KaD_20.out
  have caD_1 : w15.cell? ⟨w.heap.size, 1, none⟩ = some (.slice B ps.length cb) := cell_of_row _ _ 1 _ _ _ KaD_20.out
  have cw0_0 : w15.cell? ⟨w5.heap.size, 0, none⟩ = some (.slice Ar30 V.length cr30) := cell_of_row _ _ 0 _ _ _ Kw0_20.out
  have cw0_1 : w15.cell? ⟨w5.heap.size, 1, none⟩ = some (.slice Ar31 U.length cr31) := cell_of_row _ _ 1 _ _ _ Kw0_20.out
  have cx0_0 : w15.cell? ⟨w7.heap.size, 0, none⟩ = some (.slice Ax00 ss.length cx00) := cell_of_row _ _ 0 _ _ _ Kx0_20.out
  have cx0_1 : w15.cell? ⟨w7.heap.size, 1, none⟩ = some (.slice Ax01 ps.length cx01) := cell_of_row _ _ 1 _ _ _ Kx0_20.out
  have cg0_0 : w15.cell? ⟨w10.heap.size, 0, none⟩ = some (.slice Ar40 V.length cr40) := cell_of_row _ _ 0 _ _ _ Kg0_20.out
  have cg0_1 : w15.cell? ⟨w10.heap.size, 1, none⟩ = some (.slice Ar41 U.length cr41) := cell_of_row _ _ 1 _ _ _ Kg0_20.out
  go_wp2_with fail
  clear caD_0 caD_1 cw0_0 cw0_1 cx0_0 cx0_1 cg0_0 cg0_1
  refine (markDisk_any _ _ ss ps _ 1 _ Hx00_20.out Hx01_20.out HAp_x00_x01.out (by omega) (by omega) (by omega) (by omega)).mono ?_
  rintro e w16 ⟨rfl, hm0, hm1, wm, hg0, hg1⟩
  have Hr30_21 := Lib.hid ((Hr30_20.out.kept hg0 HAp_r30_x00.out).kept hg1 HAp_r30_x01.out)
  have Hr31_21 := Lib.hid ((Hr31_20.out.kept hg0 HAp_r31_x00.out).kept hg1 HAp_r31_x01.out)
  have Hx10_21 := Lib.hid ((Hx10_20.out.kept hg0 (gApart HAp_x00_x10.out)).kept hg1 (gApart HAp_x01_x10.out))
  have Hr40_21 := Lib.hid ((Hr40_20.out.kept hg0 (gApart HAp_x00_r40.out)).kept hg1 (gApart HAp_x01_r40.out))
  have Hr41_21 := Lib.hid ((Hr41_20.out.kept hg0 (gApart HAp_x00_r41.out)).kept hg1 (gApart HAp_x01_r41.out))
  have KaD_21 := Lib.hid ((hg1.block _ (Nat.lt_of_lt_of_le (heap_lt KaD_20.out) hg0.size) (fun e => HNX_aD_x01.out _ e.symm rfl)).trans ((hg0.block _ (heap_lt KaD_20.out) (fun e => HNX_aD_x00.out _ e.symm rfl)).trans KaD_20.out))
  have Kw0_21 := Lib.hid ((hg1.block _ (Nat.lt_of_lt_of_le (heap_lt Kw0_20.out) hg0.size) (fun e => HNX_w0_x01.out _ e.symm rfl)).trans ((hg0.block _ (heap_lt Kw0_20.out) (fun e => HNX_w0_x00.out _ e.symm rfl)).trans Kw0_20.out))
  have Kx0_21 := Lib.hid ((hg1.block _ (Nat.lt_of_lt_of_le (heap_lt Kx0_20.out) hg0.size) (fun e => HNX_x0_x01.out _ e.symm rfl)).trans ((hg0.block _ (heap_lt Kx0_20.out) (fun e => HNX_x0_x00.out _ e.symm rfl)).trans Kx0_20.out))
  have Kg0_21 := Lib.hid ((hg1.block _ (Nat.lt_of_lt_of_le (heap_lt Kg0_20.out) hg0.size) (fun e => HNX_g0_x01.out _ e.symm rfl)).trans ((hg0.block _ (heap_lt Kg0_20.out) (fun e => HNX_g0_x00.out _ e.symm rfl)).trans Kg0_20.out))
  have HMb0 := Lib.hid (fun k hk => (Hx00_20.out.lt k hk).1)
  have HMb1 := Lib.hid (fun k hk => (Hx01_20.out.lt k hk).1)
  have HB_21 : Hid (Below w.heap.size w w16) := ((HB_20.out.grown hg0 HB_20.out.size HMb0.out).grown hg1 (HB_20.out.grown hg0 HB_20.out.size HMb0.out).size HMb1.out)
  have Hx00_21 := Lib.hid hm0
  have Hx01_21 := Lib.hid hm1
  clear Hr30_20 Hr31_20 Hx10_20 Hr40_20 Hr41_20 KaD_20 Kw0_20 Kx0_20 Kg0_20 HB_20 Hx00_20 Hx01_20 hm0 hm1 hg0 hg1 HMb0 HMb1
  clear Hx00_21 Hx01_21
  clear Kx0_21
  have caD_0 : w16.cell? ⟨w.heap.size, 0, none⟩ = some (.slice A ss.length ca) := cell_of_row _ _ 0 _ _ _ KaD_21.out
  have caD_1 : w16.cell? ⟨w.heap.size, 1, none⟩ = some (.slice B ps.length cb) := cell_of_row _ _ 1 _ _ _ KaD_21.out
  have cw0_0 : w16.cell? ⟨w5.heap.size, 0, none⟩ = some (.slice Ar30 V.length cr30) := cell_of_row _ _ 0 _ _ _ Kw0_21.out
  have cw0_1 : w16.cell? ⟨w5.heap.size, 1, none⟩ = some (.slice Ar31 U.length cr31) := cell_of_row _ _ 1 _ _ _ Kw0_21.out
  have cg0_0 : w16.cell? ⟨w10.heap.size, 0, none⟩ = some (.slice Ar40 V.length cr40) := cell_of_row _ _ 0 _ _ _ Kg0_21.out
  have cg0_1 : w16.cell? ⟨w10.heap.size, 1, none⟩ = some (.slice Ar41 U.length cr41) := cell_of_row _ _ 1 _ _ _ Kg0_21.out
  go_wp2_with fail
  clear caD_0 caD_1 cw0_0 cw0_1 cg0_0 cg0_1
  refine (markInts_any _ ks _ ((1 + ss.length + 2 * ps.length : Nat) : Int) _ Hx10_21.out (by omega) (by omega) (by omega)).mono ?_
  rintro e w17 ⟨rfl, hm0, hg0⟩
  have Hr30_22 := Lib.hid (Hr30_21.out.kept hg0 HAp_r30_x10.out)
  have Hr31_22 := Lib.hid (Hr31_21.out.kept hg0 HAp_r31_x10.out)
  have Hr40_22 := Lib.hid (Hr40_21.out.kept hg0 (gApart HAp_x10_r40.out))
  have Hr41_22 := Lib.hid (Hr41_21.out.kept hg0 (gApart HAp_x10_r41.out))
  have KaD_22 := Lib.hid ((hg0.block _ (heap_lt KaD_21.out) (fun e => HNX_aD_x10.out _ e.symm rfl)).trans KaD_21.out)
  have Kw0_22 := Lib.hid ((hg0.block _ (heap_lt Kw0_21.out) (fun e => HNX_w0_x10.out _ e.symm rfl)).trans Kw0_21.out)
  have Kg0_22 := Lib.hid ((hg0.block _ (heap_lt Kg0_21.out) (fun e => HNX_g0_x10.out _ e.symm rfl)).trans Kg0_21.out)
  have HMb0 := Lib.hid (fun k hk => (Hx10_21.out.lt k hk).1)
  have HB_22 : Hid (Below w.heap.size w w17) := (HB_21.out.grown hg0 HB_21.out.size HMb0.out)
  have Hx10_22 := Lib.hid hm0
  clear Hr30_21 Hr31_21 Hr40_21 Hr41_21 KaD_21 Kw0_21 Kg0_21 HB_21 Hx10_21 hm0 hg0 HMb0
  clear Hx10_22
  have caD_0 : w17.cell? ⟨w.heap.size, 0, none⟩ = some (.slice A ss.length ca) := cell_of_row _ _ 0 _ _ _ KaD_22.out
  have caD_1 : w17.cell? ⟨w.heap.size, 1, none⟩ = some (.slice B ps.length cb) := cell_of_row _ _ 1 _ _ _ KaD_22.out
  have cw0_0 : w17.cell? ⟨w5.heap.size, 0, none⟩ = some (.slice Ar30 V.length cr30) := cell_of_row _ _ 0 _ _ _ Kw0_22.out
  have cw0_1 : w17.cell? ⟨w5.heap.size, 1, none⟩ = some (.slice Ar31 U.length cr31) := cell_of_row _ _ 1 _ _ _ Kw0_22.out
  have cg0_0 : w17.cell? ⟨w10.heap.size, 0, none⟩ = some (.slice Ar40 V.length cr40) := cell_of_row _ _ 0 _ _ _ Kg0_22.out
  have cg0_1 : w17.cell? ⟨w10.heap.size, 1, none⟩ = some (.slice Ar41 U.length cr41) := cell_of_row _ _ 1 _ _ _ Kg0_22.out
  go_wp2_with fail
  clear caD_0 caD_1 cw0_0 cw0_1 cg0_0 cg0_1
  refine (eqDisk_self Ar40 Ar41 Ar30 Ar31 V U cr40 cr41 cr30 cr31 _ (OwnR.rd fSt_len Hr40_22.out) (OwnR.rd fPu_len Hr41_22.out) (OwnR.rd fSt_len Hr30_22.out) (OwnR.rd fPu_len Hr31_22.out) (by omega) (by omega)).mono ?_
  rintro e w18 ⟨rfl, hbq⟩
  have Hr30_23 := Lib.hid (Hr30_22.out.below hbq)
  have Hr31_23 := Lib.hid (Hr31_22.out.below hbq)
  have Hr40_23 := Lib.hid (Hr40_22.out.below hbq)
  have Hr41_23 := Lib.hid (Hr41_22.out.below hbq)
  have KaD_23 := Lib.hid ((hbq.block _ (heap_lt KaD_22.out)).trans KaD_22.out)
  have Kw0_23 := Lib.hid ((hbq.block _ (heap_lt Kw0_22.out)).trans Kw0_22.out)
  have Kg0_23 := Lib.hid ((hbq.block _ (heap_lt Kg0_22.out)).trans Kg0_22.out)
  have HB_23 := Lib.hid (below_more HB_22.out hbq)
  clear Hr30_22 Hr31_22 Hr40_22 Hr41_22 KaD_22 Kw0_22 Kg0_22 HB_22
  clear hbq
  have caD_0 : w18.cell? ⟨w.heap.size, 0, none⟩ = some (.slice A ss.length ca) := cell_of_row _ _ 0 _ _ _ KaD_23.out
  have caD_1 : w18.cell? ⟨w.heap.size, 1, none⟩ = some (.slice B ps.length cb) := cell_of_row _ _ 1 _ _ _ KaD_23.out
  have cw0_0 : w18.cell? ⟨w5.heap.size, 0, none⟩ = some (.slice Ar30 V.length cr30) := cell_of_row _ _ 0 _ _ _ Kw0_23.out
  have cw0_1 : w18.cell? ⟨w5.heap.size, 1, none⟩ = some (.slice Ar31 U.length cr31) := cell_of_row _ _ 1 _ _ _ Kw0_23.out
  have cg0_0 : w18.cell? ⟨w10.heap.size, 0, none⟩ = some (.slice Ar40 V.length cr40) := cell_of_row _ _ 0 _ _ _ Kg0_23.out
  have cg0_1 : w18.cell? ⟨w10.heap.size, 1, none⟩ = some (.slice Ar41 U.length cr41) := cell_of_row _ _ 1 _ _ _ Kg0_23.out
  go_wp2_with fail
  clear caD_0 caD_1 cw0_0 cw0_1 cg0_0 cg0_1
  refine (markDisk_any _ _ V U _ 1 _ Hr40_23.out Hr41_23.out HAp_r40_r41.out (by omega) (by omega) (by omega) (by omega)).mono ?_
  rintro e w19 ⟨rfl, hm0, hm1, wm, hg0, hg1⟩
  have Hr30_24 := Lib.hid ((Hr30_23.out.kept hg0 HAp_r30_r40.out).kept hg1 HAp_r30_r41.out)
  have Hr31_24 := Lib.hid ((Hr31_23.out.kept hg0 HAp_r31_r40.out).kept hg1 HAp_r31_r41.out)
  have KaD_24 := Lib.hid ((hg1.block _ (Nat.lt_of_lt_of_le (heap_lt KaD_23.out) hg0.size) (fun e => HNX_aD_r41.out _ e.symm rfl)).trans ((hg0.block _ (heap_lt KaD_23.out) (fun e => HNX_aD_r40.out _ e.symm rfl)).trans KaD_23.out))
  have Kw0_24 := Lib.hid ((hg1.block _ (Nat.lt_of_lt_of_le (heap_lt Kw0_23.out) hg0.size) (fun e => HNX_w0_r41.out _ e.symm rfl)).trans ((hg0.block _ (heap_lt Kw0_23.out) (fun e => HNX_w0_r40.out _ e.symm rfl)).trans Kw0_23.out))
  have Kg0_24 := Lib.hid ((hg1.block _ (Nat.lt_of_lt_of_le (heap_lt Kg0_23.out) hg0.size) (fun e => HNX_g0_r41.out _ e.symm rfl)).trans ((hg0.block _ (heap_lt Kg0_23.out) (fun e => HNX_g0_r40.out _ e.symm rfl)).trans Kg0_23.out))
  have HMb0 := Lib.hid (fun k hk => (Hr40_23.out.lt k hk).1)
  have HMb1 := Lib.hid (fun k hk => (Hr41_23.out.lt k hk).1)
  have HB_24 : Hid (Below w.heap.size w w19) := ((HB_23.out.grown hg0 HB_23.out.size HMb0.out).grown hg1 (HB_23.out.grown hg0 HB_23.out.size HMb0.out).size HMb1.out)
  have Hr40_24 := Lib.hid hm0
  have Hr41_24 := Lib.hid hm1
  clear Hr30_23 Hr31_23 KaD_23 Kw0_23 Kg0_23 HB_23 Hr40_23 Hr41_23 hm0 hm1 hg0 hg1 HMb0 HMb1
  have caD_0 : w19.cell? ⟨w.heap.size, 0, none⟩ = some (.slice A ss.length ca) := cell_of_row _ _ 0 _ _ _ KaD_24.out
  have caD_1 : w19.cell? ⟨w.heap.size, 1, none⟩ = some (.slice B ps.length cb) := cell_of_row _ _ 1 _ _ _ KaD_24.out
  have cw0_0 : w19.cell? ⟨w5.heap.size, 0, none⟩ = some (.slice Ar30 V.length cr30) := cell_of_row _ _ 0 _ _ _ Kw0_24.out
  have cw0_1 : w19.cell? ⟨w5.heap.size, 1, none⟩ = some (.slice Ar31 U.length cr31) := cell_of_row _ _ 1 _ _ _ Kw0_24.out
  have cg0_0 : w19.cell? ⟨w10.heap.size, 0, none⟩ = some (.slice Ar40 V.length cr40) := cell_of_row _ _ 0 _ _ _ Kg0_24.out
  have cg0_1 : w19.cell? ⟨w10.heap.size, 1, none⟩ = some (.slice Ar41 U.length cr41) := cell_of_row _ _ 1 _ _ _ Kg0_24.out
  go_wp2_with fail
  clear caD_0 caD_1 cw0_0 cw0_1 cg0_0 cg0_1
  refine (heldDisk_any Ar40 Ar41 1 V.length U.length cr40 cr41 _ (OwnR.rd fSt_len Hr40_24.out) (OwnR.rd fPu_len Hr41_24.out) (by omega) (by omega) (by omega) (by omega)).mono ?_
  rintro e w20 ⟨rfl, hbq⟩
  have Hr30_25 := Lib.hid (Hr30_24.out.below hbq)
  have Hr31_25 := Lib.hid (Hr31_24.out.below hbq)
  have Hr40_25 := Lib.hid (Hr40_24.out.below hbq)
  have Hr41_25 := Lib.hid (Hr41_24.out.below hbq)
  have KaD_25 := Lib.hid ((hbq.block _ (heap_lt KaD_24.out)).trans KaD_24.out)
  have Kw0_25 := Lib.hid ((hbq.block _ (heap_lt Kw0_24.out)).trans Kw0_24.out)
  have Kg0_25 := Lib.hid ((hbq.block _ (heap_lt Kg0_24.out)).trans Kg0_24.out)
  have HB_25 := Lib.hid (below_more HB_24.out hbq)
  clear Hr30_24 Hr31_24 Hr40_24 Hr41_24 KaD_24 Kw0_24 Kg0_24 HB_24
  clear hbq
  have caD_0 : w20.cell? ⟨w.heap.size, 0, none⟩ = some (.slice A ss.length ca) := cell_of_row _ _ 0 _ _ _ KaD_25.out
  have caD_1 : w20.cell? ⟨w.heap.size, 1, none⟩ = some (.slice B ps.length cb) := cell_of_row _ _ 1 _ _ _ KaD_25.out
  have cw0_0 : w20.cell? ⟨w5.heap.size, 0, none⟩ = some (.slice Ar30 V.length cr30) := cell_of_row _ _ 0 _ _ _ Kw0_25.out
  have cw0_1 : w20.cell? ⟨w5.heap.size, 1, none⟩ = some (.slice Ar31 U.length cr31) := cell_of_row _ _ 1 _ _ _ Kw0_25.out
  have cg0_0 : w20.cell? ⟨w10.heap.size, 0, none⟩ = some (.slice Ar40 V.length cr40) := cell_of_row _ _ 0 _ _ _ Kg0_25.out
  have cg0_1 : w20.cell? ⟨w10.heap.size, 1, none⟩ = some (.slice Ar41 U.length cr41) := cell_of_row _ _ 1 _ _ _ Kg0_25.out
  go_wp2_with fail
  clear caD_0 caD_1 cw0_0 cw0_1 cg0_0 cg0_1
  refine (toDisk_any A B ss ps ca cb _ (HRA.out.below HB_25.out) (HRB.out.below HB_25.out) (by omega) (by omega)).mono ?_
  rintro e w21 ⟨vt60, vt61, rfl, hot60, hot61, hat6, hbt6⟩
  obtain ⟨At60, ct60, hvt60, hcapt60, _⟩ := OwnR.form fSt_len hot60
  subst hvt60
  obtain ⟨At61, ct61, hvt61, hcapt61, _⟩ := OwnR.form fPu_len hot61
  subst hvt61
  have HAp_r30_t60 := Lib.hid (apart5 (fun k hk => (Hr30_25.out.lt k hk).2) (fun k hk => (hot60.lt k hk).1))
  have HAp_r31_t60 := Lib.hid (apart5 (fun k hk => (Hr31_25.out.lt k hk).2) (fun k hk => (hot60.lt k hk).1))
  have HAp_r40_t60 := Lib.hid (apart5 (fun k hk => (Hr40_25.out.lt k hk).2) (fun k hk => (hot60.lt k hk).1))
  have HAp_r41_t60 := Lib.hid (apart5 (fun k hk => (Hr41_25.out.lt k hk).2) (fun k hk => (hot60.lt k hk).1))
  have HAp_r30_t61 := Lib.hid (apart5 (fun k hk => (Hr30_25.out.lt k hk).2) (fun k hk => (hot61.lt k hk).1))
  have HAp_r31_t61 := Lib.hid (apart5 (fun k hk => (Hr31_25.out.lt k hk).2) (fun k hk => (hot61.lt k hk).1))
  have HAp_r40_t61 := Lib.hid (apart5 (fun k hk => (Hr40_25.out.lt k hk).2) (fun k hk => (hot61.lt k hk).1))
  have HAp_r41_t61 := Lib.hid (apart5 (fun k hk => (Hr41_25.out.lt k hk).2) (fun k hk => (hot61.lt k hk).1))
  have HNX_aD_t60 := Lib.hid (fun g hg => Nat.ne_of_gt (Nat.lt_of_lt_of_le (heap_lt KaD_25.out) (hot60.lt g hg).1))
  have HNX_w0_t60 := Lib.hid (fun g hg => Nat.ne_of_gt (Nat.lt_of_lt_of_le (heap_lt Kw0_25.out) (hot60.lt g hg).1))
  have HNX_g0_t60 := Lib.hid (fun g hg => Nat.ne_of_gt (Nat.lt_of_lt_of_le (heap_lt Kg0_25.out) (hot60.lt g hg).1))
  have HNX_aD_t61 := Lib.hid (fun g hg => Nat.ne_of_gt (Nat.lt_of_lt_of_le (heap_lt KaD_25.out) (hot61.lt g hg).1))
  have HNX_w0_t61 := Lib.hid (fun g hg => Nat.ne_of_gt (Nat.lt_of_lt_of_le (heap_lt Kw0_25.out) (hot61.lt g hg).1))
  have HNX_g0_t61 := Lib.hid (fun g hg => Nat.ne_of_gt (Nat.lt_of_lt_of_le (heap_lt Kg0_25.out) (hot61.lt g hg).1))
  have HAp_t60_t61 := Lib.hid hat6
  have Hr30_26 := Lib.hid (Hr30_25.out.below hbt6)
  have Hr31_26 := Lib.hid (Hr31_25.out.below hbt6)
  have Hr40_26 := Lib.hid (Hr40_25.out.below hbt6)
  have Hr41_26 := Lib.hid (Hr41_25.out.below hbt6)
  have Ht60_26 := Lib.hid (hot60.lower HB_25.out.size)
  have Ht61_26 := Lib.hid (hot61.lower HB_25.out.size)
  have KaD_26 := Lib.hid ((hbt6.block _ (heap_lt KaD_25.out)).trans KaD_25.out)
  have Kw0_26 := Lib.hid ((hbt6.block _ (heap_lt Kw0_25.out)).trans Kw0_25.out)
  have Kg0_26 := Lib.hid ((hbt6.block _ (heap_lt Kg0_25.out)).trans Kg0_25.out)
  have HB_26 := Lib.hid (below_more HB_25.out hbt6)
  clear Hr30_25 Hr31_25 Hr40_25 Hr41_25 KaD_25 Kw0_25 Kg0_25 HB_25 hot60 hot61 hat6 hbt6
  have caD_0 : w21.cell? ⟨w.heap.size, 0, none⟩ = some (.slice A ss.length ca) := cell_of_row _ _ 0 _ _ _ KaD_26.out
  have caD_1 : w21.cell? ⟨w.heap.size, 1, none⟩ = some (.slice B ps.length cb) := cell_of_row _ _ 1 _ _ _ KaD_26.out
  have cw0_0 : w21.cell? ⟨w5.heap.size, 0, none⟩ = some (.slice Ar30 V.length cr30) := cell_of_row _ _ 0 _ _ _ Kw0_26.out
  have cw0_1 : w21.cell? ⟨w5.heap.size, 1, none⟩ = some (.slice Ar31 U.length cr31) := cell_of_row _ _ 1 _ _ _ Kw0_26.out
  have cg0_0 : w21.cell? ⟨w10.heap.size, 0, none⟩ = some (.slice Ar40 V.length cr40) := cell_of_row _ _ 0 _ _ _ Kg0_26.out
  have cg0_1 : w21.cell? ⟨w10.heap.size, 1, none⟩ = some (.slice Ar41 U.length cr41) := cell_of_row _ _ 1 _ _ _ Kg0_26.out
  go_wp2_with fail
  clear caD_0 caD_1 cw0_0 cw0_1 cg0_0 cg0_1
  refine (toInts_any C ks cc _ (HRC.out.below HB_26.out) (by omega)).mono ?_
  rintro e w22 ⟨vt70, rfl, hot70, hbt7⟩
  obtain ⟨At70, ct70, hvt70, hcapt70, _⟩ := gFormC hot70
  subst hvt70
  have HAp_r30_t70 := Lib.hid (apart5 (fun k hk => (Hr30_26.out.lt k hk).2) (fun k hk => (hot70.lt k hk).1))
  have HAp_r31_t70 := Lib.hid (apart5 (fun k hk => (Hr31_26.out.lt k hk).2) (fun k hk => (hot70.lt k hk).1))
  have HAp_r40_t70 := Lib.hid (apart5 (fun k hk => (Hr40_26.out.lt k hk).2) (fun k hk => (hot70.lt k hk).1))
  have HAp_r41_t70 := Lib.hid (apart5 (fun k hk => (Hr41_26.out.lt k hk).2) (fun k hk => (hot70.lt k hk).1))
  have HAp_t60_t70 := Lib.hid (apart5 (fun k hk => (Ht60_26.out.lt k hk).2) (fun k hk => (hot70.lt k hk).1))
  have HAp_t61_t70 := Lib.hid (apart5 (fun k hk => (Ht61_26.out.lt k hk).2) (fun k hk => (hot70.lt k hk).1))
  have HNX_aD_t70 := Lib.hid (fun g hg => Nat.ne_of_gt (Nat.lt_of_lt_of_le (heap_lt KaD_26.out) (hot70.lt g hg).1))
  have HNX_w0_t70 := Lib.hid (fun g hg => Nat.ne_of_gt (Nat.lt_of_lt_of_le (heap_lt Kw0_26.out) (hot70.lt g hg).1))
  have HNX_g0_t70 := Lib.hid (fun g hg => Nat.ne_of_gt (Nat.lt_of_lt_of_le (heap_lt Kg0_26.out) (hot70.lt g hg).1))
  have Hr30_27 := Lib.hid (Hr30_26.out.below hbt7)
  have Hr31_27 := Lib.hid (Hr31_26.out.below hbt7)
  have Hr40_27 := Lib.hid (Hr40_26.out.below hbt7)
  have Hr41_27 := Lib.hid (Hr41_26.out.below hbt7)
  have Ht60_27 := Lib.hid (Ht60_26.out.below hbt7)
  have Ht61_27 := Lib.hid (Ht61_26.out.below hbt7)
  have Ht70_27 := Lib.hid (hot70.lower HB_26.out.size)
  have KaD_27 := Lib.hid ((hbt7.block _ (heap_lt KaD_26.out)).trans KaD_26.out)
  have Kw0_27 := Lib.hid ((hbt7.block _ (heap_lt Kw0_26.out)).trans Kw0_26.out)
  have Kg0_27 := Lib.hid ((hbt7.block _ (heap_lt Kg0_26.out)).trans Kg0_26.out)
  have HB_27 := Lib.hid (below_more HB_26.out hbt7)
  clear Hr30_26 Hr31_26 Hr40_26 Hr41_26 Ht60_26 Ht61_26 KaD_26 Kw0_26 Kg0_26 HB_26 hot70 hbt7
  have caD_0 : w22.cell? ⟨w.heap.size, 0, none⟩ = some (.slice A ss.length ca) := cell_of_row _ _ 0 _ _ _ KaD_27.out
  have caD_1 : w22.cell? ⟨w.heap.size, 1, none⟩ = some (.slice B ps.length cb) := cell_of_row _ _ 1 _ _ _ KaD_27.out
  have cw0_0 : w22.cell? ⟨w5.heap.size, 0, none⟩ = some (.slice Ar30 V.length cr30) := cell_of_row _ _ 0 _ _ _ Kw0_27.out
  have cw0_1 : w22.cell? ⟨w5.heap.size, 1, none⟩ = some (.slice Ar31 U.length cr31) := cell_of_row _ _ 1 _ _ _ Kw0_27.out
  have cg0_0 : w22.cell? ⟨w10.heap.size, 0, none⟩ = some (.slice Ar40 V.length cr40) := cell_of_row _ _ 0 _ _ _ Kg0_27.out
  have cg0_1 : w22.cell? ⟨w10.heap.size, 1, none⟩ = some (.slice Ar41 U.length cr41) := cell_of_row _ _ 1 _ _ _ Kg0_27.out
  go_wp2_with fail
  clear caD_0 caD_1 cw0_0 cw0_1 cg0_0 cg0_1
  refine (HI.out At60 At61 At70 ct60 ct61 ct70 _ (hK _ _ HW.out HB_27.out) ⟨(OwnR.rd fSt_len Ht60_27.out), (OwnR.rd fPu_len Ht61_27.out), by omega, by omega, HZs.out, HZp.out⟩ (ownR_lies Ht60_27.out) (ownR_lies Ht61_27.out) (own_ints5 Ht70_27.out) (own9_lies Ht70_27.out)).mono ?_
  rintro e w23 ⟨vr80, vr81, rfl, hpk, hbr8⟩
  obtain ⟨hor80, hor81, har8⟩ := hpk
  obtain ⟨Ar80, cr80, hvr80, hcapr80, _⟩ := OwnR.form fSt_len hor80
  subst hvr80
  obtain ⟨Ar81, cr81, hvr81, hcapr81, _⟩ := OwnR.form fPu_len hor81
  subst hvr81
  have HAp_r30_r80 := Lib.hid (apart5 (fun k hk => (Hr30_27.out.lt k hk).2) (fun k hk => (hor80.lt k hk).1))
  have HAp_r31_r80 := Lib.hid (apart5 (fun k hk => (Hr31_27.out.lt k hk).2) (fun k hk => (hor80.lt k hk).1))
  have HAp_r40_r80 := Lib.hid (apart5 (fun k hk => (Hr40_27.out.lt k hk).2) (fun k hk => (hor80.lt k hk).1))
  have HAp_r41_r80 := Lib.hid (apart5 (fun k hk => (Hr41_27.out.lt k hk).2) (fun k hk => (hor80.lt k hk).1))
  have HAp_t60_r80 := Lib.hid (apart5 (fun k hk => (Ht60_27.out.lt k hk).2) (fun k hk => (hor80.lt k hk).1))
  have HAp_t61_r80 := Lib.hid (apart5 (fun k hk => (Ht61_27.out.lt k hk).2) (fun k hk => (hor80.lt k hk).1))
  have HAp_t70_r80 := Lib.hid (apart5 (fun k hk => (Ht70_27.out.lt k hk).2) (fun k hk => (hor80.lt k hk).1))
  have HAp_r30_r81 := Lib.hid (apart5 (fun k hk => (Hr30_27.out.lt k hk).2) (fun k hk => (hor81.lt k hk).1))
  have HAp_r31_r81 := Lib.hid (apart5 (fun k hk => (Hr31_27.out.lt k hk).2) (fun k hk => (hor81.lt k hk).1))
  have HAp_r40_r81 := Lib.hid (apart5 (fun k hk => (Hr40_27.out.lt k hk).2) (fun k hk => (hor81.lt k hk).1))
  have HAp_r41_r81 := Lib.hid (apart5 (fun k hk => (Hr41_27.out.lt k hk).2) (fun k hk => (hor81.lt k hk).1))
  have HAp_t60_r81 := Lib.hid (apart5 (fun k hk => (Ht60_27.out.lt k hk).2) (fun k hk => (hor81.lt k hk).1))
  have HAp_t61_r81 := Lib.hid (apart5 (fun k hk => (Ht61_27.out.lt k hk).2) (fun k hk => (hor81.lt k hk).1))
  have HAp_t70_r81 := Lib.hid (apart5 (fun k hk => (Ht70_27.out.lt k hk).2) (fun k hk => (hor81.lt k hk).1))
  have HNX_aD_r80 := Lib.hid (fun g hg => Nat.ne_of_gt (Nat.lt_of_lt_of_le (heap_lt KaD_27.out) (hor80.lt g hg).1))
  have HNX_w0_r80 := Lib.hid (fun g hg => Nat.ne_of_gt (Nat.lt_of_lt_of_le (heap_lt Kw0_27.out) (hor80.lt g hg).1))
  have HNX_g0_r80 := Lib.hid (fun g hg => Nat.ne_of_gt (Nat.lt_of_lt_of_le (heap_lt Kg0_27.out) (hor80.lt g hg).1))
  have HNX_aD_r81 := Lib.hid (fun g hg => Nat.ne_of_gt (Nat.lt_of_lt_of_le (heap_lt KaD_27.out) (hor81.lt g hg).1))
  have HNX_w0_r81 := Lib.hid (fun g hg => Nat.ne_of_gt (Nat.lt_of_lt_of_le (heap_lt Kw0_27.out) (hor81.lt g hg).1))
  have HNX_g0_r81 := Lib.hid (fun g hg => Nat.ne_of_gt (Nat.lt_of_lt_of_le (heap_lt Kg0_27.out) (hor81.lt g hg).1))
  have HAp_r80_r81 := Lib.hid har8
  have Hr30_28 := Lib.hid (Hr30_27.out.below hbr8)
  have Hr31_28 := Lib.hid (Hr31_27.out.below hbr8)
  have Hr40_28 := Lib.hid (Hr40_27.out.below hbr8)
  have Hr41_28 := Lib.hid (Hr41_27.out.below hbr8)
  have Ht60_28 := Lib.hid (Ht60_27.out.below hbr8)
  have Ht61_28 := Lib.hid (Ht61_27.out.below hbr8)
  have Ht70_28 := Lib.hid (Ht70_27.out.below hbr8)
  have Hr80_28 := Lib.hid (hor80.lower HB_27.out.size)
  have Hr81_28 := Lib.hid (hor81.lower HB_27.out.size)
  have KaD_28 := Lib.hid ((hbr8.block _ (heap_lt KaD_27.out)).trans KaD_27.out)
  have Kw0_28 := Lib.hid ((hbr8.block _ (heap_lt Kw0_27.out)).trans Kw0_27.out)
  have Kg0_28 := Lib.hid ((hbr8.block _ (heap_lt Kg0_27.out)).trans Kg0_27.out)
  have HB_28 := Lib.hid (below_more HB_27.out hbr8)
  clear Hr30_27 Hr31_27 Hr40_27 Hr41_27 Ht60_27 Ht61_27 Ht70_27 KaD_27 Kw0_27 Kg0_27 HB_27 hor80 hor81 har8 hbr8
  obtain ⟨w24, hw29⟩ : ∃ wn, w23.alloc (.cells #[.slice Ar80 V.length cr80, .slice Ar81 U.length cr81] 26) = wn := ⟨_, rfl⟩
  have hbx : Below w23.heap.size w23 w24 := by rw [← hw29]; exact gAlloc _ _
  have KX : w24.heap[w23.heap.size]? = some (.cells #[.slice Ar80 V.length cr80, .slice Ar81 U.length cr81] 26 (0, 0)) := by rw [← hw29]; exact heap_alloc_new _ _
  have HNX_h0_r30 := Lib.hid (fun g hg => Nat.ne_of_lt (Hr30_28.out.lt g hg).2)
  have HNX_h0_r31 := Lib.hid (fun g hg => Nat.ne_of_lt (Hr31_28.out.lt g hg).2)
  have HNX_h0_r40 := Lib.hid (fun g hg => Nat.ne_of_lt (Hr40_28.out.lt g hg).2)
  have HNX_h0_r41 := Lib.hid (fun g hg => Nat.ne_of_lt (Hr41_28.out.lt g hg).2)
  have HNX_h0_t60 := Lib.hid (fun g hg => Nat.ne_of_lt (Ht60_28.out.lt g hg).2)
  have HNX_h0_t61 := Lib.hid (fun g hg => Nat.ne_of_lt (Ht61_28.out.lt g hg).2)
  have HNX_h0_t70 := Lib.hid (fun g hg => Nat.ne_of_lt (Ht70_28.out.lt g hg).2)
  have HNX_h0_r80 := Lib.hid (fun g hg => Nat.ne_of_lt (Hr80_28.out.lt g hg).2)
  have HNX_h0_r81 := Lib.hid (fun g hg => Nat.ne_of_lt (Hr81_28.out.lt g hg).2)
  have Hr30_30 := Lib.hid (Hr30_28.out.below hbx)
  have Hr31_30 := Lib.hid (Hr31_28.out.below hbx)
  have Hr40_30 := Lib.hid (Hr40_28.out.below hbx)
  have Hr41_30 := Lib.hid (Hr41_28.out.below hbx)
  have Ht60_30 := Lib.hid (Ht60_28.out.below hbx)
  have Ht61_30 := Lib.hid (Ht61_28.out.below hbx)
  have Ht70_30 := Lib.hid (Ht70_28.out.below hbx)
  have Hr80_30 := Lib.hid (Hr80_28.out.below hbx)
  have Hr81_30 := Lib.hid (Hr81_28.out.below hbx)
  have KaD_30 := Lib.hid ((hbx.block _ (heap_lt KaD_28.out)).trans KaD_28.out)
  have Kw0_30 := Lib.hid ((hbx.block _ (heap_lt Kw0_28.out)).trans Kw0_28.out)
  have Kg0_30 := Lib.hid ((hbx.block _ (heap_lt Kg0_28.out)).trans Kg0_28.out)
  have HB_30 := Lib.hid (below_more HB_28.out hbx)
  clear Hr30_28 Hr31_28 Hr40_28 Hr41_28 Ht60_28 Ht61_28 Ht70_28 Hr80_28 Hr81_28 KaD_28 Kw0_28 Kg0_28 HB_28
  have Kh0_29 := Lib.hid KX
  clear hbx KX
  clear Ht60_30 Ht61_30 Ht70_30
  have caD_0 : w24.cell? ⟨w.heap.size, 0, none⟩ = some (.slice A ss.length ca) := cell_of_row _ _ 0 _ _ _ KaD_30.out
  have caD_1 : w24.cell? ⟨w.heap.size, 1, none⟩ = some (.slice B ps.length cb) := cell_of_row _ _ 1 _ _ _ KaD_30.out
  have cw0_0 : w24.cell? ⟨w5.heap.size, 0, none⟩ = some (.slice Ar30 V.length cr30) := cell_of_row _ _ 0 _ _ _ Kw0_30.out
  have cw0_1 : w24.cell? ⟨w5.heap.size, 1, none⟩ = some (.slice Ar31 U.length cr31) := cell_of_row _ _ 1 _ _ _ Kw0_30.out
  have cg0_0 : w24.cell? ⟨w10.heap.size, 0, none⟩ = some (.slice Ar40 V.length cr40) := cell_of_row _ _ 0 _ _ _ Kg0_30.out
  have cg0_1 : w24.cell? ⟨w10.heap.size, 1, none⟩ = some (.slice Ar41 U.length cr41) := cell_of_row _ _ 1 _ _ _ Kg0_30.out
  have ch0_0 : w24.cell? ⟨w23.heap.size, 0, none⟩ = some (.slice Ar80 V.length cr80) := cell_of_row _ _ 0 _ _ _ Kh0_29.out
  have ch0_1 : w24.cell? ⟨w23.heap.size, 1, none⟩ = some (.slice Ar81 U.length cr81) := cell_of_row _ _ 1 _ _ _ Kh0_29.out
  go_wp2_with fail
  clear caD_0 caD_1 cw0_0 cw0_1 cg0_0 cg0_1 ch0_0 ch0_1 hw29
  refine (eqDisk_self Ar80 Ar81 Ar30 Ar31 V U cr80 cr81 cr30 cr31 _ (OwnR.rd fSt_len Hr80_30.out) (OwnR.rd fPu_len Hr81_30.out) (OwnR.rd fSt_len Hr30_30.out) (OwnR.rd fPu_len Hr31_30.out) (by omega) (by omega)).mono ?_
  rintro e w25 ⟨rfl, hbq⟩
  have Hr30_31 := Lib.hid (Hr30_30.out.below hbq)
  have Hr31_31 := Lib.hid (Hr31_30.out.below hbq)
  have Hr40_31 := Lib.hid (Hr40_30.out.below hbq)
  have Hr41_31 := Lib.hid (Hr41_30.out.below hbq)
  have Hr80_31 := Lib.hid (Hr80_30.out.below hbq)
  have Hr81_31 := Lib.hid (Hr81_30.out.below hbq)
  have KaD_31 := Lib.hid ((hbq.block _ (heap_lt KaD_30.out)).trans KaD_30.out)
  have Kw0_31 := Lib.hid ((hbq.block _ (heap_lt Kw0_30.out)).trans Kw0_30.out)
  have Kg0_31 := Lib.hid ((hbq.block _ (heap_lt Kg0_30.out)).trans Kg0_30.out)
  have Kh0_31 := Lib.hid ((hbq.block _ (heap_lt Kh0_29.out)).trans Kh0_29.out)
  have HB_31 := Lib.hid (below_more HB_30.out hbq)
  clear Hr30_30 Hr31_30 Hr40_30 Hr41_30 Hr80_30 Hr81_30 KaD_30 Kw0_30 Kg0_30 Kh0_29 HB_30
  clear hbq
  clear Hr30_31 Hr31_31
  clear Kw0_31
  clear Hr80_31 Hr81_31
  clear Kh0_31
  have caD_0 : w25.cell? ⟨w.heap.size, 0, none⟩ = some (.slice A ss.length ca) := cell_of_row _ _ 0 _ _ _ KaD_31.out
  have caD_1 : w25.cell? ⟨w.heap.size, 1, none⟩ = some (.slice B ps.length cb) := cell_of_row _ _ 1 _ _ _ KaD_31.out
  have cg0_0 : w25.cell? ⟨w10.heap.size, 0, none⟩ = some (.slice Ar40 V.length cr40) := cell_of_row _ _ 0 _ _ _ Kg0_31.out
  have cg0_1 : w25.cell? ⟨w10.heap.size, 1, none⟩ = some (.slice Ar41 U.length cr41) := cell_of_row _ _ 1 _ _ _ Kg0_31.out
  go_wp2_with fail
  clear caD_0 caD_1 cg0_0 cg0_1
  refine (heldDisk_any Ar40 Ar41 1 V.length U.length cr40 cr41 _ (OwnR.rd fSt_len Hr40_31.out) (OwnR.rd fPu_len Hr41_31.out) (by omega) (by omega) (by omega) (by omega)).mono ?_
  rintro e w26 ⟨rfl, hbq⟩
  have Hr40_32 := Lib.hid (Hr40_31.out.below hbq)
  have Hr41_32 := Lib.hid (Hr41_31.out.below hbq)
  have KaD_32 := Lib.hid ((hbq.block _ (heap_lt KaD_31.out)).trans KaD_31.out)
  have Kg0_32 := Lib.hid ((hbq.block _ (heap_lt Kg0_31.out)).trans Kg0_31.out)
  have HB_32 := Lib.hid (below_more HB_31.out hbq)
  clear Hr40_31 Hr41_31 KaD_31 Kg0_31 HB_31
  clear hbq
  go_wp2_with fail
  go_ret
  exact ⟨rfl, HB_32.out⟩

set_option maxRecDepth 100000 in
set_option maxHeartbeats 8000000 in
theorem newDisk_law {K : World → Prop} (hK : Stays5 K) (hI : ∀ (w : World), K w → Calls Try.prog 24 #[] w fun e w' => ∃ v1 v2, e = .returned (diskV v1 v2) ∧ OwnD w' w.heap.size v1 v2 (List.replicate 12 zero16) ([]) ∧ Below w.heap.size w w')
     (w : World) (hw : K w) : Calls Try.prog 5 #[] w fun e w' => e = .returned (.bool true) ∧ Below w.heap.size w w' := by
  have hU : ([] : List (Int × ByteArray)).length ≤ 41 := by simp
  have hV : (List.replicate 12 zero16).length ≤ 12 := by simp
  have HI := Lib.hid (fun w hk => hI w hk)
  have HW := Lib.hid hw
  have HS0 := Lib.hid (fun w => sNewDisk_D w)
  clear hI hw
  generalize List.replicate 12 zero16 = V at *
  generalize ([] : List (Int × ByteArray)) = U at *
  go_enter Try.func5, Try.ntmps5
  go_wp2_with fail
  refine (HS0.out _).mono ?_
  rintro e w1 ⟨vr10, vr11, rfl, hpk, hbr1⟩
  obtain ⟨hor10, hor11, har1⟩ := hpk
  obtain ⟨Ar10, cr10, hvr10, hcapr10, _⟩ := OwnR.form fSt_len hor10
  subst hvr10
  obtain ⟨Ar11, cr11, hvr11, hcapr11, _⟩ := OwnR.form fPu_len hor11
  subst hvr11
  have HAp_r10_r11 := Lib.hid har1
  have Hr10_1 := Lib.hid (hor10)
  have Hr11_1 := Lib.hid (hor11)
  have HB_1 := Lib.hid (hbr1)
  clear hor10 hor11 har1 hbr1
  obtain ⟨w2, hw2⟩ : ∃ wn, w1.alloc (.cells #[.slice Ar10 V.length cr10, .slice Ar11 U.length cr11] 26) = wn := ⟨_, rfl⟩
  have hbx : Below w1.heap.size w1 w2 := by rw [← hw2]; exact gAlloc _ _
  have KX : w2.heap[w1.heap.size]? = some (.cells #[.slice Ar10 V.length cr10, .slice Ar11 U.length cr11] 26 (0, 0)) := by rw [← hw2]; exact heap_alloc_new _ _
  have HNX_w0_r10 := Lib.hid (fun g hg => Nat.ne_of_lt (Hr10_1.out.lt g hg).2)
  have HNX_w0_r11 := Lib.hid (fun g hg => Nat.ne_of_lt (Hr11_1.out.lt g hg).2)
  have Hr10_3 := Lib.hid (Hr10_1.out.below hbx)
  have Hr11_3 := Lib.hid (Hr11_1.out.below hbx)
  have HB_3 := Lib.hid (below_more HB_1.out hbx)
  clear Hr10_1 Hr11_1 HB_1
  have Kw0_2 := Lib.hid KX
  clear hbx KX
  have cw0_0 : w2.cell? ⟨w1.heap.size, 0, none⟩ = some (.slice Ar10 V.length cr10) := cell_of_row _ _ 0 _ _ _ Kw0_2.out
  have cw0_1 : w2.cell? ⟨w1.heap.size, 1, none⟩ = some (.slice Ar11 U.length cr11) := cell_of_row _ _ 1 _ _ _ Kw0_2.out
  go_wp2_with fail
  clear cw0_0 cw0_1 hw2
  refine (HI.out _ (hK _ _ HW.out HB_3.out)).mono ?_
  rintro e w3 ⟨vr20, vr21, rfl, hpk, hbr2⟩
  obtain ⟨hor20, hor21, har2⟩ := hpk
  obtain ⟨Ar20, cr20, hvr20, hcapr20, _⟩ := OwnR.form fSt_len hor20
  subst hvr20
  obtain ⟨Ar21, cr21, hvr21, hcapr21, _⟩ := OwnR.form fPu_len hor21
  subst hvr21
  have HAp_r10_r20 := Lib.hid (apart5 (fun k hk => (Hr10_3.out.lt k hk).2) (fun k hk => (hor20.lt k hk).1))
  have HAp_r11_r20 := Lib.hid (apart5 (fun k hk => (Hr11_3.out.lt k hk).2) (fun k hk => (hor20.lt k hk).1))
  have HAp_r10_r21 := Lib.hid (apart5 (fun k hk => (Hr10_3.out.lt k hk).2) (fun k hk => (hor21.lt k hk).1))
  have HAp_r11_r21 := Lib.hid (apart5 (fun k hk => (Hr11_3.out.lt k hk).2) (fun k hk => (hor21.lt k hk).1))
  have HNX_w0_r20 := Lib.hid (fun g hg => Nat.ne_of_gt (Nat.lt_of_lt_of_le (heap_lt Kw0_2.out) (hor20.lt g hg).1))
  have HNX_w0_r21 := Lib.hid (fun g hg => Nat.ne_of_gt (Nat.lt_of_lt_of_le (heap_lt Kw0_2.out) (hor21.lt g hg).1))
  have HAp_r20_r21 := Lib.hid har2
  have Hr10_4 := Lib.hid (Hr10_3.out.below hbr2)
  have Hr11_4 := Lib.hid (Hr11_3.out.below hbr2)
  have Hr20_4 := Lib.hid (hor20.lower HB_3.out.size)
  have Hr21_4 := Lib.hid (hor21.lower HB_3.out.size)
  have Kw0_4 := Lib.hid ((hbr2.block _ (heap_lt Kw0_2.out)).trans Kw0_2.out)
  have HB_4 := Lib.hid (below_more HB_3.out hbr2)
  clear Hr10_3 Hr11_3 Kw0_2 HB_3 hor20 hor21 har2 hbr2
  obtain ⟨w4, hw5⟩ : ∃ wn, w3.alloc (.cells #[.slice Ar20 V.length cr20, .slice Ar21 U.length cr21] 26) = wn := ⟨_, rfl⟩
  have hbx : Below w3.heap.size w3 w4 := by rw [← hw5]; exact gAlloc _ _
  have KX : w4.heap[w3.heap.size]? = some (.cells #[.slice Ar20 V.length cr20, .slice Ar21 U.length cr21] 26 (0, 0)) := by rw [← hw5]; exact heap_alloc_new _ _
  have HNX_g0_r10 := Lib.hid (fun g hg => Nat.ne_of_lt (Hr10_4.out.lt g hg).2)
  have HNX_g0_r11 := Lib.hid (fun g hg => Nat.ne_of_lt (Hr11_4.out.lt g hg).2)
  have HNX_g0_r20 := Lib.hid (fun g hg => Nat.ne_of_lt (Hr20_4.out.lt g hg).2)
  have HNX_g0_r21 := Lib.hid (fun g hg => Nat.ne_of_lt (Hr21_4.out.lt g hg).2)
  have Hr10_6 := Lib.hid (Hr10_4.out.below hbx)
  have Hr11_6 := Lib.hid (Hr11_4.out.below hbx)
  have Hr20_6 := Lib.hid (Hr20_4.out.below hbx)
  have Hr21_6 := Lib.hid (Hr21_4.out.below hbx)
  have Kw0_6 := Lib.hid ((hbx.block _ (heap_lt Kw0_4.out)).trans Kw0_4.out)
  have HB_6 := Lib.hid (below_more HB_4.out hbx)
  clear Hr10_4 Hr11_4 Hr20_4 Hr21_4 Kw0_4 HB_4
  have Kg0_5 := Lib.hid KX
  clear hbx KX
  have cw0_0 : w4.cell? ⟨w1.heap.size, 0, none⟩ = some (.slice Ar10 V.length cr10) := cell_of_row _ _ 0 _ _ _ Kw0_6.out
  have cw0_1 : w4.cell? ⟨w1.heap.size, 1, none⟩ = some (.slice Ar11 U.length cr11) := cell_of_row _ _ 1 _ _ _ Kw0_6.out
  have cg0_0 : w4.cell? ⟨w3.heap.size, 0, none⟩ = some (.slice Ar20 V.length cr20) := cell_of_row _ _ 0 _ _ _ Kg0_5.out
  have cg0_1 : w4.cell? ⟨w3.heap.size, 1, none⟩ = some (.slice Ar21 U.length cr21) := cell_of_row _ _ 1 _ _ _ Kg0_5.out
  go_wp2_with fail
  clear cw0_0 cw0_1 cg0_0 cg0_1 hw5
  refine (eqDisk_self Ar20 Ar21 Ar10 Ar11 V U cr20 cr21 cr10 cr11 _ (OwnR.rd fSt_len Hr20_6.out) (OwnR.rd fPu_len Hr21_6.out) (OwnR.rd fSt_len Hr10_6.out) (OwnR.rd fPu_len Hr11_6.out) (by omega) (by omega)).mono ?_
  rintro e w5 ⟨rfl, hbq⟩
  have Hr10_7 := Lib.hid (Hr10_6.out.below hbq)
  have Hr11_7 := Lib.hid (Hr11_6.out.below hbq)
  have Hr20_7 := Lib.hid (Hr20_6.out.below hbq)
  have Hr21_7 := Lib.hid (Hr21_6.out.below hbq)
  have Kw0_7 := Lib.hid ((hbq.block _ (heap_lt Kw0_6.out)).trans Kw0_6.out)
  have Kg0_7 := Lib.hid ((hbq.block _ (heap_lt Kg0_5.out)).trans Kg0_5.out)
  have HB_7 := Lib.hid (below_more HB_6.out hbq)
  clear Hr10_6 Hr11_6 Hr20_6 Hr21_6 Kw0_6 Kg0_5 HB_6
  clear hbq
  have cw0_0 : w5.cell? ⟨w1.heap.size, 0, none⟩ = some (.slice Ar10 V.length cr10) := cell_of_row _ _ 0 _ _ _ Kw0_7.out
  have cw0_1 : w5.cell? ⟨w1.heap.size, 1, none⟩ = some (.slice Ar11 U.length cr11) := cell_of_row _ _ 1 _ _ _ Kw0_7.out
  have cg0_0 : w5.cell? ⟨w3.heap.size, 0, none⟩ = some (.slice Ar20 V.length cr20) := cell_of_row _ _ 0 _ _ _ Kg0_7.out
  have cg0_1 : w5.cell? ⟨w3.heap.size, 1, none⟩ = some (.slice Ar21 U.length cr21) := cell_of_row _ _ 1 _ _ _ Kg0_7.out
  go_wp2_with fail
  clear cw0_0 cw0_1 cg0_0 cg0_1
  refine (markDisk_any _ _ V U _ 1 _ Hr20_7.out Hr21_7.out HAp_r20_r21.out (by omega) (by omega) (by omega) (by omega)).mono ?_
  rintro e w6 ⟨rfl, hm0, hm1, wm, hg0, hg1⟩
  have Hr10_8 := Lib.hid ((Hr10_7.out.kept hg0 HAp_r10_r20.out).kept hg1 HAp_r10_r21.out)
  have Hr11_8 := Lib.hid ((Hr11_7.out.kept hg0 HAp_r11_r20.out).kept hg1 HAp_r11_r21.out)
  have Kw0_8 := Lib.hid ((hg1.block _ (Nat.lt_of_lt_of_le (heap_lt Kw0_7.out) hg0.size) (fun e => HNX_w0_r21.out _ e.symm rfl)).trans ((hg0.block _ (heap_lt Kw0_7.out) (fun e => HNX_w0_r20.out _ e.symm rfl)).trans Kw0_7.out))
  have Kg0_8 := Lib.hid ((hg1.block _ (Nat.lt_of_lt_of_le (heap_lt Kg0_7.out) hg0.size) (fun e => HNX_g0_r21.out _ e.symm rfl)).trans ((hg0.block _ (heap_lt Kg0_7.out) (fun e => HNX_g0_r20.out _ e.symm rfl)).trans Kg0_7.out))
  have HMb0 := Lib.hid (fun k hk => (Hr20_7.out.lt k hk).1)
  have HMb1 := Lib.hid (fun k hk => (Hr21_7.out.lt k hk).1)
  have HB_8 : Hid (Below w.heap.size w w6) := ((HB_7.out.grown hg0 HB_7.out.size HMb0.out).grown hg1 (HB_7.out.grown hg0 HB_7.out.size HMb0.out).size HMb1.out)
  have Hr20_8 := Lib.hid hm0
  have Hr21_8 := Lib.hid hm1
  clear Hr10_7 Hr11_7 Kw0_7 Kg0_7 HB_7 Hr20_7 Hr21_7 hm0 hm1 hg0 hg1 HMb0 HMb1
  have cw0_0 : w6.cell? ⟨w1.heap.size, 0, none⟩ = some (.slice Ar10 V.length cr10) := cell_of_row _ _ 0 _ _ _ Kw0_8.out
  have cw0_1 : w6.cell? ⟨w1.heap.size, 1, none⟩ = some (.slice Ar11 U.length cr11) := cell_of_row _ _ 1 _ _ _ Kw0_8.out
  have cg0_0 : w6.cell? ⟨w3.heap.size, 0, none⟩ = some (.slice Ar20 V.length cr20) := cell_of_row _ _ 0 _ _ _ Kg0_8.out
  have cg0_1 : w6.cell? ⟨w3.heap.size, 1, none⟩ = some (.slice Ar21 U.length cr21) := cell_of_row _ _ 1 _ _ _ Kg0_8.out
  go_wp2_with fail
  clear cw0_0 cw0_1 cg0_0 cg0_1
  refine (heldDisk_any Ar20 Ar21 1 V.length U.length cr20 cr21 _ (OwnR.rd fSt_len Hr20_8.out) (OwnR.rd fPu_len Hr21_8.out) (by omega) (by omega) (by omega) (by omega)).mono ?_
  rintro e w7 ⟨rfl, hbq⟩
  have Hr10_9 := Lib.hid (Hr10_8.out.below hbq)
  have Hr11_9 := Lib.hid (Hr11_8.out.below hbq)
  have Hr20_9 := Lib.hid (Hr20_8.out.below hbq)
  have Hr21_9 := Lib.hid (Hr21_8.out.below hbq)
  have Kw0_9 := Lib.hid ((hbq.block _ (heap_lt Kw0_8.out)).trans Kw0_8.out)
  have Kg0_9 := Lib.hid ((hbq.block _ (heap_lt Kg0_8.out)).trans Kg0_8.out)
  have HB_9 := Lib.hid (below_more HB_8.out hbq)
  clear Hr10_8 Hr11_8 Hr20_8 Hr21_8 Kw0_8 Kg0_8 HB_8
  clear hbq
  have cw0_0 : w7.cell? ⟨w1.heap.size, 0, none⟩ = some (.slice Ar10 V.length cr10) := cell_of_row _ _ 0 _ _ _ Kw0_9.out
  have cw0_1 : w7.cell? ⟨w1.heap.size, 1, none⟩ = some (.slice Ar11 U.length cr11) := cell_of_row _ _ 1 _ _ _ Kw0_9.out
  have cg0_0 : w7.cell? ⟨w3.heap.size, 0, none⟩ = some (.slice Ar20 V.length cr20) := cell_of_row _ _ 0 _ _ _ Kg0_9.out
  have cg0_1 : w7.cell? ⟨w3.heap.size, 1, none⟩ = some (.slice Ar21 U.length cr21) := cell_of_row _ _ 1 _ _ _ Kg0_9.out
  go_wp2_with fail
  clear cw0_0 cw0_1 cg0_0 cg0_1
  refine (HI.out _ (hK _ _ HW.out HB_9.out)).mono ?_
  rintro e w8 ⟨vr30, vr31, rfl, hpk, hbr3⟩
  obtain ⟨hor30, hor31, har3⟩ := hpk
  obtain ⟨Ar30, cr30, hvr30, hcapr30, _⟩ := OwnR.form fSt_len hor30
  subst hvr30
  obtain ⟨Ar31, cr31, hvr31, hcapr31, _⟩ := OwnR.form fPu_len hor31
  subst hvr31
  have HAp_r10_r30 := Lib.hid (apart5 (fun k hk => (Hr10_9.out.lt k hk).2) (fun k hk => (hor30.lt k hk).1))
  have HAp_r11_r30 := Lib.hid (apart5 (fun k hk => (Hr11_9.out.lt k hk).2) (fun k hk => (hor30.lt k hk).1))
  have HAp_r20_r30 := Lib.hid (apart5 (fun k hk => (Hr20_9.out.lt k hk).2) (fun k hk => (hor30.lt k hk).1))
  have HAp_r21_r30 := Lib.hid (apart5 (fun k hk => (Hr21_9.out.lt k hk).2) (fun k hk => (hor30.lt k hk).1))
  have HAp_r10_r31 := Lib.hid (apart5 (fun k hk => (Hr10_9.out.lt k hk).2) (fun k hk => (hor31.lt k hk).1))
  have HAp_r11_r31 := Lib.hid (apart5 (fun k hk => (Hr11_9.out.lt k hk).2) (fun k hk => (hor31.lt k hk).1))
  have HAp_r20_r31 := Lib.hid (apart5 (fun k hk => (Hr20_9.out.lt k hk).2) (fun k hk => (hor31.lt k hk).1))
  have HAp_r21_r31 := Lib.hid (apart5 (fun k hk => (Hr21_9.out.lt k hk).2) (fun k hk => (hor31.lt k hk).1))
  have HNX_w0_r30 := Lib.hid (fun g hg => Nat.ne_of_gt (Nat.lt_of_lt_of_le (heap_lt Kw0_9.out) (hor30.lt g hg).1))
  have HNX_g0_r30 := Lib.hid (fun g hg => Nat.ne_of_gt (Nat.lt_of_lt_of_le (heap_lt Kg0_9.out) (hor30.lt g hg).1))
  have HNX_w0_r31 := Lib.hid (fun g hg => Nat.ne_of_gt (Nat.lt_of_lt_of_le (heap_lt Kw0_9.out) (hor31.lt g hg).1))
  have HNX_g0_r31 := Lib.hid (fun g hg => Nat.ne_of_gt (Nat.lt_of_lt_of_le (heap_lt Kg0_9.out) (hor31.lt g hg).1))
  have HAp_r30_r31 := Lib.hid har3
  have Hr10_10 := Lib.hid (Hr10_9.out.below hbr3)
  have Hr11_10 := Lib.hid (Hr11_9.out.below hbr3)
  have Hr20_10 := Lib.hid (Hr20_9.out.below hbr3)
  have Hr21_10 := Lib.hid (Hr21_9.out.below hbr3)
  have Hr30_10 := Lib.hid (hor30.lower HB_9.out.size)
  have Hr31_10 := Lib.hid (hor31.lower HB_9.out.size)
  have Kw0_10 := Lib.hid ((hbr3.block _ (heap_lt Kw0_9.out)).trans Kw0_9.out)
  have Kg0_10 := Lib.hid ((hbr3.block _ (heap_lt Kg0_9.out)).trans Kg0_9.out)
  have HB_10 := Lib.hid (below_more HB_9.out hbr3)
  clear Hr10_9 Hr11_9 Hr20_9 Hr21_9 Kw0_9 Kg0_9 HB_9 hor30 hor31 har3 hbr3
  obtain ⟨w9, hw11⟩ : ∃ wn, w8.alloc (.cells #[.slice Ar30 V.length cr30, .slice Ar31 U.length cr31] 26) = wn := ⟨_, rfl⟩
  have hbx : Below w8.heap.size w8 w9 := by rw [← hw11]; exact gAlloc _ _
  have KX : w9.heap[w8.heap.size]? = some (.cells #[.slice Ar30 V.length cr30, .slice Ar31 U.length cr31] 26 (0, 0)) := by rw [← hw11]; exact heap_alloc_new _ _
  have HNX_h0_r10 := Lib.hid (fun g hg => Nat.ne_of_lt (Hr10_10.out.lt g hg).2)
  have HNX_h0_r11 := Lib.hid (fun g hg => Nat.ne_of_lt (Hr11_10.out.lt g hg).2)
  have HNX_h0_r20 := Lib.hid (fun g hg => Nat.ne_of_lt (Hr20_10.out.lt g hg).2)
  have HNX_h0_r21 := Lib.hid (fun g hg => Nat.ne_of_lt (Hr21_10.out.lt g hg).2)
  have HNX_h0_r30 := Lib.hid (fun g hg => Nat.ne_of_lt (Hr30_10.out.lt g hg).2)
  have HNX_h0_r31 := Lib.hid (fun g hg => Nat.ne_of_lt (Hr31_10.out.lt g hg).2)
  have Hr10_12 := Lib.hid (Hr10_10.out.below hbx)
  have Hr11_12 := Lib.hid (Hr11_10.out.below hbx)
  have Hr20_12 := Lib.hid (Hr20_10.out.below hbx)
  have Hr21_12 := Lib.hid (Hr21_10.out.below hbx)
  have Hr30_12 := Lib.hid (Hr30_10.out.below hbx)
  have Hr31_12 := Lib.hid (Hr31_10.out.below hbx)
  have Kw0_12 := Lib.hid ((hbx.block _ (heap_lt Kw0_10.out)).trans Kw0_10.out)
  have Kg0_12 := Lib.hid ((hbx.block _ (heap_lt Kg0_10.out)).trans Kg0_10.out)
  have HB_12 := Lib.hid (below_more HB_10.out hbx)
  clear Hr10_10 Hr11_10 Hr20_10 Hr21_10 Hr30_10 Hr31_10 Kw0_10 Kg0_10 HB_10
  have Kh0_11 := Lib.hid KX
  clear hbx KX
  have cw0_0 : w9.cell? ⟨w1.heap.size, 0, none⟩ = some (.slice Ar10 V.length cr10) := cell_of_row _ _ 0 _ _ _ Kw0_12.out
  have cw0_1 : w9.cell? ⟨w1.heap.size, 1, none⟩ = some (.slice Ar11 U.length cr11) := cell_of_row _ _ 1 _ _ _ Kw0_12.out
  have cg0_0 : w9.cell? ⟨w3.heap.size, 0, none⟩ = some (.slice Ar20 V.length cr20) := cell_of_row _ _ 0 _ _ _ Kg0_12.out
  have cg0_1 : w9.cell? ⟨w3.heap.size, 1, none⟩ = some (.slice Ar21 U.length cr21) := cell_of_row _ _ 1 _ _ _ Kg0_12.out
  have ch0_0 : w9.cell? ⟨w8.heap.size, 0, none⟩ = some (.slice Ar30 V.length cr30) := cell_of_row _ _ 0 _ _ _ Kh0_11.out
  have ch0_1 : w9.cell? ⟨w8.heap.size, 1, none⟩ = some (.slice Ar31 U.length cr31) := cell_of_row _ _ 1 _ _ _ Kh0_11.out
  go_wp2_with fail
  clear cw0_0 cw0_1 cg0_0 cg0_1 ch0_0 ch0_1 hw11
  refine (eqDisk_self Ar30 Ar31 Ar10 Ar11 V U cr30 cr31 cr10 cr11 _ (OwnR.rd fSt_len Hr30_12.out) (OwnR.rd fPu_len Hr31_12.out) (OwnR.rd fSt_len Hr10_12.out) (OwnR.rd fPu_len Hr11_12.out) (by omega) (by omega)).mono ?_
  rintro e w10 ⟨rfl, hbq⟩
  have Hr10_13 := Lib.hid (Hr10_12.out.below hbq)
  have Hr11_13 := Lib.hid (Hr11_12.out.below hbq)
  have Hr20_13 := Lib.hid (Hr20_12.out.below hbq)
  have Hr21_13 := Lib.hid (Hr21_12.out.below hbq)
  have Hr30_13 := Lib.hid (Hr30_12.out.below hbq)
  have Hr31_13 := Lib.hid (Hr31_12.out.below hbq)
  have Kw0_13 := Lib.hid ((hbq.block _ (heap_lt Kw0_12.out)).trans Kw0_12.out)
  have Kg0_13 := Lib.hid ((hbq.block _ (heap_lt Kg0_12.out)).trans Kg0_12.out)
  have Kh0_13 := Lib.hid ((hbq.block _ (heap_lt Kh0_11.out)).trans Kh0_11.out)
  have HB_13 := Lib.hid (below_more HB_12.out hbq)
  clear Hr10_12 Hr11_12 Hr20_12 Hr21_12 Hr30_12 Hr31_12 Kw0_12 Kg0_12 Kh0_11 HB_12
  clear hbq
  clear Hr10_13 Hr11_13
  clear Kw0_13
  clear Hr30_13 Hr31_13
  clear Kh0_13
  have cg0_0 : w10.cell? ⟨w3.heap.size, 0, none⟩ = some (.slice Ar20 V.length cr20) := cell_of_row _ _ 0 _ _ _ Kg0_13.out
  have cg0_1 : w10.cell? ⟨w3.heap.size, 1, none⟩ = some (.slice Ar21 U.length cr21) := cell_of_row _ _ 1 _ _ _ Kg0_13.out
  go_wp2_with fail
  clear cg0_0 cg0_1
  refine (heldDisk_any Ar20 Ar21 1 V.length U.length cr20 cr21 _ (OwnR.rd fSt_len Hr20_13.out) (OwnR.rd fPu_len Hr21_13.out) (by omega) (by omega) (by omega) (by omega)).mono ?_
  rintro e w11 ⟨rfl, hbq⟩
  have Hr20_14 := Lib.hid (Hr20_13.out.below hbq)
  have Hr21_14 := Lib.hid (Hr21_13.out.below hbq)
  have Kg0_14 := Lib.hid ((hbq.block _ (heap_lt Kg0_13.out)).trans Kg0_13.out)
  have HB_14 := Lib.hid (below_more HB_13.out hbq)
  clear Hr20_13 Hr21_13 Kg0_13 HB_13
  clear hbq
  go_wp2_with fail
  go_ret
  exact ⟨rfl, HB_14.out⟩
end Go.Proofs.Ytkmlgeicmnbkiaa
