/-
  Exact laws of chapter 10, walked, whatever the program's own texts are: ReadLog, NextNo, CrashLog, Append.
-/
import Derived.Test.YthbjcipdneminaaGQ
import Derived.Test.YthbjcipdneminaaVO
namespace Go.Proofs.Ythbjcipdneminaa
open Go.RowKit

theorem ap_len (ss : List ByteArray) (ps : List (Int × ByteArray)) (r : Rec) : (apS ss ps r).length ≤ 12 ∧ (apP ss ps r).length ≤ 41 := by
  unfold apS apP; split
  · exact pu_len ss ps _ _
  · simp
set_option maxRecDepth 100000 in
set_option maxHeartbeats 8000000 in
theorem append_law {K : World → Prop} (hK : Stays5 K) (hI : ∀ (A B : Option Addr) (ss : List ByteArray) (ps : List (Int × ByteArray)) (ca cb : Nat) (no : Int) (kd : Int) (na : Int) (nb : Int) (w : World), K w → DiskIn w A B ss ps → Lies9 A ca → Lies9 B cb → Calls Try.prog 12 #[diskV (.slice A ss.length ca) (.slice B ps.length cb), .int .i64 no, .int .i64 kd, .int .i64 na, .int .i64 nb] w fun e w' => ∃ v1 v2, e = .returned (.tuple #[diskV v1 v2, .bool (apOkB ss ps (no, kd, na, nb))]) ∧ OwnD w' w.heap.size v1 v2 (apS ss ps (no, kd, na, nb)) (apP ss ps (no, kd, na, nb)) ∧ Below w.heap.size w w')
    (A B : Option Addr) (ss : List ByteArray) (ps : List (Int × ByteArray)) (ca cb : Nat) (no : Int) (kd : Int) (na : Int) (nb : Int) (w : World) (hw : K w) (hA : Strs w A ss) (hB : Puts w B ps) (hl : ss.length ≤ 9223372036854775807) (hz : ∀ s ∈ ss, s.size ≤ 9223372036854775807) (hl2 : ps.length ≤ 9223372036854775807) (hz2 : ∀ p ∈ ps, p.2.size ≤ 9223372036854775807) : Calls Try.prog 4 #[diskV (.slice A ss.length ca) (.slice B ps.length cb), .int .i64 no, .int .i64 kd, .int .i64 na, .int .i64 nb] w fun e w' => e = .returned (.bool true) ∧ Below w.heap.size w w' := by
  have HRA := Lib.hid hA
  have HRB := Lib.hid hB
  have HZ := Lib.hid hz
  have HZ2 := Lib.hid hz2
  have HI := Lib.hid (fun A B ca cb w hk hd hA hB => hI A B ss ps ca cb no kd na nb w hk hd hA hB)
  have HW := Lib.hid hw
  have HS0 := Lib.hid (fun A B ca cb w hd hA hB => sAppend_any A B ss ps ca cb no kd na nb w hd hA hB)
  clear hI hw hA hB hz hz2
  have hVU := ap_len ss ps (no, kd, na, nb)
  generalize apS ss ps (no, kd, na, nb) = V at *
  generalize apP ss ps (no, kd, na, nb) = U at *
  generalize apOkB ss ps (no, kd, na, nb) = bb at *
  obtain ⟨w1, hw1⟩ : ∃ wn, w.alloc (.cells #[.slice A ss.length ca, .slice B ps.length cb] 32) = wn := ⟨_, rfl⟩
  have hbx : Below w.heap.size w w1 := by rw [← hw1]; exact gAlloc _ _
  have KX : w1.heap[w.heap.size]? = some (.cells #[.slice A ss.length ca, .slice B ps.length cb] 32 (0, 0)) := by rw [← hw1]; exact heap_alloc_new _ _
  have HB_2 := Lib.hid (hbx)
  have KaD_1 := Lib.hid KX
  clear hbx KX
  go_enter Try.func4, Try.ntmps4
  have caD_0 : w1.cell? ⟨w.heap.size, 0, none⟩ = some (.slice A ss.length ca) := cell_of_row _ _ 0 _ _ _ KaD_1.out
  have caD_1 : w1.cell? ⟨w.heap.size, 1, none⟩ = some (.slice B ps.length cb) := cell_of_row _ _ 1 _ _ _ KaD_1.out
  go_wp2_with fail
  clear caD_0 caD_1 hw1
  refine (szDisk_any A B ss ps ca cb 1048576 _ (HRA.out.below HB_2.out) (HRB.out.below HB_2.out) hl HZ.out hl2 HZ2.out (by omega) (by omega)).mono ?_
  rintro e w2 ⟨rz, rfl, hrz, hbq⟩
  have KaD_3 := Lib.hid ((hbq.block _ (heap_lt KaD_1.out)).trans KaD_1.out)
  have HB_3 := Lib.hid (below_more HB_2.out hbq)
  clear KaD_1 HB_2
  clear hbq
  rcases hrz with hrz | ⟨hrz0, hrz1, hrz2, hrz3⟩
  · go_wp2_with fail
    go_ret
    exact ⟨rfl, HB_3.out⟩
  have HZs := Lib.hid hrz2
  have HZp := Lib.hid hrz3
  have hls : ss.length ≤ 1048576 := by omega
  have hlp : ps.length ≤ 1048576 := by omega
  have hlt : ss.length + ps.length ≤ 1048576 := by omega
  have hrzn : ¬ rz < 0 := by omega
  clear hrz2 hrz3 HZ HZ2 hl hl2 hrz1
  have caD_0 : w2.cell? ⟨w.heap.size, 0, none⟩ = some (.slice A ss.length ca) := cell_of_row _ _ 0 _ _ _ KaD_3.out
  have caD_1 : w2.cell? ⟨w.heap.size, 1, none⟩ = some (.slice B ps.length cb) := cell_of_row _ _ 1 _ _ _ KaD_3.out
  go_wp2_with fail
  clear caD_0 caD_1
  refine (toDisk_any A B ss ps ca cb _ (HRA.out.below HB_3.out) (HRB.out.below HB_3.out) (by omega) (by omega)).mono ?_
  rintro e w3 ⟨vt10, vt11, rfl, hot10, hot11, hat1, hbt1⟩
  obtain ⟨At10, ct10, hvt10, hcapt10, _⟩ := OwnR.form fSt_len hot10
  subst hvt10
  obtain ⟨At11, ct11, hvt11, hcapt11, _⟩ := OwnR.form fPu_len hot11
  subst hvt11
  have HNX_aD_t10 := Lib.hid (fun g hg => Nat.ne_of_gt (Nat.lt_of_lt_of_le (heap_lt KaD_3.out) (hot10.lt g hg).1))
  have HNX_aD_t11 := Lib.hid (fun g hg => Nat.ne_of_gt (Nat.lt_of_lt_of_le (heap_lt KaD_3.out) (hot11.lt g hg).1))
  have HAp_t10_t11 := Lib.hid hat1
  have Ht10_4 := Lib.hid (hot10.lower HB_3.out.size)
  have Ht11_4 := Lib.hid (hot11.lower HB_3.out.size)
  have KaD_4 := Lib.hid ((hbt1.block _ (heap_lt KaD_3.out)).trans KaD_3.out)
  have HB_4 := Lib.hid (below_more HB_3.out hbt1)
  clear KaD_3 HB_3 hot10 hot11 hat1 hbt1
  have caD_0 : w3.cell? ⟨w.heap.size, 0, none⟩ = some (.slice A ss.length ca) := cell_of_row _ _ 0 _ _ _ KaD_4.out
  have caD_1 : w3.cell? ⟨w.heap.size, 1, none⟩ = some (.slice B ps.length cb) := cell_of_row _ _ 1 _ _ _ KaD_4.out
  go_wp2_with fail
  clear caD_0 caD_1
  refine (HS0.out At10 At11 ct10 ct11 _ ⟨(OwnR.rd fSt_len Ht10_4.out), (OwnR.rd fPu_len Ht11_4.out), by omega, by omega, HZs.out, HZp.out⟩ (ownR_lies Ht10_4.out) (ownR_lies Ht11_4.out)).mono ?_
  rintro e w4 ⟨vr20, vr21, rfl, hpk, hbr2⟩
  obtain ⟨hor20, hor21, har2⟩ := hpk
  obtain ⟨Ar20, cr20, hvr20, hcapr20, _⟩ := OwnR.form fSt_len hor20
  subst hvr20
  obtain ⟨Ar21, cr21, hvr21, hcapr21, _⟩ := OwnR.form fPu_len hor21
  subst hvr21
  have HAp_t10_r20 := Lib.hid (apart5 (fun k hk => (Ht10_4.out.lt k hk).2) (fun k hk => (hor20.lt k hk).1))
  have HAp_t11_r20 := Lib.hid (apart5 (fun k hk => (Ht11_4.out.lt k hk).2) (fun k hk => (hor20.lt k hk).1))
  have HAp_t10_r21 := Lib.hid (apart5 (fun k hk => (Ht10_4.out.lt k hk).2) (fun k hk => (hor21.lt k hk).1))
  have HAp_t11_r21 := Lib.hid (apart5 (fun k hk => (Ht11_4.out.lt k hk).2) (fun k hk => (hor21.lt k hk).1))
  have HNX_aD_r20 := Lib.hid (fun g hg => Nat.ne_of_gt (Nat.lt_of_lt_of_le (heap_lt KaD_4.out) (hor20.lt g hg).1))
  have HNX_aD_r21 := Lib.hid (fun g hg => Nat.ne_of_gt (Nat.lt_of_lt_of_le (heap_lt KaD_4.out) (hor21.lt g hg).1))
  have HAp_r20_r21 := Lib.hid har2
  have Ht10_5 := Lib.hid (Ht10_4.out.below hbr2)
  have Ht11_5 := Lib.hid (Ht11_4.out.below hbr2)
  have Hr20_5 := Lib.hid (hor20.lower HB_4.out.size)
  have Hr21_5 := Lib.hid (hor21.lower HB_4.out.size)
  have KaD_5 := Lib.hid ((hbr2.block _ (heap_lt KaD_4.out)).trans KaD_4.out)
  have HB_5 := Lib.hid (below_more HB_4.out hbr2)
  clear Ht10_4 Ht11_4 KaD_4 HB_4 hor20 hor21 har2 hbr2
  obtain ⟨w5, hw6⟩ : ∃ wn, w4.alloc (.cells #[.slice Ar20 V.length cr20, .slice Ar21 U.length cr21] 36) = wn := ⟨_, rfl⟩
  have hbx : Below w4.heap.size w4 w5 := by rw [← hw6]; exact gAlloc _ _
  have KX : w5.heap[w4.heap.size]? = some (.cells #[.slice Ar20 V.length cr20, .slice Ar21 U.length cr21] 36 (0, 0)) := by rw [← hw6]; exact heap_alloc_new _ _
  have HNX_w0_t10 := Lib.hid (fun g hg => Nat.ne_of_lt (Ht10_5.out.lt g hg).2)
  have HNX_w0_t11 := Lib.hid (fun g hg => Nat.ne_of_lt (Ht11_5.out.lt g hg).2)
  have HNX_w0_r20 := Lib.hid (fun g hg => Nat.ne_of_lt (Hr20_5.out.lt g hg).2)
  have HNX_w0_r21 := Lib.hid (fun g hg => Nat.ne_of_lt (Hr21_5.out.lt g hg).2)
  have Ht10_7 := Lib.hid (Ht10_5.out.below hbx)
  have Ht11_7 := Lib.hid (Ht11_5.out.below hbx)
  have Hr20_7 := Lib.hid (Hr20_5.out.below hbx)
  have Hr21_7 := Lib.hid (Hr21_5.out.below hbx)
  have KaD_7 := Lib.hid ((hbx.block _ (heap_lt KaD_5.out)).trans KaD_5.out)
  have HB_7 := Lib.hid (below_more HB_5.out hbx)
  clear Ht10_5 Ht11_5 Hr20_5 Hr21_5 KaD_5 HB_5
  have Kw0_6 := Lib.hid KX
  clear hbx KX
  clear Ht10_7 Ht11_7
  have caD_0 : w5.cell? ⟨w.heap.size, 0, none⟩ = some (.slice A ss.length ca) := cell_of_row _ _ 0 _ _ _ KaD_7.out
  have caD_1 : w5.cell? ⟨w.heap.size, 1, none⟩ = some (.slice B ps.length cb) := cell_of_row _ _ 1 _ _ _ KaD_7.out
  have cw0_0 : w5.cell? ⟨w4.heap.size, 0, none⟩ = some (.slice Ar20 V.length cr20) := cell_of_row _ _ 0 _ _ _ Kw0_6.out
  have cw0_1 : w5.cell? ⟨w4.heap.size, 1, none⟩ = some (.slice Ar21 U.length cr21) := cell_of_row _ _ 1 _ _ _ Kw0_6.out
  go_wp2_with fail
  clear caD_0 caD_1 cw0_0 cw0_1 hw6
  refine (toDisk_any A B ss ps ca cb _ (HRA.out.below HB_7.out) (HRB.out.below HB_7.out) (by omega) (by omega)).mono ?_
  rintro e w6 ⟨vx00, vx01, rfl, hox00, hox01, hax0, hbx0⟩
  obtain ⟨Ax00, cx00, hvx00, hcapx00, _⟩ := OwnR.form fSt_len hox00
  subst hvx00
  obtain ⟨Ax01, cx01, hvx01, hcapx01, _⟩ := OwnR.form fPu_len hox01
  subst hvx01
  have HAp_r20_x00 := Lib.hid (apart5 (fun k hk => (Hr20_7.out.lt k hk).2) (fun k hk => (hox00.lt k hk).1))
  have HAp_r21_x00 := Lib.hid (apart5 (fun k hk => (Hr21_7.out.lt k hk).2) (fun k hk => (hox00.lt k hk).1))
  have HAp_r20_x01 := Lib.hid (apart5 (fun k hk => (Hr20_7.out.lt k hk).2) (fun k hk => (hox01.lt k hk).1))
  have HAp_r21_x01 := Lib.hid (apart5 (fun k hk => (Hr21_7.out.lt k hk).2) (fun k hk => (hox01.lt k hk).1))
  have HNX_aD_x00 := Lib.hid (fun g hg => Nat.ne_of_gt (Nat.lt_of_lt_of_le (heap_lt KaD_7.out) (hox00.lt g hg).1))
  have HNX_w0_x00 := Lib.hid (fun g hg => Nat.ne_of_gt (Nat.lt_of_lt_of_le (heap_lt Kw0_6.out) (hox00.lt g hg).1))
  have HNX_aD_x01 := Lib.hid (fun g hg => Nat.ne_of_gt (Nat.lt_of_lt_of_le (heap_lt KaD_7.out) (hox01.lt g hg).1))
  have HNX_w0_x01 := Lib.hid (fun g hg => Nat.ne_of_gt (Nat.lt_of_lt_of_le (heap_lt Kw0_6.out) (hox01.lt g hg).1))
  have HAp_x00_x01 := Lib.hid hax0
  have Hr20_8 := Lib.hid (Hr20_7.out.below hbx0)
  have Hr21_8 := Lib.hid (Hr21_7.out.below hbx0)
  have Hx00_8 := Lib.hid (hox00.lower HB_7.out.size)
  have Hx01_8 := Lib.hid (hox01.lower HB_7.out.size)
  have KaD_8 := Lib.hid ((hbx0.block _ (heap_lt KaD_7.out)).trans KaD_7.out)
  have Kw0_8 := Lib.hid ((hbx0.block _ (heap_lt Kw0_6.out)).trans Kw0_6.out)
  have HB_8 := Lib.hid (below_more HB_7.out hbx0)
  clear Hr20_7 Hr21_7 KaD_7 Kw0_6 HB_7 hox00 hox01 hax0 hbx0
  obtain ⟨w7, hw9⟩ : ∃ wn, w6.alloc (.cells #[.slice Ax00 ss.length cx00, .slice Ax01 ps.length cx01] 36) = wn := ⟨_, rfl⟩
  have hbx : Below w6.heap.size w6 w7 := by rw [← hw9]; exact gAlloc _ _
  have KX : w7.heap[w6.heap.size]? = some (.cells #[.slice Ax00 ss.length cx00, .slice Ax01 ps.length cx01] 36 (0, 0)) := by rw [← hw9]; exact heap_alloc_new _ _
  have HNX_x0_r20 := Lib.hid (fun g hg => Nat.ne_of_lt (Hr20_8.out.lt g hg).2)
  have HNX_x0_r21 := Lib.hid (fun g hg => Nat.ne_of_lt (Hr21_8.out.lt g hg).2)
  have HNX_x0_x00 := Lib.hid (fun g hg => Nat.ne_of_lt (Hx00_8.out.lt g hg).2)
  have HNX_x0_x01 := Lib.hid (fun g hg => Nat.ne_of_lt (Hx01_8.out.lt g hg).2)
  have Hr20_10 := Lib.hid (Hr20_8.out.below hbx)
  have Hr21_10 := Lib.hid (Hr21_8.out.below hbx)
  have Hx00_10 := Lib.hid (Hx00_8.out.below hbx)
  have Hx01_10 := Lib.hid (Hx01_8.out.below hbx)
  have KaD_10 := Lib.hid ((hbx.block _ (heap_lt KaD_8.out)).trans KaD_8.out)
  have Kw0_10 := Lib.hid ((hbx.block _ (heap_lt Kw0_8.out)).trans Kw0_8.out)
  have HB_10 := Lib.hid (below_more HB_8.out hbx)
  clear Hr20_8 Hr21_8 Hx00_8 Hx01_8 KaD_8 Kw0_8 HB_8
  have Kx0_9 := Lib.hid KX
  clear hbx KX
  have caD_0 : w7.cell? ⟨w.heap.size, 0, none⟩ = some (.slice A ss.length ca) := cell_of_row _ _ 0 _ _ _ KaD_10.out
  have caD_1 : w7.cell? ⟨w.heap.size, 1, none⟩ = some (.slice B ps.length cb) := cell_of_row _ _ 1 _ _ _ KaD_10.out
  have cw0_0 : w7.cell? ⟨w4.heap.size, 0, none⟩ = some (.slice Ar20 V.length cr20) := cell_of_row _ _ 0 _ _ _ Kw0_10.out
  have cw0_1 : w7.cell? ⟨w4.heap.size, 1, none⟩ = some (.slice Ar21 U.length cr21) := cell_of_row _ _ 1 _ _ _ Kw0_10.out
  have cx0_0 : w7.cell? ⟨w6.heap.size, 0, none⟩ = some (.slice Ax00 ss.length cx00) := cell_of_row _ _ 0 _ _ _ Kx0_9.out
  have cx0_1 : w7.cell? ⟨w6.heap.size, 1, none⟩ = some (.slice Ax01 ps.length cx01) := cell_of_row _ _ 1 _ _ _ Kx0_9.out
  go_wp2_with fail
  clear caD_0 caD_1 cw0_0 cw0_1 cx0_0 cx0_1 hw9
  refine (HI.out Ax00 Ax01 cx00 cx01 _ (hK _ _ HW.out HB_10.out) ⟨(OwnR.rd fSt_len Hx00_10.out), (OwnR.rd fPu_len Hx01_10.out), by omega, by omega, HZs.out, HZp.out⟩ (ownR_lies Hx00_10.out) (ownR_lies Hx01_10.out)).mono ?_
  rintro e w8 ⟨vr30, vr31, rfl, hpk, hbr3⟩
  obtain ⟨hor30, hor31, har3⟩ := hpk
  obtain ⟨Ar30, cr30, hvr30, hcapr30, _⟩ := OwnR.form fSt_len hor30
  subst hvr30
  obtain ⟨Ar31, cr31, hvr31, hcapr31, _⟩ := OwnR.form fPu_len hor31
  subst hvr31
  have HAp_r20_r30 := Lib.hid (apart5 (fun k hk => (Hr20_10.out.lt k hk).2) (fun k hk => (hor30.lt k hk).1))
  have HAp_r21_r30 := Lib.hid (apart5 (fun k hk => (Hr21_10.out.lt k hk).2) (fun k hk => (hor30.lt k hk).1))
  have HAp_x00_r30 := Lib.hid (apart5 (fun k hk => (Hx00_10.out.lt k hk).2) (fun k hk => (hor30.lt k hk).1))
  have HAp_x01_r30 := Lib.hid (apart5 (fun k hk => (Hx01_10.out.lt k hk).2) (fun k hk => (hor30.lt k hk).1))
  have HAp_r20_r31 := Lib.hid (apart5 (fun k hk => (Hr20_10.out.lt k hk).2) (fun k hk => (hor31.lt k hk).1))
  have HAp_r21_r31 := Lib.hid (apart5 (fun k hk => (Hr21_10.out.lt k hk).2) (fun k hk => (hor31.lt k hk).1))
  have HAp_x00_r31 := Lib.hid (apart5 (fun k hk => (Hx00_10.out.lt k hk).2) (fun k hk => (hor31.lt k hk).1))
  have HAp_x01_r31 := Lib.hid (apart5 (fun k hk => (Hx01_10.out.lt k hk).2) (fun k hk => (hor31.lt k hk).1))
  have HNX_aD_r30 := Lib.hid (fun g hg => Nat.ne_of_gt (Nat.lt_of_lt_of_le (heap_lt KaD_10.out) (hor30.lt g hg).1))
  have HNX_w0_r30 := Lib.hid (fun g hg => Nat.ne_of_gt (Nat.lt_of_lt_of_le (heap_lt Kw0_10.out) (hor30.lt g hg).1))
  have HNX_x0_r30 := Lib.hid (fun g hg => Nat.ne_of_gt (Nat.lt_of_lt_of_le (heap_lt Kx0_9.out) (hor30.lt g hg).1))
  have HNX_aD_r31 := Lib.hid (fun g hg => Nat.ne_of_gt (Nat.lt_of_lt_of_le (heap_lt KaD_10.out) (hor31.lt g hg).1))
  have HNX_w0_r31 := Lib.hid (fun g hg => Nat.ne_of_gt (Nat.lt_of_lt_of_le (heap_lt Kw0_10.out) (hor31.lt g hg).1))
  have HNX_x0_r31 := Lib.hid (fun g hg => Nat.ne_of_gt (Nat.lt_of_lt_of_le (heap_lt Kx0_9.out) (hor31.lt g hg).1))
  have HAp_r30_r31 := Lib.hid har3
  have Hr20_11 := Lib.hid (Hr20_10.out.below hbr3)
  have Hr21_11 := Lib.hid (Hr21_10.out.below hbr3)
  have Hx00_11 := Lib.hid (Hx00_10.out.below hbr3)
  have Hx01_11 := Lib.hid (Hx01_10.out.below hbr3)
  have Hr30_11 := Lib.hid (hor30.lower HB_10.out.size)
  have Hr31_11 := Lib.hid (hor31.lower HB_10.out.size)
  have KaD_11 := Lib.hid ((hbr3.block _ (heap_lt KaD_10.out)).trans KaD_10.out)
  have Kw0_11 := Lib.hid ((hbr3.block _ (heap_lt Kw0_10.out)).trans Kw0_10.out)
  have Kx0_11 := Lib.hid ((hbr3.block _ (heap_lt Kx0_9.out)).trans Kx0_9.out)
  have HB_11 := Lib.hid (below_more HB_10.out hbr3)
  clear Hr20_10 Hr21_10 Hx00_10 Hx01_10 KaD_10 Kw0_10 Kx0_9 HB_10 hor30 hor31 har3 hbr3
  obtain ⟨w9, hw12⟩ : ∃ wn, w8.alloc (.cells #[.slice Ar30 V.length cr30, .slice Ar31 U.length cr31] 36) = wn := ⟨_, rfl⟩
  have hbx : Below w8.heap.size w8 w9 := by rw [← hw12]; exact gAlloc _ _
  have KX : w9.heap[w8.heap.size]? = some (.cells #[.slice Ar30 V.length cr30, .slice Ar31 U.length cr31] 36 (0, 0)) := by rw [← hw12]; exact heap_alloc_new _ _
  have HNX_g0_r20 := Lib.hid (fun g hg => Nat.ne_of_lt (Hr20_11.out.lt g hg).2)
  have HNX_g0_r21 := Lib.hid (fun g hg => Nat.ne_of_lt (Hr21_11.out.lt g hg).2)
  have HNX_g0_x00 := Lib.hid (fun g hg => Nat.ne_of_lt (Hx00_11.out.lt g hg).2)
  have HNX_g0_x01 := Lib.hid (fun g hg => Nat.ne_of_lt (Hx01_11.out.lt g hg).2)
  have HNX_g0_r30 := Lib.hid (fun g hg => Nat.ne_of_lt (Hr30_11.out.lt g hg).2)
  have HNX_g0_r31 := Lib.hid (fun g hg => Nat.ne_of_lt (Hr31_11.out.lt g hg).2)
  have Hr20_13 := Lib.hid (Hr20_11.out.below hbx)
  have Hr21_13 := Lib.hid (Hr21_11.out.below hbx)
  have Hx00_13 := Lib.hid (Hx00_11.out.below hbx)
  have Hx01_13 := Lib.hid (Hx01_11.out.below hbx)
  have Hr30_13 := Lib.hid (Hr30_11.out.below hbx)
  have Hr31_13 := Lib.hid (Hr31_11.out.below hbx)
  have KaD_13 := Lib.hid ((hbx.block _ (heap_lt KaD_11.out)).trans KaD_11.out)
  have Kw0_13 := Lib.hid ((hbx.block _ (heap_lt Kw0_11.out)).trans Kw0_11.out)
  have Kx0_13 := Lib.hid ((hbx.block _ (heap_lt Kx0_11.out)).trans Kx0_11.out)
  have HB_13 := Lib.hid (below_more HB_11.out hbx)
  clear Hr20_11 Hr21_11 Hx00_11 Hx01_11 Hr30_11 Hr31_11 KaD_11 Kw0_11 Kx0_11 HB_11
  have Kg0_12 := Lib.hid KX
  clear hbx KX
  have caD_0 : w9.cell? ⟨w.heap.size, 0, none⟩ = some (.slice A ss.length ca) := cell_of_row _ _ 0 _ _ _ KaD_13.out
  have caD_1 : w9.cell? ⟨w.heap.size, 1, none⟩ = some (.slice B ps.length cb) := cell_of_row _ _ 1 _ _ _ KaD_13.out
  have cw0_0 : w9.cell? ⟨w4.heap.size, 0, none⟩ = some (.slice Ar20 V.length cr20) := cell_of_row _ _ 0 _ _ _ Kw0_13.out
  have cw0_1 : w9.cell? ⟨w4.heap.size, 1, none⟩ = some (.slice Ar21 U.length cr21) := cell_of_row _ _ 1 _ _ _ Kw0_13.out
  have cx0_0 : w9.cell? ⟨w6.heap.size, 0, none⟩ = some (.slice Ax00 ss.length cx00) := cell_of_row _ _ 0 _ _ _ Kx0_13.out
  have cx0_1 : w9.cell? ⟨w6.heap.size, 1, none⟩ = some (.slice Ax01 ps.length cx01) := cell_of_row _ _ 1 _ _ _ Kx0_13.out
  have cg0_0 : w9.cell? ⟨w8.heap.size, 0, none⟩ = some (.slice Ar30 V.length cr30) := cell_of_row _ _ 0 _ _ _ Kg0_12.out
  have cg0_1 : w9.cell? ⟨w8.heap.size, 1, none⟩ = some (.slice Ar31 U.length cr31) := cell_of_row _ _ 1 _ _ _ Kg0_12.out
  go_wp2_with fail
  clear caD_0 caD_1 cw0_0 cw0_1 cx0_0 cx0_1 cg0_0 cg0_1 hw12
  refine (eqDisk_self Ar30 Ar31 Ar20 Ar21 V U cr30 cr31 cr20 cr21 _ (OwnR.rd fSt_len Hr30_13.out) (OwnR.rd fPu_len Hr31_13.out) (OwnR.rd fSt_len Hr20_13.out) (OwnR.rd fPu_len Hr21_13.out) (by omega) (by omega)).mono ?_
  rintro e w10 ⟨rfl, hbq⟩
  have Hr20_14 := Lib.hid (Hr20_13.out.below hbq)
  have Hr21_14 := Lib.hid (Hr21_13.out.below hbq)
  have Hx00_14 := Lib.hid (Hx00_13.out.below hbq)
  have Hx01_14 := Lib.hid (Hx01_13.out.below hbq)
  have Hr30_14 := Lib.hid (Hr30_13.out.below hbq)
  have Hr31_14 := Lib.hid (Hr31_13.out.below hbq)
  have KaD_14 := Lib.hid ((hbq.block _ (heap_lt KaD_13.out)).trans KaD_13.out)
  have Kw0_14 := Lib.hid ((hbq.block _ (heap_lt Kw0_13.out)).trans Kw0_13.out)
  have Kx0_14 := Lib.hid ((hbq.block _ (heap_lt Kx0_13.out)).trans Kx0_13.out)
  have Kg0_14 := Lib.hid ((hbq.block _ (heap_lt Kg0_12.out)).trans Kg0_12.out)
  have HB_14 := Lib.hid (below_more HB_13.out hbq)
  clear Hr20_13 Hr21_13 Hx00_13 Hx01_13 Hr30_13 Hr31_13 KaD_13 Kw0_13 Kx0_13 Kg0_12 HB_13
  clear hbq
  have caD_0 : w10.cell? ⟨w.heap.size, 0, none⟩ = some (.slice A ss.length ca) := cell_of_row _ _ 0 _ _ _ KaD_14.out
  have caD_1 : w10.cell? ⟨w.heap.size, 1, none⟩ = some (.slice B ps.length cb) := cell_of_row _ _ 1 _ _ _ KaD_14.out
  have cw0_0 : w10.cell? ⟨w4.heap.size, 0, none⟩ = some (.slice Ar20 V.length cr20) := cell_of_row _ _ 0 _ _ _ Kw0_14.out
  have cw0_1 : w10.cell? ⟨w4.heap.size, 1, none⟩ = some (.slice Ar21 U.length cr21) := cell_of_row _ _ 1 _ _ _ Kw0_14.out
  have cx0_0 : w10.cell? ⟨w6.heap.size, 0, none⟩ = some (.slice Ax00 ss.length cx00) := cell_of_row _ _ 0 _ _ _ Kx0_14.out
  have cx0_1 : w10.cell? ⟨w6.heap.size, 1, none⟩ = some (.slice Ax01 ps.length cx01) := cell_of_row _ _ 1 _ _ _ Kx0_14.out
  have cg0_0 : w10.cell? ⟨w8.heap.size, 0, none⟩ = some (.slice Ar30 V.length cr30) := cell_of_row _ _ 0 _ _ _ Kg0_14.out
  have cg0_1 : w10.cell? ⟨w8.heap.size, 1, none⟩ = some (.slice Ar31 U.length cr31) := cell_of_row _ _ 1 _ _ _ Kg0_14.out
  go_wp2_with fail
  go_region_held3 (fun w' => w'.cell? ⟨w6.heap.size, 0, none⟩ = some (.slice Ax00 ss.length cx00) ∧ w'.cell? ⟨w6.heap.size, 1, none⟩ = some (.slice Ax01 ps.length cx01) ∧ w'.cell? ⟨w.heap.size, 0, none⟩ = some (.slice A ss.length ca) ∧ w'.cell? ⟨w.heap.size, 1, none⟩ = some (.slice B ps.length cb)) (first | exact ⟨cx0_0, cx0_1, caD_0, caD_1⟩ | exact ⟨rr0, rr1, rr2, rr3⟩ | exact ⟨srr0, srr1, srr2, srr3⟩ | go_keep) (first
    | (go_at_call 11; refine (toDisk_any A B ss ps ca cb _ ((HRA.out.below HB_14.out).below gDrew) ((HRB.out.below HB_14.out).below gDrew) (by omega) (by omega)).mono ?_; rintro e we ⟨ve0, ve1, rfl, hoe0, hoe1, hae, hbe⟩; have rr0 := (hbe.cell (World.block_lt_of_cell? _ _ cx0_0)).trans cx0_0; have rr1 := (hbe.cell (World.block_lt_of_cell? _ _ cx0_1)).trans cx0_1; have rr2 := (hbe.cell (World.block_lt_of_cell? _ _ caD_0)).trans caD_0; have rr3 := (hbe.cell (World.block_lt_of_cell? _ _ caD_1)).trans caD_1; obtain ⟨Ae0, ce0, rfl, hcape0, _⟩ := OwnR.form fSt_len hoe0; obtain ⟨Ae1, ce1, rfl, hcape1, _⟩ := OwnR.form fPu_len hoe1)
    | (go_at_call 13; refine (eqDisk_self Ax00 Ax01 Ae0 Ae1 ss ps cx00 cx01 ce0 ce1 _ (OwnR.rd fSt_len (Lib.hid ((Hx00_14.out.below gDrew).below hbe)).out) (OwnR.rd fPu_len (Lib.hid ((Hx01_14.out.below gDrew).below hbe)).out) (OwnR.rd fSt_len (Lib.hid hoe0).out) (OwnR.rd fPu_len (Lib.hid hoe1).out) (by omega) (by omega)).mono ?_; rintro e w11 ⟨rfl, hbf⟩; have srr0 := (hbf.cell (World.block_lt_of_cell? _ _ rr0)).trans rr0; have srr1 := (hbf.cell (World.block_lt_of_cell? _ _ rr1)).trans rr1; have srr2 := (hbf.cell (World.block_lt_of_cell? _ _ rr2)).trans rr2; have srr3 := (hbf.cell (World.block_lt_of_cell? _ _ rr3)).trans rr3))
  have hbq := below_more gDrew (below_more hbe hbf)
  clear srr0 srr1 srr2 srr3 rr0 rr1 rr2 rr3 caD_0 caD_1 cw0_0 cw0_1 cx0_0 cx0_1 cg0_0 cg0_1 hoe0 hoe1 hae
  have Hr20_15 := Lib.hid (Hr20_14.out.below hbq)
  have Hr21_15 := Lib.hid (Hr21_14.out.below hbq)
  have Hx00_15 := Lib.hid (Hx00_14.out.below hbq)
  have Hx01_15 := Lib.hid (Hx01_14.out.below hbq)
  have Hr30_15 := Lib.hid (Hr30_14.out.below hbq)
  have Hr31_15 := Lib.hid (Hr31_14.out.below hbq)
  have KaD_15 := Lib.hid ((hbq.block _ (heap_lt KaD_14.out)).trans KaD_14.out)
  have Kw0_15 := Lib.hid ((hbq.block _ (heap_lt Kw0_14.out)).trans Kw0_14.out)
  have Kx0_15 := Lib.hid ((hbq.block _ (heap_lt Kx0_14.out)).trans Kx0_14.out)
  have Kg0_15 := Lib.hid ((hbq.block _ (heap_lt Kg0_14.out)).trans Kg0_14.out)
  have HB_15 := Lib.hid (below_more HB_14.out hbq)
  clear Hr20_14 Hr21_14 Hx00_14 Hx01_14 Hr30_14 Hr31_14 KaD_14 Kw0_14 Kx0_14 Kg0_14 HB_14
  clear hbq hbe hbf
  have caD_0 : w11.cell? ⟨w.heap.size, 0, none⟩ = some (.slice A ss.length ca) := cell_of_row _ _ 0 _ _ _ KaD_15.out
  have caD_1 : w11.cell? ⟨w.heap.size, 1, none⟩ = some (.slice B ps.length cb) := cell_of_row _ _ 1 _ _ _ KaD_15.out
  have cw0_0 : w11.cell? ⟨w4.heap.size, 0, none⟩ = some (.slice Ar20 V.length cr20) := cell_of_row _ _ 0 _ _ _ Kw0_15.out
  have cw0_1 : w11.cell? ⟨w4.heap.size, 1, none⟩ = some (.slice Ar21 U.length cr21) := cell_of_row _ _ 1 _ _ _ Kw0_15.out
  have cx0_0 : w11.cell? ⟨w6.heap.size, 0, none⟩ = some (.slice Ax00 ss.length cx00) := cell_of_row _ _ 0 _ _ _ Kx0_15.out
  have cx0_1 : w11.cell? ⟨w6.heap.size, 1, none⟩ = some (.slice Ax01 ps.length cx01) := cell_of_row _ _ 1 _ _ _ Kx0_15.out
  have cg0_0 : w11.cell? ⟨w8.heap.size, 0, none⟩ = some (.slice Ar30 V.length cr30) := cell_of_row _ _ 0 _ _ _ Kg0_15.out
  have cg0_1 : w11.cell? ⟨w8.heap.size, 1, none⟩ = some (.slice Ar31 U.length cr31) := cell_of_row _ _ 1 _ _ _ Kg0_15.out
  go_wp2_with fail
  clear caD_0 caD_1 cw0_0 cw0_1 cx0_0 cx0_1 cg0_0 cg0_1
  refine (markDisk_any _ _ ss ps _ 1 _ Hx00_15.out Hx01_15.out HAp_x00_x01.out (by omega) (by omega) (by omega) (by omega)).mono ?_
  rintro e w12 ⟨rfl, hm0, hm1, wm, hg0, hg1⟩
  have Hr20_16 := Lib.hid ((Hr20_15.out.kept hg0 HAp_r20_x00.out).kept hg1 HAp_r20_x01.out)
  have Hr21_16 := Lib.hid ((Hr21_15.out.kept hg0 HAp_r21_x00.out).kept hg1 HAp_r21_x01.out)
  have Hr30_16 := Lib.hid ((Hr30_15.out.kept hg0 (gApart HAp_x00_r30.out)).kept hg1 (gApart HAp_x01_r30.out))
  have Hr31_16 := Lib.hid ((Hr31_15.out.kept hg0 (gApart HAp_x00_r31.out)).kept hg1 (gApart HAp_x01_r31.out))
  have KaD_16 := Lib.hid ((hg1.block _ (Nat.lt_of_lt_of_le (heap_lt KaD_15.out) hg0.size) (fun e => HNX_aD_x01.out _ e.symm rfl)).trans ((hg0.block _ (heap_lt KaD_15.out) (fun e => HNX_aD_x00.out _ e.symm rfl)).trans KaD_15.out))
  have Kw0_16 := Lib.hid ((hg1.block _ (Nat.lt_of_lt_of_le (heap_lt Kw0_15.out) hg0.size) (fun e => HNX_w0_x01.out _ e.symm rfl)).trans ((hg0.block _ (heap_lt Kw0_15.out) (fun e => HNX_w0_x00.out _ e.symm rfl)).trans Kw0_15.out))
  have Kx0_16 := Lib.hid ((hg1.block _ (Nat.lt_of_lt_of_le (heap_lt Kx0_15.out) hg0.size) (fun e => HNX_x0_x01.out _ e.symm rfl)).trans ((hg0.block _ (heap_lt Kx0_15.out) (fun e => HNX_x0_x00.out _ e.symm rfl)).trans Kx0_15.out))
  have Kg0_16 := Lib.hid ((hg1.block _ (Nat.lt_of_lt_of_le (heap_lt Kg0_15.out) hg0.size) (fun e => HNX_g0_x01.out _ e.symm rfl)).trans ((hg0.block _ (heap_lt Kg0_15.out) (fun e => HNX_g0_x00.out _ e.symm rfl)).trans Kg0_15.out))
  have HMb0 := Lib.hid (fun k hk => (Hx00_15.out.lt k hk).1)
  have HMb1 := Lib.hid (fun k hk => (Hx01_15.out.lt k hk).1)
  have HB_16 : Hid (Below w.heap.size w w12) := ((HB_15.out.grown hg0 HB_15.out.size HMb0.out).grown hg1 (HB_15.out.grown hg0 HB_15.out.size HMb0.out).size HMb1.out)
  have Hx00_16 := Lib.hid hm0
  have Hx01_16 := Lib.hid hm1
  clear Hr20_15 Hr21_15 Hr30_15 Hr31_15 KaD_15 Kw0_15 Kx0_15 Kg0_15 HB_15 Hx00_15 Hx01_15 hm0 hm1 hg0 hg1 HMb0 HMb1
  clear Hx00_16 Hx01_16
  clear Kx0_16
  have caD_0 : w12.cell? ⟨w.heap.size, 0, none⟩ = some (.slice A ss.length ca) := cell_of_row _ _ 0 _ _ _ KaD_16.out
  have caD_1 : w12.cell? ⟨w.heap.size, 1, none⟩ = some (.slice B ps.length cb) := cell_of_row _ _ 1 _ _ _ KaD_16.out
  have cw0_0 : w12.cell? ⟨w4.heap.size, 0, none⟩ = some (.slice Ar20 V.length cr20) := cell_of_row _ _ 0 _ _ _ Kw0_16.out
  have cw0_1 : w12.cell? ⟨w4.heap.size, 1, none⟩ = some (.slice Ar21 U.length cr21) := cell_of_row _ _ 1 _ _ _ Kw0_16.out
  have cg0_0 : w12.cell? ⟨w8.heap.size, 0, none⟩ = some (.slice Ar30 V.length cr30) := cell_of_row _ _ 0 _ _ _ Kg0_16.out
  have cg0_1 : w12.cell? ⟨w8.heap.size, 1, none⟩ = some (.slice Ar31 U.length cr31) := cell_of_row _ _ 1 _ _ _ Kg0_16.out
  go_wp2_with fail
  clear caD_0 caD_1 cw0_0 cw0_1 cg0_0 cg0_1
  refine (eqDisk_self Ar30 Ar31 Ar20 Ar21 V U cr30 cr31 cr20 cr21 _ (OwnR.rd fSt_len Hr30_16.out) (OwnR.rd fPu_len Hr31_16.out) (OwnR.rd fSt_len Hr20_16.out) (OwnR.rd fPu_len Hr21_16.out) (by omega) (by omega)).mono ?_
  rintro e w13 ⟨rfl, hbq⟩
  have Hr20_17 := Lib.hid (Hr20_16.out.below hbq)
  have Hr21_17 := Lib.hid (Hr21_16.out.below hbq)
  have Hr30_17 := Lib.hid (Hr30_16.out.below hbq)
  have Hr31_17 := Lib.hid (Hr31_16.out.below hbq)
  have KaD_17 := Lib.hid ((hbq.block _ (heap_lt KaD_16.out)).trans KaD_16.out)
  have Kw0_17 := Lib.hid ((hbq.block _ (heap_lt Kw0_16.out)).trans Kw0_16.out)
  have Kg0_17 := Lib.hid ((hbq.block _ (heap_lt Kg0_16.out)).trans Kg0_16.out)
  have HB_17 := Lib.hid (below_more HB_16.out hbq)
  clear Hr20_16 Hr21_16 Hr30_16 Hr31_16 KaD_16 Kw0_16 Kg0_16 HB_16
  clear hbq
  have caD_0 : w13.cell? ⟨w.heap.size, 0, none⟩ = some (.slice A ss.length ca) := cell_of_row _ _ 0 _ _ _ KaD_17.out
  have caD_1 : w13.cell? ⟨w.heap.size, 1, none⟩ = some (.slice B ps.length cb) := cell_of_row _ _ 1 _ _ _ KaD_17.out
  have cw0_0 : w13.cell? ⟨w4.heap.size, 0, none⟩ = some (.slice Ar20 V.length cr20) := cell_of_row _ _ 0 _ _ _ Kw0_17.out
  have cw0_1 : w13.cell? ⟨w4.heap.size, 1, none⟩ = some (.slice Ar21 U.length cr21) := cell_of_row _ _ 1 _ _ _ Kw0_17.out
  have cg0_0 : w13.cell? ⟨w8.heap.size, 0, none⟩ = some (.slice Ar30 V.length cr30) := cell_of_row _ _ 0 _ _ _ Kg0_17.out
  have cg0_1 : w13.cell? ⟨w8.heap.size, 1, none⟩ = some (.slice Ar31 U.length cr31) := cell_of_row _ _ 1 _ _ _ Kg0_17.out
  go_wp2_with fail
  clear caD_0 caD_1 cw0_0 cw0_1 cg0_0 cg0_1
  refine (markDisk_any _ _ V U _ 1 _ Hr30_17.out Hr31_17.out HAp_r30_r31.out (by omega) (by omega) (by omega) (by omega)).mono ?_
  rintro e w14 ⟨rfl, hm0, hm1, wm, hg0, hg1⟩
  have Hr20_18 := Lib.hid ((Hr20_17.out.kept hg0 HAp_r20_r30.out).kept hg1 HAp_r20_r31.out)
  have Hr21_18 := Lib.hid ((Hr21_17.out.kept hg0 HAp_r21_r30.out).kept hg1 HAp_r21_r31.out)
  have KaD_18 := Lib.hid ((hg1.block _ (Nat.lt_of_lt_of_le (heap_lt KaD_17.out) hg0.size) (fun e => HNX_aD_r31.out _ e.symm rfl)).trans ((hg0.block _ (heap_lt KaD_17.out) (fun e => HNX_aD_r30.out _ e.symm rfl)).trans KaD_17.out))
  have Kw0_18 := Lib.hid ((hg1.block _ (Nat.lt_of_lt_of_le (heap_lt Kw0_17.out) hg0.size) (fun e => HNX_w0_r31.out _ e.symm rfl)).trans ((hg0.block _ (heap_lt Kw0_17.out) (fun e => HNX_w0_r30.out _ e.symm rfl)).trans Kw0_17.out))
  have Kg0_18 := Lib.hid ((hg1.block _ (Nat.lt_of_lt_of_le (heap_lt Kg0_17.out) hg0.size) (fun e => HNX_g0_r31.out _ e.symm rfl)).trans ((hg0.block _ (heap_lt Kg0_17.out) (fun e => HNX_g0_r30.out _ e.symm rfl)).trans Kg0_17.out))
  have HMb0 := Lib.hid (fun k hk => (Hr30_17.out.lt k hk).1)
  have HMb1 := Lib.hid (fun k hk => (Hr31_17.out.lt k hk).1)
  have HB_18 : Hid (Below w.heap.size w w14) := ((HB_17.out.grown hg0 HB_17.out.size HMb0.out).grown hg1 (HB_17.out.grown hg0 HB_17.out.size HMb0.out).size HMb1.out)
  have Hr30_18 := Lib.hid hm0
  have Hr31_18 := Lib.hid hm1
  clear Hr20_17 Hr21_17 KaD_17 Kw0_17 Kg0_17 HB_17 Hr30_17 Hr31_17 hm0 hm1 hg0 hg1 HMb0 HMb1
  have caD_0 : w14.cell? ⟨w.heap.size, 0, none⟩ = some (.slice A ss.length ca) := cell_of_row _ _ 0 _ _ _ KaD_18.out
  have caD_1 : w14.cell? ⟨w.heap.size, 1, none⟩ = some (.slice B ps.length cb) := cell_of_row _ _ 1 _ _ _ KaD_18.out
  have cw0_0 : w14.cell? ⟨w4.heap.size, 0, none⟩ = some (.slice Ar20 V.length cr20) := cell_of_row _ _ 0 _ _ _ Kw0_18.out
  have cw0_1 : w14.cell? ⟨w4.heap.size, 1, none⟩ = some (.slice Ar21 U.length cr21) := cell_of_row _ _ 1 _ _ _ Kw0_18.out
  have cg0_0 : w14.cell? ⟨w8.heap.size, 0, none⟩ = some (.slice Ar30 V.length cr30) := cell_of_row _ _ 0 _ _ _ Kg0_18.out
  have cg0_1 : w14.cell? ⟨w8.heap.size, 1, none⟩ = some (.slice Ar31 U.length cr31) := cell_of_row _ _ 1 _ _ _ Kg0_18.out
  go_wp2_with fail
  clear caD_0 caD_1 cw0_0 cw0_1 cg0_0 cg0_1
  refine (heldDisk_any Ar30 Ar31 1 V.length U.length cr30 cr31 _ (OwnR.rd fSt_len Hr30_18.out) (OwnR.rd fPu_len Hr31_18.out) (by omega) (by omega) (by omega) (by omega)).mono ?_
  rintro e w15 ⟨rfl, hbq⟩
  have Hr20_19 := Lib.hid (Hr20_18.out.below hbq)
  have Hr21_19 := Lib.hid (Hr21_18.out.below hbq)
  have Hr30_19 := Lib.hid (Hr30_18.out.below hbq)
  have Hr31_19 := Lib.hid (Hr31_18.out.below hbq)
  have KaD_19 := Lib.hid ((hbq.block _ (heap_lt KaD_18.out)).trans KaD_18.out)
  have Kw0_19 := Lib.hid ((hbq.block _ (heap_lt Kw0_18.out)).trans Kw0_18.out)
  have Kg0_19 := Lib.hid ((hbq.block _ (heap_lt Kg0_18.out)).trans Kg0_18.out)
  have HB_19 := Lib.hid (below_more HB_18.out hbq)
  clear Hr20_18 Hr21_18 Hr30_18 Hr31_18 KaD_18 Kw0_18 Kg0_18 HB_18
  clear hbq
  have caD_0 : w15.cell? ⟨w.heap.size, 0, none⟩ = some (.slice A ss.length ca) := cell_of_row _ _ 0 _ _ _ KaD_19.out
  have caD_1 : w15.cell? ⟨w.heap.size, 1, none⟩ = some (.slice B ps.length cb) := cell_of_row _ _ 1 _ _ _ KaD_19.out
  have cw0_0 : w15.cell? ⟨w4.heap.size, 0, none⟩ = some (.slice Ar20 V.length cr20) := cell_of_row _ _ 0 _ _ _ Kw0_19.out
  have cw0_1 : w15.cell? ⟨w4.heap.size, 1, none⟩ = some (.slice Ar21 U.length cr21) := cell_of_row _ _ 1 _ _ _ Kw0_19.out
  have cg0_0 : w15.cell? ⟨w8.heap.size, 0, none⟩ = some (.slice Ar30 V.length cr30) := cell_of_row _ _ 0 _ _ _ Kg0_19.out
  have cg0_1 : w15.cell? ⟨w8.heap.size, 1, none⟩ = some (.slice Ar31 U.length cr31) := cell_of_row _ _ 1 _ _ _ Kg0_19.out
  go_wp2_with fail
  clear caD_0 caD_1 cw0_0 cw0_1 cg0_0 cg0_1
  refine (toDisk_any A B ss ps ca cb _ (HRA.out.below HB_19.out) (HRB.out.below HB_19.out) (by omega) (by omega)).mono ?_
  rintro e w16 ⟨vt40, vt41, rfl, hot40, hot41, hat4, hbt4⟩
  obtain ⟨At40, ct40, hvt40, hcapt40, _⟩ := OwnR.form fSt_len hot40
  subst hvt40
  obtain ⟨At41, ct41, hvt41, hcapt41, _⟩ := OwnR.form fPu_len hot41
  subst hvt41
  have HAp_r20_t40 := Lib.hid (apart5 (fun k hk => (Hr20_19.out.lt k hk).2) (fun k hk => (hot40.lt k hk).1))
  have HAp_r21_t40 := Lib.hid (apart5 (fun k hk => (Hr21_19.out.lt k hk).2) (fun k hk => (hot40.lt k hk).1))
  have HAp_r30_t40 := Lib.hid (apart5 (fun k hk => (Hr30_19.out.lt k hk).2) (fun k hk => (hot40.lt k hk).1))
  have HAp_r31_t40 := Lib.hid (apart5 (fun k hk => (Hr31_19.out.lt k hk).2) (fun k hk => (hot40.lt k hk).1))
  have HAp_r20_t41 := Lib.hid (apart5 (fun k hk => (Hr20_19.out.lt k hk).2) (fun k hk => (hot41.lt k hk).1))
  have HAp_r21_t41 := Lib.hid (apart5 (fun k hk => (Hr21_19.out.lt k hk).2) (fun k hk => (hot41.lt k hk).1))
  have HAp_r30_t41 := Lib.hid (apart5 (fun k hk => (Hr30_19.out.lt k hk).2) (fun k hk => (hot41.lt k hk).1))
  have HAp_r31_t41 := Lib.hid (apart5 (fun k hk => (Hr31_19.out.lt k hk).2) (fun k hk => (hot41.lt k hk).1))
  have HNX_aD_t40 := Lib.hid (fun g hg => Nat.ne_of_gt (Nat.lt_of_lt_of_le (heap_lt KaD_19.out) (hot40.lt g hg).1))
  have HNX_w0_t40 := Lib.hid (fun g hg => Nat.ne_of_gt (Nat.lt_of_lt_of_le (heap_lt Kw0_19.out) (hot40.lt g hg).1))
  have HNX_g0_t40 := Lib.hid (fun g hg => Nat.ne_of_gt (Nat.lt_of_lt_of_le (heap_lt Kg0_19.out) (hot40.lt g hg).1))
  have HNX_aD_t41 := Lib.hid (fun g hg => Nat.ne_of_gt (Nat.lt_of_lt_of_le (heap_lt KaD_19.out) (hot41.lt g hg).1))
  have HNX_w0_t41 := Lib.hid (fun g hg => Nat.ne_of_gt (Nat.lt_of_lt_of_le (heap_lt Kw0_19.out) (hot41.lt g hg).1))
  have HNX_g0_t41 := Lib.hid (fun g hg => Nat.ne_of_gt (Nat.lt_of_lt_of_le (heap_lt Kg0_19.out) (hot41.lt g hg).1))
  have HAp_t40_t41 := Lib.hid hat4
  have Hr20_20 := Lib.hid (Hr20_19.out.below hbt4)
  have Hr21_20 := Lib.hid (Hr21_19.out.below hbt4)
  have Hr30_20 := Lib.hid (Hr30_19.out.below hbt4)
  have Hr31_20 := Lib.hid (Hr31_19.out.below hbt4)
  have Ht40_20 := Lib.hid (hot40.lower HB_19.out.size)
  have Ht41_20 := Lib.hid (hot41.lower HB_19.out.size)
  have KaD_20 := Lib.hid ((hbt4.block _ (heap_lt KaD_19.out)).trans KaD_19.out)
  have Kw0_20 := Lib.hid ((hbt4.block _ (heap_lt Kw0_19.out)).trans Kw0_19.out)
  have Kg0_20 := Lib.hid ((hbt4.block _ (heap_lt Kg0_19.out)).trans Kg0_19.out)
  have HB_20 := Lib.hid (below_more HB_19.out hbt4)
  clear Hr20_19 Hr21_19 Hr30_19 Hr31_19 KaD_19 Kw0_19 Kg0_19 HB_19 hot40 hot41 hat4 hbt4
  have caD_0 : w16.cell? ⟨w.heap.size, 0, none⟩ = some (.slice A ss.length ca) := cell_of_row _ _ 0 _ _ _ KaD_20.out
  have caD_1 : w16.cell? ⟨w.heap.size, 1, none⟩ = some (.slice B ps.length cb) := cell_of_row _ _ 1 _ _ _ KaD_20.out
  have cw0_0 : w16.cell? ⟨w4.heap.size, 0, none⟩ = some (.slice Ar20 V.length cr20) := cell_of_row _ _ 0 _ _ _ Kw0_20.out
  have cw0_1 : w16.cell? ⟨w4.heap.size, 1, none⟩ = some (.slice Ar21 U.length cr21) := cell_of_row _ _ 1 _ _ _ Kw0_20.out
  have cg0_0 : w16.cell? ⟨w8.heap.size, 0, none⟩ = some (.slice Ar30 V.length cr30) := cell_of_row _ _ 0 _ _ _ Kg0_20.out
  have cg0_1 : w16.cell? ⟨w8.heap.size, 1, none⟩ = some (.slice Ar31 U.length cr31) := cell_of_row _ _ 1 _ _ _ Kg0_20.out
  go_wp2_with fail
  clear caD_0 caD_1 cw0_0 cw0_1 cg0_0 cg0_1
  refine (HI.out At40 At41 ct40 ct41 _ (hK _ _ HW.out HB_20.out) ⟨(OwnR.rd fSt_len Ht40_20.out), (OwnR.rd fPu_len Ht41_20.out), by omega, by omega, HZs.out, HZp.out⟩ (ownR_lies Ht40_20.out) (ownR_lies Ht41_20.out)).mono ?_
  rintro e w17 ⟨vr50, vr51, rfl, hpk, hbr5⟩
  obtain ⟨hor50, hor51, har5⟩ := hpk
  obtain ⟨Ar50, cr50, hvr50, hcapr50, _⟩ := OwnR.form fSt_len hor50
  subst hvr50
  obtain ⟨Ar51, cr51, hvr51, hcapr51, _⟩ := OwnR.form fPu_len hor51
  subst hvr51
  have HAp_r20_r50 := Lib.hid (apart5 (fun k hk => (Hr20_20.out.lt k hk).2) (fun k hk => (hor50.lt k hk).1))
  have HAp_r21_r50 := Lib.hid (apart5 (fun k hk => (Hr21_20.out.lt k hk).2) (fun k hk => (hor50.lt k hk).1))
  have HAp_r30_r50 := Lib.hid (apart5 (fun k hk => (Hr30_20.out.lt k hk).2) (fun k hk => (hor50.lt k hk).1))
  have HAp_r31_r50 := Lib.hid (apart5 (fun k hk => (Hr31_20.out.lt k hk).2) (fun k hk => (hor50.lt k hk).1))
  have HAp_t40_r50 := Lib.hid (apart5 (fun k hk => (Ht40_20.out.lt k hk).2) (fun k hk => (hor50.lt k hk).1))
  have HAp_t41_r50 := Lib.hid (apart5 (fun k hk => (Ht41_20.out.lt k hk).2) (fun k hk => (hor50.lt k hk).1))
  have HAp_r20_r51 := Lib.hid (apart5 (fun k hk => (Hr20_20.out.lt k hk).2) (fun k hk => (hor51.lt k hk).1))
  have HAp_r21_r51 := Lib.hid (apart5 (fun k hk => (Hr21_20.out.lt k hk).2) (fun k hk => (hor51.lt k hk).1))
  have HAp_r30_r51 := Lib.hid (apart5 (fun k hk => (Hr30_20.out.lt k hk).2) (fun k hk => (hor51.lt k hk).1))
  have HAp_r31_r51 := Lib.hid (apart5 (fun k hk => (Hr31_20.out.lt k hk).2) (fun k hk => (hor51.lt k hk).1))
  have HAp_t40_r51 := Lib.hid (apart5 (fun k hk => (Ht40_20.out.lt k hk).2) (fun k hk => (hor51.lt k hk).1))
  have HAp_t41_r51 := Lib.hid (apart5 (fun k hk => (Ht41_20.out.lt k hk).2) (fun k hk => (hor51.lt k hk).1))
  have HNX_aD_r50 := Lib.hid (fun g hg => Nat.ne_of_gt (Nat.lt_of_lt_of_le (heap_lt KaD_20.out) (hor50.lt g hg).1))
  have HNX_w0_r50 := Lib.hid (fun g hg => Nat.ne_of_gt (Nat.lt_of_lt_of_le (heap_lt Kw0_20.out) (hor50.lt g hg).1))
  have HNX_g0_r50 := Lib.hid (fun g hg => Nat.ne_of_gt (Nat.lt_of_lt_of_le (heap_lt Kg0_20.out) (hor50.lt g hg).1))
  have HNX_aD_r51 := Lib.hid (fun g hg => Nat.ne_of_gt (Nat.lt_of_lt_of_le (heap_lt KaD_20.out) (hor51.lt g hg).1))
  have HNX_w0_r51 := Lib.hid (fun g hg => Nat.ne_of_gt (Nat.lt_of_lt_of_le (heap_lt Kw0_20.out) (hor51.lt g hg).1))
  have HNX_g0_r51 := Lib.hid (fun g hg => Nat.ne_of_gt (Nat.lt_of_lt_of_le (heap_lt Kg0_20.out) (hor51.lt g hg).1))
  have HAp_r50_r51 := Lib.hid har5
  have Hr20_21 := Lib.hid (Hr20_20.out.below hbr5)
  have Hr21_21 := Lib.hid (Hr21_20.out.below hbr5)
  have Hr30_21 := Lib.hid (Hr30_20.out.below hbr5)
  have Hr31_21 := Lib.hid (Hr31_20.out.below hbr5)
  have Ht40_21 := Lib.hid (Ht40_20.out.below hbr5)
  have Ht41_21 := Lib.hid (Ht41_20.out.below hbr5)
  have Hr50_21 := Lib.hid (hor50.lower HB_20.out.size)
  have Hr51_21 := Lib.hid (hor51.lower HB_20.out.size)
  have KaD_21 := Lib.hid ((hbr5.block _ (heap_lt KaD_20.out)).trans KaD_20.out)
  have Kw0_21 := Lib.hid ((hbr5.block _ (heap_lt Kw0_20.out)).trans Kw0_20.out)
  have Kg0_21 := Lib.hid ((hbr5.block _ (heap_lt Kg0_20.out)).trans Kg0_20.out)
  have HB_21 := Lib.hid (below_more HB_20.out hbr5)
  clear Hr20_20 Hr21_20 Hr30_20 Hr31_20 Ht40_20 Ht41_20 KaD_20 Kw0_20 Kg0_20 HB_20 hor50 hor51 har5 hbr5
  obtain ⟨w18, hw22⟩ : ∃ wn, w17.alloc (.cells #[.slice Ar50 V.length cr50, .slice Ar51 U.length cr51] 36) = wn := ⟨_, rfl⟩
  have hbx : Below w17.heap.size w17 w18 := by rw [← hw22]; exact gAlloc _ _
  have KX : w18.heap[w17.heap.size]? = some (.cells #[.slice Ar50 V.length cr50, .slice Ar51 U.length cr51] 36 (0, 0)) := by rw [← hw22]; exact heap_alloc_new _ _
  have HNX_h0_r20 := Lib.hid (fun g hg => Nat.ne_of_lt (Hr20_21.out.lt g hg).2)
  have HNX_h0_r21 := Lib.hid (fun g hg => Nat.ne_of_lt (Hr21_21.out.lt g hg).2)
  have HNX_h0_r30 := Lib.hid (fun g hg => Nat.ne_of_lt (Hr30_21.out.lt g hg).2)
  have HNX_h0_r31 := Lib.hid (fun g hg => Nat.ne_of_lt (Hr31_21.out.lt g hg).2)
  have HNX_h0_t40 := Lib.hid (fun g hg => Nat.ne_of_lt (Ht40_21.out.lt g hg).2)
  have HNX_h0_t41 := Lib.hid (fun g hg => Nat.ne_of_lt (Ht41_21.out.lt g hg).2)
  have HNX_h0_r50 := Lib.hid (fun g hg => Nat.ne_of_lt (Hr50_21.out.lt g hg).2)
  have HNX_h0_r51 := Lib.hid (fun g hg => Nat.ne_of_lt (Hr51_21.out.lt g hg).2)
  have Hr20_23 := Lib.hid (Hr20_21.out.below hbx)
  have Hr21_23 := Lib.hid (Hr21_21.out.below hbx)
  have Hr30_23 := Lib.hid (Hr30_21.out.below hbx)
  have Hr31_23 := Lib.hid (Hr31_21.out.below hbx)
  have Ht40_23 := Lib.hid (Ht40_21.out.below hbx)
  have Ht41_23 := Lib.hid (Ht41_21.out.below hbx)
  have Hr50_23 := Lib.hid (Hr50_21.out.below hbx)
  have Hr51_23 := Lib.hid (Hr51_21.out.below hbx)
  have KaD_23 := Lib.hid ((hbx.block _ (heap_lt KaD_21.out)).trans KaD_21.out)
  have Kw0_23 := Lib.hid ((hbx.block _ (heap_lt Kw0_21.out)).trans Kw0_21.out)
  have Kg0_23 := Lib.hid ((hbx.block _ (heap_lt Kg0_21.out)).trans Kg0_21.out)
  have HB_23 := Lib.hid (below_more HB_21.out hbx)
  clear Hr20_21 Hr21_21 Hr30_21 Hr31_21 Ht40_21 Ht41_21 Hr50_21 Hr51_21 KaD_21 Kw0_21 Kg0_21 HB_21
  have Kh0_22 := Lib.hid KX
  clear hbx KX
  clear Ht40_23 Ht41_23
  have caD_0 : w18.cell? ⟨w.heap.size, 0, none⟩ = some (.slice A ss.length ca) := cell_of_row _ _ 0 _ _ _ KaD_23.out
  have caD_1 : w18.cell? ⟨w.heap.size, 1, none⟩ = some (.slice B ps.length cb) := cell_of_row _ _ 1 _ _ _ KaD_23.out
  have cw0_0 : w18.cell? ⟨w4.heap.size, 0, none⟩ = some (.slice Ar20 V.length cr20) := cell_of_row _ _ 0 _ _ _ Kw0_23.out
  have cw0_1 : w18.cell? ⟨w4.heap.size, 1, none⟩ = some (.slice Ar21 U.length cr21) := cell_of_row _ _ 1 _ _ _ Kw0_23.out
  have cg0_0 : w18.cell? ⟨w8.heap.size, 0, none⟩ = some (.slice Ar30 V.length cr30) := cell_of_row _ _ 0 _ _ _ Kg0_23.out
  have cg0_1 : w18.cell? ⟨w8.heap.size, 1, none⟩ = some (.slice Ar31 U.length cr31) := cell_of_row _ _ 1 _ _ _ Kg0_23.out
  have ch0_0 : w18.cell? ⟨w17.heap.size, 0, none⟩ = some (.slice Ar50 V.length cr50) := cell_of_row _ _ 0 _ _ _ Kh0_22.out
  have ch0_1 : w18.cell? ⟨w17.heap.size, 1, none⟩ = some (.slice Ar51 U.length cr51) := cell_of_row _ _ 1 _ _ _ Kh0_22.out
  go_wp2_with fail
  clear caD_0 caD_1 cw0_0 cw0_1 cg0_0 cg0_1 ch0_0 ch0_1 hw22
  refine (eqDisk_self Ar50 Ar51 Ar20 Ar21 V U cr50 cr51 cr20 cr21 _ (OwnR.rd fSt_len Hr50_23.out) (OwnR.rd fPu_len Hr51_23.out) (OwnR.rd fSt_len Hr20_23.out) (OwnR.rd fPu_len Hr21_23.out) (by omega) (by omega)).mono ?_
  rintro e w19 ⟨rfl, hbq⟩
  have Hr20_24 := Lib.hid (Hr20_23.out.below hbq)
  have Hr21_24 := Lib.hid (Hr21_23.out.below hbq)
  have Hr30_24 := Lib.hid (Hr30_23.out.below hbq)
  have Hr31_24 := Lib.hid (Hr31_23.out.below hbq)
  have Hr50_24 := Lib.hid (Hr50_23.out.below hbq)
  have Hr51_24 := Lib.hid (Hr51_23.out.below hbq)
  have KaD_24 := Lib.hid ((hbq.block _ (heap_lt KaD_23.out)).trans KaD_23.out)
  have Kw0_24 := Lib.hid ((hbq.block _ (heap_lt Kw0_23.out)).trans Kw0_23.out)
  have Kg0_24 := Lib.hid ((hbq.block _ (heap_lt Kg0_23.out)).trans Kg0_23.out)
  have Kh0_24 := Lib.hid ((hbq.block _ (heap_lt Kh0_22.out)).trans Kh0_22.out)
  have HB_24 := Lib.hid (below_more HB_23.out hbq)
  clear Hr20_23 Hr21_23 Hr30_23 Hr31_23 Hr50_23 Hr51_23 KaD_23 Kw0_23 Kg0_23 Kh0_22 HB_23
  clear hbq
  clear Hr20_24 Hr21_24
  clear Kw0_24
  clear Hr50_24 Hr51_24
  clear Kh0_24
  have caD_0 : w19.cell? ⟨w.heap.size, 0, none⟩ = some (.slice A ss.length ca) := cell_of_row _ _ 0 _ _ _ KaD_24.out
  have caD_1 : w19.cell? ⟨w.heap.size, 1, none⟩ = some (.slice B ps.length cb) := cell_of_row _ _ 1 _ _ _ KaD_24.out
  have cg0_0 : w19.cell? ⟨w8.heap.size, 0, none⟩ = some (.slice Ar30 V.length cr30) := cell_of_row _ _ 0 _ _ _ Kg0_24.out
  have cg0_1 : w19.cell? ⟨w8.heap.size, 1, none⟩ = some (.slice Ar31 U.length cr31) := cell_of_row _ _ 1 _ _ _ Kg0_24.out
  go_wp2_with fail
  clear caD_0 caD_1 cg0_0 cg0_1
  refine (heldDisk_any Ar30 Ar31 1 V.length U.length cr30 cr31 _ (OwnR.rd fSt_len Hr30_24.out) (OwnR.rd fPu_len Hr31_24.out) (by omega) (by omega) (by omega) (by omega)).mono ?_
  rintro e w20 ⟨rfl, hbq⟩
  have Hr30_25 := Lib.hid (Hr30_24.out.below hbq)
  have Hr31_25 := Lib.hid (Hr31_24.out.below hbq)
  have KaD_25 := Lib.hid ((hbq.block _ (heap_lt KaD_24.out)).trans KaD_24.out)
  have Kg0_25 := Lib.hid ((hbq.block _ (heap_lt Kg0_24.out)).trans Kg0_24.out)
  have HB_25 := Lib.hid (below_more HB_24.out hbq)
  clear Hr30_24 Hr31_24 KaD_24 Kg0_24 HB_24
  clear hbq
  go_wp2_with fail
  go_ret
  exact ⟨rfl, HB_25.out⟩
end Go.Proofs.Ythbjcipdneminaa
