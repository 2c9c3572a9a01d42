/-
  Exact laws of chapter 12, walked, whatever the program's own texts are: MayOverlap.
-/
import Derived.Test.YthmnenejfonfgaaBF
import Derived.Test.YthmnenejfonfgaaBG
import Derived.Test.YthmnenejfonfgaaVO
namespace Go.Proofs.Ythmnenejfonfgaa
open Go.RowKit

theorem own_cap12 {T : TypeId} {k : Nat} {α : Type} {f : α → List Value} (hk : ∀ x, (f x).length = k) {w : World} {base n c : Nat} {A : Option Addr} {L : List α} (h : OwnR T k f w base (.slice A n c) L) : L.length ≤ c := by
  obtain ⟨A', c', e, hle, -⟩ := OwnR.form hk h
  injection e with e1 e2 e3
  rw [e3]
  exact hle
set_option maxRecDepth 100000 in
set_option maxHeartbeats 8000000 in
theorem mayOverlap_law {K : World → Prop} (hK : Stays5 K) (hI : ∀ (A : Option Addr) (l : List Zac) (ca : Nat) (now : Int) (dr : Int) (w : World), K w → RdR 3 fZa w A l → Lies9 A ca → l.length ≤ 1048576 → Calls Try.prog 16 #[.slice A l.length ca, .int .i64 now, .int .i64 dr] w fun e w' => e = .returned (.tuple #[.bool (ovB l now dr), .bool (ovOk l now dr)]) ∧ Below w.heap.size w w')
    (A : Option Addr) (l : List Zac) (ca : Nat) (now : Int) (dr : Int) (w : World) (hw : K w) (hA : RdR 3 fZa w A l) (hl : l.length ≤ 9223372036854775807) : Calls Try.prog 10 #[.slice A l.length ca, .int .i64 now, .int .i64 dr] w fun e w' => e = .returned (.bool true) ∧ Below w.heap.size w w' := by
  have HRA := Lib.hid hA
  have HI := Lib.hid (fun A c w hk hA hL hz => hI A l c now dr w hk hA hL hz)
  have HW := Lib.hid hw
  have HS0 := Lib.hid (fun A c w h hl hc => sOver12 A l c now dr w h hl hc)
  clear hI hw hA
  generalize ovB l now dr = rr at *
  generalize ovOk l now dr = bb at *
  go_enter Try.func10, Try.ntmps10
  go_wp2_with fail
  refine (szZaS_any A l ca 1048576 _ hl (by omega) (by omega)).mono ?_
  rintro e wq ⟨⟨rz, rfl, hrz⟩, rfl⟩
  rcases hrz with hrz | ⟨hrz0, hrz1⟩
  · go_wp2_with fail
    go_ret
    exact ⟨rfl, Below.refl _ _⟩
  have hlz : l.length ≤ 1048576 := by omega
  have hrzn : ¬ rz < 0 := by omega
  clear hl hrz1
  go_wp2_with fail
  refine (toZaS_any A l ca _ HRA.out (by omega)).mono ?_
  rintro e w1 ⟨vt10, rfl, hot10, hbt1⟩
  obtain ⟨At10, ct10, hvt10, hcapt10, _⟩ := OwnR.form fZa_len hot10
  subst hvt10
  have Ht10_1 := Lib.hid (hot10)
  have HB_1 := Lib.hid (hbt1)
  clear hot10 hbt1
  go_wp2_with fail
  refine (HS0.out At10 ct10 _ (OwnR.rd fZa_len Ht10_1.out) (by omega) (own_cap12 fZa_len Ht10_1.out)).mono ?_
  rintro e w2 ⟨rfl, hbq⟩
  have Ht10_2 := Lib.hid (Ht10_1.out.below hbq)
  have HB_2 := Lib.hid (below_more HB_1.out hbq)
  clear Ht10_1 HB_1
  clear hbq
  clear Ht10_2
  go_wp2_with fail
  refine (toZaS_any A l ca _ (HRA.out.below HB_2.out) (by omega)).mono ?_
  rintro e w3 ⟨vx00, rfl, hox00, hbx0⟩
  obtain ⟨Ax00, cx00, hvx00, hcapx00, _⟩ := OwnR.form fZa_len hox00
  subst hvx00
  have Hx00_3 := Lib.hid (hox00.lower HB_2.out.size)
  have HB_3 := Lib.hid (below_more HB_2.out hbx0)
  clear HB_2 hox00 hbx0
  go_wp2_with fail
  refine (HI.out Ax00 cx00 _ (hK _ _ HW.out HB_3.out) (OwnR.rd fZa_len Hx00_3.out) (ownR_lies Hx00_3.out) (by omega)).mono ?_
  rintro e w4 ⟨rfl, hbq⟩
  have Hx00_4 := Lib.hid (Hx00_3.out.below hbq)
  have HB_4 := Lib.hid (below_more HB_3.out hbq)
  clear Hx00_3 HB_3
  clear hbq
  go_wp2_with fail
  refine (toZaS_any A l ca _ (HRA.out.below HB_4.out) (by omega)).mono ?_
  rintro e w5 ⟨ve20, rfl, hoe20, hbe2⟩
  obtain ⟨Ae20, ce20, hve20, hcape20, _⟩ := OwnR.form fZa_len hoe20
  subst hve20
  have HAp_x00_e20 := Lib.hid (apart5 (fun k hk => (Hx00_4.out.lt k hk).2) (fun k hk => (hoe20.lt k hk).1))
  have Hx00_5 := Lib.hid (Hx00_4.out.below hbe2)
  have He20_5 := Lib.hid (hoe20.lower HB_4.out.size)
  have HB_5 := Lib.hid (below_more HB_4.out hbe2)
  clear Hx00_4 HB_4 hoe20 hbe2
  go_wp2_with fail
  refine (eqZaS_self Ax00 Ae20 l cx00 ce20 _ (OwnR.rd fZa_len Hx00_5.out) (OwnR.rd fZa_len He20_5.out) (by omega)).mono ?_
  rintro e w6 ⟨rfl, hbq⟩
  have Hx00_6 := Lib.hid (Hx00_5.out.below hbq)
  have He20_6 := Lib.hid (He20_5.out.below hbq)
  have HB_6 := Lib.hid (below_more HB_5.out hbq)
  clear Hx00_5 He20_5 HB_5
  clear hbq
  clear He20_6
  clear Hx00_6
  go_wp2_with fail
  go_ret
  exact ⟨rfl, HB_6.out⟩

set_option maxRecDepth 100000 in
set_option maxHeartbeats 8000000 in
theorem playLease_law {K : World → Prop} (hK : Stays5 K) (hI : ∀ (A : Option Addr) (l : List Zpc) (ca : Nat) (w : World), K w → RdR 4 fZp w A l → Lies9 A ca → l.length ≤ 1048576 → Calls Try.prog 12 #[.slice A l.length ca] w fun e w' => ∃ v1, e = .returned (.tuple #[lsW (plL l).1 (plL l).2.1 (plL l).2.2, v1, .bool (plOk l)]) ∧ OwnR 26 3 fZa w' w.heap.size v1 (plAll l) ∧ Below w.heap.size w w')
    (A : Option Addr) (l : List Zpc) (ca : Nat) (w : World) (hw : K w) (hA : RdR 4 fZp w A l) (hl : l.length ≤ 9223372036854775807) : Calls Try.prog 7 #[.slice A l.length ca] w fun e w' => e = .returned (.bool true) ∧ Below w.heap.size w w' := by
  have HRA := Lib.hid hA
  have HI := Lib.hid (fun A c w hk hA hL hz => hI A l c w hk hA hL hz)
  have HW := Lib.hid hw
  have HS0 := Lib.hid (fun A c w h hl => sPlayL A l c w h hl)
  clear hI hw hA
  have hV := plAll_len l
  generalize plAll l = V at *
  generalize (plL l).1 = N at *
  generalize (plL l).2.1 = As at *
  generalize (plL l).2.2 = Su at *
  generalize plOk l = bb at *
  go_enter Try.func7, Try.ntmps7
  go_wp2_with fail
  refine (szZpS_any A l ca 1048576 _ hl (by omega) (by omega)).mono ?_
  rintro e wq ⟨⟨rz, rfl, hrz⟩, rfl⟩
  rcases hrz with hrz | ⟨hrz0, hrz1⟩
  · go_wp2_with fail
    go_ret
    exact ⟨rfl, Below.refl _ _⟩
  have hlz : l.length ≤ 1048576 := by omega
  have hrzn : ¬ rz < 0 := by omega
  clear hl hrz1
  go_wp2_with fail
  refine (toZpS_any A l ca _ HRA.out (by omega)).mono ?_
  rintro e w1 ⟨vt10, rfl, hot10, hbt1⟩
  obtain ⟨At10, ct10, hvt10, hcapt10, _⟩ := OwnR.form fZp_len hot10
  subst hvt10
  have Ht10_1 := Lib.hid (hot10)
  have HB_1 := Lib.hid (hbt1)
  clear hot10 hbt1
  go_wp2_with fail
  refine (HS0.out At10 ct10 _ (OwnR.rd fZp_len Ht10_1.out) (by omega)).mono ?_
  rintro e w2 ⟨vr20, rfl, hor20, hbr2⟩
  obtain ⟨Ar20, cr20, hvr20, hcapr20, _⟩ := OwnR.form fZa_len hor20
  subst hvr20
  have HAp_t10_r20 := Lib.hid (apart5 (fun k hk => (Ht10_1.out.lt k hk).2) (fun k hk => (hor20.lt k hk).1))
  have Ht10_2 := Lib.hid (Ht10_1.out.below hbr2)
  have Hr20_2 := Lib.hid (hor20.lower HB_1.out.size)
  have HB_2 := Lib.hid (below_more HB_1.out hbr2)
  clear Ht10_1 HB_1 hor20 hbr2
  obtain ⟨w3, hw3⟩ : ∃ wn, w2.alloc (.cells #[.int .i64 N, .int .i64 As, .int .i64 Su] 26) = wn := ⟨_, rfl⟩
  have hbx : Below w2.heap.size w2 w3 := by rw [← hw3]; exact gAlloc _ _
  have KX : w3.heap[w2.heap.size]? = some (.cells #[.int .i64 N, .int .i64 As, .int .i64 Su] 26 (0, 0)) := by rw [← hw3]; exact heap_alloc_new _ _
  have HNX_w0_t10 := Lib.hid (fun g hg => Nat.ne_of_lt (Ht10_2.out.lt g hg).2)
  have HNX_w0_r20 := Lib.hid (fun g hg => Nat.ne_of_lt (Hr20_2.out.lt g hg).2)
  have Ht10_4 := Lib.hid (Ht10_2.out.below hbx)
  have Hr20_4 := Lib.hid (Hr20_2.out.below hbx)
  have HB_4 := Lib.hid (below_more HB_2.out hbx)
  clear Ht10_2 Hr20_2 HB_2
  have Kw0_3 := Lib.hid KX
  clear hbx KX
  clear Ht10_4
  have cw0_0 : w3.cell? ⟨w2.heap.size, 0, none⟩ = some (.int .i64 N) := cell_of_row _ _ 0 _ _ _ Kw0_3.out
  have cw0_1 : w3.cell? ⟨w2.heap.size, 1, none⟩ = some (.int .i64 As) := cell_of_row _ _ 1 _ _ _ Kw0_3.out
  have cw0_2 : w3.cell? ⟨w2.heap.size, 2, none⟩ = some (.int .i64 Su) := cell_of_row _ _ 2 _ _ _ Kw0_3.out
  go_wp2_with fail
  clear cw0_0 cw0_1 cw0_2 hw3
  refine (toZpS_any A l ca _ (HRA.out.below HB_4.out) (by omega)).mono ?_
  rintro e w4 ⟨vx00, rfl, hox00, hbx0⟩
  obtain ⟨Ax00, cx00, hvx00, hcapx00, _⟩ := OwnR.form fZp_len hox00
  subst hvx00
  have HAp_r20_x00 := Lib.hid (apart5 (fun k hk => (Hr20_4.out.lt k hk).2) (fun k hk => (hox00.lt k hk).1))
  have HNX_w0_x00 := Lib.hid (fun g hg => Nat.ne_of_gt (Nat.lt_of_lt_of_le (heap_lt Kw0_3.out) (hox00.lt g hg).1))
  have Hr20_5 := Lib.hid (Hr20_4.out.below hbx0)
  have Hx00_5 := Lib.hid (hox00.lower HB_4.out.size)
  have Kw0_5 := Lib.hid ((hbx0.block _ (heap_lt Kw0_3.out)).trans Kw0_3.out)
  have HB_5 := Lib.hid (below_more HB_4.out hbx0)
  clear Hr20_4 Kw0_3 HB_4 hox00 hbx0
  have cw0_0 : w4.cell? ⟨w2.heap.size, 0, none⟩ = some (.int .i64 N) := cell_of_row _ _ 0 _ _ _ Kw0_5.out
  have cw0_1 : w4.cell? ⟨w2.heap.size, 1, none⟩ = some (.int .i64 As) := cell_of_row _ _ 1 _ _ _ Kw0_5.out
  have cw0_2 : w4.cell? ⟨w2.heap.size, 2, none⟩ = some (.int .i64 Su) := cell_of_row _ _ 2 _ _ _ Kw0_5.out
  go_wp2_with fail
  clear cw0_0 cw0_1 cw0_2
  refine (HI.out Ax00 cx00 _ (hK _ _ HW.out HB_5.out) (OwnR.rd fZp_len Hx00_5.out) (ownR_lies Hx00_5.out) (by omega)).mono ?_
  rintro e w5 ⟨vr30, rfl, hor30, hbr3⟩
  obtain ⟨Ar30, cr30, hvr30, hcapr30, _⟩ := OwnR.form fZa_len hor30
  subst hvr30
  have HAp_r20_r30 := Lib.hid (apart5 (fun k hk => (Hr20_5.out.lt k hk).2) (fun k hk => (hor30.lt k hk).1))
  have HAp_x00_r30 := Lib.hid (apart5 (fun k hk => (Hx00_5.out.lt k hk).2) (fun k hk => (hor30.lt k hk).1))
  have HNX_w0_r30 := Lib.hid (fun g hg => Nat.ne_of_gt (Nat.lt_of_lt_of_le (heap_lt Kw0_5.out) (hor30.lt g hg).1))
  have Hr20_6 := Lib.hid (Hr20_5.out.below hbr3)
  have Hx00_6 := Lib.hid (Hx00_5.out.below hbr3)
  have Hr30_6 := Lib.hid (hor30.lower HB_5.out.size)
  have Kw0_6 := Lib.hid ((hbr3.block _ (heap_lt Kw0_5.out)).trans Kw0_5.out)
  have HB_6 := Lib.hid (below_more HB_5.out hbr3)
  clear Hr20_5 Hx00_5 Kw0_5 HB_5 hor30 hbr3
  obtain ⟨w6, hw7⟩ : ∃ wn, w5.alloc (.cells #[.int .i64 N, .int .i64 As, .int .i64 Su] 26) = wn := ⟨_, rfl⟩
  have hbx : Below w5.heap.size w5 w6 := by rw [← hw7]; exact gAlloc _ _
  have KX : w6.heap[w5.heap.size]? = some (.cells #[.int .i64 N, .int .i64 As, .int .i64 Su] 26 (0, 0)) := by rw [← hw7]; exact heap_alloc_new _ _
  have HNX_g0_r20 := Lib.hid (fun g hg => Nat.ne_of_lt (Hr20_6.out.lt g hg).2)
  have HNX_g0_x00 := Lib.hid (fun g hg => Nat.ne_of_lt (Hx00_6.out.lt g hg).2)
  have HNX_g0_r30 := Lib.hid (fun g hg => Nat.ne_of_lt (Hr30_6.out.lt g hg).2)
  have Hr20_8 := Lib.hid (Hr20_6.out.below hbx)
  have Hx00_8 := Lib.hid (Hx00_6.out.below hbx)
  have Hr30_8 := Lib.hid (Hr30_6.out.below hbx)
  have Kw0_8 := Lib.hid ((hbx.block _ (heap_lt Kw0_6.out)).trans Kw0_6.out)
  have HB_8 := Lib.hid (below_more HB_6.out hbx)
  clear Hr20_6 Hx00_6 Hr30_6 Kw0_6 HB_6
  have Kg0_7 := Lib.hid KX
  clear hbx KX
  have cw0_0 : w6.cell? ⟨w2.heap.size, 0, none⟩ = some (.int .i64 N) := cell_of_row _ _ 0 _ _ _ Kw0_8.out
  have cw0_1 : w6.cell? ⟨w2.heap.size, 1, none⟩ = some (.int .i64 As) := cell_of_row _ _ 1 _ _ _ Kw0_8.out
  have cw0_2 : w6.cell? ⟨w2.heap.size, 2, none⟩ = some (.int .i64 Su) := cell_of_row _ _ 2 _ _ _ Kw0_8.out
  have cg0_0 : w6.cell? ⟨w5.heap.size, 0, none⟩ = some (.int .i64 N) := cell_of_row _ _ 0 _ _ _ Kg0_7.out
  have cg0_1 : w6.cell? ⟨w5.heap.size, 1, none⟩ = some (.int .i64 As) := cell_of_row _ _ 1 _ _ _ Kg0_7.out
  have cg0_2 : w6.cell? ⟨w5.heap.size, 2, none⟩ = some (.int .i64 Su) := cell_of_row _ _ 2 _ _ _ Kg0_7.out
  go_wp2_with fail
  clear cw0_0 cw0_1 cw0_2 cg0_0 cg0_1 cg0_2 hw7
  refine (eqZa_self N As Su _).mono ?_
  rintro e w7 ⟨rfl, hbq⟩
  have Hr20_9 := Lib.hid (Hr20_8.out.below hbq)
  have Hx00_9 := Lib.hid (Hx00_8.out.below hbq)
  have Hr30_9 := Lib.hid (Hr30_8.out.below hbq)
  have Kw0_9 := Lib.hid ((hbq.block _ (heap_lt Kw0_8.out)).trans Kw0_8.out)
  have Kg0_9 := Lib.hid ((hbq.block _ (heap_lt Kg0_7.out)).trans Kg0_7.out)
  have HB_9 := Lib.hid (below_more HB_8.out hbq)
  clear Hr20_8 Hx00_8 Hr30_8 Kw0_8 Kg0_7 HB_8
  clear hbq
  have cw0_0 : w7.cell? ⟨w2.heap.size, 0, none⟩ = some (.int .i64 N) := cell_of_row _ _ 0 _ _ _ Kw0_9.out
  have cw0_1 : w7.cell? ⟨w2.heap.size, 1, none⟩ = some (.int .i64 As) := cell_of_row _ _ 1 _ _ _ Kw0_9.out
  have cw0_2 : w7.cell? ⟨w2.heap.size, 2, none⟩ = some (.int .i64 Su) := cell_of_row _ _ 2 _ _ _ Kw0_9.out
  have cg0_0 : w7.cell? ⟨w5.heap.size, 0, none⟩ = some (.int .i64 N) := cell_of_row _ _ 0 _ _ _ Kg0_9.out
  have cg0_1 : w7.cell? ⟨w5.heap.size, 1, none⟩ = some (.int .i64 As) := cell_of_row _ _ 1 _ _ _ Kg0_9.out
  have cg0_2 : w7.cell? ⟨w5.heap.size, 2, none⟩ = some (.int .i64 Su) := cell_of_row _ _ 2 _ _ _ Kg0_9.out
  go_wp2_with fail
  clear cw0_0 cw0_1 cw0_2 cg0_0 cg0_1 cg0_2
  refine (eqZaS_self Ar30 Ar20 V cr30 cr20 _ (OwnR.rd fZa_len Hr30_9.out) (OwnR.rd fZa_len Hr20_9.out) (by omega)).mono ?_
  rintro e w8 ⟨rfl, hbq⟩
  have Hr20_10 := Lib.hid (Hr20_9.out.below hbq)
  have Hx00_10 := Lib.hid (Hx00_9.out.below hbq)
  have Hr30_10 := Lib.hid (Hr30_9.out.below hbq)
  have Kw0_10 := Lib.hid ((hbq.block _ (heap_lt Kw0_9.out)).trans Kw0_9.out)
  have Kg0_10 := Lib.hid ((hbq.block _ (heap_lt Kg0_9.out)).trans Kg0_9.out)
  have HB_10 := Lib.hid (below_more HB_9.out hbq)
  clear Hr20_9 Hx00_9 Hr30_9 Kw0_9 Kg0_9 HB_9
  clear hbq
  have cw0_0 : w8.cell? ⟨w2.heap.size, 0, none⟩ = some (.int .i64 N) := cell_of_row _ _ 0 _ _ _ Kw0_10.out
  have cw0_1 : w8.cell? ⟨w2.heap.size, 1, none⟩ = some (.int .i64 As) := cell_of_row _ _ 1 _ _ _ Kw0_10.out
  have cw0_2 : w8.cell? ⟨w2.heap.size, 2, none⟩ = some (.int .i64 Su) := cell_of_row _ _ 2 _ _ _ Kw0_10.out
  have cg0_0 : w8.cell? ⟨w5.heap.size, 0, none⟩ = some (.int .i64 N) := cell_of_row _ _ 0 _ _ _ Kg0_10.out
  have cg0_1 : w8.cell? ⟨w5.heap.size, 1, none⟩ = some (.int .i64 As) := cell_of_row _ _ 1 _ _ _ Kg0_10.out
  have cg0_2 : w8.cell? ⟨w5.heap.size, 2, none⟩ = some (.int .i64 Su) := cell_of_row _ _ 2 _ _ _ Kg0_10.out
  go_wp2_with fail
  clear cw0_0 cw0_1 cw0_2 cg0_0 cg0_1 cg0_2
  refine (toZpS_any A l ca _ (HRA.out.below HB_10.out) (by omega)).mono ?_
  rintro e w9 ⟨ve40, rfl, hoe40, hbe4⟩
  obtain ⟨Ae40, ce40, hve40, hcape40, _⟩ := OwnR.form fZp_len hoe40
  subst hve40
  have HAp_r20_e40 := Lib.hid (apart5 (fun k hk => (Hr20_10.out.lt k hk).2) (fun k hk => (hoe40.lt k hk).1))
  have HAp_x00_e40 := Lib.hid (apart5 (fun k hk => (Hx00_10.out.lt k hk).2) (fun k hk => (hoe40.lt k hk).1))
  have HAp_r30_e40 := Lib.hid (apart5 (fun k hk => (Hr30_10.out.lt k hk).2) (fun k hk => (hoe40.lt k hk).1))
  have HNX_w0_e40 := Lib.hid (fun g hg => Nat.ne_of_gt (Nat.lt_of_lt_of_le (heap_lt Kw0_10.out) (hoe40.lt g hg).1))
  have HNX_g0_e40 := Lib.hid (fun g hg => Nat.ne_of_gt (Nat.lt_of_lt_of_le (heap_lt Kg0_10.out) (hoe40.lt g hg).1))
  have Hr20_11 := Lib.hid (Hr20_10.out.below hbe4)
  have Hx00_11 := Lib.hid (Hx00_10.out.below hbe4)
  have Hr30_11 := Lib.hid (Hr30_10.out.below hbe4)
  have He40_11 := Lib.hid (hoe40.lower HB_10.out.size)
  have Kw0_11 := Lib.hid ((hbe4.block _ (heap_lt Kw0_10.out)).trans Kw0_10.out)
  have Kg0_11 := Lib.hid ((hbe4.block _ (heap_lt Kg0_10.out)).trans Kg0_10.out)
  have HB_11 := Lib.hid (below_more HB_10.out hbe4)
  clear Hr20_10 Hx00_10 Hr30_10 Kw0_10 Kg0_10 HB_10 hoe40 hbe4
  have cw0_0 : w9.cell? ⟨w2.heap.size, 0, none⟩ = some (.int .i64 N) := cell_of_row _ _ 0 _ _ _ Kw0_11.out
  have cw0_1 : w9.cell? ⟨w2.heap.size, 1, none⟩ = some (.int .i64 As) := cell_of_row _ _ 1 _ _ _ Kw0_11.out
  have cw0_2 : w9.cell? ⟨w2.heap.size, 2, none⟩ = some (.int .i64 Su) := cell_of_row _ _ 2 _ _ _ Kw0_11.out
  have cg0_0 : w9.cell? ⟨w5.heap.size, 0, none⟩ = some (.int .i64 N) := cell_of_row _ _ 0 _ _ _ Kg0_11.out
  have cg0_1 : w9.cell? ⟨w5.heap.size, 1, none⟩ = some (.int .i64 As) := cell_of_row _ _ 1 _ _ _ Kg0_11.out
  have cg0_2 : w9.cell? ⟨w5.heap.size, 2, none⟩ = some (.int .i64 Su) := cell_of_row _ _ 2 _ _ _ Kg0_11.out
  go_wp2_with fail
  clear cw0_0 cw0_1 cw0_2 cg0_0 cg0_1 cg0_2
  refine (eqZpS_self Ax00 Ae40 l cx00 ce40 _ (OwnR.rd fZp_len Hx00_11.out) (OwnR.rd fZp_len He40_11.out) (by omega)).mono ?_
  rintro e w10 ⟨rfl, hbq⟩
  have Hr20_12 := Lib.hid (Hr20_11.out.below hbq)
  have Hx00_12 := Lib.hid (Hx00_11.out.below hbq)
  have Hr30_12 := Lib.hid (Hr30_11.out.below hbq)
  have He40_12 := Lib.hid (He40_11.out.below hbq)
  have Kw0_12 := Lib.hid ((hbq.block _ (heap_lt Kw0_11.out)).trans Kw0_11.out)
  have Kg0_12 := Lib.hid ((hbq.block _ (heap_lt Kg0_11.out)).trans Kg0_11.out)
  have HB_12 := Lib.hid (below_more HB_11.out hbq)
  clear Hr20_11 Hx00_11 Hr30_11 He40_11 Kw0_11 Kg0_11 HB_11
  clear hbq
  clear He40_12
  have cw0_0 : w10.cell? ⟨w2.heap.size, 0, none⟩ = some (.int .i64 N) := cell_of_row _ _ 0 _ _ _ Kw0_12.out
  have cw0_1 : w10.cell? ⟨w2.heap.size, 1, none⟩ = some (.int .i64 As) := cell_of_row _ _ 1 _ _ _ Kw0_12.out
  have cw0_2 : w10.cell? ⟨w2.heap.size, 2, none⟩ = some (.int .i64 Su) := cell_of_row _ _ 2 _ _ _ Kw0_12.out
  have cg0_0 : w10.cell? ⟨w5.heap.size, 0, none⟩ = some (.int .i64 N) := cell_of_row _ _ 0 _ _ _ Kg0_12.out
  have cg0_1 : w10.cell? ⟨w5.heap.size, 1, none⟩ = some (.int .i64 As) := cell_of_row _ _ 1 _ _ _ Kg0_12.out
  have cg0_2 : w10.cell? ⟨w5.heap.size, 2, none⟩ = some (.int .i64 Su) := cell_of_row _ _ 2 _ _ _ Kg0_12.out
  go_wp2_with fail
  clear cw0_0 cw0_1 cw0_2 cg0_0 cg0_1 cg0_2
  refine (markZpS_any _ l _ 1 _ Hx00_12.out (by omega) (by omega) (by omega)).mono ?_
  rintro e w11 ⟨rfl, hm0, hg0⟩
  have Hr20_13 := Lib.hid (Hr20_12.out.kept hg0 HAp_r20_x00.out)
  have Hr30_13 := Lib.hid (Hr30_12.out.kept hg0 (gApart HAp_x00_r30.out))
  have Kw0_13 := Lib.hid ((hg0.block _ (heap_lt Kw0_12.out) (fun e => HNX_w0_x00.out _ e.symm rfl)).trans Kw0_12.out)
  have Kg0_13 := Lib.hid ((hg0.block _ (heap_lt Kg0_12.out) (fun e => HNX_g0_x00.out _ e.symm rfl)).trans Kg0_12.out)
  have HMb0 := Lib.hid (fun k hk => (Hx00_12.out.lt k hk).1)
  have HB_13 : Hid (Below w.heap.size w w11) := (HB_12.out.grown hg0 HB_12.out.size HMb0.out)
  have Hx00_13 := Lib.hid hm0
  clear Hr20_12 Hr30_12 Kw0_12 Kg0_12 HB_12 Hx00_12 hm0 hg0 HMb0
  clear Hx00_13
  have cw0_0 : w11.cell? ⟨w2.heap.size, 0, none⟩ = some (.int .i64 N) := cell_of_row _ _ 0 _ _ _ Kw0_13.out
  have cw0_1 : w11.cell? ⟨w2.heap.size, 1, none⟩ = some (.int .i64 As) := cell_of_row _ _ 1 _ _ _ Kw0_13.out
  have cw0_2 : w11.cell? ⟨w2.heap.size, 2, none⟩ = some (.int .i64 Su) := cell_of_row _ _ 2 _ _ _ Kw0_13.out
  have cg0_0 : w11.cell? ⟨w5.heap.size, 0, none⟩ = some (.int .i64 N) := cell_of_row _ _ 0 _ _ _ Kg0_13.out
  have cg0_1 : w11.cell? ⟨w5.heap.size, 1, none⟩ = some (.int .i64 As) := cell_of_row _ _ 1 _ _ _ Kg0_13.out
  have cg0_2 : w11.cell? ⟨w5.heap.size, 2, none⟩ = some (.int .i64 Su) := cell_of_row _ _ 2 _ _ _ Kg0_13.out
  go_wp2_with fail
  clear cw0_0 cw0_1 cw0_2 cg0_0 cg0_1 cg0_2
  refine (eqZa_self N As Su _).mono ?_
  rintro e w12 ⟨rfl, hbq⟩
  have Hr20_14 := Lib.hid (Hr20_13.out.below hbq)
  have Hr30_14 := Lib.hid (Hr30_13.out.below hbq)
  have Kw0_14 := Lib.hid ((hbq.block _ (heap_lt Kw0_13.out)).trans Kw0_13.out)
  have Kg0_14 := Lib.hid ((hbq.block _ (heap_lt Kg0_13.out)).trans Kg0_13.out)
  have HB_14 := Lib.hid (below_more HB_13.out hbq)
  clear Hr20_13 Hr30_13 Kw0_13 Kg0_13 HB_13
  clear hbq
  have cw0_0 : w12.cell? ⟨w2.heap.size, 0, none⟩ = some (.int .i64 N) := cell_of_row _ _ 0 _ _ _ Kw0_14.out
  have cw0_1 : w12.cell? ⟨w2.heap.size, 1, none⟩ = some (.int .i64 As) := cell_of_row _ _ 1 _ _ _ Kw0_14.out
  have cw0_2 : w12.cell? ⟨w2.heap.size, 2, none⟩ = some (.int .i64 Su) := cell_of_row _ _ 2 _ _ _ Kw0_14.out
  have cg0_0 : w12.cell? ⟨w5.heap.size, 0, none⟩ = some (.int .i64 N) := cell_of_row _ _ 0 _ _ _ Kg0_14.out
  have cg0_1 : w12.cell? ⟨w5.heap.size, 1, none⟩ = some (.int .i64 As) := cell_of_row _ _ 1 _ _ _ Kg0_14.out
  have cg0_2 : w12.cell? ⟨w5.heap.size, 2, none⟩ = some (.int .i64 Su) := cell_of_row _ _ 2 _ _ _ Kg0_14.out
  go_wp2_with fail
  clear cw0_0 cw0_1 cw0_2 cg0_0 cg0_1 cg0_2
  refine (eqZaS_self Ar30 Ar20 V cr30 cr20 _ (OwnR.rd fZa_len Hr30_14.out) (OwnR.rd fZa_len Hr20_14.out) (by omega)).mono ?_
  rintro e w13 ⟨rfl, hbq⟩
  have Hr20_15 := Lib.hid (Hr20_14.out.below hbq)
  have Hr30_15 := Lib.hid (Hr30_14.out.below hbq)
  have Kw0_15 := Lib.hid ((hbq.block _ (heap_lt Kw0_14.out)).trans Kw0_14.out)
  have Kg0_15 := Lib.hid ((hbq.block _ (heap_lt Kg0_14.out)).trans Kg0_14.out)
  have HB_15 := Lib.hid (below_more HB_14.out hbq)
  clear Hr20_14 Hr30_14 Kw0_14 Kg0_14 HB_14
  clear hbq
  have cw0_0 : w13.cell? ⟨w2.heap.size, 0, none⟩ = some (.int .i64 N) := cell_of_row _ _ 0 _ _ _ Kw0_15.out
  have cw0_1 : w13.cell? ⟨w2.heap.size, 1, none⟩ = some (.int .i64 As) := cell_of_row _ _ 1 _ _ _ Kw0_15.out
  have cw0_2 : w13.cell? ⟨w2.heap.size, 2, none⟩ = some (.int .i64 Su) := cell_of_row _ _ 2 _ _ _ Kw0_15.out
  have cg0_0 : w13.cell? ⟨w5.heap.size, 0, none⟩ = some (.int .i64 N) := cell_of_row _ _ 0 _ _ _ Kg0_15.out
  have cg0_1 : w13.cell? ⟨w5.heap.size, 1, none⟩ = some (.int .i64 As) := cell_of_row _ _ 1 _ _ _ Kg0_15.out
  have cg0_2 : w13.cell? ⟨w5.heap.size, 2, none⟩ = some (.int .i64 Su) := cell_of_row _ _ 2 _ _ _ Kg0_15.out
  go_wp2_with fail
  clear cw0_0 cw0_1 cw0_2 cg0_0 cg0_1 cg0_2
  refine (markZaS_any _ V _ 1 _ Hr30_15.out (by omega) (by omega) (by omega)).mono ?_
  rintro e w14 ⟨rfl, hm0, hg0⟩
  have Hr20_16 := Lib.hid (Hr20_15.out.kept hg0 HAp_r20_r30.out)
  have Kw0_16 := Lib.hid ((hg0.block _ (heap_lt Kw0_15.out) (fun e => HNX_w0_r30.out _ e.symm rfl)).trans Kw0_15.out)
  have Kg0_16 := Lib.hid ((hg0.block _ (heap_lt Kg0_15.out) (fun e => HNX_g0_r30.out _ e.symm rfl)).trans Kg0_15.out)
  have HMb0 := Lib.hid (fun k hk => (Hr30_15.out.lt k hk).1)
  have HB_16 : Hid (Below w.heap.size w w14) := (HB_15.out.grown hg0 HB_15.out.size HMb0.out)
  have Hr30_16 := Lib.hid hm0
  clear Hr20_15 Kw0_15 Kg0_15 HB_15 Hr30_15 hm0 hg0 HMb0
  have cw0_0 : w14.cell? ⟨w2.heap.size, 0, none⟩ = some (.int .i64 N) := cell_of_row _ _ 0 _ _ _ Kw0_16.out
  have cw0_1 : w14.cell? ⟨w2.heap.size, 1, none⟩ = some (.int .i64 As) := cell_of_row _ _ 1 _ _ _ Kw0_16.out
  have cw0_2 : w14.cell? ⟨w2.heap.size, 2, none⟩ = some (.int .i64 Su) := cell_of_row _ _ 2 _ _ _ Kw0_16.out
  have cg0_0 : w14.cell? ⟨w5.heap.size, 0, none⟩ = some (.int .i64 N) := cell_of_row _ _ 0 _ _ _ Kg0_16.out
  have cg0_1 : w14.cell? ⟨w5.heap.size, 1, none⟩ = some (.int .i64 As) := cell_of_row _ _ 1 _ _ _ Kg0_16.out
  have cg0_2 : w14.cell? ⟨w5.heap.size, 2, none⟩ = some (.int .i64 Su) := cell_of_row _ _ 2 _ _ _ Kg0_16.out
  go_wp2_with fail
  clear cw0_0 cw0_1 cw0_2 cg0_0 cg0_1 cg0_2
  refine (heldZaS_any Ar30 1 V.length cr30 _ (OwnR.rd fZa_len Hr30_16.out) (by omega) (by omega) (by omega)).mono ?_
  rintro e w15 ⟨rfl, hbq⟩
  have Hr20_17 := Lib.hid (Hr20_16.out.below hbq)
  have Hr30_17 := Lib.hid (Hr30_16.out.below hbq)
  have Kw0_17 := Lib.hid ((hbq.block _ (heap_lt Kw0_16.out)).trans Kw0_16.out)
  have Kg0_17 := Lib.hid ((hbq.block _ (heap_lt Kg0_16.out)).trans Kg0_16.out)
  have HB_17 := Lib.hid (below_more HB_16.out hbq)
  clear Hr20_16 Hr30_16 Kw0_16 Kg0_16 HB_16
  clear hbq
  have cw0_0 : w15.cell? ⟨w2.heap.size, 0, none⟩ = some (.int .i64 N) := cell_of_row _ _ 0 _ _ _ Kw0_17.out
  have cw0_1 : w15.cell? ⟨w2.heap.size, 1, none⟩ = some (.int .i64 As) := cell_of_row _ _ 1 _ _ _ Kw0_17.out
  have cw0_2 : w15.cell? ⟨w2.heap.size, 2, none⟩ = some (.int .i64 Su) := cell_of_row _ _ 2 _ _ _ Kw0_17.out
  have cg0_0 : w15.cell? ⟨w5.heap.size, 0, none⟩ = some (.int .i64 N) := cell_of_row _ _ 0 _ _ _ Kg0_17.out
  have cg0_1 : w15.cell? ⟨w5.heap.size, 1, none⟩ = some (.int .i64 As) := cell_of_row _ _ 1 _ _ _ Kg0_17.out
  have cg0_2 : w15.cell? ⟨w5.heap.size, 2, none⟩ = some (.int .i64 Su) := cell_of_row _ _ 2 _ _ _ Kg0_17.out
  go_wp2_with fail
  clear cw0_0 cw0_1 cw0_2 cg0_0 cg0_1 cg0_2
  refine (toZpS_any A l ca _ (HRA.out.below HB_17.out) (by omega)).mono ?_
  rintro e w16 ⟨vt50, rfl, hot50, hbt5⟩
  obtain ⟨At50, ct50, hvt50, hcapt50, _⟩ := OwnR.form fZp_len hot50
  subst hvt50
  have HAp_r20_t50 := Lib.hid (apart5 (fun k hk => (Hr20_17.out.lt k hk).2) (fun k hk => (hot50.lt k hk).1))
  have HAp_r30_t50 := Lib.hid (apart5 (fun k hk => (Hr30_17.out.lt k hk).2) (fun k hk => (hot50.lt k hk).1))
  have HNX_w0_t50 := Lib.hid (fun g hg => Nat.ne_of_gt (Nat.lt_of_lt_of_le (heap_lt Kw0_17.out) (hot50.lt g hg).1))
  have HNX_g0_t50 := Lib.hid (fun g hg => Nat.ne_of_gt (Nat.lt_of_lt_of_le (heap_lt Kg0_17.out) (hot50.lt g hg).1))
  have Hr20_18 := Lib.hid (Hr20_17.out.below hbt5)
  have Hr30_18 := Lib.hid (Hr30_17.out.below hbt5)
  have Ht50_18 := Lib.hid (hot50.lower HB_17.out.size)
  have Kw0_18 := Lib.hid ((hbt5.block _ (heap_lt Kw0_17.out)).trans Kw0_17.out)
  have Kg0_18 := Lib.hid ((hbt5.block _ (heap_lt Kg0_17.out)).trans Kg0_17.out)
  have HB_18 := Lib.hid (below_more HB_17.out hbt5)
  clear Hr20_17 Hr30_17 Kw0_17 Kg0_17 HB_17 hot50 hbt5
  have cw0_0 : w16.cell? ⟨w2.heap.size, 0, none⟩ = some (.int .i64 N) := cell_of_row _ _ 0 _ _ _ Kw0_18.out
  have cw0_1 : w16.cell? ⟨w2.heap.size, 1, none⟩ = some (.int .i64 As) := cell_of_row _ _ 1 _ _ _ Kw0_18.out
  have cw0_2 : w16.cell? ⟨w2.heap.size, 2, none⟩ = some (.int .i64 Su) := cell_of_row _ _ 2 _ _ _ Kw0_18.out
  have cg0_0 : w16.cell? ⟨w5.heap.size, 0, none⟩ = some (.int .i64 N) := cell_of_row _ _ 0 _ _ _ Kg0_18.out
  have cg0_1 : w16.cell? ⟨w5.heap.size, 1, none⟩ = some (.int .i64 As) := cell_of_row _ _ 1 _ _ _ Kg0_18.out
  have cg0_2 : w16.cell? ⟨w5.heap.size, 2, none⟩ = some (.int .i64 Su) := cell_of_row _ _ 2 _ _ _ Kg0_18.out
  go_wp2_with fail
  clear cw0_0 cw0_1 cw0_2 cg0_0 cg0_1 cg0_2
  refine (HI.out At50 ct50 _ (hK _ _ HW.out HB_18.out) (OwnR.rd fZp_len Ht50_18.out) (ownR_lies Ht50_18.out) (by omega)).mono ?_
  rintro e w17 ⟨vr60, rfl, hor60, hbr6⟩
  obtain ⟨Ar60, cr60, hvr60, hcapr60, _⟩ := OwnR.form fZa_len hor60
  subst hvr60
  have HAp_r20_r60 := Lib.hid (apart5 (fun k hk => (Hr20_18.out.lt k hk).2) (fun k hk => (hor60.lt k hk).1))
  have HAp_r30_r60 := Lib.hid (apart5 (fun k hk => (Hr30_18.out.lt k hk).2) (fun k hk => (hor60.lt k hk).1))
  have HAp_t50_r60 := Lib.hid (apart5 (fun k hk => (Ht50_18.out.lt k hk).2) (fun k hk => (hor60.lt k hk).1))
  have HNX_w0_r60 := Lib.hid (fun g hg => Nat.ne_of_gt (Nat.lt_of_lt_of_le (heap_lt Kw0_18.out) (hor60.lt g hg).1))
  have HNX_g0_r60 := Lib.hid (fun g hg => Nat.ne_of_gt (Nat.lt_of_lt_of_le (heap_lt Kg0_18.out) (hor60.lt g hg).1))
  have Hr20_19 := Lib.hid (Hr20_18.out.below hbr6)
  have Hr30_19 := Lib.hid (Hr30_18.out.below hbr6)
  have Ht50_19 := Lib.hid (Ht50_18.out.below hbr6)
  have Hr60_19 := Lib.hid (hor60.lower HB_18.out.size)
  have Kw0_19 := Lib.hid ((hbr6.block _ (heap_lt Kw0_18.out)).trans Kw0_18.out)
  have Kg0_19 := Lib.hid ((hbr6.block _ (heap_lt Kg0_18.out)).trans Kg0_18.out)
  have HB_19 := Lib.hid (below_more HB_18.out hbr6)
  clear Hr20_18 Hr30_18 Ht50_18 Kw0_18 Kg0_18 HB_18 hor60 hbr6
  obtain ⟨w18, hw20⟩ : ∃ wn, w17.alloc (.cells #[.int .i64 N, .int .i64 As, .int .i64 Su] 26) = wn := ⟨_, rfl⟩
  have hbx : Below w17.heap.size w17 w18 := by rw [← hw20]; exact gAlloc _ _
  have KX : w18.heap[w17.heap.size]? = some (.cells #[.int .i64 N, .int .i64 As, .int .i64 Su] 26 (0, 0)) := by rw [← hw20]; exact heap_alloc_new _ _
  have HNX_h0_r20 := Lib.hid (fun g hg => Nat.ne_of_lt (Hr20_19.out.lt g hg).2)
  have HNX_h0_r30 := Lib.hid (fun g hg => Nat.ne_of_lt (Hr30_19.out.lt g hg).2)
  have HNX_h0_t50 := Lib.hid (fun g hg => Nat.ne_of_lt (Ht50_19.out.lt g hg).2)
  have HNX_h0_r60 := Lib.hid (fun g hg => Nat.ne_of_lt (Hr60_19.out.lt g hg).2)
  have Hr20_21 := Lib.hid (Hr20_19.out.below hbx)
  have Hr30_21 := Lib.hid (Hr30_19.out.below hbx)
  have Ht50_21 := Lib.hid (Ht50_19.out.below hbx)
  have Hr60_21 := Lib.hid (Hr60_19.out.below hbx)
  have Kw0_21 := Lib.hid ((hbx.block _ (heap_lt Kw0_19.out)).trans Kw0_19.out)
  have Kg0_21 := Lib.hid ((hbx.block _ (heap_lt Kg0_19.out)).trans Kg0_19.out)
  have HB_21 := Lib.hid (below_more HB_19.out hbx)
  clear Hr20_19 Hr30_19 Ht50_19 Hr60_19 Kw0_19 Kg0_19 HB_19
  have Kh0_20 := Lib.hid KX
  clear hbx KX
  clear Ht50_21
  have cw0_0 : w18.cell? ⟨w2.heap.size, 0, none⟩ = some (.int .i64 N) := cell_of_row _ _ 0 _ _ _ Kw0_21.out
  have cw0_1 : w18.cell? ⟨w2.heap.size, 1, none⟩ = some (.int .i64 As) := cell_of_row _ _ 1 _ _ _ Kw0_21.out
  have cw0_2 : w18.cell? ⟨w2.heap.size, 2, none⟩ = some (.int .i64 Su) := cell_of_row _ _ 2 _ _ _ Kw0_21.out
  have cg0_0 : w18.cell? ⟨w5.heap.size, 0, none⟩ = some (.int .i64 N) := cell_of_row _ _ 0 _ _ _ Kg0_21.out
  have cg0_1 : w18.cell? ⟨w5.heap.size, 1, none⟩ = some (.int .i64 As) := cell_of_row _ _ 1 _ _ _ Kg0_21.out
  have cg0_2 : w18.cell? ⟨w5.heap.size, 2, none⟩ = some (.int .i64 Su) := cell_of_row _ _ 2 _ _ _ Kg0_21.out
  have ch0_0 : w18.cell? ⟨w17.heap.size, 0, none⟩ = some (.int .i64 N) := cell_of_row _ _ 0 _ _ _ Kh0_20.out
  have ch0_1 : w18.cell? ⟨w17.heap.size, 1, none⟩ = some (.int .i64 As) := cell_of_row _ _ 1 _ _ _ Kh0_20.out
  have ch0_2 : w18.cell? ⟨w17.heap.size, 2, none⟩ = some (.int .i64 Su) := cell_of_row _ _ 2 _ _ _ Kh0_20.out
  go_wp2_with fail
  clear cw0_0 cw0_1 cw0_2 cg0_0 cg0_1 cg0_2 ch0_0 ch0_1 ch0_2 hw20
  refine (eqZa_self N As Su _).mono ?_
  rintro e w19 ⟨rfl, hbq⟩
  have Hr20_22 := Lib.hid (Hr20_21.out.below hbq)
  have Hr30_22 := Lib.hid (Hr30_21.out.below hbq)
  have Hr60_22 := Lib.hid (Hr60_21.out.below hbq)
  have Kw0_22 := Lib.hid ((hbq.block _ (heap_lt Kw0_21.out)).trans Kw0_21.out)
  have Kg0_22 := Lib.hid ((hbq.block _ (heap_lt Kg0_21.out)).trans Kg0_21.out)
  have Kh0_22 := Lib.hid ((hbq.block _ (heap_lt Kh0_20.out)).trans Kh0_20.out)
  have HB_22 := Lib.hid (below_more HB_21.out hbq)
  clear Hr20_21 Hr30_21 Hr60_21 Kw0_21 Kg0_21 Kh0_20 HB_21
  clear hbq
  have cw0_0 : w19.cell? ⟨w2.heap.size, 0, none⟩ = some (.int .i64 N) := cell_of_row _ _ 0 _ _ _ Kw0_22.out
  have cw0_1 : w19.cell? ⟨w2.heap.size, 1, none⟩ = some (.int .i64 As) := cell_of_row _ _ 1 _ _ _ Kw0_22.out
  have cw0_2 : w19.cell? ⟨w2.heap.size, 2, none⟩ = some (.int .i64 Su) := cell_of_row _ _ 2 _ _ _ Kw0_22.out
  have cg0_0 : w19.cell? ⟨w5.heap.size, 0, none⟩ = some (.int .i64 N) := cell_of_row _ _ 0 _ _ _ Kg0_22.out
  have cg0_1 : w19.cell? ⟨w5.heap.size, 1, none⟩ = some (.int .i64 As) := cell_of_row _ _ 1 _ _ _ Kg0_22.out
  have cg0_2 : w19.cell? ⟨w5.heap.size, 2, none⟩ = some (.int .i64 Su) := cell_of_row _ _ 2 _ _ _ Kg0_22.out
  have ch0_0 : w19.cell? ⟨w17.heap.size, 0, none⟩ = some (.int .i64 N) := cell_of_row _ _ 0 _ _ _ Kh0_22.out
  have ch0_1 : w19.cell? ⟨w17.heap.size, 1, none⟩ = some (.int .i64 As) := cell_of_row _ _ 1 _ _ _ Kh0_22.out
  have ch0_2 : w19.cell? ⟨w17.heap.size, 2, none⟩ = some (.int .i64 Su) := cell_of_row _ _ 2 _ _ _ Kh0_22.out
  go_wp2_with fail
  clear cw0_0 cw0_1 cw0_2 cg0_0 cg0_1 cg0_2 ch0_0 ch0_1 ch0_2
  refine (eqZaS_self Ar60 Ar20 V cr60 cr20 _ (OwnR.rd fZa_len Hr60_22.out) (OwnR.rd fZa_len Hr20_22.out) (by omega)).mono ?_
  rintro e w20 ⟨rfl, hbq⟩
  have Hr20_23 := Lib.hid (Hr20_22.out.below hbq)
  have Hr30_23 := Lib.hid (Hr30_22.out.below hbq)
  have Hr60_23 := Lib.hid (Hr60_22.out.below hbq)
  have Kw0_23 := Lib.hid ((hbq.block _ (heap_lt Kw0_22.out)).trans Kw0_22.out)
  have Kg0_23 := Lib.hid ((hbq.block _ (heap_lt Kg0_22.out)).trans Kg0_22.out)
  have Kh0_23 := Lib.hid ((hbq.block _ (heap_lt Kh0_22.out)).trans Kh0_22.out)
  have HB_23 := Lib.hid (below_more HB_22.out hbq)
  clear Hr20_22 Hr30_22 Hr60_22 Kw0_22 Kg0_22 Kh0_22 HB_22
  clear hbq
  clear Hr20_23
  clear Hr60_23
  have cw0_0 : w20.cell? ⟨w2.heap.size, 0, none⟩ = some (.int .i64 N) := cell_of_row _ _ 0 _ _ _ Kw0_23.out
  have cw0_1 : w20.cell? ⟨w2.heap.size, 1, none⟩ = some (.int .i64 As) := cell_of_row _ _ 1 _ _ _ Kw0_23.out
  have cw0_2 : w20.cell? ⟨w2.heap.size, 2, none⟩ = some (.int .i64 Su) := cell_of_row _ _ 2 _ _ _ Kw0_23.out
  have cg0_0 : w20.cell? ⟨w5.heap.size, 0, none⟩ = some (.int .i64 N) := cell_of_row _ _ 0 _ _ _ Kg0_23.out
  have cg0_1 : w20.cell? ⟨w5.heap.size, 1, none⟩ = some (.int .i64 As) := cell_of_row _ _ 1 _ _ _ Kg0_23.out
  have cg0_2 : w20.cell? ⟨w5.heap.size, 2, none⟩ = some (.int .i64 Su) := cell_of_row _ _ 2 _ _ _ Kg0_23.out
  have ch0_0 : w20.cell? ⟨w17.heap.size, 0, none⟩ = some (.int .i64 N) := cell_of_row _ _ 0 _ _ _ Kh0_23.out
  have ch0_1 : w20.cell? ⟨w17.heap.size, 1, none⟩ = some (.int .i64 As) := cell_of_row _ _ 1 _ _ _ Kh0_23.out
  have ch0_2 : w20.cell? ⟨w17.heap.size, 2, none⟩ = some (.int .i64 Su) := cell_of_row _ _ 2 _ _ _ Kh0_23.out
  go_wp2_with fail
  clear cw0_0 cw0_1 cw0_2 cg0_0 cg0_1 cg0_2 ch0_0 ch0_1 ch0_2
  refine (heldZaS_any Ar30 1 V.length cr30 _ (OwnR.rd fZa_len Hr30_23.out) (by omega) (by omega) (by omega)).mono ?_
  rintro e w21 ⟨rfl, hbq⟩
  have Hr30_24 := Lib.hid (Hr30_23.out.below hbq)
  have Kw0_24 := Lib.hid ((hbq.block _ (heap_lt Kw0_23.out)).trans Kw0_23.out)
  have Kg0_24 := Lib.hid ((hbq.block _ (heap_lt Kg0_23.out)).trans Kg0_23.out)
  have Kh0_24 := Lib.hid ((hbq.block _ (heap_lt Kh0_23.out)).trans Kh0_23.out)
  have HB_24 := Lib.hid (below_more HB_23.out hbq)
  clear Hr30_23 Kw0_23 Kg0_23 Kh0_23 HB_23
  clear hbq
  go_wp2_with fail
  go_ret
  exact ⟨rfl, HB_24.out⟩
end Go.Proofs.Ythmnenejfonfgaa
