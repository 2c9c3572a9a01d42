/-
  The laws' draws: a cursor over bytes (chapter 1's l1Cur): next, pick, one, among.
-/
import Derived.Test.YtgakklanboabjaaH2
import Derived.Deep.QuietTactic
import Derived.BigQuiet
import Derived.Laws.BitsLemmas
namespace Go.Proofs.Ytgakklanboabjaa
open Go.RowKit

/-- The bytes of a slice, in blocks below B. -/
def Byts (w : World) (B : Nat) (A : Option Addr) (zs : List Int) : Prop :=
  (∀ z ∈ zs, 0 ≤ z ∧ z ≤ 255) ∧ (zs ≠ [] → ∃ b o, A = some ⟨b, o, none⟩ ∧ b < B ∧ ∀ j, j < zs.length → w.cell? ⟨b, o + j, none⟩ = some (.int .u8 (zs.getD j 0)))
theorem Byts.keep {w w' : World} {B : Nat} {A : Option Addr} {zs : List Int} (h : Byts w B A zs) (hk : ∀ p : Addr, p.block < B → w'.cell? p = w.cell? p) : Byts w' B A zs :=
  ⟨h.1, fun hne => by
    obtain ⟨b, o, e, hb, hc⟩ := h.2 hne
    exact ⟨b, o, e, hb, fun j hj => (hk _ hb).trans (hc j hj)⟩⟩

/-- A cursor lies in block B: it has been moved at most k times. -/
def Cur (w : World) (B k : Nat) : Prop :=
  ∃ A zs c n s, Byts w B A zs ∧ w.cell? ⟨B, 0, none⟩ = some (.slice A zs.length c) ∧ w.cell? ⟨B, 1, none⟩ = some (.int .i64 (n : Nat)) ∧ w.cell? ⟨B, 2, none⟩ = some (.int .u64 s) ∧
    w.frozen? ⟨B, 1, none⟩ = false ∧ w.frozen? ⟨B, 2, none⟩ = false ∧ n ≤ k ∧ 0 ≤ s ∧ s ≤ 18446744073709551615

theorem heap_setCell_ne (w : World) (p : Addr) (u : Value) (k : Nat) (h : k ≠ p.block) : (w.setCell p u).heap[k]? = w.heap[k]? := Below.heap_setCell w p u k h

theorem wrap_u64_lo (X : Int) : 0 ≤ IntKind.u64.wrap X := by rw [IntKind.wrap_u64]; omega
theorem wrap_u64_hi (X : Int) : IntKind.u64.wrap X ≤ 18446744073709551615 := by rw [IntKind.wrap_u64]; omega
theorem and255 (S : Int) (h0 : 0 ≤ S) (h1 : S ≤ 18446744073709551615) : 0 ≤ bits .and .u64 (S / 1099511627776) 255 ∧ bits .and .u64 (S / 1099511627776) 255 ≤ 255 := by
  have h := bits_mask .u64 63 (by decide) (fun n h0 h1 => by rw [IntKind.wrap_u64]; omega) 8 (by decide) (S / 1099511627776) (by omega) (by omega)
  rw [show ((2 : Int) ^ 8 - 1) = 255 from rfl] at h
  rw [h]
  omega

theorem r_end (X : Int) : 0 ≤ wrap64 (bits .and .u64 (IntKind.u64.wrap X / 1099511627776) 255) ∧ wrap64 (bits .and .u64 (IntKind.u64.wrap X / 1099511627776) 255) ≤ 255 := by
  obtain ⟨h0, h1⟩ := and255 (IntKind.u64.wrap X) (wrap_u64_lo X) (wrap_u64_hi X)
  have : wrap64 (bits .and .u64 (IntKind.u64.wrap X / 1099511627776) 255) = bits .and .u64 (IntKind.u64.wrap X / 1099511627776) 255 := by unfold wrap64; omega
  rw [this]; exact ⟨h0, h1⟩

/-- A cursor that has been moved once more. -/
theorem cur_end (B k n m1 m2 : Nat) (A : Option Addr) (zs : List Int) (c : Nat) (s X : Int) (w : World) (hb : Byts w B A zs) (c0 : w.cell? ⟨B, 0, none⟩ = some (.slice A zs.length c)) (c1 : w.cell? ⟨B, 1, none⟩ = some (.int .i64 (n : Nat))) (c2 : w.cell? ⟨B, 2, none⟩ = some (.int .u64 s))
    (f1 : w.frozen? ⟨B, 1, none⟩ = false) (f2 : w.frozen? ⟨B, 2, none⟩ = false) (hn : n ≤ k) :
    Cur ((((w.drewN m1).setCell ⟨B, 1, none⟩ (.int .i64 ((n : Int) + 1))).setCell ⟨B, 2, none⟩ (.int .u64 (IntKind.u64.wrap X))).drewN m2) B (k + 1) ∧
      w.grownBy ((((w.drewN m1).setCell ⟨B, 1, none⟩ (.int .i64 ((n : Int) + 1))).setCell ⟨B, 2, none⟩ (.int .u64 (IntKind.u64.wrap X))).drewN m2) (some B) := by
  refine ⟨⟨A, zs, c, n + 1, IntKind.u64.wrap X, hb.keep fun p hp => ?_, ?_, ?_, ?_, ?_, ?_, by omega, wrap_u64_lo X, wrap_u64_hi X⟩, rfl, rfl, rfl, ?_, fun j _ hj => ?_⟩
  · apply World.cell?_of_block
    show (((w.drewN m1).setCell _ _).setCell _ _).heap[p.block]? = _
    rw [heap_setCell_ne _ _ _ _ (by simp; omega), heap_setCell_ne _ _ _ _ (by simp; omega)]; rfl
  · go_simp
  · go_simp
  · go_simp
  · go_simp
  · go_simp
  · simp
  · show (((w.drewN m1).setCell _ _).setCell _ _).heap[j]? = _
    have hne : j ≠ B := fun e => hj (by rw [e])
    rw [heap_setCell_ne _ _ _ _ (by simpa using hne), heap_setCell_ne _ _ _ _ (by simpa using hne)]; rfl

set_option maxRecDepth 100000 in
set_option maxHeartbeats 1000000 in
theorem next_any (B k : Nat) (w : World) (hcur : Cur w B k) (hk : k ≤ 1099511627776) :
    Calls Try.prog 63 #[.pointer (some ⟨B, 0, none⟩)] w fun e w' => ∃ r : Int, e = .returned (.int .i64 r) ∧ 0 ≤ r ∧ r ≤ 255 ∧ Cur w' B (k + 1) ∧ w.grownBy w' (some B) := by
  obtain ⟨A, zs, c, n, s, hb, c0, c1, c2, f1, f2, hn, hs0, hs1⟩ := hcur
  have HB := Lib.hid hb
  clear hs1
  by_cases hlt : n < zs.length
  · obtain ⟨hz, hcs⟩ := hb
    obtain ⟨b, o, rfl, hbB, hc⟩ := hcs (by rintro rfl; simp at hlt)
    have hcz := hc n hlt
    rw [show zs.getD n 0 = zs[n] by simp [List.getD, hlt]] at hcz
    obtain ⟨hz1, hz2⟩ := hz zs[n] (List.getElem_mem hlt)
    clear hc hcs hz
    have hi : (n : Int) < (zs.length : Int) := by omega
    generalize zs[n] = z at *
    go_enter Try.func63, Try.ntmps63
    go_wp2_with fail
    go_quiet (fail)
    go_wp2_with fail
    go_quiet (fail)
    go_wp2_with fail
    go_quiet (fail)
    go_wp2_with fail
    go_ret
    exact ⟨z, rfl, hz1, hz2, cur_end _ _ _ _ _ _ _ _ _ _ _ HB.out c0 c1 c2 f1 f2 hn⟩
  · have hi : ¬ (n : Int) < (zs.length : Int) := by omega
    have hi2 : (zs.length : Int) < (n : Int) + 1 := by omega
    clear hb
    go_enter Try.func63, Try.ntmps63
    go_wp2_with fail
    go_quiet (fail)
    go_wp2_with fail
    go_quiet (fail)
    go_wp2_with fail
    go_ret
    exact ⟨_, rfl, (r_end _).1, (r_end _).2, cur_end _ _ _ _ _ _ _ _ _ _ _ HB.out c0 c1 c2 f1 f2 hn⟩

theorem Cur.mono {w : World} {B k k' : Nat} (h : Cur w B k) (hk : k ≤ k') : Cur w B k' := by
  obtain ⟨A, zs, c, n, s, hb, c0, c1, c2, f1, f2, hn, hs0, hs1⟩ := h
  exact ⟨A, zs, c, n, s, hb, c0, c1, c2, f1, f2, by omega, hs0, hs1⟩
theorem Cur.lt {w : World} {B k : Nat} (h : Cur w B k) : B < w.heap.size := by
  obtain ⟨A, zs, c, n, s, hb, c0, _⟩ := h
  exact World.block_lt_of_cell? _ _ c0
/-- New blocks, and writes to other blocks of the call's own, leave a cursor as it is. -/
theorem Cur.grown {w w' : World} {B k : Nat} {row : Option Nat} (h : Cur w B k) (hg : w.grownBy w' row) (hr : ∀ g, row = some g → B < g) : Cur w' B k := by
  have hB := h.lt
  have hblk : ∀ j, j ≤ B → w'.heap[j]? = w.heap[j]? := fun j hj => hg.block j (by omega) (fun e => by have := hr j e.symm; omega)
  obtain ⟨A, zs, c, n, s, hb, c0, c1, c2, f1, f2, hn, hs0, hs1⟩ := h
  have hc : ∀ p : Addr, p.block ≤ B → w'.cell? p = w.cell? p := fun p hp => World.cell?_of_block (hblk _ hp)
  have hf : ∀ p : Addr, p.block ≤ B → w'.frozen? p = w.frozen? p := fun p hp => World.frozen?_of_block (hblk _ hp)
  exact ⟨A, zs, c, n, s, hb.keep fun p hp => hc p (by omega), (hc _ (Nat.le_refl _)).trans c0, (hc _ (Nat.le_refl _)).trans c1, (hc _ (Nat.le_refl _)).trans c2, (hf _ (Nat.le_refl _)).trans f1, (hf _ (Nat.le_refl _)).trans f2, hn, hs0, hs1⟩
theorem Cur.below {w w' : World} {B k : Nat} (h : Cur w B k) (hb : Below w.heap.size w w') : Cur w' B k :=
  h.grown (row := none) ⟨hb.os, hb.tape, hb.output, hb.size, fun j hj _ => hb.block j hj⟩ (fun g e => by cases e)

/-- What pick and one leave: a number below n (or 0), the cursor moved on, nothing else turned. -/
def Picked (B k : Nat) (w : World) (P : Int → Prop) (e : Ending) (w' : World) : Prop := ∃ r : Int, e = .returned (.int .i64 r) ∧ P r ∧ Cur w' B (k + 2) ∧ w.grownBy w' (some B)

theorem emod_pick (x n : Int) (hn : 1 < n) : 0 ≤ x % n ∧ (x % n < n ∨ x % n = 0) :=
  ⟨Int.emod_nonneg _ (by omega), Or.inl (Int.emod_lt_of_pos _ (by omega))⟩

set_option maxRecDepth 100000 in
set_option maxHeartbeats 1000000 in
theorem pick_any (B k : Nat) (n : Int) (w : World) (hcur : Cur w B k) (hk : k ≤ 549755813888) (hn : n ≤ 1073741824) :
    Calls Try.prog 53 #[.pointer (some ⟨B, 0, none⟩), .int .i64 n] w (Picked B k w fun r => 0 ≤ r ∧ (r < n ∨ r = 0)) := by
  have HC := Lib.hid hcur
  clear hcur
  by_cases h1 : n ≤ 1
  · go_enter Try.func53, Try.ntmps53
    go_wp2_with fail
    go_ret
    exact ⟨0, rfl, ⟨by omega, by omega⟩, HC.out.mono (by omega), World.grownBy.refl _ _⟩
  · by_cases h2 : n ≤ 200
    · go_enter Try.func53, Try.ntmps53
      go_wp2_with fail
      refine (next_any B k _ HC.out (by omega)).mono ?_
      rintro e w1 ⟨r, rfl, hr0, hr1, hc1, hg1⟩
      have HC1 := Lib.hid hc1
      have HG1 := Lib.hid hg1
      clear hc1 hg1
      go_wp2_with fail
      go_ret
      exact ⟨_, rfl, emod_pick _ _ (by omega), HC1.out.mono (by omega), HG1.out⟩
    · go_enter Try.func53, Try.ntmps53
      go_wp2_with fail
      refine (next_any B k _ HC.out (by omega)).mono ?_
      rintro e w1 ⟨r, rfl, hr0, hr1, hc1, hg1⟩
      have HC1 := Lib.hid hc1
      have HG1 := Lib.hid hg1
      clear hc1 hg1
      go_wp2_with fail
      refine (next_any B (k + 1) _ HC1.out (by omega)).mono ?_
      rintro e w2 ⟨q, rfl, hq0, hq1, hc2, hg2⟩
      have HC2 := Lib.hid hc2
      have HG2 := Lib.hid hg2
      clear hc2 hg2
      go_wp2_with fail
      go_ret
      exact ⟨_, rfl, emod_pick _ _ (by omega), HC2.out.mono (by omega), grownBy_trans HG1.out HG2.out⟩

set_option maxRecDepth 100000 in
set_option maxHeartbeats 400000 in
theorem one_any (B k : Nat) (n : Int) (w : World) (hcur : Cur w B k) (hk : k ≤ 549755813888) (hn : n ≤ 1073741824) :
    Calls Try.prog 61 #[.pointer (some ⟨B, 0, none⟩), .int .i64 n] w fun e w' => ∃ b : Bool, e = .returned (.bool b) ∧ Cur w' B (k + 2) ∧ w.grownBy w' (some B) := by
  have HC := Lib.hid hcur
  clear hcur
  go_enter Try.func61, Try.ntmps61
  go_wp2_with fail
  refine (pick_any B k n _ HC.out hk hn).mono ?_
  rintro e w1 ⟨r, rfl, hr, hc1, hg1⟩
  have HC1 := Lib.hid hc1
  have HG1 := Lib.hid hg1
  clear hc1 hg1 hr
  go_wp2_with fail
  go_ret
  exact ⟨_, rfl, HC1.out, HG1.out⟩

set_option maxRecDepth 100000 in
set_option maxHeartbeats 400000 in
theorem among_any (B k : Nat) (b o ca : Nat) (zs : List Int) (w : World) (hcur : Cur w B k) (hk : k ≤ 549755813888) (hne : b ≠ B) (hl0 : 0 < zs.length) (hl : zs.length ≤ 1048576) (hcs : ∀ j, j < zs.length → w.cell? ⟨b, o + j, none⟩ = some (.int .i64 (zs.getD j 0))) :
    Calls Try.prog 54 #[.pointer (some ⟨B, 0, none⟩), .slice (some ⟨b, o, none⟩) zs.length ca] w fun e w' => ∃ r : Int, e = .returned (.int .i64 r) ∧ r ∈ zs ∧ Cur w' B (k + 2) ∧ w.grownBy w' (some B) := by
  have HC := Lib.hid hcur
  have HCS := Lib.hid hcs
  clear hcur hcs
  go_enter Try.func54, Try.ntmps54
  go_wp2_with fail
  refine (pick_any B k zs.length _ HC.out hk (by omega)).mono ?_
  rintro e w1 ⟨r, rfl, ⟨hr0, hr1⟩, hc1, hg1⟩
  have hlt : r.toNat < zs.length := by omega
  have hr2 : r < (zs.length : Int) := by omega
  have hcell : w1.cell? ⟨b, o + r.toNat, none⟩ = some (.int .i64 zs[r.toNat]) := by
    rw [hg1.cell (HCS.out r.toNat hlt) (by simpa using hne)]; simp [List.getD, hlt]
  have HC1 := Lib.hid hc1
  have HG1 := Lib.hid hg1
  have HM : Hid (zs[r.toNat] ∈ zs) := List.getElem_mem hlt
  clear hc1 hg1 hr1
  generalize zs[r.toNat] = z at *
  go_wp2_with fail
  go_ret
  exact ⟨_, rfl, HM.out, HC1.out, HG1.out⟩

/-- A slice literal's cells. -/
theorem lit_cells (w : World) (zs : List Int) (t : TypeId) : ∀ j, j < zs.length → (w.alloc (.cells (zs.map (Value.int .i64)).toArray t)).cell? ⟨w.heap.size, 0 + j, none⟩ = some (.int .i64 (zs.getD j 0)) := by
  intro j hj
  rw [Nat.zero_add, cell_of_row _ w.heap.size j _ t (0, 0) (heap_alloc_new w _)]
  simp [List.getD, hj]
theorem pow_bd' (n : Nat) (h : n ≤ 16) : 1 ≤ (2 : Int) ^ n ∧ (2 : Int) ^ n ≤ 65536 :=
  (by decide +kernel : ∀ n < 17, 1 ≤ (2 : Int) ^ n ∧ (2 : Int) ^ n ≤ 65536) n (by omega)

/-- What a draw of a number leaves. -/
def Drawn (B k : Nat) (w : World) (lo hi : Int) (e : Ending) (w' : World) : Prop := ∃ r : Int, e = .returned (.int .i64 r) ∧ lo ≤ r ∧ r ≤ hi ∧ Cur w' B k ∧ w.grownBy w' (some B)

end Go.Proofs.Ytgakklanboabjaa
