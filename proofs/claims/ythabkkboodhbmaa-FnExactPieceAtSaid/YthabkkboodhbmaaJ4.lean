/-
  The laws' helpers on blocks: eqBlock, eqBlockS; the model's l4Same.
-/
import Derived.Test.YthabkkboodhbmaaJ3
import Derived.Deep.RegionHeld3
namespace Go.Proofs.Ythabkkboodhbmaa
open Go.RowKit

/-- A block as a value. -/
abbrev blkV (x : Int) (v : Value) : Value := .agg #[.int .i64 x, v]
/-- A slice of blocks reads as bs. -/
def Blks (w : World) (A : Option Addr) (bs : List (Int × List Int)) : Prop := bs ≠ [] → ∃ b o, A = some ⟨b, o, none⟩ ∧ ∀ j (h : j < bs.length), w.cell? ⟨b, o + j * 2, none⟩ = some (.int .i64 bs[j].1) ∧ ∃ A' c', w.cell? ⟨b, o + j * 2 + 1, none⟩ = some (.slice A' bs[j].2.length c') ∧ Ints w A' bs[j].2
theorem Blks.below {w w' : World} {A : Option Addr} {bs : List (Int × List Int)} (h : Blks w A bs) (hb : Below w.heap.size w w') : Blks w' A bs := fun hne => by
  obtain ⟨b, o, e, hc⟩ := h hne
  refine ⟨b, o, e, fun j hj => ?_⟩
  obtain ⟨h1, A', c', h2, h3⟩ := hc j hj
  exact ⟨(hb.cell (World.block_lt_of_cell? _ _ h1)).trans h1, A', c', (hb.cell (World.block_lt_of_cell? _ _ h2)).trans h2, h3.below hb⟩
theorem jAlloc2 (w : World) (a b : Obj) : Below w.heap.size w ((w.alloc a).alloc b) := ((Below.refl _ w).alloc (Nat.le_refl _) _).alloc (by simp) _
theorem jMore {w a b : World} (h : Below w.heap.size w a) (k : Below a.heap.size a b) : Below w.heap.size w b := h.trans (k.mono h.size)
theorem jDrewN {w : World} (n : Nat) : Below w.heap.size w (w.drewN n) := below_drewN (Below.refl _ _) n
theorem Ints.jAlloc {w : World} {A : Option Addr} {zs : List Int} (h : Ints w A zs) (o : Obj) : Ints (w.alloc o) A zs := h.below ((Below.refl _ _).alloc (Nat.le_refl _) _)
theorem jDrew {w : World} : Below w.heap.size w w.drew := jDrewN 1

set_option maxRecDepth 100000 in
set_option maxHeartbeats 1000000 in
theorem eqBlock_any (x y : Int) (A B : Option Addr) (za zb : List Int) (ca cb : Nat) (w : World) (ha : Ints w A za) (hb : Ints w B zb) (hl : za.length ≤ 140737488355328) :
    Calls Try.prog 63 #[blkV x (.slice A za.length ca), blkV y (.slice B zb.length cb)] w fun e w' => e = .returned (.bool (decide (x = y) && eqL za zb)) ∧ Below w.heap.size w w' := by
  have HA := Lib.hid ha
  have HB := Lib.hid hb
  clear ha hb
  by_cases hxy : x = y
  · subst hxy
    have hx : (x != x) = false := by simp
    go_enter Try.func63, Try.ntmps63
    go_wp2_with fail
    refine (eqInts_any A B za zb ca cb _ (HA.out.jAlloc _ |>.jAlloc _) (HB.out.jAlloc _ |>.jAlloc _) hl).mono ?_
    rintro e w1 ⟨rfl, n1, rfl⟩
    cases hq : eqL za zb
    · go_wp2_with fail
      go_ret
      exact ⟨by simp [hq], jMore (jAlloc2 _ _ _) (jDrewN n1)⟩
    · go_wp2_with fail
      go_ret
      exact ⟨by simp [hq], jMore (jAlloc2 _ _ _) (jDrewN n1)⟩
  · have hx : (x != y) = true := by simp [hxy]
    go_enter Try.func63, Try.ntmps63
    go_wp2_with fail
    go_ret
    exact ⟨by simp [hxy], jAlloc2 _ _ _⟩

def eqBs (a b : List (Int × List Int)) : Bool := decide (a = b)
theorem eqBs_len {a b : List (Int × List Int)} (h : a.length ≠ b.length) : eqBs a b = false := by
  simp [eqBs]; intro e; exact h (by rw [e])
theorem eqBs_at {a b : List (Int × List Int)} {k : Nat} (ha : k < a.length) (hb : k < b.length) (h : (decide (a[k].1 = b[k].1) && eqL a[k].2 b[k].2) = false) : eqBs a b = false := by
  cases he : eqBs a b
  · rfl
  · have e : a = b := by simpa [eqBs] using he
    subst e
    simp [eqL] at h
theorem eqBs_take {a b : List (Int × List Int)} {k : Nat} (ha : k < a.length) (hb : k < b.length) (h : a.take k = b.take k) (h2 : (decide (a[k].1 = b[k].1) && eqL a[k].2 b[k].2) = true) : a.take (k + 1) = b.take (k + 1) := by
  rw [List.take_succ_eq_append_getElem ha, List.take_succ_eq_append_getElem hb, h]
  simp [eqL] at h2
  rw [show a[k] = b[k] from Prod.ext h2.1 h2.2]
theorem eqBs_all {a b : List (Int × List Int)} (hl : a.length = b.length) (h : a.take a.length = b.take a.length) : eqBs a b = true := by
  rw [List.take_length, hl, List.take_length] at h
  simp [eqBs, h]

set_option maxRecDepth 100000 in
set_option maxHeartbeats 2000000 in
theorem eqBlockS_any (A B : Option Addr) (bs cs : List (Int × List Int)) (ca cb : Nat) (w : World) (ha : Blks w A bs) (hb : Blks w B cs) (hl : bs.length ≤ 1048576) (hz : ∀ p ∈ bs, p.2.length ≤ 1048576) :
    Calls Try.prog 39 #[.slice A bs.length ca, .slice B cs.length cb] w fun e w' => e = .returned (.bool (eqBs bs cs)) ∧ Below w.heap.size w w' := by
  have HA := Lib.hid ha
  have HB := Lib.hid hb
  have HZ := Lib.hid hz
  clear ha hb hz
  by_cases hlen : bs.length = cs.length
  · have hne : ((bs.length : Int) != (cs.length : Int)) = false := by rw [hlen]; simp
    have HLen := Lib.hid hlen
    clear hlen
    go_enter Try.func39, Try.ntmps39
    go_wp2_with fail
    go_loopg [5] bs.length (fun gk i wr => ∃ k : Nat, k + gk = bs.length ∧ i = .int .i64 k ∧ bs.take k = cs.take k ∧ Below w.heap.size w wr)
    case atStart => exact ⟨0, by omega, rfl, rfl, Below.refl _ _⟩
    case round =>
      obtain ⟨k, hg, rfl, heq, hbel⟩ := hrel
      have HEq := Lib.hid heq
      have HBl := Lib.hid hbel
      clear heq hbel
      by_cases hlt : k < bs.length
      · have hki : (k : Int) < (bs.length : Int) := by omega
        have hlt2 : k < cs.length := by have := HLen.out; omega
        have hki2 : (k : Int) < (cs.length : Int) := by omega
        obtain ⟨b1, o1, rfl, hc1⟩ := (HA.out.below HBl.out) (by rintro rfl; simp at hlt)
        obtain ⟨b2, o2, rfl, hc2⟩ := (HB.out.below HBl.out) (by rintro rfl; simp at hlt2)
        obtain ⟨p1, A1, c1, p2, p3⟩ := hc1 k hlt
        obtain ⟨q1, A2, c2, q2, q3⟩ := hc2 k hlt2
        have HP3 := Lib.hid p3
        have HQ3 := Lib.hid q3
        have hzl := HZ.out bs[k] (List.getElem_mem hlt)
        have HNo := Lib.hid (fun h => eqBs_at (k := k) hlt hlt2 h)
        have HYes := Lib.hid (fun h => eqBs_take (k := k) hlt hlt2 HEq.out h)
        have HGK : Hid (bs.length - k - 1 < gk ∧ k + 1 + (bs.length - k - 1) = bs.length) := by show _ ∧ _; omega
        clear hc1 hc2 p3 q3 hg
        generalize bs[k] = p at *
        generalize cs[k] = q at *
        cases hpq : (decide (p.1 = q.1) && eqL p.2 q.2)
        · have HN := Lib.hid (HNo.out hpq)
          go_wp2_with fail
          go_region_held3 (fun w' => w'.cell? ⟨b1, o1 + k * 2, none⟩ = some (.int .i64 p.1) ∧ w'.cell? ⟨b1, o1 + k * 2 + 1, none⟩ = some (.slice A1 p.2.length c1) ∧ w'.cell? ⟨b2, o2 + k * 2, none⟩ = some (.int .i64 q.1) ∧ w'.cell? ⟨b2, o2 + k * 2 + 1, none⟩ = some (.slice A2 q.2.length c2))
            (first | exact ⟨p1, p2, q1, q2⟩ | exact ⟨r0, r1, r2, r3⟩ | go_keep) (first
            | (go_at_call 63; refine (eqBlock_any p.1 q.1 A1 A2 p.2 q.2 c1 c2 _ (HP3.out.below jDrew) (HQ3.out.below jDrew) (by omega)).mono ?_; rintro e w7 ⟨rfl, hb7⟩; have r0 := (hb7.cell (World.block_lt_of_cell? _ _ p1)).trans p1; have r1 := (hb7.cell (World.block_lt_of_cell? _ _ p2)).trans p2; have r2 := (hb7.cell (World.block_lt_of_cell? _ _ q1)).trans q1; have r3 := (hb7.cell (World.block_lt_of_cell? _ _ q2)).trans q2))
          all_goals
            have HB7 := Lib.hid (jMore HBl.out (jMore jDrew hb7))
            clear hb7
            go_wp2_with fail
            go_ret
            exact ⟨ret_bool' HN.out.symm, HB7.out⟩
        · have HN := Lib.hid (HYes.out hpq)
          go_wp2_with fail
          go_region_held3 (fun w' => w'.cell? ⟨b1, o1 + k * 2, none⟩ = some (.int .i64 p.1) ∧ w'.cell? ⟨b1, o1 + k * 2 + 1, none⟩ = some (.slice A1 p.2.length c1) ∧ w'.cell? ⟨b2, o2 + k * 2, none⟩ = some (.int .i64 q.1) ∧ w'.cell? ⟨b2, o2 + k * 2 + 1, none⟩ = some (.slice A2 q.2.length c2))
            (first | exact ⟨p1, p2, q1, q2⟩ | exact ⟨r0, r1, r2, r3⟩ | go_keep) (first
            | (go_at_call 63; refine (eqBlock_any p.1 q.1 A1 A2 p.2 q.2 c1 c2 _ (HP3.out.below jDrew) (HQ3.out.below jDrew) (by omega)).mono ?_; rintro e w7 ⟨rfl, hb7⟩; have r0 := (hb7.cell (World.block_lt_of_cell? _ _ p1)).trans p1; have r1 := (hb7.cell (World.block_lt_of_cell? _ _ p2)).trans p2; have r2 := (hb7.cell (World.block_lt_of_cell? _ _ q1)).trans q1; have r3 := (hb7.cell (World.block_lt_of_cell? _ _ q2)).trans q2))
          all_goals
            have HB7 := Lib.hid (jMore HBl.out (jMore jDrew hb7))
            clear hb7
            go_wp2_with fail
            go_roundg (bs.length - k - 1)
            case measure => exact HGK.out.1
            case rel => exact ⟨k + 1, HGK.out.2, by go_num, HN.out, HB7.out⟩
      · obtain rfl : k = bs.length := by omega
        have hki : ¬ (bs.length : Int) < (bs.length : Int) := by omega
        go_wp2_with fail
        go_ret
        exact ⟨ret_bool' (eqBs_all HLen.out HEq.out).symm, HBl.out⟩
  · have hne : ((bs.length : Int) != (cs.length : Int)) = true := by simp; omega
    have HE := Lib.hid (eqBs_len hlen)
    go_enter Try.func39, Try.ntmps39
    go_wp2_with fail
    go_ret
    exact ⟨ret_bool' HE.out.symm, Below.refl _ _⟩
end Go.Proofs.Ythabkkboodhbmaa
