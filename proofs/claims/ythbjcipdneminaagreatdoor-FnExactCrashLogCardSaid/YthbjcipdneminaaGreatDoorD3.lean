/-
  The laws' draws of chapter 1 that make lists: some, rows, DrawRowOf, DrawSumRows, DrawBitsIn.
-/
import Derived.Test.YthbjcipdneminaaGreatDoorD2
namespace Go.Proofs.YthbjcipdneminaaGreatDoor
open Go.RowKit

theorem grownBy_far {w a b : World} {B : Nat} {r : Option Nat} (h : w.grownBy a (some B)) (k : a.grownBy b r) (hr : ∀ g, r = some g → w.heap.size ≤ g) : w.grownBy b (some B) :=
  ⟨k.os.trans h.os, k.tape.trans h.tape, k.output.trans h.output, Nat.le_trans h.size k.size, fun i hi hne =>
    (k.block i (Nat.lt_of_lt_of_le hi h.size) (fun e => by have := hr i e.symm; omega)).trans (h.block i hi hne)⟩

theorem Own.cur {w w' : World} {base B : Nat} {v : Value} {zs : List Int} (h : Own w base v zs) (hB : B < base) (hg : w.grownBy w' (some B)) : Own w' base v zs :=
  h.kept hg (by
    cases hv : v.ownBlock with
    | none => exact Or.inl rfl
    | some g => right; intro e; injection e with e; have := (h.lt g hv).1; omega)
theorem Own.append' {w1 : World} {base : Nat} {v' : Value} {zs : List Int} {z : Int} (h : w1.ownsRow base 3 1 v' (zs.length + 1) (zs.map (Value.int .i64) ++ [.int .i64 z])) : Own w1 base v' (zs ++ [z]) := by
  unfold Own; simpa using h

/-- Behind 'l = append(l, z)' on a list of the call's own: what is owned, the cursor, the frame. -/
theorem appended {w wr w1 : World} {B k : Nat} {v v' : Value} {zs : List Int} {z : Int} {o : Obj} (hB : B < w.heap.size) (ho : Own wr w.heap.size v zs) (hc : Cur wr B k) (hg : w.grownBy wr (some B))
    (hown : w1.ownsRow w.heap.size 3 1 v' (zs.length + 1) (zs.map (Value.int .i64) ++ [.int .i64 z])) (hgrow : (wr.alloc o).grownBy w1 v.ownBlock) :
    Own w1 w.heap.size v' (zs ++ [z]) ∧ Cur w1 B k ∧ w.grownBy w1 (some B) := by
  have hlt : ∀ g, v.ownBlock = some g → w.heap.size ≤ g := fun g e => (ho.lt g e).1
  refine ⟨Own.append' hown, ?_, ?_⟩
  · exact (hc.grown (World.grownBy_alloc wr o none) (fun g e => by cases e)).grown hgrow (fun g e => by have := hlt g e; omega)
  · exact grownBy_far (grownBy_far hg (World.grownBy_alloc wr o none) (fun g e => by cases e)) hgrow hlt

/-- What a draw of a list leaves. -/
def Listed (B k m : Nat) (w : World) (e : Ending) (w' : World) : Prop := ∃ v zs, e = .returned v ∧ Own w' w.heap.size v zs ∧ zs.length ≤ m ∧ Cur w' B k ∧ w.grownBy w' (some B)

set_option maxRecDepth 100000 in
set_option maxHeartbeats 1000000 in
theorem some_any (B k n : Nat) (w : World) (hcur : Cur w B k) (hk : k ≤ 137438953472) (hn : n ≤ 1000) :
    Calls Tryz.prog 28 #[.pointer (some ⟨B, 0, none⟩), .int .i64 n] w (Listed B (k + 2 * n + 2) (n + 1) w) := by
  obtain ⟨i0, hi, hz0, hz1, hz2⟩ := info_parts intInfo
  have hB := hcur.lt
  have HC := Lib.hid hcur
  clear hcur
  go_enter Tryz.func28, Tryz.ntmps28
  go_wp2_with fail
  go_loopw [5, 6] (fun v i wr => ∃ (j : Nat) (zs : List Int), j ≤ n ∧ i = .int .i64 j ∧ Own wr w.heap.size v zs ∧ zs.length ≤ j ∧ Cur wr B (k + 2 * j) ∧ w.grownBy wr (some B)) (fun _ i _ => n - (intOf i).toNat)
  case atStart => exact ⟨0, [], by omega, rfl, Own.nil _ _, by simp, HC.out, World.grownBy.refl _ _⟩
  case round =>
    obtain ⟨j, zs, hj, rfl, hown, hlen, hc, hg⟩ := hrel
    clear HC
    have HO := Lib.hid hown
    have HC := Lib.hid hc
    have HG := Lib.hid hg
    clear hown hc hg
    by_cases hlt : j < n
    · go_wp2_with fail
      refine (one_any B (k + 2 * j) 2 _ HC.out (by omega) (by omega)).mono ?_
      rintro e w1 ⟨b, rfl, hc1, hg1⟩
      have HO1 := Lib.hid (HO.out.cur hB hg1)
      have HC1 := Lib.hid hc1
      have HG1 := Lib.hid (grownBy_trans HG.out hg1)
      clear hc1 hg1 HO HC HG
      cases b
      · go_wp2_with fail
        go_roundw
        case rel => exact ⟨j + 1, zs, by omega, by go_num, HO1.out, by omega, HC1.out, HG1.out⟩
        case measure => simp [intOf]; omega
      · have HOR : Hid (w1.ownsRow w.heap.size 3 1 u5 zs.length (zs.map (Value.int .i64))) := HO1.out
        go_wp2_with (at_builtin; refine wpList_append_own _ rfl _ _ 27 rfl w.heap.size 3 i0 (.int .i64 0) 1 8 Tryz.underlying27 hi hz0 hz1 hz2 rfl (by decide) _ _ _ rfl (HOR.out.alloc _) ⟨w1.heap.size, 0, none⟩ 1 1 [.int .i64 j] rfl rfl ?c1 ?c2 ?c3 ?c4 ?c5 ?_)
        case c1 =>
          intro j u hj
          match j, hj with
          | 0, hj => simp at hj; subst hj; simp [Addr.add]
        case c2 => intro u hu; simp at hu; subst hu; rfl
        case c3 => unfold maxLen; omega
        case c4 => omega
        case c5 => have := HG1.out.size; simp; omega
        · intro v' w2 hown' hgrow _
          have R := appended hB HO1.out HC1.out HG1.out hown' hgrow
          have HR := Lib.hid R
          clear hown' hgrow R HOR HO1 HC1 HG1
          go_wp2_with fail
          go_roundw
          case rel => exact ⟨j + 1, zs ++ [(j : Int)], by omega, by go_num, HR.out.1, by simp; omega, HR.out.2.1, HR.out.2.2⟩
          case measure => simp [intOf]; omega
    · obtain rfl : j = n := by omega
      go_wp2_with fail
      refine (one_any B (k + 2 * j) 30 _ HC.out (by omega) (by omega)).mono ?_
      rintro e w1 ⟨b, rfl, hc1, hg1⟩
      have HO1 := Lib.hid (HO.out.cur hB hg1)
      have HC1 := Lib.hid hc1
      have HG1 := Lib.hid (grownBy_trans HG.out hg1)
      clear hc1 hg1 HO HC HG
      cases b
      · go_wp2_with fail
        go_ret
        exact ⟨_, zs, rfl, HO1.out, by omega, HC1.out, HG1.out⟩
      · have HOR : Hid (w1.ownsRow w.heap.size 3 1 u5 zs.length (zs.map (Value.int .i64))) := HO1.out
        go_wp2_with (at_builtin; refine wpList_append_own _ rfl _ _ 27 rfl w.heap.size 3 i0 (.int .i64 0) 1 8 Tryz.underlying27 hi hz0 hz1 hz2 rfl (by decide) _ _ _ rfl (HOR.out.alloc _) ⟨w1.heap.size, 0, none⟩ 1 1 [.int .i64 j] rfl rfl ?d1 ?d2 ?d3 ?d4 ?d5 ?_)
        case d1 =>
          intro j u hj
          match j, hj with
          | 0, hj => simp at hj; subst hj; simp [Addr.add]
        case d2 => intro u hu; simp at hu; subst hu; rfl
        case d3 => unfold maxLen; omega
        case d4 => omega
        case d5 => have := HG1.out.size; simp; omega
        · intro v' w2 hown' hgrow _
          have R := appended hB HO1.out HC1.out HG1.out hown' hgrow
          have HR := Lib.hid R
          clear hown' hgrow R HOR HO1 HC1 HG1
          go_wp2_with fail
          go_ret
          exact ⟨_, zs ++ [(j : Int)], rfl, HR.out.1, by simp; omega, HR.out.2.1, HR.out.2.2⟩
end Go.Proofs.YthbjcipdneminaaGreatDoor
