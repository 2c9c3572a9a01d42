/-
  What rowsOn reads off a ladder: slices.Backward's iterator by its contract, the loop over it by the guide's law.
-/
import Derived.RangeFuncNested
import Derived.RangeFuncLeaves
import Derived.RangeFuncBox
import Derived.Shelf.Abstract
import Derived.OwnWalkIn
import Derived.TacticsInMore
import Derived.LoopNIn
import Derived.LoopIn
import Derived.Test.YtdoogleggdlddaaDoorS5
namespace Go.Proofs.YtdoogleggdlddaaDoor
open Go.RowKit Go.Shelf

attribute [local go_sem] Oper.semAt_some

/-- What comes in k rounds, from the last element of 16 on. -/
def back (L : Lad) (k : Nat) : List (Nat × Nat × Nat) := (List.range k).map fun j => (15 - j, lat L (15 - j))
theorem back_succ (L : Lad) (k : Nat) : back L (k + 1) = back L k ++ [(15 - k, lat L (15 - k))] := by simp [back, List.range_succ]
theorem back_length (L : Lad) (k : Nat) : (back L k).length = k := by simp [back]

/-- Blocks b and c lie as they lay. -/
def KeepTwo (b c : Nat) (A B : World) : Prop := B.heap[b]? = A.heap[b]? ∧ B.heap[c]? = A.heap[c]?
theorem KeepTwo.trans {b c : Nat} {X Y Z : World} (h : KeepTwo b c X Y) (k : KeepTwo b c Y Z) : KeepTwo b c X Z := ⟨k.1.trans h.1, k.2.trans h.2⟩

set_option maxRecDepth 100000 in
set_option maxHeartbeats 2000000 in
theorem back1_in (F : Fence) (n : Nat) (h75 : F.fn 108) (hro : F.round = none) (hn : 1 ≤ n) (l Bs b : Nat) (L : Lad) (hl : L.length = 16) (J Jx : List (Nat × Nat × Nat) → World → Prop)
    (hY : ∀ pre x W, J pre W → pre.length < 16 → YieldAt F (n - 1) Tryd.prog l #[.int .i64 (x.1 : Int), .agg #[.int .i64 (x.2.1 : Int), .int .i64 (x.2.2 : Int)]] W fun e W' =>
      (e = .returned (.bool true) ∧ J (pre ++ [x]) W' ∧ KeepTwo b Bs W W') ∨ (e = .returned (.bool false) ∧ Jx (pre ++ [x]) W'))
    (W : World) (hBs : Boxed W Bs 104 (.slice (some ⟨b, 0, none⟩) 16 16)) (hA : LadAt W b L) (h0 : J [] W) :
    CallsIn F n Tryd.prog 108 #[.func (.yield l) #[] #[], .pointer (some ⟨Bs, 0, none⟩)] W fun e W' => (∃ v, e = .returned v) ∧
      ((∃ ys, ys = back L 16 ∧ J ys W') ∨ (∃ pre, (∃ k, k ≤ 16 ∧ pre = back L k) ∧ Jx pre W')) := by
  have hcs := hBs.cell
  refine callsIn_of_wp Tryd.func108 rfl h75 ?_ hro
  simp only [Tryd.ntmps108, List.size_toArray, List.length_cons, List.length_nil, Nat.reduceAdd, Nat.reduceSub, Array.replicate_succ, Array.replicate_zero, List.push_toArray, List.append_toArray, List.nil_append, List.cons_append]
  gi_wp2
  gi_loopw [3] (fun i wr => ∃ k m : Nat, k + m = 16 ∧ i = .int .i64 ((m : Int) - 1) ∧ J (back L k) wr ∧ KeepTwo b Bs W wr)
    (fun i _ => (intOf i + 1).toNat)
  case atStart => exact ⟨0, 16, rfl, rfl, h0, rfl, rfl⟩
  case round =>
    obtain ⟨k, m, hkm, rfl, hJs, hkt⟩ := hrel
    have hBs' : Boxed wr Bs 104 (.slice (some ⟨b, 0, none⟩) 16 16) := hkt.2.trans hBs
    have hA' : LadAt wr b L := hkt.1.trans hA
    have hcs' := hBs'.cell
    cases m with
    | zero =>
      obtain rfl : k = 16 := by omega
      clear hY
      gi_wp2
      go_end0
      exact ⟨⟨_, rfl⟩, .inl hJs⟩
    | succ m =>
      obtain ⟨fn, tmps, assign, body, hy, hR⟩ := hY _ (m, lat L m) wr hJs (by rw [back_length]; omega)
      dsimp only at hy
      obtain ⟨c1, c2⟩ := hA'.cell (k := m) (by omega)
      have hback : back L k ++ [(m, lat L m)] = back L (k + 1) := by rw [back_succ, show 15 - k = m by omega]
      rw [hback] at hR
      have HBk := Lib.hid hkt
      rw [show ((m + 1 : Nat) : Int) - 1 = (m : Int) by omega]
      have hm16 : (m : Int) < 16 := by omega
      clear hY hback hkt hcs hBs hA hBs' hA'
      generalize lat L m = q at *
      gi_wp2
      refine hR.mono ?_
      rintro e W3 (⟨rfl, hJ3, hk3⟩ | ⟨rfl, hJx3⟩)
      · gi_wp2
        go_roundw
        case rel => exact ⟨k + 1, m, by omega, by go_num, hJ3, HBk.out.trans hk3⟩
        case measure => simp [intOf]
      · gi_wp2
        refine bodyPost_ret (results_none rfl _ _ _) rfl ?_
        exact ⟨⟨_, rfl⟩, .inr ⟨_, ⟨k + 1, by omega, rfl⟩, hJx3⟩⟩

set_option maxRecDepth 100000 in
set_option maxHeartbeats 1000000 in
theorem back_in (F : Fence) (n : Nat) (h66 : F.fn 104) (hro : F.round = none) (a : Option Addr) (len cap : Nat) (w : World) :
    CallsIn F n Tryd.prog 104 #[.slice a len cap] w fun e w' => e = .returned (.func (.func 108) #[] #[.pointer (some ⟨w.heap.size, 0, none⟩)]) ∧ w' = w.alloc (.cells #[.slice a len cap] 104) := by
  refine callsIn_of_wp Tryd.func104 rfl h66 ?_ hro
  simp only [Tryd.ntmps104, List.size_toArray, List.length_cons, List.length_nil, Nat.reduceAdd, Nat.reduceSub, Array.replicate_succ, Array.replicate_zero, List.push_toArray, List.append_toArray, List.nil_append, List.cons_append]
  gi_wp2
  go_ret
  exact ⟨rfl, rfl⟩

/-- Backward's value: all steps, the last one first; or a part of them, where a round has said 'no more'. -/
theorem back_stops (F : Fence) (n : Nat) (h75 : F.fn 108) (hro : F.round = none) (hn : 1 ≤ n) (Bs b : Nat) (L : Lad) (hl : L.length = 16) (w : World) (hBs : Boxed w Bs 104 (.slice (some ⟨b, 0, none⟩) 16 16)) (hA : LadAt w b L) :
    SeqStopsK F n Tryd.prog 108 #[.pointer (some ⟨Bs, 0, none⟩)] (fun x : Nat × Nat × Nat => #[Value.int .i64 (x.1 : Int), .agg #[.int .i64 (x.2.1 : Int), .int .i64 (x.2.2 : Int)]]) (KeepTwo b Bs) (fun ys => ys = back L 16) (fun pre => ∃ k, k ≤ 16 ∧ pre = back L k) 16 w := fun l J Jx W hW _ _ hY h0 =>
  back1_in F n h75 hro hn l Bs b L hl J Jx hY W ((hW.block Bs hBs.lt).trans hBs) ((hW.block b hA.lt).trans hA) h0

/-- The rows that are not 0 among what came. -/
def coll (pre : List (Nat × Nat × Nat)) : List Nat := (pre.map fun x => x.2.1).filter fun r => decide (r ≠ 0)
theorem coll_hit (pre : List (Nat × Nat × Nat)) {x : Nat × Nat × Nat} (h : x.2.1 ≠ 0) : coll (pre ++ [x]) = coll pre ++ [x.2.1] := by simp [coll, h]
theorem coll_miss (pre : List (Nat × Nat × Nat)) {x : Nat × Nat × Nat} (h : x.2.1 = 0) : coll (pre ++ [x]) = coll pre := by simp [coll, h]
theorem coll_back (L : Lad) : ∀ k, k ≤ 16 → coll (back L k) ++ down L (16 - k) = down L 16
  | 0, _ => rfl
  | k + 1, hk => by
    have ih := coll_back L k (by omega)
    rw [show 16 - k = (15 - k) + 1 by omega, down] at ih
    rw [back_succ, show 16 - (k + 1) = 15 - k by omega]
    split at ih
    · rename_i h0
      rw [coll_miss _ h0]; exact ih
    · rename_i h0
      rw [coll_hit _ h0]; simpa using ih
theorem coll_all (L : Lad) : coll (back L 16) = down L 16 := by
  have := coll_back L 16 (Nat.le_refl _)
  rwa [Nat.sub_self, down, List.append_nil] at this

/-- 'out = append(out, x)' in a box: what the walk owes behind it; two blocks below the slice's own lie as they lay. -/
theorem box_app {W w1 : World} {n₀ N Bx : Nat} {v v' : Value} {l : List Nat} {z : Nat} {tmp : Obj} (hv : Boxed W Bx 23 v) (hrow : Own W N v (zI l)) (hn₀ : n₀ ≤ W.heap.size) (hB : n₀ ≤ Bx) (hN : n₀ ≤ N)
    (hown' : Own w1 N v' (zI (l ++ [z]))) (hgrow : (W.alloc tmp).grownBy w1 v.ownBlock) :
    Boxed w1 Bx 23 v ∧ Boxed (w1.setCell ⟨Bx, 0, none⟩ v') Bx 23 v' ∧ Own (w1.setCell ⟨Bx, 0, none⟩ v') N v' (zI (l ++ [z])) ∧ KeepsOthers W (w1.setCell ⟨Bx, 0, none⟩ v') ∧ Below n₀ W (w1.setCell ⟨Bx, 0, none⟩ v') ∧
      ∀ k, k < N → k < W.heap.size → k ≠ Bx → (w1.setCell ⟨Bx, 0, none⟩ v').heap[k]? = W.heap[k]? := by
  have hl : Own W n₀ v (zI l) := ⟨hrow.1, by
    rcases hrow.2 with hn | ⟨g, cap, cur, e, hg, r⟩
    · exact Or.inl hn
    · exact Or.inr ⟨g, cap, cur, e, Nat.le_trans hN hg, r⟩⟩
  have hl' : Own w1 n₀ v' (zI (l ++ [z])) := ⟨hown'.1, by
    rcases hown'.2 with hn | ⟨g, cap, cur, e, hg, r⟩
    · exact Or.inl hn
    · exact Or.inr ⟨g, cap, cur, e, Nat.le_trans hN hg, r⟩⟩
  obtain ⟨hv1, hv2, _, hk2, hb2⟩ := hv.appended (by decide) hl hn₀ hB hl' hgrow
  refine ⟨hv1, hv2, World.ownsRow.kept hown' (grownBy_setCell' w1 Bx v') (.inr (hv1.not_row (by decide) hown').symm), hk2, hb2, fun k h1 h2 h3 => ?_⟩
  rw [Below.heap_setCell _ _ _ _ h3, hgrow.block k (by simp; omega) (fun e => ?_), Below.heap_alloc _ _ _ h2]
  have := (hrow.lt k e.symm).1; omega
end Go.Proofs.YtdoogleggdlddaaDoor
