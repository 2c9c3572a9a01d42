/-
  Slices of integers that the call itself has made: what markIntS writes into one, what toIntS makes.
-/
import Derived.Test.YtbegikjoialahaaH1
namespace Go.Proofs.Ytbegikjoialahaa
open Go.RowKit

/-- v is a slice of integers of the call's own (in a block from 'base' on): it holds zs. -/
def Own (w : World) (base : Nat) (v : Value) (zs : List Int) : Prop := w.ownsRow base 3 1 v zs.length (zs.map (Value.int .i64))

theorem grownBy_trans {a b c : World} {r : Option Nat} (h : a.grownBy b r) (k : b.grownBy c r) : a.grownBy c r :=
  ⟨k.os.trans h.os, k.tape.trans h.tape, k.output.trans h.output, Nat.le_trans h.size k.size, fun i hi hr => (k.block i (Nat.lt_of_lt_of_le hi h.size) hr).trans (h.block i hi hr)⟩

theorem Own.nil (w : World) (base : Nat) : Own w base (.slice none 0 0) [] := World.ownsRow_nil w base _ _
theorem Own.lt {w : World} {base : Nat} {v : Value} {zs : List Int} (h : Own w base v zs) : ∀ k, v.ownBlock = some k → base ≤ k ∧ k < w.heap.size := World.ownsRow.lt h
theorem Own.form {w : World} {base : Nat} {v : Value} {zs : List Int} (h : Own w base v zs) : ∃ A c, v = .slice A zs.length c ∧ Ints w A zs := by
  have h0 : w.ownsRow base 3 1 v zs.length (zs.map (Value.int .i64)) := h
  rcases h.2 with ⟨rfl, hn⟩ | ⟨g, cap, cur, rfl, hb, hg, _⟩
  · obtain rfl : zs = [] := List.eq_nil_of_length_eq_zero hn
    exact ⟨none, 0, rfl, fun h => absurd rfl h⟩
  · refine ⟨_, cap, rfl, fun _ => ⟨g, 0, rfl, fun j hj => ?_⟩⟩
    rw [Nat.zero_add, h0.cellAt j (by omega)]
    simp [List.getD, hj]
theorem Own.kept {w w' : World} {base : Nat} {v : Value} {zs : List Int} {row : Option Nat} (h : Own w base v zs) (hg : w.grownBy w' row) (hne : v.ownBlock = none ∨ v.ownBlock ≠ row) : Own w' base v zs := World.ownsRow.kept h hg hne
theorem Own.below {w w' : World} {base : Nat} {v : Value} {zs : List Int} (h : Own w base v zs) (hb : Below w.heap.size w w') : Own w' base v zs :=
  h.kept (row := none) ⟨hb.os, hb.tape, hb.output, hb.size, fun k hk _ => hb.block k hk⟩ (by cases v.ownBlock <;> simp)
theorem Own.len {w : World} {base : Nat} {v : Value} {zs : List Int} {A : Option Addr} {n c : Nat} (h : Own w base v zs) (e : v = .slice A n c) : n = zs.length := by
  rcases h.2 with ⟨rfl, hn⟩ | ⟨g, cap, cur, rfl, hb, hg, _⟩
  · injection e with _ e2 _; omega
  · injection e with _ e2 _; omega

theorem marks_snoc (k : Int) (n : Nat) : marks k (n + 1) = marks k n ++ [k + n] := by
  induction n generalizing k with
  | zero => simp [marks]
  | succ n ih =>
    rw [marks, ih, marks]
    simp; omega

theorem set_mid {α : Type} (xs ys : List α) (x u : α) (j : Nat) (h : xs.length = j) : (xs ++ x :: ys).set j u = xs ++ u :: ys := by
  subst h; simp
theorem mark_set (k : Int) (zs : List Int) (j : Nat) (hj : j < zs.length) :
    ((marks k j ++ zs.drop j).map (Value.int .i64)).set j (.int .i64 (k + j)) = (marks k (j + 1) ++ zs.drop (j + 1)).map (Value.int .i64) := by
  rw [List.drop_eq_getElem_cons hj, List.map_append, List.map_cons, set_mid _ _ _ _ _ (by simp [marks_length]), marks_snoc]
  simp

set_option maxRecDepth 100000 in
set_option maxHeartbeats 400000 in
theorem markInts_any (v : Value) (zs : List Int) (base : Nat) (k : Int) (w : World) (ho : Own w base v zs) (hn : zs.length ≤ 140737488355328) (h1 : 0 ≤ k) (h2 : k ≤ 140737488355328) :
    Calls Try.prog 57 #[v, .int .i64 k] w fun e w' => e = .returned (.int .i64 (k + zs.length)) ∧ Own w' base v (marks k zs.length) ∧ w.grownBy w' v.ownBlock := by
  have ho2 := ho.2
  rcases ho2 with ⟨rfl, hn0⟩ | ⟨g, cap, cur, rfl, hb, hg, hrest⟩
  · obtain rfl : zs = [] := List.eq_nil_of_length_eq_zero hn0
    clear hn0 hn
    go_enter Try.func57, Try.ntmps57
    go_wp2
    refine wp_loop_rounds 1 ?_
    rw [rounds_succ]
    go_wp2
    go_ret
    exact ⟨by simp, Own.nil _ _, World.grownBy.refl _ _⟩
  · clear hrest hg
    have hw : w.ownsRow base 3 1 (.slice (some ⟨g, 0, none⟩) zs.length cap) zs.length ((marks k 0 ++ zs.drop 0).map (Value.int .i64)) := ho
    generalize hnn : zs.length = n at *
    have HN := Lib.hid hnn
    clear hnn ho
    go_enter Try.func57, Try.ntmps57
    go_wp2
    go_loopw [1, 5] (fun q i wr => ∃ j : Nat, j ≤ n ∧ i = .int .i64 j ∧ q = .int .i64 (k + j) ∧ wr.ownsRow base 3 1 (.slice (some ⟨g, 0, none⟩) n cap) n ((marks k j ++ zs.drop j).map (Value.int .i64)) ∧ w.grownBy wr (some g)) (fun _ i _ => n - (intOf i).toNat)
    case atStart => exact ⟨0, by omega, rfl, by simp, hw, World.grownBy.refl _ _⟩
    case round =>
      obtain ⟨j, hj, rfl, rfl, hown, hgr⟩ := hrel
      by_cases hlt : j < n
      · have hc0 := hown.cellAt j (by omega)
        have hlj : j < ((marks k j ++ zs.drop j).map (Value.int .i64)).length := by
          have := HN.out; simp [marks_length]; omega
        rw [List.getElem?_eq_getElem hlj] at hc0
        have hf := hown.frozenAt j
        have HS := hown.stored j (.int .i64 (k + j))
        rw [mark_set k zs j (by have := HN.out; omega)] at HS
        have HS' := Lib.hid HS
        have HG := Lib.hid hgr
        clear HS hgr hown hw
        generalize (((marks k j ++ zs.drop j).map (Value.int .i64))[j]'hlj) = u0 at hc0
        go_wp2
        go_roundw
        case rel => exact ⟨j + 1, by omega, by go_num, by go_num, HS'.out.1, grownBy_trans HG.out HS'.out.2⟩
        case measure => simp [intOf]; omega
      · obtain rfl : j = n := by omega
        clear hw
        go_wp2
        go_ret
        refine ⟨rfl, ?_, hgr⟩
        have hd : zs.drop j = [] := by rw [List.drop_eq_nil_iff]; have := HN.out; omega
        rw [hd, List.append_nil] at hown
        unfold Own
        rw [marks_length]
        exact hown

theorem intInfo : (Try.prog.info? 3).map (fun i => (i.zero, i.size, i.bytes)) = some (some (.int .i64 0), 1, 8) := by kernel_rfl

theorem copy_set (zs : List Int) (ys : List Value) (j : Nat) (hj : j < zs.length) (hy : ys.length = zs.length) :
    ((zs.take j).map (Value.int .i64) ++ ys.drop j).set j (.int .i64 (zs[j])) = (zs.take (j + 1)).map (Value.int .i64) ++ ys.drop (j + 1) := by
  rw [List.drop_eq_getElem_cons (show j < ys.length by omega), set_mid _ _ _ _ _ (by simp; omega), List.take_succ_eq_append_getElem hj]
  simp only [List.map_append, List.map_cons, List.map_nil, List.append_assoc, List.singleton_append]

set_option maxRecDepth 100000 in
set_option maxHeartbeats 400000 in
theorem toInts_any (A : Option Addr) (zs : List Int) (ca : Nat) (w : World) (ha : Ints w A zs) (hn : zs.length ≤ 17592186044416) :
    Calls Try.prog 60 #[.slice A zs.length ca] w fun e w' => ∃ v, e = .returned v ∧ Own w' w.heap.size v zs ∧ Below w.heap.size w w' := by
  obtain ⟨i0, hi, hz0, hz1, hz2⟩ := info_parts intInfo
  generalize hnn : zs.length = n at *
  have HN := Lib.hid hnn
  clear hnn
  go_enter Try.func60, Try.ntmps60
  go_wp2_with (at_make; refine wpList_make_full _ rfl _ _ 25 rfl w.heap.size 3 i0 (.int .i64 0) 1 Try.underlying25 hi hz0 hz1 .i64 .i64 _ _ n rfl rfl rfl rfl (by rw [hz2]; omega) (by unfold maxLen; omega) (Nat.le_refl _) ?_; intro w1 hown1 hgr1)
  have hmade : (madeCells (Value.int .i64 0).cells (n * 1)).toList.length = n := by have := hown1.1; omega
  generalize hys : (madeCells (Value.int .i64 0).cells (n * 1)).toList = ys at *
  have hb1 : Below w.heap.size w w1 := (Below.refl _ _).grown hgr1 (Nat.le_refl _) (by simp)
  have hs1 : w.heap.size < w1.heap.size := by
    have := (hown1.lt w.heap.size rfl).2; omega
  have HA := Lib.hid ha
  have HY := Lib.hid hmade
  have HO : Hid (w1.ownsRow w.heap.size 3 1 (.slice (some ⟨w.heap.size, 0, none⟩) n n) n ((zs.take 0).map (Value.int .i64) ++ ys.drop 0)) := by
    show w1.ownsRow _ _ _ _ _ _; simpa using hown1
  have HB := Lib.hid hb1
  clear hys hgr1 hown1 hb1 hmade ha hs1 hi hz0 hz1 hz2
  go_loopw [4] (fun i wr => ∃ j : Nat, j ≤ n ∧ i = .int .i64 j ∧ wr.ownsRow w.heap.size 3 1 (.slice (some ⟨w.heap.size, 0, none⟩) n n) n ((zs.take j).map (Value.int .i64) ++ ys.drop j) ∧ Below w.heap.size w wr) (fun i _ => n - (intOf i).toNat)
  case atStart => exact ⟨0, by omega, rfl, HO.out, HB.out⟩
  case round =>
    obtain ⟨j, hj, rfl, hown, hbel⟩ := hrel
    clear HO HB
    by_cases hlt : j < n
    · have hlz : j < zs.length := by have := HN.out; omega
      obtain ⟨b, o, rfl, hcs⟩ := HA.out (by rintro rfl; simp at hlz)
      have hc1 := hcs j hlz
      have hc2 : wr.cell? ⟨b, o + j, none⟩ = some (.int .i64 (zs[j])) := by
        rw [hbel.cell (World.block_lt_of_cell? _ _ hc1), hc1]; simp [List.getD, hlz]
      have hc0 := hown.cellAt j (by omega)
      have hlj : j < ((zs.take j).map (Value.int .i64) ++ ys.drop j).length := by
        have := HN.out; have := HY.out; simp; omega
      rw [List.getElem?_eq_getElem hlj] at hc0
      have hf := hown.frozenAt j
      have HS := hown.stored j (.int .i64 (zs[j]))
      rw [copy_set zs ys j hlz (by have := HN.out; have := HY.out; omega)] at HS
      have HS' := Lib.hid HS
      have HB := Lib.hid hbel
      generalize ((zs.take j).map (Value.int .i64) ++ ys.drop j)[j]'hlj = u0 at hc0
      generalize hzj : zs[j] = z at *
      clear HS hbel hown hcs hc1 hlj hzj
      go_wp2
      go_roundw
      case rel => exact ⟨j + 1, by omega, by go_num, HS'.out.1, HB.out.setCell (Nat.le_refl _) _⟩
      case measure => simp [intOf]; omega
    · obtain rfl : j = n := by omega
      go_wp2
      go_ret
      refine ⟨_, rfl, ?_, hbel⟩
      have hd : ys.drop j = [] := by rw [List.drop_eq_nil_iff]; have := HY.out; omega
      rw [hd, List.append_nil, List.take_of_length_le (by have := HN.out; omega)] at hown
      unfold Own
      rw [HN.out]
      exact hown
end Go.Proofs.Ytbegikjoialahaa
