/-
  What the model's l1Put and MakeBy answer.
-/
import Derived.Test.YtddimdfkapbflaaDoorU2
import Derived.Laws.AppendOwnNone
namespace Go.Proofs.YtddimdfkapbflaaDoor
open Go.RowKit

/-- Some numbers appended to a slice of the call's own. -/
theorem app_many {ops : Array Oper} {rest : List Oper} {o : Oper} {a : Act} {Q : Exit → Act → World → Prop} (W : World) (base : Nat) (v : Value) (l : List Nat) (N : List Nat) (b off c : Nat) (hgd : o.guard = none) (s x : Operand)
    (ho : o.op = .call { callee := .builtin .append, args := #[s, x], argTypes := #[22, 22] }) (hs : a.eval s = v) (hx : a.eval x = .slice (some ⟨b, off, none⟩) N.length c)
    (hc : ∀ j, j < N.length → W.cell? ⟨b, off + j, none⟩ = some (.int .i64 ((N.getD j 0 : Nat) : Int)))
    (hown : Own W base v (zI l)) (hbase : base ≤ W.heap.size) (hlen : l.length ≤ 1000000) (hlen2 : N.length ≤ 1000000) (w0 : World) (hb : Below base w0 W)
    (h : ∀ v' w', Hid (Own w' base v' (zI (l ++ N)) ∧ Below base w0 w' ∧ W.grownBy w' v.ownBlock) → wpList Tryd.prog ops Q rest (a.put o.dst v') w') :
    wpList Tryd.prog ops Q (o :: rest) a W := by
  obtain ⟨i0, hi, hz0, hz1, hz2⟩ := info_parts intInfo
  refine wpList_append_own _ hgd s x 22 ho base 3 i0 (.int .i64 0) 1 8 Tryd.underlying22 hi hz0 hz1 hz2 rfl (by decide) v l.length _ hs (ownRow hown) ⟨b, off, none⟩ N.length c ((zI N).map (Value.int .i64)) hx (by simp [zI_length]) ?_ ?_ ?_ ?_ hbase ?_
  · intro j u hj
    have hj' : j < N.length := by
      have := (List.getElem?_eq_some_iff.1 hj).1
      simpa [zI_length] using this
    have e1 : (⟨b, off, none⟩ : Addr).add j = ⟨b, off + j, none⟩ := by simp [Addr.add]
    rw [e1, hc j hj']
    rw [← hj]
    simp [zI, List.getD, hj']
  · intro u hu
    obtain ⟨z, _, rfl⟩ := List.mem_map.1 hu
    rfl
  · unfold maxLen; omega
  · omega
  · intro v' w' h1 h2 _
    refine h v' w' ⟨?_, hb.grown h2 hbase (fun g hg => (hown.lt g hg).1), h2⟩
    unfold Own; simpa [zI] using h1

/-- As app_law, the new cell's block under a name of its own. -/
theorem app_law' {ops : Array Oper} {rest : List Oper} {o : Oper} {a : Act} {Q : Exit → Act → World → Prop} (W : World) (base : Nat) (v : Value) (l : List Nat) (z : Nat) (B : Nat) (hB : B = W.heap.size) (hgd : o.guard = none) (s x : Operand)
    (ho : o.op = .call { callee := .builtin .append, args := #[s, x], argTypes := #[22, 22] }) (hs : a.eval s = v) (hx : a.eval x = .slice (some ⟨B, 0, none⟩) 1 1)
    (hown : Own W base v (zI l)) (hbase : base ≤ W.heap.size) (hlen : l.length ≤ 1000000) (w0 : World) (hb : Below base w0 W)
    (h : ∀ v' w', Hid (Own w' base v' (zI (l ++ [z])) ∧ Below base w0 w' ∧ (W.alloc (.cells #[.int .i64 z] 3)).grownBy w' v.ownBlock) → wpList Tryd.prog ops Q rest (a.put o.dst v') w') :
    wpList Tryd.prog ops Q (o :: rest) a (W.alloc (.cells #[.int .i64 z] 3)) := by
  subst hB
  exact app_law W base v l z hgd s x ho hs hx hown hbase hlen w0 hb h

theorem cell_in {w w' : World} {p : Addr} {v : Value} (hb : Below w.heap.size w w') (h : w.cell? p = some v) : w'.cell? p = some v := (hb.cell (World.block_lt_of_cell? _ _ h)).trans h

theorem headD_lt {N : List Nat} {n : Nat} (h : ∀ x ∈ N, n < x) (h0 : 0 < N.length) : n < N.getD 0 0 := by
  cases N with
  | nil => simp at h0
  | cons x N => exact h x (by simp)

theorem own_lit0 (w : World) : Own (w.alloc (.cells #[] 3)) w.heap.size (.slice (some ⟨w.heap.size, 0, none⟩) 0 0) (zI []) :=
  ⟨rfl, Or.inr ⟨w.heap.size, 0, #[], rfl, Nat.le_refl _, heap_alloc_new _ _, Nat.le_refl _, by unfold maxLen; omega, rfl, rfl⟩⟩

set_option maxRecDepth 100000 in
set_option maxHeartbeats 1000000 in
theorem sPut (v : Value) (N : List Nat) (n base : Nat) (w : World) (ho : Own w base v (zI N)) (hN : ∀ x ∈ N, n < x) (hl : N.length ≤ 20) (hx : ∀ x ∈ N, x ≤ 20) :
    Calls Tryd.prog 36 #[v, .int .i64 n] w fun e w' => ∃ v', e = .returned v' ∧ Own w' w.heap.size v' (zI (n :: N)) ∧ Below w.heap.size w w' := by
  obtain ⟨i0, hi, hz0, hz1, hz2⟩ := info_parts intInfo
  have h2 := ho.2
  rcases h2 with ⟨rfl, hn0⟩ | ⟨g, cap, cur, rfl, hg, hcur, hle, hmax, hsz, htk⟩
  · obtain rfl : N = [] := List.eq_nil_of_length_eq_zero (by rw [← zI_length]; exact hn0)
    clear hn0 ho
    go_enter Tryd.func36, Tryd.ntmps36
    go_wp2_with fail
    refine wp_loop_rounds 1 ?_
    rw [rounds_succ]
    have hb1 : Below w.heap.size w (w.alloc (.cells #[] 3)) := (Below.refl _ w).alloc (Nat.le_refl _) _
    have HO := Lib.hid (own_lit0 w)
    have HB := Lib.hid hb1
    clear hb1
    go_wp2_with (first
      | (at_builtin; refine wpList_append_own_none rfl _ _ 22 rfl w.heap.size 3 i0 1 Tryd.underlying22 hi _ 0 [] rfl (own_lit0 w) rfl ?_)
      | (at_builtin; refine app_law' (w.alloc (.cells #[] 3)) w.heap.size _ [] n (w.heap.size + 1) (by simp) rfl _ _ rfl rfl rfl HO.out (by simp) (by simp) w HB.out ?_))
    intro v1 w1 H1
    have hrow := ownRow H1.out.1
    go_wp2_with (at_builtin; refine wpList_append_own_none rfl _ _ 22 rfl w.heap.size 3 i0 1 Tryd.underlying22 hi _ _ _ rfl hrow rfl ?_)
    go_ret
    exact ⟨_, rfl, H1.out.1, H1.out.2.1⟩
  · have hcell : ∀ j, j < N.length → w.cell? ⟨g, 0 + j, none⟩ = some (.int .i64 ((N.getD j 0 : Nat) : Int)) := by
      intro j hj
      have h3 : w.ownsRow base 3 1 (.slice (some ⟨g, 0, none⟩) N.length cap) N.length ((zI N).map (Value.int .i64)) := ownRow (by rw [zI_length] at ho; exact ho)
      rw [Nat.zero_add, h3.cellAt j (by omega)]
      simp [zI, List.getD, hj]
    have hgl : g < w.heap.size := heap_lt hcur
    rw [zI_length]
    have HC := Lib.hid hcell
    have hb1 : Below w.heap.size w (w.alloc (.cells #[] 3)) := (Below.refl _ w).alloc (Nat.le_refl _) _
    have HO := Lib.hid (own_lit0 w)
    have HB := Lib.hid hb1
    have hcapI : (N.length : Int) ≤ (cap : Int) := by rw [zI_length] at hle; omega
    have hcap : N.length ≤ cap := by omega
    clear hb1 ho hcur hle hmax hsz htk hcell
    by_cases h0 : 0 < N.length
    · have hc0 := HC.out 0 h0
      rw [Nat.add_zero] at hc0
      have hgt := headD_lt hN h0
      have h20 : N.getD 0 0 ≤ 20 := by
        have := hx (N.getD 0 0) (by rw [List.getD_eq_getElem?_getD, List.getElem?_eq_getElem h0]; exact List.getElem_mem h0)
        exact this
      generalize N.getD 0 0 = y at *
      have hne : ((y : Int) == (n : Int)) = false := by simp; omega
      have hnl : ¬ (y : Int) < (n : Int) := by omega
      have h0i : (0 : Int) < (N.length : Int) := by omega
      go_enter Tryd.func36, Tryd.ntmps36
      go_wp2_with fail
      refine wp_loop_rounds 1 ?_
      rw [rounds_succ]
      go_wp2_with (at_builtin; refine app_many (w.alloc (.cells #[] 3)) w.heap.size _ [] [] g 0 cap rfl _ _ rfl rfl rfl (fun j hj => by simp at hj) HO.out (by simp) (by simp) (by simp) w HB.out ?_)
      intro v1 w1 H1
      have hs1 := H1.out.2.1.size
      go_wp2_with (at_builtin; refine app_law w1 w.heap.size _ [] n rfl _ _ rfl rfl rfl H1.out.1 hs1 (by simp) w H1.out.2.1 ?_)
      intro v2 w2 H2
      have hs2 := H2.out.2.1.size
      go_wp2_with (at_builtin; refine app_many w2 w.heap.size _ [n] N g 0 cap rfl _ _ rfl rfl rfl (fun j hj => (H2.out.2.1.cell hgl).trans (HC.out j hj)) H2.out.1 hs2 (by simp) (by omega) w H2.out.2.1 ?_)
      intro v3 w3 H3
      go_wp2_with fail
      go_ret
      exact ⟨_, rfl, H3.out.1, H3.out.2.1⟩
    · obtain rfl : N = [] := List.eq_nil_of_length_eq_zero (by omega)
      go_enter Tryd.func36, Tryd.ntmps36
      go_wp2_with fail
      refine wp_loop_rounds 1 ?_
      rw [rounds_succ]
      go_wp2_with (at_builtin; refine app_many (w.alloc (.cells #[] 3)) w.heap.size _ [] [] g 0 cap rfl _ _ rfl rfl rfl (fun j hj => by simp at hj) HO.out (by simp) (by simp) (by simp) w HB.out ?_)
      intro v1 w1 H1
      have hs1 := H1.out.2.1.size
      go_wp2_with (at_builtin; refine app_law w1 w.heap.size _ [] n rfl _ _ rfl rfl rfl H1.out.1 hs1 (by simp) w H1.out.2.1 ?_)
      intro v2 w2 H2
      have hs2 := H2.out.2.1.size
      go_wp2_with (at_builtin; refine app_many w2 w.heap.size _ [n] [] g 0 cap rfl _ _ rfl rfl rfl (fun j hj => by simp at hj) H2.out.1 hs2 (by simp) (by simp) w H2.out.2.1 ?_)
      intro v3 w3 H3
      go_wp2_with fail
      go_ret
      exact ⟨_, rfl, H3.out.1, H3.out.2.1⟩

def makeI (x : Int) (zs : List Int) (y : Int) : List Int := if canI x zs y = true then zI (idxL (mkM (nL zs) (nL zs).length y.toNat) (nL zs).length) else []
theorem makeI_no {x : Int} {zs : List Int} {y : Int} (h : canI x zs y = false) : makeI x zs y = [] := by simp [makeI, h]
theorem makeI_len (x : Int) (zs : List Int) (y : Int) : (makeI x zs y).length ≤ 20 := by
  unfold makeI; split
  · rename_i h
    have h1 : rowsB x zs = true := by
      have : twoOkB x zs y = true := by
        unfold canI at h; cases h2 : twoOkB x zs y
        · rw [h2] at h; cases h
        · rfl
      exact (twoOk_true this).1
    have := (rowsB_in h1).1
    rw [zI_length, idxL]
    refine Nat.le_trans (List.length_filter_le _ _) ?_
    rw [List.length_range, nL_length]; exact this
  · simp
theorem idxL_low {m k : Nat} (h : m < 2 ^ k) : idxL m (k + 1) = idxL m k := by
  rw [idxL_succ, if_neg (by rw [bit_of_lt h]; decide), List.append_nil]
theorem idxL_up {m k : Nat} (h : m < 2 ^ k) : idxL (m + 2 ^ k) (k + 1) = idxL m k ++ [k] := by
  rw [idxL_succ, if_pos (by rw [pow_bit h]; simp)]
  congr 1
  unfold idxL
  apply List.filter_congr
  intro i hi
  have hik : i < k := List.mem_range.1 hi
  rw [pow_bit h]
  rw [decide_eq_false (by omega)]; simp
theorem Ints.take {w : World} {A : Option Addr} {R : List Nat} (h : Ints w A (zI R)) (k : Nat) : Ints w A (zI (R.take k)) := by
  intro hne
  have hne' : zI R ≠ [] := by
    intro e
    have : R = [] := List.eq_nil_of_length_eq_zero (by rw [← zI_length, e]; rfl)
    subst this; simp [zI] at hne
  obtain ⟨b, o, e, hc⟩ := h hne'
  refine ⟨b, o, e, fun j hj => ?_⟩
  rw [zI_length, List.length_take] at hj
  rw [hc j (by rw [zI_length]; omega), zI_getD, zI_getD]
  have h1 : j < k := by omega
  simp [List.getD, h1]

end Go.Proofs.YtddimdfkapbflaaDoor
