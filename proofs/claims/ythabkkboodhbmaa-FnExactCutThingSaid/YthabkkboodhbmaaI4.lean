/-
  The program's chapter 4: PiecesOf, PieceAt.
-/
import Derived.Test.YthabkkboodhbmaaI3
import Derived.Laws.CopyRow
namespace Go.Proofs.Ythabkkboodhbmaa
open Go.RowKit

/-- The four bytes from byte i on, zeros behind the end. -/
def grp (B : List Nat) (i : Nat) : List Nat := (List.range 4).map fun j => B.getD (i + j) 0
theorem grp_length (B : List Nat) (i : Nat) : (grp B i).length = 4 := by simp [grp]
theorem grp_at (B : List Nat) (i : Nat) {j : Nat} (h : j < 4) : (grp B i).getD j 0 = B.getD (i + j) 0 := by
  rw [List.getD_eq_getElem?_getD, List.getElem?_eq_getElem (by rw [grp_length]; exact h)]
  simp [grp]
theorem grp_lt {B : List Nat} (h8 : ∀ b ∈ B, b < 256) (i : Nat) : ∀ b ∈ grp B i, b < 256 := fun b hb => by
  obtain ⟨j, _, rfl⟩ := List.mem_map.1 hb
  exact getD_lt h8 _
theorem grp_piece (B : List Nat) (i : Nat) : pieceN (grp B i) 0 = pieceN B i := by
  unfold pieceN
  rw [grp_at B i (show 0 < 4 by omega), grp_at B i (show 0 + 1 < 4 by omega), grp_at B i (show 0 + 2 < 4 by omega), grp_at B i (show 0 + 3 < 4 by omega)]
  simp
abbrev vb (b : Nat) : Value := .int .u8 (b : Int)
theorem grp_list (B : List Nat) (i : Nat) : grp B i = (B.drop i).take 4 ++ List.replicate (4 - min (B.length - i) 4) 0 := by
  rw [grp, range_getD B i 4]
  congr 2
  omega

theorem byteU : (Try.prog.info? 5).map (·.size) = some 1 := by kernel_rfl
/-- The bytes of a string go over into a group. -/
theorem copy_grp (w : World) (g : Nat) (cs : List Value) (hlen : cs.length = 4) (hg : w.heap[g]? = some (.cells cs.toArray 5 (0, 0))) (t : ByteArray) (ty : TypeId) :
    (Builtin.copy_ #[22, 9] ty #[.slice (some ⟨g, 0, none⟩) 4 4, .string t]).run Try.prog w = .ok (goInt ((min t.size 4 : Nat) : Int)) (w.setRow g (((bsL t).take 4).map vb ++ cs.drop (min t.size 4)).toArray) := by
  have hl : (((bsL t).take 4).map vb).length = min t.size 4 := by rw [List.length_map, List.length_take, bsL_length]; omega
  have hst := run_storeCells_at Try.prog g 0 5 (((bsL t).take 4).map vb) 0 cs.toArray w hg (by rw [hl]; simp [hlen]; omega) (fun v hv => by
    obtain ⟨b, _, rfl⟩ := List.mem_map.1 hv
    rfl)
  have hdat : List.take (t.size.min 4) (List.map (fun b : UInt8 => Value.int .u8 (b.toNat : Int)) t.data.toList) = ((bsL t).take 4).map vb := by
    have e : t.data.toList.length = t.size := by rw [Array.length_toList]; rfl
    rw [bsL, ← List.map_take, ← List.map_take, List.map_map, show t.size.min 4 = min 4 t.data.toList.length by rw [e]; exact Nat.min_comm _ _, List.take_eq_take_min.symm]
    rfl
  obtain ⟨i0, hi, hz0, hz1, hz2⟩ := info_parts byteInfo
  simp only [Nat.zero_add, List.take_zero, List.nil_append, hl] at hst
  simp [Builtin.copy_, run_underlying Try.underlying22, Builtin.lenOf, Builtin.firstCells, sizeOf, typeInfo, hi]
  rw [hdat, hst, List.map_take]
  rfl
theorem clear_grp (w : World) (g : Nat) (cs : List Value) (hlen : cs.length = 4) (hg : w.heap[g]? = some (.cells cs.toArray 5 (0, 0))) (f : Nat) (hf : f < 4) (c : Nat) (ty : TypeId) :
    (Builtin.clear_ #[22] ty #[.slice (some ⟨g, f, none⟩) (4 - f) c]).run Try.prog w = .ok (.tuple #[]) (w.setRow g (cs.take f ++ List.replicate (4 - f) (vb 0)).toArray) := by
  obtain ⟨i0, hi, hz0, hz1, hz2⟩ := info_parts byteInfo
  have hst := run_storeCells_at Try.prog g f 5 (List.replicate (4 - f) (vb 0)) 0 cs.toArray w hg (by rw [List.length_replicate]; simp [hlen]; omega) (fun v hv => by rw [List.eq_of_mem_replicate hv]; rfl)
  have hzc : (Builtin.zeroCells (vb 0).cells (4 - f)).toList = List.replicate (4 - f) (vb 0) := by
    simp [Builtin.zeroCells, Value.cells]
    apply List.ext_getElem
    · simp
    · intro i h1 h2
      simp [Nat.mod_one]
  simp only [Nat.add_zero, List.length_replicate] at hst
  rw [show f + (4 - f) = cs.length by omega, List.drop_length, List.append_nil] at hst
  obtain ⟨m, hm⟩ : ∃ m, 4 - f = m + 1 := ⟨4 - f - 1, by omega⟩
  rw [hm] at hzc hst ⊢
  simp [Builtin.clear_, run_underlying Try.underlying22, zeroValue, typeInfo, hi, hz0]
  have hzc' : (Builtin.zeroCells (Value.int .u8 0).cells (m + 1)).toList = List.replicate (m + 1) (vb 0) := hzc
  rw [hzc', hst]
  rfl
theorem clear_none (w : World) (A : Option Addr) (c : Nat) (ty : TypeId) : (Builtin.clear_ #[22] ty #[.slice A 0 c]).run Try.prog w = .ok (.tuple #[]) w := by
  cases A <;> simp [Builtin.clear_, run_underlying Try.underlying22]
theorem grown_row (w : World) (g : Nat) (cs : Array Value) : w.grownBy (w.setRow g cs) (some g) :=
  ⟨rfl, rfl, rfl, by simp [World.setRow], fun k _ hk => setRow_other w g k cs (fun e => hk (by rw [e]))⟩
theorem grown_two {a b c : World} {g : Nat} (h : a.grownBy b (some g)) (k : b.grownBy c (some g)) : a.grownBy c (some g) := by
  obtain ⟨h1, h2, h3, h4, h5⟩ := h
  obtain ⟨k1, k2, k3, k4, k5⟩ := k
  exact ⟨k1.trans h1, k2.trans h2, k3.trans h3, Nat.le_trans h4 k4, fun n hn hne => (k5 n (Nat.lt_of_lt_of_le hn h4) hne).trans (h5 n hn hne)⟩
theorem ext_size (s : ByteArray) (i : Nat) : (s.extract i s.size).size = s.size - i := by simp [ByteArray.size_extract]
theorem ext_bs (s : ByteArray) (i : Nat) : bsL (s.extract i s.size) = (bsL s).drop i := by
  unfold bsL
  rw [ByteArray.data_extract, Array.toList_extract, List.extract, List.map_take, List.map_drop, List.take_of_length_le]
  rw [List.length_drop, List.length_map, Array.length_toList]
  exact Nat.le_refl _
/-- The group behind copy and clear, where fewer than four bytes are left. -/
theorem fill_part {w : World} {g : Nat} {cs : List Value} (hlen : cs.length = 4) (hg : w.heap[g]? = some (.cells cs.toArray 5 (0, 0))) (s : ByteArray) (i f : Nat) (hf : s.size - i = f) (h4 : f < 4) :
    ∃ w1 w2, (∀ ty, (Builtin.copy_ #[22, 9] ty #[.slice (some ⟨g, 0, none⟩) 4 4, .string (s.extract i s.size)]).run Try.prog w = .ok (.int .i64 (f : Nat)) w1) ∧
      (∀ ty c, (Builtin.clear_ #[22] ty #[.slice (some ⟨g, f, none⟩) (4 - f) c]).run Try.prog w1 = .ok (.tuple #[]) w2) ∧ w2.heap[g]? = some (.cells ((grp (bsL s) i).map vb).toArray 5 (0, 0)) ∧ w.grownBy w2 (some g) := by
  have hm : min (s.extract i s.size).size 4 = f := by rw [ext_size]; omega
  have hc := copy_grp w g cs hlen hg (s.extract i s.size)
  rw [hm, ext_bs] at hc
  have htk : (((bsL s).drop i).take 4) = (bsL s).drop i := List.take_of_length_le (by rw [List.length_drop, bsL_length]; omega)
  rw [htk] at hc
  have hl1 : (((bsL s).drop i).map vb).length = f := by rw [List.length_map, List.length_drop, bsL_length]; exact hf
  have hg1 := setRow_heap w g cs.toArray (((bsL s).drop i).map vb ++ cs.drop f).toArray 5 (0, 0) hg
  have hl2 : (((bsL s).drop i).map vb ++ cs.drop f).length = 4 := by rw [List.length_append, hl1, List.length_drop]; omega
  refine ⟨_, _, hc, fun ty c => clear_grp _ g _ hl2 hg1 f h4 c ty, ?_, grown_two (grown_row _ _ _) (grown_row _ _ _)⟩
  rw [setRow_heap _ g _ _ 5 (0, 0) hg1]
  congr 3
  rw [List.take_left' hl1, grp_list, htk, List.map_append, List.map_replicate, bsL_length, show min (s.size - i) 4 = f by omega]
/-- The group behind copy, where four bytes are left at least. -/
theorem fill_full {w : World} {g : Nat} {cs : List Value} (hlen : cs.length = 4) (hg : w.heap[g]? = some (.cells cs.toArray 5 (0, 0))) (s : ByteArray) (i : Nat) (hf : 4 ≤ s.size - i) :
    ∃ w2, (∀ ty, (Builtin.copy_ #[22, 9] ty #[.slice (some ⟨g, 0, none⟩) 4 4, .string (s.extract i s.size)]).run Try.prog w = .ok (.int .i64 4) w2) ∧ w2.heap[g]? = some (.cells ((grp (bsL s) i).map vb).toArray 5 (0, 0)) ∧ w.grownBy w2 (some g) := by
  have hm : min (s.extract i s.size).size 4 = 4 := by rw [ext_size]; omega
  have hc := copy_grp w g cs hlen hg (s.extract i s.size)
  rw [hm, ext_bs] at hc
  refine ⟨_, hc, ?_, grown_row _ _ _⟩
  rw [setRow_heap w g cs.toArray _ 5 (0, 0) hg]
  congr 3
  rw [grp_list, bsL_length, show min (s.size - i) 4 = 4 by omega, Nat.sub_self, List.replicate_zero, List.append_nil, show cs.drop 4 = [] from List.drop_of_length_le (by omega), List.append_nil]

theorem below_low {B C : Nat} {w w' : World} (h : Below C w w') (hBC : B ≤ C) : Below B w w' := ⟨h.os, h.tape, h.output, h.size, fun k hk => h.block k (Nat.lt_of_lt_of_le hk hBC)⟩
theorem row_cell {w : World} {g : Nat} {bs : List Nat} {ty : TypeId} (h : w.heap[g]? = some (.cells (bs.map vb).toArray ty (0, 0))) {j : Nat} (hj : j < bs.length) : w.cell? ⟨g, j, none⟩ = some (vb (bs.getD j 0)) := by
  simp [World.cell?, h, List.getD, hj]

set_option maxRecDepth 100000 in
set_option maxHeartbeats 2000000 in
theorem iPieces (s : ByteArray) (w : World) (hs : s.size ≤ 96) :
    Calls Try.prog 23 #[.string s] w fun e w' => ∃ v, e = .returned (.tuple #[v, .bool true]) ∧ Own w' w.heap.size v (zI (piecesL (bsL s))) ∧ Below w.heap.size w w' := by
  have HL : Hid (piecesL (bsL s) = piecesK (bsL s) (cntP s.size)) := by show _ = _; rw [piecesL, bsL_length]; rfl
  have hcn : cntP s.size = (s.size + 3) / 4 := rfl
  have hlo : longOkB (s.size : Int) = true := inB_mk (by omega) (by omega)
  go_enter Try.func23, Try.ntmps23
  obtain ⟨i0, hi, hz0, hz1, hz2⟩ := info_parts byteInfo
  go_wp2_with (first
    | (go_at_call 48; refine (iGoodLong _ _).mono ?_; rintro e w' ⟨rfl, rfl⟩)
    | (at_make; refine wpList_make_full _ rfl _ _ 22 rfl w.heap.size 5 i0 (.int .u8 0) 1 Try.underlying22 hi hz0 hz1 .i64 .i64 _ _ 4 rfl rfl rfl rfl (by rw [hz2]; omega) (by unfold maxLen; omega) (Nat.le_refl _) ?_; intro w1 hown1 hgr1))
  have HB1 : Hid (Below w.heap.size w w1) := (Below.refl _ _).grown hgr1 (Nat.le_refl _) (by simp)
  have hs1 : w.heap.size < w1.heap.size := by
    have := (hown1.lt w.heap.size rfl).2; omega
  have HG1 : Hid (∃ cs : List Value, cs.length = 4 ∧ w1.heap[w.heap.size]? = some (.cells cs.toArray 5 (0, 0))) := by
    rcases hown1.2 with ⟨e, _⟩ | ⟨g, cap, cur, e, _, hg, _, _, hcs, _⟩
    · cases e
    · injection e with e1 e2 e3
      injection e1 with e1
      injection e1 with e1
      subst e1
      exact ⟨cur.toList, by rw [Array.length_toList, hcs, ← e3], by rw [Array.toArray_toList]; exact hg⟩
  clear hown1 hgr1 hi hz0 hz1 hz2
  go_loopg [4, 6] (cntP s.size) (fun gk v i wr => ∃ j : Nat, j + gk = cntP s.size ∧ i = .int .i64 ((4 * j : Nat) : Int) ∧ Own wr (w.heap.size + 1) v (zI (piecesK (bsL s) j)) ∧ (∃ cs : List Value, cs.length = 4 ∧ wr.heap[w.heap.size]? = some (.cells cs.toArray 5 (0, 0))) ∧ Below w.heap.size w wr)
  case atStart => exact ⟨0, by omega, rfl, Own.nil _ _, HG1.out, HB1.out⟩
  case round =>
    obtain ⟨j, hg, rfl, hown, ⟨cs, hcl, hcg⟩, hbel⟩ := hrel
    have HO := Lib.hid hown
    have HB := Lib.hid hbel
    have HG := Lib.hid hcg
    have hbs := hbel.size
    clear hown hbel hcg
    by_cases hlt : 4 * j < s.size
    · have hki : ((4 * j : Nat) : Int) < (s.size : Int) := by omega
      have hj25 : j ≤ 25 := by omega
      have HX := Lib.hid (piecesK_succ (bsL s) j)
      have HPl := Lib.hid (piecesK_length (bsL s) j)
      have HGK : Hid (cntP s.size - j - 1 < gk ∧ j + 1 + (cntP s.size - j - 1) = cntP s.size) := by show _ ∧ _; omega
      generalize hI : 4 * j = i at *
      have HI := Lib.hid hI
      clear hI hg
      have hbase : w.heap.size + 1 ≤ wr.heap.size := lt_of_block HG.out
      -- what stands behind copy and clear
      have HW : Hid (∀ w2 : World, w2.heap[w.heap.size]? = some (.cells ((grp (bsL s) i).map vb).toArray 5 (0, 0)) → wr.grownBy w2 (some w.heap.size) →
          Own w2 (w.heap.size + 1) u4 (zI (piecesK (bsL s) j)) ∧ Below w.heap.size w w2 ∧ w.heap.size + 1 ≤ w2.heap.size ∧ ∀ ww, Below (w.heap.size + 1) w2 ww → (∃ cs : List Value, cs.length = 4 ∧ ww.heap[w.heap.size]? = some (.cells cs.toArray 5 (0, 0))) ∧ Below w.heap.size w ww) := fun w2 h2 hgr => by
        have hB2 : Below w.heap.size w w2 := HB.out.grown hgr hbs (fun k hk => by injection hk with hk; omega)
        refine ⟨HO.out.kept hgr ?_, hB2, Nat.le_trans hbase hgr.size, fun ww hww => ⟨⟨_, by rw [List.length_map, grp_length], (hww.block _ (by omega)).trans h2⟩, hB2.trans (below_low hww (by omega))⟩⟩
        cases hv : u4.ownBlock with
        | none => exact Or.inl rfl
        | some k =>
          refine Or.inr fun e => ?_
          have h1 := (HO.out.lt k hv).1
          injection e with e
          omega
      by_cases h4 : 4 ≤ s.size - i
      · obtain ⟨w2, hcopy, h2, hgr⟩ := fill_full hcl HG.out s i h4
        obtain ⟨hO2, hB2, hs2, hN2⟩ := HW.out w2 h2 hgr
        have HO2 := Lib.hid hO2
        have HN2 := Lib.hid hN2
        have HP := Lib.hid (iPieceIn w.heap.size (grp (bsL s) i) (grp_lt (bsL_lt s) i) w2 (fun j hj => row_cell h2 (by rw [grp_length]; exact hj)))
        rw [grp_piece] at HP
        have HY : Hid (piecesK (bsL s) (j + 1) = piecesK (bsL s) j ++ [pieceN (bsL s) i]) := HX.out
        generalize pieceN (bsL s) i = z at *
        have hclear := clear_none w2
        clear h2 hgr hO2 hB2 hN2 HO HB HG HW HX
        go_wp2_with (first
          | (go_at_call 58; refine HP.out.mono ?_; rintro e w' ⟨rfl, rfl⟩)
          | (at_builtin; refine app_law w2 (w.heap.size + 1) _ (piecesK (bsL s) j) z rfl _ _ rfl rfl rfl HO2.out hs2 (by rw [HPl.out]; omega) w2 (Below.refl _ _) ?_; intro v' w' H'))
        go_roundg (cntP s.size - j - 1)
        case measure => exact HGK.out.1
        case rel => exact ⟨j + 1, HGK.out.2, by rw [show 4 * (j + 1) = i + 4 by have := HI.out; omega]; go_num, by rw [HY.out]; exact H'.out.1, HN2.out _ H'.out.2.1⟩
      · obtain ⟨f, hf⟩ : ∃ f, s.size - i = f := ⟨_, rfl⟩
        have hf4 : f < 4 := by omega
        obtain ⟨w1', w2, hcopy, hclear, h2, hgr⟩ := fill_part hcl HG.out s i f hf hf4
        obtain ⟨hO2, hB2, hs2, hN2⟩ := HW.out w2 h2 hgr
        have HO2 := Lib.hid hO2
        have HN2 := Lib.hid hN2
        have HP := Lib.hid (iPieceIn w.heap.size (grp (bsL s) i) (grp_lt (bsL_lt s) i) w2 (fun j hj => row_cell h2 (by rw [grp_length]; exact hj)))
        rw [grp_piece] at HP
        have HY : Hid (piecesK (bsL s) (j + 1) = piecesK (bsL s) j ++ [pieceN (bsL s) i]) := HX.out
        generalize pieceN (bsL s) i = z at *
        clear h2 hgr hO2 hB2 hN2 HO HB HG HW HX hf h4
        go_wp2_with (first
          | (go_at_call 58; refine HP.out.mono ?_; rintro e w' ⟨rfl, rfl⟩)
          | (at_builtin; refine app_law w2 (w.heap.size + 1) _ (piecesK (bsL s) j) z rfl _ _ rfl rfl rfl HO2.out hs2 (by rw [HPl.out]; omega) w2 (Below.refl _ _) ?_; intro v' w' H'))
        go_roundg (cntP s.size - j - 1)
        case measure => exact HGK.out.1
        case rel => exact ⟨j + 1, HGK.out.2, by rw [show 4 * (j + 1) = i + 4 by have := HI.out; omega]; go_num, by rw [HY.out]; exact H'.out.1, HN2.out _ H'.out.2.1⟩
    · have hki : ¬ ((4 * j : Nat) : Int) < (s.size : Int) := by omega
      obtain rfl : j = cntP s.size := by omega
      obtain ⟨A3, c3, rfl, _⟩ := HO.out.form
      go_wp2_with fail
      go_ret2
      exact ⟨_, rfl, by rw [HL.out]; exact HO.out.lower (by omega), HB.out⟩
end Go.Proofs.Ythabkkboodhbmaa
