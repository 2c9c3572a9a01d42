/-
  What FnPeeled asks of the model: letters of one block, peeled and added up.
-/
import Derived.Test.YtcpfneikcefcmaaDoorVQ
namespace Go.Proofs.YtcpfneikcefcmaaDoor
open Go.RowKit

theorem okTo_of {ls : List (Int × Int)} : ∀ {m : Nat}, (∀ k, k < m → letB (ls.getD k (0, 0)) = true ∧ newB (ls.take k) (ls.getD k (0, 0)).1 = true) → okTo ls m = true
  | 0, _ => rfl
  | m + 1, h => by
    rw [okTo, okTo_of (m := m) (fun k hk => h k (by omega)), (h m (by omega)).1, (h m (by omega)).2]; rfl
/-- The letter of a number, in a block. -/
def letF (zs : List Int) (x : Int × Int) : Int × Int := (letNoI zs x.1, letSumI zs x.1)
theorem letF_ok {zs : List Int} {x : Int × Int} (h : letOkB zs x.1 = true) : ∃ Bk : List Nat, zs = zI Bk ∧ (∀ b ∈ Bk, b < 2 ^ 32) ∧ ∃ m : Nat, x.1 = m ∧ letF zs x = ((m : Int), ((sumN Bk (partsL m Bk.length) : Nat) : Int)) ∧ noOkB x.1 = true := by
  obtain ⟨hb, hn⟩ : blkOkB zs = true ∧ noOkB x.1 = true := by simpa [letOkB] using h
  obtain ⟨Bk, rfl, h1, h8, h32⟩ := blk_nat hb
  obtain ⟨m, hm⟩ : ∃ m : Nat, x.1 = m := ⟨x.1.toNat, by simp [noOkB, inB] at hn; omega⟩
  refine ⟨Bk, rfl, h32, m, hm, ?_, hn⟩
  rw [letF, letNoI, if_pos h, letSumI, if_pos h, zI_toNat, zI_length, hm, Int.toNat_natCast]
theorem lets_good {n : Int} {ls : List (Int × Int)} {zs : List Int} (hg : goodLB n ls = true) (ho : ∀ x ∈ ls, letOkB zs x.1 = true) (h1 : 1 ≤ zs.length) (h8 : zs.length ≤ 8) : goodLB (zs.length : Int) (ls.map (letF zs)) = true := by
  simp only [goodLB, Bool.and_eq_true, decide_eq_true_eq] at hg ⊢
  obtain ⟨g1, _, g3⟩ := hg
  refine ⟨?_, by simp [pcOkB, inB]; omega, by rw [List.length_map]; exact g3⟩
  refine okTo_of fun k hk => ?_
  rw [List.length_map] at hk
  have hx := (okTo_at g1 k hk).2
  have hok := ho ls[k] (List.getElem_mem hk)
  rw [show ls.getD k (0, 0) = ls[k] by simp [List.getD, hk]] at hx
  rw [show (ls.map (letF zs)).getD k (0, 0) = letF zs ls[k] by simp [List.getD, hk]]
  obtain ⟨Bk, hz, h32, m, hm, he, hn⟩ := letF_ok hok
  have hs := sumN_lt (K := partsL m Bk.length) h32
  refine ⟨?_, ?_⟩
  · rw [he]
    rw [hm] at hn
    simp only [letB, hn, pieceB5, inB, Bool.true_and, Bool.and_eq_true, decide_eq_true_eq]
    omega
  · rw [he]
    rw [hm] at hx
    rw [newB, ← List.map_take, List.all_map]
    rw [newB, List.all_eq_true] at hx
    rw [List.all_eq_true]
    intro y hy
    have := hx y hy
    show (!((letF zs y).1 == (m : Int))) = true
    rw [letF, letNoI, if_pos (ho y (List.mem_of_mem_take hy))]
    exact this
/-- All that FnPeeled compares. -/
theorem peeled_math {n : Int} {ls : List (Int × Int)} {zs : List Int} (hg : goodLB n ls = true) (ho : ∀ x ∈ ls, letOkB zs x.1 = true) (h1 : 1 ≤ zs.length) (h8 : zs.length ≤ 8) (h20 : ls.length ≤ 20) :
    goodLB (zs.length : Int) (ls.map (letF zs)) = true ∧ (peelOI (zs.length : Int) (ls.map (letF zs))).length = zs.length ∧ (peelBI (zs.length : Int) (ls.map (letF zs))).length = zs.length ∧
    (∀ k (ha : k < (peelOI (zs.length : Int) (ls.map (letF zs))).length) (hb : k < (peelBI (zs.length : Int) (ls.map (letF zs))).length) (hc : k < zs.length), (peelBI (zs.length : Int) (ls.map (letF zs)))[k] = true → (peelOI (zs.length : Int) (ls.map (letF zs)))[k] = zs[k]) ∧
    ((peelBI (zs.length : Int) (ls.map (letF zs))).all id = true → addOkB (zs.length : Int) (ls.map (letF zs)) = true) ∧
    (addOkB (zs.length : Int) (ls.map (letF zs)) = true → addI (zs.length : Int) (ls.map (letF zs)) = zs) := by
  have hgd := lets_good hg ho h1 h8
  have eO : peelOI (zs.length : Int) (ls.map (letF zs)) = zI ((peelL zs.length (natL (ls.map (letF zs)))).map fun s => s.getD 0) := by rw [peelOI, if_pos hgd, Int.toNat_natCast]
  have eB : peelBI (zs.length : Int) (ls.map (letF zs)) = (peelL zs.length (natL (ls.map (letF zs)))).map Option.isSome := by rw [peelBI, if_pos hgd, Int.toNat_natCast]
  have hpl := peelL_length (L := natL (ls.map (letF zs))) h1
  have hrl : ∀ r ∈ rowsOfL zs.length (natL (ls.map (letF zs))), r < 2 ^ zs.length := fun r hr => by
    obtain ⟨no, _, rfl⟩ := List.mem_map.1 hr
    exact rowOf_lt no h1
  have hsp := fun k => peel_span (L := natL (ls.map (letF zs))) h1 k
  refine ⟨hgd, by rw [eO, zI_length, List.length_map, hpl], by rw [eB, List.length_map, hpl], ?_, ?_, ?_⟩
  · intro k ha hb hc hk
    have hkl : k < (peelL zs.length (natL (ls.map (letF zs)))).length := by omega
    simp only [eB, List.getElem_map] at hk
    obtain ⟨v, hv⟩ := Option.isSome_iff_exists.1 hk
    have hgv : (peelL zs.length (natL (ls.map (letF zs)))).getD k none = some v := by rw [getD_none hkl, hv]
    have e1 : (peelOI (zs.length : Int) (ls.map (letF zs)))[k] = ((v : Nat) : Int) := by
      simp only [eO, zI, List.getElem_map, hv, Option.getD_some]
    rw [e1]
    cases ls with
    | nil =>
      exfalso
      have p1 := peel_block (n := zs.length) (L := natL (([] : List (Int × Int)).map (letF zs))) (B := []) h1 (fun x hx => by simp [natL] at hx) k v hgv
      have p2 := peel_block (n := zs.length) (L := natL (([] : List (Int × Int)).map (letF zs))) (B := List.replicate (k + 1) 1) h1 (fun x hx => by simp [natL] at hx) k v hgv
      simp [List.getD] at p1 p2
      omega
    | cons x0 lt =>
      obtain ⟨Bk, rfl, h32, _⟩ := letF_ok (ho x0 (List.mem_cons_self ..))
      have hB : ∀ x ∈ natL ((x0 :: lt).map (letF (zI Bk))), x.2 = sumN Bk (partsL x.1 (zI Bk).length) := fun x hx => by
        obtain ⟨p, hp, rfl⟩ := List.mem_map.1 hx
        obtain ⟨y, hy, rfl⟩ := List.mem_map.1 hp
        obtain ⟨Bk', hz', _, m, hm, he, _⟩ := letF_ok (ho y hy)
        obtain rfl := zI_inj hz'
        rw [he, zI_length]; simp
      have := peel_block h1 hB k v hgv
      rw [zI_length] at hc
      rw [this]
      simp [zI, List.getD, hc]
  · intro hall
    rw [addOkB, hgd, List.length_map, Int.toNat_natCast]
    have hr : rank (rowsOfL zs.length (natL (ls.map (letF zs)))) = zs.length := rank_full hrl fun k hk => hsp k (by
      have hkl : k < (peelL zs.length (natL (ls.map (letF zs)))).length := by omega
      rw [getD_none hkl]
      rw [eB, List.all_map, List.all_eq_true] at hall
      exact hall _ (List.getElem_mem hkl))
    simp [hr, h20]
  · intro hok
    rw [addI, if_pos hok, Int.toNat_natCast]
    have hr : rank (rowsOfL zs.length (natL (ls.map (letF zs)))) = zs.length := by
      simp only [addOkB, Bool.and_eq_true, decide_eq_true_eq, Int.toNat_natCast] at hok
      exact hok.2.2
    cases ls with
    | nil =>
      exfalso
      have := rank_le_length (rowsOfL zs.length (natL (([] : List (Int × Int)).map (letF zs))))
      rw [hr] at this
      have e0 : (rowsOfL zs.length (natL (([] : List (Int × Int)).map (letF zs)))).length = 0 := rfl
      omega
    | cons x0 lt =>
      obtain ⟨Bk, rfl, h32, _⟩ := letF_ok (ho x0 (List.mem_cons_self ..))
      have hB : (natL ((x0 :: lt).map (letF (zI Bk)))).map Prod.snd = ((natL ((x0 :: lt).map (letF (zI Bk)))).map Prod.fst).map fun no => sumN Bk (partsL no (zI Bk).length) := by
        rw [List.map_map]
        refine List.map_congr_left fun x hx => ?_
        obtain ⟨p, hp, rfl⟩ := List.mem_map.1 hx
        obtain ⟨y, hy, rfl⟩ := List.mem_map.1 hp
        obtain ⟨Bk', hz', _, m, hm, he, _⟩ := letF_ok (ho y hy)
        obtain rfl := zI_inj hz'
        rw [he, zI_length]; simp
      congr 1
      rw [hB, rowsOfL]
      rw [rowsOfL] at hr hrl
      have hfs := full_span hrl hr
      generalize (natL ((x0 :: lt).map (letF (zI Bk)))).map Prod.fst = nos at *
      refine List.ext_getElem (by rw [solve_length, zI_length]) fun k hk1 hk2 => ?_
      simp only [solveL, List.getElem_map, List.getElem_range, List.length_map]
      rw [solve_block h1 (by rw [zI_length]; exact hk2) (hfs k (by rw [zI_length]; exact hk2))]
      simp [List.getD, hk2]
end Go.Proofs.YtcpfneikcefcmaaDoor
