/-
  FnParts, walked, whatever the program's own texts are.
-/
import Derived.Test.YtcpfneikcefcmaaDoorVP
namespace Go.Proofs.YtcpfneikcefcmaaDoor
open Go.RowKit

theorem byts_on5 {w w' : World} {A : Option Addr} {zs : List Int} (h : Byts w w.heap.size A zs) (hb : Below w.heap.size w w') : Byts w' w'.heap.size A zs :=
  ⟨h.1, fun hne => by
    obtain ⟨b, o, e, hlt, hc⟩ := h.2 hne
    exact ⟨b, o, e, Nat.lt_of_lt_of_le hlt hb.size, fun j hj => (hb.cell hlt).trans (hc j hj)⟩⟩
theorem en_enough {u : Int} {zs : List Int} (h : enI u zs = true) : u ≤ (zs.length : Int) := by
  simp only [enI, Bool.and_eq_true, decide_eq_true_eq] at h
  obtain ⟨h1, h2⟩ := h
  have hr := rank_le_length ((zs.map Int.toNat).map (rowOfN u.toNat))
  rw [List.length_map, List.length_map] at hr
  omega
theorem parts_deg {no n : Int} (h : symOkB no n = true) : ((partsI no n).length : Int) = degI no n := by
  obtain ⟨a, b, rfl, rfl, _, hb, _⟩ := sym_nat h
  rw [partsI, if_pos h, degI, if_pos h, zI_length, Int.toNat_natCast, Int.toNat_natCast, (parts_ok a hb).2]
/-- What FnParts asks of a letter. -/
theorem let_parts {zs : List Int} {n : Int} (h : letOkB zs n = true) : ∃ (Bk P : List Nat), zs = zI Bk ∧ partsI n (zs.length : Int) = zI P ∧ symOkB n (zs.length : Int) = true ∧ P.length ≤ 4 ∧ (∀ k ∈ P, k < Bk.length) ∧ (∀ b ∈ Bk, b < 2 ^ 32) ∧ letNoI zs n = n ∧ letSumI zs n = (sumN Bk P : Nat) := by
  obtain ⟨hb, hn⟩ : blkOkB zs = true ∧ noOkB n = true := by simpa [letOkB] using h
  obtain ⟨Bk, rfl, h1, h8, h32⟩ := blk_nat hb
  obtain ⟨m, rfl⟩ : ∃ m : Nat, n = m := ⟨n.toNat, by simp [noOkB, inB] at hn; omega⟩
  have hs : symOkB (m : Int) ((zI Bk).length : Int) = true := by
    rw [symOkB, hn, zI_length]
    simp [pcOkB, inB]; omega
  obtain ⟨hri, hrl⟩ := parts_ok m h1
  refine ⟨Bk, partsL m Bk.length, rfl, ?_, hs, by rw [hrl]; exact (degN_bd m h1).2.1, hri.2, h32, by rw [letNoI, if_pos h], ?_⟩
  · rw [partsI, if_pos hs, Int.toNat_natCast, zI_length, Int.toNat_natCast]
  · rw [letSumI, if_pos h, zI_toNat, Int.toNat_natCast, zI_length]

end Go.Proofs.YtcpfneikcefcmaaDoor
