/-
  The laws' draws of chapter 1: DrawGoodRow, DrawWeightOf, DrawBitsIn, DrawAddRows; the number of some bytes.
-/
import Derived.Test.YthbjcipdneminaaDoorD1
namespace Go.Proofs.YthbjcipdneminaaDoor
open Go.RowKit

/-- A new cursor. -/
theorem Cur.new {w : World} {A : Option Addr} {zs : List Int} {c : Nat} (hb : Byts w w.heap.size A zs) (t : TypeId) :
    Cur (w.alloc (.cells #[.slice A zs.length c, .int .i64 0, .int .u64 0] t)) w.heap.size 0 := by
  have hc := fun j => cell_of_row (w.alloc (.cells #[.slice A zs.length c, .int .i64 0, .int .u64 0] t)) w.heap.size j _ t (0, 0) (heap_alloc_new w _)
  have hf := fun j => frozen_of_row (w.alloc (.cells #[.slice A zs.length c, .int .i64 0, .int .u64 0] t)) w.heap.size j _ t (heap_alloc_new w _)
  exact ⟨A, zs, c, 0, 0, hb.keep fun p hp => World.cell?_alloc_lt w _ p hp, by rw [hc]; rfl, by rw [hc]; rfl, by rw [hc]; rfl, hf 1, hf 2, Nat.le_refl _, by omega, by omega⟩

theorem below_of_grown {w w0 w' : World} {B : Nat} (hb : Below B w w0) (hB : B ≤ w0.heap.size) {g : Nat} (hg : w0.grownBy w' (some g)) (h : B ≤ g) : Below B w w' :=
  hb.grown hg hB (fun k e => by injection e with e; omega)

set_option maxRecDepth 100000 in
set_option maxHeartbeats 400000 in
theorem numberOf (A : Option Addr) (B : Nat) (zs : List Int) (c : Nat) (w : World) (hb : Byts w B A zs) (hl : zs.length ≤ 1099511627776) :
    Calls Tryd.prog 14 #[.slice A zs.length c] w fun e w' => ∃ r : Int, e = .returned (.int .i64 r) ∧ 0 ≤ r ∧ w = w' := by
  go_enter Tryd.func14, Tryd.ntmps14
  go_wp2
  go_loop [3, 8] (fun n i => ∃ (k : Nat) (r : Int), k ≤ zs.length ∧ i = .int .i64 k ∧ n = .int .i64 r ∧ 0 ≤ r ∧ r ≤ 1000003) (fun _ i => zs.length - (intOf i).toNat)
  case atStart => exact ⟨0, 0, by omega, rfl, rfl, by omega, by omega⟩
  case round =>
    obtain ⟨k, r, hk, rfl, rfl, hr0, hr1⟩ := hrel
    by_cases hlt : k < zs.length
    · obtain ⟨hz, hcs⟩ := hb
      obtain ⟨b, o, rfl, _, hc⟩ := hcs (by rintro rfl; simp at hlt)
      have hcz := hc k hlt
      rw [show zs.getD k 0 = zs[k] by simp [List.getD, hlt]] at hcz
      obtain ⟨hz1, hz2⟩ := hz zs[k] (List.getElem_mem hlt)
      clear hc hcs hz
      generalize zs[k] = z at *
      go_wp2
      go_round
      case rel => exact ⟨k + 1, _, by omega, by go_num, rfl, by omega, by omega⟩
      case measure => simp [intOf]; omega
    · obtain rfl : k = zs.length := by omega
      go_wp2
      go_ret
      exact ⟨_, rfl, hr0, rfl⟩
end Go.Proofs.YthbjcipdneminaaDoor
