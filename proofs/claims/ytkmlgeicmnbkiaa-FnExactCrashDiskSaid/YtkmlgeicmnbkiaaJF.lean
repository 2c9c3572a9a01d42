/-
  The model of chapter 5: l1Has, l1Put, l5Degree, DegreeOf, l5Parts, PartsOf.
-/
import Derived.Test.YtkmlgeicmnbkiaaMF
import Derived.Test.YtkmlgeicmnbkiaaU3
import Derived.Deep.LoopGhost
namespace Go.Proofs.Ytkmlgeicmnbkiaa
open Go.RowKit

theorem jAlloc1f (w : World) : Below w.heap.size w (w.alloc (.cells #[] 3)) := (Below.refl _ w).alloc (Nat.le_refl _) _
theorem has_zI (L : List Nat) (k : Nat) : decide ((k : Int) ∈ zI L) = decide (k ∈ L) := by
  congr 1
  simp only [zI, List.mem_map, eq_iff_iff]
  constructor
  · rintro ⟨a, ha, e⟩
    obtain rfl : a = k := by omega
    exact ha
  · intro h; exact ⟨k, h, rfl⟩
theorem has_take {zs : List Int} {n : Int} {k : Nat} (hk : k < zs.length) (h : n ∉ zs.take k) (h2 : (zs[k] == n) = false) : n ∉ zs.take (k + 1) := by
  rw [List.take_succ_eq_append_getElem hk, List.mem_append, not_or]
  refine ⟨h, fun hm => ?_⟩
  rw [List.mem_singleton] at hm
  subst hm
  simp at h2

set_option maxRecDepth 100000 in
set_option maxHeartbeats 400000 in
theorem sHas (A : Option Addr) (zs : List Int) (ca : Nat) (n : Int) (w : World) (ha : Ints w A zs) (hl : zs.length ≤ 1048576) :
    Calls Try.prog 50 #[.slice A zs.length ca, .int .i64 n] w fun e w' => e = .returned (.bool (decide (n ∈ zs))) ∧ w = w' := by
  have HA := Lib.hid ha
  clear ha
  go_enter Try.func50, Try.ntmps50
  go_wp2_with fail
  go_loopg [9] zs.length (fun gk i wr => ∃ k : Nat, k + gk = zs.length ∧ i = .int .i64 k ∧ n ∉ zs.take k ∧ w = wr)
  case atStart => exact ⟨0, by omega, rfl, by simp, rfl⟩
  case round =>
    obtain ⟨k, hg, rfl, hno, rfl⟩ := hrel
    have HNo := Lib.hid hno
    clear hno
    by_cases hlt : k < zs.length
    · have hki : (k : Int) < (zs.length : Int) := by omega
      obtain ⟨b3, o3, rfl, hc3⟩ := HA.out (by rintro rfl; simp at hlt)
      have hcz := hc3 k hlt
      rw [show zs.getD k 0 = zs[k] by simp [List.getD, hlt]] at hcz
      have HM := Lib.hid (List.getElem_mem hlt)
      have HT := Lib.hid (fun h => has_take hlt HNo.out h)
      have HGK : Hid (zs.length - k - 1 < gk ∧ k + 1 + (zs.length - k - 1) = zs.length) := by show _ ∧ _; omega
      clear hc3 hg
      generalize zs[k] = z at *
      cases hq : (z == n)
      · have HN := Lib.hid (HT.out hq)
        go_wp2_with fail
        go_roundg (zs.length - k - 1)
        case measure => exact HGK.out.1
        case rel => exact ⟨k + 1, HGK.out.2, by go_num, HN.out, rfl⟩
      · have HE : Hid (decide (n ∈ zs) = true) := by
          have e : z = n := by simpa using hq
          show _ = _
          rw [← e]
          simpa using HM.out
        go_wp2_with fail
        go_ret
        exact ⟨ret_bool' HE.out.symm, rfl⟩
    · obtain rfl : k = zs.length := by omega
      rw [List.take_length] at HNo
      have HE : Hid (decide (n ∈ zs) = false) := by show _ = _; simpa using HNo.out
      have hki : ¬ (zs.length : Int) < (zs.length : Int) := by omega
      go_wp2_with fail
      go_ret
      exact ⟨ret_bool' HE.out.symm, rfl⟩

/-- As app_many, the number of elements under a name of its own. -/
theorem app_cnt {ops : Array Oper} {rest : List Oper} {o : Oper} {a : Act} {Q : Exit → Act → World → Prop} (W : World) (base : Nat) (v : Value) (l : List Nat) (N : List Nat) (m : Nat) (hm : N.length = m) (b off c : Nat) (hgd : o.guard = none) (s x : Operand)
    (ho : o.op = .call { callee := .builtin .append, args := #[s, x], argTypes := #[27, 27] }) (hs : a.eval s = v) (hx : a.eval x = .slice (some ⟨b, off, none⟩) m c)
    (hc : ∀ j, j < N.length → W.cell? ⟨b, off + j, none⟩ = some (.int .i64 ((N.getD j 0 : Nat) : Int)))
    (hown : Own W base v (zI l)) (hbase : base ≤ W.heap.size) (hlen : l.length ≤ 1000000) (hlen2 : N.length ≤ 1000000) (w0 : World) (hb : Below base w0 W)
    (h : ∀ v' w', Hid (Own w' base v' (zI (l ++ N)) ∧ Below base w0 w' ∧ W.grownBy w' v.ownBlock) → wpList Try.prog ops Q rest (a.put o.dst v') w') :
    wpList Try.prog ops Q (o :: rest) a W := by
  subst hm
  exact app_many W base v l N b off c hgd s x ho hs hx hc hown hbase hlen hlen2 w0 hb h

end Go.Proofs.Ytkmlgeicmnbkiaa
