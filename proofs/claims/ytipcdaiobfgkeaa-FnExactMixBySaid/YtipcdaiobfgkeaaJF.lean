/-
  The model of chapter 5: l1Has, l1Put, l5Degree, DegreeOf, l5Parts, PartsOf.
-/
import Derived.Test.YtipcdaiobfgkeaaMF
import Derived.Test.YtipcdaiobfgkeaaU3
import Derived.Deep.LoopGhost
namespace Go.Proofs.Ytipcdaiobfgkeaa
open Go.RowKit

theorem jAlloc1f (w : World) : Below w.heap.size w (w.alloc (.cells #[] 3)) := (Below.refl _ w).alloc (Nat.le_refl _) _
theorem has_zI (L : List Nat) (k : Nat) : decide ((k : Int) ∈ zI L) = decide (k ∈ L) := by
  congr 1
  simp only [zI, List.mem_map, eq_iff_iff]
  constructor
  · rintro ⟨a, ha, e⟩
    obtain rfl : a = k := by omega
    exact ha
  · intro h; exact ⟨k, h, rfl⟩
theorem has_take {zs : List Int} {n : Int} {k : Nat} (hk : k < zs.length) (h : n ∉ zs.take k) (h2 : (zs[k] == n) = false) : n ∉ zs.take (k + 1) := by
  rw [List.take_succ_eq_append_getElem hk, List.mem_append, not_or]
  refine ⟨h, fun hm => ?_⟩
  rw [List.mem_singleton] at hm
  subst hm
  simp at h2

/-- As app_many, the number of elements under a name of its own. -/
theorem app_cnt {ops : Array Oper} {rest : List Oper} {o : Oper} {a : Act} {Q : Exit → Act → World → Prop} (W : World) (base : Nat) (v : Value) (l : List Nat) (N : List Nat) (m : Nat) (hm : N.length = m) (b off c : Nat) (hgd : o.guard = none) (s x : Operand)
    (ho : o.op = .call { callee := .builtin .append, args := #[s, x], argTypes := #[23, 23] }) (hs : a.eval s = v) (hx : a.eval x = .slice (some ⟨b, off, none⟩) m c)
    (hc : ∀ j, j < N.length → W.cell? ⟨b, off + j, none⟩ = some (.int .i64 ((N.getD j 0 : Nat) : Int)))
    (hown : Own W base v (zI l)) (hbase : base ≤ W.heap.size) (hlen : l.length ≤ 1000000) (hlen2 : N.length ≤ 1000000) (w0 : World) (hb : Below base w0 W)
    (h : ∀ v' w', Hid (Own w' base v' (zI (l ++ N)) ∧ Below base w0 w' ∧ W.grownBy w' v.ownBlock) → wpList Try.prog ops Q rest (a.put o.dst v') w') :
    wpList Try.prog ops Q (o :: rest) a W := by
  subst hm
  exact app_many W base v l N b off c hgd s x ho hs hx hc hown hbase hlen hlen2 w0 hb h

end Go.Proofs.Ytipcdaiobfgkeaa
