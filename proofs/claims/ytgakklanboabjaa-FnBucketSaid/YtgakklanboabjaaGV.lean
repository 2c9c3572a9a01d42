/-
  The model of chapter 11: GoodGiver, l11Own, l11Step, LostIn, RoomIn, NewGiver.
-/
import Derived.Test.YtgakklanboabjaaGU
import Derived.Test.YtgakklanboabjaaKY
namespace Go.Proofs.Ytgakklanboabjaa
open Go.RowKit

abbrev fI1 (z : Int) : List Value := [.int .i64 z]
theorem fI1_len : ∀ x, (fI1 x).length = 1 := fun _ => rfl
theorem fI1_one : ∀ x, ∀ u ∈ fI1 x, u.oneCell' = true := fun x u hu => by simp at hu; subst hu; rfl
theorem ints_rd {w : World} {A : Option Addr} {zs : List Int} (h : Ints w A zs) : RdR 1 fI1 w A zs := fun hne => by
  obtain ⟨b, o, e, hc⟩ := h hne
  refine ⟨b, o, e, fun j hj i u hu => ?_⟩
  have hi : i = 0 := by
    have := (List.getElem?_eq_some_iff.1 hu).1
    simpa using this
  subst hi
  have hu' : Value.int .i64 zs[j] = u := by simpa using hu
  have h1 := hc j hj
  rw [show zs.getD j 0 = zs[j] by simp [List.getD, hj], hu'] at h1
  rw [Nat.mul_one, Nat.add_zero]; exact h1
theorem fI1_map (zs : List Int) : zs.flatMap fI1 = zs.map (Value.int .i64) := by
  induction zs with
  | nil => rfl
  | cons x L ih => rw [List.flatMap_cons, ih]; rfl
theorem own_rd {w : World} {base : Nat} {v : Value} {zs : List Int} (h : OwnR 3 1 fI1 w base v zs) : Own w base v zs := by
  have h' : w.ownsRow base 3 1 v zs.length (zs.flatMap fI1) := h
  rw [fI1_map] at h'
  exact h'
theorem intI9 : (Try.prog.info? 3).map (fun i => (i.zero, i.size, i.bytes)) = some (some (.int .i64 0), 1, 8) := by kernel_rfl
/-- append([]int{}, l...). -/
theorem app_copyI {ops : Array Oper} {rest : List Oper} {o : Oper} {a : Act} {Q : Exit → Act → World → Prop} (W : World) (L : List Int) (A : Option Addr) (ca m : Nat) (hm : L.length = m) (Bn : Nat) (hBn : Bn = W.heap.size) (hgd : o.guard = none) (s x : Operand)
    (ho : o.op = .call { callee := .builtin .append, args := #[s, x], argTypes := #[81, 81] }) (hs : a.eval s = .slice (some ⟨Bn, 0, none⟩) 0 0) (hx : a.eval x = .slice A m ca)
    (hA : Lies9 A ca) (hI : Ints W A L) (hl : L.length ≤ 1000000)
    (h : ∀ v' w', Hid (Own w' W.heap.size v' L ∧ Below W.heap.size W w') → wpList Try.prog ops Q rest (a.put o.dst v') w') :
    wpList Try.prog ops Q (o :: rest) a (W.alloc (.cells #[] 3)) := by
  obtain ⟨i0, hi, hz0, hz1, hz2⟩ := info_parts intI9
  exact app_copyR fI1_len (by decide) fI1_one Try.underlying81 hi hz0 hz1 hz2 rfl (by decide) W L A ca m hm Bn hBn hgd s x ho hs hx hA (ints_rd hI) hl (fun v' w' H => h v' w' ⟨own_rd H.out.1, H.out.2⟩)

/-- The first number that l1Rising asks at place k. -/
def lsG (lo : Int) (zs : List Int) : Nat → Int
  | 0 => lo
  | j + 1 => zs.getD j 0 + 1
end Go.Proofs.Ytgakklanboabjaa
