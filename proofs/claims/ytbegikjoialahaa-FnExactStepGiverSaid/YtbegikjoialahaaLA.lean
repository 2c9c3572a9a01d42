/-
  Arguments of chapter 11, opened: an allocator, a step, a slice of steps.
-/
import Derived.Test.YtbegikjoialahaaL8
import Derived.Test.YtbegikjoialahaaGV
namespace Go.Proofs.Ytbegikjoialahaa
open Go.ChangeShapes Go.WideShapes Go.ChangeAt Go.RowKit

theorem rd_intsA {w : World} {A : Option Addr} {zs : List Int} (h : RdR 1 fI1 w A zs) : Ints w A zs := fun hne => by
  obtain ⟨b, o, e, hc⟩ := h hne
  refine ⟨b, o, e, fun j hj => ?_⟩
  have h1 := hc j hj 0 (.int .i64 zs[j]) rfl
  rw [Nat.mul_one, Nat.add_zero] at h1
  rw [h1, List.getD_eq_getElem?_getD, List.getElem?_eq_getElem hj]
  rfl
theorem wf_lowA {n : Int} (h : (Lit.int .i64 n).wf = true) : -9223372036854775808 ≤ n := by
  simp [Lit.wf, IntKind.min, IntKind.max, IntKind.signed, IntKind.bits] at h
  omega
theorem cellsGvA : Try.prog.cellsOf 47 = 4 := by kernel_rfl
theorem cellsIdA : Try.prog.cellsOf 51 = 2 := by kernel_rfl
theorem cellsIntA : Try.prog.cellsOf 3 = 1 := by kernel_rfl
theorem cellsBoolA : Try.prog.cellsOf 4 = 1 := by kernel_rfl
set_option maxRecDepth 100000 in
theorem open_intA {H : Type} {enc : TypeId × Value → H} {W : World} (n : Nat) (cs : List Value) (y : DataW H × List MemPlace) (_ : cs.length = 1) (h : DataW.trod enc Try.prog W 0 (fun _ => true) true n 3 cs = some y) :
    ∃ z : Int, cs = fI1 z ∧ True := by
  obtain ⟨z, hz, _⟩ := DataW.trod_int Try.underlying3 h
  exact ⟨z, hz, trivial⟩
set_option maxRecDepth 100000 in
theorem open_idA {H : Type} {enc : TypeId × Value → H} {W : World} (n : Nat) (cs : List Value) (y : DataW H × List MemPlace) (hl : cs.length = 2) (h : DataW.trod enc Try.prog W 0 (fun _ => true) true n 51 cs = some y) :
    ∃ p : Idc, cs = fId p ∧ True := by
  obtain ⟨y0, y1, m, _, _, h30, h31⟩ := trod_struct2 Try.underlying51 h
  obtain ⟨c0, c1, rfl⟩ : ∃ c0 c1, cs = [c0, c1] := by
    match cs, hl with
    | [c0, c1], _ => exact ⟨c0, c1, rfl⟩
  have k0 : DataW.trod enc Try.prog W 0 (fun _ => true) true m 3 [c0] = some y0 := by simpa [cellsIntA] using h30
  have k1 : DataW.trod enc Try.prog W 0 (fun _ => true) true m 4 [c1] = some y1 := by simpa [cellsIntA, cellsBoolA] using h31
  obtain ⟨x, hx, _⟩ := DataW.trod_int Try.underlying3 k0
  obtain rfl : c0 = .int .i64 x := by simpa using hx
  obtain ⟨s, hs, _⟩ := DataW.trod_bool Try.underlying4 k1
  obtain rfl : c1 = .bool s := by simpa using hs
  exact ⟨(x, s), rfl, trivial⟩
set_option maxRecDepth 100000 in
theorem open_giver {H : Type} {enc : TypeId × Value → H} {W : World} {base : Nat} {v : Value} {d : DataW H} {p : List MemPlace}
    (hv : Value.okWide Try.prog W .any base 47 v) (h : DataW.Trod enc Try.prog W 0 (fun _ => true) true 47 v d p) :
    ∃ n a s A zs c, v = gvV n a s (.slice A (List.length zs) c) ∧ Ints W A zs ∧ zs.length ≤ 9223372036854775807 ∧ -9223372036854775808 ≤ s := by
  obtain ⟨v0, v1, v2, v3, y0, y1, y2, y3, n, rfl, _, _, h0, h1, h2, h3⟩ := Go.Joins.open_agg4 Try.underlying47 (by kernel_rfl) cellsGvA hv h
  obtain ⟨x0, e0, _⟩ := DataW.trod_int Try.underlying3 h0
  obtain ⟨x1, e1, _⟩ := DataW.trod_int Try.underlying3 h1
  obtain ⟨x2, e2, _, hw⟩ := DataW.trod_int Try.underlying3 h2
  obtain rfl : v0 = .int .i64 x0 := by simpa using e0
  obtain rfl : v1 = .int .i64 x1 := by simpa using e1
  obtain rfl : v2 = .int .i64 x2 := by simpa using e2
  obtain ⟨A, zs, c, rfl, hA, hl, _⟩ := open_row (by decide) fI1_len Try.underlying25 cellsIntA open_intA h3
  exact ⟨x0, x1, x2, A, zs, c, rfl, rd_intsA hA, hl, wf_lowA hw⟩
set_option maxRecDepth 100000 in
theorem open_steps {H : Type} {enc : TypeId × Value → H} {W : World} {base : Nat} {v : Value} {d : DataW H} {p : List MemPlace}
    (hv : Value.okWide Try.prog W .any base 54 v) (h : DataW.Trod enc Try.prog W 0 (fun _ => true) true 54 v d p) :
    ∃ A L c, v = .slice A (List.length L) c ∧ RdR 2 fId W A L ∧ L.length ≤ 9223372036854775807 := by
  obtain ⟨a0, len, cap, rfl⟩ := okWide_slice Try.underlying54 hv
  obtain ⟨fuel, hf⟩ := h
  obtain ⟨A, L, c, e, hA, hl, _⟩ := open_row (by decide) fId_len Try.underlying54 cellsIdA open_idA (show DataW.trod enc Try.prog W 0 (fun _ => true) true fuel 54 [.slice a0 len cap] = some _ from hf)
  exact ⟨A, L, c, e, hA, hl⟩
set_option maxRecDepth 100000 in
theorem open_idstep {H : Type} {enc : TypeId × Value → H} {W : World} {base : Nat} {v : Value} {d : DataW H} {p : List MemPlace}
    (hv : Value.okWide Try.prog W .any base 51 v) (h : DataW.Trod enc Try.prog W 0 (fun _ => true) true 51 v d p) :
    ∃ x : Idc, v = idV x := by
  obtain ⟨v0, v1, y0, y1, n, rfl, _, _, h0, h1⟩ := Go.Joins.open_agg2 Try.underlying51 (by kernel_rfl) cellsIdA hv h
  obtain ⟨x0, e0, _⟩ := DataW.trod_int Try.underlying3 h0
  obtain ⟨x1, e1, _⟩ := DataW.trod_bool Try.underlying4 h1
  obtain rfl : v0 = .int .i64 x0 := by simpa using e0
  obtain rfl : v1 = .bool x1 := by simpa using e1
  exact ⟨(x0, x1), rfl⟩
end Go.Proofs.Ytbegikjoialahaa
