/-
  Arguments of chapter 13, opened: a bucket, a want, a slice of wants, a slice of truth values.
-/
import Derived.Test.YtgakklanboabjaaL8
import Derived.Test.YtgakklanboabjaaCC
namespace Go.Proofs.Ytgakklanboabjaa
open Go.ChangeShapes Go.WideShapes Go.ChangeAt Go.RowKit

theorem wf_bothC {n : Int} (h : (Lit.int .i64 n).wf = true) : -9223372036854775808 ≤ n ∧ n ≤ 9223372036854775807 := by
  simp [Lit.wf, IntKind.min, IntKind.max, IntKind.signed, IntKind.bits] at h
  omega
theorem cellsWnC : Try.prog.cellsOf 57 = 2 := by kernel_rfl
theorem cellsBkC : Try.prog.cellsOf 53 = 4 := by kernel_rfl
theorem cellsIntC : Try.prog.cellsOf 3 = 1 := by kernel_rfl
set_option maxRecDepth 100000 in
theorem open_rowWn {H : Type} {enc : TypeId × Value → H} {W : World} (n : Nat) (cs : List Value) (y : DataW H × List MemPlace) (hl : cs.length = 2) (h : DataW.trod enc Try.prog W 0 (fun _ => true) true n 57 cs = some y) :
    ∃ p : Wtc, cs = fWt p ∧ True := by
  obtain ⟨y0, y1, m, _, _, h0, h1⟩ := trod_struct2 Try.underlying57 h
  obtain ⟨c0, c1, rfl⟩ : ∃ c0 c1, cs = [c0, c1] := by
    match cs, hl with
    | [c0, c1], _ => exact ⟨c0, c1, rfl⟩
  have k0 : DataW.trod enc Try.prog W 0 (fun _ => true) true m 3 [c0] = some y0 := by simpa [cellsIntC] using h0
  obtain ⟨x0, e0, _⟩ := DataW.trod_int Try.underlying3 k0
  obtain rfl : c0 = .int .i64 x0 := by simpa using e0
  have k1 : DataW.trod enc Try.prog W 0 (fun _ => true) true m 3 [c1] = some y1 := by simpa [cellsIntC] using h1
  obtain ⟨x1, e1, _⟩ := DataW.trod_int Try.underlying3 k1
  obtain rfl : c1 = .int .i64 x1 := by simpa using e1
  exact ⟨(x0, x1), rfl, trivial⟩
set_option maxRecDepth 100000 in
theorem open_wants {H : Type} {enc : TypeId × Value → H} {W : World} {base : Nat} {v : Value} {d : DataW H} {p : List MemPlace}
    (hv : Value.okWide Try.prog W .any base 60 v) (h : DataW.Trod enc Try.prog W 0 (fun _ => true) true 60 v d p) :
    ∃ A L c, v = .slice A (List.length L) c ∧ RdR 2 fWt W A L ∧ L.length ≤ 9223372036854775807 := by
  obtain ⟨a0, len, cap, rfl⟩ := okWide_slice Try.underlying60 hv
  obtain ⟨fuel, hf⟩ := h
  obtain ⟨A, L, c, e, hA, hl, _⟩ := open_row (by decide) fWt_len Try.underlying60 cellsWnC open_rowWn (show DataW.trod enc Try.prog W 0 (fun _ => true) true fuel 60 [.slice a0 len cap] = some _ from hf)
  exact ⟨A, L, c, e, hA, hl⟩
set_option maxRecDepth 100000 in
theorem open_want {H : Type} {enc : TypeId × Value → H} {W : World} {base : Nat} {v : Value} {d : DataW H} {p : List MemPlace}
    (hv : Value.okWide Try.prog W .any base 57 v) (h : DataW.Trod enc Try.prog W 0 (fun _ => true) true 57 v d p) :
    ∃ x0 x1 : Int, v = .agg #[.int .i64 x0, .int .i64 x1] ∧ (-9223372036854775808 ≤ x0 ∧ x0 ≤ 9223372036854775807) ∧ (-9223372036854775808 ≤ x1 ∧ x1 ≤ 9223372036854775807) := by
  obtain ⟨v0, v1, y0, y1, n, rfl, _, _, h0, h1⟩ := Go.Joins.open_agg2 Try.underlying57 (by kernel_rfl) cellsWnC hv h
  obtain ⟨x0, e0, _, hw0⟩ := DataW.trod_int Try.underlying3 h0
  obtain rfl : v0 = .int .i64 x0 := by simpa using e0
  obtain ⟨x1, e1, _, hw1⟩ := DataW.trod_int Try.underlying3 h1
  obtain rfl : v1 = .int .i64 x1 := by simpa using e1
  exact ⟨x0, x1, rfl, wf_bothC hw0, wf_bothC hw1⟩
set_option maxRecDepth 100000 in
theorem open_bucket {H : Type} {enc : TypeId × Value → H} {W : World} {base : Nat} {v : Value} {d : DataW H} {p : List MemPlace}
    (hv : Value.okWide Try.prog W .any base 53 v) (h : DataW.Trod enc Try.prog W 0 (fun _ => true) true 53 v d p) :
    ∃ x0 x1 x2 x3 : Int, v = .agg #[.int .i64 x0, .int .i64 x1, .int .i64 x2, .int .i64 x3] ∧ (-9223372036854775808 ≤ x0 ∧ x0 ≤ 9223372036854775807) ∧ (-9223372036854775808 ≤ x1 ∧ x1 ≤ 9223372036854775807) ∧ (-9223372036854775808 ≤ x2 ∧ x2 ≤ 9223372036854775807) ∧ (-9223372036854775808 ≤ x3 ∧ x3 ≤ 9223372036854775807) := by
  obtain ⟨v0, v1, v2, v3, y0, y1, y2, y3, n, rfl, _, _, h0, h1, h2, h3⟩ := Go.Joins.open_agg4 Try.underlying53 (by kernel_rfl) cellsBkC hv h
  obtain ⟨x0, e0, _, hw0⟩ := DataW.trod_int Try.underlying3 h0
  obtain rfl : v0 = .int .i64 x0 := by simpa using e0
  obtain ⟨x1, e1, _, hw1⟩ := DataW.trod_int Try.underlying3 h1
  obtain rfl : v1 = .int .i64 x1 := by simpa using e1
  obtain ⟨x2, e2, _, hw2⟩ := DataW.trod_int Try.underlying3 h2
  obtain rfl : v2 = .int .i64 x2 := by simpa using e2
  obtain ⟨x3, e3, _, hw3⟩ := DataW.trod_int Try.underlying3 h3
  obtain rfl : v3 = .int .i64 x3 := by simpa using e3
  exact ⟨x0, x1, x2, x3, rfl, wf_bothC hw0, wf_bothC hw1, wf_bothC hw2, wf_bothC hw3⟩
theorem cellsBoolC : Try.prog.cellsOf 4 = 1 := by kernel_rfl
theorem rd_bolsC {w : World} {A : Option Addr} {zs : List Bool} (h : RdR 1 fB1 w A zs) : Bols w A zs := fun hne => by
  obtain ⟨b, o, e, hc⟩ := h hne
  refine ⟨b, o, e, fun j hj => ?_⟩
  have h1 := hc j hj 0 (.bool zs[j]) rfl
  rw [Nat.mul_one, Nat.add_zero] at h1
  exact h1
set_option maxRecDepth 100000 in
theorem open_boolC {H : Type} {enc : TypeId × Value → H} {W : World} (n : Nat) (cs : List Value) (y : DataW H × List MemPlace) (_ : cs.length = 1) (h : DataW.trod enc Try.prog W 0 (fun _ => true) true n 4 cs = some y) :
    ∃ z : Bool, cs = fB1 z ∧ True := by
  obtain ⟨z, hz, _⟩ := DataW.trod_bool Try.underlying4 h
  exact ⟨z, hz, trivial⟩
set_option maxRecDepth 100000 in
theorem open_bools {H : Type} {enc : TypeId × Value → H} {W : World} {base : Nat} {v : Value} {d : DataW H} {p : List MemPlace}
    (hv : Value.okWide Try.prog W .any base 28 v) (h : DataW.Trod enc Try.prog W 0 (fun _ => true) true 28 v d p) :
    ∃ A L c, v = .slice A (List.length L) c ∧ Bols W A L ∧ L.length ≤ 9223372036854775807 := by
  obtain ⟨a0, len, cap, rfl⟩ := okWide_slice Try.underlying28 hv
  obtain ⟨fuel, hf⟩ := h
  obtain ⟨A, L, c, e, hA, hl, _⟩ := open_row (by decide) fB1_len Try.underlying28 cellsBoolC open_boolC (show DataW.trod enc Try.prog W 0 (fun _ => true) true fuel 28 [.slice a0 len cap] = some _ from hf)
  exact ⟨A, L, c, e, rd_bolsC hA, hl⟩
end Go.Proofs.Ytgakklanboabjaa
