/-
  Arguments of chapter 12, opened: a lease, a step of a lease, a slice of either.
-/
import Derived.Test.YthmnenejfonfgaaL8
import Derived.Test.YthmnenejfonfgaaBB
namespace Go.Proofs.Ythmnenejfonfgaa
open Go.ChangeShapes Go.WideShapes Go.ChangeAt Go.RowKit

theorem wf_bothB {n : Int} (h : (Lit.int .i64 n).wf = true) : -9223372036854775808 ≤ n ∧ n ≤ 9223372036854775807 := by
  simp [Lit.wf, IntKind.min, IntKind.max, IntKind.signed, IntKind.bits] at h
  omega
theorem cellsLsB : Try.prog.cellsOf 47 = 3 := by kernel_rfl
theorem cellsStB : Try.prog.cellsOf 50 = 4 := by kernel_rfl
theorem cellsIntB : Try.prog.cellsOf 3 = 1 := by kernel_rfl
set_option maxRecDepth 100000 in
theorem open_rowLs {H : Type} {enc : TypeId × Value → H} {W : World} (n : Nat) (cs : List Value) (y : DataW H × List MemPlace) (hl : cs.length = 3) (h : DataW.trod enc Try.prog W 0 (fun _ => true) true n 47 cs = some y) :
    ∃ p : Zac, cs = fZa p ∧ True := by
  obtain ⟨y0, y1, y2, m, _, _, h0, h1, h2⟩ := Go.Deep.trod_struct3 Try.underlying47 h
  obtain ⟨c0, c1, c2, rfl⟩ : ∃ c0 c1 c2, cs = [c0, c1, c2] := by
    match cs, hl with
    | [c0, c1, c2], _ => exact ⟨c0, c1, c2, rfl⟩
  have k0 : DataW.trod enc Try.prog W 0 (fun _ => true) true m 3 [c0] = some y0 := by simpa [cellsIntB] using h0
  obtain ⟨x0, e0, _⟩ := DataW.trod_int Try.underlying3 k0
  obtain rfl : c0 = .int .i64 x0 := by simpa using e0
  have k1 : DataW.trod enc Try.prog W 0 (fun _ => true) true m 3 [c1] = some y1 := by simpa [cellsIntB] using h1
  obtain ⟨x1, e1, _⟩ := DataW.trod_int Try.underlying3 k1
  obtain rfl : c1 = .int .i64 x1 := by simpa using e1
  have k2 : DataW.trod enc Try.prog W 0 (fun _ => true) true m 3 [c2] = some y2 := by simpa [cellsIntB] using h2
  obtain ⟨x2, e2, _⟩ := DataW.trod_int Try.underlying3 k2
  obtain rfl : c2 = .int .i64 x2 := by simpa using e2
  exact ⟨(x0, x1, x2), rfl, trivial⟩
set_option maxRecDepth 100000 in
theorem open_leases {H : Type} {enc : TypeId × Value → H} {W : World} {base : Nat} {v : Value} {d : DataW H} {p : List MemPlace}
    (hv : Value.okWide Try.prog W .any base 63 v) (h : DataW.Trod enc Try.prog W 0 (fun _ => true) true 63 v d p) :
    ∃ A L c, v = .slice A (List.length L) c ∧ RdR 3 fZa W A L ∧ L.length ≤ 9223372036854775807 := by
  obtain ⟨a0, len, cap, rfl⟩ := okWide_slice Try.underlying63 hv
  obtain ⟨fuel, hf⟩ := h
  obtain ⟨A, L, c, e, hA, hl, _⟩ := open_row (by decide) fZa_len Try.underlying63 cellsLsB open_rowLs (show DataW.trod enc Try.prog W 0 (fun _ => true) true fuel 63 [.slice a0 len cap] = some _ from hf)
  exact ⟨A, L, c, e, hA, hl⟩
set_option maxRecDepth 100000 in
theorem open_lease {H : Type} {enc : TypeId × Value → H} {W : World} {base : Nat} {v : Value} {d : DataW H} {p : List MemPlace}
    (hv : Value.okWide Try.prog W .any base 47 v) (h : DataW.Trod enc Try.prog W 0 (fun _ => true) true 47 v d p) :
    ∃ x0 x1 x2 : Int, v = .agg #[.int .i64 x0, .int .i64 x1, .int .i64 x2] ∧ (-9223372036854775808 ≤ x0 ∧ x0 ≤ 9223372036854775807) ∧ (-9223372036854775808 ≤ x1 ∧ x1 ≤ 9223372036854775807) ∧ (-9223372036854775808 ≤ x2 ∧ x2 ≤ 9223372036854775807) := by
  obtain ⟨v0, v1, v2, y0, y1, y2, n, rfl, _, _, h0, h1, h2⟩ := Go.Joins.open_agg3 Try.underlying47 (by kernel_rfl) cellsLsB hv h
  obtain ⟨x0, e0, _, hw0⟩ := DataW.trod_int Try.underlying3 h0
  obtain rfl : v0 = .int .i64 x0 := by simpa using e0
  obtain ⟨x1, e1, _, hw1⟩ := DataW.trod_int Try.underlying3 h1
  obtain rfl : v1 = .int .i64 x1 := by simpa using e1
  obtain ⟨x2, e2, _, hw2⟩ := DataW.trod_int Try.underlying3 h2
  obtain rfl : v2 = .int .i64 x2 := by simpa using e2
  exact ⟨x0, x1, x2, rfl, wf_bothB hw0, wf_bothB hw1, wf_bothB hw2⟩
set_option maxRecDepth 100000 in
theorem open_rowSt {H : Type} {enc : TypeId × Value → H} {W : World} (n : Nat) (cs : List Value) (y : DataW H × List MemPlace) (hl : cs.length = 4) (h : DataW.trod enc Try.prog W 0 (fun _ => true) true n 50 cs = some y) :
    ∃ p : Zpc, cs = fZp p ∧ True := by
  obtain ⟨y0, y1, y2, y3, m, _, _, h0, h1, h2, h3⟩ := Go.Joins.trod_struct4 Try.underlying50 h
  obtain ⟨c0, c1, c2, c3, rfl⟩ : ∃ c0 c1 c2 c3, cs = [c0, c1, c2, c3] := by
    match cs, hl with
    | [c0, c1, c2, c3], _ => exact ⟨c0, c1, c2, c3, rfl⟩
  have k0 : DataW.trod enc Try.prog W 0 (fun _ => true) true m 3 [c0] = some y0 := by simpa [cellsIntB] using h0
  obtain ⟨x0, e0, _⟩ := DataW.trod_int Try.underlying3 k0
  obtain rfl : c0 = .int .i64 x0 := by simpa using e0
  have k1 : DataW.trod enc Try.prog W 0 (fun _ => true) true m 3 [c1] = some y1 := by simpa [cellsIntB] using h1
  obtain ⟨x1, e1, _⟩ := DataW.trod_int Try.underlying3 k1
  obtain rfl : c1 = .int .i64 x1 := by simpa using e1
  have k2 : DataW.trod enc Try.prog W 0 (fun _ => true) true m 3 [c2] = some y2 := by simpa [cellsIntB] using h2
  obtain ⟨x2, e2, _⟩ := DataW.trod_int Try.underlying3 k2
  obtain rfl : c2 = .int .i64 x2 := by simpa using e2
  have k3 : DataW.trod enc Try.prog W 0 (fun _ => true) true m 3 [c3] = some y3 := by simpa [cellsIntB] using h3
  obtain ⟨x3, e3, _⟩ := DataW.trod_int Try.underlying3 k3
  obtain rfl : c3 = .int .i64 x3 := by simpa using e3
  exact ⟨(x0, x1, x2, x3), rfl, trivial⟩
set_option maxRecDepth 100000 in
theorem open_leasesteps {H : Type} {enc : TypeId × Value → H} {W : World} {base : Nat} {v : Value} {d : DataW H} {p : List MemPlace}
    (hv : Value.okWide Try.prog W .any base 54 v) (h : DataW.Trod enc Try.prog W 0 (fun _ => true) true 54 v d p) :
    ∃ A L c, v = .slice A (List.length L) c ∧ RdR 4 fZp W A L ∧ L.length ≤ 9223372036854775807 := by
  obtain ⟨a0, len, cap, rfl⟩ := okWide_slice Try.underlying54 hv
  obtain ⟨fuel, hf⟩ := h
  obtain ⟨A, L, c, e, hA, hl, _⟩ := open_row (by decide) fZp_len Try.underlying54 cellsStB open_rowSt (show DataW.trod enc Try.prog W 0 (fun _ => true) true fuel 54 [.slice a0 len cap] = some _ from hf)
  exact ⟨A, L, c, e, hA, hl⟩
set_option maxRecDepth 100000 in
theorem open_leasestep {H : Type} {enc : TypeId × Value → H} {W : World} {base : Nat} {v : Value} {d : DataW H} {p : List MemPlace}
    (hv : Value.okWide Try.prog W .any base 50 v) (h : DataW.Trod enc Try.prog W 0 (fun _ => true) true 50 v d p) :
    ∃ x0 x1 x2 x3 : Int, v = .agg #[.int .i64 x0, .int .i64 x1, .int .i64 x2, .int .i64 x3] ∧ (-9223372036854775808 ≤ x0 ∧ x0 ≤ 9223372036854775807) ∧ (-9223372036854775808 ≤ x1 ∧ x1 ≤ 9223372036854775807) ∧ (-9223372036854775808 ≤ x2 ∧ x2 ≤ 9223372036854775807) ∧ (-9223372036854775808 ≤ x3 ∧ x3 ≤ 9223372036854775807) := by
  obtain ⟨v0, v1, v2, v3, y0, y1, y2, y3, n, rfl, _, _, h0, h1, h2, h3⟩ := Go.Joins.open_agg4 Try.underlying50 (by kernel_rfl) cellsStB hv h
  obtain ⟨x0, e0, _, hw0⟩ := DataW.trod_int Try.underlying3 h0
  obtain rfl : v0 = .int .i64 x0 := by simpa using e0
  obtain ⟨x1, e1, _, hw1⟩ := DataW.trod_int Try.underlying3 h1
  obtain rfl : v1 = .int .i64 x1 := by simpa using e1
  obtain ⟨x2, e2, _, hw2⟩ := DataW.trod_int Try.underlying3 h2
  obtain rfl : v2 = .int .i64 x2 := by simpa using e2
  obtain ⟨x3, e3, _, hw3⟩ := DataW.trod_int Try.underlying3 h3
  obtain rfl : v3 = .int .i64 x3 := by simpa using e3
  exact ⟨x0, x1, x2, x3, rfl, wf_bothB hw0, wf_bothB hw1, wf_bothB hw2, wf_bothB hw3⟩
end Go.Proofs.Ythmnenejfonfgaa
