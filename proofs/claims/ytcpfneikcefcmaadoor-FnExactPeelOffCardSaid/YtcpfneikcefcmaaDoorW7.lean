/-
  The law of RowOf, walked: it returns true, and turns nothing that lay in memory.
-/
import Derived.Test.YtcpfneikcefcmaaDoorW6
namespace Go.Proofs.YtcpfneikcefcmaaDoor
open Go.RowKit

def rowI (x : Int) (zs : List Int) : Int := if rowOkB x zs = true then (rowL zs : Nat) else 0

theorem iRow_any (x : Int) (A : Option Addr) (zs : List Int) (ca : Nat) (w : World) (ht : Tab w) (ha : Ints w A zs) (hl : zs.length ≤ 1048576) :
    Calls Tryd.prog 69 #[.int .i64 x, .slice A zs.length ca] w fun e w' => e = .returned (.tuple #[.int .i64 (rowI x zs), .bool (rowOkB x zs)]) ∧ w = w' := by
  cases h : rowOkB x zs
  · refine (iRow_no x A zs ca w ha hl h).mono ?_
    rintro e w' ⟨rfl, rfl⟩
    exact ⟨tup (by simp [rowI, h]), rfl⟩
  · obtain ⟨m, rfl, h1, h2, h3, h4⟩ := rowOk_true h
    refine (iRow_ok m A zs ca w ht ha hl h2 h3 h4).mono ?_
    rintro e w' ⟨rfl, rfl⟩
    exact ⟨tup (by simp [rowI, h]), rfl⟩
end Go.Proofs.YtcpfneikcefcmaaDoor
