/-
  What reduced makes of a ladder.
-/
import Derived.Test.YtgakklanboabjaaS2
import Derived.Deep.LoopGhost
import Derived.Deep.RegionWith
namespace Go.Proofs.Ytgakklanboabjaa
open Go.RowKit

def lad0 : Lad := List.replicate 16 (0, 0)

theorem steps_small {rows : List Nat} {n : Nat} {L : Lad} (h : LadB rows n L) (hn : n ≤ 20) (t : Nat) : (lat L t).1 < 65536 ∧ (lat L t).2 < 1048576 :=
  ⟨h.small t, Nat.lt_of_lt_of_le (h.fits t).lt (Nat.le_trans (Nat.pow_le_pow_right (by decide) hn) (by decide))⟩

end Go.Proofs.Ytgakklanboabjaa
