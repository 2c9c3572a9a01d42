/-
  Laws of chapter 8 over the program's own contracts: MixBy, UnmixBy, PlaceOf, LossesIn, SpreadOf, ParityFor, MendLines.
-/
import Derived.Test.YtipcdaiobfgkeaaVX
import Derived.Test.YtipcdaiobfgkeaaVY
import Derived.Test.YtipcdaiobfgkeaaER
namespace Go.Proofs.Ytipcdaiobfgkeaa
open Go.RowKit

theorem anyStaysD : Stays5 (fun _ => True) := fun _ _ _ _ => trivial
theorem quiet_belowD {P : Program} {f : FuncId} {args : Array Value} {w : World} {v : Value} (h : Calls P f args w fun e w' => e = .returned v ∧ w = w') : Calls P f args w fun e w' => e = .returned v ∧ Below w.heap.size w w' :=
  h.mono fun _ _ ⟨he, hw⟩ => ⟨he, hw ▸ Below.refl _ _⟩
theorem dMix8 (A : Option Addr) (zs : List Int) (ca : Nat) (n : Int) (w : World) (ha : Ints w A zs) : Calls Try.prog 5 #[.slice A zs.length ca, .int .i64 n] w fun e w' => e = .returned (.bool true) ∧ Below w.heap.size w w' :=
  mixBy_law anyStaysD (fun A zs ca n w _ ha hl _ => iMixBy_any A zs ca n w ha hl) A zs ca n w trivial ha
theorem dUnmix8 (A : Option Addr) (zs : List Int) (ca : Nat) (n : Int) (w : World) (ha : Ints w A zs) : Calls Try.prog 6 #[.slice A zs.length ca, .int .i64 n] w fun e w' => e = .returned (.bool true) ∧ Below w.heap.size w w' :=
  unmixBy_law anyStaysD (fun A zs ca n w _ ha hl _ => iUnmixBy_any A zs ca n w ha hl) A zs ca n w trivial ha
theorem dParity8 (A : Option Addr) (zs : List Int) (ca : Nat) (n : Int) (w : World) (ha : Ints w A zs) : Calls Try.prog 10 #[.slice A zs.length ca, .int .i64 n] w fun e w' => e = .returned (.bool true) ∧ Below w.heap.size w w' :=
  parityFor_law anyStaysD (fun A zs ca n w _ ha hl _ => iParity_any A zs ca n w ha hl) A zs ca n w trivial ha
theorem dPlace8 (a n k : Int) (w : World) : Calls Try.prog 7 #[.int .i64 a, .int .i64 n, .int .i64 k] w fun e w' => e = .returned (.bool true) ∧ Below w.heap.size w w' :=
  placeOf_law anyStaysD (fun a n k w _ => quiet_belowD (iPlaceOf_any a n k w)) a n k w trivial
theorem dSpread8 (a n : Int) (w : World) : Calls Try.prog 9 #[.int .i64 a, .int .i64 n] w fun e w' => e = .returned (.bool true) ∧ Below w.heap.size w w' :=
  spreadOf_law anyStaysD (fun a n w _ => quiet_belowD (iSpread_any a n w)) a n w trivial
theorem dLosses8 (a n f mn : Int) (w : World) (hf : (Lit.int .i64 f).wf = true) : Calls Try.prog 8 #[.int .i64 a, .int .i64 n, .int .i64 f, .int .i64 mn] w fun e w' => e = .returned (.bool true) ∧ Below w.heap.size w w' :=
  lossesIn_law anyStaysD (fun a n f mn w hf _ => iLosses_any a n f mn w hf) a n f mn w (by
    simp [Lit.wf, IntKind.min, IntKind.max, IntKind.signed, IntKind.bits] at hf
    omega) trivial
theorem dMend8 (A : Option Addr) (zs : List Int) (ca : Nat) (n : Int) (B : Option Addr) (ps : List Int) (cb : Nat) (C : Option Addr) (ks : List Int) (cc : Nat) (w : World) (ha : Ints w A zs) (hb : Ints w B ps) (hc : Ints w C ks) :
    Calls Try.prog 11 #[.slice A zs.length ca, .int .i64 n, .slice B ps.length cb, .slice C ks.length cc] w fun e w' => e = .returned (.bool true) ∧ Below w.heap.size w w' :=
  mendLines_law anyStaysD (fun A B C zs ps ks ca cb cc n w _ ha hb hc hA _ _ hl hl2 hl3 _ _ _ => iMend_any A B C zs ps ks ca cb cc n w ha hb hc hA hl hl2 hl3) A zs ca n B ps cb C ks cc w trivial ha hb hc
end Go.Proofs.Ytipcdaiobfgkeaa
