/-
  Laws of chapter 5 over the program's own contracts: DegreeOf, PartsOf, LetterFor, FnParts.
-/
import Derived.Test.YtchpcbbnnbaiaaaDoorVQ
import Derived.Test.YtchpcbbnnbaiaaaDoorEA
namespace Go.Proofs.YtchpcbbnnbaiaaaDoor
open Go.RowKit

theorem tabStays : Stays5 Tab := fun _ _ h hb => h.below hb
theorem iDegree_below (p b : Int) (w : World) : Calls Tryd.prog 16 #[.int .i64 p, .int .i64 b] w fun e w' => e = .returned (.tuple #[.int .i64 (degI p b), .bool (symOkB p b)]) ∧ Below w.heap.size w w' :=
  (iDegree_any p b w).mono fun _ _ ⟨h1, h2⟩ => ⟨h1, by subst h2; exact Below.refl _ _⟩
theorem dParts (p b : Int) (w : World) (ht : Tab w) : Calls Tryd.prog 3 #[.int .i64 p, .int .i64 b] w fun e w' => e = .returned (.bool true) ∧ Below w.heap.size w w' :=
  partsOf_law tabStays iParts_any p b w ht
theorem dLetter (A : Option Addr) (zs : List Int) (ca : Nat) (n : Int) (w : World) (ht : Tab w) (ha : Ints w A zs) : Calls Tryd.prog 4 #[.slice A zs.length ca, .int .i64 n] w fun e w' => e = .returned (.bool true) ∧ Below w.heap.size w w' :=
  letterFor_law tabStays (fun A zs ca n w ht ha hl _ => iLetter_any A zs ca n w ht ha hl) A zs ca n w ht ha
theorem dFnParts (A : Option Addr) (za : List Int) (ca : Nat) (B : Option Addr) (zb : List Int) (cb : Nat) (w : World) (ht : Tab w) (ha : Byts w w.heap.size A za) (hb : Byts w w.heap.size B zb) (hla : za.length ≤ 140737488355328) (hlb : zb.length ≤ 140737488355328) :
    Calls Tryd.prog 5 #[.slice A za.length ca, .slice B zb.length cb] w fun e w' => e = .returned (.bool true) ∧ Below w.heap.size w w' :=
  fnParts_law tabStays iParts_any (fun p b w _ => iDegree_below p b w) (fun A zs ca n w ht ha hl _ => iLetter_any A zs ca n w ht ha hl) (fun n A zs ca w ht ha hl _ => iEnough_any n A zs ca w ht ha hl) A za ca B zb cb w ht ha hb hla hlb
end Go.Proofs.YtchpcbbnnbaiaaaDoor
