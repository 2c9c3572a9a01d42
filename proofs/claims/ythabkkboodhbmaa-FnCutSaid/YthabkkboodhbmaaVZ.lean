/-
  Laws of chapter 4 over the program's own contracts: all but FnCut.
-/
import Derived.Test.YthabkkboodhbmaaVM
import Derived.Test.YthabkkboodhbmaaIB
namespace Go.Proofs.Ythabkkboodhbmaa
open Go.RowKit

theorem anyK : Stays fun _ => True := fun _ _ _ _ => trivial
theorem dPart (p b : Int) (w : World) : Calls Try.prog 5 #[.int .i64 p, .int .i64 b] w fun e w' => e = .returned (.bool true) ∧ Below w.heap.size w w' :=
  partOf_law (K := fun _ => True) (fun p b w _ => iPart_any p b w) p b w trivial
theorem iBlocks_below (n : Int) (w : World) : Calls Try.prog 17 #[.int .i64 n] w fun e w' => e = .returned (.tuple #[.int .i64 (blocksI n), .bool (longOkB n)]) ∧ Below w.heap.size w w' :=
  (iBlocks_any n w).mono (by rintro e w' ⟨he, rfl⟩; exact ⟨he, Below.refl _ _⟩)
theorem dBlocks (n : Int) (w : World) : Calls Try.prog 10 #[.int .i64 n] w fun e w' => e = .returned (.bool true) ∧ Below w.heap.size w w' :=
  blocksFor_law (K := fun _ => True) (fun n w _ => iBlocks_below n w) n w trivial
theorem dPieceAt (s : ByteArray) (k : Int) (w : World) : Calls Try.prog 11 #[.string s, .int .i64 k] w fun e w' => e = .returned (.bool true) ∧ Below w.heap.size w w' :=
  pieceAt_law anyK (fun s k w _ _ => iPieceAt_any s k w) s k w trivial
theorem dText (A : Option Addr) (zs : List Int) (ca : Nat) (n : Int) (w : World) (ha : Ints w A zs) : Calls Try.prog 7 #[.slice A zs.length ca, .int .i64 n] w fun e w' => e = .returned (.bool true) ∧ Below w.heap.size w w' :=
  textOf_law anyK (fun A zs ca n w _ h hl _ => iTextOf_any A zs ca n w h hl) A zs ca n w trivial ha
theorem dPieces (s : ByteArray) (w : World) : Calls Try.prog 6 #[.string s] w fun e w' => e = .returned (.bool true) ∧ Below w.heap.size w w' :=
  piecesOf_law anyK (fun s w _ _ => iPiecesOf_any s w) s w trivial
theorem dCut (s : ByteArray) (w : World) : Calls Try.prog 8 #[.string s] w fun e w' => e = .returned (.bool true) ∧ Below w.heap.size w w' :=
  cutThing_law anyK (fun s w _ _ => iCutThing_any s w) s w trivial
theorem dGlue (A : Option Addr) (bs : List (Int × List Int)) (ca : Nat) (w : World) (ha : Blks w A bs) (hlm : bs.length ≤ 9223372036854775807) (hzm : ∀ p ∈ bs, p.2.length ≤ 9223372036854775807) :
    Calls Try.prog 9 #[.slice A bs.length ca] w fun e w' => e = .returned (.bool true) ∧ Below w.heap.size w w' :=
  glueThing_law anyK (fun A bs ca w _ h _ hz => iGlue_any A bs ca w h hz) A bs ca w trivial ha hlm hzm
theorem dFnPieces (A : Option Addr) (za : List Int) (ca : Nat) (B : Option Addr) (zb : List Int) (cb : Nat) (w : World) (ha : Byts w w.heap.size A za) (hb : Byts w w.heap.size B zb) (hla : za.length ≤ 140737488355328) (hlb : zb.length ≤ 140737488355328) :
    Calls Try.prog 4 #[.slice A za.length ca, .slice B zb.length cb] w fun e w' => e = .returned (.bool true) ∧ Below w.heap.size w w' :=
  fnPieces_law anyK (fun p b w _ => iPart_any p b w) (fun s w _ _ => iPiecesOf_any s w) (fun A zs ca n w _ h hl _ => iTextOf_any A zs ca n w h hl) (fun s k w _ _ => iPieceAt_any s k w) B zb cb A za ca w trivial ha hb hla hlb
end Go.Proofs.Ythabkkboodhbmaa
