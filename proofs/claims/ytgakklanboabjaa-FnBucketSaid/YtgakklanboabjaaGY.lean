/-
  The model of chapter 11: PlayGiver.
-/
import Derived.Test.YtgakklanboabjaaGX
namespace Go.Proofs.Ytgakklanboabjaa
open Go.RowKit

abbrev fB1 (b : Bool) : List Value := [.bool b]
theorem fB1_len : ∀ x, (fB1 x).length = 1 := fun _ => rfl
theorem fB1_one : ∀ x, ∀ u ∈ fB1 x, u.oneCell' = true := fun x u hu => by simp at hu; subst hu; rfl
theorem fB1_map (bs : List Bool) : bs.flatMap fB1 = bs.map Value.bool := by
  induction bs with
  | nil => rfl
  | cons x L ih => rw [List.flatMap_cons, ih]; rfl
theorem bo_own {w : World} {base : Nat} {v : Value} {bs : List Bool} (h : OwnR 4 1 fB1 w base v bs) : OwnT w base v bs := by
  have h' : w.ownsRow base 4 1 v bs.length (bs.flatMap fB1) := h
  rw [fB1_map] at h'
  exact h'
theorem own_bo {w : World} {base : Nat} {v : Value} {bs : List Bool} (h : OwnT w base v bs) : OwnR 4 1 fB1 w base v bs := by
  show w.ownsRow base 4 1 v bs.length (bs.flatMap fB1)
  rw [fB1_map]
  exact h
theorem boI9 : (Try.prog.info? 4).map (fun i => (i.zero, i.size, i.bytes)) = some (some (.bool false), 1, 1) := by kernel_rfl
/-- One truth value appended to a slice of the call's own; where the slice then lies. -/
theorem app_BL {ops : Array Oper} {rest : List Oper} {o : Oper} {a : Act} {Q : Exit → Act → World → Prop} (W : World) (base : Nat) (v : Value) (L : List Bool) (z : Bool) (Bn : Nat) (hBn : Bn = W.heap.size) (hgd : o.guard = none) (s x : Operand)
    (ho : o.op = .call { callee := .builtin .append, args := #[s, x], argTypes := #[28, 28] }) (hs : a.eval s = v) (hx : a.eval x = .slice (some ⟨Bn, 0, none⟩) 1 1)
    (hown : OwnT W base v L) (hbase : base ≤ W.heap.size) (hlen : L.length ≤ 2000000) (w0 : World) (hb : Below base w0 W)
    (h : ∀ v' w', Hid (OwnT w' base v' (L ++ [z]) ∧ Below base w0 w' ∧ (W.alloc (.cells #[.bool z] 4)).grownBy w' v.ownBlock ∧ (v'.ownBlock = v.ownBlock ∨ v'.ownBlock = some (W.heap.size + 1))) → wpList Try.prog ops Q rest (a.put o.dst v') w') :
    wpList Try.prog ops Q (o :: rest) a (W.alloc (.cells #[.bool z] 4)) := by
  obtain ⟨i0, hi, hz0, hz1, hz2⟩ := info_parts boI9
  exact app_rowL fB1_len (by decide) fB1_one Try.underlying28 hi hz0 hz1 hz2 rfl (by decide) W base v L z Bn hBn hgd s x ho hs hx (own_bo hown) hbase hlen w0 hb (fun v' w' H => h v' w' ⟨bo_own H.out.1, H.out.2⟩)

/-- An allocator: next, asked, sure, given. -/
abbrev Gvr := Int × Int × Int × List Int
def stG (g : Gvr) (x : Idc) : Gvr := (stN g.1 g.2.1 g.2.2.1 g.2.2.2 x.1 x.2, stA g.1 g.2.1 g.2.2.1 g.2.2.2 x.1 x.2, stS g.1 g.2.1 g.2.2.1 g.2.2.2 x.1 x.2, stZ g.1 g.2.2.1 g.2.2.2 x.1 x.2)
def stGok (g : Gvr) (x : Idc) : Bool := stOkB g.1 g.2.2.1 g.2.2.2 x.1 x.2
def goodG (g : Gvr) : Bool := goodGB g.1 g.2.1 g.2.2.1 g.2.2.2
theorem stG_good {g : Gvr} (x : Idc) (h : goodG g = true) : goodG (stG g x) = true := st_good x.1 x.2 h
theorem stG_no {g : Gvr} {x : Idc} (h : stGok g x = false) : stG g x = g := by
  obtain ⟨n, a, s, zs⟩ := g
  simp only [stGok, stOkB, Bool.or_eq_false_iff, decide_eq_false_iff_not] at h
  obtain ⟨e1, e2, e3, e4, -⟩ := st_none (n := n) (a := a) (s := s) (zs := zs) h.1 h.2.1 h.2.2
  simp only [stG, e1, e2, e3, e4]
def pgG (l : List Idc) : Gvr := l.foldl stG (1, 4, 0, [])
def pgD (g : Gvr) : List Idc → List Bool
  | [] => []
  | x :: r => stGok g x :: pgD (stG g x) r
theorem pgG_snoc {l : List Idc} {j : Nat} (hj : j < l.length) : pgG (l.take (j + 1)) = stG (pgG (l.take j)) l[j] := by
  rw [pgG, List.take_succ_eq_append_getElem hj, List.foldl_append]; rfl
theorem pgD_app (x : Idc) : ∀ (L : List Idc) (g : Gvr), pgD g (L ++ [x]) = pgD g L ++ [stGok (L.foldl stG g) x]
  | [], _ => rfl
  | y :: L, g => by
    show stGok g y :: pgD (stG g y) (L ++ [x]) = _
    rw [pgD_app x L]; rfl
theorem pgD_snoc {l : List Idc} {j : Nat} (hj : j < l.length) : pgD (1, 4, 0, []) (l.take (j + 1)) = pgD (1, 4, 0, []) (l.take j) ++ [stGok (pgG (l.take j)) l[j]] := by
  rw [List.take_succ_eq_append_getElem hj, pgD_app]; rfl
theorem pgD_len : ∀ (L : List Idc) (g : Gvr), (pgD g L).length = L.length
  | [], _ => rfl
  | x :: L, g => by rw [pgD, List.length_cons, pgD_len L, List.length_cons]
theorem fold_good : ∀ (L : List Idc) (g : Gvr), goodG g = true → goodG (L.foldl stG g) = true
  | [], _, h => h
  | x :: L, g, h => fold_good L (stG g x) (stG_good x h)
theorem pg_good (L : List Idc) : goodG (pgG L) = true := fold_good L _ (by decide)
/-- What PlayGiver answers. -/
def pyG (l : List Idc) : Gvr := if l.length ≤ 40 then pgG l else (0, 0, 0, [])
def pyD (l : List Idc) : List Bool := if l.length ≤ 40 then pgD (1, 4, 0, []) l else []

end Go.Proofs.Ytgakklanboabjaa
