/-
  The model of chapter 11: GoodGiver, l11Step, NewGiver, LostIn, RoomIn.
-/
import Derived.Test.YtgakklanboabjaaGV
namespace Go.Proofs.Ytgakklanboabjaa
open Go.RowKit

/-- An allocator of numbers is good: next n, asked a, sure s, given zs. -/
def goodGB (n a s : Int) (zs : List Int) : Bool := inB a 0 1000 && (inB s 0 a && (decide (a ≤ s + 4) && (inB n 1 (s + 1) && (risB 1 n zs && decide ((zs.length : Int) ≤ 60)))))
theorem inB_and {n lo hi : Int} (h : inB n lo hi = true) : lo ≤ n ∧ n ≤ hi := by simpa [inB] using h
theorem gvr_ok {n a s : Int} {zs : List Int} (h : goodGB n a s zs = true) : (0 ≤ a ∧ a ≤ 1000) ∧ (0 ≤ s ∧ s ≤ a) ∧ a ≤ s + 4 ∧ (1 ≤ n ∧ n ≤ s + 1) ∧ risB 1 n zs = true ∧ zs.length ≤ 60 := by
  simp only [goodGB, Bool.and_eq_true, decide_eq_true_eq] at h
  exact ⟨inB_and h.1, inB_and h.2.1, h.2.2.1, inB_and h.2.2.2.1, h.2.2.2.2.1, by have := h.2.2.2.2.2; omega⟩
theorem gvr_mk {n a s : Int} {zs : List Int} (h1 : 0 ≤ a) (h2 : a ≤ 1000) (h3 : 0 ≤ s) (h4 : s ≤ a) (h5 : a ≤ s + 4) (h6 : 1 ≤ n) (h7 : n ≤ s + 1) (h8 : risB 1 n zs = true) (h9 : zs.length ≤ 60) : goodGB n a s zs = true := by
  simp only [goodGB, Bool.and_eq_true, decide_eq_true_eq]
  exact ⟨inB_true h1 h2, inB_true h3 h4, h5, inB_true h6 h7, h8, by omega⟩
theorem risB_up {c d : Int} (hcd : c ≤ d) : ∀ {zs : List Int} {l : Int}, risB l c zs = true → risB l d zs = true
  | [], _, _ => rfl
  | k :: r, l, h => by
    rw [risB] at h ⊢
    split at h
    · cases h
    · rename_i hk
      rw [if_neg (by omega)]
      exact risB_up hcd h
theorem risB_push {c : Int} : ∀ {zs : List Int} {l : Int}, risB l c zs = true → l ≤ c → risB l (c + 1) (zs ++ [c]) = true
  | [], l, _, hl => by
    show risB l (c + 1) [c] = true
    rw [risB, if_neg (by omega)]; rfl
  | k :: r, l, h, _ => by
    show risB l (c + 1) (k :: (r ++ [c])) = true
    rw [risB] at h ⊢
    split at h
    · cases h
    · rename_i hk
      rw [if_neg (by omega)]
      exact risB_push h (by omega)
/-- A step: the allocator after it, and whether it was performed. -/
def giveB (n s : Int) (zs : List Int) (k : Int) (p : Bool) : Bool := decide (k = 1) && (!p && (decide (n ≤ s) && decide ((zs.length : Int) < 60)))
def syncB (k : Int) (p : Bool) : Bool := decide (k = 2) && !p
def stN (n a s : Int) (zs : List Int) (k : Int) (p : Bool) : Int := if giveB n s zs k p = true then n + 1 else if syncB k p = true then n else if k = 3 then (if p = true then a else s) + 1 else n
def stA (n a s : Int) (zs : List Int) (k : Int) (p : Bool) : Int := if giveB n s zs k p = true then a else if syncB k p = true then min 1000 (a + 4) else if k = 3 then min 1000 ((if p = true then a else s) + 4) else a
def stS (n a s : Int) (zs : List Int) (k : Int) (p : Bool) : Int := if giveB n s zs k p = true then s else if syncB k p = true then a else if k = 3 then (if p = true then a else s) else s
def stZ (n s : Int) (zs : List Int) (k : Int) (p : Bool) : List Int := if giveB n s zs k p = true then zs ++ [n] else zs
def stOkB (n s : Int) (zs : List Int) (k : Int) (p : Bool) : Bool := giveB n s zs k p || (syncB k p || decide (k = 3))
theorem st_give {n a s : Int} {zs : List Int} {k : Int} {p : Bool} (h : giveB n s zs k p = true) : stN n a s zs k p = n + 1 ∧ stA n a s zs k p = a ∧ stS n a s zs k p = s ∧ stZ n s zs k p = zs ++ [n] ∧ stOkB n s zs k p = true := by
  simp [stN, stA, stS, stZ, stOkB, h]
theorem st_sync {n a s : Int} {zs : List Int} {k : Int} {p : Bool} (h : syncB k p = true) : stN n a s zs k p = n ∧ stA n a s zs k p = min 1000 (a + 4) ∧ stS n a s zs k p = a ∧ stZ n s zs k p = zs ∧ stOkB n s zs k p = true := by
  have hk : k = 2 := by simp [syncB] at h; exact h.1
  have hg : giveB n s zs k p = false := by simp [giveB, hk]
  simp [stN, stA, stS, stZ, stOkB, h, hg]
theorem st_crash (n a s : Int) (zs : List Int) (p : Bool) : stN n a s zs 3 p = (if p = true then a else s) + 1 ∧ stA n a s zs 3 p = min 1000 ((if p = true then a else s) + 4) ∧ stS n a s zs 3 p = (if p = true then a else s) ∧ stZ n s zs 3 p = zs ∧ stOkB n s zs 3 p = true := by
  simp [stN, stA, stS, stZ, stOkB, syncB, giveB]
theorem st_crashF (n a s : Int) (zs : List Int) : stN n a s zs 3 false = s + 1 ∧ stA n a s zs 3 false = min 1000 (s + 4) ∧ stS n a s zs 3 false = s ∧ stZ n s zs 3 false = zs ∧ stOkB n s zs 3 false = true := st_crash n a s zs false
theorem st_crashT (n a s : Int) (zs : List Int) : stN n a s zs 3 true = a + 1 ∧ stA n a s zs 3 true = min 1000 (a + 4) ∧ stS n a s zs 3 true = a ∧ stZ n s zs 3 true = zs ∧ stOkB n s zs 3 true = true := st_crash n a s zs true
theorem st_none {n a s : Int} {zs : List Int} {k : Int} {p : Bool} (h1 : giveB n s zs k p = false) (h2 : syncB k p = false) (h3 : ¬ k = 3) : stN n a s zs k p = n ∧ stA n a s zs k p = a ∧ stS n a s zs k p = s ∧ stZ n s zs k p = zs ∧ stOkB n s zs k p = false := by
  simp [stN, stA, stS, stZ, stOkB, h1, h2, h3]
theorem giveB_and {n s : Int} {zs : List Int} {k : Int} {p : Bool} (h : giveB n s zs k p = true) : k = 1 ∧ p = false ∧ n ≤ s ∧ zs.length < 60 := by
  simp only [giveB, Bool.and_eq_true, decide_eq_true_eq, Bool.not_eq_true'] at h
  exact ⟨h.1, h.2.1, h.2.2.1, by have := h.2.2.2; omega⟩
theorem syncB_and {k : Int} {p : Bool} (h : syncB k p = true) : k = 2 ∧ p = false := by
  simpa [syncB] using h
/-- A step leads from good allocators to good ones. -/
theorem st_good {n a s : Int} {zs : List Int} (k : Int) (p : Bool) (h : goodGB n a s zs = true) : goodGB (stN n a s zs k p) (stA n a s zs k p) (stS n a s zs k p) (stZ n s zs k p) = true := by
  obtain ⟨⟨h1, h2⟩, ⟨h3, h4⟩, h5, ⟨h6, h7⟩, h8, h9⟩ := gvr_ok h
  cases hg : giveB n s zs k p
  · cases hs : syncB k p
    · by_cases hk : k = 3
      · subst hk
        obtain ⟨e1, e2, e3, e4, -⟩ := st_crash n a s zs p
        rw [e1, e2, e3, e4]
        cases p
        · simp only [Bool.false_eq_true, if_false]
          exact gvr_mk (by omega) (by omega) h3 (by omega) (by omega) (by omega) (by omega) (risB_up h7 h8) h9
        · simp only [if_true]
          exact gvr_mk (by omega) (by omega) h1 (by omega) (by omega) (by omega) (by omega) (risB_up (by omega) h8) h9
      · obtain ⟨e1, e2, e3, e4, -⟩ := st_none (a := a) hg hs hk
        rw [e1, e2, e3, e4]; exact h
    · obtain ⟨e1, e2, e3, e4, -⟩ := st_sync (n := n) (a := a) (s := s) (zs := zs) hs
      rw [e1, e2, e3, e4]
      exact gvr_mk (by omega) (by omega) h1 (by omega) (by omega) h6 (by omega) h8 h9
  · obtain ⟨e1, e2, e3, e4, -⟩ := st_give (a := a) hg
    obtain ⟨-, -, g3, g4⟩ := giveB_and hg
    rw [e1, e2, e3, e4]
    exact gvr_mk h1 h2 h3 h4 h5 (by omega) (by omega) (risB_push h8 h6) (by simp; omega)
theorem rd_own {w : World} {base : Nat} {v : Value} {zs : List Int} (h : Own w base v zs) : OwnR 3 1 fI1 w base v zs := by
  show w.ownsRow base 3 1 v zs.length (zs.flatMap fI1)
  rw [fI1_map]
  exact h
/-- One number appended to a slice of the call's own; where the slice then lies. -/
theorem app_IL {ops : Array Oper} {rest : List Oper} {o : Oper} {a : Act} {Q : Exit → Act → World → Prop} (W : World) (base : Nat) (v : Value) (L : List Int) (z : Int) (Bn : Nat) (hBn : Bn = W.heap.size) (hgd : o.guard = none) (s x : Operand)
    (ho : o.op = .call { callee := .builtin .append, args := #[s, x], argTypes := #[81, 81] }) (hs : a.eval s = v) (hx : a.eval x = .slice (some ⟨Bn, 0, none⟩) 1 1)
    (hown : Own W base v L) (hbase : base ≤ W.heap.size) (hlen : L.length ≤ 2000000) (w0 : World) (hb : Below base w0 W)
    (h : ∀ v' w', Hid (Own w' base v' (L ++ [z]) ∧ Below base w0 w' ∧ (W.alloc (.cells #[.int .i64 z] 3)).grownBy w' v.ownBlock ∧ (v'.ownBlock = v.ownBlock ∨ v'.ownBlock = some (W.heap.size + 1))) → wpList Try.prog ops Q rest (a.put o.dst v') w') :
    wpList Try.prog ops Q (o :: rest) a (W.alloc (.cells #[.int .i64 z] 3)) := by
  obtain ⟨i0, hi, hz0, hz1, hz2⟩ := info_parts intI9
  exact app_rowL fI1_len (by decide) fI1_one Try.underlying81 hi hz0 hz1 hz2 rfl (by decide) W base v L z Bn hBn hgd s x ho hs hx (rd_own hown) hbase hlen w0 hb (fun v' w' H => h v' w' ⟨own_rd H.out.1, H.out.2⟩)

theorem grown_set {w V : World} {row : Option Nat} (h : w.grownBy V row) {X : Nat} (hX : w.heap.size ≤ X) (j : Nat) (u : Value) : w.grownBy (V.setCell ⟨X, j, none⟩ u) row :=
  ⟨h.os, h.tape, h.output, by simpa using h.size, fun k hk hne => (heap_setCell_other V ⟨X, j, none⟩ k u (by show k ≠ X; omega)).trans (h.block k hk hne)⟩
/-- What LostIn and RoomIn answer. -/
def loI (n a s : Int) (zs : List Int) : Int := if goodGB n a s zs = true then n - 1 - (zs.length : Int) else 0
def roI11 (n a s : Int) (zs : List Int) : Int := if goodGB n a s zs = true then min (60 - (zs.length : Int)) (s + 1 - n) else 0
end Go.Proofs.Ytgakklanboabjaa
