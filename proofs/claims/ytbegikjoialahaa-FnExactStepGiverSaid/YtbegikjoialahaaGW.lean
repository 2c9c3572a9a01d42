/-
  The model of chapter 11: GoodGiver, l11Step, NewGiver, LostIn, RoomIn.
-/
import Derived.Test.YtbegikjoialahaaGV
namespace Go.Proofs.Ytbegikjoialahaa
open Go.RowKit

/-- An allocator of numbers is good: next n, asked a, sure s, given zs. -/
def goodGB (n a s : Int) (zs : List Int) : Bool := inB a 0 1000 && (inB s 0 a && (decide (a ≤ s + 4) && (inB n 1 (s + 1) && (risB 1 n zs && decide ((zs.length : Int) ≤ 60)))))
theorem inB_and {n lo hi : Int} (h : inB n lo hi = true) : lo ≤ n ∧ n ≤ hi := by simpa [inB] using h
theorem gvr_ok {n a s : Int} {zs : List Int} (h : goodGB n a s zs = true) : (0 ≤ a ∧ a ≤ 1000) ∧ (0 ≤ s ∧ s ≤ a) ∧ a ≤ s + 4 ∧ (1 ≤ n ∧ n ≤ s + 1) ∧ risB 1 n zs = true ∧ zs.length ≤ 60 := by
  simp only [goodGB, Bool.and_eq_true, decide_eq_true_eq] at h
  exact ⟨inB_and h.1, inB_and h.2.1, h.2.2.1, inB_and h.2.2.2.1, h.2.2.2.2.1, by have := h.2.2.2.2.2; omega⟩
theorem gvr_mk {n a s : Int} {zs : List Int} (h1 : 0 ≤ a) (h2 : a ≤ 1000) (h3 : 0 ≤ s) (h4 : s ≤ a) (h5 : a ≤ s + 4) (h6 : 1 ≤ n) (h7 : n ≤ s + 1) (h8 : risB 1 n zs = true) (h9 : zs.length ≤ 60) : goodGB n a s zs = true := by
  simp only [goodGB, Bool.and_eq_true, decide_eq_true_eq]
  exact ⟨inB_true h1 h2, inB_true h3 h4, h5, inB_true h6 h7, h8, by omega⟩
theorem risB_up {c d : Int} (hcd : c ≤ d) : ∀ {zs : List Int} {l : Int}, risB l c zs = true → risB l d zs = true
  | [], _, _ => rfl
  | k :: r, l, h => by
    rw [risB] at h ⊢
    split at h
    · cases h
    · rename_i hk
      rw [if_neg (by omega)]
      exact risB_up hcd h
theorem risB_push {c : Int} : ∀ {zs : List Int} {l : Int}, risB l c zs = true → l ≤ c → risB l (c + 1) (zs ++ [c]) = true
  | [], l, _, hl => by
    show risB l (c + 1) [c] = true
    rw [risB, if_neg (by omega)]; rfl
  | k :: r, l, h, _ => by
    show risB l (c + 1) (k :: (r ++ [c])) = true
    rw [risB] at h ⊢
    split at h
    · cases h
    · rename_i hk
      rw [if_neg (by omega)]
      exact risB_push h (by omega)
/-- A step: the allocator after it, and whether it was performed. -/
def giveB (n s : Int) (zs : List Int) (k : Int) (p : Bool) : Bool := decide (k = 1) && (!p && (decide (n ≤ s) && decide ((zs.length : Int) < 60)))
def syncB (k : Int) (p : Bool) : Bool := decide (k = 2) && !p
def stN (n a s : Int) (zs : List Int) (k : Int) (p : Bool) : Int := if giveB n s zs k p = true then n + 1 else if syncB k p = true then n else if k = 3 then (if p = true then a else s) + 1 else n
def stA (n a s : Int) (zs : List Int) (k : Int) (p : Bool) : Int := if giveB n s zs k p = true then a else if syncB k p = true then min 1000 (a + 4) else if k = 3 then min 1000 ((if p = true then a else s) + 4) else a
def stS (n a s : Int) (zs : List Int) (k : Int) (p : Bool) : Int := if giveB n s zs k p = true then s else if syncB k p = true then a else if k = 3 then (if p = true then a else s) else s
def stZ (n s : Int) (zs : List Int) (k : Int) (p : Bool) : List Int := if giveB n s zs k p = true then zs ++ [n] else zs
def stOkB (n s : Int) (zs : List Int) (k : Int) (p : Bool) : Bool := giveB n s zs k p || (syncB k p || decide (k = 3))
theorem st_give {n a s : Int} {zs : List Int} {k : Int} {p : Bool} (h : giveB n s zs k p = true) : stN n a s zs k p = n + 1 ∧ stA n a s zs k p = a ∧ stS n a s zs k p = s ∧ stZ n s zs k p = zs ++ [n] ∧ stOkB n s zs k p = true := by
  simp [stN, stA, stS, stZ, stOkB, h]
theorem st_sync {n a s : Int} {zs : List Int} {k : Int} {p : Bool} (h : syncB k p = true) : stN n a s zs k p = n ∧ stA n a s zs k p = min 1000 (a + 4) ∧ stS n a s zs k p = a ∧ stZ n s zs k p = zs ∧ stOkB n s zs k p = true := by
  have hk : k = 2 := by simp [syncB] at h; exact h.1
  have hg : giveB n s zs k p = false := by simp [giveB, hk]
  simp [stN, stA, stS, stZ, stOkB, h, hg]
theorem st_crash (n a s : Int) (zs : List Int) (p : Bool) : stN n a s zs 3 p = (if p = true then a else s) + 1 ∧ stA n a s zs 3 p = min 1000 ((if p = true then a else s) + 4) ∧ stS n a s zs 3 p = (if p = true then a else s) ∧ stZ n s zs 3 p = zs ∧ stOkB n s zs 3 p = true := by
  simp [stN, stA, stS, stZ, stOkB, syncB, giveB]
theorem st_crashF (n a s : Int) (zs : List Int) : stN n a s zs 3 false = s + 1 ∧ stA n a s zs 3 false = min 1000 (s + 4) ∧ stS n a s zs 3 false = s ∧ stZ n s zs 3 false = zs ∧ stOkB n s zs 3 false = true := st_crash n a s zs false
theorem st_crashT (n a s : Int) (zs : List Int) : stN n a s zs 3 true = a + 1 ∧ stA n a s zs 3 true = min 1000 (a + 4) ∧ stS n a s zs 3 true = a ∧ stZ n s zs 3 true = zs ∧ stOkB n s zs 3 true = true := st_crash n a s zs true
theorem st_none {n a s : Int} {zs : List Int} {k : Int} {p : Bool} (h1 : giveB n s zs k p = false) (h2 : syncB k p = false) (h3 : ¬ k = 3) : stN n a s zs k p = n ∧ stA n a s zs k p = a ∧ stS n a s zs k p = s ∧ stZ n s zs k p = zs ∧ stOkB n s zs k p = false := by
  simp [stN, stA, stS, stZ, stOkB, h1, h2, h3]
theorem giveB_and {n s : Int} {zs : List Int} {k : Int} {p : Bool} (h : giveB n s zs k p = true) : k = 1 ∧ p = false ∧ n ≤ s ∧ zs.length < 60 := by
  simp only [giveB, Bool.and_eq_true, decide_eq_true_eq, Bool.not_eq_true'] at h
  exact ⟨h.1, h.2.1, h.2.2.1, by have := h.2.2.2; omega⟩
theorem syncB_and {k : Int} {p : Bool} (h : syncB k p = true) : k = 2 ∧ p = false := by
  simpa [syncB] using h
/-- A step leads from good allocators to good ones. -/
theorem st_good {n a s : Int} {zs : List Int} (k : Int) (p : Bool) (h : goodGB n a s zs = true) : goodGB (stN n a s zs k p) (stA n a s zs k p) (stS n a s zs k p) (stZ n s zs k p) = true := by
  obtain ⟨⟨h1, h2⟩, ⟨h3, h4⟩, h5, ⟨h6, h7⟩, h8, h9⟩ := gvr_ok h
  cases hg : giveB n s zs k p
  · cases hs : syncB k p
    · by_cases hk : k = 3
      · subst hk
        obtain ⟨e1, e2, e3, e4, -⟩ := st_crash n a s zs p
        rw [e1, e2, e3, e4]
        cases p
        · simp only [Bool.false_eq_true, if_false]
          exact gvr_mk (by omega) (by omega) h3 (by omega) (by omega) (by omega) (by omega) (risB_up h7 h8) h9
        · simp only [if_true]
          exact gvr_mk (by omega) (by omega) h1 (by omega) (by omega) (by omega) (by omega) (risB_up (by omega) h8) h9
      · obtain ⟨e1, e2, e3, e4, -⟩ := st_none (a := a) hg hs hk
        rw [e1, e2, e3, e4]; exact h
    · obtain ⟨e1, e2, e3, e4, -⟩ := st_sync (n := n) (a := a) (s := s) (zs := zs) hs
      rw [e1, e2, e3, e4]
      exact gvr_mk (by omega) (by omega) h1 (by omega) (by omega) h6 (by omega) h8 h9
  · obtain ⟨e1, e2, e3, e4, -⟩ := st_give (a := a) hg
    obtain ⟨-, -, g3, g4⟩ := giveB_and hg
    rw [e1, e2, e3, e4]
    exact gvr_mk h1 h2 h3 h4 h5 (by omega) (by omega) (risB_push h8 h6) (by simp; omega)
set_option maxRecDepth 100000 in
set_option maxHeartbeats 4000000 in
theorem sGoodG_any (n a s : Int) (A : Option Addr) (zs : List Int) (ca : Nat) (w : World) (ha : Ints w A zs) (hl : zs.length ≤ 1048576) :
    Calls Try.prog 25 #[gvV n a s (.slice A zs.length ca)] w fun e w' => e = .returned (.bool (goodGB n a s zs)) ∧ Below w.heap.size w w' := by
  obtain ⟨W, hW⟩ : ∃ W, (w.alloc (.cells #[.int .i64 n, .int .i64 a, .int .i64 s, .slice A zs.length ca] 27)) = W := ⟨_, rfl⟩
  have hbW : Below w.heap.size w W := by rw [← hW]; exact gAlloc _ _
  have h1 : (w.alloc (.cells #[.int .i64 n, .int .i64 a, .int .i64 s, .slice A zs.length ca] 27)).heap[w.heap.size]? = some (.cells #[.int .i64 n, .int .i64 a, .int .i64 s, .slice A zs.length ca] 27 (0, 0)) := heap_alloc_new _ _
  have y0 : (w.alloc (.cells #[.int .i64 n, .int .i64 a, .int .i64 s, .slice A zs.length ca] 27)).cell? ⟨w.heap.size, 0, none⟩ = some (.int .i64 n) := cell_of_row _ _ 0 _ _ _ h1
  have y1 : (w.alloc (.cells #[.int .i64 n, .int .i64 a, .int .i64 s, .slice A zs.length ca] 27)).cell? ⟨w.heap.size, 1, none⟩ = some (.int .i64 a) := cell_of_row _ _ 1 _ _ _ h1
  have y2 : (w.alloc (.cells #[.int .i64 n, .int .i64 a, .int .i64 s, .slice A zs.length ca] 27)).cell? ⟨w.heap.size, 2, none⟩ = some (.int .i64 s) := cell_of_row _ _ 2 _ _ _ h1
  have y3 : (w.alloc (.cells #[.int .i64 n, .int .i64 a, .int .i64 s, .slice A zs.length ca] 27)).cell? ⟨w.heap.size, 3, none⟩ = some (.slice A zs.length ca) := cell_of_row _ _ 3 _ _ _ h1
  have x0 : W.cell? ⟨w.heap.size, 0, none⟩ = some (.int .i64 n) := by rw [← hW]; exact y0
  have x1 : W.cell? ⟨w.heap.size, 1, none⟩ = some (.int .i64 a) := by rw [← hW]; exact y1
  have x2 : W.cell? ⟨w.heap.size, 2, none⟩ = some (.int .i64 s) := by rw [← hW]; exact y2
  have x3 : W.cell? ⟨w.heap.size, 3, none⟩ = some (.slice A zs.length ca) := by rw [← hW]; exact y3
  have HB := Lib.hid hbW
  have HW := Lib.hid hW
  have HI := Lib.hid (fun (z lo hi : Int) w => l1In_any z lo hi w)
  have HR := Lib.hid (sRisG A zs ca 1 n W (ha.below hbW) hl)
  clear hbW h1 hW ha
  cases e1 : inB a 0 1000
  · have HE : Hid (goodGB n a s zs = false) := by show _ = _; simp [goodGB, e1]
    have H0 := Lib.hid (HI.out a 0 1000)
    rw [e1] at H0
    clear HI e1 HR
    go_enter Try.func25, Try.ntmps25
    go_wp2_with fail
    rw [HW.out]
    refine (H0.out _).mono ?_
    rintro e w' ⟨rfl, rfl⟩
    go_wp2_with fail
    go_ret
    exact ⟨ret_bool' HE.out.symm, HB.out⟩
  · have b1 := inB_and e1
    obtain ⟨b1a, b1b⟩ := b1
    cases e2 : inB s 0 a
    · have HE : Hid (goodGB n a s zs = false) := by show _ = _; simp [goodGB, e1, e2]
      have H0 := Lib.hid (HI.out a 0 1000)
      rw [e1] at H0
      have H1 := Lib.hid (HI.out s 0 a)
      rw [e2] at H1
      clear HI e1 e2 HR
      go_enter Try.func25, Try.ntmps25
      go_wp2_with fail
      rw [HW.out]
      refine (H0.out _).mono ?_
      rintro e w' ⟨rfl, rfl⟩
      go_wp2_with fail
      refine (H1.out _).mono ?_
      rintro e w' ⟨rfl, rfl⟩
      go_wp2_with fail
      go_ret
      exact ⟨ret_bool' HE.out.symm, HB.out⟩
    · have b2 := inB_and e2
      obtain ⟨b2a, b2b⟩ := b2
      by_cases e3 : a ≤ s + 4
      · cases e4 : inB n 1 (s + 1)
        · have HE : Hid (goodGB n a s zs = false) := by show _ = _; simp [goodGB, e1, e2, e3, e4]
          have H0 := Lib.hid (HI.out a 0 1000)
          rw [e1] at H0
          have H1 := Lib.hid (HI.out s 0 a)
          rw [e2] at H1
          have H3 := Lib.hid (HI.out n 1 (s + 1))
          rw [e4] at H3
          clear HI e1 e2 e4 HR
          go_enter Try.func25, Try.ntmps25
          go_wp2_with fail
          rw [HW.out]
          refine (H0.out _).mono ?_
          rintro e w' ⟨rfl, rfl⟩
          go_wp2_with fail
          refine (H1.out _).mono ?_
          rintro e w' ⟨rfl, rfl⟩
          go_wp2_with fail
          refine (H3.out _).mono ?_
          rintro e w' ⟨rfl, rfl⟩
          go_wp2_with fail
          go_ret
          exact ⟨ret_bool' HE.out.symm, HB.out⟩
        · have b4 := inB_and e4
          obtain ⟨b4a, b4b⟩ := b4
          cases e5 : risB 1 n zs
          · have HE : Hid (goodGB n a s zs = false) := by show _ = _; simp [goodGB, e1, e2, e3, e4, e5]
            have H0 := Lib.hid (HI.out a 0 1000)
            rw [e1] at H0
            have H1 := Lib.hid (HI.out s 0 a)
            rw [e2] at H1
            have H3 := Lib.hid (HI.out n 1 (s + 1))
            rw [e4] at H3
            rw [e5] at HR
            clear HI e1 e2 e4 e5
            go_enter Try.func25, Try.ntmps25
            go_wp2_with fail
            rw [HW.out]
            refine (H0.out _).mono ?_
            rintro e w' ⟨rfl, rfl⟩
            go_wp2_with fail
            refine (H1.out _).mono ?_
            rintro e w' ⟨rfl, rfl⟩
            go_wp2_with fail
            refine (H3.out _).mono ?_
            rintro e w' ⟨rfl, rfl⟩
            go_wp2_with fail
            refine HR.out.mono ?_
            rintro e w' ⟨rfl, rfl⟩
            go_wp2_with fail
            go_ret
            exact ⟨ret_bool' HE.out.symm, HB.out⟩
          · have HE : Hid (goodGB n a s zs = decide ((zs.length : Int) ≤ 60)) := by show _ = _; simp [goodGB, e1, e2, e3, e4, e5]
            have H0 := Lib.hid (HI.out a 0 1000)
            rw [e1] at H0
            have H1 := Lib.hid (HI.out s 0 a)
            rw [e2] at H1
            have H3 := Lib.hid (HI.out n 1 (s + 1))
            rw [e4] at H3
            rw [e5] at HR
            clear HI e1 e2 e4 e5
            go_enter Try.func25, Try.ntmps25
            go_wp2_with fail
            rw [HW.out]
            refine (H0.out _).mono ?_
            rintro e w' ⟨rfl, rfl⟩
            go_wp2_with fail
            refine (H1.out _).mono ?_
            rintro e w' ⟨rfl, rfl⟩
            go_wp2_with fail
            refine (H3.out _).mono ?_
            rintro e w' ⟨rfl, rfl⟩
            go_wp2_with fail
            refine HR.out.mono ?_
            rintro e w' ⟨rfl, rfl⟩
            go_wp2_with fail
            go_ret
            exact ⟨ret_bool' HE.out.symm, HB.out⟩
      · have HE : Hid (goodGB n a s zs = false) := by show _ = _; simp [goodGB, e1, e2, e3]
        have H0 := Lib.hid (HI.out a 0 1000)
        rw [e1] at H0
        have H1 := Lib.hid (HI.out s 0 a)
        rw [e2] at H1
        clear HI e1 e2 HR
        go_enter Try.func25, Try.ntmps25
        go_wp2_with fail
        rw [HW.out]
        refine (H0.out _).mono ?_
        rintro e w' ⟨rfl, rfl⟩
        go_wp2_with fail
        refine (H1.out _).mono ?_
        rintro e w' ⟨rfl, rfl⟩
        go_wp2_with fail
        go_ret
        exact ⟨ret_bool' HE.out.symm, HB.out⟩
set_option maxRecDepth 100000 in
set_option maxHeartbeats 1000000 in
theorem sNewGv (w : World) : Calls Try.prog 21 #[] w fun e w' => e = .returned (gvV 1 4 0 (.slice none 0 0)) ∧ Below w.heap.size w w' := by
  go_enter Try.func21, Try.ntmps21
  go_wp2_with fail
  exact ret_gv rfl w.heap.size 1 4 0 _ rfl (heap_alloc_new _ _) rfl ⟨rfl, gAlloc _ _⟩

theorem rd_own {w : World} {base : Nat} {v : Value} {zs : List Int} (h : Own w base v zs) : OwnR 3 1 fI1 w base v zs := by
  show w.ownsRow base 3 1 v zs.length (zs.flatMap fI1)
  rw [fI1_map]
  exact h
/-- One number appended to a slice of the call's own; where the slice then lies. -/
theorem app_IL {ops : Array Oper} {rest : List Oper} {o : Oper} {a : Act} {Q : Exit → Act → World → Prop} (W : World) (base : Nat) (v : Value) (L : List Int) (z : Int) (Bn : Nat) (hBn : Bn = W.heap.size) (hgd : o.guard = none) (s x : Operand)
    (ho : o.op = .call { callee := .builtin .append, args := #[s, x], argTypes := #[25, 25] }) (hs : a.eval s = v) (hx : a.eval x = .slice (some ⟨Bn, 0, none⟩) 1 1)
    (hown : Own W base v L) (hbase : base ≤ W.heap.size) (hlen : L.length ≤ 2000000) (w0 : World) (hb : Below base w0 W)
    (h : ∀ v' w', Hid (Own w' base v' (L ++ [z]) ∧ Below base w0 w' ∧ (W.alloc (.cells #[.int .i64 z] 3)).grownBy w' v.ownBlock ∧ (v'.ownBlock = v.ownBlock ∨ v'.ownBlock = some (W.heap.size + 1))) → wpList Try.prog ops Q rest (a.put o.dst v') w') :
    wpList Try.prog ops Q (o :: rest) a (W.alloc (.cells #[.int .i64 z] 3)) := by
  obtain ⟨i0, hi, hz0, hz1, hz2⟩ := info_parts intI9
  exact app_rowL fI1_len (by decide) fI1_one Try.underlying25 hi hz0 hz1 hz2 rfl (by decide) W base v L z Bn hBn hgd s x ho hs hx (rd_own hown) hbase hlen w0 hb (fun v' w' H => h v' w' ⟨own_rd H.out.1, H.out.2⟩)

/-- What a step keeps: the answer's box (behind block X), the slice of its own. -/
structure Mid11 (w V : World) (base X : Nat) (r0 : Option Nat) (v : Value) (zs : List Int) : Prop where
  res : V.heap[X + 1 + 1]? = some (.cells #[.int .i64 0, .int .i64 0, .int .i64 0, .slice none 0 0] 27 (0, 0))
  own : Own V base v zs
  off : ∀ g, v.ownBlock = some g → g ≠ X ∧ g ≠ X + 1 + 1
  bel : Below base w V
  le : base ≤ X
  far : w.heap.size ≤ X
  grow : w.grownBy V r0
  src : ∀ g, v.ownBlock = some g → r0 = some g ∨ w.heap.size ≤ g
theorem grown_set {w V : World} {row : Option Nat} (h : w.grownBy V row) {X : Nat} (hX : w.heap.size ≤ X) (j : Nat) (u : Value) : w.grownBy (V.setCell ⟨X, j, none⟩ u) row :=
  ⟨h.os, h.tape, h.output, by simpa using h.size, fun k hk hne => (heap_setCell_other V ⟨X, j, none⟩ k u (by show k ≠ X; omega)).trans (h.block k hk hne)⟩
theorem Mid11.set {w V : World} {base X : Nat} {r0 : Option Nat} {v : Value} {zs : List Int} (h : Mid11 w V base X r0 v zs) (j : Nat) (u : Value) : Mid11 w (V.setCell ⟨X, j, none⟩ u) base X r0 v zs :=
  ⟨(heap_setCell_other V ⟨X, j, none⟩ _ u (by show X + 1 + 1 ≠ X; omega)).trans h.res,
   h.own.kept (gSet11 V X j u) (by
    cases hv : v.ownBlock with
    | none => exact Or.inl rfl
    | some g => exact Or.inr (by intro e; injection e with e; exact (h.off g hv).1 e)), h.off, h.bel.setCell h.le _, h.le, h.far, grown_set h.grow h.far j u, h.src⟩
theorem Mid11.fin {w V : World} {base X : Nat} {r0 : Option Nat} {v : Value} {zs : List Int} (h : Mid11 w V base X r0 v zs) (n a s : Value) : ((((V.setCell ⟨X + 1 + 1, 0, none⟩ n).setCell ⟨X + 1 + 1, 1, none⟩ a).setCell ⟨X + 1 + 1, 2, none⟩ s).setCell ⟨X + 1 + 1, 3, none⟩ v).heap[X + 1 + 1]? = some (.cells #[n, a, s, v] 27 (0, 0)) ∧ Own ((((V.setCell ⟨X + 1 + 1, 0, none⟩ n).setCell ⟨X + 1 + 1, 1, none⟩ a).setCell ⟨X + 1 + 1, 2, none⟩ s).setCell ⟨X + 1 + 1, 3, none⟩ v) base v zs ∧ Below base w ((((V.setCell ⟨X + 1 + 1, 0, none⟩ n).setCell ⟨X + 1 + 1, 1, none⟩ a).setCell ⟨X + 1 + 1, 2, none⟩ s).setCell ⟨X + 1 + 1, 3, none⟩ v) ∧ w.grownBy ((((V.setCell ⟨X + 1 + 1, 0, none⟩ n).setCell ⟨X + 1 + 1, 1, none⟩ a).setCell ⟨X + 1 + 1, 2, none⟩ s).setCell ⟨X + 1 + 1, 3, none⟩ v) r0 ∧ (∀ g, v.ownBlock = some g → r0 = some g ∨ w.heap.size ≤ g) :=
  ⟨gv_stored rfl h.res _ _ _ _, h.own.kept (gGv V (X + 1 + 1) _ _ _ _) (by
    cases hv : v.ownBlock with
    | none => exact Or.inl rfl
    | some g => exact Or.inr (by intro e; injection e with e; exact (h.off g hv).2 e)), below_gv h.bel (by have := h.le; omega) _ _ _ _, grown_set (grown_set (grown_set (grown_set h.grow (Nat.le_trans h.far (by omega)) 0 n) (Nat.le_trans h.far (by omega)) 1 a) (Nat.le_trans h.far (by omega)) 2 s) (Nat.le_trans h.far (by omega)) 3 v, h.src⟩

set_option maxRecDepth 100000 in
set_option maxHeartbeats 4000000 in
theorem sStep11 (n a s : Int) (A : Option Addr) (zs : List Int) (c : Nat) (k : Int) (p : Bool) (base : Nat) (w : World) (ho : Own w base (.slice A zs.length c) zs) (hb : base ≤ w.heap.size) (hg : goodGB n a s zs = true) :
    Calls Try.prog 43 #[gvV n a s (.slice A zs.length c), idV (k, p)] w fun e w' => ∃ v, e = .returned (.tuple #[gvV (stN n a s zs k p) (stA n a s zs k p) (stS n a s zs k p) v, .bool (stOkB n s zs k p)]) ∧ Own w' base v (stZ n s zs k p) ∧ Below base w w' ∧ w.grownBy w' (Value.slice A zs.length c).ownBlock ∧ (∀ g, v.ownBlock = some g → (Value.slice A zs.length c).ownBlock = some g ∨ w.heap.size ≤ g) := by
  obtain ⟨⟨g1, g2⟩, ⟨g3, g4⟩, g5, ⟨g6, g7⟩, -, g9⟩ := gvr_ok hg
  clear hg
  have g9i : (zs.length : Int) ≤ 60 := by omega
  have HLs := Lib.hid (fun (x y : Int) w => gLeast x y w)
  obtain ⟨W, hW⟩ : ∃ W, ((w.alloc (.cells #[.int .i64 n, .int .i64 a, .int .i64 s, .slice A zs.length c] 27)).alloc (.cells #[.int .i64 k, .bool p] 34)).alloc (.cells #[.int .i64 0, .int .i64 0, .int .i64 0, .slice none 0 0] 27) = W := ⟨_, rfl⟩
  have hs : W.heap.size = w.heap.size + 3 := by rw [← hW]; simp
  have hbW : Below w.heap.size w W := by rw [← hW]; exact ((gAlloc w _).alloc (by simp) _).alloc (by simp; omega) _
  have h1 : W.heap[w.heap.size]? = some (.cells #[.int .i64 n, .int .i64 a, .int .i64 s, .slice A zs.length c] 27 (0, 0)) := by rw [← hW, heap_alloc_old _ _ _ (by simp; omega), heap_alloc_old _ _ _ (by simp)]; exact heap_alloc_new _ _
  have h2 : W.heap[w.heap.size + 1]? = some (.cells #[.int .i64 k, .bool p] 34 (0, 0)) := by
    rw [← hW, heap_alloc_old _ _ _ (by simp), show w.heap.size + 1 = (w.alloc (.cells #[.int .i64 n, .int .i64 a, .int .i64 s, .slice A zs.length c] 27)).heap.size by simp]; exact heap_alloc_new _ _
  have h3 : W.heap[w.heap.size + 1 + 1]? = some (.cells #[.int .i64 0, .int .i64 0, .int .i64 0, .slice none 0 0] 27 (0, 0)) := by
    rw [← hW, show w.heap.size + 1 + 1 = ((w.alloc (.cells #[.int .i64 n, .int .i64 a, .int .i64 s, .slice A zs.length c] 27)).alloc (.cells #[.int .i64 k, .bool p] 34)).heap.size by simp]; exact heap_alloc_new _ _
  have x0 : W.cell? ⟨w.heap.size, 0, none⟩ = some (.int .i64 n) := cell_of_row _ _ 0 _ _ _ h1
  have fx0 := frozen_of_row W _ 0 _ _ h1
  have x1 : W.cell? ⟨w.heap.size, 1, none⟩ = some (.int .i64 a) := cell_of_row _ _ 1 _ _ _ h1
  have fx1 := frozen_of_row W _ 1 _ _ h1
  have x2 : W.cell? ⟨w.heap.size, 2, none⟩ = some (.int .i64 s) := cell_of_row _ _ 2 _ _ _ h1
  have fx2 := frozen_of_row W _ 2 _ _ h1
  have x3 : W.cell? ⟨w.heap.size, 3, none⟩ = some (.slice A zs.length c) := cell_of_row _ _ 3 _ _ _ h1
  have fx3 := frozen_of_row W _ 3 _ _ h1
  have u0 : W.cell? ⟨w.heap.size + 1, 0, none⟩ = some (.int .i64 k) := cell_of_row _ _ 0 _ _ _ h2
  have u1 : W.cell? ⟨w.heap.size + 1, 1, none⟩ = some (.bool p) := cell_of_row _ _ 1 _ _ _ h2
  have z0 : W.cell? ⟨w.heap.size + 1 + 1, 0, none⟩ = some (.int .i64 0) := cell_of_row _ _ 0 _ _ _ h3
  have fz0 := frozen_of_row W _ 0 _ _ h3
  have z1 : W.cell? ⟨w.heap.size + 1 + 1, 1, none⟩ = some (.int .i64 0) := cell_of_row _ _ 1 _ _ _ h3
  have fz1 := frozen_of_row W _ 1 _ _ h3
  have z2 : W.cell? ⟨w.heap.size + 1 + 1, 2, none⟩ = some (.int .i64 0) := cell_of_row _ _ 2 _ _ _ h3
  have fz2 := frozen_of_row W _ 2 _ _ h3
  have z3 : W.cell? ⟨w.heap.size + 1 + 1, 3, none⟩ = some (.slice none 0 0) := cell_of_row _ _ 3 _ _ _ h3
  have fz3 := frozen_of_row W _ 3 _ _ h3
  have HM : Hid (Mid11 w W base w.heap.size (Value.slice A zs.length c).ownBlock (.slice A zs.length c) zs) := ⟨h3, ho.below hbW, fun g hg => by have := (ho.lt g hg).2; omega, hbW.mono hb, hb, Nat.le_refl _, gBelowR hbW _, fun g h => Or.inl h⟩
  have HH := Lib.hid (And.intro h1 (And.intro h2 h3))
  have HS := Lib.hid hs
  clear ho hbW h1 h2 h3 hs
  by_cases hk1 : k = 1
  · subst hk1
    cases p
    · by_cases hns : n ≤ s
      · by_cases hl : (zs.length : Int) < 60
        · obtain ⟨e1, e2, e3, e4, e5⟩ := st_give (n := n) (a := a) (s := s) (zs := zs) (k := 1) (p := false) (by simp [giveB, hns, hl])
          have HE := Lib.hid (And.intro e1 (And.intro e2 (And.intro e3 (And.intro e4 e5))))
          clear e1 e2 e3 e4 e5
          go_enter Try.func43, Try.ntmps43
          go_wp2_with (at_builtin; refine app_IL W base _ zs n _ rfl rfl _ _ rfl rfl rfl HM.out.own (by have := HS.out; omega) (by omega) w HM.out.bel ?_; intro v1 w1 J1; obtain ⟨B1, c1, rfl, _⟩ := J1.out.1.form; have K1 := (J1.out.2.2.1.block _ (by rw [World.heap_size_alloc9]; have := HS.out; omega) (by intro e; exact (HM.out.off _ e.symm).1 rfl)).trans ((heap_alloc_old _ _ _ (by have := HS.out; omega)).trans HH.out.1); have K3 := (J1.out.2.2.1.block _ (by rw [World.heap_size_alloc9]; have := HS.out; omega) (by intro e; exact (HM.out.off _ e.symm).2 rfl)).trans ((heap_alloc_old _ _ _ (by have := HS.out; omega)).trans HH.out.2.2); have xk0 : w1.cell? ⟨w.heap.size, 0, none⟩ = some (.int .i64 n) := cell_of_row _ _ 0 _ _ _ K1; have fxk0 := frozen_of_row w1 _ 0 _ _ K1; have xk1 : w1.cell? ⟨w.heap.size, 1, none⟩ = some (.int .i64 a) := cell_of_row _ _ 1 _ _ _ K1; have fxk1 := frozen_of_row w1 _ 1 _ _ K1; have xk2 : w1.cell? ⟨w.heap.size, 2, none⟩ = some (.int .i64 s) := cell_of_row _ _ 2 _ _ _ K1; have fxk2 := frozen_of_row w1 _ 2 _ _ K1; have xk3 : w1.cell? ⟨w.heap.size, 3, none⟩ = some (.slice A zs.length c) := cell_of_row _ _ 3 _ _ _ K1; have fxk3 := frozen_of_row w1 _ 3 _ _ K1; have zk0 : w1.cell? ⟨w.heap.size + 1 + 1, 0, none⟩ = some (.int .i64 0) := cell_of_row _ _ 0 _ _ _ K3; have fzk0 := frozen_of_row w1 _ 0 _ _ K3; have zk1 : w1.cell? ⟨w.heap.size + 1 + 1, 1, none⟩ = some (.int .i64 0) := cell_of_row _ _ 1 _ _ _ K3; have fzk1 := frozen_of_row w1 _ 1 _ _ K3; have zk2 : w1.cell? ⟨w.heap.size + 1 + 1, 2, none⟩ = some (.int .i64 0) := cell_of_row _ _ 2 _ _ _ K3; have fzk2 := frozen_of_row w1 _ 2 _ _ K3; have zk3 : w1.cell? ⟨w.heap.size + 1 + 1, 3, none⟩ = some (.slice none 0 0) := cell_of_row _ _ 3 _ _ _ K3; have fzk3 := frozen_of_row w1 _ 3 _ _ K3; clear K1 K3)
          have J := J1.out
          rw [show (zs ++ [n]).length = zs.length + 1 by simp] at J
          have hM : Mid11 w w1 base w.heap.size (Value.slice A zs.length c).ownBlock (.slice B1 (zs.length + 1) c1) (zs ++ [n]) := ⟨(J.2.2.1.block _ (by rw [World.heap_size_alloc9]; have := HS.out; omega) (by intro e; exact (HM.out.off _ e.symm).2 rfl)).trans ((heap_alloc_old _ _ _ (by have := HS.out; omega)).trans HH.out.2.2), J.1, fun g hg => by
              have hs := HS.out
              rcases J.2.2.2 with h | h
              · exact HM.out.off g (h ▸ hg)
              · rw [h] at hg; injection hg with hg; omega, J.2.1, HM.out.le, HM.out.far, grownBy_trans (grownBy_trans HM.out.grow (World.grownBy_alloc W _ _)) J.2.2.1, fun g hg => by
              have hs := HS.out
              rcases J.2.2.2 with h | h
              · exact Or.inl (h ▸ hg)
              · rw [h] at hg; injection hg with hg; exact Or.inr (by omega)⟩
          have HM := Lib.hid hM
          obtain ⟨r1, r2, r3, r4, r5⟩ := ((HM.out.set 3 (.slice B1 (zs.length + 1) c1)).set 0 (.int .i64 (n + 1))).fin (.int .i64 (n + 1)) (.int .i64 (a)) (.int .i64 (s))
          refine ret_gv2 rfl (w.heap.size + 1 + 1) (n + 1) (a) (s) _ true rfl rfl r1 rfl ⟨.slice B1 (zs.length + 1) c1, ?_, ?_, r3, r4, r5⟩
          · rw [HE.out.1, HE.out.2.1, HE.out.2.2.1, HE.out.2.2.2.2]
          · rw [HE.out.2.2.2.1]; exact r2
        · obtain ⟨e1, e2, e3, e4, e5⟩ := st_none (n := n) (a := a) (s := s) (zs := zs) (k := 1) (p := false) (by simp [giveB, hl]) rfl (by decide)
          have HE := Lib.hid (And.intro e1 (And.intro e2 (And.intro e3 (And.intro e4 e5))))
          clear e1 e2 e3 e4 e5
          go_enter Try.func43, Try.ntmps43
          go_wp2_with fail
          obtain ⟨r1, r2, r3, r4, r5⟩ := HM.out.fin (.int .i64 (n)) (.int .i64 (a)) (.int .i64 (s))
          refine ret_gv2 rfl (w.heap.size + 1 + 1) (n) (a) (s) _ false rfl rfl r1 rfl ⟨.slice A zs.length c, ?_, ?_, r3, r4, r5⟩
          · rw [HE.out.1, HE.out.2.1, HE.out.2.2.1, HE.out.2.2.2.2]
          · rw [HE.out.2.2.2.1]; exact r2
      · obtain ⟨e1, e2, e3, e4, e5⟩ := st_none (n := n) (a := a) (s := s) (zs := zs) (k := 1) (p := false) (by simp [giveB, hns]) rfl (by decide)
        have HE := Lib.hid (And.intro e1 (And.intro e2 (And.intro e3 (And.intro e4 e5))))
        clear e1 e2 e3 e4 e5
        go_enter Try.func43, Try.ntmps43
        go_wp2_with fail
        obtain ⟨r1, r2, r3, r4, r5⟩ := HM.out.fin (.int .i64 (n)) (.int .i64 (a)) (.int .i64 (s))
        refine ret_gv2 rfl (w.heap.size + 1 + 1) (n) (a) (s) _ false rfl rfl r1 rfl ⟨.slice A zs.length c, ?_, ?_, r3, r4, r5⟩
        · rw [HE.out.1, HE.out.2.1, HE.out.2.2.1, HE.out.2.2.2.2]
        · rw [HE.out.2.2.2.1]; exact r2
    · obtain ⟨e1, e2, e3, e4, e5⟩ := st_none (n := n) (a := a) (s := s) (zs := zs) (k := 1) (p := true) (by simp [giveB]) rfl (by decide)
      have HE := Lib.hid (And.intro e1 (And.intro e2 (And.intro e3 (And.intro e4 e5))))
      clear e1 e2 e3 e4 e5
      go_enter Try.func43, Try.ntmps43
      go_wp2_with fail
      obtain ⟨r1, r2, r3, r4, r5⟩ := HM.out.fin (.int .i64 (n)) (.int .i64 (a)) (.int .i64 (s))
      refine ret_gv2 rfl (w.heap.size + 1 + 1) (n) (a) (s) _ false rfl rfl r1 rfl ⟨.slice A zs.length c, ?_, ?_, r3, r4, r5⟩
      · rw [HE.out.1, HE.out.2.1, HE.out.2.2.1, HE.out.2.2.2.2]
      · rw [HE.out.2.2.2.1]; exact r2
  · by_cases hk2 : k = 2
    · subst hk2
      cases p
      · obtain ⟨e1, e2, e3, e4, e5⟩ := st_sync (n := n) (a := a) (s := s) (zs := zs) (k := 2) (p := false) rfl
        have HE := Lib.hid (And.intro e1 (And.intro e2 (And.intro e3 (And.intro e4 e5))))
        clear e1 e2 e3 e4 e5
        go_enter Try.func43, Try.ntmps43
        go_wp2_with (go_at_call 55; refine (HLs.out _ _ _).mono ?_; rintro e w' ⟨rfl, rfl⟩)
        obtain ⟨r1, r2, r3, r4, r5⟩ := ((HM.out.set 2 (.int .i64 a)).set 1 (.int .i64 (min 1000 (a + 4)))).fin (.int .i64 (n)) (.int .i64 (min 1000 (a + 4))) (.int .i64 (a))
        refine ret_gv2 rfl (w.heap.size + 1 + 1) (n) (min 1000 (a + 4)) (a) _ true rfl rfl r1 rfl ⟨.slice A zs.length c, ?_, ?_, r3, r4, r5⟩
        · rw [HE.out.1, HE.out.2.1, HE.out.2.2.1, HE.out.2.2.2.2]
        · rw [HE.out.2.2.2.1]; exact r2
      · obtain ⟨e1, e2, e3, e4, e5⟩ := st_none (n := n) (a := a) (s := s) (zs := zs) (k := 2) (p := true) (by simp [giveB]) rfl (by decide)
        have HE := Lib.hid (And.intro e1 (And.intro e2 (And.intro e3 (And.intro e4 e5))))
        clear e1 e2 e3 e4 e5
        go_enter Try.func43, Try.ntmps43
        go_wp2_with fail
        obtain ⟨r1, r2, r3, r4, r5⟩ := HM.out.fin (.int .i64 (n)) (.int .i64 (a)) (.int .i64 (s))
        refine ret_gv2 rfl (w.heap.size + 1 + 1) (n) (a) (s) _ false rfl rfl r1 rfl ⟨.slice A zs.length c, ?_, ?_, r3, r4, r5⟩
        · rw [HE.out.1, HE.out.2.1, HE.out.2.2.1, HE.out.2.2.2.2]
        · rw [HE.out.2.2.2.1]; exact r2
    · by_cases hk3 : k = 3
      · subst hk3
        cases p
        · obtain ⟨e1, e2, e3, e4, e5⟩ := st_crashF n a s zs
          have HE := Lib.hid (And.intro e1 (And.intro e2 (And.intro e3 (And.intro e4 e5))))
          clear e1 e2 e3 e4 e5
          go_enter Try.func43, Try.ntmps43
          go_wp2_with (go_at_call 55; refine (HLs.out _ _ _).mono ?_; rintro e w' ⟨rfl, rfl⟩)
          obtain ⟨r1, r2, r3, r4, r5⟩ := ((HM.out.set 0 (.int .i64 (s + 1))).set 1 (.int .i64 (min 1000 (s + 4)))).fin (.int .i64 (s + 1)) (.int .i64 (min 1000 (s + 4))) (.int .i64 (s))
          refine ret_gv2 rfl (w.heap.size + 1 + 1) (s + 1) (min 1000 (s + 4)) (s) _ true rfl rfl r1 rfl ⟨.slice A zs.length c, ?_, ?_, r3, r4, r5⟩
          · rw [HE.out.1, HE.out.2.1, HE.out.2.2.1, HE.out.2.2.2.2]
          · rw [HE.out.2.2.2.1]; exact r2
        · obtain ⟨e1, e2, e3, e4, e5⟩ := st_crashT n a s zs
          have HE := Lib.hid (And.intro e1 (And.intro e2 (And.intro e3 (And.intro e4 e5))))
          clear e1 e2 e3 e4 e5
          go_enter Try.func43, Try.ntmps43
          go_wp2_with (go_at_call 55; refine (HLs.out _ _ _).mono ?_; rintro e w' ⟨rfl, rfl⟩)
          obtain ⟨r1, r2, r3, r4, r5⟩ := (((HM.out.set 2 (.int .i64 a)).set 0 (.int .i64 (a + 1))).set 1 (.int .i64 (min 1000 (a + 4)))).fin (.int .i64 (a + 1)) (.int .i64 (min 1000 (a + 4))) (.int .i64 (a))
          refine ret_gv2 rfl (w.heap.size + 1 + 1) (a + 1) (min 1000 (a + 4)) (a) _ true rfl rfl r1 rfl ⟨.slice A zs.length c, ?_, ?_, r3, r4, r5⟩
          · rw [HE.out.1, HE.out.2.1, HE.out.2.2.1, HE.out.2.2.2.2]
          · rw [HE.out.2.2.2.1]; exact r2
      · obtain ⟨e1, e2, e3, e4, e5⟩ := st_none (n := n) (a := a) (s := s) (zs := zs) (k := k) (p := p) (by simp [giveB, hk1]) (by simp [syncB, hk2]) hk3
        have HE := Lib.hid (And.intro e1 (And.intro e2 (And.intro e3 (And.intro e4 e5))))
        clear e1 e2 e3 e4 e5
        go_enter Try.func43, Try.ntmps43
        go_wp2_with fail
        obtain ⟨r1, r2, r3, r4, r5⟩ := HM.out.fin (.int .i64 (n)) (.int .i64 (a)) (.int .i64 (s))
        refine ret_gv2 rfl (w.heap.size + 1 + 1) (n) (a) (s) _ false rfl rfl r1 rfl ⟨.slice A zs.length c, ?_, ?_, r3, r4, r5⟩
        · rw [HE.out.1, HE.out.2.1, HE.out.2.2.1, HE.out.2.2.2.2]
        · rw [HE.out.2.2.2.1]; exact r2

/-- What LostIn and RoomIn answer. -/
def loI (n a s : Int) (zs : List Int) : Int := if goodGB n a s zs = true then n - 1 - (zs.length : Int) else 0
def roI11 (n a s : Int) (zs : List Int) : Int := if goodGB n a s zs = true then min (60 - (zs.length : Int)) (s + 1 - n) else 0
set_option maxRecDepth 100000 in
set_option maxHeartbeats 1000000 in
theorem sLost (n a s : Int) (A : Option Addr) (zs : List Int) (ca : Nat) (w : World) (ha : Ints w A zs) (hl : zs.length ≤ 1048576) :
    Calls Try.prog 19 #[gvV n a s (.slice A zs.length ca)] w fun e w' => e = .returned (.tuple #[.int .i64 (loI n a s zs), .bool (goodGB n a s zs)]) ∧ Below w.heap.size w w' := by
  obtain ⟨W, hW⟩ : ∃ W, w.alloc (.cells #[.int .i64 n, .int .i64 a, .int .i64 s, .slice A zs.length ca] 27) = W := ⟨_, rfl⟩
  have hbW : Below w.heap.size w W := by rw [← hW]; exact gAlloc _ _
  have h1 : W.heap[w.heap.size]? = some (.cells #[.int .i64 n, .int .i64 a, .int .i64 s, .slice A zs.length ca] 27 (0, 0)) := by rw [← hW]; exact heap_alloc_new _ _
  have x0 : W.cell? ⟨w.heap.size, 0, none⟩ = some (.int .i64 n) := cell_of_row _ _ 0 _ _ _ h1
  have x1 : W.cell? ⟨w.heap.size, 1, none⟩ = some (.int .i64 a) := cell_of_row _ _ 1 _ _ _ h1
  have x2 : W.cell? ⟨w.heap.size, 2, none⟩ = some (.int .i64 s) := cell_of_row _ _ 2 _ _ _ h1
  have x3 : W.cell? ⟨w.heap.size, 3, none⟩ = some (.slice A zs.length ca) := cell_of_row _ _ 3 _ _ _ h1
  have HG := Lib.hid (sGoodG_any n a s A zs ca W (ha.below hbW) hl)
  have HB := Lib.hid hbW
  have H1 := Lib.hid h1
  clear hbW h1 ha
  cases hg : goodGB n a s zs
  · have hlo : loI n a s zs = 0 := by rw [loI, hg]; rfl
    rw [hg] at HG
    rw [hlo]
    clear hg hlo
    go_enter Try.func19, Try.ntmps19
    go_wp2_with (go_at_call 25; refine HG.out.mono ?_; rintro e w1 ⟨rfl, hb1⟩)
    go_ret2
    exact ⟨rfl, below_more HB.out hb1⟩
  · have hlo : loI n a s zs = n - 1 - (zs.length : Int) := by rw [loI, hg]; rfl
    obtain ⟨⟨g1, g2⟩, ⟨g3, g4⟩, g5, ⟨g6, g7⟩, -, g9⟩ := gvr_ok hg
    rw [hg] at HG
    rw [hlo]
    have g9i : (zs.length : Int) ≤ 60 := by omega
    clear hg hlo
    go_enter Try.func19, Try.ntmps19
    go_wp2_with (go_at_call 25; refine HG.out.mono ?_; rintro e w1 ⟨rfl, hb1⟩; have H2 := Lib.hid ((hb1.block _ (heap_lt H1.out)).trans H1.out); have y0 : w1.cell? ⟨w.heap.size, 0, none⟩ = some (.int .i64 n) := cell_of_row _ _ 0 _ _ _ H2.out; have y1 : w1.cell? ⟨w.heap.size, 1, none⟩ = some (.int .i64 a) := cell_of_row _ _ 1 _ _ _ H2.out; have y2 : w1.cell? ⟨w.heap.size, 2, none⟩ = some (.int .i64 s) := cell_of_row _ _ 2 _ _ _ H2.out; have y3 : w1.cell? ⟨w.heap.size, 3, none⟩ = some (.slice A zs.length ca) := cell_of_row _ _ 3 _ _ _ H2.out)
    go_ret2
    exact ⟨rfl, below_more HB.out hb1⟩
set_option maxRecDepth 100000 in
set_option maxHeartbeats 1000000 in
theorem sRoom (n a s : Int) (A : Option Addr) (zs : List Int) (ca : Nat) (w : World) (ha : Ints w A zs) (hl : zs.length ≤ 1048576) :
    Calls Try.prog 28 #[gvV n a s (.slice A zs.length ca)] w fun e w' => e = .returned (.tuple #[.int .i64 (roI11 n a s zs), .bool (goodGB n a s zs)]) ∧ Below w.heap.size w w' := by
  obtain ⟨W, hW⟩ : ∃ W, w.alloc (.cells #[.int .i64 n, .int .i64 a, .int .i64 s, .slice A zs.length ca] 27) = W := ⟨_, rfl⟩
  have hbW : Below w.heap.size w W := by rw [← hW]; exact gAlloc _ _
  have h1 : W.heap[w.heap.size]? = some (.cells #[.int .i64 n, .int .i64 a, .int .i64 s, .slice A zs.length ca] 27 (0, 0)) := by rw [← hW]; exact heap_alloc_new _ _
  have x0 : W.cell? ⟨w.heap.size, 0, none⟩ = some (.int .i64 n) := cell_of_row _ _ 0 _ _ _ h1
  have x1 : W.cell? ⟨w.heap.size, 1, none⟩ = some (.int .i64 a) := cell_of_row _ _ 1 _ _ _ h1
  have x2 : W.cell? ⟨w.heap.size, 2, none⟩ = some (.int .i64 s) := cell_of_row _ _ 2 _ _ _ h1
  have x3 : W.cell? ⟨w.heap.size, 3, none⟩ = some (.slice A zs.length ca) := cell_of_row _ _ 3 _ _ _ h1
  have HG := Lib.hid (sGoodG_any n a s A zs ca W (ha.below hbW) hl)
  have HB := Lib.hid hbW
  have H1 := Lib.hid h1
  clear hbW h1 ha
  cases hg : goodGB n a s zs
  · have hlo : roI11 n a s zs = 0 := by rw [roI11, hg]; rfl
    rw [hg] at HG
    rw [hlo]
    clear hg hlo
    go_enter Try.func28, Try.ntmps28
    go_wp2_with (go_at_call 25; refine HG.out.mono ?_; rintro e w1 ⟨rfl, hb1⟩)
    go_ret2
    exact ⟨rfl, below_more HB.out hb1⟩
  · have hlo : roI11 n a s zs = min (60 - (zs.length : Int)) (s + 1 - n) := by rw [roI11, hg]; rfl
    obtain ⟨⟨g1, g2⟩, ⟨g3, g4⟩, g5, ⟨g6, g7⟩, -, g9⟩ := gvr_ok hg
    rw [hg] at HG
    rw [hlo]
    have g9i : (zs.length : Int) ≤ 60 := by omega
    clear hg hlo
    go_enter Try.func28, Try.ntmps28
    have HLs := Lib.hid (fun (x y : Int) w => gLeast x y w)
    go_wp2_with (first | (go_at_call 55; refine (HLs.out _ _ _).mono ?_; rintro e w' ⟨rfl, rfl⟩) | go_at_call 25; refine HG.out.mono ?_; rintro e w1 ⟨rfl, hb1⟩; have H2 := Lib.hid ((hb1.block _ (heap_lt H1.out)).trans H1.out); have y0 : w1.cell? ⟨w.heap.size, 0, none⟩ = some (.int .i64 n) := cell_of_row _ _ 0 _ _ _ H2.out; have y1 : w1.cell? ⟨w.heap.size, 1, none⟩ = some (.int .i64 a) := cell_of_row _ _ 1 _ _ _ H2.out; have y2 : w1.cell? ⟨w.heap.size, 2, none⟩ = some (.int .i64 s) := cell_of_row _ _ 2 _ _ _ H2.out; have y3 : w1.cell? ⟨w.heap.size, 3, none⟩ = some (.slice A zs.length ca) := cell_of_row _ _ 3 _ _ _ H2.out)
    go_ret2
    exact ⟨rfl, below_more HB.out hb1⟩
end Go.Proofs.Ytbegikjoialahaa
