/-
  DG: The draws of chapter 9.
  DH: The draws of chapter 9, second part: DrawGoodDisk, DrawSyncDisk, DrawReadAll, DrawReadSector, DrawPutSector, DrawCrashDisk.
-/
import Derived.Test.YthbjcipdneminaaDoorKY

/- DG -/
namespace Go.Proofs.YthbjcipdneminaaDoor
open Go.RowKit

set_option maxRecDepth 100000 in
set_option maxHeartbeats 400000 in
theorem of_any (B k : Nat) (b o ca : Nat) (ss : List ByteArray) (w : World) (hcur : Cur w B k) (hk : k ≤ 549755813888) (hne : b ≠ B) (hl0 : 0 < ss.length) (hl : ss.length ≤ 1048576) (hcs : ∀ j (h : j < ss.length), w.cell? ⟨b, o + j, none⟩ = some (.string ss[j])) :
    Calls Tryd.prog 44 #[.pointer (some ⟨B, 0, none⟩), .slice (some ⟨b, o, none⟩) ss.length ca] w fun e w' => ∃ s : ByteArray, e = .returned (.string s) ∧ s ∈ ss ∧ Cur w' B (k + 2) ∧ w.grownBy w' (some B) := by
  have HC := Lib.hid hcur
  have HCS := Lib.hid hcs
  clear hcur hcs
  go_enter Tryd.func44, Tryd.ntmps44
  go_wp2_with fail
  refine (pick_any B k ss.length _ HC.out hk (by omega)).mono ?_
  rintro e w1 ⟨r, rfl, ⟨hr0, hr1⟩, hc1, hg1⟩
  have hlt : r.toNat < ss.length := by omega
  have hr2 : r < (ss.length : Int) := by omega
  have hcell : w1.cell? ⟨b, o + r.toNat, none⟩ = some (.string ss[r.toNat]) := by
    rw [hg1.cell (HCS.out r.toNat hlt) (by simpa using hne)]
  have HC1 := Lib.hid hc1
  have HG1 := Lib.hid hg1
  have HM : Hid (ss[r.toNat] ∈ ss) := List.getElem_mem hlt
  clear hc1 hg1 hr1
  generalize ss[r.toNat] = z at *
  go_wp2_with fail
  go_ret
  exact ⟨_, rfl, HM.out, HC1.out, HG1.out⟩
def four9 : List ByteArray := [⟨#[115, 105, 120, 116, 101, 101, 110, 32, 98, 121, 116, 101, 115, 58, 32, 97]⟩, ⟨#[115, 105, 120, 116, 101, 101, 110, 32, 98, 121, 116, 101, 115, 58, 32, 98]⟩, ⟨#[48, 49, 50, 51, 52, 53, 54, 55, 56, 57, 97, 98, 99, 100, 101, 102]⟩, ⟨#[115, 104, 111, 114, 116]⟩]
theorem four9_size : ∀ s ∈ four9, s.size ≤ 16 := by
  intro s hs
  simp only [four9, List.mem_cons, List.not_mem_nil, or_false] at hs
  rcases hs with rfl | rfl | rfl | rfl <;> decide
theorem good_put {ss : List ByteArray} {ps : List (Int × ByteArray)} {k : Int} {y : ByteArray} (h : puOkB ss ps k y = true) : goodDB ss (ps ++ [(k, y)]) = true := by
  simp only [puOkB, Bool.and_eq_true, decide_eq_true_eq, Bool.not_eq_true', decide_eq_false_iff_not] at h
  obtain ⟨h1, h2, h3, h4⟩ := h
  have h1' := h1
  simp only [goodDB, Bool.and_eq_true, decide_eq_true_eq] at h1 ⊢
  refine ⟨h1.1, ?_, h1.2.2.1, ?_⟩
  · rw [List.all_append, h1.2.1]; simp [puB9, stB9, h2, h3]
  · rw [List.length_append]; simp; omega
theorem good_sync {ss : List ByteArray} {ps : List (Int × ByteArray)} (h : goodDB ss ps = true) : goodDB (syncL ss ps) [] = true := by
  obtain ⟨h1, h2, h3, h4⟩ := good_len h
  have hall : ∀ (qs : List (Int × ByteArray)) (s : List ByteArray), (∀ p ∈ qs, p.2.size = 16) → (∀ x ∈ s, x.size = 16) → ∀ x ∈ syncL s qs, x.size = 16 := by
    intro qs
    induction qs with
    | nil => intro s _ hs; exact hs
    | cons q qs ih =>
      intro s hq hs
      refine ih (s.set q.1.toNat q.2) (fun p hp => hq p (by simp [hp])) (fun x hx => ?_)
      rcases List.mem_or_eq_of_mem_set hx with hx | rfl
      · exact hs x hx
      · exact hq q (by simp)
  simp only [goodDB, Bool.and_eq_true, decide_eq_true_eq]
  refine ⟨List.all_eq_true.2 fun x hx => ?_, rfl, by rw [syncL_length]; exact h1, by simp⟩
  have := hall ps ss (fun p hp => (h4 p hp).2) h3 x hx
  simp [stB9, this]
theorem good_new : goodDB (List.replicate 12 zero16) [] = true := by decide +kernel
/-- What a drawn disk keeps while it is made: its two rows, in blocks of the call's own, neither of them block D. -/
structure Dk9 (w : World) (B base D : Nat) (k : Nat) (v1 v2 : Value) (ss : List ByteArray) (ps : List (Int × ByteArray)) : Prop where
  own : OwnD w base v1 v2 ss ps
  good : goodDB ss ps = true
  cur : Cur w B k
  off1 : ∀ g, v1.ownBlock = some g → g ≠ D
  off2 : ∀ g, v2.ownBlock = some g → g ≠ D
theorem lies1 {w : World} {base : Nat} {v1 v2 : Value} {ss : List ByteArray} {ps : List (Int × ByteArray)} (h : OwnD w base v1 v2 ss ps) : ∃ A B ca cb, v1 = .slice A ss.length ca ∧ v2 = .slice B ps.length cb ∧ Strs w A ss ∧ Puts w B ps ∧ Lies9 A ca ∧ Lies9 B cb := by
  obtain ⟨A, ca, rfl, _, hA⟩ := h.sure.form fSt_len
  obtain ⟨B, cb, rfl, _, hB⟩ := h.later.form fPu_len
  exact ⟨A, B, ca, cb, rfl, rfl, hA, hB, ownR_lies h.sure, ownR_lies h.later⟩
theorem disk_in {w : World} {A B : Option Addr} {ss : List ByteArray} {ps : List (Int × ByteArray)} (hA : Strs w A ss) (hB : Puts w B ps) (hg : goodDB ss ps = true) : DiskIn w A B ss ps := by
  obtain ⟨h1, h2, h3, h4⟩ := good_len hg
  exact ⟨hA, hB, by omega, by omega, fun s hs => by have := h3 s hs; omega, fun p hp => by have := (h4 p hp).2; omega⟩
theorem alloc_atD (w : World) (o : Obj) : (w.alloc o).drew.heap[w.heap.size]? = some o := heap_alloc_new w o
theorem sNewDisk_E (w : World) : Calls Tryd.prog 74 #[] w fun e w' => ∃ v1 v2 ss ps, e = .returned (diskV v1 v2) ∧ OwnD w' w.heap.size v1 v2 ss ps ∧ goodDB ss ps = true ∧ Below w.heap.size w w' :=
  (sNewDisk_D w).mono fun _ _ ⟨v1, v2, e, ho, hb⟩ => ⟨v1, v2, _, _, e, ho, good_new, hb⟩
/-- What lies ready in the midst of a round: the disk d in block D, a result x in block Y, the function's own result in block X. -/
structure Mid9 (w wx : World) (B X D Y k : Nat) (a1 a2 u1 u2 : Value) (ss : List ByteArray) (ps : List (Int × ByteArray)) (us : List ByteArray) (up : List (Int × ByteArray)) : Prop where
  box : wx.heap[Y]? = some (.cells #[u1, u2] 26 (0, 0))
  old : wx.heap[D]? = some (.cells #[a1, a2] 26 (0, 0))
  res : wx.heap[X]? = some (.cells #[.slice none 0 0, .slice none 0 0] 26 (0, 0))
  own : OwnD wx (X + 1) a1 a2 ss ps
  own2 : OwnD wx (X + 1) u1 u2 us up
  cur : Cur wx B k
  grown : w.grownBy wx (some B)
  ne : D ≠ Y
  off1 : ∀ g, u1.ownBlock = some g → g ≠ D
  off2 : ∀ g, u2.ownBlock = some g → g ≠ D
theorem grown_set9 {w w6 : World} {r : Option Nat} (h : w.grownBy w6 r) {Y : Nat} (hY : w.heap.size ≤ Y) (j : Nat) (v : Value) : w.grownBy (w6.setCell ⟨Y, j, none⟩ v) r :=
  ⟨h.os, h.tape, h.output, by simpa [World.setCell] using h.size, fun k hk hr => (heap_setCell_other w6 ⟨Y, j, none⟩ k _ (by show k ≠ Y; omega)).trans (h.block k hk hr)⟩
theorem grown_alloc9 {w w6 : World} {r : Option Nat} (h : w.grownBy w6 r) (o : Obj) : w.grownBy (w6.alloc o) r := grownBy_trans h (World.grownBy_alloc _ _ _)
theorem OwnD.set9 {w : World} {base : Nat} {v1 v2 : Value} {ss : List ByteArray} {ps : List (Int × ByteArray)} (h : OwnD w base v1 v2 ss ps) {Y : Nat} (h1 : ∀ g, v1.ownBlock = some g → g ≠ Y) (h2 : ∀ g, v2.ownBlock = some g → g ≠ Y) (j : Nat) (v : Value) : OwnD (w.setCell ⟨Y, j, none⟩ v) base v1 v2 ss ps :=
  ⟨h.sure.kept (gSet9 _ _ _ _) (Or.inr fun e => h1 _ e rfl), h.later.kept (gSet9 _ _ _ _) (Or.inr fun e => h2 _ e rfl), h.apart⟩
theorem OwnD.cur9 {w w' : World} {base B : Nat} {v1 v2 : Value} {ss : List ByteArray} {ps : List (Int × ByteArray)} (h : OwnD w base v1 v2 ss ps) (hB : B < base) (hg : w.grownBy w' (some B)) : OwnD w' base v1 v2 ss ps :=
  ⟨h.sure.cur hB hg, h.later.cur hB hg, h.apart⟩
/-- x laid into a new block last. -/
theorem mid_alloc9 {w w6 : World} {B X D k : Nat} {a1 a2 u1 u2 : Value} {ss : List ByteArray} {ps : List (Int × ByteArray)} {us : List ByteArray} {up : List (Int × ByteArray)} (old : w6.heap[D]? = some (.cells #[a1, a2] 26 (0, 0))) (res : w6.heap[X]? = some (.cells #[.slice none 0 0, .slice none 0 0] 26 (0, 0)))
    (own : OwnD w6 (X + 1) a1 a2 ss ps) (own2 : OwnD w6 (D + 1) u1 u2 us up) (hXD : X ≤ D) (cur : Cur w6 B k) (grown : w.grownBy w6 (some B)) :
    Mid9 w (w6.alloc (.cells #[u1, u2] 26)) B X D w6.heap.size k a1 a2 u1 u2 ss ps us up :=
  ⟨heap_alloc_new _ _, (heap_alloc_old _ _ _ (heap_lt old)).trans old, (heap_alloc_old _ _ _ (heap_lt res)).trans res, own.below (gAlloc _ _), (own2.below (gAlloc _ _)).lower (by omega), cur.below (gAlloc _ _), grown_alloc9 grown _, Nat.ne_of_lt (heap_lt old),
    fun g hg => by have := (own2.sure.lt g hg).1; omega, fun g hg => by have := (own2.later.lt g hg).1; omega⟩
/-- x stored into a block that was laid before. -/
theorem mid_put9 {w w6 : World} {B X D Y k : Nat} {a1 a2 u1 u2 : Value} {ss : List ByteArray} {ps : List (Int × ByteArray)} {us : List ByteArray} {up : List (Int × ByteArray)} (hY : w6.heap[Y]? = some (.cells #[.slice none 0 0, .slice none 0 0] 26 (0, 0))) (old : w6.heap[D]? = some (.cells #[a1, a2] 26 (0, 0))) (res : w6.heap[X]? = some (.cells #[.slice none 0 0, .slice none 0 0] 26 (0, 0)))
    (own : OwnD w6 (X + 1) a1 a2 ss ps) (ha1 : ∀ g, a1.ownBlock = some g → g ≠ Y) (ha2 : ∀ g, a2.ownBlock = some g → g ≠ Y) (own2 : OwnD w6 (Y + 1) u1 u2 us up) (hXD : X < D) (hDY : D < Y) (hBX : B < X) (hwX : w.heap.size ≤ X) (cur : Cur w6 B k) (grown : w.grownBy w6 (some B)) :
    Mid9 w ((w6.setCell ⟨Y, 0, none⟩ u1).setCell ⟨Y, 1, none⟩ u2) B X D Y k a1 a2 u1 u2 ss ps us up := by
  have hu1 : ∀ g, u1.ownBlock = some g → g ≠ Y := fun g hg => by have := (own2.sure.lt g hg).1; omega
  have hu2 : ∀ g, u2.ownBlock = some g → g ≠ Y := fun g hg => by have := (own2.later.lt g hg).1; omega
  exact ⟨heap_setCell_same _ _ 1 _ _ _ (heap_setCell_same _ _ 0 _ _ _ hY), (heap_setCell_other _ ⟨Y, 1, none⟩ D _ (by show D ≠ Y; omega)).trans ((heap_setCell_other _ ⟨Y, 0, none⟩ D _ (by show D ≠ Y; omega)).trans old), (heap_setCell_other _ ⟨Y, 1, none⟩ X _ (by show X ≠ Y; omega)).trans ((heap_setCell_other _ ⟨Y, 0, none⟩ X _ (by show X ≠ Y; omega)).trans res),
    (own.set9 ha1 ha2 _ _).set9 ha1 ha2 _ _, ((own2.set9 hu1 hu2 _ _).set9 hu1 hu2 _ _).lower (by omega), (cur.grown (gSet9 _ _ _ _) (fun g hg => by injection hg with hg; omega)).grown (gSet9 _ _ _ _) (fun g hg => by injection hg with hg; omega), grown_set9 (grown_set9 grown (by omega) _ _) (by omega) _ _, by omega,
    fun g hg => by have := (own2.sure.lt g hg).1; omega, fun g hg => by have := (own2.later.lt g hg).1; omega⟩
/-- What a round of drawing a disk begins with. -/
structure Rnd9 (w wr : World) (B X D k : Nat) (v1 v2 : Value) (ss : List ByteArray) (ps : List (Int × ByteArray)) : Prop where
  dk : Dk9 wr B (X + 1) D k v1 v2 ss ps
  old : wr.heap[D]? = some (.cells #[v1, v2] 26 (0, 0))
  res : wr.heap[X]? = some (.cells #[.slice none 0 0, .slice none 0 0] 26 (0, 0))
  grown : w.grownBy wr (some B)
theorem mid_keep {w wx : World} {B X D Y k : Nat} {a1 a2 u1 u2 : Value} {ss us : List ByteArray} {ps up : List (Int × ByteArray)} (h : Mid9 w wx B X D Y k a1 a2 u1 u2 ss ps us up) (hg : goodDB ss ps = true) (h1 : ∀ g, a1.ownBlock = some g → g ≠ D) (h2 : ∀ g, a2.ownBlock = some g → g ≠ D) : Rnd9 w wx B X D k a1 a2 ss ps :=
  ⟨⟨h.own, hg, h.cur, h1, h2⟩, h.old, h.res, h.grown⟩
theorem mid_take {w wx : World} {B X D Y k : Nat} {a1 a2 u1 u2 : Value} {ss us : List ByteArray} {ps up : List (Int × ByteArray)} (h : Mid9 w wx B X D Y k a1 a2 u1 u2 ss ps us up) (hg : goodDB us up = true) (hBX : B < X) (hXD : X < D) (hwX : w.heap.size ≤ X) : Rnd9 w ((wx.setCell ⟨D, 0, none⟩ u1).setCell ⟨D, 1, none⟩ u2) B X D k u1 u2 us up :=
  ⟨⟨(h.own2.set9 h.off1 h.off2 _ _).set9 h.off1 h.off2 _ _, hg, (h.cur.grown (gSet9 _ _ _ _) (fun g hg => by injection hg with hg; omega)).grown (gSet9 _ _ _ _) (fun g hg => by injection hg with hg; omega), h.off1, h.off2⟩, heap_setCell_same _ _ 1 _ _ _ (heap_setCell_same _ _ 0 _ _ _ h.old),
    (heap_setCell_other _ ⟨D, 1, none⟩ X _ (by show X ≠ D; omega)).trans ((heap_setCell_other _ ⟨D, 0, none⟩ X _ (by show X ≠ D; omega)).trans h.res), grown_set9 (grown_set9 h.grown (by omega) _ _) (by omega) _ _⟩
theorem mid_cur {w wx w' : World} {B X D Y k k' : Nat} {a1 a2 u1 u2 : Value} {ss us : List ByteArray} {ps up : List (Int × ByteArray)} (h : Mid9 w wx B X D Y k a1 a2 u1 u2 ss ps us up) (hg : wx.grownBy w' (some B)) (hc : Cur w' B k') (hBX : B < X) (hXD : X < D) (hBY : B < Y) : Mid9 w w' B X D Y k' a1 a2 u1 u2 ss ps us up :=
  ⟨(hg.block _ (heap_lt h.box) (by intro e; injection e with e; omega)).trans h.box, (hg.block _ (heap_lt h.old) (by intro e; injection e with e; omega)).trans h.old, (hg.block _ (heap_lt h.res) (by intro e; injection e with e; omega)).trans h.res, h.own.cur9 (by omega) hg, h.own2.cur9 (by omega) hg, hc, grownBy_trans h.grown hg, h.ne, h.off1, h.off2⟩
theorem sSync_E (A B : Option Addr) (ss : List ByteArray) (ps : List (Int × ByteArray)) (ca cb : Nat) (w : World) (hA : Strs w A ss) (hB : Puts w B ps) (hg : goodDB ss ps = true) (hl : Lies9 A ca) :
    Calls Tryd.prog 75 #[diskV (.slice A ss.length ca) (.slice B ps.length cb)] w fun e w' => ∃ v1 v2 us up, e = .returned (.tuple #[diskV v1 v2, .bool true]) ∧ OwnD w' w.heap.size v1 v2 us up ∧ goodDB us up = true ∧ Below w.heap.size w w' :=
  (sSync_D A B ss ps ca cb w (disk_in hA hB hg) hl).mono fun _ _ ⟨v1, v2, e, ho, hb⟩ => ⟨v1, v2, _, _, by rw [e, hg], ho, by rw [syI, if_pos hg]; exact good_sync hg, hb⟩
theorem good_yes {ss : List ByteArray} {ps : List (Int × ByteArray)} {k : Int} {y : ByteArray} (h : puOkB ss ps k y = true) : goodDB (puS ss ps k y) (puP ss ps k y) = true := by
  rw [(pu_yes h).1, (pu_yes h).2.1]; exact good_put h
theorem Dk9.mono {w : World} {B base D k k' : Nat} {v1 v2 : Value} {ss : List ByteArray} {ps : List (Int × ByteArray)} (h : Dk9 w B base D k v1 v2 ss ps) (hk : k ≤ k') : Dk9 w B base D k' v1 v2 ss ps := ⟨h.own, h.good, h.cur.mono hk, h.off1, h.off2⟩
theorem rnd_cur {w wr w' : World} {B X D k k' : Nat} {v1 v2 : Value} {ss : List ByteArray} {ps : List (Int × ByteArray)} (h : Rnd9 w wr B X D k v1 v2 ss ps) (hg : wr.grownBy w' (some B)) (hc : Cur w' B k') (hBX : B < X) (hXD : X < D) : Rnd9 w w' B X D k' v1 v2 ss ps :=
  ⟨⟨h.dk.own.cur9 (by omega) hg, h.dk.good, hc, h.dk.off1, h.dk.off2⟩, (hg.block _ (heap_lt h.old) (by intro e; injection e with e; omega)).trans h.old, (hg.block _ (heap_lt h.res) (by intro e; injection e with e; omega)).trans h.res, grownBy_trans h.grown hg⟩
end Go.Proofs.YthbjcipdneminaaDoor

/- DH -/
namespace Go.Proofs.YthbjcipdneminaaDoor
open Go.RowKit

theorem byts_on9 {w w' : World} {A : Option Addr} {zs : List Int} (h : Byts w w.heap.size A zs) (hb : Below w.heap.size w w') : Byts w' w'.heap.size A zs :=
  ⟨h.1, fun hne => by
    obtain ⟨b, o, e, hlt, hc⟩ := h.2 hne
    exact ⟨b, o, e, Nat.lt_of_lt_of_le hlt hb.size, fun j hj => (hb.cell hlt).trans (hc j hj)⟩⟩
/-- What a draw of a disk leaves. -/
structure Drew9 (w w' : World) (v1 v2 : Value) (ss : List ByteArray) (ps : List (Int × ByteArray)) : Prop where
  own : OwnD w' w.heap.size v1 v2 ss ps
  len : ss.length = 12
  len2 : ps.length ≤ 41
  size : ∀ s ∈ ss, s.size ≤ 16
  size2 : ∀ p ∈ ps, p.2.size ≤ 16
  below : Below w.heap.size w w'
theorem results_dk3 {fn : Func} {p u x : Tmp} {ty : TypeId} (h : fn.results = #[.cell p ty, .tmp u, .tmp x]) (tmps : Array Value) (P : Program) (w : World) :
    (results fn tmps).run P w =
      ((asAddr (tmps.getD p undef)).run P w).andThen fun a w₁ => ((loadVar ty a).run P w₁).andThen fun v w₂ => .ok (.tuple #[v, tmps.getD u undef, tmps.getD x undef]) w₂ := by
  simp only [results, h]
  simp [Sem.run_bind, Result.andThen]
theorem results_dk4 {fn : Func} {p u x y : Tmp} {ty : TypeId} (h : fn.results = #[.cell p ty, .tmp u, .tmp x, .tmp y]) (tmps : Array Value) (P : Program) (w : World) :
    (results fn tmps).run P w =
      ((asAddr (tmps.getD p undef)).run P w).andThen fun a w₁ => ((loadVar ty a).run P w₁).andThen fun v w₂ => .ok (.tuple #[v, tmps.getD u undef, tmps.getD x undef, tmps.getD y undef]) w₂ := by
  simp only [results, h]
  simp [Sem.run_bind, Result.andThen]
theorem ret_dk2v {fn : Func} {p q : Tmp} (h : fn.results = #[.cell p 26, .tmp q]) {R : Ending → World → Prop} {a : Act} {w : World} (g : Nat) (u v x : Value) (hp : a.tmps.getD p undef = .pointer (some ⟨g, 0, none⟩)) (hu : a.tmps.getD q undef = x)
    (hg : w.heap[g]? = some (.cells #[u, v] 26 (0, 0))) (hd : a.defers = []) (hR : R (.returned (.tuple #[diskV u v, x])) w) : bodyPost Tryd.prog fn R .ret a w := by
  have hp' : a.tmps[p]?.getD undef = .pointer (some ⟨g, 0, none⟩) := by simpa using hp
  have hu' : a.tmps[q]?.getD undef = x := by simpa using hu
  refine bodyPost_ret (v := .tuple #[diskV u v, x]) ?_ hd hR
  rw [results_cell_tmp h]
  simp [hp', hu', asAddr, run_loadVar_row w g 26 26 #[u, v] (0, 0) _ hg Tryd.underlying26 rfl infoDk]
theorem ret_dk3 {fn : Func} {p q r : Tmp} (h : fn.results = #[.cell p 26, .tmp q, .tmp r]) {R : Ending → World → Prop} {a : Act} {w : World} (g : Nat) (u v x y : Value) (hp : a.tmps.getD p undef = .pointer (some ⟨g, 0, none⟩)) (hu : a.tmps.getD q undef = x) (hr : a.tmps.getD r undef = y)
    (hg : w.heap[g]? = some (.cells #[u, v] 26 (0, 0))) (hd : a.defers = []) (hR : R (.returned (.tuple #[diskV u v, x, y])) w) : bodyPost Tryd.prog fn R .ret a w := by
  have hp' : a.tmps[p]?.getD undef = .pointer (some ⟨g, 0, none⟩) := by simpa using hp
  have hu' : a.tmps[q]?.getD undef = x := by simpa using hu
  have hr' : a.tmps[r]?.getD undef = y := by simpa using hr
  refine bodyPost_ret (v := .tuple #[diskV u v, x, y]) ?_ hd hR
  rw [results_dk3 h]
  simp [hp', hu', hr', asAddr, run_loadVar_row w g 26 26 #[u, v] (0, 0) _ hg Tryd.underlying26 rfl infoDk]
theorem ret_dk4 {fn : Func} {p q r t : Tmp} (h : fn.results = #[.cell p 26, .tmp q, .tmp r, .tmp t]) {R : Ending → World → Prop} {a : Act} {w : World} (g : Nat) (u v x y z : Value) (hp : a.tmps.getD p undef = .pointer (some ⟨g, 0, none⟩)) (hu : a.tmps.getD q undef = x) (hr : a.tmps.getD r undef = y) (ht : a.tmps.getD t undef = z)
    (hg : w.heap[g]? = some (.cells #[u, v] 26 (0, 0))) (hd : a.defers = []) (hR : R (.returned (.tuple #[diskV u v, x, y, z])) w) : bodyPost Tryd.prog fn R .ret a w := by
  have hp' : a.tmps[p]?.getD undef = .pointer (some ⟨g, 0, none⟩) := by simpa using hp
  have hu' : a.tmps[q]?.getD undef = x := by simpa using hu
  have hr' : a.tmps[r]?.getD undef = y := by simpa using hr
  have ht' : a.tmps[t]?.getD undef = z := by simpa using ht
  refine bodyPost_ret (v := .tuple #[diskV u v, x, y, z]) ?_ hd hR
  rw [results_dk4 h]
  simp [hp', hu', hr', ht', asAddr, run_loadVar_row w g 26 26 #[u, v] (0, 0) _ hg Tryd.underlying26 rfl infoDk]
end Go.Proofs.YthbjcipdneminaaDoor
