/-
  DG: The draws of chapter 9.
  DH: The draws of chapter 9, second part: DrawGoodDisk, DrawSyncDisk, DrawReadAll, DrawReadSector, DrawPutSector, DrawCrashDisk.
-/
import Derived.Test.YtkmlgeicmnbkiaaKY

/- DG -/
namespace Go.Proofs.Ytkmlgeicmnbkiaa
open Go.RowKit

set_option maxRecDepth 100000 in
set_option maxHeartbeats 400000 in
theorem of_any (B k : Nat) (b o ca : Nat) (ss : List ByteArray) (w : World) (hcur : Cur w B k) (hk : k ≤ 549755813888) (hne : b ≠ B) (hl0 : 0 < ss.length) (hl : ss.length ≤ 1048576) (hcs : ∀ j (h : j < ss.length), w.cell? ⟨b, o + j, none⟩ = some (.string ss[j])) :
    Calls Try.prog 97 #[.pointer (some ⟨B, 0, none⟩), .slice (some ⟨b, o, none⟩) ss.length ca] w fun e w' => ∃ s : ByteArray, e = .returned (.string s) ∧ s ∈ ss ∧ Cur w' B (k + 2) ∧ w.grownBy w' (some B) := by
  have HC := Lib.hid hcur
  have HCS := Lib.hid hcs
  clear hcur hcs
  go_enter Try.func97, Try.ntmps97
  go_wp2_with fail
  refine (pick_any B k ss.length _ HC.out hk (by omega)).mono ?_
  rintro e w1 ⟨r, rfl, ⟨hr0, hr1⟩, hc1, hg1⟩
  have hlt : r.toNat < ss.length := by omega
  have hr2 : r < (ss.length : Int) := by omega
  have hcell : w1.cell? ⟨b, o + r.toNat, none⟩ = some (.string ss[r.toNat]) := by
    rw [hg1.cell (HCS.out r.toNat hlt) (by simpa using hne)]
  have HC1 := Lib.hid hc1
  have HG1 := Lib.hid hg1
  have HM : Hid (ss[r.toNat] ∈ ss) := List.getElem_mem hlt
  clear hc1 hg1 hr1
  generalize ss[r.toNat] = z at *
  go_wp2_with fail
  go_ret
  exact ⟨_, rfl, HM.out, HC1.out, HG1.out⟩
def four9 : List ByteArray := [⟨#[115, 105, 120, 116, 101, 101, 110, 32, 98, 121, 116, 101, 115, 58, 32, 97]⟩, ⟨#[115, 105, 120, 116, 101, 101, 110, 32, 98, 121, 116, 101, 115, 58, 32, 98]⟩, ⟨#[48, 49, 50, 51, 52, 53, 54, 55, 56, 57, 97, 98, 99, 100, 101, 102]⟩, ⟨#[115, 104, 111, 114, 116]⟩]
theorem four9_size : ∀ s ∈ four9, s.size ≤ 16 := by
  intro s hs
  simp only [four9, List.mem_cons, List.not_mem_nil, or_false] at hs
  rcases hs with rfl | rfl | rfl | rfl <;> decide
set_option maxRecDepth 100000 in
set_option maxHeartbeats 400000 in
theorem sector9 (B k : Nat) (w : World) (hcur : Cur w B k) (hk : k ≤ 549755813888) :
    Calls Try.prog 68 #[.pointer (some ⟨B, 0, none⟩)] w fun e w' => ∃ s : ByteArray, e = .returned (.string s) ∧ s.size ≤ 16 ∧ Cur w' B (k + 2) ∧ w.grownBy w' (some B) := by
  have hB := hcur.lt
  have hlit : ∀ j (h : j < four9.length), (w.alloc (.cells #[.string ⟨#[115, 105, 120, 116, 101, 101, 110, 32, 98, 121, 116, 101, 115, 58, 32, 97]⟩, .string ⟨#[115, 105, 120, 116, 101, 101, 110, 32, 98, 121, 116, 101, 115, 58, 32, 98]⟩, .string ⟨#[48, 49, 50, 51, 52, 53, 54, 55, 56, 57, 97, 98, 99, 100, 101, 102]⟩, .string ⟨#[115, 104, 111, 114, 116]⟩] 9)).cell? ⟨w.heap.size, 0 + j, none⟩ = some (.string four9[j]) := fun j h => by
    rw [Nat.zero_add, cell_of_row _ w.heap.size j _ _ (0, 0) (heap_alloc_new w _)]
    have h4 : j < 4 := h
    rcases j with _ | _ | _ | _ | j
    · rfl
    · rfl
    · rfl
    · rfl
    · omega
  have HL := Lib.hid hlit
  have HC := Lib.hid (hcur.below (gAlloc w (.cells #[.string ⟨#[115, 105, 120, 116, 101, 101, 110, 32, 98, 121, 116, 101, 115, 58, 32, 97]⟩, .string ⟨#[115, 105, 120, 116, 101, 101, 110, 32, 98, 121, 116, 101, 115, 58, 32, 98]⟩, .string ⟨#[48, 49, 50, 51, 52, 53, 54, 55, 56, 57, 97, 98, 99, 100, 101, 102]⟩, .string ⟨#[115, 104, 111, 114, 116]⟩] 9)))
  have HG := Lib.hid (World.grownBy_alloc w (.cells #[.string ⟨#[115, 105, 120, 116, 101, 101, 110, 32, 98, 121, 116, 101, 115, 58, 32, 97]⟩, .string ⟨#[115, 105, 120, 116, 101, 101, 110, 32, 98, 121, 116, 101, 115, 58, 32, 98]⟩, .string ⟨#[48, 49, 50, 51, 52, 53, 54, 55, 56, 57, 97, 98, 99, 100, 101, 102]⟩, .string ⟨#[115, 104, 111, 114, 116]⟩] 9) (some B))
  clear hcur hlit
  go_enter Try.func68, Try.ntmps68
  go_wp2_with fail
  refine (of_any B k w.heap.size 0 4 four9 _ HC.out hk (by omega) (by decide) (by decide) HL.out).mono ?_
  rintro e w1 ⟨s, rfl, hs, hc1, hg1⟩
  have HS := Lib.hid (four9_size s hs)
  have HC1 := Lib.hid hc1
  have HG1 := Lib.hid (grownBy_trans HG.out hg1)
  clear hs hc1 hg1
  go_wp2_with fail
  go_ret
  exact ⟨_, rfl, HS.out, HC1.out, HG1.out⟩
theorem good_put {ss : List ByteArray} {ps : List (Int × ByteArray)} {k : Int} {y : ByteArray} (h : puOkB ss ps k y = true) : goodDB ss (ps ++ [(k, y)]) = true := by
  simp only [puOkB, Bool.and_eq_true, decide_eq_true_eq, Bool.not_eq_true', decide_eq_false_iff_not] at h
  obtain ⟨h1, h2, h3, h4⟩ := h
  have h1' := h1
  simp only [goodDB, Bool.and_eq_true, decide_eq_true_eq] at h1 ⊢
  refine ⟨h1.1, ?_, h1.2.2.1, ?_⟩
  · rw [List.all_append, h1.2.1]; simp [puB9, stB9, h2, h3]
  · rw [List.length_append]; simp; omega
theorem good_sync {ss : List ByteArray} {ps : List (Int × ByteArray)} (h : goodDB ss ps = true) : goodDB (syncL ss ps) [] = true := by
  obtain ⟨h1, h2, h3, h4⟩ := good_len h
  have hall : ∀ (qs : List (Int × ByteArray)) (s : List ByteArray), (∀ p ∈ qs, p.2.size = 16) → (∀ x ∈ s, x.size = 16) → ∀ x ∈ syncL s qs, x.size = 16 := by
    intro qs
    induction qs with
    | nil => intro s _ hs; exact hs
    | cons q qs ih =>
      intro s hq hs
      refine ih (s.set q.1.toNat q.2) (fun p hp => hq p (by simp [hp])) (fun x hx => ?_)
      rcases List.mem_or_eq_of_mem_set hx with hx | rfl
      · exact hs x hx
      · exact hq q (by simp)
  simp only [goodDB, Bool.and_eq_true, decide_eq_true_eq]
  refine ⟨List.all_eq_true.2 fun x hx => ?_, rfl, by rw [syncL_length]; exact h1, by simp⟩
  have := hall ps ss (fun p hp => (h4 p hp).2) h3 x hx
  simp [stB9, this]
theorem good_new : goodDB (List.replicate 12 zero16) [] = true := by decide +kernel
/-- What a drawn disk keeps while it is made: its two rows, in blocks of the call's own, neither of them block D. -/
structure Dk9 (w : World) (B base D : Nat) (k : Nat) (v1 v2 : Value) (ss : List ByteArray) (ps : List (Int × ByteArray)) : Prop where
  own : OwnD w base v1 v2 ss ps
  good : goodDB ss ps = true
  cur : Cur w B k
  off1 : ∀ g, v1.ownBlock = some g → g ≠ D
  off2 : ∀ g, v2.ownBlock = some g → g ≠ D
theorem lies1 {w : World} {base : Nat} {v1 v2 : Value} {ss : List ByteArray} {ps : List (Int × ByteArray)} (h : OwnD w base v1 v2 ss ps) : ∃ A B ca cb, v1 = .slice A ss.length ca ∧ v2 = .slice B ps.length cb ∧ Strs w A ss ∧ Puts w B ps ∧ Lies9 A ca ∧ Lies9 B cb := by
  obtain ⟨A, ca, rfl, _, hA⟩ := h.sure.form fSt_len
  obtain ⟨B, cb, rfl, _, hB⟩ := h.later.form fPu_len
  exact ⟨A, B, ca, cb, rfl, rfl, hA, hB, ownR_lies h.sure, ownR_lies h.later⟩
theorem disk_in {w : World} {A B : Option Addr} {ss : List ByteArray} {ps : List (Int × ByteArray)} (hA : Strs w A ss) (hB : Puts w B ps) (hg : goodDB ss ps = true) : DiskIn w A B ss ps := by
  obtain ⟨h1, h2, h3, h4⟩ := good_len hg
  exact ⟨hA, hB, by omega, by omega, fun s hs => by have := h3 s hs; omega, fun p hp => by have := (h4 p hp).2; omega⟩
theorem alloc_atD (w : World) (o : Obj) : (w.alloc o).drew.heap[w.heap.size]? = some o := heap_alloc_new w o
theorem sNewDisk_E (w : World) : Calls Try.prog 25 #[] w fun e w' => ∃ v1 v2 ss ps, e = .returned (diskV v1 v2) ∧ OwnD w' w.heap.size v1 v2 ss ps ∧ goodDB ss ps = true ∧ Below w.heap.size w w' :=
  (sNewDisk_D w).mono fun _ _ ⟨v1, v2, e, ho, hb⟩ => ⟨v1, v2, _, _, e, ho, good_new, hb⟩
/-- What lies ready in the midst of a round: the disk d in block D, a result x in block Y, the function's own result in block X. -/
structure Mid9 (w wx : World) (B X D Y k : Nat) (a1 a2 u1 u2 : Value) (ss : List ByteArray) (ps : List (Int × ByteArray)) (us : List ByteArray) (up : List (Int × ByteArray)) : Prop where
  box : wx.heap[Y]? = some (.cells #[u1, u2] 26 (0, 0))
  old : wx.heap[D]? = some (.cells #[a1, a2] 26 (0, 0))
  res : wx.heap[X]? = some (.cells #[.slice none 0 0, .slice none 0 0] 26 (0, 0))
  own : OwnD wx (X + 1) a1 a2 ss ps
  own2 : OwnD wx (X + 1) u1 u2 us up
  cur : Cur wx B k
  grown : w.grownBy wx (some B)
  ne : D ≠ Y
  off1 : ∀ g, u1.ownBlock = some g → g ≠ D
  off2 : ∀ g, u2.ownBlock = some g → g ≠ D
theorem grown_set9 {w w6 : World} {r : Option Nat} (h : w.grownBy w6 r) {Y : Nat} (hY : w.heap.size ≤ Y) (j : Nat) (v : Value) : w.grownBy (w6.setCell ⟨Y, j, none⟩ v) r :=
  ⟨h.os, h.tape, h.output, by simpa [World.setCell] using h.size, fun k hk hr => (heap_setCell_other w6 ⟨Y, j, none⟩ k _ (by show k ≠ Y; omega)).trans (h.block k hk hr)⟩
theorem grown_alloc9 {w w6 : World} {r : Option Nat} (h : w.grownBy w6 r) (o : Obj) : w.grownBy (w6.alloc o) r := grownBy_trans h (World.grownBy_alloc _ _ _)
theorem OwnD.set9 {w : World} {base : Nat} {v1 v2 : Value} {ss : List ByteArray} {ps : List (Int × ByteArray)} (h : OwnD w base v1 v2 ss ps) {Y : Nat} (h1 : ∀ g, v1.ownBlock = some g → g ≠ Y) (h2 : ∀ g, v2.ownBlock = some g → g ≠ Y) (j : Nat) (v : Value) : OwnD (w.setCell ⟨Y, j, none⟩ v) base v1 v2 ss ps :=
  ⟨h.sure.kept (gSet9 _ _ _ _) (Or.inr fun e => h1 _ e rfl), h.later.kept (gSet9 _ _ _ _) (Or.inr fun e => h2 _ e rfl), h.apart⟩
theorem OwnD.cur9 {w w' : World} {base B : Nat} {v1 v2 : Value} {ss : List ByteArray} {ps : List (Int × ByteArray)} (h : OwnD w base v1 v2 ss ps) (hB : B < base) (hg : w.grownBy w' (some B)) : OwnD w' base v1 v2 ss ps :=
  ⟨h.sure.cur hB hg, h.later.cur hB hg, h.apart⟩
/-- x laid into a new block last. -/
theorem mid_alloc9 {w w6 : World} {B X D k : Nat} {a1 a2 u1 u2 : Value} {ss : List ByteArray} {ps : List (Int × ByteArray)} {us : List ByteArray} {up : List (Int × ByteArray)} (old : w6.heap[D]? = some (.cells #[a1, a2] 26 (0, 0))) (res : w6.heap[X]? = some (.cells #[.slice none 0 0, .slice none 0 0] 26 (0, 0)))
    (own : OwnD w6 (X + 1) a1 a2 ss ps) (own2 : OwnD w6 (D + 1) u1 u2 us up) (hXD : X ≤ D) (cur : Cur w6 B k) (grown : w.grownBy w6 (some B)) :
    Mid9 w (w6.alloc (.cells #[u1, u2] 26)) B X D w6.heap.size k a1 a2 u1 u2 ss ps us up :=
  ⟨heap_alloc_new _ _, (heap_alloc_old _ _ _ (heap_lt old)).trans old, (heap_alloc_old _ _ _ (heap_lt res)).trans res, own.below (gAlloc _ _), (own2.below (gAlloc _ _)).lower (by omega), cur.below (gAlloc _ _), grown_alloc9 grown _, Nat.ne_of_lt (heap_lt old),
    fun g hg => by have := (own2.sure.lt g hg).1; omega, fun g hg => by have := (own2.later.lt g hg).1; omega⟩
/-- x stored into a block that was laid before. -/
theorem mid_put9 {w w6 : World} {B X D Y k : Nat} {a1 a2 u1 u2 : Value} {ss : List ByteArray} {ps : List (Int × ByteArray)} {us : List ByteArray} {up : List (Int × ByteArray)} (hY : w6.heap[Y]? = some (.cells #[.slice none 0 0, .slice none 0 0] 26 (0, 0))) (old : w6.heap[D]? = some (.cells #[a1, a2] 26 (0, 0))) (res : w6.heap[X]? = some (.cells #[.slice none 0 0, .slice none 0 0] 26 (0, 0)))
    (own : OwnD w6 (X + 1) a1 a2 ss ps) (ha1 : ∀ g, a1.ownBlock = some g → g ≠ Y) (ha2 : ∀ g, a2.ownBlock = some g → g ≠ Y) (own2 : OwnD w6 (Y + 1) u1 u2 us up) (hXD : X < D) (hDY : D < Y) (hBX : B < X) (hwX : w.heap.size ≤ X) (cur : Cur w6 B k) (grown : w.grownBy w6 (some B)) :
    Mid9 w ((w6.setCell ⟨Y, 0, none⟩ u1).setCell ⟨Y, 1, none⟩ u2) B X D Y k a1 a2 u1 u2 ss ps us up := by
  have hu1 : ∀ g, u1.ownBlock = some g → g ≠ Y := fun g hg => by have := (own2.sure.lt g hg).1; omega
  have hu2 : ∀ g, u2.ownBlock = some g → g ≠ Y := fun g hg => by have := (own2.later.lt g hg).1; omega
  exact ⟨heap_setCell_same _ _ 1 _ _ _ (heap_setCell_same _ _ 0 _ _ _ hY), (heap_setCell_other _ ⟨Y, 1, none⟩ D _ (by show D ≠ Y; omega)).trans ((heap_setCell_other _ ⟨Y, 0, none⟩ D _ (by show D ≠ Y; omega)).trans old), (heap_setCell_other _ ⟨Y, 1, none⟩ X _ (by show X ≠ Y; omega)).trans ((heap_setCell_other _ ⟨Y, 0, none⟩ X _ (by show X ≠ Y; omega)).trans res),
    (own.set9 ha1 ha2 _ _).set9 ha1 ha2 _ _, ((own2.set9 hu1 hu2 _ _).set9 hu1 hu2 _ _).lower (by omega), (cur.grown (gSet9 _ _ _ _) (fun g hg => by injection hg with hg; omega)).grown (gSet9 _ _ _ _) (fun g hg => by injection hg with hg; omega), grown_set9 (grown_set9 grown (by omega) _ _) (by omega) _ _, by omega,
    fun g hg => by have := (own2.sure.lt g hg).1; omega, fun g hg => by have := (own2.later.lt g hg).1; omega⟩
/-- What a round of drawing a disk begins with. -/
structure Rnd9 (w wr : World) (B X D k : Nat) (v1 v2 : Value) (ss : List ByteArray) (ps : List (Int × ByteArray)) : Prop where
  dk : Dk9 wr B (X + 1) D k v1 v2 ss ps
  old : wr.heap[D]? = some (.cells #[v1, v2] 26 (0, 0))
  res : wr.heap[X]? = some (.cells #[.slice none 0 0, .slice none 0 0] 26 (0, 0))
  grown : w.grownBy wr (some B)
theorem mid_keep {w wx : World} {B X D Y k : Nat} {a1 a2 u1 u2 : Value} {ss us : List ByteArray} {ps up : List (Int × ByteArray)} (h : Mid9 w wx B X D Y k a1 a2 u1 u2 ss ps us up) (hg : goodDB ss ps = true) (h1 : ∀ g, a1.ownBlock = some g → g ≠ D) (h2 : ∀ g, a2.ownBlock = some g → g ≠ D) : Rnd9 w wx B X D k a1 a2 ss ps :=
  ⟨⟨h.own, hg, h.cur, h1, h2⟩, h.old, h.res, h.grown⟩
theorem mid_take {w wx : World} {B X D Y k : Nat} {a1 a2 u1 u2 : Value} {ss us : List ByteArray} {ps up : List (Int × ByteArray)} (h : Mid9 w wx B X D Y k a1 a2 u1 u2 ss ps us up) (hg : goodDB us up = true) (hBX : B < X) (hXD : X < D) (hwX : w.heap.size ≤ X) : Rnd9 w ((wx.setCell ⟨D, 0, none⟩ u1).setCell ⟨D, 1, none⟩ u2) B X D k u1 u2 us up :=
  ⟨⟨(h.own2.set9 h.off1 h.off2 _ _).set9 h.off1 h.off2 _ _, hg, (h.cur.grown (gSet9 _ _ _ _) (fun g hg => by injection hg with hg; omega)).grown (gSet9 _ _ _ _) (fun g hg => by injection hg with hg; omega), h.off1, h.off2⟩, heap_setCell_same _ _ 1 _ _ _ (heap_setCell_same _ _ 0 _ _ _ h.old),
    (heap_setCell_other _ ⟨D, 1, none⟩ X _ (by show X ≠ D; omega)).trans ((heap_setCell_other _ ⟨D, 0, none⟩ X _ (by show X ≠ D; omega)).trans h.res), grown_set9 (grown_set9 h.grown (by omega) _ _) (by omega) _ _⟩
theorem mid_cur {w wx w' : World} {B X D Y k k' : Nat} {a1 a2 u1 u2 : Value} {ss us : List ByteArray} {ps up : List (Int × ByteArray)} (h : Mid9 w wx B X D Y k a1 a2 u1 u2 ss ps us up) (hg : wx.grownBy w' (some B)) (hc : Cur w' B k') (hBX : B < X) (hXD : X < D) (hBY : B < Y) : Mid9 w w' B X D Y k' a1 a2 u1 u2 ss ps us up :=
  ⟨(hg.block _ (heap_lt h.box) (by intro e; injection e with e; omega)).trans h.box, (hg.block _ (heap_lt h.old) (by intro e; injection e with e; omega)).trans h.old, (hg.block _ (heap_lt h.res) (by intro e; injection e with e; omega)).trans h.res, h.own.cur9 (by omega) hg, h.own2.cur9 (by omega) hg, hc, grownBy_trans h.grown hg, h.ne, h.off1, h.off2⟩
theorem sSync_E (A B : Option Addr) (ss : List ByteArray) (ps : List (Int × ByteArray)) (ca cb : Nat) (w : World) (hA : Strs w A ss) (hB : Puts w B ps) (hg : goodDB ss ps = true) (hl : Lies9 A ca) :
    Calls Try.prog 21 #[diskV (.slice A ss.length ca) (.slice B ps.length cb)] w fun e w' => ∃ v1 v2 us up, e = .returned (.tuple #[diskV v1 v2, .bool true]) ∧ OwnD w' w.heap.size v1 v2 us up ∧ goodDB us up = true ∧ Below w.heap.size w w' :=
  (sSync_D A B ss ps ca cb w (disk_in hA hB hg) hl).mono fun _ _ ⟨v1, v2, e, ho, hb⟩ => ⟨v1, v2, _, _, by rw [e, hg], ho, by rw [syI, if_pos hg]; exact good_sync hg, hb⟩
theorem good_yes {ss : List ByteArray} {ps : List (Int × ByteArray)} {k : Int} {y : ByteArray} (h : puOkB ss ps k y = true) : goodDB (puS ss ps k y) (puP ss ps k y) = true := by
  rw [(pu_yes h).1, (pu_yes h).2.1]; exact good_put h
theorem Dk9.mono {w : World} {B base D k k' : Nat} {v1 v2 : Value} {ss : List ByteArray} {ps : List (Int × ByteArray)} (h : Dk9 w B base D k v1 v2 ss ps) (hk : k ≤ k') : Dk9 w B base D k' v1 v2 ss ps := ⟨h.own, h.good, h.cur.mono hk, h.off1, h.off2⟩
theorem rnd_cur {w wr w' : World} {B X D k k' : Nat} {v1 v2 : Value} {ss : List ByteArray} {ps : List (Int × ByteArray)} (h : Rnd9 w wr B X D k v1 v2 ss ps) (hg : wr.grownBy w' (some B)) (hc : Cur w' B k') (hBX : B < X) (hXD : X < D) : Rnd9 w w' B X D k' v1 v2 ss ps :=
  ⟨⟨h.dk.own.cur9 (by omega) hg, h.dk.good, hc, h.dk.off1, h.dk.off2⟩, (hg.block _ (heap_lt h.old) (by intro e; injection e with e; omega)).trans h.old, (hg.block _ (heap_lt h.res) (by intro e; injection e with e; omega)).trans h.res, grownBy_trans h.grown hg⟩
set_option maxRecDepth 100000 in
set_option maxHeartbeats 8000000 in
theorem disk9 (B k : Nat) (w : World) (hcur : Cur w B k) (hk : k ≤ 68719476736) :
    Calls Try.prog 40 #[.pointer (some ⟨B, 0, none⟩)] w fun e w' => ∃ v1 v2 ss ps, e = .returned (diskV v1 v2) ∧ OwnD w' w.heap.size v1 v2 ss ps ∧ ss.length = 12 ∧ ps.length ≤ 41 ∧ (∀ s ∈ ss, s.size ≤ 16) ∧ (∀ p ∈ ps, p.2.size ≤ 16) ∧ Cur w' B (k + 100) ∧ w.grownBy w' (some B) := by
  have hB := hcur.lt
  have hR : Hid ((w.alloc (.cells #[.slice none 0 0, .slice none 0 0] 26)).heap[w.heap.size]? = some (.cells #[.slice none 0 0, .slice none 0 0] 26 (0, 0))) := heap_alloc_new _ _
  have HC := Lib.hid (hcur.below (gAlloc w (.cells #[.slice none 0 0, .slice none 0 0] 26)))
  have HG := Lib.hid (World.grownBy_alloc w (.cells #[.slice none 0 0, .slice none 0 0] 26) (some B))
  clear hcur
  go_enter Try.func40, Try.ntmps40
  go_wp2_with fail
  refine (sNewDisk_E _).mono ?_
  rintro e w1 ⟨v1, v2, ss0, ps0, rfl, ho1, hgd0, hb1⟩
  obtain ⟨A1, B1, c1, d1, rfl, rfl, -⟩ := lies1 ho1
  have HGd := Lib.hid hgd0
  clear hgd0
  obtain ⟨w2, hw2⟩ : ∃ w2, w1.alloc (.cells #[.slice A1 ss0.length c1, .slice B1 ps0.length d1] 26) = w2 := ⟨_, rfl⟩
  have hb2 : Below w1.heap.size w1 w2 := by rw [← hw2]; exact gAlloc _ _
  have hD2 : w2.heap[w1.heap.size]? = some (.cells #[.slice A1 ss0.length c1, .slice B1 ps0.length d1] 26 (0, 0)) := by rw [← hw2]; exact heap_alloc_new _ _
  have hs1 := hb1.size
  rw [World.heap_size_alloc9] at hs1
  have HR2 : Hid (w2.heap[w.heap.size]? = some (.cells #[.slice none 0 0, .slice none 0 0] 26 (0, 0))) := (hb2.block _ (by omega)).trans ((hb1.block _ (by rw [World.heap_size_alloc9]; omega)).trans hR.out)
  have HI2 : Hid (Dk9 w2 B (w.heap.size + 1) w1.heap.size (k + 20) (.slice A1 ss0.length c1) (.slice B1 ps0.length d1) ss0 ps0) :=
    ⟨(ho1.below hb2).lower (by rw [World.heap_size_alloc9]; omega), HGd.out, (((HC.out.below hb1).below hb2).mono (show k ≤ k + 20 by omega)), fun g hg => Nat.ne_of_lt (ho1.sure.lt g hg).2, fun g hg => Nat.ne_of_lt (ho1.later.lt g hg).2⟩
  have HG2 : Hid (w.grownBy w2 (some B)) := grownBy_trans HG.out (gBelowR (below_more hb1 hb2) _)
  have HD2 := Lib.hid hD2
  have hDn : w.heap.size + 1 ≤ w1.heap.size := hs1
  clear ho1 hb1 hb2 hD2 HC HG hR
  go_wp2_with fail
  refine (pick_any B (k + 20) 10 _ HI2.out.cur (by omega) (by omega)).mono ?_
  rintro e w3 ⟨r, rfl, ⟨hr0, hr1⟩, hc3, hg3⟩
  obtain ⟨r, rfl⟩ := Int.eq_ofNat_of_zero_le hr0
  have hr9 : r ≤ 9 := by omega
  have HX := Lib.hid (show B < w.heap.size from hB)
  have hlt2 := heap_lt HD2.out
  have HR3 : Hid (w3.heap[w.heap.size]? = some (.cells #[.slice none 0 0, .slice none 0 0] 26 (0, 0))) := (hg3.block _ (heap_lt HR2.out) (by intro e; injection e with e; omega)).trans HR2.out
  have HD3 : Hid (w3.heap[w1.heap.size]? = some (.cells #[.slice A1 ss0.length c1, .slice B1 ps0.length d1] 26 (0, 0))) := (hg3.block _ hlt2 (by intro e; injection e with e; omega)).trans HD2.out
  have HI3 : Hid (Dk9 w3 B (w.heap.size + 1) w1.heap.size (k + 90 - 6 * r) (.slice A1 ss0.length c1) (.slice B1 ps0.length d1) ss0 ps0) :=
    ⟨⟨HI2.out.own.sure.cur (by omega) hg3, HI2.out.own.later.cur (by omega) hg3, HI2.out.own.apart⟩, HGd.out, hc3.mono (by omega), HI2.out.off1, HI2.out.off2⟩
  have HG3 := Lib.hid (grownBy_trans HG2.out hg3)
  clear hc3 hg3 HI2 HR2 HD2 HG2 hr0 hr1 hlt2 hw2
  go_wp2_with fail
  go_loopg [4] r (fun gk i wr => ∃ v1 v2 ss ps, i = .int .i64 (gk : Nat) ∧ gk ≤ 9 ∧ Dk9 wr B (w.heap.size + 1) w1.heap.size (k + 90 - 6 * gk) v1 v2 ss ps ∧ wr.heap[w1.heap.size]? = some (.cells #[v1, v2] 26 (0, 0)) ∧ wr.heap[w.heap.size]? = some (.cells #[.slice none 0 0, .slice none 0 0] 26 (0, 0)) ∧ w.grownBy wr (some B))
  case atStart => exact ⟨_, _, _, _, rfl, hr9, HI3.out, HD3.out, HR3.out, HG3.out⟩
  case round =>
    obtain ⟨v1, v2, ss, ps, rfl, hgk, hI, hD, hR, hG⟩ := hrel
    obtain ⟨A, E, ca, ce, rfl, rfl, hA, hE, hlA, hlE⟩ := lies1 hI.own
    have HI := Lib.hid hI
    have HD := Lib.hid hD
    have HR := Lib.hid hR
    have HG := Lib.hid hG
    have hDl := heap_lt hD
    have hc0 : wr.cell? ⟨w1.heap.size, 0, none⟩ = some (.slice A ss.length ca) := cell_of_row _ _ 0 _ _ _ hD
    have hc1 : wr.cell? ⟨w1.heap.size, 1, none⟩ = some (.slice E ps.length ce) := cell_of_row _ _ 1 _ _ _ hD
    have HA := Lib.hid hA
    have HE := Lib.hid hE
    clear hI hD hR hG hA hE HI3 HD3 HR3 HG3
    by_cases hlt : 0 < gk
    · have hgi : (0 : Int) < (gk : Int) := by omega
      go_wp2_with fail
      have hnx : w1.heap.size ≠ wr.heap.size := by omega
      have hnx' : wr.heap.size ≠ w1.heap.size := by omega
      go_region_held3 (fun w' => w'.cell? ⟨w1.heap.size, 0, none⟩ = some (.slice A ss.length ca) ∧ w'.cell? ⟨w1.heap.size, 1, none⟩ = some (.slice E ps.length ce)) (first | exact ⟨hc0, hc1⟩ | exact hq6 | exact hq5 | exact hq4 | go_keep) (first
        | (go_at_call 42; refine (pick_any B (k + 90 - 6 * gk) 5 _ (by first | exact HI.out.cur.below gDrew | exact HI.out.cur.below (below_more (gAlloc _ _) gDrew)) (by omega) (by omega)).mono ?_; rintro e w4 ⟨x4, rfl, hx4, hc4, hg4⟩; have hq4 : w4.cell? ⟨w1.heap.size, 0, none⟩ = some (.slice A ss.length ca) ∧ w4.cell? ⟨w1.heap.size, 1, none⟩ = some (.slice E ps.length ce) := ⟨hg4.cell (by apply And.left; assumption) (by show some w1.heap.size ≠ some B; intro e; injection e with e; omega), hg4.cell (by apply And.right; assumption) (by show some w1.heap.size ≠ some B; intro e; injection e with e; omega)⟩; have ht4 : wr.grownBy w4 (some B) := grownBy_trans (gBelowR (by first | exact gDrew | exact below_more (gAlloc _ _) gDrew) _) hg4; have hl4 := ht4.size; have hny : w1.heap.size ≠ w4.heap.size := (by omega); have hny' : w4.heap.size ≠ w1.heap.size := (by omega); (try (have hxb4 : w4.heap[wr.heap.size]? = some (.cells #[.slice none 0 0, .slice none 0 0] 26 (0, 0)) := (hg4.block _ (Nat.lt_of_lt_of_eq (Nat.lt_succ_self _) (World.heap_size_alloc9 wr _).symm) (by intro e; injection e with e; omega)).trans (alloc_atD _ _))))
        | (go_at_call 68; refine (sector9 B (k + 90 - 6 * gk + 2) _ (by first | exact hc4 | exact hc4.below (gAlloc _ _)) (by omega)).mono ?_; rintro e w5 ⟨s5, rfl, hs5, hc5, hg5⟩; have hq5 : w5.cell? ⟨w1.heap.size, 0, none⟩ = some (.slice A ss.length ca) ∧ w5.cell? ⟨w1.heap.size, 1, none⟩ = some (.slice E ps.length ce) := ⟨hg5.cell (by apply And.left; assumption) (by show some w1.heap.size ≠ some B; intro e; injection e with e; omega), hg5.cell (by apply And.right; assumption) (by show some w1.heap.size ≠ some B; intro e; injection e with e; omega)⟩; have ht5 : wr.grownBy w5 (some B) := grownBy_trans ht4 (by first | exact hg5 | exact grownBy_trans (World.grownBy_alloc _ _ _) hg5); have hl5 := ht5.size; have hnz : w1.heap.size ≠ w5.heap.size := (by omega); have hnz' : w5.heap.size ≠ w1.heap.size := (by omega); (try (have hxb5 : w5.heap[wr.heap.size]? = some (.cells #[.slice none 0 0, .slice none 0 0] 26 (0, 0)) := (hg5.block _ (heap_lt hxb4) (by intro e; injection e with e; omega)).trans hxb4)); (try (have hyb5 : w5.heap[w4.heap.size]? = some (.cells #[.slice none 0 0, .slice none 0 0] 26 (0, 0)) := (hg5.block _ (Nat.lt_of_lt_of_eq (Nat.lt_succ_self _) (World.heap_size_alloc9 w4 _).symm) (by intro e; injection e with e; have := ht4.size; omega)).trans (heap_alloc_new _ _))))
        | (go_at_call 28; refine (sPut_any A E ss ps ca ce x4 s5 _ (disk_in (OwnR.rd fSt_len (HI.out.own.sure.cur (show B < w.heap.size + 1 by omega) (by first | exact ht5 | exact grownBy_trans ht5 (World.grownBy_alloc _ _ _)))) (OwnR.rd fPu_len (HI.out.own.later.cur (show B < w.heap.size + 1 by omega) (by first | exact ht5 | exact grownBy_trans ht5 (World.grownBy_alloc _ _ _)))) HI.out.good) hlA hlE).mono ?_; rintro e w6 ⟨u1, u2, rfl, ho6, hb6⟩; obtain ⟨A6, E6, ca6, ce6, rfl, rfl, -⟩ := lies1 ho6; have ht6 : wr.grownBy w6 (some B) := grownBy_trans (show wr.grownBy _ (some B) by first | exact ht5 | exact grownBy_trans ht5 (World.grownBy_alloc _ _ _)) (gBelowR hb6 _); have hc6 : Cur w6 B (k + 90 - 6 * gk + 2 + 2) := (by first | exact hc5.below hb6 | exact (hc5.below (gAlloc _ _)).below hb6); have hq6 : w6.cell? ⟨w1.heap.size, 0, none⟩ = some (.slice A ss.length ca) ∧ w6.cell? ⟨w1.heap.size, 1, none⟩ = some (.slice E ps.length ce) := ⟨(hb6.cell (World.block_lt_of_cell? _ _ (by apply And.left; assumption))).trans (by apply And.left; assumption), (hb6.cell (World.block_lt_of_cell? _ _ (by apply And.right; assumption))).trans (by apply And.right; assumption)⟩; (try (have hxb6 : w6.heap[wr.heap.size]? = some (.cells #[.slice none 0 0, .slice none 0 0] 26 (0, 0)) := (hb6.block _ (heap_lt hxb5)).trans hxb5)); (try (have hyb6 : w6.heap[w4.heap.size]? = some (.cells #[.slice none 0 0, .slice none 0 0] 26 (0, 0)) := (hb6.block _ (heap_lt hyb5)).trans hyb5)); (try (have hzb6 : w6.heap[w5.heap.size]? = some (.cells #[.slice none 0 0, .slice none 0 0] 26 (0, 0)) := (hb6.block _ (Nat.lt_of_lt_of_eq (Nat.lt_succ_self _) (World.heap_size_alloc9 w5 _).symm)).trans (heap_alloc_new _ _))); (try (have px0 : w6.cell? ⟨wr.heap.size, 0, none⟩ = some (.slice none 0 0) := cell_of_row _ _ 0 _ _ _ hxb6; have px1 : w6.cell? ⟨wr.heap.size, 1, none⟩ = some (.slice none 0 0) := cell_of_row _ _ 1 _ _ _ hxb6; have fx0 := frozen_of_row w6 _ 0 _ _ hxb6; have fx1 := frozen_of_row w6 _ 1 _ _ hxb6)); (try (have py0 : w6.cell? ⟨w4.heap.size, 0, none⟩ = some (.slice none 0 0) := cell_of_row _ _ 0 _ _ _ hyb6; have py1 : w6.cell? ⟨w4.heap.size, 1, none⟩ = some (.slice none 0 0) := cell_of_row _ _ 1 _ _ _ hyb6; have fy0 := frozen_of_row w6 _ 0 _ _ hyb6; have fy1 := frozen_of_row w6 _ 1 _ _ hyb6)); (try (have pz0 : w6.cell? ⟨w5.heap.size, 0, none⟩ = some (.slice none 0 0) := cell_of_row _ _ 0 _ _ _ hzb6; have pz1 : w6.cell? ⟨w5.heap.size, 1, none⟩ = some (.slice none 0 0) := cell_of_row _ _ 1 _ _ _ hzb6; have fz0 := frozen_of_row w6 _ 0 _ _ hzb6; have fz1 := frozen_of_row w6 _ 1 _ _ hzb6))))
      all_goals
        have hO6 : w6.heap[w1.heap.size]? = some (.cells #[.slice A ss.length ca, .slice E ps.length ce] 26 (0, 0)) := (ht6.block _ hDl (by intro e; injection e with e; omega)).trans HD.out
        have hR6 : w6.heap[w.heap.size]? = some (.cells #[.slice none 0 0, .slice none 0 0] 26 (0, 0)) := (ht6.block _ (heap_lt HR.out) (by intro e; injection e with e; omega)).trans HR.out
        have hw6 := HI.out.own.cur9 (show B < w.heap.size + 1 by omega) ht6
        have hg6 := grownBy_trans HG.out ht6
        have hoff1 : ∀ Z, wr.heap.size ≤ Z → ∀ g, (Value.slice A ss.length ca).ownBlock = some g → g ≠ Z := fun Z hZ g hg => by have := (HI.out.own.sure.lt g hg).2; omega
        have hoff2 : ∀ Z, wr.heap.size ≤ Z → ∀ g, (Value.slice E ps.length ce).ownBlock = some g → g ≠ Z := fun Z hZ g hg => by have := (HI.out.own.later.lt g hg).2; omega
      · have HM := Lib.hid (mid_alloc9 hO6 hR6 hw6 (ho6.lower (by omega)) (by omega) hc6 hg6)
        have HOa := Lib.hid HI.out.off1
        have HOb := Lib.hid HI.out.off2
        have HGa := Lib.hid HI.out.good
        have y0 : (w6.alloc (.cells #[.slice A6 (puS ss ps x4 s5).length ca6, .slice E6 (puP ss ps x4 s5).length ce6] 26)).cell? ⟨w6.heap.size, 0, none⟩ = some (.slice A6 (puS ss ps x4 s5).length ca6) := cell_of_row _ _ 0 _ _ _ HM.out.box
        have y1 : (w6.alloc (.cells #[.slice A6 (puS ss ps x4 s5).length ca6, .slice E6 (puP ss ps x4 s5).length ce6] 26)).cell? ⟨w6.heap.size, 1, none⟩ = some (.slice E6 (puP ss ps x4 s5).length ce6) := cell_of_row _ _ 1 _ _ _ HM.out.box
        have d0 : (w6.alloc (.cells #[.slice A6 (puS ss ps x4 s5).length ca6, .slice E6 (puP ss ps x4 s5).length ce6] 26)).cell? ⟨w1.heap.size, 0, none⟩ = some (.slice A ss.length ca) := cell_of_row _ _ 0 _ _ _ HM.out.old
        have d1 : (w6.alloc (.cells #[.slice A6 (puS ss ps x4 s5).length ca6, .slice E6 (puP ss ps x4 s5).length ce6] 26)).cell? ⟨w1.heap.size, 1, none⟩ = some (.slice E ps.length ce) := cell_of_row _ _ 1 _ _ _ HM.out.old
        have f0 := frozen_of_row (w6.alloc (.cells #[.slice A6 (puS ss ps x4 s5).length ca6, .slice E6 (puP ss ps x4 s5).length ce6] 26)) _ 0 _ _ HM.out.old
        have f1 := frozen_of_row (w6.alloc (.cells #[.slice A6 (puS ss ps x4 s5).length ca6, .slice E6 (puP ss ps x4 s5).length ce6] 26)) _ 1 _ _ HM.out.old
        have HGp := Lib.hid (fun h => good_yes (ss := ss) (ps := ps) (k := x4) (y := s5) h)
        clear hO6 hR6 hw6 hg6 hoff1 hoff2 ho6 hb6 hq6 hq5 hq4 ht4 ht5 ht6 hc4 hc5 hc6 hg4 hg5 hny hny' hnz hnz' hnx hnx' hx4 hs5 hc0 hc1
        generalize w6.alloc (.cells #[.slice A6 (puS ss ps x4 s5).length ca6, .slice E6 (puP ss ps x4 s5).length ce6] 26) = wx at *
        generalize (puS ss ps x4 s5) = us at *
        generalize (puP ss ps x4 s5) = up at *
        cases hok : puOkB ss ps x4 s5
        · have HR8 := Lib.hid (mid_keep HM.out HGa.out HOa.out HOb.out)
          have HS8 := Lib.hid (sSync_E A E ss ps ca ce wx (OwnR.rd fSt_len HR8.out.dk.own.sure) (OwnR.rd fPu_len HR8.out.dk.own.later) HR8.out.dk.good (ownR_lies HR8.out.dk.own.sure))
          have e0 : (wx).cell? ⟨w1.heap.size, 0, none⟩ = some (.slice A ss.length ca) := cell_of_row _ _ 0 _ _ _ HR8.out.old
          have e1 : (wx).cell? ⟨w1.heap.size, 1, none⟩ = some (.slice E ps.length ce) := cell_of_row _ _ 1 _ _ _ HR8.out.old
          clear y0 y1 f0 f1 d0 d1
          go_wp2_with fail
          refine HS8.out.mono ?_
          rintro e w9 ⟨s1, s2, us9, up9, rfl, ho9, hgd9, hb9⟩
          obtain ⟨A9, E9, ca9, ce9, rfl, rfl, -⟩ := lies1 ho9
          have hs9 := hb9.size
          have hd9 := heap_lt HR8.out.old
          have HM9 := Lib.hid (mid_alloc9 ((hb9.block _ (heap_lt HR8.out.old)).trans HR8.out.old) ((hb9.block _ (heap_lt HR8.out.res)).trans HR8.out.res) (HR8.out.dk.own.below hb9) (ho9.lower hd9) (by omega) (HR8.out.dk.cur.below hb9) (grownBy_trans HR8.out.grown (gBelowR hb9 _)))
          have HG9 := Lib.hid hgd9
          have HO1 := Lib.hid HR8.out.dk.off1
          have HO2 := Lib.hid HR8.out.dk.off2
          have HGd8 := Lib.hid HR8.out.dk.good
          obtain ⟨wy, hwy⟩ : ∃ wy, w9.alloc (.cells #[.slice A9 us9.length ca9, .slice E9 up9.length ce9] 26) = wy := ⟨_, rfl⟩
          rw [hwy] at HM9
          clear hgd9 ho9 hb9 HS8 e0 e1 HR8
          go_wp2_with fail
          refine (one_any B _ 6 _ HM9.out.cur (by omega) (by omega)).mono ?_
          rintro e w10 ⟨b10, rfl, hc10, hg10⟩
          have HM10 := Lib.hid (mid_cur HM9.out hg10 hc10 hB (by omega) (by omega))
          have hb10 := heap_lt HM10.out.box
          have y0 : w10.cell? ⟨w9.heap.size, 0, none⟩ = some (.slice A9 us9.length ca9) := cell_of_row _ _ 0 _ _ _ HM10.out.box
          have y1 : w10.cell? ⟨w9.heap.size, 1, none⟩ = some (.slice E9 up9.length ce9) := cell_of_row _ _ 1 _ _ _ HM10.out.box
          have d0 : w10.cell? ⟨w1.heap.size, 0, none⟩ = some (.slice A ss.length ca) := cell_of_row _ _ 0 _ _ _ HM10.out.old
          have d1 : w10.cell? ⟨w1.heap.size, 1, none⟩ = some (.slice E ps.length ce) := cell_of_row _ _ 1 _ _ _ HM10.out.old
          have f0 := frozen_of_row w10 _ 0 _ _ HM10.out.old
          have f1 := frozen_of_row w10 _ 1 _ _ HM10.out.old
          have hdy : w1.heap.size ≠ w9.heap.size := by omega
          clear hwy hc10 hg10 HM9
          cases b10
          · have HF := Lib.hid (mid_keep HM10.out HGd8.out HO1.out HO2.out)
            go_wp2_with fail
            go_roundg (gk - 1)
            case measure => omega
            case rel => exact ⟨_, _, _, _, by go_num, by omega, HF.out.dk.mono (by omega), HF.out.old, HF.out.res, HF.out.grown⟩
          · have HF := Lib.hid (mid_take HM10.out HG9.out hB (by omega) (Nat.le_refl _))
            go_wp2_with fail
            go_roundg (gk - 1)
            case measure => omega
            case rel => exact ⟨_, _, _, _, by go_num, by omega, HF.out.dk.mono (by omega), HF.out.old, HF.out.res, HF.out.grown⟩
        · have HR8 := Lib.hid (mid_take HM.out (HGp.out hok) hB (by omega) (Nat.le_refl _))
          have HS8 := Lib.hid (sSync_E A6 E6 us up ca6 ce6 ((wx.setCell ⟨w1.heap.size, 0, none⟩ (.slice A6 us.length ca6)).setCell ⟨w1.heap.size, 1, none⟩ (.slice E6 up.length ce6)) (OwnR.rd fSt_len HR8.out.dk.own.sure) (OwnR.rd fPu_len HR8.out.dk.own.later) HR8.out.dk.good (ownR_lies HR8.out.dk.own.sure))
          have e0 : ((wx.setCell ⟨w1.heap.size, 0, none⟩ (.slice A6 us.length ca6)).setCell ⟨w1.heap.size, 1, none⟩ (.slice E6 up.length ce6)).cell? ⟨w1.heap.size, 0, none⟩ = some (.slice A6 us.length ca6) := cell_of_row _ _ 0 _ _ _ HR8.out.old
          have e1 : ((wx.setCell ⟨w1.heap.size, 0, none⟩ (.slice A6 us.length ca6)).setCell ⟨w1.heap.size, 1, none⟩ (.slice E6 up.length ce6)).cell? ⟨w1.heap.size, 1, none⟩ = some (.slice E6 up.length ce6) := cell_of_row _ _ 1 _ _ _ HR8.out.old
          clear e0 e1
          go_wp2_with fail
          refine HS8.out.mono ?_
          rintro e w9 ⟨s1, s2, us9, up9, rfl, ho9, hgd9, hb9⟩
          obtain ⟨A9, E9, ca9, ce9, rfl, rfl, -⟩ := lies1 ho9
          have hs9 := hb9.size
          have hd9 := heap_lt HR8.out.old
          have HM9 := Lib.hid (mid_alloc9 ((hb9.block _ (heap_lt HR8.out.old)).trans HR8.out.old) ((hb9.block _ (heap_lt HR8.out.res)).trans HR8.out.res) (HR8.out.dk.own.below hb9) (ho9.lower hd9) (by omega) (HR8.out.dk.cur.below hb9) (grownBy_trans HR8.out.grown (gBelowR hb9 _)))
          have HG9 := Lib.hid hgd9
          have HO1 := Lib.hid HR8.out.dk.off1
          have HO2 := Lib.hid HR8.out.dk.off2
          have HGd8 := Lib.hid HR8.out.dk.good
          obtain ⟨wy, hwy⟩ : ∃ wy, w9.alloc (.cells #[.slice A9 us9.length ca9, .slice E9 up9.length ce9] 26) = wy := ⟨_, rfl⟩
          rw [hwy] at HM9
          clear hgd9 ho9 hb9 HS8 HR8
          go_wp2_with fail
          refine (one_any B _ 6 _ HM9.out.cur (by omega) (by omega)).mono ?_
          rintro e w10 ⟨b10, rfl, hc10, hg10⟩
          have HM10 := Lib.hid (mid_cur HM9.out hg10 hc10 hB (by omega) (by omega))
          have hb10 := heap_lt HM10.out.box
          have y0 : w10.cell? ⟨w9.heap.size, 0, none⟩ = some (.slice A9 us9.length ca9) := cell_of_row _ _ 0 _ _ _ HM10.out.box
          have y1 : w10.cell? ⟨w9.heap.size, 1, none⟩ = some (.slice E9 up9.length ce9) := cell_of_row _ _ 1 _ _ _ HM10.out.box
          have d0 : w10.cell? ⟨w1.heap.size, 0, none⟩ = some (.slice A6 us.length ca6) := cell_of_row _ _ 0 _ _ _ HM10.out.old
          have d1 : w10.cell? ⟨w1.heap.size, 1, none⟩ = some (.slice E6 up.length ce6) := cell_of_row _ _ 1 _ _ _ HM10.out.old
          have f0 := frozen_of_row w10 _ 0 _ _ HM10.out.old
          have f1 := frozen_of_row w10 _ 1 _ _ HM10.out.old
          have hdy : w1.heap.size ≠ w9.heap.size := by omega
          clear hwy hc10 hg10 HM9
          cases b10
          · have HF := Lib.hid (mid_keep HM10.out HGd8.out HO1.out HO2.out)
            go_wp2_with fail
            go_roundg (gk - 1)
            case measure => omega
            case rel => exact ⟨_, _, _, _, by go_num, by omega, HF.out.dk.mono (by omega), HF.out.old, HF.out.res, HF.out.grown⟩
          · have HF := Lib.hid (mid_take HM10.out HG9.out hB (by omega) (Nat.le_refl _))
            go_wp2_with fail
            go_roundg (gk - 1)
            case measure => omega
            case rel => exact ⟨_, _, _, _, by go_num, by omega, HF.out.dk.mono (by omega), HF.out.old, HF.out.res, HF.out.grown⟩
      · have HM := Lib.hid (mid_put9 hzb6 hO6 hR6 hw6 (hoff1 _ (by omega)) (hoff2 _ (by omega)) (ho6.lower (by rw [World.heap_size_alloc9]; exact Nat.le_refl _)) (by omega) (by omega) hB (Nat.le_refl _) hc6 hg6)
        have HOa := Lib.hid HI.out.off1
        have HOb := Lib.hid HI.out.off2
        have HGa := Lib.hid HI.out.good
        have y0 : ((w6.setCell ⟨w5.heap.size, 0, none⟩ (.slice A6 (puS ss ps x4 s5).length ca6)).setCell ⟨w5.heap.size, 1, none⟩ (.slice E6 (puP ss ps x4 s5).length ce6)).cell? ⟨w5.heap.size, 0, none⟩ = some (.slice A6 (puS ss ps x4 s5).length ca6) := cell_of_row _ _ 0 _ _ _ HM.out.box
        have y1 : ((w6.setCell ⟨w5.heap.size, 0, none⟩ (.slice A6 (puS ss ps x4 s5).length ca6)).setCell ⟨w5.heap.size, 1, none⟩ (.slice E6 (puP ss ps x4 s5).length ce6)).cell? ⟨w5.heap.size, 1, none⟩ = some (.slice E6 (puP ss ps x4 s5).length ce6) := cell_of_row _ _ 1 _ _ _ HM.out.box
        have d0 : ((w6.setCell ⟨w5.heap.size, 0, none⟩ (.slice A6 (puS ss ps x4 s5).length ca6)).setCell ⟨w5.heap.size, 1, none⟩ (.slice E6 (puP ss ps x4 s5).length ce6)).cell? ⟨w1.heap.size, 0, none⟩ = some (.slice A ss.length ca) := cell_of_row _ _ 0 _ _ _ HM.out.old
        have d1 : ((w6.setCell ⟨w5.heap.size, 0, none⟩ (.slice A6 (puS ss ps x4 s5).length ca6)).setCell ⟨w5.heap.size, 1, none⟩ (.slice E6 (puP ss ps x4 s5).length ce6)).cell? ⟨w1.heap.size, 1, none⟩ = some (.slice E ps.length ce) := cell_of_row _ _ 1 _ _ _ HM.out.old
        have f0 := frozen_of_row ((w6.setCell ⟨w5.heap.size, 0, none⟩ (.slice A6 (puS ss ps x4 s5).length ca6)).setCell ⟨w5.heap.size, 1, none⟩ (.slice E6 (puP ss ps x4 s5).length ce6)) _ 0 _ _ HM.out.old
        have f1 := frozen_of_row ((w6.setCell ⟨w5.heap.size, 0, none⟩ (.slice A6 (puS ss ps x4 s5).length ca6)).setCell ⟨w5.heap.size, 1, none⟩ (.slice E6 (puP ss ps x4 s5).length ce6)) _ 1 _ _ HM.out.old
        have HGp := Lib.hid (fun h => good_yes (ss := ss) (ps := ps) (k := x4) (y := s5) h)
        clear hO6 hR6 hw6 hg6 hoff1 hoff2 ho6 hb6 hq6 hq5 hq4 ht4 ht5 ht6 hc4 hc5 hc6 hg4 hg5 hny hny' hnz hnz' hnx hnx' hx4 hs5 hc0 hc1 hzb6 pz0 pz1 fz0 fz1
        generalize (w6.setCell ⟨w5.heap.size, 0, none⟩ (.slice A6 (puS ss ps x4 s5).length ca6)).setCell ⟨w5.heap.size, 1, none⟩ (.slice E6 (puP ss ps x4 s5).length ce6) = wx at *
        generalize (puS ss ps x4 s5) = us at *
        generalize (puP ss ps x4 s5) = up at *
        cases hok : puOkB ss ps x4 s5
        · have HR8 := Lib.hid (mid_keep HM.out HGa.out HOa.out HOb.out)
          have HS8 := Lib.hid (sSync_E A E ss ps ca ce wx (OwnR.rd fSt_len HR8.out.dk.own.sure) (OwnR.rd fPu_len HR8.out.dk.own.later) HR8.out.dk.good (ownR_lies HR8.out.dk.own.sure))
          have e0 : (wx).cell? ⟨w1.heap.size, 0, none⟩ = some (.slice A ss.length ca) := cell_of_row _ _ 0 _ _ _ HR8.out.old
          have e1 : (wx).cell? ⟨w1.heap.size, 1, none⟩ = some (.slice E ps.length ce) := cell_of_row _ _ 1 _ _ _ HR8.out.old
          clear y0 y1 f0 f1 d0 d1
          go_wp2_with fail
          refine HS8.out.mono ?_
          rintro e w9 ⟨s1, s2, us9, up9, rfl, ho9, hgd9, hb9⟩
          obtain ⟨A9, E9, ca9, ce9, rfl, rfl, -⟩ := lies1 ho9
          have hs9 := hb9.size
          have hd9 := heap_lt HR8.out.old
          have HM9 := Lib.hid (mid_alloc9 ((hb9.block _ (heap_lt HR8.out.old)).trans HR8.out.old) ((hb9.block _ (heap_lt HR8.out.res)).trans HR8.out.res) (HR8.out.dk.own.below hb9) (ho9.lower hd9) (by omega) (HR8.out.dk.cur.below hb9) (grownBy_trans HR8.out.grown (gBelowR hb9 _)))
          have HG9 := Lib.hid hgd9
          have HO1 := Lib.hid HR8.out.dk.off1
          have HO2 := Lib.hid HR8.out.dk.off2
          have HGd8 := Lib.hid HR8.out.dk.good
          obtain ⟨wy, hwy⟩ : ∃ wy, w9.alloc (.cells #[.slice A9 us9.length ca9, .slice E9 up9.length ce9] 26) = wy := ⟨_, rfl⟩
          rw [hwy] at HM9
          clear hgd9 ho9 hb9 HS8 e0 e1 HR8
          go_wp2_with fail
          refine (one_any B _ 6 _ HM9.out.cur (by omega) (by omega)).mono ?_
          rintro e w10 ⟨b10, rfl, hc10, hg10⟩
          have HM10 := Lib.hid (mid_cur HM9.out hg10 hc10 hB (by omega) (by omega))
          have hb10 := heap_lt HM10.out.box
          have y0 : w10.cell? ⟨w9.heap.size, 0, none⟩ = some (.slice A9 us9.length ca9) := cell_of_row _ _ 0 _ _ _ HM10.out.box
          have y1 : w10.cell? ⟨w9.heap.size, 1, none⟩ = some (.slice E9 up9.length ce9) := cell_of_row _ _ 1 _ _ _ HM10.out.box
          have d0 : w10.cell? ⟨w1.heap.size, 0, none⟩ = some (.slice A ss.length ca) := cell_of_row _ _ 0 _ _ _ HM10.out.old
          have d1 : w10.cell? ⟨w1.heap.size, 1, none⟩ = some (.slice E ps.length ce) := cell_of_row _ _ 1 _ _ _ HM10.out.old
          have f0 := frozen_of_row w10 _ 0 _ _ HM10.out.old
          have f1 := frozen_of_row w10 _ 1 _ _ HM10.out.old
          have hdy : w1.heap.size ≠ w9.heap.size := by omega
          clear hwy hc10 hg10 HM9
          cases b10
          · have HF := Lib.hid (mid_keep HM10.out HGd8.out HO1.out HO2.out)
            go_wp2_with fail
            go_roundg (gk - 1)
            case measure => omega
            case rel => exact ⟨_, _, _, _, by go_num, by omega, HF.out.dk.mono (by omega), HF.out.old, HF.out.res, HF.out.grown⟩
          · have HF := Lib.hid (mid_take HM10.out HG9.out hB (by omega) (Nat.le_refl _))
            go_wp2_with fail
            go_roundg (gk - 1)
            case measure => omega
            case rel => exact ⟨_, _, _, _, by go_num, by omega, HF.out.dk.mono (by omega), HF.out.old, HF.out.res, HF.out.grown⟩
        · have HR8 := Lib.hid (mid_take HM.out (HGp.out hok) hB (by omega) (Nat.le_refl _))
          have HS8 := Lib.hid (sSync_E A6 E6 us up ca6 ce6 ((wx.setCell ⟨w1.heap.size, 0, none⟩ (.slice A6 us.length ca6)).setCell ⟨w1.heap.size, 1, none⟩ (.slice E6 up.length ce6)) (OwnR.rd fSt_len HR8.out.dk.own.sure) (OwnR.rd fPu_len HR8.out.dk.own.later) HR8.out.dk.good (ownR_lies HR8.out.dk.own.sure))
          have e0 : ((wx.setCell ⟨w1.heap.size, 0, none⟩ (.slice A6 us.length ca6)).setCell ⟨w1.heap.size, 1, none⟩ (.slice E6 up.length ce6)).cell? ⟨w1.heap.size, 0, none⟩ = some (.slice A6 us.length ca6) := cell_of_row _ _ 0 _ _ _ HR8.out.old
          have e1 : ((wx.setCell ⟨w1.heap.size, 0, none⟩ (.slice A6 us.length ca6)).setCell ⟨w1.heap.size, 1, none⟩ (.slice E6 up.length ce6)).cell? ⟨w1.heap.size, 1, none⟩ = some (.slice E6 up.length ce6) := cell_of_row _ _ 1 _ _ _ HR8.out.old
          clear e0 e1
          go_wp2_with fail
          refine HS8.out.mono ?_
          rintro e w9 ⟨s1, s2, us9, up9, rfl, ho9, hgd9, hb9⟩
          obtain ⟨A9, E9, ca9, ce9, rfl, rfl, -⟩ := lies1 ho9
          have hs9 := hb9.size
          have hd9 := heap_lt HR8.out.old
          have HM9 := Lib.hid (mid_alloc9 ((hb9.block _ (heap_lt HR8.out.old)).trans HR8.out.old) ((hb9.block _ (heap_lt HR8.out.res)).trans HR8.out.res) (HR8.out.dk.own.below hb9) (ho9.lower hd9) (by omega) (HR8.out.dk.cur.below hb9) (grownBy_trans HR8.out.grown (gBelowR hb9 _)))
          have HG9 := Lib.hid hgd9
          have HO1 := Lib.hid HR8.out.dk.off1
          have HO2 := Lib.hid HR8.out.dk.off2
          have HGd8 := Lib.hid HR8.out.dk.good
          obtain ⟨wy, hwy⟩ : ∃ wy, w9.alloc (.cells #[.slice A9 us9.length ca9, .slice E9 up9.length ce9] 26) = wy := ⟨_, rfl⟩
          rw [hwy] at HM9
          clear hgd9 ho9 hb9 HS8 HR8
          go_wp2_with fail
          refine (one_any B _ 6 _ HM9.out.cur (by omega) (by omega)).mono ?_
          rintro e w10 ⟨b10, rfl, hc10, hg10⟩
          have HM10 := Lib.hid (mid_cur HM9.out hg10 hc10 hB (by omega) (by omega))
          have hb10 := heap_lt HM10.out.box
          have y0 : w10.cell? ⟨w9.heap.size, 0, none⟩ = some (.slice A9 us9.length ca9) := cell_of_row _ _ 0 _ _ _ HM10.out.box
          have y1 : w10.cell? ⟨w9.heap.size, 1, none⟩ = some (.slice E9 up9.length ce9) := cell_of_row _ _ 1 _ _ _ HM10.out.box
          have d0 : w10.cell? ⟨w1.heap.size, 0, none⟩ = some (.slice A6 us.length ca6) := cell_of_row _ _ 0 _ _ _ HM10.out.old
          have d1 : w10.cell? ⟨w1.heap.size, 1, none⟩ = some (.slice E6 up.length ce6) := cell_of_row _ _ 1 _ _ _ HM10.out.old
          have f0 := frozen_of_row w10 _ 0 _ _ HM10.out.old
          have f1 := frozen_of_row w10 _ 1 _ _ HM10.out.old
          have hdy : w1.heap.size ≠ w9.heap.size := by omega
          clear hwy hc10 hg10 HM9
          cases b10
          · have HF := Lib.hid (mid_keep HM10.out HGd8.out HO1.out HO2.out)
            go_wp2_with fail
            go_roundg (gk - 1)
            case measure => omega
            case rel => exact ⟨_, _, _, _, by go_num, by omega, HF.out.dk.mono (by omega), HF.out.old, HF.out.res, HF.out.grown⟩
          · have HF := Lib.hid (mid_take HM10.out HG9.out hB (by omega) (Nat.le_refl _))
            go_wp2_with fail
            go_roundg (gk - 1)
            case measure => omega
            case rel => exact ⟨_, _, _, _, by go_num, by omega, HF.out.dk.mono (by omega), HF.out.old, HF.out.res, HF.out.grown⟩
      · have HM := Lib.hid (mid_put9 hyb6 hO6 hR6 hw6 (hoff1 _ (by omega)) (hoff2 _ (by omega)) (ho6.lower (Nat.succ_le_of_lt (heap_lt hyb5))) (by omega) (by omega) hB (Nat.le_refl _) hc6 hg6)
        have HOa := Lib.hid HI.out.off1
        have HOb := Lib.hid HI.out.off2
        have HGa := Lib.hid HI.out.good
        have y0 : ((w6.setCell ⟨w4.heap.size, 0, none⟩ (.slice A6 (puS ss ps x4 s5).length ca6)).setCell ⟨w4.heap.size, 1, none⟩ (.slice E6 (puP ss ps x4 s5).length ce6)).cell? ⟨w4.heap.size, 0, none⟩ = some (.slice A6 (puS ss ps x4 s5).length ca6) := cell_of_row _ _ 0 _ _ _ HM.out.box
        have y1 : ((w6.setCell ⟨w4.heap.size, 0, none⟩ (.slice A6 (puS ss ps x4 s5).length ca6)).setCell ⟨w4.heap.size, 1, none⟩ (.slice E6 (puP ss ps x4 s5).length ce6)).cell? ⟨w4.heap.size, 1, none⟩ = some (.slice E6 (puP ss ps x4 s5).length ce6) := cell_of_row _ _ 1 _ _ _ HM.out.box
        have d0 : ((w6.setCell ⟨w4.heap.size, 0, none⟩ (.slice A6 (puS ss ps x4 s5).length ca6)).setCell ⟨w4.heap.size, 1, none⟩ (.slice E6 (puP ss ps x4 s5).length ce6)).cell? ⟨w1.heap.size, 0, none⟩ = some (.slice A ss.length ca) := cell_of_row _ _ 0 _ _ _ HM.out.old
        have d1 : ((w6.setCell ⟨w4.heap.size, 0, none⟩ (.slice A6 (puS ss ps x4 s5).length ca6)).setCell ⟨w4.heap.size, 1, none⟩ (.slice E6 (puP ss ps x4 s5).length ce6)).cell? ⟨w1.heap.size, 1, none⟩ = some (.slice E ps.length ce) := cell_of_row _ _ 1 _ _ _ HM.out.old
        have f0 := frozen_of_row ((w6.setCell ⟨w4.heap.size, 0, none⟩ (.slice A6 (puS ss ps x4 s5).length ca6)).setCell ⟨w4.heap.size, 1, none⟩ (.slice E6 (puP ss ps x4 s5).length ce6)) _ 0 _ _ HM.out.old
        have f1 := frozen_of_row ((w6.setCell ⟨w4.heap.size, 0, none⟩ (.slice A6 (puS ss ps x4 s5).length ca6)).setCell ⟨w4.heap.size, 1, none⟩ (.slice E6 (puP ss ps x4 s5).length ce6)) _ 1 _ _ HM.out.old
        have HGp := Lib.hid (fun h => good_yes (ss := ss) (ps := ps) (k := x4) (y := s5) h)
        clear hO6 hR6 hw6 hg6 hoff1 hoff2 ho6 hb6 hq6 hq5 hq4 ht4 ht5 ht6 hc4 hc5 hc6 hg4 hg5 hny hny' hnz hnz' hnx hnx' hx4 hs5 hc0 hc1 hyb6 hyb5 py0 py1 fy0 fy1
        generalize (w6.setCell ⟨w4.heap.size, 0, none⟩ (.slice A6 (puS ss ps x4 s5).length ca6)).setCell ⟨w4.heap.size, 1, none⟩ (.slice E6 (puP ss ps x4 s5).length ce6) = wx at *
        generalize (puS ss ps x4 s5) = us at *
        generalize (puP ss ps x4 s5) = up at *
        cases hok : puOkB ss ps x4 s5
        · have HR8 := Lib.hid (mid_keep HM.out HGa.out HOa.out HOb.out)
          have HS8 := Lib.hid (sSync_E A E ss ps ca ce wx (OwnR.rd fSt_len HR8.out.dk.own.sure) (OwnR.rd fPu_len HR8.out.dk.own.later) HR8.out.dk.good (ownR_lies HR8.out.dk.own.sure))
          have e0 : (wx).cell? ⟨w1.heap.size, 0, none⟩ = some (.slice A ss.length ca) := cell_of_row _ _ 0 _ _ _ HR8.out.old
          have e1 : (wx).cell? ⟨w1.heap.size, 1, none⟩ = some (.slice E ps.length ce) := cell_of_row _ _ 1 _ _ _ HR8.out.old
          clear y0 y1 f0 f1 d0 d1
          go_wp2_with fail
          refine HS8.out.mono ?_
          rintro e w9 ⟨s1, s2, us9, up9, rfl, ho9, hgd9, hb9⟩
          obtain ⟨A9, E9, ca9, ce9, rfl, rfl, -⟩ := lies1 ho9
          have hs9 := hb9.size
          have hd9 := heap_lt HR8.out.old
          have HM9 := Lib.hid (mid_alloc9 ((hb9.block _ (heap_lt HR8.out.old)).trans HR8.out.old) ((hb9.block _ (heap_lt HR8.out.res)).trans HR8.out.res) (HR8.out.dk.own.below hb9) (ho9.lower hd9) (by omega) (HR8.out.dk.cur.below hb9) (grownBy_trans HR8.out.grown (gBelowR hb9 _)))
          have HG9 := Lib.hid hgd9
          have HO1 := Lib.hid HR8.out.dk.off1
          have HO2 := Lib.hid HR8.out.dk.off2
          have HGd8 := Lib.hid HR8.out.dk.good
          obtain ⟨wy, hwy⟩ : ∃ wy, w9.alloc (.cells #[.slice A9 us9.length ca9, .slice E9 up9.length ce9] 26) = wy := ⟨_, rfl⟩
          rw [hwy] at HM9
          clear hgd9 ho9 hb9 HS8 e0 e1 HR8
          go_wp2_with fail
          refine (one_any B _ 6 _ HM9.out.cur (by omega) (by omega)).mono ?_
          rintro e w10 ⟨b10, rfl, hc10, hg10⟩
          have HM10 := Lib.hid (mid_cur HM9.out hg10 hc10 hB (by omega) (by omega))
          have hb10 := heap_lt HM10.out.box
          have y0 : w10.cell? ⟨w9.heap.size, 0, none⟩ = some (.slice A9 us9.length ca9) := cell_of_row _ _ 0 _ _ _ HM10.out.box
          have y1 : w10.cell? ⟨w9.heap.size, 1, none⟩ = some (.slice E9 up9.length ce9) := cell_of_row _ _ 1 _ _ _ HM10.out.box
          have d0 : w10.cell? ⟨w1.heap.size, 0, none⟩ = some (.slice A ss.length ca) := cell_of_row _ _ 0 _ _ _ HM10.out.old
          have d1 : w10.cell? ⟨w1.heap.size, 1, none⟩ = some (.slice E ps.length ce) := cell_of_row _ _ 1 _ _ _ HM10.out.old
          have f0 := frozen_of_row w10 _ 0 _ _ HM10.out.old
          have f1 := frozen_of_row w10 _ 1 _ _ HM10.out.old
          have hdy : w1.heap.size ≠ w9.heap.size := by omega
          clear hwy hc10 hg10 HM9
          cases b10
          · have HF := Lib.hid (mid_keep HM10.out HGd8.out HO1.out HO2.out)
            go_wp2_with fail
            go_roundg (gk - 1)
            case measure => omega
            case rel => exact ⟨_, _, _, _, by go_num, by omega, HF.out.dk.mono (by omega), HF.out.old, HF.out.res, HF.out.grown⟩
          · have HF := Lib.hid (mid_take HM10.out HG9.out hB (by omega) (Nat.le_refl _))
            go_wp2_with fail
            go_roundg (gk - 1)
            case measure => omega
            case rel => exact ⟨_, _, _, _, by go_num, by omega, HF.out.dk.mono (by omega), HF.out.old, HF.out.res, HF.out.grown⟩
        · have HR8 := Lib.hid (mid_take HM.out (HGp.out hok) hB (by omega) (Nat.le_refl _))
          have HS8 := Lib.hid (sSync_E A6 E6 us up ca6 ce6 ((wx.setCell ⟨w1.heap.size, 0, none⟩ (.slice A6 us.length ca6)).setCell ⟨w1.heap.size, 1, none⟩ (.slice E6 up.length ce6)) (OwnR.rd fSt_len HR8.out.dk.own.sure) (OwnR.rd fPu_len HR8.out.dk.own.later) HR8.out.dk.good (ownR_lies HR8.out.dk.own.sure))
          have e0 : ((wx.setCell ⟨w1.heap.size, 0, none⟩ (.slice A6 us.length ca6)).setCell ⟨w1.heap.size, 1, none⟩ (.slice E6 up.length ce6)).cell? ⟨w1.heap.size, 0, none⟩ = some (.slice A6 us.length ca6) := cell_of_row _ _ 0 _ _ _ HR8.out.old
          have e1 : ((wx.setCell ⟨w1.heap.size, 0, none⟩ (.slice A6 us.length ca6)).setCell ⟨w1.heap.size, 1, none⟩ (.slice E6 up.length ce6)).cell? ⟨w1.heap.size, 1, none⟩ = some (.slice E6 up.length ce6) := cell_of_row _ _ 1 _ _ _ HR8.out.old
          clear e0 e1
          go_wp2_with fail
          refine HS8.out.mono ?_
          rintro e w9 ⟨s1, s2, us9, up9, rfl, ho9, hgd9, hb9⟩
          obtain ⟨A9, E9, ca9, ce9, rfl, rfl, -⟩ := lies1 ho9
          have hs9 := hb9.size
          have hd9 := heap_lt HR8.out.old
          have HM9 := Lib.hid (mid_alloc9 ((hb9.block _ (heap_lt HR8.out.old)).trans HR8.out.old) ((hb9.block _ (heap_lt HR8.out.res)).trans HR8.out.res) (HR8.out.dk.own.below hb9) (ho9.lower hd9) (by omega) (HR8.out.dk.cur.below hb9) (grownBy_trans HR8.out.grown (gBelowR hb9 _)))
          have HG9 := Lib.hid hgd9
          have HO1 := Lib.hid HR8.out.dk.off1
          have HO2 := Lib.hid HR8.out.dk.off2
          have HGd8 := Lib.hid HR8.out.dk.good
          obtain ⟨wy, hwy⟩ : ∃ wy, w9.alloc (.cells #[.slice A9 us9.length ca9, .slice E9 up9.length ce9] 26) = wy := ⟨_, rfl⟩
          rw [hwy] at HM9
          clear hgd9 ho9 hb9 HS8 HR8
          go_wp2_with fail
          refine (one_any B _ 6 _ HM9.out.cur (by omega) (by omega)).mono ?_
          rintro e w10 ⟨b10, rfl, hc10, hg10⟩
          have HM10 := Lib.hid (mid_cur HM9.out hg10 hc10 hB (by omega) (by omega))
          have hb10 := heap_lt HM10.out.box
          have y0 : w10.cell? ⟨w9.heap.size, 0, none⟩ = some (.slice A9 us9.length ca9) := cell_of_row _ _ 0 _ _ _ HM10.out.box
          have y1 : w10.cell? ⟨w9.heap.size, 1, none⟩ = some (.slice E9 up9.length ce9) := cell_of_row _ _ 1 _ _ _ HM10.out.box
          have d0 : w10.cell? ⟨w1.heap.size, 0, none⟩ = some (.slice A6 us.length ca6) := cell_of_row _ _ 0 _ _ _ HM10.out.old
          have d1 : w10.cell? ⟨w1.heap.size, 1, none⟩ = some (.slice E6 up.length ce6) := cell_of_row _ _ 1 _ _ _ HM10.out.old
          have f0 := frozen_of_row w10 _ 0 _ _ HM10.out.old
          have f1 := frozen_of_row w10 _ 1 _ _ HM10.out.old
          have hdy : w1.heap.size ≠ w9.heap.size := by omega
          clear hwy hc10 hg10 HM9
          cases b10
          · have HF := Lib.hid (mid_keep HM10.out HGd8.out HO1.out HO2.out)
            go_wp2_with fail
            go_roundg (gk - 1)
            case measure => omega
            case rel => exact ⟨_, _, _, _, by go_num, by omega, HF.out.dk.mono (by omega), HF.out.old, HF.out.res, HF.out.grown⟩
          · have HF := Lib.hid (mid_take HM10.out HG9.out hB (by omega) (Nat.le_refl _))
            go_wp2_with fail
            go_roundg (gk - 1)
            case measure => omega
            case rel => exact ⟨_, _, _, _, by go_num, by omega, HF.out.dk.mono (by omega), HF.out.old, HF.out.res, HF.out.grown⟩
      · have HM := Lib.hid (mid_put9 hxb6 hO6 hR6 hw6 (hoff1 _ (by omega)) (hoff2 _ (by omega)) (ho6.lower (Nat.succ_le_of_lt (heap_lt hxb5))) (by omega) (by omega) hB (Nat.le_refl _) hc6 hg6)
        have HOa := Lib.hid HI.out.off1
        have HOb := Lib.hid HI.out.off2
        have HGa := Lib.hid HI.out.good
        have y0 : ((w6.setCell ⟨wr.heap.size, 0, none⟩ (.slice A6 (puS ss ps x4 s5).length ca6)).setCell ⟨wr.heap.size, 1, none⟩ (.slice E6 (puP ss ps x4 s5).length ce6)).cell? ⟨wr.heap.size, 0, none⟩ = some (.slice A6 (puS ss ps x4 s5).length ca6) := cell_of_row _ _ 0 _ _ _ HM.out.box
        have y1 : ((w6.setCell ⟨wr.heap.size, 0, none⟩ (.slice A6 (puS ss ps x4 s5).length ca6)).setCell ⟨wr.heap.size, 1, none⟩ (.slice E6 (puP ss ps x4 s5).length ce6)).cell? ⟨wr.heap.size, 1, none⟩ = some (.slice E6 (puP ss ps x4 s5).length ce6) := cell_of_row _ _ 1 _ _ _ HM.out.box
        have d0 : ((w6.setCell ⟨wr.heap.size, 0, none⟩ (.slice A6 (puS ss ps x4 s5).length ca6)).setCell ⟨wr.heap.size, 1, none⟩ (.slice E6 (puP ss ps x4 s5).length ce6)).cell? ⟨w1.heap.size, 0, none⟩ = some (.slice A ss.length ca) := cell_of_row _ _ 0 _ _ _ HM.out.old
        have d1 : ((w6.setCell ⟨wr.heap.size, 0, none⟩ (.slice A6 (puS ss ps x4 s5).length ca6)).setCell ⟨wr.heap.size, 1, none⟩ (.slice E6 (puP ss ps x4 s5).length ce6)).cell? ⟨w1.heap.size, 1, none⟩ = some (.slice E ps.length ce) := cell_of_row _ _ 1 _ _ _ HM.out.old
        have f0 := frozen_of_row ((w6.setCell ⟨wr.heap.size, 0, none⟩ (.slice A6 (puS ss ps x4 s5).length ca6)).setCell ⟨wr.heap.size, 1, none⟩ (.slice E6 (puP ss ps x4 s5).length ce6)) _ 0 _ _ HM.out.old
        have f1 := frozen_of_row ((w6.setCell ⟨wr.heap.size, 0, none⟩ (.slice A6 (puS ss ps x4 s5).length ca6)).setCell ⟨wr.heap.size, 1, none⟩ (.slice E6 (puP ss ps x4 s5).length ce6)) _ 1 _ _ HM.out.old
        have HGp := Lib.hid (fun h => good_yes (ss := ss) (ps := ps) (k := x4) (y := s5) h)
        clear hO6 hR6 hw6 hg6 hoff1 hoff2 ho6 hb6 hq6 hq5 hq4 ht4 ht5 ht6 hc4 hc5 hc6 hg4 hg5 hny hny' hnz hnz' hnx hnx' hx4 hs5 hc0 hc1 hxb6 hxb5 hxb4 px0 px1 fx0 fx1
        generalize (w6.setCell ⟨wr.heap.size, 0, none⟩ (.slice A6 (puS ss ps x4 s5).length ca6)).setCell ⟨wr.heap.size, 1, none⟩ (.slice E6 (puP ss ps x4 s5).length ce6) = wx at *
        generalize (puS ss ps x4 s5) = us at *
        generalize (puP ss ps x4 s5) = up at *
        cases hok : puOkB ss ps x4 s5
        · have HR8 := Lib.hid (mid_keep HM.out HGa.out HOa.out HOb.out)
          have HS8 := Lib.hid (sSync_E A E ss ps ca ce wx (OwnR.rd fSt_len HR8.out.dk.own.sure) (OwnR.rd fPu_len HR8.out.dk.own.later) HR8.out.dk.good (ownR_lies HR8.out.dk.own.sure))
          have e0 : (wx).cell? ⟨w1.heap.size, 0, none⟩ = some (.slice A ss.length ca) := cell_of_row _ _ 0 _ _ _ HR8.out.old
          have e1 : (wx).cell? ⟨w1.heap.size, 1, none⟩ = some (.slice E ps.length ce) := cell_of_row _ _ 1 _ _ _ HR8.out.old
          clear y0 y1 f0 f1 d0 d1
          go_wp2_with fail
          refine HS8.out.mono ?_
          rintro e w9 ⟨s1, s2, us9, up9, rfl, ho9, hgd9, hb9⟩
          obtain ⟨A9, E9, ca9, ce9, rfl, rfl, -⟩ := lies1 ho9
          have hs9 := hb9.size
          have hd9 := heap_lt HR8.out.old
          have HM9 := Lib.hid (mid_alloc9 ((hb9.block _ (heap_lt HR8.out.old)).trans HR8.out.old) ((hb9.block _ (heap_lt HR8.out.res)).trans HR8.out.res) (HR8.out.dk.own.below hb9) (ho9.lower hd9) (by omega) (HR8.out.dk.cur.below hb9) (grownBy_trans HR8.out.grown (gBelowR hb9 _)))
          have HG9 := Lib.hid hgd9
          have HO1 := Lib.hid HR8.out.dk.off1
          have HO2 := Lib.hid HR8.out.dk.off2
          have HGd8 := Lib.hid HR8.out.dk.good
          obtain ⟨wy, hwy⟩ : ∃ wy, w9.alloc (.cells #[.slice A9 us9.length ca9, .slice E9 up9.length ce9] 26) = wy := ⟨_, rfl⟩
          rw [hwy] at HM9
          clear hgd9 ho9 hb9 HS8 e0 e1 HR8
          go_wp2_with fail
          refine (one_any B _ 6 _ HM9.out.cur (by omega) (by omega)).mono ?_
          rintro e w10 ⟨b10, rfl, hc10, hg10⟩
          have HM10 := Lib.hid (mid_cur HM9.out hg10 hc10 hB (by omega) (by omega))
          have hb10 := heap_lt HM10.out.box
          have y0 : w10.cell? ⟨w9.heap.size, 0, none⟩ = some (.slice A9 us9.length ca9) := cell_of_row _ _ 0 _ _ _ HM10.out.box
          have y1 : w10.cell? ⟨w9.heap.size, 1, none⟩ = some (.slice E9 up9.length ce9) := cell_of_row _ _ 1 _ _ _ HM10.out.box
          have d0 : w10.cell? ⟨w1.heap.size, 0, none⟩ = some (.slice A ss.length ca) := cell_of_row _ _ 0 _ _ _ HM10.out.old
          have d1 : w10.cell? ⟨w1.heap.size, 1, none⟩ = some (.slice E ps.length ce) := cell_of_row _ _ 1 _ _ _ HM10.out.old
          have f0 := frozen_of_row w10 _ 0 _ _ HM10.out.old
          have f1 := frozen_of_row w10 _ 1 _ _ HM10.out.old
          have hdy : w1.heap.size ≠ w9.heap.size := by omega
          clear hwy hc10 hg10 HM9
          cases b10
          · have HF := Lib.hid (mid_keep HM10.out HGd8.out HO1.out HO2.out)
            go_wp2_with fail
            go_roundg (gk - 1)
            case measure => omega
            case rel => exact ⟨_, _, _, _, by go_num, by omega, HF.out.dk.mono (by omega), HF.out.old, HF.out.res, HF.out.grown⟩
          · have HF := Lib.hid (mid_take HM10.out HG9.out hB (by omega) (Nat.le_refl _))
            go_wp2_with fail
            go_roundg (gk - 1)
            case measure => omega
            case rel => exact ⟨_, _, _, _, by go_num, by omega, HF.out.dk.mono (by omega), HF.out.old, HF.out.res, HF.out.grown⟩
        · have HR8 := Lib.hid (mid_take HM.out (HGp.out hok) hB (by omega) (Nat.le_refl _))
          have HS8 := Lib.hid (sSync_E A6 E6 us up ca6 ce6 ((wx.setCell ⟨w1.heap.size, 0, none⟩ (.slice A6 us.length ca6)).setCell ⟨w1.heap.size, 1, none⟩ (.slice E6 up.length ce6)) (OwnR.rd fSt_len HR8.out.dk.own.sure) (OwnR.rd fPu_len HR8.out.dk.own.later) HR8.out.dk.good (ownR_lies HR8.out.dk.own.sure))
          have e0 : ((wx.setCell ⟨w1.heap.size, 0, none⟩ (.slice A6 us.length ca6)).setCell ⟨w1.heap.size, 1, none⟩ (.slice E6 up.length ce6)).cell? ⟨w1.heap.size, 0, none⟩ = some (.slice A6 us.length ca6) := cell_of_row _ _ 0 _ _ _ HR8.out.old
          have e1 : ((wx.setCell ⟨w1.heap.size, 0, none⟩ (.slice A6 us.length ca6)).setCell ⟨w1.heap.size, 1, none⟩ (.slice E6 up.length ce6)).cell? ⟨w1.heap.size, 1, none⟩ = some (.slice E6 up.length ce6) := cell_of_row _ _ 1 _ _ _ HR8.out.old
          clear e0 e1
          go_wp2_with fail
          refine HS8.out.mono ?_
          rintro e w9 ⟨s1, s2, us9, up9, rfl, ho9, hgd9, hb9⟩
          obtain ⟨A9, E9, ca9, ce9, rfl, rfl, -⟩ := lies1 ho9
          have hs9 := hb9.size
          have hd9 := heap_lt HR8.out.old
          have HM9 := Lib.hid (mid_alloc9 ((hb9.block _ (heap_lt HR8.out.old)).trans HR8.out.old) ((hb9.block _ (heap_lt HR8.out.res)).trans HR8.out.res) (HR8.out.dk.own.below hb9) (ho9.lower hd9) (by omega) (HR8.out.dk.cur.below hb9) (grownBy_trans HR8.out.grown (gBelowR hb9 _)))
          have HG9 := Lib.hid hgd9
          have HO1 := Lib.hid HR8.out.dk.off1
          have HO2 := Lib.hid HR8.out.dk.off2
          have HGd8 := Lib.hid HR8.out.dk.good
          obtain ⟨wy, hwy⟩ : ∃ wy, w9.alloc (.cells #[.slice A9 us9.length ca9, .slice E9 up9.length ce9] 26) = wy := ⟨_, rfl⟩
          rw [hwy] at HM9
          clear hgd9 ho9 hb9 HS8 HR8
          go_wp2_with fail
          refine (one_any B _ 6 _ HM9.out.cur (by omega) (by omega)).mono ?_
          rintro e w10 ⟨b10, rfl, hc10, hg10⟩
          have HM10 := Lib.hid (mid_cur HM9.out hg10 hc10 hB (by omega) (by omega))
          have hb10 := heap_lt HM10.out.box
          have y0 : w10.cell? ⟨w9.heap.size, 0, none⟩ = some (.slice A9 us9.length ca9) := cell_of_row _ _ 0 _ _ _ HM10.out.box
          have y1 : w10.cell? ⟨w9.heap.size, 1, none⟩ = some (.slice E9 up9.length ce9) := cell_of_row _ _ 1 _ _ _ HM10.out.box
          have d0 : w10.cell? ⟨w1.heap.size, 0, none⟩ = some (.slice A6 us.length ca6) := cell_of_row _ _ 0 _ _ _ HM10.out.old
          have d1 : w10.cell? ⟨w1.heap.size, 1, none⟩ = some (.slice E6 up.length ce6) := cell_of_row _ _ 1 _ _ _ HM10.out.old
          have f0 := frozen_of_row w10 _ 0 _ _ HM10.out.old
          have f1 := frozen_of_row w10 _ 1 _ _ HM10.out.old
          have hdy : w1.heap.size ≠ w9.heap.size := by omega
          clear hwy hc10 hg10 HM9
          cases b10
          · have HF := Lib.hid (mid_keep HM10.out HGd8.out HO1.out HO2.out)
            go_wp2_with fail
            go_roundg (gk - 1)
            case measure => omega
            case rel => exact ⟨_, _, _, _, by go_num, by omega, HF.out.dk.mono (by omega), HF.out.old, HF.out.res, HF.out.grown⟩
          · have HF := Lib.hid (mid_take HM10.out HG9.out hB (by omega) (Nat.le_refl _))
            go_wp2_with fail
            go_roundg (gk - 1)
            case measure => omega
            case rel => exact ⟨_, _, _, _, by go_num, by omega, HF.out.dk.mono (by omega), HF.out.old, HF.out.res, HF.out.grown⟩
    · obtain rfl : gk = 0 := by omega
      have HRn := Lib.hid (show Rnd9 w wr B w.heap.size w1.heap.size (k + 90) (.slice A ss.length ca) (.slice E ps.length ce) ss ps from ⟨HI.out, HD.out, HR.out, HG.out⟩)
      have hgi : ¬ (0 : Int) < ((0 : Nat) : Int) := by omega
      clear HI HD HR HG hc0 hc1
      go_wp2_with fail
      refine (pick_any B (k + 90) 30 _ HRn.out.dk.cur (by omega) (by omega)).mono ?_
      rintro e w3 ⟨q, rfl, ⟨hq0, hq1⟩, hc3, hg3⟩
      have HR3 := Lib.hid (rnd_cur HRn.out hg3 (hc3.mono (show k + 90 + 2 ≤ k + 92 by omega)) hB (by omega))
      obtain ⟨hl1, hl2, hl3, hl4⟩ := good_len HRn.out.dk.good
      have HL3 : Hid (∀ s ∈ ss, s.size ≤ 16) := fun s hs => by have := hl3 s hs; omega
      have HL4 : Hid (∀ p ∈ ps, p.2.size ≤ 16) := fun p hp => by have := (hl4 p hp).2; omega
      have HL1 := Lib.hid hl1
      have HLt := Lib.hid (heap_lt HR3.out.old)
      have d0 : w3.cell? ⟨w1.heap.size, 0, none⟩ = some (.slice A ss.length ca) := cell_of_row _ _ 0 _ _ _ HR3.out.old
      have d1 : w3.cell? ⟨w1.heap.size, 1, none⟩ = some (.slice E ps.length ce) := cell_of_row _ _ 1 _ _ _ HR3.out.old
      have fd1 := frozen_of_row w3 _ 1 _ _ HR3.out.old
      have x0 : w3.cell? ⟨w.heap.size, 0, none⟩ = some (.slice none 0 0) := cell_of_row _ _ 0 _ _ _ HR3.out.res
      have x1 : w3.cell? ⟨w.heap.size, 1, none⟩ = some (.slice none 0 0) := cell_of_row _ _ 1 _ _ _ HR3.out.res
      have fx0 := frozen_of_row w3 _ 0 _ _ HR3.out.res
      have fx1 := frozen_of_row w3 _ 1 _ _ HR3.out.res
      have hXD : w.heap.size ≠ w1.heap.size := by omega
      clear hc3 hg3 HRn hl1 hl3 hl4
      by_cases h0 : q = 0
      · subst h0
        have hss : 0 < ss.length := by rw [HL1.out]; decide
        obtain ⟨gA, capA, eA, -, hbA⟩ := HR3.out.dk.own.sure.block hss
        injection eA with eA1 eA2 eA3
        subst eA1; subst eA3
        obtain ⟨sa, sf⟩ := ownSt_at HR3.out.dk.own.sure (j := 0) hss
        have hP := ownSt_put HR3.out.dk.own.sure (j := 0) hss ⟨#[115, 104, 111, 114, 116]⟩
        have hgD : gA ≠ w1.heap.size := HR3.out.dk.off1 gA rfl
        have hgX : gA ≠ w.heap.size := by omega
        have HP := Lib.hid hP.1
        have HE := Lib.hid (HR3.out.dk.own.later.kept hP.2 (gApart HR3.out.dk.own.apart))
        have HRF : Hid ((w3.setCell ⟨gA, 0, none⟩ (.string ⟨#[115, 104, 111, 114, 116]⟩)).heap[w.heap.size]? = some (.cells #[.slice none 0 0, .slice none 0 0] 26 (0, 0))) := (heap_setCell_other w3 ⟨gA, 0, none⟩ w.heap.size _ (fun e => hgX e.symm)).trans HR3.out.res
        have HC4 := Lib.hid (HR3.out.dk.cur.grown hP.2 (fun g hg => by injection hg with hg; omega))
        have HS4 : Hid (∀ s ∈ ss.set 0 ⟨#[115, 104, 111, 114, 116]⟩, s.size ≤ 16) := fun s hs => by
          rcases List.mem_or_eq_of_mem_set hs with hs | rfl
          · exact HL3.out s hs
          · decide
        have hgXi : ¬ gA = w.heap.size := hgX
        have hgXj : ¬ w.heap.size = gA := fun e => hgX e.symm
        have hgDi : ¬ gA = w1.heap.size := hgD
        have hgDj : ¬ w1.heap.size = gA := fun e => hgD e.symm
        generalize ss[0] = s00 at *
        clear hP
        go_wp2_with fail
        have hRF := HRF.out
        have hOw : OwnD (w3.setCell ⟨gA, 0, none⟩ (.string ⟨#[115, 104, 111, 114, 116]⟩)) (w.heap.size + 1) (.slice (some ⟨gA, 0, none⟩) ss.length ca) (.slice E ps.length ce) (ss.set 0 ⟨#[115, 104, 111, 114, 116]⟩) ps := ⟨HP.out, HE.out, HR3.out.dk.own.apart⟩
        have hgo : (((w3.setCell ⟨gA, 0, none⟩ (.string ⟨#[115, 104, 111, 114, 116]⟩)).setCell ⟨w.heap.size, 0, none⟩ (Value.slice (some ⟨gA, 0, none⟩) ss.length ca)).setCell ⟨w.heap.size, 1, none⟩ (Value.slice E ps.length ce)).heap[w.heap.size]? = some (.cells #[Value.slice (some ⟨gA, 0, none⟩) ss.length ca, Value.slice E ps.length ce] 26 (0, 0)) := heap_setCell_same _ _ 1 _ _ _ (heap_setCell_same _ _ 0 _ _ _ hRF)
        have hx1 : ∀ g, (Value.slice (some ⟨gA, 0, none⟩) ss.length ca).ownBlock = some g → g ≠ w.heap.size := fun g hg => by have := ((hOw).sure.lt g hg).1; omega
        have hx2 : ∀ g, (Value.slice E ps.length ce).ownBlock = some g → g ≠ w.heap.size := fun g hg => by have := ((hOw).later.lt g hg).1; omega
        refine ret_dk rfl w.heap.size _ _ rfl hgo rfl ⟨_, _, _, _, rfl, (((hOw).set9 hx1 hx2 _ _).set9 hx1 hx2 _ _).lower (by omega), ?_, ?_, ?_, ?_, ?_, grown_set9 (grown_set9 (grown_set9 HR3.out.grown (show w.heap.size ≤ gA by omega) _ _) (Nat.le_refl _) _ _) (Nat.le_refl _) _ _⟩
        · rw [List.length_set]; exact HL1.out
        · omega
        · exact HS4.out
        · exact HL4.out
        · exact ((HC4.out.mono (by omega)).grown (gSet9 _ _ _ _) (fun g hg => by injection hg with hg; omega)).grown (gSet9 _ _ _ _) (fun g hg => by injection hg with hg; omega)
      · by_cases h1 : q = 1
        · subst h1
          have HLo1 := Lib.hid (fun g hg => (HR3.out.dk.own.sure.lt g hg).2)
          go_wp2_with (refine app_puL w3 (w.heap.size + 1) _ ps 12 ⟨#[48, 49, 50, 51, 52, 53, 54, 55, 56, 57, 97, 98, 99, 100, 101, 102]⟩ w3.heap.size rfl rfl _ _ rfl rfl rfl HR3.out.dk.own.later (by have := HLt.out; omega) (by omega) w3 (Below.refl _ _) ?_; intro v5 w5 H5; obtain ⟨A5, c5, rfl, _⟩ := H5.out.1.form fPu_len; have o5 : w5.heap[w1.heap.size]? = some (.cells #[.slice A ss.length ca, .slice E ps.length ce] 26 (0, 0)) := (H5.out.2.2.1.block _ (Nat.lt_trans HLt.out (Nat.lt_of_lt_of_eq (Nat.lt_succ_self _) (World.heap_size_alloc9 w3 _).symm)) (fun e => HR3.out.dk.off2 _ e.symm rfl)).trans ((heap_alloc_old _ _ _ HLt.out).trans HR3.out.old); have r5 : w5.heap[w.heap.size]? = some (.cells #[.slice none 0 0, .slice none 0 0] 26 (0, 0)) := (H5.out.2.2.1.block _ (Nat.lt_trans (heap_lt HR3.out.res) (Nat.lt_of_lt_of_eq (Nat.lt_succ_self _) (World.heap_size_alloc9 w3 _).symm)) (fun e => by have := (HR3.out.dk.own.later.lt _ e.symm).1; omega)).trans ((heap_alloc_old _ _ _ (heap_lt HR3.out.res)).trans HR3.out.res); have y0 : w5.cell? ⟨w1.heap.size, 0, none⟩ = some (.slice A ss.length ca) := cell_of_row w5 _ 0 _ _ _ o5; have y1 : w5.cell? ⟨w1.heap.size, 1, none⟩ = some (.slice E ps.length ce) := cell_of_row w5 _ 1 _ _ _ o5; have e1 := frozen_of_row w5 _ 1 _ _ o5; have z0 : w5.cell? ⟨w.heap.size, 0, none⟩ = some (.slice none 0 0) := cell_of_row w5 _ 0 _ _ _ r5; have z1 : w5.cell? ⟨w.heap.size, 1, none⟩ = some (.slice none 0 0) := cell_of_row w5 _ 1 _ _ _ r5; have g0 := frozen_of_row w5 _ 0 _ _ r5; have g1 := frozen_of_row w5 _ 1 _ _ r5)
          obtain ⟨hP5, hB5, hG5, hAt5⟩ := H5.out
          rw [show (ps ++ [((12 : Int), (⟨#[48, 49, 50, 51, 52, 53, 54, 55, 56, 57, 97, 98, 99, 100, 101, 102]⟩ : ByteArray))]).length = ps.length + 1 by simp] at hP5 hAt5
          have hS5 := (HR3.out.dk.own.sure.below (gAlloc _ _)).kept hG5 HR3.out.dk.own.apart
          have hap : (Value.slice A ss.length ca).ownBlock = none ∨ (Value.slice A ss.length ca).ownBlock ≠ (Value.slice A5 (ps.length + 1) c5).ownBlock := by
            rcases hAt5 with h | h
            · rw [h]; exact HR3.out.dk.own.apart
            · rw [h]; exact Or.inr fun e => by have := HLo1.out _ e; omega
          have hd5 : ∀ g, (Value.slice A5 (ps.length + 1) c5).ownBlock = some g → g ≠ w1.heap.size := fun g hg => by
            rcases hAt5 with h | h
            · exact HR3.out.dk.off2 _ (h.symm.trans hg)
            · rw [h] at hg; injection hg with hg; have := HLt.out; omega
          have hOw0 : OwnD w5 (w.heap.size + 1) (.slice A ss.length ca) (.slice A5 (ps.length + 1) c5) ss (ps ++ [(12, ⟨#[48, 49, 50, 51, 52, 53, 54, 55, 56, 57, 97, 98, 99, 100, 101, 102]⟩)]) := ⟨hS5, hP5, hap⟩
          have hOw := hOw0.set9 (Y := w1.heap.size) HR3.out.dk.off1 hd5 1 (.slice A5 (ps.length + 1) c5)
          have hRF : (w5.setCell ⟨w1.heap.size, 1, none⟩ (.slice A5 (ps.length + 1) c5)).heap[w.heap.size]? = some (.cells #[.slice none 0 0, .slice none 0 0] 26 (0, 0)) := (heap_setCell_other w5 ⟨w1.heap.size, 1, none⟩ w.heap.size _ hXD).trans r5
          have hG6 : w.grownBy w5 (some B) :=
            ⟨hB5.os.trans HR3.out.grown.os, hB5.tape.trans HR3.out.grown.tape, hB5.output.trans HR3.out.grown.output, Nat.le_trans HR3.out.grown.size hB5.size, fun k hk hr => (hB5.block k (by omega)).trans (HR3.out.grown.block k hk hr)⟩
          have hC5 : Cur w5 B (k + 92) := (HR3.out.dk.cur.below (gAlloc _ _)).grown hG5 (fun g hg => by have := (HR3.out.dk.own.later.lt g hg).1; omega)
          have hgo : (((w5.setCell ⟨w1.heap.size, 1, none⟩ (.slice A5 (ps.length + 1) c5)).setCell ⟨w.heap.size, 0, none⟩ (Value.slice A ss.length ca)).setCell ⟨w.heap.size, 1, none⟩ (Value.slice A5 (ps.length + 1) c5)).heap[w.heap.size]? = some (.cells #[Value.slice A ss.length ca, Value.slice A5 (ps.length + 1) c5] 26 (0, 0)) := heap_setCell_same _ _ 1 _ _ _ (heap_setCell_same _ _ 0 _ _ _ hRF)
          have hx1 : ∀ g, (Value.slice A ss.length ca).ownBlock = some g → g ≠ w.heap.size := fun g hg => by have := ((hOw).sure.lt g hg).1; omega
          have hx2 : ∀ g, (Value.slice A5 (ps.length + 1) c5).ownBlock = some g → g ≠ w.heap.size := fun g hg => by have := ((hOw).later.lt g hg).1; omega
          refine ret_dk rfl w.heap.size _ _ rfl hgo rfl ⟨_, _, _, _, rfl, (((hOw).set9 hx1 hx2 _ _).set9 hx1 hx2 _ _).lower (by omega), ?_, ?_, ?_, ?_, ?_, grown_set9 (grown_set9 (grown_set9 hG6 (show w.heap.size ≤ w1.heap.size by omega) _ _) (Nat.le_refl _) _ _) (Nat.le_refl _) _ _⟩
          · exact HL1.out
          · rw [List.length_append]; simp; omega
          · exact HL3.out
          · intro p hp
            rcases List.mem_append.1 hp with hp | hp
            · exact HL4.out p hp
            · rw [List.mem_singleton.1 hp]; decide
          · exact (((hC5.mono (by omega)).grown (gSet9 _ _ _ _) (fun g hg => by injection hg with hg; omega)).grown (gSet9 _ _ _ _) (fun g hg => by injection hg with hg; omega)).grown (gSet9 _ _ _ _) (fun g hg => by injection hg with hg; omega)
        · have hn0 : (q == 0) = false := by simp [h0]
          have hn1 : (q == 1) = false := by simp [h1]
          go_wp2_with fail
          have hRF := HR3.out.res
          have g0 := gSet9 (w3) w.heap.size 0 (Value.slice A ss.length ca)
          have hgo : (((w3).setCell ⟨w.heap.size, 0, none⟩ (Value.slice A ss.length ca)).setCell ⟨w.heap.size, 1, none⟩ (Value.slice E ps.length ce)).heap[w.heap.size]? = some (.cells #[Value.slice A ss.length ca, Value.slice E ps.length ce] 26 (0, 0)) := heap_setCell_same _ _ 1 _ _ _ (heap_setCell_same _ _ 0 _ _ _ hRF)
          have hx1 : ∀ g, (Value.slice A ss.length ca).ownBlock = some g → g ≠ w.heap.size := fun g hg => by have := ((HR3.out.dk.own).sure.lt g hg).1; omega
          have hx2 : ∀ g, (Value.slice E ps.length ce).ownBlock = some g → g ≠ w.heap.size := fun g hg => by have := ((HR3.out.dk.own).later.lt g hg).1; omega
          refine ret_dk rfl w.heap.size _ _ rfl hgo rfl ⟨_, _, _, _, rfl, (((HR3.out.dk.own).set9 hx1 hx2 _ _).set9 hx1 hx2 _ _).lower (by omega), ?_, ?_, ?_, ?_, ?_, grown_set9 (grown_set9 (HR3.out.grown) (Nat.le_refl _) _ _) (Nat.le_refl _) _ _⟩
          · exact HL1.out
          · omega
          · exact HL3.out
          · exact HL4.out
          · exact ((HR3.out.dk.cur.mono (by omega)).grown (gSet9 _ _ _ _) (fun g hg => by injection hg with hg; omega)).grown (gSet9 _ _ _ _) (fun g hg => by injection hg with hg; omega)
end Go.Proofs.Ytkmlgeicmnbkiaa

/- DH -/
namespace Go.Proofs.Ytkmlgeicmnbkiaa
open Go.RowKit

theorem byts_on9 {w w' : World} {A : Option Addr} {zs : List Int} (h : Byts w w.heap.size A zs) (hb : Below w.heap.size w w') : Byts w' w'.heap.size A zs :=
  ⟨h.1, fun hne => by
    obtain ⟨b, o, e, hlt, hc⟩ := h.2 hne
    exact ⟨b, o, e, Nat.lt_of_lt_of_le hlt hb.size, fun j hj => (hb.cell hlt).trans (hc j hj)⟩⟩
/-- What a draw of a disk leaves. -/
structure Drew9 (w w' : World) (v1 v2 : Value) (ss : List ByteArray) (ps : List (Int × ByteArray)) : Prop where
  own : OwnD w' w.heap.size v1 v2 ss ps
  len : ss.length = 12
  len2 : ps.length ≤ 41
  size : ∀ s ∈ ss, s.size ≤ 16
  size2 : ∀ p ∈ ps, p.2.size ≤ 16
  below : Below w.heap.size w w'
set_option maxRecDepth 100000 in
set_option maxHeartbeats 2000000 in
theorem drawGood9 (A : Option Addr) (zs : List Int) (c : Nat) (w : World) (hb : Byts w w.heap.size A zs) :
    Calls Try.prog 63 #[.slice A zs.length c] w fun e w' => ∃ v1 v2 ss ps, e = .returned (diskV v1 v2) ∧ Drew9 w w' v1 v2 ss ps := by
  obtain ⟨W, hW⟩ : ∃ W, w.alloc (.cells #[.slice none 0 0, .slice none 0 0] 26) = W := ⟨_, rfl⟩
  have hbW : Below w.heap.size w W := by rw [← hW]; exact gAlloc _ _
  have hsW : W.heap.size = w.heap.size + 1 := by rw [← hW]; simp
  have hRW : W.heap[w.heap.size]? = some (.cells #[.slice none 0 0, .slice none 0 0] 26 (0, 0)) := by rw [← hW]; exact heap_alloc_new _ _
  have HC := Lib.hid (Cur.new (c := c) (byts_on9 hb hbW) 65)
  have hbC := gAlloc W (.cells #[.slice A zs.length c, .int .i64 0, .int .u64 0] 65)
  have HB := Lib.hid (below_more hbW hbC)
  have HR := Lib.hid ((hbC.block _ (by omega)).trans hRW)
  clear hb hbW hbC hRW
  have HsW := Lib.hid hsW
  clear hsW
  go_enter Try.func63, Try.ntmps63
  go_wp2_with fail
  refine (disk9 W.heap.size 0 _ HC.out (by omega)).mono ?_
  rintro e w3 ⟨v1, v2, ss, ps, rfl, ho3, hl1, hl2, hz1, hz2, hc3, hg3⟩
  have hsW := HsW.out
  obtain ⟨A1, B1, c1, d1, rfl, rfl, -⟩ := lies1 ho3
  have hR3 : w3.heap[w.heap.size]? = some (.cells #[.slice none 0 0, .slice none 0 0] 26 (0, 0)) := (hg3.block _ (heap_lt HR.out) (by intro e; injection e with e; omega)).trans HR.out
  have x0 : w3.cell? ⟨w.heap.size, 0, none⟩ = some (.slice none 0 0) := cell_of_row _ _ 0 _ _ _ hR3
  have x1 : w3.cell? ⟨w.heap.size, 1, none⟩ = some (.slice none 0 0) := cell_of_row _ _ 1 _ _ _ hR3
  have f0 := frozen_of_row w3 _ 0 _ _ hR3
  have f1 := frozen_of_row w3 _ 1 _ _ hR3
  have HO := Lib.hid (ho3.lower (base' := w.heap.size + 1) (by rw [World.heap_size_alloc9]; omega))
  have HL := Lib.hid (⟨hl1, hl2, hz1, hz2⟩ : ss.length = 12 ∧ ps.length ≤ 41 ∧ (∀ s ∈ ss, s.size ≤ 16) ∧ ∀ p ∈ ps, p.2.size ≤ 16)
  have HR3 := Lib.hid hR3
  have HB3 := Lib.hid (HB.out.grown hg3 HB.out.size (fun k hk => by injection hk with hk; omega))
  clear ho3 hl1 hl2 hz1 hz2 hc3 hg3 hR3 hW hsW
  go_wp2_with fail
  have hgo : ((w3.setCell ⟨w.heap.size, 0, none⟩ (.slice A1 ss.length c1)).setCell ⟨w.heap.size, 1, none⟩ (.slice B1 ps.length d1)).heap[w.heap.size]? = some (.cells #[.slice A1 ss.length c1, .slice B1 ps.length d1] 26 (0, 0)) := heap_setCell_same _ _ 1 _ _ _ (heap_setCell_same _ _ 0 _ _ _ HR3.out)
  have hx1 : ∀ g, (Value.slice A1 ss.length c1).ownBlock = some g → g ≠ w.heap.size := fun g hg => by have := (HO.out.sure.lt g hg).1; omega
  have hx2 : ∀ g, (Value.slice B1 ps.length d1).ownBlock = some g → g ≠ w.heap.size := fun g hg => by have := (HO.out.later.lt g hg).1; omega
  obtain ⟨l1, l2, l3, l4⟩ := HL.out
  exact ret_dk rfl w.heap.size _ _ rfl hgo rfl ⟨_, _, _, _, rfl, ⟨((HO.out.set9 hx1 hx2 _ _).set9 hx1 hx2 _ _).lower (by omega), l1, l2, l3, l4, (HB3.out.setCell (Nat.le_refl _) _).setCell (Nat.le_refl _) _⟩⟩
set_option maxRecDepth 100000 in
set_option maxHeartbeats 2000000 in
theorem drawSync9 (A : Option Addr) (zs : List Int) (c : Nat) (w : World) (hb : Byts w w.heap.size A zs) :
    Calls Try.prog 20 #[.slice A zs.length c] w fun e w' => ∃ v1 v2 ss ps, e = .returned (diskV v1 v2) ∧ Drew9 w w' v1 v2 ss ps := by
  obtain ⟨W, hW⟩ : ∃ W, w.alloc (.cells #[.slice none 0 0, .slice none 0 0] 26) = W := ⟨_, rfl⟩
  have hbW : Below w.heap.size w W := by rw [← hW]; exact gAlloc _ _
  have hsW : W.heap.size = w.heap.size + 1 := by rw [← hW]; simp
  have hRW : W.heap[w.heap.size]? = some (.cells #[.slice none 0 0, .slice none 0 0] 26 (0, 0)) := by rw [← hW]; exact heap_alloc_new _ _
  have HD := Lib.hid (drawGood9 A zs c W (byts_on9 hb hbW))
  have HB := Lib.hid hbW
  have HR := Lib.hid hRW
  clear hb hbW hRW
  have HsW := Lib.hid hsW
  clear hsW
  go_enter Try.func20, Try.ntmps20
  go_wp2_with fail
  refine HD.out.mono ?_
  rintro e w3 ⟨v1, v2, ss, ps, rfl, hd⟩
  have hsW := HsW.out
  obtain ⟨A1, B1, c1, d1, rfl, rfl, -⟩ := lies1 hd.own
  have hR3 : w3.heap[w.heap.size]? = some (.cells #[.slice none 0 0, .slice none 0 0] 26 (0, 0)) := (hd.below.block _ (heap_lt HR.out)).trans HR.out
  have x0 : w3.cell? ⟨w.heap.size, 0, none⟩ = some (.slice none 0 0) := cell_of_row _ _ 0 _ _ _ hR3
  have x1 : w3.cell? ⟨w.heap.size, 1, none⟩ = some (.slice none 0 0) := cell_of_row _ _ 1 _ _ _ hR3
  have f0 := frozen_of_row w3 _ 0 _ _ hR3
  have f1 := frozen_of_row w3 _ 1 _ _ hR3
  have HD3 := Lib.hid hd
  have HO := Lib.hid (hd.own.lower (base' := w.heap.size + 1) (by omega))
  have HR3 := Lib.hid hR3
  have HB3 := Lib.hid (below_more HB.out hd.below)
  clear hd hR3 hW hsW
  go_wp2_with fail
  have hgo : ((w3.setCell ⟨w.heap.size, 0, none⟩ (.slice A1 ss.length c1)).setCell ⟨w.heap.size, 1, none⟩ (.slice B1 ps.length d1)).heap[w.heap.size]? = some (.cells #[.slice A1 ss.length c1, .slice B1 ps.length d1] 26 (0, 0)) := heap_setCell_same _ _ 1 _ _ _ (heap_setCell_same _ _ 0 _ _ _ HR3.out)
  have hx1 : ∀ g, (Value.slice A1 ss.length c1).ownBlock = some g → g ≠ w.heap.size := fun g hg => by have := (HO.out.sure.lt g hg).1; omega
  have hx2 : ∀ g, (Value.slice B1 ps.length d1).ownBlock = some g → g ≠ w.heap.size := fun g hg => by have := (HO.out.later.lt g hg).1; omega
  exact ret_dk rfl w.heap.size _ _ rfl hgo rfl ⟨_, _, _, _, rfl, ⟨((HO.out.set9 hx1 hx2 _ _).set9 hx1 hx2 _ _).lower (by omega), HD3.out.len, HD3.out.len2, HD3.out.size, HD3.out.size2, (HB3.out.setCell (Nat.le_refl _) _).setCell (Nat.le_refl _) _⟩⟩
set_option maxRecDepth 100000 in
set_option maxHeartbeats 2000000 in
theorem drawAll9 (A : Option Addr) (zs : List Int) (c : Nat) (w : World) (hb : Byts w w.heap.size A zs) :
    Calls Try.prog 22 #[.slice A zs.length c] w fun e w' => ∃ v1 v2 ss ps, e = .returned (diskV v1 v2) ∧ Drew9 w w' v1 v2 ss ps := by
  obtain ⟨W, hW⟩ : ∃ W, w.alloc (.cells #[.slice none 0 0, .slice none 0 0] 26) = W := ⟨_, rfl⟩
  have hbW : Below w.heap.size w W := by rw [← hW]; exact gAlloc _ _
  have hsW : W.heap.size = w.heap.size + 1 := by rw [← hW]; simp
  have hRW : W.heap[w.heap.size]? = some (.cells #[.slice none 0 0, .slice none 0 0] 26 (0, 0)) := by rw [← hW]; exact heap_alloc_new _ _
  have HD := Lib.hid (drawGood9 A zs c W (byts_on9 hb hbW))
  have HB := Lib.hid hbW
  have HR := Lib.hid hRW
  clear hb hbW hRW
  have HsW := Lib.hid hsW
  clear hsW
  go_enter Try.func22, Try.ntmps22
  go_wp2_with fail
  refine HD.out.mono ?_
  rintro e w3 ⟨v1, v2, ss, ps, rfl, hd⟩
  have hsW := HsW.out
  obtain ⟨A1, B1, c1, d1, rfl, rfl, -⟩ := lies1 hd.own
  have hR3 : w3.heap[w.heap.size]? = some (.cells #[.slice none 0 0, .slice none 0 0] 26 (0, 0)) := (hd.below.block _ (heap_lt HR.out)).trans HR.out
  have x0 : w3.cell? ⟨w.heap.size, 0, none⟩ = some (.slice none 0 0) := cell_of_row _ _ 0 _ _ _ hR3
  have x1 : w3.cell? ⟨w.heap.size, 1, none⟩ = some (.slice none 0 0) := cell_of_row _ _ 1 _ _ _ hR3
  have f0 := frozen_of_row w3 _ 0 _ _ hR3
  have f1 := frozen_of_row w3 _ 1 _ _ hR3
  have HD3 := Lib.hid hd
  have HO := Lib.hid (hd.own.lower (base' := w.heap.size + 1) (by omega))
  have HR3 := Lib.hid hR3
  have HB3 := Lib.hid (below_more HB.out hd.below)
  clear hd hR3 hW hsW
  go_wp2_with fail
  have hgo : ((w3.setCell ⟨w.heap.size, 0, none⟩ (.slice A1 ss.length c1)).setCell ⟨w.heap.size, 1, none⟩ (.slice B1 ps.length d1)).heap[w.heap.size]? = some (.cells #[.slice A1 ss.length c1, .slice B1 ps.length d1] 26 (0, 0)) := heap_setCell_same _ _ 1 _ _ _ (heap_setCell_same _ _ 0 _ _ _ HR3.out)
  have hx1 : ∀ g, (Value.slice A1 ss.length c1).ownBlock = some g → g ≠ w.heap.size := fun g hg => by have := (HO.out.sure.lt g hg).1; omega
  have hx2 : ∀ g, (Value.slice B1 ps.length d1).ownBlock = some g → g ≠ w.heap.size := fun g hg => by have := (HO.out.later.lt g hg).1; omega
  exact ret_dk rfl w.heap.size _ _ rfl hgo rfl ⟨_, _, _, _, rfl, ⟨((HO.out.set9 hx1 hx2 _ _).set9 hx1 hx2 _ _).lower (by omega), HD3.out.len, HD3.out.len2, HD3.out.size, HD3.out.size2, (HB3.out.setCell (Nat.le_refl _) _).setCell (Nat.le_refl _) _⟩⟩
theorem results_dk3 {fn : Func} {p u x : Tmp} {ty : TypeId} (h : fn.results = #[.cell p ty, .tmp u, .tmp x]) (tmps : Array Value) (P : Program) (w : World) :
    (results fn tmps).run P w =
      ((asAddr (tmps.getD p undef)).run P w).andThen fun a w₁ => ((loadVar ty a).run P w₁).andThen fun v w₂ => .ok (.tuple #[v, tmps.getD u undef, tmps.getD x undef]) w₂ := by
  simp only [results, h]
  simp [Sem.run_bind, Result.andThen]
theorem results_dk4 {fn : Func} {p u x y : Tmp} {ty : TypeId} (h : fn.results = #[.cell p ty, .tmp u, .tmp x, .tmp y]) (tmps : Array Value) (P : Program) (w : World) :
    (results fn tmps).run P w =
      ((asAddr (tmps.getD p undef)).run P w).andThen fun a w₁ => ((loadVar ty a).run P w₁).andThen fun v w₂ => .ok (.tuple #[v, tmps.getD u undef, tmps.getD x undef, tmps.getD y undef]) w₂ := by
  simp only [results, h]
  simp [Sem.run_bind, Result.andThen]
theorem ret_dk2v {fn : Func} {p q : Tmp} (h : fn.results = #[.cell p 26, .tmp q]) {R : Ending → World → Prop} {a : Act} {w : World} (g : Nat) (u v x : Value) (hp : a.tmps.getD p undef = .pointer (some ⟨g, 0, none⟩)) (hu : a.tmps.getD q undef = x)
    (hg : w.heap[g]? = some (.cells #[u, v] 26 (0, 0))) (hd : a.defers = []) (hR : R (.returned (.tuple #[diskV u v, x])) w) : bodyPost Try.prog fn R .ret a w := by
  have hp' : a.tmps[p]?.getD undef = .pointer (some ⟨g, 0, none⟩) := by simpa using hp
  have hu' : a.tmps[q]?.getD undef = x := by simpa using hu
  refine bodyPost_ret (v := .tuple #[diskV u v, x]) ?_ hd hR
  rw [results_cell_tmp h]
  simp [hp', hu', asAddr, run_loadVar_row w g 26 26 #[u, v] (0, 0) _ hg Try.underlying26 rfl infoDk]
theorem ret_dk3 {fn : Func} {p q r : Tmp} (h : fn.results = #[.cell p 26, .tmp q, .tmp r]) {R : Ending → World → Prop} {a : Act} {w : World} (g : Nat) (u v x y : Value) (hp : a.tmps.getD p undef = .pointer (some ⟨g, 0, none⟩)) (hu : a.tmps.getD q undef = x) (hr : a.tmps.getD r undef = y)
    (hg : w.heap[g]? = some (.cells #[u, v] 26 (0, 0))) (hd : a.defers = []) (hR : R (.returned (.tuple #[diskV u v, x, y])) w) : bodyPost Try.prog fn R .ret a w := by
  have hp' : a.tmps[p]?.getD undef = .pointer (some ⟨g, 0, none⟩) := by simpa using hp
  have hu' : a.tmps[q]?.getD undef = x := by simpa using hu
  have hr' : a.tmps[r]?.getD undef = y := by simpa using hr
  refine bodyPost_ret (v := .tuple #[diskV u v, x, y]) ?_ hd hR
  rw [results_dk3 h]
  simp [hp', hu', hr', asAddr, run_loadVar_row w g 26 26 #[u, v] (0, 0) _ hg Try.underlying26 rfl infoDk]
theorem ret_dk4 {fn : Func} {p q r t : Tmp} (h : fn.results = #[.cell p 26, .tmp q, .tmp r, .tmp t]) {R : Ending → World → Prop} {a : Act} {w : World} (g : Nat) (u v x y z : Value) (hp : a.tmps.getD p undef = .pointer (some ⟨g, 0, none⟩)) (hu : a.tmps.getD q undef = x) (hr : a.tmps.getD r undef = y) (ht : a.tmps.getD t undef = z)
    (hg : w.heap[g]? = some (.cells #[u, v] 26 (0, 0))) (hd : a.defers = []) (hR : R (.returned (.tuple #[diskV u v, x, y, z])) w) : bodyPost Try.prog fn R .ret a w := by
  have hp' : a.tmps[p]?.getD undef = .pointer (some ⟨g, 0, none⟩) := by simpa using hp
  have hu' : a.tmps[q]?.getD undef = x := by simpa using hu
  have hr' : a.tmps[r]?.getD undef = y := by simpa using hr
  have ht' : a.tmps[t]?.getD undef = z := by simpa using ht
  refine bodyPost_ret (v := .tuple #[diskV u v, x, y, z]) ?_ hd hR
  rw [results_dk4 h]
  simp [hp', hu', hr', ht', asAddr, run_loadVar_row w g 26 26 #[u, v] (0, 0) _ hg Try.underlying26 rfl infoDk]
set_option maxRecDepth 100000 in
set_option maxHeartbeats 4000000 in
theorem drawRead9 (A : Option Addr) (zs : List Int) (c : Nat) (w : World) (hb : Byts w w.heap.size A zs) :
    Calls Try.prog 30 #[.slice A zs.length c] w fun e w' => ∃ v1 v2 ss ps, ∃ k : Int, e = .returned (.tuple #[diskV v1 v2, .int .i64 k]) ∧ Drew9 w w' v1 v2 ss ps ∧ -1 ≤ k ∧ k ≤ 12 := by
  obtain ⟨W, hW⟩ : ∃ W, w.alloc (.cells #[.slice none 0 0, .slice none 0 0] 26) = W := ⟨_, rfl⟩
  have hbW : Below w.heap.size w W := by rw [← hW]; exact gAlloc _ _
  have hsW : W.heap.size = w.heap.size + 1 := by rw [← hW]; simp
  have hRW : W.heap[w.heap.size]? = some (.cells #[.slice none 0 0, .slice none 0 0] 26 (0, 0)) := by rw [← hW]; exact heap_alloc_new _ _
  have HC := Lib.hid (Cur.new (c := c) (byts_on9 hb hbW) 65)
  have hbC := gAlloc W (.cells #[.slice A zs.length c, .int .i64 0, .int .u64 0] 65)
  have HB := Lib.hid (below_more hbW hbC)
  have HR := Lib.hid ((hbC.block _ (by omega)).trans hRW)
  clear hb hbW hbC hRW
  have HsW := Lib.hid hsW
  clear hsW
  go_enter Try.func30, Try.ntmps30
  go_wp2_with fail
  refine (disk9 W.heap.size 0 _ HC.out (by omega)).mono ?_
  rintro e w3 ⟨v1, v2, ss, ps, rfl, ho3, hl1, hl2, hz1, hz2, hc3, hg3⟩
  obtain ⟨A1, B1, c1, d1, rfl, rfl, -⟩ := lies1 ho3
  have hR3 : w3.heap[w.heap.size]? = some (.cells #[.slice none 0 0, .slice none 0 0] 26 (0, 0)) := (hg3.block _ (heap_lt HR.out) (by intro e; injection e with e; have := HsW.out; omega)).trans HR.out
  have HO3 := Lib.hid (ho3.lower (base' := w.heap.size + 2) (by rw [World.heap_size_alloc9]; have := HsW.out; omega))
  have HL := Lib.hid (⟨hl1, hl2, hz1, hz2⟩ : ss.length = 12 ∧ ps.length ≤ 41 ∧ (∀ s ∈ ss, s.size ≤ 16) ∧ ∀ p ∈ ps, p.2.size ≤ 16)
  have HR3 := Lib.hid hR3
  have HC3 := Lib.hid hc3
  have HB3 := Lib.hid (HB.out.grown hg3 HB.out.size (fun k hk => by injection hk with hk; have := HsW.out; omega))
  have hs3 := hg3.size
  rw [World.heap_size_alloc9] at hs3
  clear ho3 hl1 hl2 hz1 hz2 hc3 hg3 hR3 hW HC HB HR
  have HLit := Lib.hid (lit_cells w3 [-1, 0, 1, 2, 11, 12] 3)
  have hbL := gAlloc w3 (.cells #[.int .i64 (-1), .int .i64  0, .int .i64  1, .int .i64  2, .int .i64  11, .int .i64  12] 3)
  have HCL := Lib.hid (HC3.out.below hbL)
  have HOL := Lib.hid (HO3.out.below hbL)
  have HRL := Lib.hid ((hbL.block _ (heap_lt HR3.out)).trans HR3.out)
  have HBL := Lib.hid (below_more HB3.out hbL)
  clear hbL HC3 HO3 HR3 HB3
  go_wp2_with fail
  refine (among_any W.heap.size _ w3.heap.size 0 6 [-1, 0, 1, 2, 11, 12] _ HCL.out (by omega) (by omega) (by simp) (by simp) HLit.out).mono ?_
  rintro e w4 ⟨x4, rfl, hx4, hc4, hg4⟩
  have HX4 : Hid (-1 ≤ x4 ∧ x4 ≤ 12) := by
    show _ ∧ _
    simp only [List.mem_cons, List.not_mem_nil, or_false] at hx4
    omega
  have HC4 := Lib.hid hc4
  have HO4 := Lib.hid (HOL.out.cur9 (show W.heap.size < w.heap.size + 2 by have := HsW.out; omega) hg4)
  have HR4 := Lib.hid ((hg4.block _ (heap_lt HRL.out) (by intro e; injection e with e; have := HsW.out; omega)).trans HRL.out)
  have HB4 := Lib.hid (HBL.out.grown hg4 HBL.out.size (fun k hk => by injection hk with hk; have := HsW.out; omega))
  clear hx4 hc4 hg4 HCL HOL HRL HBL HLit hs3
  have x0 : w4.cell? ⟨w.heap.size, 0, none⟩ = some (.slice none 0 0) := cell_of_row _ _ 0 _ _ _ HR4.out
  have x1 : w4.cell? ⟨w.heap.size, 1, none⟩ = some (.slice none 0 0) := cell_of_row _ _ 1 _ _ _ HR4.out
  have f0 := frozen_of_row w4 _ 0 _ _ HR4.out
  have f1 := frozen_of_row w4 _ 1 _ _ HR4.out
  go_wp2_with fail
  have hgo : ((w4.setCell ⟨w.heap.size, 0, none⟩ (.slice A1 ss.length c1)).setCell ⟨w.heap.size, 1, none⟩ (.slice B1 ps.length d1)).heap[w.heap.size]? = some (.cells #[.slice A1 ss.length c1, .slice B1 ps.length d1] 26 (0, 0)) := heap_setCell_same _ _ 1 _ _ _ (heap_setCell_same _ _ 0 _ _ _ HR4.out)
  have hx1 : ∀ g, (Value.slice A1 ss.length c1).ownBlock = some g → g ≠ w.heap.size := fun g hg => by have := (HO4.out.sure.lt g hg).1; omega
  have hx2 : ∀ g, (Value.slice B1 ps.length d1).ownBlock = some g → g ≠ w.heap.size := fun g hg => by have := (HO4.out.later.lt g hg).1; omega
  obtain ⟨l1, l2, l3, l4⟩ := HL.out
  exact ret_dk2v rfl w.heap.size _ _ _ rfl rfl hgo rfl ⟨_, _, _, _, _, rfl, ⟨((HO4.out.set9 hx1 hx2 _ _).set9 hx1 hx2 _ _).lower (by omega), l1, l2, l3, l4, (HB4.out.setCell (Nat.le_refl _) _).setCell (Nat.le_refl _) _⟩, HX4.out.1, HX4.out.2⟩
set_option maxRecDepth 100000 in
set_option maxHeartbeats 4000000 in
theorem drawPut9 (A : Option Addr) (zs : List Int) (c : Nat) (w : World) (hb : Byts w w.heap.size A zs) :
    Calls Try.prog 26 #[.slice A zs.length c] w fun e w' => ∃ v1 v2 ss ps, ∃ k : Int, ∃ y : ByteArray, e = .returned (.tuple #[diskV v1 v2, .int .i64 k, .string y]) ∧ Drew9 w w' v1 v2 ss ps ∧ -1 ≤ k ∧ k ≤ 12 ∧ y.size ≤ 16 := by
  obtain ⟨W, hW⟩ : ∃ W, w.alloc (.cells #[.slice none 0 0, .slice none 0 0] 26) = W := ⟨_, rfl⟩
  have hbW : Below w.heap.size w W := by rw [← hW]; exact gAlloc _ _
  have hsW : W.heap.size = w.heap.size + 1 := by rw [← hW]; simp
  have hRW : W.heap[w.heap.size]? = some (.cells #[.slice none 0 0, .slice none 0 0] 26 (0, 0)) := by rw [← hW]; exact heap_alloc_new _ _
  have HC := Lib.hid (Cur.new (c := c) (byts_on9 hb hbW) 65)
  have hbC := gAlloc W (.cells #[.slice A zs.length c, .int .i64 0, .int .u64 0] 65)
  have HB := Lib.hid (below_more hbW hbC)
  have HR := Lib.hid ((hbC.block _ (by omega)).trans hRW)
  clear hb hbW hbC hRW
  have HsW := Lib.hid hsW
  clear hsW
  go_enter Try.func26, Try.ntmps26
  go_wp2_with fail
  refine (disk9 W.heap.size 0 _ HC.out (by omega)).mono ?_
  rintro e w3 ⟨v1, v2, ss, ps, rfl, ho3, hl1, hl2, hz1, hz2, hc3, hg3⟩
  obtain ⟨A1, B1, c1, d1, rfl, rfl, -⟩ := lies1 ho3
  have hR3 : w3.heap[w.heap.size]? = some (.cells #[.slice none 0 0, .slice none 0 0] 26 (0, 0)) := (hg3.block _ (heap_lt HR.out) (by intro e; injection e with e; have := HsW.out; omega)).trans HR.out
  have HO3 := Lib.hid (ho3.lower (base' := w.heap.size + 2) (by rw [World.heap_size_alloc9]; have := HsW.out; omega))
  have HL := Lib.hid (⟨hl1, hl2, hz1, hz2⟩ : ss.length = 12 ∧ ps.length ≤ 41 ∧ (∀ s ∈ ss, s.size ≤ 16) ∧ ∀ p ∈ ps, p.2.size ≤ 16)
  have HR3 := Lib.hid hR3
  have HC3 := Lib.hid hc3
  have HB3 := Lib.hid (HB.out.grown hg3 HB.out.size (fun k hk => by injection hk with hk; have := HsW.out; omega))
  have hs3 := hg3.size
  rw [World.heap_size_alloc9] at hs3
  clear ho3 hl1 hl2 hz1 hz2 hc3 hg3 hR3 hW HC HB HR
  have HLit := Lib.hid (lit_cells w3 [-1, 0, 3, 11, 12] 3)
  have hbL := gAlloc w3 (.cells #[.int .i64 (-1), .int .i64  0, .int .i64  3, .int .i64  11, .int .i64  12] 3)
  have HCL := Lib.hid (HC3.out.below hbL)
  have HOL := Lib.hid (HO3.out.below hbL)
  have HRL := Lib.hid ((hbL.block _ (heap_lt HR3.out)).trans HR3.out)
  have HBL := Lib.hid (below_more HB3.out hbL)
  clear hbL HC3 HO3 HR3 HB3
  go_wp2_with fail
  refine (among_any W.heap.size _ w3.heap.size 0 5 [-1, 0, 3, 11, 12] _ HCL.out (by omega) (by omega) (by simp) (by simp) HLit.out).mono ?_
  rintro e w4 ⟨x4, rfl, hx4, hc4, hg4⟩
  have HX4 : Hid (-1 ≤ x4 ∧ x4 ≤ 12) := by
    show _ ∧ _
    simp only [List.mem_cons, List.not_mem_nil, or_false] at hx4
    omega
  have HC4 := Lib.hid hc4
  have HO4 := Lib.hid (HOL.out.cur9 (show W.heap.size < w.heap.size + 2 by have := HsW.out; omega) hg4)
  have HR4 := Lib.hid ((hg4.block _ (heap_lt HRL.out) (by intro e; injection e with e; have := HsW.out; omega)).trans HRL.out)
  have HB4 := Lib.hid (HBL.out.grown hg4 HBL.out.size (fun k hk => by injection hk with hk; have := HsW.out; omega))
  clear hx4 hc4 hg4 HCL HOL HRL HBL HLit hs3
  go_wp2_with fail
  refine (sector9 W.heap.size _ _ HC4.out (by omega)).mono ?_
  rintro e w5 ⟨y5, rfl, hy5, hc5, hg5⟩
  have HY5 := Lib.hid hy5
  have HO5 := Lib.hid (HO4.out.cur9 (show W.heap.size < w.heap.size + 2 by have := HsW.out; omega) hg5)
  have HR5 := Lib.hid ((hg5.block _ (heap_lt HR4.out) (by intro e; injection e with e; have := HsW.out; omega)).trans HR4.out)
  have HB5 := Lib.hid (HB4.out.grown hg5 HB4.out.size (fun k hk => by injection hk with hk; have := HsW.out; omega))
  clear hy5 hc5 hg5 HC4 HO4 HR4 HB4
  have x0 : w5.cell? ⟨w.heap.size, 0, none⟩ = some (.slice none 0 0) := cell_of_row _ _ 0 _ _ _ HR5.out
  have x1 : w5.cell? ⟨w.heap.size, 1, none⟩ = some (.slice none 0 0) := cell_of_row _ _ 1 _ _ _ HR5.out
  have f0 := frozen_of_row w5 _ 0 _ _ HR5.out
  have f1 := frozen_of_row w5 _ 1 _ _ HR5.out
  go_wp2_with fail
  have hgo : ((w5.setCell ⟨w.heap.size, 0, none⟩ (.slice A1 ss.length c1)).setCell ⟨w.heap.size, 1, none⟩ (.slice B1 ps.length d1)).heap[w.heap.size]? = some (.cells #[.slice A1 ss.length c1, .slice B1 ps.length d1] 26 (0, 0)) := heap_setCell_same _ _ 1 _ _ _ (heap_setCell_same _ _ 0 _ _ _ HR5.out)
  have hx1 : ∀ g, (Value.slice A1 ss.length c1).ownBlock = some g → g ≠ w.heap.size := fun g hg => by have := (HO5.out.sure.lt g hg).1; omega
  have hx2 : ∀ g, (Value.slice B1 ps.length d1).ownBlock = some g → g ≠ w.heap.size := fun g hg => by have := (HO5.out.later.lt g hg).1; omega
  obtain ⟨l1, l2, l3, l4⟩ := HL.out
  exact ret_dk3 rfl w.heap.size _ _ _ _ rfl rfl rfl hgo rfl ⟨_, _, _, _, _, _, rfl, ⟨((HO5.out.set9 hx1 hx2 _ _).set9 hx1 hx2 _ _).lower (by omega), l1, l2, l3, l4, (HB5.out.setCell (Nat.le_refl _) _).setCell (Nat.le_refl _) _⟩, HX4.out.1, HX4.out.2, HY5.out⟩
set_option maxRecDepth 100000 in
set_option maxHeartbeats 4000000 in
theorem drawCrash9 (A : Option Addr) (zs : List Int) (c : Nat) (w : World) (hb : Byts w w.heap.size A zs) :
    Calls Try.prog 12 #[.slice A zs.length c] w fun e w' => ∃ v1 v2 v3 ss ps ks, ∃ torn bb : Int, e = .returned (.tuple #[diskV v1 v2, v3, .int .i64 torn, .int .i64 bb]) ∧ Drew9 w w' v1 v2 ss ps ∧ Own w' w.heap.size v3 ks ∧ ks.length ≤ 42 ∧ -1 ≤ torn ∧ torn ≤ 41 ∧ 0 ≤ bb ∧ bb ≤ 17 := by
  obtain ⟨W, hW⟩ : ∃ W, w.alloc (.cells #[.slice none 0 0, .slice none 0 0] 26) = W := ⟨_, rfl⟩
  have hbW : Below w.heap.size w W := by rw [← hW]; exact gAlloc _ _
  have hsW : W.heap.size = w.heap.size + 1 := by rw [← hW]; simp
  have hRW : W.heap[w.heap.size]? = some (.cells #[.slice none 0 0, .slice none 0 0] 26 (0, 0)) := by rw [← hW]; exact heap_alloc_new _ _
  have HC := Lib.hid (Cur.new (c := c) (byts_on9 hb hbW) 65)
  have hbC := gAlloc W (.cells #[.slice A zs.length c, .int .i64 0, .int .u64 0] 65)
  have HB := Lib.hid (below_more hbW hbC)
  have HR := Lib.hid ((hbC.block _ (by omega)).trans hRW)
  clear hb hbW hbC hRW
  have HsW := Lib.hid hsW
  clear hsW
  go_enter Try.func12, Try.ntmps12
  go_wp2_with fail
  refine (disk9 W.heap.size 0 _ HC.out (by omega)).mono ?_
  rintro e w3 ⟨v1, v2, ss, ps, rfl, ho3, hl1, hl2, hz1, hz2, hc3, hg3⟩
  obtain ⟨A1, B1, c1, d1, rfl, rfl, -⟩ := lies1 ho3
  have hR3 : w3.heap[w.heap.size]? = some (.cells #[.slice none 0 0, .slice none 0 0] 26 (0, 0)) := (hg3.block _ (heap_lt HR.out) (by intro e; injection e with e; have := HsW.out; omega)).trans HR.out
  have HO3 := Lib.hid (ho3.lower (base' := w.heap.size + 2) (by rw [World.heap_size_alloc9]; have := HsW.out; omega))
  have HL := Lib.hid (⟨hl1, hl2, hz1, hz2⟩ : ss.length = 12 ∧ ps.length ≤ 41 ∧ (∀ s ∈ ss, s.size ≤ 16) ∧ ∀ p ∈ ps, p.2.size ≤ 16)
  have HR3 := Lib.hid hR3
  have HC3 := Lib.hid hc3
  have HB3 := Lib.hid (HB.out.grown hg3 HB.out.size (fun k hk => by injection hk with hk; have := HsW.out; omega))
  have hs3 := hg3.size
  rw [World.heap_size_alloc9] at hs3
  clear ho3 hl1 hl2 hz1 hz2 hc3 hg3 hR3 hW HC HB HR
  obtain ⟨wd, hwd⟩ : ∃ wd, w3.alloc (.cells #[.slice A1 ss.length c1, .slice B1 ps.length d1] 26) = wd := ⟨_, rfl⟩
  have hbd : Below w3.heap.size w3 wd := by rw [← hwd]; exact gAlloc _ _
  have hDd : wd.heap[w3.heap.size]? = some (.cells #[.slice A1 ss.length c1, .slice B1 ps.length d1] 26 (0, 0)) := by rw [← hwd]; exact heap_alloc_new _ _
  have HDd := Lib.hid hDd
  have HOd := Lib.hid (HO3.out.below hbd)
  have HRd := Lib.hid ((hbd.block _ (heap_lt HR3.out)).trans HR3.out)
  have HCd := Lib.hid (HC3.out.below hbd)
  have HBd := Lib.hid (below_more HB3.out hbd)
  have hl41 : ps.length ≤ 41 := HL.out.2.1
  have dd0 : wd.cell? ⟨w3.heap.size, 0, none⟩ = some (.slice A1 ss.length c1) := cell_of_row _ _ 0 _ _ _ hDd
  have dd1 : wd.cell? ⟨w3.heap.size, 1, none⟩ = some (.slice B1 ps.length d1) := cell_of_row _ _ 1 _ _ _ hDd
  clear hbd hDd HO3 HR3 HC3 HB3
  go_wp2_with fail
  refine (some_any W.heap.size _ ps.length _ HCd.out (by omega) (by omega)).mono ?_
  rintro e w4 ⟨v3, ks, rfl, ho4, hk4, hc4, hg4⟩
  clear dd0 dd1 hwd
  have HO4 := Lib.hid (HOd.out.cur9 (show W.heap.size < w.heap.size + 2 by have := HsW.out; omega) hg4)
  have HR4 := Lib.hid ((hg4.block _ (heap_lt HRd.out) (by intro e; injection e with e; have := HsW.out; omega)).trans HRd.out)
  have HD4 := Lib.hid ((hg4.block _ (heap_lt HDd.out) (by intro e; injection e with e; have := HsW.out; omega)).trans HDd.out)
  have HB4 := Lib.hid (HBd.out.grown hg4 HBd.out.size (fun k hk => by injection hk with hk; have := HsW.out; omega))
  have dd0 : w4.cell? ⟨w3.heap.size, 0, none⟩ = some (.slice A1 ss.length c1) := cell_of_row _ _ 0 _ _ _ HD4.out
  have dd1 : w4.cell? ⟨w3.heap.size, 1, none⟩ = some (.slice B1 ps.length d1) := cell_of_row _ _ 1 _ _ _ HD4.out
  have HK4 := Lib.hid (ho4.lower (base' := w.heap.size + 2) (by have := heap_lt HDd.out; have := HsW.out; omega))
  have HKl := Lib.hid (show ks.length ≤ 42 by omega)
  have HC4 := Lib.hid hc4
  obtain ⟨A4, c4, rfl, _⟩ := ho4.form
  clear ho4 hk4 hc4 hg4 HOd HRd HDd HBd HCd
  go_wp2_with fail
  refine (pick_any W.heap.size _ _ _ HC4.out (by omega) (by omega)).mono ?_
  rintro e w5 ⟨r5, rfl, ⟨hr50, hr51⟩, hc5, hg5⟩
  have hr52 : r5 ≤ 41 := by omega
  clear dd0 dd1 hr51
  have HO5 := Lib.hid (HO4.out.cur9 (show W.heap.size < w.heap.size + 2 by have := HsW.out; omega) hg5)
  have HR5 := Lib.hid ((hg5.block _ (heap_lt HR4.out) (by intro e; injection e with e; have := HsW.out; omega)).trans HR4.out)
  have HD5 := Lib.hid ((hg5.block _ (heap_lt HD4.out) (by intro e; injection e with e; have := HsW.out; omega)).trans HD4.out)
  have HB5 := Lib.hid (HB4.out.grown hg5 HB4.out.size (fun k hk => by injection hk with hk; have := HsW.out; omega))
  have dd0 : w5.cell? ⟨w3.heap.size, 0, none⟩ = some (.slice A1 ss.length c1) := cell_of_row _ _ 0 _ _ _ HD5.out
  have dd1 : w5.cell? ⟨w3.heap.size, 1, none⟩ = some (.slice B1 ps.length d1) := cell_of_row _ _ 1 _ _ _ HD5.out
  have HK5 := Lib.hid (HK4.out.cur (show W.heap.size < w.heap.size + 2 by have := HsW.out; omega) hg5)
  have HC5 := Lib.hid hc5
  clear hc5 hg5 HO4 HR4 HD4 HB4 HK4 HC4
  go_wp2_with fail
  refine (pick_any W.heap.size _ 18 _ HC5.out (by omega) (by omega)).mono ?_
  rintro e w6 ⟨r6, rfl, ⟨hr60, hr61⟩, hc6, hg6⟩
  have hr62 : r6 ≤ 17 := by omega
  clear dd0 dd1 hr61
  have HO6 := Lib.hid (HO5.out.cur9 (show W.heap.size < w.heap.size + 2 by have := HsW.out; omega) hg6)
  have HR6 := Lib.hid ((hg6.block _ (heap_lt HR5.out) (by intro e; injection e with e; have := HsW.out; omega)).trans HR5.out)
  have HD6 := Lib.hid ((hg6.block _ (heap_lt HD5.out) (by intro e; injection e with e; have := HsW.out; omega)).trans HD5.out)
  have HB6 := Lib.hid (HB5.out.grown hg6 HB5.out.size (fun k hk => by injection hk with hk; have := HsW.out; omega))
  have dd0 : w6.cell? ⟨w3.heap.size, 0, none⟩ = some (.slice A1 ss.length c1) := cell_of_row _ _ 0 _ _ _ HD6.out
  have dd1 : w6.cell? ⟨w3.heap.size, 1, none⟩ = some (.slice B1 ps.length d1) := cell_of_row _ _ 1 _ _ _ HD6.out
  have HK6 := Lib.hid (HK5.out.cur (show W.heap.size < w.heap.size + 2 by have := HsW.out; omega) hg6)
  clear hc6 hg6 HO5 HR5 HD5 HB5 HK5 HC5
  have x0 : w6.cell? ⟨w.heap.size, 0, none⟩ = some (.slice none 0 0) := cell_of_row _ _ 0 _ _ _ HR6.out
  have x1 : w6.cell? ⟨w.heap.size, 1, none⟩ = some (.slice none 0 0) := cell_of_row _ _ 1 _ _ _ HR6.out
  have f0 := frozen_of_row w6 _ 0 _ _ HR6.out
  have f1 := frozen_of_row w6 _ 1 _ _ HR6.out
  have hgo : ((w6.setCell ⟨w.heap.size, 0, none⟩ (.slice A1 ss.length c1)).setCell ⟨w.heap.size, 1, none⟩ (.slice B1 ps.length d1)).heap[w.heap.size]? = some (.cells #[.slice A1 ss.length c1, .slice B1 ps.length d1] 26 (0, 0)) := heap_setCell_same _ _ 1 _ _ _ (heap_setCell_same _ _ 0 _ _ _ HR6.out)
  have hx1 : ∀ g, (Value.slice A1 ss.length c1).ownBlock = some g → g ≠ w.heap.size := fun g hg => by have := (HO6.out.sure.lt g hg).1; omega
  have hx2 : ∀ g, (Value.slice B1 ps.length d1).ownBlock = some g → g ≠ w.heap.size := fun g hg => by have := (HO6.out.later.lt g hg).1; omega
  have HX1 := Lib.hid hx1
  have HX2 := Lib.hid hx2
  have HGo := Lib.hid hgo
  have HKf : Hid (Own ((w6.setCell ⟨w.heap.size, 0, none⟩ (.slice A1 ss.length c1)).setCell ⟨w.heap.size, 1, none⟩ (.slice B1 ps.length d1)) w.heap.size (.slice A4 ks.length c4) ks) := ((HK6.out.cur (show w.heap.size < w.heap.size + 2 by omega) (gSet9 _ _ _ _)).cur (show w.heap.size < w.heap.size + 2 by omega) (gSet9 _ _ _ _)).lower (by omega)
  clear hx1 hx2 hgo
  by_cases ht : r5 - 1 < 0
  · go_wp2_with fail
    obtain ⟨l1, l2, l3, l4⟩ := HL.out
    exact ret_dk4 rfl w.heap.size _ _ _ _ _ rfl rfl rfl rfl HGo.out rfl ⟨_, _, _, _, _, _, _, _, rfl, ⟨((HO6.out.set9 HX1.out HX2.out _ _).set9 HX1.out HX2.out _ _).lower (by omega), l1, l2, l3, l4, (HB6.out.setCell (Nat.le_refl _) _).setCell (Nat.le_refl _) _⟩, HKf.out, HKl.out, by omega, by omega, by omega, by omega⟩
  · go_wp2_with fail
    obtain ⟨l1, l2, l3, l4⟩ := HL.out
    exact ret_dk4 rfl w.heap.size _ _ _ _ _ rfl rfl rfl rfl HGo.out rfl ⟨_, _, _, _, _, _, _, _, rfl, ⟨((HO6.out.set9 HX1.out HX2.out _ _).set9 HX1.out HX2.out _ _).lower (by omega), l1, l2, l3, l4, (HB6.out.setCell (Nat.le_refl _) _).setCell (Nat.le_refl _) _⟩, HKf.out, HKl.out, by omega, by omega, by omega, by omega⟩
end Go.Proofs.Ytkmlgeicmnbkiaa
