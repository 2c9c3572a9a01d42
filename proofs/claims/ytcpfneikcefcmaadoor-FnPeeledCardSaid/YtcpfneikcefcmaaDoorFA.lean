/-
  E7: slices.Sort on a slice of the call's own: the library's contract, laid at this program.
  E8: The program's chapter 5: what is left of the symbols, as a map; its keys in order.
  MP: Plain mathematics of peeling as the program does it: what is left of each symbol without its known pieces.
  E9: The program's chapter 5: restsOf, firstSingle, takeOut; bits.TrailingZeros at a power of two.
  F1: The program's chapter 5: restsOf, takeOut.
  F2: The program's chapter 5: PeelOff.
-/
import Derived.Shelf.Sort.Plain
import Derived.Sort.OwnSortedInts
import Derived.Test.YtcpfneikcefcmaaDoorEA
import Derived.Maps.RangeWalk
import Derived.Maps.Ext
import Derived.Test.YtcpfneikcefcmaaDoorJL
import Derived.Test.YtcpfneikcefcmaaDoorE6
import Derived.Deep.RegionLaw
import Derived.Deep.OwnRows

/- E7 -/
namespace Go.Proofs.YtcpfneikcefcmaaDoor
open Go.RowKit Go.Shelf Go.Sort

def sortRen : Go.Shelf.Ren := ⟨fun | 125 => 95 | 128 => 109 | 129 => 110 | 189 => 81 | 215 => 117 | 216 => 106 | 257 => 94 | 294 => 100 | 295 => 101 | 296 => 102 | 297 => 103 | 298 => 104 | 299 => 105 | 300 => 107 | 301 => 108 | 328 => 112 | 329 => 113 | 330 => 114 | 331 => 115 | 332 => 116 | 343 => 118 | n => n, fun | 0 => 0 | 3 => 3 | 4 => 4 | 5 => 5 | 9 => 9 | 28 => 24 | 46 => 64 | 51 => 89 | 53 => 78 | 131 => 75 | 182 => 121 | 183 => 122 | 218 => 127 | 222 => 131 | 228 => 133 | 229 => 134 | n => n, fun | n => n⟩
theorem sortLays : Go.Proofs.Lays.n189 Tryd.prog sortRen := {
  mixed := by kernel_rfl
  f125 := Tryd.func95.trans (congrArg some (by kernel_rfl))
  f128 := Tryd.func109.trans (congrArg some (by kernel_rfl))
  f129 := Tryd.func110.trans (congrArg some (by kernel_rfl))
  f189 := Tryd.func81.trans (congrArg some (by kernel_rfl))
  f215 := Tryd.func117.trans (congrArg some (by kernel_rfl))
  f216 := Tryd.func106.trans (congrArg some (by kernel_rfl))
  f257 := Tryd.func94.trans (congrArg some (by kernel_rfl))
  f294 := Tryd.func100.trans (congrArg some (by kernel_rfl))
  f295 := Tryd.func101.trans (congrArg some (by kernel_rfl))
  f296 := Tryd.func102.trans (congrArg some (by kernel_rfl))
  f297 := Tryd.func103.trans (congrArg some (by kernel_rfl))
  f298 := Tryd.func104.trans (congrArg some (by kernel_rfl))
  f299 := Tryd.func105.trans (congrArg some (by kernel_rfl))
  f300 := Tryd.func107.trans (congrArg some (by kernel_rfl))
  f301 := Tryd.func108.trans (congrArg some (by kernel_rfl))
  f328 := Tryd.func112.trans (congrArg some (by kernel_rfl))
  f329 := Tryd.func113.trans (congrArg some (by kernel_rfl))
  f330 := Tryd.func114.trans (congrArg some (by kernel_rfl))
  f331 := Tryd.func115.trans (congrArg some (by kernel_rfl))
  f332 := Tryd.func116.trans (congrArg some (by kernel_rfl))
  f343 := Tryd.func118.trans (congrArg some (by kernel_rfl))
  t0 := Tryd.underlying0
  a0 := Tryd.isAgg0
  z0 := Tryd.sizeOf0
  v0 := Tryd.zeroValue0
  t3 := Tryd.underlying3
  a3 := Tryd.isAgg3
  z3 := Tryd.sizeOf3
  v3 := Tryd.zeroValue3
  t4 := Tryd.underlying4
  a4 := Tryd.isAgg4
  z4 := Tryd.sizeOf4
  v4 := Tryd.zeroValue4
  t5 := Tryd.underlying5
  a5 := Tryd.isAgg5
  z5 := Tryd.sizeOf5
  v5 := Tryd.zeroValue5
  t9 := Tryd.underlying9
  a9 := Tryd.isAgg9
  z9 := Tryd.sizeOf9
  v9 := Tryd.zeroValue9
  t28 := Tryd.underlying24
  a28 := Tryd.isAgg24
  z28 := Tryd.sizeOf24
  v28 := Tryd.zeroValue24
  t46 := Tryd.underlying64
  a46 := Tryd.isAgg64
  z46 := Tryd.sizeOf64
  v46 := Tryd.zeroValue64
  t51 := Tryd.underlying89
  a51 := Tryd.isAgg89
  z51 := Tryd.sizeOf89
  v51 := Tryd.zeroValue89
  t53 := Tryd.underlying78
  a53 := Tryd.isAgg78
  z53 := Tryd.sizeOf78
  v53 := Tryd.zeroValue78
  t131 := Tryd.underlying75
  a131 := Tryd.isAgg75
  z131 := Tryd.sizeOf75
  v131 := Tryd.zeroValue75
  t182 := Tryd.underlying121
  a182 := Tryd.isAgg121
  z182 := Tryd.sizeOf121
  v182 := Tryd.zeroValue121
  t183 := Tryd.underlying122
  a183 := Tryd.isAgg122
  z183 := Tryd.sizeOf122
  v183 := Tryd.zeroValue122
  t218 := Tryd.underlying127
  a218 := Tryd.isAgg127
  z218 := Tryd.sizeOf127
  v218 := Tryd.zeroValue127
  t222 := Tryd.underlying131
  a222 := Tryd.isAgg131
  z222 := Tryd.sizeOf131
  v222 := Tryd.zeroValue131
  t228 := Tryd.underlying133
  a228 := Tryd.isAgg133
  z228 := Tryd.sizeOf133
  v228 := Tryd.zeroValue133
  t229 := Tryd.underlying134
  a229 := Tryd.isAgg134
  z229 := Tryd.sizeOf134
  v229 := Tryd.zeroValue134 }

set_option maxRecDepth 100000 in
set_option maxHeartbeats 1000000 in
theorem sortNil0 (w : World) : Calls Tryd.prog 100 #[.slice none 0 0, .int .i64 0, .int .i64 0] w fun e w' => e = .returned (.tuple #[]) ∧ w = w' := by
  go_enter Tryd.func100, Tryd.ntmps100
  go_wp2_with fail
  refine wp_loop_rounds 1 ?_
  rw [rounds_succ]
  go_wp2_with fail
  go_end0
  exact ⟨rfl, rfl⟩
set_option maxRecDepth 100000 in
set_option maxHeartbeats 1000000 in
theorem sortNil1 (w : World) : Calls Tryd.prog 94 #[.slice none 0 0, .int .i64 0, .int .i64 0, .int .i64 0] w fun e w' => e = .returned (.tuple #[]) ∧ w = w' := by
  go_enter Tryd.func94, Tryd.ntmps94
  go_wp2_with fail
  refine wp_loop_rounds 1 ?_
  rw [rounds_succ]
  go_wp2_with (go_at_call 100; refine (sortNil0 _).mono ?_; rintro e w' ⟨rfl, rfl⟩)
  (try simp only [Exit.inBlock, Exit.then])
  refine bodyPost_ret (results_none rfl _ _ _) rfl ?_
  exact ⟨rfl, rfl⟩
set_option maxRecDepth 100000 in
set_option maxHeartbeats 1000000 in
theorem sortNil (w : World) : Calls Tryd.prog 81 #[.slice none 0 0] w fun e w' => e = .returned (.tuple #[]) ∧ w = w' := by
  go_enter Tryd.func81, Tryd.ntmps81
  go_wp2_with (first
    | (go_at_call 95; refine (len_any 0 _ (by omega)).mono ?_; rintro e w' ⟨rfl, rfl⟩)
    | (go_at_call 94; refine (sortNil1 _).mono ?_; rintro e w' ⟨rfl, rfl⟩))
  go_end0
  exact ⟨rfl, rfl⟩

def leI : Int → Int → Bool := fun x y => decide (x ≤ y)
/-- The sort on a slice of the call's own. -/
theorem iSort (v : Value) (zs : List Int) (base : Nat) (w : World) (ho : Own w base v zs) (hl : zs.length ≤ 1048576) :
    Calls Tryd.prog 81 #[v] w fun e w' => e = .returned (.tuple #[]) ∧ Own w' base v (zs.mergeSort leI) ∧ w.grownBy w' v.ownBlock := by
  have ho' : w.ownsRow base 3 1 v zs.length (zs.map (Value.int .i64)) := ho
  rcases ho'.2 with ⟨rfl, h0⟩ | ⟨g, cap, cur, rfl, hg, hb, h1, h2, h3, h4⟩
  · have hz : zs = [] := by simpa using h0
    subst hz
    refine (sortNil w).mono ?_
    rintro e w' ⟨rfl, rfl⟩
    exact ⟨rfl, by simpa using ho, ⟨rfl, rfl, rfl, Nat.le_refl _, fun _ _ _ => rfl⟩⟩
  · rw [Nat.mul_one] at h4
    refine (show Calls Tryd.prog 81 #[.slice (some ⟨g, 0, none⟩) zs.length cap] w fun e w' => e = .returned (.tuple #[]) ∧ ∃ n os, w' = grow (putRow (Value.int .i64) (Sort.ahead w n) g 0 (zs.mergeSort fun x y => decide (x ≤ y)).toArray) os from
      Any.slices_Sort_int sortLays g 0 cap zs w (holds_of_blockI hb h4) (Array.getElem?_eq_some_iff.1 hb).1 (by omega)).mono ?_
    rintro e w' ⟨rfl, n, os, rfl⟩
    refine ⟨rfl, ?_, grownBy_sortedI _⟩
    have := ownsRow_sortedI (n := n) (os := os) (ss := zs) (ts := zs.mergeSort leI) (by simp) hg hb h1 h2 h3
    unfold Own
    rw [show (zs.mergeSort leI).length = zs.length by simp]
    exact this
end Go.Proofs.YtcpfneikcefcmaaDoor

/- E8 -/
namespace Go.Proofs.YtcpfneikcefcmaaDoor
open Go.RowKit Go.Maps

/-- How what is left of a symbol reads. -/
def restD (a b : Int) : DataW Unit := .agg [.lit (.int .i64 a), .lit (.int .i64 b)]
def restL : List Value → Option (DataW Unit × List MemPlace)
  | [.int .i64 a, .int .i64 b] => some (restD a b, [])
  | _ => none
def restR : Value → Option (DataW Unit × List MemPlace)
  | .agg cs => restL cs.toList
  | _ => none
theorem restR_inv {v : Value} {y : DataW Unit × List MemPlace} (h : restR v = some y) : ∃ a b, v = letV a b ∧ y = (restD a b, []) := by
  unfold restR at h
  split at h
  · rename_i cs
    unfold restL at h
    split at h
    · rename_i a b hcs
      cases h
      exact ⟨a, b, by rw [show cs = #[.int .i64 a, .int .i64 b] from by rw [← Array.toList_inj, hcs]], rfl⟩
    · cases h
  · cases h
theorem restD_inj {a b c d : Int} (h : restD a b = restD c d) : a = c ∧ b = d := by
  unfold restD at h
  injection h with h
  injection h with h1 h2
  injection h2 with h2 _
  injection h1 with h1
  injection h2 with h2
  injection h1 with _ h1
  injection h2 with _ h2
  exact ⟨h1, h2⟩
/-- Block b is a map that holds, at each key k that F knows, the row and the sum that F says. -/
def Rests (w : World) (b n : Nat) (F : Nat → Option (Nat × Nat)) : Prop :=
  ∃ D : DataW Unit, w.ownsMap Tryd.prog 3 restR b n D ∧ (∀ x : Int, has D (.int .i64 x) = true ↔ ∃ k : Nat, x = k ∧ (F k).isSome = true) ∧ (∀ (k r s : Nat), F k = some (r, s) → ∀ zd, D.atKey (.int .i64 k) zd = restD r s)
theorem size_le {H : Type} {P : Program} {k : TypeId} {R : Value → Option (DataW H × List MemPlace)} {w : World} {b n : Nat} {D : DataW H} (h : w.ownsMap P k R b n D) : Maps.size D ≤ n ∧ w.ownsMap P k R b (Maps.size D) D := by
  obtain ⟨es, clock, hb, F, hs, rfl⟩ := h
  have e : Maps.size (DataW.map ((es.toList.map (Go.WideElems.rg P k R)).foldr DataW.insert [])) = es.size := by rw [Maps.size_eq, length_sorted]; simp
  rw [e]
  exact ⟨hs, es, clock, hb, F, Nat.le_refl _, rfl⟩
theorem Rests.lt {w : World} {b n : Nat} {F : Nat → Option (Nat × Nat)} (h : Rests w b n F) : b < w.heap.size := by obtain ⟨D, h, _⟩ := h; exact h.lt
theorem Rests.kept {w w' : World} {b n : Nat} {F : Nat → Option (Nat × Nat)} {row : Option Nat} (h : Rests w b n F) (hg : w.grownBy w' row) (hne : some b ≠ row) : Rests w' b n F := by
  obtain ⟨D, h1, h2⟩ := h
  exact ⟨D, h1.kept hg hne, h2⟩
theorem Rests.below {w w' : World} {b n : Nat} {F : Nat → Option (Nat × Nat)} (h : Rests w b n F) (hb : Below w.heap.size w w') : Rests w' b n F := h.kept (gBelowN hb) (by simp)
set_option maxRecDepth 100000 in
theorem Rests.look {w : World} {b n : Nat} {F : Nat → Option (Nat × Nat)} (h : Rests w b n F) {k r s : Nat} (hk : F k = some (r, s)) (hk2 : k ≤ 1000000) : (Instr.lookup 57 (.map (some b)) (.int .i64 k) false).run Tryd.prog w = .ok (letV r s) w := by
  obtain ⟨D, hD, _, hat⟩ := h
  obtain ⟨v, ps, hrun, hv⟩ := hD.lookup (t := 57) (e := 60) (int_keyed Tryd.underlying3) Tryd.underlying57 (Tryd.zeroValue60 w) (zd := restD 0 0) (zp := []) rfl (keyOf_int_mk Tryd.underlying3 (wf_small (x := (k : Int)) (by omega) (by omega)))
  obtain ⟨a, c, rfl, ha⟩ := restR_inv hv
  rw [hat k r s hk] at ha
  obtain ⟨e1, e2⟩ := restD_inj (Prod.mk.inj ha).1
  rw [hrun, e1, e2]
def putF (F : Nat → Option (Nat × Nat)) (k : Nat) (x : Option (Nat × Nat)) : Nat → Option (Nat × Nat) := fun j => if j = k then x else F j
set_option maxRecDepth 100000 in
theorem Rests.store {w : World} {b n : Nat} {F : Nat → Option (Nat × Nat)} (h : Rests w b n F) (hn : n ≤ 1000000) (k r s : Nat) (hk : k ≤ 1000000) :
    ∃ w', (Instr.mapUpdate 57 (.map (some b)) (.int .i64 k) (letV r s)).run Tryd.prog w = .ok () w' ∧ Rests w' b (if (F k).isSome = true then n else n + 1) (putF F k (some (r, s))) ∧ w.grownBy w' (some b) := by
  obtain ⟨D, hD, hhas, hat⟩ := h
  have hx : (Lit.int .i64 (k : Int)).wf = true := wf_small (by omega) (by omega)
  have hkey := keyOf_int_mk (P := Tryd.prog) Tryd.underlying3 hx
  have hkl := (int_keyed (P := Tryd.prog) Tryd.underlying3).key hkey
  obtain ⟨w', h1, h2, h3⟩ := hD.update (t := 57) (e := 60) (int_keyed Tryd.underlying3) Tryd.underlying57 (by unfold maxLen; omega) hkey (val := letV r s) (d := restD r s) (ps := []) rfl
  refine ⟨w', h1, ⟨D.put (.int .i64 k) (restD r s), ?_, fun x => ?_, fun j r' s' hj zd => ?_⟩, h3⟩
  · refine (size_le h2).2.mono ?_
    rw [size_put (hD.tidy (int_keyed Tryd.underlying3))]
    have hsz := (size_le hD).1
    cases hF : (F k).isSome
    · split <;> simp <;> omega
    · rw [if_pos ((hhas k).2 ⟨k, rfl, hF⟩)]; simpa using hsz
  · by_cases e : x = k
    · subst e
      rw [has_put_same hD.isMap hkl]
      simp only [true_iff]
      exact ⟨k, rfl, by simp [putF]⟩
    · rw [has_put_other (by intro h'; injection h' with _ h'; exact e h'), hhas x]
      constructor
      · rintro ⟨j, rfl, hj⟩
        exact ⟨j, rfl, by rw [putF, if_neg (by intro e'; exact e (by rw [e']))]; exact hj⟩
      · rintro ⟨j, rfl, hj⟩
        rw [putF, if_neg (by intro e'; exact e (by rw [e']))] at hj
        exact ⟨j, rfl, hj⟩
  · by_cases e : j = k
    · subst e
      rw [putF, if_pos rfl] at hj
      injection hj with hj
      injection hj with e1 e2
      subst e1; subst e2
      exact atKey_put_same hD.isMap hkl _ _
    · rw [putF, if_neg e] at hj
      rw [atKey_put_other (by intro h'; injection h' with _ h'; exact e (by omega))]
      exact hat j r' s' hj zd
set_option maxRecDepth 100000 in
theorem Rests.del {w : World} {b n : Nat} {F : Nat → Option (Nat × Nat)} (h : Rests w b n F) (k : Nat) (hk : k ≤ 1000000) (ty : TypeId) :
    ∃ w', (Builtin.delete_ #[57, 3] ty #[.map (some b), .int .i64 k]).run Tryd.prog w = .ok (.tuple #[]) w' ∧ Rests w' b n (putF F k none) ∧ w.grownBy w' (some b) := by
  obtain ⟨D, hD, hhas, hat⟩ := h
  have hx : (Lit.int .i64 (k : Int)).wf = true := wf_small (by omega) (by omega)
  obtain ⟨w', h1, h2, h3⟩ := hD.drop (t := 57) (e := 60) (int_keyed Tryd.underlying3) Tryd.underlying57 (keyOf_int_mk (P := Tryd.prog) Tryd.underlying3 hx) ty
  refine ⟨w', h1, ⟨_, h2, fun x => ?_, fun j r' s' hj zd => ?_⟩, h3.grown⟩
  · by_cases e : x = k
    · subst e
      rw [has_del_same]
      constructor
      · intro h; cases h
      · rintro ⟨j, e', hj⟩
        rw [putF, if_pos (by omega)] at hj
        cases hj
    · rw [has_del_other (by intro h'; injection h' with _ h'; exact e h'), hhas x]
      constructor
      · rintro ⟨j, rfl, hj⟩
        exact ⟨j, rfl, by rw [putF, if_neg (by intro e'; exact e (by rw [e']))]; exact hj⟩
      · rintro ⟨j, rfl, hj⟩
        rw [putF, if_neg (by intro e'; exact e (by rw [e']))] at hj
        exact ⟨j, rfl, hj⟩
  · by_cases e : j = k
    · rw [putF, if_pos e] at hj; cases hj
    · rw [putF, if_neg e] at hj
      rw [atKey_del_other (by intro h'; injection h' with _ h'; exact e (by omega))]
      exact hat j r' s' hj zd

def keysL (F : Nat → Option (Nat × Nat)) (N : Nat) : List Nat := (List.range N).filter fun k => (F k).isSome
theorem keysL_rise (F : Nat → Option (Nat × Nat)) (N : Nat) : (keysL F N).Pairwise (· < ·) := List.Pairwise.filter _ List.pairwise_lt_range
theorem sorted_keys {F : Nat → Option (Nat × Nat)} {N : Nat} {ss : List Int} (hN : ∀ k, (F k).isSome = true → k < N) (hnd : ss.Nodup) (hm : ∀ x, x ∈ ss ↔ ∃ k : Nat, x = k ∧ (F k).isSome = true) : ss.mergeSort leI = zI (keysL F N) := by
  have tr : ∀ a b c : Int, leI a b = true → leI b c = true → leI a c = true := fun a b c h1 h2 => by simp only [leI, decide_eq_true_eq] at *; omega
  have to : ∀ a b : Int, (leI a b || leI b a) = true := fun a b => by simp only [leI, Bool.or_eq_true, decide_eq_true_eq]; omega
  refine List.Perm.eq_of_pairwise (le := fun a b => leI a b = true) (fun a b _ _ h1 h2 => ?_) (List.pairwise_mergeSort tr to ss) ?_ ((List.mergeSort_perm ss leI).trans ?_)
  · simp only [leI, decide_eq_true_eq] at h1 h2; omega
  · unfold zI
    refine List.pairwise_map.2 ((keysL_rise F N).imp fun {a b} h => ?_)
    simp only [leI, decide_eq_true_eq]; omega
  · refine (List.perm_ext_iff_of_nodup hnd ?_).2 fun x => ?_
    · unfold zI
      exact List.pairwise_map.2 ((keysL_rise F N).imp fun {a b} h => by omega)
    · rw [hm x]
      unfold zI keysL
      rw [List.mem_map]
      constructor
      · rintro ⟨k, rfl, hk⟩
        exact ⟨k, List.mem_filter.2 ⟨List.mem_range.2 (hN k hk), hk⟩, rfl⟩
      · rintro ⟨k, hk, rfl⟩
        exact ⟨k, rfl, (List.mem_filter.1 hk).2⟩

def Met (D : DataW Unit) (left : Lit → Bool) (ss : List Int) : Prop := ss.Nodup ∧ ∀ x, x ∈ ss ↔ (has D (.int .i64 x) = true ∧ left (.int .i64 x) = false)
theorem Met.start (D : DataW Unit) : Met D (has D) [] := ⟨List.nodup_nil, fun x => by cases has D (.int .i64 x) <;> simp⟩
theorem Met.step {D : DataW Unit} {left : Lit → Bool} {ss : List Int} (h : Met D left ss) {x : Int} {y : DataW Unit} (hlk : left (.int .i64 x) = true) (hat : ∀ zd, D.atKey (.int .i64 x) zd = y) : Met D (fun z => left z && !z.sameKey (.int .i64 x)) (ss ++ [x]) := by
  have hhas : has D (.int .i64 x) = true := has_true_of_atKey hat
  have hnew : x ∉ ss := fun hx => by have := ((h.2 x).1 hx).2; rw [hlk] at this; cases this
  refine ⟨List.nodup_append.2 ⟨h.1, by simp, fun a ha b hb => by simp at hb; subst hb; exact fun e => hnew (e ▸ ha)⟩, fun y => ?_⟩
  by_cases hy : y = x
  · subst hy; simp [hhas, Lit.sameKey]
  · have : (Lit.int .i64 y).sameKey (.int .i64 x) = false := sameKey_ne (by intro e; injection e with _ e; exact hy e)
    simp [h.2 y, hy, this]

set_option maxRecDepth 100000 in
set_option maxHeartbeats 2000000 in
theorem iKeys (b n N : Nat) (F : Nat → Option (Nat × Nat)) (w : World) (h : Rests w b n F) (hn : n ≤ 1000) (hN : ∀ k, (F k).isSome = true → k < N) :
    Calls Tryd.prog 62 #[.map (some b)] w fun e w' => ∃ v, e = .returned v ∧ Own w' w.heap.size v (zI (keysL F N)) ∧ Below w.heap.size w w' := by
  have hblt := h.lt
  obtain ⟨D, hD, hhas, hat⟩ := h
  have hsz := (size_le hD).1
  have HSort : Hid (∀ left ss, Met D left ss → (∀ kl, left kl = false) → ss.mergeSort leI = zI (keysL F N)) := fun left ss hm hl => sorted_keys hN hm.1 fun x => by rw [hm.2 x, hhas x, hl]; simp
  have HD := Lib.hid hD
  clear hhas hat hN hD
  go_enter Tryd.func62, Tryd.ntmps62
  go_wp2_with (at_range; refine wpList_range_own _ rfl _ 57 rfl 3 60 (int_keyed Tryd.underlying3) Tryd.underlying57 _ b n D rfl HD.out ?_; intro w0 hrg0 hg0 hs0)
  go_frame
  have HR0 := Lib.hid hrg0
  have HB0 : Hid (Below w.heap.size w w0) := (Below.refl _ _).grown hg0 (Nat.le_refl _) (by simp)
  have HS0 := Lib.hid hs0
  clear hrg0 hg0 hs0
  go_loopg [3] (Maps.size D) (fun gk v wr => ∃ left ss, wr.ranges Tryd.prog 3 restR b w.heap.size n D left gk ∧ Met D left ss ∧ ss.length + gk ≤ Maps.size D ∧ Own wr (w.heap.size + 1) v ss ∧ Below w.heap.size w wr ∧ w.heap.size + 1 ≤ wr.heap.size)
  case atStart => exact ⟨_, [], HR0.out, Met.start D, by simp, Own.nil _ _, HB0.out, by rw [HS0.out]; exact Nat.le_refl _⟩
  case round =>
    obtain ⟨left, ss, hrg, hmet, hcnt, hown, hbel, hsi⟩ := hrel
    have HRg := Lib.hid hrg
    have HMet := Lib.hid hmet
    have HO := Lib.hid hown
    have HB := Lib.hid hbel
    obtain ⟨A1, c1, rfl, _⟩ := hown.form
    clear hrg hmet hown hbel
    go_wp2_with (at_next; refine wpList_next_ranges _ rfl _ rfl 3 (int_keyed Tryd.underlying3) restR (Value.int .i64) (fun p : Int × Int => letV p.1 p.2) (fun key kl hkey => by obtain ⟨x, rfl, _⟩ := Maps.keyOf_int_inv Tryd.underlying3 hkey; exact ⟨x, rfl⟩) (fun v y hv => by obtain ⟨a, c, rfl, _⟩ := restR_inv hv; exact ⟨(a, c), rfl⟩) b w.heap.size n _ _ _ rfl HRg.out ?_ ?_)
    · intro _ hl0
      have HE := Lib.hid (HSort.out left ss HMet.out hl0)
      have HSo := Lib.hid (iSort (.slice A1 ss.length c1) ss (w.heap.size + 1) wr HO.out (by omega))
      rw [HE.out] at HSo
      clear hl0
      go_wp2_with fail
      refine HSo.out.mono ?_
      rintro e w2 ⟨rfl, ho2, hg2⟩
      have HO2 := Lib.hid (ho2.lower (Nat.le_succ _))
      have HB2 : Hid (Below w.heap.size w w2) := HB.out.grown hg2 HB.out.size (fun j hj => Nat.le_trans (Nat.le_succ _) (HO.out.lt j hj).1)
      clear ho2 hg2
      go_wp2_with fail
      go_ret
      exact ⟨_, rfl, HO2.out, HB2.out⟩
    · intro x ca cb kl yd yp w1 cnt1 hkey hlk hv hat hrg1 hlt hg1 hs1 hen
      obtain ⟨x', ex, rfl, _⟩ := Maps.keyOf_int_inv Tryd.underlying3 hkey
      cases ex
      have HMet1 := Lib.hid (HMet.out.step hlk hat)
      have HRg1 := Lib.hid hrg1
      have hne1 : (Value.slice A1 ss.length c1).ownBlock = none ∨ (Value.slice A1 ss.length c1).ownBlock ≠ some w.heap.size := by
        cases ho : (Value.slice A1 ss.length c1).ownBlock with
        | none => exact Or.inl rfl
        | some g => refine Or.inr fun e => ?_
                    injection e with e
                    have := (HO.out.lt g ho).1
                    omega
      have HO1 := Lib.hid (HO.out.kept hg1 hne1)
      have HB1 : Hid (Below w.heap.size w w1) := HB.out.grown hg1 HB.out.size (fun j hj => by cases hj; exact Nat.le_refl _)
      have hsi1 : w.heap.size + 1 ≤ w1.heap.size := by omega
      have HLt := Lib.hid hlt
      have HC : Hid (ss.length ≤ 2000000) := by show _ ≤ _; omega
      have HC2 : Hid ((ss ++ [x]).length + cnt1 ≤ Maps.size D) := by show _ ≤ _; rw [List.length_append, List.length_singleton]; omega
      clear hkey hlk hv hat hrg1 hg1 hs1 hlt hne1
      go_wp2_with (at_builtin; refine app_any w1 (w.heap.size + 1) _ ss x _ rfl rfl _ _ rfl rfl rfl HO1.out hsi1 HC.out w1 (Below.refl _ _) ?_)
      intro v' w' H'
      have HB2 : Hid (Below w.heap.size w w') := (HB1.out.alloc HB1.out.size _).grown H'.out.2.2 (by have := HB1.out.size; simp; omega) (fun j hj => Nat.le_trans (Nat.le_succ _) (HO1.out.lt j hj).1)
      have HRg2 : Hid (w'.ranges Tryd.prog 3 restR b w.heap.size n D (fun z => left z && !z.sameKey (.int .i64 x)) cnt1) := by
        refine (HRg1.out.alloc _).kept H'.out.2.2 ?_ ?_
        · intro e; have := (HO1.out.lt b e.symm).1; omega
        · intro e; have := (HO1.out.lt _ e.symm).1; omega
      have HS2 : Hid (w.heap.size + 1 ≤ w'.heap.size) := by have := H'.out.2.2.size; simp at this; show _ ≤ _; omega
      go_wp2_with fail
      go_roundg cnt1
      case measure => exact HLt.out
      case rel => exact ⟨_, _, HRg2.out, HMet1.out, HC2.out, H'.out.1, HB2.out, HS2.out⟩
end Go.Proofs.YtcpfneikcefcmaaDoor

/- MP -/
namespace Go.Proofs.YtcpfneikcefcmaaDoor

/-- What is left of symbol x: the row of its unknown pieces and the sum without its known ones; nothing where all are known. -/
def leftX (n : Nat) (S : Know) (x : Nat × Nat) : Option (Nat × Nat) :=
  if rowN (unkL S (partsL x.1 n)) = 0 then none else some (rowN (unkL S (partsL x.1 n)), x.2 ^^^ xorL (knV S) (partsL x.1 n))
def restF (n : Nat) (L : List (Nat × Nat)) (S : Know) (k : Nat) : Option (Nat × Nat) := if k < L.length then leftX n S (L.getD k (0, 0)) else none
def takeX (r0 s0 : Nat) (x : Option (Nat × Nat)) : Option (Nat × Nat) :=
  match x with
  | none => none
  | some (r, s) => if r = r0 then none else if r &&& r0 = 0 then some (r, s) else some (r ^^^ r0, s ^^^ s0)
theorem rowN_zero {P : List Nat} : rowN P = 0 ↔ P = [] := by
  constructor
  · intro h
    cases P with
    | nil => rfl
    | cons p P =>
      have := rowN_bit (p :: P) p
      rw [h] at this
      simp at this
  · rintro rfl; rfl
theorem unk_rise {n : Nat} {S : Know} {P : List Nat} (h : Rise n P) : Rise n (unkL S P) := ⟨h.1.filter _, fun k hk => h.2 k (List.mem_filter.1 hk).1⟩
theorem cnt_row {n : Nat} {P : List Nat} (h : Rise n P) (hn : n ≤ 8) : cnt 8 (rowN P) = P.length := by
  have h8 : Rise 8 P := ⟨h.1, fun k hk => by have := h.2 k hk; omega⟩
  rw [← bitsL_len, bits_row h8, zI_length]
theorem xor_move {a c s : Nat} (h : a ^^^ c = s) : a = s ^^^ c := by rw [← h, Nat.xor_assoc, Nat.xor_self, Nat.xor_zero]
theorem unk_set {u v : Nat} {S : Know} {P : List Nat} (hu : u < S.length) : unkL (S.set u (some v)) P = (unkL S P).filter fun k => decide (k ≠ u) := by
  unfold unkL
  rw [List.filter_filter]
  refine List.filter_congr fun k _ => ?_
  rw [getD_set hu]
  by_cases e : k = u <;> simp [e]
theorem and_pow_zero {r u : Nat} : r &&& 2 ^ u = 0 ↔ r.testBit u = false := by
  rw [Nat.testBit_eq_decide_div_mod_eq]
  constructor
  · intro h
    cases hb : decide (r / 2 ^ u % 2 = 1) with
    | false => rfl
    | true => exact absurd h (and_pow_ne.2 (by simpa using hb))
  · intro h
    exact Classical.byContradiction fun h' => by
      have := and_pow_ne.1 h'
      rw [this] at h
      simp at h
theorem take_left {n u s : Nat} {S : Know} (hn : 1 ≤ n) (hS : S.length = n) (hu : u < n) (hun : S.getD u none = none) (x : Nat × Nat) : takeX (2 ^ u) s (leftX n S x) = leftX n (S.set u (some s)) x := by
  have hr := (parts_ok x.1 hn).1
  have hus : u < S.length := by omega
  unfold leftX
  generalize partsL x.1 n = P at *
  have hU := unk_rise (S := S) hr
  rw [unk_set hus]
  have hmem : u ∈ unkL S P ↔ u ∈ P := ⟨fun h => (List.mem_filter.1 h).1, fun h => List.mem_filter.2 ⟨h, by rw [hun]; rfl⟩⟩
  by_cases hup : u ∈ P
  · have huU := hmem.2 hup
    generalize hUU : unkL S P = U at *
    have hx : xorL (knV (S.set u (some s))) P = s ^^^ xorL (knV S) P := by
      have h1 := xorL_one (f := knV (S.set u (some s))) (g := knV S) hr.nodup hup (by rw [knV, hun]; rfl) (fun k _ hk => by rw [knV, knV, getD_set hus, if_neg hk])
      rw [show knV (S.set u (some s)) u = s by rw [knV, getD_set hus, if_pos rfl]; rfl] at h1
      exact xor_move h1
    have hrow : rowN (U.filter fun k => decide (k ≠ u)) = rowN U ^^^ 2 ^ u := by
      apply Nat.eq_of_testBit_eq
      intro i
      rw [rowN_bit, Nat.testBit_xor, rowN_bit, Nat.testBit_two_pow]
      by_cases e : i = u
      · subst e; simp [huU]
      · have e' : ¬ u = i := fun h => e h.symm
        by_cases hi : i ∈ U <;> simp [hi, e, e']
    have hb : (rowN U).testBit u = true := by rw [rowN_bit]; simpa using huU
    have hr0 : rowN U ≠ 0 := by intro h; rw [h] at hb; simp at hb
    rw [if_neg hr0, hrow, hx]
    simp only [takeX]
    by_cases hq : rowN U = 2 ^ u
    · rw [if_pos hq, hq, Nat.xor_self, if_pos rfl]
    · have h1 : rowN U ^^^ 2 ^ u ≠ 0 := fun h => hq (by have := xor_move h; rwa [Nat.zero_xor] at this)
      have h2 : ¬ rowN U &&& 2 ^ u = 0 := fun h => by rw [and_pow_zero.1 h] at hb; cases hb
      rw [if_neg hq, if_neg h2, if_neg h1, Nat.xor_assoc, Nat.xor_comm (xorL (knV S) P) s]
  · have huU : u ∉ unkL S P := fun h => hup (hmem.1 h)
    have hx : xorL (knV (S.set u (some s))) P = xorL (knV S) P := xorL_congr fun k hk => by
      rw [knV, knV, getD_set hus, if_neg (by rintro rfl; exact hup hk)]
    have hf : (unkL S P).filter (fun k => decide (k ≠ u)) = unkL S P := List.filter_eq_self.2 fun k hk => by
      have : k ≠ u := by rintro rfl; exact huU hk
      simpa using this
    rw [hf, hx]
    generalize unkL S P = U at *
    have hb : (rowN U).testBit u = false := by rw [rowN_bit]; simpa using huU
    by_cases h0 : rowN U = 0
    · rw [if_pos h0]; rfl
    · rw [if_neg h0]
      simp only [takeX]
      have hq : ¬ rowN U = 2 ^ u := fun h => by rw [h, Nat.testBit_two_pow_self] at hb; cases hb
      rw [if_neg hq, if_pos (and_pow_zero.2 hb)]
theorem take_rest {n u s : Nat} {S : Know} {L : List (Nat × Nat)} (hn : 1 ≤ n) (hS : S.length = n) (hu : u < n) (hun : S.getD u none = none) : (fun k => takeX (2 ^ u) s (restF n L S k)) = restF n L (S.set u (some s)) := by
  funext k
  unfold restF
  by_cases h : k < L.length
  · rw [if_pos h, if_pos h, take_left hn hS hu hun]
  · rw [if_neg h, if_neg h]; rfl
theorem rest_lt {n : Nat} {L : List (Nat × Nat)} {S : Know} {k : Nat} (h : (restF n L S k).isSome = true) : k < L.length := by
  unfold restF at h
  split at h
  · assumption
  · cases h
/-- A symbol that the search passes over gives no step. -/
theorem step_no {n : Nat} {L : List (Nat × Nat)} {S : Know} {k : Nat} (hn : 1 ≤ n) (hn8 : n ≤ 8) (hk : k < L.length) (h : ∀ r s, restF n L S k = some (r, s) → cnt 8 r ≠ 1) : stepS n S L[k] = none := by
  have hr := unk_rise (S := S) (parts_ok L[k].1 hn).1
  unfold restF at h
  rw [if_pos hk, show L.getD k (0, 0) = L[k] by simp [List.getD, hk], leftX] at h
  unfold stepS
  by_cases h0 : rowN (unkL S (partsL L[k].1 n)) = 0
  · rw [rowN_zero.1 h0, if_neg (by simp)]
  · rw [if_neg h0] at h
    have := h _ _ rfl
    rw [cnt_row hr hn8] at this
    rw [if_neg this]
/-- The symbol that the search finds gives the step. -/
theorem step_yes {n : Nat} {L : List (Nat × Nat)} {S : Know} {k r s : Nat} (hn : 1 ≤ n) (hn8 : n ≤ 8) (hk : k < L.length) (h : restF n L S k = some (r, s)) (hc : cnt 8 r = 1) :
    ∃ u, u < n ∧ r = 2 ^ u ∧ S.getD u none = none ∧ stepS n S L[k] = some (S.set u (some s)) := by
  have hr := unk_rise (S := S) (parts_ok L[k].1 hn).1
  unfold restF at h
  rw [if_pos hk, show L.getD k (0, 0) = L[k] by simp [List.getD, hk], leftX] at h
  split at h
  · cases h
  · injection h with h
    injection h with h1 h2
    subst h1
    rw [cnt_row hr hn8] at hc
    have hst : stepS n S L[k] = some (S.set ((unkL S (partsL L[k].1 n)).getD 0 0) (some s)) := by rw [stepS, if_pos hc, h2]
    obtain ⟨u, hu⟩ : ∃ u, unkL S (partsL L[k].1 n) = [u] := by
      match hq : unkL S (partsL L[k].1 n), hc with
      | [u], _ => exact ⟨u, rfl⟩
    have hm : u ∈ unkL S (partsL L[k].1 n) := by rw [hu]; exact List.mem_singleton.2 rfl
    refine ⟨u, hr.2 u hm, by rw [hu]; simp [rowN], by simpa using (List.mem_filter.1 hm).2, ?_⟩
    rw [hst, hu]; rfl
theorem start_left {n : Nat} (hn : 1 ≤ n) (x : Nat × Nat) : leftX n (List.replicate n none) x = some (rowOfN n x.1, x.2) := by
  have hP := (parts_ok x.1 hn)
  have hd := degN_bd x.1 hn
  have h1 : unkL (List.replicate n none) (partsL x.1 n) = partsL x.1 n := List.filter_eq_self.2 fun k _ => by rw [know_none]; rfl
  have h2 : xorL (knV (List.replicate n none)) (partsL x.1 n) = 0 := by
    rw [xorL_congr (g := fun _ => 0) (fun k _ => by rw [knV, know_none]; rfl)]
    generalize partsL x.1 n = P
    induction P with
    | nil => rfl
    | cons p P ih => rw [xorL_cons, ih]; rfl
  have h3 : rowN (partsL x.1 n) ≠ 0 := fun h => by
    have := hP.2
    rw [rowN_zero.1 h] at this
    simp at this; omega
  rw [leftX, h1, h2, if_neg h3, Nat.xor_zero]; rfl
theorem left_bd {n : Nat} {S : Know} {x : Nat × Nat} {r s : Nat} (hn : 1 ≤ n) (hn8 : n ≤ 8) (hx : x.2 < 2 ^ 32) (hS : ∀ k, knV S k < 2 ^ 32) (h : leftX n S x = some (r, s)) : r < 256 ∧ s < 2 ^ 32 := by
  unfold leftX at h
  split at h
  · cases h
  · injection h with h
    injection h with h1 h2
    subst h1; subst h2
    have hr := unk_rise (S := S) (parts_ok x.1 hn).1
    exact ⟨Nat.lt_of_lt_of_le (rowN_lt hr.2) (Nat.pow_le_pow_right (by omega) hn8), Nat.xor_lt_two_pow hx (xorL_lt fun k _ => hS k)⟩
end Go.Proofs.YtcpfneikcefcmaaDoor

/- E9 -/
namespace Go.Proofs.YtcpfneikcefcmaaDoor
open Go.RowKit Go.Maps

/-- Where the library's table tells the place of the bit of 2 ^ k. -/
def deIdx : Nat → Nat
  | 0 => 0
  | 1 => 1
  | 2 => 3
  | 3 => 7
  | 4 => 15
  | 5 => 31
  | 6 => 63
  | 7 => 62
  | _ => 0
def DeTab (w : World) : Prop := ∀ k, k < 8 → w.cell? ⟨2, deIdx k, none⟩ = some (.int .u8 k)
theorem DeTab.below {w w' : World} (h : DeTab w) (hb : Below w.heap.size w w') : DeTab w' := fun i hi => (hb.cell (World.block_lt_of_cell? _ _ (h i hi))).trans (h i hi)
theorem DeTab.kept {w w' : World} {b : Nat} (h : DeTab w) (hg : w.grownBy w' (some b)) (hb : 2 ≠ b) : DeTab w' := fun i hi => hg.cell (h i hi) (by intro e; injection e with e; exact hb e)
set_option maxRecDepth 100000 in
set_option maxHeartbeats 1000000 in
theorem tz64 (k : Nat) (w : World) (hk : k < 8) (hD : DeTab w) : Calls Tryd.prog 65 #[.int .u64 ((2 ^ k : Nat) : Int)] w fun e w' => e = .returned (.int .i64 k) ∧ w = w' := by
  obtain rfl | rfl | rfl | rfl | rfl | rfl | rfl | rfl : k = 0 ∨ k = 1 ∨ k = 2 ∨ k = 3 ∨ k = 4 ∨ k = 5 ∨ k = 6 ∨ k = 7 := by omega
  · have hc := hD 0 (by omega)
    simp only [deIdx] at hc
    have e1 : bits .and .u64 1 (IntKind.u64.wrap (-1)) = 1 := by decide +kernel
    have e2 : IntKind.u64.wrap (1 * 285870213051353865) = 285870213051353865 := by decide +kernel
    have e3 : IntKind.u64.wrap 285870213051353865 = 285870213051353865 := by decide +kernel
    show Calls Tryd.prog 65 #[.int .u64 1] w fun e w' => e = .returned (.int .i64 0) ∧ w = w'
    clear hD
    go_enter Tryd.func65, Tryd.ntmps65
    go_wp2_with fail
    go_ret
    exact ⟨rfl, rfl⟩
  · have hc := hD 1 (by omega)
    simp only [deIdx] at hc
    have e1 : bits .and .u64 2 (IntKind.u64.wrap (-2)) = 2 := by decide +kernel
    have e2 : IntKind.u64.wrap (2 * 285870213051353865) = 571740426102707730 := by decide +kernel
    have e3 : IntKind.u64.wrap 571740426102707730 = 571740426102707730 := by decide +kernel
    show Calls Tryd.prog 65 #[.int .u64 2] w fun e w' => e = .returned (.int .i64 1) ∧ w = w'
    clear hD
    go_enter Tryd.func65, Tryd.ntmps65
    go_wp2_with fail
    go_ret
    exact ⟨rfl, rfl⟩
  · have hc := hD 2 (by omega)
    simp only [deIdx] at hc
    have e1 : bits .and .u64 4 (IntKind.u64.wrap (-4)) = 4 := by decide +kernel
    have e2 : IntKind.u64.wrap (4 * 285870213051353865) = 1143480852205415460 := by decide +kernel
    have e3 : IntKind.u64.wrap 1143480852205415460 = 1143480852205415460 := by decide +kernel
    show Calls Tryd.prog 65 #[.int .u64 4] w fun e w' => e = .returned (.int .i64 2) ∧ w = w'
    clear hD
    go_enter Tryd.func65, Tryd.ntmps65
    go_wp2_with fail
    go_ret
    exact ⟨rfl, rfl⟩
  · have hc := hD 3 (by omega)
    simp only [deIdx] at hc
    have e1 : bits .and .u64 8 (IntKind.u64.wrap (-8)) = 8 := by decide +kernel
    have e2 : IntKind.u64.wrap (8 * 285870213051353865) = 2286961704410830920 := by decide +kernel
    have e3 : IntKind.u64.wrap 2286961704410830920 = 2286961704410830920 := by decide +kernel
    show Calls Tryd.prog 65 #[.int .u64 8] w fun e w' => e = .returned (.int .i64 3) ∧ w = w'
    clear hD
    go_enter Tryd.func65, Tryd.ntmps65
    go_wp2_with fail
    go_ret
    exact ⟨rfl, rfl⟩
  · have hc := hD 4 (by omega)
    simp only [deIdx] at hc
    have e1 : bits .and .u64 16 (IntKind.u64.wrap (-16)) = 16 := by decide +kernel
    have e2 : IntKind.u64.wrap (16 * 285870213051353865) = 4573923408821661840 := by decide +kernel
    have e3 : IntKind.u64.wrap 4573923408821661840 = 4573923408821661840 := by decide +kernel
    show Calls Tryd.prog 65 #[.int .u64 16] w fun e w' => e = .returned (.int .i64 4) ∧ w = w'
    clear hD
    go_enter Tryd.func65, Tryd.ntmps65
    go_wp2_with fail
    go_ret
    exact ⟨rfl, rfl⟩
  · have hc := hD 5 (by omega)
    simp only [deIdx] at hc
    have e1 : bits .and .u64 32 (IntKind.u64.wrap (-32)) = 32 := by decide +kernel
    have e2 : IntKind.u64.wrap (32 * 285870213051353865) = 9147846817643323680 := by decide +kernel
    have e3 : IntKind.u64.wrap 9147846817643323680 = 9147846817643323680 := by decide +kernel
    show Calls Tryd.prog 65 #[.int .u64 32] w fun e w' => e = .returned (.int .i64 5) ∧ w = w'
    clear hD
    go_enter Tryd.func65, Tryd.ntmps65
    go_wp2_with fail
    go_ret
    exact ⟨rfl, rfl⟩
  · have hc := hD 6 (by omega)
    simp only [deIdx] at hc
    have e1 : bits .and .u64 64 (IntKind.u64.wrap (-64)) = 64 := by decide +kernel
    have e2 : IntKind.u64.wrap (64 * 285870213051353865) = 18295693635286647360 := by decide +kernel
    have e3 : IntKind.u64.wrap 18295693635286647360 = 18295693635286647360 := by decide +kernel
    show Calls Tryd.prog 65 #[.int .u64 64] w fun e w' => e = .returned (.int .i64 6) ∧ w = w'
    clear hD
    go_enter Tryd.func65, Tryd.ntmps65
    go_wp2_with fail
    go_ret
    exact ⟨rfl, rfl⟩
  · have hc := hD 7 (by omega)
    simp only [deIdx] at hc
    have e1 : bits .and .u64 128 (IntKind.u64.wrap (-128)) = 128 := by decide +kernel
    have e2 : IntKind.u64.wrap (128 * 285870213051353865) = 18144643196863743104 := by decide +kernel
    have e3 : IntKind.u64.wrap 36591387270573294720 = 18144643196863743104 := by decide +kernel
    show Calls Tryd.prog 65 #[.int .u64 128] w fun e w' => e = .returned (.int .i64 7) ∧ w = w'
    clear hD
    go_enter Tryd.func65, Tryd.ntmps65
    go_wp2_with fail
    go_ret
    exact ⟨rfl, rfl⟩

set_option maxRecDepth 100000 in
set_option maxHeartbeats 1000000 in
theorem iTz (k : Nat) (w : World) (hk : k < 8) (hD : DeTab w) : Calls Tryd.prog 36 #[.int .u64 ((2 ^ k : Nat) : Int)] w fun e w' => e = .returned (.int .i64 k) ∧ w = w' := by
  have HT := Lib.hid (tz64 k w hk hD)
  generalize 2 ^ k = q at *
  clear hD
  go_enter Tryd.func36, Tryd.ntmps36
  go_wp2_with (go_at_call 65; refine HT.out.mono ?_; rintro e w' ⟨rfl, rfl⟩)
  go_ret
  exact ⟨rfl, rfl⟩

theorem infoRest : (Tryd.prog.info? 60).map (·.size) = some 2 := by kernel_rfl
theorem ret_rest2 {fn : Func} {p u : Tmp} (h : fn.results = #[.cell p 60, .tmp u]) {R : Ending → World → Prop} {a : Act} {w : World} (g : Nat) (x y : Int) (b : Bool) (hp : a.tmps.getD p undef = .pointer (some ⟨g, 0, none⟩)) (hu : a.tmps.getD u undef = .bool b)
    (hg : w.heap[g]? = some (.cells #[.int .i64 x, .int .i64 y] 60 (0, 0))) (hd : a.defers = []) (hR : R (.returned (.tuple #[letV x y, .bool b])) w) : bodyPost Tryd.prog fn R .ret a w := by
  have hp' : a.tmps[p]?.getD undef = .pointer (some ⟨g, 0, none⟩) := by simpa using hp
  have hu' : a.tmps[u]?.getD undef = .bool b := by simpa using hu
  refine bodyPost_ret (v := .tuple #[letV x y, .bool b]) ?_ hd hR
  rw [results_cell_tmp h]
  simp [hp', hu', asAddr, run_loadVar_row w g 60 60 #[.int .i64 x, .int .i64 y] (0, 0) _ hg Tryd.underlying60 rfl infoRest]

/-- What the search over the rests gives. -/
def Found (F : Nat → Option (Nat × Nat)) (e : Ending) : Prop :=
  (∃ k r s, F k = some (r, s) ∧ cnt 8 r = 1 ∧ (∀ j, j < k → ∀ r' s', F j = some (r', s') → cnt 8 r' ≠ 1) ∧ e = .returned (.tuple #[letV r s, .bool true])) ∨
  ((∀ j r' s', F j = some (r', s') → cnt 8 r' ≠ 1) ∧ e = .returned (.tuple #[letV 0 0, .bool false]))
theorem keys_mem {F : Nat → Option (Nat × Nat)} {N k : Nat} (h : k ∈ keysL F N) : ∃ r s, F k = some (r, s) ∧ k < N := by
  obtain ⟨h1, h2⟩ := List.mem_filter.1 h
  obtain ⟨⟨r, s⟩, hx⟩ := Option.isSome_iff_exists.1 h2
  exact ⟨r, s, hx, List.mem_range.1 h1⟩
theorem keys_at {F : Nat → Option (Nat × Nat)} {N j r s : Nat} (hN : ∀ k, (F k).isSome = true → k < N) (h : F j = some (r, s)) : ∃ i, ∃ hi : i < (keysL F N).length, (keysL F N)[i] = j := by
  have hm : j ∈ keysL F N := List.mem_filter.2 ⟨List.mem_range.2 (hN j (by rw [h]; rfl)), by rw [h]; rfl⟩
  obtain ⟨i, hi, e⟩ := List.mem_iff_getElem.1 hm
  exact ⟨i, hi, e⟩
theorem rise_at {K : List Nat} (h : K.Pairwise (· < ·)) {i t : Nat} (hi : i < K.length) (ht : t < K.length) (hlt : K[i] < K[t]) : i < t := by
  rcases Nat.lt_or_ge i t with h1 | h1
  · exact h1
  · rcases Nat.eq_or_lt_of_le h1 with h2 | h2
    · subst h2; omega
    · have := List.pairwise_iff_getElem.1 h t i ht hi h2
      omega
theorem keys_len (F : Nat → Option (Nat × Nat)) (N : Nat) : (keysL F N).length ≤ N := Nat.le_trans (List.length_filter_le _ _) (by simp)

set_option maxRecDepth 100000 in
set_option maxHeartbeats 2000000 in
theorem iFirst (b n N : Nat) (F : Nat → Option (Nat × Nat)) (w : World) (ht : Tab w) (h : Rests w b n F) (hn : n ≤ 1000) (hN : ∀ k, (F k).isSome = true → k < N) (hN2 : N ≤ 1000) (hF : ∀ k r s, F k = some (r, s) → r < 65536) :
    Calls Tryd.prog 35 #[.map (some b)] w fun e w' => Found F e ∧ Below w.heap.size w w' := by
  have HR := Lib.hid h
  have HT := Lib.hid ht
  have HF := Lib.hid hF
  have HN := Lib.hid hN
  have h2 : (w.alloc (.cells #[.int .i64 0, .int .i64 0] 60)).heap[w.heap.size]? = some (.cells #[.int .i64 0, .int .i64 0] 60 (0, 0)) := heap_alloc_new _ _
  have H2 := Lib.hid h2
  have HK := Lib.hid (iKeys b n N F (w.alloc (.cells #[.int .i64 0, .int .i64 0] 60)) (h.below (gAlloc _ _)) hn hN)
  have HKm : Hid (∀ k ∈ keysL F N, ∃ r s, F k = some (r, s) ∧ k < N) := fun k hk => keys_mem hk
  have HKa : Hid (∀ j r s, F j = some (r, s) → ∃ i, ∃ hi : i < (keysL F N).length, (keysL F N)[i] = j) := fun j r s hj => keys_at hN hj
  have HKr := Lib.hid (keysL_rise F N)
  have hkl := keys_len F N
  clear h ht hF hN h2
  generalize keysL F N = KS at *
  go_enter Tryd.func35, Tryd.ntmps35
  go_wp2_with fail
  refine HK.out.mono ?_
  rintro e w1 ⟨v1, rfl, ho1, hb1⟩
  obtain ⟨A1, c1, rfl, hI1⟩ := ho1.form
  rw [zI_length]
  have HI1 := Lib.hid hI1
  have HB1 := Lib.hid (below_more (gAlloc w _) hb1)
  have H21 : Hid (w1.heap[w.heap.size]? = some (.cells #[.int .i64 0, .int .i64 0] 60 (0, 0))) := (hb1.block _ (by simp)).trans H2.out
  clear ho1 hI1 hb1 HK H2
  go_wp2_with fail
  go_loopg [10] KS.length (fun gk i wr => ∃ t : Nat, t + gk = KS.length ∧ i = .int .i64 t ∧ (∀ i (hi : i < KS.length), i < t → ∀ r s, F KS[i] = some (r, s) → cnt 8 r ≠ 1) ∧ Below w1.heap.size w1 wr)
  case atStart => exact ⟨0, by omega, rfl, (fun i hi h0 => by omega), Below.refl _ _⟩
  case round =>
    obtain ⟨t, hg, rfl, hno, hbel⟩ := hrel
    have HNo := Lib.hid hno
    have HBl := Lib.hid hbel
    have H2r : Hid (wr.heap[w.heap.size]? = some (.cells #[.int .i64 0, .int .i64 0] 60 (0, 0))) := (hbel.block _ (Array.getElem?_eq_some_iff.1 H21.out).1).trans H21.out
    have HBw := Lib.hid (below_more HB1.out hbel)
    clear hno hbel
    by_cases hlt : t < KS.length
    · have hti : (t : Int) < (KS.length : Int) := by omega
      obtain ⟨b3, o3, rfl, hc3⟩ := (HI1.out.below HBl.out).cellN hlt
      obtain ⟨r, s, hFk, hkN⟩ := HKm.out KS[t] (List.getElem_mem hlt)
      have hr16 := HF.out _ _ _ hFk
      have hlook := (HR.out.below HBw.out).look hFk (by omega)
      have HNo2 : Hid (cnt 8 r ≠ 1 → ∀ i (hi : i < KS.length), i < t + 1 → ∀ r s, F KS[i] = some (r, s) → cnt 8 r ≠ 1) := fun hc i hi hi1 r' s' hF' => by
        by_cases e : i = t
        · subst e
          rw [hFk] at hF'
          injection hF' with hF'
          injection hF' with e1 e2
          rw [← e1]; exact hc
        · exact HNo.out i hi (by omega) r' s' hF'
      have HYes : Hid (cnt 8 r = 1 → Found F (.returned (.tuple #[letV r s, .bool true]))) := fun hc => by
        refine Or.inl ⟨KS[t], r, s, hFk, hc, fun j hj r' s' hF' => ?_, rfl⟩
        obtain ⟨i, hi, e⟩ := HKa.out j r' s' hF'
        refine HNo.out i hi (rise_at HKr.out hi hlt (by rw [e]; exact hj)) r' s' (by rw [e]; exact hF')
      have HGK : Hid (KS.length - t - 1 < gk ∧ t + 1 + (KS.length - t - 1) = KS.length) := by show _ ∧ _; omega
      clear hg hFk
      generalize KS[t] = k at *
      have hx0 : (wr.alloc (.cells #[.int .i64 r, .int .i64 s] 60)).cell? ⟨wr.heap.size, 0, none⟩ = some (.int .i64 r) := cell_of_row _ _ 0 _ _ _ (heap_alloc_new _ _)
      have hx1 : (wr.alloc (.cells #[.int .i64 r, .int .i64 s] 60)).cell? ⟨wr.heap.size, 1, none⟩ = some (.int .i64 s) := cell_of_row _ _ 1 _ _ _ (heap_alloc_new _ _)
      have HBa : Hid (Below wr.heap.size wr (wr.alloc (.cells #[.int .i64 r, .int .i64 s] 60))) := gAlloc _ _
      have HBn := Lib.hid (below_more HBl.out HBa.out)
      have HCn := Lib.hid (iCount 8 r (wr.alloc (.cells #[.int .i64 r, .int .i64 s] 60)) ((HT.out.below HBw.out).below HBa.out) (by omega) hr16)
      have hcn := cnt_le 8 r
      generalize hcc : cnt 8 r = c at *
      by_cases hc : c = 1
      · have hci : ((c : Int) == 1) = true := by subst hc; rfl
        have HFo := Lib.hid (HYes.out hc)
        have H2a : Hid ((wr.alloc (.cells #[.int .i64 r, .int .i64 s] 60)).heap[w.heap.size]? = some (.cells #[.int .i64 0, .int .i64 0] 60 (0, 0))) := (HBa.out.block _ (Array.getElem?_eq_some_iff.1 H2r.out).1).trans H2r.out
        have HBz := Lib.hid (below_more HBw.out HBa.out)
        clear hcc
        generalize hWW : wr.alloc (.cells #[.int .i64 r, .int .i64 s] 60) = WW at *
        have hd0 : WW.cell? ⟨w.heap.size, 0, none⟩ = some (.int .i64 0) := cell_of_row _ _ 0 _ _ _ H2a.out
        have hd1 : WW.cell? ⟨w.heap.size, 1, none⟩ = some (.int .i64 0) := cell_of_row _ _ 1 _ _ _ H2a.out
        have hg0 := frozen_of_row WW _ 0 _ _ H2a.out
        have hg1 := frozen_of_row WW _ 1 _ _ H2a.out
        go_wp2_with (go_at_call 63; refine HCn.out.mono ?_; rintro e w' ⟨rfl, rfl⟩)
        have hgo : ((WW.setCell ⟨w.heap.size, 0, none⟩ (.int .i64 r)).setCell ⟨w.heap.size, 1, none⟩ (.int .i64 s)).heap[w.heap.size]? = some (.cells #[.int .i64 r, .int .i64 s] 60 (0, 0)) :=
          heap_setCell_same _ _ 1 _ _ _ (heap_setCell_same _ _ 0 _ _ _ H2a.out)
        exact ret_rest2 rfl w.heap.size r s true rfl rfl hgo rfl ⟨HFo.out, (HBz.out.setCell (Nat.le_refl _) _).setCell (Nat.le_refl _) _⟩
      · have hci : ((c : Int) == 1) = false := by simp; omega
        have HN2 := Lib.hid (HNo2.out hc)
        clear hcc
        go_wp2_with (go_at_call 63; refine HCn.out.mono ?_; rintro e w' ⟨rfl, rfl⟩)
        go_roundg (KS.length - t - 1)
        case measure => exact HGK.out.1
        case rel => exact ⟨t + 1, HGK.out.2, by go_num, HN2.out, HBn.out⟩
    · obtain rfl : t = KS.length := by omega
      have hti : ¬ (KS.length : Int) < (KS.length : Int) := by omega
      have HFo : Hid (Found F (.returned (.tuple #[letV 0 0, .bool false]))) := Or.inr ⟨fun j r' s' hF' => by
        obtain ⟨i, hi, e⟩ := HKa.out j r' s' hF'
        exact HNo.out i hi hi r' s' (by rw [e]; exact hF'), rfl⟩
      have hd0 : wr.cell? ⟨w.heap.size, 0, none⟩ = some (.int .i64 0) := cell_of_row _ _ 0 _ _ _ H2r.out
      have hd1 : wr.cell? ⟨w.heap.size, 1, none⟩ = some (.int .i64 0) := cell_of_row _ _ 1 _ _ _ H2r.out
      have hg0 := frozen_of_row wr _ 0 _ _ H2r.out
      have hg1 := frozen_of_row wr _ 1 _ _ H2r.out
      go_wp2_with fail
      have hgo : ((wr.setCell ⟨w.heap.size, 0, none⟩ (.int .i64 0)).setCell ⟨w.heap.size, 1, none⟩ (.int .i64 0)).heap[w.heap.size]? = some (.cells #[.int .i64 0, .int .i64 0] 60 (0, 0)) :=
        heap_setCell_same _ _ 1 _ _ _ (heap_setCell_same _ _ 0 _ _ _ H2r.out)
      exact ret_rest2 rfl w.heap.size 0 0 false rfl rfl hgo rfl ⟨HFo.out, (HBw.out.setCell (Nat.le_refl _) _).setCell (Nat.le_refl _) _⟩
end Go.Proofs.YtcpfneikcefcmaaDoor

/- F1 -/
namespace Go.Proofs.YtcpfneikcefcmaaDoor
open Go.RowKit Go.Maps

theorem restF_snoc {n : Nat} {L : List (Nat × Nat)} {S : Know} {k : Nat} (h : k < L.length) : restF n (L.take (k + 1)) S = putF (restF n (L.take k) S) k (leftX n S L[k]) := by
  funext j
  unfold restF putF
  dsimp only
  by_cases e : j = k
  · subst e
    rw [if_pos (by rw [List.length_take]; omega), if_pos rfl]
    congr 1
    simp [List.getD, h]
  · rw [if_neg e]
    by_cases hj : j < k
    · rw [if_pos (by rw [List.length_take]; omega), if_pos (by rw [List.length_take]; omega)]
      congr 1
      simp [List.getD, hj, show j < k + 1 by omega]
    · rw [if_neg (by rw [List.length_take]; omega), if_neg (by rw [List.length_take]; omega)]
theorem restF_end {n : Nat} {L : List (Nat × Nat)} {S : Know} {k : Nat} (h : k ≤ L.length) : restF n (L.take k) S k = none := by
  unfold restF
  rw [if_neg (by rw [List.length_take]; omega)]
theorem rests_made (w : World) (n : Nat) (L : List (Nat × Nat)) (S : Know) : Rests (w.alloc (.map #[] 0)) w.heap.size 0 (restF n (L.take 0) S) := by
  refine ⟨.map [], World.ownsMap_made _ _ _ _, fun x => ?_, fun k r s h => ?_⟩
  · constructor
    · intro h; cases h
    · rintro ⟨k, _, h⟩; simp [restF] at h
  · simp [restF] at h

set_option maxRecDepth 100000 in
set_option maxHeartbeats 2000000 in
theorem iRests (n : Nat) (A : Option Addr) (L : List (Nat × Nat)) (ca : Nat) (w : World) (ht : Tab w) (ha : Lets w A (intL L)) (hn1 : 1 ≤ n) (hn8 : n ≤ 8) (hL : L.length ≤ 40) (hx : ∀ x ∈ L, x.1 ≤ 999 ∧ x.2 < 2 ^ 32) :
    Calls Tryd.prog 34 #[.int .i64 n, .slice A L.length ca] w fun e w' => e = .returned (.map (some w.heap.size)) ∧ Rests w' w.heap.size L.length (restF n L (List.replicate n none)) ∧ Below w.heap.size w w' := by
  have hmm := @run_makeMap Tryd.prog
  have HA := Lib.hid ha
  have HS0 := Lib.hid (rests_made w n L (List.replicate n none))
  have HBa : Hid (Below w.heap.size w (w.alloc (.map #[] 0))) := gAlloc _ _
  have hil := intL_length L
  have hfst : (intL L).map Prod.fst = zI (L.map Prod.fst) := by unfold intL zI; rw [List.map_map, List.map_map]; rfl
  have HNos := Lib.hid (iNos A (intL L) ca (w.alloc (.map #[] 0)) (ha.below (gAlloc _ _)) (by omega))
  rw [hfst, hil] at HNos
  have HRows := Lib.hid (fun w1 A1 c1 h1 h2 => iRows5 n A1 (L.map Prod.fst) c1 w1 h1 h2 hn1 hn8 (by rw [List.length_map]; omega) (fun x hx' => by obtain ⟨y, hy, rfl⟩ := List.mem_map.1 hx'; exact (hx y hy).1))
  have hml : (L.map Prod.fst).length = L.length := List.length_map _
  have hrl : ((L.map Prod.fst).map (rowOfN n)).length = L.length := by rw [List.length_map, hml]
  rw [hml] at HRows
  have HAt : Hid (∀ k (h : k < L.length), ((L.map Prod.fst).map (rowOfN n)).getD k 0 = rowOfN n L[k].1) := fun k h => by simp [List.getD, h]
  have HLe : Hid (∀ k (h : k < L.length), leftX n (List.replicate n none) L[k] = some (rowOfN n L[k].1, L[k].2)) := fun k h => start_left hn1 _
  have HTb := Lib.hid ht
  have HNl := Lib.hid hml
  have HRl := Lib.hid hrl
  clear ha ht hfst hx hml hrl hil
  generalize (L.map Prod.fst).map (rowOfN n) = RR at *
  generalize L.map Prod.fst = NN at *
  go_enter Tryd.func34, Tryd.ntmps34
  go_wp2_with fail
  refine HNos.out.mono ?_
  rintro e w2 ⟨v2, rfl, ho2, hb2⟩
  obtain ⟨A2, c2, rfl, hI2⟩ := ho2.form
  rw [zI_length, HNl.out]
  have HB2 := Lib.hid (below_more HBa.out hb2)
  have HI2 := Lib.hid hI2
  have HS2 := Lib.hid (HS0.out.below hb2)
  have hs2 : w.heap.size + 1 ≤ w2.heap.size := by have := hb2.size; simpa using this
  clear ho2 hb2 hI2 HNos hmm HS0
  go_wp2_with fail
  refine (HRows.out _ A2 c2 (HTb.out.below HB2.out) HI2.out).mono ?_
  rintro e w3 ⟨v3, rfl, ho3, hb3⟩
  obtain ⟨A3, c3, rfl, _⟩ := ho3.form
  have HO3 : Hid (Own w3 (w.heap.size + 1) (.slice A3 L.length c3) (zI RR)) := by have := ho3.lower hs2; rw [zI_length, HRl.out] at this; exact this
  rw [zI_length, HRl.out]
  have HB3 := Lib.hid (below_more HB2.out hb3)
  have HS3 := Lib.hid (HS2.out.below hb3)
  clear ho3 hb3 HRows HI2 HS2
  go_wp2_with fail
  go_loopg [14] L.length (fun gk i wr => ∃ k : Nat, k + gk = L.length ∧ i = .int .i64 k ∧ Rests wr w.heap.size k (restF n (L.take k) (List.replicate n none)) ∧ Own wr (w.heap.size + 1) (.slice A3 L.length c3) (zI RR) ∧ Below w.heap.size w wr)
  case atStart => exact ⟨0, by omega, rfl, HS3.out, HO3.out, HB3.out⟩
  case round =>
    obtain ⟨k, hg, rfl, hres, hown, hbel⟩ := hrel
    have HRs := Lib.hid hres
    have HO := Lib.hid hown
    have HB := Lib.hid hbel
    clear hres hown hbel
    by_cases hlt : k < L.length
    · have hki : (k : Int) < (L.length : Int) := by omega
      have HIr : Hid (Ints wr A3 (zI RR)) := by
        obtain ⟨A', c', e, hI⟩ := HO.out.form
        injection e with e1
        subst e1; exact hI
      have hkR : k < RR.length := by rw [HRl.out]; exact hlt
      obtain ⟨b4, o4, rfl, hc4⟩ := HIr.out.cellN hkR
      obtain ⟨b5, o5, rfl, hc5⟩ := (HA.out.below HB.out).snd hlt
      rw [show RR[k] = rowOfN n L[k].1 by have := HAt.out k hlt; rw [← this]; simp [List.getD, hkR]] at hc4
      clear hkR
      have HSn := Lib.hid (restF_snoc (n := n) (S := List.replicate n none) hlt)
      rw [HLe.out k hlt] at HSn
      have HGK : Hid (L.length - k - 1 < gk ∧ k + 1 + (L.length - k - 1) = L.length) := by show _ ∧ _; omega
      generalize rowOfN n L[k].1 = r at *
      generalize L[k].2 = s at *
      obtain ⟨w4, hup, hres4, hgr⟩ := HRs.out.store (by omega) k r s (by omega)
      rw [restF_end (by omega)] at hres4
      have HR4 : Hid (Rests w4 w.heap.size (k + 1) (restF n (L.take (k + 1)) (List.replicate n none))) := by show Rests _ _ _ _; rw [HSn.out]; exact hres4
      have HO4 : Hid (Own w4 (w.heap.size + 1) (.slice (some ⟨b4, o4, none⟩) L.length c3) (zI RR)) := HO.out.kept hgr (by
        cases ho : (Value.slice (some ⟨b4, o4, none⟩) L.length c3).ownBlock with
        | none => exact Or.inl rfl
        | some g => refine Or.inr fun e => ?_
                    injection e with e
                    have := (HO.out.lt g ho).1
                    omega)
      have HB4 : Hid (Below w.heap.size w w4) := HB.out.grown hgr HB.out.size (fun j hj => by cases hj; exact Nat.le_refl _)
      clear hres4 hgr hg
      go_wp2_with fail
      go_roundg (L.length - k - 1)
      case measure => exact HGK.out.1
      case rel => exact ⟨k + 1, HGK.out.2, by go_num, HR4.out, HO4.out, HB4.out⟩
    · obtain rfl : k = L.length := by omega
      rw [List.take_length] at HRs
      have hki : ¬ (L.length : Int) < (L.length : Int) := by omega
      go_wp2_with fail
      go_ret
      exact ⟨rfl, HRs.out, HB.out⟩

def takenF (F : Nat → Option (Nat × Nat)) (KS : List Nat) (r0 s0 k : Nat) : Option (Nat × Nat) := if k ∈ KS then takeX r0 s0 (F k) else F k
theorem taken_snoc {F : Nat → Option (Nat × Nat)} {KS : List Nat} {r0 s0 t : Nat} (h : t < KS.length) : takenF F (KS.take (t + 1)) r0 s0 = putF (takenF F (KS.take t) r0 s0) KS[t] (takeX r0 s0 (F KS[t])) := by
  have hm : ∀ j, j ∈ KS.take (t + 1) ↔ j ∈ KS.take t ∨ j = KS[t] := fun j => by rw [List.take_succ_eq_append_getElem h, List.mem_append, List.mem_singleton]
  funext j
  unfold takenF putF
  dsimp only
  by_cases e : j = KS[t]
  · rw [if_pos ((hm j).2 (Or.inr e)), if_pos e, e]
  · rw [if_neg e]
    by_cases hj : j ∈ KS.take t
    · rw [if_pos ((hm j).2 (Or.inl hj)), if_pos hj]
    · rw [if_neg (fun h' => ((hm j).1 h').elim hj e), if_neg hj]
theorem rise_new {KS : List Nat} (hr : KS.Pairwise (· < ·)) {t : Nat} (h : t < KS.length) : KS[t] ∉ KS.take t := fun hm => by
  obtain ⟨i, hi, e⟩ := List.mem_iff_getElem.1 hm
  rw [List.length_take] at hi
  rw [List.getElem_take] at e
  have := List.pairwise_iff_getElem.1 hr i t (by omega) h (by omega)
  omega
theorem putF_same {F : Nat → Option (Nat × Nat)} {k : Nat} : putF F k (F k) = F := by
  funext j; unfold putF; split
  · rename_i h; rw [h]
  · rfl

set_option maxRecDepth 100000 in
set_option maxHeartbeats 2000000 in
theorem iTake (b n N r0 s0 : Nat) (F : Nat → Option (Nat × Nat)) (w : World) (h : Rests w b n F) (hn : n ≤ 1000) (hN : ∀ k, (F k).isSome = true → k < N) (hN2 : N ≤ 1000) (hF : ∀ k r s, F k = some (r, s) → r < 65536 ∧ s < 2 ^ 32) (hr0 : r0 < 65536) (hs0 : s0 < 2 ^ 32) :
    Calls Tryd.prog 37 #[.map (some b), letV r0 s0] w fun e w' => e = .returned (.tuple #[]) ∧ Rests w' b n (fun k => takeX r0 s0 (F k)) ∧ w.grownBy w' (some b) := by
  have hblt := h.lt
  have HR0 := Lib.hid (h.below (gAlloc w (.cells #[.int .i64 r0, .int .i64 s0] 60)))
  have HF := Lib.hid hF
  have h2 : (w.alloc (.cells #[.int .i64 r0, .int .i64 s0] 60)).heap[w.heap.size]? = some (.cells #[.int .i64 r0, .int .i64 s0] 60 (0, 0)) := heap_alloc_new _ _
  have H2 := Lib.hid h2
  have HK := Lib.hid (iKeys b n N F (w.alloc (.cells #[.int .i64 r0, .int .i64 s0] 60)) HR0.out hn hN)
  have HKm : Hid (∀ k ∈ keysL F N, ∃ r s, F k = some (r, s) ∧ k < N) := fun k hk => keys_mem hk
  have HEnd : Hid (takenF F (keysL F N) r0 s0 = fun k => takeX r0 s0 (F k)) := by
    show _ = _
    funext k
    unfold takenF
    by_cases hk : k ∈ keysL F N
    · rw [if_pos hk]
    · rw [if_neg hk]
      cases hFk : F k with
      | none => rfl
      | some x => exact absurd (List.mem_filter.2 ⟨List.mem_range.2 (hN k (by rw [hFk]; rfl)), by rw [hFk]; rfl⟩) hk
  have HKr := Lib.hid (keysL_rise F N)
  have hkl := keys_len F N
  have HG0 : Hid (w.grownBy (w.alloc (.cells #[.int .i64 r0, .int .i64 s0] 60)) (some b)) := World.grownBy_alloc _ _ _
  clear h hF hN h2
  generalize keysL F N = KS at *
  go_enter Tryd.func37, Tryd.ntmps37
  go_wp2_with fail
  refine HK.out.mono ?_
  rintro e w1 ⟨v1, rfl, ho1, hb1⟩
  obtain ⟨A1, c1, rfl, hI1⟩ := ho1.form
  rw [zI_length]
  have HO1 : Hid (Own w1 (w.heap.size + 1) (.slice A1 KS.length c1) (zI KS)) := by have := ho1; rw [zI_length] at this; simp at this; exact this
  have HG1 : Hid (w.grownBy w1 (some b)) := HG0.out.andThen (gBelowN hb1) (fun j hj => by cases hj)
  have HR1 := Lib.hid (HR0.out.below hb1)
  have H21 : Hid (w1.heap[w.heap.size]? = some (.cells #[.int .i64 r0, .int .i64 s0] 60 (0, 0))) := (hb1.block _ (by simp)).trans H2.out
  clear ho1 hI1 hb1 HK H2 HG0 HR0
  go_wp2_with fail
  go_loopg [10] KS.length (fun gk i wr => ∃ t : Nat, t + gk = KS.length ∧ i = .int .i64 t ∧ Rests wr b n (takenF F (KS.take t) r0 s0) ∧ w1.grownBy wr (some b))
  case atStart => exact ⟨0, by omega, rfl, by rw [show takenF F (KS.take 0) r0 s0 = F by funext k; simp [takenF]]; exact HR1.out, ⟨rfl, rfl, rfl, Nat.le_refl _, fun _ _ _ => rfl⟩⟩
  case round =>
    obtain ⟨t, hg, rfl, hres, hgr⟩ := hrel
    have HRs := Lib.hid hres
    have HGr := Lib.hid hgr
    clear hres hgr
    by_cases hlt : t < KS.length
    · have hti : (t : Int) < (KS.length : Int) := by omega
      have HIr : Hid (Ints wr A1 (zI KS)) := by
        have hk := HO1.out.kept HGr.out (by
          cases ho : (Value.slice A1 KS.length c1).ownBlock with
          | none => exact Or.inl rfl
          | some g => refine Or.inr fun e => ?_
                      injection e with e
                      have := (HO1.out.lt g ho).1
                      omega)
        obtain ⟨A', c', e, hI⟩ := hk.form
        injection e with e1
        subst e1; exact hI
      obtain ⟨b3, o3, rfl, hc3⟩ := HIr.out.cellN hlt
      obtain ⟨r, s, hFk, hkN⟩ := HKm.out KS[t] (List.getElem_mem hlt)
      obtain ⟨hr16, hs32⟩ := HF.out _ _ _ hFk
      have hTk : takenF F (KS.take t) r0 s0 KS[t] = some (r, s) := by rw [takenF, if_neg (rise_new HKr.out hlt)]; exact hFk
      have HSn := Lib.hid (taken_snoc (F := F) (r0 := r0) (s0 := s0) hlt)
      rw [hFk] at HSn
      have HGK : Hid (KS.length - t - 1 < gk ∧ t + 1 + (KS.length - t - 1) = KS.length) := by show _ ∧ _; omega
      have hlook := HRs.out.look hTk (by omega)
      have H2r : Hid (wr.heap[w.heap.size]? = some (.cells #[.int .i64 r0, .int .i64 s0] 60 (0, 0))) := (HGr.out.block _ (Array.getElem?_eq_some_iff.1 H21.out).1 (by intro e; injection e with e; omega)).trans H21.out
      have HTk := Lib.hid hTk
      clear hg hFk hTk
      generalize KS[t] = k at *
      have hx0 : (wr.alloc (.cells #[.int .i64 r, .int .i64 s] 60)).cell? ⟨wr.heap.size, 0, none⟩ = some (.int .i64 r) := cell_of_row _ _ 0 _ _ _ (heap_alloc_new _ _)
      have hx1 : (wr.alloc (.cells #[.int .i64 r, .int .i64 s] 60)).cell? ⟨wr.heap.size, 1, none⟩ = some (.int .i64 s) := cell_of_row _ _ 1 _ _ _ (heap_alloc_new _ _)
      have HBa : Hid (Below wr.heap.size wr (wr.alloc (.cells #[.int .i64 r, .int .i64 s] 60))) := gAlloc _ _
      have H2a : Hid ((wr.alloc (.cells #[.int .i64 r, .int .i64 s] 60)).heap[w.heap.size]? = some (.cells #[.int .i64 r0, .int .i64 s0] 60 (0, 0))) := (HBa.out.block _ (Array.getElem?_eq_some_iff.1 H2r.out).1).trans H2r.out
      have hd0 : (wr.alloc (.cells #[.int .i64 r, .int .i64 s] 60)).cell? ⟨w.heap.size, 0, none⟩ = some (.int .i64 r0) := cell_of_row _ _ 0 _ _ _ H2a.out
      have hd1 : (wr.alloc (.cells #[.int .i64 r, .int .i64 s] 60)).cell? ⟨w.heap.size, 1, none⟩ = some (.int .i64 s0) := cell_of_row _ _ 1 _ _ _ H2a.out
      have HRa := Lib.hid (HRs.out.below HBa.out)
      have HGa : Hid (w1.grownBy (wr.alloc (.cells #[.int .i64 r, .int .i64 s] 60)) (some b)) := HGr.out.andThen (gBelowN HBa.out) (fun j hj => by cases hj)
      by_cases hq : r = r0
      · subst hq
        have hci : ((r : Int) == (r : Int)) = true := by simp
        have HX : Hid (takeX r s0 (some (r, s)) = none) := by show _ = _; rw [takeX, if_pos rfl]
        rw [HX.out] at HSn
        obtain ⟨w5, hdel, hres5, hgr5⟩ := HRa.out.del k (by omega) 0
        have HR5 : Hid (Rests w5 b n (takenF F (KS.take (t + 1)) r s0)) := by show Rests _ _ _ _; rw [HSn.out]; exact hres5
        have HG5 : Hid (w1.grownBy w5 (some b)) := HGa.out.andThen hgr5 (fun j hj => Or.inr hj)
        clear hres5 hgr5
        go_wp2_with fail
        go_roundg (KS.length - t - 1)
        case measure => exact HGK.out.1
        case rel => exact ⟨t + 1, HGK.out.2, by go_num, HR5.out, HG5.out⟩
      · have hci : ((r : Int) == (r0 : Int)) = false := by simp; omega
        have hand := and_i64 r r0 (by omega) (by omega)
        by_cases hz : r &&& r0 = 0
        · have hne : (bits .and .i64 (r : Int) (r0 : Int) != 0) = false := by rw [hand, hz]; rfl
          have HR5 : Hid (Rests (wr.alloc (.cells #[.int .i64 r, .int .i64 s] 60)) b n (takenF F (KS.take (t + 1)) r0 s0)) := by
            show Rests _ _ _ _
            rw [HSn.out, show takeX r0 s0 (some (r, s)) = some (r, s) by rw [takeX, if_neg hq, if_pos hz], ← HTk.out, putF_same]
            exact HRa.out
          clear hand
          go_wp2_with fail
          go_roundg (KS.length - t - 1)
          case measure => exact HGK.out.1
          case rel => exact ⟨t + 1, HGK.out.2, by go_num, HR5.out, HGa.out⟩
        · have hne : (bits .and .i64 (r : Int) (r0 : Int) != 0) = true := by rw [hand]; simp; omega
          have HX : Hid (takeX r0 s0 (some (r, s)) = some (r ^^^ r0, s ^^^ s0)) := by show _ = _; rw [takeX, if_neg hq, if_neg hz]
          rw [HX.out] at HSn
          have hxr := xor_i64 r r0 (by omega) (by omega)
          have hxs := xor_i64 s s0 (by omega) (by omega)
          obtain ⟨w5, hup, hres5, hgr5⟩ := HRa.out.store (by omega) k (r ^^^ r0) (s ^^^ s0) (by omega)
          rw [HTk.out] at hres5
          have HR5 : Hid (Rests w5 b n (takenF F (KS.take (t + 1)) r0 s0)) := by show Rests _ _ _ _; rw [HSn.out]; exact hres5
          have HG5 : Hid (w1.grownBy w5 (some b)) := HGa.out.andThen hgr5 (fun j hj => Or.inr hj)
          clear hres5 hgr5 hand
          go_wp2_with fail
          go_roundg (KS.length - t - 1)
          case measure => exact HGK.out.1
          case rel => exact ⟨t + 1, HGK.out.2, by go_num, HR5.out, HG5.out⟩
    · obtain rfl : t = KS.length := by omega
      rw [List.take_length, HEnd.out] at HRs
      have hti : ¬ (KS.length : Int) < (KS.length : Int) := by omega
      have HGe : Hid (w.grownBy wr (some b)) := HG1.out.andThen HGr.out (fun j hj => Or.inr hj)
      go_wp2_with fail
      go_end0
      exact ⟨rfl, HRs.out, HGe.out⟩
end Go.Proofs.YtcpfneikcefcmaaDoor

/- F2 -/
namespace Go.Proofs.YtcpfneikcefcmaaDoor
open Go.RowKit Go.Maps

theorem f2Drew {w : World} : Below w.heap.size w w.drew := ⟨rfl, rfl, rfl, Nat.le_refl _, fun _ _ => rfl⟩
theorem own_made {w : World} {base g n : Nat} {z : Value} {e : TypeId} (hg : base ≤ g) (hn : n ≤ maxLen) (h : w.heap[g]? = some (.cells (madeCells #[z] n) e (0, 0))) : w.ownsRow base e 1 (.slice (some ⟨g, 0, none⟩) n n) n (List.replicate n z) := by
  have ht := toList_madeCells_one z n
  have hl : (madeCells #[z] n).size = n := by rw [← Array.length_toList, ht, List.length_replicate]
  exact ⟨by simp, Or.inr ⟨g, n, _, rfl, hg, h, Nat.le_refl _, hn, by rw [hl, Nat.mul_one], by rw [ht, Nat.mul_one, List.take_of_length_le (by simp)]⟩⟩
theorem ps_made {w : World} {base a b n : Nat} (hn : n ≤ 8) (ha : base ≤ a) (hb : base ≤ b) (h1 : w.heap[a]? = some (.cells (madeCells #[.int .i64 0] n) 3 (0, 0))) (h2 : w.heap[b]? = some (.cells (madeCells #[.bool false] n) 4 (0, 0))) : PS w base a b n (List.replicate n none) := by
  refine ⟨?_, ?_, by simp⟩
  · have := own_made ha (by unfold maxLen; omega) h1
    simpa using this
  · have := own_made hb (by unfold maxLen; omega) h2
    simpa using this
theorem PS.grown {w w' : World} {base a b n c : Nat} {S : Know} (h : PS w base a b n S) (hg : w.grownBy w' (some c)) (ha : a ≠ c) (hb : b ≠ c) : PS w' base a b n S :=
  ⟨World.ownsRow.kept h.1 hg (Or.inr (by intro e; injection e with e; exact ha e)), World.ownsRow.kept h.2.1 hg (Or.inr (by intro e; injection e with e; exact hb e)), h.2.2⟩
theorem PS.lts {w : World} {base a b n : Nat} {S : Know} (h : PS w base a b n S) : a < w.heap.size ∧ b < w.heap.size :=
  ⟨(World.ownsRow.lt h.1 a rfl).2, (World.ownsRow.lt h.2.1 b rfl).2⟩
theorem u64_small {q : Nat} (h : q < 65536) : IntKind.u64.wrap (q : Int) = (q : Int) := by rw [IntKind.wrap_u64]; omega
theorem peel_none {n : Nat} {L : List (Nat × Nat)} {S : Know} (hn : 1 ≤ n) (hn8 : n ≤ 8) (h : ∀ j r s, restF n L S j = some (r, s) → cnt 8 r ≠ 1) : peel1 n L S = none := peel1_none fun x hx => by
  obtain ⟨k, hk, rfl⟩ := List.mem_iff_getElem.1 hx
  exact step_no hn hn8 hk (h k)
theorem peel_some {n k r s : Nat} {L : List (Nat × Nat)} {S : Know} (hn : 1 ≤ n) (hn8 : n ≤ 8) (hF : restF n L S k = some (r, s)) (hc : cnt 8 r = 1) (h : ∀ j, j < k → ∀ r s, restF n L S j = some (r, s) → cnt 8 r ≠ 1) :
    ∃ u, u < n ∧ r = 2 ^ u ∧ S.getD u none = none ∧ peel1 n L S = some (S.set u (some s)) := by
  have hk : k < L.length := rest_lt (n := n) (S := S) (by rw [hF]; rfl)
  obtain ⟨u, h1, h2, h3, h4⟩ := step_yes hn hn8 hk hF hc
  refine ⟨u, h1, h2, h3, peel1_some hk (fun x hx => ?_) h4⟩
  obtain ⟨i, hi, rfl⟩ := List.mem_iff_getElem.1 hx
  rw [List.length_take] at hi
  rw [List.getElem_take]
  exact step_no hn hn8 (by omega) (h i (by omega))
theorem rest_bd {n k r s : Nat} {L : List (Nat × Nat)} {S : Know} (hn : 1 ≤ n) (hn8 : n ≤ 8) (hx : ∀ x ∈ L, x.1 ≤ 999 ∧ x.2 < 2 ^ 32) (hS : ∀ k, knV S k < 2 ^ 32) (h : restF n L S k = some (r, s)) : r < 65536 ∧ s < 2 ^ 32 := by
  have hk : k < L.length := rest_lt (n := n) (S := S) (by rw [h]; rfl)
  rw [restF, if_pos hk, show L.getD k (0, 0) = L[k] by simp [List.getD, hk]] at h
  have := left_bd hn hn8 (hx L[k] (List.getElem_mem hk)).2 hS h
  exact ⟨by omega, this.2⟩

set_option maxRecDepth 100000 in
set_option maxHeartbeats 4000000 in
theorem iPeel (n : Nat) (A : Option Addr) (L : List (Nat × Nat)) (ca : Nat) (w : World) (ht : Tab w) (hD : DeTab w) (ha : Lets w A (intL L)) (hn1 : 1 ≤ n) (hn8 : n ≤ 8) (hL : L.length ≤ 40) (hx : ∀ x ∈ L, x.1 ≤ 999 ∧ x.2 < 2 ^ 32) (hgood : goodLB n (intL L) = true) :
    Calls Tryd.prog 10 #[.int .i64 n, .slice A L.length ca] w fun e w' => ∃ a b, e = .returned (.tuple #[.slice (some ⟨a, 0, none⟩) n n, .slice (some ⟨b, 0, none⟩) n n, .bool true]) ∧ PS w' w.heap.size a b n (peelL n L) ∧ Below w.heap.size w w' := by
  have hmk := run_make_row' (P := Tryd.prog) 24 3 (.int .i64 0) 8 Tryd.underlying24 intInfo rfl .i64 .i64 n (by omega) (by omega)
  have hmk2 := run_make_row' (P := Tryd.prog) 25 4 (.bool false) 1 Tryd.underlying25 boolInfo rfl .i64 .i64 n (by omega) (by omega)
  have HA := Lib.hid ha
  have HX := Lib.hid hx
  have HTb := Lib.hid ht
  have HDe := Lib.hid hD
  have HG := Lib.hid (iGoodL_any (n : Int) A (intL L) ca w ha (by rw [intL_length]; omega))
  rw [hgood, intL_length] at HG
  have HRes : Hid (peelK n L (n + 1) (List.replicate n none) = peelL n L) := rfl
  generalize peelL n L = RES at *
  clear ha hx hgood ht hD
  go_enter Tryd.func10, Tryd.ntmps10
  go_wp2_with fail
  refine HG.out.mono ?_
  rintro e w1 ⟨rfl, hb1⟩
  have HB1 := Lib.hid hb1
  have hs1 := hb1.size
  clear hb1 HG
  go_wp2_with fail
  go_region
  · have HPS : Hid (PS (((w1.alloc (.cells (madeCells #[Value.int .i64 0] n) 3)).alloc (.cells (madeCells #[Value.bool false] n) 4)).drew) w.heap.size w1.heap.size (w1.heap.size + 1) n (List.replicate n none)) := ps_made hn8 hs1 (by omega) (((gAlloc (w1.alloc _) _).block _ (by simp)).trans (heap_alloc_new _ _)) (by have := heap_alloc_new (w1.alloc (.cells (madeCells #[Value.int .i64 0] n) 3)) (.cells (madeCells #[Value.bool false] n) 4); rw [show (w1.alloc (.cells (madeCells #[Value.int .i64 0] n) 3)).heap.size = w1.heap.size + 1 by simp] at this; exact this)
    have HB3 : Hid (Below w.heap.size w (((w1.alloc (.cells (madeCells #[Value.int .i64 0] n) 3)).alloc (.cells (madeCells #[Value.bool false] n) 4)).drew)) := below_more (below_more (below_more HB1.out (gAlloc _ _)) (gAlloc _ _)) f2Drew
    have hLA := HPS.out.lts
    clear hmk hmk2
    generalize ((w1.alloc (.cells (madeCells #[Value.int .i64 0] n) 3)).alloc (.cells (madeCells #[Value.bool false] n) 4)).drew = w3 at *
    generalize (w1.heap.size + 1) = gb at *
    generalize w1.heap.size = ga at *
    clear HB1 hs1
    have hs3 := HB3.out.size
    have HRe := Lib.hid (iRests n A L ca w3 (HTb.out.below HB3.out) (HA.out.below HB3.out) hn1 hn8 hL HX.out)
    go_wp2_with fail
    refine HRe.out.mono ?_
    rintro e w4 ⟨rfl, hres4, hb4⟩
    have HR4 := Lib.hid hres4
    have HP4 := Lib.hid (HPS.out.below hb4)
    have HB4 := Lib.hid (below_more HB3.out hb4)
    obtain ⟨hga, hgb⟩ := hLA
    have hca : ga ≠ w3.heap.size := by omega
    have hcb : gb ≠ w3.heap.size := by omega
    clear hres4 hb4 HRe HPS hga hgb HB3
    generalize w3.heap.size = c at *
    go_wp2_with fail
    go_loopg [12] (n + 1) (fun gk _ wr => ∃ S : Know, PS wr w.heap.size ga gb n S ∧ Rests wr c L.length (restF n L S) ∧ (∀ k, knV S k < 2 ^ 32) ∧ noneN S + 1 ≤ gk ∧ peelK n L gk S = RES ∧ Below w.heap.size w wr)
    case atStart => exact ⟨_, HP4.out, HR4.out, (fun k => by rw [knV, know_none]; decide), by have := noneN_le (List.replicate n (none : Option Nat)); rw [List.length_replicate] at this; omega, HRes.out, HB4.out⟩
    case round =>
      obtain ⟨S, hps, hrs, hkb, hnn, hpk, hbel⟩ := hrel
      obtain ⟨f, rfl⟩ : ∃ f, gk = f + 1 := ⟨gk - 1, by omega⟩
      have HP := Lib.hid hps
      have HRs := Lib.hid hrs
      have HKb := Lib.hid hkb
      have HB := Lib.hid hbel
      have HNn := Lib.hid hnn
      have HPk1 : Hid (∀ S', peel1 n L S = some S' → peelK n L f S' = RES) := fun S' h => by
        have h1 := hpk
        rw [peelK, h] at h1
        exact h1
      have HPk2 : Hid (peel1 n L S = none → S = RES) := fun h => by
        have h1 := hpk
        rw [peelK, h] at h1
        exact h1
      have HFi := Lib.hid (iFirst c L.length L.length (restF n L S) wr (HTb.out.below hbel) hrs (by omega) (fun k hk => rest_lt hk) (by omega) (fun k r s h => (rest_bd hn1 hn8 HX.out hkb h).1))
      clear hps hrs hkb hbel hpk HP4 HR4 HB4 hnn
      go_wp2_with fail
      refine HFi.out.mono ?_
      rintro e w5 ⟨hfo, hb5⟩
      have HP5 := Lib.hid (HP.out.below hb5)
      have HR5 := Lib.hid (HRs.out.below hb5)
      have HB5 := Lib.hid (below_more HB.out hb5)
      clear hb5 HFi
      rcases hfo with ⟨k, r, s, hFk, hc1, hno, rfl⟩ | ⟨hno, rfl⟩
      · obtain ⟨u, hu, hru, hSu, hpe⟩ := peel_some hn1 hn8 hFk hc1 hno
        obtain ⟨hr16, hs32⟩ := rest_bd hn1 hn8 HX.out HKb.out hFk
        have HRec := Lib.hid (HPk1.out _ hpe)
        obtain ⟨x, hxm, hst⟩ := peel1_facts hpe
        obtain ⟨_, _, _, _, _, _, hlen', hnn'⟩ := step_facts hn1 HP5.out.2.2 hst
        have HNf : Hid (noneN (S.set u (some s)) + 1 ≤ f) := by have := HNn.out; show _ ≤ _; omega
        have HTr := Lib.hid (take_rest (L := L) (s := s) hn1 HP5.out.2.2 hu hSu)
        have HKn : Hid (∀ k, knV (S.set u (some s)) k < 2 ^ 32) := fun k => by
          rw [knV, getD_set (by rw [HP5.out.2.2]; exact hu)]
          split
          · exact hs32
          · exact HKb.out k
        subst hru
        have HBa : Hid (Below w5.heap.size w5 (w5.alloc (.cells #[.int .i64 ((2 ^ u : Nat) : Int), .int .i64 s] 60))) := gAlloc _ _
        have HPa := Lib.hid (HP5.out.below HBa.out)
        have HRa := Lib.hid (HR5.out.below HBa.out)
        have HBw := Lib.hid (below_more HB5.out HBa.out)
        have hla := HP5.out.lts
        have hx0 : (w5.alloc (.cells #[.int .i64 ((2 ^ u : Nat) : Int), .int .i64 s] 60)).cell? ⟨w5.heap.size, 0, none⟩ = some (.int .i64 ((2 ^ u : Nat) : Int)) := cell_of_row _ _ 0 _ _ _ (heap_alloc_new _ _)
        have hx1 : (w5.alloc (.cells #[.int .i64 ((2 ^ u : Nat) : Int), .int .i64 s] 60)).cell? ⟨w5.heap.size, 1, none⟩ = some (.int .i64 s) := cell_of_row _ _ 1 _ _ _ (heap_alloc_new _ _)
        have HTz := Lib.hid (iTz u (w5.alloc (.cells #[.int .i64 ((2 ^ u : Nat) : Int), .int .i64 s] 60)) (by omega) (HDe.out.below HBw.out))
        have HBd := Lib.hid (fun k r s h => rest_bd (n := n) (L := L) (S := S) (k := k) (r := r) (s := s) hn1 hn8 HX.out HKb.out h)
        have hw64 := u64_small hr16
        have HTk := Lib.hid (fun (w' : World) (h : Rests w' c L.length (restF n L S)) => iTake c L.length L.length (2 ^ u) s (restF n L S) w' h (by omega) (fun k hk => rest_lt hk) (by omega) (fun k r s h => HBd.out k r s h) hr16 hs32)
        rw [HTr.out] at HTk
        clear hFk hc1 hno hpe hst hlen' hnn' hSu hxm HTr HBd
        have HPut := Lib.hid (HPa.out.put (u := u) s (Nat.le_refl _) HBw.out)
        obtain ⟨hc1, hc2⟩ := HPa.out.cells hu
        obtain ⟨hf1, hf2⟩ := HPa.out.frozen u
        have hne := HPa.out.ne
        obtain ⟨hla1, hla2⟩ := hla
        have hn5a : w5.heap.size ≠ ga := by omega
        have hn5b : w5.heap.size ≠ gb := by omega
        have HRs6 : Hid (Rests (((w5.alloc (.cells #[.int .i64 ((2 ^ u : Nat) : Int), .int .i64 s] 60)).setCell ⟨ga, u, none⟩ (.int .i64 s)).setCell ⟨gb, u, none⟩ (.bool true)) c L.length (restF n L S)) :=
          (HRa.out.kept (gSet _ ⟨ga, u, none⟩ _) (by intro e; injection e with e; exact hca e.symm)).kept (gSet _ ⟨gb, u, none⟩ _) (by intro e; injection e with e; exact hcb e.symm)
        generalize 2 ^ u = q at *
        generalize hW5 : w5.alloc (.cells #[.int .i64 (q : Int), .int .i64 s] 60) = W5 at *
        have hc2' : (W5.setCell ⟨ga, u, none⟩ (.int .i64 s)).cell? ⟨gb, u, none⟩ = some (.bool (S.getD u none).isSome) := by
          rw [cell_set_other _ _ _ _ (by exact hne.symm)]; exact hc2
        have hf2' : (W5.setCell ⟨ga, u, none⟩ (.int .i64 s)).frozen? ⟨gb, u, none⟩ = false := by
          rw [frozen_set_other _ _ _ _ (by exact hne.symm)]; exact hf2
        have hz0 : ((W5.setCell ⟨ga, u, none⟩ (.int .i64 s)).setCell ⟨gb, u, none⟩ (.bool true)).cell? ⟨w5.heap.size, 0, none⟩ = some (.int .i64 (q : Int)) := by
          rw [cell_set_other _ _ _ _ (by exact hn5b), cell_set_other _ _ _ _ (by exact hn5a)]; exact hx0
        have hz1 : ((W5.setCell ⟨ga, u, none⟩ (.int .i64 s)).setCell ⟨gb, u, none⟩ (.bool true)).cell? ⟨w5.heap.size, 1, none⟩ = some (.int .i64 s) := by
          rw [cell_set_other _ _ _ _ (by exact hn5b), cell_set_other _ _ _ _ (by exact hn5a)]; exact hx1
        have hui : (u : Int) < (n : Int) := by omega
        go_wp2_with (first
          | (go_at_call 36; refine HTz.out.mono ?_; rintro e w' ⟨rfl, rfl⟩)
          | (go_at_call 37; refine (HTk.out _ HRs6.out).mono ?_; rintro e w7 ⟨rfl, hr7, hg7⟩))
        have HP7 := Lib.hid (HPut.out.1.grown hg7 hca hcb)
        have HB7 : Hid (Below w.heap.size w w7) := HPut.out.2.grown hg7 HPut.out.2.size (fun j hj => by cases hj; exact hs3)
        have HR7 := Lib.hid hr7
        clear hr7 hg7
        go_roundg f
        case measure => omega
        case rel => exact ⟨_, HP7.out, HR7.out, HKn.out, HNf.out, HRec.out, HB7.out⟩
      · have HRes2 := Lib.hid (HPk2.out (peel_none hn1 hn8 hno))
        have HBa : Hid (Below w5.heap.size w5 (w5.alloc (.cells #[.int .i64 0, .int .i64 0] 60))) := gAlloc _ _
        have HPa := Lib.hid (HP5.out.below HBa.out)
        have HBw := Lib.hid (below_more HB5.out HBa.out)
        clear hno
        go_wp2_with fail
        (try simp only [Exit.inBlock, Exit.then])
        refine bodyPost_ret (results_tmp3 rfl _ _ _) rfl ?_
        exact ⟨ga, gb, rfl, by rw [← HRes2.out]; exact HPa.out, HBw.out⟩
  · have HPS : Hid (PS (((w1.alloc (.cells (madeCells #[Value.bool false] n) 4)).alloc (.cells (madeCells #[Value.int .i64 0] n) 3)).drew) w.heap.size (w1.heap.size + 1) w1.heap.size n (List.replicate n none)) := ps_made hn8 (by omega) hs1 (by have := heap_alloc_new (w1.alloc (.cells (madeCells #[Value.bool false] n) 4)) (.cells (madeCells #[Value.int .i64 0] n) 3); rw [show (w1.alloc (.cells (madeCells #[Value.bool false] n) 4)).heap.size = w1.heap.size + 1 by simp] at this; exact this) (((gAlloc (w1.alloc _) _).block _ (by simp)).trans (heap_alloc_new _ _))
    have HB3 : Hid (Below w.heap.size w (((w1.alloc (.cells (madeCells #[Value.bool false] n) 4)).alloc (.cells (madeCells #[Value.int .i64 0] n) 3)).drew)) := below_more (below_more (below_more HB1.out (gAlloc _ _)) (gAlloc _ _)) f2Drew
    have hLA := HPS.out.lts
    clear hmk hmk2
    generalize ((w1.alloc (.cells (madeCells #[Value.bool false] n) 4)).alloc (.cells (madeCells #[Value.int .i64 0] n) 3)).drew = w3 at *
    generalize (w1.heap.size + 1) = ga at *
    generalize w1.heap.size = gb at *
    clear HB1 hs1
    have hs3 := HB3.out.size
    have HRe := Lib.hid (iRests n A L ca w3 (HTb.out.below HB3.out) (HA.out.below HB3.out) hn1 hn8 hL HX.out)
    go_wp2_with fail
    refine HRe.out.mono ?_
    rintro e w4 ⟨rfl, hres4, hb4⟩
    have HR4 := Lib.hid hres4
    have HP4 := Lib.hid (HPS.out.below hb4)
    have HB4 := Lib.hid (below_more HB3.out hb4)
    obtain ⟨hga, hgb⟩ := hLA
    have hca : ga ≠ w3.heap.size := by omega
    have hcb : gb ≠ w3.heap.size := by omega
    clear hres4 hb4 HRe HPS hga hgb HB3
    generalize w3.heap.size = c at *
    go_wp2_with fail
    go_loopg [12] (n + 1) (fun gk _ wr => ∃ S : Know, PS wr w.heap.size ga gb n S ∧ Rests wr c L.length (restF n L S) ∧ (∀ k, knV S k < 2 ^ 32) ∧ noneN S + 1 ≤ gk ∧ peelK n L gk S = RES ∧ Below w.heap.size w wr)
    case atStart => exact ⟨_, HP4.out, HR4.out, (fun k => by rw [knV, know_none]; decide), by have := noneN_le (List.replicate n (none : Option Nat)); rw [List.length_replicate] at this; omega, HRes.out, HB4.out⟩
    case round =>
      obtain ⟨S, hps, hrs, hkb, hnn, hpk, hbel⟩ := hrel
      obtain ⟨f, rfl⟩ : ∃ f, gk = f + 1 := ⟨gk - 1, by omega⟩
      have HP := Lib.hid hps
      have HRs := Lib.hid hrs
      have HKb := Lib.hid hkb
      have HB := Lib.hid hbel
      have HNn := Lib.hid hnn
      have HPk1 : Hid (∀ S', peel1 n L S = some S' → peelK n L f S' = RES) := fun S' h => by
        have h1 := hpk
        rw [peelK, h] at h1
        exact h1
      have HPk2 : Hid (peel1 n L S = none → S = RES) := fun h => by
        have h1 := hpk
        rw [peelK, h] at h1
        exact h1
      have HFi := Lib.hid (iFirst c L.length L.length (restF n L S) wr (HTb.out.below hbel) hrs (by omega) (fun k hk => rest_lt hk) (by omega) (fun k r s h => (rest_bd hn1 hn8 HX.out hkb h).1))
      clear hps hrs hkb hbel hpk HP4 HR4 HB4 hnn
      go_wp2_with fail
      refine HFi.out.mono ?_
      rintro e w5 ⟨hfo, hb5⟩
      have HP5 := Lib.hid (HP.out.below hb5)
      have HR5 := Lib.hid (HRs.out.below hb5)
      have HB5 := Lib.hid (below_more HB.out hb5)
      clear hb5 HFi
      rcases hfo with ⟨k, r, s, hFk, hc1, hno, rfl⟩ | ⟨hno, rfl⟩
      · obtain ⟨u, hu, hru, hSu, hpe⟩ := peel_some hn1 hn8 hFk hc1 hno
        obtain ⟨hr16, hs32⟩ := rest_bd hn1 hn8 HX.out HKb.out hFk
        have HRec := Lib.hid (HPk1.out _ hpe)
        obtain ⟨x, hxm, hst⟩ := peel1_facts hpe
        obtain ⟨_, _, _, _, _, _, hlen', hnn'⟩ := step_facts hn1 HP5.out.2.2 hst
        have HNf : Hid (noneN (S.set u (some s)) + 1 ≤ f) := by have := HNn.out; show _ ≤ _; omega
        have HTr := Lib.hid (take_rest (L := L) (s := s) hn1 HP5.out.2.2 hu hSu)
        have HKn : Hid (∀ k, knV (S.set u (some s)) k < 2 ^ 32) := fun k => by
          rw [knV, getD_set (by rw [HP5.out.2.2]; exact hu)]
          split
          · exact hs32
          · exact HKb.out k
        subst hru
        have HBa : Hid (Below w5.heap.size w5 (w5.alloc (.cells #[.int .i64 ((2 ^ u : Nat) : Int), .int .i64 s] 60))) := gAlloc _ _
        have HPa := Lib.hid (HP5.out.below HBa.out)
        have HRa := Lib.hid (HR5.out.below HBa.out)
        have HBw := Lib.hid (below_more HB5.out HBa.out)
        have hla := HP5.out.lts
        have hx0 : (w5.alloc (.cells #[.int .i64 ((2 ^ u : Nat) : Int), .int .i64 s] 60)).cell? ⟨w5.heap.size, 0, none⟩ = some (.int .i64 ((2 ^ u : Nat) : Int)) := cell_of_row _ _ 0 _ _ _ (heap_alloc_new _ _)
        have hx1 : (w5.alloc (.cells #[.int .i64 ((2 ^ u : Nat) : Int), .int .i64 s] 60)).cell? ⟨w5.heap.size, 1, none⟩ = some (.int .i64 s) := cell_of_row _ _ 1 _ _ _ (heap_alloc_new _ _)
        have HTz := Lib.hid (iTz u (w5.alloc (.cells #[.int .i64 ((2 ^ u : Nat) : Int), .int .i64 s] 60)) (by omega) (HDe.out.below HBw.out))
        have HBd := Lib.hid (fun k r s h => rest_bd (n := n) (L := L) (S := S) (k := k) (r := r) (s := s) hn1 hn8 HX.out HKb.out h)
        have hw64 := u64_small hr16
        have HTk := Lib.hid (fun (w' : World) (h : Rests w' c L.length (restF n L S)) => iTake c L.length L.length (2 ^ u) s (restF n L S) w' h (by omega) (fun k hk => rest_lt hk) (by omega) (fun k r s h => HBd.out k r s h) hr16 hs32)
        rw [HTr.out] at HTk
        clear hFk hc1 hno hpe hst hlen' hnn' hSu hxm HTr HBd
        have HPut := Lib.hid (HPa.out.put (u := u) s (Nat.le_refl _) HBw.out)
        obtain ⟨hc1, hc2⟩ := HPa.out.cells hu
        obtain ⟨hf1, hf2⟩ := HPa.out.frozen u
        have hne := HPa.out.ne
        obtain ⟨hla1, hla2⟩ := hla
        have hn5a : w5.heap.size ≠ ga := by omega
        have hn5b : w5.heap.size ≠ gb := by omega
        have HRs6 : Hid (Rests (((w5.alloc (.cells #[.int .i64 ((2 ^ u : Nat) : Int), .int .i64 s] 60)).setCell ⟨ga, u, none⟩ (.int .i64 s)).setCell ⟨gb, u, none⟩ (.bool true)) c L.length (restF n L S)) :=
          (HRa.out.kept (gSet _ ⟨ga, u, none⟩ _) (by intro e; injection e with e; exact hca e.symm)).kept (gSet _ ⟨gb, u, none⟩ _) (by intro e; injection e with e; exact hcb e.symm)
        generalize 2 ^ u = q at *
        generalize hW5 : w5.alloc (.cells #[.int .i64 (q : Int), .int .i64 s] 60) = W5 at *
        have hc2' : (W5.setCell ⟨ga, u, none⟩ (.int .i64 s)).cell? ⟨gb, u, none⟩ = some (.bool (S.getD u none).isSome) := by
          rw [cell_set_other _ _ _ _ (by exact hne.symm)]; exact hc2
        have hf2' : (W5.setCell ⟨ga, u, none⟩ (.int .i64 s)).frozen? ⟨gb, u, none⟩ = false := by
          rw [frozen_set_other _ _ _ _ (by exact hne.symm)]; exact hf2
        have hz0 : ((W5.setCell ⟨ga, u, none⟩ (.int .i64 s)).setCell ⟨gb, u, none⟩ (.bool true)).cell? ⟨w5.heap.size, 0, none⟩ = some (.int .i64 (q : Int)) := by
          rw [cell_set_other _ _ _ _ (by exact hn5b), cell_set_other _ _ _ _ (by exact hn5a)]; exact hx0
        have hz1 : ((W5.setCell ⟨ga, u, none⟩ (.int .i64 s)).setCell ⟨gb, u, none⟩ (.bool true)).cell? ⟨w5.heap.size, 1, none⟩ = some (.int .i64 s) := by
          rw [cell_set_other _ _ _ _ (by exact hn5b), cell_set_other _ _ _ _ (by exact hn5a)]; exact hx1
        have hui : (u : Int) < (n : Int) := by omega
        go_wp2_with (first
          | (go_at_call 36; refine HTz.out.mono ?_; rintro e w' ⟨rfl, rfl⟩)
          | (go_at_call 37; refine (HTk.out _ HRs6.out).mono ?_; rintro e w7 ⟨rfl, hr7, hg7⟩))
        have HP7 := Lib.hid (HPut.out.1.grown hg7 hca hcb)
        have HB7 : Hid (Below w.heap.size w w7) := HPut.out.2.grown hg7 HPut.out.2.size (fun j hj => by cases hj; exact hs3)
        have HR7 := Lib.hid hr7
        clear hr7 hg7
        go_roundg f
        case measure => omega
        case rel => exact ⟨_, HP7.out, HR7.out, HKn.out, HNf.out, HRec.out, HB7.out⟩
      · have HRes2 := Lib.hid (HPk2.out (peel_none hn1 hn8 hno))
        have HBa : Hid (Below w5.heap.size w5 (w5.alloc (.cells #[.int .i64 0, .int .i64 0] 60))) := gAlloc _ _
        have HPa := Lib.hid (HP5.out.below HBa.out)
        have HBw := Lib.hid (below_more HB5.out HBa.out)
        clear hno
        go_wp2_with fail
        (try simp only [Exit.inBlock, Exit.then])
        refine bodyPost_ret (results_tmp3 rfl _ _ _) rfl ?_
        exact ⟨ga, gb, rfl, by rw [← HRes2.out]; exact HPa.out, HBw.out⟩

set_option maxRecDepth 100000 in
set_option maxHeartbeats 400000 in
theorem iPeel_any (n : Int) (A : Option Addr) (ls : List (Int × Int)) (ca : Nat) (w : World) (ht : Tab w) (hD : DeTab w) (ha : Lets w A ls) (hl : ls.length ≤ 1048576) :
    Calls Tryd.prog 10 #[.int .i64 n, .slice A ls.length ca] w fun e w' => ∃ v u, e = .returned (.tuple #[v, u, .bool (goodLB n ls)]) ∧ Own w' w.heap.size v (peelOI n ls) ∧ OwnT w' w.heap.size u (peelBI n ls) ∧ (v.ownBlock = none ∨ v.ownBlock ≠ u.ownBlock) ∧ Below w.heap.size w w' := by
  cases h : goodLB n ls
  · have HE : Hid (peelOI n ls = [] ∧ peelBI n ls = []) := by show _ ∧ _; simp [peelOI, peelBI, h]
    go_enter Tryd.func10, Tryd.ntmps10
    go_wp2_with fail
    refine (iGoodL_any n A ls ca w ha hl).mono ?_
    rintro e w1 ⟨rfl, hb1⟩
    rw [h]
    go_wp2_with fail
    (try simp only [Exit.inBlock, Exit.then])
    refine bodyPost_ret (results_tmp3 rfl _ _ _) rfl ?_
    obtain ⟨e1, e2⟩ := HE.out
    exact ⟨_, _, rfl, by rw [e1]; exact Own.nil _ _, by rw [e2]; exact OwnT.nil _ _, Or.inl rfl, hb1⟩
  · obtain ⟨m, L, rfl, rfl, h1, h2, h3, h4⟩ := goodL_nat h
    have e1 : peelOI (m : Int) (intL L) = zI ((peelL m L).map fun s => s.getD 0) := by rw [peelOI, if_pos h, natL_intL, Int.toNat_natCast]
    have e2 : peelBI (m : Int) (intL L) = (peelL m L).map Option.isSome := by rw [peelBI, if_pos h, natL_intL, Int.toNat_natCast]
    rw [intL_length]
    refine (iPeel m A L ca w ht hD ha h1 h2 h3 h4 h).mono ?_
    rintro e w1 ⟨a, b, rfl, hps, hb1⟩
    obtain ⟨o1, o2⟩ := hps.outs
    exact ⟨_, _, rfl, by rw [e1]; exact o1, by rw [e2]; exact o2, Or.inr (by intro e; injection e with e; exact hps.ne e), hb1⟩
end Go.Proofs.YtcpfneikcefcmaaDoor
