/-
  The model of chapter 5: AddUp, EnoughOf.
-/
import Derived.Test.YtdoogleggdlddaaDoorJN
namespace Go.Proofs.YtdoogleggdlddaaDoor
open Go.RowKit

theorem gApart {a b : Option Nat} (h : a = none ∨ a ≠ b) : b = none ∨ b ≠ a := by
  rcases h with h | h
  · cases b with
    | none => exact Or.inl rfl
    | some k => exact Or.inr (by rw [h]; simp)
  · exact Or.inr h.symm
/-- One number appended to a slice of the call's own, another one lying by. -/
theorem app_two {ops : Array Oper} {rest : List Oper} {o : Oper} {a : Act} {Q : Exit → Act → World → Prop} (W : World) (base : Nat) (v u : Value) (l l2 : List Nat) (z Bn : Nat) (hBn : Bn = W.heap.size) (hgd : o.guard = none) (s x : Operand)
    (ho : o.op = .call { callee := .builtin .append, args := #[s, x], argTypes := #[23, 23] }) (hs : a.eval s = v) (hx : a.eval x = .slice (some ⟨Bn, 0, none⟩) 1 1)
    (hown : Own W base v (zI l)) (hu : Own W base u (zI l2)) (hap : v.ownBlock = none ∨ v.ownBlock ≠ u.ownBlock) (hbase : base ≤ W.heap.size) (hlen : l.length ≤ 1000000) (w0 : World) (hb : Below base w0 W)
    (h : ∀ v' w', Hid (Own w' base v' (zI (l ++ [z])) ∧ Own w' base u (zI l2) ∧ (v'.ownBlock = none ∨ v'.ownBlock ≠ u.ownBlock) ∧ Below base w0 w' ∧ (W.alloc (.cells #[.int .i64 z] 3)).grownBy w' v.ownBlock) → wpList Tryd.prog ops Q rest (a.put o.dst v') w') :
    wpList Tryd.prog ops Q (o :: rest) a (W.alloc (.cells #[.int .i64 z] 3)) := by
  subst hBn
  obtain ⟨i0, hi, hz0, hz1, hz2⟩ := info_parts intInfo
  refine wpList_append_own_at _ hgd s x 23 ho base 3 i0 (.int .i64 0) 1 8 Tryd.underlying23 hi hz0 hz1 hz2 rfl (by decide) v l.length _ hs ((ownRow hown).alloc _) ⟨W.heap.size, 0, none⟩ 1 1 [.int .i64 z] hx rfl (cell_one_new _ _ _) ?_ ?_ ?_ ?_ ?_
  · intro y hy; simp at hy; subst hy; rfl
  · unfold maxLen; omega
  · omega
  · simp; omega
  · intro v' w' h1 h2 _ hat
    have hu2 : Own (W.alloc (.cells #[.int .i64 z] 3)) base u (zI l2) := hu.below (gAlloc _ _)
    refine h v' w' ⟨ownApp h1, hu2.kept h2 (gApart hap), ?_, app_below hb hbase hown h2, h2⟩
    rcases hat with hat | hat
    · rw [hat]; exact hap
    · refine Or.inr fun e => ?_
      rw [hat] at e
      have := (hu.lt _ e.symm).2
      simp at this
      omega
theorem gFormC {w : World} {base : Nat} {v : Value} {zs : List Int} (h : Own w base v zs) : ∃ A c, v = .slice A zs.length c ∧ zs.length ≤ c ∧ Ints w A zs := by
  obtain ⟨A', c', e', hI'⟩ := h.form
  refine ⟨A', c', e', ?_, hI'⟩
  rcases h.2 with ⟨_, hn⟩ | ⟨g, cap, cur, e, _, _, hle, _⟩
  · rw [hn]; exact Nat.zero_le _
  · rw [e'] at e; injection e with _ _ e3; rw [e3]; exact hle
theorem map_snoc {α β : Type} (f : α → β) {L : List α} {k : Nat} (h : k < L.length) : (L.take (k + 1)).map f = (L.take k).map f ++ [f L[k]] := by
  rw [List.take_succ_eq_append_getElem h, List.map_append]; rfl

def rowsOfL (n : Nat) (L : List (Nat × Nat)) : List Nat := (L.map Prod.fst).map (rowOfN n)
def addOkB (n : Int) (ls : List (Int × Int)) : Bool := goodLB n ls && (decide (ls.length ≤ 20) && decide (rank (rowsOfL n.toNat (natL ls)) = n.toNat))
def addI (n : Int) (ls : List (Int × Int)) : List Int := if addOkB n ls = true then zI (solveL n.toNat (rowsOfL n.toNat (natL ls)) ((natL ls).map Prod.snd)) else []

/-- The first k numbers are different. -/
def disTo (zs : List Int) : Nat → Bool
  | 0 => true
  | k + 1 => disTo zs k && !decide (zs.getD k 0 ∈ zs.take k)
theorem disTo_no {zs : List Int} {k : Nat} (h : disTo zs k = false) : ∀ {m : Nat}, k ≤ m → disTo zs m = false
  | 0, hm => by obtain rfl : k = 0 := by omega
                exact h
  | m + 1, hm => by
    by_cases e : k = m + 1
    · subst e; exact h
    · rw [disTo, disTo_no h (show k ≤ m by omega)]; rfl
def enOkB (n : Int) (zs : List Int) : Bool := pcOkB n && (decide (zs.length ≤ 20) && (allIn zs 999 && disTo zs zs.length))
def enI (n : Int) (zs : List Int) : Bool := enOkB n zs && decide (rank ((zs.map Int.toNat).map (rowOfN n.toNat)) = n.toNat)
theorem tupBB {a b c d : Bool} (h : a = b) (k : c = d) : Ending.returned (.tuple #[.bool a, .bool c]) = .returned (.tuple #[.bool b, .bool d]) := by rw [h, k]
theorem en_no {n : Int} {zs : List Int} (h : enOkB n zs = false) : enI n zs = false := by rw [enI, h]; rfl

set_option maxRecDepth 100000 in
set_option maxHeartbeats 2000000 in
theorem sEnough_any (n : Int) (A : Option Addr) (zs : List Int) (ca : Nat) (w : World) (ha : Ints w A zs) (hl : zs.length ≤ 1048576) (hca : zs.length ≤ ca) :
    Calls Tryd.prog 48 #[.int .i64 n, .slice A zs.length ca] w fun e w' => e = .returned (.tuple #[.bool (enI n zs), .bool (enOkB n zs)]) ∧ Below w.heap.size w w' := by
  cases h1 : pcOkB n
  · have HE : Hid (enOkB n zs = false) := by show _ = _; rw [enOkB, h1]; rfl
    go_enter Tryd.func48, Tryd.ntmps48
    go_wp2_with (go_at_call 79; refine (sPc _ _).mono ?_; rintro e w' ⟨rfl, rfl⟩)
    go_ret2
    exact ⟨tupBB (en_no HE.out).symm HE.out.symm, Below.refl _ _⟩
  · by_cases h2 : zs.length ≤ 20
    · have hi2 : ¬ (20 : Int) < (zs.length : Int) := by omega
      cases h3 : allIn zs 999
      · have HE : Hid (enOkB n zs = false) := by show _ = _; rw [enOkB, h3]; simp
        go_enter Tryd.func48, Tryd.ntmps48
        go_wp2_with (first
          | (go_at_call 79; refine (sPc _ _).mono ?_; rintro e w' ⟨rfl, rfl⟩)
          | (go_at_call 80; refine (sAll A zs ca _ _ ha hl).mono ?_; rintro e w' ⟨rfl, rfl⟩))
        go_ret2
        exact ⟨tupBB (en_no HE.out).symm HE.out.symm, Below.refl _ _⟩
      · have HOk : Hid (enOkB n zs = disTo zs zs.length) := by show _ = _; rw [enOkB, h1, h3]; simp [h2]
        have HAl := Lib.hid (sAll A zs ca 999 w ha hl)
        rw [h3] at HAl
        have HIn : Hid (∀ z ∈ zs, 0 ≤ z ∧ z ≤ 999) := fun z hz => by
          have := List.all_eq_true.1 h3 z hz
          simpa [inB] using this
        have HA := Lib.hid ha
        have hp : 1 ≤ n ∧ n ≤ 8 := by simpa [pcOkB, inB] using h1
        obtain ⟨m, rfl⟩ := Int.eq_ofNat_of_zero_le (show 0 ≤ n by omega)
        have hm1 : 1 ≤ m := by omega
        have hm8 : m ≤ 8 := by omega
        clear ha h3
        go_enter Tryd.func48, Tryd.ntmps48
        go_wp2_with (first
          | (go_at_call 79; refine (sPc _ _).mono ?_; rintro e w' ⟨rfl, rfl⟩)
          | (go_at_call 80; refine HAl.out.mono ?_; rintro e w' ⟨rfl, rfl⟩))
        go_loopg [23] zs.length (fun gk i wr => ∃ k : Nat, k + gk = zs.length ∧ i = .int .i64 k ∧ disTo zs k = true ∧ w = wr)
        case atStart => exact ⟨0, by omega, rfl, rfl, rfl⟩
        case round =>
          obtain ⟨k, hg, rfl, hdis, rfl⟩ := hrel
          have HDis := Lib.hid hdis
          clear hdis
          by_cases hlt : k < zs.length
          · have hki : (k : Int) < (zs.length : Int) := by omega
            obtain ⟨b3, o3, rfl, hc3⟩ := HA.out (by rintro rfl; simp at hlt)
            have hcz := hc3 k hlt
            have HNx : Hid (disTo zs (k + 1) = !decide (zs.getD k 0 ∈ zs.take k)) := by show _ = _; rw [disTo, HDis.out]; rfl
            have htl : (zs.take k).length = k := by rw [List.length_take]; omega
            have hIt : Ints w (some ⟨b3, o3, none⟩) (zs.take k) := fun hne => ⟨b3, o3, rfl, fun j hj => by
              rw [htl] at hj
              rw [hc3 j (by omega)]
              simp [List.getD, hj]⟩
            generalize zs.getD k 0 = z at *
            have HHas := Lib.hid (sHas (some ⟨b3, o3, none⟩) (zs.take k) ca z w hIt (by rw [htl]; omega))
            rw [htl] at HHas
            have hkc : k ≤ ca := by omega
            clear hc3 htl hIt
            cases hq : decide (z ∈ zs.take k)
            · rw [hq] at HHas
              have HN : Hid (disTo zs (k + 1) = true) := by show _ = _; rw [HNx.out, hq]; rfl
              go_wp2_with (go_at_call 76; refine HHas.out.mono ?_; rintro e w' ⟨rfl, rfl⟩)
              go_roundg (zs.length - k - 1)
              case measure => omega
              case rel => exact ⟨k + 1, by omega, by go_num, HN.out, rfl⟩
            · rw [hq] at HHas
              have HE : Hid (enOkB (m : Int) zs = false) := by show _ = _; rw [HOk.out]; exact disTo_no (by rw [HNx.out, hq]; rfl) (show k + 1 ≤ zs.length by omega)
              go_wp2_with (go_at_call 76; refine HHas.out.mono ?_; rintro e w' ⟨rfl, rfl⟩)
              go_ret2
              exact ⟨tupBB (en_no HE.out).symm HE.out.symm, Below.refl _ _⟩
          · obtain rfl : k = zs.length := by omega
            have hki : ¬ (zs.length : Int) < (zs.length : Int) := by omega
            have HE : Hid (enOkB (m : Int) zs = true) := by show _ = _; rw [HOk.out]; exact HDis.out
            have hzz : zI (zs.map Int.toNat) = zs := by
              unfold zI
              rw [List.map_map]
              conv => rhs; rw [← List.map_id zs]
              refine List.map_congr_left fun z hz => ?_
              have := HIn.out z hz
              simp; omega
            have HV : Hid (enI (m : Int) zs = decide (rank ((zs.map Int.toNat).map (rowOfN m)) = m)) := by show _ = _; rw [enI, HE.out, Int.toNat_natCast]; rfl
            have HRw := Lib.hid (sRows5 m A (zs.map Int.toNat) ca w (by rw [hzz]; exact HA.out) hm1 hm8 (by rw [List.length_map]; omega) (fun x hx => by
              obtain ⟨z, hz, rfl⟩ := List.mem_map.1 hx
              have := HIn.out z hz
              omega))
            rw [List.length_map] at HRw
            have HR16 : Hid (∀ r ∈ (zs.map Int.toNat).map (rowOfN m), r < 65536) := fun r hr => by
              obtain ⟨no, _, rfl⟩ := List.mem_map.1 hr
              exact Nat.lt_of_lt_of_le (rowOf_lt no hm1) (Nat.le_trans (Nat.pow_le_pow_right (by decide) (show m ≤ 16 by omega)) (by decide))
            have hRl : ((zs.map Int.toNat).map (rowOfN m)).length = zs.length := by rw [List.length_map, List.length_map]
            clear hzz hg
            generalize (zs.map Int.toNat).map (rowOfN m) = RR at *
            have HRl := Lib.hid hRl
            clear hRl
            go_wp2_with fail
            refine HRw.out.mono ?_
            rintro e w4 ⟨v4, rfl, ho4, hb4⟩
            obtain ⟨A4, c4, rfl, hI4⟩ := ho4.form
            rw [zI_length]
            have HSt := Lib.hid (sSteps A4 RR c4 w4 hI4 (by rw [HRl.out]; omega) HR16.out)
            clear ho4 hI4 HRw
            go_wp2_with fail
            refine HSt.out.mono ?_
            rintro e w5 ⟨v5, rfl, ho5, hb5⟩
            obtain ⟨A5, c5, rfl, _⟩ := ho5.form
            rw [zI_length]
            have HB5 := Lib.hid (below_more hb4 hb5)
            have HRk : Hid ((steps RR).length = rank RR) := rfl
            rw [HRk.out]
            clear ho5 hb4 hb5 HSt
            generalize rank RR = rk at *
            go_wp2_with fail
            go_ret2
            refine ⟨tupBB ?_ HE.out.symm, HB5.out⟩
            rw [HV.out]
            by_cases hq : rk = m
            · subst hq; simp
            · have : ¬ (rk : Int) = (m : Int) := by omega
              simp [hq, this]
    · have hi2 : (20 : Int) < (zs.length : Int) := by omega
      have HE : Hid (enOkB n zs = false) := by show _ = _; rw [enOkB]; simp [h2]
      go_enter Tryd.func48, Tryd.ntmps48
      go_wp2_with (go_at_call 79; refine (sPc _ _).mono ?_; rintro e w' ⟨rfl, rfl⟩)
      go_ret2
      exact ⟨tupBB (en_no HE.out).symm HE.out.symm, Below.refl _ _⟩
end Go.Proofs.YtdoogleggdlddaaDoor
