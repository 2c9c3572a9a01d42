/-
  The model of chapter 5: AddUp, EnoughOf.
-/
import Derived.Test.YtcpfneikcefcmaaDoorJN
namespace Go.Proofs.YtcpfneikcefcmaaDoor
open Go.RowKit

theorem gApart {a b : Option Nat} (h : a = none ∨ a ≠ b) : b = none ∨ b ≠ a := by
  rcases h with h | h
  · cases b with
    | none => exact Or.inl rfl
    | some k => exact Or.inr (by rw [h]; simp)
  · exact Or.inr h.symm
/-- One number appended to a slice of the call's own, another one lying by. -/
theorem app_two {ops : Array Oper} {rest : List Oper} {o : Oper} {a : Act} {Q : Exit → Act → World → Prop} (W : World) (base : Nat) (v u : Value) (l l2 : List Nat) (z Bn : Nat) (hBn : Bn = W.heap.size) (hgd : o.guard = none) (s x : Operand)
    (ho : o.op = .call { callee := .builtin .append, args := #[s, x], argTypes := #[24, 24] }) (hs : a.eval s = v) (hx : a.eval x = .slice (some ⟨Bn, 0, none⟩) 1 1)
    (hown : Own W base v (zI l)) (hu : Own W base u (zI l2)) (hap : v.ownBlock = none ∨ v.ownBlock ≠ u.ownBlock) (hbase : base ≤ W.heap.size) (hlen : l.length ≤ 1000000) (w0 : World) (hb : Below base w0 W)
    (h : ∀ v' w', Hid (Own w' base v' (zI (l ++ [z])) ∧ Own w' base u (zI l2) ∧ (v'.ownBlock = none ∨ v'.ownBlock ≠ u.ownBlock) ∧ Below base w0 w' ∧ (W.alloc (.cells #[.int .i64 z] 3)).grownBy w' v.ownBlock) → wpList Tryd.prog ops Q rest (a.put o.dst v') w') :
    wpList Tryd.prog ops Q (o :: rest) a (W.alloc (.cells #[.int .i64 z] 3)) := by
  subst hBn
  obtain ⟨i0, hi, hz0, hz1, hz2⟩ := info_parts intInfo
  refine wpList_append_own_at _ hgd s x 24 ho base 3 i0 (.int .i64 0) 1 8 Tryd.underlying24 hi hz0 hz1 hz2 rfl (by decide) v l.length _ hs ((ownRow hown).alloc _) ⟨W.heap.size, 0, none⟩ 1 1 [.int .i64 z] hx rfl (cell_one_new _ _ _) ?_ ?_ ?_ ?_ ?_
  · intro y hy; simp at hy; subst hy; rfl
  · unfold maxLen; omega
  · omega
  · simp; omega
  · intro v' w' h1 h2 _ hat
    have hu2 : Own (W.alloc (.cells #[.int .i64 z] 3)) base u (zI l2) := hu.below (gAlloc _ _)
    refine h v' w' ⟨ownApp h1, hu2.kept h2 (gApart hap), ?_, app_below hb hbase hown h2, h2⟩
    rcases hat with hat | hat
    · rw [hat]; exact hap
    · refine Or.inr fun e => ?_
      rw [hat] at e
      have := (hu.lt _ e.symm).2
      simp at this
      omega
theorem gFormC {w : World} {base : Nat} {v : Value} {zs : List Int} (h : Own w base v zs) : ∃ A c, v = .slice A zs.length c ∧ zs.length ≤ c ∧ Ints w A zs := by
  obtain ⟨A', c', e', hI'⟩ := h.form
  refine ⟨A', c', e', ?_, hI'⟩
  rcases h.2 with ⟨_, hn⟩ | ⟨g, cap, cur, e, _, _, hle, _⟩
  · rw [hn]; exact Nat.zero_le _
  · rw [e'] at e; injection e with _ _ e3; rw [e3]; exact hle
theorem map_snoc {α β : Type} (f : α → β) {L : List α} {k : Nat} (h : k < L.length) : (L.take (k + 1)).map f = (L.take k).map f ++ [f L[k]] := by
  rw [List.take_succ_eq_append_getElem h, List.map_append]; rfl

def rowsOfL (n : Nat) (L : List (Nat × Nat)) : List Nat := (L.map Prod.fst).map (rowOfN n)
def addOkB (n : Int) (ls : List (Int × Int)) : Bool := goodLB n ls && (decide (ls.length ≤ 20) && decide (rank (rowsOfL n.toNat (natL ls)) = n.toNat))
def addI (n : Int) (ls : List (Int × Int)) : List Int := if addOkB n ls = true then zI (solveL n.toNat (rowsOfL n.toNat (natL ls)) ((natL ls).map Prod.snd)) else []

set_option maxRecDepth 100000 in
set_option maxHeartbeats 2000000 in
theorem sAdd_any (n : Int) (A : Option Addr) (ls : List (Int × Int)) (ca : Nat) (w : World) (ha : Lets w A ls) (hl : ls.length ≤ 1048576) (hca : ls.length ≤ ca) :
    Calls Tryd.prog 19 #[.int .i64 n, .slice A ls.length ca] w fun e w' => ∃ v, e = .returned (.tuple #[v, .bool (addOkB n ls)]) ∧ Own w' w.heap.size v (addI n ls) ∧ Below w.heap.size w w' := by
  cases h : goodLB n ls
  · have hE : addOkB n ls = false := by rw [addOkB, h]; rfl
    have HE : Hid (addI n ls = []) := by show _ = _; rw [addI, hE]; rfl
    rw [hE]
    go_enter Tryd.func19, Tryd.ntmps19
    go_wp2_with fail
    refine (sGoodL_any n A ls ca w ha hl hca).mono ?_
    rintro e w1 ⟨rfl, hb1⟩
    rw [h]
    go_wp2_with fail
    go_ret2
    exact ⟨_, rfl, by rw [HE.out]; exact Own.nil _ _, hb1⟩
  · by_cases h20 : ls.length ≤ 20
    · obtain ⟨m, L, rfl, rfl, hm1, hm8, _, hLx⟩ := goodL_nat h
      have HG := Lib.hid (sGoodL_any (m : Int) A (intL L) ca w ha hl hca)
      rw [h, intL_length] at HG
      rw [intL_length] at h20 hca ⊢
      have hok : addOkB (m : Int) (intL L) = decide (rank (rowsOfL m L) = m) := by
        rw [addOkB, h, intL_length, natL_intL, Int.toNat_natCast]; simp [h20]
      have hv : addI (m : Int) (intL L) = if rank (rowsOfL m L) = m then zI (solveL m (rowsOfL m L) (L.map Prod.snd)) else [] := by
        rw [addI, hok, natL_intL, Int.toNat_natCast]; simp
      have HV := Lib.hid hv
      have HOk := Lib.hid hok
      have HA := Lib.hid ha
      have HX := Lib.hid hLx
      clear h ha hv hok hLx
      have hi20 : ¬ (20 : Int) < (L.length : Int) := by omega
      go_enter Tryd.func19, Tryd.ntmps19
      go_wp2_with fail
      refine HG.out.mono ?_
      rintro e w1 ⟨rfl, hb1⟩
      have HB1 := Lib.hid hb1
      clear hb1 HG
      go_wp2_with fail
      go_loopg [6, 7, 21] L.length (fun gk v u i wr => ∃ k : Nat, k + gk = L.length ∧ i = .int .i64 k ∧ Own wr w.heap.size v (zI ((L.take k).map Prod.fst)) ∧ Own wr w.heap.size u (zI ((L.take k).map Prod.snd)) ∧ (v.ownBlock = none ∨ v.ownBlock ≠ u.ownBlock) ∧ Below w.heap.size w wr)
      case atStart => exact ⟨0, by omega, rfl, Own.nil _ _, Own.nil _ _, Or.inl rfl, HB1.out⟩
      case round =>
        obtain ⟨k, hg, rfl, hov, hou, hap, hbel⟩ := hrel
        have HOv := Lib.hid hov
        have HOu := Lib.hid hou
        have HAp := Lib.hid hap
        have HBl := Lib.hid hbel
        clear hov hou hap hbel
        by_cases hlt : k < L.length
        · have hki : (k : Int) < (L.length : Int) := by omega
          have hlt' : k < (intL L).length := by rw [intL_length]; exact hlt
          obtain ⟨b1, o1, rfl, hc1⟩ := (HA.out.below HBl.out) (by intro e0; rw [e0] at hlt'; simp at hlt')
          obtain ⟨p1, p2⟩ := hc1 k hlt'
          rw [intL_at hlt'] at p1 p2
          have HM1 := Lib.hid (map_snoc Prod.fst hlt)
          have HM2 := Lib.hid (map_snoc Prod.snd hlt)
          have HGK : Hid (L.length - k - 1 < gk ∧ k + 1 + (L.length - k - 1) = L.length) := by show _ ∧ _; omega
          have HL1 : Hid (((L.take k).map Prod.fst).length ≤ 20) := by show _ ≤ _; rw [List.length_map, List.length_take]; omega
          have HL2 : Hid (((L.take k).map Prod.snd).length ≤ 20) := by show _ ≤ _; rw [List.length_map, List.length_take]; omega
          generalize (L.take k).map Prod.fst = LF at *
          generalize (L.take k).map Prod.snd = LS at *
          generalize L[k] = p at *
          have hW := gAlloc wr (.cells #[.int .i64 p.1, .int .i64 p.2] 50)
          have HOv1 := Lib.hid (HOv.out.below hW)
          have HOu1 := Lib.hid (HOu.out.below hW)
          have HBW := Lib.hid (below_more HBl.out hW)
          have hsW := (below_more HBl.out hW).size
          have hx0 : (wr.alloc (.cells #[.int .i64 p.1, .int .i64 p.2] 50)).heap[wr.heap.size]? = some (.cells #[.int .i64 p.1, .int .i64 p.2] 50 (0, 0)) := heap_alloc_new _ _
          have HX0 := Lib.hid hx0
          have HSv : Hid (∀ g, u6.ownBlock = some g → g < wr.heap.size) := fun g hg => (HOv.out.lt g hg).2
          clear hc1 hg hW hx0 HOv HOu
          go_wp2_with (at_builtin; refine app_two (wr.alloc (.cells #[.int .i64 p.1, .int .i64 p.2] 50)) w.heap.size _ u7 LF LS p.1 (wr.heap.size + 1) (by simp) rfl _ _ rfl rfl rfl HOv1.out HOu1.out HAp.out hsW (by have := HL1.out; omega) w HBW.out ?_)
          intro v' w' H'
          have hcell : w'.cell? ⟨wr.heap.size, 1, none⟩ = some (.int .i64 p.2) := by
            have hg2 := H'.out.2.2.2.2
            have hh : w'.heap[wr.heap.size]? = some (.cells #[.int .i64 p.1, .int .i64 p.2] 50 (0, 0)) := by
              have h0 := hg2.block wr.heap.size (by simp; omega) (fun e => absurd (HSv.out _ e.symm) (Nat.lt_irrefl _))
              rw [h0, Below.heap_alloc _ _ _ (by simp)]
              exact HX0.out
            exact cell_of_row w' _ 1 _ _ _ hh
          have hs' := H'.out.2.2.2.1.size
          have HQ := Lib.hid H'.out
          go_wp2_with (at_builtin; refine app_two w' w.heap.size _ v' LS (LF ++ [p.1]) p.2 w'.heap.size rfl rfl _ _ rfl rfl rfl HQ.out.2.1 HQ.out.1 (gApart HQ.out.2.2.1) hs' (by have := HL2.out; omega) w HQ.out.2.2.2.1 ?_)
          intro u' w'' H''
          go_wp2_with fail
          go_roundg (L.length - k - 1)
          case measure => exact HGK.out.1
          case rel => exact ⟨k + 1, HGK.out.2, by go_num, by rw [HM1.out]; exact H''.out.2.1, by rw [HM2.out]; exact H''.out.1, gApart H''.out.2.2.1, H''.out.2.2.2.1⟩
        · obtain rfl : k = L.length := by omega
          rw [List.take_length] at HOv HOu
          have hki : ¬ (L.length : Int) < (L.length : Int) := by omega
          obtain ⟨A6, c6, rfl, hI6⟩ := HOv.out.form
          obtain ⟨A7, c7, rfl, hI7⟩ := HOu.out.form
          have HLf : Hid (∀ x ∈ L.map Prod.fst, x ≤ 999) := fun x hx => by
            obtain ⟨p, hp, rfl⟩ := List.mem_map.1 hx
            exact (HX.out p hp).1
          have HLs : Hid (∀ x ∈ L.map Prod.snd, x < 2 ^ 32) := fun x hx => by
            obtain ⟨p, hp, rfl⟩ := List.mem_map.1 hx
            exact (HX.out p hp).2
          have HRw := Lib.hid (sRows5 m A6 (L.map Prod.fst) c6 wr hI6 hm1 hm8 (by rw [List.length_map]; omega) HLf.out)
          have HI7 := Lib.hid hI7
          rw [List.length_map] at HRw
          rw [zI_length, zI_length, List.length_map, List.length_map]
          clear hI6 hI7 HOv HOu HAp hg
          go_wp2_with fail
          refine HRw.out.mono ?_
          rintro e w4 ⟨v4, rfl, ho4, hb4⟩
          obtain ⟨A4, c4, rfl, hcap4, hI4⟩ := gFormC ho4
          have hRl : (rowsOfL m L).length = L.length := by simp [rowsOfL]
          have hcap4' : (rowsOfL m L).length ≤ c4 := by rw [zI_length] at hcap4; exact hcap4
          have hzz : (zI ((L.map Prod.fst).map (rowOfN m))).length = L.length := by rw [zI_length, List.length_map, List.length_map]
          rw [hzz]
          have HSo := Lib.hid (sSolve m A4 A7 (rowsOfL m L) (L.map Prod.snd) c4 c7 w4 hI4 (HI7.out.below hb4) hm1 hm8 (by simp [rowsOfL]; exact h20) (by simp [rowsOfL]) (fun r hr => by
            obtain ⟨no, _, rfl⟩ := List.mem_map.1 hr
            exact rowOf_lt no hm1) HLs.out hcap4')
          rw [hRl, List.length_map] at HSo
          have HB4 := Lib.hid (below_more HBl.out hb4)
          have HRL : Hid (rowsOfL m L = (L.map Prod.fst).map (rowOfN m)) := rfl
          rw [HRL.out] at HSo
          rw [HRL.out] at HV HOk
          clear ho4 hb4 hI4 HRw HI7 HBl hcap4 hcap4' HRL hRl hzz
          generalize (L.map Prod.fst).map (rowOfN m) = RR at *
          generalize (L.map Prod.snd) = SS at *
          generalize (if rank RR = m then zI (solveL m RR SS) else []) = VV at *
          generalize decide (rank RR = m) = dd at *
          go_wp2_with fail
          refine HSo.out.mono ?_
          rintro e w5 ⟨v5, rfl, ho5, hb5⟩
          have HO5 := Lib.hid ho5
          obtain ⟨A5, c5, rfl, _⟩ := ho5.form
          have HB5 := Lib.hid (below_more HB4.out hb5)
          have hsz := (below_more HB4.out hb5).size
          have hs4 := HB4.out.size
          clear ho5 hb5 HSo
          go_wp2_with fail
          go_ret2
          refine ⟨.slice A5 VV.length c5, ?_, by rw [HV.out]; exact HO5.out.lower hs4, HB5.out⟩
          show Ending.returned (.tuple #[.slice A5 VV.length c5, .bool dd]) = _
          rw [HOk.out]
    · have hE : addOkB n ls = false := by rw [addOkB]; simp [h20]
      have HE : Hid (addI n ls = []) := by show _ = _; rw [addI, hE]; rfl
      have hi20 : (20 : Int) < (ls.length : Int) := by omega
      rw [hE]
      go_enter Tryd.func19, Tryd.ntmps19
      go_wp2_with fail
      refine (sGoodL_any n A ls ca w ha hl hca).mono ?_
      rintro e w1 ⟨rfl, hb1⟩
      rw [h]
      go_wp2_with fail
      go_ret2
      exact ⟨_, rfl, by rw [HE.out]; exact Own.nil _ _, hb1⟩

/-- The first k numbers are different. -/
def disTo (zs : List Int) : Nat → Bool
  | 0 => true
  | k + 1 => disTo zs k && !decide (zs.getD k 0 ∈ zs.take k)
theorem disTo_no {zs : List Int} {k : Nat} (h : disTo zs k = false) : ∀ {m : Nat}, k ≤ m → disTo zs m = false
  | 0, hm => by obtain rfl : k = 0 := by omega
                exact h
  | m + 1, hm => by
    by_cases e : k = m + 1
    · subst e; exact h
    · rw [disTo, disTo_no h (show k ≤ m by omega)]; rfl
def enOkB (n : Int) (zs : List Int) : Bool := pcOkB n && (decide (zs.length ≤ 20) && (allIn zs 999 && disTo zs zs.length))
def enI (n : Int) (zs : List Int) : Bool := enOkB n zs && decide (rank ((zs.map Int.toNat).map (rowOfN n.toNat)) = n.toNat)
theorem tupBB {a b c d : Bool} (h : a = b) (k : c = d) : Ending.returned (.tuple #[.bool a, .bool c]) = .returned (.tuple #[.bool b, .bool d]) := by rw [h, k]
theorem en_no {n : Int} {zs : List Int} (h : enOkB n zs = false) : enI n zs = false := by rw [enI, h]; rfl

set_option maxRecDepth 100000 in
set_option maxHeartbeats 2000000 in
theorem sEnough_any (n : Int) (A : Option Addr) (zs : List Int) (ca : Nat) (w : World) (ha : Ints w A zs) (hl : zs.length ≤ 1048576) (hca : zs.length ≤ ca) :
    Calls Tryd.prog 21 #[.int .i64 n, .slice A zs.length ca] w fun e w' => e = .returned (.tuple #[.bool (enI n zs), .bool (enOkB n zs)]) ∧ Below w.heap.size w w' := by
  cases h1 : pcOkB n
  · have HE : Hid (enOkB n zs = false) := by show _ = _; rw [enOkB, h1]; rfl
    go_enter Tryd.func21, Tryd.ntmps21
    go_wp2_with (go_at_call 44; refine (sPc _ _).mono ?_; rintro e w' ⟨rfl, rfl⟩)
    go_ret2
    exact ⟨tupBB (en_no HE.out).symm HE.out.symm, Below.refl _ _⟩
  · by_cases h2 : zs.length ≤ 20
    · have hi2 : ¬ (20 : Int) < (zs.length : Int) := by omega
      cases h3 : allIn zs 999
      · have HE : Hid (enOkB n zs = false) := by show _ = _; rw [enOkB, h3]; simp
        go_enter Tryd.func21, Tryd.ntmps21
        go_wp2_with (first
          | (go_at_call 44; refine (sPc _ _).mono ?_; rintro e w' ⟨rfl, rfl⟩)
          | (go_at_call 45; refine (sAll A zs ca _ _ ha hl).mono ?_; rintro e w' ⟨rfl, rfl⟩))
        go_ret2
        exact ⟨tupBB (en_no HE.out).symm HE.out.symm, Below.refl _ _⟩
      · have HOk : Hid (enOkB n zs = disTo zs zs.length) := by show _ = _; rw [enOkB, h1, h3]; simp [h2]
        have HAl := Lib.hid (sAll A zs ca 999 w ha hl)
        rw [h3] at HAl
        have HIn : Hid (∀ z ∈ zs, 0 ≤ z ∧ z ≤ 999) := fun z hz => by
          have := List.all_eq_true.1 h3 z hz
          simpa [inB] using this
        have HA := Lib.hid ha
        have hp : 1 ≤ n ∧ n ≤ 8 := by simpa [pcOkB, inB] using h1
        obtain ⟨m, rfl⟩ := Int.eq_ofNat_of_zero_le (show 0 ≤ n by omega)
        have hm1 : 1 ≤ m := by omega
        have hm8 : m ≤ 8 := by omega
        clear ha h3
        go_enter Tryd.func21, Tryd.ntmps21
        go_wp2_with (first
          | (go_at_call 44; refine (sPc _ _).mono ?_; rintro e w' ⟨rfl, rfl⟩)
          | (go_at_call 45; refine HAl.out.mono ?_; rintro e w' ⟨rfl, rfl⟩))
        go_loopg [23] zs.length (fun gk i wr => ∃ k : Nat, k + gk = zs.length ∧ i = .int .i64 k ∧ disTo zs k = true ∧ w = wr)
        case atStart => exact ⟨0, by omega, rfl, rfl, rfl⟩
        case round =>
          obtain ⟨k, hg, rfl, hdis, rfl⟩ := hrel
          have HDis := Lib.hid hdis
          clear hdis
          by_cases hlt : k < zs.length
          · have hki : (k : Int) < (zs.length : Int) := by omega
            obtain ⟨b3, o3, rfl, hc3⟩ := HA.out (by rintro rfl; simp at hlt)
            have hcz := hc3 k hlt
            have HNx : Hid (disTo zs (k + 1) = !decide (zs.getD k 0 ∈ zs.take k)) := by show _ = _; rw [disTo, HDis.out]; rfl
            have htl : (zs.take k).length = k := by rw [List.length_take]; omega
            have hIt : Ints w (some ⟨b3, o3, none⟩) (zs.take k) := fun hne => ⟨b3, o3, rfl, fun j hj => by
              rw [htl] at hj
              rw [hc3 j (by omega)]
              simp [List.getD, hj]⟩
            generalize zs.getD k 0 = z at *
            have HHas := Lib.hid (sHas (some ⟨b3, o3, none⟩) (zs.take k) ca z w hIt (by rw [htl]; omega))
            rw [htl] at HHas
            have hkc : k ≤ ca := by omega
            clear hc3 htl hIt
            cases hq : decide (z ∈ zs.take k)
            · rw [hq] at HHas
              have HN : Hid (disTo zs (k + 1) = true) := by show _ = _; rw [HNx.out, hq]; rfl
              go_wp2_with (go_at_call 46; refine HHas.out.mono ?_; rintro e w' ⟨rfl, rfl⟩)
              go_roundg (zs.length - k - 1)
              case measure => omega
              case rel => exact ⟨k + 1, by omega, by go_num, HN.out, rfl⟩
            · rw [hq] at HHas
              have HE : Hid (enOkB (m : Int) zs = false) := by show _ = _; rw [HOk.out]; exact disTo_no (by rw [HNx.out, hq]; rfl) (show k + 1 ≤ zs.length by omega)
              go_wp2_with (go_at_call 46; refine HHas.out.mono ?_; rintro e w' ⟨rfl, rfl⟩)
              go_ret2
              exact ⟨tupBB (en_no HE.out).symm HE.out.symm, Below.refl _ _⟩
          · obtain rfl : k = zs.length := by omega
            have hki : ¬ (zs.length : Int) < (zs.length : Int) := by omega
            have HE : Hid (enOkB (m : Int) zs = true) := by show _ = _; rw [HOk.out]; exact HDis.out
            have hzz : zI (zs.map Int.toNat) = zs := by
              unfold zI
              rw [List.map_map]
              conv => rhs; rw [← List.map_id zs]
              refine List.map_congr_left fun z hz => ?_
              have := HIn.out z hz
              simp; omega
            have HV : Hid (enI (m : Int) zs = decide (rank ((zs.map Int.toNat).map (rowOfN m)) = m)) := by show _ = _; rw [enI, HE.out, Int.toNat_natCast]; rfl
            have HRw := Lib.hid (sRows5 m A (zs.map Int.toNat) ca w (by rw [hzz]; exact HA.out) hm1 hm8 (by rw [List.length_map]; omega) (fun x hx => by
              obtain ⟨z, hz, rfl⟩ := List.mem_map.1 hx
              have := HIn.out z hz
              omega))
            rw [List.length_map] at HRw
            have HR16 : Hid (∀ r ∈ (zs.map Int.toNat).map (rowOfN m), r < 65536) := fun r hr => by
              obtain ⟨no, _, rfl⟩ := List.mem_map.1 hr
              exact Nat.lt_of_lt_of_le (rowOf_lt no hm1) (Nat.le_trans (Nat.pow_le_pow_right (by decide) (show m ≤ 16 by omega)) (by decide))
            have hRl : ((zs.map Int.toNat).map (rowOfN m)).length = zs.length := by rw [List.length_map, List.length_map]
            clear hzz hg
            generalize (zs.map Int.toNat).map (rowOfN m) = RR at *
            have HRl := Lib.hid hRl
            clear hRl
            go_wp2_with fail
            refine HRw.out.mono ?_
            rintro e w4 ⟨v4, rfl, ho4, hb4⟩
            obtain ⟨A4, c4, rfl, hI4⟩ := ho4.form
            rw [zI_length]
            have HSt := Lib.hid (sSteps A4 RR c4 w4 hI4 (by rw [HRl.out]; omega) HR16.out)
            clear ho4 hI4 HRw
            go_wp2_with fail
            refine HSt.out.mono ?_
            rintro e w5 ⟨v5, rfl, ho5, hb5⟩
            obtain ⟨A5, c5, rfl, _⟩ := ho5.form
            rw [zI_length]
            have HB5 := Lib.hid (below_more hb4 hb5)
            have HRk : Hid ((steps RR).length = rank RR) := rfl
            rw [HRk.out]
            clear ho5 hb4 hb5 HSt
            generalize rank RR = rk at *
            go_wp2_with fail
            go_ret2
            refine ⟨tupBB ?_ HE.out.symm, HB5.out⟩
            rw [HV.out]
            by_cases hq : rk = m
            · subst hq; simp
            · have : ¬ (rk : Int) = (m : Int) := by omega
              simp [hq, this]
    · have hi2 : (20 : Int) < (zs.length : Int) := by omega
      have HE : Hid (enOkB n zs = false) := by show _ = _; rw [enOkB]; simp [h2]
      go_enter Tryd.func21, Tryd.ntmps21
      go_wp2_with (go_at_call 44; refine (sPc _ _).mono ?_; rintro e w' ⟨rfl, rfl⟩)
      go_ret2
      exact ⟨tupBB (en_no HE.out).symm HE.out.symm, Below.refl _ _⟩
end Go.Proofs.YtcpfneikcefcmaaDoor
