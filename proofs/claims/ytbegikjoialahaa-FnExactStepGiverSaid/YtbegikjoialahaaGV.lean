/-
  The model of chapter 11: GoodGiver, l11Own, l11Step, LostIn, RoomIn, NewGiver.
-/
import Derived.Test.YtbegikjoialahaaGU
import Derived.Test.YtbegikjoialahaaKY
namespace Go.Proofs.Ytbegikjoialahaa
open Go.RowKit

abbrev fI1 (z : Int) : List Value := [.int .i64 z]
theorem fI1_len : ∀ x, (fI1 x).length = 1 := fun _ => rfl
theorem fI1_one : ∀ x, ∀ u ∈ fI1 x, u.oneCell' = true := fun x u hu => by simp at hu; subst hu; rfl
theorem ints_rd {w : World} {A : Option Addr} {zs : List Int} (h : Ints w A zs) : RdR 1 fI1 w A zs := fun hne => by
  obtain ⟨b, o, e, hc⟩ := h hne
  refine ⟨b, o, e, fun j hj i u hu => ?_⟩
  have hi : i = 0 := by
    have := (List.getElem?_eq_some_iff.1 hu).1
    simpa using this
  subst hi
  have hu' : Value.int .i64 zs[j] = u := by simpa using hu
  have h1 := hc j hj
  rw [show zs.getD j 0 = zs[j] by simp [List.getD, hj], hu'] at h1
  rw [Nat.mul_one, Nat.add_zero]; exact h1
theorem fI1_map (zs : List Int) : zs.flatMap fI1 = zs.map (Value.int .i64) := by
  induction zs with
  | nil => rfl
  | cons x L ih => rw [List.flatMap_cons, ih]; rfl
theorem own_rd {w : World} {base : Nat} {v : Value} {zs : List Int} (h : OwnR 3 1 fI1 w base v zs) : Own w base v zs := by
  have h' : w.ownsRow base 3 1 v zs.length (zs.flatMap fI1) := h
  rw [fI1_map] at h'
  exact h'
theorem intI9 : (Try.prog.info? 3).map (fun i => (i.zero, i.size, i.bytes)) = some (some (.int .i64 0), 1, 8) := by kernel_rfl
/-- append([]int{}, l...). -/
theorem app_copyI {ops : Array Oper} {rest : List Oper} {o : Oper} {a : Act} {Q : Exit → Act → World → Prop} (W : World) (L : List Int) (A : Option Addr) (ca m : Nat) (hm : L.length = m) (Bn : Nat) (hBn : Bn = W.heap.size) (hgd : o.guard = none) (s x : Operand)
    (ho : o.op = .call { callee := .builtin .append, args := #[s, x], argTypes := #[25, 25] }) (hs : a.eval s = .slice (some ⟨Bn, 0, none⟩) 0 0) (hx : a.eval x = .slice A m ca)
    (hA : Lies9 A ca) (hI : Ints W A L) (hl : L.length ≤ 1000000)
    (h : ∀ v' w', Hid (Own w' W.heap.size v' L ∧ Below W.heap.size W w') → wpList Try.prog ops Q rest (a.put o.dst v') w') :
    wpList Try.prog ops Q (o :: rest) a (W.alloc (.cells #[] 3)) := by
  obtain ⟨i0, hi, hz0, hz1, hz2⟩ := info_parts intI9
  exact app_copyR fI1_len (by decide) fI1_one Try.underlying25 hi hz0 hz1 hz2 rfl (by decide) W L A ca m hm Bn hBn hgd s x ho hs hx hA (ints_rd hI) hl (fun v' w' H => h v' w' ⟨own_rd H.out.1, H.out.2⟩)

set_option maxRecDepth 100000 in
set_option maxHeartbeats 1000000 in
theorem sOwn11 (n a s : Int) (A : Option Addr) (zs : List Int) (c : Nat) (w : World) (ha : Ints w A zs) (hA : Lies9 A c) (hl : zs.length ≤ 1000000) :
    Calls Try.prog 44 #[gvV n a s (.slice A zs.length c)] w fun e w' => ∃ v, e = .returned (gvV n a s v) ∧ Own w' w.heap.size v zs ∧ Below w.heap.size w w' := by
  obtain ⟨W, hW⟩ : ∃ W, (w.alloc (.cells #[.int .i64 n, .int .i64 a, .int .i64 s, .slice A zs.length c] 27)).alloc (.cells #[.int .i64 0, .int .i64 0, .int .i64 0, .slice none 0 0] 27) = W := ⟨_, rfl⟩
  have hbW : Below w.heap.size w W := by rw [← hW]; exact gAlloc2 _ _ _
  have hs : W.heap.size = w.heap.size + 2 := by rw [← hW]; simp
  have h1 : W.heap[w.heap.size]? = some (.cells #[.int .i64 n, .int .i64 a, .int .i64 s, .slice A zs.length c] 27 (0, 0)) := by
    rw [← hW, heap_alloc_old _ _ _ (by simp)]; exact heap_alloc_new _ _
  have h2 : W.heap[w.heap.size + 1]? = some (.cells #[.int .i64 0, .int .i64 0, .int .i64 0, .slice none 0 0] 27 (0, 0)) := by
    rw [← hW, show w.heap.size + 1 = (w.alloc (.cells #[.int .i64 n, .int .i64 a, .int .i64 s, .slice A zs.length c] 27)).heap.size by simp]; exact heap_alloc_new _ _
  have HA := Lib.hid (ha.below hbW)
  have HB := Lib.hid hbW
  have HS := Lib.hid hs
  have H1 := Lib.hid h1
  have H2 := Lib.hid h2
  have x3 : W.cell? ⟨w.heap.size, 3, none⟩ = some (.slice A zs.length c) := cell_of_row _ _ 3 _ _ _ h1
  have x3' : (W.alloc (.cells #[] 3)).cell? ⟨w.heap.size, 3, none⟩ = some (.slice A zs.length c) := cell_in (gAlloc _ _) x3
  clear ha hbW h1 h2 hs
  go_enter Try.func44, Try.ntmps44
  go_wp2_with (at_builtin; refine app_copyI W zs A c zs.length rfl W.heap.size rfl rfl _ _ rfl rfl rfl hA HA.out hl ?_; intro v1 w1 J1; obtain ⟨B, c1, rfl, _⟩ := J1.out.1.form; have K1 := Lib.hid ((J1.out.2.block _ (heap_lt H1.out)).trans H1.out); have K2 := Lib.hid ((J1.out.2.block _ (heap_lt H2.out)).trans H2.out); have y0 : w1.cell? ⟨w.heap.size, 0, none⟩ = some (.int .i64 n) := cell_of_row _ _ 0 _ _ _ K1.out; have y1 : w1.cell? ⟨w.heap.size, 1, none⟩ = some (.int .i64 a) := cell_of_row _ _ 1 _ _ _ K1.out; have y2 : w1.cell? ⟨w.heap.size, 2, none⟩ = some (.int .i64 s) := cell_of_row _ _ 2 _ _ _ K1.out; have y3 : w1.cell? ⟨w.heap.size, 3, none⟩ = some (.slice A zs.length c) := cell_of_row _ _ 3 _ _ _ K1.out; have g3 := frozen_of_row w1 _ 3 _ _ K1.out; have z0 : w1.cell? ⟨w.heap.size + 1, 0, none⟩ = some (.int .i64 0) := cell_of_row _ _ 0 _ _ _ K2.out; have z1 : w1.cell? ⟨w.heap.size + 1, 1, none⟩ = some (.int .i64 0) := cell_of_row _ _ 1 _ _ _ K2.out; have z2 : w1.cell? ⟨w.heap.size + 1, 2, none⟩ = some (.int .i64 0) := cell_of_row _ _ 2 _ _ _ K2.out; have z3 : w1.cell? ⟨w.heap.size + 1, 3, none⟩ = some (.slice none 0 0) := cell_of_row _ _ 3 _ _ _ K2.out; have f0 := frozen_of_row w1 _ 0 _ _ K2.out; have f1 := frozen_of_row w1 _ 1 _ _ K2.out; have f2 := frozen_of_row w1 _ 2 _ _ K2.out; have f3 := frozen_of_row w1 _ 3 _ _ K2.out)
  have hs := HS.out
  have hr := gv_stored rfl ((heap_setCell_other w1 ⟨w.heap.size, 3, none⟩ (w.heap.size + 1) (.slice B zs.length c1) (by show w.heap.size + 1 ≠ w.heap.size; omega)).trans K2.out) (.int .i64 n) (.int .i64 a) (.int .i64 s) (.slice B zs.length c1)
  refine ret_gv rfl (w.heap.size + 1) n a s _ rfl hr rfl ⟨_, rfl, ?_, below_gv ((below_more HB.out J1.out.2).setCell (Nat.le_refl _) _) (by omega) _ _ _ _⟩
  exact ((J1.out.1.cur (by omega) (gSet11 w1 w.heap.size 3 (.slice B zs.length c1))).cur (by omega) (gGv _ (w.heap.size + 1) _ _ _ _)).lower (by omega)

/-- The first number that l1Rising asks at place k. -/
def lsG (lo : Int) (zs : List Int) : Nat → Int
  | 0 => lo
  | j + 1 => zs.getD j 0 + 1
set_option maxRecDepth 100000 in
set_option maxHeartbeats 1000000 in
theorem sRisG (A : Option Addr) (zs : List Int) (ca : Nat) (lo c : Int) (w : World) (ha : Ints w A zs) (hl : zs.length ≤ 1048576) :
    Calls Try.prog 53 #[.slice A zs.length ca, .int .i64 lo, .int .i64 (c - 1)] w fun e w' => e = .returned (.bool (risB lo c zs)) ∧ w = w' := by
  have HA := Lib.hid ha
  clear ha
  go_enter Try.func53, Try.ntmps53
  go_wp2_with fail
  go_loopg [11] zs.length (fun gk i wr => ∃ k : Nat, k + gk = zs.length ∧ i = .int .i64 k ∧ lo ≤ lsG lo zs k ∧ risB (lsG lo zs k) c (zs.drop k) = risB lo c zs ∧ w = wr)
  case atStart => exact ⟨0, by omega, rfl, Int.le_refl _, rfl, rfl⟩
  case round =>
    obtain ⟨k, hg, rfl, hle, hr, rfl⟩ := hrel
    have HR := Lib.hid hr
    clear hr
    by_cases hlt : k < zs.length
    · have hki : (k : Int) < (zs.length : Int) := by omega
      obtain ⟨b, o, rfl, hcs⟩ := HA.out (by rintro rfl; simp at hlt)
      have hz := hcs k hlt
      rw [show zs.getD k 0 = zs[k] by simp [List.getD, hlt]] at hz
      have HN := Lib.hid (fun h => risB_no (l := lsG lo zs k) (c := c) hlt h)
      have HY := Lib.hid (fun h h2 => risB_yes (l := lsG lo zs k) (c := c) hlt h h2)
      have HX : Hid (lsG lo zs (k + 1) = zs[k] + 1) := by show _ = _; simp [lsG, List.getD, hlt]
      have HGK : Hid (zs.length - k - 1 < gk ∧ k + 1 + (zs.length - k - 1) = zs.length) := by show _ ∧ _; omega
      have HI := Lib.hid (fun (z : Int) w => l1In_any z lo (c - 1) w)
      generalize zs[k] = z at *
      cases hin : inB z lo (c - 1)
      · have HF : Hid (risB lo c zs = false) := by
          show _ = _
          rw [← HR.out]
          refine HN.out ?_
          apply Classical.byContradiction; intro h
          have : inB z lo (c - 1) = true := inB_true (by omega) (by omega)
          rw [this] at hin; cases hin
        have HIz := Lib.hid (HI.out z)
        rw [hin] at HIz
        clear hin HI hcs hg
        go_wp2_with fail
        refine (HIz.out _).mono ?_
        rintro e w' ⟨rfl, rfl⟩
        go_wp2_with fail
        go_ret
        exact ⟨ret_bool' HF.out.symm, rfl⟩
      · have hi : lo ≤ z ∧ z ≤ c - 1 := by simpa [inB] using hin
        obtain ⟨hi1, hi2⟩ := hi
        have HIz := Lib.hid (HI.out z)
        rw [hin] at HIz
        clear hin HI
        rcases k with _ | j
        · have HG : Hid (risB (lsG lo zs 1) c (zs.drop 1) = risB lo c zs ∧ lo ≤ lsG lo zs 1) := by
            show _ ∧ _
            rw [HX.out]
            exact ⟨by rw [← HR.out]; exact (HY.out hi1 (by omega)).symm, by omega⟩
          rw [Nat.add_zero] at hz
          clear hcs HY HN HX hg
          go_wp2_with fail
          refine (HIz.out _).mono ?_
          rintro e w' ⟨rfl, rfl⟩
          go_wp2_with fail
          go_roundg (zs.length - 0 - 1)
          case measure => exact HGK.out.1
          case rel => exact ⟨1, HGK.out.2, by go_num, HG.out.2, HG.out.1, rfl⟩
        · have hy := hcs j (by omega)
          have hbo : zs.getD j 0 = lsG lo zs (j + 1) - 1 := by simp [lsG]
          rw [hbo] at hy
          have hjn : (j : Int) < (zs.length : Int) := by omega
          have HG : Hid (lsG lo zs (j + 1) ≤ z → risB (lsG lo zs (j + 1 + 1)) c (zs.drop (j + 1 + 1)) = risB lo c zs ∧ lo ≤ lsG lo zs (j + 1 + 1)) := fun h => by
            rw [HX.out]
            exact ⟨by rw [← HR.out]; exact (HY.out h (by omega)).symm, by omega⟩
          have HF : Hid (z < lsG lo zs (j + 1) → risB lo c zs = false) := fun h => by rw [← HR.out]; exact HN.out (Or.inl h)
          have hjk : (j : Int) + 1 - 1 = (j : Int) := by omega
          generalize lsG lo zs (j + 1) = y at *
          clear hcs HY HN HX hbo hg HR
          by_cases hzy : y ≤ z
          · have hyz : ¬ z ≤ y - 1 := by omega
            have HG' := Lib.hid (HG.out hzy)
            clear HG HF
            go_wp2_with fail
            refine (HIz.out _).mono ?_
            rintro e w' ⟨rfl, rfl⟩
            go_wp2_with fail
            go_roundg (zs.length - (j + 1) - 1)
            case measure => exact HGK.out.1
            case rel => exact ⟨j + 1 + 1, HGK.out.2, by go_num, HG'.out.2, HG'.out.1, rfl⟩
          · have hyz : z ≤ y - 1 := by omega
            have HF' := Lib.hid (HF.out (by omega))
            clear HG HF
            go_wp2_with fail
            refine (HIz.out _).mono ?_
            rintro e w' ⟨rfl, rfl⟩
            go_wp2_with fail
            go_ret
            exact ⟨ret_bool' HF'.out.symm, rfl⟩
    · obtain rfl : k = zs.length := by omega
      have hki : ¬ (zs.length : Int) < (zs.length : Int) := by omega
      have HE : Hid (risB lo c zs = true) := by show _ = _; rw [← HR.out, List.drop_of_length_le (Nat.le_refl _)]; rfl
      clear hg
      go_wp2_with fail
      go_ret
      exact ⟨ret_bool' HE.out.symm, rfl⟩
end Go.Proofs.Ytbegikjoialahaa
