/-
  The program's chapter 5: solve, AddUp.
-/
import Derived.Test.YtdoogleggdlddaaDoorEA
namespace Go.Proofs.YtdoogleggdlddaaDoor
open Go.RowKit Go.Maps

def solOkB (n : Nat) (R : List Nat) : Bool := decide (R.length ≤ 20) && decide (rank R = n)
def solI (n : Nat) (R Sm : List Nat) : List Int := if solOkB n R = true then zI (solveL n R Sm) else []
theorem sol_yes {n : Nat} {R : List Nat} (Sm : List Nat) (h : solOkB n R = true) : solI n R Sm = zI (solveL n R Sm) := by rw [solI, if_pos h]
theorem sol_no {n : Nat} {R : List Nat} (Sm : List Nat) (h : solOkB n R = false) : solI n R Sm = [] := by rw [solI, h]; rfl
theorem tupS {v : Value} {c d : Bool} (k : c = d) : Ending.returned (.tuple #[v, .bool c]) = .returned (.tuple #[v, .bool d]) := by rw [k]
theorem solOk_can {n k : Nat} {R : List Nat} (hn1 : 1 ≤ n) (hn8 : n ≤ 8) (hk : k < n) (hR : ∀ r ∈ R, r < 2 ^ n) (h : solOkB n R = true) : canI (n : Int) (zI R) ((2 ^ k : Nat) : Int) = true := by
  obtain ⟨h1, h2⟩ : R.length ≤ 20 ∧ rank R = n := by simpa [solOkB] using h
  exact rows_twoOk hn1 hn8 hk h1 hR (full_span hR h2 k hk)
theorem solOk_of {n : Nat} {R : List Nat} (hn1 : 1 ≤ n) (hR : ∀ r ∈ R, r < 2 ^ n) (h : ∀ k, k < n → canI (n : Int) (zI R) ((2 ^ k : Nat) : Int) = true) : solOkB n R = true := by
  have hl : R.length ≤ 20 := by
    have := h 0 (by omega)
    simp only [canI, twoOkB, rowsB, Bool.and_eq_true, decide_eq_true_eq] at this
    have h2 := this.1.1.2.1
    rwa [zI_length] at h2
  have hs : ∀ k, k < n → Sp R (2 ^ k) := fun k hk => by
    have := h k hk
    rw [canI, Bool.and_eq_true, nL_zI, Int.toNat_natCast] at this
    exact (canB_iff R _).1 this.2
  simp [solOkB, hl, rank_full hR hs]

theorem Lets.snd {w : World} {A : Option Addr} {L : List (Nat × Nat)} (h : Lets w A (intL L)) {j : Nat} (hj : j < L.length) :
    ∃ b o, A = some ⟨b, o, none⟩ ∧ w.cell? ⟨b, o + j * 2 + 1, none⟩ = some (.int .i64 (L[j].2 : Nat)) := by
  have hl := intL_length L
  obtain ⟨b, o, e, hc⟩ := h (by intro e; rw [e] at hl; simp at hl; omega)
  have := (hc j (by omega)).2
  rw [intL_at] at this
  exact ⟨b, o, e, this⟩

set_option maxRecDepth 100000 in
set_option maxHeartbeats 2000000 in
theorem iSolve (n : Nat) (A B : Option Addr) (R : List Nat) (L : List (Nat × Nat)) (ca cb : Nat) (w : World) (ht : Tab w) (ha : Ints w A (zI R)) (hb : Lets w B (intL L)) (hn1 : 1 ≤ n) (hn8 : n ≤ 8) (hl : R.length ≤ 40) (hls : L.length = R.length) (hR : ∀ r ∈ R, r < 2 ^ n) (hS : ∀ x ∈ L, x.2 < 2 ^ 32) :
    Calls Tryd.prog 55 #[.int .i64 n, .slice A R.length ca, .slice B L.length cb] w fun e w' => ∃ v, e = .returned (.tuple #[v, .bool (solOkB n R)]) ∧ Own w' w.heap.size v (solI n R (L.map Prod.snd)) ∧ Below w.heap.size w w' := by
  have HA := Lib.hid ha
  have HB := Lib.hid hb
  have HTb := Lib.hid ht
  have HOk1 := Lib.hid (fun (h : solOkB n R = true) k hk => solOk_can (k := k) hn1 hn8 hk hR h)
  have HOk2 := Lib.hid (solOk_of (R := R) hn1 hR)
  have HS := Lib.hid hS
  have HLs := Lib.hid hls
  have HSm : Hid (∀ s ∈ L.map Prod.snd, s < 2 ^ 32) := fun s hs => by obtain ⟨x, hx, rfl⟩ := List.mem_map.1 hs; exact hS x hx
  clear ha hb ht hR hS hls
  go_enter Tryd.func55, Tryd.ntmps55
  go_wp2_with fail
  go_loopg [8, 16] n (fun gk v i wr => ∃ k : Nat, k + gk = n ∧ i = .int .i64 k ∧ Own wr w.heap.size v (zI (solveL k R (L.map Prod.snd))) ∧ (∀ j, j < k → canI (n : Int) (zI R) ((2 ^ j : Nat) : Int) = true) ∧ Below w.heap.size w wr)
  case atStart => exact ⟨0, by omega, rfl, Own.nil _ _, fun j hj => by omega, Below.refl _ _⟩
  case round =>
    obtain ⟨k, hg, rfl, hown, hcan, hbel⟩ := hrel
    have HO := Lib.hid hown
    have HCan := Lib.hid hcan
    have HBl := Lib.hid hbel
    clear hown hbel hcan
    by_cases hlt : k < n
    · have hki : (k : Int) < (n : Int) := by omega
      have hck := HTb.out.below HBl.out k (by omega)
      have HMa := Lib.hid (iMake_any (n : Int) A (zI R) ca ((2 ^ k : Nat) : Int) wr (HTb.out.below HBl.out) (HA.out.below HBl.out) (by rw [zI_length]; omega))
      cases hc : canI (n : Int) (zI R) ((2 ^ k : Nat) : Int)
      · have HE : Hid (solOkB n R = false) := by
          show _ = _
          cases hq : solOkB n R with
          | false => rfl
          | true => have := HOk1.out hq k hlt; rw [hc] at this; cases this
        rw [hc, makeI_no hc, zI_length, show ((2 ^ k : Nat) : Int) = (2 : Int) ^ k by simp] at HMa
        clear hc
        go_wp2_with fail
        refine HMa.out.mono ?_
        rintro e w2 ⟨v2, rfl, ho2, hb2⟩
        obtain ⟨A2, c2, rfl, _⟩ := ho2.form
        have HB2 := Lib.hid (below_more HBl.out hb2)
        clear ho2 hb2 HMa
        go_wp2_with fail
        go_ret2
        exact ⟨_, tupS HE.out.symm, by rw [sol_no _ HE.out]; exact Own.nil _ _, HB2.out⟩
      · have HCan2 : Hid (∀ j, j < k + 1 → canI (n : Int) (zI R) ((2 ^ j : Nat) : Int) = true) := fun j hj => by
          by_cases e : j = k
          · subst e; exact hc
          · exact HCan.out j (by omega)
        rw [hc, makeI_ok hc, zI_length, show ((2 ^ k : Nat) : Int) = (2 : Int) ^ k by simp] at HMa
        have HSn := Lib.hid (solve_snoc R (L.map Prod.snd) k)
        have HSl := Lib.hid (solve_length k R (L.map Prod.snd))
        have HIl := Lib.hid (idxL_lt (m := mkM R R.length (2 ^ k)) (k := R.length))
        have hil := idxL_len (mkM R R.length (2 ^ k)) R.length
        have HGK : Hid (n - k - 1 < gk ∧ k + 1 + (n - k - 1) = n) := by show _ ∧ _; omega
        clear hg hc
        generalize idxL (mkM R R.length (2 ^ k)) R.length = K at *
        generalize solveL k R (L.map Prod.snd) = SL at *
        go_wp2_with fail
        refine HMa.out.mono ?_
        rintro e w2 ⟨v2, rfl, ho2, hb2⟩
        obtain ⟨A2, c2, rfl, hI2⟩ := ho2.form
        rw [zI_length]
        have HI2 := Lib.hid hI2
        have HB2 := Lib.hid (below_more HBl.out hb2)
        have HO2 := Lib.hid (HO.out.below hb2)
        have hs2 := HB2.out.size
        clear ho2 hb2 hI2 HMa HO
        go_wp2_with fail
        go_loopg [12, 32] K.length (fun g3 s i wx => ∃ t : Nat, t + g3 = K.length ∧ i = .int .i64 t ∧ s = .int .i64 (sumN (L.map Prod.snd) (K.take t) : Nat) ∧ w2 = wx)
        case atStart => exact ⟨0, by omega, rfl, rfl, rfl⟩
        case round =>
          obtain ⟨t, hg3, rfl, rfl, rfl⟩ := hrel
          by_cases hlt3 : t < K.length
          · have hti : (t : Int) < (K.length : Int) := by omega
            obtain ⟨b5, o5, rfl, hc5⟩ := HI2.out.cellN hlt3
            have hqn : K[t] < L.length := by rw [HLs.out]; exact HIl.out K[t] (List.getElem_mem hlt3)
            have HSs := Lib.hid (sumN_snoc (R := L.map Prod.snd) hlt3)
            have hs32 := sumN_lt (K := K.take t) HSm.out
            have HGK3 : Hid (K.length - t - 1 < gk ∧ t + 1 + (K.length - t - 1) = K.length) := by show _ ∧ _; omega
            generalize K[t] = q at *
            obtain ⟨b6, o6, rfl, hc6⟩ := (HB.out.below HB2.out).snd hqn
            have hy32 := HS.out L[q] (List.getElem_mem hqn)
            rw [show (L.map Prod.snd).getD q 0 = L[q].2 by simp [List.getD, hqn]] at HSs
            generalize L[q].2 = y at *
            generalize sumN (L.map Prod.snd) (K.take t) = s at *
            have hx := xor_i64 s y (by omega) (by omega)
            have hqi : (q : Int) < (L.length : Int) := by omega
            clear hg3
            go_wp2_with fail
            go_roundg (K.length - t - 1)
            case measure => exact HGK3.out.1
            case rel => exact ⟨t + 1, HGK3.out.2, by go_num, by rw [HSs.out], rfl⟩
          · obtain rfl : t = K.length := by omega
            rw [List.take_length]
            have hti : ¬ (K.length : Int) < (K.length : Int) := by omega
            generalize sumN (L.map Prod.snd) K = s at *
            go_wp2_with (at_builtin; refine app_law w2 w.heap.size _ SL s rfl _ _ rfl rfl rfl HO2.out hs2 (by have := HSl.out; omega) w HB2.out ?_)
            intro v' w' H'
            go_wp2_with fail
            go_roundg (n - k - 1)
            case measure => exact HGK.out.1
            case rel => exact ⟨k + 1, HGK.out.2, by go_num, by rw [HSn.out]; exact H'.out.1, HCan2.out, H'.out.2.1⟩
    · obtain rfl : k = n := by omega
      have HE := Lib.hid (HOk2.out HCan.out)
      have hki : ¬ (k : Int) < (k : Int) := by omega
      obtain ⟨A3, c3, rfl, _⟩ := HO.out.form
      go_wp2_with fail
      go_ret2
      exact ⟨_, tupS HE.out.symm, by rw [sol_yes _ HE.out]; exact HO.out, HBl.out⟩

end Go.Proofs.YtdoogleggdlddaaDoor
