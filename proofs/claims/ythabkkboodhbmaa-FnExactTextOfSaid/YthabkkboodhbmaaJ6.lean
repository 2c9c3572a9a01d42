/-
  The laws' helpers on blocks: markBlockS, heldBlockS.
-/
import Derived.Test.YthabkkboodhbmaaJ5
namespace Go.Proofs.Ythabkkboodhbmaa
open Go.RowKit

def markL : Int → List (Int × Value × List Int) → List (Int × Value × List Int)
  | _, [] => []
  | k, p :: L => (k, p.2.1, marks (k + 1) p.2.2.length) :: markL (k + 1 + p.2.2.length) L
def markE : Int → List (Int × Value × List Int) → Int
  | k, [] => k
  | k, p :: L => markE (k + 1 + p.2.2.length) L
theorem markL_length : ∀ (k : Int) (L : List (Int × Value × List Int)), (markL k L).length = L.length
  | _, [] => rfl
  | k, p :: L => by rw [markL, List.length_cons, markL_length, List.length_cons]
theorem markL_snoc : ∀ (k : Int) (L : List (Int × Value × List Int)) (p : Int × Value × List Int), markL k (L ++ [p]) = markL k L ++ [(markE k L, p.2.1, marks (markE k L + 1) p.2.2.length)]
  | _, [], _ => rfl
  | k, q :: L, p => by rw [List.cons_append, markL, markL_snoc _ L p, markL, markE]; rfl
theorem markE_snoc : ∀ (k : Int) (L : List (Int × Value × List Int)) (p : Int × Value × List Int), markE k (L ++ [p]) = markE k L + 1 + p.2.2.length
  | _, [], _ => rfl
  | k, q :: L, p => by rw [List.cons_append, markE, markE_snoc _ L p, markE]
theorem markE_bd : ∀ (k : Int) (L : List (Int × Value × List Int)), (∀ p ∈ L, p.2.2.length ≤ 1000) → k ≤ markE k L ∧ markE k L ≤ k + 1001 * L.length
  | k, [], _ => ⟨Int.le_refl _, by simp [markE]⟩
  | k, p :: L, h => by
    have h1 := markE_bd (k + 1 + p.2.2.length) L (fun q hq => h q (List.mem_cons_of_mem _ hq))
    have h2 := h p (List.mem_cons_self ..)
    rw [markE, List.length_cons]
    omega
theorem markL_at : ∀ (k : Int) (L : List (Int × Value × List Int)) (j : Nat) (h : j < (markL k L).length) (h' : j < L.length), (markL k L)[j] = (markE k (L.take j), L[j].2.1, marks (markE k (L.take j) + 1) L[j].2.2.length)
  | k, p :: L, 0, _, _ => rfl
  | k, p :: L, j + 1, h, h' => by
    have := markL_at (k + 1 + p.2.2.length) L j (by simp [markL] at h; omega) (by simp at h'; omega)
    simp only [markL, List.getElem_cons_succ, List.take_succ_cons, markE]
    exact this
theorem mid_set {α : Type} (M D : List α) (x y : α) : (M ++ x :: D).set M.length y = M ++ [y] ++ D := by simp
theorem mark_mid {L : List (Int × Value × List Int)} {j : Nat} (hj : j < L.length) (k : Int) : markL k (L.take j) ++ L.drop j = markL k (L.take j) ++ L[j] :: L.drop (j + 1) := by
  rw [List.drop_eq_getElem_cons hj]
theorem take_length' {L : List (Int × Value × List Int)} {j : Nat} (hj : j < L.length) (k : Int) : (markL k (L.take j)).length = j := by
  rw [markL_length, List.length_take]; omega

theorem mark_step {w : World} {base g n cap : Nat} {L : List (Int × Value × List Int)} {k : Int} {j : Nat} (hj : j < L.length) (h : OwnB w base (.slice (some ⟨g, 0, none⟩) n cap) (markL k (L.take j) ++ L.drop j)) :
    ∃ A c, (∃ u0, w.cell? ⟨g, j * 2, none⟩ = some u0) ∧ w.frozen? ⟨g, j * 2, none⟩ = false ∧
      (w.setCell ⟨g, j * 2, none⟩ (.int .i64 (markE k (L.take j)))).cell? ⟨g, j * 2 + 1, none⟩ = some (.slice A L[j].2.2.length c) ∧
      Own (w.setCell ⟨g, j * 2, none⟩ (.int .i64 (markE k (L.take j)))) base (.slice A L[j].2.2.length c) L[j].2.2 ∧ w.grownBy (w.setCell ⟨g, j * 2, none⟩ (.int .i64 (markE k (L.take j)))) (some g) ∧
      ∀ w2, (w.setCell ⟨g, j * 2, none⟩ (.int .i64 (markE k (L.take j)))).grownBy w2 (Value.slice A L[j].2.2.length c).ownBlock → Own w2 base (.slice A L[j].2.2.length c) (marks (markE k (L.take j) + 1) L[j].2.2.length) →
        OwnB w2 base (.slice (some ⟨g, 0, none⟩) n cap) (markL k (L.take (j + 1)) ++ L.drop (j + 1)) := by
  have hm := mark_mid hj k
  have hml := take_length' hj k
  have hMl : j < (markL k (L.take j) ++ L.drop j).length := by rw [hm, List.length_append, hml, List.length_cons]; omega
  have hMj : (markL k (L.take j) ++ L.drop j)[j] = L[j] := by
    rw [List.getElem_of_eq hm hMl, List.getElem_append_right (by omega)]
    simp [hml]
  have hOj := h.2.1 _ (List.getElem_mem hMl)
  rw [hMj] at hOj
  obtain ⟨A, c, e, hI⟩ := hOj.form
  have hn : n = (markL k (L.take j) ++ L.drop j).length := by
    rcases h.1.2 with ⟨e, _⟩ | ⟨g', cap', cur', e, _⟩
    · cases e
    · injection e with _ e2 _
  subst hn
  obtain ⟨hs, hg⟩ := h.store hMl (markE k (L.take j))
  rw [hMj] at hs
  have hSl : j < ((markL k (L.take j) ++ L.drop j).set j (markE k (L.take j), L[j].2.1, L[j].2.2)).length := by rw [List.length_set]; exact hMl
  have hSj : ((markL k (L.take j) ++ L.drop j).set j (markE k (L.take j), L[j].2.1, L[j].2.2))[j] = (markE k (L.take j), L[j].2.1, L[j].2.2) := by rw [List.getElem_set]; simp
  have hsl : ((markL k (L.take j) ++ L.drop j).set j (markE k (L.take j), L[j].2.1, L[j].2.2)).length = (markL k (L.take j) ++ L.drop j).length := List.length_set
  refine ⟨A, c, ⟨_, (h.1.cellAt (j * 2) (by omega)).trans (cellsB_at _ j hMl).1⟩, h.1.frozenAt _, ?_, ?_, hg, fun w2 hg2 ho2 => ?_⟩
  · have h1 := hs.1
    rw [hsl] at h1
    have h2 := (cellsB_at _ j hSl).2
    rw [hSj] at h2
    exact (h1.cellAt (j * 2 + 1) (by omega)).trans (h2.trans (congrArg some e))
  · have := hs.2.1 _ (List.getElem_mem hSl)
    rw [hSj, e] at this
    exact this
  · have h3 := hs.row hSl (zs := marks (markE k (L.take j) + 1) L[j].2.2.length) (w' := w2) (by rw [hSj, e]; exact hg2) (by rw [hSj, e]; exact ho2)
    rw [hSj, List.set_set] at h3
    have e3 : (markL k (L.take j) ++ L.drop j).set j (markE k (L.take j), L[j].2.1, marks (markE k (L.take j) + 1) L[j].2.2.length) = markL k (L.take (j + 1)) ++ L.drop (j + 1) := by
      rw [hm]
      have := mid_set (markL k (L.take j)) (L.drop (j + 1)) L[j] (markE k (L.take j), L[j].2.1, marks (markE k (L.take j) + 1) L[j].2.2.length)
      rw [hml] at this
      rw [this, List.take_succ_eq_append_getElem hj, markL_snoc]
    rw [e3] at h3
    exact h3

set_option maxRecDepth 100000 in
set_option maxHeartbeats 1000000 in
theorem markBlockS_any (v : Value) (L : List (Int × Value × List Int)) (base : Nat) (k : Int) (w : World) (ho : OwnB w base v L) (hbase : base ≤ w.heap.size) (hl : L.length ≤ 1000) (hz : ∀ p ∈ L, p.2.2.length ≤ 1000) (h1 : 0 ≤ k) (h2 : k ≤ 1000000) :
    Calls Try.prog 40 #[v, .int .i64 k] w fun e w' => e = .returned (.int .i64 (markE k L)) ∧ OwnB w' base v (markL k L) ∧ Below base w w' := by
  rcases ho.1.2 with ⟨rfl, hn0⟩ | ⟨g, cap, cur, rfl, hb, _, _⟩
  · obtain rfl := List.eq_nil_of_length_eq_zero hn0
    clear hn0 hl hz
    have HO := Lib.hid ho
    clear ho
    go_enter Try.func40, Try.ntmps40
    go_wp2_with fail
    refine wp_loop_rounds 1 ?_
    rw [rounds_succ]
    go_wp2_with fail
    go_ret
    exact ⟨rfl, HO.out, Below.refl _ _⟩
  · have HO := Lib.hid ho
    have HZ := Lib.hid hz
    clear ho hz
    go_enter Try.func40, Try.ntmps40
    go_wp2_with fail
    go_loopg [1, 5] L.length (fun gk q i wr => ∃ j : Nat, j + gk = L.length ∧ i = .int .i64 j ∧ q = .int .i64 (markE k (L.take j)) ∧ OwnB wr base (.slice (some ⟨g, 0, none⟩) L.length cap) (markL k (L.take j) ++ L.drop j) ∧ Below base w wr)
    case atStart => exact ⟨0, by omega, rfl, rfl, HO.out, Below.refl _ _⟩
    case round =>
      obtain ⟨j, hg, rfl, rfl, hown, hbel⟩ := hrel
      have HB := Lib.hid hbel
      have hbs := Nat.le_trans hbase hbel.size
      by_cases hlt : j < L.length
      · have hji : (j : Int) < (L.length : Int) := by omega
        obtain ⟨A, c, ⟨u0, hc0⟩, hf, hc1, ho1, hg1, hnext⟩ := mark_step hlt hown
        have hbd := markE_bd k (L.take j) (fun p hp => HZ.out p (List.mem_of_mem_take hp))
        have hzl := HZ.out L[j] (List.getElem_mem hlt)
        have HE : Hid (markE k (L.take (j + 1)) = markE k (L.take j) + 1 + L[j].2.2.length) := by show _ = _; rw [List.take_succ_eq_append_getElem hlt, markE_snoc]
        have hlt2 : (L.take j).length ≤ 1000 := by rw [List.length_take]; omega
        have HO1 := Lib.hid ho1
        have HNx := Lib.hid hnext
        have HGK : Hid (L.length - j - 1 < gk ∧ j + 1 + (L.length - j - 1) = L.length) := by show _ ∧ _; omega
        have HB1 : Hid (Below base w (wr.setCell ⟨g, j * 2, none⟩ (.int .i64 (markE k (L.take j))))) := HB.out.grown hg1 hbs (fun k hk => by injection hk with hk; omega)
        have hs1 : base ≤ (wr.setCell ⟨g, j * 2, none⟩ (.int .i64 (markE k (L.take j)))).heap.size := by simp; exact hbs
        clear hown hbel ho1 hnext hg hg1
        generalize L[j].2.2 = zs at *
        generalize markE k (L.take j) = K at *
        have hK0 : 0 ≤ K := by omega
        have hK1 : K ≤ 10000000 := by omega
        clear hbd
        go_wp2_with fail
        refine (markInts_any _ zs base (K + 1) _ HO1.out (by omega) (by omega) (by omega)).mono ?_
        rintro e w2 ⟨rfl, ho2, hg2⟩
        have HO2 := Lib.hid (HNx.out w2 hg2 ho2)
        have HB2 : Hid (Below base w w2) := HB1.out.grown hg2 hs1 (fun k hk => (HO1.out.lt k hk).1)
        clear ho2 hg2
        go_wp2_with fail
        go_roundg (L.length - j - 1)
        case measure => exact HGK.out.1
        case rel => exact ⟨j + 1, HGK.out.2, by go_num, by rw [HE.out], HO2.out, HB2.out⟩
      · obtain rfl : j = L.length := by omega
        have hji : ¬ (L.length : Int) < (L.length : Int) := by omega
        rw [List.take_length, List.drop_length, List.append_nil] at hown
        rw [List.take_length]
        have HOw := Lib.hid hown
        clear hown hbel
        go_wp2_with fail
        go_ret
        exact ⟨rfl, HOw.out, HB.out⟩

set_option maxRecDepth 100000 in
set_option maxHeartbeats 1000000 in
theorem heldBlockS_any (A : Option Addr) (L : List (Int × Value × List Int)) (c : Nat) (k : Int) (w : World) (ha : Blks w A (blks (markL k L))) (hl : L.length ≤ 1000) (hz : ∀ p ∈ L, p.2.2.length ≤ 1000) (h1 : 0 ≤ k) (h2 : k ≤ 1000000) :
    Calls Try.prog 41 #[.slice A L.length c, .int .i64 k] w fun e w' => e = .returned (.int .i64 (markE k L)) ∧ w = w' := by
  have HA := Lib.hid ha
  have HZ := Lib.hid hz
  clear ha hz
  go_enter Try.func41, Try.ntmps41
  go_wp2_with fail
  go_loopg [1, 5] L.length (fun gk q i wr => ∃ j : Nat, j + gk = L.length ∧ i = .int .i64 j ∧ q = .int .i64 (markE k (L.take j)) ∧ w = wr)
  case atStart => exact ⟨0, by omega, rfl, rfl, rfl⟩
  case round =>
    obtain ⟨j, hg, rfl, rfl, rfl⟩ := hrel
    by_cases hlt : j < L.length
    · have hji : (j : Int) < (L.length : Int) := by omega
      obtain ⟨b, o, rfl, hc⟩ := HA.out (by intro e; have := congrArg List.length e; rw [blks_length, markL_length, List.length_nil] at this; omega)
      obtain ⟨p1, A', c', p2, p3⟩ := hc j (by rw [blks_length, markL_length]; exact hlt)
      have eB : (blks (markL k L))[j]'(by rw [blks_length, markL_length]; exact hlt) = (markE k (L.take j), marks (markE k (L.take j) + 1) L[j].2.2.length) := by
        simp only [blks, List.getElem_map]
        rw [markL_at k L j (by rw [markL_length]; exact hlt) hlt]
      rw [eB] at p1 p2 p3
      rw [marks_length] at p2
      have hbd := markE_bd k (L.take j) (fun p hp => HZ.out p (List.mem_of_mem_take hp))
      have hzl := HZ.out L[j] (List.getElem_mem hlt)
      have HE : Hid (markE k (L.take (j + 1)) = markE k (L.take j) + 1 + L[j].2.2.length) := by show _ = _; rw [List.take_succ_eq_append_getElem hlt, markE_snoc]
      have hlt2 : (L.take j).length ≤ 1000 := by rw [List.length_take]; omega
      have HP3 := Lib.hid p3
      clear hc p3 eB
      generalize L[j].2.2.length = n at *
      generalize markE k (L.take j) = K at *
      have hK0 : 0 ≤ K := by omega
      have hK1 : K ≤ 10000000 := by omega
      have hne : (K != K) = false := by simp
      have hge : ¬ (K + 1 + (n : Int) < 0) := by omega
      clear hbd
      go_wp2_with fail
      refine (heldInts_any A' (K + 1) n c' _ HP3.out (by omega) (by omega) (by omega)).mono ?_
      rintro e w1 ⟨rfl, rfl⟩
      go_wp2_with fail
      go_roundg (L.length - j - 1)
      case measure => omega
      case rel => exact ⟨j + 1, by omega, by go_num, by rw [HE.out], rfl⟩
    · obtain rfl : j = L.length := by omega
      have hji : ¬ (L.length : Int) < (L.length : Int) := by omega
      rw [List.take_length]
      go_wp2_with fail
      go_ret
      exact ⟨rfl, rfl⟩
end Go.Proofs.Ythabkkboodhbmaa
