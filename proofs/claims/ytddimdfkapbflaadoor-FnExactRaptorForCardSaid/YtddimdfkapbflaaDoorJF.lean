/-
  The model of chapter 5: l1Has, l1Put, l5Degree, DegreeOf, l5Parts, PartsOf.
-/
import Derived.Test.YtddimdfkapbflaaDoorMF
import Derived.Test.YtddimdfkapbflaaDoorU3
import Derived.Deep.LoopGhost
namespace Go.Proofs.YtddimdfkapbflaaDoor
open Go.RowKit

theorem jAlloc1f (w : World) : Below w.heap.size w (w.alloc (.cells #[] 3)) := (Below.refl _ w).alloc (Nat.le_refl _) _
theorem has_zI (L : List Nat) (k : Nat) : decide ((k : Int) ∈ zI L) = decide (k ∈ L) := by
  congr 1
  simp only [zI, List.mem_map, eq_iff_iff]
  constructor
  · rintro ⟨a, ha, e⟩
    obtain rfl : a = k := by omega
    exact ha
  · intro h; exact ⟨k, h, rfl⟩
theorem has_take {zs : List Int} {n : Int} {k : Nat} (hk : k < zs.length) (h : n ∉ zs.take k) (h2 : (zs[k] == n) = false) : n ∉ zs.take (k + 1) := by
  rw [List.take_succ_eq_append_getElem hk, List.mem_append, not_or]
  refine ⟨h, fun hm => ?_⟩
  rw [List.mem_singleton] at hm
  subst hm
  simp at h2

set_option maxRecDepth 100000 in
set_option maxHeartbeats 400000 in
theorem sHas (A : Option Addr) (zs : List Int) (ca : Nat) (n : Int) (w : World) (ha : Ints w A zs) (hl : zs.length ≤ 1048576) :
    Calls Tryd.prog 35 #[.slice A zs.length ca, .int .i64 n] w fun e w' => e = .returned (.bool (decide (n ∈ zs))) ∧ w = w' := by
  have HA := Lib.hid ha
  clear ha
  go_enter Tryd.func35, Tryd.ntmps35
  go_wp2_with fail
  go_loopg [9] zs.length (fun gk i wr => ∃ k : Nat, k + gk = zs.length ∧ i = .int .i64 k ∧ n ∉ zs.take k ∧ w = wr)
  case atStart => exact ⟨0, by omega, rfl, by simp, rfl⟩
  case round =>
    obtain ⟨k, hg, rfl, hno, rfl⟩ := hrel
    have HNo := Lib.hid hno
    clear hno
    by_cases hlt : k < zs.length
    · have hki : (k : Int) < (zs.length : Int) := by omega
      obtain ⟨b3, o3, rfl, hc3⟩ := HA.out (by rintro rfl; simp at hlt)
      have hcz := hc3 k hlt
      rw [show zs.getD k 0 = zs[k] by simp [List.getD, hlt]] at hcz
      have HM := Lib.hid (List.getElem_mem hlt)
      have HT := Lib.hid (fun h => has_take hlt HNo.out h)
      have HGK : Hid (zs.length - k - 1 < gk ∧ k + 1 + (zs.length - k - 1) = zs.length) := by show _ ∧ _; omega
      clear hc3 hg
      generalize zs[k] = z at *
      cases hq : (z == n)
      · have HN := Lib.hid (HT.out hq)
        go_wp2_with fail
        go_roundg (zs.length - k - 1)
        case measure => exact HGK.out.1
        case rel => exact ⟨k + 1, HGK.out.2, by go_num, HN.out, rfl⟩
      · have HE : Hid (decide (n ∈ zs) = true) := by
          have e : z = n := by simpa using hq
          show _ = _
          rw [← e]
          simpa using HM.out
        go_wp2_with fail
        go_ret
        exact ⟨ret_bool' HE.out.symm, rfl⟩
    · obtain rfl : k = zs.length := by omega
      rw [List.take_length] at HNo
      have HE : Hid (decide (n ∈ zs) = false) := by show _ = _; simpa using HNo.out
      have hki : ¬ (zs.length : Int) < (zs.length : Int) := by omega
      go_wp2_with fail
      go_ret
      exact ⟨ret_bool' HE.out.symm, rfl⟩

/-- As app_many, the number of elements under a name of its own. -/
theorem app_cnt {ops : Array Oper} {rest : List Oper} {o : Oper} {a : Act} {Q : Exit → Act → World → Prop} (W : World) (base : Nat) (v : Value) (l : List Nat) (N : List Nat) (m : Nat) (hm : N.length = m) (b off c : Nat) (hgd : o.guard = none) (s x : Operand)
    (ho : o.op = .call { callee := .builtin .append, args := #[s, x], argTypes := #[22, 22] }) (hs : a.eval s = v) (hx : a.eval x = .slice (some ⟨b, off, none⟩) m c)
    (hc : ∀ j, j < N.length → W.cell? ⟨b, off + j, none⟩ = some (.int .i64 ((N.getD j 0 : Nat) : Int)))
    (hown : Own W base v (zI l)) (hbase : base ≤ W.heap.size) (hlen : l.length ≤ 1000000) (hlen2 : N.length ≤ 1000000) (w0 : World) (hb : Below base w0 W)
    (h : ∀ v' w', Hid (Own w' base v' (zI (l ++ N)) ∧ Below base w0 w' ∧ W.grownBy w' v.ownBlock) → wpList Tryd.prog ops Q rest (a.put o.dst v') w') :
    wpList Tryd.prog ops Q (o :: rest) a W := by
  subst hm
  exact app_many W base v l N b off c hgd s x ho hs hx hc hown hbase hlen hlen2 w0 hb h

set_option maxRecDepth 100000 in
set_option maxHeartbeats 1000000 in
theorem sPutL (v : Value) (N : List Nat) (n base : Nat) (w : World) (ho : Own w base v (zI N)) (hN : n ∉ N) (hl : N.length ≤ 1000) :
    Calls Tryd.prog 36 #[v, .int .i64 n] w fun e w' => ∃ v', e = .returned v' ∧ Own w' w.heap.size v' (zI (putL N n)) ∧ Below w.heap.size w w' := by
  by_cases h0 : N = []
  · subst h0
    exact sPut v [] n base w ho (fun x hx => by cases hx) (by simp) (fun x hx => by cases hx)
  · rcases ho.2 with ⟨rfl, hn0⟩ | ⟨g, cap, cur, rfl, hg, hcur, hle, hmax, hsz, htk⟩
    · exact absurd (List.eq_nil_of_length_eq_zero (by rw [← zI_length]; exact hn0)) h0
    · have hcell : ∀ j, j < N.length → w.cell? ⟨g, j, none⟩ = some (.int .i64 ((N.getD j 0 : Nat) : Int)) := by
        intro j hj
        have h3 : w.ownsRow base 3 1 (.slice (some ⟨g, 0, none⟩) N.length cap) N.length ((zI N).map (Value.int .i64)) := ownRow (by rw [zI_length] at ho; exact ho)
        rw [h3.cellAt j (by omega)]
        simp [zI, List.getD, hj]
      have hgl : g < w.heap.size := heap_lt hcur
      rw [zI_length]
      have HC := Lib.hid hcell
      have HO := Lib.hid (own_lit0 w)
      have HB := Lib.hid (jAlloc1f w)
      have hcap : N.length ≤ cap := by rw [zI_length] at hle; exact hle
      have HPut : Hid (∀ j, j ≤ N.length → (∀ i (h : i < N.length), i < j → N[i] < n) → (∀ h : j < N.length, ¬ N[j] < n) → putL N n = N.take j ++ n :: N.drop j) := fun j a b c => putL_at a b c
      clear ho hcur hle hmax hsz htk hcell
      go_enter Tryd.func36, Tryd.ntmps36
      go_wp2_with fail
      go_loopg [5] N.length (fun gk i wr => ∃ k : Nat, k + gk = N.length ∧ i = .int .i64 k ∧ (∀ i (h : i < N.length), i < k → N[i] < n) ∧ w = wr)
      case atStart => exact ⟨0, by omega, rfl, fun i _ h => by omega, rfl⟩
      case round =>
        obtain ⟨k, hgk, rfl, hall, rfl⟩ := hrel
        have HAll := Lib.hid hall
        clear hall
        by_cases hlt : k < N.length
        · have hki : (k : Int) < (N.length : Int) := by omega
          have hck := HC.out k hlt
          rw [show N.getD k 0 = N[k] by simp [List.getD, hlt]] at hck
          have hne : N[k] ≠ n := fun e => hN (by rw [← e]; exact List.getElem_mem hlt)
          have HGK : Hid (N.length - k - 1 < gk ∧ k + 1 + (N.length - k - 1) = N.length) := by show _ ∧ _; omega
          by_cases hkn : N[k] < n
          · have HN : Hid (∀ i (h : i < N.length), i < k + 1 → N[i] < n) := fun i h hi => by
              by_cases hik : i < k
              · exact HAll.out i h hik
              · obtain rfl : i = k := by omega
                exact hkn
            generalize N[k] = z at *
            have hzi : (z : Int) < (n : Int) := by omega
            go_wp2_with fail
            go_roundg (N.length - k - 1)
            case measure => exact HGK.out.1
            case rel => exact ⟨k + 1, HGK.out.2, by go_num, HN.out, rfl⟩
          · have HP := Lib.hid (HPut.out k (by omega) (fun i h hi => HAll.out i h hi) (fun _ => hkn))
            generalize N[k] = z at *
            have hzi : ¬ (z : Int) < (n : Int) := by omega
            have hze : ((z : Int) == (n : Int)) = false := by simp; omega
            have hkc : ¬ cap = k := by omega
            have hkc2 : k ≤ cap := by omega
            have HT : Hid ((N.take k).length = k) := by show _ = _; rw [List.length_take]; omega
            have HD : Hid ((N.drop k).length = N.length - k) := List.length_drop
            have HCt : Hid (∀ j, j < (N.take k).length → w.cell? ⟨g, 0 + j, none⟩ = some (.int .i64 (((N.take k).getD j 0 : Nat) : Int))) := fun j hj => by
              rw [HT.out] at hj
              rw [Nat.zero_add, HC.out j (by omega)]
              simp [List.getD, hj]
            have HCd : Hid (∀ j, j < (N.drop k).length → w.cell? ⟨g, k + j, none⟩ = some (.int .i64 (((N.drop k).getD j 0 : Nat) : Int))) := fun j hj => by
              rw [HD.out] at hj
              rw [HC.out (k + j) (by omega)]
              simp [List.getD]
            clear hgk
            go_wp2_with (at_builtin; refine app_cnt (w.alloc (.cells #[] 3)) w.heap.size _ [] (N.take k) k HT.out g 0 cap rfl _ _ rfl rfl rfl (fun j hj => ((HB.out).cell hgl).trans (HCt.out j hj)) HO.out (by simp) (by simp) (by rw [HT.out]; omega) w HB.out ?_)
            intro v1 w1 H1
            have hs1 := H1.out.2.1.size
            go_wp2_with (at_builtin; refine app_law w1 w.heap.size _ (N.take k) n rfl _ _ rfl rfl rfl H1.out.1 hs1 (by rw [HT.out]; omega) w H1.out.2.1 ?_)
            intro v2 w2 H2
            have hs2 := H2.out.2.1.size
            go_wp2_with (at_builtin; refine app_cnt w2 w.heap.size _ (N.take k ++ [n]) (N.drop k) (N.length - k) HD.out g k (cap - k) rfl _ _ rfl rfl rfl (fun j hj => (H2.out.2.1.cell hgl).trans (HCd.out j hj)) H2.out.1 hs2 (by rw [List.length_append, HT.out]; simp; omega) (by rw [HD.out]; omega) w H2.out.2.1 ?_)
            intro v3 w3 H3
            go_wp2_with fail
            go_ret
            refine ⟨_, rfl, ?_, H3.out.2.1⟩
            rw [HP.out]
            have := H3.out.1
            simpa [List.append_assoc] using this
        · obtain rfl : k = N.length := by omega
          have hki : ¬ (N.length : Int) < (N.length : Int) := by omega
          have HP := Lib.hid (HPut.out N.length (Nat.le_refl _) (fun i h hi => HAll.out i h hi) (fun h => by omega))
          rw [List.take_length, List.drop_length] at HP
          have HCt : Hid (∀ j, j < N.length → w.cell? ⟨g, 0 + j, none⟩ = some (.int .i64 ((N.getD j 0 : Nat) : Int))) := fun j hj => by rw [Nat.zero_add]; exact HC.out j hj
          clear hgk
          by_cases hkc : N.length = cap
          · subst hkc
            go_wp2_with (at_builtin; refine app_cnt (w.alloc (.cells #[] 3)) w.heap.size _ [] N N.length rfl g 0 N.length rfl _ _ rfl rfl rfl (fun j hj => ((HB.out).cell hgl).trans (HCt.out j hj)) HO.out (by simp) (by simp) (by omega) w HB.out ?_)
            intro v1 w1 H1
            have hs1 := H1.out.2.1.size
            go_wp2_with (at_builtin; refine app_law w1 w.heap.size _ N n rfl _ _ rfl rfl rfl H1.out.1 hs1 (by omega) w H1.out.2.1 ?_)
            intro v2 w2 H2
            have hs2 := H2.out.2.1.size
            go_wp2_with (at_builtin; refine app_cnt w2 w.heap.size _ (N ++ [n]) [] 0 rfl g 0 0 rfl _ _ rfl rfl rfl (fun j hj => by simp at hj) H2.out.1 hs2 (by rw [List.length_append]; simp; omega) (by simp) w H2.out.2.1 ?_)
            intro v3 w3 H3
            go_wp2_with fail
            go_ret
            refine ⟨_, rfl, ?_, H3.out.2.1⟩
            rw [HP.out]
            have := H3.out.1
            simpa using this
          · have hkc2 : N.length < cap := by omega
            have hz : N.length - N.length = 0 := by omega
            go_wp2_with (at_builtin; refine app_cnt (w.alloc (.cells #[] 3)) w.heap.size _ [] N N.length rfl g 0 cap rfl _ _ rfl rfl rfl (fun j hj => ((HB.out).cell hgl).trans (HCt.out j hj)) HO.out (by simp) (by simp) (by omega) w HB.out ?_)
            intro v1 w1 H1
            have hs1 := H1.out.2.1.size
            go_wp2_with (at_builtin; refine app_law w1 w.heap.size _ N n rfl _ _ rfl rfl rfl H1.out.1 hs1 (by omega) w H1.out.2.1 ?_)
            intro v2 w2 H2
            have hs2 := H2.out.2.1.size
            go_wp2_with (at_builtin; refine app_cnt w2 w.heap.size _ (N ++ [n]) [] 0 rfl g N.length (cap - N.length) rfl _ _ rfl rfl rfl (fun j hj => by simp at hj) H2.out.1 hs2 (by rw [List.length_append]; simp; omega) (by simp) w H2.out.2.1 ?_)
            intro v3 w3 H3
            go_wp2_with fail
            go_ret
            refine ⟨_, rfl, ?_, H3.out.2.1⟩
            rw [HP.out]
            have := H3.out.1
            simpa using this
end Go.Proofs.YtddimdfkapbflaaDoor
