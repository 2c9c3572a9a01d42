/-
  KC: The model of chapter 7: InverseOf, ValueAt, PointsFor.
  KD: The model of chapter 7: GoodPoints, l7Enough, l7Agree, AgreeWith.
  KE: The model of chapter 7: l7Enough, l7Agree, AgreeWith.
  KF: The model of chapter 7: l7Times, l7From, FromPoints.
  KG: The model of chapter 7: l7From, FromPoints.
  KH: The model of chapter 7: FromPoints, ReadWrong.
-/
import Derived.Test.YtjifpedhncgieaaMK
import Derived.Test.YtjifpedhncgieaaHT

/- KC -/
namespace Go.Proofs.Ytjifpedhncgieaa
open Go.RowKit

def numB7 (z : Int) : Bool := inB z 0 256
def atB7 (z : Int) : Bool := inB z 0 15
def polB7 (zs : List Int) : Bool := inB (zs.length : Int) 1 8 && allIn zs 256
theorem pol_nat {zs : List Int} (h : polB7 zs = true) : ∃ P : List Nat, zs = zI P ∧ 1 ≤ P.length ∧ P.length ≤ 8 ∧ ∀ c ∈ P, c < 257 := by
  simp only [polB7, Bool.and_eq_true] at h
  obtain ⟨h1, h2⟩ := h
  have hp : 1 ≤ (zs.length : Int) ∧ (zs.length : Int) ≤ 8 := by simpa [inB] using h1
  have hz : ∀ z ∈ zs, 0 ≤ z ∧ z ≤ 256 := fun z hz => by
    have := List.all_eq_true.1 h2 z hz
    simpa [inB] using this
  refine ⟨zs.map Int.toNat, ?_, by simp; omega, by simp; omega, fun c hc => ?_⟩
  · unfold zI
    rw [List.map_map]
    conv => lhs; rw [← List.map_id zs]
    refine List.map_congr_left fun z hzm => ?_
    have := hz z hzm
    simp; omega
  · obtain ⟨z, hzm, rfl⟩ := List.mem_map.1 hc
    have := hz z hzm
    omega
set_option maxRecDepth 100000 in
set_option maxHeartbeats 400000 in
theorem sNum7 (n : Int) (w : World) : Calls Try.prog 51 #[.int .i64 n] w fun e w' => e = .returned (.bool (numB7 n)) ∧ w = w' := by
  go_enter Try.func51, Try.ntmps51
  go_wp2_with (go_at_call 43; refine (l1In_any _ _ _ _).mono ?_; rintro e w' ⟨rfl, rfl⟩)
  go_ret
  exact ⟨rfl, rfl⟩
set_option maxRecDepth 100000 in
set_option maxHeartbeats 400000 in
theorem sAt7 (n : Int) (w : World) : Calls Try.prog 50 #[.int .i64 n] w fun e w' => e = .returned (.bool (atB7 n)) ∧ w = w' := by
  go_enter Try.func50, Try.ntmps50
  go_wp2_with (go_at_call 43; refine (l1In_any _ _ _ _).mono ?_; rintro e w' ⟨rfl, rfl⟩)
  go_ret
  exact ⟨rfl, rfl⟩
set_option maxRecDepth 100000 in
set_option maxHeartbeats 400000 in
theorem sPoly7 (A : Option Addr) (zs : List Int) (ca : Nat) (w : World) (ha : Ints w A zs) (hl : zs.length ≤ 1048576) :
    Calls Try.prog 42 #[.slice A zs.length ca] w fun e w' => e = .returned (.bool (polB7 zs)) ∧ w = w' := by
  cases h : inB (zs.length : Int) 1 8
  · have HE : Hid (polB7 zs = false) := by show _ = _; rw [polB7, h]; rfl
    go_enter Try.func42, Try.ntmps42
    go_wp2_with (go_at_call 43; refine (l1In_any _ _ _ _).mono ?_; rintro e w' ⟨rfl, rfl⟩)
    go_ret
    exact ⟨ret_bool' HE.out.symm, rfl⟩
  · have HE : Hid (polB7 zs = allIn zs 256) := by show _ = _; rw [polB7, h]; rfl
    go_enter Try.func42, Try.ntmps42
    go_wp2_with (first
      | (go_at_call 43; refine (l1In_any _ _ _ _).mono ?_; rintro e w' ⟨rfl, rfl⟩)
      | (go_at_call 66; refine (sAll A zs ca _ _ ha hl).mono ?_; rintro e w' ⟨rfl, rfl⟩))
    go_ret
    exact ⟨ret_bool' HE.out.symm, rfl⟩

theorem mul_bd {a b : Nat} {A B : Nat} (ha : a ≤ A) (hb : b ≤ B) : 0 ≤ (a : Int) * (b : Int) ∧ (a : Int) * (b : Int) ≤ ((A * B : Nat) : Int) := by
  have h := Nat.mul_le_mul ha hb
  have e : (a : Int) * (b : Int) = ((a * b : Nat) : Int) := by simp
  rw [e]; omega
set_option maxRecDepth 100000 in
set_option maxHeartbeats 400000 in
theorem sPower (n k : Nat) (w : World) (hn : n < 257) (hk : k ≤ 1000) :
    Calls Try.prog 72 #[.int .i64 n, .int .i64 k] w fun e w' => e = .returned (.int .i64 (powM n k : Nat)) ∧ w = w' := by
  go_enter Try.func72, Try.ntmps72
  go_wp2_with fail
  go_loopg [1, 5] k (fun gk kk o wr => ∃ j : Nat, j + gk = k ∧ kk = .int .i64 (gk : Nat) ∧ o = .int .i64 (powM n j : Nat) ∧ w = wr)
  case atStart => exact ⟨0, by omega, rfl, rfl, rfl⟩
  case round =>
    obtain ⟨j, hg, rfl, rfl, rfl⟩ := hrel
    cases gk with
    | zero =>
      obtain rfl : j = k := by omega
      go_wp2_with fail
      go_ret
      exact ⟨rfl, rfl⟩
    | succ g =>
      have hgi : (0 : Int) < ((g + 1 : Nat) : Int) := by omega
      have hp := powM_lt n j
      have HP : Hid (((powM n (j + 1) : Nat) : Int) = ((powM n j : Nat) : Int) * (n : Int) % 257) := by show _ = _; rw [powM]; simp
      obtain ⟨hm0, hm1⟩ := mul_bd (a := powM n j) (b := n) (A := 256) (B := 256) (by omega) (by omega)
      generalize powM n j = p at *
      go_wp2_with fail
      go_roundg g
      case measure => omega
      case rel => exact ⟨j + 1, by omega, by go_num, by rw [HP.out], rfl⟩
set_option maxRecDepth 100000 in
set_option maxHeartbeats 400000 in
theorem sInverse (n : Nat) (w : World) (hn : n < 257) :
    Calls Try.prog 60 #[.int .i64 n] w fun e w' => e = .returned (.int .i64 (invN n : Nat)) ∧ w = w' := by
  have HP := Lib.hid (sPower n 255 w hn (by omega))
  go_enter Try.func60, Try.ntmps60
  go_wp2_with fail
  refine HP.out.mono ?_
  rintro e w' ⟨rfl, rfl⟩
  go_wp2_with fail
  go_ret
  exact ⟨rfl, rfl⟩
def ivOkB (n : Int) : Bool := inB n 1 256
def ivI (n : Int) : Int := if ivOkB n = true then (invN n.toNat : Nat) else 0
theorem tupNB7 {a b : Int} {c d : Bool} (h : a = b) (k : c = d) : Ending.returned (.tuple #[.int .i64 a, .bool c]) = .returned (.tuple #[.int .i64 b, .bool d]) := by rw [h, k]
set_option maxRecDepth 100000 in
set_option maxHeartbeats 1000000 in
theorem sInv_any (n : Int) (w : World) : Calls Try.prog 27 #[.int .i64 n] w fun e w' => e = .returned (.tuple #[.int .i64 (ivI n), .bool (ivOkB n)]) ∧ w = w' := by
  cases h : numB7 n
  · have hok : ivOkB n = false := by
      cases hq : ivOkB n
      · rfl
      · have : 1 ≤ n ∧ n ≤ 256 := by simpa [ivOkB, inB] using hq
        rw [numB7, inB_true (by omega) (by omega)] at h; cases h
    have HE : Hid (ivI n = 0 ∧ ivOkB n = false) := ⟨by rw [ivI, hok]; rfl, hok⟩
    go_enter Try.func27, Try.ntmps27
    go_wp2_with (go_at_call 51; refine (sNum7 _ _).mono ?_; rintro e w' ⟨rfl, rfl⟩)
    go_ret2
    exact ⟨tupNB7 HE.out.1.symm HE.out.2.symm, rfl⟩
  · have hn : 0 ≤ n ∧ n ≤ 256 := by simpa [numB7, inB] using h
    by_cases h0 : n = 0
    · subst h0
      go_enter Try.func27, Try.ntmps27
      go_wp2_with (go_at_call 51; refine (sNum7 _ _).mono ?_; rintro e w' ⟨rfl, rfl⟩)
      go_ret2
      exact ⟨tupNB7 rfl rfl, rfl⟩
    · have hok : ivOkB n = true := inB_true (by omega) (by omega)
      obtain ⟨m, rfl⟩ := Int.eq_ofNat_of_zero_le hn.1
      have HE : Hid (ivI (m : Int) = (invN m : Nat) ∧ ivOkB (m : Int) = true) := ⟨by rw [ivI, if_pos hok, Int.toNat_natCast], hok⟩
      have h0i : ((m : Int) == 0) = false := by simpa using h0
      have HP := Lib.hid (sInverse m w (by omega))
      generalize invN m = r at *
      clear hok h0
      go_enter Try.func27, Try.ntmps27
      go_wp2_with (first
        | (go_at_call 51; refine (sNum7 _ _).mono ?_; rintro e w' ⟨rfl, rfl⟩)
        | (go_at_call 60; refine HP.out.mono ?_; rintro e w' ⟨rfl, rfl⟩))
      go_ret2
      exact ⟨tupNB7 HE.out.1.symm HE.out.2.symm, rfl⟩

theorem val_drop {P : List Nat} {g : Nat} (x : Nat) (h : g < P.length) : valN (P.drop g) x = (valN (P.drop (g + 1)) x * x + P[g]) % 257 := by
  rw [List.drop_eq_getElem_cons h, valN]
set_option maxRecDepth 100000 in
set_option maxHeartbeats 1000000 in
theorem sValue (A : Option Addr) (P : List Nat) (ca x : Nat) (w : World) (ha : Ints w A (zI P)) (hl : P.length ≤ 1000) (hx : x ≤ 15) (hP : ∀ c ∈ P, c < 257) :
    Calls Try.prog 44 #[.slice A P.length ca, .int .i64 x] w fun e w' => e = .returned (.int .i64 (valN P x : Nat)) ∧ w = w' := by
  have HA := Lib.hid ha
  have HP := Lib.hid hP
  clear ha hP
  go_enter Try.func44, Try.ntmps44
  go_wp2_with fail
  go_loopg [5, 6] P.length (fun gk o i wr => gk ≤ P.length ∧ i = .int .i64 ((gk : Int) - 1) ∧ o = .int .i64 (valN (P.drop gk) x : Nat) ∧ w = wr)
  case atStart => exact ⟨Nat.le_refl _, rfl, by rw [List.drop_length]; rfl, rfl⟩
  case round =>
    obtain ⟨hg, rfl, rfl, rfl⟩ := hrel
    cases gk with
    | zero =>
      have h0 : ¬ ((0 : Int) ≤ ((0 : Nat) : Int) - 1) := by omega
      go_wp2_with fail
      go_ret
      exact ⟨rfl, rfl⟩
    | succ g =>
      have hlt : g < P.length := by omega
      have HV := Lib.hid (val_drop x hlt)
      obtain ⟨b1, o1, rfl, hc1⟩ := HA.out.cellN hlt
      have hc := HP.out P[g] (List.getElem_mem hlt)
      have hv := valN_lt (P.drop (g + 1)) x
      obtain ⟨hm0, hm1⟩ := mul_bd (a := valN (P.drop (g + 1)) x) (b := x) (A := 256) (B := 15) (by omega) hx
      have hgi : ((g + 1 : Nat) : Int) - 1 = (g : Int) := by omega
      have hg0 : (0 : Int) ≤ (g : Int) := by omega
      have hgl : (g : Int) < (P.length : Int) := by omega
      generalize P[g] = c at *
      have HV2 : Hid (((valN (P.drop g) x : Nat) : Int) = (((valN (P.drop (g + 1)) x : Nat) : Int) * (x : Int) + (c : Int)) % 257) := by show _ = _; rw [HV.out]; simp
      generalize valN (P.drop (g + 1)) x = v at *
      rw [hgi]
      clear hgi HV
      go_wp2_with fail
      go_roundg g
      case measure => omega
      case rel => exact ⟨by omega, by go_num, by rw [HV2.out], rfl⟩
def vaOkB (zs : List Int) (a : Int) : Bool := polB7 zs && atB7 a
def vaI (zs : List Int) (a : Int) : Int := if vaOkB zs a = true then (valN (zs.map Int.toNat) a.toNat : Nat) else 0
theorem zI_back (P : List Nat) : (zI P).map Int.toNat = P := zI_toNat P
set_option maxRecDepth 100000 in
set_option maxHeartbeats 1000000 in
theorem sValue_any (A : Option Addr) (zs : List Int) (ca : Nat) (a : Int) (w : World) (ha : Ints w A zs) (hl : zs.length ≤ 1048576) :
    Calls Try.prog 24 #[.slice A zs.length ca, .int .i64 a] w fun e w' => e = .returned (.tuple #[.int .i64 (vaI zs a), .bool (vaOkB zs a)]) ∧ w = w' := by
  have HG := Lib.hid (sPoly7 A zs ca w ha hl)
  cases h1 : polB7 zs
  · have hok : vaOkB zs a = false := by rw [vaOkB, h1]; rfl
    have HE : Hid (vaI zs a = 0 ∧ vaOkB zs a = false) := ⟨by rw [vaI, hok]; rfl, hok⟩
    rw [h1] at HG
    clear ha hok
    go_enter Try.func24, Try.ntmps24
    go_wp2_with (go_at_call 42; refine HG.out.mono ?_; rintro e w' ⟨rfl, rfl⟩)
    go_ret2
    exact ⟨tupNB7 HE.out.1.symm HE.out.2.symm, rfl⟩
  · rw [h1] at HG
    cases h2 : atB7 a
    · have hok : vaOkB zs a = false := by rw [vaOkB, h2]; simp
      have HE : Hid (vaI zs a = 0 ∧ vaOkB zs a = false) := ⟨by rw [vaI, hok]; rfl, hok⟩
      clear ha hok
      go_enter Try.func24, Try.ntmps24
      go_wp2_with (first
        | (go_at_call 42; refine HG.out.mono ?_; rintro e w' ⟨rfl, rfl⟩)
        | (go_at_call 50; refine (sAt7 _ _).mono ?_; rintro e w' ⟨rfl, rfl⟩))
      go_ret2
      exact ⟨tupNB7 HE.out.1.symm HE.out.2.symm, rfl⟩
    · have hok : vaOkB zs a = true := by rw [vaOkB, h1, h2]; rfl
      obtain ⟨P, rfl, hP1, hP8, hP⟩ := pol_nat h1
      have ha2 : 0 ≤ a ∧ a ≤ 15 := by simpa [atB7, inB] using h2
      obtain ⟨x, rfl⟩ := Int.eq_ofNat_of_zero_le ha2.1
      have HE : Hid (vaI (zI P) (x : Int) = (valN P x : Nat) ∧ vaOkB (zI P) (x : Int) = true) := ⟨by rw [vaI, if_pos hok, zI_back, Int.toNat_natCast], hok⟩
      have HV := Lib.hid (sValue A P ca x w ha (by omega) (by omega) hP)
      rw [zI_length] at HG ⊢
      clear ha hok hP
      generalize valN P x = v at *
      go_enter Try.func24, Try.ntmps24
      go_wp2_with (first
        | (go_at_call 42; refine HG.out.mono ?_; rintro e w' ⟨rfl, rfl⟩)
        | (go_at_call 50; refine (sAt7 _ _).mono ?_; rintro e w' ⟨rfl, rfl⟩)
        | (go_at_call 44; refine HV.out.mono ?_; rintro e w' ⟨rfl, rfl⟩))
      go_ret2
      exact ⟨tupNB7 HE.out.1.symm HE.out.2.symm, rfl⟩

/-- append(l, point) on points of the call's own. -/
theorem app_pt {ops : Array Oper} {rest : List Oper} {o : Oper} {a : Act} {Q : Exit → Act → World → Prop} (W : World) (base : Nat) (v : Value) (L : List (Int × Int)) (p q : Int) (Bn : Nat) (hBn : Bn = W.heap.size) (hgd : o.guard = none) (s x : Operand)
    (ho : o.op = .call { callee := .builtin .append, args := #[s, x], argTypes := #[26, 26] }) (hs : a.eval s = v) (hx : a.eval x = .slice (some ⟨Bn, 0, none⟩) 1 1)
    (hown : OwnPt W base v L) (hbase : base ≤ W.heap.size) (hlen : L.length ≤ 100000) (w0 : World) (hb : Below base w0 W)
    (h : ∀ v' w', Hid (OwnPt w' base v' (L ++ [(p, q)]) ∧ Below base w0 w') → wpList Try.prog ops Q rest (a.put o.dst v') w') :
    wpList Try.prog ops Q (o :: rest) a (W.alloc (.cells #[.int .i64 p, .int .i64 q] 32)) := by
  subst hBn
  obtain ⟨i1, hi', hy0, hy1, hy2⟩ := info_parts ptInfo
  have hown' : W.ownsRow base 32 2 v L.length (cellsL L) := hown
  refine wpList_append_own _ hgd s x 26 ho base 32 i1 (.agg #[.int .i64 0, .int .i64 0]) 2 16 Try.underlying26 hi' hy0 hy1 hy2 rfl (by decide) v L.length _ hs (hown'.alloc _) ⟨W.heap.size, 0, none⟩ 1 1 [.int .i64 p, .int .i64 q] hx rfl pt_news let_one ?_ ?_ ?_ ?_
  · unfold maxLen; omega
  · omega
  · simp; omega
  · intro v' w' h1 h2 _
    exact h v' w' ⟨OwnPt.more h1, (hb.alloc hbase _).grown h2 (by simp; omega) (fun g hg => (hown.lt g hg).1)⟩

def ptsL (P : List Nat) (n : Nat) : List (Nat × Nat) := (List.range n).map fun a => (a, valN P a)
theorem pts_length (P : List Nat) (n : Nat) : (ptsL P n).length = n := by simp [ptsL]
theorem pts_snoc (P : List Nat) (n : Nat) : ptsL P (n + 1) = ptsL P n ++ [(n, valN P n)] := by simp [ptsL, List.range_succ]
theorem intL_append (a b : List (Nat × Nat)) : intL (a ++ b) = intL a ++ intL b := by simp [intL]
def poOkB (zs : List Int) (n : Int) : Bool := polB7 zs && inB n 1 16
def poI (zs : List Int) (n : Int) : List (Int × Int) := if poOkB zs n = true then intL (ptsL (zs.map Int.toNat) n.toNat) else []
theorem poI_len (zs : List Int) (n : Int) : (poI zs n).length ≤ 16 := by
  unfold poI; split
  · rename_i h
    have : inB n 1 16 = true := by simp only [poOkB, Bool.and_eq_true] at h; exact h.2
    have hn : 1 ≤ n ∧ n ≤ 16 := by simpa [inB] using this
    rw [intL_length, pts_length]; omega
  · simp
set_option maxRecDepth 100000 in
set_option maxHeartbeats 2000000 in
theorem sPoints_any (A : Option Addr) (zs : List Int) (ca : Nat) (n : Int) (w : World) (ha : Ints w A zs) (hl : zs.length ≤ 1048576) :
    Calls Try.prog 12 #[.slice A zs.length ca, .int .i64 n] w fun e w' => ∃ v, e = .returned (.tuple #[v, .bool (poOkB zs n)]) ∧ OwnPt w' w.heap.size v (poI zs n) ∧ Below w.heap.size w w' := by
  have HG := Lib.hid (sPoly7 A zs ca w ha hl)
  cases h1 : polB7 zs
  · have hok : poOkB zs n = false := by rw [poOkB, h1]; rfl
    have HE : Hid (poI zs n = []) := by show _ = _; rw [poI, hok]; rfl
    rw [h1] at HG
    rw [hok]
    clear ha hok
    go_enter Try.func12, Try.ntmps12
    go_wp2_with (go_at_call 42; refine HG.out.mono ?_; rintro e w' ⟨rfl, rfl⟩)
    go_ret2
    exact ⟨_, rfl, by rw [HE.out]; exact OwnPt.nil _ _, Below.refl _ _⟩
  · rw [h1] at HG
    cases h2 : inB n 1 16
    · have hok : poOkB zs n = false := by rw [poOkB, h2]; simp
      have HE : Hid (poI zs n = []) := by show _ = _; rw [poI, hok]; rfl
      rw [hok]
      clear ha hok
      go_enter Try.func12, Try.ntmps12
      go_wp2_with (first
        | (go_at_call 42; refine HG.out.mono ?_; rintro e w' ⟨rfl, rfl⟩)
        | (go_at_call 43; refine (l1In_any _ _ _ _).mono ?_; rintro e w' ⟨rfl, rfl⟩))
      go_ret2
      exact ⟨_, rfl, by rw [HE.out]; exact OwnPt.nil _ _, Below.refl _ _⟩
    · have hok : poOkB zs n = true := by rw [poOkB, h1, h2]; rfl
      obtain ⟨P, rfl, hP1, hP8, hP⟩ := pol_nat h1
      have hn : 1 ≤ n ∧ n ≤ 16 := by simpa [inB] using h2
      obtain ⟨m, rfl⟩ := Int.eq_ofNat_of_zero_le (show 0 ≤ n by omega)
      have hm16 : m ≤ 16 := by omega
      have HE : Hid (poI (zI P) (m : Int) = intL (ptsL P m)) := by show _ = _; rw [poI, if_pos hok, zI_back, Int.toNat_natCast]
      have HV := Lib.hid (fun x w h hx => sValue A P ca x w h (by omega) hx hP)
      have HA := Lib.hid ha
      rw [zI_length] at HG ⊢
      rw [hok]
      clear ha hok hP
      go_enter Try.func12, Try.ntmps12
      go_wp2_with (first
        | (go_at_call 42; refine HG.out.mono ?_; rintro e w' ⟨rfl, rfl⟩)
        | (go_at_call 43; refine (l1In_any _ _ _ _).mono ?_; rintro e w' ⟨rfl, rfl⟩))
      go_loopg [6, 7] m (fun gk v i wr => ∃ j : Nat, j + gk = m ∧ i = .int .i64 j ∧ OwnPt wr w.heap.size v (intL (ptsL P j)) ∧ Below w.heap.size w wr)
      case atStart => exact ⟨0, by omega, rfl, OwnPt.nil _ _, Below.refl _ _⟩
      case round =>
        obtain ⟨j, hg, rfl, hown, hbel⟩ := hrel
        have HO := Lib.hid hown
        have HB := Lib.hid hbel
        have hs := hbel.size
        clear hown hbel
        by_cases hlt : j < m
        · have hji : (j : Int) < (m : Int) := by omega
          have HGK : Hid (m - j - 1 < gk ∧ j + 1 + (m - j - 1) = m) := by show _ ∧ _; omega
          have HS : Hid (intL (ptsL P (j + 1)) = intL (ptsL P j) ++ [((j : Int), ((valN P j : Nat) : Int))]) := by show _ = _; rw [pts_snoc, intL_append]; rfl
          have hL : (intL (ptsL P j)).length ≤ 16 := by rw [intL_length, pts_length]; omega
          have HV1 := Lib.hid (HV.out j wr (HA.out.below HB.out) (by omega))
          clear hg
          generalize intL (ptsL P j) = L at *
          generalize valN P j = y at *
          go_wp2_with (first
            | (go_at_call 44; refine HV1.out.mono ?_; rintro e w' ⟨rfl, rfl⟩)
            | (at_builtin; refine app_pt wr w.heap.size _ L (j : Int) (y : Int) wr.heap.size rfl rfl _ _ rfl rfl rfl HO.out hs (by omega) w HB.out ?_))
          intro v' w' H'
          go_wp2_with fail
          go_roundg (m - j - 1)
          case measure => exact HGK.out.1
          case rel => exact ⟨j + 1, HGK.out.2, by go_num, by rw [HS.out]; exact H'.out.1, H'.out.2⟩
        · obtain rfl : j = m := by omega
          have hji : ¬ (j : Int) < (j : Int) := by omega
          obtain ⟨A3, c3, rfl, _⟩ := HO.out.form
          go_wp2_with fail
          go_ret2
          exact ⟨_, rfl, by rw [HE.out]; exact HO.out, HB.out⟩
end Go.Proofs.Ytjifpedhncgieaa

/- KD -/
namespace Go.Proofs.Ytjifpedhncgieaa
open Go.RowKit

def ptB7 (p : Int × Int) : Bool := atB7 p.1 && numB7 p.2
def okPTo (ps : List (Int × Int)) : Nat → Bool
  | 0 => true
  | k + 1 => okPTo ps k && (ptB7 (ps.getD k (0, 0)) && (decide (k = 0) || decide ((ps.getD (k - 1) (0, 0)).1 < (ps.getD k (0, 0)).1)))
def goodPB (ps : List (Int × Int)) : Bool := okPTo ps ps.length && decide (ps.length ≤ 16)
theorem okP_no {ps : List (Int × Int)} {k : Nat} (h : okPTo ps k = false) : ∀ {m : Nat}, k ≤ m → okPTo ps m = false
  | 0, hm => by
    obtain rfl : k = 0 := by omega
    exact h
  | m + 1, hm => by
    by_cases e : k = m + 1
    · subst e; exact h
    · rw [okPTo, okP_no h (show k ≤ m by omega)]; rfl
theorem goodP_no {ps : List (Int × Int)} {k : Nat} (hk : k ≤ ps.length) (h : okPTo ps k = false) : goodPB ps = false := by rw [goodPB, okP_no h hk]; rfl
theorem okP_at {ps : List (Int × Int)} : ∀ {m : Nat}, okPTo ps m = true → ∀ k, k < m → ptB7 (ps.getD k (0, 0)) = true ∧ (k = 0 ∨ (ps.getD (k - 1) (0, 0)).1 < (ps.getD k (0, 0)).1)
  | m + 1, h, k, hk => by
    simp only [okPTo, Bool.and_eq_true, Bool.or_eq_true, decide_eq_true_eq] at h
    by_cases e : k = m
    · subst e; exact h.2
    · exact okP_at h.1 k (by omega)
theorem okP_lt {ps : List (Int × Int)} {m : Nat} (h : okPTo ps m = true) : ∀ d i, i + d + 1 < m → (ps.getD i (0, 0)).1 < (ps.getD (i + d + 1) (0, 0)).1
  | 0, i, hi => by
    have := (okP_at h (i + 1) hi).2
    rcases this with e | e
    · omega
    · simpa using e
  | d + 1, i, hi => by
    have h1 := okP_lt h d i (by omega)
    have h2 := (okP_at h (i + (d + 1) + 1) hi).2
    rcases h2 with e | e
    · omega
    · have e' : (ps.getD (i + d + 1) (0, 0)).1 < (ps.getD (i + (d + 1) + 1) (0, 0)).1 := by
        rw [show i + (d + 1) + 1 - 1 = i + d + 1 by omega] at e
        exact e
      omega
theorem goodP_nat {ps : List (Int × Int)} (h : goodPB ps = true) : ∃ Q : List (Nat × Nat), ps = intL Q ∧ Places Q ∧ Q.length ≤ 16 := by
  simp only [goodPB, Bool.and_eq_true, decide_eq_true_eq] at h
  obtain ⟨h1, h2⟩ := h
  have hb : ∀ k (hk : k < ps.length), (0 ≤ ps[k].1 ∧ ps[k].1 ≤ 15) ∧ (0 ≤ ps[k].2 ∧ ps[k].2 ≤ 256) := fun k hk => by
    have := (okP_at h1 k hk).1
    rw [show ps.getD k (0, 0) = ps[k] by simp [List.getD, hk]] at this
    simpa [ptB7, atB7, numB7, inB] using this
  have hm : ∀ p ∈ ps, (0 ≤ p.1 ∧ p.1 ≤ 15) ∧ (0 ≤ p.2 ∧ p.2 ≤ 256) := fun p hp => by
    obtain ⟨k, hk, rfl⟩ := List.mem_iff_getElem.1 hp
    exact hb k hk
  have e : intL (natL ps) = ps := by
    unfold natL intL
    rw [List.map_map]
    conv => rhs; rw [← List.map_id ps]
    refine List.map_congr_left fun p hp => ?_
    have := hm p hp
    refine Prod.ext ?_ ?_ <;> simp <;> omega
  refine ⟨natL ps, e.symm, ⟨?_, fun p hp => ?_⟩, by simpa [natL] using h2⟩
  · rw [natL, List.pairwise_map, List.pairwise_iff_getElem]
    intro i j hi hj hij
    have := okP_lt h1 (j - i - 1) i (by omega)
    rw [show i + (j - i - 1) + 1 = j by omega, show ps.getD i (0, 0) = ps[i] by simp [List.getD, hi], show ps.getD j (0, 0) = ps[j] by simp [List.getD, hj]] at this
    have h3 := hb i hi
    have h4 := hb j hj
    show ps[i].1.toNat < ps[j].1.toNat
    omega
  · obtain ⟨q, hq, rfl⟩ := List.mem_map.1 hp
    have := hm q hq
    show q.1.toNat < 16 ∧ q.2.toNat < 257
    omega

theorem okP_of {Q : List (Nat × Nat)} (h : Places Q) : ∀ {m : Nat}, m ≤ Q.length → okPTo (intL Q) m = true
  | 0, _ => rfl
  | m + 1, hm => by
    have hml : m < Q.length := by omega
    have e1 : (intL Q).getD m (0, 0) = ((Q[m].1 : Int), (Q[m].2 : Int)) := by simp [intL, List.getD, hml]
    have hb := h.2 Q[m] (List.getElem_mem hml)
    rw [okPTo, okP_of h (show m ≤ Q.length by omega), e1]
    have h1 : ptB7 ((Q[m].1 : Int), (Q[m].2 : Int)) = true := by simp [ptB7, atB7, numB7, inB]; omega
    rw [h1]
    by_cases h0 : m = 0
    · simp [h0]
    · have hml' : m - 1 < Q.length := by omega
      have e2 : (intL Q).getD (m - 1) (0, 0) = ((Q[m - 1].1 : Int), (Q[m - 1].2 : Int)) := by simp [intL, List.getD, hml']
      have := List.pairwise_iff_getElem.1 h.1 (m - 1) m hml' hml (by omega)
      rw [e2]
      have h2 : (Q[m - 1].1 : Int) < (Q[m].1 : Int) := by omega
      simp [h2]
theorem goodP_of {Q : List (Nat × Nat)} (h : Places Q) (hl : Q.length ≤ 16) : goodPB (intL Q) = true := by
  rw [goodPB, intL_length, okP_of h (Nat.le_refl _)]
  simp [hl]

theorem quiet7 {P : Program} {f : FuncId} {args : Array Value} {w : World} {n : Nat} {v : Value} (h : Calls P f args (w.drewN n) fun e w' => e = .returned v ∧ w.drewN n = w') : Calls P f args (w.drewN n) fun e w'' => e = .returned v ∧ ∃ m, w'' = w.drewN m :=
  h.mono fun _ _ ⟨he, hm⟩ => ⟨he, n, hm.symm⟩
set_option maxRecDepth 100000 in
set_option maxHeartbeats 8000000 in
theorem sGoodP_any (A : Option Addr) (ps : List (Int × Int)) (ca : Nat) (w : World) (ha : Lets w A ps) (hl : ps.length ≤ 1048576) :
    Calls Try.prog 15 #[.slice A ps.length ca] w fun e w' => e = .returned (.bool (goodPB ps)) ∧ Below w.heap.size w w' := by
  have HA := Lib.hid ha
  clear ha
  go_enter Try.func15, Try.ntmps15
  go_wp2_with fail
  go_loopg [7] ps.length (fun gk i wr => ∃ k : Nat, k + gk = ps.length ∧ i = .int .i64 k ∧ okPTo ps k = true ∧ Below w.heap.size w wr)
  case atStart => exact ⟨0, by omega, rfl, rfl, Below.refl _ _⟩
  case round =>
    obtain ⟨k, hg, rfl, hok, hbel⟩ := hrel
    have HOk := Lib.hid hok
    have HBl := Lib.hid hbel
    clear hok hbel
    by_cases hlt : k < ps.length
    · have hki : (k : Int) < (ps.length : Int) := by omega
      obtain ⟨b1, o1, rfl, hc1⟩ := (HA.out.below HBl.out) (by rintro rfl; simp at hlt)
      obtain ⟨p1, p2⟩ := hc1 k hlt
      have HNx : Hid (okPTo ps (k + 1) = (ptB7 ps[k] && (decide (k = 0) || decide ((ps.getD (k - 1) (0, 0)).1 < ps[k].1)))) := by
        show _ = _
        rw [okPTo, HOk.out, show ps.getD k (0, 0) = ps[k] by simp [List.getD, hlt]]; rfl
      have HNo : Hid (okPTo ps (k + 1) = false → goodPB ps = false) := fun h => goodP_no (by omega) h
      have HGK : Hid (ps.length - k - 1 < gk ∧ k + 1 + (ps.length - k - 1) = ps.length) := by show _ ∧ _; omega
      have HPr : Hid (0 < k → ∃ hk : k - 1 < ps.length, wr.cell? ⟨b1, o1 + (k - 1) * 2, none⟩ = some (.int .i64 ps[k - 1].1)) := fun h => ⟨by omega, (hc1 (k - 1) (by omega)).1⟩
      clear hc1 hg
      generalize ps[k] = p at *
      have hW := gAlloc wr (.cells #[.int .i64 p.1, .int .i64 p.2] 32)
      have hx0 : (wr.alloc (.cells #[.int .i64 p.1, .int .i64 p.2] 32)).cell? ⟨wr.heap.size, 0, none⟩ = some (.int .i64 p.1) := cell_of_row _ _ 0 _ _ _ (heap_alloc_new _ _)
      have hx1 : (wr.alloc (.cells #[.int .i64 p.1, .int .i64 p.2] 32)).cell? ⟨wr.heap.size, 1, none⟩ = some (.int .i64 p.2) := cell_of_row _ _ 1 _ _ _ (heap_alloc_new _ _)
      have HB1 := Lib.hid (below_more HBl.out hW)
      cases ha1 : atB7 p.1
      · have HE := Lib.hid (HNo.out (by rw [HNx.out, ptB7, ha1]; rfl))
        have ha1' := ha1
        go_wp2_with fail
        generalize wr.alloc (.cells #[.int .i64 p.1, .int .i64 p.2] 32) = W at *
        generalize wr.heap.size = N at *
        go_quiet (first
          | (go_at_call 50; exact quiet7 (sAt7 _ _))
          | (go_at_call 51; exact quiet7 (sNum7 _ _)))
        go_wp2_with fail
        go_ret
        exact ⟨ret_bool' HE.out.symm, below_more HB1.out (below_drewN (Below.refl _ _) _)⟩
      · cases ha2 : numB7 p.2
        · have HE := Lib.hid (HNo.out (by rw [HNx.out, ptB7, ha2]; simp))
          go_wp2_with fail
          generalize wr.alloc (.cells #[.int .i64 p.1, .int .i64 p.2] 32) = W at *
          generalize wr.heap.size = N at *
          go_quiet (first
            | (go_at_call 50; exact quiet7 (sAt7 _ _))
            | (go_at_call 51; exact quiet7 (sNum7 _ _)))
          go_wp2_with fail
          go_ret
          exact ⟨ret_bool' HE.out.symm, below_more HB1.out (below_drewN (Below.refl _ _) _)⟩
        · by_cases hk0 : k = 0
          · have HY : Hid (okPTo ps (k + 1) = true) := by show _ = _; rw [HNx.out, ptB7, ha1, ha2]; simp [hk0]
            have hk0i : ¬ (0 : Int) < (k : Int) := by omega
            have hkb : decide (0 < k) = false := decide_eq_false (by omega)
            clear hk0
            go_wp2_with fail
            generalize wr.alloc (.cells #[.int .i64 p.1, .int .i64 p.2] 32) = W at *
            generalize wr.heap.size = N at *
            go_quiet (first
              | (go_at_call 50; exact quiet7 (sAt7 _ _))
              | (go_at_call 51; exact quiet7 (sNum7 _ _)))
            go_wp2_with fail
            go_roundg (ps.length - k - 1)
            case measure => exact HGK.out.1
            case rel => exact ⟨k + 1, HGK.out.2, by go_num, HY.out, below_more HB1.out (below_drewN (Below.refl _ _) _)⟩
          · obtain ⟨hkp, hpr⟩ := HPr.out (by omega)
            have hk0i : (0 : Int) < (k : Int) := by omega
            have hkb : decide (0 < k) = true := decide_eq_true (by omega)
            have hsub : (k : Int) - 1 = ((k - 1 : Nat) : Int) := by omega
            have hk1i : ((k - 1 : Nat) : Int) < (ps.length : Int) := by omega
            have hprW := (hW.cell (World.block_lt_of_cell? _ _ hpr)).trans hpr
            rw [show ps.getD (k - 1) (0, 0) = ps[k - 1] by simp [List.getD, hkp]] at HNx
            clear hpr
            generalize ps[k - 1] = q at *
            by_cases hlt2 : q.1 < p.1
            · have HY : Hid (okPTo ps (k + 1) = true) := by show _ = _; rw [HNx.out, ptB7, ha1, ha2]; simp [hlt2]
              have hq : ¬ p.1 ≤ q.1 := by omega
              go_wp2_with fail
              generalize wr.alloc (.cells #[.int .i64 p.1, .int .i64 p.2] 32) = W at *
              generalize wr.heap.size = N at *
              go_quiet (first
                | (go_at_call 50; exact quiet7 (sAt7 _ _))
                | (go_at_call 51; exact quiet7 (sNum7 _ _)))
              go_wp2_with fail
              go_roundg (ps.length - k - 1)
              case measure => exact HGK.out.1
              case rel => exact ⟨k + 1, HGK.out.2, by go_num, HY.out, below_more HB1.out (below_drewN (Below.refl _ _) _)⟩
            · have HE := Lib.hid (HNo.out (by rw [HNx.out]; simp [hk0, hlt2]))
              have hq : p.1 ≤ q.1 := by omega
              go_wp2_with fail
              generalize wr.alloc (.cells #[.int .i64 p.1, .int .i64 p.2] 32) = W at *
              generalize wr.heap.size = N at *
              go_quiet (first
                | (go_at_call 50; exact quiet7 (sAt7 _ _))
                | (go_at_call 51; exact quiet7 (sNum7 _ _)))
              go_wp2_with fail
              go_ret
              exact ⟨ret_bool' HE.out.symm, below_more HB1.out (below_drewN (Below.refl _ _) _)⟩
    · obtain rfl : k = ps.length := by omega
      have hki : ¬ (ps.length : Int) < (ps.length : Int) := by omega
      have HE : Hid (goodPB ps = decide ((ps.length : Int) ≤ 16)) := by show _ = _; rw [goodPB, HOk.out]; simp; omega
      go_wp2_with fail
      go_ret
      exact ⟨ret_bool' HE.out.symm, HBl.out⟩
end Go.Proofs.Ytjifpedhncgieaa

/- KE -/
namespace Go.Proofs.Ytjifpedhncgieaa
open Go.RowKit

def enB7 (k : Int) (ps : List (Int × Int)) : Bool := inB k 1 8 && (goodPB ps && decide (k ≤ (ps.length : Int)))
set_option maxRecDepth 100000 in
set_option maxHeartbeats 1000000 in
theorem sEnough7 (k : Int) (A : Option Addr) (ps : List (Int × Int)) (ca : Nat) (w : World) (ha : Lets w A ps) (hl : ps.length ≤ 1048576) :
    Calls Try.prog 57 #[.int .i64 k, .slice A ps.length ca] w fun e w' => e = .returned (.bool (enB7 k ps)) ∧ Below w.heap.size w w' := by
  cases h1 : inB k 1 8
  · have HE : Hid (enB7 k ps = false) := by show _ = _; rw [enB7, h1]; rfl
    go_enter Try.func57, Try.ntmps57
    go_wp2_with (go_at_call 43; refine (l1In_any _ _ _ _).mono ?_; rintro e w' ⟨rfl, rfl⟩)
    go_ret
    exact ⟨ret_bool' HE.out.symm, Below.refl _ _⟩
  · have HG := Lib.hid (sGoodP_any A ps ca w ha hl)
    cases h2 : goodPB ps
    · have HE : Hid (enB7 k ps = false) := by show _ = _; rw [enB7, h1, h2]; rfl
      rw [h2] at HG
      clear ha
      go_enter Try.func57, Try.ntmps57
      go_wp2_with (first
        | (go_at_call 43; refine (l1In_any _ _ _ _).mono ?_; rintro e w' ⟨rfl, rfl⟩)
        | (go_at_call 15; refine HG.out.mono ?_; rintro e w1 ⟨rfl, hb1⟩))
      go_ret
      exact ⟨ret_bool' HE.out.symm, hb1⟩
    · have HE : Hid (enB7 k ps = decide (k ≤ (ps.length : Int))) := by show _ = _; rw [enB7, h1, h2]; rfl
      rw [h2] at HG
      clear ha
      go_enter Try.func57, Try.ntmps57
      go_wp2_with (first
        | (go_at_call 43; refine (l1In_any _ _ _ _).mono ?_; rintro e w' ⟨rfl, rfl⟩)
        | (go_at_call 15; refine HG.out.mono ?_; rintro e w1 ⟨rfl, hb1⟩))
      go_ret
      exact ⟨ret_bool' HE.out.symm, hb1⟩

def agreeN (P : List Nat) (Q : List (Nat × Nat)) : Nat := (Q.filter fun q => valN P q.1 == q.2).length
theorem agree_snoc {P : List Nat} {Q : List (Nat × Nat)} {t : Nat} (h : t < Q.length) : agreeN P (Q.take (t + 1)) = agreeN P (Q.take t) + (if valN P Q[t].1 = Q[t].2 then 1 else 0) := by
  rw [agreeN, List.take_succ_eq_append_getElem h, List.filter_append, List.length_append, ← agreeN]
  by_cases e : valN P Q[t].1 = Q[t].2
  · simp [e]
  · have : (valN P Q[t].1 == Q[t].2) = false := by simpa using e
    simp [e]
theorem agree_le (P : List Nat) (Q : List (Nat × Nat)) : agreeN P Q ≤ Q.length := List.length_filter_le _ _
set_option maxRecDepth 100000 in
set_option maxHeartbeats 2000000 in
theorem sAgree (A B : Option Addr) (P : List Nat) (Q : List (Nat × Nat)) (ca cb : Nat) (w : World) (ha : Ints w A (zI P)) (hb : Lets w B (intL Q)) (hl : P.length ≤ 1000) (hP : ∀ c ∈ P, c < 257) (hQl : Q.length ≤ 1000) (hQ : ∀ q ∈ Q, q.1 < 16 ∧ q.2 < 257) :
    Calls Try.prog 63 #[.slice A P.length ca, .slice B Q.length cb] w fun e w' => e = .returned (.int .i64 (agreeN P Q : Nat)) ∧ Below w.heap.size w w' := by
  have HA := Lib.hid ha
  have HB := Lib.hid hb
  have HQ := Lib.hid hQ
  have HV := Lib.hid (fun x w h hx => sValue A P ca x w h hl hx hP)
  clear ha hb hQ hP
  go_enter Try.func63, Try.ntmps63
  go_wp2_with fail
  go_loopg [5, 10] Q.length (fun gk s i wr => ∃ t : Nat, t + gk = Q.length ∧ i = .int .i64 t ∧ s = .int .i64 (agreeN P (Q.take t) : Nat) ∧ Below w.heap.size w wr)
  case atStart => exact ⟨0, by omega, rfl, rfl, Below.refl _ _⟩
  case round =>
    obtain ⟨t, hg, rfl, rfl, hbel⟩ := hrel
    have HBl := Lib.hid hbel
    clear hbel
    by_cases hlt : t < Q.length
    · have hti : (t : Int) < (Q.length : Int) := by omega
      have hlt' : t < (intL Q).length := by rw [intL_length]; exact hlt
      obtain ⟨b1, o1, rfl, hc1⟩ := (HB.out.below HBl.out) (by intro e0; rw [e0] at hlt'; simp at hlt')
      obtain ⟨p1, p2⟩ := hc1 t hlt'
      rw [intL_at hlt'] at p1 p2
      obtain ⟨hq1, hq2⟩ := HQ.out Q[t] (List.getElem_mem hlt)
      have HS := Lib.hid (agree_snoc (P := P) hlt)
      have hal : agreeN P (Q.take t) ≤ 1000 := Nat.le_trans (agree_le _ _) (by rw [List.length_take]; omega)
      have HGK : Hid (Q.length - t - 1 < gk ∧ t + 1 + (Q.length - t - 1) = Q.length) := by show _ ∧ _; omega
      clear hc1 hg
      generalize Q[t] = q at *
      generalize agreeN P (Q.take t) = s at *
      have hW := gAlloc wr (.cells #[.int .i64 q.1, .int .i64 q.2] 32)
      have hx0 : (wr.alloc (.cells #[.int .i64 q.1, .int .i64 q.2] 32)).cell? ⟨wr.heap.size, 0, none⟩ = some (.int .i64 q.1) := cell_of_row _ _ 0 _ _ _ (heap_alloc_new _ _)
      have hx1 : (wr.alloc (.cells #[.int .i64 q.1, .int .i64 q.2] 32)).cell? ⟨wr.heap.size, 1, none⟩ = some (.int .i64 q.2) := cell_of_row _ _ 1 _ _ _ (heap_alloc_new _ _)
      have HB1 := Lib.hid (below_more HBl.out hW)
      have HV1 : Hid (∀ n, Calls Try.prog 44 #[.slice A P.length ca, .int .i64 q.1] ((wr.alloc (.cells #[.int .i64 q.1, .int .i64 q.2] 32)).drewN n) fun e w' => e = .returned (.int .i64 (valN P q.1 : Nat)) ∧ (wr.alloc (.cells #[.int .i64 q.1, .int .i64 q.2] 32)).drewN n = w') :=
        fun n => HV.out q.1 _ ((HA.out.below HB1.out).below (gDrewN n)) (by omega)
      clear hW
      generalize valN P q.1 = v at *
      by_cases he : v = q.2
      · have HS2 : Hid (agreeN P (Q.take (t + 1)) = s + 1) := by show _ = _; rw [HS.out, if_pos he]
        have hvi : ((v : Int) == (q.2 : Int)) = true := by simp [he]
        clear he HS
        go_wp2_with fail
        generalize wr.alloc (.cells #[.int .i64 q.1, .int .i64 q.2] 32) = W at *
        generalize wr.heap.size = N at *
        go_quiet (first
          | (go_at_call 44; exact quiet7 (HV1.out _)))
        go_wp2_with fail
        go_roundg (Q.length - t - 1)
        case measure => exact HGK.out.1
        case rel => exact ⟨t + 1, HGK.out.2, by go_num, by rw [HS2.out]; go_num, below_more HB1.out (gDrewN _)⟩
      · have HS2 : Hid (agreeN P (Q.take (t + 1)) = s) := by show _ = _; rw [HS.out, if_neg he]; rfl
        have hvi : ((v : Int) == (q.2 : Int)) = false := by simp; omega
        clear he HS
        go_wp2_with fail
        generalize wr.alloc (.cells #[.int .i64 q.1, .int .i64 q.2] 32) = W at *
        generalize wr.heap.size = N at *
        go_quiet (first
          | (go_at_call 44; exact quiet7 (HV1.out _)))
        go_wp2_with fail
        go_roundg (Q.length - t - 1)
        case measure => exact HGK.out.1
        case rel => exact ⟨t + 1, HGK.out.2, by go_num, by rw [HS2.out], below_more HB1.out (gDrewN _)⟩
    · obtain rfl : t = Q.length := by omega
      rw [List.take_length]
      have hti : ¬ (Q.length : Int) < (Q.length : Int) := by omega
      go_wp2_with fail
      go_ret
      exact ⟨rfl, HBl.out⟩

def agOkB (zs : List Int) (ps : List (Int × Int)) : Bool := polB7 zs && goodPB ps
def agI (zs : List Int) (ps : List (Int × Int)) : Int := if agOkB zs ps = true then (agreeN (zs.map Int.toNat) (natL ps) : Nat) else 0
set_option maxRecDepth 100000 in
set_option maxHeartbeats 2000000 in
theorem sAgree_any (A B : Option Addr) (zs : List Int) (ps : List (Int × Int)) (ca cb : Nat) (w : World) (ha : Ints w A zs) (hb : Lets w B ps) (hl : zs.length ≤ 1048576) (hl2 : ps.length ≤ 1048576) :
    Calls Try.prog 37 #[.slice A zs.length ca, .slice B ps.length cb] w fun e w' => e = .returned (.tuple #[.int .i64 (agI zs ps), .bool (agOkB zs ps)]) ∧ Below w.heap.size w w' := by
  have HG := Lib.hid (sPoly7 A zs ca w ha hl)
  cases h1 : polB7 zs
  · have hok : agOkB zs ps = false := by rw [agOkB, h1]; rfl
    have HE : Hid (agI zs ps = 0 ∧ agOkB zs ps = false) := ⟨by rw [agI, hok]; rfl, hok⟩
    rw [h1] at HG
    clear ha hb hok
    go_enter Try.func37, Try.ntmps37
    go_wp2_with (go_at_call 42; refine HG.out.mono ?_; rintro e w' ⟨rfl, rfl⟩)
    go_ret2
    exact ⟨tupNB7 HE.out.1.symm HE.out.2.symm, Below.refl _ _⟩
  · rw [h1] at HG
    have HP := Lib.hid (sGoodP_any B ps cb w hb hl2)
    cases h2 : goodPB ps
    · have hok : agOkB zs ps = false := by rw [agOkB, h2]; simp
      have HE : Hid (agI zs ps = 0 ∧ agOkB zs ps = false) := ⟨by rw [agI, hok]; rfl, hok⟩
      rw [h2] at HP
      clear ha hb hok
      go_enter Try.func37, Try.ntmps37
      go_wp2_with (first
        | (go_at_call 42; refine HG.out.mono ?_; rintro e w' ⟨rfl, rfl⟩)
        | (go_at_call 15; refine HP.out.mono ?_; rintro e w1 ⟨rfl, hb1⟩))
      go_ret2
      exact ⟨tupNB7 HE.out.1.symm HE.out.2.symm, hb1⟩
    · have hok : agOkB zs ps = true := by rw [agOkB, h1, h2]; rfl
      rw [h2] at HP
      obtain ⟨P, rfl, hP1, hP8, hP⟩ := pol_nat h1
      obtain ⟨Q, rfl, hQp, hQ16⟩ := goodP_nat h2
      have HE : Hid (agI (zI P) (intL Q) = (agreeN P Q : Nat) ∧ agOkB (zI P) (intL Q) = true) := ⟨by rw [agI, if_pos hok, zI_back, natL_intL], hok⟩
      have HS := Lib.hid (fun w h1 h2 => sAgree A B P Q ca cb w h1 h2 (by omega) hP (by omega) hQp.2)
      have HA := Lib.hid ha
      have HB := Lib.hid hb
      rw [zI_length] at HG
      rw [intL_length] at HP
      rw [zI_length, intL_length]
      clear ha hb hok hP hQp
      generalize agreeN P Q = r at *
      go_enter Try.func37, Try.ntmps37
      go_wp2_with (first
        | (go_at_call 42; refine HG.out.mono ?_; rintro e w' ⟨rfl, rfl⟩)
        | (go_at_call 15; refine HP.out.mono ?_; rintro e w1 ⟨rfl, hb1⟩))
      have HB1 := Lib.hid hb1
      clear hb1
      refine (HS.out w1 (HA.out.below HB1.out) (HB.out.below HB1.out)).mono ?_
      rintro e w2 ⟨rfl, hb2⟩
      go_wp2_with fail
      go_ret2
      exact ⟨tupNB7 HE.out.1.symm HE.out.2.symm, below_more HB1.out hb2⟩
end Go.Proofs.Ytjifpedhncgieaa

/- KF -/
namespace Go.Proofs.Ytjifpedhncgieaa
open Go.RowKit

theorem Own.put {w : World} {base g n cap : Nat} {zs : List Int} (h : Own w base (.slice (some ⟨g, 0, none⟩) n cap) zs) {j : Nat} (z : Int) :
    Own (w.setCell ⟨g, j, none⟩ (.int .i64 z)) base (.slice (some ⟨g, 0, none⟩) n cap) (zs.set j z) ∧ w.grownBy (w.setCell ⟨g, j, none⟩ (.int .i64 z)) (some g) := by
  have hl := own_len h
  subst hl
  have hs := World.ownsRow.stored h j (.int .i64 z)
  refine ⟨?_, hs.2⟩
  unfold Own
  rw [List.length_set, List.map_set]
  exact hs.1
theorem Own.at {w : World} {base g n cap : Nat} {O : List Nat} (h : Own w base (.slice (some ⟨g, 0, none⟩) n cap) (zI O)) {j : Nat} (hj : j < O.length) : w.cell? ⟨g, j, none⟩ = some (.int .i64 (O[j] : Nat)) ∧ w.frozen? ⟨g, j, none⟩ = false ∧ n = O.length ∧ base ≤ g := by
  have hl : n = (zI O).length := own_len h
  rw [zI_length] at hl
  have h' : w.ownsRow base 3 1 (.slice (some ⟨g, 0, none⟩) n cap) n ((zI O).map (Value.int .i64)) := by
    have h0 := h
    unfold Own at h0
    rw [zI_length, ← hl] at h0
    exact h0
  refine ⟨?_, World.ownsRow.frozenAt h' j, hl, (h.lt g rfl).1⟩
  rw [World.ownsRow.cellAt h' j (by omega)]
  simp [zI, hj]
theorem zI_set (O : List Nat) (j z : Nat) : zI (O.set j z) = (zI O).set j (z : Int) := by simp [zI, List.map_set]
theorem set_lt {O : List Nat} {j z : Nat} (h : ∀ c ∈ O, c < 257) (hz : z < 257) : ∀ c ∈ O.set j z, c < 257 := fun c hc => by
  rcases List.mem_or_eq_of_mem_set hc with h1 | rfl
  · exact h c h1
  · exact hz

set_option maxRecDepth 100000 in
set_option maxHeartbeats 4000000 in
theorem sTimes (A : Option Addr) (L : List Nat) (ca a : Nat) (w : World) (ha : Ints w A (zI L)) (hl : L.length ≤ 100) (ha15 : a ≤ 15) (hL : ∀ c ∈ L, c < 257) :
    Calls Try.prog 71 #[.slice A L.length ca, .int .i64 a] w fun e w' => ∃ v, ∃ O : List Nat, e = .returned v ∧ Own w' w.heap.size v (zI O) ∧ O.length = L.length + 1 ∧ (∀ c ∈ O, c < 257) ∧ (∀ x : Int, Zm (evI (zI O) x - (x - a) * evI (zI L) x)) ∧ Below w.heap.size w w' := by
  obtain ⟨i0, hi, hz0, hz1, hz2⟩ := info_parts intInfo
  have HA := Lib.hid ha
  have HL := Lib.hid hL
  clear ha hL
  go_enter Try.func71, Try.ntmps71
  go_wp2_with (at_make; refine wpList_make_full _ rfl _ _ 23 rfl w.heap.size 3 i0 (.int .i64 0) 1 Try.underlying23 hi hz0 hz1 .i64 .i64 _ _ (L.length + 1) rfl rfl rfl rfl (by rw [hz2]; omega) (by unfold maxLen; omega) (Nat.le_refl _) ?_; intro w2 hown2 hgr2)
  have HB2 : Hid (Below w.heap.size w w2) := (Below.refl _ _).grown hgr2 (Nat.le_refl _) (by simp)
  have HO2 : Hid (Own w2 w.heap.size (.slice (some ⟨w.heap.size, 0, none⟩) (L.length + 1) (L.length + 1)) (zI (List.replicate (L.length + 1) 0))) := by
    have h := hown2
    rw [made_row _ _ rfl] at h
    show Own _ _ _ _
    unfold Own
    rw [zI_length, List.length_replicate]
    simpa [zI] using h
  have HZ0 : Hid (∀ x : Int, Zm (evI (zI (List.replicate (L.length + 1) 0)) x - (x - a) * evI (zI (L.take 0)) x)) := fun x => by
    rw [show zI (List.replicate (L.length + 1) 0) = List.replicate (L.length + 1) 0 by simp [zI], ev_zero]
    simp [zI, evI]; exact Zm.zero
  clear hgr2 hown2 hi hz0 hz1 hz2
  generalize hn1 : L.length + 1 = n1 at *
  have HN1 := Lib.hid hn1
  clear hn1
  generalize hg0 : w.heap.size = g at *
  have HG0 := Lib.hid hg0
  clear hg0
  go_wp2_with fail
  go_loopg [14] L.length (fun gk i wr => ∃ (k : Nat) (O : List Nat), k + gk = L.length ∧ i = .int .i64 k ∧ Own wr g (.slice (some ⟨g, 0, none⟩) n1 n1) (zI O) ∧ O.length = n1 ∧ (∀ c ∈ O, c < 257) ∧ (∀ x : Int, Zm (evI (zI O) x - (x - a) * evI (zI (L.take k)) x)) ∧ Below g w wr)
  case atStart => exact ⟨0, _, by omega, rfl, HO2.out, by simp, (fun c hc => by have := List.eq_of_mem_replicate hc; omega), HZ0.out, HB2.out⟩
  case round =>
    obtain ⟨k, O, hg, rfl, hown, hol, hob, hev, hbel⟩ := hrel
    have HO := Lib.hid hown
    have HB := Lib.hid hbel
    have HOb := Lib.hid hob
    have HEv := Lib.hid hev
    clear hown hbel hob hev HO2 HB2 HZ0
    by_cases hlt : k < L.length
    · have hki : (k : Int) < (L.length : Int) := by omega
      have HGK : Hid (L.length - k - 1 < gk ∧ k + 1 + (L.length - k - 1) = L.length) := by show _ ∧ _; omega
      obtain ⟨b1, o1, rfl, hc1⟩ := (HA.out.below (by rw [HG0.out]; exact HB.out)).cellN hlt
      have hcl := HL.out L[k] (List.getElem_mem hlt)
      have hk1 : k + 1 < O.length := by have := HN1.out; omega
      have hk0 : k < O.length := by omega
      have hk1n : k + 1 < n1 := by omega
      obtain ⟨q1, f1, -, -⟩ := HO.out.at hk1
      obtain ⟨q0, f0, -, -⟩ := HO.out.at hk0
      have ho1 := HOb.out O[k + 1] (List.getElem_mem hk1)
      have ho0 := HOb.out O[k] (List.getElem_mem hk0)
      have HSt := Lib.hid (times_step (a := a) (by omega) hk1 hlt HEv.out)
      have hne : ((257 : Int) - (a : Int)) = ((257 - a : Nat) : Int) := by omega
      obtain ⟨hm0, hm1⟩ := mul_bd (a := 257 - a) (b := L[k]) (A := 257) (B := 256) (by omega) (by omega)
      have HLs : Hid (∀ z1 z0 : Nat, z1 < 257 → z0 < 257 → ((O.set (k + 1) z1).set k z0).length = n1 ∧ ∀ c ∈ (O.set (k + 1) z1).set k z0, c < 257) := fun z1 z0 h1 h0 => ⟨by rw [List.length_set, List.length_set]; exact hol, set_lt (set_lt HOb.out h1) h0⟩
      have HPut : Hid (∀ z1 z0 : Nat, Own ((wr.setCell ⟨g, k + 1, none⟩ (.int .i64 (z1 : Nat))).setCell ⟨g, k, none⟩ (.int .i64 (z0 : Nat))) g (.slice (some ⟨g, 0, none⟩) n1 n1) (zI ((O.set (k + 1) z1).set k z0)) ∧ Below g w ((wr.setCell ⟨g, k + 1, none⟩ (.int .i64 (z1 : Nat))).setCell ⟨g, k, none⟩ (.int .i64 (z0 : Nat)))) := fun z1 z0 => by
        have s1 := (HO.out.put (j := k + 1) (z1 : Int)).1
        rw [← zI_set] at s1
        have s2 := (s1.put (j := k) (z0 : Int)).1
        rw [← zI_set] at s2
        exact ⟨s2, (HB.out.setCell (Nat.le_refl _) _).setCell (Nat.le_refl _) _⟩
      have hq0' : ∀ z1 : Int, (wr.setCell ⟨g, k + 1, none⟩ (.int .i64 z1)).cell? ⟨g, k, none⟩ = some (.int .i64 (O[k] : Nat)) := fun z1 => by
        have s1 := (HO.out.put (j := k + 1) z1).1
        have hz : Ints (wr.setCell ⟨g, k + 1, none⟩ (.int .i64 z1)) (some ⟨g, 0, none⟩) ((zI O).set (k + 1) z1) := by
          obtain ⟨A', c', e', hI'⟩ := s1.form
          injection e' with e1
          subst e1; exact hI'
        obtain ⟨b', o', e', hc'⟩ := hz (by intro e0; have := congrArg List.length e0; rw [List.length_set, zI_length, List.length_nil] at this; omega)
        injection e' with e'
        injection e' with e1 e2
        subst e1; subst e2
        have h1 := hc' k (by rw [List.length_set, zI_length]; exact hk0)
        rw [Nat.zero_add] at h1
        rw [h1]
        simp [List.getD, zI, hk0]
      have hf0' : ∀ z1 : Int, (wr.setCell ⟨g, k + 1, none⟩ (.int .i64 z1)).frozen? ⟨g, k, none⟩ = false := fun z1 => by
        have s1 := (HO.out.put (j := k + 1) z1).1
        have hln := own_len s1
        have h' : (wr.setCell ⟨g, k + 1, none⟩ (.int .i64 z1)).ownsRow g 3 1 (.slice (some ⟨g, 0, none⟩) n1 n1) n1 (((zI O).set (k + 1) z1).map (Value.int .i64)) := by
          have h0 := s1
          unfold Own at h0
          rw [← hln] at h0
          exact h0
        exact World.ownsRow.frozenAt h' k
      generalize L[k] = c at *
      generalize O[k + 1] = y1 at *
      generalize O[k] = y0 at *
      have HC1 : Hid (((y1 : Int) + (c : Int)) % 257 = (((y1 + c) % 257 : Nat) : Int)) := by show _ = _; simp
      have HC0 : Hid (((y0 : Int) + ((257 - a : Nat) : Int) * (c : Int)) % 257 = (((y0 + (257 - a) * c) % 257 : Nat) : Int)) := by show _ = _; simp
      clear hg HO HB HEv
      generalize hkk : k + 1 = k1 at *
      have hk1i : (k : Int) + 1 = (k1 : Int) := by omega
      have HKK := Lib.hid hkk
      clear hkk
      have hk1b : (k1 : Int) < (n1 : Int) := by omega
      have hk1c : ¬ ((n1 : Int) ≤ (k1 : Int)) := by omega
      have hk1d : ¬ ((k1 : Int) < 0) := by omega
      have hk0b : (k : Int) < (n1 : Int) := by omega
      clear hol hk1 hk0 hk1n
      go_wp2_with fail
      go_roundg (L.length - k - 1)
      case measure => exact HGK.out.1
      case rel =>
        obtain ⟨l1, l2⟩ := HLs.out ((y1 + c) % 257) ((y0 + (257 - a) * c) % 257) (Nat.mod_lt _ (by decide)) (Nat.mod_lt _ (by decide))
        obtain ⟨p1, p2⟩ := HPut.out ((y1 + c) % 257) ((y0 + (257 - a) * c) % 257)
        rw [HC1.out, HC0.out]
        exact ⟨k1, _, HGK.out.2, by go_num, p1, l1, l2, HSt.out, p2⟩
    · obtain rfl : k = L.length := by omega
      have hki : ¬ (L.length : Int) < (L.length : Int) := by omega
      rw [List.take_length] at HEv
      go_wp2_with fail
      go_ret
      have hol2 : O.length = L.length + 1 := by rw [HN1.out]; exact hol
      rw [HG0.out]
      first
        | exact ⟨_, O, rfl, HO.out, hol2, HOb.out, HEv.out, HB.out⟩
        | exact ⟨_, rfl, O, HO.out, hol2, HOb.out, HEv.out, HB.out⟩
end Go.Proofs.Ytjifpedhncgieaa

/- KG -/
namespace Go.Proofs.Ytjifpedhncgieaa
open Go.RowKit

def lenX (i k : Nat) : Nat := if k ≤ i then k + 1 else k
/-- The polynomial goes through the first t points, and is 0 at the others. -/
def Thru (Q : List (Nat × Nat)) (O : List Nat) (t : Nat) : Prop := ∀ j, j < Q.length → Zm (evI (zI O) ((Q.getD j (0, 0)).1 : Nat) - (if j < t then (((Q.getD j (0, 0)).2 : Nat) : Int) else 0))
theorem thru_step {Q : List (Nat × Nat)} {O O' L : List Nat} {t u f : Nat} (hQ : Places Q) (ht : t < Q.length) (hO : Thru Q O t) (hL : ∀ x : Int, Zm (evI (zI L) x - prodX Q t Q.length x)) (hu : u < 257) (hup : Zm ((u : Int) - prodX Q t Q.length ((Q.getD t (0, 0)).1 : Nat)))
    (hf : f = (Q.getD t (0, 0)).2 * invN u % 257) (hO' : ∀ x : Int, Zm (evI (zI O') x - (evI (zI O) x + f * evI (zI L) x))) : Thru Q O' (t + 1) := fun j hj => by
  have h1 := hO j hj
  have h2 := hO' ((Q.getD j (0, 0)).1 : Nat)
  have h3 := hL ((Q.getD j (0, 0)).1 : Nat)
  by_cases e : j = t
  · subst e
    rw [if_neg (by omega)] at h1
    rw [if_pos (by omega)]
    have hinv := prodX_inv hQ ht (k := Q.length) (Nat.le_refl _)
    have hu0 : u ≠ 0 := by
      rintro rfl
      refine not_inv_zero hinv ((Zm.zero.sub hup).of ?_)
      simp
    have h4 := inv_zm hu0 hu
    have h5 := Zm.mod ((((Q.getD j (0, 0)).2 : Nat) : Int) * (invN u : Nat))
    have h6 : ((f : Nat) : Int) = ((((Q.getD j (0, 0)).2 : Nat) : Int) * (invN u : Nat)) % 257 := by rw [hf]; simp
    rw [← h6] at h5
    refine ((((h1.add h2).add (h3.mul f)).sub (hup.mul f)).add ((h5.mul u).add (h4.mul (((Q.getD j (0, 0)).2 : Nat) : Int)))).of ?_
    grind
  · rw [prodX_zero e (by omega)] at h3
    by_cases e2 : j < t
    · rw [if_pos e2] at h1
      rw [if_pos (by omega)]
      exact ((h1.add h2).add (h3.mul f)).of (by grind)
    · rw [if_neg e2] at h1
      rw [if_neg (by omega)]
      exact ((h1.add h2).add (h3.mul f)).of (by grind)
theorem thru_all {Q : List (Nat × Nat)} {O : List Nat} (hQ : Places Q) (h : Thru Q O Q.length) (hl : O.length = Q.length) (hb : ∀ c ∈ O, c < 257) : O = fromN Q := by
  refine (from_eq hQ ⟨hl, hb, fun p hp => ?_⟩).symm
  obtain ⟨j, hj, rfl⟩ := List.mem_iff_getElem.1 hp
  have h1 := h j hj
  rw [if_pos hj, show Q.getD j (0, 0) = Q[j] by simp [List.getD, hj]] at h1
  exact valN_of (hQ.2 _ (List.getElem_mem hj)).2 h1
theorem intL_getD {Q : List (Nat × Nat)} {k : Nat} (h : k < (intL Q).length) : (intL Q)[k] = (((Q.getD k (0, 0)).1 : Int), ((Q.getD k (0, 0)).2 : Int)) := by
  have hk : k < Q.length := by rw [intL_length] at h; exact h
  rw [intL_at h, show Q.getD k (0, 0) = Q[k] by simp [List.getD, hk]]
theorem own_ints7 {w : World} {base : Nat} {A : Option Addr} {n c : Nat} {zs : List Int} (h : Own w base (.slice A n c) zs) : Ints w A zs := by
  obtain ⟨A', c', e, hI⟩ := h.form
  injection e with e1
  subst e1; exact hI
theorem own_one (w : World) (z : Nat) : Own (w.alloc (.cells #[.int .i64 z] 3)) w.heap.size (.slice (some ⟨w.heap.size, 0, none⟩) 1 1) (zI [z]) :=
  ⟨rfl, Or.inr ⟨w.heap.size, 1, #[.int .i64 z], rfl, Nat.le_refl _, heap_alloc_new _ _, Nat.le_refl _, by unfold maxLen; omega, rfl, rfl⟩⟩
theorem times_prod {Q : List (Nat × Nat)} {i k : Nat} {L O : List Nat} (hk : k ≠ i) (h : ∀ x : Int, Zm (evI (zI L) x - prodX Q i k x)) (h2 : ∀ x : Int, Zm (evI (zI O) x - (x - ((Q.getD k (0, 0)).1 : Nat)) * evI (zI L) x)) : ∀ x : Int, Zm (evI (zI O) x - prodX Q i (k + 1) x) := fun x => by
  rw [prodX, if_neg hk]
  exact ((h2 x).add ((h x).mul (x - ((Q.getD k (0, 0)).1 : Nat)))).of (by grind)
theorem under_prod {Q : List (Nat × Nat)} {i k u d : Nat} (hk : k ≠ i) (hd : (d : Int) = ((Q.getD i (0, 0)).1 : Nat) - ((Q.getD k (0, 0)).1 : Nat) + 257) (h : Zm ((u : Int) - prodX Q i k ((Q.getD i (0, 0)).1 : Nat))) : Zm (((u * d % 257 : Nat) : Int) - prodX Q i (k + 1) ((Q.getD i (0, 0)).1 : Nat)) := by
  rw [prodX, if_neg hk]
  have h1 := Zm.mod ((u : Int) * d)
  have h2 : ((u * d % 257 : Nat) : Int) = ((u : Int) * d) % 257 := by simp
  rw [h2]
  have h3 : Zm ((u : Int) * 257) := ⟨u, by grind⟩
  refine ((h1.add h3).add (h.mul (((Q.getD i (0, 0)).1 : Nat) - ((Q.getD k (0, 0)).1 : Nat)))).of ?_
  rw [hd]
  grind

set_option maxRecDepth 100000 in
set_option maxHeartbeats 16000000 in
theorem sFrom (A : Option Addr) (Q : List (Nat × Nat)) (ca : Nat) (w : World) (ha : Lets w A (intL Q)) (hQ : Places Q) (hl : Q.length ≤ 16) :
    Calls Try.prog 58 #[.slice A Q.length ca] w fun e w' => ∃ v, e = .returned v ∧ Own w' w.heap.size v (zI (fromN Q)) ∧ Below w.heap.size w w' := by
  obtain ⟨i0, hi, hz0, hz1, hz2⟩ := info_parts intInfo
  have HA := Lib.hid ha
  have HQ := Lib.hid hQ
  have HT0 : Hid (Thru Q (List.replicate Q.length 0) 0) := fun j hj => by
    rw [show zI (List.replicate Q.length 0) = List.replicate Q.length 0 by simp [zI], ev_zero, if_neg (by omega)]
    exact Zm.zero
  have HStep : Hid (∀ (t u : Nat) (O O' L : List Nat), t < Q.length → Thru Q O t → (∀ x : Int, Zm (evI (zI L) x - prodX Q t Q.length x)) → u < 257 → Zm ((u : Int) - prodX Q t Q.length ((Q.getD t (0, 0)).1 : Nat)) → (∀ x : Int, Zm (evI (zI O') x - (evI (zI O) x + ((Q.getD t (0, 0)).2 * invN u % 257 : Nat) * evI (zI L) x))) → Thru Q O' (t + 1)) :=
    fun t u O O' L h1 h2 h3 h4 h5 h6 => thru_step hQ h1 h2 h3 h4 h5 rfl h6
  have HEnd : Hid (∀ O : List Nat, Thru Q O Q.length → O.length = Q.length → (∀ c ∈ O, c < 257) → O = fromN Q) := fun O h1 h2 h3 => thru_all hQ h1 h2 h3
  have HQb : Hid (∀ j, j < Q.length → (Q.getD j (0, 0)).1 < 16 ∧ (Q.getD j (0, 0)).2 < 257) := fun j h => by
    rw [show Q.getD j (0, 0) = Q[j] by simp [List.getD, h]]
    exact hQ.2 _ (List.getElem_mem h)
  have HLen : Hid ((intL Q).length = Q.length) := intL_length Q
  clear ha hQ
  go_enter Try.func58, Try.ntmps58
  go_wp2_with (at_make; refine wpList_make_full _ rfl _ _ 23 rfl w.heap.size 3 i0 (.int .i64 0) 1 Try.underlying23 hi hz0 hz1 .i64 .i64 _ _ Q.length rfl rfl rfl rfl (by rw [hz2]; omega) (by unfold maxLen; omega) (Nat.le_refl _) ?_; intro w2 hown2 hgr2)
  have HB2 : Hid (Below w.heap.size w w2) := (Below.refl _ _).grown hgr2 (Nat.le_refl _) (by simp)
  have HO2 : Hid (Own w2 w.heap.size (.slice (some ⟨w.heap.size, 0, none⟩) Q.length Q.length) (zI (List.replicate Q.length 0))) := by
    have h := hown2
    rw [made_row _ _ rfl] at h
    show Own _ _ _ _
    unfold Own
    rw [zI_length, List.length_replicate]
    simpa [zI] using h
  have HR : Hid ((List.replicate Q.length 0).length = Q.length ∧ ∀ c ∈ List.replicate Q.length 0, c < 257) := ⟨by simp, fun c hc => by have := List.eq_of_mem_replicate hc; omega⟩
  clear hgr2 hown2 hi hz0 hz1 hz2
  generalize hn : Q.length = n at *
  have HN := Lib.hid hn
  clear hn
  generalize List.replicate n 0 = O0 at *
  generalize hg0 : w.heap.size = g at *
  have HG0 := Lib.hid hg0
  clear hg0
  have hgl2 : g < w2.heap.size := (HO2.out.lt g rfl).2
  clear hgl2
  go_wp2_with fail
  go_loopg [18] n (fun gk i wr => ∃ (t : Nat) (O : List Nat), t + gk = n ∧ i = .int .i64 t ∧ Own wr g (.slice (some ⟨g, 0, none⟩) n n) (zI O) ∧ O.length = n ∧ (∀ c ∈ O, c < 257) ∧ Thru Q O t ∧ Below g w wr)
  case atStart => exact ⟨0, O0, by omega, rfl, HO2.out, HR.out.1, HR.out.2, HT0.out, HB2.out⟩
  case round =>
    obtain ⟨t, O, hg, rfl, hown, hol, hob, hth, hbel⟩ := hrel
    have HO := Lib.hid hown
    have HB := Lib.hid hbel
    have HOl := Lib.hid hol
    have HOb := Lib.hid hob
    have HTh := Lib.hid hth
    clear hown hbel hol hob hth HO2 HB2 HR HT0
    by_cases hlt : t < n
    · have hti : (t : Int) < (n : Int) := by omega
      have hlt' : t < (intL Q).length := by rw [HLen.out]; exact hlt
      obtain ⟨b1, o1, rfl, hc1⟩ := (HA.out.below (by rw [HG0.out]; exact HB.out)) (by intro e0; rw [e0] at hlt'; simp at hlt')
      obtain ⟨p1, p2⟩ := hc1 t hlt'
      rw [intL_getD hlt'] at p1 p2
      obtain ⟨hx16, hv257⟩ := HQb.out t hlt
      have HGK : Hid (n - t - 1 < gk ∧ t + 1 + (n - t - 1) = n) := by show _ ∧ _; omega
      have hgw := (HO.out.lt g rfl).2
      obtain ⟨q, hq⟩ : ∃ q : Nat × Nat, Q.getD t (0, 0) = q := ⟨_, rfl⟩
      rw [hq] at p1 p2 hx16 hv257
      have HQt := Lib.hid hq
      clear hc1 hg hlt' hq
      have hW := gAlloc wr (.cells #[.int .i64 q.1, .int .i64 q.2] 32)
      have hx0 : (wr.alloc (.cells #[.int .i64 q.1, .int .i64 q.2] 32)).cell? ⟨wr.heap.size, 0, none⟩ = some (.int .i64 q.1) := cell_of_row _ _ 0 _ _ _ (heap_alloc_new _ _)
      have hx1 : (wr.alloc (.cells #[.int .i64 q.1, .int .i64 q.2] 32)).cell? ⟨wr.heap.size, 1, none⟩ = some (.int .i64 q.2) := cell_of_row _ _ 1 _ _ _ (heap_alloc_new _ _)
      have HX0 := Lib.hid hx0
      have HX1 := Lib.hid hx1
      have HOW := Lib.hid (HO.out.below hW)
      have HBW := Lib.hid (HB.out.alloc (by omega : g ≤ wr.heap.size) (.cells #[.int .i64 q.1, .int .i64 q.2] 32))
      have hsW : wr.heap.size < (wr.alloc (.cells #[.int .i64 q.1, .int .i64 q.2] 32)).heap.size := by simp
      have hWs : (wr.alloc (.cells #[.int .i64 q.1, .int .i64 q.2] 32)).heap.size = wr.heap.size + 1 := by simp
      clear hx0 hx1 hW
      go_wp2_with fail
      generalize wr.alloc (.cells #[.int .i64 q.1, .int .i64 q.2] 32) = W at *
      generalize wr.heap.size = X at *
      have HL1 := Lib.hid (own_one W 1)
      rw [hWs] at HL1
      have HWs := Lib.hid hWs
      clear hWs
      go_loopg [6, 7, 26] n (fun g2 v un i wx => ∃ (k u : Nat) (L : List Nat), k + g2 = n ∧ i = .int .i64 k ∧ un = .int .i64 (u : Nat) ∧ Own wx (X + 1) v (zI L) ∧ L.length = lenX t k ∧ (∀ c ∈ L, c < 257) ∧ (∀ x : Int, Zm (evI (zI L) x - prodX Q t k x)) ∧ u < 257 ∧ Zm ((u : Int) - prodX Q t k ((Q.getD t (0, 0)).1 : Nat)) ∧ Below W.heap.size W wx)
      case atStart => exact ⟨0, 1, [1], by omega, rfl, rfl, HL1.out, by simp [lenX], (fun c hc => by simp at hc; omega), (fun x => by simp [evI, zI, prodX]; exact Zm.zero), by omega, by simp [prodX]; exact Zm.zero, gAlloc _ _⟩
      case round =>
        obtain ⟨k, u, L, hg2, rfl, rfl, hown, hll, hlb, hlev, hu, huev, hbel⟩ := hrel
        have HL := Lib.hid hown
        have HLl := Lib.hid hll
        have HLb := Lib.hid hlb
        have HLe := Lib.hid hlev
        have HUe := Lib.hid huev
        have HBx := Lib.hid hbel
        clear hown hll hlb hlev huev hbel HL1
        by_cases hlt2 : k < n
        · have hki : (k : Int) < (n : Int) := by omega
          have hlk' : k < (intL Q).length := by rw [HLen.out]; exact hlt2
          have HAx := Lib.hid ((HA.out.below (by rw [HG0.out]; exact HBW.out)).below HBx.out)
          obtain ⟨g3, o3, e3, hc3⟩ := HAx.out (by intro e0; rw [e0] at hlk'; simp at hlk')
          injection e3 with e3
          injection e3 with e3 e4
          subst e3; subst e4
          obtain ⟨r1, r2⟩ := hc3 k hlk'
          rw [intL_getD hlk'] at r1 r2
          obtain ⟨hy16, hw257⟩ := HQb.out k hlt2
          have HGK2 : Hid (n - k - 1 < gk ∧ k + 1 + (n - k - 1) = n) := by show _ ∧ _; omega
          obtain ⟨r, hr⟩ : ∃ r : Nat × Nat, Q.getD k (0, 0) = r := ⟨_, rfl⟩
          rw [hr] at r1 r2 hy16 hw257
          have HQk := Lib.hid hr
          clear hc3 hg2 hlk' hr HAx
          have hV := gAlloc wr (.cells #[.int .i64 r.1, .int .i64 r.2] 32)
          have HLV := Lib.hid (HL.out.below hV)
          have HBV := Lib.hid (below_more HBx.out hV)
          have HY0 : Hid ((wr.alloc (.cells #[.int .i64 r.1, .int .i64 r.2] 32)).cell? ⟨wr.heap.size, 0, none⟩ = some (.int .i64 r.1)) := cell_of_row _ _ 0 _ _ _ (heap_alloc_new _ _)
          have hsV : wr.heap.size < (wr.alloc (.cells #[.int .i64 r.1, .int .i64 r.2] 32)).heap.size := by simp
          have hy0 := HY0.out
          clear hV
          by_cases hkt : k = t
          · have HP : Hid (∀ x, prodX Q t (k + 1) x = prodX Q t k x) := fun x => by rw [prodX, if_pos hkt]
            have HLn : Hid (L.length = lenX t (k + 1)) := by show _ = _; rw [HLl.out, lenX, lenX, if_pos (by omega), if_neg (by omega)]
            have hnq : ((k : Int) != (t : Int)) = false := by simp [hkt]
            clear hkt
            go_wp2_with fail
            go_roundg (n - k - 1)
            case measure => exact HGK2.out.1
            case rel => exact ⟨k + 1, u, L, HGK2.out.2, by go_num, rfl, HLV.out, HLn.out, HLb.out, (fun x => by rw [HP.out]; exact HLe.out x), hu, by rw [HP.out]; exact HUe.out, HBV.out⟩
          · have hnq : ((k : Int) != (t : Int)) = true := by simp; omega
            have HKT := Lib.hid hkt
            have hLlen : L.length ≤ 17 := by rw [HLl.out, lenX]; split <;> omega
            obtain ⟨A6, c6, rfl, hI6⟩ := HLV.out.form
            have HTm := Lib.hid (sTimes A6 L c6 r.1 _ hI6 (by omega) (by omega) HLb.out)
            obtain ⟨d, hd⟩ : ∃ d : Nat, (d : Int) = (q.1 : Int) - (r.1 : Int) + 257 := ⟨q.1 + 257 - r.1, by omega⟩
            have HD : Hid ((d : Int) = ((Q.getD t (0, 0)).1 : Nat) - ((Q.getD k (0, 0)).1 : Nat) + 257) := by show _ = _; rw [HQt.out, HQk.out]; exact hd
            have hd2 : d ≤ 272 := by omega
            have hdi := hd.symm
            clear hd
            obtain ⟨hm0, hm1⟩ := mul_bd (a := u) (b := d) (A := 256) (B := 272) (by omega) hd2
            have HUn : Hid ((u : Int) * (d : Int) % 257 = ((u * d % 257 : Nat) : Int)) := by show _ = _; simp
            rw [zI_length]
            clear hkt hI6
            go_wp2_with fail
            generalize wr.alloc (.cells #[.int .i64 r.1, .int .i64 r.2] 32) = V at *
            generalize wr.heap.size = Y at *
            refine HTm.out.mono ?_
            rintro e w5 ⟨v5, O5, rfl, ho5, hl5, hb5, hev5, hbel5⟩
            have HO5 := Lib.hid (ho5.lower (show X + 1 ≤ V.heap.size by have := HBV.out.size; rw [HWs.out] at this; exact this))
            have HL5 : Hid (O5.length = lenX t (k + 1)) := by
              show _ = _
              rw [hl5, HLl.out, lenX, lenX]
              have := HKT.out
              split <;> split <;> omega
            have HE5 := Lib.hid (times_prod HKT.out HLe.out (by rw [HQk.out]; exact hev5))
            have HU5 := Lib.hid (under_prod HKT.out HD.out HUe.out)
            have HB5 := Lib.hid (below_more HBV.out hbel5)
            have HBb := Lib.hid hb5
            have hc0 : w5.cell? ⟨X, 0, none⟩ = some (.int .i64 q.1) := (HB5.out.cell (show X < W.heap.size by omega)).trans HX0.out
            have hc9 : w5.cell? ⟨Y, 0, none⟩ = some (.int .i64 r.1) := (hbel5.cell hsV).trans HY0.out
            obtain ⟨A5, c5, rfl, _⟩ := ho5.form
            clear ho5 hl5 hb5 hev5 hbel5 HTm hy0
            go_wp2_with fail
            go_roundg (n - k - 1)
            case measure => exact HGK2.out.1
            case rel => exact ⟨k + 1, u * d % 257, O5, HGK2.out.2, by go_num, by rw [HUn.out], HO5.out, HL5.out, HBb.out, HE5.out, Nat.mod_lt _ (by decide), HU5.out, HB5.out⟩
        · have hkn : n = k := by omega
          subst hkn
          have hki : ¬ (n : Int) < (n : Int) := by omega
          have HLn : Hid (L.length = n) := by show _ = _; rw [HLl.out, lenX, if_neg (by omega)]
          obtain ⟨A6, c6, rfl, hI6⟩ := HL.out.form
          rw [zI_length, HLn.out]
          have HL6 : Hid (Own wr (X + 1) (.slice A6 n c6) (zI L)) := by
            have h := HL.out
            rw [zI_length, HLn.out] at h
            exact h
          have hv0 : wr.cell? ⟨X, 1, none⟩ = some (.int .i64 q.2) := (HBx.out.cell (show X < W.heap.size by omega)).trans HX1.out
          have HIv := Lib.hid (fun w' => sInverse u w' hu)
          have hiv := powM_lt u 255
          rw [show powM u 255 = invN u from rfl] at hiv
          have HF0 : Hid (∀ O' : List Nat, (∀ x : Int, Zm (evI (zI O') x - (evI (zI O) x + ((q.2 * invN u % 257 : Nat) : Int) * evI (zI L) x))) → Thru Q O' (t + 1)) := fun O' h => HStep.out t u O O' L hlt HTh.out HLe.out hu HUe.out (by rw [HQt.out]; exact h)
          obtain ⟨hm0, hm1⟩ := mul_bd (a := q.2) (b := invN u) (A := 256) (B := 256) (by omega) (by omega)
          have HFn : Hid ((q.2 : Int) * ((invN u : Nat) : Int) % 257 = ((q.2 * invN u % 257 : Nat) : Int)) := by show _ = _; simp
          have HOr := Lib.hid (HOW.out.below HBx.out)
          have HBr : Hid (Below g w wr) := HBW.out.trans (HBx.out.mono (show g ≤ W.heap.size by omega))
          clear hI6 HL HLl HLe HUe HTh HStep HEnd
          generalize invN u = iv at *
          go_wp2_with fail
          go_quiet (first
            | (go_at_call 60; exact quiet7 (HIv.out _)))
          rw [HFn.out]
          have hf257 : q.2 * iv % 257 < 257 := Nat.mod_lt _ (by decide)
          generalize q.2 * iv % 257 = f at *
          have HOd := Lib.hid (HOr.out.below (gDrewN nq))
          have HLd := Lib.hid (HL6.out.below (gDrewN nq))
          have hgr : g < wr.heap.size := (HOr.out.lt g rfl).2
          have HBd : Hid (Below g w (wr.drewN nq)) := HBr.out.trans ((gDrewN (w := wr) nq).mono (by omega))
          have HZ : Hid (∀ x : Int, Zm (evI (zI O) x - (evI (zI O) x + f * evI (zI (L.take 0)) x))) := fun x => by
            refine Zm.zero.of ?_
            show _ = (0 : Int)
            rw [List.take_zero, show evI (zI []) x = 0 from rfl]
            grind
          have HPl : Hid (∀ (j : Nat) (O' : List Nat) (h1 : j < O'.length) (h2 : j < L.length), (∀ x : Int, Zm (evI (zI O') x - (evI (zI O) x + f * evI (zI (L.take j)) x))) → ∀ x : Int, Zm (evI (zI (O'.set j ((O'[j] + f * L[j]) % 257))) x - (evI (zI O) x + f * evI (zI (L.take (j + 1))) x))) :=
            fun j O' h1 h2 h => plus_step (E := fun x => evI (zI O) x) h1 h2 h
          have HTk : Hid (L.take n = L) := List.take_of_length_le (by rw [HLn.out]; exact Nat.le_refl _)
          have hXg : g < X + 1 := by omega
          clear HOr HBr HL6 hv0 HIv hiv hm0 hm1 HFn hgr HBW HOW HX0 HX1 HBx p1 p2
          generalize wr.drewN nq = Wd at *
          go_wp2_with fail
          go_loopg [56] n (fun g3 i wy => ∃ (j : Nat) (O' : List Nat), j + g3 = n ∧ i = .int .i64 j ∧ Own wy g (.slice (some ⟨g, 0, none⟩) n n) (zI O') ∧ O'.length = n ∧ (∀ c ∈ O', c < 257) ∧ (∀ x : Int, Zm (evI (zI O') x - (evI (zI O) x + f * evI (zI (L.take j)) x))) ∧ Own wy (X + 1) (.slice A6 n c6) (zI L) ∧ Below g w wy)
          case atStart => exact ⟨0, O, by omega, rfl, HOd.out, HOl.out, HOb.out, HZ.out, HLd.out, HBd.out⟩
          case round =>
            obtain ⟨j, O', hg3, rfl, hown, hol, hob, hev, hlo, hbel⟩ := hrel
            have HO' := Lib.hid hown
            have HOl' := Lib.hid hol
            have HOb' := Lib.hid hob
            have HEv := Lib.hid hev
            have HLo := Lib.hid hlo
            have HBy := Lib.hid hbel
            clear hown hol hob hev hlo hbel HOd HLd HBd HZ
            by_cases hlt3 : j < n
            · have hji : (j : Int) < (n : Int) := by omega
              have hjL : j < L.length := by rw [HLn.out]; exact hlt3
              have hjO : j < O'.length := by rw [HOl'.out]; exact hlt3
              obtain ⟨b6, o6, e6, hc6⟩ := (own_ints7 HLo.out).cellN hjL
              subst e6
              have hcl := HLb.out L[j] (List.getElem_mem hjL)
              obtain ⟨q0, f0, -, -⟩ := HO'.out.at hjO
              have ho0 := HOb'.out O'[j] (List.getElem_mem hjO)
              have HSt := Lib.hid (HPl.out j O' hjO hjL HEv.out)
              have HGK3 : Hid (n - j - 1 < gk ∧ j + 1 + (n - j - 1) = n) := by show _ ∧ _; omega
              have HPut : Hid (∀ z : Nat, z < 257 → Own (wr.setCell ⟨g, j, none⟩ (.int .i64 (z : Nat))) g (.slice (some ⟨g, 0, none⟩) n n) (zI (O'.set j z)) ∧ (O'.set j z).length = n ∧ (∀ c ∈ O'.set j z, c < 257) ∧ Own (wr.setCell ⟨g, j, none⟩ (.int .i64 (z : Nat))) (X + 1) (.slice (some ⟨b6, o6, none⟩) n c6) (zI L) ∧ Below g w (wr.setCell ⟨g, j, none⟩ (.int .i64 (z : Nat)))) := fun z hz => by
                obtain ⟨s1, s2⟩ := HO'.out.put (j := j) (z : Int)
                rw [← zI_set] at s1
                refine ⟨s1, by rw [List.length_set]; exact HOl'.out, set_lt HOb'.out hz, HLo.out.kept s2 ?_, HBy.out.setCell (Nat.le_refl _) _⟩
                right
                intro e
                have := (HLo.out.lt g e).1
                omega
              generalize L[j] = c at *
              generalize O'[j] = y at *
              obtain ⟨hm0, hm1⟩ := mul_bd (a := f) (b := c) (A := 256) (B := 256) (by omega) (by omega)
              have HCy : Hid (((y : Int) + (f : Int) * (c : Int)) % 257 = (((y + f * c) % 257 : Nat) : Int)) := by show _ = _; simp
              clear hg3 hjL hjO HO' HLo HBy HEv
              go_wp2_with fail
              go_roundg (n - j - 1)
              case measure => exact HGK3.out.1
              case rel =>
                obtain ⟨s1, s2, s3, s4, s5⟩ := HPut.out ((y + f * c) % 257) (Nat.mod_lt _ (by decide))
                rw [HCy.out]
                exact ⟨j + 1, _, HGK3.out.2, by go_num, s1, s2, s3, HSt.out, s4, s5⟩
            · have hjn : n = j := by omega
              subst hjn
              have hji : ¬ (n : Int) < (n : Int) := by omega
              have HT := Lib.hid (HF0.out O' (by
                have h := HEv.out
                rw [HTk.out] at h
                exact h))
              go_wp2_with fail
              go_roundg (n - t - 1)
              case measure => exact HGK.out.1
              case rel => exact ⟨t + 1, O', HGK.out.2, by go_num, HO'.out, HOl'.out, HOb'.out, HT.out, HBy.out⟩
    · obtain rfl : t = n := by omega
      have hti : ¬ (t : Int) < (t : Int) := by omega
      have HE : Hid (O = fromN Q) := HEnd.out O HTh.out HOl.out HOb.out
      go_wp2_with fail
      go_ret
      rw [HG0.out, ← HE.out]
      exact ⟨_, rfl, HO.out, HB.out⟩
end Go.Proofs.Ytjifpedhncgieaa

/- KH -/
namespace Go.Proofs.Ytjifpedhncgieaa
open Go.RowKit

theorem Places.take {Q : List (Nat × Nat)} (h : Places Q) (k : Nat) : Places (Q.take k) := ⟨h.1.sublist (List.take_sublist _ _), fun p hp => h.2 p (List.mem_of_mem_take hp)⟩
theorem intL_take (Q : List (Nat × Nat)) (k : Nat) : (intL Q).take k = intL (Q.take k) := by simp [intL, List.map_take]
theorem Lets.take7 {w : World} {A : Option Addr} {ls : List (Int × Int)} (h : Lets w A ls) (k : Nat) : Lets w A (ls.take k) := fun hne => by
  obtain ⟨b, o, e, hc⟩ := h (by rintro rfl; simp at hne)
  refine ⟨b, o, e, fun j hj => ?_⟩
  have hj' : j < ls.length := Nat.lt_of_lt_of_le hj (by rw [List.length_take]; omega)
  rw [List.getElem_take]
  exact hc j hj'
theorem en_nat {k : Int} {ps : List (Int × Int)} (h : enB7 k ps = true) : ∃ (m : Nat) (Q : List (Nat × Nat)), k = m ∧ ps = intL Q ∧ 1 ≤ m ∧ m ≤ 8 ∧ m ≤ Q.length ∧ Q.length ≤ 16 ∧ Places Q := by
  simp only [enB7, Bool.and_eq_true, decide_eq_true_eq] at h
  obtain ⟨h1, h2, h3⟩ := h
  have hk : 1 ≤ k ∧ k ≤ 8 := by simpa [inB] using h1
  obtain ⟨Q, rfl, hQ, h16⟩ := goodP_nat h2
  rw [intL_length] at h3
  exact ⟨k.toNat, Q, by omega, rfl, by omega, by omega, by omega, h16, hQ⟩
def frI (k : Int) (ps : List (Int × Int)) : List Int := if enB7 k ps = true then zI (fromN ((natL ps).take k.toNat)) else []
theorem from_len {Q : List (Nat × Nat)} (h : Places Q) : (fromN Q).length = Q.length ∧ ∀ c ∈ fromN Q, c < 257 := ⟨(interp_from h).1, (interp_from h).2.1⟩
theorem frI_len (k : Int) (ps : List (Int × Int)) : (frI k ps).length ≤ 8 := by
  unfold frI; split
  · rename_i h
    obtain ⟨m, Q, rfl, rfl, _, h8, hm, _, hQ⟩ := en_nat h
    rw [zI_length, natL_intL, Int.toNat_natCast, (from_len (hQ.take m)).1, List.length_take]; omega
  · simp
set_option maxRecDepth 100000 in
set_option maxHeartbeats 2000000 in
theorem sFrom_any (k : Int) (A : Option Addr) (ps : List (Int × Int)) (ca : Nat) (w : World) (ha : Lets w A ps) (hl : ps.length ≤ 1048576) (hca : ps.length ≤ ca) :
    Calls Try.prog 21 #[.int .i64 k, .slice A ps.length ca] w fun e w' => ∃ v, e = .returned (.tuple #[v, .bool (enB7 k ps)]) ∧ Own w' w.heap.size v (frI k ps) ∧ Below w.heap.size w w' := by
  have HG := Lib.hid (sEnough7 k A ps ca w ha hl)
  cases h : enB7 k ps
  · have HE : Hid (frI k ps = []) := by show _ = _; rw [frI, h]; rfl
    rw [h] at HG
    clear ha h
    go_enter Try.func21, Try.ntmps21
    go_wp2_with fail
    refine HG.out.mono ?_
    rintro e w1 ⟨rfl, hb1⟩
    go_wp2_with fail
    go_ret2
    exact ⟨_, rfl, by rw [HE.out]; exact Own.nil _ _, hb1⟩
  · rw [h] at HG
    obtain ⟨m, Q, rfl, rfl, hm1, hm8, hmQ, hQ16, hQ⟩ := en_nat h
    have HE : Hid (frI (m : Int) (intL Q) = zI (fromN (Q.take m))) := by show _ = _; rw [frI, if_pos h, natL_intL, Int.toNat_natCast]
    have htl : (Q.take m).length = m := by rw [List.length_take]; omega
    have HF := Lib.hid (fun w' (h' : Lets w' A (intL Q)) => sFrom A (Q.take m) ca w' (by rw [← intL_take]; exact h'.take7 m) (hQ.take m) (by omega))
    rw [htl] at HF
    have HA := Lib.hid ha
    rw [intL_length] at HG hca ⊢
    have hmc : m ≤ ca := by omega
    clear ha h hQ htl
    generalize fromN (Q.take m) = V at *
    go_enter Try.func21, Try.ntmps21
    go_wp2_with fail
    refine HG.out.mono ?_
    rintro e w1 ⟨rfl, hb1⟩
    have HB1 := Lib.hid hb1
    clear hb1
    go_wp2_with fail
    refine (HF.out w1 (HA.out.below HB1.out)).mono ?_
    rintro e w2 ⟨v2, rfl, ho2, hb2⟩
    have HO2 := Lib.hid (ho2.lower HB1.out.size)
    have HB2 := Lib.hid (below_more HB1.out hb2)
    obtain ⟨A2, c2, rfl, _⟩ := ho2.form
    clear ho2 hb2
    go_wp2_with fail
    go_ret2
    exact ⟨_, rfl, by rw [HE.out]; exact HO2.out, HB2.out⟩

/-- The points whose indexes are the bits of n. -/
def subQ (Q : List (Nat × Nat)) (n : Nat) : List (Nat × Nat) := (idxL n Q.length).map fun i => Q.getD i (0, 0)
theorem idx7_rise (m k : Nat) : (idxL m k).Pairwise (· < ·) := List.Pairwise.filter _ List.pairwise_lt_range
theorem idx7_lt {m k : Nat} : ∀ x ∈ idxL m k, x < k := fun _ hx => List.mem_range.1 (List.mem_filter.1 hx).1
theorem bits7_idx (n : Nat) : ∀ k, bitsL k n = zI (idxL n k)
  | 0 => rfl
  | k + 1 => by
    rw [idxL_succ, zI_append, ← bits7_idx n k, bitsL, Nat.testBit_eq_decide_div_mod_eq]
    by_cases h : n / 2 ^ k % 2 = 1
    · simp [h, zI]
    · simp [h, zI]
theorem idx7_len (n k : Nat) : (idxL n k).length = cnt k n := by
  have h := congrArg List.length (bits7_idx n k)
  rw [bitsL_len, zI_length] at h
  exact h.symm
theorem sub_places {Q : List (Nat × Nat)} (h : Places Q) (n : Nat) : Places (subQ Q n) := by
  refine ⟨?_, fun p hp => ?_⟩
  · rw [subQ, List.pairwise_map]
    refine List.Pairwise.imp_of_mem ?_ (idx7_rise n Q.length)
    intro i j hi hj hij
    have h1 := idx7_lt i hi
    have h2 := idx7_lt j hj
    rw [show Q.getD i (0, 0) = Q[i] by simp [List.getD, h1], show Q.getD j (0, 0) = Q[j] by simp [List.getD, h2]]
    exact List.pairwise_iff_getElem.1 h.1 i j h1 h2 hij
  · obtain ⟨i, hi, rfl⟩ := List.mem_map.1 hp
    have h1 := idx7_lt i hi
    rw [show Q.getD i (0, 0) = Q[i] by simp [List.getD, h1]]
    exact h.2 _ (List.getElem_mem h1)
theorem sub_length (Q : List (Nat × Nat)) (n : Nat) : (subQ Q n).length = cnt Q.length n := by rw [subQ, List.length_map, idx7_len]
def hitB (k : Nat) (Q : List (Nat × Nat)) (wr n : Nat) : Bool := decide (cnt Q.length n = k) && decide (Q.length ≤ agreeN (fromN (subQ Q n)) Q + wr)
def readF (k : Nat) (Q : List (Nat × Nat)) (wr : Nat) : Nat → Nat → Option (List Nat)
  | 0, _ => none
  | f + 1, n => if hitB k Q wr n = true then some (fromN (subQ Q n)) else readF k Q wr f (n + 1)
def readN (k : Nat) (Q : List (Nat × Nat)) (wr : Nat) : Option (List Nat) := readF k Q wr (2 ^ Q.length) 0
def rdPreB (k : Int) (ps : List (Int × Int)) (wr : Int) : Bool := enB7 k ps && inB wr 0 3
def rdN (k : Int) (ps : List (Int × Int)) (wr : Int) : Option (List Nat) := if rdPreB k ps wr = true then readN k.toNat (natL ps) wr.toNat else none
def rdI (k : Int) (ps : List (Int × Int)) (wr : Int) : List Int := zI ((rdN k ps wr).getD [])
def rdOkB (k : Int) (ps : List (Int × Int)) (wr : Int) : Bool := (rdN k ps wr).isSome
theorem rd_not {k : Int} {ps : List (Int × Int)} {wr : Int} (h : rdPreB k ps wr = false) : rdI k ps wr = [] ∧ rdOkB k ps wr = false := by
  have e : rdN k ps wr = none := by rw [rdN, h]; rfl
  rw [rdI, rdOkB, e]; exact ⟨rfl, rfl⟩
/-- What is found: the polynomial of k of the points that passes through all but at most wr of them. -/
theorem read_spec {k wr : Nat} {Q : List (Nat × Nat)} : ∀ {f n : Nat} {P : List Nat}, readF k Q wr f n = some P → ∃ m, cnt Q.length m = k ∧ P = fromN (subQ Q m) ∧ Q.length ≤ agreeN P Q + wr
  | f + 1, n, P, h => by
    rw [readF] at h
    split at h
    · rename_i hh
      cases h
      simp only [hitB, Bool.and_eq_true, decide_eq_true_eq] at hh
      exact ⟨n, hh.1, rfl, hh.2⟩
    · exact read_spec h
theorem read_some {k wr : Nat} {Q : List (Nat × Nat)} : ∀ {f n m : Nat}, n ≤ m → m < n + f → hitB k Q wr m = true → (readF k Q wr f n).isSome = true
  | 0, n, m, h1, h2, _ => by omega
  | f + 1, n, m, h1, h2, h3 => by
    rw [readF]
    split
    · rfl
    · rename_i hh
      refine read_some (m := m) ?_ (by omega) h3
      by_cases e : n = m
      · subst e; exact absurd h3 hh
      · omega
theorem rdI_len (k : Int) (ps : List (Int × Int)) (wr : Int) : (rdI k ps wr).length ≤ 8 := by
  cases h : rdPreB k ps wr
  · rw [(rd_not h).1]; simp
  · have h1 : enB7 k ps = true := by simp only [rdPreB, Bool.and_eq_true] at h; exact h.1
    obtain ⟨m, Q, rfl, rfl, _, h8, _, _, hQ⟩ := en_nat h1
    rw [rdI, rdN, if_pos h, zI_length, natL_intL, Int.toNat_natCast]
    cases hr : readN m Q wr.toNat with
    | none => simp
    | some P =>
      obtain ⟨j, hj, rfl, _⟩ := read_spec hr
      rw [Option.getD_some, (from_len (sub_places hQ j)).1, sub_length, hj]; exact h8
theorem sub_take {Q : List (Nat × Nat)} {n t : Nat} (h : t < (idxL n Q.length).length) : intL (((idxL n Q.length).take (t + 1)).map fun i => Q.getD i (0, 0)) = intL (((idxL n Q.length).take t).map fun i => Q.getD i (0, 0)) ++ [(((Q.getD (idxL n Q.length)[t] (0, 0)).1 : Int), ((Q.getD (idxL n Q.length)[t] (0, 0)).2 : Int))] := by
  rw [List.take_succ_eq_append_getElem h, List.map_append, intL_append]; rfl

end Go.Proofs.Ytjifpedhncgieaa
