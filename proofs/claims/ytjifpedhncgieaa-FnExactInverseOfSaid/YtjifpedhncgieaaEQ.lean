/-
  EM: Plain mathematics of the program's chapter 7: its inverse, its polynomial through points (Newton's way), its check of points.
  EY: The program's chapter 7, first part: InverseOf, evaluate, the checks of polynomials and points, ValueAt, PointsFor, AgreeWith.
  EZ: The program's chapter 7, second part: mapped and countOf through function values, GoodPoints, AgreeWith, ValueAt, PointsFor.
  EW: The program's chapter 7, third part: withRoot, through (Newton's way), FromPoints, ReadWrong.
  ET: The program's chapter 7: through, the polynomial through given points, one point after another.
  EU: The program's chapter 7: FromPoints and ReadWrong.
-/
import Derived.Test.YtjifpedhncgieaaKM

/- EM -/
namespace Go.Proofs.Ytjifpedhncgieaa

/-- How the program reckons an inverse. -/
def fStep (p : Nat × Nat) : Nat × Nat := (p.1 * p.2 % 257, p.2 * p.2 % 257)
def fInv (n : Nat) : Nat → Nat × Nat
  | 0 => (1, n)
  | k + 1 => fStep (fInv n k)
theorem fInv_lt {n : Nat} (h : n < 257) : ∀ k, (fInv n k).1 < 257 ∧ (fInv n k).2 < 257
  | 0 => ⟨show 1 < 257 by decide, h⟩
  | k + 1 => ⟨Nat.mod_lt _ (by decide), Nat.mod_lt _ (by decide)⟩
theorem fInv_all : ∀ n : Fin 257, n.1 = 0 ∨ (fInv n.1 8).1 = invN n.1 := by decide +kernel

theorem prodX_same {Q : List (Nat × Nat)} {i j : Nat} (x : Int) : ∀ {k : Nat}, k ≤ i → k ≤ j → prodX Q i k x = prodX Q j k x
  | 0, _, _ => rfl
  | k + 1, h, h' => by rw [prodX, prodX, if_neg (by omega), if_neg (by omega), prodX_same x (show k ≤ i by omega) (show k ≤ j by omega)]
/-- The product of x less the first k places. -/
def preX (Q : List (Nat × Nat)) (k : Nat) (x : Int) : Int := prodX Q k k x
theorem preX_succ (Q : List (Nat × Nat)) (k : Nat) (x : Int) : preX Q (k + 1) x = (x - ((Q.getD k (0, 0)).1 : Nat)) * preX Q k x := by
  rw [preX, preX, prodX, if_neg (by omega), prodX_same x (show k ≤ k + 1 by omega) (Nat.le_refl k)]
theorem root_step {Q : List (Nat × Nat)} {k : Nat} {L O : List Nat} (h : ∀ x : Int, Zm (evI (zI L) x - preX Q k x)) (h2 : ∀ x : Int, Zm (evI (zI O) x - (x - ((Q.getD k (0, 0)).1 : Nat)) * evI (zI L) x)) : ∀ x : Int, Zm (evI (zI O) x - preX Q (k + 1) x) := fun x => by
  rw [preX_succ]
  exact ((h2 x).add ((h x).mul (x - ((Q.getD k (0, 0)).1 : Nat)))).of (by grind)
/-- The polynomial goes through the first t points. -/
def Pass7 (Q : List (Nat × Nat)) (O : List Nat) (t : Nat) : Prop := ∀ j, j < t → Zm (evI (zI O) ((Q.getD j (0, 0)).1 : Nat) - (((Q.getD j (0, 0)).2 : Nat) : Int))
theorem pass_ne {Q : List (Nat × Nat)} {Z : List Nat} {t : Nat} (hQ : Places Q) (ht : t < Q.length) (hZ : ∀ x : Int, Zm (evI (zI Z) x - preX Q t x)) : valN Z (Q.getD t (0, 0)).1 ≠ 0 := fun e => by
  have h1 := hZ ((Q.getD t (0, 0)).1 : Nat)
  have h2 := valN_ev (Q.getD t (0, 0)).1 Z
  rw [e] at h2
  refine not_inv_zero (prodX_inv hQ ht (k := t) (by omega)) ((h2.sub h1).of ?_)
  show preX Q t _ = _
  simp; grind
theorem pass_step {Q : List (Nat × Nat)} {O O' Z : List Nat} {t f : Nat} (hQ : Places Q) (ht : t < Q.length) (hO : Pass7 Q O t) (hZ : ∀ x : Int, Zm (evI (zI Z) x - preX Q t x))
    (hf : f = (257 + (Q.getD t (0, 0)).2 - valN O (Q.getD t (0, 0)).1) * invN (valN Z (Q.getD t (0, 0)).1) % 257)
    (hO' : ∀ x : Int, Zm (evI (zI O') x - (evI (zI O) x + f * evI (zI Z) x))) : Pass7 Q O' (t + 1) := fun j hj => by
  have h2 := hO' ((Q.getD j (0, 0)).1 : Nat)
  have h3 := hZ ((Q.getD j (0, 0)).1 : Nat)
  by_cases e : j = t
  · subst e
    have hz0 := pass_ne hQ ht hZ
    have hvl := valN_lt Z (Q.getD j (0, 0)).1
    have hol := valN_lt O (Q.getD j (0, 0)).1
    have h4 := inv_zm hz0 hvl
    have hEO := valN_ev (Q.getD j (0, 0)).1 O
    have hEZ := valN_ev (Q.getD j (0, 0)).1 Z
    have h6 : ((f : Nat) : Int) = ((257 + (((Q.getD j (0, 0)).2 : Nat) : Int) - (valN O (Q.getD j (0, 0)).1 : Nat)) * (invN (valN Z (Q.getD j (0, 0)).1) : Nat)) % 257 := by
      rw [hf, Int.natCast_emod, Int.natCast_mul, Int.natCast_sub (by omega)]; rfl
    have h5 := Zm.mod ((257 + (((Q.getD j (0, 0)).2 : Nat) : Int) - (valN O (Q.getD j (0, 0)).1 : Nat)) * (invN (valN Z (Q.getD j (0, 0)).1) : Nat))
    rw [← h6] at h5
    have h7 : Zm 257 := ⟨1, by omega⟩
    refine (((((h2.add hEO).add (hEZ.mul f)).add (h5.mul (valN Z (Q.getD j (0, 0)).1 : Nat))).add (h4.mul (257 + (((Q.getD j (0, 0)).2 : Nat) : Int) - (valN O (Q.getD j (0, 0)).1 : Nat)))).add h7).of ?_
    grind
  · have h1 := hO j (by omega)
    rw [preX, prodX_zero e (by omega)] at h3
    exact ((h1.add h2).add (h3.mul f)).of (by grind)
theorem pass_all {Q : List (Nat × Nat)} {O : List Nat} (hQ : Places Q) (h : Pass7 Q O Q.length) (hl : O.length = Q.length) (hb : ∀ c ∈ O, c < 257) : O = fromN Q := by
  refine (from_eq hQ ⟨hl, hb, fun p hp => ?_⟩).symm
  obtain ⟨j, hj, rfl⟩ := List.mem_iff_getElem.1 hp
  have h1 := h j hj
  rw [show Q.getD j (0, 0) = Q[j] by simp [List.getD, hj]] at h1
  exact valN_of (hQ.2 _ (List.getElem_mem hj)).2 h1
/-- 0 in front: x times the polynomial. -/
theorem ev_front (L : List Nat) (x : Int) : evI (zI (0 :: L)) x = x * evI (zI L) x := by
  show ((0 : Nat) : Int) + x * evI (zI L) x = _
  simp
theorem root_end {O L : List Nat} {a : Nat} (ha : a ≤ 257) (h : ∀ x : Int, Zm (evI (zI O) x - (x * evI (zI L) x + (257 - a : Nat) * evI (zI L) x))) : ∀ x : Int, Zm (evI (zI O) x - (x - a) * evI (zI L) x) := fun x => by
  have h1 := h x
  rw [Int.natCast_sub ha] at h1
  have h2 : Zm (257 * evI (zI L) x) := ⟨_, rfl⟩
  exact (h1.add h2).of (by grind)
theorem ev_back (O : List Nat) (x : Int) : evI (zI (O ++ [0])) x = evI (zI O) x := by
  rw [show zI (O ++ [0]) = zI O ++ [0] by simp [zI], ev_pad]

theorem ris_pair {c : Int} : ∀ {zs : List Int} {l : Int}, risB l c zs = true ↔ zs.Pairwise (· < ·) ∧ ∀ z ∈ zs, l ≤ z ∧ z < c
  | [], l => by simp [risB]
  | k :: r, l => by
    rw [risB]
    split
    · rename_i h
      refine Iff.intro (fun e => absurd e (by decide)) (fun e => ?_)
      have := e.2 k (List.mem_cons_self ..)
      omega
    · rename_i h
      rw [ris_pair, List.pairwise_cons]
      refine ⟨fun ⟨h1, h2⟩ => ⟨⟨fun z hz => by have := h2 z hz; omega, h1⟩, fun z hz => ?_⟩, fun ⟨⟨h1, h2⟩, h3⟩ => ⟨h2, fun z hz => ?_⟩⟩
      · rcases List.mem_cons.1 hz with rfl | hz
        · omega
        · have := h2 z hz; omega
      · have := h1 z hz
        have := h3 z (List.mem_cons_of_mem _ hz)
        omega
theorem rise_le : ∀ {zs : List Int} {l : Int}, risB l 16 zs = true → l ≤ 16 → (zs.length : Int) ≤ 16 - l
  | [], l, _, h => by simp; omega
  | k :: r, l, h, hl => by
    rw [risB] at h
    split at h
    · cases h
    · have := rise_le h (by omega)
      simp; omega
theorem good_eq7 (ps : List (Int × Int)) : (risB 0 16 (ps.map Prod.fst) && allIn (ps.map Prod.snd) 256) = goodPB ps := by
  rw [Bool.eq_iff_iff, Bool.and_eq_true]
  constructor
  · rintro ⟨h1, h2⟩
    have hl := rise_le h1 (by omega)
    rw [List.length_map] at hl
    obtain ⟨h3, h4⟩ := ris_pair.1 h1
    have hm : ∀ p ∈ ps, (0 ≤ p.1 ∧ p.1 ≤ 15) ∧ (0 ≤ p.2 ∧ p.2 ≤ 256) := fun p hp => by
      have a := h4 p.1 (List.mem_map.2 ⟨p, hp, rfl⟩)
      have b := List.all_eq_true.1 h2 p.2 (List.mem_map.2 ⟨p, hp, rfl⟩)
      have b2 : 0 ≤ p.2 ∧ p.2 ≤ 256 := by simpa [inB] using b
      omega
    have e : intL (natL ps) = ps := by
      unfold natL intL
      rw [List.map_map]
      conv => rhs; rw [← List.map_id ps]
      refine List.map_congr_left fun p hp => ?_
      have := hm p hp
      refine Prod.ext ?_ ?_ <;> simp <;> omega
    rw [← e]
    refine goodP_of ⟨?_, fun p hp => ?_⟩ (by simp [natL]; omega)
    · rw [natL, List.pairwise_map]
      rw [List.pairwise_map] at h3
      refine List.Pairwise.imp_of_mem (fun {a b} ha hb hab => ?_) h3
      have := hm a ha
      have := hm b hb
      show a.1.toNat < b.1.toNat
      omega
    · obtain ⟨q, hq, rfl⟩ := List.mem_map.1 hp
      have := hm q hq
      show q.1.toNat < 16 ∧ q.2.toNat < 257
      omega
  · intro h
    obtain ⟨Q, rfl, hQ, _⟩ := goodP_nat h
    refine ⟨ris_pair.2 ⟨?_, fun z hz => ?_⟩, List.all_eq_true.2 fun z hz => ?_⟩
    · rw [intL, List.map_map, List.pairwise_map]
      exact hQ.1.imp (fun {a b} hab => by show ((a.1 : Nat) : Int) < (b.1 : Nat); omega)
    · rw [intL, List.map_map] at hz
      obtain ⟨q, hq, rfl⟩ := List.mem_map.1 hz
      have := (hQ.2 q hq).1
      show (0 : Int) ≤ ((q.1 : Nat) : Int) ∧ ((q.1 : Nat) : Int) < 16
      omega
    · rw [intL, List.map_map] at hz
      obtain ⟨q, hq, rfl⟩ := List.mem_map.1 hz
      have := (hQ.2 q hq).2
      show inB ((q.2 : Nat) : Int) 0 256 = true
      exact inB_true (by omega) (by omega)
theorem all_count (zs : List Int) : ((((zs.filter numB7).length : Nat) : Int) == ((zs.length : Nat) : Int)) = allIn zs 256 := by
  rw [Bool.eq_iff_iff, beq_iff_eq]
  constructor
  · intro h
    have h1 : (zs.filter numB7).length = zs.length := by omega
    refine List.all_eq_true.2 fun z hz => ?_
    exact (List.length_filter_eq_length_iff.1 h1) z hz
  · intro h
    have h1 : (zs.filter numB7).length = zs.length := List.length_filter_eq_length_iff.2 fun z hz => List.all_eq_true.1 h z hz
    omega
theorem filter_snoc {α : Type} {p : α → Bool} {l : List α} {t : Nat} (h : t < l.length) : ((l.take (t + 1)).filter p).length = ((l.take t).filter p).length + (if p l[t] = true then 1 else 0) := by
  rw [List.take_succ_eq_append_getElem h, List.filter_append, List.length_append]
  cases e : p l[t] <;> simp [e]
end Go.Proofs.Ytjifpedhncgieaa

/- EY -/
namespace Go.Proofs.Ytjifpedhncgieaa
open Go.RowKit

set_option maxRecDepth 100000 in
set_option maxHeartbeats 2000000 in
theorem iInv_any (n : Int) (w : World) : Calls Try.prog 26 #[.int .i64 n] w fun e w' => e = .returned (.tuple #[.int .i64 (ivI n), .bool (ivOkB n)]) ∧ w = w' := by
  by_cases h : 1 ≤ n ∧ n ≤ 256
  · obtain ⟨m, rfl⟩ := Int.eq_ofNat_of_zero_le (show 0 ≤ n by omega)
    have hok : ivOkB (m : Int) = true := inB_true h.1 h.2
    have HE : Hid (ivI (m : Int) = ((fInv m 8).1 : Nat) ∧ ivOkB (m : Int) = true) := ⟨by rw [ivI, if_pos hok, Int.toNat_natCast, (fInv_all ⟨m, by omega⟩).resolve_left (by show ¬ m = 0; omega)], hok⟩
    have HB := Lib.hid (fun k => fInv_lt (n := m) (show m < 257 by omega) k)
    have HS : Hid (∀ k, fInv m (k + 1) = ((fInv m k).1 * (fInv m k).2 % 257, (fInv m k).2 * (fInv m k).2 % 257)) := fun k => rfl
    have HF0 : Hid (((fInv m 0).1 : Nat) = 1 ∧ ((fInv m 0).2 : Nat) = m) := ⟨rfl, rfl⟩
    have h1 : ¬ (m : Int) < 1 := by omega
    have h2 : ¬ (257 : Int) ≤ (m : Int) := by omega
    clear hok h
    generalize fInv m = f at *
    go_enter Try.func26, Try.ntmps26
    go_wp2_with fail
    go_loopg [4, 5, 13] 8 (fun gk a b i wr => ∃ k : Nat, k + gk = 8 ∧ i = .int .i64 k ∧ a = .int .i64 ((f k).1 : Nat) ∧ b = .int .i64 ((f k).2 : Nat) ∧ w = wr)
    case atStart => exact ⟨0, by omega, rfl, by rw [HF0.out.1]; rfl, by rw [HF0.out.2], rfl⟩
    case round =>
      obtain ⟨k, hg, rfl, rfl, rfl, rfl⟩ := hrel
      by_cases hlt : k < 8
      · have hki : (k : Int) < 8 := by omega
        obtain ⟨ha, hb⟩ := HB.out k
        have HSk := Lib.hid (HS.out k)
        have HGK : Hid (8 - k - 1 < gk ∧ k + 1 + (8 - k - 1) = 8) := by show _ ∧ _; omega
        obtain ⟨hm0, hm1⟩ := mul_bd (a := (f k).1) (b := (f k).2) (A := 256) (B := 256) (by omega) (by omega)
        obtain ⟨hm2, hm3⟩ := mul_bd (a := (f k).2) (b := (f k).2) (A := 256) (B := 256) (by omega) (by omega)
        have HC : Hid (((f (k + 1)).1 : Int) = ((f k).1 : Int) * ((f k).2 : Int) % 257 ∧ ((f (k + 1)).2 : Int) = ((f k).2 : Int) * ((f k).2 : Int) % 257) := by
          show _ ∧ _
          rw [HSk.out]; simp
        clear hg HSk
        generalize (f k).1 = a at *
        generalize (f k).2 = b at *
        go_wp2_with fail
        go_roundg (8 - k - 1)
        case measure => exact HGK.out.1
        case rel => exact ⟨k + 1, HGK.out.2, by go_num, by rw [HC.out.1], by rw [HC.out.2], rfl⟩
      · obtain rfl : k = 8 := by omega
        have hki : ¬ ((8 : Nat) : Int) < 8 := by omega
        go_wp2_with fail
        go_ret2
        exact ⟨tupNB7 HE.out.1.symm HE.out.2.symm, rfl⟩
  · have hok : ivOkB n = false := inB_false (by omega)
    have HE : Hid (ivI n = 0 ∧ ivOkB n = false) := ⟨by rw [ivI, hok]; rfl, hok⟩
    clear hok
    by_cases h1 : n < 1
    · clear h
      go_enter Try.func26, Try.ntmps26
      go_wp2_with fail
      go_ret2
      exact ⟨tupNB7 HE.out.1.symm HE.out.2.symm, rfl⟩
    · have h2 : (257 : Int) ≤ n := by omega
      clear h
      go_enter Try.func26, Try.ntmps26
      go_wp2_with fail
      go_ret2
      exact ⟨tupNB7 HE.out.1.symm HE.out.2.symm, rfl⟩

set_option maxRecDepth 100000 in
set_option maxHeartbeats 1000000 in
theorem iEval (A : Option Addr) (P : List Nat) (ca x : Nat) (w : World) (ha : Ints w A (zI P)) (hl : P.length ≤ 1000) (hx : x ≤ 15) (hP : ∀ c ∈ P, c < 257) :
    Calls Try.prog 41 #[.slice A P.length ca, .int .i64 x] w fun e w' => e = .returned (.int .i64 (valN P x : Nat)) ∧ w = w' := by
  have HA := Lib.hid ha
  have HP := Lib.hid hP
  clear ha hP
  go_enter Try.func41, Try.ntmps41
  go_wp2_with fail
  go_loopg [5, 6] P.length (fun gk o i wr => gk ≤ P.length ∧ i = .int .i64 ((gk : Int) - 1) ∧ o = .int .i64 (valN (P.drop gk) x : Nat) ∧ w = wr)
  case atStart => exact ⟨Nat.le_refl _, rfl, by rw [List.drop_length]; rfl, rfl⟩
  case round =>
    obtain ⟨hg, rfl, rfl, rfl⟩ := hrel
    cases gk with
    | zero =>
      have h0 : ¬ ((0 : Int) ≤ ((0 : Nat) : Int) - 1) := by omega
      go_wp2_with fail
      go_ret
      exact ⟨rfl, rfl⟩
    | succ g =>
      have hlt : g < P.length := by omega
      have HV := Lib.hid (val_drop x hlt)
      obtain ⟨b1, o1, rfl, hc1⟩ := HA.out.cellN hlt
      have hc := HP.out P[g] (List.getElem_mem hlt)
      have hv := valN_lt (P.drop (g + 1)) x
      obtain ⟨hm0, hm1⟩ := mul_bd (a := valN (P.drop (g + 1)) x) (b := x) (A := 256) (B := 15) (by omega) hx
      have hgi : ((g + 1 : Nat) : Int) - 1 = (g : Int) := by omega
      have hg0 : (0 : Int) ≤ (g : Int) := by omega
      have hgl : (g : Int) < (P.length : Int) := by omega
      generalize P[g] = c at *
      have HV2 : Hid (((valN (P.drop g) x : Nat) : Int) = (((valN (P.drop (g + 1)) x : Nat) : Int) * (x : Int) + (c : Int)) % 257) := by show _ = _; rw [HV.out]; simp
      generalize valN (P.drop (g + 1)) x = v at *
      rw [hgi]
      clear hgi HV
      go_wp2_with fail
      go_roundg g
      case measure => omega
      case rel => exact ⟨by omega, by go_num, by rw [HV2.out], rfl⟩

set_option maxRecDepth 100000 in
set_option maxHeartbeats 1000000 in
theorem iElem (n : Int) (w : World) : Calls Try.prog 68 #[.int .i64 n] w fun e w' => e = .returned (.bool (numB7 n)) ∧ w = w' := by
  by_cases h0 : (0 : Int) ≤ n
  · by_cases h1 : n < 257
    · have HE : Hid (numB7 n = true) := inB_true h0 (by omega)
      go_enter Try.func68, Try.ntmps68
      go_wp2_with fail
      go_ret
      exact ⟨ret_bool (by rw [HE.out]), rfl⟩
    · have HE : Hid (numB7 n = false) := inB_false (by omega)
      go_enter Try.func68, Try.ntmps68
      go_wp2_with fail
      go_ret
      exact ⟨ret_bool (by rw [HE.out]), rfl⟩
  · have HE : Hid (numB7 n = false) := inB_false (by omega)
    go_enter Try.func68, Try.ntmps68
    go_wp2_with fail
    go_ret
    exact ⟨ret_bool (by rw [HE.out]), rfl⟩

set_option maxRecDepth 100000 in
set_option maxHeartbeats 2000000 in
theorem iCountEl (A : Option Addr) (zs : List Int) (ca : Nat) (w : World) (ha : Ints w A zs) (hl : zs.length ≤ 1048576) :
    Calls Try.prog 67 #[.slice A zs.length ca, .func (.func 68) #[] #[]] w fun e w' => e = .returned (.int .i64 ((zs.filter numB7).length : Nat)) ∧ w = w' := by
  have HA := Lib.hid ha
  clear ha
  go_enter Try.func67, Try.ntmps67
  go_wp2_with fail
  go_loopg [5, 10] zs.length (fun gk s i wr => ∃ t : Nat, t + gk = zs.length ∧ i = .int .i64 t ∧ s = .int .i64 (((zs.take t).filter numB7).length : Nat) ∧ w = wr)
  case atStart => exact ⟨0, by omega, rfl, rfl, rfl⟩
  case round =>
    obtain ⟨t, hg, rfl, rfl, rfl⟩ := hrel
    by_cases hlt : t < zs.length
    · have hti : (t : Int) < (zs.length : Int) := by omega
      obtain ⟨b1, o1, rfl, hc1⟩ := HA.out (by rintro rfl; simp at hlt)
      have hz := hc1 t hlt
      rw [show zs.getD t 0 = zs[t] by simp [List.getD, hlt]] at hz
      have HS := Lib.hid (filter_snoc (p := numB7) hlt)
      have hal : ((zs.take t).filter numB7).length ≤ 1048576 := Nat.le_trans (List.length_filter_le _ _) (by rw [List.length_take]; omega)
      have HGK : Hid (zs.length - t - 1 < gk ∧ t + 1 + (zs.length - t - 1) = zs.length) := by show _ ∧ _; omega
      clear hc1 hg
      generalize zs[t] = z at *
      generalize ((zs.take t).filter numB7).length = s at *
      cases he : numB7 z
      · have HS2 : Hid (((zs.take (t + 1)).filter numB7).length = s) := by show _ = _; rw [HS.out, if_neg (by rw [he]; decide)]; rfl
        have HC := Lib.hid (iElem z w)
        rw [he] at HC
        clear he HS
        go_wp2_with (go_at_call 68; refine HC.out.mono ?_; rintro e w' ⟨rfl, rfl⟩)
        go_roundg (zs.length - t - 1)
        case measure => exact HGK.out.1
        case rel => exact ⟨t + 1, HGK.out.2, by go_num, by rw [HS2.out], rfl⟩
      · have HS2 : Hid (((zs.take (t + 1)).filter numB7).length = s + 1) := by show _ = _; rw [HS.out, if_pos he]
        have HC := Lib.hid (iElem z w)
        rw [he] at HC
        clear he HS
        go_wp2_with (go_at_call 68; refine HC.out.mono ?_; rintro e w' ⟨rfl, rfl⟩)
        go_roundg (zs.length - t - 1)
        case measure => exact HGK.out.1
        case rel => exact ⟨t + 1, HGK.out.2, by go_num, by rw [HS2.out]; go_num, rfl⟩
    · obtain rfl : t = zs.length := by omega
      rw [List.take_length]
      have hti : ¬ (zs.length : Int) < (zs.length : Int) := by omega
      go_wp2_with fail
      go_ret
      exact ⟨rfl, rfl⟩

set_option maxRecDepth 100000 in
set_option maxHeartbeats 1000000 in
theorem iElems (A : Option Addr) (zs : List Int) (ca : Nat) (w : World) (ha : Ints w A zs) (hl : zs.length ≤ 1048576) :
    Calls Try.prog 49 #[.slice A zs.length ca] w fun e w' => e = .returned (.bool (allIn zs 256)) ∧ w = w' := by
  have HC := Lib.hid (iCountEl A zs ca w ha hl)
  have HE := Lib.hid (all_count zs)
  clear ha
  generalize (zs.filter numB7).length = c at *
  go_enter Try.func49, Try.ntmps49
  go_wp2_with (go_at_call 67; refine HC.out.mono ?_; rintro e w' ⟨rfl, rfl⟩)
  go_ret
  exact ⟨ret_bool (by rw [← HE.out]), rfl⟩

set_option maxRecDepth 100000 in
set_option maxHeartbeats 1000000 in
theorem iTerms (A : Option Addr) (zs : List Int) (ca : Nat) (w : World) (ha : Ints w A zs) (hl : zs.length ≤ 1048576) :
    Calls Try.prog 40 #[.slice A zs.length ca] w fun e w' => e = .returned (.bool (polB7 zs)) ∧ w = w' := by
  have HC := Lib.hid (iElems A zs ca w ha hl)
  clear ha
  by_cases h0 : (1 : Int) ≤ (zs.length : Int)
  · by_cases h1 : (zs.length : Int) ≤ 8
    · have HE : Hid (polB7 zs = allIn zs 256) := by show _ = _; rw [polB7, inB_true h0 h1]; rfl
      go_enter Try.func40, Try.ntmps40
      go_wp2_with (go_at_call 49; refine HC.out.mono ?_; rintro e w' ⟨rfl, rfl⟩)
      go_ret
      exact ⟨ret_bool HE.out.symm, rfl⟩
    · have HE : Hid (polB7 zs = false) := by show _ = _; rw [polB7, inB_false (by omega)]; rfl
      go_enter Try.func40, Try.ntmps40
      go_wp2_with fail
      go_ret
      exact ⟨ret_bool HE.out.symm, rfl⟩
  · have HE : Hid (polB7 zs = false) := by show _ = _; rw [polB7, inB_false (by omega)]; rfl
    go_enter Try.func40, Try.ntmps40
    go_wp2_with fail
    go_ret
    exact ⟨ret_bool HE.out.symm, rfl⟩
end Go.Proofs.Ytjifpedhncgieaa

/- EZ -/
namespace Go.Proofs.Ytjifpedhncgieaa
open Go.RowKit

/-- One number, whatever it is, appended to a slice of the call's own. -/
theorem app_any7 {ops : Array Oper} {rest : List Oper} {o : Oper} {a : Act} {Q : Exit → Act → World → Prop} (W : World) (base : Nat) (v : Value) (l : List Int) (z : Int) (Bn : Nat) (hBn : Bn = W.heap.size) (hgd : o.guard = none) (s x : Operand)
    (ho : o.op = .call { callee := .builtin .append, args := #[s, x], argTypes := #[23, 23] }) (hs : a.eval s = v) (hx : a.eval x = .slice (some ⟨Bn, 0, none⟩) 1 1)
    (hown : Own W base v l) (hbase : base ≤ W.heap.size) (hlen : l.length ≤ 2000000) (w0 : World) (hb : Below base w0 W)
    (h : ∀ v' w', Hid (Own w' base v' (l ++ [z]) ∧ Below base w0 w' ∧ (W.alloc (.cells #[.int .i64 z] 3)).grownBy w' v.ownBlock) → wpList Try.prog ops Q rest (a.put o.dst v') w') :
    wpList Try.prog ops Q (o :: rest) a (W.alloc (.cells #[.int .i64 z] 3)) := by
  subst hBn
  obtain ⟨i0, hi, hz0, hz1, hz2⟩ := info_parts intInfo
  have hown' : W.ownsRow base 3 1 v l.length (l.map (Value.int .i64)) := hown
  refine wpList_append_own _ hgd s x 23 ho base 3 i0 (.int .i64 0) 1 8 Try.underlying23 hi hz0 hz1 hz2 rfl (by decide) v l.length _ hs (hown'.alloc _) ⟨W.heap.size, 0, none⟩ 1 1 [.int .i64 z] hx rfl (cell_one_new _ _ _) ?_ ?_ ?_ ?_ ?_
  · intro u hu; simp at hu; subst hu; rfl
  · unfold maxLen; omega
  · omega
  · simp; omega
  · intro v' w' h1 h2 _
    refine h v' w' ⟨?_, (hb.alloc hbase _).grown h2 (by simp; omega) (fun g hg => (hown.lt g hg).1), h2⟩
    unfold Own; simpa using h1
theorem mapL_snoc {α : Type} (f : α → Int) {l : List α} {t : Nat} (h : t < l.length) : (l.take (t + 1)).map f = (l.take t).map f ++ [f l[t]] := by
  rw [List.take_succ_eq_append_getElem h, List.map_append]; rfl

set_option maxRecDepth 100000 in
set_option maxHeartbeats 1000000 in
theorem iFnAt (x y : Int) (w : World) : Calls Try.prog 46 #[letV x y] w fun e w' => e = .returned (.int .i64 x) ∧ Below w.heap.size w w' := by
  go_enter Try.func46, Try.ntmps46
  go_wp2_with fail
  go_ret
  exact ⟨rfl, gAlloc _ _⟩

set_option maxRecDepth 100000 in
set_option maxHeartbeats 2000000 in
theorem iMapAt (A : Option Addr) (ls : List (Int × Int)) (ca : Nat) (w : World) (ha : Lets w A ls) (hl : ls.length ≤ 1048576) :
    Calls Try.prog 45 #[.slice A ls.length ca, .func (.func 46) #[] #[]] w fun e w' => ∃ v, e = .returned v ∧ Own w' w.heap.size v (ls.map Prod.fst) ∧ Below w.heap.size w w' := by
  have HA := Lib.hid ha
  clear ha
  go_enter Try.func45, Try.ntmps45
  go_wp2_with fail
  go_loopg [5, 10] ls.length (fun gk v i wr => ∃ k : Nat, k + gk = ls.length ∧ i = .int .i64 k ∧ Own wr w.heap.size v ((ls.take k).map Prod.fst) ∧ Below w.heap.size w wr)
  case atStart => exact ⟨0, by omega, rfl, Own.nil _ _, Below.refl _ _⟩
  case round =>
    obtain ⟨k, hg, rfl, hown, hbel⟩ := hrel
    have HO := Lib.hid hown
    have HB := Lib.hid hbel
    clear hown hbel
    by_cases hlt : k < ls.length
    · have hki : (k : Int) < (ls.length : Int) := by omega
      obtain ⟨b1, o1, rfl, hc1⟩ := (HA.out.below HB.out) (by rintro rfl; simp at hlt)
      obtain ⟨p1, p2⟩ := hc1 k hlt
      have HS := Lib.hid (mapL_snoc Prod.fst hlt)
      have HL : Hid (((ls.take k).map Prod.fst).length ≤ 2000000) := by show _ ≤ _; rw [List.length_map, List.length_take]; omega
      have HGK : Hid (ls.length - k - 1 < gk ∧ k + 1 + (ls.length - k - 1) = ls.length) := by show _ ∧ _; omega
      clear hc1 hg
      generalize (ls.take k).map Prod.fst = M at *
      generalize ls[k] = p at *
      obtain ⟨x, y⟩ := p
      have HO1 := Lib.hid (HO.out.below (gAlloc wr (.cells #[.int .i64 x, .int .i64 y] 32)))
      have HB1 := Lib.hid (below_more HB.out (gAlloc wr (.cells #[.int .i64 x, .int .i64 y] 32)))
      have HC := Lib.hid (fun w => iFnAt x y w)
      clear HO HB
      go_wp2_with fail
      generalize wr.alloc (.cells #[.int .i64 x, .int .i64 y] 32) = W at *
      refine (HC.out W).mono ?_
      rintro e w2 ⟨rfl, hb2⟩
      have HO2 := Lib.hid (HO1.out.below hb2)
      have HB2 := Lib.hid (below_more HB1.out hb2)
      have hs2 := HB2.out.size
      clear hb2 HO1 HB1
      go_wp2_with (at_builtin; refine app_any7 w2 w.heap.size _ M x w2.heap.size rfl rfl _ _ rfl rfl rfl HO2.out hs2 HL.out w HB2.out ?_)
      intro v' w' H'
      go_wp2_with fail
      go_roundg (ls.length - k - 1)
      case measure => exact HGK.out.1
      case rel => exact ⟨k + 1, HGK.out.2, by go_num, by rw [HS.out]; exact H'.out.1, H'.out.2.1⟩
    · obtain rfl : k = ls.length := by omega
      rw [List.take_length] at HO
      have hki : ¬ (ls.length : Int) < (ls.length : Int) := by omega
      obtain ⟨A3, c3, rfl, _⟩ := HO.out.form
      go_wp2_with fail
      go_ret
      exact ⟨_, rfl, by (have h := HO.out; rw [List.length_map] at h; exact h), HB.out⟩

set_option maxRecDepth 100000 in
set_option maxHeartbeats 1000000 in
theorem iFnVal (x y : Int) (w : World) : Calls Try.prog 47 #[letV x y] w fun e w' => e = .returned (.int .i64 y) ∧ Below w.heap.size w w' := by
  go_enter Try.func47, Try.ntmps47
  go_wp2_with fail
  go_ret
  exact ⟨rfl, gAlloc _ _⟩

set_option maxRecDepth 100000 in
set_option maxHeartbeats 2000000 in
theorem iMapVal (A : Option Addr) (ls : List (Int × Int)) (ca : Nat) (w : World) (ha : Lets w A ls) (hl : ls.length ≤ 1048576) :
    Calls Try.prog 45 #[.slice A ls.length ca, .func (.func 47) #[] #[]] w fun e w' => ∃ v, e = .returned v ∧ Own w' w.heap.size v (ls.map Prod.snd) ∧ Below w.heap.size w w' := by
  have HA := Lib.hid ha
  clear ha
  go_enter Try.func45, Try.ntmps45
  go_wp2_with fail
  go_loopg [5, 10] ls.length (fun gk v i wr => ∃ k : Nat, k + gk = ls.length ∧ i = .int .i64 k ∧ Own wr w.heap.size v ((ls.take k).map Prod.snd) ∧ Below w.heap.size w wr)
  case atStart => exact ⟨0, by omega, rfl, Own.nil _ _, Below.refl _ _⟩
  case round =>
    obtain ⟨k, hg, rfl, hown, hbel⟩ := hrel
    have HO := Lib.hid hown
    have HB := Lib.hid hbel
    clear hown hbel
    by_cases hlt : k < ls.length
    · have hki : (k : Int) < (ls.length : Int) := by omega
      obtain ⟨b1, o1, rfl, hc1⟩ := (HA.out.below HB.out) (by rintro rfl; simp at hlt)
      obtain ⟨p1, p2⟩ := hc1 k hlt
      have HS := Lib.hid (mapL_snoc Prod.snd hlt)
      have HL : Hid (((ls.take k).map Prod.snd).length ≤ 2000000) := by show _ ≤ _; rw [List.length_map, List.length_take]; omega
      have HGK : Hid (ls.length - k - 1 < gk ∧ k + 1 + (ls.length - k - 1) = ls.length) := by show _ ∧ _; omega
      clear hc1 hg
      generalize (ls.take k).map Prod.snd = M at *
      generalize ls[k] = p at *
      obtain ⟨x, y⟩ := p
      have HO1 := Lib.hid (HO.out.below (gAlloc wr (.cells #[.int .i64 x, .int .i64 y] 32)))
      have HB1 := Lib.hid (below_more HB.out (gAlloc wr (.cells #[.int .i64 x, .int .i64 y] 32)))
      have HC := Lib.hid (fun w => iFnVal x y w)
      clear HO HB
      go_wp2_with fail
      generalize wr.alloc (.cells #[.int .i64 x, .int .i64 y] 32) = W at *
      refine (HC.out W).mono ?_
      rintro e w2 ⟨rfl, hb2⟩
      have HO2 := Lib.hid (HO1.out.below hb2)
      have HB2 := Lib.hid (below_more HB1.out hb2)
      have hs2 := HB2.out.size
      clear hb2 HO1 HB1
      go_wp2_with (at_builtin; refine app_any7 w2 w.heap.size _ M y w2.heap.size rfl rfl _ _ rfl rfl rfl HO2.out hs2 HL.out w HB2.out ?_)
      intro v' w' H'
      go_wp2_with fail
      go_roundg (ls.length - k - 1)
      case measure => exact HGK.out.1
      case rel => exact ⟨k + 1, HGK.out.2, by go_num, by rw [HS.out]; exact H'.out.1, H'.out.2.1⟩
    · obtain rfl : k = ls.length := by omega
      rw [List.take_length] at HO
      have hki : ¬ (ls.length : Int) < (ls.length : Int) := by omega
      obtain ⟨A3, c3, rfl, _⟩ := HO.out.form
      go_wp2_with fail
      go_ret
      exact ⟨_, rfl, by (have h := HO.out; rw [List.length_map] at h; exact h), HB.out⟩

set_option maxRecDepth 100000 in
set_option maxHeartbeats 2000000 in
theorem iGoodP_any (A : Option Addr) (ls : List (Int × Int)) (ca : Nat) (w : World) (ha : Lets w A ls) (hl : ls.length ≤ 1048576) :
    Calls Try.prog 14 #[.slice A ls.length ca] w fun e w' => e = .returned (.bool (goodPB ls)) ∧ Below w.heap.size w w' := by
  have HA := Lib.hid ha
  have HE := Lib.hid (good_eq7 ls)
  have HM1 := Lib.hid (iMapAt A ls ca w ha hl)
  have HM2 := Lib.hid (fun w h => iMapVal A ls ca w h hl)
  have HL1 : Hid ((ls.map Prod.fst).length = ls.length ∧ (ls.map Prod.snd).length = ls.length) := ⟨List.length_map .., List.length_map ..⟩
  clear ha
  generalize ls.map Prod.fst = F1 at *
  generalize ls.map Prod.snd = F2 at *
  generalize goodPB ls = R at *
  go_enter Try.func14, Try.ntmps14
  go_wp2_with fail
  refine HM1.out.mono ?_
  rintro e w1 ⟨v1, rfl, ho1, hb1⟩
  obtain ⟨A1, c1, rfl, hI1⟩ := ho1.form
  have HI1 := Lib.hid hI1
  have HB1 := Lib.hid hb1
  have HM3 := Lib.hid (HM2.out w1 (HA.out.below hb1))
  clear ho1 hI1 hb1 HM1 HM2
  go_wp2_with fail
  refine HM3.out.mono ?_
  rintro e w2 ⟨v2, rfl, ho2, hb2⟩
  obtain ⟨A2, c2, rfl, hI2⟩ := ho2.form
  have HRi := Lib.hid (iRising A1 F1 c1 16 w2 (HI1.out.below hb2) (by rw [HL1.out.1]; exact hl) (by omega))
  have HEl := Lib.hid (iElems A2 F2 c2 w2 hI2 (by rw [HL1.out.2]; exact hl))
  have HB2 := Lib.hid (below_more HB1.out hb2)
  clear ho2 hI2 hb2 HM3 HI1 HB1 HA
  cases hr : risB 0 16 F1
  · rw [hr] at HRi HE
    have HR : Hid (R = false) := by show _ = _; rw [← HE.out]; rfl
    clear hr HE
    go_wp2_with (go_at_call 48; refine HRi.out.mono ?_; rintro e w' ⟨rfl, rfl⟩)
    go_ret
    exact ⟨ret_bool HR.out.symm, HB2.out⟩
  · rw [hr] at HRi HE
    have HR : Hid (R = allIn F2 256) := by show _ = _; rw [← HE.out]; simp
    clear hr HE
    generalize allIn F2 256 = b2 at *
    go_wp2_with (first
      | (go_at_call 48; refine HRi.out.mono ?_; rintro e w' ⟨rfl, rfl⟩)
      | (go_at_call 49; refine HEl.out.mono ?_; rintro e w' ⟨rfl, rfl⟩))
    go_ret
    exact ⟨ret_bool HR.out.symm, HB2.out⟩

set_option maxRecDepth 100000 in
set_option maxHeartbeats 2000000 in
theorem iEnough7 (k : Int) (A : Option Addr) (ls : List (Int × Int)) (ca : Nat) (w : World) (ha : Lets w A ls) (hl : ls.length ≤ 1048576) :
    Calls Try.prog 52 #[.int .i64 k, .slice A ls.length ca] w fun e w' => e = .returned (.bool (enB7 k ls)) ∧ Below w.heap.size w w' := by
  have HG := Lib.hid (iGoodP_any A ls ca w ha hl)
  clear ha
  by_cases h0 : (1 : Int) ≤ k
  · by_cases h1 : k ≤ 8
    · by_cases h2 : k ≤ (ls.length : Int)
      · have HE : Hid (enB7 k ls = goodPB ls) := by show _ = _; rw [enB7, inB_true h0 h1, decide_eq_true h2]; simp
        generalize goodPB ls = R at *
        go_enter Try.func52, Try.ntmps52
        go_wp2_with (go_at_call 14; refine HG.out.mono ?_; rintro e w1 ⟨rfl, hb1⟩)
        go_ret
        exact ⟨ret_bool HE.out.symm, hb1⟩
      · have HE : Hid (enB7 k ls = false) := by show _ = _; rw [enB7, decide_eq_false h2]; simp
        go_enter Try.func52, Try.ntmps52
        go_wp2_with fail
        go_ret
        exact ⟨ret_bool HE.out.symm, Below.refl _ _⟩
    · have HE : Hid (enB7 k ls = false) := by show _ = _; rw [enB7, inB_false (by omega)]; rfl
      go_enter Try.func52, Try.ntmps52
      go_wp2_with fail
      go_ret
      exact ⟨ret_bool HE.out.symm, Below.refl _ _⟩
  · have HE : Hid (enB7 k ls = false) := by show _ = _; rw [enB7, inB_false (by omega)]; rfl
    go_enter Try.func52, Try.ntmps52
    go_wp2_with fail
    go_ret
    exact ⟨ret_bool HE.out.symm, Below.refl _ _⟩

set_option maxRecDepth 100000 in
set_option maxHeartbeats 2000000 in
theorem iAgFn (q1 q2 g : Nat) (A : Option Addr) (P : List Nat) (ca : Nat) (w : World) (hc : w.cell? ⟨g, 0, none⟩ = some (.slice A P.length ca)) (ha : Ints w A (zI P)) (hl : P.length ≤ 1000) (hP : ∀ c ∈ P, c < 257) (h1 : q1 < 16) :
    Calls Try.prog 55 #[letV q1 q2, .pointer (some ⟨g, 0, none⟩)] w fun e w' => e = .returned (.bool (valN P q1 == q2)) ∧ Below w.heap.size w w' := by
  have hW := gAlloc w (.cells #[.int .i64 q1, .int .i64 q2] 32)
  have hx0 : (w.alloc (.cells #[.int .i64 q1, .int .i64 q2] 32)).cell? ⟨w.heap.size, 0, none⟩ = some (.int .i64 q1) := cell_of_row _ _ 0 _ _ _ (heap_alloc_new _ _)
  have hx1 : (w.alloc (.cells #[.int .i64 q1, .int .i64 q2] 32)).cell? ⟨w.heap.size, 1, none⟩ = some (.int .i64 q2) := cell_of_row _ _ 1 _ _ _ (heap_alloc_new _ _)
  have hc1 : (w.alloc (.cells #[.int .i64 q1, .int .i64 q2] 32)).cell? ⟨g, 0, none⟩ = some (.slice A P.length ca) := cell_in hW hc
  have HV : Hid (∀ n, Calls Try.prog 41 #[.slice A P.length ca, .int .i64 q1] ((w.alloc (.cells #[.int .i64 q1, .int .i64 q2] 32)).drewN n) fun e w' => e = .returned (.int .i64 (valN P q1 : Nat)) ∧ (w.alloc (.cells #[.int .i64 q1, .int .i64 q2] 32)).drewN n = w') :=
    fun n => iEval A P ca q1 _ ((ha.below hW).below (gDrewN n)) hl (by omega) hP
  have HB := Lib.hid hW
  have hNs : w.heap.size ≤ (w.alloc (.cells #[.int .i64 q1, .int .i64 q2] 32)).heap.size := by simp
  have HEq : Hid ((((valN P q1 : Nat) : Int) == (q2 : Int)) = (valN P q1 == q2)) := by
    show _ = _
    rw [Bool.eq_iff_iff, beq_iff_eq, beq_iff_eq]; omega
  clear ha hW hc hP
  generalize valN P q1 = v at *
  go_enter Try.func55, Try.ntmps55
  go_wp2_with fail
  generalize w.alloc (.cells #[.int .i64 q1, .int .i64 q2] 32) = W at *
  generalize hN : w.heap.size = N at *
  have HN := Lib.hid hN
  clear hN
  go_quiet (first
    | (go_at_call 41; exact quiet7 (HV.out _)))
  go_wp2_with fail
  go_ret
  exact ⟨ret_bool HEq.out, by rw [HN.out]; exact HB.out.trans ((gDrewN (w := W) nq).mono hNs)⟩

set_option maxRecDepth 100000 in
set_option maxHeartbeats 4000000 in
theorem iCountAg (A B : Option Addr) (P : List Nat) (Q : List (Nat × Nat)) (g ca cb : Nat) (w : World) (hc : w.cell? ⟨g, 0, none⟩ = some (.slice A P.length ca)) (ha : Ints w A (zI P)) (hb : Lets w B (intL Q)) (hl : P.length ≤ 1000) (hP : ∀ c ∈ P, c < 257) (hQl : Q.length ≤ 1000) (hQ : ∀ q ∈ Q, q.1 < 16 ∧ q.2 < 257) :
    Calls Try.prog 54 #[.slice B Q.length cb, .func (.func 55) #[] #[.pointer (some ⟨g, 0, none⟩)]] w fun e w' => e = .returned (.int .i64 (agreeN P Q : Nat)) ∧ Below w.heap.size w w' := by
  have HA := Lib.hid ha
  have HB := Lib.hid hb
  have HQ := Lib.hid hQ
  have HC := Lib.hid hc
  have HF := Lib.hid (fun q1 q2 w' hc ha h1 => iAgFn q1 q2 g A P ca w' hc ha hl hP h1)
  clear ha hb hQ hP hc
  go_enter Try.func54, Try.ntmps54
  go_wp2_with fail
  go_loopg [5, 10] Q.length (fun gk s i wr => ∃ t : Nat, t + gk = Q.length ∧ i = .int .i64 t ∧ s = .int .i64 (agreeN P (Q.take t) : Nat) ∧ Below w.heap.size w wr)
  case atStart => exact ⟨0, by omega, rfl, rfl, Below.refl _ _⟩
  case round =>
    obtain ⟨t, hg, rfl, rfl, hbel⟩ := hrel
    have HBl := Lib.hid hbel
    clear hbel
    by_cases hlt : t < Q.length
    · have hti : (t : Int) < (Q.length : Int) := by omega
      have hlt' : t < (intL Q).length := by rw [intL_length]; exact hlt
      obtain ⟨b1, o1, rfl, hc1⟩ := (HB.out.below HBl.out) (by intro e0; rw [e0] at hlt'; simp at hlt')
      obtain ⟨p1, p2⟩ := hc1 t hlt'
      rw [intL_at hlt'] at p1 p2
      obtain ⟨hq1, _⟩ := HQ.out Q[t] (List.getElem_mem hlt)
      have HS := Lib.hid (agree_snoc (P := P) hlt)
      have hal : agreeN P (Q.take t) ≤ 1000 := Nat.le_trans (agree_le _ _) (by rw [List.length_take]; omega)
      have HGK : Hid (Q.length - t - 1 < gk ∧ t + 1 + (Q.length - t - 1) = Q.length) := by show _ ∧ _; omega
      clear hc1 hg
      generalize Q[t] = q at *
      generalize agreeN P (Q.take t) = s at *
      have hW := gAlloc wr (.cells #[.int .i64 q.1, .int .i64 q.2] 32)
      have HB1 := Lib.hid (below_more HBl.out hW)
      have HF1 := Lib.hid (HF.out q.1 q.2 _ (cell_in HB1.out HC.out) (HA.out.below HB1.out) hq1)
      clear hW
      by_cases he : valN P q.1 = q.2
      · have HS2 : Hid (agreeN P (Q.take (t + 1)) = s + 1) := by show _ = _; rw [HS.out, if_pos he]
        have hvi : (valN P q.1 == q.2) = true := by simp [he]
        rw [hvi] at HF1
        clear he HS hvi
        go_wp2_with fail
        refine HF1.out.mono ?_
        rintro e w2 ⟨rfl, hb2⟩
        have HB2 := Lib.hid (below_more HB1.out hb2)
        clear hb2
        go_wp2_with fail
        go_roundg (Q.length - t - 1)
        case measure => exact HGK.out.1
        case rel => exact ⟨t + 1, HGK.out.2, by go_num, by rw [HS2.out]; go_num, HB2.out⟩
      · have HS2 : Hid (agreeN P (Q.take (t + 1)) = s) := by show _ = _; rw [HS.out, if_neg he]; rfl
        have hvi : (valN P q.1 == q.2) = false := by simpa using he
        rw [hvi] at HF1
        clear he HS hvi
        go_wp2_with fail
        refine HF1.out.mono ?_
        rintro e w2 ⟨rfl, hb2⟩
        have HB2 := Lib.hid (below_more HB1.out hb2)
        clear hb2
        go_wp2_with fail
        go_roundg (Q.length - t - 1)
        case measure => exact HGK.out.1
        case rel => exact ⟨t + 1, HGK.out.2, by go_num, by rw [HS2.out], HB2.out⟩
    · obtain rfl : t = Q.length := by omega
      rw [List.take_length]
      have hti : ¬ (Q.length : Int) < (Q.length : Int) := by omega
      go_wp2_with fail
      go_ret
      exact ⟨rfl, HBl.out⟩

set_option maxRecDepth 100000 in
set_option maxHeartbeats 4000000 in
theorem iAgree_any (A B : Option Addr) (zs : List Int) (ls : List (Int × Int)) (ca cb : Nat) (w : World) (ha : Ints w A zs) (hb : Lets w B ls) (hl : zs.length ≤ 1048576) (hl2 : ls.length ≤ 1048576) :
    Calls Try.prog 18 #[.slice A zs.length ca, .slice B ls.length cb] w fun e w' => e = .returned (.tuple #[.int .i64 (agI zs ls), .bool (agOkB zs ls)]) ∧ Below w.heap.size w w' := by
  have hmf : ∀ (fn : Fn) (first cap : Array Value) (w : World), (Instr.makeFunc fn first cap).run Try.prog w = .ok (.func fn first cap) w := fun _ _ _ _ => rfl
  have hW := gAlloc w (.cells #[.slice A zs.length ca] 23)
  have hce : (w.alloc (.cells #[.slice A zs.length ca] 23)).cell? ⟨w.heap.size, 0, none⟩ = some (.slice A zs.length ca) := cell_of_row _ _ 0 _ _ _ (heap_alloc_new _ _)
  have HA1 := Lib.hid (ha.below hW)
  have HL1 := Lib.hid (hb.below hW)
  have HT := Lib.hid (iTerms A zs ca _ HA1.out hl)
  have HG := Lib.hid (iGoodP_any B ls cb _ HL1.out hl2)
  have HB1 := Lib.hid hW
  clear ha hb
  cases h1 : polB7 zs
  · have hok : agOkB zs ls = false := by rw [agOkB, h1]; rfl
    have HE : Hid (agI zs ls = 0 ∧ agOkB zs ls = false) := ⟨by rw [agI, hok]; rfl, hok⟩
    rw [h1] at HT
    clear hok h1
    go_enter Try.func18, Try.ntmps18
    go_wp2_with (go_at_call 40; refine HT.out.mono ?_; rintro e w' ⟨rfl, rfl⟩)
    go_ret2
    exact ⟨tupNB7 HE.out.1.symm HE.out.2.symm, HB1.out⟩
  · rw [h1] at HT
    cases h2 : goodPB ls
    · have hok : agOkB zs ls = false := by rw [agOkB, h2]; simp
      have HE : Hid (agI zs ls = 0 ∧ agOkB zs ls = false) := ⟨by rw [agI, hok]; rfl, hok⟩
      rw [h2] at HG
      clear hok h1 h2
      go_enter Try.func18, Try.ntmps18
      go_wp2_with (first
        | (go_at_call 40; refine HT.out.mono ?_; rintro e w' ⟨rfl, rfl⟩)
        | (go_at_call 14; refine HG.out.mono ?_; rintro e w2 ⟨rfl, hb2⟩))
      go_ret2
      exact ⟨tupNB7 HE.out.1.symm HE.out.2.symm, below_more HB1.out hb2⟩
    · have hok : agOkB zs ls = true := by rw [agOkB, h1, h2]; rfl
      rw [h2] at HG
      obtain ⟨P, rfl, hP1, hP8, hP⟩ := pol_nat h1
      obtain ⟨Q, rfl, hQ, hQ16⟩ := goodP_nat h2
      have HE : Hid (agI (zI P) (intL Q) = (agreeN P Q : Nat) ∧ agOkB (zI P) (intL Q) = true) := ⟨by rw [agI, if_pos hok, zI_back, natL_intL], hok⟩
      have HCn := Lib.hid (fun w' hc h1 h2 => iCountAg A B P Q w.heap.size ca cb w' hc h1 h2 (by omega) hP (by omega) hQ.2)
      rw [zI_length] at hce HA1 HL1 HT HG hW HB1 ⊢
      rw [intL_length] at HG ⊢
      clear hok h1 h2 hP hQ
      generalize agreeN P Q = ag at *
      go_enter Try.func18, Try.ntmps18
      go_wp2_with (first
        | (go_at_call 40; refine HT.out.mono ?_; rintro e w' ⟨rfl, rfl⟩)
        | (go_at_call 14; refine HG.out.mono ?_; rintro e w2 ⟨rfl, hb2⟩; (have HQ2 := Lib.hid hb2); clear hb2)
        | (go_at_call 54; refine (HCn.out _ (cell_in HQ2.out hce) (HA1.out.below HQ2.out) (HL1.out.below HQ2.out)).mono ?_; rintro e w3 ⟨rfl, hb3⟩))
      go_ret2
      exact ⟨tupNB7 HE.out.1.symm HE.out.2.symm, below_more (below_more HB1.out HQ2.out) hb3⟩

set_option maxRecDepth 100000 in
set_option maxHeartbeats 1000000 in
theorem iValue_any (A : Option Addr) (zs : List Int) (ca : Nat) (a : Int) (w : World) (ha : Ints w A zs) (hl : zs.length ≤ 1048576) :
    Calls Try.prog 23 #[.slice A zs.length ca, .int .i64 a] w fun e w' => e = .returned (.tuple #[.int .i64 (vaI zs a), .bool (vaOkB zs a)]) ∧ w = w' := by
  have HG := Lib.hid (iTerms A zs ca w ha hl)
  cases h1 : polB7 zs
  · have hok : vaOkB zs a = false := by rw [vaOkB, h1]; rfl
    have HE : Hid (vaI zs a = 0 ∧ vaOkB zs a = false) := ⟨by rw [vaI, hok]; rfl, hok⟩
    rw [h1] at HG
    clear ha hok
    go_enter Try.func23, Try.ntmps23
    go_wp2_with (go_at_call 40; refine HG.out.mono ?_; rintro e w' ⟨rfl, rfl⟩)
    go_ret2
    exact ⟨tupNB7 HE.out.1.symm HE.out.2.symm, rfl⟩
  · rw [h1] at HG
    by_cases h2 : a < 0
    · have hok : vaOkB zs a = false := by rw [vaOkB, show atB7 a = false from inB_false (by omega)]; simp
      have HE : Hid (vaI zs a = 0 ∧ vaOkB zs a = false) := ⟨by rw [vaI, hok]; rfl, hok⟩
      clear ha hok
      go_enter Try.func23, Try.ntmps23
      go_wp2_with (go_at_call 40; refine HG.out.mono ?_; rintro e w' ⟨rfl, rfl⟩)
      go_ret2
      exact ⟨tupNB7 HE.out.1.symm HE.out.2.symm, rfl⟩
    · by_cases h3 : (16 : Int) ≤ a
      · have hok : vaOkB zs a = false := by rw [vaOkB, show atB7 a = false from inB_false (by omega)]; simp
        have HE : Hid (vaI zs a = 0 ∧ vaOkB zs a = false) := ⟨by rw [vaI, hok]; rfl, hok⟩
        clear ha hok
        go_enter Try.func23, Try.ntmps23
        go_wp2_with (go_at_call 40; refine HG.out.mono ?_; rintro e w' ⟨rfl, rfl⟩)
        go_ret2
        exact ⟨tupNB7 HE.out.1.symm HE.out.2.symm, rfl⟩
      · have hok : vaOkB zs a = true := by rw [vaOkB, h1, show atB7 a = true from inB_true (by omega) (by omega)]; rfl
        obtain ⟨P, rfl, hP1, hP8, hP⟩ := pol_nat h1
        obtain ⟨x, rfl⟩ := Int.eq_ofNat_of_zero_le (show 0 ≤ a by omega)
        have HE : Hid (vaI (zI P) (x : Int) = (valN P x : Nat) ∧ vaOkB (zI P) (x : Int) = true) := ⟨by rw [vaI, if_pos hok, zI_back, Int.toNat_natCast], hok⟩
        have HV := Lib.hid (iEval A P ca x w ha (by omega) (by omega) hP)
        rw [zI_length] at HG ⊢
        clear ha hok hP
        generalize valN P x = v at *
        go_enter Try.func23, Try.ntmps23
        go_wp2_with (first
          | (go_at_call 40; refine HG.out.mono ?_; rintro e w' ⟨rfl, rfl⟩)
          | (go_at_call 41; refine HV.out.mono ?_; rintro e w' ⟨rfl, rfl⟩))
        go_ret2
        exact ⟨tupNB7 HE.out.1.symm HE.out.2.symm, rfl⟩

set_option maxRecDepth 100000 in
set_option maxHeartbeats 2000000 in
theorem iPoints_any (A : Option Addr) (zs : List Int) (ca : Nat) (n : Int) (w : World) (ha : Ints w A zs) (hl : zs.length ≤ 1048576) :
    Calls Try.prog 11 #[.slice A zs.length ca, .int .i64 n] w fun e w' => ∃ v, e = .returned (.tuple #[v, .bool (poOkB zs n)]) ∧ OwnPt w' w.heap.size v (poI zs n) ∧ Below w.heap.size w w' := by
  have HG := Lib.hid (iTerms A zs ca w ha hl)
  cases h1 : polB7 zs
  · have hok : poOkB zs n = false := by rw [poOkB, h1]; rfl
    have HE : Hid (poI zs n = []) := by show _ = _; rw [poI, hok]; rfl
    rw [h1] at HG
    rw [hok]
    clear ha hok
    go_enter Try.func11, Try.ntmps11
    go_wp2_with (go_at_call 40; refine HG.out.mono ?_; rintro e w' ⟨rfl, rfl⟩)
    go_ret2
    exact ⟨_, rfl, by rw [HE.out]; exact OwnPt.nil _ _, Below.refl _ _⟩
  · rw [h1] at HG
    by_cases h2 : n < 1
    · have hok : poOkB zs n = false := by rw [poOkB, inB_false (by omega)]; simp
      have HE : Hid (poI zs n = []) := by show _ = _; rw [poI, hok]; rfl
      rw [hok]
      clear ha hok
      go_enter Try.func11, Try.ntmps11
      go_wp2_with (go_at_call 40; refine HG.out.mono ?_; rintro e w' ⟨rfl, rfl⟩)
      go_ret2
      exact ⟨_, rfl, by rw [HE.out]; exact OwnPt.nil _ _, Below.refl _ _⟩
    · by_cases h3 : (16 : Int) < n
      · have hok : poOkB zs n = false := by rw [poOkB, inB_false (by omega)]; simp
        have HE : Hid (poI zs n = []) := by show _ = _; rw [poI, hok]; rfl
        rw [hok]
        clear ha hok
        go_enter Try.func11, Try.ntmps11
        go_wp2_with (go_at_call 40; refine HG.out.mono ?_; rintro e w' ⟨rfl, rfl⟩)
        go_ret2
        exact ⟨_, rfl, by rw [HE.out]; exact OwnPt.nil _ _, Below.refl _ _⟩
      · have hok : poOkB zs n = true := by rw [poOkB, h1, inB_true (by omega) (by omega)]; rfl
        obtain ⟨P, rfl, hP1, hP8, hP⟩ := pol_nat h1
        obtain ⟨m, rfl⟩ := Int.eq_ofNat_of_zero_le (show 0 ≤ n by omega)
        have hm16 : m ≤ 16 := by omega
        have HE : Hid (poI (zI P) (m : Int) = intL (ptsL P m)) := by show _ = _; rw [poI, if_pos hok, zI_back, Int.toNat_natCast]
        have HV := Lib.hid (fun x w h hx => iEval A P ca x w h (by omega) hx hP)
        have HA := Lib.hid ha
        rw [zI_length] at HG ⊢
        rw [hok]
        clear ha hok hP
        go_enter Try.func11, Try.ntmps11
        go_wp2_with (go_at_call 40; refine HG.out.mono ?_; rintro e w' ⟨rfl, rfl⟩)
        go_loopg [6, 20] m (fun gk v i wr => ∃ j : Nat, j + gk = m ∧ i = .int .i64 j ∧ OwnPt wr w.heap.size v (intL (ptsL P j)) ∧ Below w.heap.size w wr)
        case atStart => exact ⟨0, by omega, rfl, OwnPt.nil _ _, Below.refl _ _⟩
        case round =>
          obtain ⟨j, hg, rfl, hown, hbel⟩ := hrel
          have HO := Lib.hid hown
          have HB := Lib.hid hbel
          have hs := hbel.size
          clear hown hbel
          by_cases hlt : j < m
          · have hji : (j : Int) < (m : Int) := by omega
            have HGK : Hid (m - j - 1 < gk ∧ j + 1 + (m - j - 1) = m) := by show _ ∧ _; omega
            have HS : Hid (intL (ptsL P (j + 1)) = intL (ptsL P j) ++ [((j : Int), ((valN P j : Nat) : Int))]) := by show _ = _; rw [pts_snoc, intL_append]; rfl
            have hL : (intL (ptsL P j)).length ≤ 16 := by rw [intL_length, pts_length]; omega
            have HV1 := Lib.hid (HV.out j wr (HA.out.below HB.out) (by omega))
            clear hg
            generalize intL (ptsL P j) = L at *
            generalize valN P j = y at *
            go_wp2_with (first
              | (go_at_call 41; refine HV1.out.mono ?_; rintro e w' ⟨rfl, rfl⟩)
              | (at_builtin; refine app_pt wr w.heap.size _ L (j : Int) (y : Int) wr.heap.size rfl rfl _ _ rfl rfl rfl HO.out hs (by omega) w HB.out ?_))
            intro v' w' H'
            go_wp2_with fail
            go_roundg (m - j - 1)
            case measure => exact HGK.out.1
            case rel => exact ⟨j + 1, HGK.out.2, by go_num, by rw [HS.out]; exact H'.out.1, H'.out.2⟩
          · obtain rfl : j = m := by omega
            have hji : ¬ (j : Int) < (j : Int) := by omega
            obtain ⟨A3, c3, rfl, _⟩ := HO.out.form
            go_wp2_with fail
            go_ret2
            exact ⟨_, rfl, by rw [HE.out]; exact HO.out, HB.out⟩
end Go.Proofs.Ytjifpedhncgieaa

/- EW -/
namespace Go.Proofs.Ytjifpedhncgieaa
open Go.RowKit

theorem Own.block7 {w : World} {base : Nat} {v : Value} {l : List Nat} (h : Own w base v (zI l)) (h0 : l ≠ []) : ∃ g cap, v = .slice (some ⟨g, 0, none⟩) l.length cap ∧ base ≤ g ∧ l.length ≤ cap := by
  have h' := h
  unfold Own at h'
  rw [zI_length] at h'
  rcases h'.2 with ⟨_, hn⟩ | ⟨g, cap, cur, rfl, hb, hg, hle, _⟩
  · exact absurd (List.eq_nil_of_length_eq_zero hn) h0
  · exact ⟨g, cap, rfl, hb, hle⟩

set_option maxRecDepth 100000 in
set_option maxHeartbeats 4000000 in
theorem iRoot (A : Option Addr) (L : List Nat) (ca a : Nat) (w : World) (ha : Ints w A (zI L)) (hl : L.length ≤ 100) (hl1 : 1 ≤ L.length) (ha15 : a ≤ 15) (hL : ∀ c ∈ L, c < 257) :
    Calls Try.prog 69 #[.slice A L.length ca, .int .i64 a] w fun e w' => ∃ v, ∃ O : List Nat, e = .returned v ∧ Own w' w.heap.size v (zI O) ∧ O.length = L.length + 1 ∧ (∀ c ∈ O, c < 257) ∧ (∀ x : Int, Zm (evI (zI O) x - (x - a) * evI (zI L) x)) ∧ Below w.heap.size w w' := by
  have HA := Lib.hid ha
  have HL := Lib.hid hL
  obtain ⟨b0, o0, hA0, _⟩ := ha.cellN (show 0 < L.length by omega)
  subst hA0
  have HCs : Hid (∀ j, j < L.length → (w.alloc (.cells #[.int .i64 0] 3)).cell? ⟨b0, o0 + j, none⟩ = some (.int .i64 ((L.getD j 0 : Nat) : Int))) := fun j hj => by
    obtain ⟨b, o, e, h⟩ := (ha.below (gAlloc w (.cells #[.int .i64 0] 3))).cellN hj
    injection e with e
    injection e with e1 e2
    subst e1; subst e2
    rw [h, show L.getD j 0 = L[j] by simp [List.getD, hj]]
  have HO1 : Hid (Own (w.alloc (.cells #[.int .i64 0] 3)) w.heap.size (.slice (some ⟨w.heap.size, 0, none⟩) 1 1) (zI [0])) := own_one w 0
  have HB1 := Lib.hid (gAlloc w (.cells #[.int .i64 0] 3))
  have hs1 : w.heap.size ≤ (w.alloc (.cells #[.int .i64 0] 3)).heap.size := by simp
  clear ha hL
  go_enter Try.func69, Try.ntmps69
  go_wp2_with (at_builtin; refine app_many _ w.heap.size _ [0] L b0 o0 ca rfl _ _ rfl rfl rfl HCs.out HO1.out hs1 (by simp) (by omega) w HB1.out ?_)
  intro v2 w2 H2
  obtain ⟨ho2, hb2, _⟩ := H2.out
  obtain ⟨g, cap, rfl, hg, hcap⟩ := ho2.block7 (by simp)
  have HO2 := Lib.hid ho2
  have HB2 := Lib.hid hb2
  have hn1 : (0 :: L).length = L.length + 1 := rfl
  have HZ0 : Hid (∀ x : Int, Zm (evI (zI (0 :: L)) x - (x * evI (zI L) x + (257 - a : Nat) * evI (zI (L.take 0)) x))) := fun x => by
    refine Zm.zero.of ?_
    rw [ev_front, List.take_zero, show evI (zI []) x = 0 from rfl]
    grind
  have HOb0 : Hid (∀ c ∈ 0 :: L, c < 257) := fun c hc => by
    rcases List.mem_cons.1 hc with h | h
    · omega
    · exact HL.out c h
  rw [hn1] at HO2 hcap ⊢
  have HLn : Hid ((0 :: L).length = L.length + 1) := hn1
  clear ho2 hb2 H2 HO1 HB1 HCs hs1 hn1
  generalize 0 :: L = O0 at *
  generalize hnn : L.length + 1 = n1 at *
  have HN1 := Lib.hid hnn
  clear hnn
  go_wp2_with fail
  go_loopg [13] L.length (fun gk i wr => ∃ (k : Nat) (O : List Nat), k + gk = L.length ∧ i = .int .i64 k ∧ Own wr w.heap.size (.slice (some ⟨g, 0, none⟩) n1 cap) (zI O) ∧ O.length = n1 ∧ (∀ c ∈ O, c < 257) ∧ (∀ x : Int, Zm (evI (zI O) x - (x * evI (zI L) x + (257 - a : Nat) * evI (zI (L.take k)) x))) ∧ Below w.heap.size w wr)
  case atStart => exact ⟨0, O0, by omega, rfl, HO2.out, HLn.out, HOb0.out, HZ0.out, HB2.out⟩
  case round =>
    obtain ⟨k, O, hgk, rfl, hown, hol, hob, hev, hbel⟩ := hrel
    have HO := Lib.hid hown
    have HB := Lib.hid hbel
    have HOb := Lib.hid hob
    have HEv := Lib.hid hev
    have HOl := Lib.hid hol
    clear hown hbel hob hev hol HO2 HB2 HZ0 HOb0 HLn
    by_cases hlt : k < L.length
    · have hki : (k : Int) < (L.length : Int) := by omega
      have HGK : Hid (L.length - k - 1 < gk ∧ k + 1 + (L.length - k - 1) = L.length) := by show _ ∧ _; omega
      obtain ⟨b1, o1, e1, hc1⟩ := (HA.out.below HB.out).cellN hlt
      injection e1 with e1
      injection e1 with e1 e2
      subst e1; subst e2
      have hcl := HL.out L[k] (List.getElem_mem hlt)
      have hk0 : k < O.length := by have := HN1.out; rw [HOl.out]; omega
      obtain ⟨q0, f0, -, -⟩ := HO.out.at hk0
      have ho0 := HOb.out O[k] (List.getElem_mem hk0)
      have HSt := Lib.hid (plus_step (E := fun x => x * evI (zI L) x) (f := 257 - a) hk0 hlt HEv.out)
      have hne : ((257 : Int) - (a : Int)) = ((257 - a : Nat) : Int) := by omega
      obtain ⟨hm0, hm1⟩ := mul_bd (a := 257 - a) (b := L[k]) (A := 257) (B := 256) (by omega) (by omega)
      have HPut : Hid (∀ z : Nat, z < 257 → Own (wr.setCell ⟨g, k, none⟩ (.int .i64 (z : Nat))) w.heap.size (.slice (some ⟨g, 0, none⟩) n1 cap) (zI (O.set k z)) ∧ (O.set k z).length = n1 ∧ (∀ c ∈ O.set k z, c < 257) ∧ Below w.heap.size w (wr.setCell ⟨g, k, none⟩ (.int .i64 (z : Nat)))) := fun z hz => by
        have s1 := (HO.out.put (j := k) (z : Int)).1
        rw [← zI_set] at s1
        exact ⟨s1, by rw [List.length_set]; exact HOl.out, set_lt HOb.out hz, HB.out.setCell hg _⟩
      have hk0b : (k : Int) < (n1 : Int) := by have := HOl.out; omega
      generalize L[k] = c at *
      generalize O[k] = y0 at *
      have HC0 : Hid (((y0 : Int) + ((257 - a : Nat) : Int) * (c : Int)) % 257 = (((y0 + (257 - a) * c) % 257 : Nat) : Int)) := by show _ = _; simp
      clear hgk HO HB HEv hk0
      go_wp2_with fail
      go_roundg (L.length - k - 1)
      case measure => exact HGK.out.1
      case rel =>
        obtain ⟨p1, p2, p3, p4⟩ := HPut.out ((y0 + (257 - a) * c) % 257) (Nat.mod_lt _ (by decide))
        rw [HC0.out]
        exact ⟨k + 1, _, HGK.out.2, by go_num, p1, p2, p3, HSt.out, p4⟩
    · obtain rfl : k = L.length := by omega
      have hki : ¬ (L.length : Int) < (L.length : Int) := by omega
      rw [List.take_length] at HEv
      have HEnd := Lib.hid (root_end (by omega) HEv.out)
      have HOl2 : Hid (O.length = L.length + 1) := by show _ = _; rw [HN1.out]; exact HOl.out
      go_wp2_with fail
      go_ret
      exact ⟨_, rfl, O, HO.out, HOl2.out, HOb.out, HEnd.out, HB.out⟩
end Go.Proofs.Ytjifpedhncgieaa

/- ET -/
namespace Go.Proofs.Ytjifpedhncgieaa
open Go.RowKit

/-- As app_two; the new slice lies where the old one lay, or in a new block. -/
theorem app_two7 {ops : Array Oper} {rest : List Oper} {o : Oper} {a : Act} {Q : Exit → Act → World → Prop} (W : World) (base : Nat) (v u : Value) (l l2 : List Nat) (z Bn : Nat) (hBn : Bn = W.heap.size) (hgd : o.guard = none) (s x : Operand)
    (ho : o.op = .call { callee := .builtin .append, args := #[s, x], argTypes := #[23, 23] }) (hs : a.eval s = v) (hx : a.eval x = .slice (some ⟨Bn, 0, none⟩) 1 1)
    (hown : Own W base v (zI l)) (hu : Own W base u (zI l2)) (hap : v.ownBlock = none ∨ v.ownBlock ≠ u.ownBlock) (hbase : base ≤ W.heap.size) (hlen : l.length ≤ 1000000) (w0 : World) (hb : Below base w0 W)
    (h : ∀ v' w', Hid (Own w' base v' (zI (l ++ [z])) ∧ Own w' base u (zI l2) ∧ (v'.ownBlock = none ∨ v'.ownBlock ≠ u.ownBlock) ∧ Below base w0 w' ∧ (W.alloc (.cells #[.int .i64 z] 3)).grownBy w' v.ownBlock ∧ ∀ k, v'.ownBlock = some k → v.ownBlock = some k ∨ W.heap.size < k) → wpList Try.prog ops Q rest (a.put o.dst v') w') :
    wpList Try.prog ops Q (o :: rest) a (W.alloc (.cells #[.int .i64 z] 3)) := by
  subst hBn
  obtain ⟨i0, hi, hz0, hz1, hz2⟩ := info_parts intInfo
  refine wpList_append_own_at _ hgd s x 23 ho base 3 i0 (.int .i64 0) 1 8 Try.underlying23 hi hz0 hz1 hz2 rfl (by decide) v l.length _ hs ((ownRow hown).alloc _) ⟨W.heap.size, 0, none⟩ 1 1 [.int .i64 z] hx rfl (cell_one_new _ _ _) ?_ ?_ ?_ ?_ ?_
  · intro y hy; simp at hy; subst hy; rfl
  · unfold maxLen; omega
  · omega
  · simp; omega
  · intro v' w' h1 h2 _ hat
    have hu2 : Own (W.alloc (.cells #[.int .i64 z] 3)) base u (zI l2) := hu.below (gAlloc _ _)
    refine h v' w' ⟨ownApp h1, hu2.kept h2 (gApart hap), ?_, app_below hb hbase hown h2, h2, fun k hk => ?_⟩
    · rcases hat with hat | hat
      · rw [hat]; exact hap
      · refine Or.inr fun e => ?_
        rw [hat] at e
        have := (hu.lt _ e.symm).2
        simp at this
        omega
    · rcases hat with hat | hat
      · left; rw [← hat]; exact hk
      · right
        rw [hat] at hk
        injection hk with hk
        simp at hk
        omega

set_option maxRecDepth 100000 in
set_option maxHeartbeats 16000000 in
theorem iThrough (A : Option Addr) (Q : List (Nat × Nat)) (ca : Nat) (w : World) (ha : Lets w A (intL Q)) (hQ : Places Q) (hl : Q.length ≤ 16) :
    Calls Try.prog 53 #[.slice A Q.length ca] w fun e w' => ∃ v, e = .returned v ∧ Own w' w.heap.size v (zI (fromN Q)) ∧ Below w.heap.size w w' := by
  have HA := Lib.hid ha
  have HStep : Hid (∀ (t : Nat) (O O' Z : List Nat), t < Q.length → Pass7 Q O t → (∀ x : Int, Zm (evI (zI Z) x - preX Q t x)) → (∀ x : Int, Zm (evI (zI O') x - (evI (zI O) x + ((257 + (Q.getD t (0, 0)).2 - valN O (Q.getD t (0, 0)).1) * invN (valN Z (Q.getD t (0, 0)).1) % 257 : Nat) * evI (zI Z) x))) → Pass7 Q O' (t + 1)) :=
    fun t O O' Z h1 h2 h3 h4 => pass_step hQ h1 h2 h3 rfl h4
  have HEnd : Hid (∀ O : List Nat, Pass7 Q O Q.length → O.length = Q.length → (∀ c ∈ O, c < 257) → O = fromN Q) := fun O h1 h2 h3 => pass_all hQ h1 h2 h3
  have HNe : Hid (∀ (t : Nat) (Z : List Nat), t < Q.length → (∀ x : Int, Zm (evI (zI Z) x - preX Q t x)) → valN Z (Q.getD t (0, 0)).1 ≠ 0) := fun t Z h1 h2 => pass_ne hQ h1 h2
  have HQb : Hid (∀ j, j < Q.length → (Q.getD j (0, 0)).1 < 16 ∧ (Q.getD j (0, 0)).2 < 257) := fun j h => by
    rw [show Q.getD j (0, 0) = Q[j] by simp [List.getD, h]]
    exact hQ.2 _ (List.getElem_mem h)
  have HLen : Hid ((intL Q).length = Q.length) := intL_length Q
  have HP0 : Hid (Pass7 Q [] 0) := fun j hj => absurd hj (by omega)
  have HZ0 : Hid (∀ x : Int, Zm (evI (zI [1]) x - preX Q 0 x)) := fun x => by simp [evI, zI, preX, prodX]; exact Zm.zero
  have HO1 := Lib.hid (own_one w 1)
  have HB1 := Lib.hid (gAlloc w (.cells #[.int .i64 ((1 : Nat) : Int)] 3))
  clear ha hQ
  generalize hn : Q.length = n at *
  have HN := Lib.hid hn
  clear hn
  go_enter Try.func53, Try.ntmps53
  go_wp2_with fail
  go_loopg [3, 4, 15] n (fun gk vl vz i wr => ∃ (t : Nat) (O Z : List Nat), t + gk = n ∧ i = .int .i64 t ∧ Own wr w.heap.size vl (zI O) ∧ O.length = t ∧ (∀ c ∈ O, c < 257) ∧ Own wr w.heap.size vz (zI Z) ∧ Z.length = t + 1 ∧ (∀ c ∈ Z, c < 257) ∧ (∀ x : Int, Zm (evI (zI Z) x - preX Q t x)) ∧ Pass7 Q O t ∧ (vl.ownBlock = none ∨ vl.ownBlock ≠ vz.ownBlock) ∧ Below w.heap.size w wr)
  case atStart => exact ⟨0, [], [1], by omega, rfl, Own.nil _ _, rfl, (fun c hc => absurd hc (by simp)), HO1.out, rfl, (fun c hc => by simp at hc; omega), HZ0.out, HP0.out, Or.inl rfl, HB1.out⟩
  case round =>
    obtain ⟨t, O, Z, hg, rfl, hown, hol, hob, hzo, hzl, hzb, hze, hps, hap, hbel⟩ := hrel
    have HO := Lib.hid hown
    have HOl := Lib.hid hol
    have HOb := Lib.hid hob
    have HZo := Lib.hid hzo
    have HZl := Lib.hid hzl
    have HZb := Lib.hid hzb
    have HZe := Lib.hid hze
    have HPs := Lib.hid hps
    have HAp := Lib.hid hap
    have HB := Lib.hid hbel
    clear hown hol hob hzo hzl hzb hze hps hap hbel HO1 HB1 HZ0 HP0
    by_cases hlt : t < n
    · have hti : (t : Int) < (n : Int) := by omega
      have hlt' : t < (intL Q).length := by rw [HLen.out]; exact hlt
      obtain ⟨b1, o1, rfl, hc1⟩ := (HA.out.below HB.out) (by intro e0; rw [e0] at hlt'; simp at hlt')
      obtain ⟨p1, p2⟩ := hc1 t hlt'
      rw [intL_getD hlt'] at p1 p2
      obtain ⟨hx16, hv257⟩ := HQb.out t hlt
      have HGK : Hid (n - t - 1 < gk ∧ t + 1 + (n - t - 1) = n) := by show _ ∧ _; omega
      have HNe1 := Lib.hid (HNe.out t Z hlt HZe.out)
      have HSt := Lib.hid (fun O' => HStep.out t O O' Z hlt HPs.out HZe.out)
      obtain ⟨q, hq⟩ : ∃ q : Nat × Nat, Q.getD t (0, 0) = q := ⟨_, rfl⟩
      rw [hq] at p1 p2 hx16 hv257 HNe1 HSt
      have HQt := Lib.hid hq
      clear hc1 hg hlt' hq
      obtain ⟨gz, cz, rfl, hgz, -⟩ := HZo.out.block7 (by intro e0; have := HZl.out; rw [e0] at this; simp at this)
      obtain ⟨Al, cl, hvl, hIl⟩ := HO.out.form
      rw [zI_length] at hvl
      have HVl := Lib.hid hvl
      have HLt := Lib.hid HO.out.lt
      have hW := gAlloc wr (.cells #[.int .i64 q.1, .int .i64 q.2] 32)
      have hx0 : (wr.alloc (.cells #[.int .i64 q.1, .int .i64 q.2] 32)).cell? ⟨wr.heap.size, 0, none⟩ = some (.int .i64 q.1) := cell_of_row _ _ 0 _ _ _ (heap_alloc_new _ _)
      have hx1 : (wr.alloc (.cells #[.int .i64 q.1, .int .i64 q.2] 32)).cell? ⟨wr.heap.size, 1, none⟩ = some (.int .i64 q.2) := cell_of_row _ _ 1 _ _ _ (heap_alloc_new _ _)
      have HX0 := Lib.hid hx0
      have HOW := Lib.hid (HO.out.below hW)
      have HZW := Lib.hid (HZo.out.below hW)
      have HBW := Lib.hid (below_more HB.out hW)
      have hsW : wr.heap.size < (wr.alloc (.cells #[.int .i64 q.1, .int .i64 q.2] 32)).heap.size := by simp
      have HEz := Lib.hid (iEval (some ⟨gz, 0, none⟩) Z cz q.1 _ (own_ints7 HZW.out) (by rw [HZl.out]; omega) (by omega) HZb.out)
      have HEl := Lib.hid (fun k => iEval Al O cl q.1 _ ((hIl.below hW).below (gDrewN k)) (by rw [HOl.out]; omega) (by omega) HOb.out)
      have hzv := valN_lt Z q.1
      have hov := valN_lt O q.1
      have hzn : (1 : Int) ≤ ((valN Z q.1 : Nat) : Int) ∧ ((valN Z q.1 : Nat) : Int) ≤ 256 := by have := HNe1.out; omega
      have hivl := powM_lt (valN Z q.1) 255
      rw [show powM (valN Z q.1) 255 = invN (valN Z q.1) from rfl] at hivl
      have HIv : Hid (∀ w', Calls Try.prog 26 #[.int .i64 ((valN Z q.1 : Nat) : Int)] w' fun e w'' => e = .returned (.tuple #[.int .i64 ((invN (valN Z q.1) : Nat) : Int), .bool true]) ∧ w' = w'') := fun w' => by
        have hok : ivOkB ((valN Z q.1 : Nat) : Int) = true := inB_true hzn.1 hzn.2
        have h := iInv_any ((valN Z q.1 : Nat) : Int) w'
        rw [hok, show ivI ((valN Z q.1 : Nat) : Int) = ((invN (valN Z q.1) : Nat) : Int) by rw [ivI, if_pos hok, Int.toNat_natCast]] at h
        exact h
      clear hW hIl hzn HNe1
      generalize invN (valN Z q.1) = iv at *
      generalize valN Z q.1 = v at *
      generalize valN O q.1 = u at *
      obtain ⟨d, hd⟩ : ∃ d : Nat, (257 : Int) + (q.2 : Int) - (u : Int) = (d : Int) := ⟨257 + q.2 - u, by omega⟩
      have hdn : 257 + q.2 - u = d := by omega
      rw [hdn] at HSt
      obtain ⟨hm0, hm1⟩ := mul_bd (a := d) (b := iv) (A := 513) (B := 256) (by omega) (by omega)
      have HFn : Hid ((d : Int) * (iv : Int) % 257 = ((d * iv % 257 : Nat) : Int)) := by show _ = _; simp
      clear hdn
      rw [hvl]
      clear hvl
      go_wp2_with fail
      generalize wr.alloc (.cells #[.int .i64 q.1, .int .i64 q.2] 32) = W at *
      generalize hX : wr.heap.size = X at *
      have HXe := Lib.hid hX
      clear hX
      refine HEz.out.mono ?_
      rintro e w' ⟨rfl, rfl⟩
      go_wp2_with fail
      refine (HIv.out _).mono ?_
      rintro e w' ⟨rfl, rfl⟩
      go_wp2_with fail
      go_quiet (first
        | (go_at_call 41; exact quiet7 (HEl.out _)))
      rw [HFn.out]
      have hf257 : d * iv % 257 < 257 := Nat.mod_lt _ (by decide)
      generalize d * iv % 257 = f at *
      have HOd : Hid (Own (W.drewN nq) w.heap.size (.slice Al O.length cl) (zI O)) := by
        have h := HOW.out.below (gDrewN nq)
        rw [HVl.out] at h
        exact h
      have HZd := Lib.hid (HZW.out.below (gDrewN nq))
      have HBd := Lib.hid (below_more HBW.out (gDrewN nq))
      have HApd : Hid ((Value.slice Al O.length cl).ownBlock = none ∨ (Value.slice Al O.length cl).ownBlock ≠ (Value.slice (some ⟨gz, 0, none⟩) Z.length cz).ownBlock) := by
        have h := HAp.out
        rw [HVl.out] at h
        exact h
      have HLtd : Hid (∀ k, (Value.slice Al O.length cl).ownBlock = some k → k < X) := fun k hk => (HLt.out k (by rw [HVl.out]; exact hk)).2
      have hsd : w.heap.size ≤ (W.drewN nq).heap.size := HBd.out.size
      have HX0d : Hid ((W.drewN nq).cell? ⟨X, 0, none⟩ = some (.int .i64 q.1)) := cell_in (gDrewN nq) HX0.out
      have hXs : X < (W.drewN nq).heap.size := Nat.lt_of_lt_of_le hsW (gDrewN (w := W) nq).size
      have HOm : Hid ((O ++ [0]).length = Z.length) := by show _ = _; rw [List.length_append, HOl.out, HZl.out]; rfl
      have HObn : Hid (∀ c ∈ O ++ [0], c < 257) := fun c hc => by
        rcases List.mem_append.1 hc with h | h
        · exact HOb.out c h
        · simp at h; omega
      have HEv0 : Hid (∀ x : Int, Zm (evI (zI (O ++ [0])) x - (evI (zI O) x + f * evI (zI (Z.take 0)) x))) := fun x => by
        refine Zm.zero.of ?_
        rw [ev_back, List.take_zero, show evI (zI []) x = 0 from rfl]
        grind
      have HTk : Hid (Z.take Z.length = Z) := List.take_length
      have HOl16 : Hid (O.length ≤ 1000000) := by show _ ≤ _; rw [HOl.out]; omega
      clear HOW HZW HBW HAp HLt HX0 hx0 hx1 hsW HEz HEl HIv hm0 hm1 HFn HVl hd HO HZo HB p1 p2
      generalize W.drewN nq = Wd at *
      have hZm : 1 ≤ Z.length := by rw [HZl.out]; omega
      have hZ17 : Z.length ≤ 17 := by rw [HZl.out]; omega
      generalize hm : Z.length = m at *
      have HM := Lib.hid hm
      clear hm
      have HPl : Hid (∀ (j : Nat) (O' : List Nat) (h1 : j < O'.length) (h2 : j < Z.length), (∀ x : Int, Zm (evI (zI O') x - (evI (zI O) x + f * evI (zI (Z.take j)) x))) → ∀ x : Int, Zm (evI (zI (O'.set j ((O'[j] + f * Z[j]) % 257))) x - (evI (zI O) x + f * evI (zI (Z.take (j + 1))) x))) :=
        fun j O' h1 h2 h => plus_step (E := fun x => evI (zI O) x) h1 h2 h
      go_wp2_with (at_builtin; refine app_two7 Wd w.heap.size _ (.slice (some ⟨gz, 0, none⟩) m cz) O Z 0 Wd.heap.size rfl rfl _ _ rfl rfl rfl HOd.out HZd.out HApd.out hsd HOl16.out w HBd.out ?_)
      intro v3 w3 H3
      obtain ⟨ho3, hz3, hap3, hb3, hgr3, hat3⟩ := H3.out
      obtain ⟨gl, cl3, rfl, hgl, -⟩ := ho3.block7 (by simp)
      have hgne : gl ≠ gz := by
        rcases hap3 with h | h
        · cases h
        · exact fun e => h (by subst e; rfl)
      have hglX : gl ≠ X := by
        intro e
        rcases hat3 gl rfl with h | h
        · have := HLtd.out gl h
          omega
        · omega
      have HX3 : Hid (w3.cell? ⟨X, 0, none⟩ = some (.int .i64 q.1)) := hgr3.cell (cell_in (gAlloc _ _) HX0d.out) (by intro e; have := HLtd.out X e.symm; omega)
      rw [HOm.out] at ho3 ⊢
      have HO3 := Lib.hid ho3
      have HZ3 := Lib.hid hz3
      have HB3 := Lib.hid hb3
      clear ho3 hz3 hap3 hb3 hgr3 hat3 H3 HOd HZd HBd HApd HLtd HX0d
      go_wp2_with fail
      go_loopg [43] m (fun g3 i wy => ∃ (j : Nat) (O' : List Nat), j + g3 = m ∧ i = .int .i64 j ∧ Own wy w.heap.size (.slice (some ⟨gl, 0, none⟩) m cl3) (zI O') ∧ O'.length = m ∧ (∀ c ∈ O', c < 257) ∧ (∀ x : Int, Zm (evI (zI O') x - (evI (zI O) x + f * evI (zI (Z.take j)) x))) ∧ Own wy w.heap.size (.slice (some ⟨gz, 0, none⟩) m cz) (zI Z) ∧ wy.cell? ⟨X, 0, none⟩ = some (.int .i64 q.1) ∧ Below w.heap.size w wy)
      case atStart => exact ⟨0, O ++ [0], by omega, rfl, HO3.out, HOm.out, HObn.out, HEv0.out, HZ3.out, HX3.out, HB3.out⟩
      case round =>
        obtain ⟨j, O', hg3, rfl, hown, hol, hob, hev, hlo, hxc, hbel⟩ := hrel
        have HO' := Lib.hid hown
        have HOl' := Lib.hid hol
        have HOb' := Lib.hid hob
        have HEv := Lib.hid hev
        have HLo := Lib.hid hlo
        have HXc := Lib.hid hxc
        have HBy := Lib.hid hbel
        clear hown hol hob hev hlo hxc hbel HO3 HZ3 HB3 HX3 HEv0 HObn
        by_cases hlt3 : j < m
        · have hji : (j : Int) < (m : Int) := by omega
          have hjL : j < Z.length := by rw [HM.out]; exact hlt3
          have hjO : j < O'.length := by rw [HOl'.out]; exact hlt3
          obtain ⟨b6, o6, e6, hc6⟩ := (own_ints7 HLo.out).cellN hjL
          injection e6 with e6
          injection e6 with e6 e7
          subst e6; subst e7
          rw [Nat.zero_add] at hc6
          have hcl := HZb.out Z[j] (List.getElem_mem hjL)
          obtain ⟨q0, f0, -, -⟩ := HO'.out.at hjO
          have ho0 := HOb'.out O'[j] (List.getElem_mem hjO)
          have HSt3 := Lib.hid (HPl.out j O' hjO hjL HEv.out)
          have HGK3 : Hid (m - j - 1 < gk ∧ j + 1 + (m - j - 1) = m) := by show _ ∧ _; omega
          have HPut : Hid (∀ z : Nat, z < 257 → Own (wr.setCell ⟨gl, j, none⟩ (.int .i64 (z : Nat))) w.heap.size (.slice (some ⟨gl, 0, none⟩) m cl3) (zI (O'.set j z)) ∧ (O'.set j z).length = m ∧ (∀ c ∈ O'.set j z, c < 257) ∧ Own (wr.setCell ⟨gl, j, none⟩ (.int .i64 (z : Nat))) w.heap.size (.slice (some ⟨gz, 0, none⟩) m cz) (zI Z) ∧ (wr.setCell ⟨gl, j, none⟩ (.int .i64 (z : Nat))).cell? ⟨X, 0, none⟩ = some (.int .i64 q.1) ∧ Below w.heap.size w (wr.setCell ⟨gl, j, none⟩ (.int .i64 (z : Nat)))) := fun z hz => by
            obtain ⟨s1, s2⟩ := HO'.out.put (j := j) (z : Int)
            rw [← zI_set] at s1
            refine ⟨s1, by rw [List.length_set]; exact HOl'.out, set_lt HOb'.out hz, HLo.out.kept s2 ?_, s2.cell HXc.out (by intro e; injection e with e; exact hglX e.symm), HBy.out.setCell hgl _⟩
            right
            intro e
            injection e with e
            exact hgne e.symm
          generalize Z[j] = c at *
          generalize O'[j] = y at *
          obtain ⟨hm0, hm1⟩ := mul_bd (a := f) (b := c) (A := 256) (B := 256) (by omega) (by omega)
          have HCy : Hid (((y : Int) + (f : Int) * (c : Int)) % 257 = (((y + f * c) % 257 : Nat) : Int)) := by show _ = _; simp
          clear hg3 hjL hjO HO' HLo HBy HEv HXc
          go_wp2_with fail
          go_roundg (m - j - 1)
          case measure => exact HGK3.out.1
          case rel =>
            obtain ⟨s1, s2, s3, s4, s5, s6⟩ := HPut.out ((y + f * c) % 257) (Nat.mod_lt _ (by decide))
            rw [HCy.out]
            exact ⟨j + 1, _, HGK3.out.2, by go_num, s1, s2, s3, HSt3.out, s4, s5, s6⟩
        · have hjm : m = j := by omega
          subst hjm
          have hji : ¬ (m : Int) < (m : Int) := by omega
          have HT := Lib.hid (HSt.out O' (by
            have h := HEv.out
            rw [HTk.out] at h
            exact h))
          have hxc := HXc.out
          have HRt := Lib.hid (iRoot (some ⟨gz, 0, none⟩) Z cz q.1 wr (own_ints7 HLo.out) (by rw [HM.out]; omega) (by rw [HM.out]; omega) (by omega) HZb.out)
          rw [HM.out] at HRt
          have HLtO := Lib.hid HO'.out.lt
          clear HEv HLo HXc HPl
          go_wp2_with fail
          refine HRt.out.mono ?_
          rintro e w5 ⟨v5, O5, rfl, ho5, hl5, hb5, hev5, hbel5⟩
          have HO5 := Lib.hid (ho5.lower HBy.out.size)
          have HL5 : Hid (O5.length = t + 1 + 1) := by show _ = _; rw [hl5, HZl.out]
          have HE5 := Lib.hid (root_step HZe.out (by rw [HQt.out]; exact hev5))
          have HB5 := Lib.hid (below_more HBy.out hbel5)
          have HBb := Lib.hid hb5
          have HO6 := Lib.hid (HO'.out.below hbel5)
          have HOl6 : Hid (O'.length = t + 1) := by show _ = _; rw [HOl'.out, HZl.out]
          have HAp6 : Hid ((Value.slice (some ⟨gl, 0, none⟩) m cl3).ownBlock = none ∨ (Value.slice (some ⟨gl, 0, none⟩) m cl3).ownBlock ≠ v5.ownBlock) := Or.inr fun e => by
            have h1 := (HLtO.out gl rfl).2
            have h2 := (ho5.lt gl e.symm).1
            omega
          obtain ⟨A5, c5, rfl, _⟩ := ho5.form
          clear ho5 hl5 hb5 hev5 hbel5 HRt hxc HLtO
          go_wp2_with fail
          go_roundg (n - t - 1)
          case measure => exact HGK.out.1
          case rel => exact ⟨t + 1, O', O5, HGK.out.2, by go_num, HO6.out, HOl6.out, HOb'.out, HO5.out, HL5.out, HBb.out, HE5.out, HT.out, HAp6.out, HB5.out⟩
    · obtain rfl : t = n := by omega
      have hti : ¬ (t : Int) < (t : Int) := by omega
      have HE : Hid (O = fromN Q) := HEnd.out O HPs.out HOl.out HOb.out
      obtain ⟨Al, cl, rfl, _⟩ := HO.out.form
      go_wp2_with fail
      go_ret
      rw [← HE.out]
      exact ⟨_, rfl, HO.out, HB.out⟩
end Go.Proofs.Ytjifpedhncgieaa

/- EU -/
namespace Go.Proofs.Ytjifpedhncgieaa
open Go.RowKit

set_option maxRecDepth 100000 in
set_option maxHeartbeats 2000000 in
theorem iFrom_any (k : Int) (A : Option Addr) (ps : List (Int × Int)) (ca : Nat) (w : World) (ha : Lets w A ps) (hl : ps.length ≤ 1048576) (hca : ps.length ≤ ca) :
    Calls Try.prog 17 #[.int .i64 k, .slice A ps.length ca] w fun e w' => ∃ v, e = .returned (.tuple #[v, .bool (enB7 k ps)]) ∧ Own w' w.heap.size v (frI k ps) ∧ Below w.heap.size w w' := by
  have HG := Lib.hid (iEnough7 k A ps ca w ha hl)
  cases h : enB7 k ps
  · have HE : Hid (frI k ps = []) := by show _ = _; rw [frI, h]; rfl
    rw [h] at HG
    clear ha h
    go_enter Try.func17, Try.ntmps17
    go_wp2_with fail
    refine HG.out.mono ?_
    rintro e w1 ⟨rfl, hb1⟩
    go_wp2_with fail
    go_ret2
    exact ⟨_, rfl, by rw [HE.out]; exact Own.nil _ _, hb1⟩
  · rw [h] at HG
    obtain ⟨m, Q, rfl, rfl, hm1, hm8, hmQ, hQ16, hQ⟩ := en_nat h
    have HE : Hid (frI (m : Int) (intL Q) = zI (fromN (Q.take m))) := by show _ = _; rw [frI, if_pos h, natL_intL, Int.toNat_natCast]
    have htl : (Q.take m).length = m := by rw [List.length_take]; omega
    have HF := Lib.hid (fun w' (h' : Lets w' A (intL Q)) => iThrough A (Q.take m) ca w' (by rw [← intL_take]; exact h'.take7 m) (hQ.take m) (by omega))
    rw [htl] at HF
    have HA := Lib.hid ha
    rw [intL_length] at HG hca ⊢
    have hmc : m ≤ ca := by omega
    clear ha h hQ htl
    generalize fromN (Q.take m) = V at *
    go_enter Try.func17, Try.ntmps17
    go_wp2_with fail
    refine HG.out.mono ?_
    rintro e w1 ⟨rfl, hb1⟩
    have HB1 := Lib.hid hb1
    clear hb1
    go_wp2_with fail
    refine (HF.out w1 (HA.out.below HB1.out)).mono ?_
    rintro e w2 ⟨v2, rfl, ho2, hb2⟩
    have HO2 := Lib.hid (ho2.lower HB1.out.size)
    have HB2 := Lib.hid (below_more HB1.out hb2)
    obtain ⟨A2, c2, rfl, _⟩ := ho2.form
    clear ho2 hb2
    go_wp2_with fail
    go_ret2
    exact ⟨_, rfl, by rw [HE.out]; exact HO2.out, HB2.out⟩


theorem ag_yes {F : List Nat} {Q : List (Nat × Nat)} (h1 : 1 ≤ F.length) (h8 : F.length ≤ 8) (hb : ∀ c ∈ F, c < 257) (hQ : goodPB (intL Q) = true) : agOkB (zI F) (intL Q) = true ∧ agI (zI F) (intL Q) = (agreeN F Q : Nat) := by
  have hp : polB7 (zI F) = true := by
    rw [polB7, zI_length, inB_true (by omega) (by omega), Bool.true_and]
    refine List.all_eq_true.2 fun z hz => ?_
    obtain ⟨c, hc, rfl⟩ := List.mem_map.1 hz
    have := hb c hc
    exact inB_true (by omega) (by omega)
  have hok : agOkB (zI F) (intL Q) = true := by rw [agOkB, hp, hQ]; rfl
  exact ⟨hok, by rw [agI, if_pos hok, zI_back, natL_intL]⟩
theorem good7 {m n : Nat} (h1 : 1 ≤ m) (h2 : m ≤ 16) (hn : n < 2 ^ m) : goodB m n = true := by
  have h : ((n : Nat) : Int) < (2 : Int) ^ m := by
    have : (2 : Int) ^ m = ((2 ^ m : Nat) : Int) := by simp
    omega
  rw [goodB, wideB_true (by omega) (by omega), Int.toNat_natCast, decide_eq_true (show (0 : Int) ≤ ((n : Nat) : Int) by omega), decide_eq_true h]; rfl

end Go.Proofs.Ytjifpedhncgieaa
