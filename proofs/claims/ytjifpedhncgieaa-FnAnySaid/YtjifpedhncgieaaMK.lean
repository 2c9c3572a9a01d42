/-
  MI: Plain mathematics of chapter 7: polynomials modulo 257; a polynomial with k coefficients is determined by k points.
  MJ: Plain mathematics of chapter 7: a polynomial through given points is there (Lagrange); the steps by which the model reckons it.
-/
import Derived.Test.YtjifpedhncgieaaT1

/- MI -/
namespace Go.Proofs.Ytjifpedhncgieaa

/-- A multiple of 257. -/
def Zm (a : Int) : Prop := ∃ k : Int, a = 257 * k
theorem Zm.zero : Zm 0 := ⟨0, by omega⟩
theorem Zm.add {a b : Int} (h : Zm a) (k : Zm b) : Zm (a + b) := by
  obtain ⟨x, rfl⟩ := h; obtain ⟨y, rfl⟩ := k
  exact ⟨x + y, by grind⟩
theorem Zm.sub {a b : Int} (h : Zm a) (k : Zm b) : Zm (a - b) := by
  obtain ⟨x, rfl⟩ := h; obtain ⟨y, rfl⟩ := k
  exact ⟨x - y, by grind⟩
theorem Zm.mul {a : Int} (h : Zm a) (c : Int) : Zm (c * a) := by
  obtain ⟨x, rfl⟩ := h
  exact ⟨c * x, by grind⟩
theorem Zm.of {a b : Int} (h : Zm a) (e : b = a) : Zm b := by rw [e]; exact h
theorem Zm.mod (a : Int) : Zm (a % 257 - a) := ⟨-(a / 257), by omega⟩
theorem zm_iff (a : Int) : Zm a ↔ a % 257 = 0 := ⟨fun ⟨k, e⟩ => by omega, fun h => ⟨a / 257, by omega⟩⟩
theorem zm_eq {a b : Nat} (ha : a < 257) (hb : b < 257) (h : Zm ((a : Int) - b)) : a = b := by
  obtain ⟨k, e⟩ := h
  omega
/-- A number that has an inverse. -/
def Inv7 (d : Int) : Prop := ∃ e : Int, Zm (d * e - 1)
theorem Inv7.mul {a b : Int} (h : Inv7 a) (k : Inv7 b) : Inv7 (a * b) := by
  obtain ⟨x, hx⟩ := h; obtain ⟨y, hy⟩ := k
  exact ⟨x * y, ((hx.mul (b * y)).add hy).of (by grind)⟩
theorem Inv7.neg {a : Int} (h : Inv7 a) : Inv7 (-a) := by
  obtain ⟨x, hx⟩ := h
  exact ⟨-x, hx.of (by grind)⟩
theorem Inv7.congr {a b : Int} (h : Inv7 a) (k : Zm (b - a)) : Inv7 b := by
  obtain ⟨x, hx⟩ := h
  exact ⟨x, (hx.add (k.mul x)).of (by grind)⟩
theorem Inv7.cancel {d q : Int} (h : Inv7 d) (k : Zm (d * q)) : Zm q := by
  obtain ⟨e, he⟩ := h
  exact ((k.mul e).sub (he.mul q)).of (by grind)
def powM (n : Nat) : Nat → Nat
  | 0 => 1
  | k + 1 => powM n k * n % 257
theorem powM_lt (n : Nat) : ∀ k, powM n k < 257
  | 0 => by rw [powM]; decide
  | k + 1 => Nat.mod_lt _ (by decide)
def invN (n : Nat) : Nat := powM n 255
theorem inv_all : ∀ n : Fin 257, n.1 = 0 ∨ n.1 * invN n.1 % 257 = 1 := by decide +kernel
theorem inv_ok {n : Nat} (h0 : n ≠ 0) (h : n < 257) : n * invN n % 257 = 1 := (inv_all ⟨n, h⟩).resolve_left h0
theorem inv_zm {n : Nat} (h0 : n ≠ 0) (h : n < 257) : Zm ((n : Int) * (invN n : Nat) - 1) := by
  have := inv_ok h0 h
  refine ⟨((n * invN n / 257 : Nat) : Int), ?_⟩
  have h2 := Nat.div_add_mod (n * invN n) 257
  have h3 : ((n * invN n : Nat) : Int) = (n : Int) * (invN n : Nat) := by simp
  omega
theorem inv_nat {n : Nat} (h0 : n ≠ 0) (h : n < 257) : Inv7 (n : Int) := ⟨_, inv_zm h0 h⟩
theorem not_inv_zero {d : Int} (h : Inv7 d) : ¬ Zm d := fun k => by
  obtain ⟨e, x, he⟩ := h
  obtain ⟨y, rfl⟩ := k
  have : 257 * (y * e - x) = 1 := by grind
  omega

/-- The value at x of a polynomial, reckoned in the integers. -/
def evI : List Int → Int → Int
  | [], _ => 0
  | c :: l, x => c + x * evI l x
/-- The polynomial less its value at a, divided by x - a. -/
def divA (a : Int) : List Int → List Int
  | [] => []
  | [_] => []
  | _ :: d :: h => evI (d :: h) a :: divA a (d :: h)
theorem divA_length (a : Int) : ∀ l, (divA a l).length = l.length - 1
  | [] => rfl
  | [_] => rfl
  | _ :: d :: h => by rw [divA, List.length_cons, divA_length a (d :: h)]; simp
theorem div_ev (a x : Int) : ∀ l, evI l x = (x - a) * evI (divA a l) x + evI l a
  | [] => by simp [evI, divA]
  | [c] => by simp [evI, divA]
  | c :: d :: h => by
    have ih := div_ev a x (d :: h)
    show c + x * evI (d :: h) x = (x - a) * (evI (d :: h) a + x * evI (divA a (d :: h)) x) + (c + a * evI (d :: h) a)
    rw [ih]
    grind
theorem coef_zero (a : Int) : ∀ l, (∀ c ∈ divA a l, Zm c) → Zm (evI l a) → ∀ c ∈ l, Zm c
  | [], _, _, c, hc => by cases hc
  | [d], _, h, c, hc => by
    obtain rfl := List.mem_singleton.1 hc
    exact h.of (by simp [evI])
  | b :: d :: h, hq, he, c, hc => by
    have h1 : Zm (evI (d :: h) a) := hq _ (by rw [divA]; exact List.mem_cons_self ..)
    have ih := coef_zero a (d :: h) (fun c hc => hq c (by rw [divA]; exact List.mem_cons_of_mem _ hc)) h1
    rcases List.mem_cons.1 hc with rfl | hc
    · refine (he.sub (h1.mul a)).of ?_
      show c = c + a * evI (d :: h) a - a * evI (d :: h) a
      grind
    · exact ih c hc
/-- A polynomial with n coefficients that is 0 at n places is 0. -/
theorem zero_poly : ∀ (n : Nat) (l xs : List Int), l.length = n → xs.length = n → xs.Pairwise (fun x y => Inv7 (y - x)) → (∀ x ∈ xs, Zm (evI l x)) → ∀ c ∈ l, Zm c
  | 0, l, _, hl, _, _, _, c, hc => by
    obtain rfl := List.eq_nil_of_length_eq_zero hl
    cases hc
  | n + 1, l, [], hl, hx, _, _, _, _ => by simp at hx
  | n + 1, l, a :: xs, hl, hx, hp, hz, c, hc => by
    obtain ⟨hp1, hp2⟩ := List.pairwise_cons.1 hp
    have ha := hz a (List.mem_cons_self ..)
    refine coef_zero a l ?_ ha c hc
    refine zero_poly n (divA a l) xs (by rw [divA_length, hl]; rfl) (by simpa using hx) hp2 fun x hxm => ?_
    have h1 := hz x (List.mem_cons_of_mem _ hxm)
    exact (hp1 x hxm).cancel ((h1.sub ha).of (by rw [div_ev a x l]; grind))
theorem ev_sub (x : Int) : ∀ (P Q : List Int), P.length = Q.length → evI (List.zipWith (· - ·) P Q) x = evI P x - evI Q x
  | [], [], _ => by simp [evI]
  | p :: P, q :: Q, h => by
    have ih := ev_sub x P Q (by simpa using h)
    show (p - q) + x * evI (List.zipWith (· - ·) P Q) x = (p + x * evI P x) - (q + x * evI Q x)
    rw [ih]
    grind
theorem ev_set (x : Int) (v : Int) : ∀ (l : List Int) (j : Nat) (hj : j < l.length), evI (l.set j v) x = evI l x + x ^ j * (v - l[j])
  | c :: l, 0, _ => by
    show v + x * evI l x = (c + x * evI l x) + x ^ 0 * (v - c)
    simp
    grind
  | c :: l, j + 1, h => by
    have ih := ev_set x v l j (by simpa using h)
    show c + x * evI (l.set j v) x = (c + x * evI l x) + x ^ (j + 1) * (v - l[j]'(by simpa using h))
    rw [ih, Int.pow_succ]
    grind
theorem ev_take (x : Int) : ∀ (l : List Int) (k : Nat) (hk : k < l.length), evI (l.take (k + 1)) x = evI (l.take k) x + x ^ k * l[k]
  | c :: l, 0, _ => by
    show c + x * evI [] x = evI [] x + x ^ 0 * c
    simp [evI]
  | c :: l, k + 1, h => by
    have ih := ev_take x l k (by simpa using h)
    show c + x * evI (l.take (k + 1)) x = (c + x * evI (l.take k) x) + x ^ (k + 1) * l[k]'(by simpa using h)
    rw [ih, Int.pow_succ]
    grind
theorem ev_zero (x : Int) : ∀ n : Nat, evI (List.replicate n 0) x = 0
  | 0 => rfl
  | n + 1 => by
    show (0 : Int) + x * evI (List.replicate n 0) x = 0
    rw [ev_zero x n]; simp

/-- The value modulo 257, reckoned from the highest coefficient down. -/
def valN : List Nat → Nat → Nat
  | [], _ => 0
  | c :: l, x => (valN l x * x + c) % 257
theorem valN_lt : ∀ (l : List Nat) (x : Nat), valN l x < 257
  | [], _ => by simp [valN]
  | c :: l, x => Nat.mod_lt _ (by decide)
theorem valN_ev (x : Nat) : ∀ l : List Nat, Zm (evI (zI l) x - (valN l x : Nat))
  | [] => by simp [evI, zI, valN]; exact Zm.zero
  | c :: l => by
    have ih := valN_ev x l
    have hm := Zm.mod (((valN l x : Nat) : Int) * x + c)
    have hc : ((valN (c :: l) x : Nat) : Int) = (((valN l x : Nat) : Int) * x + c) % 257 := by rw [valN]; simp
    refine ((ih.mul x).sub hm).of ?_
    show (c : Int) + x * evI (zI l) x - ((valN (c :: l) x : Nat) : Int) = _
    rw [hc]
    grind
theorem valN_of {l : List Nat} {x v : Nat} (hv : v < 257) (h : Zm (evI (zI l) x - (v : Nat))) : valN l x = v :=
  zm_eq (valN_lt l x) hv ((h.sub (valN_ev x l)).of (by grind))
/-- The polynomial of points: as many coefficients as points, and it passes through each. -/
def Interp (ps : List (Nat × Nat)) (P : List Nat) : Prop := P.length = ps.length ∧ (∀ c ∈ P, c < 257) ∧ ∀ p ∈ ps, valN P p.1 = p.2
/-- Places that increase, below 16. -/
def Places (ps : List (Nat × Nat)) : Prop := ps.Pairwise (fun p q => p.1 < q.1) ∧ ∀ p ∈ ps, p.1 < 16 ∧ p.2 < 257
theorem places_inv {ps : List (Nat × Nat)} (h : Places ps) : (ps.map fun p => (p.1 : Int)).Pairwise (fun x y => Inv7 (y - x)) := by
  rw [List.pairwise_map]
  refine List.Pairwise.imp_of_mem ?_ h.1
  intro p q hp hq hlt
  have h1 := (h.2 p hp).1
  have h2 := (h.2 q hq).1
  have := inv_nat (n := q.1 - p.1) (by omega) (by omega)
  rw [show ((q.1 - p.1 : Nat) : Int) = (q.1 : Int) - (p.1 : Int) by omega] at this
  exact this
theorem list_zm {P Q : List Nat} (hl : P.length = Q.length) (hP : ∀ c ∈ P, c < 257) (hQ : ∀ c ∈ Q, c < 257) (h : ∀ c ∈ List.zipWith (· - ·) (zI P) (zI Q), Zm c) : P = Q := by
  refine List.ext_getElem hl fun i h1 h2 => ?_
  refine zm_eq (hP _ (List.getElem_mem h1)) (hQ _ (List.getElem_mem h2)) (h _ ?_)
  rw [List.mem_iff_getElem]
  refine ⟨i, by simp [zI]; omega, by simp [zI]⟩
/-- Two polynomials with n coefficients that agree at n places are the same. -/
theorem agree_unique {ps : List (Nat × Nat)} {P Q : List Nat} (hp : Places ps) (hl : P.length = Q.length) (hn : P.length ≤ ps.length) (hP : ∀ c ∈ P, c < 257) (hQ : ∀ c ∈ Q, c < 257) (h : ∀ p ∈ ps, valN P p.1 = valN Q p.1) : P = Q := by
  refine list_zm hl hP hQ ?_
  have hp' : Places (ps.take P.length) := ⟨hp.1.sublist (List.take_sublist _ _), fun p h => hp.2 p (List.mem_of_mem_take h)⟩
  refine zero_poly P.length _ ((ps.take P.length).map fun p => (p.1 : Int)) (by simp [zI, hl]) (by simp; omega) (places_inv hp') fun x hx => ?_
  obtain ⟨p, hpm, rfl⟩ := List.mem_map.1 hx
  rw [ev_sub _ _ _ (by simp [zI, hl])]
  have e := h p (List.mem_of_mem_take hpm)
  have h1 := valN_ev p.1 P
  have h2 := valN_ev p.1 Q
  rw [e] at h1
  exact (h1.sub h2).of (by grind)
theorem interp_unique {ps : List (Nat × Nat)} {P Q : List Nat} (hp : Places ps) (h : Interp ps P) (k : Interp ps Q) : P = Q :=
  agree_unique hp (h.1.trans k.1.symm) (by rw [h.1]; exact Nat.le_refl _) h.2.1 k.2.1 fun p hpm => (h.2.2 p hpm).trans (k.2.2 p hpm).symm
/-- All lists of n numbers below 257. -/
def allP : Nat → List (List Nat)
  | 0 => [[]]
  | n + 1 => (allP n).flatMap fun l => (List.range 257).map fun c => c :: l
theorem allP_mem : ∀ (n : Nat) (P : List Nat), P ∈ allP n ↔ P.length = n ∧ ∀ c ∈ P, c < 257
  | 0, P => by
    rw [allP, List.mem_singleton]
    constructor
    · rintro rfl; exact ⟨rfl, fun c hc => by cases hc⟩
    · rintro ⟨h, _⟩; exact List.eq_nil_of_length_eq_zero h
  | n + 1, P => by
    rw [allP, List.mem_flatMap]
    constructor
    · rintro ⟨l, hl, hP⟩
      obtain ⟨c, hc, rfl⟩ := List.mem_map.1 hP
      obtain ⟨h1, h2⟩ := (allP_mem n l).1 hl
      refine ⟨by rw [List.length_cons, h1], fun d hd => ?_⟩
      rcases List.mem_cons.1 hd with rfl | hd
      · exact List.mem_range.1 hc
      · exact h2 d hd
    · rintro ⟨h1, h2⟩
      cases P with
      | nil => simp at h1
      | cons c l =>
        refine ⟨l, (allP_mem n l).2 ⟨by simpa using h1, fun d hd => h2 d (List.mem_cons_of_mem _ hd)⟩, List.mem_map.2 ⟨c, List.mem_range.2 (h2 c (List.mem_cons_self ..)), rfl⟩⟩
def passB (ps : List (Nat × Nat)) (P : List Nat) : Bool := ps.all fun p => valN P p.1 == p.2
theorem interp_iff (ps : List (Nat × Nat)) (P : List Nat) : Interp ps P ↔ P ∈ allP ps.length ∧ passB ps P = true := by
  rw [allP_mem, passB, List.all_eq_true, Interp]
  constructor
  · rintro ⟨h1, h2, h3⟩; exact ⟨⟨h1, h2⟩, fun p hp => by simpa using h3 p hp⟩
  · rintro ⟨⟨h1, h2⟩, h3⟩; exact ⟨h1, h2, fun p hp => by simpa using h3 p hp⟩
/-- The polynomial of points, by its property. -/
def fromN (ps : List (Nat × Nat)) : List Nat := ((allP ps.length).find? (passB ps)).getD []
theorem from_eq {ps : List (Nat × Nat)} {P : List Nat} (hp : Places ps) (h : Interp ps P) : fromN ps = P := by
  obtain ⟨h1, h2⟩ := (interp_iff ps P).1 h
  unfold fromN
  cases hf : (allP ps.length).find? (passB ps) with
  | none => exact absurd h2 (by simpa using List.find?_eq_none.1 hf P h1)
  | some Q =>
    refine interp_unique hp ?_ h
    exact (interp_iff ps _).2 ⟨List.mem_of_find?_eq_some hf, List.find?_some hf⟩
end Go.Proofs.Ytjifpedhncgieaa

/- MJ -/
namespace Go.Proofs.Ytjifpedhncgieaa

/-- The polynomial times x less a, plus a number. -/
def tmI (a : Int) : List Int → Int → List Int
  | [], r => [r]
  | c :: l, r => (r - a * c) :: tmI a l c
theorem tm_length (a : Int) : ∀ (l : List Int) (r : Int), (tmI a l r).length = l.length + 1
  | [], _ => rfl
  | c :: l, r => by rw [tmI, List.length_cons, tm_length a l c]; rfl
theorem tm_ev (a x : Int) : ∀ (l : List Int) (r : Int), evI (tmI a l r) x = r + (x - a) * evI l x
  | [], r => by simp [tmI, evI]
  | c :: l, r => by
    show (r - a * c) + x * evI (tmI a l c) x = r + (x - a) * (c + x * evI l x)
    rw [tm_ev a x l c]
    grind
theorem ev_add (x : Int) : ∀ (P Q : List Int), P.length = Q.length → evI (List.zipWith (· + ·) P Q) x = evI P x + evI Q x
  | [], [], _ => by simp [evI]
  | p :: P, q :: Q, h => by
    have ih := ev_add x P Q (by simpa using h)
    show (p + q) + x * evI (List.zipWith (· + ·) P Q) x = (p + x * evI P x) + (q + x * evI Q x)
    rw [ih]
    grind
theorem ev_pad (x : Int) : ∀ P : List Int, evI (P ++ [0]) x = evI P x
  | [] => by simp [evI]
  | p :: P => by
    show p + x * evI (P ++ [0]) x = p + x * evI P x
    rw [ev_pad x P]
theorem ev_scale (x c : Int) : ∀ P : List Int, evI (P.map fun z => c * z) x = c * evI P x
  | [] => by simp [evI]
  | p :: P => by
    show c * p + x * evI (P.map fun z => c * z) x = c * (p + x * evI P x)
    rw [ev_scale x c P]
    grind
def modL (P : List Int) : List Nat := P.map fun z => (z % 257).toNat
theorem mod_lt (P : List Int) : ∀ c ∈ modL P, c < 257 := fun c hc => by
  obtain ⟨z, _, rfl⟩ := List.mem_map.1 hc
  omega
theorem mod_ev (x : Int) : ∀ P : List Int, Zm (evI (zI (modL P)) x - evI P x)
  | [] => by simp [evI, zI, modL]; exact Zm.zero
  | p :: P => by
    have ih := mod_ev x P
    have h1 : (((p % 257).toNat : Nat) : Int) = p % 257 := by omega
    refine ((ih.mul x).add (Zm.mod p)).of ?_
    show (((p % 257).toNat : Nat) : Int) + x * evI (zI (modL P)) x - (p + x * evI P x) = _
    rw [h1]
    grind
/-- The product of x less each of the places. -/
def prodL (xs : List Int) : List Int := xs.foldr (fun a l => tmI a l 0) [1]
theorem prod_length : ∀ xs : List Int, (prodL xs).length = xs.length + 1
  | [] => rfl
  | a :: xs => by
    show (tmI a (prodL xs) 0).length = _
    rw [tm_length, prod_length xs]; rfl
theorem prod_ev (a x : Int) (xs : List Int) : evI (prodL (a :: xs)) x = (x - a) * evI (prodL xs) x := by
  show evI (tmI a (prodL xs) 0) x = _
  rw [tm_ev]; grind
theorem prod_zero {x : Int} : ∀ {xs : List Int}, x ∈ xs → evI (prodL xs) x = 0
  | a :: xs, h => by
    rw [prod_ev]
    rcases List.mem_cons.1 h with rfl | h
    · grind
    · rw [prod_zero h]; grind
theorem prod_inv {x : Int} : ∀ {xs : List Int}, (∀ y ∈ xs, Inv7 (x - y)) → Inv7 (evI (prodL xs) x)
  | [], _ => ⟨1, by simp [prodL, evI]; exact Zm.zero⟩
  | a :: xs, h => by
    rw [prod_ev]
    exact (h a (List.mem_cons_self ..)).mul (prod_inv fun y hy => h y (List.mem_cons_of_mem _ hy))
theorem interp_ex : ∀ Q : List (Nat × Nat), Places Q → ∃ P, Interp Q P
  | [], _ => ⟨[], rfl, (fun c hc => by cases hc), fun p hp => by cases hp⟩
  | q :: Q, h => by
    obtain ⟨h1, h2⟩ := List.pairwise_cons.1 h.1
    have hQ : Places Q := ⟨h2, fun p hp => h.2 p (List.mem_cons_of_mem _ hp)⟩
    obtain ⟨P, hP1, hP2, hP3⟩ := interp_ex Q hQ
    have hq := h.2 q (List.mem_cons_self ..)
    have hinv : Inv7 (evI (prodL (Q.map fun p => (p.1 : Int))) q.1) := prod_inv fun y hy => by
      obtain ⟨p, hp, rfl⟩ := List.mem_map.1 hy
      have a1 := h1 p hp
      have a2 := (hQ.2 p hp).1
      have := (inv_nat (n := p.1 - q.1) (by omega) (by omega)).neg
      rw [show -((p.1 - q.1 : Nat) : Int) = (q.1 : Int) - (p.1 : Int) by omega] at this
      exact this
    obtain ⟨e, he⟩ := hinv
    obtain ⟨c, hc⟩ : ∃ c : Int, c = ((q.2 : Int) - (valN P q.1 : Nat)) * e := ⟨_, rfl⟩
    have hlen : (zI P ++ [0]).length = ((prodL (Q.map fun p => (p.1 : Int))).map fun z => c * z).length := by
      rw [List.length_append, zI_length, hP1, List.length_map, prod_length, List.length_map]; rfl
    obtain ⟨R, hR⟩ : ∃ R : List Int, R = List.zipWith (· + ·) (zI P ++ [0]) ((prodL (Q.map fun p => (p.1 : Int))).map fun z => c * z) := ⟨_, rfl⟩
    have hev : ∀ x, evI R x = evI (zI P) x + c * evI (prodL (Q.map fun p => (p.1 : Int))) x := fun x => by
      rw [hR, ev_add x _ _ hlen, ev_pad, ev_scale]
    refine ⟨modL R, ?_, mod_lt R, fun p hp => ?_⟩
    · rw [modL, List.length_map, hR, List.length_zipWith, ← hlen, Nat.min_self, List.length_append, zI_length, hP1]; rfl
    · have hm := mod_ev (p.1 : Int) R
      rw [hev] at hm
      rcases List.mem_cons.1 hp with rfl | hp
      · refine valN_of hq.2 ?_
        have h3 := valN_ev p.1 P
        refine ((hm.add h3).add (he.mul ((p.2 : Int) - (valN P p.1 : Nat)))).of ?_
        rw [hc]
        grind
      · have h3 := valN_ev p.1 P
        rw [hP3 p hp] at h3
        refine valN_of (hQ.2 p hp).2 ?_
        rw [prod_zero (List.mem_map.2 ⟨p, hp, rfl⟩)] at hm
        exact (hm.add h3).of (by grind)
theorem interp_from {Q : List (Nat × Nat)} (h : Places Q) : Interp Q (fromN Q) := by
  obtain ⟨P, hP⟩ := interp_ex Q h
  rw [from_eq h hP]; exact hP

/-- One step of the product by x less a, in place. -/
theorem times_step {O L : List Nat} {k : Nat} {a : Nat} (ha : a ≤ 257) (h1 : k + 1 < O.length) (hk : k < L.length) (h : ∀ x : Int, Zm (evI (zI O) x - (x - a) * evI (zI (L.take k)) x)) :
    ∀ x : Int, Zm (evI (zI ((O.set (k + 1) ((O[k + 1] + L[k]) % 257)).set k ((O[k]'(by omega) + (257 - a) * L[k]) % 257))) x - (x - a) * evI (zI (L.take (k + 1))) x) := fun x => by
  have e1 : zI ((O.set (k + 1) ((O[k + 1] + L[k]) % 257)).set k ((O[k]'(by omega) + (257 - a) * L[k]) % 257)) = ((zI O).set (k + 1) (((O[k + 1] + L[k]) % 257 : Nat) : Int)).set k (((O[k]'(by omega) + (257 - a) * L[k]) % 257 : Nat) : Int) := by
    simp [zI, List.map_set]
  have e2 : zI (L.take (k + 1)) = (zI L).take (k + 1) := by simp [zI, List.map_take]
  have e3 : zI (L.take k) = (zI L).take k := by simp [zI, List.map_take]
  have hO : k + 1 < (zI O).length := by rw [zI_length]; exact h1
  have hk' : k < (zI L).length := by rw [zI_length]; exact hk
  have hx := h x
  rw [e3] at hx
  rw [e1, e2, ev_set x _ _ k (by rw [List.length_set]; omega), ev_set x _ _ (k + 1) hO, ev_take x _ k hk']
  have g1 : ((zI O).set (k + 1) (((O[k + 1] + L[k]) % 257 : Nat) : Int))[k]'(by rw [List.length_set]; omega) = ((O[k]'(by omega) : Nat) : Int) := by
    rw [List.getElem_set_ne (by omega)]; simp [zI]
  have g2 : (zI O)[k + 1] = ((O[k + 1] : Nat) : Int) := by simp [zI]
  have g3 : (zI L)[k] = ((L[k] : Nat) : Int) := by simp [zI]
  rw [g1, g2, g3]
  have m1 := Zm.mod (((O[k + 1] : Nat) : Int) + ((L[k] : Nat) : Int))
  have m2 := Zm.mod (((O[k]'(by omega) : Nat) : Int) + (257 - (a : Int)) * ((L[k] : Nat) : Int))
  have c1 : (((O[k + 1] + L[k]) % 257 : Nat) : Int) = (((O[k + 1] : Nat) : Int) + ((L[k] : Nat) : Int)) % 257 := by simp
  have c2 : (((O[k]'(by omega) + (257 - a) * L[k]) % 257 : Nat) : Int) = (((O[k]'(by omega) : Nat) : Int) + (257 - (a : Int)) * ((L[k] : Nat) : Int)) % 257 := by
    rw [Int.natCast_emod, Int.natCast_add, Int.natCast_mul, Int.natCast_sub ha]; rfl
  rw [c1, c2]
  have hz : Zm (x ^ k * ((L[k] : Nat) : Int) * 257) := ⟨x ^ k * ((L[k] : Nat) : Int), by grind⟩
  refine (((hx.add (m1.mul (x ^ (k + 1)))).add (m2.mul (x ^ k))).add hz).of ?_
  rw [Int.pow_succ]
  grind
/-- One step of adding f times a polynomial, in place. -/
theorem plus_step {O L : List Nat} {k f : Nat} {E : Int → Int} (h1 : k < O.length) (hk : k < L.length) (h : ∀ x : Int, Zm (evI (zI O) x - (E x + f * evI (zI (L.take k)) x))) :
    ∀ x : Int, Zm (evI (zI (O.set k ((O[k] + f * L[k]) % 257))) x - (E x + f * evI (zI (L.take (k + 1))) x)) := fun x => by
  have e1 : zI (O.set k ((O[k] + f * L[k]) % 257)) = (zI O).set k (((O[k] + f * L[k]) % 257 : Nat) : Int) := by simp [zI, List.map_set]
  have e2 : zI (L.take (k + 1)) = (zI L).take (k + 1) := by simp [zI, List.map_take]
  have e3 : zI (L.take k) = (zI L).take k := by simp [zI, List.map_take]
  have hO : k < (zI O).length := by rw [zI_length]; exact h1
  have hk' : k < (zI L).length := by rw [zI_length]; exact hk
  have hx := h x
  rw [e3] at hx
  rw [e1, e2, ev_set x _ _ k hO, ev_take x _ k hk']
  have g2 : (zI O)[k] = ((O[k] : Nat) : Int) := by simp [zI]
  have g3 : (zI L)[k] = ((L[k] : Nat) : Int) := by simp [zI]
  rw [g2, g3]
  have m1 := Zm.mod (((O[k] : Nat) : Int) + (f : Int) * ((L[k] : Nat) : Int))
  have c1 : (((O[k] + f * L[k]) % 257 : Nat) : Int) = (((O[k] : Nat) : Int) + (f : Int) * ((L[k] : Nat) : Int)) % 257 := by simp
  rw [c1]
  refine (hx.add (m1.mul (x ^ k))).of ?_
  grind
/-- The product of x less the first k places, that of point i left out. -/
def prodX (Q : List (Nat × Nat)) (i : Nat) : Nat → Int → Int
  | 0, _ => 1
  | k + 1, x => if k = i then prodX Q i k x else (x - ((Q.getD k (0, 0)).1 : Nat)) * prodX Q i k x
theorem prodX_zero {Q : List (Nat × Nat)} {i j : Nat} (hj : j ≠ i) : ∀ {k : Nat}, j < k → prodX Q i k ((Q.getD j (0, 0)).1 : Nat) = 0
  | k + 1, h => by
    rw [prodX]
    by_cases e : k = i
    · rw [if_pos e, prodX_zero hj (show j < k by omega)]
    · rw [if_neg e]
      by_cases e2 : j = k
      · subst e2; grind
      · rw [prodX_zero hj (show j < k by omega)]; grind
theorem prodX_inv {Q : List (Nat × Nat)} (hQ : Places Q) {i : Nat} (hi : i < Q.length) : ∀ {k : Nat}, k ≤ Q.length → Inv7 (prodX Q i k ((Q.getD i (0, 0)).1 : Nat))
  | 0, _ => ⟨1, by rw [prodX]; exact Zm.zero⟩
  | k + 1, hk => by
    rw [prodX]
    by_cases e : k = i
    · rw [if_pos e]; exact prodX_inv hQ hi (by omega)
    · rw [if_neg e]
      refine Inv7.mul ?_ (prodX_inv hQ hi (by omega))
      have hkl : k < Q.length := by omega
      rw [show Q.getD i (0, 0) = Q[i] by simp [List.getD, hi], show Q.getD k (0, 0) = Q[k] by simp [List.getD, hkl]]
      have a1 := (hQ.2 Q[i] (List.getElem_mem hi)).1
      have a2 := (hQ.2 Q[k] (List.getElem_mem hkl)).1
      rcases Nat.lt_or_ge k i with hlt | hge
      · have := List.pairwise_iff_getElem.1 hQ.1 k i hkl hi hlt
        have h3 := inv_nat (n := Q[i].1 - Q[k].1) (by omega) (by omega)
        rw [show ((Q[i].1 - Q[k].1 : Nat) : Int) = (Q[i].1 : Int) - (Q[k].1 : Int) by omega] at h3
        exact h3
      · have := List.pairwise_iff_getElem.1 hQ.1 i k hi hkl (by omega)
        have h3 := (inv_nat (n := Q[k].1 - Q[i].1) (by omega) (by omega)).neg
        rw [show -((Q[k].1 - Q[i].1 : Nat) : Int) = (Q[i].1 : Int) - (Q[k].1 : Int) by omega] at h3
        exact h3
end Go.Proofs.Ytjifpedhncgieaa
