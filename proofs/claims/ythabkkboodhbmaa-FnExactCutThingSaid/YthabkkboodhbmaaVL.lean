/-
  Laws of chapter 4, walked, whatever the program's own texts are: GlueThing.
-/
import Derived.Test.YthabkkboodhbmaaVK
namespace Go.Proofs.Ythabkkboodhbmaa
open Go.RowKit

/-- A list of blocks of the call's own, as its value. -/
theorem ownB_as {w : World} {base : Nat} {v : Value} {L : List (Int × Value × List Int)} {bs : List (Int × List Int)} (h : OwnB w base v L) (e : blks L = bs) : ∃ A c, v = .slice A bs.length c ∧ Blks w A bs := by
  obtain ⟨A, c, e', hB⟩ := h.form
  refine ⟨A, c, ?_, by rw [← e]; exact hB⟩
  rw [e', ← e, blks_length]

set_option maxRecDepth 100000 in
set_option maxHeartbeats 2000000 in
theorem glueThing_law {K : World → Prop} (hK : Stays K) (hI : ∀ (A : Option Addr) (bs : List (Int × List Int)) (ca : Nat) (w : World), K w → Blks w A bs → bs.length ≤ 1048576 → (∀ p ∈ bs, p.2.length ≤ 1048576) → Calls Try.prog 16 #[.slice A bs.length ca] w fun e w' => e = .returned (.tuple #[.string (glueI bs), .bool (glueOkB bs)]) ∧ Below w.heap.size w w')
    (A : Option Addr) (bs : List (Int × List Int)) (ca : Nat) (w : World) (hw : K w) (ha : Blks w A bs) (hlm : bs.length ≤ 9223372036854775807) (hzm : ∀ p ∈ bs, p.2.length ≤ 9223372036854775807) :
    Calls Try.prog 9 #[.slice A bs.length ca] w fun e w' => e = .returned (.bool true) ∧ Below w.heap.size w w' := by
  have HZ := Lib.hid (szBlockS_any A bs ca w ha hlm hzm)
  clear hzm hlm
  by_cases hl : bs.length + sizB bs ≤ 1048576
  · have hl1 : bs.length ≤ 1048576 := by omega
    have hz1 : ∀ p ∈ bs, p.2.length ≤ 1048576 := fun p hp => Nat.le_trans (sizB_mem hp) (by omega)
    have hq := eqBs_self bs
    have HI := Lib.hid (fun A ca w hk ha => hI A bs ca w hk ha hl1 hz1)
    have HS := Lib.hid (fun A ca w ha => sGlue_any A bs ca w ha hl1 hz1)
    have HT := Lib.hid (fun w ha => toBlockS_any A bs ca w ha hl1 hz1)
    have HE := Lib.hid (fun A B ca cb w ha hb => eqBlockS_any A B bs bs ca cb w ha hb hl1 hz1)
    have HW := Lib.hid hw
    have HA := Lib.hid ha
    clear hI hw ha hz1
    generalize glueI bs = a1 at *
    generalize glueOkB bs = a5 at *
    have hn : ¬ ((1048576 : Int) - ((bs.length + sizB bs : Nat) : Int) < 0) := by omega
    go_enter Try.func9, Try.ntmps9
    go_wp2_with fail
    refine HZ.out.mono ?_
    rintro e w0 ⟨he, _, hb0⟩
    obtain rfl := he hl
    have HB0 := Lib.hid hb0
    clear hb0 he HZ
    generalize (1048576 : Int) - ((bs.length + sizB bs : Nat) : Int) = M at *
    go_wp2_with fail
    refine (HT.out _ (HA.out.below HB0.out)).mono ?_
    rintro e w1 ⟨v1, L1, rfl, ho1, hbl1, hb1⟩
    obtain ⟨A1, c1, rfl, hI1⟩ := ownB_as ho1 hbl1
    have HI1 := Lib.hid hI1
    have HB1 := Lib.hid (jMore HB0.out hb1)
    clear hI1 ho1 hb1 hbl1 HB0
    go_wp2_with fail
    refine (HS.out A1 c1 _ HI1.out).mono ?_
    rintro e w2 ⟨rfl, hb2⟩
    have HB2 := Lib.hid (jMore HB1.out hb2)
    clear hb2 HI1 HB1
    go_wp2_with fail
    refine (HT.out _ (HA.out.below HB2.out)).mono ?_
    rintro e w3 ⟨v3, L3, rfl, ho3, hbl3, hb3⟩
    obtain ⟨A3, c3, rfl, hI3⟩ := ownB_as ho3 hbl3
    have HI3 := Lib.hid hI3
    have HB3 := Lib.hid (jMore HB2.out hb3)
    clear hI3 ho3 hb3 hbl3 HB2
    go_wp2_with fail
    refine (HI.out A3 c3 _ (hK _ _ HW.out HB3.out) HI3.out).mono ?_
    rintro e w4 ⟨rfl, hb4⟩
    have HI4 := Lib.hid (HI3.out.below hb4)
    have HB4 := Lib.hid (jMore HB3.out hb4)
    clear hb4 HI3 HB3
    go_wp2_with fail
    refine (HT.out _ (HA.out.below HB4.out)).mono ?_
    rintro e w5 ⟨v5, L5, rfl, ho5, hbl5, hb5⟩
    obtain ⟨A5, c5, rfl, hI5⟩ := ownB_as ho5 hbl5
    have HI5 := Lib.hid hI5
    have HI4' := Lib.hid (HI4.out.below hb5)
    have HB5 := Lib.hid (jMore HB4.out hb5)
    clear hI5 ho5 hb5 hbl5 HI4 HB4
    go_wp2_with fail
    refine (HE.out A3 A5 c3 c5 _ HI4'.out HI5.out).mono ?_
    rintro e w6 ⟨rfl, hb6⟩
    have HB6 := Lib.hid (jMore HB5.out hb6)
    clear hb6
    go_wp2_with fail
    go_ret
    exact ⟨rfl, HB6.out⟩
  · clear hI
    go_enter Try.func9, Try.ntmps9
    go_wp2_with fail
    refine HZ.out.mono ?_
    rintro e w0 ⟨_, he, hb0⟩
    obtain rfl := he (by omega)
    go_wp2_with fail
    go_ret
    exact ⟨rfl, hb0⟩
end Go.Proofs.Ythabkkboodhbmaa
