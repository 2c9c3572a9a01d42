/-
  The law of GoodLetters, walked.
-/
import Derived.Test.YtchpcbbnnbaiaaaVP
import Derived.Test.YtchpcbbnnbaiaaaEA
namespace Go.Proofs.Ytchpcbbnnbaiaaa
open Go.RowKit

set_option maxRecDepth 100000 in
set_option maxHeartbeats 2000000 in
theorem dGoodL (n : Int) (A : Option Addr) (ls : List (Int × Int)) (ca : Nat) (w : World) (ha : Lets w A ls) (hlm : ls.length ≤ 9223372036854775807) : Calls Try.prog 4 #[.int .i64 n, .slice A ls.length ca] w fun e w' => e = .returned (.bool true) ∧ Below w.heap.size w w' := by
  by_cases hl : ls.length ≤ 1048576
  · have hli : ¬ ((1048576 : Int) - (ls.length : Int) < 0) := by omega
    have HI := Lib.hid (fun A ca w ha => iGoodL_any n A ls ca w ha hl)
    have HS := Lib.hid (fun A ca w ha hc => sGoodL_any n A ls ca w ha hl hc)
    have HA := Lib.hid ha
    have hqL := eqLs_self ls
    clear ha
    generalize goodLB n ls = a5 at *
    go_enter Try.func4, Try.ntmps4
    go_wp2_with fail
    refine (szLetterS_ok A ls.length ca w hl).mono ?_
    rintro e w0 ⟨rfl, rfl⟩
    go_wp2_with fail
    refine (toLetterS_any A ls ca _ HA.out hl).mono ?_
    rintro e w1 ⟨vt, rfl, hot, hbt⟩
    obtain ⟨At, ct, rfl, hcapt, _⟩ := hot.form
    have Ht_1 := Lib.hid (hot)
    have HB_3 := Lib.hid (hbt)
    clear hot hbt
    go_wp2_with fail
    refine (HS.out At ct _ (own_lets5 Ht_1.out) hcapt).mono ?_
    rintro e w2 ⟨rfl, hbp⟩
    clear Ht_1
    have HB_6 := Lib.hid (below_more HB_3.out hbp)
    clear HB_3 hbp HS
    go_wp2_with fail
    refine (toLetterS_any A ls ca _ (HA.out.below HB_6.out) hl).mono ?_
    rintro e w3 ⟨vx, rfl, hox, hbx⟩
    obtain ⟨Ax, cx, rfl, hcapx, _⟩ := hox.form
    have Hx_7 := Lib.hid (hox.lower HB_6.out.size)
    have HB_9 := Lib.hid (below_more HB_6.out hbx)
    clear HB_6 hox hbx
    go_wp2_with fail
    refine (HI.out Ax cx _ (own_lets5 Hx_7.out)).mono ?_
    rintro e w4 ⟨rfl, hbg⟩
    have Hx_11 := Lib.hid (Hx_7.out.below hbg)
    have HB_12 := Lib.hid (below_more HB_9.out hbg)
    clear Hx_7 HB_9 hbg
    go_wp2_with fail
    refine (toLetterS_any A ls ca _ (HA.out.below HB_12.out) hl).mono ?_
    rintro e w6 ⟨vb, rfl, hob, hbb⟩
    obtain ⟨Ab, cb, rfl, hcapb, _⟩ := hob.form
    have Hb_16 := Lib.hid (hob.lower HB_12.out.size)
    have Hx_17 := Lib.hid (Hx_11.out.below hbb)
    have HB_18 := Lib.hid (below_more HB_12.out hbb)
    clear Hx_11 HB_12 hob hbb
    go_wp2_with fail
    refine (eqLetterS_any Ax Ab ls ls cx cb _ (own_lets5 Hx_17.out) (own_lets5 Hb_16.out) hl).mono ?_
    rintro e w7 ⟨rfl, hbq⟩
    have HB_20 := Lib.hid (below_more HB_18.out hbq)
    clear hbq HB_18
    go_wp2_with fail
    go_ret
    exact ⟨rfl, HB_20.out⟩
  · have hli : ((-1 : Int)) < 0 := by omega
    go_enter Try.func4, Try.ntmps4
    go_wp2_with fail
    refine (szLetterS_no A ls.length ca w hlm hl).mono ?_
    rintro e w0 ⟨rfl, rfl⟩
    go_wp2_with fail
    go_ret
    exact ⟨rfl, Below.refl _ _⟩
end Go.Proofs.Ytchpcbbnnbaiaaa
