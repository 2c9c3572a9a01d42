/-
  GJ: The program's chapter 10, first part: strconv.Atoi, numberIn, goodValue, goodRecord, digitOf, padded, SumOf, RecordText.
  GK: The program's chapter 10, second part: goodRecord, digitOf, padded.
  GL: The program's chapter 10, third part: SumOf, RecordText.
  GM: The program's chapter 10, fourth part: ReadRecord.
  GO: The program's chapter 10, fifth part: Append, ReadLog, NextNo, CrashLog.
-/
import Derived.Test.YthbjcipdneminaaDoorGQ
import Derived.Test.YthbjcipdneminaaDoorED
import Derived.Test.YthbjcipdneminaaDoorVO
import Derived.Shelf.Strconv.Atoi
import Derived.Shelf.Strconv.AtoiErr

/- GJ -/
namespace Go.Proofs.YthbjcipdneminaaDoor
open Go.RowKit Go.Shelf

def lays172_ren : Go.Shelf.Ren := ⟨fun | 172 => 81 | 244 => 92 | 245 => 93 | 247 => 95 | 279 => 96 | 280 => 97 | 281 => 98 | 282 => 99 | 287 => 102 | 316 => 103 | 171 => 105 | 205 => 104 | 321 => 106 | 322 => 107 | 243 => 108 | 246 => 109 | 283 => 110 | 284 => 111 | 285 => 112 | 286 => 113 | 129 => 115 | 317 => 114 | 318 => 116 | 319 => 117 | 320 => 118 | 337 => 119 | 338 => 120 | n => n, fun | 9 => 9 | 3 => 3 | 75 => 101 | 76 => 102 | 4 => 4 | 5 => 5 | 167 => 116 | 37 => 22 | 0 => 0 | 85 => 117 | 2 => 2 | 168 => 119 | 53 => 64 | 175 => 127 | 46 => 112 | 210 => 131 | 127 => 134 | 145 => 137 | 143 => 135 | 21 => 21 | 171 => 139 | 173 => 142 | 212 => 145 | 51 => 122 | 20 => 20 | 213 => 146 | 232 => 149 | 233 => 150 | 80 => 92 | n => n, fun | 15 => 0 | 16 => 1 | 17 => 2 | 18 => 3 | 19 => 4 | n => n⟩
theorem lays172 : Go.Proofs.Lays.n172 Tryd.prog lays172_ren := {
  mixed := by kernel_rfl
  f129 := Tryd.func115.trans (congrArg some (by kernel_rfl))
  f171 := Tryd.func105.trans (congrArg some (by kernel_rfl))
  f172 := Tryd.func81.trans (congrArg some (by kernel_rfl))
  f205 := Tryd.func104.trans (congrArg some (by kernel_rfl))
  f243 := Tryd.func108.trans (congrArg some (by kernel_rfl))
  f244 := Tryd.func92.trans (congrArg some (by kernel_rfl))
  f245 := Tryd.func93.trans (congrArg some (by kernel_rfl))
  f246 := Tryd.func109.trans (congrArg some (by kernel_rfl))
  f247 := Tryd.func95.trans (congrArg some (by kernel_rfl))
  f279 := Tryd.func96.trans (congrArg some (by kernel_rfl))
  f280 := Tryd.func97.trans (congrArg some (by kernel_rfl))
  f281 := Tryd.func98.trans (congrArg some (by kernel_rfl))
  f282 := Tryd.func99.trans (congrArg some (by kernel_rfl))
  f283 := Tryd.func110.trans (congrArg some (by kernel_rfl))
  f284 := Tryd.func111.trans (congrArg some (by kernel_rfl))
  f285 := Tryd.func112.trans (congrArg some (by kernel_rfl))
  f286 := Tryd.func113.trans (congrArg some (by kernel_rfl))
  f287 := Tryd.func102.trans (congrArg some (by kernel_rfl))
  f316 := Tryd.func103.trans (congrArg some (by kernel_rfl))
  f317 := Tryd.func114.trans (congrArg some (by kernel_rfl))
  f318 := Tryd.func116.trans (congrArg some (by kernel_rfl))
  f319 := Tryd.func117.trans (congrArg some (by kernel_rfl))
  f320 := Tryd.func118.trans (congrArg some (by kernel_rfl))
  f321 := Tryd.func106.trans (congrArg some (by kernel_rfl))
  f322 := Tryd.func107.trans (congrArg some (by kernel_rfl))
  f337 := Tryd.func119.trans (congrArg some (by kernel_rfl))
  f338 := Tryd.func120.trans (congrArg some (by kernel_rfl))
  t0 := Tryd.underlying0
  a0 := Tryd.isAgg0
  z0 := Tryd.sizeOf0
  v0 := Tryd.zeroValue0
  t2 := Tryd.underlying2
  a2 := Tryd.isAgg2
  z2 := Tryd.sizeOf2
  v2 := Tryd.zeroValue2
  t3 := Tryd.underlying3
  a3 := Tryd.isAgg3
  z3 := Tryd.sizeOf3
  v3 := Tryd.zeroValue3
  t4 := Tryd.underlying4
  a4 := Tryd.isAgg4
  z4 := Tryd.sizeOf4
  v4 := Tryd.zeroValue4
  t5 := Tryd.underlying5
  a5 := Tryd.isAgg5
  z5 := Tryd.sizeOf5
  v5 := Tryd.zeroValue5
  t9 := Tryd.underlying9
  a9 := Tryd.isAgg9
  z9 := Tryd.sizeOf9
  v9 := Tryd.zeroValue9
  t20 := Tryd.underlying20
  a20 := Tryd.isAgg20
  z20 := Tryd.sizeOf20
  v20 := Tryd.zeroValue20
  t21 := Tryd.underlying21
  a21 := Tryd.isAgg21
  z21 := Tryd.sizeOf21
  v21 := Tryd.zeroValue21
  t37 := Tryd.underlying22
  a37 := Tryd.isAgg22
  z37 := Tryd.sizeOf22
  v37 := Tryd.zeroValue22
  t46 := Tryd.underlying112
  a46 := Tryd.isAgg112
  z46 := Tryd.sizeOf112
  v46 := Tryd.zeroValue112
  t51 := Tryd.underlying122
  a51 := Tryd.isAgg122
  z51 := Tryd.sizeOf122
  v51 := Tryd.zeroValue122
  t53 := Tryd.underlying64
  a53 := Tryd.isAgg64
  z53 := Tryd.sizeOf64
  v53 := Tryd.zeroValue64
  t75 := Tryd.underlying101
  a75 := Tryd.isAgg101
  z75 := Tryd.sizeOf101
  v75 := Tryd.zeroValue101
  t76 := Tryd.underlying102
  a76 := Tryd.isAgg102
  z76 := Tryd.sizeOf102
  v76 := Tryd.zeroValue102
  t85 := Tryd.underlying117
  a85 := Tryd.isAgg117
  z85 := Tryd.sizeOf117
  v85 := Tryd.zeroValue117
  t127 := Tryd.underlying134
  a127 := Tryd.isAgg134
  z127 := Tryd.sizeOf134
  v127 := Tryd.zeroValue134
  t143 := Tryd.underlying135
  a143 := Tryd.isAgg135
  z143 := Tryd.sizeOf135
  v143 := Tryd.zeroValue135
  t145 := Tryd.underlying137
  a145 := Tryd.isAgg137
  z145 := Tryd.sizeOf137
  v145 := Tryd.zeroValue137
  t167 := Tryd.underlying116
  a167 := Tryd.isAgg116
  z167 := Tryd.sizeOf116
  v167 := Tryd.zeroValue116
  t168 := Tryd.underlying119
  a168 := Tryd.isAgg119
  z168 := Tryd.sizeOf119
  v168 := Tryd.zeroValue119
  t171 := Tryd.underlying139
  a171 := Tryd.isAgg139
  z171 := Tryd.sizeOf139
  v171 := Tryd.zeroValue139
  t173 := Tryd.underlying142
  a173 := Tryd.isAgg142
  z173 := Tryd.sizeOf142
  v173 := Tryd.zeroValue142
  t175 := Tryd.underlying127
  a175 := Tryd.isAgg127
  z175 := Tryd.sizeOf127
  v175 := Tryd.zeroValue127
  t210 := Tryd.underlying131
  a210 := Tryd.isAgg131
  z210 := Tryd.sizeOf131
  v210 := Tryd.zeroValue131
  t212 := Tryd.underlying145
  a212 := Tryd.isAgg145
  z212 := Tryd.sizeOf145
  v212 := Tryd.zeroValue145
  t213 := Tryd.underlying146
  a213 := Tryd.isAgg146
  z213 := Tryd.sizeOf146
  t232 := Tryd.underlying149
  a232 := Tryd.isAgg149
  z232 := Tryd.sizeOf149
  v232 := Tryd.zeroValue149
  t233 := Tryd.underlying150
  a233 := Tryd.isAgg150
  z233 := Tryd.sizeOf150
  v233 := Tryd.zeroValue150
  g15 := by kernel_rfl
  g16 := by kernel_rfl
  g17 := by kernel_rfl
  g18 := by kernel_rfl
  g19 := by kernel_rfl }
def laysC172_ren : Go.Shelf.Ren := ⟨fun | 172 => 81 | 244 => 92 | 245 => 93 | 247 => 95 | 279 => 96 | 280 => 97 | 281 => 98 | 282 => 99 | 287 => 102 | 316 => 103 | 171 => 105 | 205 => 104 | 321 => 106 | 322 => 107 | 243 => 108 | 246 => 109 | 283 => 110 | 284 => 111 | 285 => 112 | 286 => 113 | 129 => 115 | 317 => 114 | 318 => 116 | 319 => 117 | 320 => 118 | 337 => 119 | 338 => 120 | n => n, fun | 9 => 9 | 3 => 3 | 75 => 101 | 76 => 102 | 4 => 4 | 5 => 5 | 167 => 116 | 37 => 22 | 0 => 0 | 85 => 117 | 2 => 2 | 168 => 119 | 53 => 64 | 175 => 127 | 46 => 112 | 210 => 131 | 127 => 134 | 145 => 137 | 143 => 135 | 21 => 21 | 171 => 139 | 173 => 142 | 212 => 145 | 51 => 122 | 20 => 20 | 213 => 146 | 232 => 149 | 233 => 150 | 80 => 92 | n => n, fun | 15 => 0 | 16 => 1 | 17 => 2 | 18 => 3 | 19 => 4 | n => n⟩
theorem laysC172 : Go.Proofs.LaysC.n172 Tryd.prog laysC172_ren := {
  mixed := by kernel_rfl
  f129 := Tryd.func115.trans (congrArg some (by kernel_rfl))
  f171 := Tryd.func105.trans (congrArg some (by kernel_rfl))
  f172 := Tryd.func81.trans (congrArg some (by kernel_rfl))
  f205 := Tryd.func104.trans (congrArg some (by kernel_rfl))
  f243 := Tryd.func108.trans (congrArg some (by kernel_rfl))
  f244 := Tryd.func92.trans (congrArg some (by kernel_rfl))
  f245 := Tryd.func93.trans (congrArg some (by kernel_rfl))
  f246 := Tryd.func109.trans (congrArg some (by kernel_rfl))
  f247 := Tryd.func95.trans (congrArg some (by kernel_rfl))
  f279 := Tryd.func96.trans (congrArg some (by kernel_rfl))
  f280 := Tryd.func97.trans (congrArg some (by kernel_rfl))
  f281 := Tryd.func98.trans (congrArg some (by kernel_rfl))
  f282 := Tryd.func99.trans (congrArg some (by kernel_rfl))
  f283 := Tryd.func110.trans (congrArg some (by kernel_rfl))
  f284 := Tryd.func111.trans (congrArg some (by kernel_rfl))
  f285 := Tryd.func112.trans (congrArg some (by kernel_rfl))
  f286 := Tryd.func113.trans (congrArg some (by kernel_rfl))
  f287 := Tryd.func102.trans (congrArg some (by kernel_rfl))
  f316 := Tryd.func103.trans (congrArg some (by kernel_rfl))
  f317 := Tryd.func114.trans (congrArg some (by kernel_rfl))
  f318 := Tryd.func116.trans (congrArg some (by kernel_rfl))
  f319 := Tryd.func117.trans (congrArg some (by kernel_rfl))
  f320 := Tryd.func118.trans (congrArg some (by kernel_rfl))
  f321 := Tryd.func106.trans (congrArg some (by kernel_rfl))
  f322 := Tryd.func107.trans (congrArg some (by kernel_rfl))
  f337 := Tryd.func119.trans (congrArg some (by kernel_rfl))
  f338 := Tryd.func120.trans (congrArg some (by kernel_rfl))
  t0 := Tryd.underlying0
  a0 := Tryd.isAgg0
  z0 := Tryd.sizeOf0
  v0 := Tryd.zeroValue0
  t2 := Tryd.underlying2
  a2 := Tryd.isAgg2
  z2 := Tryd.sizeOf2
  v2 := Tryd.zeroValue2
  t3 := Tryd.underlying3
  a3 := Tryd.isAgg3
  z3 := Tryd.sizeOf3
  v3 := Tryd.zeroValue3
  t4 := Tryd.underlying4
  a4 := Tryd.isAgg4
  z4 := Tryd.sizeOf4
  v4 := Tryd.zeroValue4
  t5 := Tryd.underlying5
  a5 := Tryd.isAgg5
  z5 := Tryd.sizeOf5
  v5 := Tryd.zeroValue5
  t9 := Tryd.underlying9
  a9 := Tryd.isAgg9
  z9 := Tryd.sizeOf9
  v9 := Tryd.zeroValue9
  t20 := Tryd.underlying20
  a20 := Tryd.isAgg20
  z20 := Tryd.sizeOf20
  v20 := Tryd.zeroValue20
  t21 := Tryd.underlying21
  a21 := Tryd.isAgg21
  z21 := Tryd.sizeOf21
  v21 := Tryd.zeroValue21
  t37 := Tryd.underlying22
  a37 := Tryd.isAgg22
  z37 := Tryd.sizeOf22
  v37 := Tryd.zeroValue22
  t46 := Tryd.underlying112
  a46 := Tryd.isAgg112
  z46 := Tryd.sizeOf112
  v46 := Tryd.zeroValue112
  t51 := Tryd.underlying122
  a51 := Tryd.isAgg122
  z51 := Tryd.sizeOf122
  v51 := Tryd.zeroValue122
  t53 := Tryd.underlying64
  a53 := Tryd.isAgg64
  z53 := Tryd.sizeOf64
  v53 := Tryd.zeroValue64
  t75 := Tryd.underlying101
  a75 := Tryd.isAgg101
  z75 := Tryd.sizeOf101
  v75 := Tryd.zeroValue101
  t76 := Tryd.underlying102
  a76 := Tryd.isAgg102
  z76 := Tryd.sizeOf102
  v76 := Tryd.zeroValue102
  t85 := Tryd.underlying117
  a85 := Tryd.isAgg117
  z85 := Tryd.sizeOf117
  v85 := Tryd.zeroValue117
  t127 := Tryd.underlying134
  a127 := Tryd.isAgg134
  z127 := Tryd.sizeOf134
  v127 := Tryd.zeroValue134
  t143 := Tryd.underlying135
  a143 := Tryd.isAgg135
  z143 := Tryd.sizeOf135
  v143 := Tryd.zeroValue135
  t145 := Tryd.underlying137
  a145 := Tryd.isAgg137
  z145 := Tryd.sizeOf137
  v145 := Tryd.zeroValue137
  t167 := Tryd.underlying116
  a167 := Tryd.isAgg116
  z167 := Tryd.sizeOf116
  v167 := Tryd.zeroValue116
  t168 := Tryd.underlying119
  a168 := Tryd.isAgg119
  z168 := Tryd.sizeOf119
  v168 := Tryd.zeroValue119
  t171 := Tryd.underlying139
  a171 := Tryd.isAgg139
  z171 := Tryd.sizeOf139
  v171 := Tryd.zeroValue139
  t173 := Tryd.underlying142
  a173 := Tryd.isAgg142
  z173 := Tryd.sizeOf142
  v173 := Tryd.zeroValue142
  t175 := Tryd.underlying127
  a175 := Tryd.isAgg127
  z175 := Tryd.sizeOf127
  v175 := Tryd.zeroValue127
  t210 := Tryd.underlying131
  a210 := Tryd.isAgg131
  z210 := Tryd.sizeOf131
  v210 := Tryd.zeroValue131
  t212 := Tryd.underlying145
  a212 := Tryd.isAgg145
  z212 := Tryd.sizeOf145
  v212 := Tryd.zeroValue145
  t213 := Tryd.underlying146
  a213 := Tryd.isAgg146
  z213 := Tryd.sizeOf146
  t232 := Tryd.underlying149
  a232 := Tryd.isAgg149
  z232 := Tryd.sizeOf149
  v232 := Tryd.zeroValue149
  t233 := Tryd.underlying150
  a233 := Tryd.isAgg150
  z233 := Tryd.sizeOf150
  v233 := Tryd.zeroValue150
  g15 := by kernel_rfl
  g16 := by kernel_rfl
  g17 := by kernel_rfl
  g18 := by kernel_rfl
  g19 := by kernel_rfl
  t80 := Tryd.underlying92
  a80 := Tryd.isAgg92
  z80 := Tryd.sizeOf92
  v80 := Tryd.zeroValue92
  i0 := by kernel_rfl
  i2 := by kernel_rfl
  i3 := by kernel_rfl
  i4 := by kernel_rfl
  i5 := by kernel_rfl
  i9 := by kernel_rfl
  i20 := by kernel_rfl
  i21 := by kernel_rfl
  i37 := by kernel_rfl
  i46 := by kernel_rfl
  i51 := by kernel_rfl
  i53 := by kernel_rfl
  i75 := by kernel_rfl
  i76 := by kernel_rfl
  i80 := by kernel_rfl
  i85 := by kernel_rfl
  i127 := by kernel_rfl
  i143 := by kernel_rfl
  i145 := by kernel_rfl
  i167 := by kernel_rfl
  i168 := by kernel_rfl
  i171 := by kernel_rfl
  i173 := by kernel_rfl
  i175 := by kernel_rfl
  i210 := by kernel_rfl
  i212 := by kernel_rfl
  i232 := by kernel_rfl
  i233 := by kernel_rfl
  m15 := by kernel_rfl
  m16 := by kernel_rfl
  m17 := by kernel_rfl
  m18 := by kernel_rfl
  m19 := by kernel_rfl
  c0 := by kernel_rfl
  c2 := by kernel_rfl
  c3 := by kernel_rfl
  c4 := by kernel_rfl
  c5 := by kernel_rfl
  c9 := by kernel_rfl
  c20 := by kernel_rfl
  c21 := by kernel_rfl
  c37 := by kernel_rfl
  c46 := by kernel_rfl
  c51 := by kernel_rfl
  c53 := by kernel_rfl
  c75 := by kernel_rfl
  c76 := by kernel_rfl
  c80 := by kernel_rfl
  c85 := by kernel_rfl
  c127 := by kernel_rfl
  c143 := by kernel_rfl
  c145 := by kernel_rfl
  c167 := by kernel_rfl
  c168 := by kernel_rfl
  c171 := by kernel_rfl
  c173 := by kernel_rfl
  c175 := by kernel_rfl
  c210 := by kernel_rfl
  c212 := by kernel_rfl
  c213 := by kernel_rfl
  c232 := by kernel_rfl
  c233 := by kernel_rfl }

/-- The library's variable of faulty syntax holds an error. -/
def ESyn (w : World) : Prop := ∃ te pe, w.cell? ⟨0, 0, none⟩ = some (.iface te pe)
theorem esyn_stays : Stays5 ESyn := fun _ _ ⟨te, pe, h⟩ hb => ⟨te, pe, (hb.cell (World.block_lt_of_cell? _ _ h)).trans h⟩
/-- What strconv.Atoi answers beside its error. -/
def atI (s : ByteArray) : Int := (Lib.atoi s.data.toList).getD 0
theorem iAtoi (s : ByteArray) (hl : s.size ≤ 18) (w : World) (hK : ESyn w) : Calls Tryd.prog 81 #[.string s] w fun e w' => ∃ ev, e = .returned (.tuple #[.int .i64 (atI s), ev]) ∧ Below w.heap.size w w' := by
  obtain ⟨te, pe, hv⟩ := hK
  cases h : Lib.atoi s.data.toList with
  | none => exact (Any.strconv_Atoi_err laysC172 s hl h _ w hv (Or.inr ⟨te, pe, rfl⟩)).mono fun e w' ⟨N, he, _, _, hb⟩ => ⟨.iface (laysC172_ren.t 168) (.pointer (some ⟨N, 0, none⟩)), he.trans (by rw [atI, h]; rfl), hb⟩
  | some n => exact (Any.strconv_Atoi lays172 s n hl h w).mono fun e w' ⟨he, t, hw⟩ => ⟨.nilIface, he.trans (by rw [atI, h]; rfl), by rw [hw]; exact Lib.bytesWorld_below _ _ _⟩
set_option maxRecDepth 100000 in
theorem iNumber (s : ByteArray) (hl : s.size ≤ 18) (w : World) (hK : ESyn w) : Calls Tryd.prog 48 #[.string s] w fun e w' => e = .returned (.int .i64 (atI s)) ∧ Below w.heap.size w w' := by
  have HA := Lib.hid (iAtoi s hl w hK)
  clear hK
  generalize atI s = n at *
  go_enter Tryd.func48, Tryd.ntmps48
  go_wp2_with fail
  refine HA.out.mono ?_
  rintro e w1 ⟨ev, rfl, hb⟩
  have HB := Lib.hid hb
  clear hb HA
  go_wp2_with fail
  go_ret
  exact ⟨rfl, HB.out⟩
set_option maxRecDepth 100000 in
theorem iValue (n : Int) (w : World) : Calls Tryd.prog 89 #[.int .i64 n] w fun e w' => e = .returned (.bool (inB n 0 9999)) ∧ w = w' := by
  by_cases h0 : 0 ≤ n
  · by_cases h1 : n ≤ 9999
    · have HE : Hid (inB n 0 9999 = true) := by show _ = _; simp [inB, h0, h1]
      go_enter Tryd.func89, Tryd.ntmps89
      go_wp2_with fail
      go_ret
      exact ⟨ret_bool' HE.out.symm, rfl⟩
    · have HE : Hid (inB n 0 9999 = false) := by show _ = _; simp [inB]; omega
      go_enter Tryd.func89, Tryd.ntmps89
      go_wp2_with fail
      go_ret
      exact ⟨ret_bool' HE.out.symm, rfl⟩
  · have HE : Hid (inB n 0 9999 = false) := by show _ = _; simp [inB]; omega
    go_enter Tryd.func89, Tryd.ntmps89
    go_wp2_with fail
    go_ret
    exact ⟨ret_bool' HE.out.symm, rfl⟩
end Go.Proofs.YthbjcipdneminaaDoor

/- GK -/
namespace Go.Proofs.YthbjcipdneminaaDoor
open Go.RowKit

theorem re_no {no kd a b : Int} (h : ¬ ((1 ≤ no ∧ no ≤ 12) ∧ (1 ≤ kd ∧ kd ≤ 9))) : reOkB (no, kd, a, b) = false := by
  cases hr : reOkB (no, kd, a, b)
  · rfl
  · obtain ⟨h1, h2, -⟩ := re_ok hr
    exact absurd ⟨h1, h2⟩ h
theorem re_yes {no kd a b : Int} (h1 : 1 ≤ no) (h2 : no ≤ 12) (h3 : 1 ≤ kd) (h4 : kd ≤ 9) : reOkB (no, kd, a, b) = (inB a 0 9999 && inB b 0 9999) := by simp [reOkB, inB, h1, h2, h3, h4]
set_option maxRecDepth 100000 in
set_option maxHeartbeats 1000000 in
theorem iRecord (r : Rec) (w : World) : Calls Tryd.prog 68 #[reV r] w fun e w' => e = .returned (.bool (reOkB r)) ∧ Below w.heap.size w w' := by
  obtain ⟨no, kd, a, b⟩ := r
  obtain ⟨W, hW⟩ : ∃ W, w.alloc (.cells #[.int .i64 no, .int .i64 kd, .int .i64 a, .int .i64 b] 38) = W := ⟨_, rfl⟩
  have hbx : Below w.heap.size w W := by rw [← hW]; exact gAlloc _ _
  have KX : W.heap[w.heap.size]? = some (.cells #[.int .i64 no, .int .i64 kd, .int .i64 a, .int .i64 b] 38 (0, 0)) := by rw [← hW]; exact heap_alloc_new _ _
  have p0 : W.cell? ⟨w.heap.size, 0, none⟩ = some (.int .i64 no) := cell_of_row _ _ 0 _ _ _ KX
  have p1 : W.cell? ⟨w.heap.size, 1, none⟩ = some (.int .i64 kd) := cell_of_row _ _ 1 _ _ _ KX
  have p2 : W.cell? ⟨w.heap.size, 2, none⟩ = some (.int .i64 a) := cell_of_row _ _ 2 _ _ _ KX
  have p3 : W.cell? ⟨w.heap.size, 3, none⟩ = some (.int .i64 b) := cell_of_row _ _ 3 _ _ _ KX
  have HB := Lib.hid hbx
  have H3 : Hid (∀ w, Calls Tryd.prog 89 #[.int .i64 a] w fun e w' => e = .returned (.bool (inB a 0 9999)) ∧ w = w') := fun w => iValue _ _
  have H4 : Hid (∀ w, Calls Tryd.prog 89 #[.int .i64 b] w fun e w' => e = .returned (.bool (inB b 0 9999)) ∧ w = w') := fun w => iValue _ _
  clear hbx KX
  by_cases h1 : 1 ≤ no
  case neg =>
    have HE := Lib.hid (re_no (a := a) (b := b) (show ¬ ((1 ≤ no ∧ no ≤ 12) ∧ (1 ≤ kd ∧ kd ≤ 9)) by omega))
    go_enter Tryd.func68, Tryd.ntmps68
    go_wp2_with fail
    go_ret
    exact ⟨ret_bool' HE.out.symm, HB.out⟩
  by_cases h2 : no ≤ 12
  case neg =>
    have HE := Lib.hid (re_no (a := a) (b := b) (show ¬ ((1 ≤ no ∧ no ≤ 12) ∧ (1 ≤ kd ∧ kd ≤ 9)) by omega))
    go_enter Tryd.func68, Tryd.ntmps68
    go_wp2_with fail
    go_ret
    exact ⟨ret_bool' HE.out.symm, HB.out⟩
  by_cases h3 : 1 ≤ kd
  case neg =>
    have HE := Lib.hid (re_no (a := a) (b := b) (show ¬ ((1 ≤ no ∧ no ≤ 12) ∧ (1 ≤ kd ∧ kd ≤ 9)) by omega))
    go_enter Tryd.func68, Tryd.ntmps68
    go_wp2_with fail
    go_ret
    exact ⟨ret_bool' HE.out.symm, HB.out⟩
  by_cases h4 : kd ≤ 9
  case neg =>
    have HE := Lib.hid (re_no (a := a) (b := b) (show ¬ ((1 ≤ no ∧ no ≤ 12) ∧ (1 ≤ kd ∧ kd ≤ 9)) by omega))
    go_enter Tryd.func68, Tryd.ntmps68
    go_wp2_with fail
    go_ret
    exact ⟨ret_bool' HE.out.symm, HB.out⟩
  have HE := Lib.hid (re_yes (a := a) (b := b) h1 h2 h3 h4)
  generalize reOkB (no, kd, a, b) = ok at *
  generalize inB a 0 9999 = b3 at *
  generalize inB b 0 9999 = b4 at *
  cases b3
  · go_enter Tryd.func68, Tryd.ntmps68
    go_wp2_with fail
    refine (H3.out _).mono ?_
    rintro e w' ⟨rfl, rfl⟩
    go_wp2_with fail
    go_ret
    exact ⟨ret_bool' HE.out.symm, HB.out⟩
  go_enter Tryd.func68, Tryd.ntmps68
  go_wp2_with fail
  refine (H3.out _).mono ?_
  rintro e w' ⟨rfl, rfl⟩
  go_wp2_with fail
  refine (H4.out _).mono ?_
  rintro e w' ⟨rfl, rfl⟩
  go_wp2_with fail
  go_ret
  exact ⟨ret_bool' HE.out.symm, HB.out⟩

set_option maxRecDepth 100000 in
theorem iDigit (n : Nat) (w : World) (hn : n ≤ 1048576) : Calls Tryd.prog 90 #[.int .i64 (n : Nat)] w fun e w' => e = .returned (.int .u8 ((48 + n % 10 : Nat) : Int)) ∧ w = w' := by
  obtain ⟨m, hm⟩ : ∃ m, n % 10 = m := ⟨_, rfl⟩
  have hmi : (n : Int) % 10 = (m : Int) := by omega
  have hm9 : m ≤ 9 := by omega
  rw [hm]
  clear hm
  go_enter Tryd.func90, Tryd.ntmps90
  go_wp2_with fail
  go_ret
  exact ⟨by go_num, rfl⟩
/-- A slice of bytes of the call's own. -/
abbrev fBy (n : Nat) : List Value := [.int .u8 (n : Int)]
theorem fBy_len : ∀ x, (fBy x).length = 1 := fun _ => rfl
abbrev OwnBy (w : World) (base : Nat) (v : Value) (L : List Nat) : Prop := OwnR 5 1 fBy w base v L
theorem byInfo : (Tryd.prog.info? 5).map (fun i => (i.zero, i.size, i.bytes)) = some (some (.int .u8 0), 1, 1) := by kernel_rfl
theorem fBy_map (L : List Nat) : L.flatMap fBy = L.map fun (n : Nat) => Value.int .u8 (n : Int) := by
  induction L with
  | nil => rfl
  | cons x L ih => rw [List.flatMap_cons, ih]; rfl
/-- append(l, x, y, ..) of bytes. -/
theorem app_by {ops : Array Oper} {rest : List Oper} {o : Oper} {a : Act} {Q : Exit → Act → World → Prop} (W : World) (base : Nat) (v : Value) (L M : List Nat) (m : Nat) (hm : M.length = m) (hm2 : m ≤ 1000) (Bn : Nat) (hBn : Bn = W.heap.size) (hgd : o.guard = none) (s x : Operand)
    (ho : o.op = .call { callee := .builtin .append, args := #[s, x], argTypes := #[22, 22] }) (hs : a.eval s = v) (hx : a.eval x = .slice (some ⟨Bn, 0, none⟩) m m)
    (hown : OwnBy W base v L) (hbase : base ≤ W.heap.size) (hlen : L.length ≤ 2000000) (w0 : World) (hb : Below base w0 W)
    (h : ∀ v' w', Hid (OwnBy w' base v' (L ++ M) ∧ Below base w0 w') → wpList Tryd.prog ops Q rest (a.put o.dst v') w') :
    wpList Tryd.prog ops Q (o :: rest) a (W.alloc (.cells (M.map fun (n : Nat) => Value.int .u8 (n : Int)).toArray 5)) := by
  subst hBn
  subst hm
  obtain ⟨i, hi, hz, hsize, hby⟩ := info_parts byInfo
  have hown' : W.ownsRow base 5 1 v L.length (L.flatMap fBy) := hown
  refine wpList_append_own _ hgd s x 22 ho base 5 i (.int .u8 0) 1 1 Tryd.underlying22 hi hz hsize hby rfl (by decide) v L.length _ hs (hown'.alloc _) ⟨W.heap.size, 0, none⟩ M.length M.length (M.map fun (n : Nat) => Value.int .u8 (n : Int)) hx (by simp) (fun j u hu => ?_) (fun u hu => ?_) ?_ ?_ ?_ ?_
  · have e1 : (⟨W.heap.size, 0, none⟩ : Addr).add j = ⟨W.heap.size, j, none⟩ := by unfold Addr.add; split <;> simp_all
    rw [e1, cell_of_row _ _ j _ _ _ (heap_alloc_new _ _)]
    simpa using hu
  · obtain ⟨z, _, rfl⟩ := List.mem_map.1 hu
    rfl
  · unfold maxLen; omega
  · omega
  · simp; omega
  · intro v' w' h1 h2 _
    refine h v' w' ⟨?_, (hb.alloc hbase _).grown h2 (by simp; omega) (fun g hg => (World.ownsRow.lt hown g hg).1)⟩
    show w'.ownsRow base 5 1 v' (L ++ M).length ((L ++ M).flatMap fBy)
    rw [List.length_append, List.flatMap_append, fBy_map M]
    exact h1
theorem conv_by {w : World} {base g n cap : Nat} {L : List Nat} (h : OwnBy w base (.slice (some ⟨g, 0, none⟩) n cap) L) (hn : n = L.length) : (convert 22 9 (.slice (some ⟨g, 0, none⟩) n cap)).run Tryd.prog w = .ok (.string (strB L)) w := by
  subst hn
  exact convB fun j hj => by
    have := (h.cell fBy_len hj (i := 0) (by decide)).1
    simpa using this
set_option maxRecDepth 100000 in
set_option maxHeartbeats 1000000 in
theorem iPad1 (n : Nat) (w : World) (hn : n ≤ 1048576) : Calls Tryd.prog 69 #[.int .i64 (n : Nat), .int .i64 1] w fun e w' => e = .returned (.string (dgA 1 n ⟨#[]⟩)) ∧ Below w.heap.size w w' := by
  have HE : Hid (dgA 1 n ⟨#[]⟩ = strB [48 + n % 10]) := rfl
  have HD : Hid (∀ m w, m ≤ 1048576 → Calls Tryd.prog 90 #[.int .i64 ((m : Nat) : Int)] w fun e w' => e = .returned (.int .u8 ((48 + m % 10 : Nat) : Int)) ∧ w = w') := fun m w h => iDigit m w h
  obtain ⟨d0, e0⟩ : ∃ d, 48 + n % 10 = d := ⟨_, rfl⟩
  have E0 := Lib.hid e0
  rw [e0] at HE
  clear e0
  go_enter Tryd.func69, Tryd.ntmps69
  go_wp2_with fail
  refine (HD.out _ _ hn).mono ?_
  rintro e w' ⟨rfl, rfl⟩
  rw [E0.out]
  go_wp2_with (at_builtin; refine app_by w w.heap.size _ [] [d0] 1 rfl (by decide) w.heap.size rfl rfl _ _ rfl rfl rfl (OwnR.nil _ _) (Nat.le_refl _) (by simp) w (Below.refl _ _) ?_; intro v1 w1 H1; obtain ⟨g, cap, rfl, -, -⟩ := H1.out.1.block (by simp); have hcv := conv_by H1.out.1 rfl; simp only [List.nil_append, List.length_cons, List.length_nil, Nat.zero_add] at hcv; generalize strB [d0] = T at *)
  go_ret
  exact ⟨by rw [HE.out]; rfl, H1.out.2⟩
set_option maxRecDepth 100000 in
set_option maxHeartbeats 1000000 in
theorem iPad2 (n : Nat) (w : World) (hn : n ≤ 1048576) : Calls Tryd.prog 69 #[.int .i64 (n : Nat), .int .i64 2] w fun e w' => e = .returned (.string (dgA 2 n ⟨#[]⟩)) ∧ Below w.heap.size w w' := by
  have HE : Hid (dgA 2 n ⟨#[]⟩ = strB [48 + n / 10 % 10, 48 + n % 10]) := rfl
  have HD : Hid (∀ m w, m ≤ 1048576 → Calls Tryd.prog 90 #[.int .i64 ((m : Nat) : Int)] w fun e w' => e = .returned (.int .u8 ((48 + m % 10 : Nat) : Int)) ∧ w = w') := fun m w h => iDigit m w h
  obtain ⟨q1, hq1⟩ : ∃ q, n / 10 = q := ⟨_, rfl⟩
  have hi1 : (n : Int) / 10 = (q1 : Int) := by omega
  have hl1 : q1 ≤ 1048576 := by omega
  rw [hq1] at HE
  clear hq1
  obtain ⟨d0, e0⟩ : ∃ d, 48 + n % 10 = d := ⟨_, rfl⟩
  obtain ⟨d1, e1⟩ : ∃ d, 48 + q1 % 10 = d := ⟨_, rfl⟩
  have E0 := Lib.hid e0
  have E1 := Lib.hid e1
  rw [e0, e1] at HE
  clear e0 e1
  go_enter Tryd.func69, Tryd.ntmps69
  go_wp2_with fail
  refine (HD.out _ _ hl1).mono ?_
  rintro e w' ⟨rfl, rfl⟩
  rw [E1.out]
  clear hi1
  go_wp2_with (at_builtin; refine app_by w w.heap.size _ [] [d1] 1 rfl (by decide) w.heap.size rfl rfl _ _ rfl rfl rfl (OwnR.nil _ _) (Nat.le_refl _) (by simp) w (Below.refl _ _) ?_; intro v1 w1 H1; obtain ⟨g1, cap1, rfl, -, -⟩ := H1.out.1.block (by simp); have hs1 := H1.out.2.size; simp only [List.nil_append, List.length_cons, List.length_nil, Nat.zero_add] at H1 ⊢; refine Hid.out ?_)
  refine Lib.hid ?_
  go_wp2_with fail
  refine (HD.out _ _ hn).mono ?_
  rintro e w' ⟨rfl, rfl⟩
  rw [E0.out]
  go_wp2_with (at_builtin; refine app_by w1 w.heap.size _ [d1] [d0] 1 rfl (by decide) w1.heap.size rfl rfl _ _ rfl rfl rfl H1.out.1 hs1 (by simp) w H1.out.2 ?_; intro v2 w2 H2; obtain ⟨g2, cap2, rfl, -, -⟩ := H2.out.1.block (by simp); have hcv := conv_by H2.out.1 rfl; simp only [List.cons_append, List.nil_append, List.length_cons, List.length_nil, Nat.zero_add, Nat.reduceAdd] at hcv; generalize strB [d1, d0] = T at *)
  go_ret
  exact ⟨by rw [HE.out]; rfl, H2.out.2⟩
set_option maxRecDepth 100000 in
set_option maxHeartbeats 1000000 in
theorem iPad4 (n : Nat) (w : World) (hn : n ≤ 1048576) : Calls Tryd.prog 69 #[.int .i64 (n : Nat), .int .i64 4] w fun e w' => e = .returned (.string (dgA 4 n ⟨#[]⟩)) ∧ Below w.heap.size w w' := by
  have HE : Hid (dgA 4 n ⟨#[]⟩ = strB [48 + n / 1000 % 10, 48 + n / 100 % 10, 48 + n / 10 % 10, 48 + n % 10]) := by
    show _ = _
    rw [show n / 1000 = n / 10 / 10 / 10 by omega, show n / 100 = n / 10 / 10 by omega]; rfl
  have HD : Hid (∀ m w, m ≤ 1048576 → Calls Tryd.prog 90 #[.int .i64 ((m : Nat) : Int)] w fun e w' => e = .returned (.int .u8 ((48 + m % 10 : Nat) : Int)) ∧ w = w') := fun m w h => iDigit m w h
  obtain ⟨q1, hq1⟩ : ∃ q, n / 10 = q := ⟨_, rfl⟩
  obtain ⟨q2, hq2⟩ : ∃ q, n / 100 = q := ⟨_, rfl⟩
  obtain ⟨q3, hq3⟩ : ∃ q, n / 1000 = q := ⟨_, rfl⟩
  have hi1 : (n : Int) / 10 = (q1 : Int) := by omega
  have hi2 : (n : Int) / 100 = (q2 : Int) := by omega
  have hi3 : (n : Int) / 1000 = (q3 : Int) := by omega
  have hl1 : q1 ≤ 1048576 := by omega
  have hl2 : q2 ≤ 1048576 := by omega
  have hl3 : q3 ≤ 1048576 := by omega
  rw [hq1, hq2, hq3] at HE
  clear hq1 hq2 hq3
  obtain ⟨d0, e0⟩ : ∃ d, 48 + n % 10 = d := ⟨_, rfl⟩
  obtain ⟨d1, e1⟩ : ∃ d, 48 + q1 % 10 = d := ⟨_, rfl⟩
  obtain ⟨d2, e2⟩ : ∃ d, 48 + q2 % 10 = d := ⟨_, rfl⟩
  obtain ⟨d3, e3⟩ : ∃ d, 48 + q3 % 10 = d := ⟨_, rfl⟩
  have E0 := Lib.hid e0
  have E1 := Lib.hid e1
  have E2 := Lib.hid e2
  have E3 := Lib.hid e3
  rw [e0, e1, e2, e3] at HE
  clear e0 e1 e2 e3
  go_enter Tryd.func69, Tryd.ntmps69
  go_wp2_with fail
  refine (HD.out _ _ hl3).mono ?_
  rintro e w' ⟨rfl, rfl⟩
  rw [E3.out]
  go_wp2_with fail
  refine (HD.out _ _ hl2).mono ?_
  rintro e w' ⟨rfl, rfl⟩
  rw [E2.out]
  go_wp2_with (at_builtin; refine app_by w w.heap.size _ [] [d3, d2] 2 rfl (by decide) w.heap.size rfl rfl _ _ rfl rfl rfl (OwnR.nil _ _) (Nat.le_refl _) (by simp) w (Below.refl _ _) ?_; intro v0 w0 H0; obtain ⟨g0, cap0, rfl, -, -⟩ := H0.out.1.block (by simp); have hs0 := H0.out.2.size; simp only [List.nil_append, List.length_cons, List.length_nil, Nat.zero_add, Nat.reduceAdd] at H0 ⊢; refine Hid.out ?_)
  refine Lib.hid ?_
  go_wp2_with fail
  refine (HD.out _ _ hl1).mono ?_
  rintro e w' ⟨rfl, rfl⟩
  rw [E1.out]
  clear hi1 hi2 hi3
  go_wp2_with (at_builtin; refine app_by w0 w.heap.size _ [d3, d2] [d1] 1 rfl (by decide) w0.heap.size rfl rfl _ _ rfl rfl rfl H0.out.1 hs0 (by simp) w H0.out.2 ?_; intro v1 w1 H1; obtain ⟨g1, cap1, rfl, -, -⟩ := H1.out.1.block (by simp); have hs1 := H1.out.2.size; simp only [List.cons_append, List.nil_append, List.length_cons, List.length_nil, Nat.zero_add, Nat.reduceAdd] at H1 ⊢; refine Hid.out ?_)
  refine Lib.hid ?_
  go_wp2_with fail
  refine (HD.out _ _ hn).mono ?_
  rintro e w' ⟨rfl, rfl⟩
  rw [E0.out]
  go_wp2_with (at_builtin; refine app_by w1 w.heap.size _ [d3, d2, d1] [d0] 1 rfl (by decide) w1.heap.size rfl rfl _ _ rfl rfl rfl H1.out.1 hs1 (by simp) w H1.out.2 ?_; intro v2 w2 H2; obtain ⟨g2, cap2, rfl, -, -⟩ := H2.out.1.block (by simp); have hcv := conv_by H2.out.1 rfl; simp only [List.cons_append, List.nil_append, List.length_cons, List.length_nil, Nat.zero_add, Nat.reduceAdd] at hcv; generalize strB [d3, d2, d1, d0] = T at *)
  go_ret
  exact ⟨by rw [HE.out]; rfl, H2.out.2⟩
end Go.Proofs.YthbjcipdneminaaDoor

/- GL -/
namespace Go.Proofs.YthbjcipdneminaaDoor
open Go.RowKit

/-- The sum as the program reckons it: its remainder at the end alone. -/
def smP (s : ByteArray) : Nat → Nat
  | 0 => 0
  | k + 1 => smP s k + (s[k]?.getD 0).toNat * (k + 1)
theorem smP_mod (s : ByteArray) : ∀ k, smP s k % 9973 = smB s k
  | 0 => rfl
  | k + 1 => by
    have := smP_mod s k
    rw [smP, smB, Nat.mul_comm (k + 1)]
    omega
theorem smP_le (s : ByteArray) : ∀ k, k ≤ 60 → smP s k ≤ 15300 * k
  | 0, _ => Nat.zero_le _
  | k + 1, h => by
    have h1 := smP_le s k (by omega)
    have h2 : (s[k]?.getD 0).toNat ≤ 255 := by have := (s[k]?.getD 0).toNat_lt; omega
    have h3 : (s[k]?.getD 0).toNat * (k + 1) ≤ 255 * 60 := Nat.mul_le_mul h2 h
    rw [smP]; omega
set_option maxRecDepth 100000 in
set_option maxHeartbeats 1000000 in
theorem iSumOf_any (s : ByteArray) (w : World) (hl : s.size ≤ 1048576) :
    Calls Tryd.prog 18 #[.string s] w fun e w' => e = .returned (.tuple #[.int .i64 (suI s : Nat), .bool (suOkB s)]) ∧ Below w.heap.size w w' := by
  by_cases h : s.size ≤ 60
  · have hi : ¬ (60 : Int) < (s.size : Int) := by omega
    have HS : Hid (suI s = smB s s.size ∧ suOkB s = true) := by show _ ∧ _; simp [suI, suOkB, h]
    have H60 := Lib.hid h
    go_enter Tryd.func18, Tryd.ntmps18
    go_wp2_with fail
    go_loopg [4, 11] s.size (fun gk nv iv wr => ∃ t : Nat, t + gk = s.size ∧ iv = .int .i64 t ∧ nv = .int .i64 (smP s t : Nat) ∧ w = wr)
    case atStart => exact ⟨0, by omega, rfl, rfl, rfl⟩
    case round =>
      obtain ⟨t, hg, rfl, rfl, rfl⟩ := hrel
      by_cases hlt : t < s.size
      · have hti : (t : Int) < (s.size : Int) := by omega
        have ht60 : t ≤ 60 := by omega
        have HG : Hid (s.size - t - 1 < gk ∧ t + 1 + (s.size - t - 1) = s.size) := by show _ ∧ _; omega
        clear hg
        have hb : s[t].toNat ≤ 255 := by have := s[t].toNat_lt; omega
        have hsm := smP_le s t ht60
        have HS2 : Hid ((smP s t : Int) + (s[t].toNat : Int) * ((t : Int) + 1) = ((smP s (t + 1) : Nat) : Int)) := by
          show _ = _
          rw [show smP s (t + 1) = smP s t + (s[t]?.getD 0).toNat * (t + 1) from rfl, getElem?_pos s t hlt]
          simp
        have hp0 : (0 : Int) ≤ (s[t].toNat : Int) * ((t : Int) + 1) := Int.mul_nonneg (by omega) (by omega)
        have hp1 : (s[t].toNat : Int) * ((t : Int) + 1) ≤ 255 * 61 := Int.mul_le_mul (by omega) (by omega) (by omega) (by omega)
        go_wp2_with fail
        go_roundg (s.size - t - 1)
        case measure => exact HG.out.1
        case rel => exact ⟨t + 1, HG.out.2, by go_num, by first | rw [HS2.out] | (rw [← HS2.out]; go_num), rfl⟩
      · obtain rfl : t = s.size := by omega
        have hti : ¬ (s.size : Int) < (s.size : Int) := by omega
        have hsm := smP_le s s.size h
        have HM : Hid ((smP s s.size : Int) % 9973 = ((suI s : Nat) : Int)) := by
          show _ = _
          have := smP_mod s s.size
          rw [HS.out.1]; omega
        generalize smP s s.size = m at *
        clear h
        go_wp2_with fail
        go_ret2
        exact ⟨by rw [HS.out.2, ← HM.out]; rfl, Below.refl _ _⟩
  · have hi : (60 : Int) < (s.size : Int) := by omega
    have HS : Hid (suI s = 0 ∧ suOkB s = false) := by show _ ∧ _; simp [suI, suOkB, h]
    go_enter Tryd.func18, Tryd.ntmps18
    go_wp2_with fail
    go_ret2
    exact ⟨by rw [HS.out.1, HS.out.2]; rfl, Below.refl _ _⟩

set_option maxRecDepth 100000 in
set_option maxHeartbeats 1000000 in
theorem iText_walk (no kd a b : Nat) (s0 s1 s2 s3 s4 Z : ByteArray) (n : Nat) (w : World) (hZ : s0 ++ s1 ++ s2 ++ s3 = Z) (hn : suI Z = n) (hz4 : s4.size ≤ 4) (hz0 : s0.size ≤ 2) (hz1 : s1.size ≤ 1) (hz2 : s2.size ≤ 4) (hz3 : s3.size ≤ 4)
    (HR : Hid (∀ w : World, Calls Tryd.prog 68 #[.agg #[.int .i64 (no : Nat), .int .i64 (kd : Nat), .int .i64 (a : Nat), .int .i64 (b : Nat)]] w fun e w' => e = .returned (.bool true) ∧ Below w.heap.size w w'))
    (HD0 : Hid (∀ w : World, Calls Tryd.prog 69 #[.int .i64 (no : Nat), .int .i64 2] w fun e w' => e = .returned (.string s0) ∧ Below w.heap.size w w'))
    (HD1 : Hid (∀ w : World, Calls Tryd.prog 69 #[.int .i64 (kd : Nat), .int .i64 1] w fun e w' => e = .returned (.string s1) ∧ Below w.heap.size w w'))
    (HD2 : Hid (∀ w : World, Calls Tryd.prog 69 #[.int .i64 (a : Nat), .int .i64 4] w fun e w' => e = .returned (.string s2) ∧ Below w.heap.size w w'))
    (HD3 : Hid (∀ w : World, Calls Tryd.prog 69 #[.int .i64 (b : Nat), .int .i64 4] w fun e w' => e = .returned (.string s3) ∧ Below w.heap.size w w'))
    (HT : Hid (∀ w : World, Calls Tryd.prog 69 #[.int .i64 (n : Nat), .int .i64 4] w fun e w' => e = .returned (.string s4) ∧ Below w.heap.size w w')) :
    Calls Tryd.prog 36 #[.agg #[.int .i64 (no : Nat), .int .i64 (kd : Nat), .int .i64 (a : Nat), .int .i64 (b : Nat)]] w fun e w' => e = .returned (.tuple #[.string (Z ++ s4 ++ ⟨#[59]⟩), .bool true]) ∧ Below w.heap.size w w' := by
  obtain ⟨W, hW⟩ : ∃ W, w.alloc (.cells #[.int .i64 (no : Nat), .int .i64 (kd : Nat), .int .i64 (a : Nat), .int .i64 (b : Nat)] 38) = W := ⟨_, rfl⟩
  have hbx : Below w.heap.size w W := by rw [← hW]; exact gAlloc _ _
  have KX : W.heap[w.heap.size]? = some (.cells #[.int .i64 (no : Nat), .int .i64 (kd : Nat), .int .i64 (a : Nat), .int .i64 (b : Nat)] 38 (0, 0)) := by rw [← hW]; exact heap_alloc_new _ _
  have p0 : W.cell? ⟨w.heap.size, 0, none⟩ = some (.int .i64 (no : Nat)) := cell_of_row _ _ 0 _ _ _ KX
  have p1 : W.cell? ⟨w.heap.size, 1, none⟩ = some (.int .i64 (kd : Nat)) := cell_of_row _ _ 1 _ _ _ KX
  have p2 : W.cell? ⟨w.heap.size, 2, none⟩ = some (.int .i64 (a : Nat)) := cell_of_row _ _ 2 _ _ _ KX
  have p3 : W.cell? ⟨w.heap.size, 3, none⟩ = some (.int .i64 (b : Nat)) := cell_of_row _ _ 3 _ _ _ KX
  have HB := Lib.hid hbx
  have hzz : Z.size ≤ 11 := by rw [← hZ, size_append9, size_append9, size_append9]; omega
  have HZ := Lib.hid hZ
  have HS : Hid (∀ w, Calls Tryd.prog 18 #[.string Z] w fun e w' => ∃ ok, e = .returned (.tuple #[.int .i64 (n : Nat), .bool ok]) ∧ Below w.heap.size w w') := fun w => (iSumOf_any Z w (by omega)).mono fun e w' ⟨he, hb⟩ => ⟨suOkB Z, he.trans (by rw [hn]), hb⟩
  clear hbx KX hZ hn
  go_enter Tryd.func36, Tryd.ntmps36
  go_wp2_with fail
  refine (HR.out _).mono ?_
  rintro e w1 ⟨rfl, hb1⟩
  have q0 := (hb1.cell (World.block_lt_of_cell? _ _ p0)).trans p0
  have q1 := (hb1.cell (World.block_lt_of_cell? _ _ p1)).trans p1
  have q2 := (hb1.cell (World.block_lt_of_cell? _ _ p2)).trans p2
  have q3 := (hb1.cell (World.block_lt_of_cell? _ _ p3)).trans p3
  have HB1 := Lib.hid (below_more HB.out hb1)
  clear hb1 p0 p1 p2 p3 hW
  go_wp2_with fail
  have hs1 : ¬ 9223372036854775807 < s0.size + s1.size := by omega
  have hs2 : ¬ 9223372036854775807 < s0.size + s1.size + s2.size := by omega
  have hs3 : ¬ 9223372036854775807 < s0.size + s1.size + s2.size + s3.size := by omega
  go_region_held3 (fun w' => w'.cell? ⟨w.heap.size, 0, none⟩ = some (.int .i64 (no : Nat)) ∧ w'.cell? ⟨w.heap.size, 1, none⟩ = some (.int .i64 (kd : Nat)) ∧ w'.cell? ⟨w.heap.size, 2, none⟩ = some (.int .i64 (a : Nat)) ∧ w'.cell? ⟨w.heap.size, 3, none⟩ = some (.int .i64 (b : Nat))) (first | exact ⟨r30, r31, r32, r33⟩ | exact ⟨r20, r21, r22, r23⟩ | exact ⟨r10, r11, r12, r13⟩ | exact ⟨r00, r01, r02, r03⟩ | exact ⟨q0, q1, q2, q3⟩ | go_keep) (first
    | (go_at_call 69; refine (HD3.out w5).mono ?_; rintro e w6 ⟨rfl, hb5⟩; have r30 := (hb5.cell (World.block_lt_of_cell? _ _ r20)).trans r20; have r31 := (hb5.cell (World.block_lt_of_cell? _ _ r21)).trans r21; have r32 := (hb5.cell (World.block_lt_of_cell? _ _ r22)).trans r22; have r33 := (hb5.cell (World.block_lt_of_cell? _ _ r23)).trans r23)
    | (go_at_call 69; refine (HD2.out w4).mono ?_; rintro e w5 ⟨rfl, hb4⟩; have r20 := (hb4.cell (World.block_lt_of_cell? _ _ r10)).trans r10; have r21 := (hb4.cell (World.block_lt_of_cell? _ _ r11)).trans r11; have r22 := (hb4.cell (World.block_lt_of_cell? _ _ r12)).trans r12; have r23 := (hb4.cell (World.block_lt_of_cell? _ _ r13)).trans r13)
    | (go_at_call 69; refine (HD1.out w3).mono ?_; rintro e w4 ⟨rfl, hb3⟩; have r10 := (hb3.cell (World.block_lt_of_cell? _ _ r00)).trans r00; have r11 := (hb3.cell (World.block_lt_of_cell? _ _ r01)).trans r01; have r12 := (hb3.cell (World.block_lt_of_cell? _ _ r02)).trans r02; have r13 := (hb3.cell (World.block_lt_of_cell? _ _ r03)).trans r03)
    | (go_at_call 69; refine (HD0.out w1.drew).mono ?_; rintro e w3 ⟨rfl, hb2⟩; have r00 := (hb2.cell (World.block_lt_of_cell? _ _ q0)).trans q0; have r01 := (hb2.cell (World.block_lt_of_cell? _ _ q1)).trans q1; have r02 := (hb2.cell (World.block_lt_of_cell? _ _ q2)).trans q2; have r03 := (hb2.cell (World.block_lt_of_cell? _ _ q3)).trans q3))
  have HBb := Lib.hid (below_more (below_more (below_more (below_more (below_more HB1.out gDrew) hb2) hb3) hb4) hb5)
  clear r00 r01 r02 r03 r10 r11 r12 r13 r20 r21 r22 r23 r30 r31 r32 r33 hb2 hb3 hb4 hb5 q0 q1 q2 q3 hs1 hs2 hs3
  rw [HZ.out]
  go_wp2_with fail
  refine (HS.out _).mono ?_
  rintro e w7 ⟨ok, rfl, hb7⟩
  have HB7 := Lib.hid (below_more HBb.out hb7)
  clear hb7
  go_wp2_with fail
  refine (HT.out _).mono ?_
  rintro e w8 ⟨rfl, hb8⟩
  have ha1 : (Z.size : Int) ≤ 8388608 := by omega
  have ha2 : (s4.size : Int) ≤ 8388608 := by omega
  have ha3 : ((Z ++ s4).size : Int) ≤ 8388608 := by rw [size_append9]; omega
  have ha4 : ((⟨#[59]⟩ : ByteArray).size : Int) ≤ 8388608 := by decide
  go_wp2_with fail
  go_ret2
  exact ⟨rfl, below_more HB7.out hb8⟩
set_option maxRecDepth 100000 in
theorem iRecText_any (r : Rec) (w : World) : Calls Tryd.prog 36 #[reV r] w fun e w' => e = .returned (.tuple #[.string (rtI r), .bool (reOkB r)]) ∧ Below w.heap.size w w' := by
  have HR : Hid (∀ w, Calls Tryd.prog 68 #[reV r] w fun e w' => e = .returned (.bool (reOkB r)) ∧ Below w.heap.size w w') := fun w => iRecord r w
  obtain ⟨no, kd, a, b⟩ := r
  cases hok : reOkB (no, kd, a, b)
  · have HE : Hid (rtI (no, kd, a, b) = ⟨#[]⟩) := by show _ = _; rw [rtI, hok]; rfl
    rw [hok] at HR
    obtain ⟨W, hW⟩ : ∃ W, w.alloc (.cells #[.int .i64 no, .int .i64 kd, .int .i64 a, .int .i64 b] 38) = W := ⟨_, rfl⟩
    have hbx : Below w.heap.size w W := by rw [← hW]; exact gAlloc _ _
    have KX : W.heap[w.heap.size]? = some (.cells #[.int .i64 no, .int .i64 kd, .int .i64 a, .int .i64 b] 38 (0, 0)) := by rw [← hW]; exact heap_alloc_new _ _
    have p0 : W.cell? ⟨w.heap.size, 0, none⟩ = some (.int .i64 no) := cell_of_row _ _ 0 _ _ _ KX
    have p1 : W.cell? ⟨w.heap.size, 1, none⟩ = some (.int .i64 kd) := cell_of_row _ _ 1 _ _ _ KX
    have p2 : W.cell? ⟨w.heap.size, 2, none⟩ = some (.int .i64 a) := cell_of_row _ _ 2 _ _ _ KX
    have p3 : W.cell? ⟨w.heap.size, 3, none⟩ = some (.int .i64 b) := cell_of_row _ _ 3 _ _ _ KX
    have HB := Lib.hid hbx
    clear hbx KX hok
    go_enter Tryd.func36, Tryd.ntmps36
    go_wp2_with fail
    refine (HR.out _).mono ?_
    rintro e w1 ⟨rfl, hb1⟩
    go_wp2_with fail
    go_ret2
    exact ⟨by rw [HE.out]; rfl, below_more HB.out hb1⟩
  · obtain ⟨⟨h1, h2⟩, ⟨h3, h4⟩, ⟨h5, h6⟩, h7, h8⟩ := re_ok hok
    simp only at h1 h2 h3 h4 h5 h6 h7 h8
    obtain ⟨no, rfl⟩ := Int.eq_ofNat_of_zero_le (show 0 ≤ no by omega)
    obtain ⟨kd, rfl⟩ := Int.eq_ofNat_of_zero_le (show 0 ≤ kd by omega)
    obtain ⟨a, rfl⟩ := Int.eq_ofNat_of_zero_le h5
    obtain ⟨b, rfl⟩ := Int.eq_ofNat_of_zero_le h7
    rw [hok] at HR
    have hsz := tx0_size no kd a b
    have hsu : suI (tx0 no kd a b) = smB (tx0 no kd a b) (tx0 no kd a b).size := by rw [suI, if_pos (by omega)]
    have hm := smB_lt (tx0 no kd a b) (tx0 no kd a b).size
    refine (iText_walk no kd a b _ _ _ _ (dgA 4 (smB (tx0 no kd a b) (tx0 no kd a b).size) ⟨#[]⟩) (tx0 no kd a b) (smB (tx0 no kd a b) (tx0 no kd a b).size) w rfl hsu (Nat.le_of_eq (dg_size 4 _)) (Nat.le_of_eq (dg_size 2 no)) (Nat.le_of_eq (dg_size 1 kd)) (Nat.le_of_eq (dg_size 4 a)) (Nat.le_of_eq (dg_size 4 b)) HR (fun w => iPad2 no w (by omega)) (fun w => iPad1 kd w (by omega)) (fun w => iPad4 a w (by omega)) (fun w => iPad4 b w (by omega)) (fun w => iPad4 _ w (by omega))).mono ?_
    rintro e w' ⟨rfl, hb⟩
    exact ⟨by rw [rtI, if_pos hok]; rfl, hb⟩
end Go.Proofs.YthbjcipdneminaaDoor

/- GM -/
namespace Go.Proofs.YthbjcipdneminaaDoor
open Go.RowKit

theorem atI2 (a b : UInt8) {d f : Nat} (h : a.toNat = 48 + d) (h2 : b.toNat = 48 + f) (hd : d ≤ 9) (hf : f ≤ 9) : atI ⟨#[a, b]⟩ = (10 * d + f : Nat) := by
  have e : Lib.atoi [a, b] = some ((10 * d + f : Nat) : Int) := by
    have ha : (a == 45) = false := by rw [beq_eq_false_iff_ne]; rintro rfl; simp at h; omega
    have hb : (a == 43) = false := by rw [beq_eq_false_iff_ne]; rintro rfl; simp at h; omega
    simp only [Lib.atoi, ha, hb, Lib.decNat, Lib.decFrom, Lib.digitVal, h, h2, List.isEmpty_cons, Bool.false_eq_true, if_false, Option.map]
    rw [if_pos (by omega)]; simp only
    rw [if_pos (by omega)]; simp only [Option.some.injEq]
    omega
  unfold atI
  show (Lib.atoi [a, b]).getD 0 = _
  rw [e]; rfl
theorem atI1 (a : UInt8) {d : Nat} (h : a.toNat = 48 + d) (hd : d ≤ 9) : atI ⟨#[a]⟩ = (d : Int) := by
  have e : Lib.atoi [a] = some (d : Int) := by
    have ha : (a == 45) = false := by rw [beq_eq_false_iff_ne]; rintro rfl; simp at h; omega
    have hb : (a == 43) = false := by rw [beq_eq_false_iff_ne]; rintro rfl; simp at h; omega
    simp only [Lib.atoi, ha, hb, Lib.decNat, Lib.decFrom, Lib.digitVal, h, List.isEmpty_cons, Bool.false_eq_true, if_false, Option.map]
    rw [if_pos (by omega)]; simp only [Option.some.injEq]
    omega
  unfold atI
  show (Lib.atoi [a]).getD 0 = _
  rw [e]; rfl
theorem atI4 (a b c d : UInt8) {x y z t : Nat} (h : a.toNat = 48 + x) (h2 : b.toNat = 48 + y) (h3 : c.toNat = 48 + z) (h4 : d.toNat = 48 + t) (hx : x ≤ 9) (hy : y ≤ 9) (hz : z ≤ 9) (ht : t ≤ 9) : atI ⟨#[a, b, c, d]⟩ = (1000 * x + 100 * y + 10 * z + t : Nat) := by
  have e : Lib.atoi [a, b, c, d] = some ((1000 * x + 100 * y + 10 * z + t : Nat) : Int) := by
    have ha : (a == 45) = false := by rw [beq_eq_false_iff_ne]; rintro rfl; simp at h; omega
    have hb : (a == 43) = false := by rw [beq_eq_false_iff_ne]; rintro rfl; simp at h; omega
    simp only [Lib.atoi, ha, hb, Lib.decNat, Lib.decFrom, Lib.digitVal, h, h2, h3, h4, List.isEmpty_cons, Bool.false_eq_true, if_false, Option.map]
    rw [if_pos (by omega)]; simp only
    rw [if_pos (by omega)]; simp only
    rw [if_pos (by omega)]; simp only
    rw [if_pos (by omega)]; simp only [Option.some.injEq]
    omega
  unfold atI
  show (Lib.atoi [a, b, c, d]).getD 0 = _
  rw [e]; rfl
/-- What the program reads out of a text ahead of its test. -/
def arR (s : ByteArray) : Rec := (atI (s.extract 0 2), atI (s.extract 2 3), atI (s.extract 3 7), atI (s.extract 7 11))
theorem arR_tx {r : Rec} (h : reOkB r = true) : arR (txR r) = r := by
  obtain ⟨⟨h1, h2⟩, ⟨h3, h4⟩, ⟨h5, h6⟩, h7, h8⟩ := re_ok h
  obtain ⟨no, kd, a, b⟩ := r
  simp only at h1 h2 h3 h4 h5 h6 h7 h8
  obtain ⟨no, rfl⟩ := Int.eq_ofNat_of_zero_le (show 0 ≤ no by omega)
  obtain ⟨kd, rfl⟩ := Int.eq_ofNat_of_zero_le (show 0 ≤ kd by omega)
  obtain ⟨a, rfl⟩ := Int.eq_ofNat_of_zero_le h5
  obtain ⟨b, rfl⟩ := Int.eq_ofNat_of_zero_le h7
  have e : txR ((no : Int), (kd : Int), (a : Int), (b : Int)) = txI no kd a b := rfl
  obtain ⟨e1, e2, e3, e4⟩ := tx_parts no kd a b
  rw [e, arR, e1, e2, e3, e4, dg2_form, dg1_form, dg4_form, dg4_form, atI2 _ _ (u8_nat _) (u8_nat _) (by omega) (by omega), atI1 _ (u8_nat _) (by omega), atI4 _ _ _ _ (u8_nat _) (u8_nat _) (u8_nat _) (u8_nat _) (by omega) (by omega) (by omega) (by omega), atI4 _ _ _ _ (u8_nat _) (u8_nat _) (u8_nat _) (u8_nat _) (by omega) (by omega) (by omega) (by omega)]
  refine Prod.ext ?_ (Prod.ext ?_ (Prod.ext ?_ ?_)) <;> simp only <;> omega
theorem ar_yes {s : ByteArray} (h16 : s.size = 16) (h : rtI (arR s) = s) : rrI s = arR s ∧ rrOkB s = true := by
  cases hr : reOkB (arR s)
  · rw [rtI, hr] at h
    have h2 : (0 : Nat) = s.size := congrArg ByteArray.size h
    omega
  · rw [rtI, if_pos hr] at h
    have h3 := rr_tx hr
    rw [h] at h3
    exact ⟨h3.2, h3.1⟩
theorem ar_not {s : ByteArray} (h : ¬ rtI (arR s) = s) : rrI s = (0, 0, 0, 0) ∧ rrOkB s = false := by
  refine rr_not ?_
  cases hr : rrOkB s
  · rfl
  · exfalso
    obtain ⟨h1, h2⟩ := tx_rr hr
    have h4 : rtI (rrI s) = txR (rrI s) := by rw [rtI, if_pos h1]
    rw [h4] at h2
    have h3 := arR_tx h1
    rw [h2] at h3
    exact h (by rw [h3, h4, h2])
/-- The orders of a region that draws meet in frames that differ in one block's number. -/
theorem wp_meet_y {P : Program} {c : Code} {Q : Exit → Act → World → Prop} {a : Act} {w : World} (R : Nat → World → Prop) (A : Nat → Act)
    (hreg : c.wp P (fun e a' w' => e = .normal ∧ ∃ Y, a' = A Y ∧ R Y w') a w) (himp : ∀ Y w', R Y w' → Q .normal (A Y) w') : c.wp P Q a w :=
  Code.wp_mono (fun e a' w' ⟨h1, Y, h2, h3⟩ => by rw [h1, h2]; exact himp _ _ h3) hreg
theorem box_to {w w' : World} {X : Nat} {o : Obj} (hb : Below w.heap.size w w') (h : w.heap[X]? = some o) : w'.heap[X]? = some o := (hb.block _ (heap_lt h)).trans h
theorem below_set4 {n X : Nat} {w w' : World} (hb : Below n w w') (h : n ≤ X) (a b c d : Value) : Below n w ((((w'.setCell ⟨X, 0, none⟩ a).setCell ⟨X, 1, none⟩ b).setCell ⟨X, 2, none⟩ c).setCell ⟨X, 3, none⟩ d) := (((hb.setCell h _).setCell h _).setCell h _).setCell h _
theorem re_new {w : World} (n1 n2 n3 n4 : Int) : (w.alloc (.cells #[.int .i64 n1, .int .i64 n2, .int .i64 n3, .int .i64 n4] 38)).heap[w.heap.size]? = some (.cells #[.int .i64 n1, .int .i64 n2, .int .i64 n3, .int .i64 n4] 38 (0, 0)) := heap_alloc_new _ _

set_option maxRecDepth 100000 in
set_option maxHeartbeats 4000000 in
theorem iReadRec_any (s : ByteArray) (w : World) (hK : ESyn w) : Calls Tryd.prog 22 #[.string s] w fun e w' => e = .returned (.tuple #[reV (rrI s), .bool (rrOkB s)]) ∧ Below w.heap.size w w' := by
  obtain ⟨W, hW⟩ : ∃ W, w.alloc (.cells #[.int .i64 0, .int .i64 0, .int .i64 0, .int .i64 0] 38) = W := ⟨_, rfl⟩
  have hbW : Below w.heap.size w W := by rw [← hW]; exact gAlloc _ _
  have hz : W.heap[w.heap.size]? = some (.cells #[.int .i64 0, .int .i64 0, .int .i64 0, .int .i64 0] 38 (0, 0)) := by rw [← hW]; exact heap_alloc_new _ _
  have HZ := Lib.hid hz
  have HBW := Lib.hid hbW
  have HLt := Lib.hid (heap_lt hz)
  have HKW := Lib.hid (esyn_stays _ _ hK hbW)
  clear hz hbW hK
  by_cases h16 : s.size = 16
  case neg =>
    have hi : ((s.size : Int) != 16) = true := by simp; omega
    have HE := Lib.hid (rr_not (s := s) (by rw [rrOkB]; simp [h16]))
    have x0 : W.cell? ⟨w.heap.size, 0, none⟩ = some (.int .i64 0) := cell_of_row _ _ 0 _ _ _ HZ.out
    have x1 : W.cell? ⟨w.heap.size, 1, none⟩ = some (.int .i64 0) := cell_of_row _ _ 1 _ _ _ HZ.out
    have x2 : W.cell? ⟨w.heap.size, 2, none⟩ = some (.int .i64 0) := cell_of_row _ _ 2 _ _ _ HZ.out
    have x3 : W.cell? ⟨w.heap.size, 3, none⟩ = some (.int .i64 0) := cell_of_row _ _ 3 _ _ _ HZ.out
    have f0 := frozen_of_row _ _ 0 _ _ HZ.out
    have f1 := frozen_of_row _ _ 1 _ _ HZ.out
    have f2 := frozen_of_row _ _ 2 _ _ HZ.out
    have f3 := frozen_of_row _ _ 3 _ _ HZ.out
    go_enter Tryd.func22, Tryd.ntmps22
    go_wp2_with fail
    obtain ⟨d1, d2⟩ := re_stored (w := w) (0, 0, 0, 0) HZ.out rfl HBW.out (Nat.le_refl _)
    exact ret_re2 rfl w.heap.size (0, 0, 0, 0) false rfl rfl d1 rfl ⟨by rw [HE.out.1, HE.out.2], d2⟩
  have hi : ((s.size : Int) != 16) = false := by rw [h16]; rfl
  have H16 := Lib.hid h16
  have hsz : (s.size : Int) ≤ 16 := by omega
  have hsa : (2 : Int) ≤ (s.size : Int) := by omega
  have hsb : (3 : Int) ≤ (s.size : Int) := by omega
  have hsc : (7 : Int) ≤ (s.size : Int) := by omega
  have hsd : (11 : Int) ≤ (s.size : Int) := by omega
  have HN : Hid (∀ x : ByteArray, x.size ≤ 18 → ∀ w', Below W.heap.size W w' → Calls Tryd.prog 48 #[.string x] w' fun e w'' => e = .returned (.int .i64 (atI x)) ∧ Below w'.heap.size w' w'') := fun x h w' hb => iNumber x h w' (esyn_stays _ _ HKW.out hb)
  have hx : ∀ i j, (s.extract i j).size ≤ 18 := fun i j => by rw [ByteArray.size_extract]; omega
  have HA : Hid (arR s = (atI (s.extract 0 2), atI (s.extract 2 3), atI (s.extract 3 7), atI (s.extract 7 11))) := rfl
  clear h16
  go_enter Tryd.func22, Tryd.ntmps22
  go_wp2_with fail
  obtain ⟨n1, hn1⟩ : ∃ n, atI (s.extract 0 2) = n := ⟨_, rfl⟩
  obtain ⟨n2, hn2⟩ : ∃ n, atI (s.extract 2 3) = n := ⟨_, rfl⟩
  obtain ⟨n3, hn3⟩ : ∃ n, atI (s.extract 3 7) = n := ⟨_, rfl⟩
  obtain ⟨n4, hn4⟩ : ∃ n, atI (s.extract 7 11) = n := ⟨_, rfl⟩
  have hBd : Below W.heap.size W W.drew := gDrew
  apply wp_meet_y (fun Y V => V.heap[Y]? = some (.cells #[.int .i64 n1, .int .i64 n2, .int .i64 n3, .int .i64 n4] 38 (0, 0)) ∧ Below W.heap.size W V ∧ W.heap.size ≤ Y)
  case hreg =>
    go_region_held3 (fun w' => Below W.heap.size W w') (first | exact gDrew | assumption | exact below_more gDrew (gAlloc _ _) | exact below_more (by assumption) (gAlloc _ _) | exact below_more (gAlloc _ _) gDrew | exact below_set4 (by assumption) (by first | exact Nat.le_refl _ | exact hB2.size | exact hB3.size | exact hB4.size | exact hB5.size) _ _ _ _ | go_keep) (first
      | (go_at_call 48; have hpre := hb4; clear hpre; refine (HN.out _ (hx _ _) _ (by first | assumption | exact below_more (by assumption) (gAlloc _ _))).mono ?_; rintro e w5 ⟨rfl, hb5⟩; have hB5 : Below W.heap.size W w5 := (by first | exact below_more (by assumption) hb5 | exact below_more (below_more (by assumption) (gAlloc _ _)) hb5); (try (have hzc : w5.heap[W.heap.size]? = some (.cells #[.int .i64 0, .int .i64 0, .int .i64 0, .int .i64 0] 38 (0, 0)) := box_to hb5 (box_to hb4 (box_to hb3 (box_to hb2 (alloc_atD _ _)))); have pc0 := cell_of_row w5 _ 0 _ _ _ hzc; have fc0 := frozen_of_row w5 _ 0 _ _ hzc; have pc1 := cell_of_row w5 _ 1 _ _ _ hzc; have fc1 := frozen_of_row w5 _ 1 _ _ hzc; have pc2 := cell_of_row w5 _ 2 _ _ _ hzc; have fc2 := frozen_of_row w5 _ 2 _ _ hzc; have pc3 := cell_of_row w5 _ 3 _ _ _ hzc; have fc3 := frozen_of_row w5 _ 3 _ _ hzc)); (try (have hz2 : w5.heap[w2.heap.size]? = some (.cells #[.int .i64 0, .int .i64 0, .int .i64 0, .int .i64 0] 38 (0, 0)) := box_to hb5 (box_to hb4 (box_to hb3 (heap_alloc_new _ _))); have p20 := cell_of_row w5 _ 0 _ _ _ hz2; have f20 := frozen_of_row w5 _ 0 _ _ hz2; have p21 := cell_of_row w5 _ 1 _ _ _ hz2; have f21 := frozen_of_row w5 _ 1 _ _ hz2; have p22 := cell_of_row w5 _ 2 _ _ _ hz2; have f22 := frozen_of_row w5 _ 2 _ _ hz2; have p23 := cell_of_row w5 _ 3 _ _ _ hz2; have f23 := frozen_of_row w5 _ 3 _ _ hz2)); (try (have hz3 : w5.heap[w3.heap.size]? = some (.cells #[.int .i64 0, .int .i64 0, .int .i64 0, .int .i64 0] 38 (0, 0)) := box_to hb5 (box_to hb4 (heap_alloc_new _ _)); have p30 := cell_of_row w5 _ 0 _ _ _ hz3; have f30 := frozen_of_row w5 _ 0 _ _ hz3; have p31 := cell_of_row w5 _ 1 _ _ _ hz3; have f31 := frozen_of_row w5 _ 1 _ _ hz3; have p32 := cell_of_row w5 _ 2 _ _ _ hz3; have f32 := frozen_of_row w5 _ 2 _ _ hz3; have p33 := cell_of_row w5 _ 3 _ _ _ hz3; have f33 := frozen_of_row w5 _ 3 _ _ hz3)); (try (have hz4 : w5.heap[w4.heap.size]? = some (.cells #[.int .i64 0, .int .i64 0, .int .i64 0, .int .i64 0] 38 (0, 0)) := box_to hb5 (heap_alloc_new _ _); have p40 := cell_of_row w5 _ 0 _ _ _ hz4; have f40 := frozen_of_row w5 _ 0 _ _ hz4; have p41 := cell_of_row w5 _ 1 _ _ _ hz4; have f41 := frozen_of_row w5 _ 1 _ _ hz4; have p42 := cell_of_row w5 _ 2 _ _ _ hz4; have f42 := frozen_of_row w5 _ 2 _ _ hz4; have p43 := cell_of_row w5 _ 3 _ _ _ hz4; have f43 := frozen_of_row w5 _ 3 _ _ hz4)))
      | (go_at_call 48; have hpre := hb3; clear hpre; refine (HN.out _ (hx _ _) _ (by first | assumption | exact below_more (by assumption) (gAlloc _ _))).mono ?_; rintro e w4 ⟨rfl, hb4⟩; have hB4 : Below W.heap.size W w4 := (by first | exact below_more (by assumption) hb4 | exact below_more (below_more (by assumption) (gAlloc _ _)) hb4))
      | (go_at_call 48; have hpre := hb2; clear hpre; refine (HN.out _ (hx _ _) _ (by first | assumption | exact below_more (by assumption) (gAlloc _ _))).mono ?_; rintro e w3 ⟨rfl, hb3⟩; have hB3 : Below W.heap.size W w3 := (by first | exact below_more (by assumption) hb3 | exact below_more (below_more (by assumption) (gAlloc _ _)) hb3))
      | (go_at_call 48; refine (HN.out _ (hx _ _) _ (by first | assumption | exact below_more (by assumption) (gAlloc _ _))).mono ?_; rintro e w2 ⟨rfl, hb2⟩; have hB2 : Below W.heap.size W w2 := (by first | exact below_more (by assumption) hb2 | exact below_more (below_more (by assumption) (gAlloc _ _)) hb2)))
    all_goals
      have hs2 := hB2.size
      have hs3 := hB3.size
      have hs4 := hB4.size
      have hs5 := hB5.size
      first
        | (have HM := re_new (w := w5) n1 n2 n3 n4; have HB := below_more hB5 (gAlloc w5 (.cells #[.int .i64 n1, .int .i64 n2, .int .i64 n3, .int .i64 n4] 38)); have hle : W.heap.size ≤ w5.heap.size := (by omega); obtain ⟨Y, hY⟩ : ∃ Y, w5.heap.size = Y := ⟨_, rfl⟩; rw [hY] at HM hle ⊢; (try rw [hY] at HB); exact ⟨rfl, Y, rfl, HM, HB, hle⟩)
        | (obtain ⟨HM, HB⟩ := re_stored (n1, n2, n3, n4) hz2 rfl hB5 (by omega); have hle : W.heap.size ≤ w2.heap.size := (by omega); obtain ⟨Y, hY⟩ : ∃ Y, w2.heap.size = Y := ⟨_, rfl⟩; rw [hY] at HM hle ⊢; (try rw [hY] at HB); exact ⟨rfl, Y, rfl, HM, HB, hle⟩)
        | (obtain ⟨HM, HB⟩ := re_stored (n1, n2, n3, n4) hz3 rfl hB5 (by omega); have hle : W.heap.size ≤ w3.heap.size := (by omega); obtain ⟨Y, hY⟩ : ∃ Y, w3.heap.size = Y := ⟨_, rfl⟩; rw [hY] at HM hle ⊢; (try rw [hY] at HB); exact ⟨rfl, Y, rfl, HM, HB, hle⟩)
        | (obtain ⟨HM, HB⟩ := re_stored (n1, n2, n3, n4) hz4 rfl hB5 (by omega); have hle : W.heap.size ≤ w4.heap.size := (by omega); obtain ⟨Y, hY⟩ : ∃ Y, w4.heap.size = Y := ⟨_, rfl⟩; rw [hY] at HM hle ⊢; (try rw [hY] at HB); exact ⟨rfl, Y, rfl, HM, HB, hle⟩)
        | (obtain ⟨HM, HB⟩ := re_stored (n1, n2, n3, n4) hzc rfl hB5 (by omega); have hle : W.heap.size ≤ W.heap.size := (by omega); obtain ⟨Y, hY⟩ : ∃ Y, W.heap.size = Y := ⟨_, rfl⟩; rw [hY] at HM hle ⊢; (try rw [hY] at HB); exact ⟨rfl, Y, rfl, HM, HB, hle⟩)
  case himp =>
    rintro P V ⟨hQ, hbV, hPl⟩
    have HZV := Lib.hid ((hbV.block _ HLt.out).trans HZ.out)
    have HBV := Lib.hid (below_more HBW.out hbV)
    have HQ := Lib.hid hQ
    have HR : Hid (∀ w, Calls Tryd.prog 36 #[.agg #[.int .i64 n1, .int .i64 n2, .int .i64 n3, .int .i64 n4]] w fun e w' => e = .returned (.tuple #[.string (rtI (n1, n2, n3, n4)), .bool (reOkB (n1, n2, n3, n4))]) ∧ Below w.heap.size w w') := fun w => iRecText_any (n1, n2, n3, n4) w
    have HAr : Hid (arR s = (n1, n2, n3, n4)) := by show _ = _; rw [HA.out, hn1, hn2, hn3, hn4]
    clear hQ hbV hPl hBd HA hn1 hn2 hn3 hn4 HN hx hsa hsb hsc hsd hi hW HZ HBW HKW HLt
    generalize reOkB (n1, n2, n3, n4) = ok at *
    have q0 : V.cell? ⟨P, 0, none⟩ = some (.int .i64 n1) := cell_of_row _ _ 0 _ _ _ HQ.out
    have q1 : V.cell? ⟨P, 1, none⟩ = some (.int .i64 n2) := cell_of_row _ _ 1 _ _ _ HQ.out
    have q2 : V.cell? ⟨P, 2, none⟩ = some (.int .i64 n3) := cell_of_row _ _ 2 _ _ _ HQ.out
    have q3 : V.cell? ⟨P, 3, none⟩ = some (.int .i64 n4) := cell_of_row _ _ 3 _ _ _ HQ.out
    by_cases ht : rtI (n1, n2, n3, n4) = s
    · have HE := Lib.hid (ar_yes H16.out (by rw [HAr.out]; exact ht))
      rw [HAr.out] at HE
      rw [ht] at HR
      clear ht HAr H16
      go_wp2_with fail
      refine (HR.out _).mono ?_
      rintro e w2 ⟨rfl, hb2⟩
      have Q2 := Lib.hid ((hb2.block _ (heap_lt HQ.out)).trans HQ.out)
      have K2 := Lib.hid ((hb2.block _ (heap_lt HZV.out)).trans HZV.out)
      have HB2 := Lib.hid (below_more HBV.out hb2)
      clear hb2 q0 q1 q2 q3
      have q0 : w2.cell? ⟨P, 0, none⟩ = some (.int .i64 n1) := cell_of_row _ _ 0 _ _ _ Q2.out
      have q1 : w2.cell? ⟨P, 1, none⟩ = some (.int .i64 n2) := cell_of_row _ _ 1 _ _ _ Q2.out
      have q2 : w2.cell? ⟨P, 2, none⟩ = some (.int .i64 n3) := cell_of_row _ _ 2 _ _ _ Q2.out
      have q3 : w2.cell? ⟨P, 3, none⟩ = some (.int .i64 n4) := cell_of_row _ _ 3 _ _ _ Q2.out
      have x0 := cell_of_row w2 _ 0 _ _ _ K2.out
      have x1 := cell_of_row w2 _ 1 _ _ _ K2.out
      have x2 := cell_of_row w2 _ 2 _ _ _ K2.out
      have x3 := cell_of_row w2 _ 3 _ _ _ K2.out
      have f0 := frozen_of_row w2 _ 0 _ _ K2.out
      have f1 := frozen_of_row w2 _ 1 _ _ K2.out
      have f2 := frozen_of_row w2 _ 2 _ _ K2.out
      have f3 := frozen_of_row w2 _ 3 _ _ K2.out
      go_wp2_with fail
      obtain ⟨d1, d2⟩ := re_stored (w := w) (n1, n2, n3, n4) K2.out rfl HB2.out (Nat.le_refl _)
      exact ret_re2 rfl w.heap.size (n1, n2, n3, n4) true rfl rfl d1 rfl ⟨by rw [HE.out.1, HE.out.2], d2⟩
    · have HE := Lib.hid (ar_not (s := s) (by rw [HAr.out]; exact ht))
      have hne := str_ne ht
      clear ht HAr H16
      generalize rtI (n1, n2, n3, n4) = T at *
      go_wp2_with fail
      refine (HR.out _).mono ?_
      rintro e w2 ⟨rfl, hb2⟩
      have K2 := Lib.hid ((hb2.block _ (heap_lt HZV.out)).trans HZV.out)
      have HB2 := Lib.hid (below_more HBV.out hb2)
      clear hb2 q0 q1 q2 q3
      have x0 := cell_of_row w2 _ 0 _ _ _ K2.out
      have x1 := cell_of_row w2 _ 1 _ _ _ K2.out
      have x2 := cell_of_row w2 _ 2 _ _ _ K2.out
      have x3 := cell_of_row w2 _ 3 _ _ _ K2.out
      have f0 := frozen_of_row w2 _ 0 _ _ K2.out
      have f1 := frozen_of_row w2 _ 1 _ _ K2.out
      have f2 := frozen_of_row w2 _ 2 _ _ K2.out
      have f3 := frozen_of_row w2 _ 3 _ _ K2.out
      go_wp2_with fail
      obtain ⟨d1, d2⟩ := re_stored (w := w) (0, 0, 0, 0) K2.out rfl HB2.out (Nat.le_refl _)
      exact ret_re2 rfl w.heap.size (0, 0, 0, 0) false rfl rfl d1 rfl ⟨by rw [HE.out.1, HE.out.2], d2⟩
end Go.Proofs.YthbjcipdneminaaDoor

/- GO -/
namespace Go.Proofs.YthbjcipdneminaaDoor
open Go.RowKit

theorem ap_put (ss : List ByteArray) (ps : List (Int × ByteArray)) (r : Rec) : puOkB ss ps (IntKind.i64.wrap (r.1 - 1)) (rtI r) = apOkB ss ps r ∧ puS ss ps (IntKind.i64.wrap (r.1 - 1)) (rtI r) = apS ss ps r ∧ puP ss ps (IntKind.i64.wrap (r.1 - 1)) (rtI r) = apP ss ps r := by
  cases hr : reOkB r
  · have h1 : rtI r = ⟨#[]⟩ := by rw [rtI, hr]; rfl
    have h2 : puOkB ss ps (IntKind.i64.wrap (r.1 - 1)) (rtI r) = false := by
      rw [h1, puOkB]; simp [ByteArray.size]
    obtain ⟨h3, h4, -⟩ := pu_not h2
    exact ⟨by rw [h2, apOkB, hr]; rfl, by rw [h3, apS, hr]; rfl, by rw [h4, apP, hr]; rfl⟩
  · obtain ⟨⟨h1, h2⟩, -⟩ := re_ok hr
    have hw : IntKind.i64.wrap (r.1 - 1) = r.1 - 1 := wrap62 _ (by omega) (by omega)
    have ht : rtI r = txR r := by rw [rtI, if_pos hr]
    rw [hw, ht]
    exact ⟨by rw [apOkB, hr]; rfl, by rw [apS, if_pos hr], by rw [apP, if_pos hr]⟩
set_option maxRecDepth 100000 in
set_option maxHeartbeats 2000000 in
theorem iAppend_any (A B : Option Addr) (ss : List ByteArray) (ps : List (Int × ByteArray)) (ca cb : Nat) (no kd a b : Int) (w : World) (hd : DiskIn w A B ss ps) (hA : Lies9 A ca) (hB : Lies9 B cb) :
    Calls Tryd.prog 13 #[diskV (.slice A ss.length ca) (.slice B ps.length cb), .int .i64 no, .int .i64 kd, .int .i64 a, .int .i64 b] w fun e w' => ∃ v1 v2, e = .returned (.tuple #[diskV v1 v2, .bool (apOkB ss ps (no, kd, a, b))]) ∧ OwnD w' w.heap.size v1 v2 (apS ss ps (no, kd, a, b)) (apP ss ps (no, kd, a, b)) ∧ Below w.heap.size w w' := by
  obtain ⟨W1, hW1⟩ : ∃ W, w.alloc (.cells #[.slice A ss.length ca, .slice B ps.length cb] 26) = W := ⟨_, rfl⟩
  obtain ⟨W, hW⟩ : ∃ W, W1.alloc (.cells #[.slice none 0 0, .slice none 0 0] 26) = W := ⟨_, rfl⟩
  have b1 : Below w.heap.size w W1 := by rw [← hW1]; exact gAlloc _ _
  have b2 : Below W1.heap.size W1 W := by rw [← hW]; exact gAlloc _ _
  have h1 : W.heap[w.heap.size]? = some (.cells #[.slice A ss.length ca, .slice B ps.length cb] 26 (0, 0)) := by
    have e : W1.heap[w.heap.size]? = some (.cells #[.slice A ss.length ca, .slice B ps.length cb] 26 (0, 0)) := by rw [← hW1]; exact heap_alloc_new _ _
    exact (b2.block _ (heap_lt e)).trans e
  have h2 : W.heap[W1.heap.size]? = some (.cells #[.slice none 0 0, .slice none 0 0] 26 (0, 0)) := by rw [← hW]; exact heap_alloc_new _ _
  have HS1 : Hid (w.heap.size < W1.heap.size ∧ W1.heap.size < W.heap.size) := by
    refine ⟨?_, heap_lt h2⟩
    rw [← hW1]; simp
  have HB := Lib.hid (below_more b1 b2)
  have HD := Lib.hid (hd.below HB.out)
  have H1 := Lib.hid h1
  have H2 := Lib.hid h2
  have HR : Hid (∀ w, Calls Tryd.prog 36 #[.agg #[.int .i64 no, .int .i64 kd, .int .i64 a, .int .i64 b]] w fun e w' => e = .returned (.tuple #[.string (rtI (no, kd, a, b)), .bool (reOkB (no, kd, a, b))]) ∧ Below w.heap.size w w') := fun w => iRecText_any (no, kd, a, b) w
  have HP : Hid (∀ k y w', Below W.heap.size W w' → Calls Tryd.prog 37 #[diskV (.slice A ss.length ca) (.slice B ps.length cb), .int .i64 k, .string y] w' fun e w'' => ∃ v1 v2, e = .returned (.tuple #[diskV v1 v2, .bool (puOkB ss ps k y)]) ∧ OwnD w'' w'.heap.size v1 v2 (puS ss ps k y) (puP ss ps k y) ∧ Below w'.heap.size w' w'') := fun k y w' h => iPutS_any A B ss ps ca cb k y w' (HD.out.below h) hA hB
  have HE := Lib.hid (ap_put ss ps (no, kd, a, b))
  clear hd hA hB b1 b2 h1 h2
  obtain ⟨k, hk⟩ : ∃ k, IntKind.i64.wrap (no - 1) = k := ⟨_, rfl⟩
  have HE : Hid (puOkB ss ps k (rtI (no, kd, a, b)) = apOkB ss ps (no, kd, a, b) ∧ puS ss ps k (rtI (no, kd, a, b)) = apS ss ps (no, kd, a, b) ∧ puP ss ps k (rtI (no, kd, a, b)) = apP ss ps (no, kd, a, b)) := by rw [← hk]; exact HE.out
  rw [← HE.out.1, ← HE.out.2.1, ← HE.out.2.2]
  clear HE
  generalize rtI (no, kd, a, b) = y at *
  generalize reOkB (no, kd, a, b) = ok at *
  have HPy := Lib.hid (HP.out k y)
  clear HP
  generalize puOkB ss ps k y = pb at *
  generalize puS ss ps k y = S at *
  generalize puP ss ps k y = Q at *
  go_enter Tryd.func13, Tryd.ntmps13
  go_wp2_with fail
  refine (HR.out _).mono ?_
  rintro e w1 ⟨rfl, hb1⟩
  have K1 := Lib.hid ((hb1.block _ (heap_lt H1.out)).trans H1.out)
  have K2 := Lib.hid ((hb1.block _ (heap_lt H2.out)).trans H2.out)
  have HBw := Lib.hid hb1
  clear hb1 hW hW1
  have x0 : w1.cell? ⟨w.heap.size, 0, none⟩ = some (.slice A ss.length ca) := cell_of_row _ _ 0 _ _ _ K1.out
  have x1 : w1.cell? ⟨w.heap.size, 1, none⟩ = some (.slice B ps.length cb) := cell_of_row _ _ 1 _ _ _ K1.out
  go_wp2_with fail
  refine (HPy.out w1 HBw.out).mono ?_
  rintro e w3 ⟨v1, v2, rfl, ho, hb3⟩
  obtain ⟨A1, c1, rfl, -⟩ := ho.sure.form fSt_len
  obtain ⟨A2, c2, rfl, -⟩ := ho.later.form fPu_len
  have K3 := Lib.hid ((hb3.block _ (heap_lt K2.out)).trans K2.out)
  have HO := Lib.hid ho
  have HB3 := Lib.hid (below_more HB.out (below_more HBw.out hb3))
  have HLt := Lib.hid (heap_lt K2.out)
  clear ho hb3 x0 x1
  have r0 := cell_of_row w3 _ 0 _ _ _ K3.out
  have r1 := cell_of_row w3 _ 1 _ _ _ K3.out
  have f0 := frozen_of_row w3 _ 0 _ _ K3.out
  have f1 := frozen_of_row w3 _ 1 _ _ K3.out
  go_wp2_with fail
  obtain ⟨hs1, hs2⟩ := HS1.out
  have hlt := HLt.out
  have g0 := gSet9 w3 W1.heap.size 0 (.slice A1 S.length c1)
  have g1 := gSet9 (w3.setCell ⟨W1.heap.size, 0, none⟩ (.slice A1 S.length c1)) W1.heap.size 1 (.slice A2 Q.length c2)
  have hww : w.heap.size ≤ w1.heap.size := Nat.le_of_lt (Nat.lt_trans hs1 hlt)
  exact ret_dk2 rfl W1.heap.size _ _ pb rfl rfl (heap_setCell_same _ _ 1 _ _ _ (heap_setCell_same _ _ 0 _ _ _ K3.out)) rfl ⟨_, _, rfl, ⟨((HO.out.sure.cur hlt g0).cur hlt g1).lower hww, ((HO.out.later.cur hlt g0).cur hlt g1).lower hww, HO.out.apart⟩, (HB3.out.setCell (Nat.le_of_lt hs1) _).setCell (Nat.le_of_lt hs1) _⟩

theorem lg_cond (s : ByteArray) (j : Nat) : (rrOkB s && decide ((rrI s).1 = (j : Int) + 1)) = decide ((rrI s).1 = (j : Int) + 1) := by
  cases h : rrOkB s
  · rw [(rr_not h).1]
    show false = decide ((0 : Int) = (j : Int) + 1)
    symm; rw [decide_eq_false_iff_not]; omega
  · rfl
set_option maxRecDepth 100000 in
set_option maxHeartbeats 4000000 in
theorem iReadLog_any (A B : Option Addr) (ss : List ByteArray) (ps : List (Int × ByteArray)) (ca cb : Nat) (w : World) (hK : ESyn w) (hd : DiskIn w A B ss ps) (hA : Lies9 A ca) :
    Calls Tryd.prog 10 #[diskV (.slice A ss.length ca) (.slice B ps.length cb)] w fun e w' => ∃ v, e = .returned (.tuple #[v, .bool (goodDB ss ps)]) ∧ OwnRe w' w.heap.size v (rlI ss ps) ∧ Below w.heap.size w w' := by
  obtain ⟨W, hW⟩ : ∃ W, w.alloc (.cells #[.slice A ss.length ca, .slice B ps.length cb] 26) = W := ⟨_, rfl⟩
  have hbW : Below w.heap.size w W := by rw [← hW]; exact gAlloc _ _
  have h1 : W.heap[w.heap.size]? = some (.cells #[.slice A ss.length ca, .slice B ps.length cb] 26 (0, 0)) := by rw [← hW]; exact heap_alloc_new _ _
  have x0 : W.cell? ⟨w.heap.size, 0, none⟩ = some (.slice A ss.length ca) := cell_of_row _ _ 0 _ _ _ h1
  have x1 : W.cell? ⟨w.heap.size, 1, none⟩ = some (.slice B ps.length cb) := cell_of_row _ _ 1 _ _ _ h1
  have HD := Lib.hid (hd.below hbW)
  have HB := Lib.hid hbW
  have HG := Lib.hid (iGoodD_any A B ss ps ca cb W HD.out)
  have HKW := Lib.hid (esyn_stays _ _ hK hbW)
  have H1 := Lib.hid h1
  have HLt := Lib.hid (heap_lt h1)
  cases hg : goodDB ss ps
  · have HE : Hid (rlI ss ps = []) := by show _ = _; rw [rlI, hg]; rfl
    rw [hg] at HG
    clear hd hbW h1 hg hK hA
    go_enter Tryd.func10, Tryd.ntmps10
    go_wp2_with (go_at_call 34; refine HG.out.mono ?_; rintro e w1 ⟨rfl, hb1⟩)
    go_ret2
    exact ⟨_, rfl, by rw [HE.out]; exact OwnR.nil _ _, below_more HB.out hb1⟩
  have HE : Hid (rlI ss ps = lgI ss ps) := by show _ = _; rw [rlI, hg]; rfl
  have HRd : Hid (∀ (j : Nat) w', j < 12 → Below W.heap.size W w' → Calls Tryd.prog 35 #[diskV (.slice A ss.length ca) (.slice B ps.length cb), .int .i64 (j : Nat)] w' fun e w'' => ∃ ok, e = .returned (.tuple #[.string (rdL ss ps j), .bool ok]) ∧ Below w'.heap.size w' w'') := fun j w' hj hb => (iReadS_any A B ss ps ca cb j w' (HD.out.below hb) hA).mono fun e w'' ⟨he, hb2⟩ => by
    have hok : rsOkB ss ps (j : Int) = true := by
      simp only [rsOkB, hg, inB, Bool.true_and, Bool.and_eq_true, decide_eq_true_eq]; omega
    have hrs : rsI ss ps (j : Int) = rdL ss ps j := by rw [rsI, if_pos hok]; rfl
    exact ⟨_, he.trans (by rw [hrs]), hb2⟩
  have HRr : Hid (∀ s w', Below W.heap.size W w' → Calls Tryd.prog 22 #[.string s] w' fun e w'' => e = .returned (.tuple #[reV (rrI s), .bool (rrOkB s)]) ∧ Below w'.heap.size w' w'') := fun s w' hb => iReadRec_any s w' (esyn_stays _ _ HKW.out hb)
  have HF : Hid (∀ f k, lgF ss ps (f + 1) k = if (rrI (rdL ss ps k)).1 = (k : Int) + 1 then rrI (rdL ss ps k) :: lgF ss ps f (k + 1) else []) := fun f k => by rw [lgF, lg_cond]; simp only [decide_eq_true_eq]
  have HF0 : Hid (∀ k, lgF ss ps 0 k = []) := fun k => rfl
  have H0 : Hid ([] ++ lgF ss ps 12 0 = lgI ss ps) := rfl
  rw [hg] at HG
  clear hd hbW h1 hg hK hA
  go_enter Tryd.func10, Tryd.ntmps10
  go_wp2_with fail
  refine HG.out.mono ?_
  rintro e w0 ⟨rfl, hb0⟩
  have HB0 := Lib.hid hb0
  clear hb0 x0 x1 hW
  go_wp2_with fail
  go_loopg [4, 13] 12 (fun gk ov kv wr => ∃ (j : Nat) (L : List Rec), j + gk = 12 ∧ kv = .int .i64 (j : Nat) ∧ OwnRe wr W.heap.size ov L ∧ L ++ lgF ss ps gk j = lgI ss ps ∧ L.length ≤ j ∧ Below W.heap.size W wr)
  case atStart => exact ⟨0, [], rfl, rfl, OwnR.nil _ _, H0.out, Nat.le_refl _, HB0.out⟩
  case round =>
    obtain ⟨j, L, hg, rfl, hown, heq, hLj, hbel⟩ := hrel
    have HO := Lib.hid hown
    have HQ := Lib.hid heq
    have HBl := Lib.hid hbel
    have K1 := Lib.hid ((hbel.block _ HLt.out).trans H1.out)
    clear hown heq hbel
    by_cases hlt : j < 12
    · obtain ⟨f, rfl⟩ : ∃ f, gk = f + 1 := ⟨gk - 1, by omega⟩
      have hji : (j : Int) < 12 := by omega
      have x0 : wr.cell? ⟨w.heap.size, 0, none⟩ = some (.slice A ss.length ca) := cell_of_row _ _ 0 _ _ _ K1.out
      have x1 : wr.cell? ⟨w.heap.size, 1, none⟩ = some (.slice B ps.length cb) := cell_of_row _ _ 1 _ _ _ K1.out
      have HRj := Lib.hid (HRd.out j wr hlt HBl.out)
      have HRrj := Lib.hid (HRr.out (rdL ss ps j))
      have HFj := Lib.hid (HF.out f j)
      have HGf : Hid (j + 1 + f = 12) := by show _ = _; omega
      have HLj := Lib.hid hLj
      clear hg hLj
      generalize rdL ss ps j = s at *
      obtain ⟨⟨n1, n2, n3, n4⟩, hr⟩ : ∃ r, rrI s = r := ⟨_, rfl⟩
      rw [hr] at HRrj HFj
      clear hr
      generalize rrOkB s = ok at *
      go_wp2_with fail
      refine HRj.out.mono ?_
      rintro e w1 ⟨ok1, rfl, hb1⟩
      have HB1 := Lib.hid (below_more HBl.out hb1)
      have HO1 := Lib.hid (HO.out.below hb1)
      clear hb1 x0 x1
      go_wp2_with fail
      refine (HRrj.out _ HB1.out).mono ?_
      rintro e w2 ⟨rfl, hb2⟩
      have hb3 := below_more hb2 (gAlloc w2 (.cells #[.int .i64 n1, .int .i64 n2, .int .i64 n3, .int .i64 n4] 38))
      have HB3 := Lib.hid (below_more HB1.out hb3)
      have HO3 := Lib.hid (HO1.out.below hb3)
      have q0 : (w2.alloc (.cells #[.int .i64 n1, .int .i64 n2, .int .i64 n3, .int .i64 n4] 38)).cell? ⟨w2.heap.size, 0, none⟩ = some (.int .i64 n1) := cell_of_row _ _ 0 _ _ _ (heap_alloc_new _ _)
      have q1 : (w2.alloc (.cells #[.int .i64 n1, .int .i64 n2, .int .i64 n3, .int .i64 n4] 38)).cell? ⟨w2.heap.size, 1, none⟩ = some (.int .i64 n2) := cell_of_row _ _ 1 _ _ _ (heap_alloc_new _ _)
      have q2 : (w2.alloc (.cells #[.int .i64 n1, .int .i64 n2, .int .i64 n3, .int .i64 n4] 38)).cell? ⟨w2.heap.size, 2, none⟩ = some (.int .i64 n3) := cell_of_row _ _ 2 _ _ _ (heap_alloc_new _ _)
      have q3 : (w2.alloc (.cells #[.int .i64 n1, .int .i64 n2, .int .i64 n3, .int .i64 n4] 38)).cell? ⟨w2.heap.size, 3, none⟩ = some (.int .i64 n4) := cell_of_row _ _ 3 _ _ _ (heap_alloc_new _ _)
      obtain ⟨w3, hw3⟩ : ∃ w3, w2.alloc (.cells #[.int .i64 n1, .int .i64 n2, .int .i64 n3, .int .i64 n4] 38) = w3 := ⟨_, rfl⟩
      rw [hw3] at q0 q1 q2 q3 HB3 HO3
      have hsz3 := HB3.out.size
      clear hb2 hb3
      by_cases hn : n1 = (j : Int) + 1
      · have hni : (n1 != (j : Int) + 1) = false := by simp [hn]
        have HN : Hid ((L ++ [(n1, n2, n3, n4)]) ++ lgF ss ps f (j + 1) = lgI ss ps) := by
          have := HQ.out; rw [HFj.out, if_pos hn] at this
          rw [List.append_assoc]; exact this
        clear hn
        go_wp2_with (at_builtin; refine app_re w3 W.heap.size _ L n1 n2 n3 n4 w3.heap.size rfl rfl _ _ rfl rfl rfl HO3.out hsz3 (by have := HLj.out; omega) W HB3.out ?_; intro v4 w4 H4)
        go_roundg f
        case measure => omega
        case rel => exact ⟨j + 1, L ++ [(n1, n2, n3, n4)], HGf.out, by go_num, H4.out.1, HN.out, by have := HLj.out; rw [List.length_append]; simp; omega, H4.out.2.1⟩
      · have hni : (n1 != (j : Int) + 1) = true := by simpa using hn
        have HN : Hid (L = lgI ss ps) := by
          show _ = _
          have := HQ.out; rw [HFj.out, if_neg hn] at this
          simpa using this
        clear hn
        obtain ⟨A4, c4, rfl, -⟩ := HO.out.form fRe_len
        go_wp2_with fail
        go_ret2
        exact ⟨_, rfl, by rw [HE.out, ← HN.out]; exact HO3.out.lower (Nat.le_of_lt HLt.out), HB.out.trans (HB3.out.mono (Nat.le_of_lt HLt.out))⟩
    · obtain rfl : gk = 0 := by omega
      have hji : ¬ (j : Int) < 12 := by omega
      have HN : Hid (L = lgI ss ps) := by
        show _ = _
        have := HQ.out; rw [HF0.out] at this
        simpa using this
      clear hg
      go_wp2_with fail
      go_ret2
      exact ⟨_, rfl, by rw [HE.out, ← HN.out]; exact HO.out.lower (Nat.le_of_lt HLt.out), HB.out.trans (HBl.out.mono (Nat.le_of_lt HLt.out))⟩
set_option maxRecDepth 100000 in
set_option maxHeartbeats 2000000 in
theorem iNextNo_any (A B : Option Addr) (ss : List ByteArray) (ps : List (Int × ByteArray)) (ca cb : Nat) (w : World) (hK : ESyn w) (hd : DiskIn w A B ss ps) (hA : Lies9 A ca) :
    Calls Tryd.prog 8 #[diskV (.slice A ss.length ca) (.slice B ps.length cb)] w fun e w' => e = .returned (.tuple #[.int .i64 (nnI ss ps : Nat), .bool (nnOkB ss ps)]) ∧ Below w.heap.size w w' := by
  obtain ⟨W, hW⟩ : ∃ W, w.alloc (.cells #[.slice A ss.length ca, .slice B ps.length cb] 26) = W := ⟨_, rfl⟩
  have hbW : Below w.heap.size w W := by rw [← hW]; exact gAlloc _ _
  have h1 : W.heap[w.heap.size]? = some (.cells #[.slice A ss.length ca, .slice B ps.length cb] 26 (0, 0)) := by rw [← hW]; exact heap_alloc_new _ _
  have x0 : W.cell? ⟨w.heap.size, 0, none⟩ = some (.slice A ss.length ca) := cell_of_row _ _ 0 _ _ _ h1
  have x1 : W.cell? ⟨w.heap.size, 1, none⟩ = some (.slice B ps.length cb) := cell_of_row _ _ 1 _ _ _ h1
  have HB := Lib.hid hbW
  have HL := Lib.hid (iReadLog_any A B ss ps ca cb W (esyn_stays _ _ hK hbW) (hd.below hbW) hA)
  clear hd hK hA hbW h1
  have hll := rl_len ss ps
  cases hg : goodDB ss ps
  · have hok : nnOkB ss ps = false := by rw [nnOkB, hg]; rfl
    have HE : Hid (nnI ss ps = 0 ∧ nnOkB ss ps = false) := ⟨by rw [nnI, hok]; rfl, hok⟩
    rw [hg] at HL
    clear hg hok
    generalize rlI ss ps = L at *
    go_enter Tryd.func8, Tryd.ntmps8
    go_wp2_with fail
    refine HL.out.mono ?_
    rintro e w1 ⟨v, rfl, ho, hb1⟩
    obtain ⟨A2, c2, rfl, -⟩ := ho.form fRe_len
    have HB1 := Lib.hid (below_more HB.out hb1)
    clear ho hb1
    go_wp2_with fail
    go_ret2
    exact ⟨by rw [HE.out.1, HE.out.2]; rfl, HB1.out⟩
  have hrl : rlI ss ps = lgI ss ps := by rw [rlI, hg]; rfl
  by_cases hn : (rlI ss ps).length = 12
  · have hok : nnOkB ss ps = false := by rw [nnOkB, ← hrl, hn]; simp
    have HE : Hid (nnI ss ps = 0 ∧ nnOkB ss ps = false) := ⟨by rw [nnI, hok]; rfl, hok⟩
    have HN := Lib.hid hn
    rw [hg] at HL
    clear hg hok hrl hn hll
    generalize rlI ss ps = L at *
    go_enter Tryd.func8, Tryd.ntmps8
    go_wp2_with fail
    refine HL.out.mono ?_
    rintro e w1 ⟨v, rfl, ho, hb1⟩
    obtain ⟨A2, c2, rfl, -⟩ := ho.form fRe_len
    have HB1 := Lib.hid (below_more HB.out hb1)
    clear ho hb1
    rw [HN.out]
    go_wp2_with fail
    go_ret2
    exact ⟨by rw [HE.out.1, HE.out.2]; rfl, HB1.out⟩
  · have hok : nnOkB ss ps = true := by rw [nnOkB, ← hrl, hg]; simp [hn]
    have HE : Hid (nnI ss ps = (rlI ss ps).length + 1 ∧ nnOkB ss ps = true) := ⟨by rw [nnI, hok, hrl]; rfl, hok⟩
    rw [hg] at HL
    obtain ⟨n, hln⟩ : ∃ n, (rlI ss ps).length = n := ⟨_, rfl⟩
    have hne : ((n : Int) == 12) = false := by rw [beq_eq_false_iff_ne]; omega
    have hn12 : n ≤ 12 := by omega
    have HLn := Lib.hid hln
    clear hg hok hrl hn hll hln
    generalize rlI ss ps = L at *
    go_enter Tryd.func8, Tryd.ntmps8
    go_wp2_with fail
    refine HL.out.mono ?_
    rintro e w1 ⟨v, rfl, ho, hb1⟩
    obtain ⟨A2, c2, rfl, -⟩ := ho.form fRe_len
    have HB1 := Lib.hid (below_more HB.out hb1)
    clear ho hb1
    rw [HLn.out]
    go_wp2_with fail
    go_ret2
    exact ⟨by rw [HE.out.1, HE.out.2, HLn.out]; rfl, HB1.out⟩
theorem cr_log (ss : List ByteArray) (ps : List (Int × ByteArray)) (ks : List Int) (torn b : Int) : rlI (crI ss ps ks torn b) [] = clI ss ps ks torn b ∧ goodDB (crI ss ps ks torn b) [] = crOkB ss ps ks torn b := by
  cases h : crOkB ss ps ks torn b
  · rw [(cr_not h).1]
    exact ⟨by rw [clI, h]; rfl, rfl⟩
  · have hg := good_crash10 h
    exact ⟨by rw [rlI, if_pos hg, clI, if_pos h], hg⟩
end Go.Proofs.YthbjcipdneminaaDoor
