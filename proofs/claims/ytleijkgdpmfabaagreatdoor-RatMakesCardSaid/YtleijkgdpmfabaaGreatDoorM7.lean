/- Contracts of the package integer and its reference: The library functions that the code calls, by the shelf of contracts, in plain words. integer.root: the first guess for at most two digits. integer.root: Newton's steps. The plain mathematics of layer 1 (as in the texts of stage 1). wire.putInt (as in the texts of stage 1). -/
import Derived.Shelf.Small.Wraps
import Derived.Shelf.Strconv.AppendIntPublic10
import Derived.Shelf.Strconv.Atoi
import Derived.Shelf.Strconv.Itoa0
import Derived.Shelf.Strconv.Itoa3
import Derived.Shelf.Strings.Search2
import Derived.Shelf.LaysM
import Derived.Shelf.LaysC
import Derived.Test.YtleijkgdpmfabaaGreatDoorProg
import Derived.Test.YtleijkgdpmfabaaGreatDoorM5
import Derived.Test.YtleijkgdpmfabaaGreatDoorM6
import Derived.Deep.LoopGhost
import Derived.Test.YtleijkgdpmfabaaGreatDoorM1
import Derived.Test.YtleijkgdpmfabaaGreatDoorM2
import Derived.Laws.BitsAllLaws
import Derived.WalkMore
set_option linter.unusedVariables false
namespace Go.Proofs
open Go.Shelf
def Tryz.lays103_ren : Go.Shelf.Ren := ⟨fun | 103 => 130 | 210 => 147 | 206 => 165 | n => n, fun | 9 => 9 | 4 => 4 | 24 => 103 | 3 => 3 | n => n, fun | n => n⟩
theorem Tryz.lays103 : Go.Proofs.Lays.n103 Tryz.prog Tryz.lays103_ren := {
  mixed := by kernel_rfl
  f103 := Tryz.func130.trans (congrArg some (by kernel_rfl))
  f206 := Tryz.func165.trans (congrArg some (by kernel_rfl))
  f210 := Tryz.func147.trans (congrArg some (by kernel_rfl))
  t3 := Tryz.underlying3
  a3 := Tryz.isAgg3
  z3 := Tryz.sizeOf3
  v3 := Tryz.zeroValue3
  t4 := Tryz.underlying4
  a4 := Tryz.isAgg4
  z4 := Tryz.sizeOf4
  v4 := Tryz.zeroValue4
  t9 := Tryz.underlying9
  a9 := Tryz.isAgg9
  z9 := Tryz.sizeOf9
  v9 := Tryz.zeroValue9
  t24 := Tryz.underlying103
  a24 := Tryz.isAgg103
  z24 := Tryz.sizeOf103
  v24 := Tryz.zeroValue103 }
open Go.RowKit in
/-- strings.CutPrefix: "CutPrefix returns s without the provided leading prefix string and reports whether it found the prefix. If s doesn't start with prefix, CutPrefix returns s, false. If prefix is the empty string, CutPrefix returns s, true.": IT RETURNS '(Lib.trimPrefix s p, Lib.hasPrefix s p)'; the world is as it was. (LAID: no walk: one application.) -/
theorem Tryz.strings_CutPrefix (s p : ByteArray) (w : World) :
    Calls Tryz.prog 130 #[.string s, .string p] w fun e w' => e = .returned (.tuple #[.string ⟨(Lib.trimPrefix s.data.toList p.data.toList).toArray⟩, .bool (Lib.hasPrefix s.data.toList p.data.toList)]) ∧ w' = w := Any.strings_CutPrefix Tryz.lays103 s p w
def Tryz.lays172_ren : Go.Shelf.Ren := ⟨fun | 172 => 132 | 244 => 148 | 245 => 149 | 247 => 166 | 279 => 167 | 280 => 168 | 281 => 169 | 282 => 170 | 287 => 181 | 316 => 182 | 171 => 118 | 205 => 183 | 321 => 189 | 322 => 190 | 243 => 143 | 246 => 158 | 283 => 175 | 284 => 176 | 285 => 177 | 286 => 178 | 129 => 185 | 317 => 184 | 318 => 186 | 319 => 187 | 320 => 188 | 337 => 191 | 338 => 192 | n => n, fun | 9 => 9 | 3 => 3 | 75 => 107 | 76 => 108 | 4 => 4 | 5 => 5 | 167 => 137 | 37 => 55 | 0 => 0 | 85 => 138 | 2 => 2 | 168 => 140 | 53 => 88 | 175 => 157 | 46 => 135 | 210 => 161 | 127 => 168 | 145 => 171 | 143 => 169 | 21 => 21 | 171 => 149 | 173 => 152 | 212 => 164 | 51 => 154 | 20 => 20 | 213 => 165 | 232 => 173 | 233 => 174 | 80 => 175 | n => n, fun | 15 => 1 | 16 => 2 | 17 => 3 | 18 => 4 | 19 => 5 | n => n⟩
theorem Tryz.lays172 : Go.Proofs.Lays.n172 Tryz.prog Tryz.lays172_ren := {
  mixed := by kernel_rfl
  f129 := Tryz.func185.trans (congrArg some (by kernel_rfl))
  f171 := Tryz.func118.trans (congrArg some (by kernel_rfl))
  f172 := Tryz.func132.trans (congrArg some (by kernel_rfl))
  f205 := Tryz.func183.trans (congrArg some (by kernel_rfl))
  f243 := Tryz.func143.trans (congrArg some (by kernel_rfl))
  f244 := Tryz.func148.trans (congrArg some (by kernel_rfl))
  f245 := Tryz.func149.trans (congrArg some (by kernel_rfl))
  f246 := Tryz.func158.trans (congrArg some (by kernel_rfl))
  f247 := Tryz.func166.trans (congrArg some (by kernel_rfl))
  f279 := Tryz.func167.trans (congrArg some (by kernel_rfl))
  f280 := Tryz.func168.trans (congrArg some (by kernel_rfl))
  f281 := Tryz.func169.trans (congrArg some (by kernel_rfl))
  f282 := Tryz.func170.trans (congrArg some (by kernel_rfl))
  f283 := Tryz.func175.trans (congrArg some (by kernel_rfl))
  f284 := Tryz.func176.trans (congrArg some (by kernel_rfl))
  f285 := Tryz.func177.trans (congrArg some (by kernel_rfl))
  f286 := Tryz.func178.trans (congrArg some (by kernel_rfl))
  f287 := Tryz.func181.trans (congrArg some (by kernel_rfl))
  f316 := Tryz.func182.trans (congrArg some (by kernel_rfl))
  f317 := Tryz.func184.trans (congrArg some (by kernel_rfl))
  f318 := Tryz.func186.trans (congrArg some (by kernel_rfl))
  f319 := Tryz.func187.trans (congrArg some (by kernel_rfl))
  f320 := Tryz.func188.trans (congrArg some (by kernel_rfl))
  f321 := Tryz.func189.trans (congrArg some (by kernel_rfl))
  f322 := Tryz.func190.trans (congrArg some (by kernel_rfl))
  f337 := Tryz.func191.trans (congrArg some (by kernel_rfl))
  f338 := Tryz.func192.trans (congrArg some (by kernel_rfl))
  t0 := Tryz.underlying0
  a0 := Tryz.isAgg0
  z0 := Tryz.sizeOf0
  v0 := Tryz.zeroValue0
  t2 := Tryz.underlying2
  a2 := Tryz.isAgg2
  z2 := Tryz.sizeOf2
  v2 := Tryz.zeroValue2
  t3 := Tryz.underlying3
  a3 := Tryz.isAgg3
  z3 := Tryz.sizeOf3
  v3 := Tryz.zeroValue3
  t4 := Tryz.underlying4
  a4 := Tryz.isAgg4
  z4 := Tryz.sizeOf4
  v4 := Tryz.zeroValue4
  t5 := Tryz.underlying5
  a5 := Tryz.isAgg5
  z5 := Tryz.sizeOf5
  v5 := Tryz.zeroValue5
  t9 := Tryz.underlying9
  a9 := Tryz.isAgg9
  z9 := Tryz.sizeOf9
  v9 := Tryz.zeroValue9
  t20 := Tryz.underlying20
  a20 := Tryz.isAgg20
  z20 := Tryz.sizeOf20
  v20 := Tryz.zeroValue20
  t21 := Tryz.underlying21
  a21 := Tryz.isAgg21
  z21 := Tryz.sizeOf21
  v21 := Tryz.zeroValue21
  t37 := Tryz.underlying55
  a37 := Tryz.isAgg55
  z37 := Tryz.sizeOf55
  v37 := Tryz.zeroValue55
  t46 := Tryz.underlying135
  a46 := Tryz.isAgg135
  z46 := Tryz.sizeOf135
  v46 := Tryz.zeroValue135
  t51 := Tryz.underlying154
  a51 := Tryz.isAgg154
  z51 := Tryz.sizeOf154
  v51 := Tryz.zeroValue154
  t53 := Tryz.underlying88
  a53 := Tryz.isAgg88
  z53 := Tryz.sizeOf88
  v53 := Tryz.zeroValue88
  t75 := Tryz.underlying107
  a75 := Tryz.isAgg107
  z75 := Tryz.sizeOf107
  v75 := Tryz.zeroValue107
  t76 := Tryz.underlying108
  a76 := Tryz.isAgg108
  z76 := Tryz.sizeOf108
  v76 := Tryz.zeroValue108
  t85 := Tryz.underlying138
  a85 := Tryz.isAgg138
  z85 := Tryz.sizeOf138
  v85 := Tryz.zeroValue138
  t127 := Tryz.underlying168
  a127 := Tryz.isAgg168
  z127 := Tryz.sizeOf168
  v127 := Tryz.zeroValue168
  t143 := Tryz.underlying169
  a143 := Tryz.isAgg169
  z143 := Tryz.sizeOf169
  v143 := Tryz.zeroValue169
  t145 := Tryz.underlying171
  a145 := Tryz.isAgg171
  z145 := Tryz.sizeOf171
  v145 := Tryz.zeroValue171
  t167 := Tryz.underlying137
  a167 := Tryz.isAgg137
  z167 := Tryz.sizeOf137
  v167 := Tryz.zeroValue137
  t168 := Tryz.underlying140
  a168 := Tryz.isAgg140
  z168 := Tryz.sizeOf140
  v168 := Tryz.zeroValue140
  t171 := Tryz.underlying149
  a171 := Tryz.isAgg149
  z171 := Tryz.sizeOf149
  v171 := Tryz.zeroValue149
  t173 := Tryz.underlying152
  a173 := Tryz.isAgg152
  z173 := Tryz.sizeOf152
  v173 := Tryz.zeroValue152
  t175 := Tryz.underlying157
  a175 := Tryz.isAgg157
  z175 := Tryz.sizeOf157
  v175 := Tryz.zeroValue157
  t210 := Tryz.underlying161
  a210 := Tryz.isAgg161
  z210 := Tryz.sizeOf161
  v210 := Tryz.zeroValue161
  t212 := Tryz.underlying164
  a212 := Tryz.isAgg164
  z212 := Tryz.sizeOf164
  v212 := Tryz.zeroValue164
  t213 := Tryz.underlying165
  a213 := Tryz.isAgg165
  z213 := Tryz.sizeOf165
  t232 := Tryz.underlying173
  a232 := Tryz.isAgg173
  z232 := Tryz.sizeOf173
  v232 := Tryz.zeroValue173
  t233 := Tryz.underlying174
  a233 := Tryz.isAgg174
  z233 := Tryz.sizeOf174
  v233 := Tryz.zeroValue174
  g15 := by kernel_rfl
  g16 := by kernel_rfl
  g17 := by kernel_rfl
  g18 := by kernel_rfl
  g19 := by kernel_rfl }
open Go.RowKit in
/-- strconv.Atoi: "Atoi is equivalent to ParseInt(s, 10, 0), converted to type int.": AT A DECIMAL NUMERAL OF AT MOST 18 BYTES: its value, and a nil error. The world behind the call: the one new row that the library's '[]byte(s)' lays. (LAID: no walk: one application.) -/
theorem Tryz.strconv_Atoi (s : ByteArray) (n : Int) (hl : s.size ≤ 18) (h : Lib.atoi s.data.toList = some n) (w : World) :
    Calls Tryz.prog 132 #[.string s] w fun e w' => e = .returned (.tuple #[.int .i64 n, .nilIface]) ∧ ∃ t, w' = Lib.bytesWorld w 5 t := Any.strconv_Atoi Tryz.lays172 s n hl h w
def Tryz.laysM171_ren : Go.Shelf.Ren := ⟨fun | 171 => 118 | 243 => 143 | 246 => 158 | 283 => 175 | 284 => 176 | 285 => 177 | 286 => 178 | 129 => 185 | 317 => 184 | 318 => 186 | 319 => 187 | 320 => 188 | 337 => 191 | 338 => 192 | n => n, fun | 3 => 3 | 9 => 9 | 2 => 2 | 4 => 4 | 171 => 149 | 0 => 0 | 53 => 88 | 37 => 55 | 5 => 5 | 173 => 152 | 212 => 164 | 51 => 154 | 20 => 20 | 213 => 165 | 46 => 135 | 232 => 173 | 233 => 174 | n => n, fun | 17 => 3 | 18 => 4 | 19 => 5 | n => n⟩
theorem Tryz.laysM171 : Go.Proofs.LaysM.n171 Tryz.prog Tryz.laysM171_ren := {
  mixed := by kernel_rfl
  f129 := Tryz.func185.trans (congrArg some (by kernel_rfl))
  f171 := Tryz.func118.trans (congrArg some (by kernel_rfl))
  f243 := Tryz.func143.trans (congrArg some (by kernel_rfl))
  f246 := Tryz.func158.trans (congrArg some (by kernel_rfl))
  f283 := Tryz.func175.trans (congrArg some (by kernel_rfl))
  f284 := Tryz.func176.trans (congrArg some (by kernel_rfl))
  f285 := Tryz.func177.trans (congrArg some (by kernel_rfl))
  f286 := Tryz.func178.trans (congrArg some (by kernel_rfl))
  f317 := Tryz.func184.trans (congrArg some (by kernel_rfl))
  f318 := Tryz.func186.trans (congrArg some (by kernel_rfl))
  f319 := Tryz.func187.trans (congrArg some (by kernel_rfl))
  f320 := Tryz.func188.trans (congrArg some (by kernel_rfl))
  f337 := Tryz.func191.trans (congrArg some (by kernel_rfl))
  f338 := Tryz.func192.trans (congrArg some (by kernel_rfl))
  t0 := Tryz.underlying0
  a0 := Tryz.isAgg0
  z0 := Tryz.sizeOf0
  v0 := Tryz.zeroValue0
  t2 := Tryz.underlying2
  a2 := Tryz.isAgg2
  z2 := Tryz.sizeOf2
  v2 := Tryz.zeroValue2
  t3 := Tryz.underlying3
  a3 := Tryz.isAgg3
  z3 := Tryz.sizeOf3
  v3 := Tryz.zeroValue3
  t4 := Tryz.underlying4
  a4 := Tryz.isAgg4
  z4 := Tryz.sizeOf4
  v4 := Tryz.zeroValue4
  t5 := Tryz.underlying5
  a5 := Tryz.isAgg5
  z5 := Tryz.sizeOf5
  v5 := Tryz.zeroValue5
  t9 := Tryz.underlying9
  a9 := Tryz.isAgg9
  z9 := Tryz.sizeOf9
  v9 := Tryz.zeroValue9
  t20 := Tryz.underlying20
  a20 := Tryz.isAgg20
  z20 := Tryz.sizeOf20
  v20 := Tryz.zeroValue20
  t37 := Tryz.underlying55
  a37 := Tryz.isAgg55
  z37 := Tryz.sizeOf55
  v37 := Tryz.zeroValue55
  t46 := Tryz.underlying135
  a46 := Tryz.isAgg135
  z46 := Tryz.sizeOf135
  v46 := Tryz.zeroValue135
  t51 := Tryz.underlying154
  a51 := Tryz.isAgg154
  z51 := Tryz.sizeOf154
  v51 := Tryz.zeroValue154
  t53 := Tryz.underlying88
  a53 := Tryz.isAgg88
  z53 := Tryz.sizeOf88
  v53 := Tryz.zeroValue88
  t171 := Tryz.underlying149
  a171 := Tryz.isAgg149
  z171 := Tryz.sizeOf149
  v171 := Tryz.zeroValue149
  t173 := Tryz.underlying152
  a173 := Tryz.isAgg152
  z173 := Tryz.sizeOf152
  v173 := Tryz.zeroValue152
  t212 := Tryz.underlying164
  a212 := Tryz.isAgg164
  z212 := Tryz.sizeOf164
  v212 := Tryz.zeroValue164
  t213 := Tryz.underlying165
  a213 := Tryz.isAgg165
  z213 := Tryz.sizeOf165
  t232 := Tryz.underlying173
  a232 := Tryz.isAgg173
  z232 := Tryz.sizeOf173
  v232 := Tryz.zeroValue173
  t233 := Tryz.underlying174
  a233 := Tryz.isAgg174
  z233 := Tryz.sizeOf174
  v233 := Tryz.zeroValue174
  g17 := by kernel_rfl
  g18 := by kernel_rfl
  g19 := by kernel_rfl
  i0 := by kernel_rfl
  i2 := by kernel_rfl
  i3 := by kernel_rfl
  i4 := by kernel_rfl
  i5 := by kernel_rfl
  i9 := by kernel_rfl
  i20 := by kernel_rfl
  i37 := by kernel_rfl
  i46 := by kernel_rfl
  i51 := by kernel_rfl
  i53 := by kernel_rfl
  i171 := by kernel_rfl
  i173 := by kernel_rfl
  i212 := by kernel_rfl
  i232 := by kernel_rfl
  i233 := by kernel_rfl
  m17 := by kernel_rfl
  m18 := by kernel_rfl
  m19 := by kernel_rfl }
open Go.RowKit Go.Sort Go.Lib in
/-- strconv.Itoa: "Itoa is equivalent to FormatInt(int64(i), 10).": i's DECIMAL NUMERAL ('Lib.itoa': a '-' where i is negative, then the digits), FOR EVERY int. The world behind the call: the world before it, new blocks behind the heap (the library's 'var a [24]byte'), draws. (LAID: no walk: one application.) -/
theorem Tryz.strconv_Itoa (n : Int) (h0 : -9223372036854775808 ≤ n) (h1 : n ≤ 9223372036854775807) (w : World) (htab : Lib.TabIs Tryz.prog w "internal/strconv.uint64pow10" .u64 Lib.pow10Tab) :
    Calls Tryz.prog 118 #[.int .i64 n] w fun e w' => e = .returned (.string ⟨(Lib.itoa n).toArray⟩) ∧ ∃ k os, w' = grow (w.drewN k) os := Any.strconv_Itoa Tryz.laysM171 n h0 h1 w htab
def Tryz.lays219_ren : Go.Shelf.Ren := ⟨fun | 219 => 146 | 217 => 161 | 225 => 162 | 224 => 163 | 267 => 164 | 266 => 179 | 314 => 180 | n => n, fun | 9 => 9 | 3 => 3 | 4 => 4 | 5 => 5 | 46 => 135 | 146 => 155 | 51 => 154 | n => n, fun | 1 => 0 | n => n⟩
theorem Tryz.lays219 : Go.Proofs.Lays.n219 Tryz.prog Tryz.lays219_ren := {
  mixed := by kernel_rfl
  f217 := Tryz.func161.trans (congrArg some (by kernel_rfl))
  f219 := Tryz.func146.trans (congrArg some (by kernel_rfl))
  f224 := Tryz.func163.trans (congrArg some (by kernel_rfl))
  f225 := Tryz.func162.trans (congrArg some (by kernel_rfl))
  f266 := Tryz.func179.trans (congrArg some (by kernel_rfl))
  f267 := Tryz.func164.trans (congrArg some (by kernel_rfl))
  f314 := Tryz.func180.trans (congrArg some (by kernel_rfl))
  t3 := Tryz.underlying3
  a3 := Tryz.isAgg3
  z3 := Tryz.sizeOf3
  v3 := Tryz.zeroValue3
  t4 := Tryz.underlying4
  a4 := Tryz.isAgg4
  z4 := Tryz.sizeOf4
  v4 := Tryz.zeroValue4
  t5 := Tryz.underlying5
  a5 := Tryz.isAgg5
  z5 := Tryz.sizeOf5
  v5 := Tryz.zeroValue5
  t9 := Tryz.underlying9
  a9 := Tryz.isAgg9
  z9 := Tryz.sizeOf9
  v9 := Tryz.zeroValue9
  t46 := Tryz.underlying135
  a46 := Tryz.isAgg135
  z46 := Tryz.sizeOf135
  v46 := Tryz.zeroValue135
  t51 := Tryz.underlying154
  a51 := Tryz.isAgg154
  z51 := Tryz.sizeOf154
  v51 := Tryz.zeroValue154
  t146 := Tryz.underlying155
  a146 := Tryz.isAgg155
  z146 := Tryz.sizeOf155
  v146 := Tryz.zeroValue155
  g1 := by kernel_rfl }
open Go.RowKit Go.Lib in
/-- internal/stringslite.Index (what strings.Index calls) AT A substr OF ONE BYTE c: IT RETURNS 'Lib.indexByte s c'; the world is as it was. (LAID: no walk: one application.) -/
theorem Tryz.stringslite_Index_one (s : ByteArray) (c : UInt8) (w : World) :
    Calls Tryz.prog 146 #[.string s, .string ⟨#[c]⟩] w fun e w' => e = .returned (.int .i64 (Lib.indexByte s.data.toList c)) ∧ w' = w := Any.stringslite_Index_one Tryz.lays219 s c w
def Tryz.laysM176_ren : Go.Shelf.Ren := ⟨fun | 176 => 117 | 249 => 142 | 288 => 157 | 283 => 175 | 284 => 176 | 285 => 177 | 286 => 178 | 129 => 185 | 317 => 184 | 318 => 186 | 319 => 187 | 320 => 188 | 337 => 191 | 338 => 192 | n => n, fun | 37 => 55 | 2 => 2 | 3 => 3 | 53 => 88 | 4 => 4 | 9 => 9 | 171 => 149 | 0 => 0 | 173 => 152 | 212 => 164 | 51 => 154 | 5 => 5 | 20 => 20 | 213 => 165 | 46 => 135 | 232 => 173 | 233 => 174 | n => n, fun | 17 => 3 | 18 => 4 | 19 => 5 | n => n⟩
theorem Tryz.laysM176 : Go.Proofs.LaysM.n176 Tryz.prog Tryz.laysM176_ren := {
  mixed := by kernel_rfl
  f129 := Tryz.func185.trans (congrArg some (by kernel_rfl))
  f176 := Tryz.func117.trans (congrArg some (by kernel_rfl))
  f249 := Tryz.func142.trans (congrArg some (by kernel_rfl))
  f283 := Tryz.func175.trans (congrArg some (by kernel_rfl))
  f284 := Tryz.func176.trans (congrArg some (by kernel_rfl))
  f285 := Tryz.func177.trans (congrArg some (by kernel_rfl))
  f286 := Tryz.func178.trans (congrArg some (by kernel_rfl))
  f288 := Tryz.func157.trans (congrArg some (by kernel_rfl))
  f317 := Tryz.func184.trans (congrArg some (by kernel_rfl))
  f318 := Tryz.func186.trans (congrArg some (by kernel_rfl))
  f319 := Tryz.func187.trans (congrArg some (by kernel_rfl))
  f320 := Tryz.func188.trans (congrArg some (by kernel_rfl))
  f337 := Tryz.func191.trans (congrArg some (by kernel_rfl))
  f338 := Tryz.func192.trans (congrArg some (by kernel_rfl))
  t0 := Tryz.underlying0
  a0 := Tryz.isAgg0
  z0 := Tryz.sizeOf0
  v0 := Tryz.zeroValue0
  t2 := Tryz.underlying2
  a2 := Tryz.isAgg2
  z2 := Tryz.sizeOf2
  v2 := Tryz.zeroValue2
  t3 := Tryz.underlying3
  a3 := Tryz.isAgg3
  z3 := Tryz.sizeOf3
  v3 := Tryz.zeroValue3
  t4 := Tryz.underlying4
  a4 := Tryz.isAgg4
  z4 := Tryz.sizeOf4
  v4 := Tryz.zeroValue4
  t5 := Tryz.underlying5
  a5 := Tryz.isAgg5
  z5 := Tryz.sizeOf5
  v5 := Tryz.zeroValue5
  t9 := Tryz.underlying9
  a9 := Tryz.isAgg9
  z9 := Tryz.sizeOf9
  v9 := Tryz.zeroValue9
  t20 := Tryz.underlying20
  a20 := Tryz.isAgg20
  z20 := Tryz.sizeOf20
  v20 := Tryz.zeroValue20
  t37 := Tryz.underlying55
  a37 := Tryz.isAgg55
  z37 := Tryz.sizeOf55
  v37 := Tryz.zeroValue55
  t46 := Tryz.underlying135
  a46 := Tryz.isAgg135
  z46 := Tryz.sizeOf135
  v46 := Tryz.zeroValue135
  t51 := Tryz.underlying154
  a51 := Tryz.isAgg154
  z51 := Tryz.sizeOf154
  v51 := Tryz.zeroValue154
  t53 := Tryz.underlying88
  a53 := Tryz.isAgg88
  z53 := Tryz.sizeOf88
  v53 := Tryz.zeroValue88
  t171 := Tryz.underlying149
  a171 := Tryz.isAgg149
  z171 := Tryz.sizeOf149
  v171 := Tryz.zeroValue149
  t173 := Tryz.underlying152
  a173 := Tryz.isAgg152
  z173 := Tryz.sizeOf152
  v173 := Tryz.zeroValue152
  t212 := Tryz.underlying164
  a212 := Tryz.isAgg164
  z212 := Tryz.sizeOf164
  v212 := Tryz.zeroValue164
  t213 := Tryz.underlying165
  a213 := Tryz.isAgg165
  z213 := Tryz.sizeOf165
  t232 := Tryz.underlying173
  a232 := Tryz.isAgg173
  z232 := Tryz.sizeOf173
  v232 := Tryz.zeroValue173
  t233 := Tryz.underlying174
  a233 := Tryz.isAgg174
  z233 := Tryz.sizeOf174
  v233 := Tryz.zeroValue174
  g17 := by kernel_rfl
  g18 := by kernel_rfl
  g19 := by kernel_rfl
  i0 := by kernel_rfl
  i2 := by kernel_rfl
  i3 := by kernel_rfl
  i4 := by kernel_rfl
  i5 := by kernel_rfl
  i9 := by kernel_rfl
  i20 := by kernel_rfl
  i37 := by kernel_rfl
  i46 := by kernel_rfl
  i51 := by kernel_rfl
  i53 := by kernel_rfl
  i171 := by kernel_rfl
  i173 := by kernel_rfl
  i212 := by kernel_rfl
  i232 := by kernel_rfl
  i233 := by kernel_rfl
  m17 := by kernel_rfl
  m18 := by kernel_rfl
  m19 := by kernel_rfl }
open Go.RowKit Go.Sort Go.Lib in
/-- strconv.AppendInt: "AppendInt appends the string form of the integer i, as generated by FormatInt, to dst and returns the extended buffer.": AT BASE 10: WHAT COMES BACK OWNS dst's CELLS AND, BEHIND THEM, i's DECIMAL NUMERAL ('Lib.itoa i': at most 20 bytes), for every int64. Below the call's own blocks nothing has turned. (LAID: no walk: one application.) -/
theorem Tryz.strconv_AppendInt_10 (B n : Nat) (i : Int) (h0 : -9223372036854775808 ≤ i) (h1 : i ≤ 9223372036854775807) (sv : Value) (xs : List Value) (w : World) (hown : w.ownsRow B 5 1 sv n xs) (hBw : B ≤ w.heap.size) (hlim : n + 21 ≤ 140737488355328) (htab : Lib.TabBelow Tryz.prog B w "internal/strconv.uint64pow10" .u64 Lib.pow10Tab) :
    Calls Tryz.prog 117 #[sv, .int .i64 i, .int .i64 10] w fun e w' => ∃ v', e = .returned v' ∧ w'.ownsRow B 5 1 v' (n + (Lib.itoa i).length) (xs ++ Lib.byteCells (Lib.itoa i)) ∧ Below B w w' ∧ Lib.OthersKept 5 none w w' := Any.strconv_AppendInt_10 Tryz.laysM176 B n i h0 h1 sv xs w hown hBw hlim htab
end Go.Proofs

namespace Go.Proofs.YtleijkgdpmfabaaGreatDoor
open Go.RowKit

end Go.Proofs.YtleijkgdpmfabaaGreatDoor

namespace Go.Proofs.YtleijkgdpmfabaaGreatDoor
open Go.RowKit

end Go.Proofs.YtleijkgdpmfabaaGreatDoor

namespace Go.Proofs.YtleijkgdpmfabaaGreatDoor
open Go.RowKit


/-- the j lowest digits of m in base 256, most significant first -/
def lows : Nat → Nat → List UInt8
  | 0, _ => []
  | j + 1, m => lows j (m / 256) ++ [UInt8.ofNat (m % 256)]

theorem lows_length (j m : Nat) : (lows j m).length = j := by
  induction j generalizing m with
  | zero => rfl
  | succ j ih => simp [lows, ih]

/-- how many digits m has -/
def nd (m : Nat) : Nat :=
  if m < 1 then 0 else if m < 256 then 1 else if m < 65536 then 2 else if m < 16777216 then 3 else if m < 4294967296 then 4
  else if m < 1099511627776 then 5 else if m < 281474976710656 then 6 else if m < 72057594037927936 then 7 else 8

theorem nd_le (m : Nat) : nd m ≤ 8 := by
  unfold nd
  (repeat' split) <;> omega

/-- after j digits nothing is left exactly if m has at most j digits -/
theorem nd_zero (m j : Nat) (h : m < 9223372036854775808) (hj : j ≤ 8) : m / 256 ^ j = 0 ↔ nd m ≤ j := by
  have h9 : j = 0 ∨ j = 1 ∨ j = 2 ∨ j = 3 ∨ j = 4 ∨ j = 5 ∨ j = 6 ∨ j = 7 ∨ j = 8 := by omega
  unfold nd
  rcases h9 with rfl | rfl | rfl | rfl | rfl | rfl | rfl | rfl | rfl <;> simp only [Nat.reducePow] <;> (repeat' split) <;> omega

theorem lows_getD (k m i : Nat) (h : i < k) : (lows k m).getD i 0 = UInt8.ofNat (m / 256 ^ (k - 1 - i) % 256) := by
  induction k generalizing m with
  | zero => omega
  | succ k ih =>
    simp only [lows]
    rcases Nat.lt_or_ge i k with h1 | h1
    · rw [List.getD_eq_getElem?_getD, List.getElem?_append_left (by rw [lows_length]; exact h1), ← List.getD_eq_getElem?_getD, ih _ h1, Nat.div_div_eq_div_mul]
      have : k + 1 - 1 - i = (k - 1 - i) + 1 := by omega
      rw [this, Nat.pow_succ, Nat.mul_comm]
    · have e : i = k := by omega
      subst e
      rw [List.getD_eq_getElem?_getD, List.getElem?_append_right (by rw [lows_length]; exact Nat.le_refl _), lows_length]
      simp

/-- a digit as it stands in the encoding of a negative number (g), or of another one -/
def fx (g : Bool) (d : UInt8) : UInt8 := if g then 255 - d else d
theorem fx_nat (g : Bool) (d : UInt8) : (fx g d).toNat = if g then 255 - d.toNat else d.toNat := by
  cases g
  · rfl
  · show (255 - d : UInt8).toNat = _
    have := d.toNat_lt
    rw [UInt8.toNat_sub_of_le _ _ (by rw [UInt8.le_iff_toNat_le]; show d.toNat ≤ 255; omega)]
    rfl

/-- the number that digits stand for -/
def mag (g : Bool) (l : List UInt8) : Nat := l.foldl (fun m d => 256 * m + (fx g d).toNat) 0
/-- the encoding of an integer -/
def neg (n : Int) : Bool := decide (n < 0)
def mgn (n : Int) : Nat := if n < 0 then (-1 - n).toNat else n.toNat
def hd (g : Bool) (k : Nat) : UInt8 := UInt8.ofNat (if g then 127 - k else 128 + k)
def enc (n : Int) : List UInt8 := hd (neg n) (nd (mgn n)) :: (lows (nd (mgn n)) (mgn n)).map (fx (neg n))
theorem enc_length (n : Int) : (enc n).length = 1 + nd (mgn n) := by simp [enc, lows_length, Nat.add_comm]

/-- the head of an encoding -/
def hk (h : UInt8) : Nat := if h.toNat < 128 then 127 - h.toNat else h.toNat - 128
def hg (h : UInt8) : Bool := decide (h.toNat < 128)
/-- does a number begin with a digit 0? -/
def lead0 (g : Bool) (l : List UInt8) : Bool := match l with
  | [] => false
  | d :: _ => fx g d == 0

def sgn (g : Bool) (m : Nat) : Int := if g then -1 - (m : Int) else (m : Int)

/-- decoding an integer: the integer, the bytes used, the error -/
def gi : List UInt8 → Int × Nat × Int
  | [] => (0, 0, 3)
  | h :: t =>
    if 8 < hk h then (0, 0, 2)
    else if t.length < hk h then (0, 0, 3)
    else if lead0 (hg h) (t.take (hk h)) then (0, 0, 2)
    else if 9223372036854775807 < mag (hg h) (t.take (hk h)) then (0, 0, 2)
    else (sgn (hg h) (mag (hg h) (t.take (hk h))), 1 + hk h, 0)

theorem mgn_lt (n : Int) (h1 : -9223372036854775808 ≤ n) (h2 : n ≤ 9223372036854775807) : mgn n < 9223372036854775808 := by
  unfold mgn; split <;> omega

end Go.Proofs.YtleijkgdpmfabaaGreatDoor

namespace Go.Proofs.YtleijkgdpmfabaaGreatDoor
open Go.RowKit


/-- what the digits are combined with -/
def flp (g : Bool) : Int := if g then 255 else 0
theorem flp_lo (g : Bool) : 0 ≤ flp g := by unfold flp; split <;> omega
theorem flp_hi (g : Bool) : flp g < 256 := by unfold flp; split <;> omega

theorem xor_255 : ∀ x : Fin 256, x.val ^^^ 255 = 255 - x.val := by decide +kernel
theorem xor_flp (g : Bool) (d : UInt8) : bits .xor .u8 (d.toNat : Int) (flp g) = ((fx g d).toNat : Int) := by
  have hd := d.toNat_lt
  rw [u8_xor _ _ (by omega) (by omega) (flp_lo g) (flp_hi g), fx_nat]
  cases g
  · simp [flp]
  · have := xor_255 ⟨d.toNat, hd⟩
    simp only [flp, if_true, Int.toNat_natCast]
    rw [show (255 : Int).toNat = 255 from rfl, this]
theorem below_grown {w w' : World} (h : Below w.heap.size w w') (row : Option Nat) : w.grownBy w' row := ⟨h.os, h.tape, h.output, h.size, fun k hk _ => h.block k hk⟩

/-- the array of digits after j digits of m: block B, made by the call -/
def CodeBlk (B : Nat) (w wr : World) (T : TypeId) (g : Bool) (m j : Nat) : Prop :=
  Below B w wr ∧ wr.heap.size = B + 1 ∧ ∃ c : Array Value, wr.heap[B]? = some (.cells c T (0, 0)) ∧ c.size = 9 ∧ ∀ i, i < j → c[8 - i]? = some (.int .u8 ((fx g (UInt8.ofNat (m / 256 ^ i % 256))).toNat : Int))

theorem CodeBlk.start (w : World) (T : TypeId) (c : Array Value) (h : c.size = 9) (g : Bool) (m : Nat) : CodeBlk w.heap.size w (w.alloc (.cells c T)) T g m 0 :=
  ⟨(Below.refl _ _).alloc (Nat.le_refl _) _, by simp, c, heap_alloc_new w _, h, fun i hi => by omega⟩

theorem CodeBlk.cell {B : Nat} {w wr : World} {T : TypeId} {g : Bool} {m j : Nat} (h : CodeBlk B w wr T g m j) (i : Nat) (hi : i < 9) : ∃ x, wr.cell? ⟨B, i, none⟩ = some x := by
  obtain ⟨_, _, c, hc, hs, _⟩ := h
  exact ⟨c[i], by simp [World.cell?, hc, hs, hi]⟩

theorem CodeBlk.free {B : Nat} {w wr : World} {T : TypeId} {g : Bool} {m j : Nat} (h : CodeBlk B w wr T g m j) (i : Nat) : wr.frozen? ⟨B, i, none⟩ = false := by
  obtain ⟨_, _, c, hc, hs, _⟩ := h
  simp [World.frozen?, hc]

theorem CodeBlk.step {B : Nat} {w wr : World} {T : TypeId} {g : Bool} {m j : Nat} (h : CodeBlk B w wr T g m j) (hj : j < 8) (x : Int) (hx : x = ((fx g (UInt8.ofNat (m / 256 ^ j % 256))).toNat : Int)) :
    CodeBlk B w (wr.setCell ⟨B, 8 - j, none⟩ (.int .u8 x)) T g m (j + 1) := by
  obtain ⟨hb, hz, c, hc, hs, hd⟩ := h
  refine ⟨hb.setCell (Nat.le_refl _) _, by simp [World.setCell, hz], _, heap_setCell_self _ _ _ _ _ _ hc, by simp [hs], fun i hi => ?_⟩
  rw [Array.getElem?_setIfInBounds]
  rcases Nat.lt_or_ge i j with h1 | h1
  · rw [if_neg (by omega)]; exact hd i h1
  · have : i = j := by omega
    subst this
    rw [if_pos rfl, if_pos (by omega), hx]

theorem slice9 (B k : Nat) (hk : k ≤ 8) (W : World) : (Instr.sliceAt 143 (.pointer (some ⟨B, 0, none⟩)) (some (.int .i64 ((8 - k : Nat) : Int))) none none).run Tryz.prog W = .ok (.slice (some ⟨B, 8 - k, none⟩) (k + 1) (k + 1)) W := by
  have hu : Tryz.prog.underlying 143 = some (.array 9 5) := Tryz.underlying143
  have hs : ∀ W, (sizeOf 5).run Tryz.prog W = .ok 1 W := fun W => by kernel_rfl
  have h1 : (((8 - k : Nat) : Int) ≤ 9) := by omega
  have h2 : (9 : Nat) ≠ 8 - k := by omega
  have h3 : 9 - (8 - k) = k + 1 := by omega
  have h4 : 0 + (8 - k) = 8 - k := by omega
  have ha : Tryz.prog.arrayLen 143 = 9 := by kernel_rfl
  have he : Tryz.prog.elem 143 = 5 := by kernel_rfl
  rw [run_sliceAt_array_l (P := Tryz.prog) W 143 ⟨B, 0, none⟩ (by rw [ha, he]; exact hu) .i64 ((8 - k : Nat) : Int) (by omega) (by rw [ha]; exact h1), he, ha, hs]
  simp [slicedAt, h2, h3, Addr.add]
  intro h; omega

theorem xor_low (g : Bool) (q : Nat) : bits .xor .u8 ((q : Int) % 256) (flp g) = ((fx g (UInt8.ofNat (q % 256))).toNat : Int) := by
  rw [← xor_flp, UInt8.toNat_ofNat_of_lt' (by have := Nat.mod_lt q (show 0 < 256 by omega); simpa using this)]
  rfl

theorem xor_ones (x : Nat) (h : x < 18446744073709551616) : 18446744073709551615 ^^^ x = 18446744073709551615 - x := by
  have h1 : (BitVec.allOnes 64 ^^^ BitVec.ofNat 64 x).toNat = 18446744073709551615 - x := by
    rw [BitVec.xor_comm, BitVec.xor_allOnes, BitVec.toNat_not, BitVec.toNat_ofNat, Nat.mod_eq_of_lt h]
  rw [BitVec.toNat_xor, BitVec.toNat_ofNat, Nat.mod_eq_of_lt h] at h1
  exact h1
theorem cpl_neg (m : Nat) (h : m < 9223372036854775808) : bits .xor .u64 IntKind.u64.max (IntKind.u64.wrap (-1 - (m : Int))) = (m : Int) := by
  have e : IntKind.u64.wrap (-1 - (m : Int)) = ((18446744073709551615 - m : Nat) : Int) := by
    simp [IntKind.wrap, IntKind.bits, IntKind.signed]
    omega
  have e2 : IntKind.u64.max = ((18446744073709551615 : Nat) : Int) := by decide
  rw [e, e2, u64_xor_nat _ _ (by omega) (by omega), xor_ones _ (by omega)]
  omega

theorem info_u8 : (Tryz.prog.info? 5).map (fun i => (i.zero, i.size, i.bytes)) = some (some (.int .u8 0), 1, 1) := by kernel_rfl

/-- bytes as values -/
def bvs (l : List UInt8) : List Value := l.map fun b => .int .u8 (b.toNat : Int)
theorem bvs_one (l : List UInt8) : ∀ u ∈ bvs l, u.oneCell' = true := by
  intro u hu
  simp only [bvs, List.mem_map] at hu
  obtain ⟨b, _, rfl⟩ := hu
  rfl
theorem bvs_length (l : List UInt8) : (bvs l).length = l.length := by simp [bvs]
theorem bvs_append (l r : List UInt8) : bvs (l ++ r) = bvs l ++ bvs r := by simp [bvs]

theorem news_length (g : Bool) (m : Nat) : (bvs (hd g (nd m) :: (lows (nd m) m).map (fx g))).length = (nd m + 1) * 1 := by simp [bvs, lows_length]

theorem head_xor (g : Bool) (k : Nat) (h8 : k ≤ 8) : bits BinOp.xor IntKind.u8 (136 - ((8 - k : Nat) : Int)) (flp g) = ((hd g k).toNat : Int) := by
  have h1 : (UInt8.ofNat (128 + k)).toNat = 128 + k := UInt8.toNat_ofNat_of_lt' (by show _ < 256; omega)
  have e : 136 - ((8 - k : Nat) : Int) = ((UInt8.ofNat (128 + k)).toNat : Int) := by rw [h1]; omega
  rw [e, xor_flp, fx_nat, h1]
  unfold hd
  cases g
  · simp only [Bool.false_eq_true, if_false]
    rw [h1]
  · simp only [if_true]
    rw [UInt8.toNat_ofNat_of_lt' (by show _ < 256; omega)]
    omega

theorem CodeBlk.news {B : Nat} {w wr : World} {T : TypeId} {g : Bool} {m : Nat} (h : CodeBlk B w wr T g m (nd m)) (h8 : nd m ≤ 8) (x : Int) (hx : x = ((hd g (nd m)).toNat : Int)) :
    ∀ j u, (bvs (hd g (nd m) :: (lows (nd m) m).map (fx g)))[j]? = some u → (wr.setCell ⟨B, 8 - nd m, none⟩ (.int .u8 x)).cell? ((⟨B, 8 - nd m, none⟩ : Addr).add j) = some u := by
  obtain ⟨_, _, c, hc, hs, hd'⟩ := h
  intro j u hu
  have ha : (⟨B, 8 - nd m, none⟩ : Addr).add j = ⟨B, 8 - nd m + j, none⟩ := by unfold Addr.add; split <;> simp_all
  rw [ha]
  simp only [World.cell?, heap_setCell_self _ _ _ _ _ _ hc]
  simp only [Option.isSome_none, Bool.false_eq_true, if_false, Array.getElem?_setIfInBounds]
  match j, hu with
  | 0, hu =>
    simp only [bvs, List.map_cons, List.getElem?_cons_zero, Option.some.injEq] at hu
    rw [Nat.add_zero, if_pos rfl, if_pos (by omega), hx, hu]
  | i + 1, hu =>
    have hi : i < nd m := by
      rcases Nat.lt_or_ge i (nd m) with h1 | h1
      · exact h1
      · simp only [bvs, List.map_cons, List.getElem?_cons_succ] at hu
        rw [List.getElem?_eq_none (by simp [lows_length]; exact h1)] at hu
        cases hu
    rw [if_neg (by omega), show 8 - nd m + (i + 1) = 8 - (nd m - 1 - i) from by omega, hd' _ (by omega), ← lows_getD _ _ _ hi]
    simp only [bvs, List.map_cons, List.getElem?_cons_succ, List.map_map] at hu
    rw [List.getElem?_map] at hu
    rw [List.getD_eq_getElem?_getD]
    cases hL : (lows (nd m) m)[i]? with
    | none => rw [hL] at hu; simp at hu
    | some d => rw [hL] at hu; simpa using hu

/-- what appending bytes to an owned row comes to -/
def PutPost (w : World) (base : Nat) (n0 : Nat) (xs : List Value) (l : List UInt8) (e : Ending) (w' : World) : Prop :=
  ∃ v', e = .returned v' ∧ w'.ownsRow base 5 1 v' (n0 + l.length) (xs ++ bvs l) ∧ Below base w w'

theorem putPost_of {w w1 w2 : World} {base n0 n : Nat} {v v' : Value} {xs : List Value} {l : List UInt8} (hb : base ≤ w1.heap.size) (h : Below base w w1) (hv : w1.ownsRow base 5 1 v n0 xs) (hl : (bvs l).length = n * 1) (ho : w2.ownsRow base 5 1 v' (n0 + n) (xs ++ bvs l)) (g : w1.grownBy w2 v.ownBlock) :
    PutPost w base n0 xs l (.returned v') w2 := by
  refine ⟨v', rfl, ?_, h.grown g hb fun k hk => (hv.lt k hk).1⟩
  rw [bvs_length, Nat.mul_one] at hl
  rw [hl]
  exact ho

set_option maxRecDepth 100000 in
set_option maxHeartbeats 800000 in
theorem putInt_pos (v : Value) (n0 : Nat) (xs : List Value) (base : Nat) (n : Int) (m : Nat) (w : World) (hown : w.ownsRow base 5 1 v n0 xs) (hb : base ≤ w.heap.size) (hn0 : n0 ≤ 70368744177664)
    (hn : Hid (n = (m : Int))) (hm : m < 9223372036854775808) :
    Calls Tryz.prog 151 #[v, .int .i64 n] w fun e w' => PutPost w base n0 xs (hd false (nd m) :: (lows (nd m) m).map (fx false)) e w' := by
  rw [hn.out]
  clear hn
  have h0 : (0 : Int) ≤ (m : Int) := by omega
  have h0' : (0 : Int) ≤ (m : Int) := by omega
  have h1 : (m : Int) ≤ 9223372036854775807 := by omega
  obtain ⟨i0, hi, hz0, hz1, hz2⟩ := info_parts info_u8
  have hm' := Lib.hid hm
  clear hm
  go_enter Tryz.func151, Tryz.ntmps151
  go_wp2
  go_step3
  go_wp2
  go_step3
  go_wp2
  go_loopw [5, 8] (fun q a wr => ∃ j : Nat, j ≤ nd m ∧ q = .int .u64 (m / 256 ^ j : Nat) ∧ a = .int .i64 (8 - j : Nat) ∧ CodeBlk w.heap.size w wr 143 false m j) (fun _ a _ => (intOf a).toNat)
  case atStart =>
    exact ⟨0, Nat.zero_le _, by simp, rfl, CodeBlk.start w _ _ rfl _ _⟩
  case round =>
    obtain ⟨j, hj, rfl, rfl, hC⟩ := hrel
    have h8 := nd_le m
    by_cases hq : j < nd m
    · have hq1 : 0 < m / 256 ^ j := Nat.pos_of_ne_zero fun e => by have := (nd_zero m j hm'.out (by omega)).1 e; omega
      have hq2 : m / 256 ^ j < 9223372036854775808 := Nat.lt_of_le_of_lt (Nat.div_le_self _ _) hm'.out
      have hst := Lib.hid (hC.step (show j < 8 by omega) _ (xor_flp false (UInt8.ofNat (m / 256 ^ j % 256))))
      obtain ⟨x0, hx0⟩ := hC.cell (8 - j) (by omega)
      have hf0 := hC.free (8 - j)
      have hC' := Lib.hid hC
      have hnx := Lib.hid (show m / 256 ^ (j + 1) = m / 256 ^ j / 256 from by rw [Nat.div_div_eq_div_mul, Nat.pow_succ])
      generalize m / 256 ^ j = q at *
      clear hC
      go_wp2
      refine ⟨⟨j + 1, by omega, by rw [hnx.out]; rfl, by rw [show ((8 - j : Nat) : Int) - 1 = ((8 - (j + 1) : Nat) : Int) from by omega], ?_⟩, by simp [intOf]; omega⟩
      have e := xor_low false q
      simp only [flp] at e
      rw [show (bits BinOp.xor IntKind.u8 ((q : Int) % 256) 0) = _ from e]
      have := hst.out
      rw [xor_flp] at this
      exact this
    · have hj' : j = nd m := by omega
      subst hj'
      have hq0 : m / 256 ^ nd m = 0 := (nd_zero m _ hm'.out h8).2 (Nat.le_refl _)
      rw [hq0]
      obtain ⟨x0, hx0⟩ := hC.cell (8 - nd m) (by omega)
      have hf0 := hC.free (8 - nd m)
      have hC' := Lib.hid hC
      clear hC
      have hnews := Lib.hid (hC'.out.news h8 (bits BinOp.xor IntKind.u8 (136 - ((8 - nd m : Nat) : Int)) 0) (head_xor false _ h8))
      have hbel := Lib.hid (hC'.out.1.setCell (p := ⟨w.heap.size, 8 - nd m, none⟩) (Nat.le_refl _) (.int .u8 (bits BinOp.xor IntKind.u8 (136 - ((8 - nd m : Nat) : Int)) 0)))
      have hown' := Lib.hid (hown.kept (below_grown hbel.out none) (by cases v.ownBlock <;> simp))
      have hsz := hbel.out.size
      have hlen := Lib.hid (news_length false m)
      generalize hk : nd m = k at *
      have hk' := Lib.hid hk
      have hsl := slice9 w.heap.size k h8
      clear hk hown hq0 hq hj hm'
      go_wp2_with (at_builtin; refine wpList_append_own _ rfl _ _ 55 rfl base 5 i0 (.int .u8 0) 1 1 Tryz.underlying55 hi hz0 hz1 hz2 rfl (by decide) _ _ _ rfl hown'.out ⟨w.heap.size, 8 - k, none⟩ (k + 1) (k + 1) (bvs (hd false k :: (lows k m).map (fx false))) rfl hlen.out hnews.out (bvs_one _) (by unfold maxLen; omega) (by omega) (by omega) ?_; intro v' w1 hown1 hgrow1 _; have hres : Hid (PutPost w base n0 xs (hd false k :: (lows k m).map (fx false)) (.returned v') w1) := Lib.hid (putPost_of (by omega) (hbel.out.mono hb) hown'.out hlen.out hown1 hgrow1); clear hown1 hgrow1)
      rw [Exit.noGoto_ret]
      go_ret
      have hres' := hres.out
      rw [← hk'.out] at hres'
      exact hres'

set_option maxRecDepth 100000 in
set_option maxHeartbeats 800000 in
theorem putInt_neg (v : Value) (n0 : Nat) (xs : List Value) (base : Nat) (n : Int) (m : Nat) (w : World) (hown : w.ownsRow base 5 1 v n0 xs) (hb : base ≤ w.heap.size) (hn0 : n0 ≤ 70368744177664)
    (hn : Hid (n = -1 - (m : Int))) (hm : m < 9223372036854775808) :
    Calls Tryz.prog 151 #[v, .int .i64 n] w fun e w' => PutPost w base n0 xs (hd true (nd m) :: (lows (nd m) m).map (fx true)) e w' := by
  rw [hn.out]
  clear hn
  have h0 : (-1 - (m : Int)) < 0 := by omega
  have h0' : (0 : Int) ≤ (m : Int) := by omega
  have h1 : (m : Int) ≤ 9223372036854775807 := by omega
  obtain ⟨i0, hi, hz0, hz1, hz2⟩ := info_parts info_u8
  have hm' := Lib.hid hm
  clear hm
  go_enter Tryz.func151, Tryz.ntmps151
  go_wp2
  go_step3
  go_wp2
  go_step3
  go_wp2
  go_loopw [5, 8] (fun q a wr => ∃ j : Nat, j ≤ nd m ∧ q = .int .u64 (m / 256 ^ j : Nat) ∧ a = .int .i64 (8 - j : Nat) ∧ CodeBlk w.heap.size w wr 143 true m j) (fun _ a _ => (intOf a).toNat)
  case atStart =>
    exact ⟨0, Nat.zero_le _, by rw [cpl_neg m hm'.out, Nat.pow_zero, Nat.div_one], rfl, CodeBlk.start w _ _ rfl _ _⟩
  case round =>
    obtain ⟨j, hj, rfl, rfl, hC⟩ := hrel
    have h8 := nd_le m
    by_cases hq : j < nd m
    · have hq1 : 0 < m / 256 ^ j := Nat.pos_of_ne_zero fun e => by have := (nd_zero m j hm'.out (by omega)).1 e; omega
      have hq2 : m / 256 ^ j < 9223372036854775808 := Nat.lt_of_le_of_lt (Nat.div_le_self _ _) hm'.out
      have hst := Lib.hid (hC.step (show j < 8 by omega) _ (xor_flp true (UInt8.ofNat (m / 256 ^ j % 256))))
      obtain ⟨x0, hx0⟩ := hC.cell (8 - j) (by omega)
      have hf0 := hC.free (8 - j)
      have hC' := Lib.hid hC
      have hnx := Lib.hid (show m / 256 ^ (j + 1) = m / 256 ^ j / 256 from by rw [Nat.div_div_eq_div_mul, Nat.pow_succ])
      generalize m / 256 ^ j = q at *
      clear hC
      go_wp2
      refine ⟨⟨j + 1, by omega, by rw [hnx.out]; rfl, by rw [show ((8 - j : Nat) : Int) - 1 = ((8 - (j + 1) : Nat) : Int) from by omega], ?_⟩, by simp [intOf]; omega⟩
      have e := xor_low true q
      simp only [flp] at e
      rw [show (bits BinOp.xor IntKind.u8 ((q : Int) % 256) 255) = _ from e]
      have := hst.out
      rw [xor_flp] at this
      exact this
    · have hj' : j = nd m := by omega
      subst hj'
      have hq0 : m / 256 ^ nd m = 0 := (nd_zero m _ hm'.out h8).2 (Nat.le_refl _)
      rw [hq0]
      obtain ⟨x0, hx0⟩ := hC.cell (8 - nd m) (by omega)
      have hf0 := hC.free (8 - nd m)
      have hC' := Lib.hid hC
      clear hC
      have hnews := Lib.hid (hC'.out.news h8 (bits BinOp.xor IntKind.u8 (136 - ((8 - nd m : Nat) : Int)) 255) (head_xor true _ h8))
      have hbel := Lib.hid (hC'.out.1.setCell (p := ⟨w.heap.size, 8 - nd m, none⟩) (Nat.le_refl _) (.int .u8 (bits BinOp.xor IntKind.u8 (136 - ((8 - nd m : Nat) : Int)) 255)))
      have hown' := Lib.hid (hown.kept (below_grown hbel.out none) (by cases v.ownBlock <;> simp))
      have hsz := hbel.out.size
      have hlen := Lib.hid (news_length true m)
      generalize hk : nd m = k at *
      have hk' := Lib.hid hk
      have hsl := slice9 w.heap.size k h8
      clear hk hown hq0 hq hj hm'
      go_wp2_with (at_builtin; refine wpList_append_own _ rfl _ _ 55 rfl base 5 i0 (.int .u8 0) 1 1 Tryz.underlying55 hi hz0 hz1 hz2 rfl (by decide) _ _ _ rfl hown'.out ⟨w.heap.size, 8 - k, none⟩ (k + 1) (k + 1) (bvs (hd true k :: (lows k m).map (fx true))) rfl hlen.out hnews.out (bvs_one _) (by unfold maxLen; omega) (by omega) (by omega) ?_; intro v' w1 hown1 hgrow1 _; have hres : Hid (PutPost w base n0 xs (hd true k :: (lows k m).map (fx true)) (.returned v') w1) := Lib.hid (putPost_of (by omega) (hbel.out.mono hb) hown'.out hlen.out hown1 hgrow1); clear hown1 hgrow1)
      rw [Exit.noGoto_ret]
      go_ret
      have hres' := hres.out
      rw [← hk'.out] at hres'
      exact hres'

theorem putInt_any (v : Value) (n0 : Nat) (xs : List Value) (base : Nat) (n : Int) (w : World) (hown : w.ownsRow base 5 1 v n0 xs) (hb : base ≤ w.heap.size) (hn0 : n0 ≤ 70368744177664) (h1 : -9223372036854775808 ≤ n) (h2 : n ≤ 9223372036854775807) :
    Calls Tryz.prog 151 #[v, .int .i64 n] w fun e w' => PutPost w base n0 xs (enc n) e w' := by
  have hm := mgn_lt n h1 h2
  unfold enc
  by_cases c : n < 0
  · have e : neg n = true := by simp [neg, c]
    rw [e]
    exact putInt_neg v n0 xs base n (mgn n) w hown hb hn0 (show n = _ by unfold mgn; rw [if_pos c]; omega) hm
  · have e : neg n = false := by simp [neg, c]
    rw [e]
    exact putInt_pos v n0 xs base n (mgn n) w hown hb hn0 (show n = _ by unfold mgn; rw [if_neg c]; omega) hm


end Go.Proofs.YtleijkgdpmfabaaGreatDoor
