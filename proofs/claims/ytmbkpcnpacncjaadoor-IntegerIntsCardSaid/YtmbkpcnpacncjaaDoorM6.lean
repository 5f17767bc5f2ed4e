/- Contracts of the package integer and its reference: The library functions that the code calls, by the shelf of contracts, in plain words. integer.root: the first guess for at most two digits. integer.root: Newton's steps. The plain mathematics of layer 1 (as in the texts of stage 1). -/
import Derived.Shelf.Small.Wraps
import Derived.Shelf.Strconv.AppendIntPublic10
import Derived.Shelf.Strconv.Itoa0
import Derived.Shelf.Strconv.Itoa3
import Derived.Shelf.LaysM
import Derived.Shelf.LaysC
import Derived.Test.YtmbkpcnpacncjaaDoorProg
import Derived.Test.YtmbkpcnpacncjaaDoorM4
import Derived.Test.YtmbkpcnpacncjaaDoorM5
import Derived.Deep.LoopGhost
import Derived.Test.YtmbkpcnpacncjaaDoorM1
set_option linter.unusedVariables false
namespace Go.Proofs
open Go.Shelf
def Tryd.lays103_ren : Go.Shelf.Ren := ⟨fun | 103 => 47 | 210 => 59 | 206 => 70 | n => n, fun | 9 => 9 | 4 => 4 | 24 => 63 | 3 => 3 | n => n, fun | n => n⟩
theorem Tryd.lays103 : Go.Proofs.Lays.n103 Tryd.prog Tryd.lays103_ren := {
  mixed := by kernel_rfl
  f103 := Tryd.func47.trans (congrArg some (by kernel_rfl))
  f206 := Tryd.func70.trans (congrArg some (by kernel_rfl))
  f210 := Tryd.func59.trans (congrArg some (by kernel_rfl))
  t3 := Tryd.underlying3
  a3 := Tryd.isAgg3
  z3 := Tryd.sizeOf3
  v3 := Tryd.zeroValue3
  t4 := Tryd.underlying4
  a4 := Tryd.isAgg4
  z4 := Tryd.sizeOf4
  v4 := Tryd.zeroValue4
  t9 := Tryd.underlying9
  a9 := Tryd.isAgg9
  z9 := Tryd.sizeOf9
  v9 := Tryd.zeroValue9
  t24 := Tryd.underlying63
  a24 := Tryd.isAgg63
  z24 := Tryd.sizeOf63
  v24 := Tryd.zeroValue63 }
open Go.RowKit in
/-- strings.CutPrefix: "CutPrefix returns s without the provided leading prefix string and reports whether it found the prefix. If s doesn't start with prefix, CutPrefix returns s, false. If prefix is the empty string, CutPrefix returns s, true.": IT RETURNS '(Lib.trimPrefix s p, Lib.hasPrefix s p)'; the world is as it was. (LAID: no walk: one application.) -/
theorem Tryd.strings_CutPrefix (s p : ByteArray) (w : World) :
    Calls Tryd.prog 47 #[.string s, .string p] w fun e w' => e = .returned (.tuple #[.string ⟨(Lib.trimPrefix s.data.toList p.data.toList).toArray⟩, .bool (Lib.hasPrefix s.data.toList p.data.toList)]) ∧ w' = w := Any.strings_CutPrefix Tryd.lays103 s p w
def Tryd.lays129_ren : Go.Shelf.Ren := ⟨fun | 129 => 68 | n => n, fun | 53 => 42 | 3 => 3 | 4 => 4 | 46 => 90 | 5 => 5 | 9 => 9 | n => n, fun | n => n⟩
theorem Tryd.lays129 : Go.Proofs.Lays.n129 Tryd.prog Tryd.lays129_ren := {
  mixed := by kernel_rfl
  f129 := Tryd.func68.trans (congrArg some (by kernel_rfl))
  t3 := Tryd.underlying3
  a3 := Tryd.isAgg3
  z3 := Tryd.sizeOf3
  v3 := Tryd.zeroValue3
  t4 := Tryd.underlying4
  a4 := Tryd.isAgg4
  z4 := Tryd.sizeOf4
  v4 := Tryd.zeroValue4
  t5 := Tryd.underlying5
  a5 := Tryd.isAgg5
  z5 := Tryd.sizeOf5
  v5 := Tryd.zeroValue5
  t9 := Tryd.underlying9
  a9 := Tryd.isAgg9
  z9 := Tryd.sizeOf9
  v9 := Tryd.zeroValue9
  t46 := Tryd.underlying90
  a46 := Tryd.isAgg90
  z46 := Tryd.sizeOf90
  v46 := Tryd.zeroValue90
  t53 := Tryd.underlying42
  a53 := Tryd.isAgg42
  z53 := Tryd.sizeOf42
  v53 := Tryd.zeroValue42 }
/-- bits.Len64: "Len64 returns the minimum number of bits required to represent x; the result is 0 for x == 0.": IT RETURNS 'Lib.bitLen x'; the world is as it was. ('h0', 'h1': x is a uint64.) (LAID: no walk: one application.) -/
theorem Tryd.bits_Len64 (x : Int) (w : World) (h0 : 0 ≤ x) (h1 : x ≤ 18446744073709551615) :
    Calls Tryd.prog 68 #[.int .u64 x] w fun e w' => e = .returned (.int .i64 (Lib.bitLen x.toNat)) ∧ w' = w := Any.bits_Len64 Tryd.lays129 x w h0 h1
def Tryd.laysM171_ren : Go.Shelf.Ren := ⟨fun | 171 => 51 | 243 => 63 | 246 => 77 | 283 => 82 | 284 => 83 | 285 => 84 | 286 => 85 | 129 => 68 | 317 => 88 | 318 => 89 | 319 => 90 | 320 => 91 | 337 => 92 | 338 => 93 | n => n, fun | 3 => 3 | 9 => 9 | 2 => 2 | 4 => 4 | 171 => 98 | 0 => 0 | 53 => 42 | 37 => 55 | 5 => 5 | 173 => 100 | 212 => 109 | 51 => 110 | 20 => 20 | 213 => 111 | 46 => 90 | 232 => 114 | 233 => 115 | n => n, fun | 17 => 2 | 18 => 3 | 19 => 4 | n => n⟩
theorem Tryd.laysM171 : Go.Proofs.LaysM.n171 Tryd.prog Tryd.laysM171_ren := {
  mixed := by kernel_rfl
  f129 := Tryd.func68.trans (congrArg some (by kernel_rfl))
  f171 := Tryd.func51.trans (congrArg some (by kernel_rfl))
  f243 := Tryd.func63.trans (congrArg some (by kernel_rfl))
  f246 := Tryd.func77.trans (congrArg some (by kernel_rfl))
  f283 := Tryd.func82.trans (congrArg some (by kernel_rfl))
  f284 := Tryd.func83.trans (congrArg some (by kernel_rfl))
  f285 := Tryd.func84.trans (congrArg some (by kernel_rfl))
  f286 := Tryd.func85.trans (congrArg some (by kernel_rfl))
  f317 := Tryd.func88.trans (congrArg some (by kernel_rfl))
  f318 := Tryd.func89.trans (congrArg some (by kernel_rfl))
  f319 := Tryd.func90.trans (congrArg some (by kernel_rfl))
  f320 := Tryd.func91.trans (congrArg some (by kernel_rfl))
  f337 := Tryd.func92.trans (congrArg some (by kernel_rfl))
  f338 := Tryd.func93.trans (congrArg some (by kernel_rfl))
  t0 := Tryd.underlying0
  a0 := Tryd.isAgg0
  z0 := Tryd.sizeOf0
  v0 := Tryd.zeroValue0
  t2 := Tryd.underlying2
  a2 := Tryd.isAgg2
  z2 := Tryd.sizeOf2
  v2 := Tryd.zeroValue2
  t3 := Tryd.underlying3
  a3 := Tryd.isAgg3
  z3 := Tryd.sizeOf3
  v3 := Tryd.zeroValue3
  t4 := Tryd.underlying4
  a4 := Tryd.isAgg4
  z4 := Tryd.sizeOf4
  v4 := Tryd.zeroValue4
  t5 := Tryd.underlying5
  a5 := Tryd.isAgg5
  z5 := Tryd.sizeOf5
  v5 := Tryd.zeroValue5
  t9 := Tryd.underlying9
  a9 := Tryd.isAgg9
  z9 := Tryd.sizeOf9
  v9 := Tryd.zeroValue9
  t20 := Tryd.underlying20
  a20 := Tryd.isAgg20
  z20 := Tryd.sizeOf20
  v20 := Tryd.zeroValue20
  t37 := Tryd.underlying55
  a37 := Tryd.isAgg55
  z37 := Tryd.sizeOf55
  v37 := Tryd.zeroValue55
  t46 := Tryd.underlying90
  a46 := Tryd.isAgg90
  z46 := Tryd.sizeOf90
  v46 := Tryd.zeroValue90
  t51 := Tryd.underlying110
  a51 := Tryd.isAgg110
  z51 := Tryd.sizeOf110
  v51 := Tryd.zeroValue110
  t53 := Tryd.underlying42
  a53 := Tryd.isAgg42
  z53 := Tryd.sizeOf42
  v53 := Tryd.zeroValue42
  t171 := Tryd.underlying98
  a171 := Tryd.isAgg98
  z171 := Tryd.sizeOf98
  v171 := Tryd.zeroValue98
  t173 := Tryd.underlying100
  a173 := Tryd.isAgg100
  z173 := Tryd.sizeOf100
  v173 := Tryd.zeroValue100
  t212 := Tryd.underlying109
  a212 := Tryd.isAgg109
  z212 := Tryd.sizeOf109
  v212 := Tryd.zeroValue109
  t213 := Tryd.underlying111
  a213 := Tryd.isAgg111
  z213 := Tryd.sizeOf111
  t232 := Tryd.underlying114
  a232 := Tryd.isAgg114
  z232 := Tryd.sizeOf114
  v232 := Tryd.zeroValue114
  t233 := Tryd.underlying115
  a233 := Tryd.isAgg115
  z233 := Tryd.sizeOf115
  v233 := Tryd.zeroValue115
  g17 := by kernel_rfl
  g18 := by kernel_rfl
  g19 := by kernel_rfl
  i0 := by kernel_rfl
  i2 := by kernel_rfl
  i3 := by kernel_rfl
  i4 := by kernel_rfl
  i5 := by kernel_rfl
  i9 := by kernel_rfl
  i20 := by kernel_rfl
  i37 := by kernel_rfl
  i46 := by kernel_rfl
  i51 := by kernel_rfl
  i53 := by kernel_rfl
  i171 := by kernel_rfl
  i173 := by kernel_rfl
  i212 := by kernel_rfl
  i232 := by kernel_rfl
  i233 := by kernel_rfl
  m17 := by kernel_rfl
  m18 := by kernel_rfl
  m19 := by kernel_rfl }
open Go.RowKit Go.Sort Go.Lib in
/-- strconv.Itoa: "Itoa is equivalent to FormatInt(int64(i), 10).": i's DECIMAL NUMERAL ('Lib.itoa': a '-' where i is negative, then the digits), FOR EVERY int. The world behind the call: the world before it, new blocks behind the heap (the library's 'var a [24]byte'), draws. (LAID: no walk: one application.) -/
theorem Tryd.strconv_Itoa (n : Int) (h0 : -9223372036854775808 ≤ n) (h1 : n ≤ 9223372036854775807) (w : World) (htab : Lib.TabIs Tryd.prog w "internal/strconv.uint64pow10" .u64 Lib.pow10Tab) :
    Calls Tryd.prog 51 #[.int .i64 n] w fun e w' => e = .returned (.string ⟨(Lib.itoa n).toArray⟩) ∧ ∃ k os, w' = grow (w.drewN k) os := Any.strconv_Itoa Tryd.laysM171 n h0 h1 w htab
def Tryd.laysM176_ren : Go.Shelf.Ren := ⟨fun | 176 => 50 | 249 => 62 | 288 => 76 | 283 => 82 | 284 => 83 | 285 => 84 | 286 => 85 | 129 => 68 | 317 => 88 | 318 => 89 | 319 => 90 | 320 => 91 | 337 => 92 | 338 => 93 | n => n, fun | 37 => 55 | 2 => 2 | 3 => 3 | 53 => 42 | 4 => 4 | 9 => 9 | 171 => 98 | 0 => 0 | 173 => 100 | 212 => 109 | 51 => 110 | 5 => 5 | 20 => 20 | 213 => 111 | 46 => 90 | 232 => 114 | 233 => 115 | n => n, fun | 17 => 2 | 18 => 3 | 19 => 4 | n => n⟩
theorem Tryd.laysM176 : Go.Proofs.LaysM.n176 Tryd.prog Tryd.laysM176_ren := {
  mixed := by kernel_rfl
  f129 := Tryd.func68.trans (congrArg some (by kernel_rfl))
  f176 := Tryd.func50.trans (congrArg some (by kernel_rfl))
  f249 := Tryd.func62.trans (congrArg some (by kernel_rfl))
  f283 := Tryd.func82.trans (congrArg some (by kernel_rfl))
  f284 := Tryd.func83.trans (congrArg some (by kernel_rfl))
  f285 := Tryd.func84.trans (congrArg some (by kernel_rfl))
  f286 := Tryd.func85.trans (congrArg some (by kernel_rfl))
  f288 := Tryd.func76.trans (congrArg some (by kernel_rfl))
  f317 := Tryd.func88.trans (congrArg some (by kernel_rfl))
  f318 := Tryd.func89.trans (congrArg some (by kernel_rfl))
  f319 := Tryd.func90.trans (congrArg some (by kernel_rfl))
  f320 := Tryd.func91.trans (congrArg some (by kernel_rfl))
  f337 := Tryd.func92.trans (congrArg some (by kernel_rfl))
  f338 := Tryd.func93.trans (congrArg some (by kernel_rfl))
  t0 := Tryd.underlying0
  a0 := Tryd.isAgg0
  z0 := Tryd.sizeOf0
  v0 := Tryd.zeroValue0
  t2 := Tryd.underlying2
  a2 := Tryd.isAgg2
  z2 := Tryd.sizeOf2
  v2 := Tryd.zeroValue2
  t3 := Tryd.underlying3
  a3 := Tryd.isAgg3
  z3 := Tryd.sizeOf3
  v3 := Tryd.zeroValue3
  t4 := Tryd.underlying4
  a4 := Tryd.isAgg4
  z4 := Tryd.sizeOf4
  v4 := Tryd.zeroValue4
  t5 := Tryd.underlying5
  a5 := Tryd.isAgg5
  z5 := Tryd.sizeOf5
  v5 := Tryd.zeroValue5
  t9 := Tryd.underlying9
  a9 := Tryd.isAgg9
  z9 := Tryd.sizeOf9
  v9 := Tryd.zeroValue9
  t20 := Tryd.underlying20
  a20 := Tryd.isAgg20
  z20 := Tryd.sizeOf20
  v20 := Tryd.zeroValue20
  t37 := Tryd.underlying55
  a37 := Tryd.isAgg55
  z37 := Tryd.sizeOf55
  v37 := Tryd.zeroValue55
  t46 := Tryd.underlying90
  a46 := Tryd.isAgg90
  z46 := Tryd.sizeOf90
  v46 := Tryd.zeroValue90
  t51 := Tryd.underlying110
  a51 := Tryd.isAgg110
  z51 := Tryd.sizeOf110
  v51 := Tryd.zeroValue110
  t53 := Tryd.underlying42
  a53 := Tryd.isAgg42
  z53 := Tryd.sizeOf42
  v53 := Tryd.zeroValue42
  t171 := Tryd.underlying98
  a171 := Tryd.isAgg98
  z171 := Tryd.sizeOf98
  v171 := Tryd.zeroValue98
  t173 := Tryd.underlying100
  a173 := Tryd.isAgg100
  z173 := Tryd.sizeOf100
  v173 := Tryd.zeroValue100
  t212 := Tryd.underlying109
  a212 := Tryd.isAgg109
  z212 := Tryd.sizeOf109
  v212 := Tryd.zeroValue109
  t213 := Tryd.underlying111
  a213 := Tryd.isAgg111
  z213 := Tryd.sizeOf111
  t232 := Tryd.underlying114
  a232 := Tryd.isAgg114
  z232 := Tryd.sizeOf114
  v232 := Tryd.zeroValue114
  t233 := Tryd.underlying115
  a233 := Tryd.isAgg115
  z233 := Tryd.sizeOf115
  v233 := Tryd.zeroValue115
  g17 := by kernel_rfl
  g18 := by kernel_rfl
  g19 := by kernel_rfl
  i0 := by kernel_rfl
  i2 := by kernel_rfl
  i3 := by kernel_rfl
  i4 := by kernel_rfl
  i5 := by kernel_rfl
  i9 := by kernel_rfl
  i20 := by kernel_rfl
  i37 := by kernel_rfl
  i46 := by kernel_rfl
  i51 := by kernel_rfl
  i53 := by kernel_rfl
  i171 := by kernel_rfl
  i173 := by kernel_rfl
  i212 := by kernel_rfl
  i232 := by kernel_rfl
  i233 := by kernel_rfl
  m17 := by kernel_rfl
  m18 := by kernel_rfl
  m19 := by kernel_rfl }
open Go.RowKit Go.Sort Go.Lib in
/-- strconv.AppendInt: "AppendInt appends the string form of the integer i, as generated by FormatInt, to dst and returns the extended buffer.": AT BASE 10: WHAT COMES BACK OWNS dst's CELLS AND, BEHIND THEM, i's DECIMAL NUMERAL ('Lib.itoa i': at most 20 bytes), for every int64. Below the call's own blocks nothing has turned. (LAID: no walk: one application.) -/
theorem Tryd.strconv_AppendInt_10 (B n : Nat) (i : Int) (h0 : -9223372036854775808 ≤ i) (h1 : i ≤ 9223372036854775807) (sv : Value) (xs : List Value) (w : World) (hown : w.ownsRow B 5 1 sv n xs) (hBw : B ≤ w.heap.size) (hlim : n + 21 ≤ 140737488355328) (htab : Lib.TabBelow Tryd.prog B w "internal/strconv.uint64pow10" .u64 Lib.pow10Tab) :
    Calls Tryd.prog 50 #[sv, .int .i64 i, .int .i64 10] w fun e w' => ∃ v', e = .returned v' ∧ w'.ownsRow B 5 1 v' (n + (Lib.itoa i).length) (xs ++ Lib.byteCells (Lib.itoa i)) ∧ Below B w w' ∧ Lib.OthersKept 5 none w w' := Any.strconv_AppendInt_10 Tryd.laysM176 B n i h0 h1 sv xs w hown hBw hlim htab
end Go.Proofs

namespace Go.Proofs.YtmbkpcnpacncjaaDoor
open Go.RowKit

/-- a guess that is greater than the square root -/
def AbvP (w : World) (x : List Int) (e : Ending) (w' : World) : Prop :=
  ∃ p n c r, e = .returned (.slice p n c) ∧ Rdi w' p r ∧ r.length = n ∧ n ≤ c ∧ c ≤ 9223372036854775807 ∧ Dg r ∧ 0 < val r ∧ val x < val r * val r ∧ tlen r = r.length ∧ n ≤ x.length ∧ (∀ q, p = some q → w.heap.size ≤ q.block) ∧ Below w.heap.size w w'

set_option maxRecDepth 100000 in
set_option maxHeartbeats 1600000 in
theorem above_small (a : Option Addr) (n c : Nat) (x : List Int) (w : World) (hR : Rdi w a x) (hn : n = x.length) (hd : Dg x) (h3 : n < 3) (hx0 : 0 < val x) :
    Calls Tryd.prog 57 #[.slice a n c] w (AbvP w x) := by
  have hnum := number_any a n c x w hR hn hd (by omega)
  have h1 := hd.hi
  have h2 := pw_mono (show x.length ≤ 2 by omega)
  have hp2 : pw 2 = 1000000000000000000 := by decide
  rw [hp2] at h2
  have hN : NumI x 0 = val x := by unfold NumI; rw [List.drop_zero]; omega
  rw [hN] at hnum
  obtain ⟨M, hM⟩ : ∃ M : Nat, val x = (M : Int) := ⟨(val x).toNat, by omega⟩
  rw [hM] at hnum
  have hnum' := Lib.hid hnum
  have hlen : Hid (∀ W, Calls Tryd.prog 68 #[.int .u64 (M : Int)] W fun e w' => e = .returned (.int .i64 (Lib.bitLen M)) ∧ W = w') := Lib.hid fun W => (Tryd.bits_Len64 (M : Int) W (by omega) (by omega)).mono fun e w' ⟨he, hw⟩ => ⟨by rw [he, show ((M : Int)).toNat = M from rfl], hw.symm⟩
  obtain ⟨b, hb⟩ : ∃ b, Lib.bitLen M = b := ⟨_, rfl⟩
  rw [hb] at hlen
  have hM0 : M ≠ 0 := by omega
  have hMb : M < 1000000000000000000 := by omega
  have hbd := Lib.bitLenAux_bounds 64 M (by omega) hM0
  rw [show Lib.bitLenAux 64 M = Lib.bitLen M from rfl, hb] at hbd
  have hbb : b ≤ 60 := by
    rcases Nat.lt_or_ge 60 b with h | h
    · have h5 : 2 ^ 60 ≤ 2 ^ (b - 1) := Nat.pow_le_pow_right (by omega) (by omega)
      have h6 : (2 : Nat) ^ 60 = 1152921504606846976 := by decide
      omega
    · exact h
  obtain ⟨k, hk⟩ : ∃ k, (b + 1) / 2 = k := ⟨_, rfl⟩
  have hkk : k ≤ 30 := by omega
  have hke : ((b : Int) + 1) / 2 = (k : Int) := by omega
  have k0 : 0 ≤ (k : Int) := by omega
  have k1 : (k : Int) ≤ 64 := by omega
  obtain ⟨V, hV⟩ : ∃ V : Nat, 2 ^ k = V := ⟨_, rfl⟩
  have hVb : V ≤ 1073741824 := by
    have h5 : 2 ^ k ≤ 2 ^ 30 := Nat.pow_le_pow_right (by omega) hkk
    have h6 : (2 : Nat) ^ 30 = 1073741824 := by decide
    omega
  have hV0 : 0 < V := by rw [← hV]; exact Nat.pow_pos (by omega)
  have hMV : Hid (M < V * V) := Lib.hid (by
    have h5 : V * V = 2 ^ (k + k) := by rw [← hV, Nat.pow_add]
    have h6 : 2 ^ b ≤ 2 ^ (k + k) := Nat.pow_le_pow_right (by omega) (by omega)
    omega)
  have hVn : Hid ((digs V).length ≤ x.length) := Lib.hid (by
    have hx1 : 0 < x.length := by
      rcases Nat.eq_zero_or_pos x.length with h | h
      · rw [List.eq_nil_of_length_eq_zero h] at hx0; exact absurd hx0 (by decide)
      · exact h
    by_cases h12 : x.length = 1
    · have hp1 : pw 1 = 1000000000 := by decide
      rw [h12, hp1] at h1
      have hb30 : b ≤ 30 := by
        rcases Nat.lt_or_ge 30 b with h | h
        · have h5 : 2 ^ 30 ≤ 2 ^ (b - 1) := Nat.pow_le_pow_right (by omega) (by omega)
          have h6 : (2 : Nat) ^ 30 = 1073741824 := by decide
          omega
        · exact h
      have h5 : 2 ^ k ≤ 2 ^ 15 := Nat.pow_le_pow_right (by omega) (by omega)
      have h6 : (2 : Nat) ^ 15 = 32768 := by decide
      rw [h12]
      exact digs_len_le (by rw [hp1]; omega)
    · have := digs_len_le (n := V) (k := 2) (by rw [hp2]; omega)
      omega)
  have hcast : ((2 : Int) ^ k) = (V : Int) := by rw [← hV]; simp
  have hsh : Hid (IntKind.u64.wrap ((2 : Int) ^ k) = (V : Int)) := Lib.hid (by rw [hcast]; exact IntWalk.u64_in _ (by omega))
  have hdo : Hid (∀ v W, v = (V : Int) → Calls Tryd.prog 27 #[.int .u64 v] W (NewI W fun z => z = digs V)) := Lib.hid fun v W hv => digitsOf_at v V hv (by omega) W
  have b0 : 0 ≤ (b : Int) := by omega
  have b1 : (b : Int) ≤ 60 := by omega
  have hM' := Lib.hid hM
  have hVV := Lib.hid hV0
  have hlV : Hid ((digs V).length ≤ 2) := Lib.hid (digs_len_le (by rw [hp2]; omega))
  clear hk hkk hV hM0 hMb hbd hVb hV0 hcast
  have t1 : (n : Int) < 3 := by omega
  have N := Lib.hid hn
  clear hnum hR hn
  go_enter Tryd.func57, Tryd.ntmps57
  go_upto_if 7 with fail
  clear hN h1 h2 hp2 hM hb
  go_wp2_with (first | (go_at_call 24; refine hnum'.out.mono ?_; rintro e w' ⟨rfl, rfl⟩) | (go_at_call 68; refine (hlen.out _).mono ?_; rintro e w' ⟨rfl, rfl⟩) | (go_at_call 27; refine (hdo.out _ _ hsh.out).mono ?_; rintro e w2 ⟨g, n2, z, rfl, hg, hz0, hb2, hn0, hzz⟩; have hz := Lib.hid hz0; have hn2 := Lib.hid hn0; have hzz' := Lib.hid hzz; have hb' := Lib.hid hb2; clear hz0 hn0 hzz hb2))
  go_ret
  have e1 := hzz'.out
  have e2 := hn2.out
  subst e1
  have hlv := hlV.out
  have hMVi : (M : Int) < (V : Int) * (V : Int) := by have := hMV.out; exact_mod_cast this
  exact ⟨_, n2, n2, _, rfl, hz.out.rdi, e2, Nat.le_refl _, by omega, Dg_digs _, by rw [val_digs]; have := hVV.out; omega, by rw [val_digs, hM'.out]; exact hMVi, tlen_digs _, by have := hVn.out; omega, (fun q hq => by cases hq; exact hg), hb'.out⟩
end Go.Proofs.YtmbkpcnpacncjaaDoor

namespace Go.Proofs.YtmbkpcnpacncjaaDoor
open Go.RowKit

theorem sq_nonneg' (a : Int) : 0 ≤ a * a := by
  rcases Int.lt_or_le a 0 with h | h
  · have : 0 ≤ (-a) * (-a) := Int.mul_nonneg (by omega) (by omega)
    rwa [Int.neg_mul_neg] at this
  · exact Int.mul_nonneg h h
theorem newton_stop {X R q r N m : Int} (h : X = R * q + r) (hr0 : 0 ≤ r) (hR : 0 < R) (hN : R + q = 2 * N + m) (hm : m < 2) (hle : R ≤ N) (hm0 : 0 ≤ m) : R * R ≤ X := by
  by_cases h1 : R ≤ q
  · have : R * R ≤ R * q := Int.mul_le_mul_of_nonneg_left h1 (by omega)
    omega
  · omega
theorem newton_go {X R q r N m : Int} (h : X = R * q + r) (hr1 : r < R) (hN : R + q = 2 * N + m) (hm : m < 2) (hX : 0 < X) (hN0 : 0 ≤ N) (hR : 0 < R) (hq : 0 ≤ q) : X < (N + 1) * (N + 1) ∧ 0 < N := by
  have h1 : (R - (q + 1)) * (R - (q + 1)) = (R + (q + 1)) * (R + (q + 1)) - 4 * (R * (q + 1)) := by grind
  have h2 := sq_nonneg' (R - (q + 1))
  have h3 : R * (q + 1) = R * q + R := by grind
  have h4 : (R + (q + 1)) * (R + (q + 1)) ≤ (2 * N + 2) * (2 * N + 2) := Int.mul_le_mul (by omega) (by omega) (by omega) (by omega)
  have h5 : (2 * N + 2) * (2 * N + 2) = 4 * ((N + 1) * (N + 1)) := by grind
  have h6 : X < (N + 1) * (N + 1) := by omega
  refine ⟨h6, ?_⟩
  rcases Int.lt_or_le 0 N with h7 | h7
  · exact h7
  · have : N = 0 := by omega
    rw [this] at h6
    omega
/-- the square root, rounded down -/
def RtP (w : World) (x : List Int) (e : Ending) (w' : World) : Prop :=
  ∃ p n c r, e = .returned (.slice p n c) ∧ Rdi w' p r ∧ r.length = n ∧ n ≤ c ∧ c ≤ 9223372036854775807 ∧ Dg r ∧ 0 ≤ val r ∧ val r * val r ≤ val x ∧ val x < (val r + 1) * (val r + 1) ∧ tlen r = r.length ∧ n ≤ x.length ∧ (∀ q, p = some q → w.heap.size ≤ q.block) ∧ Below w.heap.size w w'
/-- what a round of it keeps -/
def RtI (w : World) (x : List Int) (k : Nat) (v : Value) (wr : World) : Prop :=
  ∃ p n c r, v = .slice p n c ∧ Rdi wr p r ∧ r.length = n ∧ n ≤ c ∧ c ≤ 9223372036854775807 ∧ Dg r ∧ 0 < val r ∧ val x < (val r + 1) * (val r + 1) ∧ tlen r = r.length ∧ n ≤ x.length ∧ (∀ q, p = some q → w.heap.size ≤ q.block) ∧ Below w.heap.size w wr ∧ (val r).toNat = k
theorem rt_len {x r : List Int} (hx : Dg x) (hr : Dg r) (ht : tlen r = r.length) (hle : val r ≤ val x) : r.length ≤ x.length := by
  have h1 := digs_val hr ht
  have h2 := hr.lo
  rw [← h1]
  exact digs_len_le (by have := hx.hi; omega)
theorem top_of {r : List Int} (hr : Dg r) (ht : tlen r = r.length) (hp : 0 < val r) : 1 ≤ iat r (r.length - 1) ∧ 0 < r.length := by
  have h1 := digs_val hr ht
  have h2 := digs_top (n := (val r).toNat) (by omega)
  rw [h1] at h2
  have h3 := (hr.all (r.length - 1)).1
  refine ⟨by omega, ?_⟩
  rcases Nat.eq_zero_or_pos r.length with h | h
  · rw [List.eq_nil_of_length_eq_zero h] at hp; exact absurd hp (by decide)
  · exact h

set_option maxRecDepth 100000 in
set_option maxHeartbeats 1600000 in
theorem root_of (a : Option Addr) (n c : Nat) (x : List Int) (w : World) (hR0 : Rdi w a x) (hn0 : n = x.length) (hd0 : Dg x) (hm : n ≤ 274877906943) (hx0 : 0 < val x) (hab0 : ∀ W, Below w.heap.size w W → Calls Tryd.prog 57 #[.slice a n c] W (AbvP W x)) :
    Calls Tryd.prog 45 #[.slice a n c] w (RtP w x) := by
  have hab := Lib.hid hab0
  have H := Lib.hid hR0
  have N := Lib.hid hn0
  have D := Lib.hid hd0
  have hnp : 0 < n := by
    rcases Nat.eq_zero_or_pos n with h | h
    · rw [h] at hn0; rw [List.eq_nil_of_length_eq_zero hn0.symm] at hx0; exact absurd hx0 (by decide)
    · exact h
  have hX := Lib.hid hx0
  have t1 : ((n : Int) == 0) = false := by simp; omega
  clear hab0 hR0 hn0 hd0 hx0
  go_enter Tryd.func45, Tryd.ntmps45
  go_wp2_with (go_at_call 57; refine (hab.out _ (Below.refl _ _)).mono ?_; rintro e w1 ⟨p, n1, c1, r, rfl, hRr, hrl, hnc, hcb, hrd, hr0, hrx, hrt, hmn, hpn, hb1⟩; have hI : Hid (RtI w x (val r).toNat (.slice p n1 c1) w1) := Lib.hid ⟨p, n1, c1, r, rfl, hRr, hrl, hnc, hcb, hrd, hr0, (by have h9 : (val r + 1) * (val r + 1) = val r * val r + 2 * val r + 1 := (by grind); omega), hrt, hmn, hpn, hb1, rfl⟩; clear hRr hrl hnc hcb hrd hr0 hrx hrt hb1 hmn hpn)
  go_loopg [3] ((val r).toNat) (fun k v wr => RtI w x k v wr)
  case atStart => exact hI.out
  case round =>
    clear hI
    obtain ⟨p2, n2, c2, r2, rfl, hR2, hl2, hnc2, hcb2, hd2, hp2, hx2, ht2, hlx2, hpn2, hB2, hk2⟩ := hrel
    have htop := top_of hd2 ht2 hp2
    have hdv : Hid (Calls Tryd.prog 41 #[.slice a n c, .slice p2 n2 c2] wr (DivdP wr x r2)) := Lib.hid (divided_any _ _ _ _ _ _ x r2 wr (Rdi_below hB2 H.out) hR2 N.out hl2.symm D.out hd2 (by omega) (by have := N.out; omega) (by omega) (by rw [← hl2]; exact htop.1))
    have hS : Hid (RtI w x gk (.slice p2 n2 c2) wr) := Lib.hid ⟨p2, n2, c2, r2, rfl, hR2, hl2, hnc2, hcb2, hd2, hp2, hx2, ht2, hlx2, hpn2, hB2, hk2⟩
    have hR2' := Lib.hid hR2
    have hl2' := Lib.hid hl2
    have hd2' := Lib.hid hd2
    have hp2' := Lib.hid hp2
    have hx2' := Lib.hid hx2
    have ht2' := Lib.hid ht2
    have hlx2' := Lib.hid hlx2
    have hB2' := Lib.hid hB2
    have hk2' := Lib.hid hk2
    have hpn2' := Lib.hid hpn2
    clear htop hR2 hl2 hd2 hp2 hx2 ht2 hlx2 hB2 hk2 hpn2
    go_wp2_with fail
    refine hdv.out.mono ?_
    rintro e w3 ⟨p3, n3, q, h3, m3, rs, rfl, hRq, hql, hqn, hh3, hrs, hrsl, hb3, hn3, hm3, hm3y, hdq⟩
    have hsm : Hid (Calls Tryd.prog 42 #[.slice p2 n2 c2, .slice p3 n3 n3] w3 (NewI w3 (SumP r2 q))) := Lib.hid (sum_any _ _ _ _ _ _ r2 q w3 (Rdi_below hb3 hR2'.out) hRq hl2'.out.symm hql.symm hd2'.out hdq.1 (by have := hlx2'.out; have := N.out; omega) (by have := N.out; omega))
    have hdq' := Lib.hid hdq
    have hb3' := Lib.hid hb3
    have hql' := Lib.hid hql
    have hn3' := Lib.hid hn3
    clear hRq hql hqn hh3 hrs hrsl hb3 hn3 hm3 hm3y hdq hdv
    go_wp2_with fail
    refine hsm.out.mono ?_
    rintro e w4 ⟨g4, n4, z4, rfl, hg4, hz4, hb4, hl4, hs4⟩
    have hzl : Hid (n4 ≤ n + 1) := Lib.hid (by
      have h1 := hs4.2.2
      have h2 := hlx2'.out
      have h3 := hn3'.out
      have h4 := hl2'.out
      have h5 := hql'.out
      have h6 := N.out
      omega)
    have hsd : Hid (Calls Tryd.prog 55 #[.slice (some ⟨g4, 0, none⟩) n4 n4, .int .i64 2] w4 (DivS w4 z4 2)) := Lib.hid (shortDivided_any _ _ _ z4 2 w4 hz4.rdi hl4.symm hs4.1 (by omega) (by omega) (by have := hzl.out; omega))
    have hs4' := Lib.hid hs4
    have hb4' := Lib.hid hb4
    have hl4' := Lib.hid hl4
    clear hz4 hb4 hl4 hs4 hsm
    go_wp2_with fail
    refine hsd.out.mono ?_
    rintro e w5 ⟨g5, g6, n5, q5, r5, rfl, hg5, hg6, hq5, hr5, hb5, hn5, hdv5⟩
    have htr : Hid (Calls Tryd.prog 39 #[.slice (some ⟨g5, 0, none⟩) n5 n5] w5 fun e w' => e = .returned (.slice (some ⟨g5, 0, none⟩) (tlen q5) n5) ∧ w5 = w') := Lib.hid (trimmed_any _ _ _ q5 w5 hq5.rdi (by rw [hdv5.len]; exact hn5) (Nat.le_refl _) (by have := hzl.out; have := hl4'.out; omega))
    have hq5' := Lib.hid hq5
    have hb5' := Lib.hid hb5
    have hn5' := Lib.hid hn5
    have hdv5' := Lib.hid hdv5
    have hBB : Hid (Below w.heap.size w w5 ∧ Below wr.heap.size wr w5) := Lib.hid ⟨below_tr (below_tr (below_tr hB2'.out hb3'.out) hb4'.out) hb5, below_tr (below_tr hb3'.out hb4'.out) hb5⟩
    have htk := take_tlen hdv5.dg
    have hcm : Hid (Calls Tryd.prog 58 #[.slice (some ⟨g5, 0, none⟩) (tlen q5) n5, .slice p2 n2 c2] w5 fun e w' => e = .returned (.int .i64 (cmpI ((val q5).toNat : Int) ((val r2).toNat : Int))) ∧ Below w5.heap.size w5 w') := Lib.hid (by
      refine compare_any _ _ _ _ _ _ (val q5).toNat (val r2).toNat w5 ?_ ?_ ?_ ?_ ?_ ?_
      · rw [← htk]; exact Rdi_blk_take hq5 _
      · rw [digs_val hd2'.out ht2'.out]; exact Rdi_below hBB.out.2 hR2'.out
      · rw [tlen_len hdv5.dg]
      · rw [digs_val hd2'.out ht2'.out]; exact hl2'.out.symm
      · have := tlen_le q5; have := hdv5.len; have := hl4'.out; have := hzl.out; omega
      · have := hlx2'.out; have := N.out; omega)
    have htk' := Lib.hid htk
    clear hq5 hr5 hb5 hn5 hdv5 hsd htk
    have hg5' : Hid (∀ q, (some (⟨g5, 0, none⟩ : Addr)) = some q → w.heap.size ≤ q.block) := Lib.hid fun q hq => by cases hq; have h1 := hB2'.out.size; have h2 := hb3'.out.size; have h3 := hb4'.out.size; show w.heap.size ≤ g5; omega
    have hsum : Hid (val r2 + val q = 2 * val q5 + r5) := Lib.hid (by rw [← hs4'.out.2.1]; exact hdv5'.out.done)
    have hq5v := hdv5'.out.dg.lo
    go_wp2_with (go_at_call 39; refine htr.out.mono ?_; rintro e w' ⟨rfl, rfl⟩)
    have hq0 : 0 ≤ val q := hdq'.out.1.lo
    have hdm := hdq'.out.2.2.1
    have hrs0 := hdq'.out.2.1.lo
    have hrs1 := hdq'.out.2.2.2
    have hlo5 := hdv5'.out.lo
    have hhi5 := hdv5'.out.hi
    by_cases hge : val r2 ≤ val q5
    · have hst := newton_stop hdm hrs0 hp2'.out hsum.out hhi5 hge hlo5
      have hres : Hid (RtP w x (.returned (.slice p2 n2 c2)) w5) := Lib.hid ⟨p2, n2, c2, r2, rfl, Rdi_below hBB.out.2 hR2'.out, hl2'.out, hnc2, hcb2, hd2'.out, by have := hp2'.out; omega, hst, hx2'.out, ht2'.out, hlx2'.out, hpn2'.out, hBB.out.1⟩
      have hcz : Hid (∀ w', Below w5.heap.size w5 w' → RtP w x (.returned (.slice p2 n2 c2)) w') := Lib.hid fun w' hb => by
        obtain ⟨p, n, c, r, he, h1, h2, h3, h4, h5, h6, h7, h8, h9, h10, h12, h11⟩ := hres.out
        exact ⟨p, n, c, r, he, Rdi_below hb h1, h2, h3, h4, h5, h6, h7, h8, h9, h10, h12, below_tr h11 hb⟩
      have hcv : 0 ≤ cmpI ((val q5).toNat : Int) ((val r2).toNat : Int) := by
        have h1 : ¬ ((val q5).toNat : Int) < ((val r2).toNat : Int) := by omega
        unfold cmpI
        rw [if_neg h1]
        split <;> omega
      generalize cmpI ((val q5).toNat : Int) ((val r2).toNat : Int) = C at hcm hcv
      clear hq0 hdm hrs0 hrs1 hlo5 hhi5 hge hst hq5v
      go_wp2_with (go_at_call 58; refine hcm.out.mono ?_; rintro e w6 ⟨rfl, hb6⟩; have hb6' := Lib.hid hb6; clear hb6)
      go_ret
      exact hcz.out _ hb6'.out
    · have hng := newton_go hdm hrs1 hsum.out hhi5 hX.out hq5v hp2'.out hq0
      have hnext : Hid (∀ w', Below w5.heap.size w5 w' → RtI w x (val q5).toNat (.slice (some ⟨g5, 0, none⟩) (tlen q5) n5) w') := Lib.hid fun w' hb => by
        have hv : val (q5.take (tlen q5)) = val q5 := by rw [htk'.out, val_digs, Int.toNat_of_nonneg hq5v]
        have hl : (q5.take (tlen q5)).length = tlen q5 := by rw [List.length_take]; have := tlen_le q5; omega
        have htt : tlen (q5.take (tlen q5)) = (q5.take (tlen q5)).length := by rw [htk'.out]; exact tlen_digs _
        refine ⟨_, _, _, q5.take (tlen q5), rfl, Rdi_below hb (Rdi_blk_take hq5'.out _), hl, ?_, ?_, hdv5'.out.dg.take _, by rw [hv]; exact hng.2, by rw [hv]; exact hng.1, htt, ?_, hg5'.out, below_tr hBB.out.1 hb, by rw [hv]⟩
        · have := tlen_le q5; have := hdv5'.out.len; have := hn5'.out; omega
        · have := hn5'.out; have := hl4'.out; have := hzl.out; omega
        · rw [← hl]
          have h1 : val (q5.take (tlen q5)) ≤ val r2 := by rw [hv]; omega
          have h2 := rt_len hd2'.out (hdv5'.out.dg.take (tlen q5)) htt h1
          have h3 := hlx2'.out
          have h4 := hl2'.out
          omega
      have hcv : cmpI ((val q5).toNat : Int) ((val r2).toNat : Int) = -1 := cmp_lt (by omega)
      rw [hcv] at hcm
      have hms : Hid ((val q5).toNat < gk) := Lib.hid (by rw [← hk2'.out]; omega)
      clear hq0 hdm hrs0 hrs1 hlo5 hhi5 hge hng hq5v hcv
      go_wp2_with (go_at_call 58; refine hcm.out.mono ?_; rintro e w6 ⟨rfl, hb6⟩; have hb6' := Lib.hid hb6; clear hb6)
      go_roundg ((val q5).toNat)
      case measure => exact hms.out
      case rel => exact hnext.out _ hb6'.out
end Go.Proofs.YtmbkpcnpacncjaaDoor

namespace Go.Proofs.YtmbkpcnpacncjaaDoor
open Go.RowKit


/-- the j lowest digits of m in base 256, most significant first -/
def lows : Nat → Nat → List UInt8
  | 0, _ => []
  | j + 1, m => lows j (m / 256) ++ [UInt8.ofNat (m % 256)]

theorem lows_length (j m : Nat) : (lows j m).length = j := by
  induction j generalizing m with
  | zero => rfl
  | succ j ih => simp [lows, ih]

/-- how many digits m has -/
def nd (m : Nat) : Nat :=
  if m < 1 then 0 else if m < 256 then 1 else if m < 65536 then 2 else if m < 16777216 then 3 else if m < 4294967296 then 4
  else if m < 1099511627776 then 5 else if m < 281474976710656 then 6 else if m < 72057594037927936 then 7 else 8

theorem nd_le (m : Nat) : nd m ≤ 8 := by
  unfold nd
  (repeat' split) <;> omega

/-- after j digits nothing is left exactly if m has at most j digits -/
theorem nd_zero (m j : Nat) (h : m < 9223372036854775808) (hj : j ≤ 8) : m / 256 ^ j = 0 ↔ nd m ≤ j := by
  have h9 : j = 0 ∨ j = 1 ∨ j = 2 ∨ j = 3 ∨ j = 4 ∨ j = 5 ∨ j = 6 ∨ j = 7 ∨ j = 8 := by omega
  unfold nd
  rcases h9 with rfl | rfl | rfl | rfl | rfl | rfl | rfl | rfl | rfl <;> simp only [Nat.reducePow] <;> (repeat' split) <;> omega

theorem lows_getD (k m i : Nat) (h : i < k) : (lows k m).getD i 0 = UInt8.ofNat (m / 256 ^ (k - 1 - i) % 256) := by
  induction k generalizing m with
  | zero => omega
  | succ k ih =>
    simp only [lows]
    rcases Nat.lt_or_ge i k with h1 | h1
    · rw [List.getD_eq_getElem?_getD, List.getElem?_append_left (by rw [lows_length]; exact h1), ← List.getD_eq_getElem?_getD, ih _ h1, Nat.div_div_eq_div_mul]
      have : k + 1 - 1 - i = (k - 1 - i) + 1 := by omega
      rw [this, Nat.pow_succ, Nat.mul_comm]
    · have e : i = k := by omega
      subst e
      rw [List.getD_eq_getElem?_getD, List.getElem?_append_right (by rw [lows_length]; exact Nat.le_refl _), lows_length]
      simp

/-- a digit as it stands in the encoding of a negative number (g), or of another one -/
def fx (g : Bool) (d : UInt8) : UInt8 := if g then 255 - d else d
theorem fx_nat (g : Bool) (d : UInt8) : (fx g d).toNat = if g then 255 - d.toNat else d.toNat := by
  cases g
  · rfl
  · show (255 - d : UInt8).toNat = _
    have := d.toNat_lt
    rw [UInt8.toNat_sub_of_le _ _ (by rw [UInt8.le_iff_toNat_le]; show d.toNat ≤ 255; omega)]
    rfl

/-- the number that digits stand for -/
def mag (g : Bool) (l : List UInt8) : Nat := l.foldl (fun m d => 256 * m + (fx g d).toNat) 0
/-- the encoding of an integer -/
def neg (n : Int) : Bool := decide (n < 0)
def mgn (n : Int) : Nat := if n < 0 then (-1 - n).toNat else n.toNat
def hd (g : Bool) (k : Nat) : UInt8 := UInt8.ofNat (if g then 127 - k else 128 + k)
def enc (n : Int) : List UInt8 := hd (neg n) (nd (mgn n)) :: (lows (nd (mgn n)) (mgn n)).map (fx (neg n))
theorem enc_length (n : Int) : (enc n).length = 1 + nd (mgn n) := by simp [enc, lows_length, Nat.add_comm]

/-- the head of an encoding -/
def hk (h : UInt8) : Nat := if h.toNat < 128 then 127 - h.toNat else h.toNat - 128
def hg (h : UInt8) : Bool := decide (h.toNat < 128)
/-- does a number begin with a digit 0? -/
def lead0 (g : Bool) (l : List UInt8) : Bool := match l with
  | [] => false
  | d :: _ => fx g d == 0

def sgn (g : Bool) (m : Nat) : Int := if g then -1 - (m : Int) else (m : Int)

/-- decoding an integer: the integer, the bytes used, the error -/
def gi : List UInt8 → Int × Nat × Int
  | [] => (0, 0, 3)
  | h :: t =>
    if 8 < hk h then (0, 0, 2)
    else if t.length < hk h then (0, 0, 3)
    else if lead0 (hg h) (t.take (hk h)) then (0, 0, 2)
    else if 9223372036854775807 < mag (hg h) (t.take (hk h)) then (0, 0, 2)
    else (sgn (hg h) (mag (hg h) (t.take (hk h))), 1 + hk h, 0)

theorem mgn_lt (n : Int) (h1 : -9223372036854775808 ≤ n) (h2 : n ≤ 9223372036854775807) : mgn n < 9223372036854775808 := by
  unfold mgn; split <;> omega

end Go.Proofs.YtmbkpcnpacncjaaDoor
