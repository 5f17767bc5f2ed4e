/- SHA-256, HMAC and digests as mathematics: words are bit vectors of 32 bits, messages lists of bytes. -/
import Derived.Test.YtfgkaiaapofepaaDoorBase
import Derived.Laws.BitsAllLaws
namespace Go.Proofs.YtfgkaiaapofepaaDoor

abbrev Wd := BitVec 32
def rotw (x : Wd) (n : Nat) : Wd := (x >>> n) ||| (x <<< (32 - n))
def KK : List Wd := [
  0x428a2f98, 0x71374491, 0xb5c0fbcf, 0xe9b5dba5, 0x3956c25b, 0x59f111f1, 0x923f82a4, 0xab1c5ed5,
  0xd807aa98, 0x12835b01, 0x243185be, 0x550c7dc3, 0x72be5d74, 0x80deb1fe, 0x9bdc06a7, 0xc19bf174,
  0xe49b69c1, 0xefbe4786, 0x0fc19dc6, 0x240ca1cc, 0x2de92c6f, 0x4a7484aa, 0x5cb0a9dc, 0x76f988da,
  0x983e5152, 0xa831c66d, 0xb00327c8, 0xbf597fc7, 0xc6e00bf3, 0xd5a79147, 0x06ca6351, 0x14292967,
  0x27b70a85, 0x2e1b2138, 0x4d2c6dfc, 0x53380d13, 0x650a7354, 0x766a0abb, 0x81c2c92e, 0x92722c85,
  0xa2bfe8a1, 0xa81a664b, 0xc24b8b70, 0xc76c51a3, 0xd192e819, 0xd6990624, 0xf40e3585, 0x106aa070,
  0x19a4c116, 0x1e376c08, 0x2748774c, 0x34b0bcb5, 0x391c0cb3, 0x4ed8aa4a, 0x5b9cca4f, 0x682e6ff3,
  0x748f82ee, 0x78a5636f, 0x84c87814, 0x8cc70208, 0x90befffa, 0xa4506ceb, 0xbef9a3f7, 0xc67178f2]
def sg0 (x : Wd) : Wd := rotw x 7 ^^^ rotw x 18 ^^^ (x >>> 3)
def sg1 (x : Wd) : Wd := rotw x 17 ^^^ rotw x 19 ^^^ (x >>> 10)
/-- the word that follows -/
def wnext (l : List Wd) : Wd := l.getD (l.length - 16) 0 + sg0 (l.getD (l.length - 15) 0) + l.getD (l.length - 7) 0 + sg1 (l.getD (l.length - 2) 0)
def sch (l : List Wd) : Nat → List Wd
  | 0 => l
  | n + 1 => sch l n ++ [wnext (sch l n)]
structure St where
  (a b c d e f g h : Wd)
def tmix (x : Wd) (i j k : Nat) : Wd := rotw x i ^^^ rotw x j ^^^ rotw x k
def rx (s : St) (k w : Wd) : Wd := s.h + tmix s.e 6 11 25 + ((s.e &&& s.f) ^^^ (~~~ s.e &&& s.g)) + k + w
def ry (s : St) : Wd := tmix s.a 2 13 22 + ((s.a &&& s.b) ^^^ (s.a &&& s.c) ^^^ (s.b &&& s.c))
def rnd (s : St) (k w : Wd) : St := ⟨rx s k w + ry s, s.a, s.b, s.c, s.d + rx s k w, s.e, s.f, s.g⟩
def comp (v : St) (w : List Wd) : Nat → St
  | 0 => v
  | n + 1 => rnd (comp v w n) (KK.getD n 0) (w.getD n 0)
def addS (v s : St) : St := ⟨v.a + s.a, v.b + s.b, v.c + s.c, v.d + s.d, v.e + s.e, v.f + s.f, v.g + s.g, v.h + s.h⟩
/-- the first j bytes of word t, as a number -/
def pwd (l : List UInt8) (t : Nat) : Nat → Wd
  | 0 => 0
  | j + 1 => (pwd l t j <<< 8) ||| BitVec.ofNat 32 (l.getD (4 * t + j) 0).toNat
def be4 (l : List UInt8) (t : Nat) : Wd := pwd l t 4
def words (l : List UInt8) : List Wd := sch ((List.range 16).map (be4 l)) 48
def blk1 (v : St) (l : List UInt8) : St := addS v (comp v (words l) 64)
def st0 : St := ⟨0x6a09e667, 0xbb67ae85, 0x3c6ef372, 0xa54ff53a, 0x510e527f, 0x9b05688c, 0x1f83d9ab, 0x5be0cd19⟩
def be8 (n : Nat) : List UInt8 := (List.range 8).map fun i => UInt8.ofNat (n / 2 ^ (56 - 8 * i))
def padz (n : Nat) : Nat := (119 - n % 64) % 64
def pad (m : List UInt8) : List UInt8 := m ++ 128 :: (List.replicate (padz m.length) 0 ++ be8 (8 * m.length))
def blks (v : St) (l : List UInt8) : Nat → St
  | 0 => v
  | n + 1 => blk1 (blks v l n) ((l.drop (64 * n)).take 64)
def outw (x : Wd) : List UInt8 := [UInt8.ofNat (x.toNat / 16777216), UInt8.ofNat (x.toNat / 65536), UInt8.ofNat (x.toNat / 256), UInt8.ofNat x.toNat]
def outS (s : St) : List UInt8 := outw s.a ++ outw s.b ++ outw s.c ++ outw s.d ++ outw s.e ++ outw s.f ++ outw s.g ++ outw s.h
def sha (m : List UInt8) : List UInt8 := outS (blks st0 (pad m) ((m.length + 72) / 64))
def keyOf (k : List UInt8) : List UInt8 := if k.length > 64 then sha k else k
def keyX (k : List UInt8) (c : UInt8) : List UInt8 := (keyOf k ++ List.replicate (64 - (keyOf k).length) 0).map (· ^^^ c)
def mac (k t : List UInt8) : List UInt8 := sha (keyX k 92 ++ sha (keyX k 54 ++ t))

/-! words as Go's numbers -/
def wn (x : Wd) : Int := (x.toNat : Int)
theorem wn_lo (x : Wd) : 0 ≤ wn x := by unfold wn; omega
theorem wn_hi (x : Wd) : wn x < 4294967296 := by unfold wn; have := x.isLt; omega
theorem wn_inj {x y : Wd} (h : wn x = wn y) : x = y := BitVec.eq_of_toNat_eq (by unfold wn at h; omega)
theorem wn_xor (x y : Wd) : bits .xor .u32 (wn x) (wn y) = wn (x ^^^ y) := by
  unfold wn; rw [u32_xor_nat _ _ x.isLt y.isLt, BitVec.toNat_xor]
theorem wn_and (x y : Wd) : bits .and .u32 (wn x) (wn y) = wn (x &&& y) := by
  unfold wn; rw [u32_and_nat _ _ x.isLt y.isLt, BitVec.toNat_and]
theorem wn_or (x y : Wd) : bits .or .u32 (wn x) (wn y) = wn (x ||| y) := by
  unfold wn; rw [u32_or_nat _ _ x.isLt y.isLt, BitVec.toNat_or]
theorem wn_all : (4294967295 : Int) = wn (4294967295#32) := by decide
theorem wd_not (x : Wd) : x ^^^ 4294967295#32 = ~~~x := by
  have : 4294967295#32 = BitVec.allOnes 32 := by decide
  rw [this, BitVec.xor_allOnes]
theorem wn_not (x : Wd) : bits .xor .u32 (wn x) 4294967295 = wn (~~~x) := by rw [wn_all, wn_xor, wd_not]
theorem wn_not' (x : Wd) : bits .xor .u32 4294967295 (wn x) = wn (~~~x) := by rw [wn_all, wn_xor, BitVec.xor_comm, wd_not]
theorem wn_add (x y : Wd) : IntKind.u32.wrap (wn x + wn y) = wn (x + y) := by
  unfold wn; rw [IntKind.wrap_u32', BitVec.toNat_add]; omega
theorem wn_add' (x y : Wd) : (wn x + wn y) % 4294967296 = wn (x + y) := by
  rw [← wn_add, IntKind.wrap_u32']
theorem wn_shr (x : Wd) (n : Nat) : wn x / 2 ^ n = wn (x >>> n) := by
  unfold wn
  rw [BitVec.toNat_ushiftRight, Nat.shiftRight_eq_div_pow]
  simp
theorem wn_shl (x : Wd) (n : Nat) : (wn x * 2 ^ n) % 4294967296 = wn (x <<< n) := by
  unfold wn
  rw [BitVec.toNat_shiftLeft, Nat.shiftLeft_eq]
  simp
theorem wn_shl' (x : Wd) (n : Nat) : IntKind.u32.wrap (wn x * 2 ^ n) = wn (x <<< n) := by rw [IntKind.wrap_u32', wn_shl]
end Go.Proofs.YtfgkaiaapofepaaDoor
