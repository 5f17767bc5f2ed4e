/- Contracts of the package integer and its reference: integer.apply. integer.steps. integer.step, gcd: what they keep. integer.gcd. integer.Gcd. Fractions in lowest terms: plain mathematics. Rational numbers: words, and rat.one. integer.Valid and the reference's. Words for generated proofs: fields, boxes and parts of the structs. -/
import Derived.Test.YtmbkpcnpacncjaaDoorM19
import Derived.Test.YtmbkpcnpacncjaaDoorM8
import Derived.Test.YtmbkpcnpacncjaaDoorM4
import Derived.Test.YtmbkpcnpacncjaaDoorM5
import Derived.Test.YtmbkpcnpacncjaaDoorM2
import Derived.Test.YtmbkpcnpacncjaaDoorM13
import Derived.Test.YtmbkpcnpacncjaaDoorM12
import Derived.Test.YtmbkpcnpacncjaaDoorM11
set_option linter.unusedVariables false
namespace Go.Proofs.YtmbkpcnpacncjaaDoor
open Go.RowKit

/-- of what there was, blocks g and h alone are changed -/
structure Only2 (g h : Nat) (w w' : World) : Prop where
  os : w'.os = w.os
  tape : w'.tape = w.tape
  output : w'.output = w.output
  size : w.heap.size ≤ w'.heap.size
  block : ∀ k, k < w.heap.size → k ≠ g → k ≠ h → w'.heap[k]? = w.heap[k]?
section
variable {g h : Nat} {w w' w2 : World}
theorem Only2.drewN (ho : Only2 g h w w') (q : Nat) : Only2 g h w (w'.drewN q) := ⟨ho.os, ho.tape, ho.output, ho.size, ho.block⟩
theorem Only2.of_below (hb : Below w.heap.size w w') : Only2 g h w w' := ⟨hb.os, hb.tape, hb.output, hb.size, fun k hk _ _ => hb.block k hk⟩
theorem Only2.below {B : Nat} {w0 : World} (ho : Only2 g h w w') (hb : Below B w0 w) (hg : B ≤ g) (hh : B ≤ h) (hs : B ≤ w.heap.size) : Below B w0 w' :=
  ⟨ho.os.trans hb.os, ho.tape.trans hb.tape, ho.output.trans hb.output, Nat.le_trans hb.size ho.size, fun k hk => (ho.block k (by omega) (by omega) (by omega)).trans (hb.block k hk)⟩
end
end Go.Proofs.YtmbkpcnpacncjaaDoor

namespace Go.Proofs.YtmbkpcnpacncjaaDoor
open Go.RowKit

/-- the rows as they lie in memory -/
def LhR (P X Y a0 b0 xl yl u0 u1 l0 l1 a b : Int) (found : Bool) : Prop :=
  ∃ s U0 U1 L0 L1, u0 = s * U0 ∧ u1 = -(s * U1) ∧ l0 = -(s * L0) ∧ l1 = s * L1 ∧ Lh P X Y a0 b0 xl yl s U0 U1 L0 L1 a b found
theorem sgn_bd {s U : Int} (hs : s = 1 ∨ s = -1) (h0 : 0 ≤ U) (h1 : U < 1000000000) : -1000000000 < s * U ∧ s * U < 1000000000 := by
  rcases hs with hs | hs <;> subst hs <;> omega
section
variable {P X Y a0 b0 xl yl u0 u1 l0 l1 a b : Int} {found : Bool}
theorem LhR.bd (h : LhR P X Y a0 b0 xl yl u0 u1 l0 l1 a b found) (ha : a0 < 1000000000000000000) : 0 ≤ a ∧ a < 1000000000000000000 ∧ 0 ≤ b ∧ b < 1000000000000000000 ∧ -1000000000 < u0 ∧ u0 < 1000000000 ∧ -1000000000 < u1 ∧ u1 < 1000000000 ∧ -1000000000 < l0 ∧ l0 < 1000000000 ∧ -1000000000 < l1 ∧ l1 < 1000000000 ∧ 0 ≤ a + u0 ∧ 0 ≤ a + u1 ∧ 0 ≤ b + l0 ∧ 0 ≤ b + l1 := by
  obtain ⟨s, U0, U1, L0, L1, rfl, rfl, rfl, rfl, h⟩ := h
  have h1 := sgn_bd h.s1 h.U00 h.U0b
  have h2 := sgn_bd h.s1 h.U10 h.U1b
  have h3 := sgn_bd h.s1 h.L00 (by have := h.L01; have := h.L1b; omega)
  have h4 := sgn_bd h.s1 h.L10 h.L1b
  have ap := h.apos
  have bp := h.bpos
  have aa : a ≤ a0 := by
    have e1 : a * 1 ≤ a * L1 := Int.mul_le_mul_of_nonneg_left h.L1p ap
    have e2 : 0 ≤ b * U1 := Int.mul_nonneg bp h.U10
    have := h.key
    omega
  have bb : b ≤ a0 := by
    rcases h.U01 with h5 | h5
    · have e1 : b * 1 ≤ b * U1 := Int.mul_le_mul_of_nonneg_left h5.2.1 bp
      have e2 : 0 ≤ a * L1 := Int.mul_nonneg ap h.L10
      have := h.key
      omega
    · have := h5.2.2.2.2.2; omega
  have := h.au0; have := h.au1; have := h.bl0; have := h.bl1
  omega
theorem LhR.q (h : LhR P X Y a0 b0 xl yl u0 u1 l0 l1 a b found) (ha : a0 < 1000000000000000000) (hb0 : 0 < b + l0) :
    0 ≤ (a + u0) / (b + l0) ∧ (a + u0) / (b + l0) < 1000000001000000000 ∧ -2000000000000000000 ≤ (a + u0) / (b + l0) * l0 ∧ (a + u0) / (b + l0) * l0 ≤ 2000000000000000000 ∧ -2000000000000000000 ≤ (a + u0) / (b + l0) * l1 ∧ (a + u0) / (b + l0) * l1 ≤ 2000000000000000000 ∧ -3100000000000000000 ≤ (a + u0) / (b + l0) * b ∧ (a + u0) / (b + l0) * b ≤ 3100000000000000000 := by
  have hbd := h.bd ha
  obtain ⟨q, hq⟩ : ∃ q, (a + u0) / (b + l0) = q := ⟨_, rfl⟩
  have q0 : 0 ≤ q := by rw [← hq]; exact Int.ediv_nonneg (by omega) (by omega)
  have q1 : q * (b + l0) ≤ a + u0 := by rw [← hq]; exact Int.ediv_mul_le _ (by omega)
  have q2 : q ≤ a + u0 := by
    have : q * 1 ≤ q * (b + l0) := Int.mul_le_mul_of_nonneg_left (by omega) q0
    omega
  rw [hq]
  obtain ⟨s, U0, U1, L0, L1, e1, e2, e3, e4, h⟩ := h
  have hL1 : q * L1 ≤ 2000000000000000000 := by
    have f1 : q * L1 ≤ (a + u0) * L1 := Int.mul_le_mul_of_nonneg_right q2 h.L10
    have f2 : (a + u0) * L1 = a * L1 + u0 * L1 := by grind
    have f3 : 0 ≤ b * U1 := Int.mul_nonneg hbd.2.2.1 h.U10
    have f4 := h.key
    have f5 : u0 * L1 ≤ 999999999 * L1 := Int.mul_le_mul_of_nonneg_right (by omega) h.L10
    have f6 := h.L1b
    omega
  have hL10 : 0 ≤ q * L1 := Int.mul_nonneg q0 h.L10
  have hL00 : 0 ≤ q * L0 := Int.mul_nonneg q0 h.L00
  have hL0 : q * L0 ≤ q * L1 := Int.mul_le_mul_of_nonneg_left h.L01 q0
  have g1 : -2000000000000000000 ≤ q * l0 ∧ q * l0 ≤ 2000000000000000000 := by
    rw [e3]
    rcases h.s1 with hs | hs
    · subst hs; have : q * -(1 * L0) = -(q * L0) := by grind
      omega
    · subst hs; have : q * -(-1 * L0) = q * L0 := by grind
      omega
  have g2 : -2000000000000000000 ≤ q * l1 ∧ q * l1 ≤ 2000000000000000000 := by
    rw [e4]
    rcases h.s1 with hs | hs
    · subst hs; have : q * (1 * L1) = q * L1 := by grind
      omega
    · subst hs; have : q * (-1 * L1) = -(q * L1) := by grind
      omega
  have g3 : q * (b + l0) = q * b + q * l0 := by grind
  have g4 : 0 ≤ q * (b + l0) := Int.mul_nonneg q0 (by omega)
  omega
theorem LhR.step (h : LhR P X Y a0 b0 xl yl u0 u1 l0 l1 a b found) (ha : a0 < 1000000000000000000) (q : Int) (hb0 : 0 < b + l0) (hb1 : 0 < b + l1) (hq : (a + u0) / (b + l0) = q) (hq1 : (a + u1) / (b + l1) = q) (hM0 : u1 - q * l1 < 1000000000) (hM1 : -(u1 - q * l1) < 1000000000) :
    LhR P X Y a0 b0 xl yl l0 l1 (u0 - q * l0) (u1 - q * l1) b (a - q * b) true := by
  have hbd := h.bd ha
  have q0 : 0 ≤ q := by rw [← hq]; exact Int.ediv_nonneg (by omega) (by omega)
  have m0 := Int.emod_add_mul_ediv (a + u0) (b + l0)
  have m0a := Int.emod_nonneg (a + u0) (b := b + l0) (by omega)
  have m0b := Int.emod_lt_of_pos (a + u0) hb0
  have m1 := Int.emod_add_mul_ediv (a + u1) (b + l1)
  have m1a := Int.emod_nonneg (a + u1) (b := b + l1) (by omega)
  have m1b := Int.emod_lt_of_pos (a + u1) hb1
  rw [hq, Int.mul_comm] at m0
  rw [hq1, Int.mul_comm] at m1
  obtain ⟨s, U0, U1, L0, L1, rfl, rfl, rfl, rfl, h⟩ := h
  refine ⟨-s, L0, L1, U0 + q * L0, U1 + q * L1, by grind, by grind, by grind, by grind, ?_⟩
  have e1 : b + -(s * L0) = b - s * L0 := by omega
  have e2 : a + -(s * U1) = a - s * U1 := by omega
  rw [e1] at m0 m0a m0b
  rw [e2] at m1 m1a m1b
  refine h.step q q0 (by omega) (by omega) (by omega) (by omega) ?_
  rcases h.s1 with hs | hs
  · subst hs; have : q * (1 * L1) = q * L1 := by grind
    omega
  · subst hs; have : q * (-1 * L1) = -(q * L1) := by grind
    omega
theorem LhR.less (h : LhR P X Y a0 b0 xl yl u0 u1 l0 l1 a b found) (q : Int) (hb0 : 0 < b + l0) (hb1 : 0 < b + l1) (hq : (a + u0) / (b + l0) = q) (hq1 : (a + u1) / (b + l1) = q) (q0 : 0 ≤ q) : a - q * b < b := by
  have m0 := Int.emod_add_mul_ediv (a + u0) (b + l0)
  have m0b := Int.emod_lt_of_pos (a + u0) hb0
  have m1 := Int.emod_add_mul_ediv (a + u1) (b + l1)
  have m1b := Int.emod_lt_of_pos (a + u1) hb1
  rw [hq, Int.mul_comm] at m0
  rw [hq1, Int.mul_comm] at m1
  have g0 : q * (b + l0) = q * b + q * l0 := by grind
  have g1 : q * (b + l1) = q * b + q * l1 := by grind
  obtain ⟨s, U0, U1, L0, L1, e1, e2, e3, e4, h⟩ := h
  have hL10 : 0 ≤ q * L1 := Int.mul_nonneg q0 h.L10
  have hL00 : 0 ≤ q * L0 := Int.mul_nonneg q0 h.L00
  have := h.U00
  have := h.U10
  have := h.L00
  have := h.L10
  rcases h.s1 with hs | hs
  · subst hs
    have f : q * l0 = -(q * L0) := by rw [e3]; grind
    omega
  · subst hs
    have f : q * l1 = -(q * L1) := by rw [e4]; grind
    omega
end

section
variable {w W W' : World} {u0 u1 l0 l1 : Int}
end
end Go.Proofs.YtmbkpcnpacncjaaDoor

namespace Go.Proofs.YtmbkpcnpacncjaaDoor
open Go.RowKit

/-- what gcd keeps: both numbers in rows of its own, the second one not longer than its row -/
structure GcI (w : World) (g : Nat) (gx gy nx cx my cy : Nat) (X Y : List Int) (wr : World) : Prop where
  bx : Blk wr gx X
  by_ : Blk wr gy Y
  ne : gx ≠ gy
  ox : w.heap.size ≤ gx
  oy : w.heap.size ≤ gy
  lx : nx ≤ X.length
  cx' : nx ≤ cx
  ly : my = Y.length
  cy' : my ≤ cy
  bcx : cx ≤ 549755813887
  bcy : cy ≤ 549755813887
  dx : Dg X
  dy : Dg Y
  nm : nx ≤ my
  top : tlen (X.take nx) = nx
  le : val Y ≤ val (X.take nx)
  gcd : Int.gcd (val (X.take nx)) (val Y) = g
  below : Below w.heap.size w wr
theorem take2 {X : List Int} {k : Nat} (h : k + 2 ≤ X.length) : val (X.take (k + 2)) = val (X.take k) + pw k * (iat X (k + 1) * 1000000000 + iat X k) := by
  rw [show k + 2 = (k + 1) + 1 by omega, val_take X (k + 1) (by omega), val_take X k (by omega)]
  show _ + _ + 1000000000 * pw k * _ = _
  grind
section
variable {w wr : World} {g gx gy nx cx my cy k : Nat} {X Y : List Int}
theorem GcI.high (h : GcI w g gx gy nx cx my cy X Y wr) : val Y = val (Y.take nx) ∧ val (Y.drop nx) = 0 := by
  have hl := h.ly
  have hn := h.nm
  have hx := (h.dx.take nx).hi
  rw [List.length_take, Nat.min_eq_left h.lx] at hx
  have hs := val_split Y nx (by omega)
  have h1 := (h.dy.take nx).lo
  have h2 := (h.dy.drop nx).lo
  have hp := pw_pos nx
  have hle := h.le
  have h3 : val (Y.drop nx) = 0 := by
    rcases Int.lt_or_le 0 (val (Y.drop nx)) with h4 | h4
    · have : pw nx * 1 ≤ pw nx * val (Y.drop nx) := Int.mul_le_mul_of_nonneg_left (by omega) (by omega)
      omega
    · omega
  rw [h3] at hs
  exact ⟨by omega, h3⟩
theorem GcI.rows (h : GcI w g gx gy nx cx my cy X Y wr) (hk : nx = k + 2) : LhR (pw k) (val (X.take nx)) (val Y) (iat X (k + 1) * 1000000000 + iat X k) (iat Y (k + 1) * 1000000000 + iat Y k) (val (X.take k)) (val (Y.take k)) 1 0 0 1 (iat X (k + 1) * 1000000000 + iat X k) (iat Y (k + 1) * 1000000000 + iat Y k) false := by
  have hlx := h.lx
  have hnm := h.nm
  have hly := h.ly
  have hh := h.high
  subst hk
  have ex := take2 hlx
  have ey := take2 (X := Y) (k := k) (by omega)
  have x1 := (h.dx.take k).lo
  have x2 := (h.dx.take k).hi
  have y1 := (h.dy.take k).lo
  have y2 := (h.dy.take k).hi
  rw [List.length_take, Nat.min_eq_left (by omega)] at x2 y2
  have hle := h.le
  have d1 := h.dx.all k
  have d2 := h.dx.all (k + 1)
  have d3 := h.dy.all k
  have d4 := h.dy.all (k + 1)
  have hp := pw_pos k
  rw [← hh.1] at ey
  refine ⟨1, 1, 0, 0, 1, rfl, rfl, rfl, rfl, ?_⟩
  refine Lh.init hp (by rw [ex]; grind) (by rw [ey]; grind) x1 (by omega) y1 (by omega) (by omega) (by omega) ?_ hle
  rw [ex, ey] at hle
  generalize iat X (k + 1) * 1000000000 + iat X k = a at *
  generalize iat Y (k + 1) * 1000000000 + iat Y k = b at *
  rcases Int.lt_or_le a b with h1 | h1
  · exfalso
    have : pw k * (a + 1) ≤ pw k * b := Int.mul_le_mul_of_nonneg_left (by omega) (by omega)
    have e : pw k * (a + 1) = pw k * a + pw k := by grind
    omega
  · exact h1
theorem drop_eq_of {a b : List Int} {n : Nat} (hl : a.length = b.length) (h : ∀ j, n ≤ j → iat a j = iat b j) : a.drop n = b.drop n := by
  apply List.ext_getElem?
  intro i
  rw [List.getElem?_drop, List.getElem?_drop]
  have hi := h (n + i) (by omega)
  rcases Nat.lt_or_ge (n + i) a.length with h1 | h1
  · have h2 : n + i < b.length := by omega
    simp [iat, List.getD_eq_getElem?_getD, h1, h2] at hi
    simp [h1, h2, hi]
  · rw [List.getElem?_eq_none h1, List.getElem?_eq_none (by omega)]
theorem dg_of_rest {a b : List Int} {n : Nat} (h : Dg (a.take n)) (hb : Dg b) (hr : ∀ j, n ≤ j → iat a j = iat b j) : Dg a := fun i hi => by
  rcases Nat.lt_or_ge i n with h1 | h1
  · have := h.all i
    rw [iat_take, if_pos h1] at this
    exact this
  · rw [hr i h1]; exact hb.all i
theorem take_tlen_take {l : List Int} (n : Nat) : (l.take n).take (tlen (l.take n)) = l.take (tlen (l.take n)) := by
  rw [List.take_take, Nat.min_eq_left]
  have := tlen_le (l.take n)
  rw [List.length_take] at this
  omega
/-- the digits that are left are the whole number, without zeros at the end -/
theorem trim_take {l : List Int} (h : Dg l) : val (l.take (tlen l)) = val l ∧ tlen (l.take (tlen l)) = tlen l := by
  have e := take_tlen h
  have hv := h.lo
  refine ⟨by rw [e, val_digs]; omega, ?_⟩
  rw [e, tlen_digs, ← e, List.length_take, Nat.min_eq_left (tlen_le l)]
/-- several steps at once -/
theorem GcI.many (h : GcI w g gx gy nx cx my cy X Y wr) {P a0 b0 xl yl u0 u1 l0 l1 a b : Int} {ov un : Int} {zx zy : List Int} {w' : World}
    (hR : LhR P (val (X.take nx)) (val Y) a0 b0 xl yl u0 u1 l0 l1 a b true) (hA : ApA X X Y u0 u1 nx ov zx) (hB : ApA Y X Y l0 l1 nx un zy) (hx : Blk w' gx zx) (hy : Blk w' gy zy) (hb : Below w.heap.size w w') :
    GcI w g gx gy (tlen (zx.take nx)) cx my cy zx zy w' ∧ (val (zx.take (tlen (zx.take nx))) + val zy).toNat < (val (X.take nx) + val Y).toNat := by
  have hh := h.high
  have hlx := h.lx
  have hX := (h.dx.take nx).hi
  rw [List.length_take, Nat.min_eq_left hlx] at hX
  have hX0 := (h.dx.take nx).lo
  have hY0 := h.dy.lo
  obtain ⟨s, U0, U1, L0, L1, rfl, rfl, rfl, rfl, hL⟩ := hR
  have hlow := hL.lowNonneg
  have hord := hL.ord
  have htop := hL.top
  have hdec := hL.dec rfl
  have hgcd := hL.gcd
  have e1 : s * U0 * val (X.take nx) + -(s * U1) * val (Y.take nx) = s * U0 * val (X.take nx) - s * U1 * val Y := by rw [← hh.1]; grind
  have e2 : -(s * L0) * val (X.take nx) + s * L1 * val (Y.take nx) = s * L1 * val Y - s * L0 * val (X.take nx) := by rw [← hh.1]; grind
  have v1 := hA.done hlx (by rw [e1]; omega) (by rw [e1]; omega)
  have v2 := hB.done (by rw [← h.ly]; exact h.nm) (by rw [e2]; omega) (by rw [e2]; omega)
  rw [e1] at v1
  rw [e2] at v2
  have hdzx := dg_of_rest hA.dg h.dx hA.rest
  have hdzy := dg_of_rest hB.dg h.dy hB.rest
  have v3 : val zy = val (zy.take nx) := by
    have := val_split zy nx (by rw [hB.len, ← h.ly]; exact h.nm)
    rw [drop_eq_of hB.len hB.rest, hh.2] at this
    omega
  have ht := trim_take (hdzx.take nx)
  rw [take_tlen_take] at ht
  have hle := tlen_le (zx.take nx)
  rw [List.length_take] at hle
  refine ⟨?_, by rw [ht.1, v1, v3, v2]; omega⟩
  refine { bx := hx, by_ := hy, ne := h.ne, ox := h.ox, oy := h.oy, lx := by omega, cx' := by have := h.cx'; omega, ly := by rw [hB.len]; exact h.ly, cy' := h.cy', bcx := h.bcx, bcy := h.bcy, dx := hdzx, dy := hdzy, nm := by have := h.nm; omega, top := ht.2, le := by rw [ht.1, v1, v3, v2]; exact hord, gcd := by rw [ht.1, v1, v3, v2, hgcd]; exact h.gcd, below := hb }
/-- one step -/
theorem GcI.one (h : GcI w g gx gy nx cx my cy X Y wr) {h' m : Nat} {q r : List Int} {w' : World} (hq : DivQ (X.take nx) (Y.take (tlen Y)) q r) (hr : Blk w' h' r) (hrl : r.length = m) (hml : m ≤ tlen Y ∧ (tlen Y ≤ nx → m = tlen Y)) (hh : wr.heap.size ≤ h') (hb : Below wr.heap.size wr w') :
    GcI w g gy h' (tlen Y) cy m m Y r w' ∧ (val (Y.take (tlen Y)) + val r).toNat < (val (X.take nx) + val Y).toNat := by
  have ht := trim_take h.dy
  have hlen := tlen_le Y
  have hly := h.ly
  have hX0 := (h.dx.take nx).lo
  have hY0 := h.dy.lo
  obtain ⟨hq1, hq2, hq3, hq4⟩ := hq
  rw [ht.1] at hq3 hq4
  have hr0 := hq2.lo
  have hle := h.le
  have hQ0 := hq1.lo
  -- the divisor has no more digits than the dividend
  have hlt : tlen Y ≤ nx := by
    have e1 := digs_val (h.dx.take nx) (by rw [h.top, List.length_take, Nat.min_eq_left h.lx])
    have e2 := take_tlen h.dy
    have h1 := digs_len_mono (a := (val Y).toNat) (b := (val (X.take nx)).toNat) (by omega)
    rw [e1, ← e2, List.length_take, List.length_take, Nat.min_eq_left hlen, Nat.min_eq_left h.lx] at h1
    exact h1
  have hm := hml.2 hlt
  have hsz := h.by_.lt
  refine ⟨?_, ?_⟩
  · refine { bx := h.by_.later hb, by_ := hr, ne := by omega, ox := h.oy, oy := by have := h.below.size; omega, lx := hlen, cx' := by have := h.cy'; omega, ly := hrl.symm, cy' := Nat.le_refl _, bcx := h.bcy, bcy := by have := h.cy'; have := h.bcy; omega, dx := h.dy, dy := hq2, nm := by omega, top := ht.2, le := by rw [ht.1]; omega, gcd := ?_, below := below_tr h.below hb }
    rw [ht.1, ← h.gcd]
    generalize val (X.take nx) = x at *
    generalize val Y = y at *
    generalize val q = Q at *
    generalize val r = R at *
    have : x = y * Q + R := by grind
    rw [this, Int.gcd_comm, Int.gcd_comm (y * Q + R), Int.gcd_mul_left_add_right, Int.gcd_comm]
  · rw [ht.1]
    have hYp : 0 < val Y := by omega
    have : val r < val Y := hq4
    generalize val (X.take nx) = x at *
    generalize val Y = y at *
    generalize val q = Q at *
    generalize val r = R at *
    omega
end
end Go.Proofs.YtmbkpcnpacncjaaDoor

namespace Go.Proofs.YtmbkpcnpacncjaaDoor
open Go.RowKit

theorem GcI.later {w wr w' : World} {g gx gy nx cx my cy : Nat} {X Y : List Int} (h : GcI w g gx gy nx cx my cy X Y wr) (hb : Below wr.heap.size wr w') : GcI w g gx gy nx cx my cy X Y w' :=
  { bx := h.bx.later hb, by_ := h.by_.later hb, ne := h.ne, ox := h.ox, oy := h.oy, lx := h.lx, cx' := h.cx', ly := h.ly, cy' := h.cy', bcx := h.bcx, bcy := h.bcy, dx := h.dx, dy := h.dy, nm := h.nm, top := h.top, le := h.le, gcd := h.gcd, below := below_tr h.below hb }
end Go.Proofs.YtmbkpcnpacncjaaDoor

namespace Go.Proofs.YtmbkpcnpacncjaaDoor
open Go.RowKit

end Go.Proofs.YtmbkpcnpacncjaaDoor

namespace Go.Proofs.YtmbkpcnpacncjaaDoor
end Go.Proofs.YtmbkpcnpacncjaaDoor

namespace Go.Proofs.YtmbkpcnpacncjaaDoor
open Go.RowKit
variable {BT : List (TypeId × Nat × Nat)}

/-- the denominator as it is kept -/
def qd (q : Rat) : Int := if q.den = 1 then 0 else (q.den : Int)
/-- a rational number of at most N digits in both parts -/
def Vq (N : Nat) (q : Rat) : VP := VP2 2 2 (Vz N q.num) (Vz N (qd q))
theorem Stab_Vq (N : Nat) (q : Rat) : Stab BT (Vq N q) := Stab_VP2 (Stab_Vz _ _) (Stab_Vz _ _)
theorem AggV_Vq (N : Nat) (q : Rat) : AggV 4 (Vq N q) := AggV_VP2 (AggV_Vz _ _) (AggV_Vz _ _)
theorem Vz_le {N M : Nat} {z : Int} {v : Value} {w : World} (h : Vz N z v w) (hM : N ≤ M) : Vz M z v w := by
  obtain ⟨nb, p, n, c, h1, h2, h3⟩ := h
  exact ⟨nb, p, n, c, h1, h2, by omega⟩
theorem RV.le {V U : VP} {W : World} {e : Ending} {w' : World} (h : RV V W e w') (hVU : ∀ v w, V v w → U v w) : RV U W e w' := by
  obtain ⟨v, h1, h2, h3⟩ := h
  exact ⟨v, h1, hVU _ _ h2, h3⟩
section
variable {W : World} {Na Nb : Nat} {a b : Int} {v1 v2 : Value}
end

end Go.Proofs.YtmbkpcnpacncjaaDoor

namespace Go.Proofs.YtmbkpcnpacncjaaDoor
open Go.RowKit

/-- whether a sign and digits are an integer's -/
def vld (nb : Bool) (l : List Int) : Bool := l.all (fun d => decide (0 ≤ d) && decide (d < 1000000000)) && (if l = [] then !nb else iat l (l.length - 1) != 0)
theorem iat_mem {l : List Int} {k : Nat} (h : k < l.length) : iat l k = l[k] := by simp [iat, List.getD_eq_getElem?_getD, h]
theorem vld_no {nb : Bool} {l : List Int} (k : Nat) (hk : k < l.length) (h : iat l k < 0 ∨ 1000000000 ≤ iat l k) : vld nb l = false := by
  unfold vld
  have : l.all (fun d => decide (0 ≤ d) && decide (d < 1000000000)) = false := by
    rw [List.all_eq_false]
    refine ⟨l[k], List.getElem_mem hk, ?_⟩
    rw [iat_mem hk] at h
    intro hh
    simp only [Bool.and_eq_true, decide_eq_true_eq] at hh
    omega
  rw [this]; rfl
theorem vld_yes {nb : Bool} {l : List Int} (h : ∀ k, k < l.length → 0 ≤ iat l k ∧ iat l k < 1000000000) : vld nb l = if l = [] then !nb else iat l (l.length - 1) != 0 := by
  unfold vld
  have : l.all (fun d => decide (0 ≤ d) && decide (d < 1000000000)) = true := by
    rw [List.all_eq_true]
    intro x hx
    obtain ⟨k, hk, rfl⟩ := List.getElem_of_mem hx
    have := h k hk
    rw [iat_mem hk] at this
    simp only [Bool.and_eq_true, decide_eq_true_eq]
    exact this
  rw [this]; rfl

set_option maxRecDepth 100000 in
set_option maxHeartbeats 800000 in
theorem Valid_any (nb : Bool) (p : Option Addr) (n c : Nat) (l : List Int) (w : World) (hR0 : Rdi w p l) (hn0 : n = l.length) (hmax : n ≤ 4611686018427387904) :
    Calls Tryd.prog 10 #[.agg #[.bool nb, .slice p n c]] w fun e w' => e = .returned (.bool (vld nb l)) ∧ Below w.heap.size w w' := by
  have hS0 := Lib.hid (@Bx.start nb p n c w)
  have hR := Lib.hid hR0
  have hn := Lib.hid hn0
  clear hR0 hn0
  go_enter Tryd.func10, Tryd.ntmps10
  go_upto_region 1 with fail
  generalize w.alloc (.cells #[.bool nb, .slice p n c] 24) = W0 at hS0 ⊢
  have hf := hS0.out.facts
  have hf1 := hf.1
  have hf2 := hf.2
  go_wp2_with fail
  go_loop [9] (fun i => ∃ k : Nat, k ≤ n ∧ i = .int .i64 k ∧ Hid (∀ j, j < k → 0 ≤ iat l j ∧ iat l j < 1000000000)) (fun i => n - (intOf i).toNat)
  case atStart => exact ⟨0, Nat.zero_le _, rfl, Lib.hid (fun j hj => by omega)⟩
  case round =>
    obtain ⟨k, hk, rfl, hall⟩ := hrel
    by_cases hlt : k < n
    · have hkl : Hid (k < l.length) := Lib.hid (by rw [← hn.out]; exact hlt)
      obtain ⟨b, o, rfl, hc0⟩ := Rdi_at (Rdi_below hS0.out.2 hR.out) k hkl.out
      obtain ⟨d, hd⟩ : ∃ d, iat l k = d := ⟨_, rfl⟩
      rw [hd] at hc0
      have hd' := Lib.hid hd
      clear hd
      by_cases h1 : d < 0
      · have hr : Hid (vld nb l = false) := Lib.hid (vld_no k hkl.out (by rw [hd'.out]; exact .inl h1))
        go_wp2_with fail
        go_ret
        exact ⟨by rw [hr.out]; rfl, hS0.out.2⟩
      · by_cases h2 : d < 1000000000
        · have hall2 : Hid (∀ j, j < k + 1 → 0 ≤ iat l j ∧ iat l j < 1000000000) := Lib.hid (fun j h3 => by
            rcases Nat.lt_or_ge j k with h4 | h4
            · exact hall.out j h4
            · obtain rfl : j = k := by omega
              rw [hd'.out]; omega)
          have h3 : ¬ 1000000000 ≤ d := by omega
          go_wp2_with fail
          exact ⟨⟨k + 1, by omega, by simp, hall2⟩, by simp [intOf]; omega⟩
        · have hr : Hid (vld nb l = false) := Lib.hid (vld_no k hkl.out (by rw [hd'.out]; omega))
          have h3 : 1000000000 ≤ d := by omega
          go_wp2_with fail
          go_ret
          exact ⟨by rw [hr.out]; rfl, hS0.out.2⟩
    · have hk' : k = n := by omega
      subst hk'
      have hr : Hid (vld nb l = if l = [] then !nb else iat l (l.length - 1) != 0) := Lib.hid (vld_yes fun j hj => hall.out j (by rw [hn.out]; exact hj))
      by_cases hz : k = 0
      · subst hz
        have hl : Hid (vld nb l = !nb) := Lib.hid (by rw [hr.out, if_pos (List.eq_nil_of_length_eq_zero hn.out.symm)])
        go_wp2_with fail
        go_ret
        exact ⟨by rw [hl.out]; rfl, hS0.out.2⟩
      · obtain ⟨b, o, rfl, hc0⟩ := Rdi_at (Rdi_below hS0.out.2 hR.out) (k - 1) (by have := hn.out; omega)
        obtain ⟨m, rfl⟩ : ∃ m, k = m + 1 := ⟨k - 1, by omega⟩
        rw [Nat.add_sub_cancel] at hc0
        have hl : Hid (vld nb l = (iat l m != 0)) := Lib.hid (by rw [hr.out, if_neg (fun h => by have := hn.out; rw [h] at this; simp at this), ← hn.out, Nat.add_sub_cancel])
        obtain ⟨d, hd⟩ : ∃ d, iat l m = d := ⟨_, rfl⟩
        rw [hd] at hc0 hl
        have e1 : ((m + 1 : Nat) : Int) - 1 = (m : Int) := by omega
        clear hd hall hr
        go_wp2_with fail
        go_ret
        exact ⟨by rw [hl.out]; rfl, hS0.out.2⟩

set_option maxRecDepth 100000 in
set_option maxHeartbeats 800000 in
theorem rValid_any (nb : Bool) (p : Option Addr) (n c : Nat) (l : List Int) (w : World) (hR0 : Rdi w p l) (hn0 : n = l.length) (hmax : n ≤ 4611686018427387904) :
    Calls Tryd.prog 11 #[.agg #[.bool nb, .slice p n c]] w fun e w' => e = .returned (.bool (vld nb l)) ∧ Below w.heap.size w w' := by
  have hS0 := Lib.hid (@Bx.start nb p n c w)
  have hR := Lib.hid hR0
  have hn := Lib.hid hn0
  clear hR0 hn0
  go_enter Tryd.func11, Tryd.ntmps11
  go_upto_region 1 with fail
  generalize w.alloc (.cells #[.bool nb, .slice p n c] 24) = W0 at hS0 ⊢
  have hf := hS0.out.facts
  have hf1 := hf.1
  have hf2 := hf.2
  go_wp2_with fail
  go_loop [3] (fun i => ∃ k : Nat, k ≤ n ∧ i = .int .i64 k ∧ Hid (∀ j, j < k → 0 ≤ iat l j ∧ iat l j < 1000000000)) (fun i => n - (intOf i).toNat)
  case atStart => exact ⟨0, Nat.zero_le _, rfl, Lib.hid (fun j hj => by omega)⟩
  case round =>
    obtain ⟨k, hk, rfl, hall⟩ := hrel
    by_cases hlt : k < n
    · have hkl : Hid (k < l.length) := Lib.hid (by rw [← hn.out]; exact hlt)
      obtain ⟨b, o, rfl, hc0⟩ := Rdi_at (Rdi_below hS0.out.2 hR.out) k hkl.out
      obtain ⟨d, hd⟩ : ∃ d, iat l k = d := ⟨_, rfl⟩
      rw [hd] at hc0
      have hd' := Lib.hid hd
      clear hd
      by_cases h1 : d < 0
      · have hr : Hid (vld nb l = false) := Lib.hid (vld_no k hkl.out (by rw [hd'.out]; exact .inl h1))
        go_wp2_with fail
        go_ret
        exact ⟨by rw [hr.out]; rfl, hS0.out.2⟩
      · by_cases h2 : d < 1000000000
        · have hall2 : Hid (∀ j, j < k + 1 → 0 ≤ iat l j ∧ iat l j < 1000000000) := Lib.hid (fun j h3 => by
            rcases Nat.lt_or_ge j k with h4 | h4
            · exact hall.out j h4
            · obtain rfl : j = k := by omega
              rw [hd'.out]; omega)
          have h3 : ¬ 1000000000 ≤ d := by omega
          go_wp2_with fail
          exact ⟨⟨k + 1, by omega, by simp, hall2⟩, by simp [intOf]; omega⟩
        · have hr : Hid (vld nb l = false) := Lib.hid (vld_no k hkl.out (by rw [hd'.out]; omega))
          have h3 : 1000000000 ≤ d := by omega
          go_wp2_with fail
          go_ret
          exact ⟨by rw [hr.out]; rfl, hS0.out.2⟩
    · have hk' : k = n := by omega
      subst hk'
      have hr : Hid (vld nb l = if l = [] then !nb else iat l (l.length - 1) != 0) := Lib.hid (vld_yes fun j hj => hall.out j (by rw [hn.out]; exact hj))
      by_cases hz : k = 0
      · subst hz
        have hl : Hid (vld nb l = !nb) := Lib.hid (by rw [hr.out, if_pos (List.eq_nil_of_length_eq_zero hn.out.symm)])
        go_wp2_with fail
        go_ret
        exact ⟨by rw [hl.out]; rfl, hS0.out.2⟩
      · obtain ⟨b, o, rfl, hc0⟩ := Rdi_at (Rdi_below hS0.out.2 hR.out) (k - 1) (by have := hn.out; omega)
        obtain ⟨m, rfl⟩ : ∃ m, k = m + 1 := ⟨k - 1, by omega⟩
        rw [Nat.add_sub_cancel] at hc0
        have hl : Hid (vld nb l = (iat l m != 0)) := Lib.hid (by rw [hr.out, if_neg (fun h => by have := hn.out; rw [h] at this; simp at this), ← hn.out, Nat.add_sub_cancel])
        obtain ⟨d, hd⟩ : ∃ d, iat l m = d := ⟨_, rfl⟩
        rw [hd] at hc0 hl
        have e1 : ((m + 1 : Nat) : Int) - 1 = (m : Int) := by omega
        clear hd hall hr
        go_wp2_with fail
        go_ret
        exact ⟨by rw [hl.out]; rfl, hS0.out.2⟩
end Go.Proofs.YtmbkpcnpacncjaaDoor

namespace Go.Proofs.YtmbkpcnpacncjaaDoor
open Go.RowKit
variable {BT : List (TypeId × Nat × Nat)}

theorem eval_const (a : Act) (v : Value) : a.eval (.const v) = v := rfl
def VTup (A B : VP) : VP := fun v w => ∃ x y, v = .tuple #[x, y] ∧ A x w ∧ B y w
theorem Stab_VTup {A B : VP} (hA : Stab BT A) (hB : Stab BT B) : Stab BT (VTup A B) := fun _ _ _ ⟨x, y, h1, h2, h3⟩ hr => ⟨x, y, h1, hA _ _ _ h2 hr, hB _ _ _ h3 hr⟩
theorem agg_box {m : Nat} {V : VP} (hV : AggV m V) {ρ v : Value} {w : World} (h1 : ρ = v) (h2 : V v w) : ∃ z, ρ = .agg z ∧ z.size = m ∧ NoInt z ∧ V (.agg z) w := by
  obtain ⟨cs, rfl, e1, e2, -⟩ := hV _ _ h2
  exact ⟨cs, h1, e1, e2, h2⟩
theorem agg_store {m : Nat} {V : VP} (hV : AggV m V) {ρ v : Value} {w : World} (h1 : ρ = v) (h2 : V v w) : ∃ z, ρ = .agg z ∧ z.size = m ∧ NoInt z ∧ z.all (·.oneCell') = true ∧ V (.agg z) w := by
  obtain ⟨cs, rfl, e1, e2, e3⟩ := hV _ _ h2
  exact ⟨cs, h1, e1, e2, e3, h2⟩
theorem listed_dep {md : Region.Mode} {listed : Array Bool} {after : Array Edge} (hd : ∀ e ∈ after, Region.binds md e = true → listed.getD e.on false = true) (j : Nat) (hj : after.any (fun e => e.on == j && Region.binds md e) = true) : onb listed (some j) = true := by
  obtain ⟨e, he, hb⟩ : ∃ e, e ∈ after ∧ (e.on == j && Region.binds md e) = true := by
    rw [Array.any_eq_true] at hj
    obtain ⟨i, hi, h1⟩ := hj
    exact ⟨after[i], Array.getElem_mem hi, h1⟩
  simp only [Bool.and_eq_true, beq_iff_eq] at hb
  obtain ⟨rfl, hb⟩ := hb
  exact hd e he hb
theorem run_extract0 {P : Program} {ρ : Operand → Value} {o : Oper} {W : World} {x : Operand} {a b : Value} (ho : o.op = .extract x 0) (hx : ρ x = .tuple #[a, b]) : (execOp ρ o).run P W = .ok (.value a) W := by
  obtain ⟨d, op, ty, ps, af, gd⟩ := o
  subst ho
  go_simp
theorem run_extract1 {P : Program} {ρ : Operand → Value} {o : Oper} {W : World} {x : Operand} {a b : Value} (ho : o.op = .extract x 1) (hx : ρ x = .tuple #[a, b]) : (execOp ρ o).run P W = .ok (.value b) W := by
  obtain ⟨d, op, ty, ps, af, gd⟩ := o
  subst ho
  go_simp
theorem run_neqi {ρ : Operand → Value} {o : Oper} {W : World} {x y : Operand} {a b : Int} (ho : o.op = .binOp .neq 3 x y 3) (hx : ρ x = .int .i64 a) (hy : ρ y = .int .i64 b) : (execOp ρ o).run Tryd.prog W = .ok (.value (.bool (a != b))) W := by
  obtain ⟨d, op, ty, ps, af, gd⟩ := o
  subst ho
  go_simp
theorem run_lssi {ρ : Operand → Value} {o : Oper} {W : World} {x y : Operand} {a b : Int} (ho : o.op = .binOp .lss 3 x y 3) (hx : ρ x = .int .i64 a) (hy : ρ y = .int .i64 b) : (execOp ρ o).run Tryd.prog W = .ok (.value (.bool (decide (a < b)))) W := by
  obtain ⟨d, op, ty, ps, af, gd⟩ := o
  subst ho
  go_simp
theorem run_addi {ρ : Operand → Value} {o : Oper} {W : World} {x y : Operand} {a b c : Int} (ho : o.op = .binOp .add 3 x y 3) (hx : ρ x = .int .i64 a) (hy : ρ y = .int .i64 b) (hc : IntKind.i64.wrap (a + b) = c) : (execOp ρ o).run Tryd.prog W = .ok (.value (.int .i64 c)) W := by
  obtain ⟨d, op, ty, ps, af, gd⟩ := o
  subst ho
  go_simp
theorem alloc_Int (W : World) : (Instr.alloc 24 true (.tuple #[])).run Tryd.prog W = .ok (.pointer (some ⟨W.heap.size, 0, none⟩)) (W.alloc (.cells #[.bool false, .slice none 0 0] 24)) := by go_simp
theorem noint_of {cs : Array Value} (h : cs.all (fun v => match v with | .int .i64 _ => false | _ => true) = true) : NoInt cs := fun i x hx => by
  rw [Array.all_eq_true] at h
  have hi : i < cs.size := by
    rcases Nat.lt_or_ge i cs.size with h' | h'
    · exact h'
    · rw [Array.getElem?_eq_none h'] at hx; cases hx
  have h1 := h i hi
  rw [Array.getElem?_eq_getElem hi] at hx
  have h2 : cs[i] = Value.int .i64 x := by simpa using hx
  rw [h2] at h1
  cases h1
theorem noint_Int : NoInt #[Value.bool false, .slice none 0 0] := noint_of (by simp)
theorem arr2 {x : Array Value} (h : x.size = 2) : ∃ a b, x = #[a, b] := by
  match x, h with
  | ⟨[a, b]⟩, _ => exact ⟨a, b, rfl⟩
/-- digits of which the number is known -/
def VD (N : Nat) (e : Int) : VP := fun v w => ∃ p n c, v = .slice p n c ∧ n = (digs e.natAbs).length ∧ Rdi w p (digs e.natAbs) ∧ n ≤ c ∧ c ≤ 9223372036854775807 ∧ n ≤ N
theorem Stab_VD (N : Nat) (e : Int) : Stab BT (VD N e) := fun _ _ _ ⟨p, n, c, h1, h2, h3, h4⟩ hr => ⟨p, n, c, h1, h2, Rdi_RI hr h3, h4⟩
/-- digits of a value, perhaps with zeros at the end -/
def VO (N : Nat) (e : Int) : VP := fun v w => ∃ p n c l, v = .slice p n c ∧ n = l.length ∧ Rdi w p l ∧ n ≤ c ∧ c ≤ 9223372036854775807 ∧ Dg l ∧ val l = e ∧ n ≤ N
theorem Stab_VO (N : Nat) (e : Int) : Stab BT (VO N e) := fun _ _ _ ⟨p, n, c, l, h1, h2, h3, h4⟩ hr => ⟨p, n, c, l, h1, h2, Rdi_RI hr h3, h4⟩
theorem field_Int0 (g off : Nat) (W : World) : (Instr.fieldAt 24 (.pointer (some ⟨g, off, none⟩)) 0).run Tryd.prog W = .ok (.pointer (some ⟨g, off + 0, none⟩)) W := by go_simp
theorem run_neqb {ρ : Operand → Value} {o : Oper} {W : World} {x y : Operand} {a b : Bool} (ho : o.op = .binOp .neq 4 x y 4) (hx : ρ x = .bool a) (hy : ρ y = .bool b) : (execOp ρ o).run Tryd.prog W = .ok (.value (.bool (a != b))) W := by
  obtain ⟨d, op, ty, ps, af, gd⟩ := o
  subst ho
  cases a <;> cases b <;> go_simp
theorem build_Int0 {ρ : Operand → Value} {o : Oper} {W : World} (ho : o.op = .build 24 #[]) : ∃ v, (execOp ρ o).run Tryd.prog W = .ok (.value v) W ∧ Vz 1 0 v W := by
  refine ⟨.agg #[.bool false, .slice none 0 0], ?_, ⟨_, _, _, _, rfl, IntAt_zero _ _ _ (by omega), by omega⟩⟩
  obtain ⟨dd, op, ty, ps, af, gd⟩ := o
  subst ho
  go_simp
theorem field_Int1 (g off : Nat) (W : World) : (Instr.fieldAt 24 (.pointer (some ⟨g, off, none⟩)) 1).run Tryd.prog W = .ok (.pointer (some ⟨g, off + 1, none⟩)) W := by go_simp
theorem vz_D {N : Nat} {z : Int} {cs : Array Value} {w : World} (h : Vz N z (.agg cs) w) : ∃ v, cs[1]? = some v ∧ VD N z v w := by
  obtain ⟨nb, p, n, c, h1, h2, h3⟩ := h
  cases h1
  exact ⟨_, rfl, p, n, c, rfl, h2.2.1, h2.2.2.1, h2.2.2.2.1, h2.2.2.2.2, h3⟩
theorem vq_D1 {N : Nat} {q : Rat} {cs : Array Value} {w : World} (h : Vq N q (.agg cs) w) : ∃ v, cs[1]? = some v ∧ VD N q.num v w := by
  obtain ⟨x, y, h1, h2, h3, h4, h5⟩ := h
  obtain ⟨nb, p, n, c, e1, e2, e3⟩ := h4
  obtain ⟨nb2, p2, n2, c2, f1, f2, -⟩ := h5
  cases h3
  cases e1
  cases f1
  exact ⟨_, rfl, p, n, c, rfl, e2.2.1, e2.2.2.1, e2.2.2.2.1, e2.2.2.2.2, e3⟩
theorem vq_D3 {N : Nat} {q : Rat} {cs : Array Value} {w : World} (h : Vq N q (.agg cs) w) : ∃ v, cs[3]? = some v ∧ VD N (qd q) v w := by
  obtain ⟨x, y, h1, h2, h3, h4, h5⟩ := h
  obtain ⟨nb, p, n, c, e1, e2, -⟩ := h4
  obtain ⟨nb2, p2, n2, c2, f1, f2, f3⟩ := h5
  cases h3
  cases e1
  cases f1
  exact ⟨_, rfl, p2, n2, c2, rfl, f2.2.1, f2.2.2.1, f2.2.2.2.1, f2.2.2.2.2, f3⟩
theorem cOfV {W : World} {n : Int} {v : Value} (h : Vi n v W) (h1 : -9223372036854775808 ≤ n) (h2 : n ≤ 9223372036854775807) : Calls Tryd.prog 14 #[v] W (RV (Vz 3 n) W) := by
  obtain rfl := h
  exact cOf n h1 h2
theorem vld_int {nb : Bool} {z : Int} (h : nb = decide (z < 0)) : vld nb (digs z.natAbs) = true := by
  unfold vld
  rw [Bool.and_eq_true]
  refine ⟨?_, ?_⟩
  · rw [List.all_eq_true]
    intro d hd
    obtain ⟨k, hk, rfl⟩ := List.getElem_of_mem hd
    have := Dg_digs z.natAbs k hk
    rw [iat_mem hk] at this
    simp [this]
  · by_cases hz : z.natAbs = 0
    · rw [hz, digs_zero, if_pos rfl, h, decide_eq_false (by omega)]; rfl
    · rw [if_neg (fun e => hz (digs_nil.1 e))]
      simpa using digs_top hz
theorem cZValid {W : World} {N : Nat} {z : Int} {v : Value} (h : Vz N z v W) (hN : N ≤ 1000000) : Calls Tryd.prog 10 #[v] W (RV (Vb true) W) := by
  obtain ⟨nb, p, n, c, rfl, hI, hn⟩ := h
  have := Valid_any nb p n c (digs z.natAbs) W hI.2.2.1 hI.2.1 (by omega)
  rw [vld_int hI.1] at this
  exact this.mono fun e w' h => ⟨_, h.1, rfl, h.2⟩
end Go.Proofs.YtmbkpcnpacncjaaDoor
