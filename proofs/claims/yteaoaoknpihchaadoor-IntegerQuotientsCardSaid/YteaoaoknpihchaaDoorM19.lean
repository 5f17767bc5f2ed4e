/- Contracts of the package integer and its reference: integer.step, gcd: what they keep. integer.gcd. integer.Gcd. -/
import Derived.Test.YteaoaoknpihchaaDoorM18
import Derived.Test.YteaoaoknpihchaaDoorM4
import Derived.Test.YteaoaoknpihchaaDoorM5
import Derived.Test.YteaoaoknpihchaaDoorM2
set_option linter.unusedVariables false
namespace Go.Proofs.YteaoaoknpihchaaDoor
open Go.RowKit

/-- what step answers: the divisor, and the rest in new memory -/
def StepP (w : World) (gy ny cy : Nat) (x y : List Int) (e : Ending) (w' : World) : Prop :=
  ∃ h m q r, e = .returned (.tuple #[.slice (some ⟨gy, 0, none⟩) ny cy, .slice (some ⟨h, 0, none⟩) m m]) ∧ w.heap.size ≤ h ∧ Blk w' h r ∧ r.length = m ∧ (m ≤ y.length ∧ (y.length ≤ x.length → m = y.length)) ∧ m ≤ x.length ∧ Below w.heap.size w w' ∧ DivQ x y q r
set_option maxRecDepth 100000 in
set_option maxHeartbeats 800000 in
theorem step_any (a1 : Option Addr) (gy n1 n2 c1 c2 : Nat) (x y : List Int) (w : World) (hR1 : Rdi w a1 x) (hR2 : Rdi w (some ⟨gy, 0, none⟩) y) (hn1 : n1 = x.length) (hn2 : n2 = y.length) (hd1 : Dg x) (hd2 : Dg y) (hm1 : n1 ≤ 549755813887) (hm2 : n2 ≤ 549755813887) (hpos : 0 < n2) (htop : 1 ≤ iat y (n2 - 1)) :
    Calls Tryd.prog 74 #[.slice a1 n1 c1, .slice (some ⟨gy, 0, none⟩) n2 c2] w (StepP w gy n2 c2 x y) := by
  have hd := Lib.hid (divided_any a1 (some ⟨gy, 0, none⟩) n1 n2 c1 c2 x y w hR1 hR2 hn1 hn2 hd1 hd2 hm1 hm2 hpos htop)
  clear hR1 hR2 hn1 hn2 hd1 hd2 htop
  go_enter Tryd.func74, Tryd.ntmps74
  go_wp2_with (go_at_call 49; (with_reducible refine hd.out.mono ?_); rintro e w5 ⟨p1, m1, q, h, m, r, rfl, h1, h2, h3, h4, h5, h6, h7, h8, h9, h10, h11⟩; have hfin := Lib.hid (show StepP w gy n2 c2 x y (.returned (.tuple #[.slice (some ⟨gy, 0, none⟩) n2 c2, .slice (some ⟨h, 0, none⟩) m m])) w5 from ⟨h, m, q, r, rfl, h4, h5, h6, h10, h9, h7, h11⟩); clear h1 h2 h3 h4 h5 h6 h7 h8 h9 h10 h11)
  go_ret2
  exact hfin.out

/-- what gcd keeps: both numbers in rows of its own, the second one not longer than its row -/
structure GcI (w : World) (g : Nat) (gx gy nx cx my cy : Nat) (X Y : List Int) (wr : World) : Prop where
  bx : Blk wr gx X
  by_ : Blk wr gy Y
  ne : gx ≠ gy
  ox : w.heap.size ≤ gx
  oy : w.heap.size ≤ gy
  lx : nx ≤ X.length
  cx' : nx ≤ cx
  ly : my = Y.length
  cy' : my ≤ cy
  bcx : cx ≤ 549755813887
  bcy : cy ≤ 549755813887
  dx : Dg X
  dy : Dg Y
  nm : nx ≤ my
  top : tlen (X.take nx) = nx
  le : val Y ≤ val (X.take nx)
  gcd : Int.gcd (val (X.take nx)) (val Y) = g
  below : Below w.heap.size w wr
theorem take2 {X : List Int} {k : Nat} (h : k + 2 ≤ X.length) : val (X.take (k + 2)) = val (X.take k) + pw k * (iat X (k + 1) * 1000000000 + iat X k) := by
  rw [show k + 2 = (k + 1) + 1 by omega, val_take X (k + 1) (by omega), val_take X k (by omega)]
  show _ + _ + 1000000000 * pw k * _ = _
  grind
section
variable {w wr : World} {g gx gy nx cx my cy k : Nat} {X Y : List Int}
theorem GcI.high (h : GcI w g gx gy nx cx my cy X Y wr) : val Y = val (Y.take nx) ∧ val (Y.drop nx) = 0 := by
  have hl := h.ly
  have hn := h.nm
  have hx := (h.dx.take nx).hi
  rw [List.length_take, Nat.min_eq_left h.lx] at hx
  have hs := val_split Y nx (by omega)
  have h1 := (h.dy.take nx).lo
  have h2 := (h.dy.drop nx).lo
  have hp := pw_pos nx
  have hle := h.le
  have h3 : val (Y.drop nx) = 0 := by
    rcases Int.lt_or_le 0 (val (Y.drop nx)) with h4 | h4
    · have : pw nx * 1 ≤ pw nx * val (Y.drop nx) := Int.mul_le_mul_of_nonneg_left (by omega) (by omega)
      omega
    · omega
  rw [h3] at hs
  exact ⟨by omega, h3⟩
theorem GcI.rows (h : GcI w g gx gy nx cx my cy X Y wr) (hk : nx = k + 2) : LhR (pw k) (val (X.take nx)) (val Y) (iat X (k + 1) * 1000000000 + iat X k) (iat Y (k + 1) * 1000000000 + iat Y k) (val (X.take k)) (val (Y.take k)) 1 0 0 1 (iat X (k + 1) * 1000000000 + iat X k) (iat Y (k + 1) * 1000000000 + iat Y k) false := by
  have hlx := h.lx
  have hnm := h.nm
  have hly := h.ly
  have hh := h.high
  subst hk
  have ex := take2 hlx
  have ey := take2 (X := Y) (k := k) (by omega)
  have x1 := (h.dx.take k).lo
  have x2 := (h.dx.take k).hi
  have y1 := (h.dy.take k).lo
  have y2 := (h.dy.take k).hi
  rw [List.length_take, Nat.min_eq_left (by omega)] at x2 y2
  have hle := h.le
  have d1 := h.dx.all k
  have d2 := h.dx.all (k + 1)
  have d3 := h.dy.all k
  have d4 := h.dy.all (k + 1)
  have hp := pw_pos k
  rw [← hh.1] at ey
  refine ⟨1, 1, 0, 0, 1, rfl, rfl, rfl, rfl, ?_⟩
  refine Lh.init hp (by rw [ex]; grind) (by rw [ey]; grind) x1 (by omega) y1 (by omega) (by omega) (by omega) ?_ hle
  rw [ex, ey] at hle
  generalize iat X (k + 1) * 1000000000 + iat X k = a at *
  generalize iat Y (k + 1) * 1000000000 + iat Y k = b at *
  rcases Int.lt_or_le a b with h1 | h1
  · exfalso
    have : pw k * (a + 1) ≤ pw k * b := Int.mul_le_mul_of_nonneg_left (by omega) (by omega)
    have e : pw k * (a + 1) = pw k * a + pw k := by grind
    omega
  · exact h1
theorem drop_eq_of {a b : List Int} {n : Nat} (hl : a.length = b.length) (h : ∀ j, n ≤ j → iat a j = iat b j) : a.drop n = b.drop n := by
  apply List.ext_getElem?
  intro i
  rw [List.getElem?_drop, List.getElem?_drop]
  have hi := h (n + i) (by omega)
  rcases Nat.lt_or_ge (n + i) a.length with h1 | h1
  · have h2 : n + i < b.length := by omega
    simp [iat, List.getD_eq_getElem?_getD, h1, h2] at hi
    simp [h1, h2, hi]
  · rw [List.getElem?_eq_none h1, List.getElem?_eq_none (by omega)]
theorem dg_of_rest {a b : List Int} {n : Nat} (h : Dg (a.take n)) (hb : Dg b) (hr : ∀ j, n ≤ j → iat a j = iat b j) : Dg a := fun i hi => by
  rcases Nat.lt_or_ge i n with h1 | h1
  · have := h.all i
    rw [iat_take, if_pos h1] at this
    exact this
  · rw [hr i h1]; exact hb.all i
theorem take_tlen_take {l : List Int} (n : Nat) : (l.take n).take (tlen (l.take n)) = l.take (tlen (l.take n)) := by
  rw [List.take_take, Nat.min_eq_left]
  have := tlen_le (l.take n)
  rw [List.length_take] at this
  omega
/-- the digits that are left are the whole number, without zeros at the end -/
theorem trim_take {l : List Int} (h : Dg l) : val (l.take (tlen l)) = val l ∧ tlen (l.take (tlen l)) = tlen l := by
  have e := take_tlen h
  have hv := h.lo
  refine ⟨by rw [e, val_digs]; omega, ?_⟩
  rw [e, tlen_digs, ← e, List.length_take, Nat.min_eq_left (tlen_le l)]
/-- several steps at once -/
theorem GcI.many (h : GcI w g gx gy nx cx my cy X Y wr) {P a0 b0 xl yl u0 u1 l0 l1 a b : Int} {ov un : Int} {zx zy : List Int} {w' : World}
    (hR : LhR P (val (X.take nx)) (val Y) a0 b0 xl yl u0 u1 l0 l1 a b true) (hA : ApA X X Y u0 u1 nx ov zx) (hB : ApA Y X Y l0 l1 nx un zy) (hx : Blk w' gx zx) (hy : Blk w' gy zy) (hb : Below w.heap.size w w') :
    GcI w g gx gy (tlen (zx.take nx)) cx my cy zx zy w' ∧ (val (zx.take (tlen (zx.take nx))) + val zy).toNat < (val (X.take nx) + val Y).toNat := by
  have hh := h.high
  have hlx := h.lx
  have hX := (h.dx.take nx).hi
  rw [List.length_take, Nat.min_eq_left hlx] at hX
  have hX0 := (h.dx.take nx).lo
  have hY0 := h.dy.lo
  obtain ⟨s, U0, U1, L0, L1, rfl, rfl, rfl, rfl, hL⟩ := hR
  have hlow := hL.lowNonneg
  have hord := hL.ord
  have htop := hL.top
  have hdec := hL.dec rfl
  have hgcd := hL.gcd
  have e1 : s * U0 * val (X.take nx) + -(s * U1) * val (Y.take nx) = s * U0 * val (X.take nx) - s * U1 * val Y := by rw [← hh.1]; grind
  have e2 : -(s * L0) * val (X.take nx) + s * L1 * val (Y.take nx) = s * L1 * val Y - s * L0 * val (X.take nx) := by rw [← hh.1]; grind
  have v1 := hA.done hlx (by rw [e1]; omega) (by rw [e1]; omega)
  have v2 := hB.done (by rw [← h.ly]; exact h.nm) (by rw [e2]; omega) (by rw [e2]; omega)
  rw [e1] at v1
  rw [e2] at v2
  have hdzx := dg_of_rest hA.dg h.dx hA.rest
  have hdzy := dg_of_rest hB.dg h.dy hB.rest
  have v3 : val zy = val (zy.take nx) := by
    have := val_split zy nx (by rw [hB.len, ← h.ly]; exact h.nm)
    rw [drop_eq_of hB.len hB.rest, hh.2] at this
    omega
  have ht := trim_take (hdzx.take nx)
  rw [take_tlen_take] at ht
  have hle := tlen_le (zx.take nx)
  rw [List.length_take] at hle
  refine ⟨?_, by rw [ht.1, v1, v3, v2]; omega⟩
  refine { bx := hx, by_ := hy, ne := h.ne, ox := h.ox, oy := h.oy, lx := by omega, cx' := by have := h.cx'; omega, ly := by rw [hB.len]; exact h.ly, cy' := h.cy', bcx := h.bcx, bcy := h.bcy, dx := hdzx, dy := hdzy, nm := by have := h.nm; omega, top := ht.2, le := by rw [ht.1, v1, v3, v2]; exact hord, gcd := by rw [ht.1, v1, v3, v2, hgcd]; exact h.gcd, below := hb }
/-- one step -/
theorem GcI.one (h : GcI w g gx gy nx cx my cy X Y wr) {h' m : Nat} {q r : List Int} {w' : World} (hq : DivQ (X.take nx) (Y.take (tlen Y)) q r) (hr : Blk w' h' r) (hrl : r.length = m) (hml : m ≤ tlen Y ∧ (tlen Y ≤ nx → m = tlen Y)) (hh : wr.heap.size ≤ h') (hb : Below wr.heap.size wr w') :
    GcI w g gy h' (tlen Y) cy m m Y r w' ∧ (val (Y.take (tlen Y)) + val r).toNat < (val (X.take nx) + val Y).toNat := by
  have ht := trim_take h.dy
  have hlen := tlen_le Y
  have hly := h.ly
  have hX0 := (h.dx.take nx).lo
  have hY0 := h.dy.lo
  obtain ⟨hq1, hq2, hq3, hq4⟩ := hq
  rw [ht.1] at hq3 hq4
  have hr0 := hq2.lo
  have hle := h.le
  have hQ0 := hq1.lo
  -- the divisor has no more digits than the dividend
  have hlt : tlen Y ≤ nx := by
    have e1 := digs_val (h.dx.take nx) (by rw [h.top, List.length_take, Nat.min_eq_left h.lx])
    have e2 := take_tlen h.dy
    have h1 := digs_len_mono (a := (val Y).toNat) (b := (val (X.take nx)).toNat) (by omega)
    rw [e1, ← e2, List.length_take, List.length_take, Nat.min_eq_left hlen, Nat.min_eq_left h.lx] at h1
    exact h1
  have hm := hml.2 hlt
  have hsz := h.by_.lt
  refine ⟨?_, ?_⟩
  · refine { bx := h.by_.later hb, by_ := hr, ne := by omega, ox := h.oy, oy := by have := h.below.size; omega, lx := hlen, cx' := by have := h.cy'; omega, ly := hrl.symm, cy' := Nat.le_refl _, bcx := h.bcy, bcy := by have := h.cy'; have := h.bcy; omega, dx := h.dy, dy := hq2, nm := by omega, top := ht.2, le := by rw [ht.1]; omega, gcd := ?_, below := below_tr h.below hb }
    rw [ht.1, ← h.gcd]
    generalize val (X.take nx) = x at *
    generalize val Y = y at *
    generalize val q = Q at *
    generalize val r = R at *
    have : x = y * Q + R := by grind
    rw [this, Int.gcd_comm, Int.gcd_comm (y * Q + R), Int.gcd_mul_left_add_right, Int.gcd_comm]
  · rw [ht.1]
    have hYp : 0 < val Y := by omega
    have : val r < val Y := hq4
    generalize val (X.take nx) = x at *
    generalize val Y = y at *
    generalize val q = Q at *
    generalize val r = R at *
    omega
end
/-- what gcd answers -/
def GcP (w : World) (g : Nat) (e : Ending) (w' : World) : Prop :=
  ∃ p n c l, e = .returned (.slice p n c) ∧ Rdi w' p l ∧ n = l.length ∧ n ≤ c ∧ c ≤ 9223372036854775807 ∧ Dg l ∧ val l = g ∧ Below w.heap.size w w' ∧ ∀ q, p = some q → w.heap.size ≤ q.block
theorem GcI.stop {w wr : World} {g gx gy nx cx my cy : Nat} {X Y : List Int} (h : GcI w g gx gy nx cx my cy X Y wr) (hz : val Y = 0) : GcP w g (.returned (.slice (some ⟨gx, 0, none⟩) nx cx)) wr := by
  have hX0 := (h.dx.take nx).lo
  refine ⟨_, _, _, X.take nx, rfl, Rdi_blk_take h.bx nx, by rw [List.length_take, Nat.min_eq_left h.lx], h.cx', by have := h.bcx; omega, h.dx.take nx, ?_, h.below, fun q hq => by cases hq; exact h.ox⟩
  have := h.gcd
  rw [hz, Int.gcd_zero] at this
  omega
end Go.Proofs.YteaoaoknpihchaaDoor

namespace Go.Proofs.YteaoaoknpihchaaDoor
open Go.RowKit

/-- the numbers of gcd, in slots 0 and 1 -/
def GcX (w : World) (g k : Nat) (s0 s1 : Value) (wr : World) : Prop :=
  ∃ gx gy nx cx my cy X Y, s0 = .slice (some ⟨gx, 0, none⟩) nx cx ∧ s1 = .slice (some ⟨gy, 0, none⟩) my cy ∧ GcI w g gx gy nx cx my cy X Y wr ∧ k = (val (X.take nx) + val Y).toNat
theorem gc_start {w w1 w2 : World} {x y gx gy n1 : Nat} {z1 z2 : List Int} (hxy : y ≤ x) (h1 : w.heap.size ≤ gx) (hB1 : Blk w1 gx z1) (hb1 : Below w.heap.size w w1) (hz1 : z1 = cpy (digs x) n1) (hn : n1 = (digs x).length) (hm : n1 ≤ 549755813887)
    (h2 : w1.heap.size ≤ gy) (hB2 : Blk w2 gy z2) (hb2 : Below w1.heap.size w1 w2) (hz2 : z2 = cpy (digs y) n1) :
    GcX w (Nat.gcd x y) (x + y) (.slice (some ⟨gx, 0, none⟩) n1 n1) (.slice (some ⟨gy, 0, none⟩) n1 n1) w2 := by
  have hl := digs_len_mono hxy
  have e1 : z1 = digs x := by rw [hz1, hn, cpy_self]
  have hlt := hB1.lt
  have hv2 : val z2 = y := by rw [hz2, val_cpy _ _ (by omega), val_digs]
  have ht : z1.take n1 = digs x := by rw [e1, hn, List.take_length]
  refine ⟨gx, gy, n1, n1, n1, n1, z1, z2, rfl, rfl, ?_, by rw [ht, val_digs, hv2]; omega⟩
  refine { bx := hB1.later hb2, by_ := hB2, ne := by omega, ox := h1, oy := by have := hb1.size; omega, lx := by rw [e1, ← hn]; exact Nat.le_refl _, cx' := Nat.le_refl _, ly := by rw [hz2, cpy_length], cy' := Nat.le_refl _, bcx := hm, bcy := hm, dx := by rw [e1]; exact Dg_digs _, dy := ?_, nm := Nat.le_refl _, top := by rw [ht, tlen_digs, ← hn], le := by rw [ht, val_digs, hv2]; omega, gcd := by rw [ht, val_digs, hv2]; exact Int.gcd_natCast_natCast x y, below := below_tr hb1 hb2 }
  rw [hz2]
  exact Dg_append ((Dg_digs _).take _) (Dg_zeros _)

/-- the end of gcd: both numbers are below 2^64 -/
def GcU (w : World) (g : Nat) (s7 s8 : Value) (wr : World) : Prop :=
  ∃ A B : Nat, s7 = .int .u64 (A : Int) ∧ s8 = .int .u64 (B : Int) ∧ A < 18446744073709551616 ∧ B < 18446744073709551616 ∧ Nat.gcd A B = g ∧ Below w.heap.size w wr
theorem GcI.small {w wr : World} {g gx gy nx cx my cy : Nat} {X Y : List Int} (h : GcI w g gx gy nx cx my cy X Y wr) (h2 : nx ≤ 2) : GcU w g (.int .u64 (NumI (X.take nx) 0)) (.int .u64 (NumI Y 0)) wr := by
  have hX0 := (h.dx.take nx).lo
  have hX := (h.dx.take nx).hi
  rw [List.length_take, Nat.min_eq_left h.lx] at hX
  have hp := pw_mono h2
  have h2' : pw 2 = 1000000000000000000 := by decide
  have hY0 := h.dy.lo
  have hle := h.le
  have hg := h.gcd
  have e1 : NumI (X.take nx) 0 = val (X.take nx) := by unfold NumI; rw [List.drop_zero]; omega
  have e2 : NumI Y 0 = val Y := by unfold NumI; rw [List.drop_zero]; omega
  rw [e1, e2]
  generalize val (X.take nx) = x at *
  generalize val Y = y at *
  obtain ⟨A, rfl⟩ : ∃ A : Nat, x = A := ⟨x.toNat, by omega⟩
  obtain ⟨B, rfl⟩ : ∃ B : Nat, y = B := ⟨y.toNat, by omega⟩
  exact ⟨A, B, rfl, rfl, by omega, by omega, by rw [← hg]; exact (Int.gcd_natCast_natCast A B).symm, h.below⟩

theorem GcI.later {w wr w' : World} {g gx gy nx cx my cy : Nat} {X Y : List Int} (h : GcI w g gx gy nx cx my cy X Y wr) (hb : Below wr.heap.size wr w') : GcI w g gx gy nx cx my cy X Y w' :=
  { bx := h.bx.later hb, by_ := h.by_.later hb, ne := h.ne, ox := h.ox, oy := h.oy, lx := h.lx, cx' := h.cx', ly := h.ly, cy' := h.cy', bcx := h.bcx, bcy := h.bcy, dx := h.dx, dy := h.dy, nm := h.nm, top := h.top, le := h.le, gcd := h.gcd, below := below_tr h.below hb }
theorem GcI.topY {w wr : World} {g gx gy nx cx my cy : Nat} {X Y : List Int} (h : GcI w g gx gy nx cx my cy X Y wr) (hz : tlen Y ≠ 0) : 1 ≤ iat (Y.take (tlen Y)) (tlen Y - 1) := by
  have e := take_tlen h.dy
  have hv := h.dy.lo
  have hn : (val Y).toNat ≠ 0 := fun h0 => by
    rw [h0, digs_zero] at e
    have := congrArg List.length e
    rw [List.length_take, List.length_nil] at this
    have := tlen_le Y
    omega
  have h1 := digs_top hn
  rw [← e, List.length_take, Nat.min_eq_left (tlen_le Y)] at h1
  have h2 := ((h.dy.take (tlen Y)).all (tlen Y - 1)).1
  omega

set_option maxRecDepth 100000 in
set_option maxHeartbeats 3200000 in
theorem gcd_any (a1 a2 : Option Addr) (n1 n2 c1 c2 : Nat) (x y : Nat) (w : World) (hR1 : Rdi w a1 (digs x)) (hR2 : Rdi w a2 (digs y)) (hn1 : n1 = (digs x).length) (hn2 : n2 = (digs y).length) (hm : n1 ≤ 549755813887) (hxy : y ≤ x) :
    Calls Tryd.prog 55 #[.slice a1 n1 c1, .slice a2 n2 c2] w (GcP w (Nat.gcd x y)) := by
  have hc1 : Hid (Calls Tryd.prog 58 #[.slice a1 n1 c1, .int .i64 (n1 : Int)] w (NewN w n1 fun z => z = cpy (digs x) n1)) := Lib.hid (copied_any a1 n1 c1 (digs x) n1 w hR1 hn1 (by omega))
  have hc2 : Hid (∀ W, Below w.heap.size w W → Calls Tryd.prog 58 #[.slice a2 n2 c2, .int .i64 (n1 : Int)] W (NewN W n1 fun z => z = cpy (digs y) n1)) := Lib.hid fun W hb => copied_any a2 n2 c2 (digs y) n1 W (Rdi_below hb hR2) hn2 (by omega)
  have hst := Lib.hid (fun w1 w2 gx gy z1 z2 => @gc_start w w1 w2 x y gx gy n1 z1 z2 hxy)
  have hn1' := Lib.hid hn1
  obtain ⟨g, hg0⟩ : ∃ g, Nat.gcd x y = g := ⟨_, rfl⟩
  rw [hg0] at hst ⊢
  clear hR1 hR2 hn1 hn2 hg0
  go_enter Tryd.func55, Tryd.ntmps55
  go_upto_region 2 with (first
    | (go_at_call 58; (with_reducible refine hc1.out.mono ?_); rintro e w1 ⟨gx, z1, rfl, hg1, hB1, hb1, hl1, hz1⟩; have hgx := Lib.hid hg1; have hBx := Lib.hid hB1; have hbx := Lib.hid hb1; have hzx := Lib.hid hz1; clear hB1 hb1 hl1 hz1)
    | (go_at_call 58; (with_reducible refine (hc2.out _ hbx.out).mono ?_); rintro e w2 ⟨gy, z2, rfl, hg2, hB2, hb2, hl2, hz2⟩; have hgy := Lib.hid hg2; have hBy := Lib.hid hB2; have hby := Lib.hid hb2; have hzy := Lib.hid hz2; clear hB2 hb2 hl2 hz2))
  have hI : Hid (GcX w g (x + y) (.slice (some ⟨gx, 0, none⟩) n1 n1) (.slice (some ⟨gy, 0, none⟩) n1 n1) w2) := Lib.hid (hst.out _ _ _ _ _ _ hgx.out hBx.out hbx.out hzx.out hn1'.out hm hgy.out hBy.out hby.out hzy.out)
  clear hst hc1 hc2 hgx hBx hbx hzx hgy hBy hby hzy hg1 hg2 hn1'
  go_loopg [0, 1] (x + y) (fun k s0 s1 wr => GcX w g k s0 s1 wr)
  case atStart => exact hI.out
  case round =>
    clear hI
    obtain ⟨gx, gy, nx, cx, my, cy, X, Y, rfl, rfl, hG0, rfl⟩ := hrel
    have hG := Lib.hid hG0
    have hnx := hG0.lx
    have hcx := hG0.cx'
    have hnm := hG0.nm
    have hcy := hG0.cy'
    have hbcx := hG0.bcx
    have hbcy := hG0.bcy
    clear hG0
    by_cases h2 : 2 < nx
    · obtain ⟨k, rfl⟩ : ∃ k, nx = k + 2 := ⟨nx - 2, by omega⟩
      have hsp : Hid (Calls Tryd.prog 72 #[.slice (some ⟨gx, 0, none⟩) (k + 2) cx, .slice (some ⟨gy, 0, none⟩) my cy] wr (StP wr (pw k) (val (X.take (k + 2))) (val Y) (iat X (k + 1) * 1000000000 + iat X k) (iat Y (k + 1) * 1000000000 + iat Y k) (val (X.take k)) (val (Y.take k)))) := Lib.hid (by
        refine steps_any _ _ _ _ _ _ (X.take (k + 2)) Y wr (Rdi_blk_take hG.out.bx _) hG.out.by_.rdi (by rw [List.length_take]; omega) hG.out.ly.symm hnm (by omega) (hG.out.dx.take _) hG.out.dy _ _ _ _ _ ?_ rfl (hG.out.rows rfl)
        rw [iat_take, iat_take, if_pos (by omega), if_pos (by omega)])
      have hA0 : Hid (iat X (k + 1) * 1000000000 + iat X k < 1000000000000000000) := Lib.hid (by have h3 := hG.out.dx.all (k + 1); have h4 := hG.out.dx.all k; omega)
      generalize iat X (k + 1) * 1000000000 + iat X k = a0 at hsp hA0
      generalize iat Y (k + 1) * 1000000000 + iat Y k = b0 at hsp
      generalize pw k = P at hsp
      generalize val (X.take k) = xl at hsp
      generalize val (Y.take k) = yl at hsp
      have hk0 : (0 : Int) < (k : Int) := by omega
      go_upto_region 5 with (go_at_call 72; (with_reducible refine hsp.out.mono ?_); rintro e w1 ⟨u0, u1, l0, l1, a, b, fd, rfl, hR, hb1⟩; have hR' := Lib.hid hR; have hb1' := Lib.hid hb1; clear hR hb1)
      have hG1 := Lib.hid ((hG.out.later hb1'.out).later (below_new w1 (.cells #[.int .i64 u0, .int .i64 u1, .int .i64 l0, .int .i64 l1] 82)))
      have hbx : (w1.alloc (.cells #[.int .i64 u0, .int .i64 u1, .int .i64 l0, .int .i64 l1] 82)).heap[w1.heap.size]? = some (.cells #[.int .i64 u0, .int .i64 u1, .int .i64 l0, .int .i64 l1] 82 (0, 0)) := heap_alloc_new w1 _
      generalize w1.alloc (.cells #[.int .i64 u0, .int .i64 u1, .int .i64 l0, .int .i64 l1] 82) = W1 at hG1 hbx ⊢
      generalize w1.heap.size = gb at hbx ⊢
      have c0 : W1.cell? ⟨gb, 0, none⟩ = some (.int .i64 u0) := by simp [World.cell?, hbx]
      have c1 : W1.cell? ⟨gb, 1, none⟩ = some (.int .i64 u1) := by simp [World.cell?, hbx]
      have c2 : W1.cell? ⟨gb, 2, none⟩ = some (.int .i64 l0) := by simp [World.cell?, hbx]
      have c3 : W1.cell? ⟨gb, 3, none⟩ = some (.int .i64 l1) := by simp [World.cell?, hbx]
      clear hsp hG hb1' hbx
      cases fd with
      | true =>
        have hap : Hid (Calls Tryd.prog 73 #[.agg #[.int .i64 u0, .int .i64 u1, .int .i64 l0, .int .i64 l1], .slice (some ⟨gx, 0, none⟩) (k + 2) cx, .slice (some ⟨gy, 0, none⟩) my cy] W1 (ApP W1 gx gy X Y u0 u1 l0 l1 (k + 2))) := Lib.hid (by
          obtain ⟨-, -, -, -, d4, d5, d6, d7, d8, d9, d10, d11, -⟩ := hR'.out.bd hA0.out
          exact apply_any gx gy (k + 2) my cx cy X Y u0 u1 l0 l1 W1 hG1.out.bx hG1.out.by_ hG1.out.ne hG1.out.lx (by rw [← hG1.out.ly]; exact hnm) hnm (by omega) hG1.out.dx hG1.out.dy d4 d5 d6 d7 d8 d9 d10 d11)
        go_wp2_with (first
          | (go_at_call 73; (with_reducible refine hap.out.mono ?_); rintro e w3 ⟨ov, un, zx, zy, rfl, hA, hB, hx, hy, hO⟩; have hmany := Lib.hid (hG1.out.many hR'.out hA hB hx hy (hO.below hG1.out.below hG1.out.ox hG1.out.oy hG1.out.below.size)); have htr := Lib.hid (trimmed_any (some ⟨gx, 0, none⟩) (k + 2) cx (zx.take (k + 2)) w3 (Rdi_blk_take hx _) (by rw [List.length_take, hA.len]; omega) hcx (by omega)); clear hA hB hx hy hO)
          | (go_at_call 50; (with_reducible refine htr.out.mono ?_); rintro e w4 ⟨rfl, rfl⟩))
        go_roundg ((val (zx.take (tlen (zx.take (k + 2)))) + val zy).toNat)
        case measure => exact hmany.out.2
        case rel => exact ⟨_, _, _, _, _, _, zx, zy, rfl, rfl, hmany.out.1, rfl⟩
      | false =>
        have htr := Lib.hid (trimmed_any (some ⟨gy, 0, none⟩) my cy Y W1 hG1.out.by_.rdi hG1.out.ly hcy (by omega))
        have hstop := Lib.hid (fun h => hG1.out.stop h)
        have hv0 := Lib.hid (trim_take hG1.out.dy)
        by_cases hz : tlen Y = 0
        · have hfin : Hid (GcP w g (.returned (.slice (some ⟨gx, 0, none⟩) (k + 2) cx)) W1) := Lib.hid (hstop.out (by have h1 := hv0.out.1; rw [hz, List.take_zero] at h1; exact h1.symm))
          rw [hz] at htr
          clear hv0 hstop hz
          go_wp2_with (go_at_call 50; (with_reducible refine htr.out.mono ?_); rintro e w4 ⟨rfl, rfl⟩)
          go_ret
          exact hfin.out
        · have hstp : Hid (Calls Tryd.prog 74 #[.slice (some ⟨gx, 0, none⟩) (k + 2) cx, .slice (some ⟨gy, 0, none⟩) (tlen Y) cy] W1 (StepP W1 gy (tlen Y) cy (X.take (k + 2)) (Y.take (tlen Y)))) := Lib.hid (by
            have h1 := tlen_le Y
            have h2 := hG1.out.ly
            exact step_any _ _ _ _ _ _ _ _ _ (Rdi_blk_take hG1.out.bx _) (Rdi_blk_take hG1.out.by_ _) (by rw [List.length_take]; omega) (by rw [List.length_take]; omega) (hG1.out.dx.take _) (hG1.out.dy.take _) (by omega) (by omega) (by omega) (hG1.out.topY hz))
          have hone := Lib.hid (fun h' m q r w' h1 h2 h3 h4 h5 h6 => @GcI.one w W1 g gx gy (k + 2) cx my cy X Y hG1.out h' m q r w' h1 h2 h3 h4 h5 h6)
          have htl : Hid ((Y.take (tlen Y)).length = tlen Y ∧ (X.take (k + 2)).length = k + 2) := Lib.hid ⟨by rw [List.length_take]; have := tlen_le Y; omega, by rw [List.length_take]; omega⟩
          have htt : Hid (tlen (Y.take (tlen Y)) = tlen Y) := Lib.hid hv0.out.2
          have hDY := Lib.hid hG1.out.dy
          have htc : Hid (tlen Y ≤ cy) := Lib.hid (by have h1 := tlen_le Y; have h2 := hG1.out.ly; omega)
          obtain ⟨t, ht⟩ : ∃ t, tlen Y = t := ⟨_, rfl⟩
          rw [ht] at htr hstp hone htl htt hv0 htc hz
          have ht' := Lib.hid ht
          have t0 : ((t : Int) == 0) = false := by simp; omega
          clear hstop ht
          go_wp2_with (first
            | (go_at_call 74; (with_reducible refine hstp.out.mono ?_); rintro e w3 ⟨h', m, q, r, rfl, hh, hr, hrl, hml, hmx, hb, hq⟩; have hnew := Lib.hid (hone.out h' m q r w3 hq hr hrl (by rw [← ht'.out] at hml ⊢; have e1 := htl.out.1; have e2 := htl.out.2; rw [← ht'.out] at e1; rw [e1, e2] at hml; exact hml) hh hb); have htr2 := Lib.hid (trimmed_any (some ⟨gy, 0, none⟩) t cy (Y.take t) w3 (Rdi_blk_take (hG1.out.by_.later hb) _) htl.out.1.symm htc.out (by have := htc.out; omega)); rw [htt.out] at htr2; clear hh hr hrl hml hmx hb hq)
            | (go_at_call 50; (with_reducible refine htr2.out.mono ?_); rintro e w4 ⟨rfl, rfl⟩)
            | (go_at_call 50; (with_reducible refine htr.out.mono ?_); rintro e w4 ⟨rfl, rfl⟩))
          go_roundg ((val (Y.take t) + val r).toNat)
          case measure => exact hnew.out.2
          case rel => exact ⟨_, _, _, _, _, _, Y, r, rfl, rfl, hnew.out.1, rfl⟩
    · have hnum1 : Hid (∀ W, wr = W → Calls Tryd.prog 39 #[.slice (some ⟨gx, 0, none⟩) nx cx] W fun e w' => e = .returned (.int .u64 (NumI (X.take nx) 0)) ∧ W = w') := Lib.hid (by rintro W rfl; exact number_any _ _ _ _ wr (Rdi_blk_take hG.out.bx _) (by rw [List.length_take]; omega) (hG.out.dx.take _) (by omega))
      have hnum2 : Hid (∀ W, wr = W → Calls Tryd.prog 39 #[.slice (some ⟨gy, 0, none⟩) my cy] W fun e w' => e = .returned (.int .u64 (NumI Y 0)) ∧ W = w') := Lib.hid (by rintro W rfl; exact number_any _ _ _ _ wr hG.out.by_.rdi hG.out.ly hG.out.dy (by omega))
      have hU := Lib.hid (hG.out.small (by omega))
      have hn2 : ¬ (2 : Int) < (nx : Int) := by omega
      generalize NumI (X.take nx) 0 = A0 at hnum1 hU
      generalize NumI Y 0 = B0 at hnum2 hU
      clear hG h2
      go_upto_region 11 with (first
        | (go_at_call 39; (with_reducible refine (hnum1.out _ rfl).mono ?_); rintro e w4 ⟨rfl, rfl⟩)
        | (go_at_call 39; (with_reducible refine (hnum2.out _ rfl).mono ?_); rintro e w4 ⟨rfl, rfl⟩))
      clear hnum1 hnum2
      obtain ⟨A, B, rfl, rfl, hA, hB, hg, hb⟩ : ∃ A B : Nat, A0 = (A : Int) ∧ B0 = (B : Int) ∧ A < 18446744073709551616 ∧ B < 18446744073709551616 ∧ Nat.gcd A B = g ∧ Below w.heap.size w wr := by
        obtain ⟨A, B, h1, h2, h3⟩ := hU.out
        cases h1
        cases h2
        exact ⟨A, B, rfl, rfl, h3⟩
      have hI : Hid (GcU w g (.int .u64 (A : Int)) (.int .u64 (B : Int)) wr) := Lib.hid ⟨A, B, rfl, rfl, hA, hB, hg, hb⟩
      clear hU hA hB hg hb
      go_loopw [7, 8] (fun s7 s8 wr => GcU w g s7 s8 wr) (fun _ s8 _ => (intOf s8).toNat)
      case atStart => exact hI.out
      case round =>
        clear hI
        obtain ⟨A, B, rfl, rfl, hA, hB, hg, hb⟩ := hrel
        by_cases hB0 : B = 0
        · subst hB0
          have hAg : A = g := by rw [← hg, Nat.gcd_zero_right]
          subst hAg
          have hdo := Lib.hid (fun W => digitsOf_any A hA W)
          have hb' := Lib.hid hb
          clear hg hb
          rw [show ((0 : Nat) : Int) = 0 from rfl]
          go_wp2_with (go_at_call 42; (with_reducible refine (hdo.out _).mono ?_); rintro e w5 ⟨g5, n5, l5, rfl, hg5, hb5, hB5, hl5, hv5⟩; have hfin : Hid (GcP w A (.returned (.slice (some ⟨g5, 0, none⟩) n5 n5)) w5) := Lib.hid (by
            have h3 : (digs A).length ≤ 3 := digs_len_le (by rw [show pw 3 = 1000000000000000000000000000 by decide]; omega)
            exact ⟨_, _, _, l5, rfl, hb5.rdi, hl5.symm, Nat.le_refl _, by rw [← hl5, hv5]; omega, by rw [hv5]; exact Dg_digs _, by rw [hv5]; exact val_digs _, below_tr hb'.out hB5, fun q hq => by cases hq; exact Nat.le_trans hb'.out.size hg5⟩); clear hb5 hB5 hl5 hv5)
          go_ret
          exact hfin.out
        · obtain ⟨C, hC⟩ : ∃ C, A % B = C := ⟨_, rfl⟩
          have hCB : C < B := by rw [← hC]; exact Nat.mod_lt _ (by omega)
          have e1 : ((A : Int)).tmod (B : Int) = (C : Int) := by rw [Int.tmod_eq_emod_of_nonneg (by omega), ← hC]; exact (Int.natCast_emod A B).symm
          have hnew : Hid (GcU w g (.int .u64 (B : Int)) (.int .u64 (C : Int)) wr) := Lib.hid ⟨B, C, rfl, rfl, hB, by omega, by rw [← hg, ← hC, Nat.gcd_comm B, ← Nat.gcd_rec, Nat.gcd_comm], hb⟩
          have b0 : (0 : Int) < (B : Int) := by omega
          have b1 : ¬ (B : Int) = 0 := by omega
          have bz : ((B : Int) == 0) = false := by simp; omega
          have hms := Lib.hid hCB
          clear hC hCB hg hb hB0 hA hB
          go_wp2_with fail
          go_region
          go_wp2_with fail
          obtain ⟨A', B', h1, h2, h3, h4, h5, h6⟩ := hnew.out
          exact ⟨⟨A', B', h1, h2, h3, h4, h5, below_drewN h6 1⟩, by simp only [intOf]; have := hms.out; omega⟩
end Go.Proofs.YteaoaoknpihchaaDoor

namespace Go.Proofs.YteaoaoknpihchaaDoor
open Go.RowKit

set_option maxRecDepth 100000 in
set_option maxHeartbeats 1600000 in
theorem Gcd_less (nx ny : Bool) (px py : Option Addr) (lx cx ly cy : Nat) (x y : Int) (w : World) (hx0 : IntAt w nx px lx cx x) (hy0 : IntAt w ny py ly cy y) (hlx : lx ≤ 549755813887) (hly : ly ≤ 549755813887) (hxy : x.natAbs < y.natAbs) :
    Calls Tryd.prog 23 #[.agg #[.bool nx, .slice px lx cx], .agg #[.bool ny, .slice py ly cy]] w (RetI w (Int.gcd x y)) := by
  have hcm : Hid (∀ W, Below w.heap.size w W → Calls Tryd.prog 54 #[.slice px lx cx, .slice py ly cy] W fun e w' => e = .returned (.int .i64 (-1)) ∧ Below W.heap.size W w') := Lib.hid fun W hb => by
    have := compare_any px py lx cx ly cy x.natAbs y.natAbs W (Rdi_below hb hx0.2.2.1) (Rdi_below hb hy0.2.2.1) hx0.2.1 hy0.2.1 (by omega) (by omega)
    rw [cmp_lt (by omega)] at this
    exact this
  have hgc : Hid (∀ W, Below w.heap.size w W → Calls Tryd.prog 55 #[.slice py ly cy, .slice px lx cx] W (GcP W (Nat.gcd y.natAbs x.natAbs))) := Lib.hid fun W hb => gcd_any _ _ _ _ _ _ _ _ W (Rdi_below hb hy0.2.2.1) (Rdi_below hb hx0.2.2.1) hy0.2.1 hx0.2.1 hly (by omega)
  have hg : Hid (Nat.gcd y.natAbs x.natAbs = Int.gcd x y) := Lib.hid (Nat.gcd_comm _ _)
  have hS0 := Lib.hid (@Ar2.start nx px lx cx ny py ly cy w)
  obtain ⟨g, hgg⟩ : ∃ g, Nat.gcd y.natAbs x.natAbs = g := ⟨_, rfl⟩
  rw [hgg] at hgc hg
  rw [← hg.out]
  clear hx0 hy0 hgg hg
  go_enter Tryd.func23, Tryd.ntmps23
  go_upto_region 1 with fail
  generalize ((w.alloc (.cells #[.bool nx, .slice px lx cx] 24)).alloc (.cells #[.bool ny, .slice py ly cy] 24)).alloc (.cells #[.bool false, .slice none 0 0] 24) = W0 at hS0 ⊢
  have hS1 := hS0.out
  have hf := hS1.facts
  clear hS0
  go_region
  have hS2 := hS1.drew
  clear hf
  have hf := hS2.facts
  clear hf
  have hbw : Below w.heap.size w W0.drew := hS2.2.2.2
  go_wp2_with (first
    | (go_at_call 54; (with_reducible refine (hcm.out _ hbw).mono ?_); rintro e w1 ⟨rfl, hb1⟩; have hS3 := hS2.later hb1; have hbw3 : Below w.heap.size w w1 := hS3.2.2.2)
    | (go_at_call 55; (with_reducible refine (hgc.out _ hbw3).mono ?_); rintro e w2 ⟨p, n, c, l, rfl, hR, hn, hnc, hc, hd, hv, hb2, hp⟩; have hS4 := hS3.later hb2; have hmd := Lib.hid (made_any false p n c l w2 hR hn hnc hc hd); have hp' := Lib.hid hp; have hv' := Lib.hid hv; clear hR hn hnc hc hd hv hp)
    | (go_at_call 41; (with_reducible refine hmd.out.mono ?_); rintro e w3 ⟨nb, p3, n3, c3, rfl, hI, hb3, hp3⟩; have hS5 := hS4.later hb3; have hI' := Lib.hid hI; have hp3' := Lib.hid hp3; clear hI hp3; have hf := hS5.facts))
  have hfin := Lib.hid (hS5.ret (z' := (g : Int)) hI'.out (fun q hq => by
    have h1 := hp'.out q (hp3'.out q hq)
    have h2 := hS3.top
    omega) (by rw [hv'.out]; rfl))
  exact bodyPost_ret (v := .agg #[.bool nb, .slice p3 n3 c3]) (results_cell_row rfl _ _ (w.heap.size + 1 + 1) 24 _ (0, 0) _ rfl (hS5.res _ _) Tryd.underlying24 rfl size_Int) rfl hfin.out

set_option maxRecDepth 100000 in
set_option maxHeartbeats 1600000 in
theorem Gcd_not (nx ny : Bool) (px py : Option Addr) (lx cx ly cy : Nat) (x y : Int) (w : World) (hx0 : IntAt w nx px lx cx x) (hy0 : IntAt w ny py ly cy y) (hlx : lx ≤ 549755813887) (hly : ly ≤ 549755813887) (hxy : y.natAbs ≤ x.natAbs) :
    Calls Tryd.prog 23 #[.agg #[.bool nx, .slice px lx cx], .agg #[.bool ny, .slice py ly cy]] w (RetI w (Int.gcd x y)) := by
  have hcm : Hid (∀ W, Below w.heap.size w W → Calls Tryd.prog 54 #[.slice px lx cx, .slice py ly cy] W fun e w' => e = .returned (.int .i64 (cmpI (x.natAbs : Int) (y.natAbs : Int))) ∧ Below W.heap.size W w') := Lib.hid fun W hb => compare_any px py lx cx ly cy x.natAbs y.natAbs W (Rdi_below hb hx0.2.2.1) (Rdi_below hb hy0.2.2.1) hx0.2.1 hy0.2.1 (by omega) (by omega)
  have hc0 : 0 ≤ cmpI (x.natAbs : Int) (y.natAbs : Int) := by
    unfold cmpI
    rw [if_neg (by omega)]
    split <;> omega
  generalize cmpI (x.natAbs : Int) (y.natAbs : Int) = C at hcm hc0
  have hgc : Hid (∀ W, Below w.heap.size w W → Calls Tryd.prog 55 #[.slice px lx cx, .slice py ly cy] W (GcP W (Nat.gcd x.natAbs y.natAbs))) := Lib.hid fun W hb => gcd_any _ _ _ _ _ _ _ _ W (Rdi_below hb hx0.2.2.1) (Rdi_below hb hy0.2.2.1) hx0.2.1 hy0.2.1 hlx (by omega)
  have hg : Hid (Nat.gcd x.natAbs y.natAbs = Int.gcd x y) := Lib.hid rfl
  have hS0 := Lib.hid (@Ar2.start nx px lx cx ny py ly cy w)
  obtain ⟨g, hgg⟩ : ∃ g, Nat.gcd x.natAbs y.natAbs = g := ⟨_, rfl⟩
  rw [hgg] at hgc hg
  rw [← hg.out]
  clear hx0 hy0 hgg hg
  go_enter Tryd.func23, Tryd.ntmps23
  go_upto_region 1 with fail
  generalize ((w.alloc (.cells #[.bool nx, .slice px lx cx] 24)).alloc (.cells #[.bool ny, .slice py ly cy] 24)).alloc (.cells #[.bool false, .slice none 0 0] 24) = W0 at hS0 ⊢
  have hS1 := hS0.out
  have hf := hS1.facts
  clear hS0
  go_region
  have hc1 : ¬ C < 0 := by omega
  have hS2 := hS1.drew
  clear hf
  have hf := hS2.facts
  clear hf
  have hbw : Below w.heap.size w W0.drew := hS2.2.2.2
  go_wp2_with (first
    | (go_at_call 54; (with_reducible refine (hcm.out _ hbw).mono ?_); rintro e w1 ⟨rfl, hb1⟩; have hS3 := hS2.later hb1; have hbw3 : Below w.heap.size w w1 := hS3.2.2.2)
    | (go_at_call 55; (with_reducible refine (hgc.out _ hbw3).mono ?_); rintro e w2 ⟨p, n, c, l, rfl, hR, hn, hnc, hc, hd, hv, hb2, hp⟩; have hS4 := hS3.later hb2; have hmd := Lib.hid (made_any false p n c l w2 hR hn hnc hc hd); have hp' := Lib.hid hp; have hv' := Lib.hid hv; clear hR hn hnc hc hd hv hp)
    | (go_at_call 41; (with_reducible refine hmd.out.mono ?_); rintro e w3 ⟨nb, p3, n3, c3, rfl, hI, hb3, hp3⟩; have hS5 := hS4.later hb3; have hI' := Lib.hid hI; have hp3' := Lib.hid hp3; clear hI hp3; have hf := hS5.facts))
  have hfin := Lib.hid (hS5.ret (z' := (g : Int)) hI'.out (fun q hq => by
    have h1 := hp'.out q (hp3'.out q hq)
    have h2 := hS3.top
    omega) (by rw [hv'.out]; rfl))
  exact bodyPost_ret (v := .agg #[.bool nb, .slice p3 n3 c3]) (results_cell_row rfl _ _ (w.heap.size + 1 + 1) 24 _ (0, 0) _ rfl (hS5.res _ _) Tryd.underlying24 rfl size_Int) rfl hfin.out
theorem Gcd_any (nx ny : Bool) (px py : Option Addr) (lx cx ly cy : Nat) (x y : Int) (w : World) (hx0 : IntAt w nx px lx cx x) (hy0 : IntAt w ny py ly cy y) (hlx : lx ≤ 549755813887) (hly : ly ≤ 549755813887) :
    Calls Tryd.prog 23 #[.agg #[.bool nx, .slice px lx cx], .agg #[.bool ny, .slice py ly cy]] w (RetI w (Int.gcd x y)) := by
  rcases Nat.lt_or_ge x.natAbs y.natAbs with h | h
  · exact Gcd_less nx ny px py lx cx ly cy x y w hx0 hy0 hlx hly h
  · exact Gcd_not nx ny px py lx cx ly cy x y w hx0 hy0 hlx hly h
end Go.Proofs.YteaoaoknpihchaaDoor
