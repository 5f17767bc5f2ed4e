/- Contracts of the package integer and its reference: The steps of Euclid that the highest digits decide: plain mathematics. integer.carried, and the mathematics of apply. integer.apply. -/
import Derived.Test.YteaoaoknpihchaaDoorM5
namespace Go.Proofs.YteaoaoknpihchaaDoor
/-- what several steps of Euclid's algorithm on the highest digits make of two numbers -/
structure Lh (P X Y a0 b0 xl yl s U0 U1 L0 L1 a b : Int) (found : Bool) : Prop where
  P0 : 0 < P
  hX : X = a0 * P + xl
  hY : Y = b0 * P + yl
  xl0 : 0 ≤ xl
  xl1 : xl ≤ P
  yl0 : 0 ≤ yl
  yl1 : yl ≤ P
  s1 : s = 1 ∨ s = -1
  U00 : 0 ≤ U0
  U10 : 0 ≤ U1
  L00 : 0 ≤ L0
  L10 : 0 ≤ L1
  ea : a = s * U0 * a0 - s * U1 * b0
  eb : b = s * L1 * b0 - s * L0 * a0
  key : a * L1 + b * U1 = a0
  bl0 : 0 ≤ b - s * L0
  bl1 : 0 ≤ b + s * L1
  au0 : 0 ≤ a + s * U0
  au1 : 0 ≤ a - s * U1
  L01 : L0 ≤ L1
  L1p : 1 ≤ L1
  U01 : (U0 ≤ U1 ∧ 1 ≤ U1 ∧ found = true) ∨ (U0 = 1 ∧ U1 = 0 ∧ L0 = 0 ∧ L1 = 1 ∧ s = 1 ∧ b ≤ a)
  L1b : L1 < 1000000000
  U0b : U0 < 1000000000
  U1b : U1 < 1000000000
  ord : s * L1 * Y - s * L0 * X ≤ s * U0 * X - s * U1 * Y
  top : s * U0 * X - s * U1 * Y ≤ X
  gcd : Int.gcd (s * U0 * X - s * U1 * Y) (s * L1 * Y - s * L0 * X) = Int.gcd X Y
  dec : found = true → (s * U0 * X - s * U1 * Y) + (s * L1 * Y - s * L0 * X) < X + Y
  sum : (s * U0 * X - s * U1 * Y) + (s * L1 * Y - s * L0 * X) ≤ X + Y

theorem Lh.init {P X Y a0 b0 xl yl : Int} (P0 : 0 < P) (hX : X = a0 * P + xl) (hY : Y = b0 * P + yl) (xl0 : 0 ≤ xl) (xl1 : xl ≤ P) (yl0 : 0 ≤ yl) (yl1 : yl ≤ P) (ha : 0 ≤ a0) (hb : 0 ≤ b0) (hab : b0 ≤ a0) (hXY : Y ≤ X) : Lh P X Y a0 b0 xl yl 1 1 0 0 1 a0 b0 false where
  P0 := P0
  hX := hX
  hY := hY
  xl0 := xl0
  xl1 := xl1
  yl0 := yl0
  yl1 := yl1
  s1 := .inl rfl
  U00 := by omega
  U10 := by omega
  L00 := by omega
  L10 := by omega
  ea := by omega
  eb := by omega
  key := by omega
  bl0 := by omega
  bl1 := by omega
  au0 := by omega
  au1 := by omega
  L01 := by omega
  L1p := by omega
  U01 := .inr ⟨rfl, rfl, rfl, rfl, rfl, hab⟩
  L1b := by omega
  U0b := by omega
  U1b := by omega
  ord := by omega
  top := by omega
  gcd := by simp
  dec := by intro h; cases h
  sum := by omega

variable {P X Y a0 b0 xl yl s U0 U1 L0 L1 a b : Int} {found : Bool}
theorem Lh.X' (h : Lh P X Y a0 b0 xl yl s U0 U1 L0 L1 a b found) : s * U0 * X - s * U1 * Y = a * P + s * U0 * xl - s * U1 * yl := by
  rw [h.ea, h.hX, h.hY]; grind
theorem Lh.Y' (h : Lh P X Y a0 b0 xl yl s U0 U1 L0 L1 a b found) : s * L1 * Y - s * L0 * X = b * P + s * L1 * yl - s * L0 * xl := by
  rw [h.eb, h.hX, h.hY]; grind
/-- a sum of which the parts are known by their signs -/
theorem mix_lo {c P p q x y m : Int} (hx0 : 0 ≤ x) (hx1 : x ≤ P) (hy0 : 0 ≤ y) (hp : 0 ≤ p) (hq : 0 ≤ q) (h : m ≤ c - p) : m * P ≤ c * P - p * x + q * y := by
  have h1 : p * x ≤ p * P := Int.mul_le_mul_of_nonneg_left hx1 hp
  have h2 : 0 ≤ q * y := Int.mul_nonneg hq hy0
  have h3 : m * P ≤ (c - p) * P := Int.mul_le_mul_of_nonneg_right h (by omega)
  have h4 : (c - p) * P = c * P - p * P := by grind
  omega
theorem Lh.lowNonneg (h : Lh P X Y a0 b0 xl yl s U0 U1 L0 L1 a b found) : 0 ≤ s * L1 * Y - s * L0 * X := by
  rw [h.Y']
  rcases h.s1 with hs | hs
  · subst hs
    have := mix_lo (c := b) (P := P) (p := L0) (q := L1) (x := xl) (y := yl) (m := 0) h.xl0 h.xl1 h.yl0 h.L00 h.L10 (by have := h.bl0; omega)
    have e1 : (1 : Int) * L1 * yl = L1 * yl := by grind
    have e2 : (1 : Int) * L0 * xl = L0 * xl := by grind
    omega
  · subst hs
    have := mix_lo (c := b) (P := P) (p := L1) (q := L0) (x := yl) (y := xl) (m := 0) h.yl0 h.yl1 h.xl0 h.L10 h.L00 (by have := h.bl1; omega)
    have e1 : (-1 : Int) * L1 * yl = -(L1 * yl) := by grind
    have e2 : (-1 : Int) * L0 * xl = -(L0 * xl) := by grind
    omega
theorem Lh.bpos (h : Lh P X Y a0 b0 xl yl s U0 U1 L0 L1 a b found) : 0 ≤ b := by
  have := h.bl0; have := h.bl1; have := h.L00; have := h.L10
  rcases h.s1 with hs | hs <;> subst hs <;> omega
theorem Lh.apos (h : Lh P X Y a0 b0 xl yl s U0 U1 L0 L1 a b found) : 0 ≤ a := by
  have := h.au0; have := h.au1; have := h.U00; have := h.U10
  rcases h.s1 with hs | hs <;> subst hs <;> omega
/-- one step -/
theorem Lh.step (h : Lh P X Y a0 b0 xl yl s U0 U1 L0 L1 a b found) (q : Int) (hq0 : 0 ≤ q)
    (h00 : 0 ≤ (a + s * U0) - q * (b - s * L0)) (h01 : (a + s * U0) - q * (b - s * L0) < b - s * L0) (h10 : 0 ≤ (a - s * U1) - q * (b + s * L1)) (h11 : (a - s * U1) - q * (b + s * L1) < b + s * L1) (hb : U1 + q * L1 < 1000000000) :
    Lh P X Y a0 b0 xl yl (-s) L0 L1 (U0 + q * L0) (U1 + q * L1) b (a - q * b) true := by
  have hqL0 : 0 ≤ q * L0 := Int.mul_nonneg hq0 h.L00
  have hqL1 : 0 ≤ q * L1 := Int.mul_nonneg hq0 h.L10
  have hq01 : q * L0 ≤ q * L1 := Int.mul_le_mul_of_nonneg_left h.L01 hq0
  have hbp := h.bpos
  have hY0 := h.lowNonneg
  have hX' := h.X'
  have hY' := h.Y'
  have q1 : U0 + q * L0 ≤ U1 + q * L1 := by
    rcases h.U01 with h1 | ⟨rfl, rfl, rfl, rfl, rfl, hba⟩
    · omega
    · have : q ≠ 0 := by
        rintro rfl
        omega
      omega
  have hU1' : 1 ≤ U1 + q * L1 := by
    rcases h.U01 with h1 | ⟨rfl, rfl, rfl, rfl, rfl, hba⟩
    · omega
    · have : q ≠ 0 := by
        rintro rfl
        omega
      omega
  have hs2 : -s = 1 ∨ -s = -1 := by rcases h.s1 with hs | hs <;> subst hs <;> simp
  have hU00 := h.U00
  have hU10 := h.U10
  have hL1b := h.L1b
  -- the numbers of the new row
  have eX : -s * L0 * X - -s * L1 * Y = s * L1 * Y - s * L0 * X := by grind
  have eY : -s * (U1 + q * L1) * Y - -s * (U0 + q * L0) * X = (s * U0 * X - s * U1 * Y) - q * (s * L1 * Y - s * L0 * X) := by grind
  have hY2 : (s * U0 * X - s * U1 * Y) - q * (s * L1 * Y - s * L0 * X) = (a - q * b) * P + s * (U0 + q * L0) * xl - s * (U1 + q * L1) * yl := by rw [hX', hY']; grind
  have hlt : (s * U0 * X - s * U1 * Y) - q * (s * L1 * Y - s * L0 * X) < s * L1 * Y - s * L0 * X := by
    rw [hY2, hY']
    have hP := h.P0
    have e : (b * P + s * L1 * yl - s * L0 * xl) - ((a - q * b) * P + s * (U0 + q * L0) * xl - s * (U1 + q * L1) * yl) = (b - (a - q * b)) * P - s * (L0 + (U0 + q * L0)) * xl + s * (L1 + (U1 + q * L1)) * yl := by grind
    have hge : 1 * P ≤ (b - (a - q * b)) * P - s * (L0 + (U0 + q * L0)) * xl + s * (L1 + (U1 + q * L1)) * yl := by
      rcases h.s1 with hs | hs
      · subst hs
        have := mix_lo (c := b - (a - q * b)) (P := P) (p := L0 + (U0 + q * L0)) (q := L1 + (U1 + q * L1)) (x := xl) (y := yl) (m := 1) h.xl0 h.xl1 h.yl0 (by have := h.L00; omega) (by have := h.L10; omega) (by
          have e1 : q * (b - 1 * L0) = q * b - q * L0 := by grind
          omega)
        simp only [Int.one_mul] at this ⊢
        exact this
      · subst hs
        have := mix_lo (c := b - (a - q * b)) (P := P) (p := L1 + (U1 + q * L1)) (q := L0 + (U0 + q * L0)) (x := yl) (y := xl) (m := 1) h.yl0 h.yl1 h.xl0 (by have := h.L10; omega) (by have := h.L00; omega) (by
          have e1 : q * (b + -1 * L1) = q * b - q * L1 := by grind
          omega)
        have e2 : (b - (a - q * b)) * P - -1 * (L0 + (U0 + q * L0)) * xl + -1 * (L1 + (U1 + q * L1)) * yl = (b - (a - q * b)) * P - (L1 + (U1 + q * L1)) * yl + (L0 + (U0 + q * L0)) * xl := by grind
        rw [e2]
        exact this
    omega
  have hY'pos : 0 < s * L1 * Y - s * L0 * X := by
    -- the rest is not negative
    rcases Int.lt_or_le 0 (s * L1 * Y - s * L0 * X) with h1 | h1
    · exact h1
    · exfalso
      have h2 : s * L1 * Y - s * L0 * X = 0 := by omega
      rw [h2] at hlt
      have h3 := h.ord
      rw [h2] at h3
      omega
  have hqY : 0 ≤ q * (s * L1 * Y - s * L0 * X) := Int.mul_nonneg hq0 (by omega)
  exact {
    P0 := h.P0
    hX := h.hX
    hY := h.hY
    xl0 := h.xl0
    xl1 := h.xl1
    yl0 := h.yl0
    yl1 := h.yl1
    s1 := hs2
    U00 := h.L00
    U10 := h.L10
    L00 := by omega
    L10 := by omega
    ea := by rw [h.eb]; grind
    eb := by rw [h.ea, h.eb]; grind
    key := by rw [← h.key]; grind
    bl0 := by
      have e1 : (a + s * U0) - q * (b - s * L0) = a - q * b - -s * (U0 + q * L0) := by grind
      omega
    bl1 := by
      have e1 : (a - s * U1) - q * (b + s * L1) = a - q * b + -s * (U1 + q * L1) := by grind
      omega
    au0 := by have := h.bl0; have e : -s * L0 = -(s * L0) := by grind
              omega
    au1 := by have := h.bl1; have e : -s * L1 = -(s * L1) := by grind
              omega
    L01 := q1
    L1p := hU1'
    U01 := .inl ⟨h.L01, h.L1p, rfl⟩
    L1b := hb
    U0b := by have := h.L01; omega
    U1b := hL1b
    ord := by rw [eX, eY]; omega
    top := by rw [eX]; have := h.ord; have := h.top; omega
    gcd := by
      rw [eX, eY, ← h.gcd]
      generalize s * U0 * X - s * U1 * Y = x
      generalize s * L1 * Y - s * L0 * X = y
      rw [Int.gcd_comm y, Int.gcd_comm x y]
      have : x - q * y = x + y * -q := by grind
      rw [this, Int.gcd_add_mul_left_left, Int.gcd_comm]
    dec := by
      intro _
      rw [eX, eY]
      have h1 := h.sum
      by_cases e : q = 0
      · -- then a row has been made before
        subst e
        rcases h.U01 with h2 | ⟨rfl, rfl, rfl, rfl, rfl, hba⟩
        · have h3 := h.dec h2.2.2
          omega
        · exfalso; omega
      · have : 1 * (s * L1 * Y - s * L0 * X) ≤ q * (s * L1 * Y - s * L0 * X) := Int.mul_le_mul_of_nonneg_right (by omega) (by omega)
        omega
    sum := by
      rw [eX, eY]
      have h1 := h.sum
      omega }
end Go.Proofs.YteaoaoknpihchaaDoor

namespace Go.Proofs.YteaoaoknpihchaaDoor
open Go.RowKit

set_option maxRecDepth 100000 in
set_option maxHeartbeats 400000 in
theorem carried_any (t : Int) (h0 : -2000000000000000000 ≤ t) (h1 : t ≤ 2000000000000000000) (w : World) :
    Calls Tryd.prog 86 #[.int .i64 t] w fun e w' => e = .returned (.tuple #[.int .i64 (t / 1000000000), .int .i64 (t % 1000000000)]) ∧ w = w' := by
  obtain ⟨u, hu⟩ : ∃ u, 2000000000000000000 + t = u := ⟨_, rfl⟩
  have e1 : t / 1000000000 = u / 1000000000 - 2000000000 := by omega
  have e2 : t % 1000000000 = u % 1000000000 := by omega
  have u0 : 0 ≤ u := by omega
  have u1 : u ≤ 4000000000000000000 := by omega
  have w1 : IntKind.i64.wrap (2000000000000000000 + t) = u := by rw [IntWalk.i64_in _ (by omega)]; exact hu
  have q0 : 0 ≤ u / 1000000000 := by omega
  have q1 : u / 1000000000 ≤ 4000000000 := by omega
  have q2 : 0 ≤ u % 1000000000 := by omega
  have q3 : u % 1000000000 < 1000000000 := by omega
  rw [e1, e2]
  clear e1 e2 h0 h1 hu
  go_enter Tryd.func86, Tryd.ntmps86
  go_wp2_with fail
  go_ret2
  exact ⟨rfl, rfl⟩

/-- a row is put together, digit by digit, in the place of B -/
structure ApA (B X Y : List Int) (r0 r1 : Int) (k : Nat) (over : Int) (z : List Int) : Prop where
  len : z.length = B.length
  dg : Dg (z.take k)
  rest : ∀ j, k ≤ j → iat z j = iat B j
  sum : val (z.take k) + pw k * over = r0 * val (X.take k) + r1 * val (Y.take k)
  lo : -2000000000 ≤ over
  hi : over ≤ 2000000000
theorem ApA.start (B X Y : List Int) (r0 r1 : Int) : ApA B X Y r0 r1 0 0 B :=
  ⟨rfl, by rw [List.take_zero]; exact Dg_nil, fun _ _ => rfl, by simp [val], by omega, by omega⟩
theorem ap_digit {a b r0 r1 : Int} (ha0 : 0 ≤ a) (ha1 : a < 1000000000) (hb0 : 0 ≤ b) (hb1 : b < 1000000000) (h00 : -1000000000 < r0) (h01 : r0 < 1000000000) (h10 : -1000000000 < r1) (h11 : r1 < 1000000000) :
    -999999998000000001 ≤ a * r0 ∧ a * r0 ≤ 999999998000000001 ∧ -999999998000000001 ≤ b * r1 ∧ b * r1 ≤ 999999998000000001 := by
  have e1 : a * r0 ≤ a * 999999999 := Int.mul_le_mul_of_nonneg_left (by omega) ha0
  have e2 : a * (-999999999) ≤ a * r0 := Int.mul_le_mul_of_nonneg_left (by omega) ha0
  have e3 : b * r1 ≤ b * 999999999 := Int.mul_le_mul_of_nonneg_left (by omega) hb0
  have e4 : b * (-999999999) ≤ b * r1 := Int.mul_le_mul_of_nonneg_left (by omega) hb0
  omega
theorem ApA.next {B X Y z : List Int} {r0 r1 over : Int} {k : Nat} (h : ApA B X Y r0 r1 k over z) (hx : Dg X) (hy : Dg Y) (hk : k < B.length) (hkx : k < X.length) (hky : k < Y.length) (h00 : -1000000000 < r0) (h01 : r0 < 1000000000) (h10 : -1000000000 < r1) (h11 : r1 < 1000000000) :
    ApA B X Y r0 r1 (k + 1) ((iat X k * r0 + iat Y k * r1 + over) / 1000000000) (z.set k ((iat X k * r0 + iat Y k * r1 + over) % 1000000000)) := by
  have hz : k < z.length := by rw [h.len]; omega
  have b1 := hx.all k
  have b2 := hy.all k
  have hb := ap_digit b1.1 b1.2 b2.1 b2.2 h00 h01 h10 h11
  have hl := h.lo
  have hh := h.hi
  have hs := h.sum
  have vx := val_take X k hkx
  have vy := val_take Y k hky
  obtain ⟨t, ht⟩ : ∃ t, iat X k * r0 + iat Y k * r1 + over = t := ⟨_, rfl⟩
  rw [ht]
  refine ⟨by rw [List.length_set]; exact h.len, ?_, fun j hj => ?_, ?_, by omega, by omega⟩
  · rw [take_set1 _ _ _ hz]
    exact Dg_append h.dg (Dg_cons (by omega) (by omega) Dg_nil)
  · rw [iat_set _ _ _ _ hz, if_neg (by omega)]
    exact h.rest j (by omega)
  · rw [take_set1 _ _ _ hz, val_snoc, List.length_take, Nat.min_eq_left (by omega), vx, vy]
    have e : pw (k + 1) * (t / 1000000000) + pw k * (t % 1000000000) = pw k * t := by
      show 1000000000 * pw k * (t / 1000000000) + pw k * (t % 1000000000) = pw k * t
      have : t = 1000000000 * (t / 1000000000) + t % 1000000000 := by omega
      generalize t / 1000000000 = q at *
      generalize t % 1000000000 = r at *
      rw [this]; grind
    have e2 : pw k * t = pw k * (iat X k * r0 + iat Y k * r1) + pw k * over := by rw [← ht]; grind
    have e3 : r0 * (val (X.take k) + pw k * iat X k) + r1 * (val (Y.take k) + pw k * iat Y k) = (r0 * val (X.take k) + r1 * val (Y.take k)) + pw k * (iat X k * r0 + iat Y k * r1) := by grind
    rw [e3, ← hs]
    generalize pw (k + 1) * (t / 1000000000) = u1 at *
    generalize pw k * (t % 1000000000) = u2 at *
    omega
/-- at the end nothing is carried, if the result has no more digits -/
theorem ApA.done {B X Y z : List Int} {r0 r1 over : Int} {n : Nat} (h : ApA B X Y r0 r1 n over z) (hn : n ≤ B.length) (h0 : 0 ≤ r0 * val (X.take n) + r1 * val (Y.take n)) (h1 : r0 * val (X.take n) + r1 * val (Y.take n) < pw n) : val (z.take n) = r0 * val (X.take n) + r1 * val (Y.take n) := by
  have hs := h.sum
  have hlo := h.dg.lo
  have hhi := h.dg.hi
  rw [List.length_take, h.len, Nat.min_eq_left hn] at hhi
  have hp := pw_pos n
  generalize r0 * val (X.take n) + r1 * val (Y.take n) = R at *
  have ho : over = 0 := by
    rcases Int.lt_trichotomy over 0 with h2 | h2 | h2
    · have : pw n * over ≤ pw n * (-1) := Int.mul_le_mul_of_nonneg_left (by omega) (by omega)
      omega
    · exact h2
    · have : pw n * 1 ≤ pw n * over := Int.mul_le_mul_of_nonneg_left (by omega) (by omega)
      omega
  subst ho
  omega
end Go.Proofs.YteaoaoknpihchaaDoor

namespace Go.Proofs.YteaoaoknpihchaaDoor
open Go.RowKit

/-- of what there was, blocks g and h alone are changed -/
structure Only2 (g h : Nat) (w w' : World) : Prop where
  os : w'.os = w.os
  tape : w'.tape = w.tape
  output : w'.output = w.output
  size : w.heap.size ≤ w'.heap.size
  block : ∀ k, k < w.heap.size → k ≠ g → k ≠ h → w'.heap[k]? = w.heap[k]?
section
variable {g h : Nat} {w w' w2 : World}
theorem Only2.setL (ho : Only2 g h w w') (i : Nat) (v : Value) : Only2 g h w (w'.setCell ⟨g, i, none⟩ v) :=
  ⟨ho.os, ho.tape, ho.output, Nat.le_trans ho.size (Below.setCell (Below.refl 0 w') (Nat.zero_le _) v (p := ⟨g, i, none⟩)).size, fun k hk hg hh => (Below.heap_setCell _ _ _ _ hg).trans (ho.block k hk hg hh)⟩
theorem Only2.setR (ho : Only2 g h w w') (i : Nat) (v : Value) : Only2 g h w (w'.setCell ⟨h, i, none⟩ v) :=
  ⟨ho.os, ho.tape, ho.output, Nat.le_trans ho.size (Below.setCell (Below.refl 0 w') (Nat.zero_le _) v (p := ⟨h, i, none⟩)).size, fun k hk hg hh => (Below.heap_setCell _ _ _ _ hh).trans (ho.block k hk hg hh)⟩
theorem Only2.drewN (ho : Only2 g h w w') (q : Nat) : Only2 g h w (w'.drewN q) := ⟨ho.os, ho.tape, ho.output, ho.size, ho.block⟩
theorem Only2.of_below (hb : Below w.heap.size w w') : Only2 g h w w' := ⟨hb.os, hb.tape, hb.output, hb.size, fun k hk _ _ => hb.block k hk⟩
theorem Only2.below {B : Nat} {w0 : World} (ho : Only2 g h w w') (hb : Below B w0 w) (hg : B ≤ g) (hh : B ≤ h) (hs : B ≤ w.heap.size) : Below B w0 w' :=
  ⟨ho.os.trans hb.os, ho.tape.trans hb.tape, ho.output.trans hb.output, Nat.le_trans hb.size ho.size, fun k hk => (ho.block k (by omega) (by omega) (by omega)).trans (hb.block k hk)⟩
end
/-- what apply keeps -/
def ApI (w : World) (gx gy : Nat) (X Y : List Int) (r00 r01 r10 r11 : Int) (k : Nat) (ov un : Int) (wr : World) : Prop :=
  ∃ zx zy, ApA X X Y r00 r01 k ov zx ∧ ApA Y X Y r10 r11 k un zy ∧ Blk wr gx zx ∧ Blk wr gy zy ∧ wr.heap[w.heap.size]? = some (.cells #[.int .i64 r00, .int .i64 r01, .int .i64 r10, .int .i64 r11] 82 (0, 0)) ∧ Only2 gx gy w wr
/-- what apply leaves -/
def ApP (w : World) (gx gy : Nat) (X Y : List Int) (r00 r01 r10 r11 : Int) (n : Nat) (e : Ending) (w' : World) : Prop :=
  ∃ ov un zx zy, e = .returned (.tuple #[]) ∧ ApA X X Y r00 r01 n ov zx ∧ ApA Y X Y r10 r11 n un zy ∧ Blk w' gx zx ∧ Blk w' gy zy ∧ Only2 gx gy w w'

set_option maxRecDepth 100000 in
set_option maxHeartbeats 1600000 in
theorem apply_any (gx gy n m cx cy : Nat) (X Y : List Int) (r00 r01 r10 r11 : Int) (w : World) (hX0 : Blk w gx X) (hY0 : Blk w gy Y) (hne : gx ≠ gy) (hnX : n ≤ X.length) (hnY : n ≤ Y.length) (hnm : n ≤ m) (hn : n ≤ 1099511627776) (hdx : Dg X) (hdy : Dg Y)
    (h00 : -1000000000 < r00) (h00' : r00 < 1000000000) (h01 : -1000000000 < r01) (h01' : r01 < 1000000000) (h10 : -1000000000 < r10) (h10' : r10 < 1000000000) (h11 : -1000000000 < r11) (h11' : r11 < 1000000000) :
    Calls Tryd.prog 73 #[.agg #[.int .i64 r00, .int .i64 r01, .int .i64 r10, .int .i64 r11], .slice (some ⟨gx, 0, none⟩) n cx, .slice (some ⟨gy, 0, none⟩) m cy] w (ApP w gx gy X Y r00 r01 r10 r11 n) := by
  have hgx := hX0.lt
  have hgy := hY0.lt
  have hI : Hid (ApI w gx gy X Y r00 r01 r10 r11 0 0 0 (w.alloc (.cells #[.int .i64 r00, .int .i64 r01, .int .i64 r10, .int .i64 r11] 82 (0, 0)))) := Lib.hid ⟨X, Y, ApA.start _ _ _ _ _, ApA.start _ _ _ _ _, hX0.later (below_new _ _), hY0.later (below_new _ _), heap_alloc_new _ _, Only2.of_below (below_new _ _)⟩
  have NX := Lib.hid hnX
  have NY := Lib.hid hnY
  have DX := Lib.hid hdx
  have DY := Lib.hid hdy
  clear hX0 hY0 hnX hnY hdx hdy
  go_enter Tryd.func73, Tryd.ntmps73
  go_upto_region 3 with fail
  go_loopw [6, 7, 13] (fun ov un i wr => ∃ (k : Nat) (over under : Int), k ≤ n ∧ i = .int .i64 (k : Int) ∧ ov = .int .i64 over ∧ un = .int .i64 under ∧ ApI w gx gy X Y r00 r01 r10 r11 k over under wr) (fun _ _ i _ => n - (intOf i).toNat)
  case atStart => exact ⟨0, 0, 0, Nat.zero_le _, rfl, rfl, rfl, hI.out⟩
  case round =>
    obtain ⟨k, over, under, hk, rfl, rfl, rfl, hL⟩ := hrel
    clear hI
    by_cases hlt : k < n
    · obtain ⟨zx, zy, hA, hB, hx, hy, hr, hO⟩ := hL
      have kX : k < X.length := by have := NX.out; omega
      have kY : k < Y.length := by have := NY.out; omega
      have kzx : k < zx.length := by rw [hA.len]; exact kX
      have kzy : k < zy.length := by rw [hB.len]; exact kY
      have cx := hx.cell kzx
      have cy := hy.cell kzy
      rw [hA.rest k (Nat.le_refl _)] at cx
      rw [hB.rest k (Nat.le_refl _)] at cy
      have fx := hx.free k
      have fy := hy.free k
      have c0 : wr.cell? ⟨w.heap.size, 0, none⟩ = some (.int .i64 r00) := by simp [World.cell?, hr]
      have c1 : wr.cell? ⟨w.heap.size, 1, none⟩ = some (.int .i64 r01) := by simp [World.cell?, hr]
      have c2 : wr.cell? ⟨w.heap.size, 2, none⟩ = some (.int .i64 r10) := by simp [World.cell?, hr]
      have c3 : wr.cell? ⟨w.heap.size, 3, none⟩ = some (.int .i64 r11) := by simp [World.cell?, hr]
      have nx : ¬ w.heap.size = gx := by omega
      have ny : ¬ w.heap.size = gy := by omega
      have hst : Hid (ApI w gx gy X Y r00 r01 r10 r11 (k + 1) ((iat X k * r00 + iat Y k * r01 + over) / 1000000000) ((iat X k * r10 + iat Y k * r11 + under) / 1000000000) (((wr.drewN 1).setCell ⟨gx, k, none⟩ (.int .i64 ((iat X k * r00 + iat Y k * r01 + over) % 1000000000))).setCell ⟨gy, k, none⟩ (.int .i64 ((iat X k * r10 + iat Y k * r11 + under) % 1000000000)))) :=
        Lib.hid ⟨_, _, hA.next DX.out DY.out kX kX kY h00 h00' h01 h01', hB.next DX.out DY.out kY kX kY h10 h10' h11 h11', ((hx.drewN 1).set _ _).other hne, ((hy.drewN 1).other (fun e => hne e.symm)).set _ _, by
          rw [heap_setCell_other _ _ _ _ ny, heap_setCell_other _ _ _ _ nx]; exact hr, ((hO.drewN 1).setL _ _).setR _ _⟩
      have bx := DX.out.all k
      have by_ := DY.out.all k
      have hdg := ap_digit bx.1 bx.2 by_.1 by_.2 h00 h00' h01 h01'
      have hdh := ap_digit bx.1 bx.2 by_.1 by_.2 h10 h10' h11 h11'
      have ol := hA.lo
      have oh := hA.hi
      have ul := hB.lo
      have uh := hB.hi
      generalize iat X k = U at *
      generalize iat Y k = V at *
      obtain ⟨bx0, bx1⟩ := bx
      obtain ⟨by0, by1⟩ := by_
      obtain ⟨d0, d1, d2, d3⟩ := hdg
      obtain ⟨d4, d5, d6, d7⟩ := hdh
      have hc1 : Hid (∀ W, Calls Tryd.prog 86 #[.int .i64 (U * r00 + V * r01 + over)] W fun e w' => e = .returned (.tuple #[.int .i64 ((U * r00 + V * r01 + over) / 1000000000), .int .i64 ((U * r00 + V * r01 + over) % 1000000000)]) ∧ W = w') := Lib.hid fun W => carried_any _ (by omega) (by omega) W
      have hc2 : Hid (∀ W, Calls Tryd.prog 86 #[.int .i64 (U * r10 + V * r11 + under)] W fun e w' => e = .returned (.tuple #[.int .i64 ((U * r10 + V * r11 + under) / 1000000000), .int .i64 ((U * r10 + V * r11 + under) % 1000000000)]) ∧ W = w') := Lib.hid fun W => carried_any _ (by omega) (by omega) W
      have k0 : 0 ≤ (k : Int) := by omega
      have k1 : (k : Int) < (n : Int) := by omega
      have k2 : (k : Int) < (m : Int) := by omega
      have hne' : ¬ gy = gx := fun e => hne e.symm
      clear hA hB hx hy hO hr hlt kX kY kzx kzy
      go_wp2_with fail
      go_region
      go_wp2_with (first
        | (go_at_call 86; (with_reducible refine (hc1.out _).mono ?_); rintro e w' ⟨rfl, rfl⟩)
        | (go_at_call 86; (with_reducible refine (hc2.out _).mono ?_); rintro e w' ⟨rfl, rfl⟩))
      exact ⟨⟨k + 1, _, _, by omega, by simp, rfl, rfl, hst.out⟩, by simp [intOf]; omega⟩
    · have hk' : k = n := by omega
      subst hk'
      have hL' := Lib.hid hL
      have k1 : ¬ (k : Int) < (k : Int) := by omega
      clear hL hlt
      go_wp2_with fail
      refine bodyPost_end (results_none rfl _ _ _) rfl ?_
      obtain ⟨zx, zy, hA, hB, hx, hy, hr, hO⟩ := hL'.out
      exact ⟨_, _, zx, zy, rfl, hA, hB, hx, hy, hO⟩
end Go.Proofs.YteaoaoknpihchaaDoor
