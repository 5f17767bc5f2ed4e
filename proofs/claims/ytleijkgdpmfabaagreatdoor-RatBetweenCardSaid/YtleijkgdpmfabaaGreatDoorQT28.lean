/- The least number between two: both packages. -/
import Derived.Test.YtleijkgdpmfabaaGreatDoorQX4
import Derived.Test.YtleijkgdpmfabaaGreatDoorQT27
set_option linter.unusedVariables false
namespace Go.Proofs.YtleijkgdpmfabaaGreatDoor
open Go.RowKit
theorem Vq_fit {M N : Nat} {q : Rat} {v : Value} {w : World} (h : Vq M q v w) (h1 : (digs q.num.natAbs).length ≤ N) (h2 : (digs (q.den : Int).natAbs).length ≤ N) : Vq N q v w := by
  refine VP2_le h (fun _ h => Vz_fit h h1) (fun _ h => Vz_fit h ?_)
  unfold qd
  split
  · rw [show (0 : Int).natAbs = 0 from rfl, digs_zero]; exact Nat.zero_le _
  · exact h2
theorem dig_le {x y : Int} {N : Nat} (h0 : 0 ≤ x) (h1 : x ≤ y) (h : (digs y.natAbs).length ≤ N) : (digs x.natAbs).length ≤ N :=
  Nat.le_trans (digs_len_mono (show x.natAbs ≤ y.natAbs by omega)) h
theorem LsR.fit {a b r : Rat} {N : Nat} (h : LsR a b r) (hab : a ≤ b) (h1 : (digs a.num.natAbs).length ≤ N) (h2 : (digs (a.den : Int).natAbs).length ≤ N) : (digs r.num.natAbs).length ≤ N ∧ (digs (r.den : Int).natAbs).length ≤ N := by
  obtain ⟨e1, e2⟩ := h.den Rat.le_refl hab
  have := h.p0
  have := h.q0
  exact ⟨dig_le (by omega) e1 h1, dig_le (by omega) e2 h2⟩
theorem frac_le {A B C D f r : Int} (hA : A = B * f + r) (hle : A * D ≤ C * B) : D * r ≤ B * (C - f * D) := by
  subst hA
  grind
theorem ls_rest {a b r1 : Rat} {f : Int} (ha : 0 < a) (hab : a ≤ b) (hf : 0 ≤ f) (hlt : Rat.divInt f 1 < a) (hla : a < Rat.divInt (f + 1) 1) :
    0 < (a - Rat.divInt f 1).num ∧ 0 < (b - Rat.divInt f 1).num ∧ 0 < (b - Rat.divInt f 1)⁻¹ ∧ (b - Rat.divInt f 1)⁻¹ ≤ (a - Rat.divInt f 1)⁻¹ ∧ (LsR (b - Rat.divInt f 1)⁻¹ (a - Rat.divInt f 1)⁻¹ r1 → LsR a b (Rat.divInt f 1 + r1⁻¹)) := by
  obtain ⟨u1, u2⟩ := whole_n f
  obtain ⟨s1, s2⟩ := sub_whole a f
  obtain ⟨t1, t2⟩ := sub_whole b f
  have hB := den0 a
  have hD := den0 b
  have hle := (Rat.le_iff _ _).1 hab
  have hl := (Rat.lt_iff _ _).1 hlt
  rw [u1, u2] at hl
  have hr : 0 < a.num - f * a.den := by omega
  obtain ⟨r, hrr⟩ : ∃ r, a.num - f * a.den = r := ⟨_, rfl⟩
  have hA : a.num = (a.den : Int) * f + r := by rw [← hrr, Int.mul_comm]; omega
  have hE := rest_pos (B := (a.den : Int)) (C := b.num) (D := (b.den : Int)) (f := f) (r := r) hB hD (by omega) (by rw [← hA]; exact hle)
  have p1 : 0 < (a - Rat.divInt f 1).num := by rw [s1]; exact hr
  have p2 : 0 < (b - Rat.divInt f 1).num := by rw [t1]; exact hE
  obtain ⟨i1, i2⟩ := inv_low p1
  obtain ⟨j1, j2⟩ := inv_low p2
  refine ⟨p1, p2, ?_, ?_, fun h => ?_⟩
  · rw [pos_iff', j1, t2]; exact hD
  · rw [Rat.le_iff, i1, i2, j1, j2, s1, s2, t1, t2]
    rw [hrr]
    exact frac_le hA hle
  · have h' : Lst (b.den : Int) (b.num - f * b.den) (a.den : Int) r r1.num (r1.den : Int) := by
      unfold LsR at h
      rw [i1, i2, j1, j2, s1, s2, t1, t2, hrr] at h
      exact h
    have h2 := Lst_more hB hf (by omega) h'
    rw [← hA] at h2
    obtain ⟨k1, k2⟩ := inv_low (q := r1) h'.p0
    obtain ⟨w1, w2⟩ := add_whole r1⁻¹ f
    unfold LsR
    rw [w1, w2, k1, k2]
    exact h2
theorem fl_ce' (a : Rat) : ∃ lo hi : Int, dq a.num (a.den : Int) = lo ∧ -(dq (-a).num ((-a).den : Int)) = hi ∧ ((lo = hi ∧ Rat.divInt lo 1 = a) ∨ (hi = lo + 1 ∧ Rat.divInt lo 1 < a ∧ a < Rat.divInt hi 1)) := by
  have hd : (0 : Int) < a.den := by have := a.den_pos; omega
  have e1 : dq a.num (a.den : Int) = a.num / (a.den : Int) := if_neg (by omega)
  have e2 : dq (-a).num ((-a).den : Int) = (-a.num) / (a.den : Int) := by rw [Rat.neg_num, Rat.neg_den]; exact if_neg (by omega)
  refine ⟨_, _, rfl, rfl, ?_⟩
  rw [e1, e2]
  generalize hk : a.num / (a.den : Int) = k
  generalize hj : (-a.num) / (a.den : Int) = j
  have f1 := Int.emod_add_mul_ediv a.num a.den
  have f2 := Int.emod_nonneg a.num (b := (a.den : Int)) (by omega)
  have f3 := Int.emod_lt_of_pos a.num hd
  have g1 := Int.emod_add_mul_ediv (-a.num) a.den
  have g2 := Int.emod_nonneg (-a.num) (b := (a.den : Int)) (by omega)
  have g3 := Int.emod_lt_of_pos (-a.num) hd
  rw [hk] at f1
  rw [hj] at g1
  generalize a.num % (a.den : Int) = r at *
  generalize (-a.num) % (a.den : Int) = s at *
  have lt1 : ∀ z : Int, (Rat.divInt z 1 < a ↔ z * a.den < a.num) := fun z => by rw [Rat.lt_iff, (whole_n z).1, (whole_n z).2, Int.mul_one]
  have lt2 : ∀ z : Int, (a < Rat.divInt z 1 ↔ a.num < z * a.den) := fun z => by rw [Rat.lt_iff, (whole_n z).1, (whole_n z).2, Int.mul_one]
  by_cases hr : r = 0
  · left
    subst hr
    have hs : s = 0 := by
      have : (a.den : Int) * (k + j) + s = 0 := by rw [Int.mul_add]; omega
      rcases Int.lt_trichotomy (k + j) 0 with h | h | h
      · have := Int.mul_le_mul_of_nonneg_left (show k + j ≤ -1 by omega) (Int.le_of_lt hd); omega
      · rw [h] at this; omega
      · have := Int.mul_le_mul_of_nonneg_left (show 1 ≤ k + j by omega) (Int.le_of_lt hd); omega
    subst hs
    have h0 : (a.den : Int) * (k + j) = 0 := by rw [Int.mul_add]; omega
    refine ⟨by rcases Int.mul_eq_zero.1 h0 with h | h <;> omega, ?_⟩
    rw [Rat.eq_iff_mul_eq_mul, (whole_n k).1, (whole_n k).2, Int.mul_one, Int.mul_comm]
    omega
  · right
    have h0 : (a.den : Int) * (k + j + 1) = a.den - r - s := by rw [Int.mul_add, Int.mul_add]; omega
    have hkj : k + j + 1 = 0 := by
      rcases Int.lt_trichotomy (k + j + 1) 0 with h | h | h
      · have := Int.mul_le_mul_of_nonneg_left (show k + j + 1 ≤ -1 by omega) (Int.le_of_lt hd); omega
      · exact h
      · have := Int.mul_le_mul_of_nonneg_left (show 1 ≤ k + j + 1 by omega) (Int.le_of_lt hd); omega
    refine ⟨by omega, (lt1 _).2 (by rw [Int.mul_comm]; omega), (lt2 _).2 ?_⟩
    rw [show -j = k + 1 by omega, Int.add_mul, Int.mul_comm]
    omega
theorem cmpQ_bd' (a b : Rat) : -1 ≤ cmpQ a b ∧ cmpQ a b ≤ 1 := by
  unfold cmpQ cmpI
  split
  · omega
  · split <;> omega
theorem cmpQ_le {a b : Rat} : cmpQ a b ≤ 0 ↔ a ≤ b := by
  have h1 := @cmpQ_gt a b
  have h2 := @cmpQ_lt a b
  have h3 := @cmpQ_eq a b
  have h4 := cmpQ_bd' a b
  constructor
  · intro h
    rcases (show cmpQ a b = -1 ∨ cmpQ a b = 0 by omega) with e | e
    · exact Rat.le_of_lt (h2.1 e)
    · rw [h3.1 e]; exact Rat.le_refl
  · intro h
    rcases (show cmpQ a b ≤ 0 ∨ cmpQ a b = 1 by omega) with e | e
    · exact e
    · exact absurd (h1.1 e) (by grind)
theorem ls_one {a b : Rat} {f : Int} (ha : 0 < a) (hab : a ≤ b) (h : Rat.divInt f 1 = a) : LsR a b a := by
  subst h
  obtain ⟨u1, u2⟩ := whole_n f
  have hf := (pos_iff' _).1 ha
  have hle := (Rat.le_iff _ _).1 hab
  rw [u1] at hf
  rw [u1, u2] at hle
  unfold LsR
  rw [u1, u2]
  have := Lst_one (B := 1) (C := b.num) (D := (b.den : Int)) (f := f) (by omega) hf (by rw [Int.one_mul]; exact hle)
  rwa [Int.one_mul] at this
theorem ls_two {a b : Rat} {f : Int} (hf : 0 ≤ f) (h1 : Rat.divInt f 1 < a) (h2 : a < Rat.divInt (f + 1) 1) (h3 : Rat.divInt (f + 1) 1 ≤ b) : LsR a b (Rat.divInt (f + 1) 1) := by
  obtain ⟨u1, u2⟩ := whole_n f
  obtain ⟨v1, v2⟩ := whole_n (f + 1)
  have e1 := (Rat.lt_iff _ _).1 h1
  have e2 := (Rat.lt_iff _ _).1 h2
  have e3 := (Rat.le_iff _ _).1 h3
  rw [u1, u2] at e1
  rw [v1, v2] at e2 e3
  have hA : a.num = (a.den : Int) * f + (a.num - f * a.den) := by rw [Int.mul_comm]; omega
  have := Lst_two (B := (a.den : Int)) (C := b.num) (D := (b.den : Int)) (f := f) (r := a.num - f * a.den) (den0 a) hf (by omega) (by rw [Int.add_mul] at e2; omega) (by rw [Int.add_mul] at e3; omega)
  rw [← hA] at this
  unfold LsR
  rw [v1, v2]
  exact this
theorem cR4leastG : ∀ (m N : Nat) (a b r : Rat), 3 ≤ N → N ≤ 1000 → 0 < a → a ≤ b → okq N m a.num (a.den : Int) b.num (b.den : Int) → LsR a b r → ∀ (W : World) (K : Nat) (v0 v1 : Value), K ≤ 100000 → Vq K a v0 W → Vq K b v1 W → Calls Tryz.prog 98 #[v0, v1] W (RV (Vq N r) W)
  | 0, _, _, _, _, _, _, _, _, h, _ => h.elim
  | m + 1, N, a, b, r, h3, hN, ha, hab, hok, hr => fun W K v0 v1 hK h0 h1 => by
    obtain ⟨l1, l2, l3, l4, hok⟩ := hok
    have g0 := Vq_fit h0 l1 l2
    have g1 := Vq_fit h1 l3 l4
    obtain ⟨y1, y2⟩ := hr.fit hab l1 l2
    obtain ⟨lo, hi, hlo, hhi, hfc⟩ := fl_ce' a
    have hlo0 : 0 ≤ lo := by
      rw [← hlo, (div_pos (den0 a)).1]
      exact Int.ediv_nonneg (by have := (pos_iff' a).1 ha; omega) (by have := den0 a; omega)
    rcases hfc with ⟨e1, e2⟩ | ⟨e1, e2, e3⟩
    · have hra : r = a := hr.uniq (ls_one ha hab e2)
      subst hra
      have hc : cmpQ (Rat.divInt hi 1) b ≤ 0 := cmpQ_le.2 (by rw [← e1, e2]; exact hab)
      refine (cR4least1 g0 g1 h3 hN hhi hc).mono fun e w h => h.le fun v w hv => ?_
      rw [← e1, e2] at hv
      exact Vq_fit hv y1 y2
    · subst e1
      by_cases hcb : Rat.divInt (lo + 1) 1 ≤ b
      · have hra := hr.uniq (ls_two hlo0 e2 e3 hcb)
        subst hra
        exact (cR4least1 g0 g1 h3 hN hhi (cmpQ_le.2 hcb)).mono fun e w h => h.le fun v w hv => Vq_fit hv y1 y2
      · obtain ⟨p1, p2, p3, p4, p5⟩ := ls_rest (r1 := 0) ha hab hlo0 e2 e3
        have hB := den0 a
        obtain ⟨s1, s2⟩ := sub_whole a lo
        obtain ⟨t1, t2⟩ := sub_whole b lo
        obtain ⟨i1, i2⟩ := inv_low p1
        obtain ⟨j1, j2⟩ := inv_low p2
        obtain ⟨d1, d2⟩ := div_pos (A := a.num) hB
        have f1 := Int.emod_add_mul_ediv a.num a.den
        have hmod : dr a.num (a.den : Int) = a.num - lo * a.den := by
          rw [d2]
          rw [d1] at hlo
          rw [hlo] at f1
          rw [Int.mul_comm lo]; omega
        have hok1 : okq N m (b - Rat.divInt lo 1)⁻¹.num ((b - Rat.divInt lo 1)⁻¹.den : Int) (a - Rat.divInt lo 1)⁻¹.num ((a - Rat.divInt lo 1)⁻¹.den : Int) := by
          rw [i1, i2, j1, j2, s1, s2, t1, t2]
          rw [hlo, hmod] at hok
          rcases hok with h | h | h
          · rw [s1] at p1; omega
          · exfalso
            refine hcb ((Rat.le_iff _ _).2 ?_)
            rw [(whole_n (lo + 1)).1, (whole_n (lo + 1)).2, Int.add_mul]
            omega
          · exact h
        obtain ⟨r1, q1, -⟩ := ls_ex p3 p4 hok1
        obtain ⟨-, -, -, -, p6⟩ := ls_rest (r1 := r1) ha hab hlo0 e2 e3
        have hra := hr.uniq (p6 q1)
        subst hra
        exact (cR4least2 g0 g1 h3 hN hhi (fun h => hcb (cmpQ_le.1 h)) hlo p2 p1 q1.p0 (fun W K u0 u1 hK k0 k1 => cR4leastG m N _ _ r1 h3 hN p3 p4 hok1 q1 W K u0 u1 hK k0 k1)).mono fun e w h => h.le fun v w hv => Vq_fit hv y1 y2
theorem cLeastG {m N : Nat} {a b r : Rat} (h3 : 1 ≤ N) (hN : N ≤ 20) (hm : m ≤ 1000) (ha : 0 < a) (hab : a ≤ b) (hok : okq N m a.num (a.den : Int) b.num (b.den : Int)) (hr : LsR a b r) {W : World} {v0 v1 : Value} (h0 : Vq N a v0 W) (h1 : Vq N b v1 W) : Calls Tryz.prog 97 #[v0, v1] W (RV (Vq N r) W) := by
  obtain ⟨r', e1, e2, e3, e4, e5⟩ := ls_ex ha hab hok
  have := hr.uniq e1
  subst this
  have hl := Vq_parts h0
  obtain ⟨y1, y2⟩ := hr.fit hab (Vz_len hl.1.choose_spec) (by
    have := Vz_len hl.2.choose_spec
    unfold qd at this
    split at this
    · rename_i hd; rw [hd]; exact Nat.le_trans (digs_one (by decide) (by decide)) h3
    · exact this)
  have hM : (N + 1 + 2) * (qsL m a.num (a.den : Int) b.num (b.den : Int)).length ≤ 23 * 1000 := Nat.mul_le_mul (by omega) (by omega)
  exact (cLeast (m := m) (M := 30000) h0 h1 h3 (by omega) hok (by omega) rfl e2 (by omega) (by omega) (by omega) ⟨e4, e5⟩).mono fun e w h => h.le fun v w hv => Vq_fit hv y1 y2
end Go.Proofs.YtleijkgdpmfabaaGreatDoor
