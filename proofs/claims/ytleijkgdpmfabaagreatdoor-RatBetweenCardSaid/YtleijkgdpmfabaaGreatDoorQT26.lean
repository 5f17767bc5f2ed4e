/- The least number between two: mathematics. -/
import Derived.Test.YtleijkgdpmfabaaGreatDoorQX4
import Derived.Test.YtleijkgdpmfabaaGreatDoorW37
set_option linter.unusedVariables false
namespace Go.Proofs.YtleijkgdpmfabaaGreatDoor
open Go.RowKit
structure Lst (A B C D p q : Int) : Prop where
  p0 : 0 < p
  q0 : 0 < q
  cop : Int.gcd p q = 1
  lo : A * q ≤ p * B
  hi : p * D ≤ C * q
  min : ∀ s t : Int, 0 < t → A * t ≤ s * B → s * D ≤ C * t → p ≤ s ∧ q ≤ t
theorem div_pos {A B : Int} (hB : 0 < B) : dq A B = A / B ∧ dr A B = A % B := ⟨if_neg (by omega), if_neg (by omega)⟩
theorem Lst_one {B C D f : Int} (hB : 0 < B) (hf : 0 < f) (hle : B * f * D ≤ C * B) : Lst (B * f) B C D f 1 := by
  refine ⟨hf, by omega, by simp, by grind, ?_, fun s t ht h1 h2 => ?_⟩
  · have : (f * D) * B ≤ C * B := by grind
    have := Int.le_of_mul_le_mul_right this hB
    grind
  · have h3 : (f * t) * B ≤ s * B := by grind
    have h4 := Int.le_of_mul_le_mul_right h3 hB
    have h5 : f * 1 ≤ f * t := Int.mul_le_mul_of_nonneg_left (by omega) (by omega)
    omega
theorem Lst_two {B C D f r : Int} (hB : 0 < B) (hf : 0 ≤ f) (hr : 0 < r) (hrB : r < B) (h2 : D ≤ C - f * D) : Lst (B * f + r) B C D (f + 1) 1 := by
  refine ⟨by omega, by omega, by simp, by grind, by grind, fun s t ht h1 h2 => ?_⟩
  have h3 : (f * t) * B < s * B := by
    have : 0 < r * t := Int.mul_pos (by omega) ht
    grind
  have h4 := Int.lt_of_mul_lt_mul_right h3 (by omega)
  have h5 : f * 1 ≤ f * t := Int.mul_le_mul_of_nonneg_left (by omega) hf
  omega
theorem rest_pos {B C D f r : Int} (hB : 0 < B) (hD : 0 < D) (hr : 0 < r) (hle : (B * f + r) * D ≤ C * B) : 0 < C - f * D := by
  have hE0 : 0 < (C - f * D) * B := by
    have : 0 < r * D := Int.mul_pos hr hD
    grind
  rcases Int.lt_or_le 0 (C - f * D) with h | h
  · exact h
  · have := Int.mul_le_mul_of_nonneg_right h (Int.le_of_lt hB); omega
theorem Lst_more {B C D f r p' q' : Int} (hB : 0 < B) (hf : 0 ≤ f) (hr : 0 < r) (h : Lst D (C - f * D) B r p' q') : Lst (B * f + r) B C D (f * p' + q') p' := by
  obtain ⟨p0, q0, cop, lo, hi, mn⟩ := h
  have hfp : 0 ≤ f * p' := Int.mul_nonneg hf (by omega)
  refine ⟨by omega, p0, ?_, by grind, by grind, fun s t ht h1 h2 => ?_⟩
  · rw [Int.gcd_comm, Int.add_comm, Int.gcd_add_mul_right_right]; exact cop
  · have ht1 : 0 < s - f * t := by
      have h3 : (f * t) * B < s * B := by
        have : 0 < r * t := Int.mul_pos hr ht
        grind
      have h4 := Int.lt_of_mul_lt_mul_right h3 (by omega)
      omega
    obtain ⟨j1, j2⟩ := mn t (s - f * t) ht1 (by grind) (by grind)
    have h5 : f * p' ≤ f * t := Int.mul_le_mul_of_nonneg_left j1 hf
    exact ⟨by omega, j1⟩
theorem lst_of : ∀ (m N : Nat) (A B C D : Int), 0 < A → 0 < B → 0 < D → A * D ≤ C * B → okq N m A B C D → qsL m A B C D ≠ [] ∧ (qsL m A B C D).length ≤ m ∧ Lst A B C D (fld (qsL m A B C D) 1 0).1 (fld (qsL m A B C D) 1 0).2
  | 0, _, _, _, _, _, _, _, _, _, h => h.elim
  | m + 1, N, A, B, C, D, hA, hB, hD, hle, hok => by
    obtain ⟨-, -, -, -, hok⟩ := hok
    obtain ⟨e1, e2⟩ := div_pos (A := A) hB
    have f1 := Int.emod_add_mul_ediv A B
    have f2 := Int.emod_nonneg A (b := B) (by omega)
    have f3 := Int.emod_lt_of_pos A hB
    have f4 : 0 ≤ A / B := Int.ediv_nonneg (by omega) (by omega)
    rw [e1, e2] at hok
    by_cases h1 : A % B = 0
    · rw [qsL_one (by rw [e2]; exact h1), e1]
      generalize A / B = f at *
      have hA2 : A = B * f := by omega
      subst hA2
      have hf : 0 < f := by
        rcases Int.lt_or_le 0 f with h | h
        · exact h
        · have : f = 0 := by omega
          subst this; simp at hA
      have := Lst_one hB hf hle
      exact ⟨by simp, by simp, by show Lst _ _ _ _ (f * 1 + 0) 1; rw [show f * 1 + 0 = f by omega]; exact this⟩
    · by_cases h2 : D ≤ C - A / B * D
      · rw [qsL_two (by rw [e2]; exact h1) (by rw [e1]; exact h2), e1]
        generalize A / B = f at *
        generalize A % B = r at *
        have hA2 : A = B * f + r := by omega
        subst hA2
        have := Lst_two hB f4 (by omega) f3 h2
        exact ⟨by simp, by simp, by show Lst _ _ _ _ ((f + 1) * 1 + 0) 1; rw [show (f + 1) * 1 + 0 = f + 1 by omega]; exact this⟩
      · have hok := (hok.resolve_left h1).resolve_left h2
        rw [qsL_more (by rw [e2]; exact h1) (by rw [e1]; exact h2), e1, e2]
        generalize A / B = f at *
        generalize A % B = r at *
        have hA2 : A = B * f + r := by omega
        subst hA2
        have hr : 0 < r := by omega
        have hE := rest_pos hB hD hr hle
        obtain ⟨i1, i3, i2⟩ := lst_of m N D (C - f * D) B r hD hE hr (by grind) hok
        exact ⟨by simp, by simp; omega, Lst_more hB f4 hr i2⟩
theorem okq_enough (N : Nat) (X : Int) (hX : ∀ x : Int, 0 ≤ x → x ≤ X → (digs x.natAbs).length ≤ N) : ∀ (k : Nat) (A B C D : Int), 0 < A → 0 < B → 0 < C → 0 < D → A ≤ X → B ≤ X → C ≤ X → D ≤ X → A * D ≤ C * B → B * D < 4 ^ k → okq N (2 * k + 1) A B C D
  | 0, A, B, C, D, _, hB, _, hD, _, _, _, _, _, hk => by
    have := Int.mul_le_mul_of_nonneg_left (show 1 ≤ D by omega) (Int.le_of_lt hB)
    simp at hk
    omega
  | k + 1, A, B, C, D, hA, hB, hC, hD, xA, xB, xC, xD, hle, hk => by
    refine ⟨hX A (by omega) xA, hX B (by omega) xB, hX C (by omega) xC, hX D (by omega) xD, ?_⟩
    obtain ⟨e1, e2⟩ := div_pos (A := A) hB
    have f1 := Int.emod_add_mul_ediv A B
    have f2 := Int.emod_nonneg A (b := B) (by omega)
    have f3 := Int.emod_lt_of_pos A hB
    have f4 : 0 ≤ A / B := Int.ediv_nonneg (by omega) (by omega)
    rw [e1, e2]
    by_cases h1 : A % B = 0
    · exact .inl h1
    by_cases h2 : D ≤ C - A / B * D
    · exact .inr (.inl h2)
    refine .inr (.inr ?_)
    generalize A / B = f at *
    generalize A % B = r at *
    have hA2 : A = B * f + r := by omega
    subst hA2
    have hr : 0 < r := by omega
    have hE0 : 0 < (C - f * D) * B := by
      have : 0 < r * D := Int.mul_pos hr hD
      grind
    have hE : 0 < C - f * D := by
      rcases Int.lt_or_le 0 (C - f * D) with h | h
      · exact h
      · have := Int.mul_le_mul_of_nonneg_right h (Int.le_of_lt hB); omega
    have hle1 : D * r ≤ B * (C - f * D) := by grind
    generalize hEE : C - f * D = E at *
    refine ⟨hX D (by omega) xD, hX E (by omega) (by omega), hX B (by omega) xB, hX r (by omega) (by omega), ?_⟩
    obtain ⟨d1, d2⟩ := div_pos (A := D) hE
    have g1 := Int.emod_add_mul_ediv D E
    have g2 := Int.emod_nonneg D (b := E) (by omega)
    have g3 := Int.emod_lt_of_pos D hE
    have g4 : 0 ≤ D / E := Int.ediv_nonneg (by omega) (by omega)
    have g5 : 1 ≤ D / E := by rw [Int.le_ediv_iff_mul_le hE]; omega
    rw [d1, d2]
    by_cases h3 : D % E = 0
    · exact .inl h3
    by_cases h4 : r ≤ B - D / E * r
    · exact .inr (.inl h4)
    refine .inr (.inr ?_)
    generalize D / E = f' at *
    generalize D % E = r' at *
    have hr' : 0 < r' := by omega
    have hD2 : D = E * f' + r' := by omega
    have hE' : 0 < (B - f' * r) * E := by
      have : 0 < r' * r := Int.mul_pos hr' hr
      subst hD2
      grind
    have hE1 : 0 < B - f' * r := by
      rcases Int.lt_or_le 0 (B - f' * r) with h | h
      · exact h
      · have := Int.mul_le_mul_of_nonneg_right h (Int.le_of_lt hE); omega
    have q1 : r * 1 ≤ r * f' := Int.mul_le_mul_of_nonneg_left g5 (by omega)
    have q2 : E * 1 ≤ E * f' := Int.mul_le_mul_of_nonneg_left g5 (by omega)
    have q3 : f' * r = r * f' := Int.mul_comm _ _
    have q4 : 2 * (B - f' * r) ≤ B := by omega
    have q5 : 2 * r' ≤ D := by omega
    have q6 : (2 * (B - f' * r)) * (2 * r') ≤ B * D := Int.mul_le_mul q4 q5 (by omega) (by omega)
    have q7 : (4 : Int) ^ (k + 1) = 4 ^ k * 4 := Int.pow_succ ..
    have hle2 : r * r' ≤ E * (B - f' * r) := by subst hD2; grind
    exact okq_enough N X hX k r (B - f' * r) E r' hr hE1 hE hr' (by omega) (by omega) (by omega) (by omega) hle2 (by grind)
theorem pos_iff' (q : Rat) : 0 < q ↔ 0 < q.num := by rw [Rat.lt_iff]; simp
def LsR (a b r : Rat) : Prop := Lst a.num (a.den : Int) b.num (b.den : Int) r.num (r.den : Int)
theorem LsR.uniq {a b r r' : Rat} (h : LsR a b r) (h' : LsR a b r') : r = r' := by
  have h1 := h.min r'.num (r'.den : Int) h'.q0 h'.lo h'.hi
  have h2 := h'.min r.num (r.den : Int) h.q0 h.lo h.hi
  exact Rat.ext (by omega) (by omega)
theorem LsR.le {a b r : Rat} (h : LsR a b r) : a ≤ r ∧ r ≤ b := by
  rw [Rat.le_iff, Rat.le_iff]
  exact ⟨h.lo, h.hi⟩
theorem LsR.pos {a b r : Rat} (h : LsR a b r) : 0 < r := (pos_iff' r).2 h.p0
theorem LsR.den {a b r s : Rat} (h : LsR a b r) (h1 : a ≤ s) (h2 : s ≤ b) : r.num ≤ s.num ∧ (r.den : Int) ≤ (s.den : Int) := by
  rw [Rat.le_iff] at h1 h2
  exact h.min s.num (s.den : Int) (by have := s.den_pos; omega) h1 h2
theorem LsR.sub {a b r a' b' : Rat} (h : LsR a b r) (h1 : a ≤ a') (h2 : a' ≤ r) (h3 : r ≤ b') (h4 : b' ≤ b) : LsR a' b' r := by
  have k2 := (Rat.le_iff _ _).1 h2
  have k3 := (Rat.le_iff _ _).1 h3
  refine ⟨h.p0, h.q0, h.cop, k2, k3, fun s t ht e1 e2 => h.min s t ht ?_ ?_⟩
  · have da : (0 : Int) < a'.den := by have := a'.den_pos; omega
    have k1 := (Rat.le_iff _ _).1 h1
    have q1 : (a.num * t) * a'.den ≤ (s * a.den) * a'.den := by
      have w1 := Int.mul_le_mul_of_nonneg_right k1 (Int.le_of_lt ht)
      have w2 := Int.mul_le_mul_of_nonneg_right e1 (show (0 : Int) ≤ a.den by omega)
      grind
    exact Int.le_of_mul_le_mul_right q1 da
  · have db : (0 : Int) < b'.den := by have := b'.den_pos; omega
    have k4 := (Rat.le_iff _ _).1 h4
    have q1 : (s * b.den) * b'.den ≤ (b.num * t) * b'.den := by
      have w1 := Int.mul_le_mul_of_nonneg_right k4 (Int.le_of_lt ht)
      have w2 := Int.mul_le_mul_of_nonneg_right e2 (show (0 : Int) ≤ b.den by omega)
      grind
    exact Int.le_of_mul_le_mul_right q1 db
theorem LsR.self {a : Rat} (h : 0 < a) : LsR a a a := by
  have hp := (pos_iff' a).1 h
  have hd : (0 : Int) < a.den := by have := a.den_pos; omega
  refine ⟨hp, hd, ?_, Int.le_refl _, Int.le_refl _, fun s t ht e1 e2 => ?_⟩
  · have := a.reduced
    unfold Nat.Coprime at this
    rw [Int.gcd_eq_natAbs_gcd_natAbs]; simpa using this
  · have e : a.num * t = s * a.den := by omega
    have hc : Nat.Coprime a.den a.num.natAbs := by have := a.reduced; unfold Nat.Coprime at this ⊢; rw [Nat.gcd_comm]; exact this
    have hdv : (a.den : Int) ∣ t := by
      have h1 : a.den ∣ a.num.natAbs * t.natAbs := by
        rw [← Int.natAbs_mul, e, Int.natAbs_mul]
        exact ⟨s.natAbs, by simp [Nat.mul_comm]⟩
      have h2 := hc.dvd_of_dvd_mul_left h1
      exact Int.natAbs_dvd_natAbs.1 (by simpa using h2)
    obtain ⟨u, rfl⟩ := hdv
    have hu : 0 < u := by
      rcases Int.lt_or_le 0 u with h | h
      · exact h
      · have := Int.mul_le_mul_of_nonneg_left h (Int.le_of_lt hd); omega
    have hs : s = a.num * u := by
      have : (a.num * u) * a.den = s * a.den := by grind
      exact (Int.eq_of_mul_eq_mul_right (by omega) this).symm
    subst hs
    have w1 := Int.mul_le_mul_of_nonneg_left (show 1 ≤ u by omega) (Int.le_of_lt hp)
    have w2 := Int.mul_le_mul_of_nonneg_left (show 1 ≤ u by omega) (Int.le_of_lt hd)
    omega
theorem rat_low {p q : Int} {r : Rat} (hq : 0 < q) (hg : Int.gcd p q = 1) (h : r = Rat.divInt p q) : r.num = p ∧ (r.den : Int) = q := by
  have e := make_low (p := p) hq
  rw [hg] at e
  subst h
  simpa using e
theorem whole_n (z : Int) : (Rat.divInt z 1).num = z ∧ ((Rat.divInt z 1).den : Int) = 1 := rat_low (by omega) (by simp) rfl
theorem red_gcd (q : Rat) : Int.gcd q.num (q.den : Int) = 1 := by
  have := q.reduced
  unfold Nat.Coprime at this
  rw [Int.gcd_eq_natAbs_gcd_natAbs]; simpa using this
theorem den0 (q : Rat) : (0 : Int) < q.den := by have := q.den_pos; omega
theorem add_whole (q : Rat) (f : Int) : (Rat.divInt f 1 + q).num = f * q.den + q.num ∧ ((Rat.divInt f 1 + q).den : Int) = q.den := by
  refine rat_low (den0 q) ?_ ?_
  · rw [Int.add_comm, Int.gcd_add_mul_right_left]; exact red_gcd q
  · have h := add_mk (Rat.divInt f 1) q
    rw [(whole_n f).1, (whole_n f).2] at h
    rw [← h]; simp
theorem sub_whole (q : Rat) (f : Int) : (q - Rat.divInt f 1).num = q.num - f * q.den ∧ ((q - Rat.divInt f 1).den : Int) = q.den := by
  have e : q - Rat.divInt f 1 = Rat.divInt (-f) 1 + q := by
    have : Rat.divInt (-f) 1 = -Rat.divInt f 1 := by simp
    rw [this]; grind
  have h := add_whole q (-f)
  rw [← e] at h
  exact ⟨by rw [h.1, Int.neg_mul]; omega, h.2⟩
theorem ls_ex {m N : Nat} {a b : Rat} (ha : 0 < a) (hab : a ≤ b) (hok : okq N m a.num (a.den : Int) b.num (b.den : Int)) : ∃ r, LsR a b r ∧ qsL m a.num (a.den : Int) b.num (b.den : Int) ≠ [] ∧ (qsL m a.num (a.den : Int) b.num (b.den : Int)).length ≤ m ∧ r.num = (fld (qsL m a.num (a.den : Int) b.num (b.den : Int)) 1 0).1 ∧ (r.den : Int) = (fld (qsL m a.num (a.den : Int) b.num (b.den : Int)) 1 0).2 := by
  obtain ⟨h1, h2, h3⟩ := lst_of m N a.num a.den b.num b.den ((pos_iff' a).1 ha) (den0 a) (den0 b) ((Rat.le_iff _ _).1 hab) hok
  obtain ⟨e1, e2⟩ := rat_low h3.q0 h3.cop (r := Rat.divInt _ _) rfl
  refine ⟨_, ?_, h1, h2, e1, e2⟩
  unfold LsR
  rw [e1, e2]; exact h3
end Go.Proofs.YtleijkgdpmfabaaGreatDoor
