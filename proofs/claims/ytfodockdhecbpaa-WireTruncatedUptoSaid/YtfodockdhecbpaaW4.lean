/- wire.GetInt: decoding an integer. -/
import Derived.Test.YtfodockdhecbpaaW1
import Derived.Test.YtfodockdhecbpaaW2
namespace Go.Proofs.Ytfodockdhecbpaa
open Go.RowKit

set_option maxRecDepth 100000 in
set_option maxHeartbeats 400000 in
theorem getInt_nil (a : Option Addr) (c : Nat) (w : World) :
    Calls Try.prog 24 #[.slice a 0 c] w fun e w' => e = .returned (.tuple #[.int .i64 0, .int .i64 0, .int .i64 3]) ∧ w = w' := by
  go_enter Try.func24, Try.ntmps24
  go_wp2
  go_ret3
  exact ⟨rfl, rfl⟩

/-- the head's two numbers -/
theorem digits_any (c : UInt8) (w : World) :
    Calls Try.prog 44 #[.int .u8 (c.toNat : Int)] w fun e w' => e = .returned (.tuple #[.int .i64 (hk c : Nat), .int .u8 (flp (hg c))]) ∧ w = w' := by
  rcases Nat.lt_or_ge c.toNat 128 with h | h
  · refine (digits_lo c w h).mono ?_
    rintro e w' ⟨rfl, rfl⟩
    refine ⟨?_, rfl⟩
    unfold hk hg flp
    simp only [h, decide_true, if_true]
    rw [show (127 - (c.toNat : Int)) = ((127 - c.toNat : Nat) : Int) from by omega]
  · refine (digits_hi c w h).mono ?_
    rintro e w' ⟨rfl, rfl⟩
    refine ⟨?_, rfl⟩
    unfold hk hg flp
    have h' : ¬ c.toNat < 128 := by omega
    simp only [h', decide_false, if_false]
    rw [show ((c.toNat : Int) - 128) = ((c.toNat - 128 : Nat) : Int) from by omega]
    rfl

set_option maxRecDepth 100000 in
set_option maxHeartbeats 400000 in
theorem getInt_big (h : UInt8) (n c b off : Nat) (w : World) (h0 : 0 < n) (hc0 : w.cell? ⟨b, off, none⟩ = some (.int .u8 (h.toNat : Int))) (h8 : 8 < hk h) :
    Calls Try.prog 24 #[.slice (some ⟨b, off, none⟩) n c] w fun e w' => e = .returned (.tuple #[.int .i64 0, .int .i64 0, .int .i64 2]) ∧ w = w' := by
  have h1 : (((n : Nat) : Int) == 0) = false := by rw [beq_eq_false_iff_ne]; omega
  have h2 : 0 < (n : Int) := by omega
  go_enter Try.func24, Try.ntmps24
  go_wp2_with (go_at_call 44; refine (digits_any _ _).mono ?_; rintro e w' ⟨rfl, rfl⟩)
  go_ret3
  exact ⟨rfl, rfl⟩

set_option maxRecDepth 100000 in
set_option maxHeartbeats 400000 in
theorem getInt_short (h : UInt8) (n c b off : Nat) (w : World) (h0 : 0 < n) (hmax : n ≤ 9223372036854775807) (hc0 : w.cell? ⟨b, off, none⟩ = some (.int .u8 (h.toNat : Int))) (h8 : hk h ≤ 8) (hs : n - 1 < hk h) :
    Calls Try.prog 24 #[.slice (some ⟨b, off, none⟩) n c] w fun e w' => e = .returned (.tuple #[.int .i64 0, .int .i64 0, .int .i64 3]) ∧ w = w' := by
  have h1 : (((n : Nat) : Int) == 0) = false := by rw [beq_eq_false_iff_ne]; omega
  have h2 : 0 < (n : Int) := by omega
  have h3 : (n : Int) - 1 < (hk h : Nat) := by omega
  have h4 : ((hk h : Nat) : Int) ≤ 8 := by omega
  go_enter Try.func24, Try.ntmps24
  go_wp2_with (go_at_call 44; refine (digits_any _ _).mono ?_; rintro e w' ⟨rfl, rfl⟩)
  go_ret3
  exact ⟨rfl, rfl⟩

set_option maxRecDepth 100000 in
set_option maxHeartbeats 400000 in
/-- no digit follows the head -/
theorem getInt_zero (h : UInt8) (n c b off : Nat) (w : World) (h0 : 0 < n) (hmax : n ≤ c) (hmax : c ≤ 9223372036854775807) (hc0 : w.cell? ⟨b, off, none⟩ = some (.int .u8 (h.toNat : Int))) (h8 : Hid (hk h = 0)) (g : Bool) (hgg : Hid (hg h = g)) :
    Calls Try.prog 24 #[.slice (some ⟨b, off, none⟩) n c] w fun e w' => e = .returned (.tuple #[.int .i64 (sgn g 0), .int .i64 1, .int .i64 0]) ∧ w = w' := by
  have h1 : (((n : Nat) : Int) == 0) = false := by rw [beq_eq_false_iff_ne]; omega
  have h2 : 0 < (n : Int) := by omega
  cases g
  · have h3 : (flp false != 0) = false := by rfl
    go_enter Try.func24, Try.ntmps24
    go_wp2_with (first | (go_at_call 44; refine (digits_any _ _).mono ?_; rw [h8.out, hgg.out]; rintro e w' ⟨rfl, rfl⟩) | (go_at_call 45; refine (magn_0 _ _ _ _).mono ?_; rintro e w' ⟨rfl, rfl⟩))
    all_goals (go_ret3; exact ⟨rfl, rfl⟩)
  · have h3 : (flp true != 0) = true := by rfl
    go_enter Try.func24, Try.ntmps24
    go_wp2_with (first | (go_at_call 44; refine (digits_any _ _).mono ?_; rw [h8.out, hgg.out]; rintro e w' ⟨rfl, rfl⟩) | (go_at_call 45; refine (magn_0 _ _ _ _).mono ?_; rintro e w' ⟨rfl, rfl⟩))
    all_goals (go_ret3; exact ⟨rfl, rfl⟩)

/-- a cell behind a head -/
theorem cells_tail (w : World) (b off n : Nat) (h : UInt8) (t : List UInt8) (hc : ∀ i, i < n → w.cell? ⟨b, off + i, none⟩ = some (.int .u8 (byt (h :: t) i))) (k : Nat) (hk : k < n) :
    ∀ i, i < k → w.cell? ⟨b, off + 1 + i, none⟩ = some (.int .u8 (byt (t.take k) i)) := by
  intro i hi
  rw [show off + 1 + i = off + (i + 1) from by omega, hc (i + 1) (by omega)]
  unfold byt
  simp [List.getD_eq_getElem?_getD, List.getElem?_take, hi]

set_option maxRecDepth 100000 in
set_option maxHeartbeats 400000 in
theorem getInt_lead (h : UInt8) (ds : List UInt8) (n c b off k : Nat) (w : World) (hk0 : 0 < k) (h8 : k ≤ 8) (hn : k < n) (hmax : n ≤ c) (hmax : c ≤ 9223372036854775807) (hc0 : w.cell? ⟨b, off, none⟩ = some (.int .u8 (h.toNat : Int)))
    (hkk : Hid (hk h = k)) (g : Bool) (hgg : Hid (hg h = g)) (hds : Hid (k = ds.length))
    (hcs : Hid (∀ i, i < k → w.cell? ⟨b, off + 1 + i, none⟩ = some (.int .u8 (byt ds i)))) (hl : Hid (lead0 g ds = true)) :
    Calls Try.prog 24 #[.slice (some ⟨b, off, none⟩) n c] w fun e w' => e = .returned (.tuple #[.int .i64 0, .int .i64 0, .int .i64 2]) ∧ w = w' := by
  have h1 : (((n : Nat) : Int) == 0) = false := by rw [beq_eq_false_iff_ne]; omega
  have h2 : 0 < (n : Int) := by omega
  have h3 : ¬ c = 1 := by omega
  have hc1 := hcs.out 0 hk0
  rw [Nat.add_zero] at hc1
  have hl1 := Lib.hid ((lead_byt g ds (by rw [← hds.out]; exact hk0)).trans hl.out)
  go_enter Try.func24, Try.ntmps24
  go_wp2_with (first | (go_at_call 44; refine (digits_any _ _).mono ?_; rw [hkk.out, hgg.out]; rintro e w' ⟨rfl, rfl⟩) | (go_at_call 45; refine (magn_lead _ _ _ ds _ _ _ hds hk0 hc1 hl1.out).mono ?_; rintro e w' ⟨rfl, rfl⟩))
  go_ret3
  exact ⟨rfl, rfl⟩

set_option maxRecDepth 100000 in
set_option maxHeartbeats 400000 in
theorem getInt_over (h : UInt8) (ds : List UInt8) (n c b off k : Nat) (w : World) (hk0 : 0 < k) (h8 : k ≤ 8) (hn : k < n) (hmax : n ≤ c) (hmax : c ≤ 9223372036854775807) (hc0 : w.cell? ⟨b, off, none⟩ = some (.int .u8 (h.toNat : Int)))
    (hkk : Hid (hk h = k)) (g : Bool) (hgg : Hid (hg h = g)) (hds : Hid (k = ds.length))
    (hcs : Hid (∀ i, i < k → w.cell? ⟨b, off + 1 + i, none⟩ = some (.int .u8 (byt ds i)))) (hl : Hid (lead0 g ds = false)) (hm : Hid (9223372036854775807 < mag g ds)) :
    Calls Try.prog 24 #[.slice (some ⟨b, off, none⟩) n c] w fun e w' => e = .returned (.tuple #[.int .i64 0, .int .i64 0, .int .i64 2]) ∧ w = w' := by
  have h1 : (((n : Nat) : Int) == 0) = false := by rw [beq_eq_false_iff_ne]; omega
  have h2 : 0 < (n : Int) := by omega
  have h3 : ¬ c = 1 := by omega
  have hl1 := Lib.hid ((lead_byt g ds (by rw [← hds.out]; exact hk0)).trans hl.out)
  have hm1 : Hid (decide ((mag g ds : Int) ≤ 9223372036854775807) = false) := Lib.hid (by have := hm.out; simp; omega)
  go_enter Try.func24, Try.ntmps24
  go_wp2_with (first | (go_at_call 44; refine (digits_any _ _).mono ?_; rw [hkk.out, hgg.out]; rintro e w' ⟨rfl, rfl⟩) | (go_at_call 45; refine (magn_some _ _ _ ds _ _ _ _ hds h8 hk0 hcs.out hl1.out hm1).mono ?_; rintro e w' ⟨rfl, rfl⟩))
  go_ret3
  exact ⟨rfl, rfl⟩

set_option maxRecDepth 100000 in
set_option maxHeartbeats 400000 in
theorem getInt_some (h : UInt8) (ds : List UInt8) (n c b off k m : Nat) (w : World) (hk0 : 0 < k) (h8 : k ≤ 8) (hn : k < n) (hmax : n ≤ c) (hmax : c ≤ 9223372036854775807) (hc0 : w.cell? ⟨b, off, none⟩ = some (.int .u8 (h.toNat : Int)))
    (hkk : Hid (hk h = k)) (g : Bool) (hgg : Hid (hg h = g)) (hds : Hid (k = ds.length))
    (hcs : Hid (∀ i, i < k → w.cell? ⟨b, off + 1 + i, none⟩ = some (.int .u8 (byt ds i)))) (hl : Hid (lead0 g ds = false)) (hm : Hid (mag g ds = m)) (hmm : m ≤ 9223372036854775807) :
    Calls Try.prog 24 #[.slice (some ⟨b, off, none⟩) n c] w fun e w' => e = .returned (.tuple #[.int .i64 (sgn g m), .int .i64 (1 + (k : Int)), .int .i64 0]) ∧ w = w' := by
  have h1 : (((n : Nat) : Int) == 0) = false := by rw [beq_eq_false_iff_ne]; omega
  have h2 : 0 < (n : Int) := by omega
  have h3 : ¬ c = 1 := by omega
  have h4 : (m : Int) ≤ 9223372036854775807 := by omega
  have hl1 := Lib.hid ((lead_byt g ds (by rw [← hds.out]; exact hk0)).trans hl.out)
  have hm1 : Hid (decide ((mag g ds : Int) ≤ 9223372036854775807) = true) := Lib.hid (by rw [hm.out]; simp; omega)
  cases g
  · have h5 : (flp false != 0) = false := by rfl
    go_enter Try.func24, Try.ntmps24
    go_wp2_with (first | (go_at_call 44; refine (digits_any _ _).mono ?_; rw [hkk.out, hgg.out]; rintro e w' ⟨rfl, rfl⟩) | (go_at_call 45; refine (magn_some _ _ _ ds _ _ _ _ hds h8 hk0 hcs.out hl1.out hm1).mono ?_; rw [hm.out]; rintro e w' ⟨rfl, rfl⟩))
    go_ret3
    exact ⟨rfl, rfl⟩
  · have h5 : (flp true != 0) = true := by rfl
    go_enter Try.func24, Try.ntmps24
    go_wp2_with (first | (go_at_call 44; refine (digits_any _ _).mono ?_; rw [hkk.out, hgg.out]; rintro e w' ⟨rfl, rfl⟩) | (go_at_call 45; refine (magn_some _ _ _ ds _ _ _ _ hds h8 hk0 hcs.out hl1.out hm1).mono ?_; rw [hm.out]; rintro e w' ⟨rfl, rfl⟩))
    go_ret3
    exact ⟨rfl, rfl⟩

theorem GetInt_any (a : Option Addr) (n c : Nat) (l : List UInt8) (w : World) (hR : Rd w a l) (hn : n = l.length) (hnc : n ≤ c) (hmax : c ≤ 9223372036854775807) (x : Int) (u : Nat) (er : Int) (hr : gi l = (x, u, er)) :
    Calls Try.prog 24 #[.slice a n c] w fun e w' => e = .returned (.tuple #[.int .i64 x, .int .i64 u, .int .i64 er]) ∧ w = w' := by
  cases l with
  | nil =>
    simp only [gi, Prod.mk.injEq] at hr
    obtain ⟨rfl, rfl, rfl⟩ := hr
    simp only [List.length_nil] at hn
    subst hn
    exact getInt_nil a c w
  | cons h t =>
    rcases hR with hR | ⟨b, off, rfl, hc⟩
    · cases hR
    · have h0 : 0 < n := by rw [hn]; simp
      have hc0 : w.cell? ⟨b, off, none⟩ = some (.int .u8 (h.toNat : Int)) := hc 0 (by simp)
      rw [← hn] at hc
      simp only [gi] at hr
      by_cases c1 : 8 < hk h
      · rw [if_pos c1] at hr
        simp only [Prod.mk.injEq] at hr
        obtain ⟨rfl, rfl, rfl⟩ := hr
        exact getInt_big h n c b off w h0 hc0 c1
      rw [if_neg c1] at hr
      by_cases c2 : t.length < hk h
      · rw [if_pos c2] at hr
        simp only [Prod.mk.injEq] at hr
        obtain ⟨rfl, rfl, rfl⟩ := hr
        exact getInt_short h n c b off w h0 (by omega) hc0 (by omega) (by rw [hn]; simpa using c2)
      rw [if_neg c2] at hr
      by_cases k0 : hk h = 0
      · rw [k0, List.take_zero, if_neg (by simp [lead0]), if_neg (by simp [mag]), Prod.mk.injEq, Prod.mk.injEq] at hr
        obtain ⟨rfl, rfl, rfl⟩ := hr
        exact getInt_zero h n c b off w h0 hnc hmax hc0 k0 _ rfl
      have hkn : hk h < n := by rw [hn]; simp; omega
      have hcs := cells_tail w b off n h t hc (hk h) hkn
      have hds : hk h = (t.take (hk h)).length := by simp; omega
      by_cases c3 : lead0 (hg h) (t.take (hk h)) = true
      · rw [if_pos c3] at hr
        simp only [Prod.mk.injEq] at hr
        obtain ⟨rfl, rfl, rfl⟩ := hr
        exact getInt_lead h _ n c b off (hk h) w (by omega) (by omega) hkn hnc hmax hc0 rfl _ rfl hds hcs c3
      rw [if_neg c3] at hr
      have c3' : lead0 (hg h) (t.take (hk h)) = false := by simpa using c3
      by_cases c4 : 9223372036854775807 < mag (hg h) (t.take (hk h))
      · rw [if_pos c4] at hr
        simp only [Prod.mk.injEq] at hr
        obtain ⟨rfl, rfl, rfl⟩ := hr
        exact getInt_over h _ n c b off (hk h) w (by omega) (by omega) hkn hnc hmax hc0 rfl _ rfl hds hcs c3' c4
      · rw [if_neg c4] at hr
        simp only [Prod.mk.injEq] at hr
        obtain ⟨rfl, rfl, rfl⟩ := hr
        exact getInt_some h _ n c b off (hk h) _ w (by omega) (by omega) hkn hnc hmax hc0 rfl _ rfl hds hcs c3' rfl (by omega)

end Go.Proofs.Ytfodockdhecbpaa
