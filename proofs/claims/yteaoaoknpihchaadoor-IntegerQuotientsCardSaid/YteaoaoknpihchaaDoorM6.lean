/- Contracts of the package integer and its reference: integer.root: Newton's steps. The plain mathematics of layer 1 (as in the texts of stage 1). wire.putInt (as in the texts of stage 1). -/
import Derived.Test.YteaoaoknpihchaaDoorM5
import Derived.Deep.LoopGhost
import Derived.Test.YteaoaoknpihchaaDoorM1
import Derived.Laws.BitsAllLaws
import Derived.WalkMore
set_option linter.unusedVariables false
namespace Go.Proofs.YteaoaoknpihchaaDoor
open Go.RowKit

theorem sq_nonneg' (a : Int) : 0 ≤ a * a := by
  rcases Int.lt_or_le a 0 with h | h
  · have : 0 ≤ (-a) * (-a) := Int.mul_nonneg (by omega) (by omega)
    rwa [Int.neg_mul_neg] at this
  · exact Int.mul_nonneg h h
theorem newton_stop {X R q r N m : Int} (h : X = R * q + r) (hr0 : 0 ≤ r) (hR : 0 < R) (hN : R + q = 2 * N + m) (hm : m < 2) (hle : R ≤ N) (hm0 : 0 ≤ m) : R * R ≤ X := by
  by_cases h1 : R ≤ q
  · have : R * R ≤ R * q := Int.mul_le_mul_of_nonneg_left h1 (by omega)
    omega
  · omega
theorem newton_go {X R q r N m : Int} (h : X = R * q + r) (hr1 : r < R) (hN : R + q = 2 * N + m) (hm : m < 2) (hX : 0 < X) (hN0 : 0 ≤ N) (hR : 0 < R) (hq : 0 ≤ q) : X < (N + 1) * (N + 1) ∧ 0 < N := by
  have h1 : (R - (q + 1)) * (R - (q + 1)) = (R + (q + 1)) * (R + (q + 1)) - 4 * (R * (q + 1)) := by grind
  have h2 := sq_nonneg' (R - (q + 1))
  have h3 : R * (q + 1) = R * q + R := by grind
  have h4 : (R + (q + 1)) * (R + (q + 1)) ≤ (2 * N + 2) * (2 * N + 2) := Int.mul_le_mul (by omega) (by omega) (by omega) (by omega)
  have h5 : (2 * N + 2) * (2 * N + 2) = 4 * ((N + 1) * (N + 1)) := by grind
  have h6 : X < (N + 1) * (N + 1) := by omega
  refine ⟨h6, ?_⟩
  rcases Int.lt_or_le 0 N with h7 | h7
  · exact h7
  · have : N = 0 := by omega
    rw [this] at h6
    omega
/-- the square root, rounded down -/
def RtP (w : World) (x : List Int) (e : Ending) (w' : World) : Prop :=
  ∃ p n c r, e = .returned (.slice p n c) ∧ Rdi w' p r ∧ r.length = n ∧ n ≤ c ∧ c ≤ 9223372036854775807 ∧ Dg r ∧ 0 ≤ val r ∧ val r * val r ≤ val x ∧ val x < (val r + 1) * (val r + 1) ∧ tlen r = r.length ∧ n ≤ x.length ∧ (∀ q, p = some q → w.heap.size ≤ q.block) ∧ Below w.heap.size w w'
/-- what a round of it keeps -/
def RtI (w : World) (x : List Int) (k : Nat) (v : Value) (wr : World) : Prop :=
  ∃ p n c r, v = .slice p n c ∧ Rdi wr p r ∧ r.length = n ∧ n ≤ c ∧ c ≤ 9223372036854775807 ∧ Dg r ∧ 0 < val r ∧ val x < (val r + 1) * (val r + 1) ∧ tlen r = r.length ∧ n ≤ x.length ∧ (∀ q, p = some q → w.heap.size ≤ q.block) ∧ Below w.heap.size w wr ∧ (val r).toNat = k
theorem rt_len {x r : List Int} (hx : Dg x) (hr : Dg r) (ht : tlen r = r.length) (hle : val r ≤ val x) : r.length ≤ x.length := by
  have h1 := digs_val hr ht
  have h2 := hr.lo
  rw [← h1]
  exact digs_len_le (by have := hx.hi; omega)
theorem top_of {r : List Int} (hr : Dg r) (ht : tlen r = r.length) (hp : 0 < val r) : 1 ≤ iat r (r.length - 1) ∧ 0 < r.length := by
  have h1 := digs_val hr ht
  have h2 := digs_top (n := (val r).toNat) (by omega)
  rw [h1] at h2
  have h3 := (hr.all (r.length - 1)).1
  refine ⟨by omega, ?_⟩
  rcases Nat.eq_zero_or_pos r.length with h | h
  · rw [List.eq_nil_of_length_eq_zero h] at hp; exact absurd hp (by decide)
  · exact h

set_option maxRecDepth 100000 in
set_option maxHeartbeats 1600000 in
theorem root_of (a : Option Addr) (n c : Nat) (x : List Int) (w : World) (hR0 : Rdi w a x) (hn0 : n = x.length) (hd0 : Dg x) (hm : n ≤ 274877906943) (hx0 : 0 < val x) (hab0 : ∀ W, Below w.heap.size w W → Calls Tryd.prog 75 #[.slice a n c] W (AbvP W x)) :
    Calls Tryd.prog 57 #[.slice a n c] w (RtP w x) := by
  have hab := Lib.hid hab0
  have H := Lib.hid hR0
  have N := Lib.hid hn0
  have D := Lib.hid hd0
  have hnp : 0 < n := by
    rcases Nat.eq_zero_or_pos n with h | h
    · rw [h] at hn0; rw [List.eq_nil_of_length_eq_zero hn0.symm] at hx0; exact absurd hx0 (by decide)
    · exact h
  have hX := Lib.hid hx0
  have t1 : ((n : Int) == 0) = false := by simp; omega
  clear hab0 hR0 hn0 hd0 hx0
  go_enter Tryd.func57, Tryd.ntmps57
  go_wp2_with (go_at_call 75; refine (hab.out _ (Below.refl _ _)).mono ?_; rintro e w1 ⟨p, n1, c1, r, rfl, hRr, hrl, hnc, hcb, hrd, hr0, hrx, hrt, hmn, hpn, hb1⟩; have hI : Hid (RtI w x (val r).toNat (.slice p n1 c1) w1) := Lib.hid ⟨p, n1, c1, r, rfl, hRr, hrl, hnc, hcb, hrd, hr0, (by have h9 : (val r + 1) * (val r + 1) = val r * val r + 2 * val r + 1 := (by grind); omega), hrt, hmn, hpn, hb1, rfl⟩; clear hRr hrl hnc hcb hrd hr0 hrx hrt hb1 hmn hpn)
  go_loopg [3] ((val r).toNat) (fun k v wr => RtI w x k v wr)
  case atStart => exact hI.out
  case round =>
    clear hI
    obtain ⟨p2, n2, c2, r2, rfl, hR2, hl2, hnc2, hcb2, hd2, hp2, hx2, ht2, hlx2, hpn2, hB2, hk2⟩ := hrel
    have htop := top_of hd2 ht2 hp2
    have hdv : Hid (Calls Tryd.prog 49 #[.slice a n c, .slice p2 n2 c2] wr (DivdP wr x r2)) := Lib.hid (divided_any _ _ _ _ _ _ x r2 wr (Rdi_below hB2 H.out) hR2 N.out hl2.symm D.out hd2 (by omega) (by have := N.out; omega) (by omega) (by rw [← hl2]; exact htop.1))
    have hS : Hid (RtI w x gk (.slice p2 n2 c2) wr) := Lib.hid ⟨p2, n2, c2, r2, rfl, hR2, hl2, hnc2, hcb2, hd2, hp2, hx2, ht2, hlx2, hpn2, hB2, hk2⟩
    have hR2' := Lib.hid hR2
    have hl2' := Lib.hid hl2
    have hd2' := Lib.hid hd2
    have hp2' := Lib.hid hp2
    have hx2' := Lib.hid hx2
    have ht2' := Lib.hid ht2
    have hlx2' := Lib.hid hlx2
    have hB2' := Lib.hid hB2
    have hk2' := Lib.hid hk2
    have hpn2' := Lib.hid hpn2
    clear htop hR2 hl2 hd2 hp2 hx2 ht2 hlx2 hB2 hk2 hpn2
    go_wp2_with fail
    refine hdv.out.mono ?_
    rintro e w3 ⟨p3, n3, q, h3, m3, rs, rfl, hRq, hql, hqn, hh3, hrs, hrsl, hb3, hn3, hm3, hm3y, hdq⟩
    have hsm : Hid (Calls Tryd.prog 51 #[.slice p2 n2 c2, .slice p3 n3 n3] w3 (NewI w3 (SumP r2 q))) := Lib.hid (sum_any _ _ _ _ _ _ r2 q w3 (Rdi_below hb3 hR2'.out) hRq hl2'.out.symm hql.symm hd2'.out hdq.1 (by have := hlx2'.out; have := N.out; omega) (by have := N.out; omega))
    have hdq' := Lib.hid hdq
    have hb3' := Lib.hid hb3
    have hql' := Lib.hid hql
    have hn3' := Lib.hid hn3
    clear hRq hql hqn hh3 hrs hrsl hb3 hn3 hm3 hm3y hdq hdv
    go_wp2_with fail
    refine hsm.out.mono ?_
    rintro e w4 ⟨g4, n4, z4, rfl, hg4, hz4, hb4, hl4, hs4⟩
    have hzl : Hid (n4 ≤ n + 1) := Lib.hid (by
      have h1 := hs4.2.2
      have h2 := hlx2'.out
      have h3 := hn3'.out
      have h4 := hl2'.out
      have h5 := hql'.out
      have h6 := N.out
      omega)
    have hsd : Hid (Calls Tryd.prog 68 #[.slice (some ⟨g4, 0, none⟩) n4 n4, .int .i64 2] w4 (DivS w4 z4 2)) := Lib.hid (shortDivided_any _ _ _ z4 2 w4 hz4.rdi hl4.symm hs4.1 (by omega) (by omega) (by have := hzl.out; omega))
    have hs4' := Lib.hid hs4
    have hb4' := Lib.hid hb4
    have hl4' := Lib.hid hl4
    clear hz4 hb4 hl4 hs4 hsm
    go_wp2_with fail
    refine hsd.out.mono ?_
    rintro e w5 ⟨g5, g6, n5, q5, r5, rfl, hg5, hg6, hq5, hr5, hb5, hn5, hdv5⟩
    have htr : Hid (Calls Tryd.prog 50 #[.slice (some ⟨g5, 0, none⟩) n5 n5] w5 fun e w' => e = .returned (.slice (some ⟨g5, 0, none⟩) (tlen q5) n5) ∧ w5 = w') := Lib.hid (trimmed_any _ _ _ q5 w5 hq5.rdi (by rw [hdv5.len]; exact hn5) (Nat.le_refl _) (by have := hzl.out; have := hl4'.out; omega))
    have hq5' := Lib.hid hq5
    have hb5' := Lib.hid hb5
    have hn5' := Lib.hid hn5
    have hdv5' := Lib.hid hdv5
    have hBB : Hid (Below w.heap.size w w5 ∧ Below wr.heap.size wr w5) := Lib.hid ⟨below_tr (below_tr (below_tr hB2'.out hb3'.out) hb4'.out) hb5, below_tr (below_tr hb3'.out hb4'.out) hb5⟩
    have htk := take_tlen hdv5.dg
    have hcm : Hid (Calls Tryd.prog 54 #[.slice (some ⟨g5, 0, none⟩) (tlen q5) n5, .slice p2 n2 c2] w5 fun e w' => e = .returned (.int .i64 (cmpI ((val q5).toNat : Int) ((val r2).toNat : Int))) ∧ Below w5.heap.size w5 w') := Lib.hid (by
      refine compare_any _ _ _ _ _ _ (val q5).toNat (val r2).toNat w5 ?_ ?_ ?_ ?_ ?_ ?_
      · rw [← htk]; exact Rdi_blk_take hq5 _
      · rw [digs_val hd2'.out ht2'.out]; exact Rdi_below hBB.out.2 hR2'.out
      · rw [tlen_len hdv5.dg]
      · rw [digs_val hd2'.out ht2'.out]; exact hl2'.out.symm
      · have := tlen_le q5; have := hdv5.len; have := hl4'.out; have := hzl.out; omega
      · have := hlx2'.out; have := N.out; omega)
    have htk' := Lib.hid htk
    clear hq5 hr5 hb5 hn5 hdv5 hsd htk
    have hg5' : Hid (∀ q, (some (⟨g5, 0, none⟩ : Addr)) = some q → w.heap.size ≤ q.block) := Lib.hid fun q hq => by cases hq; have h1 := hB2'.out.size; have h2 := hb3'.out.size; have h3 := hb4'.out.size; show w.heap.size ≤ g5; omega
    have hsum : Hid (val r2 + val q = 2 * val q5 + r5) := Lib.hid (by rw [← hs4'.out.2.1]; exact hdv5'.out.done)
    have hq5v := hdv5'.out.dg.lo
    go_wp2_with (go_at_call 50; refine htr.out.mono ?_; rintro e w' ⟨rfl, rfl⟩)
    have hq0 : 0 ≤ val q := hdq'.out.1.lo
    have hdm := hdq'.out.2.2.1
    have hrs0 := hdq'.out.2.1.lo
    have hrs1 := hdq'.out.2.2.2
    have hlo5 := hdv5'.out.lo
    have hhi5 := hdv5'.out.hi
    by_cases hge : val r2 ≤ val q5
    · have hst := newton_stop hdm hrs0 hp2'.out hsum.out hhi5 hge hlo5
      have hres : Hid (RtP w x (.returned (.slice p2 n2 c2)) w5) := Lib.hid ⟨p2, n2, c2, r2, rfl, Rdi_below hBB.out.2 hR2'.out, hl2'.out, hnc2, hcb2, hd2'.out, by have := hp2'.out; omega, hst, hx2'.out, ht2'.out, hlx2'.out, hpn2'.out, hBB.out.1⟩
      have hcz : Hid (∀ w', Below w5.heap.size w5 w' → RtP w x (.returned (.slice p2 n2 c2)) w') := Lib.hid fun w' hb => by
        obtain ⟨p, n, c, r, he, h1, h2, h3, h4, h5, h6, h7, h8, h9, h10, h12, h11⟩ := hres.out
        exact ⟨p, n, c, r, he, Rdi_below hb h1, h2, h3, h4, h5, h6, h7, h8, h9, h10, h12, below_tr h11 hb⟩
      have hcv : 0 ≤ cmpI ((val q5).toNat : Int) ((val r2).toNat : Int) := by
        have h1 : ¬ ((val q5).toNat : Int) < ((val r2).toNat : Int) := by omega
        unfold cmpI
        rw [if_neg h1]
        split <;> omega
      generalize cmpI ((val q5).toNat : Int) ((val r2).toNat : Int) = C at hcm hcv
      clear hq0 hdm hrs0 hrs1 hlo5 hhi5 hge hst hq5v
      go_wp2_with (go_at_call 54; refine hcm.out.mono ?_; rintro e w6 ⟨rfl, hb6⟩; have hb6' := Lib.hid hb6; clear hb6)
      go_ret
      exact hcz.out _ hb6'.out
    · have hng := newton_go hdm hrs1 hsum.out hhi5 hX.out hq5v hp2'.out hq0
      have hnext : Hid (∀ w', Below w5.heap.size w5 w' → RtI w x (val q5).toNat (.slice (some ⟨g5, 0, none⟩) (tlen q5) n5) w') := Lib.hid fun w' hb => by
        have hv : val (q5.take (tlen q5)) = val q5 := by rw [htk'.out, val_digs, Int.toNat_of_nonneg hq5v]
        have hl : (q5.take (tlen q5)).length = tlen q5 := by rw [List.length_take]; have := tlen_le q5; omega
        have htt : tlen (q5.take (tlen q5)) = (q5.take (tlen q5)).length := by rw [htk'.out]; exact tlen_digs _
        refine ⟨_, _, _, q5.take (tlen q5), rfl, Rdi_below hb (Rdi_blk_take hq5'.out _), hl, ?_, ?_, hdv5'.out.dg.take _, by rw [hv]; exact hng.2, by rw [hv]; exact hng.1, htt, ?_, hg5'.out, below_tr hBB.out.1 hb, by rw [hv]⟩
        · have := tlen_le q5; have := hdv5'.out.len; have := hn5'.out; omega
        · have := hn5'.out; have := hl4'.out; have := hzl.out; omega
        · rw [← hl]
          have h1 : val (q5.take (tlen q5)) ≤ val r2 := by rw [hv]; omega
          have h2 := rt_len hd2'.out (hdv5'.out.dg.take (tlen q5)) htt h1
          have h3 := hlx2'.out
          have h4 := hl2'.out
          omega
      have hcv : cmpI ((val q5).toNat : Int) ((val r2).toNat : Int) = -1 := cmp_lt (by omega)
      rw [hcv] at hcm
      have hms : Hid ((val q5).toNat < gk) := Lib.hid (by rw [← hk2'.out]; omega)
      clear hq0 hdm hrs0 hrs1 hlo5 hhi5 hge hng hq5v hcv
      go_wp2_with (go_at_call 54; refine hcm.out.mono ?_; rintro e w6 ⟨rfl, hb6⟩; have hb6' := Lib.hid hb6; clear hb6)
      go_roundg ((val q5).toNat)
      case measure => exact hms.out
      case rel => exact hnext.out _ hb6'.out
end Go.Proofs.YteaoaoknpihchaaDoor

namespace Go.Proofs.YteaoaoknpihchaaDoor
open Go.RowKit


/-- the j lowest digits of m in base 256, most significant first -/
def lows : Nat → Nat → List UInt8
  | 0, _ => []
  | j + 1, m => lows j (m / 256) ++ [UInt8.ofNat (m % 256)]

theorem lows_length (j m : Nat) : (lows j m).length = j := by
  induction j generalizing m with
  | zero => rfl
  | succ j ih => simp [lows, ih]

/-- how many digits m has -/
def nd (m : Nat) : Nat :=
  if m < 1 then 0 else if m < 256 then 1 else if m < 65536 then 2 else if m < 16777216 then 3 else if m < 4294967296 then 4
  else if m < 1099511627776 then 5 else if m < 281474976710656 then 6 else if m < 72057594037927936 then 7 else 8

theorem nd_le (m : Nat) : nd m ≤ 8 := by
  unfold nd
  (repeat' split) <;> omega

/-- after j digits nothing is left exactly if m has at most j digits -/
theorem nd_zero (m j : Nat) (h : m < 9223372036854775808) (hj : j ≤ 8) : m / 256 ^ j = 0 ↔ nd m ≤ j := by
  have h9 : j = 0 ∨ j = 1 ∨ j = 2 ∨ j = 3 ∨ j = 4 ∨ j = 5 ∨ j = 6 ∨ j = 7 ∨ j = 8 := by omega
  unfold nd
  rcases h9 with rfl | rfl | rfl | rfl | rfl | rfl | rfl | rfl | rfl <;> simp only [Nat.reducePow] <;> (repeat' split) <;> omega

theorem pow_le_64 (k : Nat) (h : k ≤ 8) : 256 ^ k ≤ 18446744073709551616 := by
  have h9 : k = 0 ∨ k = 1 ∨ k = 2 ∨ k = 3 ∨ k = 4 ∨ k = 5 ∨ k = 6 ∨ k = 7 ∨ k = 8 := by omega
  rcases h9 with rfl | rfl | rfl | rfl | rfl | rfl | rfl | rfl | rfl <;> simp

theorem nd_lt (m : Nat) (h : m < 9223372036854775808) : m < 256 ^ nd m := by
  have := (nd_zero m (nd m) h (nd_le m)).2 (Nat.le_refl _)
  have hp : 0 < 256 ^ nd m := Nat.pow_pos (by omega)
  rcases Nat.lt_or_ge m (256 ^ nd m) with h1 | h1
  · exact h1
  · have := Nat.div_pos h1 hp; omega

theorem lows_getD (k m i : Nat) (h : i < k) : (lows k m).getD i 0 = UInt8.ofNat (m / 256 ^ (k - 1 - i) % 256) := by
  induction k generalizing m with
  | zero => omega
  | succ k ih =>
    simp only [lows]
    rcases Nat.lt_or_ge i k with h1 | h1
    · rw [List.getD_eq_getElem?_getD, List.getElem?_append_left (by rw [lows_length]; exact h1), ← List.getD_eq_getElem?_getD, ih _ h1, Nat.div_div_eq_div_mul]
      have : k + 1 - 1 - i = (k - 1 - i) + 1 := by omega
      rw [this, Nat.pow_succ, Nat.mul_comm]
    · have e : i = k := by omega
      subst e
      rw [List.getD_eq_getElem?_getD, List.getElem?_append_right (by rw [lows_length]; exact Nat.le_refl _), lows_length]
      simp

/-- a digit as it stands in the encoding of a negative number (g), or of another one -/
def fx (g : Bool) (d : UInt8) : UInt8 := if g then 255 - d else d
theorem fx_fx (g : Bool) (d : UInt8) : fx g (fx g d) = d := by
  cases g
  · rfl
  · show 255 - (255 - d) = d
    apply UInt8.toNat_inj.1
    have := d.toNat_lt
    have h1 : (255 : UInt8).toNat = 255 := rfl
    rw [UInt8.toNat_sub_of_le _ _ (by rw [UInt8.le_iff_toNat_le, UInt8.toNat_sub_of_le _ _ (by rw [UInt8.le_iff_toNat_le]; omega)]; omega), UInt8.toNat_sub_of_le _ _ (by rw [UInt8.le_iff_toNat_le]; omega)]
    omega
theorem fx_nat (g : Bool) (d : UInt8) : (fx g d).toNat = if g then 255 - d.toNat else d.toNat := by
  cases g
  · rfl
  · show (255 - d : UInt8).toNat = _
    have := d.toNat_lt
    rw [UInt8.toNat_sub_of_le _ _ (by rw [UInt8.le_iff_toNat_le]; show d.toNat ≤ 255; omega)]
    rfl

/-- the number that digits stand for -/
def mag (g : Bool) (l : List UInt8) : Nat := l.foldl (fun m d => 256 * m + (fx g d).toNat) 0
theorem mag_from (g : Bool) (l : List UInt8) (a : Nat) : l.foldl (fun m d => 256 * m + (fx g d).toNat) a = a * 256 ^ l.length + mag g l := by
  induction l generalizing a with
  | nil => simp [mag]
  | cons d t ih =>
    unfold mag
    simp only [List.foldl_cons, List.length_cons]
    rw [ih, ih]
    rw [Nat.pow_succ, Nat.mul_zero, Nat.zero_add, Nat.add_mul, Nat.mul_comm (256 ^ t.length) 256, ← Nat.mul_assoc, Nat.mul_comm a 256]
    omega
theorem mag_cons (g : Bool) (d : UInt8) (t : List UInt8) : mag g (d :: t) = (fx g d).toNat * 256 ^ t.length + mag g t := by
  have := mag_from g t (256 * 0 + (fx g d).toNat)
  unfold mag at *
  simp only [List.foldl_cons]
  rw [this]
  simp
theorem mag_snoc (g : Bool) (d : UInt8) (t : List UInt8) : mag g (t ++ [d]) = 256 * mag g t + (fx g d).toNat := by
  simp [mag, List.foldl_append]
theorem mag_lt (g : Bool) (l : List UInt8) : mag g l < 256 ^ l.length := by
  induction l with
  | nil => simp [mag]
  | cons d t ih =>
    rw [mag_cons, List.length_cons, Nat.pow_succ]
    have h1 := (fx g d).toNat_lt
    have h2 : (fx g d).toNat * 256 ^ t.length ≤ 255 * 256 ^ t.length := Nat.mul_le_mul_right _ (by omega)
    omega

theorem mag_lows (g : Bool) (k m : Nat) : mag g ((lows k m).map (fx g)) = m % 256 ^ k := by
  induction k generalizing m with
  | zero => simp [lows, mag, Nat.mod_one]
  | succ k ih =>
    simp only [lows, List.map_append, List.map_cons, List.map_nil]
    rw [mag_snoc, ih, fx_fx, UInt8.toNat_ofNat_of_lt' (by have := Nat.mod_lt m (show 0 < 256 by omega); simpa using this), Nat.pow_succ, Nat.mul_comm (256 ^ k) 256, Nat.mod_mul]
    omega

theorem snoc_of_ne {α : Type} (l : List α) (h : l ≠ []) : ∃ t d, l = t ++ [d] := ⟨l.dropLast, l.getLast h, (List.dropLast_concat_getLast h).symm⟩

theorem lows_mag (g : Bool) (k : Nat) (l : List UInt8) (h : l.length = k) : lows k (mag g l) = l.map (fx g) := by
  induction k generalizing l with
  | zero => have := List.eq_nil_of_length_eq_zero h; subst this; rfl
  | succ k ih =>
    obtain ⟨t, d, rfl⟩ := snoc_of_ne l (by intro e; subst e; simp at h)
    have ht : t.length = k := by simpa using h
    have hd := (fx g d).toNat_lt
    simp only [lows, mag_snoc, List.map_append, List.map_cons, List.map_nil]
    rw [show (256 * mag g t + (fx g d).toNat) / 256 = mag g t from by omega, show (256 * mag g t + (fx g d).toNat) % 256 = (fx g d).toNat from by omega, ih t ht, UInt8.ofNat_toNat]

theorem nd_of (m k : Nat) (h : m < 9223372036854775808) (hk : k ≤ 8) (h1 : m < 256 ^ k) (h2 : k = 0 ∨ 256 ^ (k - 1) ≤ m) : nd m = k := by
  have a : nd m ≤ k := (nd_zero m k h hk).1 (Nat.div_eq_of_lt h1)
  by_cases k0 : k = 0
  · omega
  rcases h2 with rfl | h2
  · omega
  · have b : ¬ nd m ≤ k - 1 := fun hc => by
      have := (nd_zero m (k - 1) h (by omega)).2 hc
      have := Nat.div_pos h2 (Nat.pow_pos (n := k - 1) (show 0 < 256 by omega)); omega
    omega

/-- the encoding of an integer -/
def neg (n : Int) : Bool := decide (n < 0)
def mgn (n : Int) : Nat := if n < 0 then (-1 - n).toNat else n.toNat
def hd (g : Bool) (k : Nat) : UInt8 := UInt8.ofNat (if g then 127 - k else 128 + k)
def enc (n : Int) : List UInt8 := hd (neg n) (nd (mgn n)) :: (lows (nd (mgn n)) (mgn n)).map (fx (neg n))
theorem enc_length (n : Int) : (enc n).length = 1 + nd (mgn n) := by simp [enc, lows_length, Nat.add_comm]

/-- the head of an encoding -/
def hk (h : UInt8) : Nat := if h.toNat < 128 then 127 - h.toNat else h.toNat - 128
def hg (h : UInt8) : Bool := decide (h.toNat < 128)
theorem hk_hd (g : Bool) (k : Nat) (h : k ≤ 8) : hk (hd g k) = k := by
  cases g
  · have : (hd false k).toNat = 128 + k := by
      show (UInt8.ofNat (128 + k)).toNat = _
      rw [UInt8.toNat_ofNat_of_lt' (by show _ < 256; omega)]
    unfold hk; rw [this, if_neg (by omega)]; omega
  · have : (hd true k).toNat = 127 - k := by
      show (UInt8.ofNat (127 - k)).toNat = _
      rw [UInt8.toNat_ofNat_of_lt' (by show _ < 256; omega)]
    unfold hk; rw [this, if_pos (by omega)]; omega
theorem hg_hd (g : Bool) (k : Nat) (h : k ≤ 8) : hg (hd g k) = g := by
  cases g
  · have : (hd false k).toNat = 128 + k := by
      show (UInt8.ofNat (128 + k)).toNat = _
      rw [UInt8.toNat_ofNat_of_lt' (by show _ < 256; omega)]
    unfold hg; rw [this]; simp
  · have : (hd true k).toNat = 127 - k := by
      show (UInt8.ofNat (127 - k)).toNat = _
      rw [UInt8.toNat_ofNat_of_lt' (by show _ < 256; omega)]
    unfold hg; rw [this]; simp; omega
theorem hd_hk (h : UInt8) : hd (hg h) (hk h) = h := by
  have hl := h.toNat_lt
  unfold hd hg hk
  by_cases c : h.toNat < 128
  · simp only [c, decide_true, if_true]
    rw [show 127 - (127 - h.toNat) = h.toNat from by omega, UInt8.ofNat_toNat]
  · simp only [c, decide_false, if_false]
    rw [show (if false = true then 127 - (h.toNat - 128) else 128 + (h.toNat - 128)) = h.toNat from by simp; omega, UInt8.ofNat_toNat]

/-- does a number begin with a digit 0? -/
def lead0 (g : Bool) (l : List UInt8) : Bool := match l with
  | [] => false
  | d :: _ => fx g d == 0

def sgn (g : Bool) (m : Nat) : Int := if g then -1 - (m : Int) else (m : Int)

/-- decoding an integer: the integer, the bytes used, the error -/
def gi : List UInt8 → Int × Nat × Int
  | [] => (0, 0, 3)
  | h :: t =>
    if 8 < hk h then (0, 0, 2)
    else if t.length < hk h then (0, 0, 3)
    else if lead0 (hg h) (t.take (hk h)) then (0, 0, 2)
    else if 9223372036854775807 < mag (hg h) (t.take (hk h)) then (0, 0, 2)
    else (sgn (hg h) (mag (hg h) (t.take (hk h))), 1 + hk h, 0)

theorem sgn_mgn (n : Int) : sgn (neg n) (mgn n) = n := by
  unfold sgn neg mgn
  by_cases h : n < 0
  · simp [h]; omega
  · simp [h]; omega
theorem mgn_lt (n : Int) (h1 : -9223372036854775808 ≤ n) (h2 : n ≤ 9223372036854775807) : mgn n < 9223372036854775808 := by
  unfold mgn; split <;> omega

theorem lead0_lows (g : Bool) (m : Nat) (h : m < 9223372036854775808) : lead0 g ((lows (nd m) m).map (fx g)) = false := by
  rcases Nat.eq_zero_or_pos (nd m) with h0 | h0
  · rw [h0]; rfl
  · have h1 : 256 ^ (nd m - 1) ≤ m := by
      have b : ¬ nd m ≤ nd m - 1 := by omega
      have := mt (nd_zero m (nd m - 1) h (by have := nd_le m; omega)).1 b
      rcases Nat.lt_or_ge m (256 ^ (nd m - 1)) with c | c
      · exact absurd (Nat.div_eq_of_lt c) this
      · exact c
    have e := mag_lows g (nd m) m
    rw [Nat.mod_eq_of_lt (nd_lt m h)] at e
    have hl : ((lows (nd m) m).map (fx g)).length = nd m := by simp [lows_length]
    cases hL : (lows (nd m) m).map (fx g) with
    | nil => rfl
    | cons d t =>
      rw [hL] at e hl
      simp only [List.length_cons] at hl
      show (fx g d == 0) = false
      rw [mag_cons] at e
      have h4 := mag_lt g t
      rw [beq_eq_false_iff_ne]
      intro hz
      rw [hz, show (0 : UInt8).toNat = 0 from rfl, Nat.zero_mul, Nat.zero_add] at e
      have h5 : t.length = nd m - 1 := by omega
      rw [h5] at h4
      omega

/-- P1.6: decoding an encoding, whatever follows it -/
theorem gi_enc (n : Int) (t : List UInt8) (h1 : -9223372036854775808 ≤ n) (h2 : n ≤ 9223372036854775807) : gi (enc n ++ t) = (n, (enc n).length, 0) := by
  have hm := mgn_lt n h1 h2
  have hn := nd_le (mgn n)
  have hl : ((lows (nd (mgn n)) (mgn n)).map (fx (neg n))).length = nd (mgn n) := by simp [lows_length]
  rw [enc_length]
  show gi (hd (neg n) (nd (mgn n)) :: ((lows (nd (mgn n)) (mgn n)).map (fx (neg n)) ++ t)) = _
  have ht : ((lows (nd (mgn n)) (mgn n)).map (fx (neg n)) ++ t).take (nd (mgn n)) = (lows (nd (mgn n)) (mgn n)).map (fx (neg n)) := by
    rw [List.take_append_of_le_length (by omega), List.take_of_length_le (by omega)]
  unfold gi
  simp only [hk_hd _ _ hn, hg_hd _ _ hn, ht, lead0_lows _ _ hm, mag_lows, Nat.mod_eq_of_lt (nd_lt _ hm), sgn_mgn]
  rw [if_neg (by omega), if_neg (by rw [List.length_append, hl]; omega), if_neg (by simp), if_neg (by omega)]

theorem gi_pre (n : Int) (i : Nat) (_h1 : -9223372036854775808 ≤ n) (_h2 : n ≤ 9223372036854775807) (hi : i < (enc n).length) : gi ((enc n).take i) = (0, 0, 3) := by
  have hn := nd_le (mgn n)
  rw [enc_length] at hi
  match i, hi with
  | 0, _ => rfl
  | i + 1, hi =>
    show gi (hd (neg n) (nd (mgn n)) :: ((lows (nd (mgn n)) (mgn n)).map (fx (neg n))).take i) = _
    unfold gi
    simp only [hk_hd _ _ hn]
    rw [if_neg (by omega), if_pos (by simp [lows_length]; omega)]

theorem gi_range (l : List UInt8) (n : Int) (u : Nat) (h : gi l = (n, u, 0)) : -9223372036854775808 ≤ n ∧ n ≤ 9223372036854775807 ∧ u ≤ l.length ∧ l.take u = enc n ∧ u = (enc n).length := by
  match l, h with
  | [], h => simp [gi] at h
  | a :: t, h =>
    simp only [gi] at h
    split at h
    · simp at h
    · split at h
      · simp at h
      · split at h
        · simp at h
        · split at h
          · simp at h
          · rename_i c1 c2 c3 c4
            simp only [Prod.mk.injEq, and_true] at h
            obtain ⟨hn, hu⟩ := h
            have htl : (t.take (hk a)).length = hk a := by simp; omega
            have hlt := mag_lt (hg a) (t.take (hk a))
            rw [htl] at hlt
            have hmg : mgn n = mag (hg a) (t.take (hk a)) ∧ neg n = hg a := by
              rw [← hn]
              generalize mag (hg a) (t.take (hk a)) = z
              generalize hg a = g
              unfold sgn mgn neg
              cases g
              · simp
                omega
              · have : (-1 - (z : Int)) < 0 := by omega
                simp only [if_true, if_pos this]
                exact ⟨by omega, by simp; omega⟩
            have hnd : nd (mgn n) = hk a := by
              rw [hmg.1]
              apply nd_of _ _ (by omega) (by omega) hlt
              cases hT : t.take (hk a) with
              | nil => left; rw [hT] at htl; simpa using htl.symm
              | cons d r =>
                right
                rw [hT] at c3 htl
                simp only [List.length_cons] at htl
                have : ¬ fx (hg a) d = 0 := by simpa [lead0] using c3
                have hp : 0 < (fx (hg a) d).toNat := by
                  rcases Nat.eq_zero_or_pos (fx (hg a) d).toNat with z | z
                  · exact absurd (UInt8.toNat_inj.1 z) this
                  · exact z
                rw [mag_cons, show hk a - 1 = r.length from by omega]
                have := Nat.le_mul_of_pos_left (256 ^ r.length) hp
                omega
            have henc : enc n = a :: t.take (hk a) := by
              unfold enc
              rw [hnd, hmg.1, hmg.2, hd_hk, lows_mag _ _ _ htl]
              simp [fx_fx, Function.comp_def]
            refine ⟨?_, ?_, ?_, ?_, ?_⟩
            · rw [← hn]; unfold sgn; split <;> omega
            · rw [← hn]; unfold sgn; split <;> omega
            · simp; omega
            · rw [henc, ← hu, Nat.add_comm]; rfl
            · rw [henc, ← hu]; simp; omega


end Go.Proofs.YteaoaoknpihchaaDoor

namespace Go.Proofs.YteaoaoknpihchaaDoor
open Go.RowKit


/-- what the digits are combined with -/
def flp (g : Bool) : Int := if g then 255 else 0
theorem flp_lo (g : Bool) : 0 ≤ flp g := by unfold flp; split <;> omega
theorem flp_hi (g : Bool) : flp g < 256 := by unfold flp; split <;> omega

theorem xor_255 : ∀ x : Fin 256, x.val ^^^ 255 = 255 - x.val := by decide +kernel
theorem xor_flp (g : Bool) (d : UInt8) : bits .xor .u8 (d.toNat : Int) (flp g) = ((fx g d).toNat : Int) := by
  have hd := d.toNat_lt
  rw [u8_xor _ _ (by omega) (by omega) (flp_lo g) (flp_hi g), fx_nat]
  cases g
  · simp [flp]
  · have := xor_255 ⟨d.toNat, hd⟩
    simp only [flp, if_true, Int.toNat_natCast]
    rw [show (255 : Int).toNat = 255 from rfl, this]
theorem xor_byt (g : Bool) (l : List UInt8) (k : Nat) : bits .xor .u8 (byt l k) (flp g) = ((fx g (l.getD k 0)).toNat : Int) := xor_flp g _

theorem or_digit (z d : Nat) (hz : z < 72057594037927936) (hd : d < 256) : bits .or .u64 (IntKind.u64.wrap ((z : Int) * 256)) (IntKind.u64.wrap (d : Int)) = ((256 * z + d : Nat) : Int) := by
  rw [show IntKind.u64.wrap ((z : Int) * 256) = ((256 * z : Nat) : Int) from by simp [IntKind.wrap, IntKind.bits, IntKind.signed]; omega, show IntKind.u64.wrap (d : Int) = (d : Int) from by simp [IntKind.wrap, IntKind.bits, IntKind.signed]; omega]
  rw [u64_or_nat _ _ (by omega) (by omega)]
  have := Nat.two_pow_add_eq_or_of_lt (i := 8) (b := d) (by omega) z
  simp only [Nat.reducePow] at this
  rw [← this]

theorem mag_step (g : Bool) (l : List UInt8) (k : Nat) (hk : k < l.length) (h8 : l.length ≤ 8) :
    bits .or .u64 (IntKind.u64.wrap ((mag g (l.take k) : Int) * 256)) (IntKind.u64.wrap (bits .xor .u8 (byt l k) (flp g))) = ((mag g (l.take (k + 1)) : Nat) : Int) := by
  have hl : (l.take k).length = k := by simp; omega
  have h1 := mag_lt g (l.take k)
  rw [hl] at h1
  have h2 : 256 ^ k ≤ 256 ^ 7 := Nat.pow_le_pow_right (by omega) (by omega)
  have h3 := (fx g (l.getD k 0)).toNat_lt
  rw [xor_byt, or_digit _ _ (by omega) (by omega), List.take_succ_eq_append_getElem hk, mag_snoc]
  simp [hk]

theorem lead_byt (g : Bool) (l : List UInt8) (h0 : 0 < l.length) : (byt l 0 == flp g) = lead0 g l := by
  cases l with
  | nil => simp at h0
  | cons d t =>
    show (((d.toNat : Int)) == flp g) = (fx g d == 0)
    have := d.toNat_lt
    have e : fx g d = 0 ↔ (d.toNat : Int) = flp g := by
      rw [← UInt8.toNat_inj, fx_nat]
      cases g <;> simp [flp] <;> omega
    rw [Bool.eq_iff_iff, beq_iff_eq, beq_iff_eq, e]




theorem below_grown {w w' : World} (h : Below w.heap.size w w') (row : Option Nat) : w.grownBy w' row := ⟨h.os, h.tape, h.output, h.size, fun k hk _ => h.block k hk⟩

/-- the array of digits after j digits of m: block B, made by the call -/
def CodeBlk (B : Nat) (w wr : World) (T : TypeId) (g : Bool) (m j : Nat) : Prop :=
  Below B w wr ∧ wr.heap.size = B + 1 ∧ ∃ c : Array Value, wr.heap[B]? = some (.cells c T (0, 0)) ∧ c.size = 9 ∧ ∀ i, i < j → c[8 - i]? = some (.int .u8 ((fx g (UInt8.ofNat (m / 256 ^ i % 256))).toNat : Int))

theorem CodeBlk.start (w : World) (T : TypeId) (c : Array Value) (h : c.size = 9) (g : Bool) (m : Nat) : CodeBlk w.heap.size w (w.alloc (.cells c T)) T g m 0 :=
  ⟨(Below.refl _ _).alloc (Nat.le_refl _) _, by simp, c, heap_alloc_new w _, h, fun i hi => by omega⟩

theorem CodeBlk.cell {B : Nat} {w wr : World} {T : TypeId} {g : Bool} {m j : Nat} (h : CodeBlk B w wr T g m j) (i : Nat) (hi : i < 9) : ∃ x, wr.cell? ⟨B, i, none⟩ = some x := by
  obtain ⟨_, _, c, hc, hs, _⟩ := h
  exact ⟨c[i], by simp [World.cell?, hc, hs, hi]⟩

theorem CodeBlk.free {B : Nat} {w wr : World} {T : TypeId} {g : Bool} {m j : Nat} (h : CodeBlk B w wr T g m j) (i : Nat) : wr.frozen? ⟨B, i, none⟩ = false := by
  obtain ⟨_, _, c, hc, hs, _⟩ := h
  simp [World.frozen?, hc]

theorem CodeBlk.step {B : Nat} {w wr : World} {T : TypeId} {g : Bool} {m j : Nat} (h : CodeBlk B w wr T g m j) (hj : j < 8) (x : Int) (hx : x = ((fx g (UInt8.ofNat (m / 256 ^ j % 256))).toNat : Int)) :
    CodeBlk B w (wr.setCell ⟨B, 8 - j, none⟩ (.int .u8 x)) T g m (j + 1) := by
  obtain ⟨hb, hz, c, hc, hs, hd⟩ := h
  refine ⟨hb.setCell (Nat.le_refl _) _, by simp [World.setCell, hz], _, heap_setCell_self _ _ _ _ _ _ hc, by simp [hs], fun i hi => ?_⟩
  rw [Array.getElem?_setIfInBounds]
  rcases Nat.lt_or_ge i j with h1 | h1
  · rw [if_neg (by omega)]; exact hd i h1
  · have : i = j := by omega
    subst this
    rw [if_pos rfl, if_pos (by omega), hx]

theorem slice9 (B k : Nat) (hk : k ≤ 8) (W : World) : (Instr.sliceAt 103 (.pointer (some ⟨B, 0, none⟩)) (some (.int .i64 ((8 - k : Nat) : Int))) none none).run Tryd.prog W = .ok (.slice (some ⟨B, 8 - k, none⟩) (k + 1) (k + 1)) W := by
  have hu : Tryd.prog.underlying 103 = some (.array 9 5) := Tryd.underlying103
  have hs : ∀ W, (sizeOf 5).run Tryd.prog W = .ok 1 W := fun W => by kernel_rfl
  have h1 : (((8 - k : Nat) : Int) ≤ 9) := by omega
  have h2 : (9 : Nat) ≠ 8 - k := by omega
  have h3 : 9 - (8 - k) = k + 1 := by omega
  have h4 : 0 + (8 - k) = 8 - k := by omega
  have ha : Tryd.prog.arrayLen 103 = 9 := by kernel_rfl
  have he : Tryd.prog.elem 103 = 5 := by kernel_rfl
  rw [run_sliceAt_array_l (P := Tryd.prog) W 103 ⟨B, 0, none⟩ (by rw [ha, he]; exact hu) .i64 ((8 - k : Nat) : Int) (by omega) (by rw [ha]; exact h1), he, ha, hs]
  simp [slicedAt, h2, h3, Addr.add]
  intro h; omega

theorem xor_low (g : Bool) (q : Nat) : bits .xor .u8 ((q : Int) % 256) (flp g) = ((fx g (UInt8.ofNat (q % 256))).toNat : Int) := by
  rw [← xor_flp, UInt8.toNat_ofNat_of_lt' (by have := Nat.mod_lt q (show 0 < 256 by omega); simpa using this)]
  rfl

theorem xor_ones (x : Nat) (h : x < 18446744073709551616) : 18446744073709551615 ^^^ x = 18446744073709551615 - x := by
  have h1 : (BitVec.allOnes 64 ^^^ BitVec.ofNat 64 x).toNat = 18446744073709551615 - x := by
    rw [BitVec.xor_comm, BitVec.xor_allOnes, BitVec.toNat_not, BitVec.toNat_ofNat, Nat.mod_eq_of_lt h]
  rw [BitVec.toNat_xor, BitVec.toNat_ofNat, Nat.mod_eq_of_lt h] at h1
  exact h1
theorem cpl_neg (m : Nat) (h : m < 9223372036854775808) : bits .xor .u64 IntKind.u64.max (IntKind.u64.wrap (-1 - (m : Int))) = (m : Int) := by
  have e : IntKind.u64.wrap (-1 - (m : Int)) = ((18446744073709551615 - m : Nat) : Int) := by
    simp [IntKind.wrap, IntKind.bits, IntKind.signed]
    omega
  have e2 : IntKind.u64.max = ((18446744073709551615 : Nat) : Int) := by decide
  rw [e, e2, u64_xor_nat _ _ (by omega) (by omega), xor_ones _ (by omega)]
  omega

theorem info_u8 : (Tryd.prog.info? 5).map (fun i => (i.zero, i.size, i.bytes)) = some (some (.int .u8 0), 1, 1) := by kernel_rfl

/-- bytes as values -/
def bvs (l : List UInt8) : List Value := l.map fun b => .int .u8 (b.toNat : Int)
theorem bvs_one (l : List UInt8) : ∀ u ∈ bvs l, u.oneCell' = true := by
  intro u hu
  simp only [bvs, List.mem_map] at hu
  obtain ⟨b, _, rfl⟩ := hu
  rfl
theorem bvs_length (l : List UInt8) : (bvs l).length = l.length := by simp [bvs]
theorem bvs_append (l r : List UInt8) : bvs (l ++ r) = bvs l ++ bvs r := by simp [bvs]

theorem news_length (g : Bool) (m : Nat) : (bvs (hd g (nd m) :: (lows (nd m) m).map (fx g))).length = (nd m + 1) * 1 := by simp [bvs, lows_length]

theorem head_xor (g : Bool) (k : Nat) (h8 : k ≤ 8) : bits BinOp.xor IntKind.u8 (136 - ((8 - k : Nat) : Int)) (flp g) = ((hd g k).toNat : Int) := by
  have h1 : (UInt8.ofNat (128 + k)).toNat = 128 + k := UInt8.toNat_ofNat_of_lt' (by show _ < 256; omega)
  have e : 136 - ((8 - k : Nat) : Int) = ((UInt8.ofNat (128 + k)).toNat : Int) := by rw [h1]; omega
  rw [e, xor_flp, fx_nat, h1]
  unfold hd
  cases g
  · simp only [Bool.false_eq_true, if_false]
    rw [h1]
  · simp only [if_true]
    rw [UInt8.toNat_ofNat_of_lt' (by show _ < 256; omega)]
    omega

theorem CodeBlk.news {B : Nat} {w wr : World} {T : TypeId} {g : Bool} {m : Nat} (h : CodeBlk B w wr T g m (nd m)) (h8 : nd m ≤ 8) (x : Int) (hx : x = ((hd g (nd m)).toNat : Int)) :
    ∀ j u, (bvs (hd g (nd m) :: (lows (nd m) m).map (fx g)))[j]? = some u → (wr.setCell ⟨B, 8 - nd m, none⟩ (.int .u8 x)).cell? ((⟨B, 8 - nd m, none⟩ : Addr).add j) = some u := by
  obtain ⟨_, _, c, hc, hs, hd'⟩ := h
  intro j u hu
  have ha : (⟨B, 8 - nd m, none⟩ : Addr).add j = ⟨B, 8 - nd m + j, none⟩ := by unfold Addr.add; split <;> simp_all
  rw [ha]
  simp only [World.cell?, heap_setCell_self _ _ _ _ _ _ hc]
  simp only [Option.isSome_none, Bool.false_eq_true, if_false, Array.getElem?_setIfInBounds]
  match j, hu with
  | 0, hu =>
    simp only [bvs, List.map_cons, List.getElem?_cons_zero, Option.some.injEq] at hu
    rw [Nat.add_zero, if_pos rfl, if_pos (by omega), hx, hu]
  | i + 1, hu =>
    have hi : i < nd m := by
      rcases Nat.lt_or_ge i (nd m) with h1 | h1
      · exact h1
      · simp only [bvs, List.map_cons, List.getElem?_cons_succ] at hu
        rw [List.getElem?_eq_none (by simp [lows_length]; exact h1)] at hu
        cases hu
    rw [if_neg (by omega), show 8 - nd m + (i + 1) = 8 - (nd m - 1 - i) from by omega, hd' _ (by omega), ← lows_getD _ _ _ hi]
    simp only [bvs, List.map_cons, List.getElem?_cons_succ, List.map_map] at hu
    rw [List.getElem?_map] at hu
    rw [List.getD_eq_getElem?_getD]
    cases hL : (lows (nd m) m)[i]? with
    | none => rw [hL] at hu; simp at hu
    | some d => rw [hL] at hu; simpa using hu

/-- what appending bytes to an owned row comes to -/
def PutPost (w : World) (base : Nat) (n0 : Nat) (xs : List Value) (l : List UInt8) (e : Ending) (w' : World) : Prop :=
  ∃ v', e = .returned v' ∧ w'.ownsRow base 5 1 v' (n0 + l.length) (xs ++ bvs l) ∧ Below base w w'

theorem putPost_of {w w1 w2 : World} {base n0 n : Nat} {v v' : Value} {xs : List Value} {l : List UInt8} (hb : base ≤ w1.heap.size) (h : Below base w w1) (hv : w1.ownsRow base 5 1 v n0 xs) (hl : (bvs l).length = n * 1) (ho : w2.ownsRow base 5 1 v' (n0 + n) (xs ++ bvs l)) (g : w1.grownBy w2 v.ownBlock) :
    PutPost w base n0 xs l (.returned v') w2 := by
  refine ⟨v', rfl, ?_, h.grown g hb fun k hk => (hv.lt k hk).1⟩
  rw [bvs_length, Nat.mul_one] at hl
  rw [hl]
  exact ho

set_option maxRecDepth 100000 in
set_option maxHeartbeats 800000 in
theorem putInt_pos (v : Value) (n0 : Nat) (xs : List Value) (base : Nat) (n : Int) (m : Nat) (w : World) (hown : w.ownsRow base 5 1 v n0 xs) (hb : base ≤ w.heap.size) (hn0 : n0 ≤ 70368744177664)
    (hn : Hid (n = (m : Int))) (hm : m < 9223372036854775808) :
    Calls Tryd.prog 82 #[v, .int .i64 n] w fun e w' => PutPost w base n0 xs (hd false (nd m) :: (lows (nd m) m).map (fx false)) e w' := by
  rw [hn.out]
  clear hn
  have h0 : (0 : Int) ≤ (m : Int) := by omega
  have h0' : (0 : Int) ≤ (m : Int) := by omega
  have h1 : (m : Int) ≤ 9223372036854775807 := by omega
  obtain ⟨i0, hi, hz0, hz1, hz2⟩ := info_parts info_u8
  have hm' := Lib.hid hm
  clear hm
  go_enter Tryd.func82, Tryd.ntmps82
  go_wp2
  go_step3
  go_wp2
  go_step3
  go_wp2
  go_loopw [5, 8] (fun q a wr => ∃ j : Nat, j ≤ nd m ∧ q = .int .u64 (m / 256 ^ j : Nat) ∧ a = .int .i64 (8 - j : Nat) ∧ CodeBlk w.heap.size w wr 103 false m j) (fun _ a _ => (intOf a).toNat)
  case atStart =>
    exact ⟨0, Nat.zero_le _, by simp, rfl, CodeBlk.start w _ _ rfl _ _⟩
  case round =>
    obtain ⟨j, hj, rfl, rfl, hC⟩ := hrel
    have h8 := nd_le m
    by_cases hq : j < nd m
    · have hq1 : 0 < m / 256 ^ j := Nat.pos_of_ne_zero fun e => by have := (nd_zero m j hm'.out (by omega)).1 e; omega
      have hq2 : m / 256 ^ j < 9223372036854775808 := Nat.lt_of_le_of_lt (Nat.div_le_self _ _) hm'.out
      have hst := Lib.hid (hC.step (show j < 8 by omega) _ (xor_flp false (UInt8.ofNat (m / 256 ^ j % 256))))
      obtain ⟨x0, hx0⟩ := hC.cell (8 - j) (by omega)
      have hf0 := hC.free (8 - j)
      have hC' := Lib.hid hC
      have hnx := Lib.hid (show m / 256 ^ (j + 1) = m / 256 ^ j / 256 from by rw [Nat.div_div_eq_div_mul, Nat.pow_succ])
      generalize m / 256 ^ j = q at *
      clear hC
      go_wp2
      refine ⟨⟨j + 1, by omega, by rw [hnx.out]; rfl, by rw [show ((8 - j : Nat) : Int) - 1 = ((8 - (j + 1) : Nat) : Int) from by omega], ?_⟩, by simp [intOf]; omega⟩
      have e := xor_low false q
      simp only [flp] at e
      rw [show (bits BinOp.xor IntKind.u8 ((q : Int) % 256) 0) = _ from e]
      have := hst.out
      rw [xor_flp] at this
      exact this
    · have hj' : j = nd m := by omega
      subst hj'
      have hq0 : m / 256 ^ nd m = 0 := (nd_zero m _ hm'.out h8).2 (Nat.le_refl _)
      rw [hq0]
      obtain ⟨x0, hx0⟩ := hC.cell (8 - nd m) (by omega)
      have hf0 := hC.free (8 - nd m)
      have hC' := Lib.hid hC
      clear hC
      have hnews := Lib.hid (hC'.out.news h8 (bits BinOp.xor IntKind.u8 (136 - ((8 - nd m : Nat) : Int)) 0) (head_xor false _ h8))
      have hbel := Lib.hid (hC'.out.1.setCell (p := ⟨w.heap.size, 8 - nd m, none⟩) (Nat.le_refl _) (.int .u8 (bits BinOp.xor IntKind.u8 (136 - ((8 - nd m : Nat) : Int)) 0)))
      have hown' := Lib.hid (hown.kept (below_grown hbel.out none) (by cases v.ownBlock <;> simp))
      have hsz := hbel.out.size
      have hlen := Lib.hid (news_length false m)
      generalize hk : nd m = k at *
      have hk' := Lib.hid hk
      have hsl := slice9 w.heap.size k h8
      clear hk hown hq0 hq hj hm'
      go_wp2_with (at_builtin; refine wpList_append_own _ rfl _ _ 60 rfl base 5 i0 (.int .u8 0) 1 1 Tryd.underlying60 hi hz0 hz1 hz2 rfl (by decide) _ _ _ rfl hown'.out ⟨w.heap.size, 8 - k, none⟩ (k + 1) (k + 1) (bvs (hd false k :: (lows k m).map (fx false))) rfl hlen.out hnews.out (bvs_one _) (by unfold maxLen; omega) (by omega) (by omega) ?_; intro v' w1 hown1 hgrow1 _; have hres : Hid (PutPost w base n0 xs (hd false k :: (lows k m).map (fx false)) (.returned v') w1) := Lib.hid (putPost_of (by omega) (hbel.out.mono hb) hown'.out hlen.out hown1 hgrow1); clear hown1 hgrow1)
      rw [Exit.noGoto_ret]
      go_ret
      have hres' := hres.out
      rw [← hk'.out] at hres'
      exact hres'

set_option maxRecDepth 100000 in
set_option maxHeartbeats 800000 in
theorem putInt_neg (v : Value) (n0 : Nat) (xs : List Value) (base : Nat) (n : Int) (m : Nat) (w : World) (hown : w.ownsRow base 5 1 v n0 xs) (hb : base ≤ w.heap.size) (hn0 : n0 ≤ 70368744177664)
    (hn : Hid (n = -1 - (m : Int))) (hm : m < 9223372036854775808) :
    Calls Tryd.prog 82 #[v, .int .i64 n] w fun e w' => PutPost w base n0 xs (hd true (nd m) :: (lows (nd m) m).map (fx true)) e w' := by
  rw [hn.out]
  clear hn
  have h0 : (-1 - (m : Int)) < 0 := by omega
  have h0' : (0 : Int) ≤ (m : Int) := by omega
  have h1 : (m : Int) ≤ 9223372036854775807 := by omega
  obtain ⟨i0, hi, hz0, hz1, hz2⟩ := info_parts info_u8
  have hm' := Lib.hid hm
  clear hm
  go_enter Tryd.func82, Tryd.ntmps82
  go_wp2
  go_step3
  go_wp2
  go_step3
  go_wp2
  go_loopw [5, 8] (fun q a wr => ∃ j : Nat, j ≤ nd m ∧ q = .int .u64 (m / 256 ^ j : Nat) ∧ a = .int .i64 (8 - j : Nat) ∧ CodeBlk w.heap.size w wr 103 true m j) (fun _ a _ => (intOf a).toNat)
  case atStart =>
    exact ⟨0, Nat.zero_le _, by rw [cpl_neg m hm'.out, Nat.pow_zero, Nat.div_one], rfl, CodeBlk.start w _ _ rfl _ _⟩
  case round =>
    obtain ⟨j, hj, rfl, rfl, hC⟩ := hrel
    have h8 := nd_le m
    by_cases hq : j < nd m
    · have hq1 : 0 < m / 256 ^ j := Nat.pos_of_ne_zero fun e => by have := (nd_zero m j hm'.out (by omega)).1 e; omega
      have hq2 : m / 256 ^ j < 9223372036854775808 := Nat.lt_of_le_of_lt (Nat.div_le_self _ _) hm'.out
      have hst := Lib.hid (hC.step (show j < 8 by omega) _ (xor_flp true (UInt8.ofNat (m / 256 ^ j % 256))))
      obtain ⟨x0, hx0⟩ := hC.cell (8 - j) (by omega)
      have hf0 := hC.free (8 - j)
      have hC' := Lib.hid hC
      have hnx := Lib.hid (show m / 256 ^ (j + 1) = m / 256 ^ j / 256 from by rw [Nat.div_div_eq_div_mul, Nat.pow_succ])
      generalize m / 256 ^ j = q at *
      clear hC
      go_wp2
      refine ⟨⟨j + 1, by omega, by rw [hnx.out]; rfl, by rw [show ((8 - j : Nat) : Int) - 1 = ((8 - (j + 1) : Nat) : Int) from by omega], ?_⟩, by simp [intOf]; omega⟩
      have e := xor_low true q
      simp only [flp] at e
      rw [show (bits BinOp.xor IntKind.u8 ((q : Int) % 256) 255) = _ from e]
      have := hst.out
      rw [xor_flp] at this
      exact this
    · have hj' : j = nd m := by omega
      subst hj'
      have hq0 : m / 256 ^ nd m = 0 := (nd_zero m _ hm'.out h8).2 (Nat.le_refl _)
      rw [hq0]
      obtain ⟨x0, hx0⟩ := hC.cell (8 - nd m) (by omega)
      have hf0 := hC.free (8 - nd m)
      have hC' := Lib.hid hC
      clear hC
      have hnews := Lib.hid (hC'.out.news h8 (bits BinOp.xor IntKind.u8 (136 - ((8 - nd m : Nat) : Int)) 255) (head_xor true _ h8))
      have hbel := Lib.hid (hC'.out.1.setCell (p := ⟨w.heap.size, 8 - nd m, none⟩) (Nat.le_refl _) (.int .u8 (bits BinOp.xor IntKind.u8 (136 - ((8 - nd m : Nat) : Int)) 255)))
      have hown' := Lib.hid (hown.kept (below_grown hbel.out none) (by cases v.ownBlock <;> simp))
      have hsz := hbel.out.size
      have hlen := Lib.hid (news_length true m)
      generalize hk : nd m = k at *
      have hk' := Lib.hid hk
      have hsl := slice9 w.heap.size k h8
      clear hk hown hq0 hq hj hm'
      go_wp2_with (at_builtin; refine wpList_append_own _ rfl _ _ 60 rfl base 5 i0 (.int .u8 0) 1 1 Tryd.underlying60 hi hz0 hz1 hz2 rfl (by decide) _ _ _ rfl hown'.out ⟨w.heap.size, 8 - k, none⟩ (k + 1) (k + 1) (bvs (hd true k :: (lows k m).map (fx true))) rfl hlen.out hnews.out (bvs_one _) (by unfold maxLen; omega) (by omega) (by omega) ?_; intro v' w1 hown1 hgrow1 _; have hres : Hid (PutPost w base n0 xs (hd true k :: (lows k m).map (fx true)) (.returned v') w1) := Lib.hid (putPost_of (by omega) (hbel.out.mono hb) hown'.out hlen.out hown1 hgrow1); clear hown1 hgrow1)
      rw [Exit.noGoto_ret]
      go_ret
      have hres' := hres.out
      rw [← hk'.out] at hres'
      exact hres'

theorem putInt_any (v : Value) (n0 : Nat) (xs : List Value) (base : Nat) (n : Int) (w : World) (hown : w.ownsRow base 5 1 v n0 xs) (hb : base ≤ w.heap.size) (hn0 : n0 ≤ 70368744177664) (h1 : -9223372036854775808 ≤ n) (h2 : n ≤ 9223372036854775807) :
    Calls Tryd.prog 82 #[v, .int .i64 n] w fun e w' => PutPost w base n0 xs (enc n) e w' := by
  have hm := mgn_lt n h1 h2
  unfold enc
  by_cases c : n < 0
  · have e : neg n = true := by simp [neg, c]
    rw [e]
    exact putInt_neg v n0 xs base n (mgn n) w hown hb hn0 (show n = _ by unfold mgn; rw [if_pos c]; omega) hm
  · have e : neg n = false := by simp [neg, c]
    rw [e]
    exact putInt_pos v n0 xs base n (mgn n) w hown hb hn0 (show n = _ by unfold mgn; rw [if_neg c]; omega) hm


end Go.Proofs.YteaoaoknpihchaaDoor
