/- sherdref01.GetInt: the reference's decoding of an integer. -/
import Derived.Test.YtfodockdhecbpaaR1
import Derived.Test.YtfodockdhecbpaaV7a
import Derived.Deep.RegionWith
namespace Go.Proofs.Ytfodockdhecbpaa
open Go.RowKit

/-- the reference's decoding: its three values; what was there is as it was -/
def GPost (w : World) (x u er : Int) (e : Ending) (w' : World) : Prop := e = .returned (.tuple #[.int .i64 x, .int .i64 u, .int .i64 er]) ∧ Below w.heap.size w w'

theorem refGet_nil (a : Option Addr) (c : Nat) (w : World) :
    Calls Try.prog 25 #[.slice a 0 c] w (GPost w 0 0 3) := by
  go_enter Try.func25, Try.ntmps25
  go_wp2
  go_ret3
  exact ⟨rfl, Below.refl _ _⟩

set_option maxRecDepth 100000 in
set_option maxHeartbeats 400000 in
theorem refGet_lo (x : Int) (n c b off : Nat) (w : World) (h0 : 0 < n) (hx0 : 0 ≤ x) (hx : x < 119) (hc0 : w.cell? ⟨b, off, none⟩ = some (.int .u8 x)) :
    Calls Try.prog 25 #[.slice (some ⟨b, off, none⟩) n c] w (GPost w 0 0 2) := by
  have h1 : (((n : Nat) : Int) == 0) = false := by rw [beq_eq_false_iff_ne]; omega
  have h2 : 0 < (n : Int) := by omega
  go_enter Try.func25, Try.ntmps25
  go_wp2
  go_ret3
  exact ⟨rfl, Below.refl _ _⟩

set_option maxRecDepth 100000 in
set_option maxHeartbeats 400000 in
theorem refGet_hi (x : Int) (n c b off : Nat) (w : World) (h0 : 0 < n) (hx0 : 136 < x) (hx : x < 256) (hc0 : w.cell? ⟨b, off, none⟩ = some (.int .u8 x)) :
    Calls Try.prog 25 #[.slice (some ⟨b, off, none⟩) n c] w (GPost w 0 0 2) := by
  have h1 : (((n : Nat) : Int) == 0) = false := by rw [beq_eq_false_iff_ne]; omega
  have h2 : 0 < (n : Int) := by omega
  have h3 : ¬ x < 119 := by omega
  go_enter Try.func25, Try.ntmps25
  go_wp2
  go_ret3
  exact ⟨rfl, Below.refl _ _⟩

set_option maxRecDepth 100000 in
set_option maxHeartbeats 400000 in
theorem refGet_short_pos (k n c b off : Nat) (w : World) (h0 : 0 < n) (hmax : n ≤ 9223372036854775807) (hk : k ≤ 8) (hs : n < k + 1) (hc0 : w.cell? ⟨b, off, none⟩ = some (.int .u8 (128 + (k : Int)))) :
    Calls Try.prog 25 #[.slice (some ⟨b, off, none⟩) n c] w (GPost w 0 0 3) := by
  have h1 : (((n : Nat) : Int) == 0) = false := by rw [beq_eq_false_iff_ne]; omega
  have h2 : 0 < (n : Int) := by omega
  have h3 : (n : Int) < (k : Int) + 1 := by omega
  have h4 : (k : Int) ≤ 8 := by omega
  have h5 : 0 ≤ (k : Int) := by omega
  go_enter Try.func25, Try.ntmps25
  go_wp2
  go_ret3
  exact ⟨rfl, Below.refl _ _⟩

set_option maxRecDepth 100000 in
set_option maxHeartbeats 400000 in
theorem refGet_short_neg (k n c b off : Nat) (w : World) (h0 : 0 < n) (hmax : n ≤ 9223372036854775807) (hk : k ≤ 8) (hs : n < k + 1) (hc0 : w.cell? ⟨b, off, none⟩ = some (.int .u8 (127 - (k : Int)))) :
    Calls Try.prog 25 #[.slice (some ⟨b, off, none⟩) n c] w (GPost w 0 0 3) := by
  have h1 : (((n : Nat) : Int) == 0) = false := by rw [beq_eq_false_iff_ne]; omega
  have h2 : 0 < (n : Int) := by omega
  have h3 : (n : Int) < (k : Int) + 1 := by omega
  have h4 : (k : Int) ≤ 8 := by omega
  have h5 : 0 ≤ (k : Int) := by omega
  go_enter Try.func25, Try.ntmps25
  go_wp2
  go_ret3
  exact ⟨rfl, Below.refl _ _⟩

theorem mag_take (g : Bool) (l : List UInt8) (j : Nat) (hj : j < l.length) : (mag g (l.take (j + 1)) : Int) = 256 * (mag g (l.take j) : Int) + ((fx g (l.getD j 0)).toNat : Int) := by
  rw [List.take_succ_eq_append_getElem hj, mag_snoc]
  simp [hj]
theorem mag_grow (g : Bool) (l : List UInt8) (j : Nat) (hj : j < l.length) (h : 36028797018963967 < mag g (l.take j)) : 9223372036854775807 < mag g l := by
  have e : mag g l = mag g (l.take j) * 256 ^ (l.drop j).length + mag g (l.drop j) := by
    conv => lhs; rw [← List.take_append_drop j l]
    unfold mag
    rw [List.foldl_append, mag_from]
    rfl
  have : 256 ^ 1 ≤ 256 ^ (l.drop j).length := Nat.pow_le_pow_right (by omega) (by rw [List.length_drop]; omega)
  have h2 : 36028797018963968 * 256 ≤ mag g (l.take j) * 256 ^ (l.drop j).length := Nat.mul_le_mul (by omega) (by simpa using this)
  rw [e]
  omega

theorem ordD {w wm : World} (h : Below w.drew.heap.size w.drew wm) (q : Nat) : Below w.heap.size w (wm.drewN q) := below_drewN (⟨h.os, h.tape, h.output, h.size, h.block⟩ : Below w.heap.size w wm) q

set_option maxRecDepth 100000 in
set_option maxHeartbeats 800000 in
theorem refGet_pos (l ds : List UInt8) (k n c b off : Nat) (x u er : Int) (w : World) (hR : Hid (Rd w (some ⟨b, off, none⟩) l)) (hl : Hid (n = l.length)) (hkn : k + 1 ≤ n) (hnc : n ≤ c) (hmax : c ≤ 9223372036854775807) (hk : k ≤ 8) (hc0 : w.cell? ⟨b, off, none⟩ = some (.int .u8 (128 + (k : Int))))
    (hds : Hid (k = ds.length)) (hcs : Hid (∀ i, i < k → w.cell? ⟨b, off + (i + 1), none⟩ = some (.int .u8 (byt ds i))))
    (hover : Hid (9223372036854775807 < mag false ds → x = 0 ∧ u = 0 ∧ er = 2))
    (hfit : Hid (mag false ds ≤ 9223372036854775807 → if enc (mag false ds : Int) = l.take (k + 1) then x = (mag false ds : Int) ∧ u = (k : Int) + 1 ∧ er = 0 else x = 0 ∧ u = 0 ∧ er = 2)) :
    Calls Try.prog 25 #[.slice (some ⟨b, off, none⟩) n c] w (GPost w x u er) := by
  have h1 : (((n : Nat) : Int) == 0) = false := by rw [beq_eq_false_iff_ne]; omega
  have h2 : 0 < (n : Int) := by omega
  have h3 : (k : Int) + 1 ≤ (n : Int) := by omega
  have h4 : (k : Int) ≤ 8 := by omega
  have h5 : 0 ≤ (k : Int) := by omega
  go_enter Try.func25, Try.ntmps25
  go_wp2
  rw [show (128 + (k : Int) - 128) = (k : Int) from by omega]
  go_loop [7, 8, 9] (fun m i _ => ∃ j : Nat, j ≤ k ∧ i = .int .i64 ((j : Int) + 1) ∧ m = .int .i64 (mag false (ds.take j) : Nat) ∧ Hid (mag false (ds.take j) ≤ 9223372036854775807)) (fun _ i _ => k + 1 - (intOf i).toNat)
  case atStart => exact ⟨0, Nat.zero_le _, rfl, rfl, by show 0 ≤ _; omega⟩
  case round =>
    obtain ⟨j, hj, rfl, rfl, hle⟩ := hrel
    by_cases hlt : j < k
    · have hcell := hcs.out j hlt
      have hst := Lib.hid (mag_take false ds j (by rw [← hds.out]; exact hlt))
      have hgr := Lib.hid (mag_grow false ds j (by rw [← hds.out]; exact hlt))
      have hlo := byt_lo ds j
      have hhi := byt_hi ds j
      have hby : Hid (((fx false (ds.getD j 0)).toNat : Int) = byt ds j) := rfl
      have hnx : Hid (mag false (ds.take (j + 1)) ≤ 9223372036854775807) ∨ 36028797018963967 < mag false (ds.take j) := by
        rcases Nat.lt_or_ge 36028797018963967 (mag false (ds.take j)) with h | h
        · exact .inr h
        · refine .inl ?_
          show _ ≤ _
          have := hst.out
          have := (fx false (ds.getD j 0)).toNat_lt
          omega
      have hj1 : (j : Int) + 1 ≤ (k : Int) := by omega
      have hj0 : 0 ≤ (j : Int) + 1 := by omega
      generalize hz : mag false (ds.take j) = z at *
      have hz' := Lib.hid hz
      clear hz
      by_cases hb : z ≤ 36028797018963967
      · have hb1 : (z : Int) ≤ 36028797018963967 := by omega
        have hb0 : 0 ≤ (z : Int) := by omega
        have hnx' := hnx.resolve_right (by omega)
        clear hnx
        go_wp2
        refine ⟨⟨j + 1, by omega, by simp, ?_, hnx'⟩, by simp [intOf]; omega⟩
        rw [hst.out, hby.out]
      · have hb1 : 36028797018963967 < (z : Int) := by omega
        obtain ⟨rfl, rfl, rfl⟩ := hover.out (hgr.out (by omega))
        clear hnx
        go_wp2
        go_ret3
        exact ⟨rfl, Below.refl _ _⟩
    · have hj' : j = k := by omega
      subst hj'
      have htk : ds.take j = ds := List.take_of_length_le (by rw [← hds.out]; exact Nat.le_refl _)
      rw [htk] at hle ⊢
      have hfit' := Lib.hid (hfit.out hle.out)
      have hle' := hle.out
      clear hfit hover hlt htk
      generalize mag false ds = z at *
      have hz0 : 0 ≤ (z : Int) := by omega
      have hz1 : (z : Int) ≤ 9223372036854775807 := by omega
      have hj9 : ¬ (j : Int) + 1 ≤ (j : Int) := by omega
      have hc1 : (j : Int) + 1 ≤ (c : Int) := by omega
      have hc2 : 0 ≤ (j : Int) + 1 := by omega
      have hc3 : ¬ c = 0 := by omega
      have hwr : IntKind.i64.wrap ((j : Int) + 1) = (j : Int) + 1 := by simp [IntKind.wrap, IntKind.bits, IntKind.signed]; omega
      go_wp2_with fail
      have hRt := Lib.hid (Rd_take hR.out (j + 1))
      have hlt2 : Hid (j + 1 = (l.take (j + 1)).length) := by show _ = _; rw [List.length_take, ← hl.out]; omega
      clear hR hl hcs hds
      generalize l.take (j + 1) = r at *
      by_cases hok : enc (z : Int) = r
      · have hd : decide (enc (z : Int) = r) = true := by simpa using hok
        obtain ⟨rfl, rfl, rfl⟩ : x = (z : Int) ∧ u = (j : Int) + 1 ∧ er = 0 := by have := hfit'.out; rwa [if_pos hok] at this
        clear hok hfit'
        go_region_with (first | (go_at_call 15; refine (refInt_any _ _ (by omega) (by omega)).mono ?_; intro e wm hpm; obtain ⟨pm, cm, rfl, hRm, -, -, hbm⟩ := enc_Rd hpm; clear hpm) | (go_at_call 13; refine (Same_any _ _ _ _ _ _ (enc (z : Int)) r _ hRm (Rd_below hbm hRt.out) rfl hlt2.out (by rw [enc_length]; have := nd_le (mgn (z : Int)); omega)).mono ?_; rintro e w' ⟨rfl, q, rfl⟩; rw [hd]))
        all_goals (go_wp2; go_ret3; exact ⟨rfl, ordD hbm q⟩)
      · have hd : decide (enc (z : Int) = r) = false := by simpa using hok
        obtain ⟨rfl, rfl, rfl⟩ : x = 0 ∧ u = 0 ∧ er = 2 := by have := hfit'.out; rwa [if_neg hok] at this
        clear hok hfit'
        go_region_with (first | (go_at_call 15; refine (refInt_any _ _ (by omega) (by omega)).mono ?_; intro e wm hpm; obtain ⟨pm, cm, rfl, hRm, -, -, hbm⟩ := enc_Rd hpm; clear hpm) | (go_at_call 13; refine (Same_any _ _ _ _ _ _ (enc (z : Int)) r _ hRm (Rd_below hbm hRt.out) rfl hlt2.out (by rw [enc_length]; have := nd_le (mgn (z : Int)); omega)).mono ?_; rintro e w' ⟨rfl, q, rfl⟩; rw [hd]))
        all_goals (go_wp2; go_ret3; exact ⟨rfl, ordD hbm q⟩)

set_option maxRecDepth 100000 in
set_option maxHeartbeats 800000 in
theorem refGet_neg (l ds : List UInt8) (k n c b off : Nat) (x u er : Int) (w : World) (hR : Hid (Rd w (some ⟨b, off, none⟩) l)) (hl : Hid (n = l.length)) (hkn : k + 1 ≤ n) (hnc : n ≤ c) (hmax : c ≤ 9223372036854775807) (hk : k ≤ 8) (hc0 : w.cell? ⟨b, off, none⟩ = some (.int .u8 (127 - (k : Int))))
    (hds : Hid (k = ds.length)) (hcs : Hid (∀ i, i < k → w.cell? ⟨b, off + (i + 1), none⟩ = some (.int .u8 (byt ds i))))
    (hover : Hid (9223372036854775807 < mag true ds → x = 0 ∧ u = 0 ∧ er = 2))
    (hfit : Hid (mag true ds ≤ 9223372036854775807 → if enc (-1 - (mag true ds : Int)) = l.take (k + 1) then x = -1 - (mag true ds : Int) ∧ u = (k : Int) + 1 ∧ er = 0 else x = 0 ∧ u = 0 ∧ er = 2)) :
    Calls Try.prog 25 #[.slice (some ⟨b, off, none⟩) n c] w (GPost w x u er) := by
  have h1 : (((n : Nat) : Int) == 0) = false := by rw [beq_eq_false_iff_ne]; omega
  have h2 : 0 < (n : Int) := by omega
  have h3 : (k : Int) + 1 ≤ (n : Int) := by omega
  have h4 : (k : Int) ≤ 8 := by omega
  have h5 : 0 ≤ (k : Int) := by omega
  have h6 : 127 - (k : Int) < 128 := by omega
  go_enter Try.func25, Try.ntmps25
  go_wp2
  rw [show (127 - (127 - (k : Int))) = (k : Int) from by omega]
  go_loop [7, 8, 9] (fun m i _ => ∃ j : Nat, j ≤ k ∧ i = .int .i64 ((j : Int) + 1) ∧ m = .int .i64 (mag true (ds.take j) : Nat) ∧ Hid (mag true (ds.take j) ≤ 9223372036854775807)) (fun _ i _ => k + 1 - (intOf i).toNat)
  case atStart => exact ⟨0, Nat.zero_le _, rfl, rfl, by show 0 ≤ _; omega⟩
  case round =>
    obtain ⟨j, hj, rfl, rfl, hle⟩ := hrel
    by_cases hlt : j < k
    · have hcell := hcs.out j hlt
      have hst := Lib.hid (mag_take true ds j (by rw [← hds.out]; exact hlt))
      have hgr := Lib.hid (mag_grow true ds j (by rw [← hds.out]; exact hlt))
      have hlo := byt_lo ds j
      have hhi := byt_hi ds j
      have hby : Hid (((fx true (ds.getD j 0)).toNat : Int) = 255 - byt ds j) := (by show ((fx true (ds.getD j 0)).toNat : Int) = 255 - ((ds.getD j 0).toNat : Int); rw [fx_nat]; have := (ds.getD j 0).toNat_lt; simp only [if_true]; omega)
      have hnx : Hid (mag true (ds.take (j + 1)) ≤ 9223372036854775807) ∨ 36028797018963967 < mag true (ds.take j) := by
        rcases Nat.lt_or_ge 36028797018963967 (mag true (ds.take j)) with h | h
        · exact .inr h
        · refine .inl ?_
          show _ ≤ _
          have := hst.out
          have := (fx true (ds.getD j 0)).toNat_lt
          omega
      have hj1 : (j : Int) + 1 ≤ (k : Int) := by omega
      have hj0 : 0 ≤ (j : Int) + 1 := by omega
      generalize hz : mag true (ds.take j) = z at *
      have hz' := Lib.hid hz
      clear hz
      by_cases hb : z ≤ 36028797018963967
      · have hb1 : (z : Int) ≤ 36028797018963967 := by omega
        have hb0 : 0 ≤ (z : Int) := by omega
        have hnx' := hnx.resolve_right (by omega)
        clear hnx
        go_wp2
        refine ⟨⟨j + 1, by omega, by simp, ?_, hnx'⟩, by simp [intOf]; omega⟩
        rw [hst.out, hby.out]
      · have hb1 : 36028797018963967 < (z : Int) := by omega
        obtain ⟨rfl, rfl, rfl⟩ := hover.out (hgr.out (by omega))
        clear hnx
        go_wp2
        go_ret3
        exact ⟨rfl, Below.refl _ _⟩
    · have hj' : j = k := by omega
      subst hj'
      have htk : ds.take j = ds := List.take_of_length_le (by rw [← hds.out]; exact Nat.le_refl _)
      rw [htk] at hle ⊢
      have hfit' := Lib.hid (hfit.out hle.out)
      have hle' := hle.out
      clear hfit hover hlt htk
      generalize mag true ds = z at *
      have hz0 : 0 ≤ (z : Int) := by omega
      have hz1 : (z : Int) ≤ 9223372036854775807 := by omega
      have hj9 : ¬ (j : Int) + 1 ≤ (j : Int) := by omega
      have hc1 : (j : Int) + 1 ≤ (c : Int) := by omega
      have hc2 : 0 ≤ (j : Int) + 1 := by omega
      have hc3 : ¬ c = 0 := by omega
      have hwr : IntKind.i64.wrap ((j : Int) + 1) = (j : Int) + 1 := by simp [IntKind.wrap, IntKind.bits, IntKind.signed]; omega
      go_wp2_with fail
      have hRt := Lib.hid (Rd_take hR.out (j + 1))
      have hlt2 : Hid (j + 1 = (l.take (j + 1)).length) := by show _ = _; rw [List.length_take, ← hl.out]; omega
      clear hR hl hcs hds
      generalize l.take (j + 1) = r at *
      by_cases hok : enc (-1 - (z : Int)) = r
      · have hd : decide (enc (-1 - (z : Int)) = r) = true := by simpa using hok
        obtain ⟨rfl, rfl, rfl⟩ : x = -1 - (z : Int) ∧ u = (j : Int) + 1 ∧ er = 0 := by have := hfit'.out; rwa [if_pos hok] at this
        clear hok hfit'
        go_region_with (first | (go_at_call 15; refine (refInt_any _ _ (by omega) (by omega)).mono ?_; intro e wm hpm; obtain ⟨pm, cm, rfl, hRm, -, -, hbm⟩ := enc_Rd hpm; clear hpm) | (go_at_call 13; refine (Same_any _ _ _ _ _ _ (enc (-1 - (z : Int))) r _ hRm (Rd_below hbm hRt.out) rfl hlt2.out (by rw [enc_length]; have := nd_le (mgn (-1 - (z : Int))); omega)).mono ?_; rintro e w' ⟨rfl, q, rfl⟩; rw [hd]))
        all_goals (go_wp2; go_ret3; exact ⟨rfl, ordD hbm q⟩)
      · have hd : decide (enc (-1 - (z : Int)) = r) = false := by simpa using hok
        obtain ⟨rfl, rfl, rfl⟩ : x = 0 ∧ u = 0 ∧ er = 2 := by have := hfit'.out; rwa [if_neg hok] at this
        clear hok hfit'
        go_region_with (first | (go_at_call 15; refine (refInt_any _ _ (by omega) (by omega)).mono ?_; intro e wm hpm; obtain ⟨pm, cm, rfl, hRm, -, -, hbm⟩ := enc_Rd hpm; clear hpm) | (go_at_call 13; refine (Same_any _ _ _ _ _ _ (enc (-1 - (z : Int))) r _ hRm (Rd_below hbm hRt.out) rfl hlt2.out (by rw [enc_length]; have := nd_le (mgn (-1 - (z : Int))); omega)).mono ?_; rintro e w' ⟨rfl, q, rfl⟩; rw [hd]))
        all_goals (go_wp2; go_ret3; exact ⟨rfl, ordD hbm q⟩)

theorem gi_head (h : UInt8) (t : List UInt8) : gi (h :: t) = if 8 < hk h then (0, 0, 2) else if t.length < hk h then (0, 0, 3) else if lead0 (hg h) (t.take (hk h)) then (0, 0, 2) else if 9223372036854775807 < mag (hg h) (t.take (hk h)) then (0, 0, 2) else (sgn (hg h) (mag (hg h) (t.take (hk h))), 1 + hk h, 0) := rfl

/-- where the digits fit: accepted exactly if the encoding of the number is what was given -/
theorem gi_fit (h : UInt8) (t : List UInt8) (x : Int) (u : Nat) (er : Int) (hr : gi (h :: t) = (x, u, er)) (c1 : ¬ 8 < hk h) (c2 : ¬ t.length < hk h) (hm : mag (hg h) (t.take (hk h)) ≤ 9223372036854775807) :
    if enc (sgn (hg h) (mag (hg h) (t.take (hk h)))) = (h :: t).take (hk h + 1) then x = sgn (hg h) (mag (hg h) (t.take (hk h))) ∧ (u : Int) = (hk h : Int) + 1 ∧ er = 0 else x = 0 ∧ (u : Int) = 0 ∧ er = 2 := by
  have hr' := hr
  rw [gi_head, if_neg c1, if_neg c2] at hr
  by_cases c3 : lead0 (hg h) (t.take (hk h)) = true
  · rw [if_pos c3] at hr
    simp only [Prod.mk.injEq] at hr
    obtain ⟨rfl, rfl, rfl⟩ := hr
    rw [if_neg]
    · exact ⟨rfl, rfl, rfl⟩
    · intro e
      have hs : -9223372036854775808 ≤ sgn (hg h) (mag (hg h) (t.take (hk h))) ∧ sgn (hg h) (mag (hg h) (t.take (hk h))) ≤ 9223372036854775807 := by unfold sgn; split <;> omega
      have a := gi_enc (sgn (hg h) (mag (hg h) (t.take (hk h)))) ((h :: t).drop (hk h + 1)) hs.1 hs.2
      rw [e, List.take_append_drop, hr'] at a
      simp at a
  · rw [if_neg c3, if_neg (by omega)] at hr
    rw [gi_head, if_neg c1, if_neg c2, if_neg c3, if_neg (by omega)] at hr'
    simp only [Prod.mk.injEq] at hr
    obtain ⟨rfl, rfl, rfl⟩ := hr
    have hz : gi (h :: t) = (sgn (hg h) (mag (hg h) (t.take (hk h))), 1 + hk h, 0) := by rw [gi_head, if_neg c1, if_neg c2, if_neg c3, if_neg (by omega)]
    obtain ⟨-, -, -, h4, -⟩ := gi_range _ _ _ hz
    rw [if_pos]
    · exact ⟨rfl, by omega, rfl⟩
    · rw [← h4, Nat.add_comm]

theorem gi_over (h : UInt8) (t : List UInt8) (x : Int) (u : Nat) (er : Int) (hr : gi (h :: t) = (x, u, er)) (c1 : ¬ 8 < hk h) (c2 : ¬ t.length < hk h) (hm : 9223372036854775807 < mag (hg h) (t.take (hk h))) : x = 0 ∧ (u : Int) = 0 ∧ er = 2 := by
  rw [gi_head, if_neg c1, if_neg c2] at hr
  by_cases c3 : lead0 (hg h) (t.take (hk h)) = true
  · rw [if_pos c3] at hr
    simp only [Prod.mk.injEq] at hr
    obtain ⟨rfl, rfl, rfl⟩ := hr
    exact ⟨rfl, rfl, rfl⟩
  · rw [if_neg c3, if_pos hm] at hr
    simp only [Prod.mk.injEq] at hr
    obtain ⟨rfl, rfl, rfl⟩ := hr
    exact ⟨rfl, rfl, rfl⟩

/-- the reference's GetInt decodes as 'gi' says -/
theorem refGetInt_any (a : Option Addr) (n c : Nat) (l : List UInt8) (w : World) (hR : Rd w a l) (hn : n = l.length) (hnc : n ≤ c) (hmax : c ≤ 9223372036854775807) (x : Int) (u : Nat) (er : Int) (hr : gi l = (x, u, er)) :
    Calls Try.prog 25 #[.slice a n c] w (GPost w x u er) := by
  cases l with
  | nil =>
    simp only [gi, Prod.mk.injEq] at hr
    obtain ⟨rfl, rfl, rfl⟩ := hr
    simp only [List.length_nil] at hn
    subst hn
    exact refGet_nil a c w
  | cons h t =>
    have hR' := hR
    rcases hR with hR | ⟨b, off, rfl, hc⟩
    · cases hR
    · have h0 : 0 < n := by rw [hn]; simp
      have hc0 : w.cell? ⟨b, off, none⟩ = some (.int .u8 (h.toNat : Int)) := hc 0 (by simp)
      have hlt := h.toNat_lt
      have hn' := hn
      rw [List.length_cons] at hn'
      rw [← hn] at hc
      by_cases c1 : 8 < hk h
      · rw [gi_head, if_pos c1] at hr
        simp only [Prod.mk.injEq] at hr
        obtain ⟨rfl, rfl, rfl⟩ := hr
        unfold hk at c1
        split at c1
        · exact refGet_lo _ n c b off w h0 (by omega) (by omega) hc0
        · exact refGet_hi _ n c b off w h0 (by omega) (by omega) hc0
      by_cases c2 : t.length < hk h
      · rw [gi_head, if_neg c1, if_pos c2] at hr
        simp only [Prod.mk.injEq] at hr
        obtain ⟨rfl, rfl, rfl⟩ := hr
        by_cases hh : h.toNat < 128
        · have e : hk h = 127 - h.toNat := by unfold hk; rw [if_pos hh]
          exact refGet_short_neg (hk h) n c b off w h0 (by omega) (by omega) (by omega) (by rw [hc0]; exact congrArg (fun z => some (Value.int .u8 z)) (by omega))
        · have e : hk h = h.toNat - 128 := by unfold hk; rw [if_neg hh]
          exact refGet_short_pos (hk h) n c b off w h0 (by omega) (by omega) (by omega) (by rw [hc0]; exact congrArg (fun z => some (Value.int .u8 z)) (by omega))
      have hkn : hk h + 1 ≤ n := by omega
      have hds : hk h = (t.take (hk h)).length := by rw [List.length_take]; omega
      have hcs : ∀ i, i < hk h → w.cell? ⟨b, off + (i + 1), none⟩ = some (.int .u8 (byt (t.take (hk h)) i)) := by
        intro i hi
        have := cells_tail w b off n h t hc (hk h) (by omega) i hi
        rwa [show off + (i + 1) = off + 1 + i from by omega]
      have fit := gi_fit h t x u er hr c1 c2
      have over := gi_over h t x u er hr c1 c2
      by_cases hh : h.toNat < 128
      · have e : hk h = 127 - h.toNat := by unfold hk; rw [if_pos hh]
        have g : hg h = true := by simp [hg, hh]
        rw [g] at fit over
        exact refGet_neg (h :: t) (t.take (hk h)) (hk h) n c b off x u er w hR' hn hkn hnc hmax (by omega) (by rw [hc0]; exact congrArg (fun z => some (Value.int .u8 z)) (by omega)) hds hcs over fit
      · have e : hk h = h.toNat - 128 := by unfold hk; rw [if_neg hh]
        have g : hg h = false := by simp [hg, hh]
        rw [g] at fit over
        exact refGet_pos (h :: t) (t.take (hk h)) (hk h) n c b off x u er w hR' hn hkn hnc hmax (by omega) (by rw [hc0]; exact congrArg (fun z => some (Value.int .u8 z)) (by omega)) hds hcs over fit

end Go.Proofs.Ytfodockdhecbpaa
