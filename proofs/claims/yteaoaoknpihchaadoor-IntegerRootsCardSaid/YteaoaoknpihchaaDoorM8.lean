/- Contracts of the package integer and its reference: integer.above, root. integer.Compare, Sign. integer.Root. The reference: plus, minus. The reference: Of. -/
import Derived.Test.YteaoaoknpihchaaDoorM7
import Derived.Test.YteaoaoknpihchaaDoorM5
set_option linter.unusedVariables false
namespace Go.Proofs.YteaoaoknpihchaaDoor
open Go.RowKit

set_option maxRecDepth 100000 in
set_option maxHeartbeats 1600000 in
theorem above_large (a : Option Addr) (n c : Nat) (x : List Int) (w : World) (hR0 : Rdi w a x) (hn0 : n = x.length) (hnc : n ≤ c) (hcm : c ≤ 9223372036854775807) (hd0 : Dg x) (ht0 : tlen x = x.length) (h3 : 3 ≤ n) (hm : n ≤ 274877906943) (hx0 : 0 < val x)
    (hrt0 : ∀ (p : Option Addr) (m k : Nat) (y : List Int) W, Below w.heap.size w W → m < n → Rdi W p y → m = y.length → m ≤ k → k ≤ 9223372036854775807 → Dg y → tlen y = y.length → 0 < val y → Calls Tryd.prog 57 #[.slice p m k] W (RtP W y)) :
    Calls Tryd.prog 75 #[.slice a n c] w (AbvP w x) := by
  obtain ⟨L, hL⟩ : ∃ L, max 1 (n / 4) = L := ⟨_, rfl⟩
  have hlb := low_bd n h3
  rw [hL] at hlb
  obtain ⟨hl1, hl2, hl3⟩ := hlb
  obtain ⟨b, o, ha, -⟩ := Rdi_at hR0 0 (by omega)
  subst ha
  have hsl : ∀ W, Below w.heap.size w W → Rdi W (some ⟨b, o + 2 * L, none⟩) (x.drop (2 * L)) := fun W hb => by
    rcases Rdi_below hb hR0 with h | ⟨b', o', he, hc⟩
    · rw [h] at hn0; simp at hn0; omega
    · cases he
      refine .inr ⟨b, o + 2 * L, rfl, fun i hi => ?_⟩
      rw [List.length_drop] at hi
      rw [iat_drop, show o + 2 * L + i = o + (2 * L + i) by omega]
      exact hc _ (by omega)
  have hdl : (x.drop (2 * L)).length = n - 2 * L := by rw [List.length_drop, hn0]
  have hdp := drop_pos hd0 ht0 (2 * L) (by omega) hx0
  have hdt : tlen (x.drop (2 * L)) = (x.drop (2 * L)).length := by
    refine tlen_of _ _ (Nat.le_refl _) (fun i h1 h2 => by omega) (.inr ?_)
    have h1 := top_of hd0 ht0 hx0
    rw [iat_drop, show 2 * L + ((x.drop (2 * L)).length - 1) = x.length - 1 by rw [hdl]; omega]
    omega
  have hroot : Hid (∀ W, Below w.heap.size w W → Calls Tryd.prog 57 #[.slice (some ⟨b, o + 2 * L, none⟩) (n - 2 * L) (c - 2 * L)] W (RtP W (x.drop (2 * L)))) := Lib.hid fun W hb => hrt0 _ _ _ _ W hb (by omega) (hsl W hb) hdl.symm (by omega) (by omega) (hd0.drop _) hdt hdp
  have hav : Hid (∀ r, val (x.drop (2 * L)) < (r + 1) * (r + 1) → val x < (pw L * (r + 1)) * (pw L * (r + 1))) := Lib.hid fun r h => above_val hd0 (by omega) h
  have hdl' := Lib.hid hdl
  have hdp' := Lib.hid hdp
  have N := Lib.hid hn0
  have t1 : ¬ (n : Int) < 3 := by omega
  clear hR0 hn0 hd0 ht0 hrt0 hsl hdl hdp hdt
  have hmx : max 1 ((n : Int) / 4) = (L : Int) := by omega
  have l0 : 0 ≤ (L : Int) := by omega
  have l1 : 2 * (L : Int) ≤ (n : Int) := by omega
  have l2 : 2 * (L : Int) ≤ (c : Int) := by omega
  have l3 : (n : Int) ≤ 274877906943 := by omega
  clear hL
  go_enter Tryd.func75, Tryd.ntmps75
  go_wp2_with fail
  refine (hroot.out _ (Below.refl _ _)).mono ?_
  rintro e w1 ⟨p1, n1, c1, r, rfl, hR1, hl1', hnc1, hcb1, hd1, hr0, hrr, hrx, ht1, hlx1, hpn1, hb1⟩
  have hl1'' := Lib.hid hl1'
  have hd1' := Lib.hid hd1
  have hR1' := Lib.hid hR1
  have hb1' := Lib.hid hb1
  have hr0' := Lib.hid hr0
  have hrx' := Lib.hid hrx
  have hlx1' := Lib.hid hlx1
  clear hR1 hl1' hd1 hr0 hrr hrx ht1 hlx1 hb1 hroot hpn1
  go_wp2_with fail
  have hBF : Blk (w1.alloc (.cells #[.int .i64 1] 3)) w1.heap.size [1] := Blk_new w1 [1]
  have hb2 : Below w1.heap.size w1 (w1.alloc (.cells #[.int .i64 1] 3)) := below_new _ _
  generalize w1.alloc (.cells #[.int .i64 1] 3) = W2 at hBF hb2 ⊢
  refine (sum_any _ _ _ _ 1 _ r [1] W2 (Rdi_below hb2 hR1'.out) hBF.rdi hl1''.out.symm rfl hd1'.out (Dg_cons (by omega) (by omega) Dg_nil) (by have := hlx1'.out; have := hdl'.out; omega) (by omega)).mono ?_
  rintro e w3 ⟨g3, n3, z, rfl, hg3, hz3, hb3, hl3', hs3⟩
  have hv3 : val z = val r + 1 := by rw [hs3.2.1]; simp [val]
  have hzl : z.length ≤ n - 2 * L + 1 := by
    have h1 := hs3.2.2
    have h2 := hlx1'.out
    have h4 := hl1''.out
    have h5 := hdl'.out
    simp only [List.length_cons, List.length_nil] at h1
    omega
  have htr : Hid (Calls Tryd.prog 50 #[.slice (some ⟨g3, 0, none⟩) n3 n3] w3 fun e w' => e = .returned (.slice (some ⟨g3, 0, none⟩) (tlen z) n3) ∧ w3 = w') := Lib.hid (trimmed_any _ _ _ z w3 hz3.rdi hl3'.symm (Nat.le_refl _) (by omega))
  have htk := take_tlen hs3.1
  have hzz : Hid (Dg (z.take (tlen z)) ∧ val (z.take (tlen z)) = val r + 1 ∧ (z.take (tlen z)).length = tlen z ∧ tlen (z.take (tlen z)) = (z.take (tlen z)).length ∧ tlen z ≤ n - 2 * L + 1 ∧ 0 < tlen z) := Lib.hid (by
    have h1 := hs3.1.lo
    have h2 := tlen_le z
    have h3 := hr0'.out
    refine ⟨hs3.1.take _, by rw [htk, val_digs, Int.toNat_of_nonneg h1, hv3], by rw [List.length_take]; omega, by rw [htk]; exact tlen_digs _, by omega, ?_⟩
    rcases Nat.eq_zero_or_pos (tlen z) with h | h
    · have := tlen_zero hs3.1 h; omega
    · exact h)
  have hB3 : Hid (Below w.heap.size w w3) := Lib.hid (below_tr (below_tr hb1'.out hb2) hb3)
  have hRz : Hid (Rdi w3 (some ⟨g3, 0, none⟩) (z.take (tlen z))) := Lib.hid (Rdi_blk_take hz3 _)
  clear hz3 hl3' hs3 hv3 hzl htk hBF hb2 hb3
  generalize z.take (tlen z) = Z at hzz hRz
  generalize tlen z = k at hzz htr
  have hmk := run_make_row' (P := Tryd.prog) 22 3 (.int .i64 0) 8 Tryd.underlying22 info_i64 rfl .i64 .i64 L (by omega) (by omega)
  rw [zvs_zeros] at hmk
  obtain ⟨ZL, hZL⟩ : ∃ Z, zvs (List.replicate L 0) = Z := ⟨_, rfl⟩
  rw [hZL] at hmk
  have hZB : Hid (Blk (w3.alloc (.cells ZL.toArray 3)) w3.heap.size (List.replicate L 0)) := Lib.hid (by rw [← hZL]; exact Blk_new w3 _)
  clear hZL
  have hkn : Hid (L + k ≤ n) := Lib.hid (by have := hzz.out.2.2.2.2.1; omega)
  obtain ⟨pp, cc, w5, hrun, hR5, hcc, hcc2, hpn5, hb5⟩ := append_full w3.heap.size (List.replicate L 0) L (by simp) (some ⟨g3, 0, none⟩) k n3 Z (w3.alloc (.cells ZL.toArray 3)) hZB.out (Rdi_below (below_new _ _) hRz.out) hzz.out.2.2.1.symm hzz.out.2.2.2.2.2 (by have := hkn.out; omega)
  have hfin : Hid (AbvP w x (.returned (.slice pp (L + k) cc)) w5) := Lib.hid (by
    have h1 := hzz.out
    have h2 : val (List.replicate L 0 ++ Z) = pw L * (val r + 1) := by rw [val_append, val_zeros, List.length_replicate, h1.2.1]; omega
    have h3 := hav.out (val r) hrx'.out
    have h4 := pw_pos L
    have h5 := hr0'.out
    have hne : Z ≠ [] := by intro h; rw [h] at h1; simp at h1; omega
    refine ⟨pp, L + k, cc, List.replicate L 0 ++ Z, rfl, hR5, by rw [List.length_append, List.length_replicate, h1.2.2.1], hcc, hcc2, Dg_append (Dg_zeros _) h1.1, by rw [h2]; exact Int.mul_pos h4 (by omega), by rw [h2]; exact h3, tlen_zeros_append L Z h1.2.2.2.1 hne, by rw [← N.out]; exact hkn.out, (fun q hq => by have h7 := hpn5 q hq; have h8 := hB3.out.size; have h9 := (below_new w3 (.cells ZL.toArray 3)).size; omega), below_tr (below_tr hB3.out (below_new _ _)) hb5⟩)
  have hrun' := Lib.hid hrun
  clear hrun hR5 hcc hcc2 hb5 hpn5
  go_wp2_with (first | (go_at_call 50; refine htr.out.mono ?_; rintro e w' ⟨rfl, rfl⟩) | (at_builtin; refine wpList_append_run rfl _ _ 22 22 rfl _ _ rfl rfl _ _ hrun'.out ?_))
  go_ret
  exact hfin.out

/-- the square root of digits -/
theorem root_any : ∀ (n : Nat) (a : Option Addr) (c : Nat) (x : List Int) (w : World), Rdi w a x → n = x.length → n ≤ c → c ≤ 9223372036854775807 → Dg x → tlen x = x.length → n ≤ 274877906943 → 0 < val x →
    Calls Tryd.prog 57 #[.slice a n c] w (RtP w x) := by
  intro n
  induction n using Nat.strongRecOn with
  | _ n ih =>
    intro a c x w hR hn hc hcm hd ht hm hx
    refine root_of a n c x w hR hn hd hm hx fun W hb => ?_
    by_cases h3 : n < 3
    · exact above_small a n c x W (Rdi_below hb hR) hn hd h3 hx
    · exact above_large a n c x W (Rdi_below hb hR) hn hc hcm hd ht (by omega) hm hx fun p m k y W2 hb2 hmn hRy hmy hmk hk hdy hty hy => ih m hmn p k y W2 hRy hmy hmk hk hdy hty (by omega) hy
end Go.Proofs.YteaoaoknpihchaaDoor

namespace Go.Proofs.YteaoaoknpihchaaDoor
open Go.RowKit

theorem cmp_abs_neg {x y : Int} (hx : x < 0) (hy : y < 0) : cmpI y.natAbs x.natAbs = cmpI x y := by
  unfold cmpI
  rw [show (y.natAbs : Int) = -y by omega, show (x.natAbs : Int) = -x by omega]
  repeat (first | split | omega)
theorem cmp_abs_pos {x y : Int} (hx : ¬ x < 0) (hy : ¬ y < 0) : cmpI x.natAbs y.natAbs = cmpI x y := by
  rw [show (x.natAbs : Int) = x by omega, show (y.natAbs : Int) = y by omega]

set_option maxRecDepth 100000 in
set_option maxHeartbeats 1600000 in
theorem Compare_any (nx ny : Bool) (px py : Option Addr) (lx cx ly cy : Nat) (x y : Int) (w : World) (hx0 : IntAt w nx px lx cx x) (hy0 : IntAt w ny py ly cy y) (hlx : lx ≤ 549755813887) (hly : ly ≤ 549755813887) :
    Calls Tryd.prog 31 #[.agg #[.bool nx, .slice px lx cx], .agg #[.bool ny, .slice py ly cy]] w fun e w' => e = .returned (.int .i64 (cmpI x y)) ∧ Below w.heap.size w w' := by
  have hb : Below w.heap.size w ((w.alloc (.cells #[.bool nx, .slice px lx cx] 24)).alloc (.cells #[.bool ny, .slice py ly cy] 24)) := ((Below.refl _ _).alloc (Nat.le_refl _) _).alloc (by simp) _
  have hb' := Lib.hid hb
  have h1 : Hid (∀ W, Below w.heap.size w W → Calls Tryd.prog 54 #[.slice px lx cx, .slice py ly cy] W fun e w' => e = .returned (.int .i64 (cmpI x.natAbs y.natAbs)) ∧ Below W.heap.size W w') :=
    Lib.hid fun W h => compare_any _ _ _ _ _ _ _ _ W (Rdi_below h hx0.2.2.1) (Rdi_below h hy0.2.2.1) hx0.2.1 hy0.2.1 (by omega) (by omega)
  have h2 : Hid (∀ W, Below w.heap.size w W → Calls Tryd.prog 54 #[.slice py ly cy, .slice px lx cx] W fun e w' => e = .returned (.int .i64 (cmpI y.natAbs x.natAbs)) ∧ Below W.heap.size W w') :=
    Lib.hid fun W h => compare_any _ _ _ _ _ _ _ _ W (Rdi_below h hy0.2.2.1) (Rdi_below h hx0.2.2.1) hy0.2.1 hx0.2.1 (by omega) (by omega)
  have hnx := hx0.1
  have hny := hy0.1
  obtain ⟨r, hr⟩ : ∃ r, cmpI x y = r := ⟨_, rfl⟩
  rw [hr]
  clear hx0 hy0 hb
  cases nx <;> cases ny
  · have e1 : ¬ x < 0 := by simpa using hnx.symm
    have e2 : ¬ y < 0 := by simpa using hny.symm
    rw [cmp_abs_pos e1 e2, hr] at h1
    clear hnx hny hr h2
    go_enter Tryd.func31, Tryd.ntmps31
    go_wp2_with (go_at_call 54; refine (h1.out _ hb'.out).mono ?_; rintro e w1 ⟨rfl, hb1⟩; have hB := Lib.hid (below_tr hb'.out hb1); clear hb1)
    go_ret
    exact ⟨rfl, hB.out⟩
  · have e1 : ¬ x < 0 := by simpa using hnx.symm
    have e2 : y < 0 := by simpa using hny.symm
    rw [cmp_gt (show y < x by omega)] at hr
    subst hr
    clear hnx hny h1 h2 e1 e2
    go_enter Tryd.func31, Tryd.ntmps31
    go_wp2_with fail
    go_ret
    exact ⟨rfl, hb'.out⟩
  · have e1 : x < 0 := by simpa using hnx.symm
    have e2 : ¬ y < 0 := by simpa using hny.symm
    rw [cmp_lt (show x < y by omega)] at hr
    subst hr
    clear hnx hny h1 h2 e1 e2
    go_enter Tryd.func31, Tryd.ntmps31
    go_wp2_with fail
    go_ret
    exact ⟨rfl, hb'.out⟩
  · have e1 : x < 0 := by simpa using hnx.symm
    have e2 : y < 0 := by simpa using hny.symm
    rw [cmp_abs_neg e1 e2, hr] at h2
    clear hnx hny hr h1
    go_enter Tryd.func31, Tryd.ntmps31
    go_wp2_with (go_at_call 54; refine (h2.out _ hb'.out).mono ?_; rintro e w1 ⟨rfl, hb1⟩; have hB := Lib.hid (below_tr hb'.out hb1); clear hb1)
    go_ret
    exact ⟨rfl, hB.out⟩

set_option maxRecDepth 100000 in
set_option maxHeartbeats 800000 in
theorem Sign_any (nx : Bool) (px : Option Addr) (lx cx : Nat) (x : Int) (w : World) (hx0 : IntAt w nx px lx cx x) (hlx : lx ≤ 549755813887) :
    Calls Tryd.prog 27 #[.agg #[.bool nx, .slice px lx cx]] w fun e w' => e = .returned (.int .i64 (cmpI x 0)) ∧ Below w.heap.size w w' := by
  have hc : Hid (∀ W, Below w.heap.size w W → Calls Tryd.prog 31 #[.agg #[.bool nx, .slice px lx cx], .agg #[.bool false, .slice none 0 0]] W fun e w' => e = .returned (.int .i64 (cmpI x 0)) ∧ Below W.heap.size W w') :=
    Lib.hid fun W h => Compare_any _ _ _ _ _ _ _ _ x 0 W (hx0.later h) (IntAt_zero _ _ _ (by omega)) hlx (by omega)
  obtain ⟨r, hr⟩ : ∃ r, cmpI x 0 = r := ⟨_, rfl⟩
  rw [hr] at hc ⊢
  clear hx0 hr
  go_enter Tryd.func27, Tryd.ntmps27
  go_wp2_with (go_at_call 31; refine (hc.out _ (below_new _ _)).mono ?_; rintro e w1 ⟨rfl, hb1⟩; have hB := Lib.hid (below_tr (below_new _ _) hb1); clear hb1)
  go_ret
  exact ⟨rfl, hB.out⟩
end Go.Proofs.YteaoaoknpihchaaDoor

namespace Go.Proofs.YteaoaoknpihchaaDoor
open Go.RowKit

/-- what Root answers -/
def RootP (w : World) (x : Int) (e : Ending) (w' : World) : Prop :=
  ∃ nb p n c r bl, e = .returned (.tuple #[.agg #[.bool nb, .slice p n c], .bool bl]) ∧ IntAt w' nb p n c r ∧ (x < 0 → r = 0 ∧ bl = false) ∧ (0 ≤ x → 0 ≤ r ∧ r * r ≤ x ∧ x < (r + 1) * (r + 1) ∧ bl = decide (r * r = x)) ∧ Below w.heap.size w w' ∧ ∀ q, p = some q → w.heap.size ≤ q.block

set_option maxRecDepth 100000 in
set_option maxHeartbeats 800000 in
theorem root_nil (p : Option Addr) (c : Nat) (w : World) : Calls Tryd.prog 57 #[.slice p 0 c] w fun e w' => e = .returned (.slice none 0 0) ∧ w = w' := by
  go_enter Tryd.func57, Tryd.ntmps57
  go_wp2_with fail
  go_ret
  exact ⟨rfl, rfl⟩

/-- the boxes of a root -/
def Rt5 (w : World) (nx : Bool) (px : Option Addr) (lx cx : Nat) (g : Nat) (nb : Bool) (p : Option Addr) (n c : Nat) (r : Int) (W : World) : Prop :=
  W.heap[w.heap.size]? = some (.cells #[.bool nx, .slice px lx cx] 24 (0, 0)) ∧ (∃ u v, W.heap[w.heap.size + 1]? = some (.cells #[u, v] 24 (0, 0))) ∧ W.heap[g]? = some (.cells #[.bool nb, .slice p n c] 24 (0, 0)) ∧
  w.heap.size + 1 < g ∧ IntAt W nb p n c r ∧ (∀ q, p = some q → w.heap.size + 1 < q.block) ∧ Below w.heap.size w W
section
variable {w W w' : World} {nx : Bool} {px : Option Addr} {lx cx g : Nat} {nb : Bool} {p : Option Addr} {n c : Nat} {r : Int}
theorem Rt5.facts (h : Rt5 w nx px lx cx g nb p n c r W) : W.cell? ⟨w.heap.size, 0, none⟩ = some (.bool nx) ∧ W.cell? ⟨w.heap.size, 1, none⟩ = some (.slice px lx cx) ∧
    W.cell? ⟨w.heap.size + 1, 0, none⟩ = some (oldv W (w.heap.size + 1) 0) ∧ W.cell? ⟨w.heap.size + 1, 1, none⟩ = some (oldv W (w.heap.size + 1) 1) ∧ W.frozen? ⟨w.heap.size + 1, 0, none⟩ = false ∧ W.frozen? ⟨w.heap.size + 1, 1, none⟩ = false ∧
    W.cell? ⟨g, 0, none⟩ = some (.bool nb) ∧ W.cell? ⟨g, 1, none⟩ = some (.slice p n c) := by
  obtain ⟨h1, ⟨u, v, h3⟩, h4, _⟩ := h
  refine ⟨by simp [World.cell?, h1], by simp [World.cell?, h1], by simp [oldv, World.cell?, h3], by simp [oldv, World.cell?, h3], by simp [World.frozen?, h3], by simp [World.frozen?, h3], by simp [World.cell?, h4], by simp [World.cell?, h4]⟩
theorem Rt5.later (h : Rt5 w nx px lx cx g nb p n c r W) (hb : Below W.heap.size W w') : Rt5 w nx px lx cx g nb p n c r w' := by
  obtain ⟨h1, ⟨u, v, h3⟩, h4, h5, h6, h7, h8⟩ := h
  exact ⟨(hb.block _ (lt_blk h1)).trans h1, ⟨u, v, (hb.block _ (lt_blk h3)).trans h3⟩, (hb.block _ (lt_blk h4)).trans h4, h5, h6.later hb, h7, below_tr h8 hb⟩
theorem Rt5.drew (h : Rt5 w nx px lx cx g nb p n c r W) : Rt5 w nx px lx cx g nb p n c r W.drew := h.later ((Below.refl _ W).drew)
theorem Rt5.res (h : Rt5 w nx px lx cx g nb p n c r W) (a b : Value) : ((W.setCell ⟨w.heap.size + 1, 0, none⟩ a).setCell ⟨w.heap.size + 1, 1, none⟩ b).heap[w.heap.size + 1]? = some (.cells #[a, b] 24 (0, 0)) := by
  obtain ⟨h1, ⟨u, v, h3⟩, _⟩ := h
  rw [heap_setCell_self _ _ _ _ _ _ (heap_setCell_self _ _ _ _ _ _ h3)]; rfl
theorem Rt5.store (h : Rt5 w nx px lx cx g nb p n c r W) (a b : Value) : Rt5 w nx px lx cx g nb p n c r ((W.setCell ⟨w.heap.size + 1, 0, none⟩ a).setCell ⟨w.heap.size + 1, 1, none⟩ b) := by
  have hr := h.res a b
  obtain ⟨h1, ⟨u, v, h3⟩, h4, h5, h6, h7, h8⟩ := h
  have hne : ∀ q, p = some q → q.block ≠ w.heap.size + 1 := fun q hq => by have := h7 q hq; omega
  refine ⟨?_, ⟨a, b, hr⟩, ?_, h5, (h6.store hne).store hne, h7, (h8.setCell (by simp) _).setCell (by simp) _⟩
  · rw [heap_setCell_other _ _ _ _ (by simp), heap_setCell_other _ _ _ _ (by simp)]; exact h1
  · rw [heap_setCell_other _ _ _ _ (by simp; omega), heap_setCell_other _ _ _ _ (by simp; omega)]; exact h4
end

theorem cmp_eq0 (a b : Int) : (cmpI a b == 0) = decide (a = b) := by
  rcases Int.lt_trichotomy a b with h | h | h
  · rw [cmp_lt h, decide_eq_false (by omega)]; rfl
  · rw [h, cmp_eq, decide_eq_true rfl]; rfl
  · rw [cmp_gt h, decide_eq_false (by omega)]; rfl
theorem rt_len' {r : List Int} (hd : Dg r) : (digs (val r).natAbs).length ≤ r.length := by
  have h := tlen_len hd
  have h1 := hd.lo
  rw [show (val r).natAbs = (val r).toNat by omega, h]
  exact tlen_le r
theorem sq_len {r x : Int} (h0 : 0 ≤ r) (h1 : r * r ≤ x) : (digs (r * r).natAbs).length ≤ (digs x.natAbs).length := by
  have := Int.mul_nonneg h0 h0
  exact digs_len_mono (by omega)

set_option maxRecDepth 100000 in
set_option maxHeartbeats 1600000 in
theorem Root_neg (px : Option Addr) (lx cx : Nat) (x : Int) (w : World) (hx0 : IntAt w true px lx cx x) :
    Calls Tryd.prog 25 #[.agg #[.bool true, .slice px lx cx]] w (RootP w x) := by
  have hneg : Hid (x < 0) := Lib.hid (by have := hx0.1; simpa using this.symm)
  have hS0 := Lib.hid (@Ar1.start true px lx cx w)
  clear hx0
  go_enter Tryd.func25, Tryd.ntmps25
  go_upto_if 6 with fail
  generalize (w.alloc (.cells #[.bool true, .slice px lx cx] 24)).alloc (.cells #[.bool false, .slice none 0 0] 24) = W0 at hS0 ⊢
  have hS1 := hS0.out
  have hf := hS1.facts
  have hfin : Hid (RootP w x (.returned (.tuple #[.agg #[.bool false, .slice none 0 0], .bool false])) ((W0.setCell ⟨w.heap.size + 1, 0, none⟩ (.bool false)).setCell ⟨w.heap.size + 1, 1, none⟩ (.slice none 0 0))) := Lib.hid ⟨_, _, _, _, 0, _, rfl, IntAt_zero _ _ _ (by omega), fun _ => ⟨rfl, rfl⟩, fun h => by have := hneg.out; omega, (hS1.store _ _).2.2, fun q hq => by cases hq⟩
  go_wp2_with fail
  exact bodyPost_ret (v := .tuple #[.agg #[.bool false, .slice none 0 0], .bool false]) (results_cell1 rfl _ _ (w.heap.size + 1) 24 _ (0, 0) _ _ rfl rfl (hS1.res _ _) Tryd.underlying24 rfl size_Int) rfl hfin.out

set_option maxRecDepth 100000 in
set_option maxHeartbeats 1600000 in
theorem Root_pos (px : Option Addr) (lx cx : Nat) (x : Int) (w : World) (hx0 : IntAt w false px lx cx x) (hlx : lx ≤ 274877906943) :
    Calls Tryd.prog 25 #[.agg #[.bool false, .slice px lx cx]] w (RootP w x) := by
  have hneg : Hid (0 ≤ x) := Lib.hid (by have := hx0.1; simp at this; omega)
  have hS0 := Lib.hid (@Ar1.start false px lx cx w)
  have hx := Lib.hid hx0
  have hrt : Hid (∀ W, Below w.heap.size w W → Calls Tryd.prog 57 #[.slice px lx cx] W fun e w' => ∃ p n c r, e = .returned (.slice p n c) ∧ Rdi w' p r ∧ r.length = n ∧ n ≤ c ∧ c ≤ 9223372036854775807 ∧ Dg r ∧ n ≤ lx ∧ 0 ≤ val r ∧ val r * val r ≤ x ∧ x < (val r + 1) * (val r + 1) ∧ Below W.heap.size W w' ∧ ∀ q, p = some q → W.heap.size ≤ q.block) := Lib.hid fun W hb => by
    have h0 := hneg.out
    by_cases hl : lx = 0
    · subst hl
      have hx00 : x = 0 := by have := digs_nil.1 (List.eq_nil_of_length_eq_zero hx0.2.1.symm); omega
      exact (root_nil px cx W).mono fun e w' ⟨he, hw⟩ => ⟨none, 0, 0, [], he, .inl rfl, rfl, Nat.le_refl _, by omega, Dg_nil, Nat.le_refl _, by simp [val], by rw [hx00]; simp [val], by rw [hx00]; simp [val], hw ▸ Below.refl _ _, fun q hq => by cases hq⟩
    · have hxp : 0 < val (digs x.natAbs) := by
        rw [val_digs]
        rcases Nat.eq_zero_or_pos x.natAbs with h | h
        · exfalso; apply hl; rw [hx0.2.1, h, digs_zero]; rfl
        · omega
      exact (root_any lx px cx (digs x.natAbs) W (Rdi_below hb hx0.2.2.1) hx0.2.1 hx0.2.2.2.1 hx0.2.2.2.2 (Dg_digs _) (tlen_digs _) hlx hxp).mono fun e w' ⟨p, n, c, r, he, h1, h2, h3, h4, h5, h6, h7, h8, h9, h10, h12, h11⟩ => by
        rw [val_digs, show (x.natAbs : Int) = x by omega] at h7 h8
        exact ⟨p, n, c, r, he, h1, h2, h3, h4, h5, by rw [hx0.2.1]; exact h10, h6, h7, h8, h11, h12⟩
  clear hx0
  go_enter Tryd.func25, Tryd.ntmps25
  go_upto_if 6 with fail
  generalize (w.alloc (.cells #[.bool false, .slice px lx cx] 24)).alloc (.cells #[.bool false, .slice none 0 0] 24) = W0 at hS0 ⊢
  have hS1 := hS0.out
  have hf := hS1.facts
  go_upto_region 1 with (first | (go_at_call 57; refine (hrt.out _ hS1.2.2).mono ?_; rintro e w1 ⟨p, n, c, r, rfl, hR, hl, hnc, hcb, hd, hnl, hr0, hr1, hr2, hb1, hpn⟩; have hpn' := Lib.hid hpn; have hS2 := Lib.hid (hS1.later hb1); have hR' := Lib.hid hR; have hl' := Lib.hid hl; have hd' := Lib.hid hd; have hr0' := Lib.hid hr0; have hr1' := Lib.hid hr1; have hr2' := Lib.hid hr2; clear hR hl hd hr0 hr1 hr2 hb1 hpn) | (go_at_call 41; refine (made_any _ _ _ _ r _ hR'.out hl'.out.symm hnc hcb hd'.out).mono ?_; rintro e w2 ⟨nb, p2, n2, c2, rfl, hI, hb2, hp2⟩; have hI' := Lib.hid hI; have hb2' := Lib.hid hb2; have hp2' := Lib.hid hp2; clear hI hb2 hp2))
  have hv : sg false (val r) = val r := rfl
  rw [hv] at hI'
  have hSB : Rt5 w false px lx cx w2.heap.size nb p2 n2 c2 (val r) (w2.alloc (.cells #[.bool nb, .slice p2 n2 c2] 24)) := by
    have h3 := hS2.out.later hb2'.out
    obtain ⟨k1, ⟨u, v, k2⟩, k3⟩ := h3
    refine ⟨?_, ⟨u, v, ?_⟩, heap_alloc_new _ _, lt_blk k2, hI'.out.later (below_new _ _), fun q hq => ?_, below_tr k3 (below_new _ _)⟩
    · rw [Below.heap_alloc _ _ _ (lt_blk k1)]; exact k1
    · rw [Below.heap_alloc _ _ _ (lt_blk k2)]; exact k2
    · have h4 := hpn'.out q (hp2'.out q hq)
      have h5 := hS1.top
      omega
  clear hf hv
  obtain ⟨g, hg⟩ : ∃ g, w2.heap.size = g := ⟨_, rfl⟩
  rw [hg] at hSB ⊢
  have hnl2 : Hid (n2 ≤ 274877906943) := Lib.hid (by
    have h1 := hI'.out.2.1
    have h2 := rt_len' hd'.out
    have h3 := hl'.out
    omega)
  generalize w2.alloc (.cells #[.bool nb, .slice p2 n2 c2] 24) = W3 at hSB ⊢
  clear hg
  have hfa := fun W (h : Rt5 w false px lx cx g nb p2 n2 c2 (val r) W) => h.facts
  have hmul : Hid (∀ W, Rt5 w false px lx cx g nb p2 n2 c2 (val r) W → Calls Tryd.prog 30 #[.agg #[.bool nb, .slice p2 n2 c2], .agg #[.bool nb, .slice p2 n2 c2]] W (RetI W (val r * val r))) := Lib.hid fun W h => Mul_any nb nb p2 p2 n2 c2 n2 c2 (val r) (val r) W h.2.2.2.2.1 h.2.2.2.2.1 (by have := hnl2.out; omega) (by have := hnl2.out; omega)
  have hcmp : Hid (∀ W nb3 p3 n3 c3, Rt5 w false px lx cx g nb p2 n2 c2 (val r) W → IntAt W nb3 p3 n3 c3 (val r * val r) → Calls Tryd.prog 31 #[.agg #[.bool nb3, .slice p3 n3 c3], .agg #[.bool false, .slice px lx cx]] W fun e w' => e = .returned (.int .i64 (cmpI (val r * val r) x)) ∧ Below W.heap.size W w') := Lib.hid fun W nb3 p3 n3 c3 h hI => Compare_any nb3 false p3 px n3 c3 lx cx (val r * val r) x W hI (hx.out.later h.2.2.2.2.2.2) (by
      have h1 := hI.2.1
      have h2 := sq_len hr0'.out hr1'.out
      have h3 := hx.out.2.1
      omega) (by omega)
  have hce : Hid ((cmpI (val r * val r) x == 0) = decide (val r * val r = x)) := Lib.hid (cmp_eq0 _ _)
  obtain ⟨C, hC⟩ : ∃ C, cmpI (val r * val r) x = C := ⟨_, rfl⟩
  rw [hC] at hcmp hce
  clear hC
  go_region_held3 (fun W => Rt5 w false px lx cx g nb p2 n2 c2 (val r) W) (first | exact Rt5.drew (by assumption) | exact Rt5.later (by assumption) (by assumption) | exact Rt5.store (by assumption) _ _) (first | (go_at_call 30; refine (hmul.out _ (by assumption)).mono ?_; rintro e w4 ⟨nb3, p3, n3, c3, rfl, hI3, hb4, hp3⟩; have hI3' := Lib.hid hI3; clear hI3 hp3) | (go_at_call 31; refine (hcmp.out _ _ _ _ _ (by assumption) hI3'.out).mono ?_; rintro e w5 ⟨rfl, hb5⟩))
  have hS5 : Rt5 w false px lx cx g nb p2 n2 c2 (val r) w5 := (hSB.drew.later hb4).later hb5
  have hfin : Hid (RootP w x (.returned (.tuple #[.agg #[.bool nb, .slice p2 n2 c2], .bool (C == 0)])) ((w5.setCell ⟨w.heap.size + 1, 0, none⟩ (.bool nb)).setCell ⟨w.heap.size + 1, 1, none⟩ (.slice p2 n2 c2))) := Lib.hid ⟨_, _, _, _, val r, _, rfl, (hS5.store _ _).2.2.2.2.1, fun h => by have := hneg.out; omega, fun _ => ⟨hr0'.out, hr1'.out, hr2'.out, hce.out⟩, (hS5.store _ _).2.2.2.2.2.2, fun q hq => by have := hS5.2.2.2.2.2.1 q hq; omega⟩
  go_wp2_with fail
  exact bodyPost_ret (v := .tuple #[.agg #[.bool nb, .slice p2 n2 c2], .bool (C == 0)]) (results_cell1 rfl _ _ (w.heap.size + 1) 24 _ (0, 0) _ _ rfl rfl (hS5.res _ _) Tryd.underlying24 rfl size_Int) rfl hfin.out
theorem Root_any (nx : Bool) (px : Option Addr) (lx cx : Nat) (x : Int) (w : World) (hx0 : IntAt w nx px lx cx x) (hlx : lx ≤ 274877906943) :
    Calls Tryd.prog 25 #[.agg #[.bool nx, .slice px lx cx]] w (RootP w x) := by
  cases nx
  · exact Root_pos px lx cx x w hx0 hlx
  · exact Root_neg px lx cx x w hx0
end Go.Proofs.YteaoaoknpihchaaDoor

namespace Go.Proofs.YteaoaoknpihchaaDoor
open Go.RowKit

/-- a row of the call's own that grows -/
def GrowI (w : World) (v : Value) (l : List Int) (wr : World) : Prop := wr.ownsRow w.heap.size 3 1 v l.length (zvs l) ∧ Below w.heap.size w wr
theorem GrowI.push {w wr w' : World} {v v' : Value} {l : List Int} {x : Int} {o : Obj} (h : GrowI w v l wr) (ho : w'.ownsRow w.heap.size 3 1 v' (l.length + 1) (zvs l ++ [.int .i64 x])) (hg : (wr.alloc o).grownBy w' v.ownBlock) : GrowI w v' (l ++ [x]) w' := by
  refine ⟨?_, ((h.2.alloc h.2.size _).grown hg (Nat.le_trans h.2.size (by simp)) fun k hk => (h.1.lt k hk).1)⟩
  rw [List.length_append]
  have : zvs (l ++ [x]) = zvs l ++ [.int .i64 x] := by simp [zvs]
  rw [this]; exact ho
theorem GrowI.start (w : World) : GrowI w (.slice none 0 0) [] w := ⟨World.ownsRow_nil _ _ _ _, Below.refl _ _⟩
theorem GrowI.drewN {w wr : World} {v : Value} {l : List Int} (h : GrowI w v l wr) (q : Nat) : GrowI w v l (wr.drewN q) := ⟨h.1, below_drewN h.2 q⟩

/-- a list that is returned, in new memory -/
def NewS (w : World) (P : List Int → Prop) (e : Ending) (w' : World) : Prop :=
  ∃ p n c z, e = .returned (.slice p n c) ∧ Rdi w' p z ∧ z.length = n ∧ n ≤ c ∧ c ≤ 9223372036854775807 ∧ (∀ q, p = some q → w.heap.size ≤ q.block) ∧ Below w.heap.size w w' ∧ P z
theorem own_cellsI {w : World} {base : Nat} {v : Value} {n : Nat} {xs : List Value} (h : w.ownsRow base 3 1 v n xs) : xs = [] ∧ v = .slice none 0 0 ∧ n = 0 ∨ ∃ g c, v = .slice (some ⟨g, 0, none⟩) n c ∧ n ≤ c ∧ c ≤ maxLen ∧ base ≤ g ∧ ∀ i u, xs[i]? = some u → w.cell? ⟨g, i, none⟩ = some u := by
  rcases h.2 with ⟨rfl, rfl⟩ | ⟨g, cap, cur, rfl, hg, hh, hc, hm, hs, ht⟩
  · left
    exact ⟨List.eq_nil_of_length_eq_zero (by rw [h.1]), rfl, rfl⟩
  · right
    refine ⟨g, cap, rfl, hc, hm, hg, fun i u hu => ?_⟩
    have := h.cells (g := g) rfl i u hu
    have ha : (⟨g, 0, none⟩ : Addr).add i = ⟨g, i, none⟩ := by unfold Addr.add; split <;> simp_all
    rwa [ha] at this
theorem GrowI.done {w wr : World} {v : Value} {l : List Int} {P : List Int → Prop} (h : GrowI w v l wr) (hP : P l) : NewS w P (.returned v) wr := by
  rcases own_cellsI h.1 with ⟨h1, rfl, h3⟩ | ⟨g, c, rfl, hc, hm, hg, hcell⟩
  · have : l = [] := List.eq_nil_of_length_eq_zero h3
    subst this
    exact ⟨none, 0, 0, [], rfl, .inl rfl, rfl, Nat.le_refl _, by omega, (fun q hq => by cases hq), h.2, hP⟩
  · refine ⟨_, _, c, l, rfl, .inr ⟨g, 0, rfl, fun i hi => ?_⟩, rfl, hc, by unfold maxLen at hm; omega, (fun q hq => by cases hq; exact hg), h.2, hP⟩
    rw [Nat.zero_add]
    apply hcell
    simp [zvs, iat, hi]

theorem val_take' (l : List Int) (k : Nat) : val (l.take (k + 1)) = val (l.take k) + pw k * iat l k := by
  rcases Nat.lt_or_ge k l.length with h | h
  · exact val_take l k h
  · rw [List.take_of_length_le (by omega), List.take_of_length_le h, iat_ge h]; simp

/-- a sum, from the lowest digit on -/
structure PlusI (l m : List Int) (k : Nat) (carry : Int) (z : List Int) : Prop where
  len : z.length = k
  dg : Dg z
  sum : val z + pw k * carry = val (l.take k) + val (m.take k)
  lo : 0 ≤ carry
  hi : carry ≤ 1
  top : k ≤ max l.length m.length + 1
  end_ : k = max l.length m.length + 1 → carry = 0
theorem PlusI.start (l m : List Int) : PlusI l m 0 0 [] := ⟨rfl, Dg_nil, by simp [val], by omega, by omega, by omega, fun _ => rfl⟩
theorem PlusI.next {l m z : List Int} {k : Nat} {c : Int} (h : PlusI l m k c z) (hl : Dg l) (hm : Dg m) (hk : k < l.length ∨ k < m.length ∨ 0 < c) : PlusI l m (k + 1) ((iat l k + iat m k + c) / 1000000000) (z ++ [(iat l k + iat m k + c) % 1000000000]) := by
  have h1 := hl.all k
  have h2 := hm.all k
  have h3 := h.lo
  have h4 := h.hi
  have hs := h.sum
  have hlen := h.len
  refine ⟨by rw [List.length_append, hlen]; rfl, Dg_append h.dg (Dg_cons (by omega) (by omega) Dg_nil), ?_, by omega, by omega, ?_, fun he => ?_⟩
  · rw [val_append, hlen, val_take', val_take']
    show val z + pw k * ((iat l k + iat m k + c) % 1000000000 + 1000000000 * 0) + 1000000000 * pw k * ((iat l k + iat m k + c) / 1000000000) = _
    have e := Int.mul_ediv_add_emod (iat l k + iat m k + c) 1000000000
    grind
  · rcases hk with h5 | h5 | h5
    · omega
    · omega
    · have := h.top
      rcases Nat.lt_or_ge k (max l.length m.length + 1) with h6 | h6
      · omega
      · have := h.end_ (by omega); omega
  · have e1 : iat l k = 0 := iat_ge (by omega)
    have e2 : iat m k = 0 := iat_ge (by omega)
    rw [e1, e2]; omega
theorem PlusI.done {l m z : List Int} {k : Nat} (h : PlusI l m k 0 z) (h1 : l.length ≤ k) (h2 : m.length ≤ k) : SumP l m z := by
  have hs := h.sum
  rw [List.take_of_length_le h1, List.take_of_length_le h2] at hs
  exact ⟨h.dg, by simpa using hs, by rw [h.len]; exact h.top⟩
def PlusL (w : World) (l m : List Int) (k : Nat) (c : Int) (v : Value) (wr : World) : Prop := ∃ z, PlusI l m k c z ∧ GrowI w v z wr

set_option maxRecDepth 100000 in
set_option maxHeartbeats 1600000 in
theorem plus_any (a1 a2 : Option Addr) (n1 c1 n2 c2 : Nat) (l m : List Int) (w : World) (hR1 : Rdi w a1 l) (hR2 : Rdi w a2 m) (hn1 : n1 = l.length) (hn2 : n2 = m.length) (hd1 : Dg l) (hd2 : Dg m) (hm1 : n1 ≤ 1099511627775) (hm2 : n2 ≤ 1099511627775) :
    Calls Tryd.prog 35 #[.slice a1 n1 c1, .slice a2 n2 c2] w (NewS w (SumP l m)) := by
  obtain ⟨i0, hi, hz0, hz1, hz2⟩ := info_parts info_i64
  have H1 := Lib.hid hR1
  have H2 := Lib.hid hR2
  have N1 := Lib.hid hn1
  have N2 := Lib.hid hn2
  have D1 := Lib.hid hd1
  have D2 := Lib.hid hd2
  have hI : Hid (PlusL w l m 0 0 (.slice none 0 0) w) := Lib.hid ⟨[], PlusI.start l m, GrowI.start w⟩
  clear hR1 hR2 hn1 hn2 hd1 hd2
  go_enter Tryd.func35, Tryd.ntmps35
  go_wp2_with fail
  go_loopw [5, 6, 7] (fun v cv iv wr => ∃ (k : Nat) (c : Int), k ≤ max n1 n2 + 1 ∧ iv = .int .i64 (k : Int) ∧ cv = .int .i64 c ∧ PlusL w l m k c v wr) (fun _ _ iv _ => max n1 n2 + 2 - (intOf iv).toNat)
  case atStart => exact ⟨0, 0, by omega, rfl, rfl, hI.out⟩
  case round =>
    obtain ⟨k, c, hk, rfl, rfl, z, hP, hG⟩ := hrel
    clear hI
    have hB := hG.2
    have g1 : Hid (Calls Tryd.prog 60 #[.slice a1 n1 c1, .int .i64 (k : Int)] wr fun e w' => e = .returned (.int .i64 (iat l k)) ∧ wr = w') := Lib.hid (digit_any _ _ _ _ _ wr (Rdi_below hB H1.out) N1.out)
    have g2 : Hid (Calls Tryd.prog 60 #[.slice a2 n2 c2, .int .i64 (k : Int)] wr fun e w' => e = .returned (.int .i64 (iat m k)) ∧ wr = w') := Lib.hid (digit_any _ _ _ _ _ wr (Rdi_below hB H2.out) N2.out)
    have hx := D1.out.all k
    have hy := D2.out.all k
    have hc0 := hP.lo
    have hc1 := hP.hi
    have hzl : Hid (z.length = k) := Lib.hid hP.len
    have hnx := Lib.hid (fun h => hP.next D1.out D2.out h)
    have hfin : Hid (n1 ≤ k → n2 ≤ k → c = 0 → SumP l m z) := Lib.hid fun h1 h2 h3 => by subst h3; exact hP.done (by rw [← N1.out]; exact h1) (by rw [← N2.out]; exact h2)
    obtain ⟨x, hxx⟩ : ∃ x, iat l k = x := ⟨_, rfl⟩
    obtain ⟨y, hyy⟩ : ∃ y, iat m k = y := ⟨_, rfl⟩
    rw [hxx] at g1 hx hnx
    rw [hyy] at g2 hy hnx
    have hG' := Lib.hid hG
    have hnext : Hid ((k < n1 ∨ k < n2 ∨ 0 < c) → k + 1 ≤ max n1 n2 + 1 ∧ ∀ v w', GrowI w v (z ++ [(x + y + c) % 1000000000]) w' → PlusL w l m (k + 1) ((x + y + c) / 1000000000) v w') := Lib.hid fun h => by
      have h' := hnx.out (by rw [← N1.out, ← N2.out]; exact h)
      exact ⟨by have := h'.top; rw [N1.out, N2.out]; exact this, fun v w' h2 => ⟨_, h', h2⟩⟩
    obtain ⟨hx1, hx2⟩ := hx
    obtain ⟨hy1, hy2⟩ := hy
    have hs0 : 0 ≤ x + y := by omega
    have hs1 : 0 ≤ x + y + c := by omega
    have hs2 : x + y + c < 2000000000 := by omega
    have hsz := hB.size
    have k0 : 0 ≤ (k : Int) := by omega
    clear hP hG hB hnx hxx hyy
    by_cases hgo : k < n1 ∨ k < n2 ∨ 0 < c
    · obtain ⟨hn1', hn2'⟩ := hnext.out hgo
      have hn2'' := Lib.hid hn2'
      have hn1'' := Lib.hid hn1'
      clear hn1' hn2' hnext hfin
      have hcond : k < n1 ∨ (¬ k < n1 ∧ k < n2) ∨ (¬ k < n1 ∧ ¬ k < n2 ∧ 0 < c) := by omega
      rcases hcond with h | ⟨h, h'⟩ | ⟨h, h', h''⟩
      · have t1 : (k : Int) < (n1 : Int) := by omega
        clear hgo h
        go_wp2_with (first | (go_at_call 60; ((with_reducible refine g1.out.mono ?_); rintro e w' ⟨rfl, rfl⟩)) | (go_at_call 60; ((with_reducible refine g2.out.mono ?_); rintro e w' ⟨rfl, rfl⟩)) | (at_builtin; refine wpList_append_own _ rfl _ _ 22 rfl w.heap.size 3 i0 (.int .i64 0) 1 8 Tryd.underlying22 hi hz0 hz1 hz2 rfl (by decide) _ _ _ rfl (hG'.out.1.alloc _) ⟨wr.heap.size, 0, none⟩ 1 1 [.int .i64 ((x + y + c) % 1000000000)] rfl rfl (cell_one_new _ _ _) (by intro u hu; simp at hu; subst hu; rfl) (by rw [hzl.out]; unfold maxLen; omega) (by rw [hzl.out]; omega) (by simp; omega) ?_; intro v2 w2 ho2 hg2 _; have hG2 := Lib.hid (hG'.out.push ho2 hg2); clear ho2 hg2))
        exact ⟨⟨k + 1, _, hn1''.out, by simp, rfl, hn2''.out _ _ hG2.out⟩, by have := hn1''.out; simp only [intOf]; omega⟩
      · have t1 : ¬ (k : Int) < (n1 : Int) := by omega
        have t2 : (k : Int) < (n2 : Int) := by omega
        clear hgo h h'
        go_wp2_with (first | (go_at_call 60; ((with_reducible refine g1.out.mono ?_); rintro e w' ⟨rfl, rfl⟩)) | (go_at_call 60; ((with_reducible refine g2.out.mono ?_); rintro e w' ⟨rfl, rfl⟩)) | (at_builtin; refine wpList_append_own _ rfl _ _ 22 rfl w.heap.size 3 i0 (.int .i64 0) 1 8 Tryd.underlying22 hi hz0 hz1 hz2 rfl (by decide) _ _ _ rfl (hG'.out.1.alloc _) ⟨wr.heap.size, 0, none⟩ 1 1 [.int .i64 ((x + y + c) % 1000000000)] rfl rfl (cell_one_new _ _ _) (by intro u hu; simp at hu; subst hu; rfl) (by rw [hzl.out]; unfold maxLen; omega) (by rw [hzl.out]; omega) (by simp; omega) ?_; intro v2 w2 ho2 hg2 _; have hG2 := Lib.hid (hG'.out.push ho2 hg2); clear ho2 hg2))
        exact ⟨⟨k + 1, _, hn1''.out, by simp, rfl, hn2''.out _ _ hG2.out⟩, by have := hn1''.out; simp only [intOf]; omega⟩
      · have t1 : ¬ (k : Int) < (n1 : Int) := by omega
        have t2 : ¬ (k : Int) < (n2 : Int) := by omega
        clear hgo h h'
        go_wp2_with (first | (go_at_call 60; ((with_reducible refine g1.out.mono ?_); rintro e w' ⟨rfl, rfl⟩)) | (go_at_call 60; ((with_reducible refine g2.out.mono ?_); rintro e w' ⟨rfl, rfl⟩)) | (at_builtin; refine wpList_append_own _ rfl _ _ 22 rfl w.heap.size 3 i0 (.int .i64 0) 1 8 Tryd.underlying22 hi hz0 hz1 hz2 rfl (by decide) _ _ _ rfl (hG'.out.1.alloc _) ⟨wr.heap.size, 0, none⟩ 1 1 [.int .i64 ((x + y + c) % 1000000000)] rfl rfl (cell_one_new _ _ _) (by intro u hu; simp at hu; subst hu; rfl) (by rw [hzl.out]; unfold maxLen; omega) (by rw [hzl.out]; omega) (by simp; omega) ?_; intro v2 w2 ho2 hg2 _; have hG2 := Lib.hid (hG'.out.push ho2 hg2); clear ho2 hg2))
        exact ⟨⟨k + 1, _, hn1''.out, by simp, rfl, hn2''.out _ _ hG2.out⟩, by have := hn1''.out; simp only [intOf]; omega⟩
    · have t1 : ¬ (k : Int) < (n1 : Int) := by omega
      have t2 : ¬ (k : Int) < (n2 : Int) := by omega
      obtain rfl : c = 0 := by omega
      have hf := Lib.hid (hG'.out.done (hfin.out (by omega) (by omega) rfl))
      clear hnext hfin hgo
      go_wp2_with fail
      go_ret
      exact hf.out
end Go.Proofs.YteaoaoknpihchaaDoor

namespace Go.Proofs.YteaoaoknpihchaaDoor
open Go.RowKit

theorem tmod_abs (v : Int) : (v.tmod 1000000000).natAbs = v.natAbs % 1000000000 := Int.natAbs_tmod v 1000000000
theorem tdiv_abs (v : Int) : (v.tdiv 1000000000).natAbs = v.natAbs / 1000000000 := Int.natAbs_tdiv v 1000000000
theorem own_sl {w : World} {base : Nat} {v : Value} {l : List Int} (h : w.ownsRow base 3 1 v l.length (zvs l)) : ∃ p n c, v = .slice p n c ∧ Rdi w p l ∧ l.length = n ∧ n ≤ c ∧ c ≤ 9223372036854775807 ∧ ∀ q, p = some q → base ≤ q.block := by
  rcases own_cellsI h with ⟨h1, rfl, h3⟩ | ⟨g, c, rfl, hc, hm, hg, hcell⟩
  · have : l = [] := List.eq_nil_of_length_eq_zero h3
    subst this
    exact ⟨none, 0, 0, rfl, .inl rfl, rfl, Nat.le_refl _, by omega, (fun q hq => by cases hq)⟩
  · refine ⟨_, _, c, rfl, .inr ⟨g, 0, rfl, fun i hi => ?_⟩, rfl, hc, by unfold maxLen at hm; omega, (fun q hq => by cases hq; exact hg)⟩
    rw [Nat.zero_add]
    apply hcell
    simp [zvs, iat, hi]
/-- the digits that are collected lie behind the result's box -/
def OfG (w : World) (m M : Nat) (v : Value) (wr : World) : Prop := ∃ z, z ++ digs M = digs m ∧ wr.ownsRow (w.heap.size + 1) 3 1 v z.length (zvs z) ∧ Ar0 w wr
theorem OfG.push {w wr w' : World} {m M : Nat} {v v' : Value} {o : Obj} {z : List Int} (hM : M ≠ 0) (hz : z ++ digs M = digs m) (ho0 : wr.ownsRow (w.heap.size + 1) 3 1 v z.length (zvs z)) (hA : Ar0 w wr)
    (ho : w'.ownsRow (w.heap.size + 1) 3 1 v' (z.length + 1) (zvs z ++ [.int .i64 ((M % 1000000000 : Nat) : Int)])) (hg : (wr.alloc o).grownBy w' v.ownBlock) : OfG w m (M / 1000000000) v' w' := by
  refine ⟨z ++ [((M % 1000000000 : Nat) : Int)], by rw [List.append_assoc, ← hz, digs_pos hM]; rfl, ?_, ?_⟩
  · rw [List.length_append]
    have : zvs (z ++ [((M % 1000000000 : Nat) : Int)]) = zvs z ++ [.int .i64 ((M % 1000000000 : Nat) : Int)] := by simp [zvs]
    rw [this]; exact ho
  · obtain ⟨⟨u, x, h3⟩, h6⟩ := hA
    have h3' : (wr.alloc o).heap[w.heap.size]? = some (.cells #[u, x] 24 (0, 0)) := by rw [Below.heap_alloc _ _ _ (lt_blk h3)]; exact h3
    have hlt := lt_blk h3'
    have hbk := hg.block w.heap.size (by omega) (fun e => by have := (ho0.lt _ e.symm).1; omega)
    exact ⟨⟨u, x, hbk.trans h3'⟩, (h6.alloc h6.size _).grown hg (Nat.le_trans h6.size (by simp)) fun k hk => by have := (ho0.lt k hk).1; omega⟩

set_option maxRecDepth 100000 in
set_option maxHeartbeats 1600000 in
theorem rOf_any (n : Int) (h1 : -9223372036854775808 ≤ n) (h2 : n ≤ 9223372036854775807) (w : World) :
    Calls Tryd.prog 10 #[.int .i64 n] w (RetI w n) := by
  obtain ⟨i0, hi, hz0, hz1, hz2⟩ := info_parts info_i64
  have hS0 : Hid (OfG w n.natAbs n.natAbs (.slice none 0 0) (w.alloc (.cells #[.bool false, .slice none 0 0] 24))) := Lib.hid ⟨[], rfl, World.ownsRow_nil _ _ _ _, Ar0.start w⟩
  have hlen : Hid ((digs n.natAbs).length ≤ 3) := Lib.hid (digs_len_le (by
    have : pw 3 = 1000000000000000000000000000 := by decide
    omega))
  have hsg : Hid (sg (decide (n < 0)) (val (digs n.natAbs)) = n) := Lib.hid (by
    rw [val_digs]
    by_cases h : n < 0
    · rw [decide_eq_true h]; show -(n.natAbs : Int) = n; omega
    · rw [decide_eq_false h]; show (n.natAbs : Int) = n; omega)
  obtain ⟨nb0, hnb⟩ : ∃ b, decide (n < 0) = b := ⟨_, rfl⟩
  rw [hnb] at hsg
  generalize hm : n.natAbs = m at hS0 hlen hsg
  have hm' := Lib.hid hm
  clear hm
  go_enter Tryd.func10, Tryd.ntmps10
  go_wp2_with fail
  generalize w.alloc (.cells #[.bool false, .slice none 0 0] 24) = w1 at hS0 ⊢
  go_loopw [0, 3] (fun nv u3 wr => ∃ (v : Int) (M : Nat), nv = .int .i64 v ∧ -9223372036854775808 ≤ v ∧ v ≤ 9223372036854775807 ∧ Hid (v.natAbs = M) ∧ OfG w m M u3 wr) (fun nv _ _ => (intOf nv).natAbs)
  case atStart => exact ⟨n, m, rfl, h1, h2, hm', hS0.out⟩
  case round =>
    obtain ⟨v, M, rfl, hv1, hv2, hvM, z, hzd, hown0, hA⟩ := hrel
    clear hS0
    have hown := Lib.hid hown0
    have hsz : Hid (w.heap.size < wr.heap.size) := Lib.hid hA.top
    have hzl : Hid (z.length ≤ 3) := Lib.hid (by have := congrArg List.length hzd; rw [List.length_append] at this; have := hlen.out; omega)
    clear hown0
    by_cases h0 : v = 0
    · subst h0
      obtain rfl : M = 0 := by have := hvM.out; omega
      rw [digs_zero, List.append_nil] at hzd
      subst hzd
      obtain ⟨p, k, c, rfl, hR, hk, hkc, hcm, hp⟩ := own_sl hown.out
      have hno : Hid (Calls Tryd.prog 34 #[.bool nb0, .slice p k c] wr (RetF (fun q => p = some q) wr (sg nb0 (val (digs m))))) := Lib.hid (normal_any _ _ _ _ _ wr hR hk.symm hkc hcm (Dg_digs _))
      have hp' := Lib.hid hp
      clear hR hk hp hown hzl hlen hvM
      go_wp2_with fail
      refine hno.out.mono ?_
      rintro e w2 ⟨nb, p2, n2, c2, rfl, hI0, hb2, hp0⟩
      have hS3 := hA.later hb2
      have hf3 := hS3.facts
      have hfin : Hid (RetI w n (.returned (.agg #[.bool nb, .slice p2 n2 c2])) ((w2.setCell ⟨w.heap.size, 0, none⟩ (.bool nb)).setCell ⟨w.heap.size, 1, none⟩ (.slice p2 n2 c2))) := Lib.hid (hS3.ret hI0 (fun q hq => by
        have := hp'.out q (hp0 q hq)
        exact ⟨by omega, by omega⟩) hsg.out)
      clear hI0 hb2 hp0
      go_wp2_with fail
      exact bodyPost_ret (v := .agg #[.bool nb, .slice p2 n2 c2]) (results_cell_row rfl _ _ w.heap.size 24 _ (0, 0) _ rfl (hS3.res _ _) Tryd.underlying24 rfl size_Int) rfl hfin.out
    · have hvb : (v != 0) = true := by simpa using h0
      have hM : M ≠ 0 := by have := hvM.out; omega
      have hT := tmod_abs v
      have hT2 := tdiv_abs v
      rw [hvM.out] at hT hT2
      have hQ := Lib.hid hT2
      have hlt := Lib.hid (show M / 1000000000 < M from Nat.div_lt_self (by omega) (by omega))
      have hm9 : M % 1000000000 < 1000000000 := Nat.mod_lt _ (by omega)
      have hr1 : -1000000000 < v.tmod 1000000000 := by omega
      have hr2 : v.tmod 1000000000 < 1000000000 := by omega
      have hq1 : -9223372036854775808 ≤ v.tdiv 1000000000 := by have := hvM.out; have := hlt.out; omega
      have hq2 : v.tdiv 1000000000 ≤ 9223372036854775807 := by have := hvM.out; have := hlt.out; omega
      clear h0 hm9
      by_cases hneg : v.tmod 1000000000 < 0
      · have t1 : v.tmod 1000000000 < 0 := by assumption
        have hpush : Hid (∀ v' w', w'.ownsRow (w.heap.size + 1) 3 1 v' (z.length + 1) (zvs z ++ [.int .i64 (-v.tmod 1000000000)]) → (wr.alloc (.cells #[.int .i64 (-v.tmod 1000000000)] 3)).grownBy w' u3.ownBlock → OfG w m (M / 1000000000) v' w') := Lib.hid fun v' w' h3 h4 => OfG.push hM hzd hown.out hA (by rw [show ((M % 1000000000 : Nat) : Int) = -v.tmod 1000000000 by omega]; exact h3) h4
        clear hM hzd hA hT hT2
        go_wp2_with (at_builtin; refine wpList_append_own _ rfl _ _ 22 rfl (w.heap.size + 1) 3 i0 (.int .i64 0) 1 8 Tryd.underlying22 hi hz0 hz1 hz2 rfl (by decide) _ _ _ rfl (hown.out.alloc _) ⟨wr.heap.size, 0, none⟩ 1 1 [.int .i64 (-v.tmod 1000000000)] rfl rfl (cell_one_new _ _ _) (by intro u hu; simp at hu; subst hu; rfl) (by have := hzl.out; unfold maxLen; omega) (by have := hzl.out; omega) (by have := hsz.out; simp; omega) ?_; intro v2 w2 ho2 hg2 _; have hG2 := Lib.hid (hpush.out _ _ ho2 hg2); clear ho2 hg2)
        exact ⟨⟨v.tdiv 1000000000, M / 1000000000, rfl, hq1, hq2, hQ, hG2.out⟩, by have := hQ.out; have := hvM.out; have := hlt.out; simp only [intOf]; omega⟩
      · have t1 : ¬ v.tmod 1000000000 < 0 := by assumption
        have hpush : Hid (∀ v' w', w'.ownsRow (w.heap.size + 1) 3 1 v' (z.length + 1) (zvs z ++ [.int .i64 (v.tmod 1000000000)]) → (wr.alloc (.cells #[.int .i64 (v.tmod 1000000000)] 3)).grownBy w' u3.ownBlock → OfG w m (M / 1000000000) v' w') := Lib.hid fun v' w' h3 h4 => OfG.push hM hzd hown.out hA (by rw [show ((M % 1000000000 : Nat) : Int) = v.tmod 1000000000 by omega]; exact h3) h4
        clear hM hzd hA hT hT2
        go_wp2_with (at_builtin; refine wpList_append_own _ rfl _ _ 22 rfl (w.heap.size + 1) 3 i0 (.int .i64 0) 1 8 Tryd.underlying22 hi hz0 hz1 hz2 rfl (by decide) _ _ _ rfl (hown.out.alloc _) ⟨wr.heap.size, 0, none⟩ 1 1 [.int .i64 (v.tmod 1000000000)] rfl rfl (cell_one_new _ _ _) (by intro u hu; simp at hu; subst hu; rfl) (by have := hzl.out; unfold maxLen; omega) (by have := hzl.out; omega) (by have := hsz.out; simp; omega) ?_; intro v2 w2 ho2 hg2 _; have hG2 := Lib.hid (hpush.out _ _ ho2 hg2); clear ho2 hg2)
        exact ⟨⟨v.tdiv 1000000000, M / 1000000000, rfl, hq1, hq2, hQ, hG2.out⟩, by have := hQ.out; have := hvM.out; have := hlt.out; simp only [intOf]; omega⟩
end Go.Proofs.YteaoaoknpihchaaDoor
