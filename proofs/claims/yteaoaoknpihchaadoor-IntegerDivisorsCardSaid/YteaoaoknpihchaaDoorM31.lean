/- Contracts of the package integer and its reference: integer.Gcd. -/
import Derived.Test.YteaoaoknpihchaaDoorM30
import Derived.Test.YteaoaoknpihchaaDoorM7
namespace Go.Proofs.YteaoaoknpihchaaDoor
open Go.RowKit

set_option maxRecDepth 100000 in
set_option maxHeartbeats 1600000 in
theorem Gcd_less (nx ny : Bool) (px py : Option Addr) (lx cx ly cy : Nat) (x y : Int) (w : World) (hx0 : IntAt w nx px lx cx x) (hy0 : IntAt w ny py ly cy y) (hlx : lx ≤ 549755813887) (hly : ly ≤ 549755813887) (hxy : x.natAbs < y.natAbs) :
    Calls Tryd.prog 23 #[.agg #[.bool nx, .slice px lx cx], .agg #[.bool ny, .slice py ly cy]] w (RetI w (Int.gcd x y)) := by
  have hcm : Hid (∀ W, Below w.heap.size w W → Calls Tryd.prog 54 #[.slice px lx cx, .slice py ly cy] W fun e w' => e = .returned (.int .i64 (-1)) ∧ Below W.heap.size W w') := Lib.hid fun W hb => by
    have := compare_any px py lx cx ly cy x.natAbs y.natAbs W (Rdi_below hb hx0.2.2.1) (Rdi_below hb hy0.2.2.1) hx0.2.1 hy0.2.1 (by omega) (by omega)
    rw [cmp_lt (by omega)] at this
    exact this
  have hgc : Hid (∀ W, Below w.heap.size w W → Calls Tryd.prog 55 #[.slice py ly cy, .slice px lx cx] W (GcP W (Nat.gcd y.natAbs x.natAbs))) := Lib.hid fun W hb => gcd_any _ _ _ _ _ _ _ _ W (Rdi_below hb hy0.2.2.1) (Rdi_below hb hx0.2.2.1) hy0.2.1 hx0.2.1 hly (by omega)
  have hg : Hid (Nat.gcd y.natAbs x.natAbs = Int.gcd x y) := Lib.hid (Nat.gcd_comm _ _)
  have hS0 := Lib.hid (@Ar2.start nx px lx cx ny py ly cy w)
  obtain ⟨g, hgg⟩ : ∃ g, Nat.gcd y.natAbs x.natAbs = g := ⟨_, rfl⟩
  rw [hgg] at hgc hg
  rw [← hg.out]
  clear hx0 hy0 hgg hg
  go_enter Tryd.func23, Tryd.ntmps23
  go_upto_region 1 with fail
  generalize ((w.alloc (.cells #[.bool nx, .slice px lx cx] 24)).alloc (.cells #[.bool ny, .slice py ly cy] 24)).alloc (.cells #[.bool false, .slice none 0 0] 24) = W0 at hS0 ⊢
  have hS1 := hS0.out
  have hf := hS1.facts
  clear hS0
  go_region
  have hS2 := hS1.drew
  clear hf
  have hf := hS2.facts
  clear hf
  have hbw : Below w.heap.size w W0.drew := hS2.2.2.2
  go_wp2_with (first
    | (go_at_call 54; (with_reducible refine (hcm.out _ hbw).mono ?_); rintro e w1 ⟨rfl, hb1⟩; have hS3 := hS2.later hb1; have hbw3 : Below w.heap.size w w1 := hS3.2.2.2)
    | (go_at_call 55; (with_reducible refine (hgc.out _ hbw3).mono ?_); rintro e w2 ⟨p, n, c, l, rfl, hR, hn, hnc, hc, hd, hv, hb2, hp⟩; have hS4 := hS3.later hb2; have hmd := Lib.hid (made_any false p n c l w2 hR hn hnc hc hd); have hp' := Lib.hid hp; have hv' := Lib.hid hv; clear hR hn hnc hc hd hv hp)
    | (go_at_call 41; (with_reducible refine hmd.out.mono ?_); rintro e w3 ⟨nb, p3, n3, c3, rfl, hI, hb3, hp3⟩; have hS5 := hS4.later hb3; have hI' := Lib.hid hI; have hp3' := Lib.hid hp3; clear hI hp3; have hf := hS5.facts))
  have hfin := Lib.hid (hS5.ret (z' := (g : Int)) hI'.out (fun q hq => by
    have h1 := hp'.out q (hp3'.out q hq)
    have h2 := hS3.top
    omega) (by rw [hv'.out]; rfl))
  exact bodyPost_ret (v := .agg #[.bool nb, .slice p3 n3 c3]) (results_cell_row rfl _ _ (w.heap.size + 1 + 1) 24 _ (0, 0) _ rfl (hS5.res _ _) Tryd.underlying24 rfl size_Int) rfl hfin.out

set_option maxRecDepth 100000 in
set_option maxHeartbeats 1600000 in
theorem Gcd_not (nx ny : Bool) (px py : Option Addr) (lx cx ly cy : Nat) (x y : Int) (w : World) (hx0 : IntAt w nx px lx cx x) (hy0 : IntAt w ny py ly cy y) (hlx : lx ≤ 549755813887) (hly : ly ≤ 549755813887) (hxy : y.natAbs ≤ x.natAbs) :
    Calls Tryd.prog 23 #[.agg #[.bool nx, .slice px lx cx], .agg #[.bool ny, .slice py ly cy]] w (RetI w (Int.gcd x y)) := by
  have hcm : Hid (∀ W, Below w.heap.size w W → Calls Tryd.prog 54 #[.slice px lx cx, .slice py ly cy] W fun e w' => e = .returned (.int .i64 (cmpI (x.natAbs : Int) (y.natAbs : Int))) ∧ Below W.heap.size W w') := Lib.hid fun W hb => compare_any px py lx cx ly cy x.natAbs y.natAbs W (Rdi_below hb hx0.2.2.1) (Rdi_below hb hy0.2.2.1) hx0.2.1 hy0.2.1 (by omega) (by omega)
  have hc0 : 0 ≤ cmpI (x.natAbs : Int) (y.natAbs : Int) := by
    unfold cmpI
    rw [if_neg (by omega)]
    split <;> omega
  generalize cmpI (x.natAbs : Int) (y.natAbs : Int) = C at hcm hc0
  have hgc : Hid (∀ W, Below w.heap.size w W → Calls Tryd.prog 55 #[.slice px lx cx, .slice py ly cy] W (GcP W (Nat.gcd x.natAbs y.natAbs))) := Lib.hid fun W hb => gcd_any _ _ _ _ _ _ _ _ W (Rdi_below hb hx0.2.2.1) (Rdi_below hb hy0.2.2.1) hx0.2.1 hy0.2.1 hlx (by omega)
  have hg : Hid (Nat.gcd x.natAbs y.natAbs = Int.gcd x y) := Lib.hid rfl
  have hS0 := Lib.hid (@Ar2.start nx px lx cx ny py ly cy w)
  obtain ⟨g, hgg⟩ : ∃ g, Nat.gcd x.natAbs y.natAbs = g := ⟨_, rfl⟩
  rw [hgg] at hgc hg
  rw [← hg.out]
  clear hx0 hy0 hgg hg
  go_enter Tryd.func23, Tryd.ntmps23
  go_upto_region 1 with fail
  generalize ((w.alloc (.cells #[.bool nx, .slice px lx cx] 24)).alloc (.cells #[.bool ny, .slice py ly cy] 24)).alloc (.cells #[.bool false, .slice none 0 0] 24) = W0 at hS0 ⊢
  have hS1 := hS0.out
  have hf := hS1.facts
  clear hS0
  go_region
  have hc1 : ¬ C < 0 := by omega
  have hS2 := hS1.drew
  clear hf
  have hf := hS2.facts
  clear hf
  have hbw : Below w.heap.size w W0.drew := hS2.2.2.2
  go_wp2_with (first
    | (go_at_call 54; (with_reducible refine (hcm.out _ hbw).mono ?_); rintro e w1 ⟨rfl, hb1⟩; have hS3 := hS2.later hb1; have hbw3 : Below w.heap.size w w1 := hS3.2.2.2)
    | (go_at_call 55; (with_reducible refine (hgc.out _ hbw3).mono ?_); rintro e w2 ⟨p, n, c, l, rfl, hR, hn, hnc, hc, hd, hv, hb2, hp⟩; have hS4 := hS3.later hb2; have hmd := Lib.hid (made_any false p n c l w2 hR hn hnc hc hd); have hp' := Lib.hid hp; have hv' := Lib.hid hv; clear hR hn hnc hc hd hv hp)
    | (go_at_call 41; (with_reducible refine hmd.out.mono ?_); rintro e w3 ⟨nb, p3, n3, c3, rfl, hI, hb3, hp3⟩; have hS5 := hS4.later hb3; have hI' := Lib.hid hI; have hp3' := Lib.hid hp3; clear hI hp3; have hf := hS5.facts))
  have hfin := Lib.hid (hS5.ret (z' := (g : Int)) hI'.out (fun q hq => by
    have h1 := hp'.out q (hp3'.out q hq)
    have h2 := hS3.top
    omega) (by rw [hv'.out]; rfl))
  exact bodyPost_ret (v := .agg #[.bool nb, .slice p3 n3 c3]) (results_cell_row rfl _ _ (w.heap.size + 1 + 1) 24 _ (0, 0) _ rfl (hS5.res _ _) Tryd.underlying24 rfl size_Int) rfl hfin.out
theorem Gcd_any (nx ny : Bool) (px py : Option Addr) (lx cx ly cy : Nat) (x y : Int) (w : World) (hx0 : IntAt w nx px lx cx x) (hy0 : IntAt w ny py ly cy y) (hlx : lx ≤ 549755813887) (hly : ly ≤ 549755813887) :
    Calls Tryd.prog 23 #[.agg #[.bool nx, .slice px lx cx], .agg #[.bool ny, .slice py ly cy]] w (RetI w (Int.gcd x y)) := by
  rcases Nat.lt_or_ge x.natAbs y.natAbs with h | h
  · exact Gcd_less nx ny px py lx cx ly cy x y w hx0 hy0 hlx hly h
  · exact Gcd_not nx ny px py lx cx ly cy x y w hx0 hy0 hlx hly h
end Go.Proofs.YteaoaoknpihchaaDoor
