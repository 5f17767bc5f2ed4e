/- Contracts of the package integer and its reference: integer.Div. integer.Small. -/
import Derived.Test.YtmbkpcnpacncjaaDoorM9
import Derived.Test.YtmbkpcnpacncjaaDoorM2
import Derived.Test.YtmbkpcnpacncjaaDoorM5
set_option linter.unusedVariables false
namespace Go.Proofs.YtmbkpcnpacncjaaDoor
open Go.RowKit

theorem divq_nat {x y : Nat} {q r : List Int} (h : DivQ (digs x) (digs y) q r) : (x : Int) = (y : Int) * val q + val r ∧ 0 ≤ val r ∧ val r < (y : Int) ∧ 0 ≤ val q := by
  obtain ⟨h1, h2, h3, h4⟩ := h
  rw [val_digs, val_digs] at h3
  rw [val_digs] at h4
  exact ⟨h3, h2.lo, h4, h1.lo⟩
/-- what is there behind the division of the digits -/
def DvA (w : World) (nx : Bool) (px : Option Addr) (lx cx : Nat) (ny : Bool) (py : Option Addr) (ly cy : Nat) (p1 : Option Addr) (n1 c1 : Nat) (q : List Int) (p2 : Option Addr) (n2 c2 : Nat) (r : List Int) (W : World) : Prop :=
  Ar4 w nx px lx cx ny py ly cy W ∧ Rdi W p1 q ∧ q.length = n1 ∧ n1 ≤ c1 ∧ c1 ≤ 1099511627776 ∧ Dg q ∧ (∀ b, p1 = some b → w.heap.size + 1 + 1 + 1 < b.block) ∧ Rdi W p2 r ∧ r.length = n2 ∧ n2 ≤ c2 ∧ c2 ≤ 1099511627776 ∧ Dg r ∧ (∀ b, p2 = some b → w.heap.size + 1 + 1 + 1 < b.block)
theorem DvA.later {w : World} {nx : Bool} {px : Option Addr} {lx cx : Nat} {ny : Bool} {py : Option Addr} {ly cy : Nat} {p1 : Option Addr} {n1 c1 : Nat} {q : List Int} {p2 : Option Addr} {n2 c2 : Nat} {r : List Int} {W W' : World} (h : DvA w nx px lx cx ny py ly cy p1 n1 c1 q p2 n2 c2 r W) (hb : Below W.heap.size W W') :
    DvA w nx px lx cx ny py ly cy p1 n1 c1 q p2 n2 c2 r W' := by
  obtain ⟨h1, h2, h3, h4, h5, h6, h7, h8, h9⟩ := h
  exact ⟨h1.later hb, Rdi_below hb h2, h3, h4, h5, h6, h7, Rdi_below hb h8, h9⟩

/-- behind the correction of a negative number's division -/
def DvC (w : World) (px : Option Addr) (lx cx : Nat) (ny : Bool) (py : Option Addr) (ly cy : Nat) (x y : Int) (s6 s7 : Value) (W : World) : Prop :=
  ∃ p1 n1 q p2 n2 r, s6 = .slice p1 n1 n1 ∧ s7 = .slice p2 n2 n2 ∧ DvA w true px lx cx ny py ly cy p1 n1 n1 q p2 n2 n2 r W ∧ sg (true != ny) (val q) = dq x y ∧ val r = dr x y
theorem dvc_mk {w : World} {px : Option Addr} {lx cx : Nat} {ny : Bool} {py : Option Addr} {ly cy : Nat} {x y : Int} {p1 p2 : Option Addr} {n1 n2 c2 : Nat} {q r Y : List Int} {w1 W : World} {gs ns gd nd : Nat} {zs zd : List Int} (hA : DvA w true px lx cx ny py ly cy p1 n1 n1 q p2 n2 c2 r w1) (hb : Below w1.heap.size w1 W)
    (hgs : w1.heap.size ≤ gs) (hzs : Blk W gs zs) (hns : zs.length = ns) (hPs : SumP q [1] zs) (hq : q.length ≤ 549755813887) (hgd : w1.heap.size ≤ gd) (hzd : Blk W gd zd) (hnd : zd.length = nd) (hPd : DifP Y r zd) (hY : Y.length ≤ 549755813887)
    (hv1 : sg (true != ny) (val q + 1) = dq x y) (hv2 : val Y - val r = dr x y) : DvC w px lx cx ny py ly cy x y (.slice (some ⟨gs, 0, none⟩) ns ns) (.slice (some ⟨gd, 0, none⟩) nd nd) W := by
  have ht := hA.1.top
  have h1 : val zs = val q + 1 := by rw [hPs.2.1]; simp [val]
  have h2 := hPs.2.2
  have h3 := hPd.2.2
  simp only [List.length_cons, List.length_nil] at h2
  refine ⟨some ⟨gs, 0, none⟩, ns, zs, some ⟨gd, 0, none⟩, nd, zd, rfl, rfl, ⟨hA.1.later hb, hzs.rdi, hns, Nat.le_refl _, by omega, hPs.1, fun b e => ?_, hzd.rdi, hnd, Nat.le_refl _, by omega, hPd.1, fun b e => ?_⟩, by rw [h1]; exact hv1, by rw [hPd.2.1]; exact hv2⟩
  · cases e; show _ < gs; omega
  · cases e; show _ < gd; omega
set_option maxRecDepth 100000 in
set_option maxHeartbeats 1600000 in
theorem Div_any (nx ny : Bool) (px py : Option Addr) (lx cx ly cy : Nat) (x y : Int) (w : World) (hx0 : IntAt w nx px lx cx x) (hy0 : IntAt w ny py ly cy y) (hlx : lx ≤ 549755813887) (hly : ly ≤ 549755813887) :
    Calls Tryd.prog 29 #[.agg #[.bool nx, .slice px lx cx], .agg #[.bool ny, .slice py ly cy]] w (RetD w (dq x y) (dr x y)) := by
  have hS0 := Lib.hid (@Ar4.start nx px lx cx ny py ly cy w)
  by_cases hy : y = 0
  · have hl0 : ly = 0 := by rw [hy0.2.1, hy]; show (digs 0).length = 0; rw [digs_zero]; rfl
    have hz : Hid (dq x y = 0 ∧ dr x y = 0) := Lib.hid (by unfold dq dr; rw [if_pos hy, if_pos hy]; exact ⟨rfl, rfl⟩)
    subst hl0
    clear hx0 hy0 hy
    go_enter Tryd.func29, Tryd.ntmps29
    go_upto_if 11 with fail
    generalize (((w.alloc (.cells #[.bool nx, .slice px lx cx] 24)).alloc (.cells #[.bool ny, .slice py 0 cy] 24)).alloc (.cells #[.bool false, .slice none 0 0] 24)).alloc (.cells #[.bool false, .slice none 0 0] 24) = W0 at hS0 ⊢
    have hS1 := hS0.out
    have hf := hS1.out
    have hfin : Hid (RetD w (dq x y) (dr x y) (.returned (.tuple #[.agg #[.bool false, .slice none 0 0], .agg #[.bool false, .slice none 0 0]])) ((((W0.setCell ⟨w.heap.size + 1 + 1, 0, none⟩ (.bool false)).setCell ⟨w.heap.size + 1 + 1, 1, none⟩ (.slice none 0 0)).setCell ⟨w.heap.size + 1 + 1 + 1, 0, none⟩ (.bool false)).setCell ⟨w.heap.size + 1 + 1 + 1, 1, none⟩ (.slice none 0 0))) :=
      Lib.hid (hS1.ret (IntAt_zero _ _ _ (by omega)) (IntAt_zero _ _ _ (by omega)) (fun q hq => by cases hq) (fun q hq => by cases hq) hz.out.1.symm hz.out.2.symm)
    go_wp2_with fail
    exact bodyPost_ret (v := .tuple #[.agg #[.bool false, .slice none 0 0], .agg #[.bool false, .slice none 0 0]]) (results_cell2 rfl _ _ (w.heap.size + 1 + 1) (w.heap.size + 1 + 1 + 1) 24 _ _ (0, 0) (0, 0) _ rfl rfl (hS1.res _ _ _ _).1 (hS1.res _ _ _ _).2 Tryd.underlying24 rfl size_Int size_Int) rfl hfin.out
  · have hl0 : ly ≠ 0 := by
      rw [hy0.2.1]
      intro h
      have := digs_nil.1 (List.eq_nil_of_length_eq_zero h)
      omega
    have hyt := digs_top (n := y.natAbs) (by omega)
    rw [← hy0.2.1] at hyt
    have hytd := ((Dg_digs y.natAbs).all (ly - 1)).1
    have hdv : Hid (∀ W, Below w.heap.size w W → Calls Tryd.prog 41 #[.slice px lx cx, .slice py ly cy] W (DivdP W (digs x.natAbs) (digs y.natAbs))) :=
      Lib.hid fun W hb => divided_any _ _ _ _ _ _ _ _ W (Rdi_below hb hx0.2.2.1) (Rdi_below hb hy0.2.2.1) hx0.2.1 hy0.2.1 (Dg_digs _) (Dg_digs _) hlx hly (by omega) (by omega)
    have hx := Lib.hid hx0
    have hyy := Lib.hid hy0
    have hy' := Lib.hid hy
    have t1 : ((ly : Int) == 0) = false := by simp; omega
    clear hx0 hy0 hy hyt hytd
    cases nx
    · go_enter Tryd.func29, Tryd.ntmps29
      go_upto_if 11 with fail
      generalize (((w.alloc (.cells #[.bool false, .slice px lx cx] 24)).alloc (.cells #[.bool ny, .slice py ly cy] 24)).alloc (.cells #[.bool false, .slice none 0 0] 24)).alloc (.cells #[.bool false, .slice none 0 0] 24) = W0 at hS0 ⊢
      have hS1 := hS0.out
      have hf := hS1.in_
      go_wp2_with (go_at_call 41; refine (hdv.out _ hS1.2.2.2.2).mono ?_; rintro e w1 ⟨p1, n1, q, h, m, r, rfl, hq1, hq2, hq3, hh, hr1, hr2, hb1, hn1, hm1, hm2, hdq⟩; have hA : Hid (DvA w false px lx cx ny py ly cy p1 n1 n1 q (some ⟨h, 0, none⟩) (tlen r) m (r.take (tlen r)) w1) := (by
        refine Lib.hid ⟨hS1.later hb1, hq1, hq2, Nat.le_refl _, ?_, hdq.1, fun b hb => ?_, Rdi_blk_take hr1 _, ?_, ?_, ?_, hdq.2.1.take _, fun b hb => ?_⟩
        · have := hx.out.2.1; omega
        · have := hq3 b hb; have := hS1.top; omega
        · rw [List.length_take]; have := tlen_le r; omega
        · have := tlen_le r; omega
        · have := hx.out.2.1; omega
        · cases hb; have := hS1.top; show _ < h; omega); have htr : Hid (Calls Tryd.prog 39 #[.slice (some ⟨h, 0, none⟩) m m] w1 fun e w' => e = .returned (.slice (some ⟨h, 0, none⟩) (tlen r) m) ∧ w1 = w') := Lib.hid (trimmed_any _ _ _ r w1 hr1.rdi hr2.symm (Nat.le_refl _) (by have := hx.out.2.1; omega)); have hdq' := Lib.hid hdq; have hr2' := Lib.hid hr2; have hm1' := Lib.hid hm1; have hn1' := Lib.hid hn1; clear hq1 hq2 hq3 hr1 hr2 hdq hn1 hm1 hm2 hb1 hf)
      have hrv : Hid (val (r.take (tlen r)) = val r ∧ (tlen r = 0 → val r = 0) ∧ (tlen r ≠ 0 → 0 < val r) ∧ (r.take (tlen r)).length = tlen r) := Lib.hid ⟨by rw [take_tlen hdq'.out.2.1, val_digs, Int.toNat_of_nonneg hdq'.out.2.1.lo], fun h0 => tlen_zero hdq'.out.2.1 h0, fun h0 => tlen_pos hdq'.out.2.1 h0, hA.out.2.2.2.2.2.2.2.2.1⟩
      have hmath := div_math (x := x) (y := y) (q := val q) (r := val r) hy'.out (divq_nat hdq'.out).1 (divq_nat hdq'.out).2.1 (divq_nat hdq'.out).2.2.1
      have hmt := Lib.hid hmath
      clear hmath
      have hval : Hid (sg (false != ny) (val q) = dq x y ∧ val (r.take (tlen r)) = dr x y) := Lib.hid (by
        have hnx : ¬ x < 0 := by have := hx.out.1; simpa using this.symm
        have hm := hmt.out.2 (fun h0 => hnx h0.1)
        rw [hm.1, hm.2, hrv.out.1, decide_eq_false hnx, hyy.out.1]
        exact ⟨rfl, rfl⟩)
      generalize hrr : r.take (tlen r) = rr at hA hval
      have hrr' := Lib.hid hrr
      have htl : Hid (rr.length = tlen r) := Lib.hid (by rw [← hrr]; exact hrv.out.2.2.2)
      clear hrr
      generalize tlen r = k at hA htr htl
      have hf7 := hA.out.1.in_
      go_wp2_with (go_at_call 39; refine htr.out.mono ?_; rintro e w' ⟨rfl, rfl⟩)
      refine (made_any _ p1 n1 n1 q w1 hA.out.2.1 hA.out.2.2.1.symm hA.out.2.2.2.1 (by have := hA.out.2.2.2.2.1; omega) hA.out.2.2.2.2.2.1).mono ?_
      rintro e w8 ⟨nb8, p8, n8, c8, rfl, hI8, hb8, hp8⟩
      have hA8 := Lib.hid (hA.out.later hb8)
      have hI8' := Lib.hid hI8
      have hp8' : Hid (∀ b, p8 = some b → w.heap.size + 1 + 1 + 1 < b.block) := Lib.hid fun b hb => hA.out.2.2.2.2.2.2.1 b (hp8 b hb)
      clear hI8 hb8 hp8 hf7
      go_wp2_with fail
      refine (made_any _ (some ⟨h, 0, none⟩) k m rr w8 hA8.out.2.2.2.2.2.2.2.1 hA8.out.2.2.2.2.2.2.2.2.1.symm hA8.out.2.2.2.2.2.2.2.2.2.1 (by have := hA8.out.2.2.2.2.2.2.2.2.2.2.1; omega) hA8.out.2.2.2.2.2.2.2.2.2.2.2.1).mono ?_
      rintro e w9 ⟨nb9, p9, n9, c9, rfl, hI9, hb9, hp9⟩
      have hA9 := hA8.out.1.later hb9
      have hf9 := hA9.out
      have hfin := Lib.hid (hA9.ret (hI8'.out.later hb9) hI9 hp8'.out (fun b hb => hA8.out.2.2.2.2.2.2.2.2.2.2.2.2 b (hp9 b hb)) (by rw [← hval.out.1]; cases ny <;> rfl : _ = dq x y) (by rw [← hval.out.2]; rfl : _ = dr x y))
      clear hI9 hb9 hp9
      go_wp2_with fail
      exact bodyPost_ret (v := .tuple #[.agg #[.bool nb8, .slice p8 n8 c8], .agg #[.bool nb9, .slice p9 n9 c9]]) (results_cell2 rfl _ _ (w.heap.size + 1 + 1) (w.heap.size + 1 + 1 + 1) 24 _ _ (0, 0) (0, 0) _ rfl rfl (hA9.res _ _ _ _).1 (hA9.res _ _ _ _).2 Tryd.underlying24 rfl size_Int size_Int) rfl hfin.out
    · go_enter Tryd.func29, Tryd.ntmps29
      go_upto_if 11 with fail
      generalize (((w.alloc (.cells #[.bool true, .slice px lx cx] 24)).alloc (.cells #[.bool ny, .slice py ly cy] 24)).alloc (.cells #[.bool false, .slice none 0 0] 24)).alloc (.cells #[.bool false, .slice none 0 0] 24) = W0 at hS0 ⊢
      have hS1 := hS0.out
      have hf := hS1.in_
      go_wp2_with (go_at_call 41; refine (hdv.out _ hS1.2.2.2.2).mono ?_; rintro e w1 ⟨p1, n1, q, h, m, r, rfl, hq1, hq2, hq3, hh, hr1, hr2, hb1, hn1, hm1, hm2, hdq⟩; have hA : Hid (DvA w true px lx cx ny py ly cy p1 n1 n1 q (some ⟨h, 0, none⟩) (tlen r) m (r.take (tlen r)) w1) := (by
        refine Lib.hid ⟨hS1.later hb1, hq1, hq2, Nat.le_refl _, ?_, hdq.1, fun b hb => ?_, Rdi_blk_take hr1 _, ?_, ?_, ?_, hdq.2.1.take _, fun b hb => ?_⟩
        · have := hx.out.2.1; omega
        · have := hq3 b hb; have := hS1.top; omega
        · rw [List.length_take]; have := tlen_le r; omega
        · have := tlen_le r; omega
        · have := hx.out.2.1; omega
        · cases hb; have := hS1.top; show _ < h; omega); have htr : Hid (Calls Tryd.prog 39 #[.slice (some ⟨h, 0, none⟩) m m] w1 fun e w' => e = .returned (.slice (some ⟨h, 0, none⟩) (tlen r) m) ∧ w1 = w') := Lib.hid (trimmed_any _ _ _ r w1 hr1.rdi hr2.symm (Nat.le_refl _) (by have := hx.out.2.1; omega)); have hdq' := Lib.hid hdq; have hr2' := Lib.hid hr2; have hm1' := Lib.hid hm1; have hn1' := Lib.hid hn1; clear hq1 hq2 hq3 hr1 hr2 hdq hn1 hm1 hm2 hb1 hf)
      have hrv : Hid (val (r.take (tlen r)) = val r ∧ (tlen r = 0 → val r = 0) ∧ (tlen r ≠ 0 → 0 < val r) ∧ (r.take (tlen r)).length = tlen r) := Lib.hid ⟨by rw [take_tlen hdq'.out.2.1, val_digs, Int.toNat_of_nonneg hdq'.out.2.1.lo], fun h0 => tlen_zero hdq'.out.2.1 h0, fun h0 => tlen_pos hdq'.out.2.1 h0, hA.out.2.2.2.2.2.2.2.2.1⟩
      have hmath := div_math (x := x) (y := y) (q := val q) (r := val r) hy'.out (divq_nat hdq'.out).1 (divq_nat hdq'.out).2.1 (divq_nat hdq'.out).2.2.1
      have hmt := Lib.hid hmath
      clear hmath
      by_cases hk0 : tlen r = 0
      · have hval : Hid (sg (true != ny) (val q) = dq x y ∧ val (r.take (tlen r)) = dr x y) := Lib.hid (by
          have hnx : x < 0 := by have := hx.out.1; simpa using this.symm
          have hm := hmt.out.2 (fun h0 => by have := hrv.out.2.1 hk0; omega)
          rw [hm.1, hm.2, hrv.out.1, decide_eq_true hnx, hyy.out.1]
          exact ⟨rfl, rfl⟩)
        generalize hrr : r.take (tlen r) = rr at hA hval
        have hrr' := Lib.hid hrr
        clear hrr
        rw [hk0] at hA htr
        clear hk0
        have hf7 := hA.out.1.in_
        go_wp2_with (go_at_call 39; refine htr.out.mono ?_; rintro e w' ⟨rfl, rfl⟩)
        refine (made_any _ p1 n1 n1 q w1 hA.out.2.1 hA.out.2.2.1.symm hA.out.2.2.2.1 (by have := hA.out.2.2.2.2.1; omega) hA.out.2.2.2.2.2.1).mono ?_
        rintro e w8 ⟨nb8, p8, n8, c8, rfl, hI8, hb8, hp8⟩
        have hA8 := Lib.hid (hA.out.later hb8)
        have hI8' := Lib.hid hI8
        have hp8' : Hid (∀ b, p8 = some b → w.heap.size + 1 + 1 + 1 < b.block) := Lib.hid fun b hb => hA.out.2.2.2.2.2.2.1 b (hp8 b hb)
        clear hI8 hb8 hp8 hf7
        go_wp2_with fail
        refine (made_any _ (some ⟨h, 0, none⟩) 0 m rr w8 hA8.out.2.2.2.2.2.2.2.1 hA8.out.2.2.2.2.2.2.2.2.1.symm hA8.out.2.2.2.2.2.2.2.2.2.1 (by have := hA8.out.2.2.2.2.2.2.2.2.2.2.1; omega) hA8.out.2.2.2.2.2.2.2.2.2.2.2.1).mono ?_
        rintro e w9 ⟨nb9, p9, n9, c9, rfl, hI9, hb9, hp9⟩
        have hA9 := hA8.out.1.later hb9
        have hf9 := hA9.out
        have hfin := Lib.hid (hA9.ret (hI8'.out.later hb9) hI9 hp8'.out (fun b hb => hA8.out.2.2.2.2.2.2.2.2.2.2.2.2 b (hp9 b hb)) (by rw [← hval.out.1]; cases ny <;> rfl : _ = dq x y) (by rw [← hval.out.2]; rfl : _ = dr x y))
        clear hI9 hb9 hp9
        go_wp2_with fail
        exact bodyPost_ret (v := .tuple #[.agg #[.bool nb8, .slice p8 n8 c8], .agg #[.bool nb9, .slice p9 n9 c9]]) (results_cell2 rfl _ _ (w.heap.size + 1 + 1) (w.heap.size + 1 + 1 + 1) 24 _ _ (0, 0) (0, 0) _ rfl rfl (hA9.res _ _ _ _).1 (hA9.res _ _ _ _).2 Tryd.underlying24 rfl size_Int size_Int) rfl hfin.out
      · have hrp : 0 < val r := hrv.out.2.2.1 hk0
        have hval : Hid (sg (true != ny) (val q + 1) = dq x y ∧ val (digs y.natAbs) - val (r.take (tlen r)) = dr x y) := Lib.hid (by
          have hnx : x < 0 := by have := hx.out.1; simpa using this.symm
          have hm := hmt.out.1 hnx hrp
          rw [hm.1, hm.2, hrv.out.1, decide_eq_true hnx, hyy.out.1, val_digs]
          exact ⟨rfl, rfl⟩)
        have hrlt : Hid (val (r.take (tlen r)) < (y.natAbs : Int)) := Lib.hid (by rw [hrv.out.1]; exact (divq_nat hdq'.out).2.2.1)
        generalize hrr : r.take (tlen r) = rr at hA hval hrlt
        have hrr' := Lib.hid hrr
        clear hrr hrp
        generalize tlen r = k at hA htr hk0
        have hk1 : 0 < (k : Int) := by omega
        have hf7 := hA.out.1.in_
        go_upto_region 1 with (go_at_call 39; refine htr.out.mono ?_; rintro e w' ⟨rfl, rfl⟩)
        go_cut [6, 7] (fun s6 s7 wx => DvC w px lx cx ny py ly cy x y s6 s7 wx)
        case first =>
          have hsum : Hid (∀ W g, Below w1.heap.size w1 W → Blk W g [1] → Calls Tryd.prog 42 #[.slice p1 n1 n1, .slice (some ⟨g, 0, none⟩) 1 1] W (NewI W (SumP q [1]))) := Lib.hid fun W g hb hB =>
            sum_any _ _ _ _ 1 _ q [1] W (Rdi_below hb hA.out.2.1) hB.rdi hA.out.2.2.1.symm rfl hA.out.2.2.2.2.2.1 (Dg_cons (by omega) (by omega) Dg_nil) (by have := hn1'.out; have := hx.out.2.1; omega) (by omega)
          have hdif : Hid (∀ W, Below w1.heap.size w1 W → Calls Tryd.prog 43 #[.slice py ly cy, .slice (some ⟨h, 0, none⟩) k m] W (NewI W (DifP (digs y.natAbs) rr))) := Lib.hid fun W hb =>
            difference_any _ _ _ _ _ _ _ _ W (Rdi_below (below_tr (hA.out.1.2.2.2.2) hb) hyy.out.2.2.1) (Rdi_below hb hA.out.2.2.2.2.2.2.2.1) hyy.out.2.1 hA.out.2.2.2.2.2.2.2.2.1.symm (Dg_digs _) hA.out.2.2.2.2.2.2.2.2.2.2.2.1 (by omega) (by
              rw [← hA.out.2.2.2.2.2.2.2.2.1, hyy.out.2.1, ← hrr'.out]
              rw [take_tlen hdq'.out.2.1]
              exact digs_len_mono (by have := hrlt.out; rw [← hrr'.out, hrv.out.1] at this; omega)) (by rw [val_digs]; exact Int.le_of_lt hrlt.out)
          have t1 : Below w1.heap.size w1 w1.drew := below_drewN (Below.refl _ _) 1
          have t2 : Below w1.heap.size w1 (w1.alloc (.cells #[.int .i64 1] 3)).drew := below_drewN (below_new _ _) 1
          have tB : Hid (Blk (w1.alloc (.cells #[.int .i64 1] 3)).drew w1.heap.size [1]) := Lib.hid (Blk_new w1 [1])
          clear t1
          have t1 := Lib.hid (show Below w1.heap.size w1 w1.drew from below_drewN (Below.refl _ _) 1)
          have t2' := Lib.hid t2
          have hz1 : w.heap.size + 1 < w1.heap.size := by have := hA.out.1.top; omega
          clear t2
          have hqb : Hid (q.length ≤ 549755813887) := Lib.hid (by have := hA.out.2.2.1; have := hn1'.out; have := hx.out.2.1; omega)
          have hyb : Hid ((digs y.natAbs).length ≤ 549755813887) := Lib.hid (by have := hyy.out.2.1; omega)
          go_region_with (first
            | (go_at_call 42; (first | (with_reducible refine (hsum.out _ _ t2'.out tB.out).mono ?_) | (with_reducible refine (hsum.out _ _ (below_tr t2'.out hbd.out) (tB.out.later hbd.out)).mono ?_) | (with_reducible refine (hsum.out _ _ (below_tr (below_tr t1.out hbd.out) (below_new _ _)) (Blk_new _ [1])).mono ?_)); rintro e wS ⟨gs, ns, zs, rfl, hgs, hzs, hbs0, hns, hPs⟩; try (have cS := (hA.out.1.later (below_tr t2'.out hbs0)).in_.2.2.2); have hbs := Lib.hid hbs0; have hzs' := Lib.hid hzs; have hns' := Lib.hid hns; have hPs' := Lib.hid hPs; clear hbs0 hzs hns hPs)
            | (go_at_call 43; (first | (with_reducible refine (hdif.out _ t1.out).mono ?_) | (with_reducible refine (hdif.out _ t2'.out).mono ?_) | (with_reducible refine (hdif.out _ (below_tr t2'.out hbs.out)).mono ?_)); rintro e wD ⟨gd, nd, zd, rfl, hgd, hzd, hbd0, hnd, hPd⟩; have hbd := Lib.hid hbd0; have hzd' := Lib.hid hzd; have hnd' := Lib.hid hnd; have hPd' := Lib.hid hPd; clear hbd0 hzd hnd hPd))
          all_goals (go_wp2_with fail; go_meet; first
            | exact dvc_mk hA.out (below_tr (below_tr t2'.out hbs.out) hbd.out) (Nat.le_trans t2'.out.size hgs) (hzs'.out.later hbd.out) hns'.out hPs'.out hqb.out (Nat.le_trans (Nat.le_trans t2'.out.size hbs.out.size) hgd) hzd'.out hnd'.out hPd'.out hyb.out hval.out.1 hval.out.2
            | exact dvc_mk hA.out (below_tr (below_tr t2'.out hbd.out) hbs.out) (Nat.le_trans (Nat.le_trans t2'.out.size hbd.out.size) hgs) hzs'.out hns'.out hPs'.out hqb.out (Nat.le_trans t2'.out.size hgd) (hzd'.out.later hbs.out) hnd'.out hPd'.out hyb.out hval.out.1 hval.out.2
            | exact dvc_mk hA.out (below_tr (below_tr (below_tr t1.out hbd.out) (below_new _ _)) hbs.out) (Nat.le_trans (Nat.le_trans (Nat.le_trans t1.out.size hbd.out.size) (below_new _ _).size) hgs) hzs'.out hns'.out hPs'.out hqb.out (Nat.le_trans t1.out.size hgd) (hzd'.out.later (below_tr (below_new _ _) hbs.out)) hnd'.out hPd'.out hyb.out hval.out.1 hval.out.2)
        case rest =>
          obtain ⟨p1, n1, q, p2, n2, rr, rfl, rfl, hA0, hv1, hv2⟩ := hcut
          have hA := Lib.hid hA0
          have hval : Hid (sg (true != ny) (val q) = dq x y ∧ val rr = dr x y) := Lib.hid ⟨hv1, hv2⟩
          clear hA0 hv1 hv2
          have hf7 := hA.out.1.in_
          go_wp2_with fail
          refine (made_any _ p1 n1 n1 q wc hA.out.2.1 hA.out.2.2.1.symm hA.out.2.2.2.1 (by have := hA.out.2.2.2.2.1; omega) hA.out.2.2.2.2.2.1).mono ?_
          rintro e w8 ⟨nb8, p8, n8, c8, rfl, hI8, hb8, hp8⟩
          have hA8 := Lib.hid (hA.out.later hb8)
          have hI8' := Lib.hid hI8
          have hp8' : Hid (∀ b, p8 = some b → w.heap.size + 1 + 1 + 1 < b.block) := Lib.hid fun b hb => hA.out.2.2.2.2.2.2.1 b (hp8 b hb)
          clear hI8 hb8 hp8 hf7
          go_wp2_with fail
          refine (made_any _ p2 n2 n2 rr w8 hA8.out.2.2.2.2.2.2.2.1 hA8.out.2.2.2.2.2.2.2.2.1.symm hA8.out.2.2.2.2.2.2.2.2.2.1 (by have := hA8.out.2.2.2.2.2.2.2.2.2.2.1; omega) hA8.out.2.2.2.2.2.2.2.2.2.2.2.1).mono ?_
          rintro e w9 ⟨nb9, p9, n9, c9, rfl, hI9, hb9, hp9⟩
          have hA9 := hA8.out.1.later hb9
          have hf9 := hA9.out
          have hfin := Lib.hid (hA9.ret (hI8'.out.later hb9) hI9 hp8'.out (fun b hb => hA8.out.2.2.2.2.2.2.2.2.2.2.2.2 b (hp9 b hb)) (by rw [← hval.out.1]; cases ny <;> rfl : _ = dq x y) (by rw [← hval.out.2]; rfl : _ = dr x y))
          clear hI9 hb9 hp9
          go_wp2_with fail
          exact bodyPost_ret (v := .tuple #[.agg #[.bool nb8, .slice p8 n8 c8], .agg #[.bool nb9, .slice p9 n9 c9]]) (results_cell2 rfl _ _ (w.heap.size + 1 + 1) (w.heap.size + 1 + 1 + 1) 24 _ _ (0, 0) (0, 0) _ rfl rfl (hA9.res _ _ _ _).1 (hA9.res _ _ _ _).2 Tryd.underlying24 rfl size_Int size_Int) rfl hfin.out
end Go.Proofs.YtmbkpcnpacncjaaDoor

namespace Go.Proofs.YtmbkpcnpacncjaaDoor
open Go.RowKit

/-- whether an integer is an int, and which -/
def smb (x : Int) : Bool := decide (-9223372036854775808 ≤ x ∧ x ≤ 9223372036854775807)
def smv (x : Int) : Int := if -9223372036854775808 ≤ x ∧ x ≤ 9223372036854775807 then x else 0
theorem sm_no {x : Int} (h : ¬ (-9223372036854775808 ≤ x ∧ x ≤ 9223372036854775807)) : smb x = false ∧ smv x = 0 := ⟨decide_eq_false h, if_neg h⟩
theorem sm_yes {x : Int} (h : -9223372036854775808 ≤ x ∧ x ≤ 9223372036854775807) : smb x = true ∧ smv x = x := ⟨decide_eq_true h, if_pos h⟩
theorem len_val {n k : Nat} (h : k < (digs n).length) : pw k ≤ (n : Int) := by
  rcases Int.lt_or_le (n : Int) (pw k) with h1 | h1
  · have := digs_len_le h1; omega
  · exact h1
theorem top_dig {n k : Nat} (h : (digs n).length = k + 1) : pw k * iat (digs n) k ≤ (n : Int) ∧ (n : Int) < pw k * (iat (digs n) k + 1) := by
  have h1 := val_take (digs n) k (by omega)
  rw [← h, List.take_length, val_digs] at h1
  have h2 := ((Dg_digs n).take k).lo
  have h3 := ((Dg_digs n).take k).hi
  rw [List.length_take, Nat.min_eq_left (by omega)] at h3
  have e : pw k * (iat (digs n) k + 1) = pw k * iat (digs n) k + pw k := by grind
  omega
theorem pw2 : pw 2 = 1000000000000000000 := by decide
theorem pw3 : pw 3 = 1000000000000000000000000000 := by decide
/-- the number of the digits -/
theorem num_is {n : Nat} (h : n < 18446744073709551616) : NumI (digs n) 0 = (n : Int) := by
  unfold NumI
  rw [List.drop_zero, val_digs]
  omega
/-- what Small answers -/
def SmP (w : World) (x : Int) (e : Ending) (w' : World) : Prop := e = .returned (.tuple #[.int .i64 (smv x), .bool (smb x)]) ∧ Below w.heap.size w w'
theorem smP_no {w w' : World} {x : Int} (h : ¬ (-9223372036854775808 ≤ x ∧ x ≤ 9223372036854775807)) (hb : Below w.heap.size w w') : SmP w x (.returned (.tuple #[.int .i64 0, .bool false])) w' := by
  unfold SmP
  rw [(sm_no h).1, (sm_no h).2]
  exact ⟨rfl, hb⟩
theorem smP_yes {w w' : World} {x v : Int} (h : -9223372036854775808 ≤ x ∧ x ≤ 9223372036854775807) (hv : v = x) (hb : Below w.heap.size w w') : SmP w x (.returned (.tuple #[.int .i64 v, .bool true])) w' := by
  unfold SmP
  rw [(sm_yes h).1, (sm_yes h).2, hv]
  exact ⟨rfl, hb⟩
theorem neg_back (m : Int) (h0 : 0 < m) (h1 : m ≤ 9223372036854775808) : IntKind.i64.wrap (IntKind.u64.wrap (-m)) = -m := by
  simp [IntKind.wrap, IntKind.bits, IntKind.signed]; omega
theorem neg_back' (m : Int) (h0 : 0 < m) (h1 : m ≤ 9223372036854775808) : wrap64 (IntKind.u64.wrap (-m)) = -m := by
  have h := neg_back m h0 h1
  rw [IntKind.wrap_i64] at h
  unfold wrap64
  omega

set_option maxRecDepth 100000 in
set_option maxHeartbeats 1600000 in
theorem small_long (nx : Bool) (px : Option Addr) (n cx : Nat) (x : Int) (w : World) (hx0 : IntAt w nx px n cx x) (hn : 3 < n) (hlx : n ≤ 549755813887) :
    Calls Tryd.prog 12 #[.agg #[.bool nx, .slice px n cx]] w (SmP w x) := by
  have hv := len_val (k := 3) (n := x.natAbs) (by rw [← hx0.2.1]; exact hn)
  rw [pw3] at hv
  have hno : Hid (¬ (-9223372036854775808 ≤ x ∧ x ≤ 9223372036854775807)) := Lib.hid (by omega)
  have t1 : (3 : Int) < (n : Int) := by omega
  clear hv hx0
  go_enter Tryd.func12, Tryd.ntmps12
  go_wp2_with fail
  go_ret2
  exact smP_no hno.out (below_new _ _)

set_option maxRecDepth 100000 in
set_option maxHeartbeats 1600000 in
theorem small_top (nx : Bool) (px : Option Addr) (cx : Nat) (x : Int) (w : World) (hx0 : IntAt w nx px 3 cx x) (ht : 9 < iat (digs x.natAbs) 2) :
    Calls Tryd.prog 12 #[.agg #[.bool nx, .slice px 3 cx]] w (SmP w x) := by
  have hl := hx0.2.1
  have hv := top_dig (k := 2) (n := x.natAbs) (by rw [← hl])
  rw [pw2] at hv
  obtain ⟨b, o, rfl, hc⟩ := Rdi_at hx0.2.2.1 2 (by omega)
  obtain ⟨T, hT⟩ : ∃ T, iat (digs x.natAbs) 2 = T := ⟨_, rfl⟩
  rw [hT] at hv ht hc
  have hno : Hid (¬ (-9223372036854775808 ≤ x ∧ x ≤ 9223372036854775807)) := Lib.hid (by omega)
  have hlt : b < w.heap.size := World.block_lt_of_cell? w _ hc
  have hc1 := Below.cell_of' (below_new w (.cells #[.bool nx, .slice (some ⟨b, o, none⟩) 3 cx] 24)) hc
  clear hv hx0 hl hT
  go_enter Tryd.func12, Tryd.ntmps12
  go_wp2_with fail
  go_ret2
  exact smP_no hno.out (below_new _ _)

set_option maxRecDepth 100000 in
set_option maxHeartbeats 1600000 in
theorem small_3ny (px : Option Addr) (cx : Nat) (x : Int) (w : World) (hx0 : IntAt w true px 3 cx x) (ht : iat (digs x.natAbs) 2 ≤ 9) (hrng : (-9223372036854775808 ≤ x ∧ x ≤ 9223372036854775807)) :
    Calls Tryd.prog 12 #[.agg #[.bool true, .slice px 3 cx]] w (SmP w x) := by
  have hneg : x < 0 := by have := hx0.1; simpa using this.symm
  have hl := hx0.2.1
  have hv := top_dig (k := 2) (n := x.natAbs) (by rw [← hl])
  rw [pw2] at hv
  obtain ⟨b, o, rfl, hc⟩ := Rdi_at hx0.2.2.1 2 (by omega)
  have hsz : x.natAbs < 18446744073709551616 := by omega
  have hnum : Hid (Calls Tryd.prog 24 #[.slice (some ⟨b, o, none⟩) 3 cx] (w.alloc (.cells #[.bool true, .slice (some ⟨b, o, none⟩) 3 cx] 24)) fun e w' => e = .returned (.int .u64 (x.natAbs : Int)) ∧ w.alloc (.cells #[.bool true, .slice (some ⟨b, o, none⟩) 3 cx] 24) = w') := Lib.hid (by
    have h := number_any (some ⟨b, o, none⟩) 3 cx (digs x.natAbs) (w.alloc (.cells #[.bool true, .slice (some ⟨b, o, none⟩) 3 cx] 24)) (Rdi_below (below_new _ _) hx0.2.2.1) hl (Dg_digs _) (by omega)
    rw [num_is hsz] at h
    exact h)
  obtain ⟨T, hT⟩ : ∃ T, iat (digs x.natAbs) 2 = T := ⟨_, rfl⟩
  rw [hT] at hc ht
  have hlt : b < w.heap.size := World.block_lt_of_cell? w _ hc
  have hc1 := Below.cell_of' (below_new w (.cells #[.bool true, .slice (some ⟨b, o, none⟩) 3 cx] 24)) hc
  clear hT
  obtain ⟨M, hM⟩ : ∃ M, (x.natAbs : Int) = M := ⟨_, rfl⟩
  rw [hM] at hnum
  have hMx : Hid (x = -M) := Lib.hid (by omega)
  have hM0 : 0 < M := by omega
  have hM1 : M ≤ 9223372036854775808 := by omega
  have hM2 : M < 18446744073709551616 := by omega
  have hrng' := Lib.hid hrng
  have hnb := Lib.hid (neg_back' M hM0 hM1)
  clear hx0 hl hv hsz hM hrng hneg
  go_enter Tryd.func12, Tryd.ntmps12
  go_wp2_with (go_at_call 24; refine hnum.out.mono ?_; rintro e w' ⟨rfl, rfl⟩)
  go_ret2
  exact smP_yes hrng'.out (by rw [hMx.out]; first | exact hnb.out | rfl) (below_new _ _)

set_option maxRecDepth 100000 in
set_option maxHeartbeats 1600000 in
theorem small_nny (px : Option Addr) (n cx : Nat) (x : Int) (w : World) (hx0 : IntAt w true px n cx x) (hn : n < 3) (hrng : (-9223372036854775808 ≤ x ∧ x ≤ 9223372036854775807)) :
    Calls Tryd.prog 12 #[.agg #[.bool true, .slice px n cx]] w (SmP w x) := by
  have hneg : x < 0 := by have := hx0.1; simpa using this.symm
  have hl := hx0.2.1
  have hv : (x.natAbs : Int) < pw 2 := by have h1 := lt_pw x.natAbs; have h2 := pw_mono (show (digs x.natAbs).length ≤ 2 by omega); omega
  rw [pw2] at hv
  have hsz : x.natAbs < 18446744073709551616 := by omega
  have hnum : Hid (Calls Tryd.prog 24 #[.slice px n cx] (w.alloc (.cells #[.bool true, .slice px n cx] 24)) fun e w' => e = .returned (.int .u64 (x.natAbs : Int)) ∧ w.alloc (.cells #[.bool true, .slice px n cx] 24) = w') := Lib.hid (by
    have h := number_any px n cx (digs x.natAbs) (w.alloc (.cells #[.bool true, .slice px n cx] 24)) (Rdi_below (below_new _ _) hx0.2.2.1) hl (Dg_digs _) (by omega)
    rw [num_is hsz] at h
    exact h)
  obtain ⟨M, hM⟩ : ∃ M, (x.natAbs : Int) = M := ⟨_, rfl⟩
  rw [hM] at hnum
  have hMx : Hid (x = -M) := Lib.hid (by omega)
  have hM0 : 0 < M := by omega
  have hM1 : M ≤ 9223372036854775808 := by omega
  have hM2 : M < 18446744073709551616 := by omega
  have hrng' := Lib.hid hrng
  have t1 : ¬ (3 : Int) < (n : Int) := by omega
  have t2 : ((n : Int) == 3) = false := by simp; omega
  have hnb := Lib.hid (neg_back' M hM0 hM1)
  clear hx0 hl hv hsz hM hrng hneg
  go_enter Tryd.func12, Tryd.ntmps12
  go_wp2_with (go_at_call 24; refine hnum.out.mono ?_; rintro e w' ⟨rfl, rfl⟩)
  go_ret2
  exact smP_yes hrng'.out (by rw [hMx.out]; first | exact hnb.out | rfl) (below_new _ _)

set_option maxRecDepth 100000 in
set_option maxHeartbeats 1600000 in
theorem small_3no (px : Option Addr) (cx : Nat) (x : Int) (w : World) (hx0 : IntAt w true px 3 cx x) (ht : iat (digs x.natAbs) 2 ≤ 9) (hrng : ¬ (-9223372036854775808 ≤ x ∧ x ≤ 9223372036854775807)) :
    Calls Tryd.prog 12 #[.agg #[.bool true, .slice px 3 cx]] w (SmP w x) := by
  have hneg : x < 0 := by have := hx0.1; simpa using this.symm
  have hl := hx0.2.1
  have hv := top_dig (k := 2) (n := x.natAbs) (by rw [← hl])
  rw [pw2] at hv
  obtain ⟨b, o, rfl, hc⟩ := Rdi_at hx0.2.2.1 2 (by omega)
  have hsz : x.natAbs < 18446744073709551616 := by omega
  have hnum : Hid (Calls Tryd.prog 24 #[.slice (some ⟨b, o, none⟩) 3 cx] (w.alloc (.cells #[.bool true, .slice (some ⟨b, o, none⟩) 3 cx] 24)) fun e w' => e = .returned (.int .u64 (x.natAbs : Int)) ∧ w.alloc (.cells #[.bool true, .slice (some ⟨b, o, none⟩) 3 cx] 24) = w') := Lib.hid (by
    have h := number_any (some ⟨b, o, none⟩) 3 cx (digs x.natAbs) (w.alloc (.cells #[.bool true, .slice (some ⟨b, o, none⟩) 3 cx] 24)) (Rdi_below (below_new _ _) hx0.2.2.1) hl (Dg_digs _) (by omega)
    rw [num_is hsz] at h
    exact h)
  obtain ⟨T, hT⟩ : ∃ T, iat (digs x.natAbs) 2 = T := ⟨_, rfl⟩
  rw [hT] at hc ht
  have hlt : b < w.heap.size := World.block_lt_of_cell? w _ hc
  have hc1 := Below.cell_of' (below_new w (.cells #[.bool true, .slice (some ⟨b, o, none⟩) 3 cx] 24)) hc
  clear hT
  obtain ⟨M, hM⟩ : ∃ M, (x.natAbs : Int) = M := ⟨_, rfl⟩
  rw [hM] at hnum
  have hMx : Hid (x = -M) := Lib.hid (by omega)
  have hM0 : 0 < M := by omega
  have hM1 : M > 9223372036854775808 := by omega
  have hM2 : M < 18446744073709551616 := by omega
  have hrng' := Lib.hid hrng
  clear hx0 hl hv hsz hM hrng hneg
  go_enter Tryd.func12, Tryd.ntmps12
  go_wp2_with (go_at_call 24; refine hnum.out.mono ?_; rintro e w' ⟨rfl, rfl⟩)
  go_ret2
  exact smP_no hrng'.out (below_new _ _)

set_option maxRecDepth 100000 in
set_option maxHeartbeats 1600000 in
theorem small_nno (px : Option Addr) (n cx : Nat) (x : Int) (w : World) (hx0 : IntAt w true px n cx x) (hn : n < 3) (hrng : ¬ (-9223372036854775808 ≤ x ∧ x ≤ 9223372036854775807)) :
    Calls Tryd.prog 12 #[.agg #[.bool true, .slice px n cx]] w (SmP w x) := by
  have hneg : x < 0 := by have := hx0.1; simpa using this.symm
  have hl := hx0.2.1
  have hv : (x.natAbs : Int) < pw 2 := by have h1 := lt_pw x.natAbs; have h2 := pw_mono (show (digs x.natAbs).length ≤ 2 by omega); omega
  rw [pw2] at hv
  have hsz : x.natAbs < 18446744073709551616 := by omega
  have hnum : Hid (Calls Tryd.prog 24 #[.slice px n cx] (w.alloc (.cells #[.bool true, .slice px n cx] 24)) fun e w' => e = .returned (.int .u64 (x.natAbs : Int)) ∧ w.alloc (.cells #[.bool true, .slice px n cx] 24) = w') := Lib.hid (by
    have h := number_any px n cx (digs x.natAbs) (w.alloc (.cells #[.bool true, .slice px n cx] 24)) (Rdi_below (below_new _ _) hx0.2.2.1) hl (Dg_digs _) (by omega)
    rw [num_is hsz] at h
    exact h)
  obtain ⟨M, hM⟩ : ∃ M, (x.natAbs : Int) = M := ⟨_, rfl⟩
  rw [hM] at hnum
  have hMx : Hid (x = -M) := Lib.hid (by omega)
  have hM0 : 0 < M := by omega
  have hM1 : M > 9223372036854775808 := by omega
  have hM2 : M < 18446744073709551616 := by omega
  have hrng' := Lib.hid hrng
  have t1 : ¬ (3 : Int) < (n : Int) := by omega
  have t2 : ((n : Int) == 3) = false := by simp; omega
  clear hx0 hl hv hsz hM hrng hneg
  go_enter Tryd.func12, Tryd.ntmps12
  go_wp2_with (go_at_call 24; refine hnum.out.mono ?_; rintro e w' ⟨rfl, rfl⟩)
  go_ret2
  exact smP_no hrng'.out (below_new _ _)

set_option maxRecDepth 100000 in
set_option maxHeartbeats 1600000 in
theorem small_3py (px : Option Addr) (cx : Nat) (x : Int) (w : World) (hx0 : IntAt w false px 3 cx x) (ht : iat (digs x.natAbs) 2 ≤ 9) (hrng : (-9223372036854775808 ≤ x ∧ x ≤ 9223372036854775807)) :
    Calls Tryd.prog 12 #[.agg #[.bool false, .slice px 3 cx]] w (SmP w x) := by
  have hneg : ¬ x < 0 := by have := hx0.1; simpa using this.symm
  have hl := hx0.2.1
  have hv := top_dig (k := 2) (n := x.natAbs) (by rw [← hl])
  rw [pw2] at hv
  obtain ⟨b, o, rfl, hc⟩ := Rdi_at hx0.2.2.1 2 (by omega)
  have hsz : x.natAbs < 18446744073709551616 := by omega
  have hnum : Hid (Calls Tryd.prog 24 #[.slice (some ⟨b, o, none⟩) 3 cx] (w.alloc (.cells #[.bool false, .slice (some ⟨b, o, none⟩) 3 cx] 24)) fun e w' => e = .returned (.int .u64 (x.natAbs : Int)) ∧ w.alloc (.cells #[.bool false, .slice (some ⟨b, o, none⟩) 3 cx] 24) = w') := Lib.hid (by
    have h := number_any (some ⟨b, o, none⟩) 3 cx (digs x.natAbs) (w.alloc (.cells #[.bool false, .slice (some ⟨b, o, none⟩) 3 cx] 24)) (Rdi_below (below_new _ _) hx0.2.2.1) hl (Dg_digs _) (by omega)
    rw [num_is hsz] at h
    exact h)
  obtain ⟨T, hT⟩ : ∃ T, iat (digs x.natAbs) 2 = T := ⟨_, rfl⟩
  rw [hT] at hc ht
  have hlt : b < w.heap.size := World.block_lt_of_cell? w _ hc
  have hc1 := Below.cell_of' (below_new w (.cells #[.bool false, .slice (some ⟨b, o, none⟩) 3 cx] 24)) hc
  clear hT
  obtain ⟨M, hM⟩ : ∃ M, (x.natAbs : Int) = M := ⟨_, rfl⟩
  rw [hM] at hnum
  have hMx : Hid (x = M) := Lib.hid (by omega)
  have hM0 : 0 ≤ M := by omega
  have hM1 : M ≤ 9223372036854775807 := by omega
  have hM2 : M < 18446744073709551616 := by omega
  have hrng' := Lib.hid hrng
  clear hx0 hl hv hsz hM hrng hneg
  go_enter Tryd.func12, Tryd.ntmps12
  go_wp2_with (go_at_call 24; refine hnum.out.mono ?_; rintro e w' ⟨rfl, rfl⟩)
  go_ret2
  exact smP_yes hrng'.out (by rw [hMx.out]) (below_new _ _)

set_option maxRecDepth 100000 in
set_option maxHeartbeats 1600000 in
theorem small_npy (px : Option Addr) (n cx : Nat) (x : Int) (w : World) (hx0 : IntAt w false px n cx x) (hn : n < 3) (hrng : (-9223372036854775808 ≤ x ∧ x ≤ 9223372036854775807)) :
    Calls Tryd.prog 12 #[.agg #[.bool false, .slice px n cx]] w (SmP w x) := by
  have hneg : ¬ x < 0 := by have := hx0.1; simpa using this.symm
  have hl := hx0.2.1
  have hv : (x.natAbs : Int) < pw 2 := by have h1 := lt_pw x.natAbs; have h2 := pw_mono (show (digs x.natAbs).length ≤ 2 by omega); omega
  rw [pw2] at hv
  have hsz : x.natAbs < 18446744073709551616 := by omega
  have hnum : Hid (Calls Tryd.prog 24 #[.slice px n cx] (w.alloc (.cells #[.bool false, .slice px n cx] 24)) fun e w' => e = .returned (.int .u64 (x.natAbs : Int)) ∧ w.alloc (.cells #[.bool false, .slice px n cx] 24) = w') := Lib.hid (by
    have h := number_any px n cx (digs x.natAbs) (w.alloc (.cells #[.bool false, .slice px n cx] 24)) (Rdi_below (below_new _ _) hx0.2.2.1) hl (Dg_digs _) (by omega)
    rw [num_is hsz] at h
    exact h)
  obtain ⟨M, hM⟩ : ∃ M, (x.natAbs : Int) = M := ⟨_, rfl⟩
  rw [hM] at hnum
  have hMx : Hid (x = M) := Lib.hid (by omega)
  have hM0 : 0 ≤ M := by omega
  have hM1 : M ≤ 9223372036854775807 := by omega
  have hM2 : M < 18446744073709551616 := by omega
  have hrng' := Lib.hid hrng
  have t1 : ¬ (3 : Int) < (n : Int) := by omega
  have t2 : ((n : Int) == 3) = false := by simp; omega
  clear hx0 hl hv hsz hM hrng hneg
  go_enter Tryd.func12, Tryd.ntmps12
  go_wp2_with (go_at_call 24; refine hnum.out.mono ?_; rintro e w' ⟨rfl, rfl⟩)
  go_ret2
  exact smP_yes hrng'.out (by rw [hMx.out]) (below_new _ _)

set_option maxRecDepth 100000 in
set_option maxHeartbeats 1600000 in
theorem small_3po (px : Option Addr) (cx : Nat) (x : Int) (w : World) (hx0 : IntAt w false px 3 cx x) (ht : iat (digs x.natAbs) 2 ≤ 9) (hrng : ¬ (-9223372036854775808 ≤ x ∧ x ≤ 9223372036854775807)) :
    Calls Tryd.prog 12 #[.agg #[.bool false, .slice px 3 cx]] w (SmP w x) := by
  have hneg : ¬ x < 0 := by have := hx0.1; simpa using this.symm
  have hl := hx0.2.1
  have hv := top_dig (k := 2) (n := x.natAbs) (by rw [← hl])
  rw [pw2] at hv
  obtain ⟨b, o, rfl, hc⟩ := Rdi_at hx0.2.2.1 2 (by omega)
  have hsz : x.natAbs < 18446744073709551616 := by omega
  have hnum : Hid (Calls Tryd.prog 24 #[.slice (some ⟨b, o, none⟩) 3 cx] (w.alloc (.cells #[.bool false, .slice (some ⟨b, o, none⟩) 3 cx] 24)) fun e w' => e = .returned (.int .u64 (x.natAbs : Int)) ∧ w.alloc (.cells #[.bool false, .slice (some ⟨b, o, none⟩) 3 cx] 24) = w') := Lib.hid (by
    have h := number_any (some ⟨b, o, none⟩) 3 cx (digs x.natAbs) (w.alloc (.cells #[.bool false, .slice (some ⟨b, o, none⟩) 3 cx] 24)) (Rdi_below (below_new _ _) hx0.2.2.1) hl (Dg_digs _) (by omega)
    rw [num_is hsz] at h
    exact h)
  obtain ⟨T, hT⟩ : ∃ T, iat (digs x.natAbs) 2 = T := ⟨_, rfl⟩
  rw [hT] at hc ht
  have hlt : b < w.heap.size := World.block_lt_of_cell? w _ hc
  have hc1 := Below.cell_of' (below_new w (.cells #[.bool false, .slice (some ⟨b, o, none⟩) 3 cx] 24)) hc
  clear hT
  obtain ⟨M, hM⟩ : ∃ M, (x.natAbs : Int) = M := ⟨_, rfl⟩
  rw [hM] at hnum
  have hMx : Hid (x = M) := Lib.hid (by omega)
  have hM0 : 0 ≤ M := by omega
  have hM1 : M > 9223372036854775807 := by omega
  have hM2 : M < 18446744073709551616 := by omega
  have hrng' := Lib.hid hrng
  clear hx0 hl hv hsz hM hrng hneg
  go_enter Tryd.func12, Tryd.ntmps12
  go_wp2_with (go_at_call 24; refine hnum.out.mono ?_; rintro e w' ⟨rfl, rfl⟩)
  go_ret2
  exact smP_no hrng'.out (below_new _ _)

set_option maxRecDepth 100000 in
set_option maxHeartbeats 1600000 in
theorem small_npo (px : Option Addr) (n cx : Nat) (x : Int) (w : World) (hx0 : IntAt w false px n cx x) (hn : n < 3) (hrng : ¬ (-9223372036854775808 ≤ x ∧ x ≤ 9223372036854775807)) :
    Calls Tryd.prog 12 #[.agg #[.bool false, .slice px n cx]] w (SmP w x) := by
  have hneg : ¬ x < 0 := by have := hx0.1; simpa using this.symm
  have hl := hx0.2.1
  have hv : (x.natAbs : Int) < pw 2 := by have h1 := lt_pw x.natAbs; have h2 := pw_mono (show (digs x.natAbs).length ≤ 2 by omega); omega
  rw [pw2] at hv
  have hsz : x.natAbs < 18446744073709551616 := by omega
  have hnum : Hid (Calls Tryd.prog 24 #[.slice px n cx] (w.alloc (.cells #[.bool false, .slice px n cx] 24)) fun e w' => e = .returned (.int .u64 (x.natAbs : Int)) ∧ w.alloc (.cells #[.bool false, .slice px n cx] 24) = w') := Lib.hid (by
    have h := number_any px n cx (digs x.natAbs) (w.alloc (.cells #[.bool false, .slice px n cx] 24)) (Rdi_below (below_new _ _) hx0.2.2.1) hl (Dg_digs _) (by omega)
    rw [num_is hsz] at h
    exact h)
  obtain ⟨M, hM⟩ : ∃ M, (x.natAbs : Int) = M := ⟨_, rfl⟩
  rw [hM] at hnum
  have hMx : Hid (x = M) := Lib.hid (by omega)
  have hM0 : 0 ≤ M := by omega
  have hM1 : M > 9223372036854775807 := by omega
  have hM2 : M < 18446744073709551616 := by omega
  have hrng' := Lib.hid hrng
  have t1 : ¬ (3 : Int) < (n : Int) := by omega
  have t2 : ((n : Int) == 3) = false := by simp; omega
  clear hx0 hl hv hsz hM hrng hneg
  go_enter Tryd.func12, Tryd.ntmps12
  go_wp2_with (go_at_call 24; refine hnum.out.mono ?_; rintro e w' ⟨rfl, rfl⟩)
  go_ret2
  exact smP_no hrng'.out (below_new _ _)

theorem Small_any (nx : Bool) (px : Option Addr) (n cx : Nat) (x : Int) (w : World) (hx0 : IntAt w nx px n cx x) (hlx : n ≤ 549755813887) :
    Calls Tryd.prog 12 #[.agg #[.bool nx, .slice px n cx]] w (SmP w x) := by
  rcases Nat.lt_or_ge 3 n with h | h
  · exact small_long nx px n cx x w hx0 h hlx
  · rcases Nat.lt_or_ge n 3 with h3 | h3
    · by_cases hr : -9223372036854775808 ≤ x ∧ x ≤ 9223372036854775807
      · cases nx
        · exact small_npy px n cx x w hx0 h3 hr
        · exact small_nny px n cx x w hx0 h3 hr
      · cases nx
        · exact small_npo px n cx x w hx0 h3 hr
        · exact small_nno px n cx x w hx0 h3 hr
    · obtain rfl : n = 3 := by omega
      by_cases ht : 9 < iat (digs x.natAbs) 2
      · exact small_top nx px cx x w hx0 ht
      · by_cases hr : -9223372036854775808 ≤ x ∧ x ≤ 9223372036854775807
        · cases nx
          · exact small_3py px cx x w hx0 (by omega) hr
          · exact small_3ny px cx x w hx0 (by omega) hr
        · cases nx
          · exact small_3po px cx x w hx0 (by omega) hr
          · exact small_3no px cx x w hx0 (by omega) hr
end Go.Proofs.YtmbkpcnpacncjaaDoor
