/- Contracts of the package integer and its reference: The reference's Neg, Sub, Compare, Sign, Encode. -/
import Derived.Test.YtmbkpcnpacncjaaDoorM14
import Derived.Test.YtmbkpcnpacncjaaDoorM12
import Derived.Test.YtmbkpcnpacncjaaDoorM11
set_option linter.unusedVariables false
namespace Go.Proofs.YtmbkpcnpacncjaaDoor
open Go.RowKit

set_option maxRecDepth 100000 in
set_option maxHeartbeats 800000 in
theorem rNeg_any (nx : Bool) (px : Option Addr) (lx cx : Nat) (x : Int) (w : World) (hx0 : IntZ w nx px lx cx x) :
    Calls Tryd.prog 23 #[.agg #[.bool nx, .slice px lx cx]] w fun e w' => ∃ nb p n c, e = .returned (.agg #[.bool nb, .slice p n c]) ∧ IntAt w' nb p n c (-x) ∧ Below w.heap.size w w' := by
  have hsg : sg (!nx) (val (digs x.natAbs)) = -x := by
    rw [val_digs]
    have h1 := wk_neg hx0.1
    cases nx <;> simp [sg] at * <;> omega
  have hn : Hid (∀ W, Ar1 w nx px lx cx W → Calls Tryd.prog 19 #[.bool (!nx), .slice px lx cx] W (RetF (fun q => px = some q) W (-x))) := Lib.hid fun W h => by
    rw [← hsg]
    exact normal_any (!nx) px lx cx (digs x.natAbs) W (Rdi_below h.2.2 hx0.2.2.1) hx0.2.1 hx0.2.2.2.1 hx0.2.2.2.2 (Dg_digs _)
  have hps : Hid (∀ q, px = some q → ∀ (l : List Int), Rdi w px l → l ≠ [] → q.block < w.heap.size) := Lib.hid fun q hq l hR hl => by
    rcases hR with h | ⟨b, o, h, hc⟩
    · exact absurd h hl
    · rw [hq] at h
      have h0 := hc 0 (by cases l with | nil => exact absurd rfl hl | cons _ _ => simp)
      obtain rfl := Option.some.inj h
      rcases Nat.lt_or_ge b w.heap.size with h1 | h1
      · exact h1
      · simp [World.cell?, Array.getElem?_eq_none h1] at h0
  have hS0 := Lib.hid (@Ar1.start nx px lx cx w)
  have hx := Lib.hid hx0
  clear hx0 hsg
  go_enter Tryd.func23, Tryd.ntmps23
  go_upto_region 1 with fail
  generalize (w.alloc (.cells #[.bool nx, .slice px lx cx] 24)).alloc (.cells #[.bool false, .slice none 0 0] 24) = W0 at hS0 ⊢
  have hS1 := hS0.out
  have hf := hS1.facts
  go_wp2_with fail
  refine (hn.out _ hS1).mono ?_
  rintro e w2 ⟨nb, p, n2, c2, rfl, hI0, hb2, hp0⟩
  have hS2 := hS1.later hb2
  have hf2 := hS2.facts
  have hI := Lib.hid hI0
  have hfin : Hid (IntAt ((w2.setCell ⟨w.heap.size + 1, 0, none⟩ (.bool nb)).setCell ⟨w.heap.size + 1, 1, none⟩ (.slice p n2 c2)) nb p n2 c2 (-x) ∧ Below w.heap.size w ((w2.setCell ⟨w.heap.size + 1, 0, none⟩ (.bool nb)).setCell ⟨w.heap.size + 1, 1, none⟩ (.slice p n2 c2))) := Lib.hid ⟨by
    by_cases hz : digs (-x).natAbs = []
    · exact ⟨hI0.1, hI0.2.1, by rw [hz]; exact .inl rfl, hI0.2.2.2⟩
    · have hne : ∀ q, p = some q → q.block ≠ w.heap.size + 1 := fun q hq => by
        have h1 := hp0 q hq
        have h2 : digs x.natAbs ≠ [] := by rw [Int.natAbs_neg] at hz; exact hz
        have := hps.out q h1 _ hx.out.2.2.1 h2
        omega
      exact (hI0.store hne).store hne, (hS2.store _ _).2.2⟩
  clear hI0 hp0 hb2 hf
  go_wp2_with fail
  exact bodyPost_ret (v := .agg #[.bool nb, .slice p n2 c2]) (results_cell_row rfl _ _ (w.heap.size + 1) 24 _ (0, 0) _ rfl (hS2.res _ _) Tryd.underlying24 rfl size_Int) rfl ⟨_, _, _, _, rfl, hfin.out.1, hfin.out.2⟩

set_option maxRecDepth 100000 in
set_option maxHeartbeats 1600000 in
theorem rSub_any (nx ny : Bool) (px py : Option Addr) (lx cx ly cy : Nat) (x y : Int) (w : World) (hx0 : IntZ w nx px lx cx x) (hy0 : IntZ w ny py ly cy y) (hlx : lx ≤ 549755813887) (hly : ly ≤ 549755813887) :
    Calls Tryd.prog 9 #[.agg #[.bool nx, .slice px lx cx], .agg #[.bool ny, .slice py ly cy]] w (RetI w (x - y)) := by
  have hng : Hid (∀ W, Ar2 w nx px lx cx ny py ly cy W → Calls Tryd.prog 23 #[.agg #[.bool ny, .slice py ly cy]] W fun e w' => ∃ nb p n c, e = .returned (.agg #[.bool nb, .slice p n c]) ∧ (IntAt w' nb p n c (-y) ∧ n ≤ 549755813887) ∧ Below W.heap.size W w') := Lib.hid fun W h =>
    (rNeg_any ny py ly cy y W (hy0.later h.2.2.2)).mono fun e w' ⟨nb, p, n, c, h1, h2, h3⟩ => ⟨nb, p, n, c, h1, ⟨h2, by rw [h2.2.1, Int.natAbs_neg, ← hy0.2.1]; exact hly⟩, h3⟩
  have had : Hid (∀ W nb p n c, Ar2 w nx px lx cx ny py ly cy W → (IntAt W nb p n c (-y) ∧ n ≤ 549755813887) → Calls Tryd.prog 8 #[.agg #[.bool nx, .slice px lx cx], .agg #[.bool nb, .slice p n c]] W (RetI W (x - y))) := Lib.hid fun W nb p n c h hI => by
    rw [Int.sub_eq_add_neg]
    exact rAdd_any nx nb px p lx cx n c x (-y) W (hx0.later h.2.2.2) hI.1.z hlx hI.2
  have hf := fun W (h : Ar2 w nx px lx cx ny py ly cy W) => h.facts
  have hS0 := Lib.hid (@Ar2.start nx px lx cx ny py ly cy w)
  clear hx0 hy0
  go_enter Tryd.func9, Tryd.ntmps9
  go_upto_region 1 with fail
  generalize ((w.alloc (.cells #[.bool nx, .slice px lx cx] 24)).alloc (.cells #[.bool ny, .slice py ly cy] 24)).alloc (.cells #[.bool false, .slice none 0 0] 24) = W0 at hS0 ⊢
  have hS1 := hS0.out
  clear hS0
  go_region_held3 (fun W => Ar2 w nx px lx cx ny py ly cy W) (first | exact Ar2.drew (by assumption) | exact Ar2.later (by assumption) (by assumption) | exact Ar2.store (by assumption) _ _) (first | (go_at_call 23; refine (hng.out _ (by assumption)).mono ?_; rintro e w1 ⟨nbN, pN, nN, cN, rfl, hN0, hb1⟩; have hN := Lib.hid hN0; clear hN0) | (go_at_call 8; refine (had.out _ _ _ _ _ (by assumption) hN.out).mono ?_; rintro e w2 ⟨nb, p, n2, c2, rfl, hI0, hb2, hp0⟩; have hI := Lib.hid hI0; have hp := Lib.hid hp0; clear hI0 hp0))
  have hS2 := (hS1.drew.later hb1).later hb2
  have hfin := Lib.hid (hS2.ret hI.out (fun q hq => by have h1 := hp.out q hq; have h2 := (hS1.drew.later hb1).top; omega) rfl)
  go_wp2_with fail
  exact bodyPost_ret (v := .agg #[.bool nb, .slice p n2 c2]) (results_cell_row rfl _ _ (w.heap.size + 1 + 1) 24 _ (0, 0) _ rfl (hS2.res _ _) Tryd.underlying24 rfl size_Int) rfl hfin.out

set_option maxRecDepth 100000 in
set_option maxHeartbeats 1600000 in
theorem rCompare_any (nx ny : Bool) (px py : Option Addr) (lx cx ly cy : Nat) (x y : Int) (w : World) (hx0 : IntAt w nx px lx cx x) (hy0 : IntAt w ny py ly cy y) (hlx : lx ≤ 549755813887) (hly : ly ≤ 549755813887) :
    Calls Tryd.prog 25 #[.agg #[.bool nx, .slice px lx cx], .agg #[.bool ny, .slice py ly cy]] w fun e w' => e = .returned (.int .i64 (cmpI x y)) ∧ Below w.heap.size w w' := by
  have hb : Below w.heap.size w ((w.alloc (.cells #[.bool nx, .slice px lx cx] 24)).alloc (.cells #[.bool ny, .slice py ly cy] 24)) := ((Below.refl _ _).alloc (Nat.le_refl _) _).alloc (by simp) _
  have hb' := Lib.hid hb
  have h1 : Hid (∀ W, Below w.heap.size w W → Calls Tryd.prog 21 #[.slice px lx cx, .slice py ly cy] W fun e w' => e = .returned (.int .i64 (cmpI x.natAbs y.natAbs)) ∧ Below W.heap.size W w') :=
    Lib.hid fun W h => compared_any _ _ _ _ _ _ _ _ W (Rdi_below h hx0.2.2.1) (Rdi_below h hy0.2.2.1) hx0.2.1 hy0.2.1 (by omega) (by omega)
  have h2 : Hid (∀ W, Below w.heap.size w W → Calls Tryd.prog 21 #[.slice py ly cy, .slice px lx cx] W fun e w' => e = .returned (.int .i64 (cmpI y.natAbs x.natAbs)) ∧ Below W.heap.size W w') :=
    Lib.hid fun W h => compared_any _ _ _ _ _ _ _ _ W (Rdi_below h hy0.2.2.1) (Rdi_below h hx0.2.2.1) hy0.2.1 hx0.2.1 (by omega) (by omega)
  have hnx := hx0.1
  have hny := hy0.1
  obtain ⟨r, hr⟩ : ∃ r, cmpI x y = r := ⟨_, rfl⟩
  rw [hr]
  clear hx0 hy0 hb
  cases nx <;> cases ny
  · have e1 : ¬ x < 0 := by simpa using hnx.symm
    have e2 : ¬ y < 0 := by simpa using hny.symm
    rw [cmp_abs_pos e1 e2, hr] at h1
    clear hnx hny hr h2
    go_enter Tryd.func25, Tryd.ntmps25
    go_wp2_with (go_at_call 21; refine (h1.out _ hb'.out).mono ?_; rintro e w1 ⟨rfl, hb1⟩; have hB := Lib.hid (below_tr hb'.out hb1); clear hb1)
    go_ret
    exact ⟨rfl, hB.out⟩
  · have e1 : ¬ x < 0 := by simpa using hnx.symm
    have e2 : y < 0 := by simpa using hny.symm
    rw [cmp_gt (show y < x by omega)] at hr
    subst hr
    clear hnx hny h1 h2 e1 e2
    go_enter Tryd.func25, Tryd.ntmps25
    go_wp2_with fail
    go_ret
    exact ⟨rfl, hb'.out⟩
  · have e1 : x < 0 := by simpa using hnx.symm
    have e2 : ¬ y < 0 := by simpa using hny.symm
    rw [cmp_lt (show x < y by omega)] at hr
    subst hr
    clear hnx hny h1 h2 e1 e2
    go_enter Tryd.func25, Tryd.ntmps25
    go_wp2_with fail
    go_ret
    exact ⟨rfl, hb'.out⟩
  · have e1 : x < 0 := by simpa using hnx.symm
    have e2 : y < 0 := by simpa using hny.symm
    rw [cmp_abs_neg e1 e2, hr] at h2
    clear hnx hny hr h1
    go_enter Tryd.func25, Tryd.ntmps25
    go_wp2_with (go_at_call 21; refine (h2.out _ hb'.out).mono ?_; rintro e w1 ⟨rfl, hb1⟩; have hB := Lib.hid (below_tr hb'.out hb1); clear hb1)
    go_ret
    exact ⟨rfl, hB.out⟩

section
variable {W : World} {Na Nb : Nat} {a b : Int} {v1 v2 : Value}
theorem cRAdd (h1 : Vz Na a v1 W) (h2 : Vz Nb b v2 W) (hN1 : Na ≤ 1000000) (hN2 : Nb ≤ 1000000) : Calls Tryd.prog 8 #[v1, v2] W (RV (Vz (max Na Nb + 1) (a + b)) W) := by
  obtain ⟨nb, p, n, c, rfl, hI, hn⟩ := h1
  obtain ⟨nb2, p2, n2, c2, rfl, hI2, hn2⟩ := h2
  exact (rAdd_any _ _ _ _ _ _ _ _ a b W hI.z hI2.z (by omega) (by omega)).mono fun e w' h => retI_vz h (dl_add a b Na Nb (by rw [← hI.2.1]; exact hn) (by rw [← hI2.2.1]; exact hn2))
theorem cRSub (h1 : Vz Na a v1 W) (h2 : Vz Nb b v2 W) (hN1 : Na ≤ 1000000) (hN2 : Nb ≤ 1000000) : Calls Tryd.prog 9 #[v1, v2] W (RV (Vz (max Na Nb + 1) (a - b)) W) := by
  obtain ⟨nb, p, n, c, rfl, hI, hn⟩ := h1
  obtain ⟨nb2, p2, n2, c2, rfl, hI2, hn2⟩ := h2
  exact (rSub_any _ _ _ _ _ _ _ _ a b W hI.z hI2.z (by omega) (by omega)).mono fun e w' h => retI_vz h (by rw [Int.sub_eq_add_neg]; exact dl_add a (-b) Na Nb (by rw [← hI.2.1]; exact hn) (by rw [Int.natAbs_neg, ← hI2.2.1]; exact hn2))
theorem cRCompare (h1 : Vz Na a v1 W) (h2 : Vz Nb b v2 W) (hN1 : Na ≤ 1000000) (hN2 : Nb ≤ 1000000) : Calls Tryd.prog 25 #[v1, v2] W (RV (Vi (cmpI a b)) W) := by
  obtain ⟨nb, p, n, c, rfl, hI, hn⟩ := h1
  obtain ⟨nb2, p2, n2, c2, rfl, hI2, hn2⟩ := h2
  exact (rCompare_any _ _ _ _ _ _ _ _ a b W hI hI2 (by omega) (by omega)).mono fun e w' h => ⟨_, h.1, rfl, h.2⟩
end
end Go.Proofs.YtmbkpcnpacncjaaDoor
