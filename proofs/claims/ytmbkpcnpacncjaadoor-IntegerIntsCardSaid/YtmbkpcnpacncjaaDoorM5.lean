/- Contracts of the package integer and its reference: integer.difference. integer.Mul. integer.Add. integer.Sub, Neg, Compare, Sign. integer.digitsOf, Of. -/
import Derived.Test.YtmbkpcnpacncjaaDoorM2
import Derived.Deep.RegionHeld3
import Derived.Test.YtmbkpcnpacncjaaDoorM4
set_option linter.unusedVariables false
namespace Go.Proofs.YtmbkpcnpacncjaaDoor
open Go.RowKit

/-- digits are taken away in block g -/
def DifL (w : World) (g : Nat) (l m : List Int) (k : Nat) (wr : World) : Prop := ∃ z, DifA l m k z ∧ Blk wr g z ∧ Below w.heap.size w wr
def DifM (w : World) (g n : Nat) (s : Int) (k : Nat) (wr : World) : Prop := ∃ z, DifB n s k z ∧ Blk wr g z ∧ Below w.heap.size w wr
def DifP (l m : List Int) (z : List Int) : Prop := Dg z ∧ val z = val l - val m ∧ z.length = l.length

set_option maxRecDepth 100000 in
set_option maxHeartbeats 1600000 in
theorem difference_any (a1 a2 : Option Addr) (n1 c1 n2 c2 : Nat) (l m : List Int) (w : World) (hR1 : Rdi w a1 l) (hR2 : Rdi w a2 m) (hn1 : n1 = l.length) (hn2 : n2 = m.length) (hd1 : Dg l) (hd2 : Dg m) (hm1 : n1 ≤ 1099511627775) (hle : n2 ≤ n1) (hv0 : val m ≤ val l) :
    Calls Tryd.prog 43 #[.slice a1 n1 c1, .slice a2 n2 c2] w (NewI w (DifP l m)) := by
  have H1 := Lib.hid hR1
  have H2 := Lib.hid hR2
  have N1 := Lib.hid hn1
  have N2 := Lib.hid hn2
  have D1 := Lib.hid hd1
  have D2 := Lib.hid hd2
  have hv := Lib.hid hv0
  clear hR1 hR2 hn1 hn2 hd1 hd2 hv0
  go_enter Tryd.func43, Tryd.ntmps43
  go_wp2_with (go_at_call 40; refine (copied_at _ _ _ l _ n1 _ rfl H1.out N1.out (by omega)).mono ?_; rintro e w1 ⟨g, z0, rfl, hg, hz0, hb0, hl0, rfl⟩; have hI : Hid (DifL w g l m 0 w1) := Lib.hid ⟨_, DifA.start l m, by rw [N1.out, cpy_self] at hz0; exact hz0, hb0⟩; clear hz0 hb0 hl0)
  go_loopw [15] (fun i wr => ∃ k : Nat, k ≤ n2 ∧ i = .int .i64 (k : Int) ∧ DifL w g l m k wr) (fun i _ => n2 - (intOf i).toNat)
  case atStart => exact ⟨0, Nat.zero_le _, rfl, hI.out⟩
  case round =>
    obtain ⟨k, hk, rfl, hL⟩ := hrel
    clear hI
    by_cases hlt : k < n2
    · obtain ⟨z, hA, hz, hB⟩ := hL
      obtain ⟨b, o, hoY, hcy⟩ := Rdi_at H2.out k (by rw [← N2.out]; exact hlt)
      subst hoY
      have cy := Below.cell_of' hB hcy
      have hkz : k < z.length := by rw [hA.len, ← N1.out]; omega
      have cx := hz.cell hkz
      have cf := hz.free k
      have hst : Hid (DifL w g l m (k + 1) (wr.setCell ⟨g, k, none⟩ (.int .i64 (iat z k - iat m k)))) := Lib.hid ⟨_, hA.next (by rw [← N2.out]; exact hlt) (by rw [← N2.out, ← N1.out]; omega), hz.set _ _, hB.setCell hg _⟩
      have hx := hA.at_ k
      rw [if_neg (by omega)] at hx
      have hx1 := D1.out.all k
      have hy1 := D2.out.all k
      obtain ⟨x, hxx⟩ : ∃ x, iat z k = x := ⟨_, rfl⟩
      obtain ⟨y, hyy⟩ : ∃ y, iat m k = y := ⟨_, rfl⟩
      rw [hxx] at cx hst hx
      rw [hyy] at cy hst hy1
      have hx2 : 0 ≤ x ∧ x < 1000000000 := by omega
      obtain ⟨hx3, hx4⟩ := hx2
      obtain ⟨hy3, hy4⟩ := hy1
      have k0 : 0 ≤ (k : Int) := by omega
      have k1 : (k : Int) < (n2 : Int) := by omega
      have k2 : (k : Int) < (n1 : Int) := by omega
      clear hA hz hB hcy hx hx1 hxx hyy hkz
      go_wp2_with fail
      exact ⟨⟨k + 1, by omega, by simp, hst.out⟩, by simp [intOf]; omega⟩
    · have hk' : k = n2 := by omega
      have hM : Hid (DifM w g n1 (val l - val m) 0 wr) := Lib.hid (by
        obtain ⟨z, hA, hz, hB⟩ := hL
        rw [hk', N2.out] at hA
        have := hA.done D1.out D2.out
        rw [← N1.out] at this
        exact ⟨z, this, hz, hB⟩)
      have k1 : ¬ (k : Int) < (n2 : Int) := by omega
      clear hL
      go_wp2_with fail
      go_loopw [30] (fun i wr => ∃ k : Nat, k ≤ n1 ∧ i = .int .i64 (k : Int) ∧ DifM w g n1 (val l - val m) k wr) (fun i _ => n1 - (intOf i).toNat)
      case atStart => exact ⟨0, Nat.zero_le _, rfl, hM.out⟩
      case round =>
        obtain ⟨k, hk, rfl, hL⟩ := hrel
        clear hM
        by_cases hlt : k < n1
        · obtain ⟨z, hA, hz, hB⟩ := hL
          have hkz : k < z.length := by rw [hA.len]; omega
          have cx := hz.cell hkz
          have cf := hz.free k
          have hx2 := hA.top k
          have hy2 := hA.top (k + 1)
          have k0 : 0 ≤ (k : Int) := by omega
          have k1 : (k : Int) < (n1 : Int) := by omega
          by_cases hge : iat z k < 0
          · have hk2 := hA.last (by have := hv.out; omega) hlt hge
            have hkz1 : k + 1 < z.length := by rw [hA.len]; omega
            have h1 := hz.set k (iat z k + 1000000000)
            have hkz2 : k + 1 < (z.set k (iat z k + 1000000000)).length := by rw [List.length_set]; exact hkz1
            have cy := h1.cell hkz2
            have cg := h1.free (k + 1)
            have ey : iat (z.set k (iat z k + 1000000000)) (k + 1) = iat z (k + 1) := by rw [iat_set _ _ _ _ hkz, if_neg (by omega)]
            rw [ey] at cy
            have k2 : (k : Int) + 1 < (n1 : Int) := by omega
            have hst : Hid (DifM w g n1 (val l - val m) (k + 1) ((wr.setCell ⟨g, k, none⟩ (.int .i64 (iat z k + 1000000000))).setCell ⟨g, k + 1, none⟩ (.int .i64 (iat z (k + 1) - 1)))) := Lib.hid ⟨_, hA.carry hk2 hge, h1.set _ _, (hB.setCell hg _).setCell hg _⟩
            generalize iat z k = x at *
            generalize iat z (k + 1) = y at *
            obtain ⟨hx3, hx4⟩ := hx2
            obtain ⟨hy3, hy4⟩ := hy2
            clear hA hz hB h1 hkz hkz1 hkz2 ey
            go_wp2_with fail
            exact ⟨⟨k + 1, by omega, by simp, hst.out⟩, by simp [intOf]; omega⟩
          · have hst : Hid (DifM w g n1 (val l - val m) (k + 1) wr) := Lib.hid ⟨z, hA.keep (by omega), hz, hB⟩
            generalize iat z k = x at *
            clear hA hz hB hkz hy2
            go_wp2_with fail
            exact ⟨⟨k + 1, by omega, by simp, hst.out⟩, by simp [intOf]; omega⟩
        · have hk' : k = n1 := by omega
          subst hk'
          obtain ⟨z, hA, hz, hB⟩ := hL
          have hz' := Lib.hid hz
          have hB' := Lib.hid hB
          have hA' := Lib.hid hA
          clear hz hB hA
          go_wp2_with fail
          go_ret
          exact ⟨g, _, z, rfl, hg, hz'.out, hB'.out, hA'.out.len, hA'.out.done, hA'.out.sum, by rw [hA'.out.len, N1.out]⟩
end Go.Proofs.YtmbkpcnpacncjaaDoor

namespace Go.Proofs.YtmbkpcnpacncjaaDoor
open Go.RowKit

theorem size_Int : (Tryd.prog.info? 24).map (·.size) = some 2 := by kernel_rfl
/-- two integers in boxes, and a third box -/
def Ar2 (w : World) (nx : Bool) (px : Option Addr) (lx cx : Nat) (ny : Bool) (py : Option Addr) (ly cy : Nat) (W : World) : Prop :=
  W.heap[w.heap.size]? = some (.cells #[.bool nx, .slice px lx cx] 24 (0, 0)) ∧ W.heap[w.heap.size + 1]? = some (.cells #[.bool ny, .slice py ly cy] 24 (0, 0)) ∧
  (∃ u v, W.heap[w.heap.size + 1 + 1]? = some (.cells #[u, v] 24 (0, 0))) ∧ Below w.heap.size w W
/-- what a cell holds -/
def oldv (W : World) (b o : Nat) : Value := (W.cell? ⟨b, o, none⟩).getD undef
theorem lt_blk {W : World} {k : Nat} {o : Obj} (e : W.heap[k]? = some o) : k < W.heap.size := by
  rcases Nat.lt_or_ge k W.heap.size with h | h
  · exact h
  · rw [Array.getElem?_eq_none h] at e; cases e
section
variable {w W w' : World} {nx : Bool} {px : Option Addr} {lx cx : Nat} {ny : Bool} {py : Option Addr} {ly cy : Nat}
theorem Ar2.facts (h : Ar2 w nx px lx cx ny py ly cy W) : W.cell? ⟨w.heap.size, 0, none⟩ = some (.bool nx) ∧ W.cell? ⟨w.heap.size, 1, none⟩ = some (.slice px lx cx) ∧ W.cell? ⟨w.heap.size + 1, 0, none⟩ = some (.bool ny) ∧ W.cell? ⟨w.heap.size + 1, 1, none⟩ = some (.slice py ly cy) ∧
    W.cell? ⟨w.heap.size + 1 + 1, 0, none⟩ = some (oldv W (w.heap.size + 1 + 1) 0) ∧ W.cell? ⟨w.heap.size + 1 + 1, 1, none⟩ = some (oldv W (w.heap.size + 1 + 1) 1) ∧ W.frozen? ⟨w.heap.size + 1 + 1, 0, none⟩ = false ∧ W.frozen? ⟨w.heap.size + 1 + 1, 1, none⟩ = false := by
  obtain ⟨h1, h2, ⟨u, v, h3⟩, _⟩ := h
  refine ⟨by simp [World.cell?, h1], by simp [World.cell?, h1], by simp [World.cell?, h2], by simp [World.cell?, h2], by simp [oldv, World.cell?, h3], by simp [oldv, World.cell?, h3], by simp [World.frozen?, h3], by simp [World.frozen?, h3]⟩
theorem Ar2.later (h : Ar2 w nx px lx cx ny py ly cy W) (hb : Below W.heap.size W w') : Ar2 w nx px lx cx ny py ly cy w' := by
  obtain ⟨h1, h2, ⟨u, v, h3⟩, h6⟩ := h
  exact ⟨(hb.block _ (lt_blk h1)).trans h1, (hb.block _ (lt_blk h2)).trans h2, ⟨u, v, (hb.block _ (lt_blk h3)).trans h3⟩, below_tr h6 hb⟩
theorem Ar2.drew (h : Ar2 w nx px lx cx ny py ly cy W) : Ar2 w nx px lx cx ny py ly cy W.drew := h.later ((Below.refl _ W).drew)
theorem Ar2.start (w : World) : Ar2 w nx px lx cx ny py ly cy (((w.alloc (.cells #[.bool nx, .slice px lx cx] 24)).alloc (.cells #[.bool ny, .slice py ly cy] 24)).alloc (.cells #[.bool false, .slice none 0 0] 24)) := by
  have hb : Below w.heap.size w (((w.alloc (.cells #[.bool nx, .slice px lx cx] 24)).alloc (.cells #[.bool ny, .slice py ly cy] 24)).alloc (.cells #[.bool false, .slice none 0 0] 24)) := (((Below.refl _ _).alloc (Nat.le_refl _) _).alloc (by simp) _).alloc (by simp; omega) _
  have h3 : (((w.alloc (.cells #[.bool nx, .slice px lx cx] 24)).alloc (.cells #[.bool ny, .slice py ly cy] 24)).alloc (.cells #[.bool false, .slice none 0 0] 24)).heap[w.heap.size + 1 + 1]? = some (.cells #[.bool false, .slice none 0 0] 24 (0, 0)) := by
    have := heap_alloc_new ((w.alloc (.cells #[.bool nx, .slice px lx cx] 24)).alloc (.cells #[.bool ny, .slice py ly cy] 24)) (.cells #[.bool false, .slice none 0 0] 24)
    simpa using this
  refine ⟨?_, ?_, ⟨_, _, h3⟩, hb⟩
  · rw [Below.heap_alloc _ _ _ (by simp; omega), Below.heap_alloc _ _ _ (by simp)]; exact heap_alloc_new _ _
  · rw [Below.heap_alloc _ _ _ (by simp)]; exact heap_alloc2_new _ _ _
theorem Ar2.res (h : Ar2 w nx px lx cx ny py ly cy W) (p q : Value) : ((W.setCell ⟨w.heap.size + 1 + 1, 0, none⟩ p).setCell ⟨w.heap.size + 1 + 1, 1, none⟩ q).heap[w.heap.size + 1 + 1]? = some (.cells #[p, q] 24 (0, 0)) := by
  obtain ⟨h1, h2, ⟨u, v, h3⟩, h6⟩ := h
  rw [heap_setCell_self _ _ _ _ _ _ (heap_setCell_self _ _ _ _ _ _ h3)]; rfl
theorem Ar2.store (h : Ar2 w nx px lx cx ny py ly cy W) (p q : Value) : Ar2 w nx px lx cx ny py ly cy ((W.setCell ⟨w.heap.size + 1 + 1, 0, none⟩ p).setCell ⟨w.heap.size + 1 + 1, 1, none⟩ q) := by
  refine ⟨?_, ?_, ⟨p, q, h.res p q⟩, (h.2.2.2.setCell (by simp; omega) _).setCell (by simp; omega) _⟩
  · rw [heap_setCell_other _ _ _ _ (by simp; omega), heap_setCell_other _ _ _ _ (by simp; omega)]; exact h.1
  · rw [heap_setCell_other _ _ _ _ (by simp), heap_setCell_other _ _ _ _ (by simp)]; exact h.2.1
theorem Ar2.top (h : Ar2 w nx px lx cx ny py ly cy W) : w.heap.size + 1 + 1 < W.heap.size := by
  obtain ⟨u, v, h3⟩ := h.2.2.1
  exact lt_blk h3
theorem Ar2.ret {nb : Bool} {p : Option Addr} {n c : Nat} {z z' : Int} (h : Ar2 w nx px lx cx ny py ly cy W) (hI : IntAt W nb p n c z) (hp : ∀ q, p = some q → w.heap.size + 1 + 1 < q.block) (hz : z = z') :
    RetI w z' (.returned (.agg #[.bool nb, .slice p n c])) ((W.setCell ⟨w.heap.size + 1 + 1, 0, none⟩ (.bool nb)).setCell ⟨w.heap.size + 1 + 1, 1, none⟩ (.slice p n c)) := by
  subst hz
  have hne : ∀ q, p = some q → q.block ≠ w.heap.size + 1 + 1 := fun q hq => by have := hp q hq; omega
  exact ⟨_, _, _, _, rfl, (hI.store hne).store hne, (h.store _ _).2.2.2, fun q hq => by have := hp q hq; omega⟩
theorem new_top {g : Nat} {p : Option Addr} (hp : ∀ q, p = some q → some (⟨g, 0, none⟩ : Addr) = some q) {B : Nat} (hg : B < g) : ∀ q, p = some q → B < q.block := fun q hq => by
  have := hp q hq
  cases this
  exact hg
end

theorem mul_sg (x y : Int) : sg (decide (x < 0) != decide (y < 0)) ((x.natAbs : Int) * (y.natAbs : Int)) = x * y := by
  rcases Int.lt_or_le x 0 with h1 | h1 <;> rcases Int.lt_or_le y 0 with h2 | h2
  · rw [show (x.natAbs : Int) = -x by omega, show (y.natAbs : Int) = -y by omega, decide_eq_true h1, decide_eq_true h2]
    show -x * -y = x * y
    grind
  · rw [show (x.natAbs : Int) = -x by omega, show (y.natAbs : Int) = y by omega, decide_eq_true h1, decide_eq_false (show ¬ y < 0 by omega)]
    show -(-x * y) = x * y
    grind
  · rw [show (x.natAbs : Int) = x by omega, show (y.natAbs : Int) = -y by omega, decide_eq_false (show ¬ x < 0 by omega), decide_eq_true h2]
    show -(x * -y) = x * y
    grind
  · rw [show (x.natAbs : Int) = x by omega, show (y.natAbs : Int) = y by omega, decide_eq_false (show ¬ x < 0 by omega), decide_eq_false (show ¬ y < 0 by omega)]
    rfl

set_option maxRecDepth 100000 in
set_option maxHeartbeats 1600000 in
theorem Mul_any (nx ny : Bool) (px py : Option Addr) (lx cx ly cy : Nat) (x y : Int) (w : World) (hx0 : IntAt w nx px lx cx x) (hy0 : IntAt w ny py ly cy y) (hlx : lx ≤ 549755813887) (hly : ly ≤ 549755813887) :
    Calls Tryd.prog 30 #[.agg #[.bool nx, .slice px lx cx], .agg #[.bool ny, .slice py ly cy]] w (RetI w (x * y)) := by
  have hx := Lib.hid hx0
  have hy := Lib.hid hy0
  have hpr : Hid (∀ W, Ar2 w nx px lx cx ny py ly cy W → Calls Tryd.prog 44 #[.slice px lx cx, .slice py ly cy] W (NewI W (MulP (digs x.natAbs) (digs y.natAbs)))) :=
    Lib.hid fun W h => product_any _ _ _ _ _ _ _ _ W (Rdi_below h.2.2.2 hx0.2.2.1) (Rdi_below h.2.2.2 hy0.2.2.1) hx0.2.1 hy0.2.1 (Dg_digs _) (Dg_digs _) (by omega) (by omega)
  have hf := fun W (h : Ar2 w nx px lx cx ny py ly cy W) => h.facts
  have hS0 := Lib.hid (@Ar2.start nx px lx cx ny py ly cy w)
  have hsg : Hid (sg (nx != ny) (val (digs x.natAbs) * val (digs y.natAbs)) = x * y) := Lib.hid (by rw [val_digs, val_digs, hx0.1, hy0.1]; exact mul_sg x y)
  have hle : Hid ((digs x.natAbs).length = lx ∧ (digs y.natAbs).length = ly) := Lib.hid ⟨hx0.2.1.symm, hy0.2.1.symm⟩
  clear hx0 hy0
  go_enter Tryd.func30, Tryd.ntmps30
  go_wp2_with fail
  generalize ((w.alloc (.cells #[.bool nx, .slice px lx cx] 24)).alloc (.cells #[.bool ny, .slice py ly cy] 24)).alloc (.cells #[.bool false, .slice none 0 0] 24) = W0 at hS0 ⊢
  have hS1 := hS0.out
  clear hS0
  go_region_held3 (fun W => Ar2 w nx px lx cx ny py ly cy W) (first | exact Ar2.drew (by assumption) | exact Ar2.later (by assumption) (by assumption) | exact Ar2.store (by assumption) _ _) (first | (go_at_call 44; refine (hpr.out _ (by assumption)).mono ?_; rintro e w1 ⟨g, n, z, rfl, hg, hz0, hb1, hn0, hP0⟩; have hz := Lib.hid hz0; have hn := Lib.hid hn0; have hP := Lib.hid hP0; have hnl : n ≤ 1099511627774 := (by have := hP0.2.2; have := hle.out; omega); clear hz0 hn0 hP0) | (go_at_call 26; refine (made_any _ _ _ _ z _ hz.out.rdi hn.out.symm (Nat.le_refl _) (by omega) hP.out.1).mono ?_; rintro e w2 ⟨nb, p, n2, c2, rfl, hI0, hb2, hp0⟩; have hI := Lib.hid hI0; have hp := Lib.hid hp0; clear hI0 hp0))
  have hS2 := (hS1.drew.later hb1).later hb2
  have hgt : w.heap.size + 1 + 1 < g := Nat.lt_of_lt_of_le hS1.drew.top hg
  have hfin := Lib.hid (hS2.ret hI.out (new_top hp.out hgt) (by rw [hP.out.2.1, ← hsg.out]; cases nx <;> cases ny <;> rfl : sg (!nx == ny) (val z) = x * y))
  go_wp2_with fail
  exact bodyPost_ret (v := .agg #[.bool nb, .slice p n2 c2]) (results_cell_row rfl _ _ (w.heap.size + 1 + 1) 24 _ (0, 0) _ rfl (hS2.res _ _) Tryd.underlying24 rfl size_Int) rfl hfin.out
end Go.Proofs.YtmbkpcnpacncjaaDoor

namespace Go.Proofs.YtmbkpcnpacncjaaDoor
open Go.RowKit

theorem wk_neg {nx : Bool} {x : Int} (hx : x ≠ 0 → nx = decide (x < 0)) : if nx then x ≤ 0 else 0 ≤ x := by
  by_cases h : x = 0
  · subst h; cases nx <;> simp
  · rw [hx h]
    by_cases h2 : x < 0
    · simp [h2]; omega
    · simp [h2]; omega
theorem same_neg {nx ny : Bool} {x y : Int} (hx : x ≠ 0 → nx = decide (x < 0)) (hy : y ≠ 0 → ny = decide (y < 0)) (h : nx = ny) : sg nx ((x.natAbs : Int) + (y.natAbs : Int)) = x + y := by
  have h1 := wk_neg hx
  have h2 := wk_neg hy
  subst h
  cases nx <;> simp [sg] at * <;> omega
theorem diff_neg {nx ny : Bool} {x y : Int} (hx : x ≠ 0 → nx = decide (x < 0)) (hy : y ≠ 0 → ny = decide (y < 0)) (h : nx ≠ ny) : sg nx ((x.natAbs : Int) - (y.natAbs : Int)) = x + y := by
  have h1 := wk_neg hx
  have h2 := wk_neg hy
  obtain rfl : ny = !nx := by cases nx <;> cases ny <;> first | rfl | exact absurd rfl h
  cases nx <;> simp [sg] at * <;> omega

end Go.Proofs.YtmbkpcnpacncjaaDoor

namespace Go.Proofs.YtmbkpcnpacncjaaDoor
open Go.RowKit

/-- an integer in a box -/
def Ar1 (w : World) (nx : Bool) (px : Option Addr) (lx cx : Nat) (W : World) : Prop :=
  W.heap[w.heap.size]? = some (.cells #[.bool nx, .slice px lx cx] 24 (0, 0)) ∧ (∃ u v, W.heap[w.heap.size + 1]? = some (.cells #[u, v] 24 (0, 0))) ∧ Below w.heap.size w W
section
variable {w W w' : World} {nx : Bool} {px : Option Addr} {lx cx : Nat}
theorem Ar1.facts (h : Ar1 w nx px lx cx W) : W.cell? ⟨w.heap.size, 0, none⟩ = some (.bool nx) ∧ W.cell? ⟨w.heap.size, 1, none⟩ = some (.slice px lx cx) ∧
    W.cell? ⟨w.heap.size + 1, 0, none⟩ = some (oldv W (w.heap.size + 1) 0) ∧ W.cell? ⟨w.heap.size + 1, 1, none⟩ = some (oldv W (w.heap.size + 1) 1) ∧ W.frozen? ⟨w.heap.size + 1, 0, none⟩ = false ∧ W.frozen? ⟨w.heap.size + 1, 1, none⟩ = false := by
  obtain ⟨h1, ⟨u, v, h3⟩, _⟩ := h
  refine ⟨by simp [World.cell?, h1], by simp [World.cell?, h1], by simp [oldv, World.cell?, h3], by simp [oldv, World.cell?, h3], by simp [World.frozen?, h3], by simp [World.frozen?, h3]⟩
theorem Ar1.later (h : Ar1 w nx px lx cx W) (hb : Below W.heap.size W w') : Ar1 w nx px lx cx w' := by
  obtain ⟨h1, ⟨u, v, h3⟩, h6⟩ := h
  exact ⟨(hb.block _ (lt_blk h1)).trans h1, ⟨u, v, (hb.block _ (lt_blk h3)).trans h3⟩, below_tr h6 hb⟩
theorem Ar1.drew (h : Ar1 w nx px lx cx W) : Ar1 w nx px lx cx W.drew := h.later ((Below.refl _ W).drew)
theorem Ar1.start (w : World) : Ar1 w nx px lx cx ((w.alloc (.cells #[.bool nx, .slice px lx cx] 24)).alloc (.cells #[.bool false, .slice none 0 0] 24)) := by
  have hb : Below w.heap.size w ((w.alloc (.cells #[.bool nx, .slice px lx cx] 24)).alloc (.cells #[.bool false, .slice none 0 0] 24)) := ((Below.refl _ _).alloc (Nat.le_refl _) _).alloc (by simp) _
  refine ⟨?_, ⟨_, _, heap_alloc2_new _ _ _⟩, hb⟩
  rw [Below.heap_alloc _ _ _ (by simp)]; exact heap_alloc_new _ _
theorem Ar1.res (h : Ar1 w nx px lx cx W) (p q : Value) : ((W.setCell ⟨w.heap.size + 1, 0, none⟩ p).setCell ⟨w.heap.size + 1, 1, none⟩ q).heap[w.heap.size + 1]? = some (.cells #[p, q] 24 (0, 0)) := by
  obtain ⟨h1, ⟨u, v, h3⟩, h6⟩ := h
  rw [heap_setCell_self _ _ _ _ _ _ (heap_setCell_self _ _ _ _ _ _ h3)]; rfl
theorem Ar1.store (h : Ar1 w nx px lx cx W) (p q : Value) : Ar1 w nx px lx cx ((W.setCell ⟨w.heap.size + 1, 0, none⟩ p).setCell ⟨w.heap.size + 1, 1, none⟩ q) := by
  refine ⟨?_, ⟨p, q, h.res p q⟩, (h.2.2.setCell (by simp) _).setCell (by simp) _⟩
  rw [heap_setCell_other _ _ _ _ (by simp), heap_setCell_other _ _ _ _ (by simp)]; exact h.1
theorem Ar1.top (h : Ar1 w nx px lx cx W) : w.heap.size + 1 < W.heap.size := by
  obtain ⟨u, v, h3⟩ := h.2.1
  exact lt_blk h3
theorem Ar1.ret {nb : Bool} {p : Option Addr} {n c : Nat} {z z' : Int} (h : Ar1 w nx px lx cx W) (hI : IntAt W nb p n c z) (hp : ∀ q, p = some q → w.heap.size + 1 < q.block) (hz : z = z') :
    RetI w z' (.returned (.agg #[.bool nb, .slice p n c])) ((W.setCell ⟨w.heap.size + 1, 0, none⟩ (.bool nb)).setCell ⟨w.heap.size + 1, 1, none⟩ (.slice p n c)) := by
  subst hz
  have hne : ∀ q, p = some q → q.block ≠ w.heap.size + 1 := fun q hq => by have := hp q hq; omega
  exact ⟨_, _, _, _, rfl, (hI.store hne).store hne, (h.store _ _).2.2, fun q hq => by have := hp q hq; omega⟩
end

end Go.Proofs.YtmbkpcnpacncjaaDoor

namespace Go.Proofs.YtmbkpcnpacncjaaDoor
open Go.RowKit

/-- block g holds the integers l as an array of type t -/
def BlkT (t : TypeId) (w : World) (g : Nat) (l : List Int) : Prop := w.heap[g]? = some (.cells (zvs l).toArray t (0, 0))
section
variable {t : TypeId} {w : World} {g i : Nat} {l : List Int}
theorem BlkT.cell (h : BlkT t w g l) (hi : i < l.length) : w.cell? ⟨g, i, none⟩ = some (.int .i64 (iat l i)) := by
  unfold BlkT at h
  simp [World.cell?, h, ← zvs_get hi]
theorem BlkT.free (h : BlkT t w g l) (i : Nat) : w.frozen? ⟨g, i, none⟩ = false := by
  unfold BlkT at h
  simp [World.frozen?, h]
theorem BlkT.set (h : BlkT t w g l) (i : Nat) (v : Int) : BlkT t (w.setCell ⟨g, i, none⟩ (.int .i64 v)) g (l.set i v) := by
  unfold BlkT at *
  rw [heap_setCell_self _ _ _ _ _ _ h, zvs_set]
theorem BlkT.rdi (h : BlkT t w g l) : Rdi w (some ⟨g, 0, none⟩) l :=
  .inr ⟨g, 0, rfl, fun i hi => by rw [Nat.zero_add]; exact h.cell hi⟩
end

/-- a number of 64 bits -/
def U64 (M : Nat) : Prop := M < 18446744073709551616
/-- digits of m in an array of three -/
def DofL (w : World) (g m : Nat) (k M : Nat) (wr : World) : Prop := ∃ A : List Int, A.length = 3 ∧ A.take k ++ digs M = digs m ∧ BlkT 60 wr g A ∧ Below w.heap.size w wr
theorem take_set (A : List Int) (k : Nat) (v : Int) (h : k < A.length) : (A.set k v).take (k + 1) = A.take k ++ [v] := by
  rw [List.take_succ_eq_append_getElem (by rw [List.length_set]; exact h), List.take_set_of_le (Nat.le_refl _)]
  simp

set_option maxRecDepth 100000 in
set_option maxHeartbeats 800000 in
theorem digitsOf_any (m : Nat) (hm : m < 18446744073709551616) (w : World) :
    Calls Tryd.prog 27 #[.int .u64 (m : Int)] w (NewI w fun z => z = digs m) := by
  have h3 : Hid ((digs m).length ≤ 3) := Lib.hid (digs_len_le (by have : pw 3 = 1000000000000000000000000000 := by decide
                                                                  omega))
  have hI : Hid (DofL w w.heap.size m 0 m (w.alloc (.cells #[.int .i64 0, .int .i64 0, .int .i64 0] 60))) := Lib.hid ⟨[0, 0, 0], rfl, rfl, heap_alloc_new _ _, below_new _ _⟩
  have hm' : Hid (U64 m) := Lib.hid hm
  clear hm
  go_enter Tryd.func27, Tryd.ntmps27
  go_wp2_with fail
  generalize w.alloc (.cells #[.int .i64 0, .int .i64 0, .int .i64 0] 60) = w1 at hI ⊢
  obtain ⟨g, hg⟩ : ∃ g, w.heap.size = g := ⟨_, rfl⟩
  rw [hg] at hI ⊢
  have hgg : Hid (w.heap.size ≤ g) := Lib.hid (Nat.le_of_eq hg)
  clear hg
  go_loopw [0, 4] (fun mv kv wr => ∃ k M : Nat, kv = .int .i64 (k : Int) ∧ mv = .int .u64 (M : Int) ∧ U64 M ∧ Hid (k + (digs M).length = (digs m).length) ∧ DofL w g m k M wr) (fun mv _ _ => (intOf mv).toNat)
  case atStart => exact ⟨0, m, rfl, rfl, hm'.out, Lib.hid (Nat.zero_add _), hI.out⟩
  case round =>
    obtain ⟨k, M, rfl, rfl, hM, hkl, hL⟩ := hrel
    clear hI
    by_cases h0 : M = 0
    · subst h0
      obtain ⟨A, hA, hd, hB, hW⟩ := hL
      rw [digs_zero, List.append_nil] at hd
      have hk3 : k ≤ 3 := by have h1 := hkl.out; have h2 := h3.out; omega
      have hc : Hid (Calls Tryd.prog 40 #[.slice (some ⟨g, 0, none⟩) 3 3, .int .i64 (k : Int)] wr (NewN wr k fun z => z = cpy A k)) := Lib.hid (copied_at _ 3 3 A _ k wr rfl hB.rdi hA.symm (by omega))
      have hW' := Lib.hid hW
      have hfin : Hid (cpy A k = digs m) := Lib.hid (by unfold cpy; rw [hd, show k - A.length = 0 by omega]; simp)
      rw [show ((0 : Nat) : Int) = 0 from rfl]
      clear hB hW hd hA hkl h3 hM
      go_wp2_with (go_at_call 40; refine hc.out.mono ?_; rintro e w2 ⟨g2, z, rfl, hg2, hz0, hb2, hn0, rfl⟩; have hz := Lib.hid hz0; have hb := Lib.hid hb2; have hn := Lib.hid hn0; clear hz0 hb2 hn0)
      go_ret
      exact ⟨g2, k, _, rfl, Nat.le_trans hW'.out.size hg2, hz.out, below_tr hW'.out hb.out, hn.out, hfin.out⟩
    · obtain ⟨A, hA, hd, hB, hW⟩ := hL
      have hdp := digs_pos h0
      have hk3 : k < 3 := by have h1 := hkl.out; have h2 := h3.out; rw [hdp, List.length_cons] at h1; omega
      have cx := hB.cell (i := k) (by omega)
      have cf := hB.free k
      have hst : Hid (DofL w g m (k + 1) (M / 1000000000) (wr.setCell ⟨g, k, none⟩ (.int .i64 ((M % 1000000000 : Nat) : Int)))) := Lib.hid ⟨_, by rw [List.length_set]; exact hA, by rw [take_set _ _ _ (by omega), List.append_assoc, ← hd, hdp]; rfl, hB.set _ _, hW.setCell hgg.out _⟩
      have hkl2 : Hid (k + 1 + (digs (M / 1000000000)).length = (digs m).length) := Lib.hid (by have := hkl.out; rw [hdp, List.length_cons] at this; omega)
      have e1 : ((M % 1000000000 : Nat) : Int) = (M : Int) % 1000000000 := by omega
      have e2 : ((M / 1000000000 : Nat) : Int) = (M : Int) / 1000000000 := by omega
      rw [e1] at hst
      have e2' := Lib.hid e2
      have m0 : (0 : Int) < (M : Int) := by omega
      have hM2 : Hid (U64 (M / 1000000000)) := Lib.hid (by unfold U64 at *; omega)
      have hw : IntKind.u64.wrap ((M : Int) / 1000000000) = (M : Int) / 1000000000 := by unfold U64 at hM; simp [IntKind.wrap, IntKind.bits, IntKind.signed]; omega
      have k0 : 0 ≤ (k : Int) := by omega
      have k1 : (k : Int) < 3 := by omega
      have hlt := Lib.hid (show M / 1000000000 < M from Nat.div_lt_self (by omega) (by omega))
      generalize iat A k = v at cx
      clear hA hd hB hW hdp e1 e2 h0 hM
      go_wp2_with fail
      exact ⟨⟨k + 1, M / 1000000000, by simp, by rw [e2'.out], hM2.out, hkl2.out, hst.out⟩, by have := hlt.out; simp only [intOf]; omega⟩

/-- a result's box -/
def Ar0 (w : World) (W : World) : Prop := (∃ u v, W.heap[w.heap.size]? = some (.cells #[u, v] 24 (0, 0))) ∧ Below w.heap.size w W
section
variable {w W w' : World}
theorem Ar0.facts (h : Ar0 w W) : W.cell? ⟨w.heap.size, 0, none⟩ = some (oldv W w.heap.size 0) ∧ W.cell? ⟨w.heap.size, 1, none⟩ = some (oldv W w.heap.size 1) ∧ W.frozen? ⟨w.heap.size, 0, none⟩ = false ∧ W.frozen? ⟨w.heap.size, 1, none⟩ = false := by
  obtain ⟨⟨u, v, h3⟩, _⟩ := h
  refine ⟨by simp [oldv, World.cell?, h3], by simp [oldv, World.cell?, h3], by simp [World.frozen?, h3], by simp [World.frozen?, h3]⟩
theorem Ar0.later (h : Ar0 w W) (hb : Below W.heap.size W w') : Ar0 w w' := by
  obtain ⟨⟨u, v, h3⟩, h6⟩ := h
  exact ⟨⟨u, v, (hb.block _ (lt_blk h3)).trans h3⟩, below_tr h6 hb⟩
theorem Ar0.drew (h : Ar0 w W) : Ar0 w W.drew := h.later ((Below.refl _ W).drew)
theorem Ar0.start (w : World) : Ar0 w (w.alloc (.cells #[.bool false, .slice none 0 0] 24)) := ⟨⟨_, _, heap_alloc_new _ _⟩, below_new _ _⟩
theorem Ar0.res (h : Ar0 w W) (p q : Value) : ((W.setCell ⟨w.heap.size, 0, none⟩ p).setCell ⟨w.heap.size, 1, none⟩ q).heap[w.heap.size]? = some (.cells #[p, q] 24 (0, 0)) := by
  obtain ⟨⟨u, v, h3⟩, h6⟩ := h
  rw [heap_setCell_self _ _ _ _ _ _ (heap_setCell_self _ _ _ _ _ _ h3)]; rfl
theorem Ar0.store (h : Ar0 w W) (p q : Value) : Ar0 w ((W.setCell ⟨w.heap.size, 0, none⟩ p).setCell ⟨w.heap.size, 1, none⟩ q) :=
  ⟨⟨p, q, h.res p q⟩, (h.2.setCell (Nat.le_refl _) _).setCell (Nat.le_refl _) _⟩
theorem Ar0.top (h : Ar0 w W) : w.heap.size < W.heap.size := by
  obtain ⟨u, v, h3⟩ := h.1
  exact lt_blk h3
theorem Ar0.ret {fr : Addr → Prop} {nb : Bool} {p : Option Addr} {n c : Nat} {z z' : Int} (h : Ar0 w W) (hI : IntAt W nb p n c z) (hp : ∀ q, p = some q → q.block ≠ w.heap.size ∧ fr q) (hz : z = z') :
    RetF fr w z' (.returned (.agg #[.bool nb, .slice p n c])) ((W.setCell ⟨w.heap.size, 0, none⟩ (.bool nb)).setCell ⟨w.heap.size, 1, none⟩ (.slice p n c)) := by
  subst hz
  have hne : ∀ q, p = some q → q.block ≠ w.heap.size := fun q hq => (hp q hq).1
  exact ⟨_, _, _, _, rfl, (hI.store hne).store hne, (h.store _ _).2, fun q hq => (hp q hq).2⟩
end

theorem digitsOf_at (v : Int) (m : Nat) (hv : v = (m : Int)) (hm : m < 18446744073709551616) (w : World) :
    Calls Tryd.prog 27 #[.int .u64 v] w (NewI w fun z => z = digs m) := by subst hv; exact digitsOf_any m hm w

set_option maxRecDepth 100000 in
set_option maxHeartbeats 800000 in
theorem Of_any (n : Int) (h1 : -9223372036854775808 ≤ n) (h2 : n ≤ 9223372036854775807) (w : World) :
    Calls Tryd.prog 14 #[.int .i64 n] w (RetI w n) := by
  have hu : Hid (∀ v W, v = (n.natAbs : Int) → Calls Tryd.prog 27 #[.int .u64 v] W (NewI W fun z => z = digs n.natAbs)) := Lib.hid fun v W hv => digitsOf_at v _ hv (by omega) W
  have hS0 := Lib.hid (Ar0.start w)
  have hsg : Hid (Dg (digs n.natAbs) ∧ sg (decide (n < 0)) (val (digs n.natAbs)) = n) := Lib.hid ⟨Dg_digs _, by
    rw [val_digs]
    by_cases h : n < 0
    · rw [decide_eq_true h]; show -(n.natAbs : Int) = n; omega
    · rw [decide_eq_false h]; show (n.natAbs : Int) = n; omega⟩
  have hlen : Hid ((digs n.natAbs).length ≤ 3) := Lib.hid (digs_len_le (by
    have : pw 3 = 1000000000000000000000000000 := by decide
    omega))
  obtain ⟨D, hD⟩ : ∃ D, digs n.natAbs = D := ⟨_, rfl⟩
  rw [hD] at hu hsg hlen
  clear hD
  by_cases h0 : n < 0
  · have e1 : IntKind.u64.wrap n = n + 18446744073709551616 := by simp [IntKind.wrap, IntKind.bits, IntKind.signed]; omega
    have hd : decide (n < 0) = true := decide_eq_true h0
    go_enter Tryd.func14, Tryd.ntmps14
    go_wp2_with fail
    generalize w.alloc (.cells #[.bool false, .slice none 0 0] 24) = W0 at hS0 ⊢
    have hS1 := hS0.out
    clear hS0
    refine (hu.out _ _ (by simp [IntKind.wrap, IntKind.bits, IntKind.signed]; omega)).mono ?_
    rintro e w1 ⟨g, n1, z, rfl, hg, hz0, hb1, hn0, rfl⟩
    have hz := Lib.hid hz0
    have hn := Lib.hid hn0
    have hS2 := hS1.later hb1
    have hgt : w.heap.size < g := Nat.lt_of_lt_of_le hS1.top hg
    have hnl : n1 ≤ 3 := by have := hlen.out; omega
    clear hz0 hn0 hb1
    go_wp2_with fail
    refine (made_any true _ n1 n1 z _ hz.out.rdi hn.out.symm (Nat.le_refl _) (by omega) hsg.out.1).mono ?_
    rintro e w2 ⟨nb, p, n2, c2, rfl, hI0, hb2, hp0⟩
    have hI := Lib.hid hI0
    have hS3 := hS2.later hb2
    have hf3 := hS3.facts
    have hfin : Hid (RetI w n (.returned (.agg #[.bool nb, .slice p n2 c2])) ((w2.setCell ⟨w.heap.size, 0, none⟩ (.bool nb)).setCell ⟨w.heap.size, 1, none⟩ (.slice p n2 c2))) := Lib.hid (hS3.ret hI.out (fun q hq => by
      have := hp0 q hq
      cases this
      exact ⟨by simp; omega, by simp; omega⟩) (by have := hsg.out.2; rw [hd] at this; exact this))
    clear hI0 hb2 hp0
    go_wp2_with fail
    exact bodyPost_ret (v := .agg #[.bool nb, .slice p n2 c2]) (results_cell_row rfl _ _ w.heap.size 24 _ (0, 0) _ rfl (hS3.res _ _) Tryd.underlying24 rfl size_Int) rfl hfin.out
  · have hd : decide (n < 0) = false := decide_eq_false h0
    go_enter Tryd.func14, Tryd.ntmps14
    go_wp2_with fail
    generalize w.alloc (.cells #[.bool false, .slice none 0 0] 24) = W0 at hS0 ⊢
    have hS1 := hS0.out
    clear hS0
    refine (hu.out _ _ (by omega)).mono ?_
    rintro e w1 ⟨g, n1, z, rfl, hg, hz0, hb1, hn0, rfl⟩
    have hz := Lib.hid hz0
    have hn := Lib.hid hn0
    have hS2 := hS1.later hb1
    have hgt : w.heap.size < g := Nat.lt_of_lt_of_le hS1.top hg
    have hnl : n1 ≤ 3 := by have := hlen.out; omega
    clear hz0 hn0 hb1
    go_wp2_with fail
    refine (made_any false _ n1 n1 z _ hz.out.rdi hn.out.symm (Nat.le_refl _) (by omega) hsg.out.1).mono ?_
    rintro e w2 ⟨nb, p, n2, c2, rfl, hI0, hb2, hp0⟩
    have hI := Lib.hid hI0
    have hS3 := hS2.later hb2
    have hf3 := hS3.facts
    have hfin : Hid (RetI w n (.returned (.agg #[.bool nb, .slice p n2 c2])) ((w2.setCell ⟨w.heap.size, 0, none⟩ (.bool nb)).setCell ⟨w.heap.size, 1, none⟩ (.slice p n2 c2))) := Lib.hid (hS3.ret hI.out (fun q hq => by
      have := hp0 q hq
      cases this
      exact ⟨by simp; omega, by simp; omega⟩) (by have := hsg.out.2; rw [hd] at this; exact this))
    clear hI0 hb2 hp0
    go_wp2_with fail
    exact bodyPost_ret (v := .agg #[.bool nb, .slice p n2 c2]) (results_cell_row rfl _ _ w.heap.size 24 _ (0, 0) _ rfl (hS3.res _ _) Tryd.underlying24 rfl size_Int) rfl hfin.out
end Go.Proofs.YtmbkpcnpacncjaaDoor
