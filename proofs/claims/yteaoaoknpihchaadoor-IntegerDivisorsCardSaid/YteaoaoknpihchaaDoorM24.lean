/- Contracts of the package integer and its reference: The reference: Add. The reference: Power. -/
import Derived.Test.YteaoaoknpihchaaDoorM23
import Derived.Test.YteaoaoknpihchaaDoorM15
import Derived.Deep.RegionWith
namespace Go.Proofs.YteaoaoknpihchaaDoor
open Go.RowKit

set_option maxRecDepth 100000 in
set_option maxHeartbeats 1600000 in
theorem rAdd_same (nx : Bool) (px py : Option Addr) (lx cx ly cy : Nat) (x y : Int) (w : World) (hx0 : IntZ w nx px lx cx x) (hy0 : IntZ w nx py ly cy y) (hlx : lx ≤ 549755813887) (hly : ly ≤ 549755813887) :
    Calls Tryd.prog 11 #[.agg #[.bool nx, .slice px lx cx], .agg #[.bool nx, .slice py ly cy]] w (RetI w (x + y)) := by
  have hx := Lib.hid hx0
  have hy := Lib.hid hy0
  have hca : Hid (∀ W, Ar2 w nx px lx cx nx py ly cy W → Calls Tryd.prog 35 #[.slice px lx cx, .slice py ly cy] W (NewS W (SumP (digs x.natAbs) (digs y.natAbs)))) :=
    Lib.hid fun W h => plus_any _ _ _ _ _ _ _ _ W (Rdi_below h.2.2.2 hx0.2.2.1) (Rdi_below h.2.2.2 hy0.2.2.1) hx0.2.1 hy0.2.1 (Dg_digs _) (Dg_digs _) (by omega) (by omega)
  have hf := fun W (h : Ar2 w nx px lx cx nx py ly cy W) => h.facts
  have hS0 := Lib.hid (@Ar2.start nx px lx cx nx py ly cy w)
  have hsg : Hid (sg nx (val (digs x.natAbs) + val (digs y.natAbs)) = x + y) := Lib.hid (by rw [val_digs, val_digs]; exact same_neg hx0.1 hy0.1 rfl)
  have hle : Hid ((digs x.natAbs).length = lx ∧ (digs y.natAbs).length = ly) := Lib.hid ⟨hx0.2.1.symm, hy0.2.1.symm⟩
  have hnn : (nx == !nx) = false := by cases nx <;> rfl
  clear hx0 hy0
  go_enter Tryd.func11, Tryd.ntmps11
  go_wp2_with fail
  generalize ((w.alloc (.cells #[.bool nx, .slice px lx cx] 24)).alloc (.cells #[.bool nx, .slice py ly cy] 24)).alloc (.cells #[.bool false, .slice none 0 0] 24) = W0 at hS0 ⊢
  have hS1 := hS0.out
  clear hS0
  go_region_held3 (fun W => Ar2 w nx px lx cx nx py ly cy W) (first | exact Ar2.drew (by assumption) | exact Ar2.later (by assumption) (by assumption) | exact Ar2.store (by assumption) _ _) (first | (go_at_call 35; refine (hca.out _ (by assumption)).mono ?_; rintro e w1 ⟨p1, n, c1, z, rfl, hz0, hn0, hnc, hcm, hp10, hb1, hP0⟩; have hp1 := Lib.hid hp10; have hz := Lib.hid hz0; have hn := Lib.hid hn0; have hP := Lib.hid hP0; have hnl : n ≤ 1099511627774 := (by have := hP0.2.2; have := hle.out; omega); clear hz0 hn0 hP0 hp10) | (go_at_call 34; refine (normal_any _ p1 n c1 z _ hz.out hn.out.symm hnc hcm hP.out.1).mono ?_; rintro e w2 ⟨nb, p, n2, c2, rfl, hI0, hb2, hp0⟩; have hI := Lib.hid hI0; have hp := Lib.hid hp0; clear hI0 hp0))
  have hS2 := (hS1.drew.later hb1).later hb2
  have hgt : ∀ q, p = some q → w.heap.size + 1 + 1 < q.block := fun q hq => Nat.lt_of_lt_of_le hS1.drew.top (hp1.out q (hp.out q hq))
  have hfin := Lib.hid (hS2.ret hI.out hgt (by rw [hP.out.2.1, ← hsg.out] : sg nx (val z) = x + y))
  go_wp2_with fail
  exact bodyPost_ret (v := .agg #[.bool nb, .slice p n2 c2]) (results_cell_row rfl _ _ (w.heap.size + 1 + 1) 24 _ (0, 0) _ rfl (hS2.res _ _) Tryd.underlying24 rfl size_Int) rfl hfin.out

set_option maxRecDepth 100000 in
set_option maxHeartbeats 1600000 in
theorem rAdd_lt (nx : Bool) (px py : Option Addr) (lx cx ly cy : Nat) (x y : Int) (w : World) (hx0 : IntZ w nx px lx cx x) (hy0 : IntZ w (!nx) py ly cy y) (hlx : lx ≤ 549755813887) (hly : ly ≤ 549755813887) (hlt : x.natAbs < y.natAbs) :
    Calls Tryd.prog 11 #[.agg #[.bool nx, .slice px lx cx], .agg #[.bool (!nx), .slice py ly cy]] w (RetI w (x + y)) := by
  have hx := Lib.hid hx0
  have hy := Lib.hid hy0
  have hca : Hid (∀ W, Ar2 w nx px lx cx (!nx) py ly cy W → Calls Tryd.prog 37 #[.slice py ly cy, .slice px lx cx] W (NewS W (DifP (digs y.natAbs) (digs x.natAbs)))) :=
    Lib.hid fun W h => minus_any _ _ _ _ _ _ _ _ W (Rdi_below h.2.2.2 hy0.2.2.1) (Rdi_below h.2.2.2 hx0.2.2.1) hy0.2.1 hx0.2.1 (Dg_digs _) (Dg_digs _) (by omega) (by rw [hx0.2.1, hy0.2.1]; exact digs_len_mono (by omega)) (by rw [val_digs, val_digs]; omega)
  have hcm : Hid (∀ W, Below w.heap.size w W → Calls Tryd.prog 36 #[.slice px lx cx, .slice py ly cy] W fun e w' => e = .returned (.int .i64 (-1)) ∧ Below W.heap.size W w') :=
    Lib.hid fun W h => by rw [show (-1 : Int) = cmpI x.natAbs y.natAbs from (cmp_lt (by omega)).symm]; exact compared_any _ _ _ _ _ _ _ _ W (Rdi_below h hx0.2.2.1) (Rdi_below h hy0.2.2.1) hx0.2.1 hy0.2.1 (by omega) (by omega)
  have hf := fun W (h : Ar2 w nx px lx cx (!nx) py ly cy W) => h.facts
  have hS0 := Lib.hid (@Ar2.start nx px lx cx (!nx) py ly cy w)
  have hsg : Hid (sg (!nx) (val (digs y.natAbs) - val (digs x.natAbs)) = x + y) := Lib.hid (by rw [val_digs, val_digs, Int.add_comm]; exact diff_neg hy0.1 hx0.1 (by cases nx <;> decide))
  have hle : Hid ((digs x.natAbs).length = lx ∧ (digs y.natAbs).length = ly) := Lib.hid ⟨hx0.2.1.symm, hy0.2.1.symm⟩
  have hnn : (nx == !nx) = false := by cases nx <;> rfl
  clear hx0 hy0
  go_enter Tryd.func11, Tryd.ntmps11
  go_wp2_with fail
  generalize ((w.alloc (.cells #[.bool nx, .slice px lx cx] 24)).alloc (.cells #[.bool (!nx), .slice py ly cy] 24)).alloc (.cells #[.bool false, .slice none 0 0] 24) = W9 at hS0 ⊢
  have hS9 := hS0.out
  clear hS0
  have hf9 := hf _ hS9
  go_wp2_with (go_at_call 36; refine (hcm.out _ hS9.2.2.2).mono ?_; rintro e W0 ⟨rfl, hb9⟩; have hS1 := hS9.later hb9; clear hb9 hf9)
  go_region_held3 (fun W => Ar2 w nx px lx cx (!nx) py ly cy W) (first | exact Ar2.drew (by assumption) | exact Ar2.later (by assumption) (by assumption) | exact Ar2.store (by assumption) _ _) (first | (go_at_call 37; refine (hca.out _ (by assumption)).mono ?_; rintro e w1 ⟨p1, n, c1, z, rfl, hz0, hn0, hnc, hcm, hp10, hb1, hP0⟩; have hp1 := Lib.hid hp10; have hz := Lib.hid hz0; have hn := Lib.hid hn0; have hP := Lib.hid hP0; have hnl : n ≤ 1099511627774 := (by have := hP0.2.2; have := hle.out; omega); clear hz0 hn0 hP0 hp10) | (go_at_call 34; refine (normal_any _ p1 n c1 z _ hz.out hn.out.symm hnc hcm hP.out.1).mono ?_; rintro e w2 ⟨nb, p, n2, c2, rfl, hI0, hb2, hp0⟩; have hI := Lib.hid hI0; have hp := Lib.hid hp0; clear hI0 hp0))
  have hS2 := (hS1.drew.later hb1).later hb2
  have hgt : ∀ q, p = some q → w.heap.size + 1 + 1 < q.block := fun q hq => Nat.lt_of_lt_of_le hS1.drew.top (hp1.out q (hp.out q hq))
  have hfin := Lib.hid (hS2.ret hI.out hgt (by rw [hP.out.2.1, ← hsg.out] : sg (!nx) (val z) = x + y))
  go_wp2_with fail
  exact bodyPost_ret (v := .agg #[.bool nb, .slice p n2 c2]) (results_cell_row rfl _ _ (w.heap.size + 1 + 1) 24 _ (0, 0) _ rfl (hS2.res _ _) Tryd.underlying24 rfl size_Int) rfl hfin.out

set_option maxRecDepth 100000 in
set_option maxHeartbeats 1600000 in
theorem rAdd_ge (nx : Bool) (px py : Option Addr) (lx cx ly cy : Nat) (x y : Int) (w : World) (hx0 : IntZ w nx px lx cx x) (hy0 : IntZ w (!nx) py ly cy y) (hlx : lx ≤ 549755813887) (hly : ly ≤ 549755813887) (hge : y.natAbs ≤ x.natAbs) (r : Int) (hr : 0 ≤ r) (hr1 : r ≤ 1) (hrr : Hid (r = cmpI x.natAbs y.natAbs)) :
    Calls Tryd.prog 11 #[.agg #[.bool nx, .slice px lx cx], .agg #[.bool (!nx), .slice py ly cy]] w (RetI w (x + y)) := by
  have hx := Lib.hid hx0
  have hy := Lib.hid hy0
  have hca : Hid (∀ W, Ar2 w nx px lx cx (!nx) py ly cy W → Calls Tryd.prog 37 #[.slice px lx cx, .slice py ly cy] W (NewS W (DifP (digs x.natAbs) (digs y.natAbs)))) :=
    Lib.hid fun W h => minus_any _ _ _ _ _ _ _ _ W (Rdi_below h.2.2.2 hx0.2.2.1) (Rdi_below h.2.2.2 hy0.2.2.1) hx0.2.1 hy0.2.1 (Dg_digs _) (Dg_digs _) (by omega) (by rw [hx0.2.1, hy0.2.1]; exact digs_len_mono (by omega)) (by rw [val_digs, val_digs]; omega)
  have hcm : Hid (∀ W, Below w.heap.size w W → Calls Tryd.prog 36 #[.slice px lx cx, .slice py ly cy] W fun e w' => e = .returned (.int .i64 (r)) ∧ Below W.heap.size W w') :=
    Lib.hid fun W h => by rw [show (r : Int) = cmpI x.natAbs y.natAbs from hrr.out]; exact compared_any _ _ _ _ _ _ _ _ W (Rdi_below h hx0.2.2.1) (Rdi_below h hy0.2.2.1) hx0.2.1 hy0.2.1 (by omega) (by omega)
  have hf := fun W (h : Ar2 w nx px lx cx (!nx) py ly cy W) => h.facts
  have hS0 := Lib.hid (@Ar2.start nx px lx cx (!nx) py ly cy w)
  have hsg : Hid (sg nx (val (digs x.natAbs) - val (digs y.natAbs)) = x + y) := Lib.hid (by rw [val_digs, val_digs]; exact diff_neg hx0.1 hy0.1 (by cases nx <;> decide))
  have hle : Hid ((digs x.natAbs).length = lx ∧ (digs y.natAbs).length = ly) := Lib.hid ⟨hx0.2.1.symm, hy0.2.1.symm⟩
  have hnn : (nx == !nx) = false := by cases nx <;> rfl
  clear hx0 hy0
  go_enter Tryd.func11, Tryd.ntmps11
  go_wp2_with fail
  generalize ((w.alloc (.cells #[.bool nx, .slice px lx cx] 24)).alloc (.cells #[.bool (!nx), .slice py ly cy] 24)).alloc (.cells #[.bool false, .slice none 0 0] 24) = W9 at hS0 ⊢
  have hS9 := hS0.out
  clear hS0
  have hf9 := hf _ hS9
  go_wp2_with (go_at_call 36; refine (hcm.out _ hS9.2.2.2).mono ?_; rintro e W0 ⟨rfl, hb9⟩; have hS1 := hS9.later hb9; clear hb9 hf9)
  go_region_held3 (fun W => Ar2 w nx px lx cx (!nx) py ly cy W) (first | exact Ar2.drew (by assumption) | exact Ar2.later (by assumption) (by assumption) | exact Ar2.store (by assumption) _ _) (first | (go_at_call 37; refine (hca.out _ (by assumption)).mono ?_; rintro e w1 ⟨p1, n, c1, z, rfl, hz0, hn0, hnc, hcm, hp10, hb1, hP0⟩; have hp1 := Lib.hid hp10; have hz := Lib.hid hz0; have hn := Lib.hid hn0; have hP := Lib.hid hP0; have hnl : n ≤ 1099511627774 := (by have := hP0.2.2; have := hle.out; omega); clear hz0 hn0 hP0 hp10) | (go_at_call 34; refine (normal_any _ p1 n c1 z _ hz.out hn.out.symm hnc hcm hP.out.1).mono ?_; rintro e w2 ⟨nb, p, n2, c2, rfl, hI0, hb2, hp0⟩; have hI := Lib.hid hI0; have hp := Lib.hid hp0; clear hI0 hp0))
  have hS2 := (hS1.drew.later hb1).later hb2
  have hgt : ∀ q, p = some q → w.heap.size + 1 + 1 < q.block := fun q hq => Nat.lt_of_lt_of_le hS1.drew.top (hp1.out q (hp.out q hq))
  have hfin := Lib.hid (hS2.ret hI.out hgt (by rw [hP.out.2.1, ← hsg.out] : sg nx (val z) = x + y))
  go_wp2_with fail
  exact bodyPost_ret (v := .agg #[.bool nb, .slice p n2 c2]) (results_cell_row rfl _ _ (w.heap.size + 1 + 1) 24 _ (0, 0) _ rfl (hS2.res _ _) Tryd.underlying24 rfl size_Int) rfl hfin.out

theorem rAdd_any (nx ny : Bool) (px py : Option Addr) (lx cx ly cy : Nat) (x y : Int) (w : World) (hx0 : IntZ w nx px lx cx x) (hy0 : IntZ w ny py ly cy y) (hlx : lx ≤ 549755813887) (hly : ly ≤ 549755813887) :
    Calls Tryd.prog 11 #[.agg #[.bool nx, .slice px lx cx], .agg #[.bool ny, .slice py ly cy]] w (RetI w (x + y)) := by
  by_cases h : nx = ny
  · subst h
    exact rAdd_same nx px py lx cx ly cy x y w hx0 hy0 hlx hly
  · obtain rfl : ny = !nx := by cases nx <;> cases ny <;> first | rfl | exact absurd rfl h
    by_cases hlt : x.natAbs < y.natAbs
    · exact rAdd_lt nx px py lx cx ly cy x y w hx0 hy0 hlx hly hlt
    · refine rAdd_ge nx px py lx cx ly cy x y w hx0 hy0 hlx hly (by omega) (cmpI x.natAbs y.natAbs) ?_ ?_ (Lib.hid rfl)
      · unfold cmpI; rw [if_neg (by omega)]; split <;> omega
      · unfold cmpI; rw [if_neg (by omega)]; split <;> omega
end Go.Proofs.YteaoaoknpihchaaDoor

namespace Go.Proofs.YteaoaoknpihchaaDoor
open Go.RowKit

/-- a result's box, and a variable that holds an integer -/
def PwS (w : World) (g : Nat) (nb : Bool) (p : Option Addr) (n c : Nat) (W : World) : Prop := Ar0 w W ∧ W.heap[g]? = some (.cells #[.bool nb, .slice p n c] 24 (0, 0)) ∧ w.heap.size < g
section
variable {w W w' : World} {g : Nat} {nb : Bool} {p : Option Addr} {n c : Nat}
theorem PwS.facts (h : PwS w g nb p n c W) : W.cell? ⟨g, 0, none⟩ = some (.bool nb) ∧ W.cell? ⟨g, 1, none⟩ = some (.slice p n c) ∧ W.frozen? ⟨g, 0, none⟩ = false ∧ W.frozen? ⟨g, 1, none⟩ = false := by
  obtain ⟨_, h3, _⟩ := h
  refine ⟨by simp [World.cell?, h3], by simp [World.cell?, h3], by simp [World.frozen?, h3], by simp [World.frozen?, h3]⟩
theorem PwS.later (h : PwS w g nb p n c W) (hb : Below W.heap.size W w') : PwS w g nb p n c w' := ⟨h.1.later hb, (hb.block _ (lt_blk h.2.1)).trans h.2.1, h.2.2⟩
theorem PwS.drew (h : PwS w g nb p n c W) : PwS w g nb p n c W.drew := h.later ((Below.refl _ W).drew)
theorem PwS.lt (h : PwS w g nb p n c W) : g < W.heap.size := lt_blk h.2.1
theorem Ar0.other {i : Nat} {v : Value} (h : Ar0 w W) (hg : w.heap.size < g) : Ar0 w (W.setCell ⟨g, i, none⟩ v) := by
  obtain ⟨⟨u, x, h3⟩, h4⟩ := h
  exact ⟨⟨u, x, by rw [heap_setCell_other _ _ _ _ (by simp; omega)]; exact h3⟩, h4.setCell (by simp; omega) _⟩
theorem PwS.store (h : PwS w g nb p n c W) (nb' : Bool) (p' : Option Addr) (n' c' : Nat) : PwS w g nb' p' n' c' ((W.setCell ⟨g, 0, none⟩ (.bool nb')).setCell ⟨g, 1, none⟩ (.slice p' n' c')) := by
  refine ⟨(h.1.other h.2.2).other h.2.2, ?_, h.2.2⟩
  rw [heap_setCell_self _ _ _ _ _ _ (heap_setCell_self _ _ _ _ _ _ h.2.1)]; rfl
end
/-- the integer that the variable holds -/
def PwI (w : World) (g : Nat) (nb : Bool) (p : Option Addr) (n c : Nat) (z : Int) (W : World) : Prop := PwS w g nb p n c W ∧ IntAt W nb p n c z ∧ ∀ q, p = some q → w.heap.size < q.block ∧ q.block ≠ g
theorem ten_len (k : Nat) (h : k ≤ 30) : (digs ((10 : Int) ^ k).natAbs).length ≤ 4 := by
  have e : ((10 : Int) ^ k).natAbs = 10 ^ k := by rw [Int.natAbs_pow]; rfl
  rw [e]
  have h1 : (10 : Nat) ^ k ≤ 10 ^ 30 := Nat.pow_le_pow_right (by omega) h
  refine digs_len_le ?_
  have h2 : pw 4 = 1000000000000000000000000000000000000 := by decide
  have h3 : (10 : Nat) ^ 30 = 1000000000000000000000000000000 := by decide
  rw [h3] at h1
  omega

set_option maxRecDepth 100000 in
set_option maxHeartbeats 1600000 in
theorem power_any (K : Nat) (hK : K ≤ 29) (w : World) :
    Calls Tryd.prog 33 #[.int .i64 (K : Int)] w (RetI w (10 ^ K)) := by
  have hof : Hid (∀ v W, v = (1 : Int) ∨ v = 10 → Calls Tryd.prog 10 #[.int .i64 v] W (RetI W v)) := Lib.hid fun v W h => rOf_any v (by omega) (by omega) W
  have hS0 := Lib.hid (Ar0.start w)
  go_enter Tryd.func33, Tryd.ntmps33
  go_wp2_with fail
  generalize w.alloc (.cells #[.bool false, .slice none 0 0] 24) = w0 at hS0 ⊢
  refine (hof.out _ _ (.inl rfl)).mono ?_
  rintro e w1 ⟨nb, p, n, c, rfl, hI0, hb1, hp0⟩
  have hS1 := hS0.out.later hb1
  have hP0 : PwI w w1.heap.size nb p n c (10 ^ 0) (w1.alloc (.cells #[.bool nb, .slice p n c] 24)) := by
    refine ⟨⟨hS1.later (below_new _ _), heap_alloc_new _ _, hS1.top⟩, hI0.later (below_new _ _), fun q hq => ?_⟩
    have h1 := hp0 q hq
    have h2 := hS0.out.top
    refine ⟨by omega, ?_⟩
    rcases hI0.2.2.1 with h | ⟨b, o, hbo, hcc⟩
    · exact absurd (digs_nil.1 h) (by decide)
    · have hl : 0 < (digs (1 : Int).natAbs).length := by rw [digs_pos (by decide)]; simp
      have := World.block_lt_of_cell? w1 _ (hcc 0 hl)
      rw [hbo] at hq
      cases hq
      simp at this ⊢
      omega
  have hP := Lib.hid hP0
  clear hI0 hp0 hP0 hS1 hb1 hS0
  go_wp2_with fail
  generalize w1.alloc (.cells #[.bool nb, .slice p n c] 24) = w2 at hP ⊢
  generalize w1.heap.size = g at hP ⊢
  go_loopw [4] (fun iv wr => ∃ (k : Nat) (nb : Bool) (p : Option Addr) (n c : Nat), k ≤ K ∧ iv = .int .i64 (k : Int) ∧ PwI w g nb p n c (10 ^ k) wr) (fun iv _ => K - (intOf iv).toNat)
  case atStart => exact ⟨0, _, _, _, _, Nat.zero_le _, rfl, hP.out⟩
  case round =>
    obtain ⟨k, nb, p, n, c, hk, rfl, hPS, hI, hp⟩ := hrel
    clear hP
    have hnl : Hid (n ≤ 4) := Lib.hid (by rw [hI.2.1]; exact ten_len k (by omega))
    have hf0 := hPS.drew.facts
    have hI' := Lib.hid hI
    have hp' := Lib.hid hp
    have hPS' := Lib.hid hPS
    clear hI hp hPS
    by_cases hlt : k < K
    · have k1 : (k : Int) < (K : Int) := by omega
      have hmul : Hid (∀ W nb2 p2 n2 c2, Below wr.heap.size wr W → IntAt W nb2 p2 n2 c2 10 → Calls Tryd.prog 20 #[.agg #[.bool nb, .slice p n c], .agg #[.bool nb2, .slice p2 n2 c2]] W (RetI W (10 ^ (k + 1)))) := Lib.hid fun W nb2 p2 n2 c2 hb h => by
        rw [Int.pow_succ]
        refine rMul_any nb nb2 p p2 n c n2 c2 (10 ^ k) 10 W (hI'.out.later hb).z h.z (by have := hnl.out; omega) ?_
        rw [h.2.1, show (10 : Int).natAbs = 10 from rfl, digs_pos (by decide), show 10 / 1000000000 = 0 from rfl, digs_zero]
        decide
      go_wp2_with fail
      go_region_with (first | (go_at_call 10; refine (hof.out _ _ (.inr rfl)).mono ?_; rintro e w3 ⟨nb3, p3, n3, c3, rfl, hI3, hb3, hp3⟩; have hf3 := (hPS'.out.drew.later hb3).facts; have hI3' := Lib.hid hI3; have hb3' := Lib.hid (below_tr ((Below.refl _ wr).drew) hb3); clear hI3 hb3 hp3) | (go_at_call 20; refine (hmul.out _ _ _ _ _ hb3'.out hI3'.out).mono ?_; rintro e w4 ⟨nb4, p4, n4, c4, rfl, hI4, hb4, hp4⟩; have hPS4 := hPS'.out.later (below_tr hb3'.out hb4); have hf4 := hPS4.facts; have hI4' := Lib.hid hI4; have hp4' := Lib.hid hp4; have hb4' := Lib.hid hb4; clear hI4 hb4 hp4))
      all_goals
        have hg3 := Lib.hid ((hPS'.out.later hb3'.out).lt)
        have hne : Hid (∀ q, p4 = some q → w.heap.size < q.block ∧ q.block ≠ g) := Lib.hid fun q hq => by
          have h1 := hp4'.out q hq
          have h2 := hg3.out
          have h3 := hPS'.out.2.2
          exact ⟨by omega, by omega⟩
        have hres : Hid (PwI w g nb4 p4 n4 c4 (10 ^ (k + 1)) ((w4.setCell ⟨g, 0, none⟩ (.bool nb4)).setCell ⟨g, 1, none⟩ (.slice p4 n4 c4))) := Lib.hid ⟨hPS4.store nb4 p4 n4 c4, (hI4'.out.store (fun q hq => (hne.out q hq).2)).store (fun q hq => (hne.out q hq).2), hne.out⟩
        clear hPS4 hf4 hf0
        try clear hf3
        go_wp2_with fail
        exact ⟨⟨k + 1, nb4, p4, n4, c4, by omega, by simp, hres.out⟩, by simp [intOf]; omega⟩
    · have hk' : k = K := by omega
      subst hk'
      have hA := hPS'.out.1
      have hf1 := hA.facts
      have hf2 := hPS'.out.facts
      have hfin := Lib.hid (hA.ret (fr := fun q => w.heap.size ≤ q.block) hI'.out (fun q hq => ⟨by have := hp'.out q hq; omega, by have := hp'.out q hq; omega⟩) rfl)
      clear hf0
      go_wp2_with fail
      exact bodyPost_ret (v := .agg #[.bool nb, .slice p n c]) (results_cell_row rfl _ _ w.heap.size 24 _ (0, 0) _ rfl (hA.res _ _) Tryd.underlying24 rfl size_Int) rfl hfin.out
end Go.Proofs.YteaoaoknpihchaaDoor
