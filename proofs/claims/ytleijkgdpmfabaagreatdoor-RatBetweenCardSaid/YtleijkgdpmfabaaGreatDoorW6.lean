/- Contracts of the package integer and its reference: integer.Sub, Neg, Compare, Sign. integer.digitsOf, Of. The library functions that the code calls, by the shelf of contracts, in plain words. integer.root: the first guess for at most two digits. integer.root: Newton's steps. The plain mathematics of layer 1 (as in the texts of stage 1). -/
import Derived.Test.YtleijkgdpmfabaaGreatDoorW5
import Derived.Shelf.Small.Wraps
import Derived.Shelf.Strconv.AppendIntPublic10
import Derived.Shelf.Strconv.Atoi
import Derived.Shelf.Strconv.Itoa0
import Derived.Shelf.Strconv.Itoa3
import Derived.Shelf.Strings.Search2
import Derived.Shelf.LaysM
import Derived.Shelf.LaysC
import Derived.Test.YtleijkgdpmfabaaGreatDoorProg
import Derived.Test.YtleijkgdpmfabaaGreatDoorW4
import Derived.Deep.LoopGhost
import Derived.Test.YtleijkgdpmfabaaGreatDoorW1
set_option linter.unusedVariables false
namespace Go.Proofs.YtleijkgdpmfabaaGreatDoor
open Go.RowKit
set_option maxRecDepth 100000 in
set_option maxHeartbeats 1600000 in
theorem Sub_go (nx ny : Bool) (px py : Option Addr) (lx cx ly cy : Nat) (s : Int) (w : World) (hca : Hid (∀ W, Below w.heap.size w W → Calls Tryz.prog 88 #[.agg #[.bool nx, .slice px lx cx], .agg #[.bool (!ny), .slice py ly cy]] W (RetI W s))) :
    Calls Tryz.prog 67 #[.agg #[.bool nx, .slice px lx cx], .agg #[.bool ny, .slice py ly cy]] w (RetI w s) := by
  have hf := fun W (h : Ar2 w nx px lx cx ny py ly cy W) => h.facts
  have hS0 := Lib.hid (@Ar2.start nx px lx cx ny py ly cy w)
  go_enter Tryz.func67, Tryz.ntmps67
  go_upto_region 1 with fail
  generalize ((w.alloc (.cells #[.bool nx, .slice px lx cx] 24)).alloc (.cells #[.bool ny, .slice py ly cy] 24)).alloc (.cells #[.bool false, .slice none 0 0] 24) = W0 at hS0 ⊢
  have hS1 := hS0.out
  have hf1 := hf _ hS1
  clear hS0
  go_wp2_with fail
  refine (hca.out _ hS1.2.2.2).mono ?_
  rintro e w2 ⟨nb, p, n2, c2, rfl, hI0, hb2, hp0⟩
  have hS2 := hS1.later hb2
  have hf2 := hf _ hS2
  have hI := Lib.hid hI0
  have hp : Hid (∀ q, p = some q → w.heap.size + 1 + 1 < q.block) := Lib.hid fun q hq => by have := hp0 q hq; have := hS1.top; omega
  clear hI0 hp0 hb2 hf1
  have hfin := Lib.hid (hS2.ret hI.out hp.out rfl)
  go_wp2_with fail
  exact bodyPost_ret (v := .agg #[.bool nb, .slice p n2 c2]) (results_cell_row rfl _ _ (w.heap.size + 1 + 1) 24 _ (0, 0) _ rfl (hS2.res _ _) Tryz.underlying24 rfl size_Int) rfl hfin.out
theorem Sub_any (nx ny : Bool) (px py : Option Addr) (lx cx ly cy : Nat) (x y : Int) (w : World) (hx0 : IntZ w nx px lx cx x) (hy0 : IntZ w ny py ly cy y) (hlx : lx ≤ 549755813887) (hly : ly ≤ 549755813887) :
    Calls Tryz.prog 67 #[.agg #[.bool nx, .slice px lx cx], .agg #[.bool ny, .slice py ly cy]] w (RetI w (x - y)) :=
  Sub_go nx ny px py lx cx ly cy (x - y) w (Lib.hid fun W h => by rw [Int.sub_eq_add_neg]; exact (Add_any nx (!ny) px py lx cx ly cy x (-y) W (hx0.later h) (hy0.later h).neg hlx hly))
def Ar1 (w : World) (nx : Bool) (px : Option Addr) (lx cx : Nat) (W : World) : Prop :=
  W.heap[w.heap.size]? = some (.cells #[.bool nx, .slice px lx cx] 24 (0, 0)) ∧ (∃ u v, W.heap[w.heap.size + 1]? = some (.cells #[u, v] 24 (0, 0))) ∧ Below w.heap.size w W
section
variable {w W w' : World} {nx : Bool} {px : Option Addr} {lx cx : Nat}
theorem Ar1.facts (h : Ar1 w nx px lx cx W) : W.cell? ⟨w.heap.size, 0, none⟩ = some (.bool nx) ∧ W.cell? ⟨w.heap.size, 1, none⟩ = some (.slice px lx cx) ∧
    W.cell? ⟨w.heap.size + 1, 0, none⟩ = some (oldv W (w.heap.size + 1) 0) ∧ W.cell? ⟨w.heap.size + 1, 1, none⟩ = some (oldv W (w.heap.size + 1) 1) ∧ W.frozen? ⟨w.heap.size + 1, 0, none⟩ = false ∧ W.frozen? ⟨w.heap.size + 1, 1, none⟩ = false := by
  obtain ⟨h1, ⟨u, v, h3⟩, _⟩ := h
  refine ⟨by simp [World.cell?, h1], by simp [World.cell?, h1], by simp [oldv, World.cell?, h3], by simp [oldv, World.cell?, h3], by simp [World.frozen?, h3], by simp [World.frozen?, h3]⟩
theorem Ar1.later (h : Ar1 w nx px lx cx W) (hb : Below W.heap.size W w') : Ar1 w nx px lx cx w' := by
  obtain ⟨h1, ⟨u, v, h3⟩, h6⟩ := h
  exact ⟨(hb.block _ (lt_blk h1)).trans h1, ⟨u, v, (hb.block _ (lt_blk h3)).trans h3⟩, below_tr h6 hb⟩
theorem Ar1.drew (h : Ar1 w nx px lx cx W) : Ar1 w nx px lx cx W.drew := h.later ((Below.refl _ W).drew)
theorem Ar1.start (w : World) : Ar1 w nx px lx cx ((w.alloc (.cells #[.bool nx, .slice px lx cx] 24)).alloc (.cells #[.bool false, .slice none 0 0] 24)) := by
  have hb : Below w.heap.size w ((w.alloc (.cells #[.bool nx, .slice px lx cx] 24)).alloc (.cells #[.bool false, .slice none 0 0] 24)) := ((Below.refl _ _).alloc (Nat.le_refl _) _).alloc (by simp) _
  refine ⟨?_, ⟨_, _, heap_alloc2_new _ _ _⟩, hb⟩
  rw [Below.heap_alloc _ _ _ (by simp)]; exact heap_alloc_new _ _
theorem Ar1.res (h : Ar1 w nx px lx cx W) (p q : Value) : ((W.setCell ⟨w.heap.size + 1, 0, none⟩ p).setCell ⟨w.heap.size + 1, 1, none⟩ q).heap[w.heap.size + 1]? = some (.cells #[p, q] 24 (0, 0)) := by
  obtain ⟨h1, ⟨u, v, h3⟩, h6⟩ := h
  rw [heap_setCell_self _ _ _ _ _ _ (heap_setCell_self _ _ _ _ _ _ h3)]; rfl
theorem Ar1.store (h : Ar1 w nx px lx cx W) (p q : Value) : Ar1 w nx px lx cx ((W.setCell ⟨w.heap.size + 1, 0, none⟩ p).setCell ⟨w.heap.size + 1, 1, none⟩ q) := by
  refine ⟨?_, ⟨p, q, h.res p q⟩, (h.2.2.setCell (by simp) _).setCell (by simp) _⟩
  rw [heap_setCell_other _ _ _ _ (by simp), heap_setCell_other _ _ _ _ (by simp)]; exact h.1
theorem Ar1.top (h : Ar1 w nx px lx cx W) : w.heap.size + 1 < W.heap.size := by
  obtain ⟨u, v, h3⟩ := h.2.1
  exact lt_blk h3
theorem Ar1.ret {nb : Bool} {p : Option Addr} {n c : Nat} {z z' : Int} (h : Ar1 w nx px lx cx W) (hI : IntAt W nb p n c z) (hp : ∀ q, p = some q → w.heap.size + 1 < q.block) (hz : z = z') :
    RetI w z' (.returned (.agg #[.bool nb, .slice p n c])) ((W.setCell ⟨w.heap.size + 1, 0, none⟩ (.bool nb)).setCell ⟨w.heap.size + 1, 1, none⟩ (.slice p n c)) := by
  subst hz
  have hne : ∀ q, p = some q → q.block ≠ w.heap.size + 1 := fun q hq => by have := hp q hq; omega
  exact ⟨_, _, _, _, rfl, (hI.store hne).store hne, (h.store _ _).2.2, fun q hq => by have := hp q hq; omega⟩
end
set_option maxRecDepth 100000 in
set_option maxHeartbeats 1600000 in
theorem Neg_any (nx : Bool) (px : Option Addr) (lx cx : Nat) (x : Int) (w : World) (hx0 : IntZ w nx px lx cx x) (hlx : lx ≤ 549755813887) :
    Calls Tryz.prog 82 #[.agg #[.bool nx, .slice px lx cx]] w (RetI w (-x)) := by
  have hca : Hid (∀ W, Ar1 w nx px lx cx W → Calls Tryz.prog 116 #[.slice px lx cx, .int .i64 (lx : Int)] W (NewN W lx fun z => z = cpy (digs x.natAbs) lx)) :=
    Lib.hid fun W h => copied_at _ _ _ _ _ lx W rfl (Rdi_below h.2.2 hx0.2.2.1) hx0.2.1 (by omega)
  have hf := fun W (h : Ar1 w nx px lx cx W) => h.facts
  have hS0 := Lib.hid (@Ar1.start nx px lx cx w)
  have hsg : Hid (Dg (cpy (digs x.natAbs) lx) ∧ sg (!nx) (val (cpy (digs x.natAbs) lx)) = -x) := Lib.hid (by
    rw [hx0.2.1, cpy_self, val_digs]
    refine ⟨Dg_digs _, ?_⟩
    have h1 := wk_neg hx0.1
    cases nx <;> simp [sg] at * <;> omega)
  obtain ⟨Z, hZ⟩ : ∃ Z, cpy (digs x.natAbs) lx = Z := ⟨_, rfl⟩
  rw [hZ] at hca hsg
  clear hx0 hZ
  go_enter Tryz.func82, Tryz.ntmps82
  go_wp2_with fail
  generalize (w.alloc (.cells #[.bool nx, .slice px lx cx] 24)).alloc (.cells #[.bool false, .slice none 0 0] 24) = W0 at hS0 ⊢
  have hS1 := hS0.out
  clear hS0
  go_region_held3 (fun W => Ar1 w nx px lx cx W) (first | exact Ar1.drew (by assumption) | exact Ar1.later (by assumption) (by assumption) | exact Ar1.store (by assumption) _ _) (first | (go_at_call 116; refine (hca.out _ (by assumption)).mono ?_; rintro e w1 ⟨g, z, rfl, hg, hz0, hb1, hn0, rfl⟩; have hz := Lib.hid hz0; have hn := Lib.hid hn0; clear hz0 hn0) | (go_at_call 108; refine (made_any _ _ _ _ z _ hz.out.rdi hn.out.symm (Nat.le_refl _) (by omega) hsg.out.1).mono ?_; rintro e w2 ⟨nb, p, n2, c2, rfl, hI0, hb2, hp0⟩; have hI := Lib.hid hI0; have hp := Lib.hid hp0; clear hI0 hp0))
  have hS2 := (hS1.drew.later hb1).later hb2
  have hgt : w.heap.size + 1 < g := Nat.lt_of_lt_of_le hS1.drew.top hg
  have hfin := Lib.hid (hS2.ret hI.out (new_top hp.out hgt) hsg.out.2)
  go_wp2_with fail
  exact bodyPost_ret (v := .agg #[.bool nb, .slice p n2 c2]) (results_cell_row rfl _ _ (w.heap.size + 1) 24 _ (0, 0) _ rfl (hS2.res _ _) Tryz.underlying24 rfl size_Int) rfl hfin.out
open Go.RowKit
def BlkT (t : TypeId) (w : World) (g : Nat) (l : List Int) : Prop := w.heap[g]? = some (.cells (zvs l).toArray t (0, 0))
section
variable {t : TypeId} {w : World} {g i : Nat} {l : List Int}
theorem BlkT.cell (h : BlkT t w g l) (hi : i < l.length) : w.cell? ⟨g, i, none⟩ = some (.int .i64 (iat l i)) := by
  unfold BlkT at h
  simp [World.cell?, h, ← zvs_get hi]
theorem BlkT.free (h : BlkT t w g l) (i : Nat) : w.frozen? ⟨g, i, none⟩ = false := by
  unfold BlkT at h
  simp [World.frozen?, h]
theorem BlkT.set (h : BlkT t w g l) (i : Nat) (v : Int) : BlkT t (w.setCell ⟨g, i, none⟩ (.int .i64 v)) g (l.set i v) := by
  unfold BlkT at *
  rw [heap_setCell_self _ _ _ _ _ _ h, zvs_set]
theorem BlkT.rdi (h : BlkT t w g l) : Rdi w (some ⟨g, 0, none⟩) l :=
  .inr ⟨g, 0, rfl, fun i hi => by rw [Nat.zero_add]; exact h.cell hi⟩
end
def U64 (M : Nat) : Prop := M < 18446744073709551616
def DofL (w : World) (g m : Nat) (k M : Nat) (wr : World) : Prop := ∃ A : List Int, A.length = 3 ∧ A.take k ++ digs M = digs m ∧ BlkT 112 wr g A ∧ Below w.heap.size w wr
theorem take_set (A : List Int) (k : Nat) (v : Int) (h : k < A.length) : (A.set k v).take (k + 1) = A.take k ++ [v] := by
  rw [List.take_succ_eq_append_getElem (by rw [List.length_set]; exact h), List.take_set_of_le (Nat.le_refl _)]
  simp
set_option maxRecDepth 100000 in
set_option maxHeartbeats 800000 in
theorem digitsOf_any (m : Nat) (hm : m < 18446744073709551616) (w : World) :
    Calls Tryz.prog 109 #[.int .u64 (m : Int)] w (NewI w fun z => z = digs m) := by
  have h3 : Hid ((digs m).length ≤ 3) := Lib.hid (digs_len_le (by have : pw 3 = 1000000000000000000000000000 := by decide
                                                                  omega))
  have hI : Hid (DofL w w.heap.size m 0 m (w.alloc (.cells #[.int .i64 0, .int .i64 0, .int .i64 0] 112))) := Lib.hid ⟨[0, 0, 0], rfl, rfl, heap_alloc_new _ _, below_new _ _⟩
  have hm' : Hid (U64 m) := Lib.hid hm
  clear hm
  go_enter Tryz.func109, Tryz.ntmps109
  go_wp2_with fail
  generalize w.alloc (.cells #[.int .i64 0, .int .i64 0, .int .i64 0] 112) = w1 at hI ⊢
  obtain ⟨g, hg⟩ : ∃ g, w.heap.size = g := ⟨_, rfl⟩
  rw [hg] at hI ⊢
  have hgg : Hid (w.heap.size ≤ g) := Lib.hid (Nat.le_of_eq hg)
  clear hg
  go_loopw [0, 4] (fun mv kv wr => ∃ k M : Nat, kv = .int .i64 (k : Int) ∧ mv = .int .u64 (M : Int) ∧ U64 M ∧ Hid (k + (digs M).length = (digs m).length) ∧ DofL w g m k M wr) (fun mv _ _ => (intOf mv).toNat)
  case atStart => exact ⟨0, m, rfl, rfl, hm'.out, Lib.hid (Nat.zero_add _), hI.out⟩
  case round =>
    obtain ⟨k, M, rfl, rfl, hM, hkl, hL⟩ := hrel
    clear hI
    by_cases h0 : M = 0
    · subst h0
      obtain ⟨A, hA, hd, hB, hW⟩ := hL
      rw [digs_zero, List.append_nil] at hd
      have hk3 : k ≤ 3 := by have h1 := hkl.out; have h2 := h3.out; omega
      have hc : Hid (Calls Tryz.prog 116 #[.slice (some ⟨g, 0, none⟩) 3 3, .int .i64 (k : Int)] wr (NewN wr k fun z => z = cpy A k)) := Lib.hid (copied_at _ 3 3 A _ k wr rfl hB.rdi hA.symm (by omega))
      have hW' := Lib.hid hW
      have hfin : Hid (cpy A k = digs m) := Lib.hid (by unfold cpy; rw [hd, show k - A.length = 0 by omega]; simp)
      rw [show ((0 : Nat) : Int) = 0 from rfl]
      clear hB hW hd hA hkl h3 hM
      go_wp2_with (go_at_call 116; refine hc.out.mono ?_; rintro e w2 ⟨g2, z, rfl, hg2, hz0, hb2, hn0, rfl⟩; have hz := Lib.hid hz0; have hb := Lib.hid hb2; have hn := Lib.hid hn0; clear hz0 hb2 hn0)
      go_ret
      exact ⟨g2, k, _, rfl, Nat.le_trans hW'.out.size hg2, hz.out, below_tr hW'.out hb.out, hn.out, hfin.out⟩
    · obtain ⟨A, hA, hd, hB, hW⟩ := hL
      have hdp := digs_pos h0
      have hk3 : k < 3 := by have h1 := hkl.out; have h2 := h3.out; rw [hdp, List.length_cons] at h1; omega
      have cx := hB.cell (i := k) (by omega)
      have cf := hB.free k
      have hst : Hid (DofL w g m (k + 1) (M / 1000000000) (wr.setCell ⟨g, k, none⟩ (.int .i64 ((M % 1000000000 : Nat) : Int)))) := Lib.hid ⟨_, by rw [List.length_set]; exact hA, by rw [take_set _ _ _ (by omega), List.append_assoc, ← hd, hdp]; rfl, hB.set _ _, hW.setCell hgg.out _⟩
      have hkl2 : Hid (k + 1 + (digs (M / 1000000000)).length = (digs m).length) := Lib.hid (by have := hkl.out; rw [hdp, List.length_cons] at this; omega)
      have e1 : ((M % 1000000000 : Nat) : Int) = (M : Int) % 1000000000 := by omega
      have e2 : ((M / 1000000000 : Nat) : Int) = (M : Int) / 1000000000 := by omega
      rw [e1] at hst
      have e2' := Lib.hid e2
      have m0 : (0 : Int) < (M : Int) := by omega
      have hM2 : Hid (U64 (M / 1000000000)) := Lib.hid (by unfold U64 at *; omega)
      have hw : IntKind.u64.wrap ((M : Int) / 1000000000) = (M : Int) / 1000000000 := by unfold U64 at hM; simp [IntKind.wrap, IntKind.bits, IntKind.signed]; omega
      have k0 : 0 ≤ (k : Int) := by omega
      have k1 : (k : Int) < 3 := by omega
      have hlt := Lib.hid (show M / 1000000000 < M from Nat.div_lt_self (by omega) (by omega))
      generalize iat A k = v at cx
      clear hA hd hB hW hdp e1 e2 h0 hM
      go_wp2_with fail
      exact ⟨⟨k + 1, M / 1000000000, by simp, by rw [e2'.out], hM2.out, hkl2.out, hst.out⟩, by have := hlt.out; simp only [intOf]; omega⟩
def Ar0 (w : World) (W : World) : Prop := (∃ u v, W.heap[w.heap.size]? = some (.cells #[u, v] 24 (0, 0))) ∧ Below w.heap.size w W
section
variable {w W w' : World}
theorem Ar0.facts (h : Ar0 w W) : W.cell? ⟨w.heap.size, 0, none⟩ = some (oldv W w.heap.size 0) ∧ W.cell? ⟨w.heap.size, 1, none⟩ = some (oldv W w.heap.size 1) ∧ W.frozen? ⟨w.heap.size, 0, none⟩ = false ∧ W.frozen? ⟨w.heap.size, 1, none⟩ = false := by
  obtain ⟨⟨u, v, h3⟩, _⟩ := h
  refine ⟨by simp [oldv, World.cell?, h3], by simp [oldv, World.cell?, h3], by simp [World.frozen?, h3], by simp [World.frozen?, h3]⟩
theorem Ar0.later (h : Ar0 w W) (hb : Below W.heap.size W w') : Ar0 w w' := by
  obtain ⟨⟨u, v, h3⟩, h6⟩ := h
  exact ⟨⟨u, v, (hb.block _ (lt_blk h3)).trans h3⟩, below_tr h6 hb⟩
theorem Ar0.drew (h : Ar0 w W) : Ar0 w W.drew := h.later ((Below.refl _ W).drew)
theorem Ar0.start (w : World) : Ar0 w (w.alloc (.cells #[.bool false, .slice none 0 0] 24)) := ⟨⟨_, _, heap_alloc_new _ _⟩, below_new _ _⟩
theorem Ar0.res (h : Ar0 w W) (p q : Value) : ((W.setCell ⟨w.heap.size, 0, none⟩ p).setCell ⟨w.heap.size, 1, none⟩ q).heap[w.heap.size]? = some (.cells #[p, q] 24 (0, 0)) := by
  obtain ⟨⟨u, v, h3⟩, h6⟩ := h
  rw [heap_setCell_self _ _ _ _ _ _ (heap_setCell_self _ _ _ _ _ _ h3)]; rfl
theorem Ar0.store (h : Ar0 w W) (p q : Value) : Ar0 w ((W.setCell ⟨w.heap.size, 0, none⟩ p).setCell ⟨w.heap.size, 1, none⟩ q) :=
  ⟨⟨p, q, h.res p q⟩, (h.2.setCell (Nat.le_refl _) _).setCell (Nat.le_refl _) _⟩
theorem Ar0.top (h : Ar0 w W) : w.heap.size < W.heap.size := by
  obtain ⟨u, v, h3⟩ := h.1
  exact lt_blk h3
theorem Ar0.ret {fr : Addr → Prop} {nb : Bool} {p : Option Addr} {n c : Nat} {z z' : Int} (h : Ar0 w W) (hI : IntAt W nb p n c z) (hp : ∀ q, p = some q → q.block ≠ w.heap.size ∧ fr q) (hz : z = z') :
    RetF fr w z' (.returned (.agg #[.bool nb, .slice p n c])) ((W.setCell ⟨w.heap.size, 0, none⟩ (.bool nb)).setCell ⟨w.heap.size, 1, none⟩ (.slice p n c)) := by
  subst hz
  have hne : ∀ q, p = some q → q.block ≠ w.heap.size := fun q hq => (hp q hq).1
  exact ⟨_, _, _, _, rfl, (hI.store hne).store hne, (h.store _ _).2, fun q hq => (hp q hq).2⟩
end
theorem digitsOf_at (v : Int) (m : Nat) (hv : v = (m : Int)) (hm : m < 18446744073709551616) (w : World) :
    Calls Tryz.prog 109 #[.int .u64 v] w (NewI w fun z => z = digs m) := by subst hv; exact digitsOf_any m hm w
set_option maxRecDepth 100000 in
set_option maxHeartbeats 800000 in
theorem Of_any (n : Int) (h1 : -9223372036854775808 ≤ n) (h2 : n ≤ 9223372036854775807) (w : World) :
    Calls Tryz.prog 68 #[.int .i64 n] w (RetI w n) := by
  have hu : Hid (∀ v W, v = (n.natAbs : Int) → Calls Tryz.prog 109 #[.int .u64 v] W (NewI W fun z => z = digs n.natAbs)) := Lib.hid fun v W hv => digitsOf_at v _ hv (by omega) W
  have hS0 := Lib.hid (Ar0.start w)
  have hsg : Hid (Dg (digs n.natAbs) ∧ sg (decide (n < 0)) (val (digs n.natAbs)) = n) := Lib.hid ⟨Dg_digs _, by
    rw [val_digs]
    by_cases h : n < 0
    · rw [decide_eq_true h]; show -(n.natAbs : Int) = n; omega
    · rw [decide_eq_false h]; show (n.natAbs : Int) = n; omega⟩
  have hlen : Hid ((digs n.natAbs).length ≤ 3) := Lib.hid (digs_len_le (by
    have : pw 3 = 1000000000000000000000000000 := by decide
    omega))
  obtain ⟨D, hD⟩ : ∃ D, digs n.natAbs = D := ⟨_, rfl⟩
  rw [hD] at hu hsg hlen
  clear hD
  by_cases h0 : n < 0
  · have e1 : IntKind.u64.wrap n = n + 18446744073709551616 := by simp [IntKind.wrap, IntKind.bits, IntKind.signed]; omega
    have hd : decide (n < 0) = true := decide_eq_true h0
    go_enter Tryz.func68, Tryz.ntmps68
    go_wp2_with fail
    generalize w.alloc (.cells #[.bool false, .slice none 0 0] 24) = W0 at hS0 ⊢
    have hS1 := hS0.out
    clear hS0
    refine (hu.out _ _ (by simp [IntKind.wrap, IntKind.bits, IntKind.signed]; omega)).mono ?_
    rintro e w1 ⟨g, n1, z, rfl, hg, hz0, hb1, hn0, rfl⟩
    have hz := Lib.hid hz0
    have hn := Lib.hid hn0
    have hS2 := hS1.later hb1
    have hgt : w.heap.size < g := Nat.lt_of_lt_of_le hS1.top hg
    have hnl : n1 ≤ 3 := by have := hlen.out; omega
    clear hz0 hn0 hb1
    go_wp2_with fail
    refine (made_any true _ n1 n1 z _ hz.out.rdi hn.out.symm (Nat.le_refl _) (by omega) hsg.out.1).mono ?_
    rintro e w2 ⟨nb, p, n2, c2, rfl, hI0, hb2, hp0⟩
    have hI := Lib.hid hI0
    have hS3 := hS2.later hb2
    have hf3 := hS3.facts
    have hfin : Hid (RetI w n (.returned (.agg #[.bool nb, .slice p n2 c2])) ((w2.setCell ⟨w.heap.size, 0, none⟩ (.bool nb)).setCell ⟨w.heap.size, 1, none⟩ (.slice p n2 c2))) := Lib.hid (hS3.ret hI.out (fun q hq => by
      have := hp0 q hq
      cases this
      exact ⟨by simp; omega, by simp; omega⟩) (by have := hsg.out.2; rw [hd] at this; exact this))
    clear hI0 hb2 hp0
    go_wp2_with fail
    exact bodyPost_ret (v := .agg #[.bool nb, .slice p n2 c2]) (results_cell_row rfl _ _ w.heap.size 24 _ (0, 0) _ rfl (hS3.res _ _) Tryz.underlying24 rfl size_Int) rfl hfin.out
  · have hd : decide (n < 0) = false := decide_eq_false h0
    go_enter Tryz.func68, Tryz.ntmps68
    go_wp2_with fail
    generalize w.alloc (.cells #[.bool false, .slice none 0 0] 24) = W0 at hS0 ⊢
    have hS1 := hS0.out
    clear hS0
    refine (hu.out _ _ (by omega)).mono ?_
    rintro e w1 ⟨g, n1, z, rfl, hg, hz0, hb1, hn0, rfl⟩
    have hz := Lib.hid hz0
    have hn := Lib.hid hn0
    have hS2 := hS1.later hb1
    have hgt : w.heap.size < g := Nat.lt_of_lt_of_le hS1.top hg
    have hnl : n1 ≤ 3 := by have := hlen.out; omega
    clear hz0 hn0 hb1
    go_wp2_with fail
    refine (made_any false _ n1 n1 z _ hz.out.rdi hn.out.symm (Nat.le_refl _) (by omega) hsg.out.1).mono ?_
    rintro e w2 ⟨nb, p, n2, c2, rfl, hI0, hb2, hp0⟩
    have hI := Lib.hid hI0
    have hS3 := hS2.later hb2
    have hf3 := hS3.facts
    have hfin : Hid (RetI w n (.returned (.agg #[.bool nb, .slice p n2 c2])) ((w2.setCell ⟨w.heap.size, 0, none⟩ (.bool nb)).setCell ⟨w.heap.size, 1, none⟩ (.slice p n2 c2))) := Lib.hid (hS3.ret hI.out (fun q hq => by
      have := hp0 q hq
      cases this
      exact ⟨by simp; omega, by simp; omega⟩) (by have := hsg.out.2; rw [hd] at this; exact this))
    clear hI0 hb2 hp0
    go_wp2_with fail
    exact bodyPost_ret (v := .agg #[.bool nb, .slice p n2 c2]) (results_cell_row rfl _ _ w.heap.size 24 _ (0, 0) _ rfl (hS3.res _ _) Tryz.underlying24 rfl size_Int) rfl hfin.out
end Go.Proofs.YtleijkgdpmfabaaGreatDoor

namespace Go.Proofs
open Go.Shelf
def Tryz.lays103_ren : Go.Shelf.Ren := ⟨fun | 103 => 130 | 210 => 147 | 206 => 165 | n => n, fun | 9 => 9 | 4 => 4 | 24 => 103 | 3 => 3 | n => n, fun | n => n⟩
theorem Tryz.lays103 : Go.Proofs.Lays.n103 Tryz.prog Tryz.lays103_ren := {
  mixed := by kernel_rfl
  f103 := Tryz.func130.trans (congrArg some (by kernel_rfl))
  f206 := Tryz.func165.trans (congrArg some (by kernel_rfl))
  f210 := Tryz.func147.trans (congrArg some (by kernel_rfl))
  t3 := Tryz.underlying3
  a3 := Tryz.isAgg3
  z3 := Tryz.sizeOf3
  v3 := Tryz.zeroValue3
  t4 := Tryz.underlying4
  a4 := Tryz.isAgg4
  z4 := Tryz.sizeOf4
  v4 := Tryz.zeroValue4
  t9 := Tryz.underlying9
  a9 := Tryz.isAgg9
  z9 := Tryz.sizeOf9
  v9 := Tryz.zeroValue9
  t24 := Tryz.underlying103
  a24 := Tryz.isAgg103
  z24 := Tryz.sizeOf103
  v24 := Tryz.zeroValue103 }
open Go.RowKit in
theorem Tryz.strings_CutPrefix (s p : ByteArray) (w : World) :
    Calls Tryz.prog 130 #[.string s, .string p] w fun e w' => e = .returned (.tuple #[.string ⟨(Lib.trimPrefix s.data.toList p.data.toList).toArray⟩, .bool (Lib.hasPrefix s.data.toList p.data.toList)]) ∧ w' = w := Any.strings_CutPrefix Tryz.lays103 s p w
def Tryz.lays172_ren : Go.Shelf.Ren := ⟨fun | 172 => 132 | 244 => 148 | 245 => 149 | 247 => 166 | 279 => 167 | 280 => 168 | 281 => 169 | 282 => 170 | 287 => 181 | 316 => 182 | 171 => 118 | 205 => 183 | 321 => 189 | 322 => 190 | 243 => 143 | 246 => 158 | 283 => 175 | 284 => 176 | 285 => 177 | 286 => 178 | 129 => 185 | 317 => 184 | 318 => 186 | 319 => 187 | 320 => 188 | 337 => 191 | 338 => 192 | n => n, fun | 9 => 9 | 3 => 3 | 75 => 107 | 76 => 108 | 4 => 4 | 5 => 5 | 167 => 137 | 37 => 55 | 0 => 0 | 85 => 138 | 2 => 2 | 168 => 140 | 53 => 88 | 175 => 157 | 46 => 135 | 210 => 161 | 127 => 168 | 145 => 171 | 143 => 169 | 21 => 21 | 171 => 149 | 173 => 152 | 212 => 164 | 51 => 154 | 20 => 20 | 213 => 165 | 232 => 173 | 233 => 174 | 80 => 175 | n => n, fun | 15 => 1 | 16 => 2 | 17 => 3 | 18 => 4 | 19 => 5 | n => n⟩
theorem Tryz.lays172 : Go.Proofs.Lays.n172 Tryz.prog Tryz.lays172_ren := {
  mixed := by kernel_rfl
  f129 := Tryz.func185.trans (congrArg some (by kernel_rfl))
  f171 := Tryz.func118.trans (congrArg some (by kernel_rfl))
  f172 := Tryz.func132.trans (congrArg some (by kernel_rfl))
  f205 := Tryz.func183.trans (congrArg some (by kernel_rfl))
  f243 := Tryz.func143.trans (congrArg some (by kernel_rfl))
  f244 := Tryz.func148.trans (congrArg some (by kernel_rfl))
  f245 := Tryz.func149.trans (congrArg some (by kernel_rfl))
  f246 := Tryz.func158.trans (congrArg some (by kernel_rfl))
  f247 := Tryz.func166.trans (congrArg some (by kernel_rfl))
  f279 := Tryz.func167.trans (congrArg some (by kernel_rfl))
  f280 := Tryz.func168.trans (congrArg some (by kernel_rfl))
  f281 := Tryz.func169.trans (congrArg some (by kernel_rfl))
  f282 := Tryz.func170.trans (congrArg some (by kernel_rfl))
  f283 := Tryz.func175.trans (congrArg some (by kernel_rfl))
  f284 := Tryz.func176.trans (congrArg some (by kernel_rfl))
  f285 := Tryz.func177.trans (congrArg some (by kernel_rfl))
  f286 := Tryz.func178.trans (congrArg some (by kernel_rfl))
  f287 := Tryz.func181.trans (congrArg some (by kernel_rfl))
  f316 := Tryz.func182.trans (congrArg some (by kernel_rfl))
  f317 := Tryz.func184.trans (congrArg some (by kernel_rfl))
  f318 := Tryz.func186.trans (congrArg some (by kernel_rfl))
  f319 := Tryz.func187.trans (congrArg some (by kernel_rfl))
  f320 := Tryz.func188.trans (congrArg some (by kernel_rfl))
  f321 := Tryz.func189.trans (congrArg some (by kernel_rfl))
  f322 := Tryz.func190.trans (congrArg some (by kernel_rfl))
  f337 := Tryz.func191.trans (congrArg some (by kernel_rfl))
  f338 := Tryz.func192.trans (congrArg some (by kernel_rfl))
  t0 := Tryz.underlying0
  a0 := Tryz.isAgg0
  z0 := Tryz.sizeOf0
  v0 := Tryz.zeroValue0
  t2 := Tryz.underlying2
  a2 := Tryz.isAgg2
  z2 := Tryz.sizeOf2
  v2 := Tryz.zeroValue2
  t3 := Tryz.underlying3
  a3 := Tryz.isAgg3
  z3 := Tryz.sizeOf3
  v3 := Tryz.zeroValue3
  t4 := Tryz.underlying4
  a4 := Tryz.isAgg4
  z4 := Tryz.sizeOf4
  v4 := Tryz.zeroValue4
  t5 := Tryz.underlying5
  a5 := Tryz.isAgg5
  z5 := Tryz.sizeOf5
  v5 := Tryz.zeroValue5
  t9 := Tryz.underlying9
  a9 := Tryz.isAgg9
  z9 := Tryz.sizeOf9
  v9 := Tryz.zeroValue9
  t20 := Tryz.underlying20
  a20 := Tryz.isAgg20
  z20 := Tryz.sizeOf20
  v20 := Tryz.zeroValue20
  t21 := Tryz.underlying21
  a21 := Tryz.isAgg21
  z21 := Tryz.sizeOf21
  v21 := Tryz.zeroValue21
  t37 := Tryz.underlying55
  a37 := Tryz.isAgg55
  z37 := Tryz.sizeOf55
  v37 := Tryz.zeroValue55
  t46 := Tryz.underlying135
  a46 := Tryz.isAgg135
  z46 := Tryz.sizeOf135
  v46 := Tryz.zeroValue135
  t51 := Tryz.underlying154
  a51 := Tryz.isAgg154
  z51 := Tryz.sizeOf154
  v51 := Tryz.zeroValue154
  t53 := Tryz.underlying88
  a53 := Tryz.isAgg88
  z53 := Tryz.sizeOf88
  v53 := Tryz.zeroValue88
  t75 := Tryz.underlying107
  a75 := Tryz.isAgg107
  z75 := Tryz.sizeOf107
  v75 := Tryz.zeroValue107
  t76 := Tryz.underlying108
  a76 := Tryz.isAgg108
  z76 := Tryz.sizeOf108
  v76 := Tryz.zeroValue108
  t85 := Tryz.underlying138
  a85 := Tryz.isAgg138
  z85 := Tryz.sizeOf138
  v85 := Tryz.zeroValue138
  t127 := Tryz.underlying168
  a127 := Tryz.isAgg168
  z127 := Tryz.sizeOf168
  v127 := Tryz.zeroValue168
  t143 := Tryz.underlying169
  a143 := Tryz.isAgg169
  z143 := Tryz.sizeOf169
  v143 := Tryz.zeroValue169
  t145 := Tryz.underlying171
  a145 := Tryz.isAgg171
  z145 := Tryz.sizeOf171
  v145 := Tryz.zeroValue171
  t167 := Tryz.underlying137
  a167 := Tryz.isAgg137
  z167 := Tryz.sizeOf137
  v167 := Tryz.zeroValue137
  t168 := Tryz.underlying140
  a168 := Tryz.isAgg140
  z168 := Tryz.sizeOf140
  v168 := Tryz.zeroValue140
  t171 := Tryz.underlying149
  a171 := Tryz.isAgg149
  z171 := Tryz.sizeOf149
  v171 := Tryz.zeroValue149
  t173 := Tryz.underlying152
  a173 := Tryz.isAgg152
  z173 := Tryz.sizeOf152
  v173 := Tryz.zeroValue152
  t175 := Tryz.underlying157
  a175 := Tryz.isAgg157
  z175 := Tryz.sizeOf157
  v175 := Tryz.zeroValue157
  t210 := Tryz.underlying161
  a210 := Tryz.isAgg161
  z210 := Tryz.sizeOf161
  v210 := Tryz.zeroValue161
  t212 := Tryz.underlying164
  a212 := Tryz.isAgg164
  z212 := Tryz.sizeOf164
  v212 := Tryz.zeroValue164
  t213 := Tryz.underlying165
  a213 := Tryz.isAgg165
  z213 := Tryz.sizeOf165
  t232 := Tryz.underlying173
  a232 := Tryz.isAgg173
  z232 := Tryz.sizeOf173
  v232 := Tryz.zeroValue173
  t233 := Tryz.underlying174
  a233 := Tryz.isAgg174
  z233 := Tryz.sizeOf174
  v233 := Tryz.zeroValue174
  g15 := by kernel_rfl
  g16 := by kernel_rfl
  g17 := by kernel_rfl
  g18 := by kernel_rfl
  g19 := by kernel_rfl }
open Go.RowKit in
theorem Tryz.strconv_Atoi (s : ByteArray) (n : Int) (hl : s.size ≤ 18) (h : Lib.atoi s.data.toList = some n) (w : World) :
    Calls Tryz.prog 132 #[.string s] w fun e w' => e = .returned (.tuple #[.int .i64 n, .nilIface]) ∧ ∃ t, w' = Lib.bytesWorld w 5 t := Any.strconv_Atoi Tryz.lays172 s n hl h w
def Tryz.laysM171_ren : Go.Shelf.Ren := ⟨fun | 171 => 118 | 243 => 143 | 246 => 158 | 283 => 175 | 284 => 176 | 285 => 177 | 286 => 178 | 129 => 185 | 317 => 184 | 318 => 186 | 319 => 187 | 320 => 188 | 337 => 191 | 338 => 192 | n => n, fun | 3 => 3 | 9 => 9 | 2 => 2 | 4 => 4 | 171 => 149 | 0 => 0 | 53 => 88 | 37 => 55 | 5 => 5 | 173 => 152 | 212 => 164 | 51 => 154 | 20 => 20 | 213 => 165 | 46 => 135 | 232 => 173 | 233 => 174 | n => n, fun | 17 => 3 | 18 => 4 | 19 => 5 | n => n⟩
theorem Tryz.laysM171 : Go.Proofs.LaysM.n171 Tryz.prog Tryz.laysM171_ren := {
  mixed := by kernel_rfl
  f129 := Tryz.func185.trans (congrArg some (by kernel_rfl))
  f171 := Tryz.func118.trans (congrArg some (by kernel_rfl))
  f243 := Tryz.func143.trans (congrArg some (by kernel_rfl))
  f246 := Tryz.func158.trans (congrArg some (by kernel_rfl))
  f283 := Tryz.func175.trans (congrArg some (by kernel_rfl))
  f284 := Tryz.func176.trans (congrArg some (by kernel_rfl))
  f285 := Tryz.func177.trans (congrArg some (by kernel_rfl))
  f286 := Tryz.func178.trans (congrArg some (by kernel_rfl))
  f317 := Tryz.func184.trans (congrArg some (by kernel_rfl))
  f318 := Tryz.func186.trans (congrArg some (by kernel_rfl))
  f319 := Tryz.func187.trans (congrArg some (by kernel_rfl))
  f320 := Tryz.func188.trans (congrArg some (by kernel_rfl))
  f337 := Tryz.func191.trans (congrArg some (by kernel_rfl))
  f338 := Tryz.func192.trans (congrArg some (by kernel_rfl))
  t0 := Tryz.underlying0
  a0 := Tryz.isAgg0
  z0 := Tryz.sizeOf0
  v0 := Tryz.zeroValue0
  t2 := Tryz.underlying2
  a2 := Tryz.isAgg2
  z2 := Tryz.sizeOf2
  v2 := Tryz.zeroValue2
  t3 := Tryz.underlying3
  a3 := Tryz.isAgg3
  z3 := Tryz.sizeOf3
  v3 := Tryz.zeroValue3
  t4 := Tryz.underlying4
  a4 := Tryz.isAgg4
  z4 := Tryz.sizeOf4
  v4 := Tryz.zeroValue4
  t5 := Tryz.underlying5
  a5 := Tryz.isAgg5
  z5 := Tryz.sizeOf5
  v5 := Tryz.zeroValue5
  t9 := Tryz.underlying9
  a9 := Tryz.isAgg9
  z9 := Tryz.sizeOf9
  v9 := Tryz.zeroValue9
  t20 := Tryz.underlying20
  a20 := Tryz.isAgg20
  z20 := Tryz.sizeOf20
  v20 := Tryz.zeroValue20
  t37 := Tryz.underlying55
  a37 := Tryz.isAgg55
  z37 := Tryz.sizeOf55
  v37 := Tryz.zeroValue55
  t46 := Tryz.underlying135
  a46 := Tryz.isAgg135
  z46 := Tryz.sizeOf135
  v46 := Tryz.zeroValue135
  t51 := Tryz.underlying154
  a51 := Tryz.isAgg154
  z51 := Tryz.sizeOf154
  v51 := Tryz.zeroValue154
  t53 := Tryz.underlying88
  a53 := Tryz.isAgg88
  z53 := Tryz.sizeOf88
  v53 := Tryz.zeroValue88
  t171 := Tryz.underlying149
  a171 := Tryz.isAgg149
  z171 := Tryz.sizeOf149
  v171 := Tryz.zeroValue149
  t173 := Tryz.underlying152
  a173 := Tryz.isAgg152
  z173 := Tryz.sizeOf152
  v173 := Tryz.zeroValue152
  t212 := Tryz.underlying164
  a212 := Tryz.isAgg164
  z212 := Tryz.sizeOf164
  v212 := Tryz.zeroValue164
  t213 := Tryz.underlying165
  a213 := Tryz.isAgg165
  z213 := Tryz.sizeOf165
  t232 := Tryz.underlying173
  a232 := Tryz.isAgg173
  z232 := Tryz.sizeOf173
  v232 := Tryz.zeroValue173
  t233 := Tryz.underlying174
  a233 := Tryz.isAgg174
  z233 := Tryz.sizeOf174
  v233 := Tryz.zeroValue174
  g17 := by kernel_rfl
  g18 := by kernel_rfl
  g19 := by kernel_rfl
  i0 := by kernel_rfl
  i2 := by kernel_rfl
  i3 := by kernel_rfl
  i4 := by kernel_rfl
  i5 := by kernel_rfl
  i9 := by kernel_rfl
  i20 := by kernel_rfl
  i37 := by kernel_rfl
  i46 := by kernel_rfl
  i51 := by kernel_rfl
  i53 := by kernel_rfl
  i171 := by kernel_rfl
  i173 := by kernel_rfl
  i212 := by kernel_rfl
  i232 := by kernel_rfl
  i233 := by kernel_rfl
  m17 := by kernel_rfl
  m18 := by kernel_rfl
  m19 := by kernel_rfl }
open Go.RowKit Go.Sort Go.Lib in
theorem Tryz.strconv_Itoa (n : Int) (h0 : -9223372036854775808 ≤ n) (h1 : n ≤ 9223372036854775807) (w : World) (htab : Lib.TabIs Tryz.prog w "internal/strconv.uint64pow10" .u64 Lib.pow10Tab) :
    Calls Tryz.prog 118 #[.int .i64 n] w fun e w' => e = .returned (.string ⟨(Lib.itoa n).toArray⟩) ∧ ∃ k os, w' = grow (w.drewN k) os := Any.strconv_Itoa Tryz.laysM171 n h0 h1 w htab
def Tryz.lays219_ren : Go.Shelf.Ren := ⟨fun | 219 => 146 | 217 => 161 | 225 => 162 | 224 => 163 | 267 => 164 | 266 => 179 | 314 => 180 | n => n, fun | 9 => 9 | 3 => 3 | 4 => 4 | 5 => 5 | 46 => 135 | 146 => 155 | 51 => 154 | n => n, fun | 1 => 0 | n => n⟩
theorem Tryz.lays219 : Go.Proofs.Lays.n219 Tryz.prog Tryz.lays219_ren := {
  mixed := by kernel_rfl
  f217 := Tryz.func161.trans (congrArg some (by kernel_rfl))
  f219 := Tryz.func146.trans (congrArg some (by kernel_rfl))
  f224 := Tryz.func163.trans (congrArg some (by kernel_rfl))
  f225 := Tryz.func162.trans (congrArg some (by kernel_rfl))
  f266 := Tryz.func179.trans (congrArg some (by kernel_rfl))
  f267 := Tryz.func164.trans (congrArg some (by kernel_rfl))
  f314 := Tryz.func180.trans (congrArg some (by kernel_rfl))
  t3 := Tryz.underlying3
  a3 := Tryz.isAgg3
  z3 := Tryz.sizeOf3
  v3 := Tryz.zeroValue3
  t4 := Tryz.underlying4
  a4 := Tryz.isAgg4
  z4 := Tryz.sizeOf4
  v4 := Tryz.zeroValue4
  t5 := Tryz.underlying5
  a5 := Tryz.isAgg5
  z5 := Tryz.sizeOf5
  v5 := Tryz.zeroValue5
  t9 := Tryz.underlying9
  a9 := Tryz.isAgg9
  z9 := Tryz.sizeOf9
  v9 := Tryz.zeroValue9
  t46 := Tryz.underlying135
  a46 := Tryz.isAgg135
  z46 := Tryz.sizeOf135
  v46 := Tryz.zeroValue135
  t51 := Tryz.underlying154
  a51 := Tryz.isAgg154
  z51 := Tryz.sizeOf154
  v51 := Tryz.zeroValue154
  t146 := Tryz.underlying155
  a146 := Tryz.isAgg155
  z146 := Tryz.sizeOf155
  v146 := Tryz.zeroValue155
  g1 := by kernel_rfl }
open Go.RowKit Go.Lib in
theorem Tryz.stringslite_Index_one (s : ByteArray) (c : UInt8) (w : World) :
    Calls Tryz.prog 146 #[.string s, .string ⟨#[c]⟩] w fun e w' => e = .returned (.int .i64 (Lib.indexByte s.data.toList c)) ∧ w' = w := Any.stringslite_Index_one Tryz.lays219 s c w
def Tryz.laysM176_ren : Go.Shelf.Ren := ⟨fun | 176 => 117 | 249 => 142 | 288 => 157 | 283 => 175 | 284 => 176 | 285 => 177 | 286 => 178 | 129 => 185 | 317 => 184 | 318 => 186 | 319 => 187 | 320 => 188 | 337 => 191 | 338 => 192 | n => n, fun | 37 => 55 | 2 => 2 | 3 => 3 | 53 => 88 | 4 => 4 | 9 => 9 | 171 => 149 | 0 => 0 | 173 => 152 | 212 => 164 | 51 => 154 | 5 => 5 | 20 => 20 | 213 => 165 | 46 => 135 | 232 => 173 | 233 => 174 | n => n, fun | 17 => 3 | 18 => 4 | 19 => 5 | n => n⟩
theorem Tryz.laysM176 : Go.Proofs.LaysM.n176 Tryz.prog Tryz.laysM176_ren := {
  mixed := by kernel_rfl
  f129 := Tryz.func185.trans (congrArg some (by kernel_rfl))
  f176 := Tryz.func117.trans (congrArg some (by kernel_rfl))
  f249 := Tryz.func142.trans (congrArg some (by kernel_rfl))
  f283 := Tryz.func175.trans (congrArg some (by kernel_rfl))
  f284 := Tryz.func176.trans (congrArg some (by kernel_rfl))
  f285 := Tryz.func177.trans (congrArg some (by kernel_rfl))
  f286 := Tryz.func178.trans (congrArg some (by kernel_rfl))
  f288 := Tryz.func157.trans (congrArg some (by kernel_rfl))
  f317 := Tryz.func184.trans (congrArg some (by kernel_rfl))
  f318 := Tryz.func186.trans (congrArg some (by kernel_rfl))
  f319 := Tryz.func187.trans (congrArg some (by kernel_rfl))
  f320 := Tryz.func188.trans (congrArg some (by kernel_rfl))
  f337 := Tryz.func191.trans (congrArg some (by kernel_rfl))
  f338 := Tryz.func192.trans (congrArg some (by kernel_rfl))
  t0 := Tryz.underlying0
  a0 := Tryz.isAgg0
  z0 := Tryz.sizeOf0
  v0 := Tryz.zeroValue0
  t2 := Tryz.underlying2
  a2 := Tryz.isAgg2
  z2 := Tryz.sizeOf2
  v2 := Tryz.zeroValue2
  t3 := Tryz.underlying3
  a3 := Tryz.isAgg3
  z3 := Tryz.sizeOf3
  v3 := Tryz.zeroValue3
  t4 := Tryz.underlying4
  a4 := Tryz.isAgg4
  z4 := Tryz.sizeOf4
  v4 := Tryz.zeroValue4
  t5 := Tryz.underlying5
  a5 := Tryz.isAgg5
  z5 := Tryz.sizeOf5
  v5 := Tryz.zeroValue5
  t9 := Tryz.underlying9
  a9 := Tryz.isAgg9
  z9 := Tryz.sizeOf9
  v9 := Tryz.zeroValue9
  t20 := Tryz.underlying20
  a20 := Tryz.isAgg20
  z20 := Tryz.sizeOf20
  v20 := Tryz.zeroValue20
  t37 := Tryz.underlying55
  a37 := Tryz.isAgg55
  z37 := Tryz.sizeOf55
  v37 := Tryz.zeroValue55
  t46 := Tryz.underlying135
  a46 := Tryz.isAgg135
  z46 := Tryz.sizeOf135
  v46 := Tryz.zeroValue135
  t51 := Tryz.underlying154
  a51 := Tryz.isAgg154
  z51 := Tryz.sizeOf154
  v51 := Tryz.zeroValue154
  t53 := Tryz.underlying88
  a53 := Tryz.isAgg88
  z53 := Tryz.sizeOf88
  v53 := Tryz.zeroValue88
  t171 := Tryz.underlying149
  a171 := Tryz.isAgg149
  z171 := Tryz.sizeOf149
  v171 := Tryz.zeroValue149
  t173 := Tryz.underlying152
  a173 := Tryz.isAgg152
  z173 := Tryz.sizeOf152
  v173 := Tryz.zeroValue152
  t212 := Tryz.underlying164
  a212 := Tryz.isAgg164
  z212 := Tryz.sizeOf164
  v212 := Tryz.zeroValue164
  t213 := Tryz.underlying165
  a213 := Tryz.isAgg165
  z213 := Tryz.sizeOf165
  t232 := Tryz.underlying173
  a232 := Tryz.isAgg173
  z232 := Tryz.sizeOf173
  v232 := Tryz.zeroValue173
  t233 := Tryz.underlying174
  a233 := Tryz.isAgg174
  z233 := Tryz.sizeOf174
  v233 := Tryz.zeroValue174
  g17 := by kernel_rfl
  g18 := by kernel_rfl
  g19 := by kernel_rfl
  i0 := by kernel_rfl
  i2 := by kernel_rfl
  i3 := by kernel_rfl
  i4 := by kernel_rfl
  i5 := by kernel_rfl
  i9 := by kernel_rfl
  i20 := by kernel_rfl
  i37 := by kernel_rfl
  i46 := by kernel_rfl
  i51 := by kernel_rfl
  i53 := by kernel_rfl
  i171 := by kernel_rfl
  i173 := by kernel_rfl
  i212 := by kernel_rfl
  i232 := by kernel_rfl
  i233 := by kernel_rfl
  m17 := by kernel_rfl
  m18 := by kernel_rfl
  m19 := by kernel_rfl }
open Go.RowKit Go.Sort Go.Lib in
theorem Tryz.strconv_AppendInt_10 (B n : Nat) (i : Int) (h0 : -9223372036854775808 ≤ i) (h1 : i ≤ 9223372036854775807) (sv : Value) (xs : List Value) (w : World) (hown : w.ownsRow B 5 1 sv n xs) (hBw : B ≤ w.heap.size) (hlim : n + 21 ≤ 140737488355328) (htab : Lib.TabBelow Tryz.prog B w "internal/strconv.uint64pow10" .u64 Lib.pow10Tab) :
    Calls Tryz.prog 117 #[sv, .int .i64 i, .int .i64 10] w fun e w' => ∃ v', e = .returned v' ∧ w'.ownsRow B 5 1 v' (n + (Lib.itoa i).length) (xs ++ Lib.byteCells (Lib.itoa i)) ∧ Below B w w' ∧ Lib.OthersKept 5 none w w' := Any.strconv_AppendInt_10 Tryz.laysM176 B n i h0 h1 sv xs w hown hBw hlim htab
end Go.Proofs

namespace Go.Proofs.YtleijkgdpmfabaaGreatDoor
open Go.RowKit
open Go.RowKit
open Go.RowKit
def lows : Nat → Nat → List UInt8
  | 0, _ => []
  | j + 1, m => lows j (m / 256) ++ [UInt8.ofNat (m % 256)]
theorem lows_length (j m : Nat) : (lows j m).length = j := by
  induction j generalizing m with
  | zero => rfl
  | succ j ih => simp [lows, ih]
def nd (m : Nat) : Nat :=
  if m < 1 then 0 else if m < 256 then 1 else if m < 65536 then 2 else if m < 16777216 then 3 else if m < 4294967296 then 4
  else if m < 1099511627776 then 5 else if m < 281474976710656 then 6 else if m < 72057594037927936 then 7 else 8
theorem nd_le (m : Nat) : nd m ≤ 8 := by
  unfold nd
  (repeat' split) <;> omega
theorem nd_zero (m j : Nat) (h : m < 9223372036854775808) (hj : j ≤ 8) : m / 256 ^ j = 0 ↔ nd m ≤ j := by
  have h9 : j = 0 ∨ j = 1 ∨ j = 2 ∨ j = 3 ∨ j = 4 ∨ j = 5 ∨ j = 6 ∨ j = 7 ∨ j = 8 := by omega
  unfold nd
  rcases h9 with rfl | rfl | rfl | rfl | rfl | rfl | rfl | rfl | rfl <;> simp only [Nat.reducePow] <;> (repeat' split) <;> omega
theorem lows_getD (k m i : Nat) (h : i < k) : (lows k m).getD i 0 = UInt8.ofNat (m / 256 ^ (k - 1 - i) % 256) := by
  induction k generalizing m with
  | zero => omega
  | succ k ih =>
    simp only [lows]
    rcases Nat.lt_or_ge i k with h1 | h1
    · rw [List.getD_eq_getElem?_getD, List.getElem?_append_left (by rw [lows_length]; exact h1), ← List.getD_eq_getElem?_getD, ih _ h1, Nat.div_div_eq_div_mul]
      have : k + 1 - 1 - i = (k - 1 - i) + 1 := by omega
      rw [this, Nat.pow_succ, Nat.mul_comm]
    · have e : i = k := by omega
      subst e
      rw [List.getD_eq_getElem?_getD, List.getElem?_append_right (by rw [lows_length]; exact Nat.le_refl _), lows_length]
      simp
def fx (g : Bool) (d : UInt8) : UInt8 := if g then 255 - d else d
theorem fx_nat (g : Bool) (d : UInt8) : (fx g d).toNat = if g then 255 - d.toNat else d.toNat := by
  cases g
  · rfl
  · show (255 - d : UInt8).toNat = _
    have := d.toNat_lt
    rw [UInt8.toNat_sub_of_le _ _ (by rw [UInt8.le_iff_toNat_le]; show d.toNat ≤ 255; omega)]
    rfl
def mag (g : Bool) (l : List UInt8) : Nat := l.foldl (fun m d => 256 * m + (fx g d).toNat) 0
def neg (n : Int) : Bool := decide (n < 0)
def mgn (n : Int) : Nat := if n < 0 then (-1 - n).toNat else n.toNat
def hd (g : Bool) (k : Nat) : UInt8 := UInt8.ofNat (if g then 127 - k else 128 + k)
def enc (n : Int) : List UInt8 := hd (neg n) (nd (mgn n)) :: (lows (nd (mgn n)) (mgn n)).map (fx (neg n))
theorem enc_length (n : Int) : (enc n).length = 1 + nd (mgn n) := by simp [enc, lows_length, Nat.add_comm]
def hk (h : UInt8) : Nat := if h.toNat < 128 then 127 - h.toNat else h.toNat - 128
def hg (h : UInt8) : Bool := decide (h.toNat < 128)
def lead0 (g : Bool) (l : List UInt8) : Bool := match l with
  | [] => false
  | d :: _ => fx g d == 0
def sgn (g : Bool) (m : Nat) : Int := if g then -1 - (m : Int) else (m : Int)
def gi : List UInt8 → Int × Nat × Int
  | [] => (0, 0, 3)
  | h :: t =>
    if 8 < hk h then (0, 0, 2)
    else if t.length < hk h then (0, 0, 3)
    else if lead0 (hg h) (t.take (hk h)) then (0, 0, 2)
    else if 9223372036854775807 < mag (hg h) (t.take (hk h)) then (0, 0, 2)
    else (sgn (hg h) (mag (hg h) (t.take (hk h))), 1 + hk h, 0)
theorem mgn_lt (n : Int) (h1 : -9223372036854775808 ≤ n) (h2 : n ≤ 9223372036854775807) : mgn n < 9223372036854775808 := by
  unfold mgn; split <;> omega
end Go.Proofs.YtleijkgdpmfabaaGreatDoor
