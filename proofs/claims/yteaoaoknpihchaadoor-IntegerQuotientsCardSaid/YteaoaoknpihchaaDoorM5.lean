/- Contracts of the package integer and its reference: integer.Sub, Neg, Compare, Sign. integer.digitsOf, Of. The library functions that the code calls, by the shelf of contracts, in plain words. integer.root: the first guess for at most two digits. -/
import Derived.Test.YteaoaoknpihchaaDoorM4
import Derived.Shelf.Small.Wraps
import Derived.Shelf.Strconv.AppendIntPublic10
import Derived.Shelf.Strconv.Itoa0
import Derived.Shelf.Strconv.Itoa3
import Derived.Shelf.LaysM
import Derived.Shelf.LaysC
import Derived.Test.YteaoaoknpihchaaDoorProg
set_option linter.unusedVariables false
namespace Go.Proofs.YteaoaoknpihchaaDoor
open Go.RowKit

/-- an integer in a box -/
def Ar1 (w : World) (nx : Bool) (px : Option Addr) (lx cx : Nat) (W : World) : Prop :=
  W.heap[w.heap.size]? = some (.cells #[.bool nx, .slice px lx cx] 24 (0, 0)) ∧ (∃ u v, W.heap[w.heap.size + 1]? = some (.cells #[u, v] 24 (0, 0))) ∧ Below w.heap.size w W
section
variable {w W w' : World} {nx : Bool} {px : Option Addr} {lx cx : Nat}
theorem Ar1.facts (h : Ar1 w nx px lx cx W) : W.cell? ⟨w.heap.size, 0, none⟩ = some (.bool nx) ∧ W.cell? ⟨w.heap.size, 1, none⟩ = some (.slice px lx cx) ∧
    W.cell? ⟨w.heap.size + 1, 0, none⟩ = some (oldv W (w.heap.size + 1) 0) ∧ W.cell? ⟨w.heap.size + 1, 1, none⟩ = some (oldv W (w.heap.size + 1) 1) ∧ W.frozen? ⟨w.heap.size + 1, 0, none⟩ = false ∧ W.frozen? ⟨w.heap.size + 1, 1, none⟩ = false := by
  obtain ⟨h1, ⟨u, v, h3⟩, _⟩ := h
  refine ⟨by simp [World.cell?, h1], by simp [World.cell?, h1], by simp [oldv, World.cell?, h3], by simp [oldv, World.cell?, h3], by simp [World.frozen?, h3], by simp [World.frozen?, h3]⟩
theorem Ar1.later (h : Ar1 w nx px lx cx W) (hb : Below W.heap.size W w') : Ar1 w nx px lx cx w' := by
  obtain ⟨h1, ⟨u, v, h3⟩, h6⟩ := h
  exact ⟨(hb.block _ (lt_blk h1)).trans h1, ⟨u, v, (hb.block _ (lt_blk h3)).trans h3⟩, below_tr h6 hb⟩
theorem Ar1.drew (h : Ar1 w nx px lx cx W) : Ar1 w nx px lx cx W.drew := h.later ((Below.refl _ W).drew)
theorem Ar1.start (w : World) : Ar1 w nx px lx cx ((w.alloc (.cells #[.bool nx, .slice px lx cx] 24)).alloc (.cells #[.bool false, .slice none 0 0] 24)) := by
  have hb : Below w.heap.size w ((w.alloc (.cells #[.bool nx, .slice px lx cx] 24)).alloc (.cells #[.bool false, .slice none 0 0] 24)) := ((Below.refl _ _).alloc (Nat.le_refl _) _).alloc (by simp) _
  refine ⟨?_, ⟨_, _, heap_alloc2_new _ _ _⟩, hb⟩
  rw [Below.heap_alloc _ _ _ (by simp)]; exact heap_alloc_new _ _
theorem Ar1.res (h : Ar1 w nx px lx cx W) (p q : Value) : ((W.setCell ⟨w.heap.size + 1, 0, none⟩ p).setCell ⟨w.heap.size + 1, 1, none⟩ q).heap[w.heap.size + 1]? = some (.cells #[p, q] 24 (0, 0)) := by
  obtain ⟨h1, ⟨u, v, h3⟩, h6⟩ := h
  rw [heap_setCell_self _ _ _ _ _ _ (heap_setCell_self _ _ _ _ _ _ h3)]; rfl
theorem Ar1.store (h : Ar1 w nx px lx cx W) (p q : Value) : Ar1 w nx px lx cx ((W.setCell ⟨w.heap.size + 1, 0, none⟩ p).setCell ⟨w.heap.size + 1, 1, none⟩ q) := by
  refine ⟨?_, ⟨p, q, h.res p q⟩, (h.2.2.setCell (by simp) _).setCell (by simp) _⟩
  rw [heap_setCell_other _ _ _ _ (by simp), heap_setCell_other _ _ _ _ (by simp)]; exact h.1
theorem Ar1.top (h : Ar1 w nx px lx cx W) : w.heap.size + 1 < W.heap.size := by
  obtain ⟨u, v, h3⟩ := h.2.1
  exact lt_blk h3
theorem Ar1.ret {nb : Bool} {p : Option Addr} {n c : Nat} {z z' : Int} (h : Ar1 w nx px lx cx W) (hI : IntAt W nb p n c z) (hp : ∀ q, p = some q → w.heap.size + 1 < q.block) (hz : z = z') :
    RetI w z' (.returned (.agg #[.bool nb, .slice p n c])) ((W.setCell ⟨w.heap.size + 1, 0, none⟩ (.bool nb)).setCell ⟨w.heap.size + 1, 1, none⟩ (.slice p n c)) := by
  subst hz
  have hne : ∀ q, p = some q → q.block ≠ w.heap.size + 1 := fun q hq => by have := hp q hq; omega
  exact ⟨_, _, _, _, rfl, (hI.store hne).store hne, (h.store _ _).2.2, fun q hq => by have := hp q hq; omega⟩
end

set_option maxRecDepth 100000 in
set_option maxHeartbeats 1600000 in
theorem Neg_any (nx : Bool) (px : Option Addr) (lx cx : Nat) (x : Int) (w : World) (hx0 : IntZ w nx px lx cx x) (hlx : lx ≤ 549755813887) :
    Calls Tryd.prog 28 #[.agg #[.bool nx, .slice px lx cx]] w (RetI w (-x)) := by
  have hca : Hid (∀ W, Ar1 w nx px lx cx W → Calls Tryd.prog 58 #[.slice px lx cx, .int .i64 (lx : Int)] W (NewN W lx fun z => z = cpy (digs x.natAbs) lx)) :=
    Lib.hid fun W h => copied_at _ _ _ _ _ lx W rfl (Rdi_below h.2.2 hx0.2.2.1) hx0.2.1 (by omega)
  have hf := fun W (h : Ar1 w nx px lx cx W) => h.facts
  have hS0 := Lib.hid (@Ar1.start nx px lx cx w)
  have hsg : Hid (Dg (cpy (digs x.natAbs) lx) ∧ sg (!nx) (val (cpy (digs x.natAbs) lx)) = -x) := Lib.hid (by
    rw [hx0.2.1, cpy_self, val_digs]
    refine ⟨Dg_digs _, ?_⟩
    have h1 := wk_neg hx0.1
    cases nx <;> simp [sg] at * <;> omega)
  obtain ⟨Z, hZ⟩ : ∃ Z, cpy (digs x.natAbs) lx = Z := ⟨_, rfl⟩
  rw [hZ] at hca hsg
  clear hx0 hZ
  go_enter Tryd.func28, Tryd.ntmps28
  go_wp2_with fail
  generalize (w.alloc (.cells #[.bool nx, .slice px lx cx] 24)).alloc (.cells #[.bool false, .slice none 0 0] 24) = W0 at hS0 ⊢
  have hS1 := hS0.out
  clear hS0
  go_region_held3 (fun W => Ar1 w nx px lx cx W) (first | exact Ar1.drew (by assumption) | exact Ar1.later (by assumption) (by assumption) | exact Ar1.store (by assumption) _ _) (first | (go_at_call 58; refine (hca.out _ (by assumption)).mono ?_; rintro e w1 ⟨g, z, rfl, hg, hz0, hb1, hn0, rfl⟩; have hz := Lib.hid hz0; have hn := Lib.hid hn0; clear hz0 hn0) | (go_at_call 41; refine (made_any _ _ _ _ z _ hz.out.rdi hn.out.symm (Nat.le_refl _) (by omega) hsg.out.1).mono ?_; rintro e w2 ⟨nb, p, n2, c2, rfl, hI0, hb2, hp0⟩; have hI := Lib.hid hI0; have hp := Lib.hid hp0; clear hI0 hp0))
  have hS2 := (hS1.drew.later hb1).later hb2
  have hgt : w.heap.size + 1 < g := Nat.lt_of_lt_of_le hS1.drew.top hg
  have hfin := Lib.hid (hS2.ret hI.out (new_top hp.out hgt) hsg.out.2)
  go_wp2_with fail
  exact bodyPost_ret (v := .agg #[.bool nb, .slice p n2 c2]) (results_cell_row rfl _ _ (w.heap.size + 1) 24 _ (0, 0) _ rfl (hS2.res _ _) Tryd.underlying24 rfl size_Int) rfl hfin.out

end Go.Proofs.YteaoaoknpihchaaDoor

namespace Go.Proofs.YteaoaoknpihchaaDoor
open Go.RowKit

/-- block g holds the integers l as an array of type t -/
def BlkT (t : TypeId) (w : World) (g : Nat) (l : List Int) : Prop := w.heap[g]? = some (.cells (zvs l).toArray t (0, 0))
section
variable {t : TypeId} {w : World} {g i : Nat} {l : List Int}
theorem BlkT.cell (h : BlkT t w g l) (hi : i < l.length) : w.cell? ⟨g, i, none⟩ = some (.int .i64 (iat l i)) := by
  unfold BlkT at h
  simp [World.cell?, h, ← zvs_get hi]
theorem BlkT.free (h : BlkT t w g l) (i : Nat) : w.frozen? ⟨g, i, none⟩ = false := by
  unfold BlkT at h
  simp [World.frozen?, h]
theorem BlkT.set (h : BlkT t w g l) (i : Nat) (v : Int) : BlkT t (w.setCell ⟨g, i, none⟩ (.int .i64 v)) g (l.set i v) := by
  unfold BlkT at *
  rw [heap_setCell_self _ _ _ _ _ _ h, zvs_set]
theorem BlkT.rdi (h : BlkT t w g l) : Rdi w (some ⟨g, 0, none⟩) l :=
  .inr ⟨g, 0, rfl, fun i hi => by rw [Nat.zero_add]; exact h.cell hi⟩
end

/-- a number of 64 bits -/
def U64 (M : Nat) : Prop := M < 18446744073709551616
/-- digits of m in an array of three -/
def DofL (w : World) (g m : Nat) (k M : Nat) (wr : World) : Prop := ∃ A : List Int, A.length = 3 ∧ A.take k ++ digs M = digs m ∧ BlkT 68 wr g A ∧ Below w.heap.size w wr
theorem take_set (A : List Int) (k : Nat) (v : Int) (h : k < A.length) : (A.set k v).take (k + 1) = A.take k ++ [v] := by
  rw [List.take_succ_eq_append_getElem (by rw [List.length_set]; exact h), List.take_set_of_le (Nat.le_refl _)]
  simp

set_option maxRecDepth 100000 in
set_option maxHeartbeats 800000 in
theorem digitsOf_any (m : Nat) (hm : m < 18446744073709551616) (w : World) :
    Calls Tryd.prog 42 #[.int .u64 (m : Int)] w (NewI w fun z => z = digs m) := by
  have h3 : Hid ((digs m).length ≤ 3) := Lib.hid (digs_len_le (by have : pw 3 = 1000000000000000000000000000 := by decide
                                                                  omega))
  have hI : Hid (DofL w w.heap.size m 0 m (w.alloc (.cells #[.int .i64 0, .int .i64 0, .int .i64 0] 68))) := Lib.hid ⟨[0, 0, 0], rfl, rfl, heap_alloc_new _ _, below_new _ _⟩
  have hm' : Hid (U64 m) := Lib.hid hm
  clear hm
  go_enter Tryd.func42, Tryd.ntmps42
  go_wp2_with fail
  generalize w.alloc (.cells #[.int .i64 0, .int .i64 0, .int .i64 0] 68) = w1 at hI ⊢
  obtain ⟨g, hg⟩ : ∃ g, w.heap.size = g := ⟨_, rfl⟩
  rw [hg] at hI ⊢
  have hgg : Hid (w.heap.size ≤ g) := Lib.hid (Nat.le_of_eq hg)
  clear hg
  go_loopw [0, 4] (fun mv kv wr => ∃ k M : Nat, kv = .int .i64 (k : Int) ∧ mv = .int .u64 (M : Int) ∧ U64 M ∧ Hid (k + (digs M).length = (digs m).length) ∧ DofL w g m k M wr) (fun mv _ _ => (intOf mv).toNat)
  case atStart => exact ⟨0, m, rfl, rfl, hm'.out, Lib.hid (Nat.zero_add _), hI.out⟩
  case round =>
    obtain ⟨k, M, rfl, rfl, hM, hkl, hL⟩ := hrel
    clear hI
    by_cases h0 : M = 0
    · subst h0
      obtain ⟨A, hA, hd, hB, hW⟩ := hL
      rw [digs_zero, List.append_nil] at hd
      have hk3 : k ≤ 3 := by have h1 := hkl.out; have h2 := h3.out; omega
      have hc : Hid (Calls Tryd.prog 58 #[.slice (some ⟨g, 0, none⟩) 3 3, .int .i64 (k : Int)] wr (NewN wr k fun z => z = cpy A k)) := Lib.hid (copied_at _ 3 3 A _ k wr rfl hB.rdi hA.symm (by omega))
      have hW' := Lib.hid hW
      have hfin : Hid (cpy A k = digs m) := Lib.hid (by unfold cpy; rw [hd, show k - A.length = 0 by omega]; simp)
      rw [show ((0 : Nat) : Int) = 0 from rfl]
      clear hB hW hd hA hkl h3 hM
      go_wp2_with (go_at_call 58; refine hc.out.mono ?_; rintro e w2 ⟨g2, z, rfl, hg2, hz0, hb2, hn0, rfl⟩; have hz := Lib.hid hz0; have hb := Lib.hid hb2; have hn := Lib.hid hn0; clear hz0 hb2 hn0)
      go_ret
      exact ⟨g2, k, _, rfl, Nat.le_trans hW'.out.size hg2, hz.out, below_tr hW'.out hb.out, hn.out, hfin.out⟩
    · obtain ⟨A, hA, hd, hB, hW⟩ := hL
      have hdp := digs_pos h0
      have hk3 : k < 3 := by have h1 := hkl.out; have h2 := h3.out; rw [hdp, List.length_cons] at h1; omega
      have cx := hB.cell (i := k) (by omega)
      have cf := hB.free k
      have hst : Hid (DofL w g m (k + 1) (M / 1000000000) (wr.setCell ⟨g, k, none⟩ (.int .i64 ((M % 1000000000 : Nat) : Int)))) := Lib.hid ⟨_, by rw [List.length_set]; exact hA, by rw [take_set _ _ _ (by omega), List.append_assoc, ← hd, hdp]; rfl, hB.set _ _, hW.setCell hgg.out _⟩
      have hkl2 : Hid (k + 1 + (digs (M / 1000000000)).length = (digs m).length) := Lib.hid (by have := hkl.out; rw [hdp, List.length_cons] at this; omega)
      have e1 : ((M % 1000000000 : Nat) : Int) = (M : Int) % 1000000000 := by omega
      have e2 : ((M / 1000000000 : Nat) : Int) = (M : Int) / 1000000000 := by omega
      rw [e1] at hst
      have e2' := Lib.hid e2
      have m0 : (0 : Int) < (M : Int) := by omega
      have hM2 : Hid (U64 (M / 1000000000)) := Lib.hid (by unfold U64 at *; omega)
      have hw : IntKind.u64.wrap ((M : Int) / 1000000000) = (M : Int) / 1000000000 := by unfold U64 at hM; simp [IntKind.wrap, IntKind.bits, IntKind.signed]; omega
      have k0 : 0 ≤ (k : Int) := by omega
      have k1 : (k : Int) < 3 := by omega
      have hlt := Lib.hid (show M / 1000000000 < M from Nat.div_lt_self (by omega) (by omega))
      generalize iat A k = v at cx
      clear hA hd hB hW hdp e1 e2 h0 hM
      go_wp2_with fail
      exact ⟨⟨k + 1, M / 1000000000, by simp, by rw [e2'.out], hM2.out, hkl2.out, hst.out⟩, by have := hlt.out; simp only [intOf]; omega⟩

/-- a result's box -/
def Ar0 (w : World) (W : World) : Prop := (∃ u v, W.heap[w.heap.size]? = some (.cells #[u, v] 24 (0, 0))) ∧ Below w.heap.size w W
section
variable {w W w' : World}
theorem Ar0.facts (h : Ar0 w W) : W.cell? ⟨w.heap.size, 0, none⟩ = some (oldv W w.heap.size 0) ∧ W.cell? ⟨w.heap.size, 1, none⟩ = some (oldv W w.heap.size 1) ∧ W.frozen? ⟨w.heap.size, 0, none⟩ = false ∧ W.frozen? ⟨w.heap.size, 1, none⟩ = false := by
  obtain ⟨⟨u, v, h3⟩, _⟩ := h
  refine ⟨by simp [oldv, World.cell?, h3], by simp [oldv, World.cell?, h3], by simp [World.frozen?, h3], by simp [World.frozen?, h3]⟩
theorem Ar0.later (h : Ar0 w W) (hb : Below W.heap.size W w') : Ar0 w w' := by
  obtain ⟨⟨u, v, h3⟩, h6⟩ := h
  exact ⟨⟨u, v, (hb.block _ (lt_blk h3)).trans h3⟩, below_tr h6 hb⟩
theorem Ar0.drew (h : Ar0 w W) : Ar0 w W.drew := h.later ((Below.refl _ W).drew)
theorem Ar0.start (w : World) : Ar0 w (w.alloc (.cells #[.bool false, .slice none 0 0] 24)) := ⟨⟨_, _, heap_alloc_new _ _⟩, below_new _ _⟩
theorem Ar0.res (h : Ar0 w W) (p q : Value) : ((W.setCell ⟨w.heap.size, 0, none⟩ p).setCell ⟨w.heap.size, 1, none⟩ q).heap[w.heap.size]? = some (.cells #[p, q] 24 (0, 0)) := by
  obtain ⟨⟨u, v, h3⟩, h6⟩ := h
  rw [heap_setCell_self _ _ _ _ _ _ (heap_setCell_self _ _ _ _ _ _ h3)]; rfl
theorem Ar0.store (h : Ar0 w W) (p q : Value) : Ar0 w ((W.setCell ⟨w.heap.size, 0, none⟩ p).setCell ⟨w.heap.size, 1, none⟩ q) :=
  ⟨⟨p, q, h.res p q⟩, (h.2.setCell (Nat.le_refl _) _).setCell (Nat.le_refl _) _⟩
theorem Ar0.top (h : Ar0 w W) : w.heap.size < W.heap.size := by
  obtain ⟨u, v, h3⟩ := h.1
  exact lt_blk h3
theorem Ar0.ret {fr : Addr → Prop} {nb : Bool} {p : Option Addr} {n c : Nat} {z z' : Int} (h : Ar0 w W) (hI : IntAt W nb p n c z) (hp : ∀ q, p = some q → q.block ≠ w.heap.size ∧ fr q) (hz : z = z') :
    RetF fr w z' (.returned (.agg #[.bool nb, .slice p n c])) ((W.setCell ⟨w.heap.size, 0, none⟩ (.bool nb)).setCell ⟨w.heap.size, 1, none⟩ (.slice p n c)) := by
  subst hz
  have hne : ∀ q, p = some q → q.block ≠ w.heap.size := fun q hq => (hp q hq).1
  exact ⟨_, _, _, _, rfl, (hI.store hne).store hne, (h.store _ _).2, fun q hq => (hp q hq).2⟩
end

theorem digitsOf_at (v : Int) (m : Nat) (hv : v = (m : Int)) (hm : m < 18446744073709551616) (w : World) :
    Calls Tryd.prog 42 #[.int .u64 v] w (NewI w fun z => z = digs m) := by subst hv; exact digitsOf_any m hm w

set_option maxRecDepth 100000 in
set_option maxHeartbeats 800000 in
theorem Of_any (n : Int) (h1 : -9223372036854775808 ≤ n) (h2 : n ≤ 9223372036854775807) (w : World) :
    Calls Tryd.prog 17 #[.int .i64 n] w (RetI w n) := by
  have hu : Hid (∀ v W, v = (n.natAbs : Int) → Calls Tryd.prog 42 #[.int .u64 v] W (NewI W fun z => z = digs n.natAbs)) := Lib.hid fun v W hv => digitsOf_at v _ hv (by omega) W
  have hS0 := Lib.hid (Ar0.start w)
  have hsg : Hid (Dg (digs n.natAbs) ∧ sg (decide (n < 0)) (val (digs n.natAbs)) = n) := Lib.hid ⟨Dg_digs _, by
    rw [val_digs]
    by_cases h : n < 0
    · rw [decide_eq_true h]; show -(n.natAbs : Int) = n; omega
    · rw [decide_eq_false h]; show (n.natAbs : Int) = n; omega⟩
  have hlen : Hid ((digs n.natAbs).length ≤ 3) := Lib.hid (digs_len_le (by
    have : pw 3 = 1000000000000000000000000000 := by decide
    omega))
  obtain ⟨D, hD⟩ : ∃ D, digs n.natAbs = D := ⟨_, rfl⟩
  rw [hD] at hu hsg hlen
  clear hD
  by_cases h0 : n < 0
  · have e1 : IntKind.u64.wrap n = n + 18446744073709551616 := by simp [IntKind.wrap, IntKind.bits, IntKind.signed]; omega
    have hd : decide (n < 0) = true := decide_eq_true h0
    go_enter Tryd.func17, Tryd.ntmps17
    go_wp2_with fail
    generalize w.alloc (.cells #[.bool false, .slice none 0 0] 24) = W0 at hS0 ⊢
    have hS1 := hS0.out
    clear hS0
    refine (hu.out _ _ (by simp [IntKind.wrap, IntKind.bits, IntKind.signed]; omega)).mono ?_
    rintro e w1 ⟨g, n1, z, rfl, hg, hz0, hb1, hn0, rfl⟩
    have hz := Lib.hid hz0
    have hn := Lib.hid hn0
    have hS2 := hS1.later hb1
    have hgt : w.heap.size < g := Nat.lt_of_lt_of_le hS1.top hg
    have hnl : n1 ≤ 3 := by have := hlen.out; omega
    clear hz0 hn0 hb1
    go_wp2_with fail
    refine (made_any true _ n1 n1 z _ hz.out.rdi hn.out.symm (Nat.le_refl _) (by omega) hsg.out.1).mono ?_
    rintro e w2 ⟨nb, p, n2, c2, rfl, hI0, hb2, hp0⟩
    have hI := Lib.hid hI0
    have hS3 := hS2.later hb2
    have hf3 := hS3.facts
    have hfin : Hid (RetI w n (.returned (.agg #[.bool nb, .slice p n2 c2])) ((w2.setCell ⟨w.heap.size, 0, none⟩ (.bool nb)).setCell ⟨w.heap.size, 1, none⟩ (.slice p n2 c2))) := Lib.hid (hS3.ret hI.out (fun q hq => by
      have := hp0 q hq
      cases this
      exact ⟨by simp; omega, by simp; omega⟩) (by have := hsg.out.2; rw [hd] at this; exact this))
    clear hI0 hb2 hp0
    go_wp2_with fail
    exact bodyPost_ret (v := .agg #[.bool nb, .slice p n2 c2]) (results_cell_row rfl _ _ w.heap.size 24 _ (0, 0) _ rfl (hS3.res _ _) Tryd.underlying24 rfl size_Int) rfl hfin.out
  · have hd : decide (n < 0) = false := decide_eq_false h0
    go_enter Tryd.func17, Tryd.ntmps17
    go_wp2_with fail
    generalize w.alloc (.cells #[.bool false, .slice none 0 0] 24) = W0 at hS0 ⊢
    have hS1 := hS0.out
    clear hS0
    refine (hu.out _ _ (by omega)).mono ?_
    rintro e w1 ⟨g, n1, z, rfl, hg, hz0, hb1, hn0, rfl⟩
    have hz := Lib.hid hz0
    have hn := Lib.hid hn0
    have hS2 := hS1.later hb1
    have hgt : w.heap.size < g := Nat.lt_of_lt_of_le hS1.top hg
    have hnl : n1 ≤ 3 := by have := hlen.out; omega
    clear hz0 hn0 hb1
    go_wp2_with fail
    refine (made_any false _ n1 n1 z _ hz.out.rdi hn.out.symm (Nat.le_refl _) (by omega) hsg.out.1).mono ?_
    rintro e w2 ⟨nb, p, n2, c2, rfl, hI0, hb2, hp0⟩
    have hI := Lib.hid hI0
    have hS3 := hS2.later hb2
    have hf3 := hS3.facts
    have hfin : Hid (RetI w n (.returned (.agg #[.bool nb, .slice p n2 c2])) ((w2.setCell ⟨w.heap.size, 0, none⟩ (.bool nb)).setCell ⟨w.heap.size, 1, none⟩ (.slice p n2 c2))) := Lib.hid (hS3.ret hI.out (fun q hq => by
      have := hp0 q hq
      cases this
      exact ⟨by simp; omega, by simp; omega⟩) (by have := hsg.out.2; rw [hd] at this; exact this))
    clear hI0 hb2 hp0
    go_wp2_with fail
    exact bodyPost_ret (v := .agg #[.bool nb, .slice p n2 c2]) (results_cell_row rfl _ _ w.heap.size 24 _ (0, 0) _ rfl (hS3.res _ _) Tryd.underlying24 rfl size_Int) rfl hfin.out
end Go.Proofs.YteaoaoknpihchaaDoor

namespace Go.Proofs
open Go.Shelf
def Tryd.lays103_ren : Go.Shelf.Ren := ⟨fun | 103 => 61 | 210 => 76 | 206 => 88 | n => n, fun | 9 => 9 | 4 => 4 | 24 => 69 | 3 => 3 | n => n, fun | n => n⟩
theorem Tryd.lays103 : Go.Proofs.Lays.n103 Tryd.prog Tryd.lays103_ren := {
  mixed := by kernel_rfl
  f103 := Tryd.func61.trans (congrArg some (by kernel_rfl))
  f206 := Tryd.func88.trans (congrArg some (by kernel_rfl))
  f210 := Tryd.func76.trans (congrArg some (by kernel_rfl))
  t3 := Tryd.underlying3
  a3 := Tryd.isAgg3
  z3 := Tryd.sizeOf3
  v3 := Tryd.zeroValue3
  t4 := Tryd.underlying4
  a4 := Tryd.isAgg4
  z4 := Tryd.sizeOf4
  v4 := Tryd.zeroValue4
  t9 := Tryd.underlying9
  a9 := Tryd.isAgg9
  z9 := Tryd.sizeOf9
  v9 := Tryd.zeroValue9
  t24 := Tryd.underlying69
  a24 := Tryd.isAgg69
  z24 := Tryd.sizeOf69
  v24 := Tryd.zeroValue69 }
open Go.RowKit in
/-- strings.CutPrefix: "CutPrefix returns s without the provided leading prefix string and reports whether it found the prefix. If s doesn't start with prefix, CutPrefix returns s, false. If prefix is the empty string, CutPrefix returns s, true.": IT RETURNS '(Lib.trimPrefix s p, Lib.hasPrefix s p)'; the world is as it was. (LAID: no walk: one application.) -/
theorem Tryd.strings_CutPrefix (s p : ByteArray) (w : World) :
    Calls Tryd.prog 61 #[.string s, .string p] w fun e w' => e = .returned (.tuple #[.string ⟨(Lib.trimPrefix s.data.toList p.data.toList).toArray⟩, .bool (Lib.hasPrefix s.data.toList p.data.toList)]) ∧ w' = w := Any.strings_CutPrefix Tryd.lays103 s p w
def Tryd.lays129_ren : Go.Shelf.Ren := ⟨fun | 129 => 87 | n => n, fun | 53 => 52 | 3 => 3 | 4 => 4 | 46 => 104 | 5 => 5 | 9 => 9 | n => n, fun | n => n⟩
theorem Tryd.lays129 : Go.Proofs.Lays.n129 Tryd.prog Tryd.lays129_ren := {
  mixed := by kernel_rfl
  f129 := Tryd.func87.trans (congrArg some (by kernel_rfl))
  t3 := Tryd.underlying3
  a3 := Tryd.isAgg3
  z3 := Tryd.sizeOf3
  v3 := Tryd.zeroValue3
  t4 := Tryd.underlying4
  a4 := Tryd.isAgg4
  z4 := Tryd.sizeOf4
  v4 := Tryd.zeroValue4
  t5 := Tryd.underlying5
  a5 := Tryd.isAgg5
  z5 := Tryd.sizeOf5
  v5 := Tryd.zeroValue5
  t9 := Tryd.underlying9
  a9 := Tryd.isAgg9
  z9 := Tryd.sizeOf9
  v9 := Tryd.zeroValue9
  t46 := Tryd.underlying104
  a46 := Tryd.isAgg104
  z46 := Tryd.sizeOf104
  v46 := Tryd.zeroValue104
  t53 := Tryd.underlying52
  a53 := Tryd.isAgg52
  z53 := Tryd.sizeOf52
  v53 := Tryd.zeroValue52 }
/-- bits.Len64: "Len64 returns the minimum number of bits required to represent x; the result is 0 for x == 0.": IT RETURNS 'Lib.bitLen x'; the world is as it was. ('h0', 'h1': x is a uint64.) (LAID: no walk: one application.) -/
theorem Tryd.bits_Len64 (x : Int) (w : World) (h0 : 0 ≤ x) (h1 : x ≤ 18446744073709551615) :
    Calls Tryd.prog 87 #[.int .u64 x] w fun e w' => e = .returned (.int .i64 (Lib.bitLen x.toNat)) ∧ w' = w := Any.bits_Len64 Tryd.lays129 x w h0 h1
def Tryd.laysM171_ren : Go.Shelf.Ren := ⟨fun | 171 => 65 | 243 => 80 | 246 => 95 | 283 => 99 | 284 => 100 | 285 => 101 | 286 => 102 | 129 => 87 | 317 => 105 | 318 => 106 | 319 => 107 | 320 => 108 | 337 => 109 | 338 => 110 | n => n, fun | 3 => 3 | 9 => 9 | 2 => 2 | 4 => 4 | 171 => 111 | 0 => 0 | 53 => 52 | 37 => 60 | 5 => 5 | 173 => 113 | 212 => 122 | 51 => 123 | 20 => 20 | 213 => 124 | 46 => 104 | 232 => 127 | 233 => 128 | n => n, fun | 17 => 2 | 18 => 3 | 19 => 4 | n => n⟩
theorem Tryd.laysM171 : Go.Proofs.LaysM.n171 Tryd.prog Tryd.laysM171_ren := {
  mixed := by kernel_rfl
  f129 := Tryd.func87.trans (congrArg some (by kernel_rfl))
  f171 := Tryd.func65.trans (congrArg some (by kernel_rfl))
  f243 := Tryd.func80.trans (congrArg some (by kernel_rfl))
  f246 := Tryd.func95.trans (congrArg some (by kernel_rfl))
  f283 := Tryd.func99.trans (congrArg some (by kernel_rfl))
  f284 := Tryd.func100.trans (congrArg some (by kernel_rfl))
  f285 := Tryd.func101.trans (congrArg some (by kernel_rfl))
  f286 := Tryd.func102.trans (congrArg some (by kernel_rfl))
  f317 := Tryd.func105.trans (congrArg some (by kernel_rfl))
  f318 := Tryd.func106.trans (congrArg some (by kernel_rfl))
  f319 := Tryd.func107.trans (congrArg some (by kernel_rfl))
  f320 := Tryd.func108.trans (congrArg some (by kernel_rfl))
  f337 := Tryd.func109.trans (congrArg some (by kernel_rfl))
  f338 := Tryd.func110.trans (congrArg some (by kernel_rfl))
  t0 := Tryd.underlying0
  a0 := Tryd.isAgg0
  z0 := Tryd.sizeOf0
  v0 := Tryd.zeroValue0
  t2 := Tryd.underlying2
  a2 := Tryd.isAgg2
  z2 := Tryd.sizeOf2
  v2 := Tryd.zeroValue2
  t3 := Tryd.underlying3
  a3 := Tryd.isAgg3
  z3 := Tryd.sizeOf3
  v3 := Tryd.zeroValue3
  t4 := Tryd.underlying4
  a4 := Tryd.isAgg4
  z4 := Tryd.sizeOf4
  v4 := Tryd.zeroValue4
  t5 := Tryd.underlying5
  a5 := Tryd.isAgg5
  z5 := Tryd.sizeOf5
  v5 := Tryd.zeroValue5
  t9 := Tryd.underlying9
  a9 := Tryd.isAgg9
  z9 := Tryd.sizeOf9
  v9 := Tryd.zeroValue9
  t20 := Tryd.underlying20
  a20 := Tryd.isAgg20
  z20 := Tryd.sizeOf20
  v20 := Tryd.zeroValue20
  t37 := Tryd.underlying60
  a37 := Tryd.isAgg60
  z37 := Tryd.sizeOf60
  v37 := Tryd.zeroValue60
  t46 := Tryd.underlying104
  a46 := Tryd.isAgg104
  z46 := Tryd.sizeOf104
  v46 := Tryd.zeroValue104
  t51 := Tryd.underlying123
  a51 := Tryd.isAgg123
  z51 := Tryd.sizeOf123
  v51 := Tryd.zeroValue123
  t53 := Tryd.underlying52
  a53 := Tryd.isAgg52
  z53 := Tryd.sizeOf52
  v53 := Tryd.zeroValue52
  t171 := Tryd.underlying111
  a171 := Tryd.isAgg111
  z171 := Tryd.sizeOf111
  v171 := Tryd.zeroValue111
  t173 := Tryd.underlying113
  a173 := Tryd.isAgg113
  z173 := Tryd.sizeOf113
  v173 := Tryd.zeroValue113
  t212 := Tryd.underlying122
  a212 := Tryd.isAgg122
  z212 := Tryd.sizeOf122
  v212 := Tryd.zeroValue122
  t213 := Tryd.underlying124
  a213 := Tryd.isAgg124
  z213 := Tryd.sizeOf124
  t232 := Tryd.underlying127
  a232 := Tryd.isAgg127
  z232 := Tryd.sizeOf127
  v232 := Tryd.zeroValue127
  t233 := Tryd.underlying128
  a233 := Tryd.isAgg128
  z233 := Tryd.sizeOf128
  v233 := Tryd.zeroValue128
  g17 := by kernel_rfl
  g18 := by kernel_rfl
  g19 := by kernel_rfl
  i0 := by kernel_rfl
  i2 := by kernel_rfl
  i3 := by kernel_rfl
  i4 := by kernel_rfl
  i5 := by kernel_rfl
  i9 := by kernel_rfl
  i20 := by kernel_rfl
  i37 := by kernel_rfl
  i46 := by kernel_rfl
  i51 := by kernel_rfl
  i53 := by kernel_rfl
  i171 := by kernel_rfl
  i173 := by kernel_rfl
  i212 := by kernel_rfl
  i232 := by kernel_rfl
  i233 := by kernel_rfl
  m17 := by kernel_rfl
  m18 := by kernel_rfl
  m19 := by kernel_rfl }
open Go.RowKit Go.Sort Go.Lib in
/-- strconv.Itoa: "Itoa is equivalent to FormatInt(int64(i), 10).": i's DECIMAL NUMERAL ('Lib.itoa': a '-' where i is negative, then the digits), FOR EVERY int. The world behind the call: the world before it, new blocks behind the heap (the library's 'var a [24]byte'), draws. (LAID: no walk: one application.) -/
theorem Tryd.strconv_Itoa (n : Int) (h0 : -9223372036854775808 ≤ n) (h1 : n ≤ 9223372036854775807) (w : World) (htab : Lib.TabIs Tryd.prog w "internal/strconv.uint64pow10" .u64 Lib.pow10Tab) :
    Calls Tryd.prog 65 #[.int .i64 n] w fun e w' => e = .returned (.string ⟨(Lib.itoa n).toArray⟩) ∧ ∃ k os, w' = grow (w.drewN k) os := Any.strconv_Itoa Tryd.laysM171 n h0 h1 w htab
def Tryd.laysM176_ren : Go.Shelf.Ren := ⟨fun | 176 => 64 | 249 => 79 | 288 => 94 | 283 => 99 | 284 => 100 | 285 => 101 | 286 => 102 | 129 => 87 | 317 => 105 | 318 => 106 | 319 => 107 | 320 => 108 | 337 => 109 | 338 => 110 | n => n, fun | 37 => 60 | 2 => 2 | 3 => 3 | 53 => 52 | 4 => 4 | 9 => 9 | 171 => 111 | 0 => 0 | 173 => 113 | 212 => 122 | 51 => 123 | 5 => 5 | 20 => 20 | 213 => 124 | 46 => 104 | 232 => 127 | 233 => 128 | n => n, fun | 17 => 2 | 18 => 3 | 19 => 4 | n => n⟩
theorem Tryd.laysM176 : Go.Proofs.LaysM.n176 Tryd.prog Tryd.laysM176_ren := {
  mixed := by kernel_rfl
  f129 := Tryd.func87.trans (congrArg some (by kernel_rfl))
  f176 := Tryd.func64.trans (congrArg some (by kernel_rfl))
  f249 := Tryd.func79.trans (congrArg some (by kernel_rfl))
  f283 := Tryd.func99.trans (congrArg some (by kernel_rfl))
  f284 := Tryd.func100.trans (congrArg some (by kernel_rfl))
  f285 := Tryd.func101.trans (congrArg some (by kernel_rfl))
  f286 := Tryd.func102.trans (congrArg some (by kernel_rfl))
  f288 := Tryd.func94.trans (congrArg some (by kernel_rfl))
  f317 := Tryd.func105.trans (congrArg some (by kernel_rfl))
  f318 := Tryd.func106.trans (congrArg some (by kernel_rfl))
  f319 := Tryd.func107.trans (congrArg some (by kernel_rfl))
  f320 := Tryd.func108.trans (congrArg some (by kernel_rfl))
  f337 := Tryd.func109.trans (congrArg some (by kernel_rfl))
  f338 := Tryd.func110.trans (congrArg some (by kernel_rfl))
  t0 := Tryd.underlying0
  a0 := Tryd.isAgg0
  z0 := Tryd.sizeOf0
  v0 := Tryd.zeroValue0
  t2 := Tryd.underlying2
  a2 := Tryd.isAgg2
  z2 := Tryd.sizeOf2
  v2 := Tryd.zeroValue2
  t3 := Tryd.underlying3
  a3 := Tryd.isAgg3
  z3 := Tryd.sizeOf3
  v3 := Tryd.zeroValue3
  t4 := Tryd.underlying4
  a4 := Tryd.isAgg4
  z4 := Tryd.sizeOf4
  v4 := Tryd.zeroValue4
  t5 := Tryd.underlying5
  a5 := Tryd.isAgg5
  z5 := Tryd.sizeOf5
  v5 := Tryd.zeroValue5
  t9 := Tryd.underlying9
  a9 := Tryd.isAgg9
  z9 := Tryd.sizeOf9
  v9 := Tryd.zeroValue9
  t20 := Tryd.underlying20
  a20 := Tryd.isAgg20
  z20 := Tryd.sizeOf20
  v20 := Tryd.zeroValue20
  t37 := Tryd.underlying60
  a37 := Tryd.isAgg60
  z37 := Tryd.sizeOf60
  v37 := Tryd.zeroValue60
  t46 := Tryd.underlying104
  a46 := Tryd.isAgg104
  z46 := Tryd.sizeOf104
  v46 := Tryd.zeroValue104
  t51 := Tryd.underlying123
  a51 := Tryd.isAgg123
  z51 := Tryd.sizeOf123
  v51 := Tryd.zeroValue123
  t53 := Tryd.underlying52
  a53 := Tryd.isAgg52
  z53 := Tryd.sizeOf52
  v53 := Tryd.zeroValue52
  t171 := Tryd.underlying111
  a171 := Tryd.isAgg111
  z171 := Tryd.sizeOf111
  v171 := Tryd.zeroValue111
  t173 := Tryd.underlying113
  a173 := Tryd.isAgg113
  z173 := Tryd.sizeOf113
  v173 := Tryd.zeroValue113
  t212 := Tryd.underlying122
  a212 := Tryd.isAgg122
  z212 := Tryd.sizeOf122
  v212 := Tryd.zeroValue122
  t213 := Tryd.underlying124
  a213 := Tryd.isAgg124
  z213 := Tryd.sizeOf124
  t232 := Tryd.underlying127
  a232 := Tryd.isAgg127
  z232 := Tryd.sizeOf127
  v232 := Tryd.zeroValue127
  t233 := Tryd.underlying128
  a233 := Tryd.isAgg128
  z233 := Tryd.sizeOf128
  v233 := Tryd.zeroValue128
  g17 := by kernel_rfl
  g18 := by kernel_rfl
  g19 := by kernel_rfl
  i0 := by kernel_rfl
  i2 := by kernel_rfl
  i3 := by kernel_rfl
  i4 := by kernel_rfl
  i5 := by kernel_rfl
  i9 := by kernel_rfl
  i20 := by kernel_rfl
  i37 := by kernel_rfl
  i46 := by kernel_rfl
  i51 := by kernel_rfl
  i53 := by kernel_rfl
  i171 := by kernel_rfl
  i173 := by kernel_rfl
  i212 := by kernel_rfl
  i232 := by kernel_rfl
  i233 := by kernel_rfl
  m17 := by kernel_rfl
  m18 := by kernel_rfl
  m19 := by kernel_rfl }
open Go.RowKit Go.Sort Go.Lib in
/-- strconv.AppendInt: "AppendInt appends the string form of the integer i, as generated by FormatInt, to dst and returns the extended buffer.": AT BASE 10: WHAT COMES BACK OWNS dst's CELLS AND, BEHIND THEM, i's DECIMAL NUMERAL ('Lib.itoa i': at most 20 bytes), for every int64. Below the call's own blocks nothing has turned. (LAID: no walk: one application.) -/
theorem Tryd.strconv_AppendInt_10 (B n : Nat) (i : Int) (h0 : -9223372036854775808 ≤ i) (h1 : i ≤ 9223372036854775807) (sv : Value) (xs : List Value) (w : World) (hown : w.ownsRow B 5 1 sv n xs) (hBw : B ≤ w.heap.size) (hlim : n + 21 ≤ 140737488355328) (htab : Lib.TabBelow Tryd.prog B w "internal/strconv.uint64pow10" .u64 Lib.pow10Tab) :
    Calls Tryd.prog 64 #[sv, .int .i64 i, .int .i64 10] w fun e w' => ∃ v', e = .returned v' ∧ w'.ownsRow B 5 1 v' (n + (Lib.itoa i).length) (xs ++ Lib.byteCells (Lib.itoa i)) ∧ Below B w w' ∧ Lib.OthersKept 5 none w w' := Any.strconv_AppendInt_10 Tryd.laysM176 B n i h0 h1 sv xs w hown hBw hlim htab
end Go.Proofs

namespace Go.Proofs.YteaoaoknpihchaaDoor
open Go.RowKit

/-- a guess that is greater than the square root -/
def AbvP (w : World) (x : List Int) (e : Ending) (w' : World) : Prop :=
  ∃ p n c r, e = .returned (.slice p n c) ∧ Rdi w' p r ∧ r.length = n ∧ n ≤ c ∧ c ≤ 9223372036854775807 ∧ Dg r ∧ 0 < val r ∧ val x < val r * val r ∧ tlen r = r.length ∧ n ≤ x.length ∧ (∀ q, p = some q → w.heap.size ≤ q.block) ∧ Below w.heap.size w w'

set_option maxRecDepth 100000 in
set_option maxHeartbeats 1600000 in
theorem above_small (a : Option Addr) (n c : Nat) (x : List Int) (w : World) (hR : Rdi w a x) (hn : n = x.length) (hd : Dg x) (h3 : n < 3) (hx0 : 0 < val x) :
    Calls Tryd.prog 75 #[.slice a n c] w (AbvP w x) := by
  have hnum := number_any a n c x w hR hn hd (by omega)
  have h1 := hd.hi
  have h2 := pw_mono (show x.length ≤ 2 by omega)
  have hp2 : pw 2 = 1000000000000000000 := by decide
  rw [hp2] at h2
  have hN : NumI x 0 = val x := by unfold NumI; rw [List.drop_zero]; omega
  rw [hN] at hnum
  obtain ⟨M, hM⟩ : ∃ M : Nat, val x = (M : Int) := ⟨(val x).toNat, by omega⟩
  rw [hM] at hnum
  have hnum' := Lib.hid hnum
  have hlen : Hid (∀ W, Calls Tryd.prog 87 #[.int .u64 (M : Int)] W fun e w' => e = .returned (.int .i64 (Lib.bitLen M)) ∧ W = w') := Lib.hid fun W => (Tryd.bits_Len64 (M : Int) W (by omega) (by omega)).mono fun e w' ⟨he, hw⟩ => ⟨by rw [he, show ((M : Int)).toNat = M from rfl], hw.symm⟩
  obtain ⟨b, hb⟩ : ∃ b, Lib.bitLen M = b := ⟨_, rfl⟩
  rw [hb] at hlen
  have hM0 : M ≠ 0 := by omega
  have hMb : M < 1000000000000000000 := by omega
  have hbd := Lib.bitLenAux_bounds 64 M (by omega) hM0
  rw [show Lib.bitLenAux 64 M = Lib.bitLen M from rfl, hb] at hbd
  have hbb : b ≤ 60 := by
    rcases Nat.lt_or_ge 60 b with h | h
    · have h5 : 2 ^ 60 ≤ 2 ^ (b - 1) := Nat.pow_le_pow_right (by omega) (by omega)
      have h6 : (2 : Nat) ^ 60 = 1152921504606846976 := by decide
      omega
    · exact h
  obtain ⟨k, hk⟩ : ∃ k, (b + 1) / 2 = k := ⟨_, rfl⟩
  have hkk : k ≤ 30 := by omega
  have hke : ((b : Int) + 1) / 2 = (k : Int) := by omega
  have k0 : 0 ≤ (k : Int) := by omega
  have k1 : (k : Int) ≤ 64 := by omega
  obtain ⟨V, hV⟩ : ∃ V : Nat, 2 ^ k = V := ⟨_, rfl⟩
  have hVb : V ≤ 1073741824 := by
    have h5 : 2 ^ k ≤ 2 ^ 30 := Nat.pow_le_pow_right (by omega) hkk
    have h6 : (2 : Nat) ^ 30 = 1073741824 := by decide
    omega
  have hV0 : 0 < V := by rw [← hV]; exact Nat.pow_pos (by omega)
  have hMV : Hid (M < V * V) := Lib.hid (by
    have h5 : V * V = 2 ^ (k + k) := by rw [← hV, Nat.pow_add]
    have h6 : 2 ^ b ≤ 2 ^ (k + k) := Nat.pow_le_pow_right (by omega) (by omega)
    omega)
  have hVn : Hid ((digs V).length ≤ x.length) := Lib.hid (by
    have hx1 : 0 < x.length := by
      rcases Nat.eq_zero_or_pos x.length with h | h
      · rw [List.eq_nil_of_length_eq_zero h] at hx0; exact absurd hx0 (by decide)
      · exact h
    by_cases h12 : x.length = 1
    · have hp1 : pw 1 = 1000000000 := by decide
      rw [h12, hp1] at h1
      have hb30 : b ≤ 30 := by
        rcases Nat.lt_or_ge 30 b with h | h
        · have h5 : 2 ^ 30 ≤ 2 ^ (b - 1) := Nat.pow_le_pow_right (by omega) (by omega)
          have h6 : (2 : Nat) ^ 30 = 1073741824 := by decide
          omega
        · exact h
      have h5 : 2 ^ k ≤ 2 ^ 15 := Nat.pow_le_pow_right (by omega) (by omega)
      have h6 : (2 : Nat) ^ 15 = 32768 := by decide
      rw [h12]
      exact digs_len_le (by rw [hp1]; omega)
    · have := digs_len_le (n := V) (k := 2) (by rw [hp2]; omega)
      omega)
  have hcast : ((2 : Int) ^ k) = (V : Int) := by rw [← hV]; simp
  have hsh : Hid (IntKind.u64.wrap ((2 : Int) ^ k) = (V : Int)) := Lib.hid (by rw [hcast]; exact IntWalk.u64_in _ (by omega))
  have hdo : Hid (∀ v W, v = (V : Int) → Calls Tryd.prog 42 #[.int .u64 v] W (NewI W fun z => z = digs V)) := Lib.hid fun v W hv => digitsOf_at v V hv (by omega) W
  have b0 : 0 ≤ (b : Int) := by omega
  have b1 : (b : Int) ≤ 60 := by omega
  have hM' := Lib.hid hM
  have hVV := Lib.hid hV0
  have hlV : Hid ((digs V).length ≤ 2) := Lib.hid (digs_len_le (by rw [hp2]; omega))
  clear hk hkk hV hM0 hMb hbd hVb hV0 hcast
  have t1 : (n : Int) < 3 := by omega
  have N := Lib.hid hn
  clear hnum hR hn
  go_enter Tryd.func75, Tryd.ntmps75
  go_upto_if 7 with fail
  clear hN h1 h2 hp2 hM hb
  go_wp2_with (first | (go_at_call 39; refine hnum'.out.mono ?_; rintro e w' ⟨rfl, rfl⟩) | (go_at_call 87; refine (hlen.out _).mono ?_; rintro e w' ⟨rfl, rfl⟩) | (go_at_call 42; refine (hdo.out _ _ hsh.out).mono ?_; rintro e w2 ⟨g, n2, z, rfl, hg, hz0, hb2, hn0, hzz⟩; have hz := Lib.hid hz0; have hn2 := Lib.hid hn0; have hzz' := Lib.hid hzz; have hb' := Lib.hid hb2; clear hz0 hn0 hzz hb2))
  go_ret
  have e1 := hzz'.out
  have e2 := hn2.out
  subst e1
  have hlv := hlV.out
  have hMVi : (M : Int) < (V : Int) * (V : Int) := by have := hMV.out; exact_mod_cast this
  exact ⟨_, n2, n2, _, rfl, hz.out.rdi, e2, Nat.le_refl _, by omega, Dg_digs _, by rw [val_digs]; have := hVV.out; omega, by rw [val_digs, hM'.out]; exact hMVi, tlen_digs _, by have := hVn.out; omega, (fun q hq => by cases hq; exact hg), hb'.out⟩
end Go.Proofs.YteaoaoknpihchaaDoor
