/- Contracts of the package integer and its reference: integer.digitsOf, Of. The library functions that the code calls: none; the modules that other texts expect. integer.root: the first guess for at most two digits. integer.root: Newton's steps. The plain mathematics of layer 1 (as in the texts of stage 1). wire.putInt (as in the texts of stage 1). The reference: digit, normal, compared. -/
import Derived.Test.YteaoaoknpihchaaGreatM5
import Derived.Shelf.Small.Wraps
import Derived.Shelf.Strconv.Itoa3
import Derived.Shelf.Strconv.AppendIntPublic10
import Derived.Shelf.LaysM
import Derived.Shelf.LaysC
import Derived.Test.YteaoaoknpihchaaGreatProg
import Derived.Test.YteaoaoknpihchaaGreatM4
import Derived.Deep.LoopGhost
import Derived.Test.YteaoaoknpihchaaGreatM1
import Derived.Test.YteaoaoknpihchaaGreatM2
import Derived.Laws.BitsAllLaws
import Derived.WalkMore
set_option linter.unusedVariables false
namespace Go.Proofs.YteaoaoknpihchaaGreat
open Go.RowKit

/-- block g holds the integers l as an array of type t -/
def BlkT (t : TypeId) (w : World) (g : Nat) (l : List Int) : Prop := w.heap[g]? = some (.cells (zvs l).toArray t (0, 0))
section
variable {t : TypeId} {w : World} {g i : Nat} {l : List Int}
theorem BlkT.cell (h : BlkT t w g l) (hi : i < l.length) : w.cell? ⟨g, i, none⟩ = some (.int .i64 (iat l i)) := by
  unfold BlkT at h
  simp [World.cell?, h, ← zvs_get hi]
theorem BlkT.free (h : BlkT t w g l) (i : Nat) : w.frozen? ⟨g, i, none⟩ = false := by
  unfold BlkT at h
  simp [World.frozen?, h]
theorem BlkT.set (h : BlkT t w g l) (i : Nat) (v : Int) : BlkT t (w.setCell ⟨g, i, none⟩ (.int .i64 v)) g (l.set i v) := by
  unfold BlkT at *
  rw [heap_setCell_self _ _ _ _ _ _ h, zvs_set]
theorem BlkT.rdi (h : BlkT t w g l) : Rdi w (some ⟨g, 0, none⟩) l :=
  .inr ⟨g, 0, rfl, fun i hi => by rw [Nat.zero_add]; exact h.cell hi⟩
end

/-- a number of 64 bits -/
def U64 (M : Nat) : Prop := M < 18446744073709551616
/-- digits of m in an array of three -/
def DofL (w : World) (g m : Nat) (k M : Nat) (wr : World) : Prop := ∃ A : List Int, A.length = 3 ∧ A.take k ++ digs M = digs m ∧ BlkT 100 wr g A ∧ Below w.heap.size w wr
theorem take_set (A : List Int) (k : Nat) (v : Int) (h : k < A.length) : (A.set k v).take (k + 1) = A.take k ++ [v] := by
  rw [List.take_succ_eq_append_getElem (by rw [List.length_set]; exact h), List.take_set_of_le (Nat.le_refl _)]
  simp

set_option maxRecDepth 100000 in
set_option maxHeartbeats 800000 in
theorem digitsOf_any (m : Nat) (hm : m < 18446744073709551616) (w : World) :
    Calls Tryz.prog 99 #[.int .u64 (m : Int)] w (NewI w fun z => z = digs m) := by
  have h3 : Hid ((digs m).length ≤ 3) := Lib.hid (digs_len_le (by have : pw 3 = 1000000000000000000000000000 := by decide
                                                                  omega))
  have hI : Hid (DofL w w.heap.size m 0 m (w.alloc (.cells #[.int .i64 0, .int .i64 0, .int .i64 0] 100))) := Lib.hid ⟨[0, 0, 0], rfl, rfl, heap_alloc_new _ _, below_new _ _⟩
  have hm' : Hid (U64 m) := Lib.hid hm
  clear hm
  go_enter Tryz.func99, Tryz.ntmps99
  go_wp2_with fail
  generalize w.alloc (.cells #[.int .i64 0, .int .i64 0, .int .i64 0] 100) = w1 at hI ⊢
  obtain ⟨g, hg⟩ : ∃ g, w.heap.size = g := ⟨_, rfl⟩
  rw [hg] at hI ⊢
  have hgg : Hid (w.heap.size ≤ g) := Lib.hid (Nat.le_of_eq hg)
  clear hg
  go_loopw [0, 4] (fun mv kv wr => ∃ k M : Nat, kv = .int .i64 (k : Int) ∧ mv = .int .u64 (M : Int) ∧ U64 M ∧ Hid (k + (digs M).length = (digs m).length) ∧ DofL w g m k M wr) (fun mv _ _ => (intOf mv).toNat)
  case atStart => exact ⟨0, m, rfl, rfl, hm'.out, Lib.hid (Nat.zero_add _), hI.out⟩
  case round =>
    obtain ⟨k, M, rfl, rfl, hM, hkl, hL⟩ := hrel
    clear hI
    by_cases h0 : M = 0
    · subst h0
      obtain ⟨A, hA, hd, hB, hW⟩ := hL
      rw [digs_zero, List.append_nil] at hd
      have hk3 : k ≤ 3 := by have h1 := hkl.out; have h2 := h3.out; omega
      have hc : Hid (Calls Tryz.prog 121 #[.slice (some ⟨g, 0, none⟩) 3 3, .int .i64 (k : Int)] wr (NewN wr k fun z => z = cpy A k)) := Lib.hid (copied_at _ 3 3 A _ k wr rfl hB.rdi hA.symm (by omega))
      have hW' := Lib.hid hW
      have hfin : Hid (cpy A k = digs m) := Lib.hid (by unfold cpy; rw [hd, show k - A.length = 0 by omega]; simp)
      rw [show ((0 : Nat) : Int) = 0 from rfl]
      clear hB hW hd hA hkl h3 hM
      go_wp2_with (go_at_call 121; refine hc.out.mono ?_; rintro e w2 ⟨g2, z, rfl, hg2, hz0, hb2, hn0, rfl⟩; have hz := Lib.hid hz0; have hb := Lib.hid hb2; have hn := Lib.hid hn0; clear hz0 hb2 hn0)
      go_ret
      exact ⟨g2, k, _, rfl, Nat.le_trans hW'.out.size hg2, hz.out, below_tr hW'.out hb.out, hn.out, hfin.out⟩
    · obtain ⟨A, hA, hd, hB, hW⟩ := hL
      have hdp := digs_pos h0
      have hk3 : k < 3 := by have h1 := hkl.out; have h2 := h3.out; rw [hdp, List.length_cons] at h1; omega
      have cx := hB.cell (i := k) (by omega)
      have cf := hB.free k
      have hst : Hid (DofL w g m (k + 1) (M / 1000000000) (wr.setCell ⟨g, k, none⟩ (.int .i64 ((M % 1000000000 : Nat) : Int)))) := Lib.hid ⟨_, by rw [List.length_set]; exact hA, by rw [take_set _ _ _ (by omega), List.append_assoc, ← hd, hdp]; rfl, hB.set _ _, hW.setCell hgg.out _⟩
      have hkl2 : Hid (k + 1 + (digs (M / 1000000000)).length = (digs m).length) := Lib.hid (by have := hkl.out; rw [hdp, List.length_cons] at this; omega)
      have e1 : ((M % 1000000000 : Nat) : Int) = (M : Int) % 1000000000 := by omega
      have e2 : ((M / 1000000000 : Nat) : Int) = (M : Int) / 1000000000 := by omega
      rw [e1] at hst
      have e2' := Lib.hid e2
      have m0 : (0 : Int) < (M : Int) := by omega
      have hM2 : Hid (U64 (M / 1000000000)) := Lib.hid (by unfold U64 at *; omega)
      have hw : IntKind.u64.wrap ((M : Int) / 1000000000) = (M : Int) / 1000000000 := by unfold U64 at hM; simp [IntKind.wrap, IntKind.bits, IntKind.signed]; omega
      have k0 : 0 ≤ (k : Int) := by omega
      have k1 : (k : Int) < 3 := by omega
      have hlt := Lib.hid (show M / 1000000000 < M from Nat.div_lt_self (by omega) (by omega))
      generalize iat A k = v at cx
      clear hA hd hB hW hdp e1 e2 h0 hM
      go_wp2_with fail
      exact ⟨⟨k + 1, M / 1000000000, by simp, by rw [e2'.out], hM2.out, hkl2.out, hst.out⟩, by have := hlt.out; simp only [intOf]; omega⟩

/-- a result's box -/
def Ar0 (w : World) (W : World) : Prop := (∃ u v, W.heap[w.heap.size]? = some (.cells #[u, v] 24 (0, 0))) ∧ Below w.heap.size w W
section
variable {w W w' : World}
theorem Ar0.facts (h : Ar0 w W) : W.cell? ⟨w.heap.size, 0, none⟩ = some (oldv W w.heap.size 0) ∧ W.cell? ⟨w.heap.size, 1, none⟩ = some (oldv W w.heap.size 1) ∧ W.frozen? ⟨w.heap.size, 0, none⟩ = false ∧ W.frozen? ⟨w.heap.size, 1, none⟩ = false := by
  obtain ⟨⟨u, v, h3⟩, _⟩ := h
  refine ⟨by simp [oldv, World.cell?, h3], by simp [oldv, World.cell?, h3], by simp [World.frozen?, h3], by simp [World.frozen?, h3]⟩
theorem Ar0.later (h : Ar0 w W) (hb : Below W.heap.size W w') : Ar0 w w' := by
  obtain ⟨⟨u, v, h3⟩, h6⟩ := h
  exact ⟨⟨u, v, (hb.block _ (lt_blk h3)).trans h3⟩, below_tr h6 hb⟩
theorem Ar0.drew (h : Ar0 w W) : Ar0 w W.drew := h.later ((Below.refl _ W).drew)
theorem Ar0.start (w : World) : Ar0 w (w.alloc (.cells #[.bool false, .slice none 0 0] 24)) := ⟨⟨_, _, heap_alloc_new _ _⟩, below_new _ _⟩
theorem Ar0.res (h : Ar0 w W) (p q : Value) : ((W.setCell ⟨w.heap.size, 0, none⟩ p).setCell ⟨w.heap.size, 1, none⟩ q).heap[w.heap.size]? = some (.cells #[p, q] 24 (0, 0)) := by
  obtain ⟨⟨u, v, h3⟩, h6⟩ := h
  rw [heap_setCell_self _ _ _ _ _ _ (heap_setCell_self _ _ _ _ _ _ h3)]; rfl
theorem Ar0.store (h : Ar0 w W) (p q : Value) : Ar0 w ((W.setCell ⟨w.heap.size, 0, none⟩ p).setCell ⟨w.heap.size, 1, none⟩ q) :=
  ⟨⟨p, q, h.res p q⟩, (h.2.setCell (Nat.le_refl _) _).setCell (Nat.le_refl _) _⟩
theorem Ar0.top (h : Ar0 w W) : w.heap.size < W.heap.size := by
  obtain ⟨u, v, h3⟩ := h.1
  exact lt_blk h3
theorem Ar0.ret {fr : Addr → Prop} {nb : Bool} {p : Option Addr} {n c : Nat} {z z' : Int} (h : Ar0 w W) (hI : IntAt W nb p n c z) (hp : ∀ q, p = some q → q.block ≠ w.heap.size ∧ fr q) (hz : z = z') :
    RetF fr w z' (.returned (.agg #[.bool nb, .slice p n c])) ((W.setCell ⟨w.heap.size, 0, none⟩ (.bool nb)).setCell ⟨w.heap.size, 1, none⟩ (.slice p n c)) := by
  subst hz
  have hne : ∀ q, p = some q → q.block ≠ w.heap.size := fun q hq => (hp q hq).1
  exact ⟨_, _, _, _, rfl, (hI.store hne).store hne, (h.store _ _).2, fun q hq => (hp q hq).2⟩
end

theorem digitsOf_at (v : Int) (m : Nat) (hv : v = (m : Int)) (hm : m < 18446744073709551616) (w : World) :
    Calls Tryz.prog 99 #[.int .u64 v] w (NewI w fun z => z = digs m) := by subst hv; exact digitsOf_any m hm w

set_option maxRecDepth 100000 in
set_option maxHeartbeats 800000 in
theorem Of_any (n : Int) (h1 : -9223372036854775808 ≤ n) (h2 : n ≤ 9223372036854775807) (w : World) :
    Calls Tryz.prog 70 #[.int .i64 n] w (RetI w n) := by
  have hu : Hid (∀ v W, v = (n.natAbs : Int) → Calls Tryz.prog 99 #[.int .u64 v] W (NewI W fun z => z = digs n.natAbs)) := Lib.hid fun v W hv => digitsOf_at v _ hv (by omega) W
  have hS0 := Lib.hid (Ar0.start w)
  have hsg : Hid (Dg (digs n.natAbs) ∧ sg (decide (n < 0)) (val (digs n.natAbs)) = n) := Lib.hid ⟨Dg_digs _, by
    rw [val_digs]
    by_cases h : n < 0
    · rw [decide_eq_true h]; show -(n.natAbs : Int) = n; omega
    · rw [decide_eq_false h]; show (n.natAbs : Int) = n; omega⟩
  have hlen : Hid ((digs n.natAbs).length ≤ 3) := Lib.hid (digs_len_le (by
    have : pw 3 = 1000000000000000000000000000 := by decide
    omega))
  obtain ⟨D, hD⟩ : ∃ D, digs n.natAbs = D := ⟨_, rfl⟩
  rw [hD] at hu hsg hlen
  clear hD
  by_cases h0 : n < 0
  · have e1 : IntKind.u64.wrap n = n + 18446744073709551616 := by simp [IntKind.wrap, IntKind.bits, IntKind.signed]; omega
    have hd : decide (n < 0) = true := decide_eq_true h0
    go_enter Tryz.func70, Tryz.ntmps70
    go_wp2_with fail
    generalize w.alloc (.cells #[.bool false, .slice none 0 0] 24) = W0 at hS0 ⊢
    have hS1 := hS0.out
    clear hS0
    refine (hu.out _ _ (by simp [IntKind.wrap, IntKind.bits, IntKind.signed]; omega)).mono ?_
    rintro e w1 ⟨g, n1, z, rfl, hg, hz0, hb1, hn0, rfl⟩
    have hz := Lib.hid hz0
    have hn := Lib.hid hn0
    have hS2 := hS1.later hb1
    have hgt : w.heap.size < g := Nat.lt_of_lt_of_le hS1.top hg
    have hnl : n1 ≤ 3 := by have := hlen.out; omega
    clear hz0 hn0 hb1
    go_wp2_with fail
    refine (made_any true _ n1 n1 z _ hz.out.rdi hn.out.symm (Nat.le_refl _) (by omega) hsg.out.1).mono ?_
    rintro e w2 ⟨nb, p, n2, c2, rfl, hI0, hb2, hp0⟩
    have hI := Lib.hid hI0
    have hS3 := hS2.later hb2
    have hf3 := hS3.facts
    have hfin : Hid (RetI w n (.returned (.agg #[.bool nb, .slice p n2 c2])) ((w2.setCell ⟨w.heap.size, 0, none⟩ (.bool nb)).setCell ⟨w.heap.size, 1, none⟩ (.slice p n2 c2))) := Lib.hid (hS3.ret hI.out (fun q hq => by
      have := hp0 q hq
      cases this
      exact ⟨by simp; omega, by simp; omega⟩) (by have := hsg.out.2; rw [hd] at this; exact this))
    clear hI0 hb2 hp0
    go_wp2_with fail
    exact bodyPost_ret (v := .agg #[.bool nb, .slice p n2 c2]) (results_cell_row rfl _ _ w.heap.size 24 _ (0, 0) _ rfl (hS3.res _ _) Tryz.underlying24 rfl size_Int) rfl hfin.out
  · have hd : decide (n < 0) = false := decide_eq_false h0
    go_enter Tryz.func70, Tryz.ntmps70
    go_wp2_with fail
    generalize w.alloc (.cells #[.bool false, .slice none 0 0] 24) = W0 at hS0 ⊢
    have hS1 := hS0.out
    clear hS0
    refine (hu.out _ _ (by omega)).mono ?_
    rintro e w1 ⟨g, n1, z, rfl, hg, hz0, hb1, hn0, rfl⟩
    have hz := Lib.hid hz0
    have hn := Lib.hid hn0
    have hS2 := hS1.later hb1
    have hgt : w.heap.size < g := Nat.lt_of_lt_of_le hS1.top hg
    have hnl : n1 ≤ 3 := by have := hlen.out; omega
    clear hz0 hn0 hb1
    go_wp2_with fail
    refine (made_any false _ n1 n1 z _ hz.out.rdi hn.out.symm (Nat.le_refl _) (by omega) hsg.out.1).mono ?_
    rintro e w2 ⟨nb, p, n2, c2, rfl, hI0, hb2, hp0⟩
    have hI := Lib.hid hI0
    have hS3 := hS2.later hb2
    have hf3 := hS3.facts
    have hfin : Hid (RetI w n (.returned (.agg #[.bool nb, .slice p n2 c2])) ((w2.setCell ⟨w.heap.size, 0, none⟩ (.bool nb)).setCell ⟨w.heap.size, 1, none⟩ (.slice p n2 c2))) := Lib.hid (hS3.ret hI.out (fun q hq => by
      have := hp0 q hq
      cases this
      exact ⟨by simp; omega, by simp; omega⟩) (by have := hsg.out.2; rw [hd] at this; exact this))
    clear hI0 hb2 hp0
    go_wp2_with fail
    exact bodyPost_ret (v := .agg #[.bool nb, .slice p n2 c2]) (results_cell_row rfl _ _ w.heap.size 24 _ (0, 0) _ rfl (hS3.res _ _) Tryz.underlying24 rfl size_Int) rfl hfin.out
end Go.Proofs.YteaoaoknpihchaaGreat

namespace Go.Proofs
end Go.Proofs

namespace Go.Proofs.YteaoaoknpihchaaGreat
open Go.RowKit

/-- a guess that is greater than the square root -/
def AbvP (w : World) (x : List Int) (e : Ending) (w' : World) : Prop :=
  ∃ p n c r, e = .returned (.slice p n c) ∧ Rdi w' p r ∧ r.length = n ∧ n ≤ c ∧ c ≤ 9223372036854775807 ∧ Dg r ∧ 0 < val r ∧ val x < val r * val r ∧ tlen r = r.length ∧ n ≤ x.length ∧ (∀ q, p = some q → w.heap.size ≤ q.block) ∧ Below w.heap.size w w'

end Go.Proofs.YteaoaoknpihchaaGreat

namespace Go.Proofs.YteaoaoknpihchaaGreat
open Go.RowKit

theorem sq_nonneg' (a : Int) : 0 ≤ a * a := by
  rcases Int.lt_or_le a 0 with h | h
  · have : 0 ≤ (-a) * (-a) := Int.mul_nonneg (by omega) (by omega)
    rwa [Int.neg_mul_neg] at this
  · exact Int.mul_nonneg h h
theorem newton_stop {X R q r N m : Int} (h : X = R * q + r) (hr0 : 0 ≤ r) (hR : 0 < R) (hN : R + q = 2 * N + m) (hm : m < 2) (hle : R ≤ N) (hm0 : 0 ≤ m) : R * R ≤ X := by
  by_cases h1 : R ≤ q
  · have : R * R ≤ R * q := Int.mul_le_mul_of_nonneg_left h1 (by omega)
    omega
  · omega
theorem newton_go {X R q r N m : Int} (h : X = R * q + r) (hr1 : r < R) (hN : R + q = 2 * N + m) (hm : m < 2) (hX : 0 < X) (hN0 : 0 ≤ N) (hR : 0 < R) (hq : 0 ≤ q) : X < (N + 1) * (N + 1) ∧ 0 < N := by
  have h1 : (R - (q + 1)) * (R - (q + 1)) = (R + (q + 1)) * (R + (q + 1)) - 4 * (R * (q + 1)) := by grind
  have h2 := sq_nonneg' (R - (q + 1))
  have h3 : R * (q + 1) = R * q + R := by grind
  have h4 : (R + (q + 1)) * (R + (q + 1)) ≤ (2 * N + 2) * (2 * N + 2) := Int.mul_le_mul (by omega) (by omega) (by omega) (by omega)
  have h5 : (2 * N + 2) * (2 * N + 2) = 4 * ((N + 1) * (N + 1)) := by grind
  have h6 : X < (N + 1) * (N + 1) := by omega
  refine ⟨h6, ?_⟩
  rcases Int.lt_or_le 0 N with h7 | h7
  · exact h7
  · have : N = 0 := by omega
    rw [this] at h6
    omega
/-- the square root, rounded down -/
def RtP (w : World) (x : List Int) (e : Ending) (w' : World) : Prop :=
  ∃ p n c r, e = .returned (.slice p n c) ∧ Rdi w' p r ∧ r.length = n ∧ n ≤ c ∧ c ≤ 9223372036854775807 ∧ Dg r ∧ 0 ≤ val r ∧ val r * val r ≤ val x ∧ val x < (val r + 1) * (val r + 1) ∧ tlen r = r.length ∧ n ≤ x.length ∧ (∀ q, p = some q → w.heap.size ≤ q.block) ∧ Below w.heap.size w w'
/-- what a round of it keeps -/
def RtI (w : World) (x : List Int) (k : Nat) (v : Value) (wr : World) : Prop :=
  ∃ p n c r, v = .slice p n c ∧ Rdi wr p r ∧ r.length = n ∧ n ≤ c ∧ c ≤ 9223372036854775807 ∧ Dg r ∧ 0 < val r ∧ val x < (val r + 1) * (val r + 1) ∧ tlen r = r.length ∧ n ≤ x.length ∧ (∀ q, p = some q → w.heap.size ≤ q.block) ∧ Below w.heap.size w wr ∧ (val r).toNat = k
theorem rt_len {x r : List Int} (hx : Dg x) (hr : Dg r) (ht : tlen r = r.length) (hle : val r ≤ val x) : r.length ≤ x.length := by
  have h1 := digs_val hr ht
  have h2 := hr.lo
  rw [← h1]
  exact digs_len_le (by have := hx.hi; omega)
theorem top_of {r : List Int} (hr : Dg r) (ht : tlen r = r.length) (hp : 0 < val r) : 1 ≤ iat r (r.length - 1) ∧ 0 < r.length := by
  have h1 := digs_val hr ht
  have h2 := digs_top (n := (val r).toNat) (by omega)
  rw [h1] at h2
  have h3 := (hr.all (r.length - 1)).1
  refine ⟨by omega, ?_⟩
  rcases Nat.eq_zero_or_pos r.length with h | h
  · rw [List.eq_nil_of_length_eq_zero h] at hp; exact absurd hp (by decide)
  · exact h

end Go.Proofs.YteaoaoknpihchaaGreat

namespace Go.Proofs.YteaoaoknpihchaaGreat
open Go.RowKit


/-- the j lowest digits of m in base 256, most significant first -/
def lows : Nat → Nat → List UInt8
  | 0, _ => []
  | j + 1, m => lows j (m / 256) ++ [UInt8.ofNat (m % 256)]

theorem lows_length (j m : Nat) : (lows j m).length = j := by
  induction j generalizing m with
  | zero => rfl
  | succ j ih => simp [lows, ih]

/-- how many digits m has -/
def nd (m : Nat) : Nat :=
  if m < 1 then 0 else if m < 256 then 1 else if m < 65536 then 2 else if m < 16777216 then 3 else if m < 4294967296 then 4
  else if m < 1099511627776 then 5 else if m < 281474976710656 then 6 else if m < 72057594037927936 then 7 else 8

theorem nd_le (m : Nat) : nd m ≤ 8 := by
  unfold nd
  (repeat' split) <;> omega

/-- after j digits nothing is left exactly if m has at most j digits -/
theorem nd_zero (m j : Nat) (h : m < 9223372036854775808) (hj : j ≤ 8) : m / 256 ^ j = 0 ↔ nd m ≤ j := by
  have h9 : j = 0 ∨ j = 1 ∨ j = 2 ∨ j = 3 ∨ j = 4 ∨ j = 5 ∨ j = 6 ∨ j = 7 ∨ j = 8 := by omega
  unfold nd
  rcases h9 with rfl | rfl | rfl | rfl | rfl | rfl | rfl | rfl | rfl <;> simp only [Nat.reducePow] <;> (repeat' split) <;> omega

theorem pow_le_64 (k : Nat) (h : k ≤ 8) : 256 ^ k ≤ 18446744073709551616 := by
  have h9 : k = 0 ∨ k = 1 ∨ k = 2 ∨ k = 3 ∨ k = 4 ∨ k = 5 ∨ k = 6 ∨ k = 7 ∨ k = 8 := by omega
  rcases h9 with rfl | rfl | rfl | rfl | rfl | rfl | rfl | rfl | rfl <;> simp

theorem nd_lt (m : Nat) (h : m < 9223372036854775808) : m < 256 ^ nd m := by
  have := (nd_zero m (nd m) h (nd_le m)).2 (Nat.le_refl _)
  have hp : 0 < 256 ^ nd m := Nat.pow_pos (by omega)
  rcases Nat.lt_or_ge m (256 ^ nd m) with h1 | h1
  · exact h1
  · have := Nat.div_pos h1 hp; omega

theorem lows_getD (k m i : Nat) (h : i < k) : (lows k m).getD i 0 = UInt8.ofNat (m / 256 ^ (k - 1 - i) % 256) := by
  induction k generalizing m with
  | zero => omega
  | succ k ih =>
    simp only [lows]
    rcases Nat.lt_or_ge i k with h1 | h1
    · rw [List.getD_eq_getElem?_getD, List.getElem?_append_left (by rw [lows_length]; exact h1), ← List.getD_eq_getElem?_getD, ih _ h1, Nat.div_div_eq_div_mul]
      have : k + 1 - 1 - i = (k - 1 - i) + 1 := by omega
      rw [this, Nat.pow_succ, Nat.mul_comm]
    · have e : i = k := by omega
      subst e
      rw [List.getD_eq_getElem?_getD, List.getElem?_append_right (by rw [lows_length]; exact Nat.le_refl _), lows_length]
      simp

/-- a digit as it stands in the encoding of a negative number (g), or of another one -/
def fx (g : Bool) (d : UInt8) : UInt8 := if g then 255 - d else d
theorem fx_fx (g : Bool) (d : UInt8) : fx g (fx g d) = d := by
  cases g
  · rfl
  · show 255 - (255 - d) = d
    apply UInt8.toNat_inj.1
    have := d.toNat_lt
    have h1 : (255 : UInt8).toNat = 255 := rfl
    rw [UInt8.toNat_sub_of_le _ _ (by rw [UInt8.le_iff_toNat_le, UInt8.toNat_sub_of_le _ _ (by rw [UInt8.le_iff_toNat_le]; omega)]; omega), UInt8.toNat_sub_of_le _ _ (by rw [UInt8.le_iff_toNat_le]; omega)]
    omega
theorem fx_nat (g : Bool) (d : UInt8) : (fx g d).toNat = if g then 255 - d.toNat else d.toNat := by
  cases g
  · rfl
  · show (255 - d : UInt8).toNat = _
    have := d.toNat_lt
    rw [UInt8.toNat_sub_of_le _ _ (by rw [UInt8.le_iff_toNat_le]; show d.toNat ≤ 255; omega)]
    rfl

/-- the number that digits stand for -/
def mag (g : Bool) (l : List UInt8) : Nat := l.foldl (fun m d => 256 * m + (fx g d).toNat) 0
theorem mag_from (g : Bool) (l : List UInt8) (a : Nat) : l.foldl (fun m d => 256 * m + (fx g d).toNat) a = a * 256 ^ l.length + mag g l := by
  induction l generalizing a with
  | nil => simp [mag]
  | cons d t ih =>
    unfold mag
    simp only [List.foldl_cons, List.length_cons]
    rw [ih, ih]
    rw [Nat.pow_succ, Nat.mul_zero, Nat.zero_add, Nat.add_mul, Nat.mul_comm (256 ^ t.length) 256, ← Nat.mul_assoc, Nat.mul_comm a 256]
    omega
theorem mag_cons (g : Bool) (d : UInt8) (t : List UInt8) : mag g (d :: t) = (fx g d).toNat * 256 ^ t.length + mag g t := by
  have := mag_from g t (256 * 0 + (fx g d).toNat)
  unfold mag at *
  simp only [List.foldl_cons]
  rw [this]
  simp
theorem mag_snoc (g : Bool) (d : UInt8) (t : List UInt8) : mag g (t ++ [d]) = 256 * mag g t + (fx g d).toNat := by
  simp [mag, List.foldl_append]
theorem mag_lt (g : Bool) (l : List UInt8) : mag g l < 256 ^ l.length := by
  induction l with
  | nil => simp [mag]
  | cons d t ih =>
    rw [mag_cons, List.length_cons, Nat.pow_succ]
    have h1 := (fx g d).toNat_lt
    have h2 : (fx g d).toNat * 256 ^ t.length ≤ 255 * 256 ^ t.length := Nat.mul_le_mul_right _ (by omega)
    omega

theorem mag_lows (g : Bool) (k m : Nat) : mag g ((lows k m).map (fx g)) = m % 256 ^ k := by
  induction k generalizing m with
  | zero => simp [lows, mag, Nat.mod_one]
  | succ k ih =>
    simp only [lows, List.map_append, List.map_cons, List.map_nil]
    rw [mag_snoc, ih, fx_fx, UInt8.toNat_ofNat_of_lt' (by have := Nat.mod_lt m (show 0 < 256 by omega); simpa using this), Nat.pow_succ, Nat.mul_comm (256 ^ k) 256, Nat.mod_mul]
    omega

theorem snoc_of_ne {α : Type} (l : List α) (h : l ≠ []) : ∃ t d, l = t ++ [d] := ⟨l.dropLast, l.getLast h, (List.dropLast_concat_getLast h).symm⟩

theorem lows_mag (g : Bool) (k : Nat) (l : List UInt8) (h : l.length = k) : lows k (mag g l) = l.map (fx g) := by
  induction k generalizing l with
  | zero => have := List.eq_nil_of_length_eq_zero h; subst this; rfl
  | succ k ih =>
    obtain ⟨t, d, rfl⟩ := snoc_of_ne l (by intro e; subst e; simp at h)
    have ht : t.length = k := by simpa using h
    have hd := (fx g d).toNat_lt
    simp only [lows, mag_snoc, List.map_append, List.map_cons, List.map_nil]
    rw [show (256 * mag g t + (fx g d).toNat) / 256 = mag g t from by omega, show (256 * mag g t + (fx g d).toNat) % 256 = (fx g d).toNat from by omega, ih t ht, UInt8.ofNat_toNat]

theorem nd_of (m k : Nat) (h : m < 9223372036854775808) (hk : k ≤ 8) (h1 : m < 256 ^ k) (h2 : k = 0 ∨ 256 ^ (k - 1) ≤ m) : nd m = k := by
  have a : nd m ≤ k := (nd_zero m k h hk).1 (Nat.div_eq_of_lt h1)
  by_cases k0 : k = 0
  · omega
  rcases h2 with rfl | h2
  · omega
  · have b : ¬ nd m ≤ k - 1 := fun hc => by
      have := (nd_zero m (k - 1) h (by omega)).2 hc
      have := Nat.div_pos h2 (Nat.pow_pos (n := k - 1) (show 0 < 256 by omega)); omega
    omega

/-- the encoding of an integer -/
def neg (n : Int) : Bool := decide (n < 0)
def mgn (n : Int) : Nat := if n < 0 then (-1 - n).toNat else n.toNat
def hd (g : Bool) (k : Nat) : UInt8 := UInt8.ofNat (if g then 127 - k else 128 + k)
def enc (n : Int) : List UInt8 := hd (neg n) (nd (mgn n)) :: (lows (nd (mgn n)) (mgn n)).map (fx (neg n))
theorem enc_length (n : Int) : (enc n).length = 1 + nd (mgn n) := by simp [enc, lows_length, Nat.add_comm]

/-- the head of an encoding -/
def hk (h : UInt8) : Nat := if h.toNat < 128 then 127 - h.toNat else h.toNat - 128
def hg (h : UInt8) : Bool := decide (h.toNat < 128)
theorem hk_hd (g : Bool) (k : Nat) (h : k ≤ 8) : hk (hd g k) = k := by
  cases g
  · have : (hd false k).toNat = 128 + k := by
      show (UInt8.ofNat (128 + k)).toNat = _
      rw [UInt8.toNat_ofNat_of_lt' (by show _ < 256; omega)]
    unfold hk; rw [this, if_neg (by omega)]; omega
  · have : (hd true k).toNat = 127 - k := by
      show (UInt8.ofNat (127 - k)).toNat = _
      rw [UInt8.toNat_ofNat_of_lt' (by show _ < 256; omega)]
    unfold hk; rw [this, if_pos (by omega)]; omega
theorem hg_hd (g : Bool) (k : Nat) (h : k ≤ 8) : hg (hd g k) = g := by
  cases g
  · have : (hd false k).toNat = 128 + k := by
      show (UInt8.ofNat (128 + k)).toNat = _
      rw [UInt8.toNat_ofNat_of_lt' (by show _ < 256; omega)]
    unfold hg; rw [this]; simp
  · have : (hd true k).toNat = 127 - k := by
      show (UInt8.ofNat (127 - k)).toNat = _
      rw [UInt8.toNat_ofNat_of_lt' (by show _ < 256; omega)]
    unfold hg; rw [this]; simp; omega
theorem hd_hk (h : UInt8) : hd (hg h) (hk h) = h := by
  have hl := h.toNat_lt
  unfold hd hg hk
  by_cases c : h.toNat < 128
  · simp only [c, decide_true, if_true]
    rw [show 127 - (127 - h.toNat) = h.toNat from by omega, UInt8.ofNat_toNat]
  · simp only [c, decide_false, if_false]
    rw [show (if false = true then 127 - (h.toNat - 128) else 128 + (h.toNat - 128)) = h.toNat from by simp; omega, UInt8.ofNat_toNat]

/-- does a number begin with a digit 0? -/
def lead0 (g : Bool) (l : List UInt8) : Bool := match l with
  | [] => false
  | d :: _ => fx g d == 0

def sgn (g : Bool) (m : Nat) : Int := if g then -1 - (m : Int) else (m : Int)

/-- decoding an integer: the integer, the bytes used, the error -/
def gi : List UInt8 → Int × Nat × Int
  | [] => (0, 0, 3)
  | h :: t =>
    if 8 < hk h then (0, 0, 2)
    else if t.length < hk h then (0, 0, 3)
    else if lead0 (hg h) (t.take (hk h)) then (0, 0, 2)
    else if 9223372036854775807 < mag (hg h) (t.take (hk h)) then (0, 0, 2)
    else (sgn (hg h) (mag (hg h) (t.take (hk h))), 1 + hk h, 0)

theorem sgn_mgn (n : Int) : sgn (neg n) (mgn n) = n := by
  unfold sgn neg mgn
  by_cases h : n < 0
  · simp [h]; omega
  · simp [h]; omega
theorem mgn_lt (n : Int) (h1 : -9223372036854775808 ≤ n) (h2 : n ≤ 9223372036854775807) : mgn n < 9223372036854775808 := by
  unfold mgn; split <;> omega

theorem lead0_lows (g : Bool) (m : Nat) (h : m < 9223372036854775808) : lead0 g ((lows (nd m) m).map (fx g)) = false := by
  rcases Nat.eq_zero_or_pos (nd m) with h0 | h0
  · rw [h0]; rfl
  · have h1 : 256 ^ (nd m - 1) ≤ m := by
      have b : ¬ nd m ≤ nd m - 1 := by omega
      have := mt (nd_zero m (nd m - 1) h (by have := nd_le m; omega)).1 b
      rcases Nat.lt_or_ge m (256 ^ (nd m - 1)) with c | c
      · exact absurd (Nat.div_eq_of_lt c) this
      · exact c
    have e := mag_lows g (nd m) m
    rw [Nat.mod_eq_of_lt (nd_lt m h)] at e
    have hl : ((lows (nd m) m).map (fx g)).length = nd m := by simp [lows_length]
    cases hL : (lows (nd m) m).map (fx g) with
    | nil => rfl
    | cons d t =>
      rw [hL] at e hl
      simp only [List.length_cons] at hl
      show (fx g d == 0) = false
      rw [mag_cons] at e
      have h4 := mag_lt g t
      rw [beq_eq_false_iff_ne]
      intro hz
      rw [hz, show (0 : UInt8).toNat = 0 from rfl, Nat.zero_mul, Nat.zero_add] at e
      have h5 : t.length = nd m - 1 := by omega
      rw [h5] at h4
      omega

/-- P1.6: decoding an encoding, whatever follows it -/
theorem gi_enc (n : Int) (t : List UInt8) (h1 : -9223372036854775808 ≤ n) (h2 : n ≤ 9223372036854775807) : gi (enc n ++ t) = (n, (enc n).length, 0) := by
  have hm := mgn_lt n h1 h2
  have hn := nd_le (mgn n)
  have hl : ((lows (nd (mgn n)) (mgn n)).map (fx (neg n))).length = nd (mgn n) := by simp [lows_length]
  rw [enc_length]
  show gi (hd (neg n) (nd (mgn n)) :: ((lows (nd (mgn n)) (mgn n)).map (fx (neg n)) ++ t)) = _
  have ht : ((lows (nd (mgn n)) (mgn n)).map (fx (neg n)) ++ t).take (nd (mgn n)) = (lows (nd (mgn n)) (mgn n)).map (fx (neg n)) := by
    rw [List.take_append_of_le_length (by omega), List.take_of_length_le (by omega)]
  unfold gi
  simp only [hk_hd _ _ hn, hg_hd _ _ hn, ht, lead0_lows _ _ hm, mag_lows, Nat.mod_eq_of_lt (nd_lt _ hm), sgn_mgn]
  rw [if_neg (by omega), if_neg (by rw [List.length_append, hl]; omega), if_neg (by simp), if_neg (by omega)]

theorem gi_pre (n : Int) (i : Nat) (_h1 : -9223372036854775808 ≤ n) (_h2 : n ≤ 9223372036854775807) (hi : i < (enc n).length) : gi ((enc n).take i) = (0, 0, 3) := by
  have hn := nd_le (mgn n)
  rw [enc_length] at hi
  match i, hi with
  | 0, _ => rfl
  | i + 1, hi =>
    show gi (hd (neg n) (nd (mgn n)) :: ((lows (nd (mgn n)) (mgn n)).map (fx (neg n))).take i) = _
    unfold gi
    simp only [hk_hd _ _ hn]
    rw [if_neg (by omega), if_pos (by simp [lows_length]; omega)]

theorem gi_range (l : List UInt8) (n : Int) (u : Nat) (h : gi l = (n, u, 0)) : -9223372036854775808 ≤ n ∧ n ≤ 9223372036854775807 ∧ u ≤ l.length ∧ l.take u = enc n ∧ u = (enc n).length := by
  match l, h with
  | [], h => simp [gi] at h
  | a :: t, h =>
    simp only [gi] at h
    split at h
    · simp at h
    · split at h
      · simp at h
      · split at h
        · simp at h
        · split at h
          · simp at h
          · rename_i c1 c2 c3 c4
            simp only [Prod.mk.injEq, and_true] at h
            obtain ⟨hn, hu⟩ := h
            have htl : (t.take (hk a)).length = hk a := by simp; omega
            have hlt := mag_lt (hg a) (t.take (hk a))
            rw [htl] at hlt
            have hmg : mgn n = mag (hg a) (t.take (hk a)) ∧ neg n = hg a := by
              rw [← hn]
              generalize mag (hg a) (t.take (hk a)) = z
              generalize hg a = g
              unfold sgn mgn neg
              cases g
              · simp
                omega
              · have : (-1 - (z : Int)) < 0 := by omega
                simp only [if_true, if_pos this]
                exact ⟨by omega, by simp; omega⟩
            have hnd : nd (mgn n) = hk a := by
              rw [hmg.1]
              apply nd_of _ _ (by omega) (by omega) hlt
              cases hT : t.take (hk a) with
              | nil => left; rw [hT] at htl; simpa using htl.symm
              | cons d r =>
                right
                rw [hT] at c3 htl
                simp only [List.length_cons] at htl
                have : ¬ fx (hg a) d = 0 := by simpa [lead0] using c3
                have hp : 0 < (fx (hg a) d).toNat := by
                  rcases Nat.eq_zero_or_pos (fx (hg a) d).toNat with z | z
                  · exact absurd (UInt8.toNat_inj.1 z) this
                  · exact z
                rw [mag_cons, show hk a - 1 = r.length from by omega]
                have := Nat.le_mul_of_pos_left (256 ^ r.length) hp
                omega
            have henc : enc n = a :: t.take (hk a) := by
              unfold enc
              rw [hnd, hmg.1, hmg.2, hd_hk, lows_mag _ _ _ htl]
              simp [fx_fx, Function.comp_def]
            refine ⟨?_, ?_, ?_, ?_, ?_⟩
            · rw [← hn]; unfold sgn; split <;> omega
            · rw [← hn]; unfold sgn; split <;> omega
            · simp; omega
            · rw [henc, ← hu, Nat.add_comm]; rfl
            · rw [henc, ← hu]; simp; omega


end Go.Proofs.YteaoaoknpihchaaGreat

namespace Go.Proofs.YteaoaoknpihchaaGreat
open Go.RowKit


/-- what the digits are combined with -/
def flp (g : Bool) : Int := if g then 255 else 0
theorem flp_lo (g : Bool) : 0 ≤ flp g := by unfold flp; split <;> omega
theorem flp_hi (g : Bool) : flp g < 256 := by unfold flp; split <;> omega

theorem xor_255 : ∀ x : Fin 256, x.val ^^^ 255 = 255 - x.val := by decide +kernel
theorem xor_flp (g : Bool) (d : UInt8) : bits .xor .u8 (d.toNat : Int) (flp g) = ((fx g d).toNat : Int) := by
  have hd := d.toNat_lt
  rw [u8_xor _ _ (by omega) (by omega) (flp_lo g) (flp_hi g), fx_nat]
  cases g
  · simp [flp]
  · have := xor_255 ⟨d.toNat, hd⟩
    simp only [flp, if_true, Int.toNat_natCast]
    rw [show (255 : Int).toNat = 255 from rfl, this]
theorem xor_byt (g : Bool) (l : List UInt8) (k : Nat) : bits .xor .u8 (byt l k) (flp g) = ((fx g (l.getD k 0)).toNat : Int) := xor_flp g _

theorem or_digit (z d : Nat) (hz : z < 72057594037927936) (hd : d < 256) : bits .or .u64 (IntKind.u64.wrap ((z : Int) * 256)) (IntKind.u64.wrap (d : Int)) = ((256 * z + d : Nat) : Int) := by
  rw [show IntKind.u64.wrap ((z : Int) * 256) = ((256 * z : Nat) : Int) from by simp [IntKind.wrap, IntKind.bits, IntKind.signed]; omega, show IntKind.u64.wrap (d : Int) = (d : Int) from by simp [IntKind.wrap, IntKind.bits, IntKind.signed]; omega]
  rw [u64_or_nat _ _ (by omega) (by omega)]
  have := Nat.two_pow_add_eq_or_of_lt (i := 8) (b := d) (by omega) z
  simp only [Nat.reducePow] at this
  rw [← this]

theorem mag_step (g : Bool) (l : List UInt8) (k : Nat) (hk : k < l.length) (h8 : l.length ≤ 8) :
    bits .or .u64 (IntKind.u64.wrap ((mag g (l.take k) : Int) * 256)) (IntKind.u64.wrap (bits .xor .u8 (byt l k) (flp g))) = ((mag g (l.take (k + 1)) : Nat) : Int) := by
  have hl : (l.take k).length = k := by simp; omega
  have h1 := mag_lt g (l.take k)
  rw [hl] at h1
  have h2 : 256 ^ k ≤ 256 ^ 7 := Nat.pow_le_pow_right (by omega) (by omega)
  have h3 := (fx g (l.getD k 0)).toNat_lt
  rw [xor_byt, or_digit _ _ (by omega) (by omega), List.take_succ_eq_append_getElem hk, mag_snoc]
  simp [hk]

theorem lead_byt (g : Bool) (l : List UInt8) (h0 : 0 < l.length) : (byt l 0 == flp g) = lead0 g l := by
  cases l with
  | nil => simp at h0
  | cons d t =>
    show (((d.toNat : Int)) == flp g) = (fx g d == 0)
    have := d.toNat_lt
    have e : fx g d = 0 ↔ (d.toNat : Int) = flp g := by
      rw [← UInt8.toNat_inj, fx_nat]
      cases g <;> simp [flp] <;> omega
    rw [Bool.eq_iff_iff, beq_iff_eq, beq_iff_eq, e]




theorem below_grown {w w' : World} (h : Below w.heap.size w w') (row : Option Nat) : w.grownBy w' row := ⟨h.os, h.tape, h.output, h.size, fun k hk _ => h.block k hk⟩

/-- the array of digits after j digits of m: block B, made by the call -/
def CodeBlk (B : Nat) (w wr : World) (T : TypeId) (g : Bool) (m j : Nat) : Prop :=
  Below B w wr ∧ wr.heap.size = B + 1 ∧ ∃ c : Array Value, wr.heap[B]? = some (.cells c T (0, 0)) ∧ c.size = 9 ∧ ∀ i, i < j → c[8 - i]? = some (.int .u8 ((fx g (UInt8.ofNat (m / 256 ^ i % 256))).toNat : Int))

theorem CodeBlk.start (w : World) (T : TypeId) (c : Array Value) (h : c.size = 9) (g : Bool) (m : Nat) : CodeBlk w.heap.size w (w.alloc (.cells c T)) T g m 0 :=
  ⟨(Below.refl _ _).alloc (Nat.le_refl _) _, by simp, c, heap_alloc_new w _, h, fun i hi => by omega⟩

theorem CodeBlk.cell {B : Nat} {w wr : World} {T : TypeId} {g : Bool} {m j : Nat} (h : CodeBlk B w wr T g m j) (i : Nat) (hi : i < 9) : ∃ x, wr.cell? ⟨B, i, none⟩ = some x := by
  obtain ⟨_, _, c, hc, hs, _⟩ := h
  exact ⟨c[i], by simp [World.cell?, hc, hs, hi]⟩

theorem CodeBlk.free {B : Nat} {w wr : World} {T : TypeId} {g : Bool} {m j : Nat} (h : CodeBlk B w wr T g m j) (i : Nat) : wr.frozen? ⟨B, i, none⟩ = false := by
  obtain ⟨_, _, c, hc, hs, _⟩ := h
  simp [World.frozen?, hc]

theorem CodeBlk.step {B : Nat} {w wr : World} {T : TypeId} {g : Bool} {m j : Nat} (h : CodeBlk B w wr T g m j) (hj : j < 8) (x : Int) (hx : x = ((fx g (UInt8.ofNat (m / 256 ^ j % 256))).toNat : Int)) :
    CodeBlk B w (wr.setCell ⟨B, 8 - j, none⟩ (.int .u8 x)) T g m (j + 1) := by
  obtain ⟨hb, hz, c, hc, hs, hd⟩ := h
  refine ⟨hb.setCell (Nat.le_refl _) _, by simp [World.setCell, hz], _, heap_setCell_self _ _ _ _ _ _ hc, by simp [hs], fun i hi => ?_⟩
  rw [Array.getElem?_setIfInBounds]
  rcases Nat.lt_or_ge i j with h1 | h1
  · rw [if_neg (by omega)]; exact hd i h1
  · have : i = j := by omega
    subst this
    rw [if_pos rfl, if_pos (by omega), hx]

theorem xor_low (g : Bool) (q : Nat) : bits .xor .u8 ((q : Int) % 256) (flp g) = ((fx g (UInt8.ofNat (q % 256))).toNat : Int) := by
  rw [← xor_flp, UInt8.toNat_ofNat_of_lt' (by have := Nat.mod_lt q (show 0 < 256 by omega); simpa using this)]
  rfl

theorem xor_ones (x : Nat) (h : x < 18446744073709551616) : 18446744073709551615 ^^^ x = 18446744073709551615 - x := by
  have h1 : (BitVec.allOnes 64 ^^^ BitVec.ofNat 64 x).toNat = 18446744073709551615 - x := by
    rw [BitVec.xor_comm, BitVec.xor_allOnes, BitVec.toNat_not, BitVec.toNat_ofNat, Nat.mod_eq_of_lt h]
  rw [BitVec.toNat_xor, BitVec.toNat_ofNat, Nat.mod_eq_of_lt h] at h1
  exact h1
theorem cpl_neg (m : Nat) (h : m < 9223372036854775808) : bits .xor .u64 IntKind.u64.max (IntKind.u64.wrap (-1 - (m : Int))) = (m : Int) := by
  have e : IntKind.u64.wrap (-1 - (m : Int)) = ((18446744073709551615 - m : Nat) : Int) := by
    simp [IntKind.wrap, IntKind.bits, IntKind.signed]
    omega
  have e2 : IntKind.u64.max = ((18446744073709551615 : Nat) : Int) := by decide
  rw [e, e2, u64_xor_nat _ _ (by omega) (by omega), xor_ones _ (by omega)]
  omega

theorem info_u8 : (Tryz.prog.info? 5).map (fun i => (i.zero, i.size, i.bytes)) = some (some (.int .u8 0), 1, 1) := by kernel_rfl

/-- bytes as values -/
def bvs (l : List UInt8) : List Value := l.map fun b => .int .u8 (b.toNat : Int)
theorem bvs_one (l : List UInt8) : ∀ u ∈ bvs l, u.oneCell' = true := by
  intro u hu
  simp only [bvs, List.mem_map] at hu
  obtain ⟨b, _, rfl⟩ := hu
  rfl
theorem bvs_length (l : List UInt8) : (bvs l).length = l.length := by simp [bvs]
theorem bvs_append (l r : List UInt8) : bvs (l ++ r) = bvs l ++ bvs r := by simp [bvs]

theorem news_length (g : Bool) (m : Nat) : (bvs (hd g (nd m) :: (lows (nd m) m).map (fx g))).length = (nd m + 1) * 1 := by simp [bvs, lows_length]

theorem head_xor (g : Bool) (k : Nat) (h8 : k ≤ 8) : bits BinOp.xor IntKind.u8 (136 - ((8 - k : Nat) : Int)) (flp g) = ((hd g k).toNat : Int) := by
  have h1 : (UInt8.ofNat (128 + k)).toNat = 128 + k := UInt8.toNat_ofNat_of_lt' (by show _ < 256; omega)
  have e : 136 - ((8 - k : Nat) : Int) = ((UInt8.ofNat (128 + k)).toNat : Int) := by rw [h1]; omega
  rw [e, xor_flp, fx_nat, h1]
  unfold hd
  cases g
  · simp only [Bool.false_eq_true, if_false]
    rw [h1]
  · simp only [if_true]
    rw [UInt8.toNat_ofNat_of_lt' (by show _ < 256; omega)]
    omega

theorem CodeBlk.news {B : Nat} {w wr : World} {T : TypeId} {g : Bool} {m : Nat} (h : CodeBlk B w wr T g m (nd m)) (h8 : nd m ≤ 8) (x : Int) (hx : x = ((hd g (nd m)).toNat : Int)) :
    ∀ j u, (bvs (hd g (nd m) :: (lows (nd m) m).map (fx g)))[j]? = some u → (wr.setCell ⟨B, 8 - nd m, none⟩ (.int .u8 x)).cell? ((⟨B, 8 - nd m, none⟩ : Addr).add j) = some u := by
  obtain ⟨_, _, c, hc, hs, hd'⟩ := h
  intro j u hu
  have ha : (⟨B, 8 - nd m, none⟩ : Addr).add j = ⟨B, 8 - nd m + j, none⟩ := by unfold Addr.add; split <;> simp_all
  rw [ha]
  simp only [World.cell?, heap_setCell_self _ _ _ _ _ _ hc]
  simp only [Option.isSome_none, Bool.false_eq_true, if_false, Array.getElem?_setIfInBounds]
  match j, hu with
  | 0, hu =>
    simp only [bvs, List.map_cons, List.getElem?_cons_zero, Option.some.injEq] at hu
    rw [Nat.add_zero, if_pos rfl, if_pos (by omega), hx, hu]
  | i + 1, hu =>
    have hi : i < nd m := by
      rcases Nat.lt_or_ge i (nd m) with h1 | h1
      · exact h1
      · simp only [bvs, List.map_cons, List.getElem?_cons_succ] at hu
        rw [List.getElem?_eq_none (by simp [lows_length]; exact h1)] at hu
        cases hu
    rw [if_neg (by omega), show 8 - nd m + (i + 1) = 8 - (nd m - 1 - i) from by omega, hd' _ (by omega), ← lows_getD _ _ _ hi]
    simp only [bvs, List.map_cons, List.getElem?_cons_succ, List.map_map] at hu
    rw [List.getElem?_map] at hu
    rw [List.getD_eq_getElem?_getD]
    cases hL : (lows (nd m) m)[i]? with
    | none => rw [hL] at hu; simp at hu
    | some d => rw [hL] at hu; simpa using hu

/-- what appending bytes to an owned row comes to -/
def PutPost (w : World) (base : Nat) (n0 : Nat) (xs : List Value) (l : List UInt8) (e : Ending) (w' : World) : Prop :=
  ∃ v', e = .returned v' ∧ w'.ownsRow base 5 1 v' (n0 + l.length) (xs ++ bvs l) ∧ Below base w w'

theorem putPost_of {w w1 w2 : World} {base n0 n : Nat} {v v' : Value} {xs : List Value} {l : List UInt8} (hb : base ≤ w1.heap.size) (h : Below base w w1) (hv : w1.ownsRow base 5 1 v n0 xs) (hl : (bvs l).length = n * 1) (ho : w2.ownsRow base 5 1 v' (n0 + n) (xs ++ bvs l)) (g : w1.grownBy w2 v.ownBlock) :
    PutPost w base n0 xs l (.returned v') w2 := by
  refine ⟨v', rfl, ?_, h.grown g hb fun k hk => (hv.lt k hk).1⟩
  rw [bvs_length, Nat.mul_one] at hl
  rw [hl]
  exact ho

end Go.Proofs.YteaoaoknpihchaaGreat

namespace Go.Proofs.YteaoaoknpihchaaGreat
open Go.RowKit

set_option maxRecDepth 100000 in
set_option maxHeartbeats 400000 in
theorem digit_any (a : Option Addr) (n c : Nat) (l : List Int) (i : Nat) (w : World) (hR0 : Rdi w a l) (hn0 : n = l.length) :
    Calls Tryz.prog 131 #[.slice a n c, .int .i64 (i : Int)] w fun e w' => e = .returned (.int .i64 (iat l i)) ∧ w = w' := by
  have hn := Lib.hid hn0
  by_cases h : i < n
  · obtain ⟨b, o, rfl, hc⟩ := Rdi_at hR0 i (by omega)
    have h1 : (i : Int) < (n : Int) := by omega
    have h2 : 0 ≤ (i : Int) := by omega
    generalize iat l i = x at hc ⊢
    clear hR0 hn0
    go_enter Tryz.func131, Tryz.ntmps131
    go_wp2_with fail
    go_ret
    exact ⟨rfl, rfl⟩
  · have h1 : ¬ (i : Int) < (n : Int) := by omega
    have h2 : Hid (iat l i = 0) := Lib.hid (iat_ge (by omega))
    clear hR0 hn0
    go_enter Tryz.func131, Tryz.ntmps131
    go_wp2_with fail
    go_ret
    exact ⟨by rw [h2.out]; rfl, rfl⟩

set_option maxRecDepth 100000 in
set_option maxHeartbeats 800000 in
theorem normal_any (neg : Bool) (a : Option Addr) (m c : Nat) (l : List Int) (w : World) (hR0 : Rdi w a l) (hm0 : m = l.length) (hmc : m ≤ c) (hm : c ≤ 9223372036854775807) (hd0 : Dg l) :
    Calls Tryz.prog 112 #[.bool neg, .slice a m c] w (RetF (fun q => a = some q) w (sg neg (val l))) := by
  have hR := Lib.hid hR0
  have hml := Lib.hid hm0
  have hd := Lib.hid hd0
  have hb0 := Lib.hid (below_new w (.cells #[.bool false, .slice none 0 0] 24))
  clear hR0 hm0 hd0
  go_enter Tryz.func112, Tryz.ntmps112
  go_wp2_with fail
  go_loopw [5] (fun n wr => ∃ k : Nat, k ≤ m ∧ n = .int .i64 (k : Int) ∧ Hid (∀ i, k ≤ i → i < l.length → iat l i = 0) ∧ wr = w.alloc (.cells #[.bool false, .slice none 0 0] 24)) (fun n _ => (intOf n).toNat)
  case atStart => exact ⟨m, Nat.le_refl _, rfl, Lib.hid (fun i h1 h2 => by have := hml.out; omega), rfl⟩
  case round =>
    obtain ⟨k, hk, rfl, hz, rfl⟩ := hrel
    by_cases h0 : k = 0
    · subst h0
      have ht : Hid (tlen l = 0) := Lib.hid (tlen_of l 0 (Nat.zero_le _) hz.out (.inl rfl))
      have hv : Hid (sg neg (val l) = 0) := Lib.hid (by rw [tlen_zero hd.out ht.out]; unfold sg; cases neg <;> rfl)
      rw [show ((0 : Nat) : Int) = 0 from rfl]
      go_wp2_with fail
      exact bodyPost_ret (v := .agg #[.bool false, .slice none 0 0]) (by simp [results, Tryz.results112, go_sem]) rfl ⟨_, _, _, _, rfl, by rw [hv.out]; exact IntAt_zero _ _ _ (by omega), below_new _ _, fun q hq => by cases hq⟩
    · obtain ⟨q, rfl⟩ : ∃ q, k = q + 1 := ⟨k - 1, by omega⟩
      obtain ⟨b, off, rfl, hc0⟩ := Rdi_at hR.out q (by rw [← hml.out]; omega)
      have hc := Below.cell_of' hb0.out hc0
      obtain ⟨x, hx⟩ : ∃ x, iat l q = x := ⟨_, rfl⟩
      rw [hx] at hc
      have hx' := Lib.hid hx
      clear hx h0 hc0
      have e1 : (((q + 1 : Nat) : Int)) = (q : Int) + 1 := by omega
      have e2 : (q : Int) + 1 - 1 = (q : Int) := by omega
      have h1 : (0 : Int) < (q : Int) + 1 := by omega
      have e3 : 0 ≤ (q : Int) := by omega
      rw [e1]
      by_cases hx0 : x = 0
      · subst hx0
        have hz2 : Hid (∀ i, q ≤ i → i < l.length → iat l i = 0) := Lib.hid (fun i h1 h2 => by
          rcases Nat.lt_or_ge q i with h | h
          · exact hz.out i (by omega) h2
          · rw [show i = q by omega]; exact hx'.out)
        go_wp2_with fail
        refine ⟨⟨q, by omega, rfl, hz2, trivial⟩, by simp [intOf]⟩
      · have hxb : (x == 0) = false := by simpa using hx0
        have ht : Hid (tlen l = q + 1) := Lib.hid (tlen_of l (q + 1) (by rw [← hml.out]; exact hk) hz.out (.inr (by rw [Nat.add_sub_cancel, hx'.out]; exact hx0)))
        have hI : Hid (∀ W, Below w.heap.size w W → IntAt W neg (some ⟨b, off, none⟩) (q + 1) c (sg neg (val l))) := Lib.hid (fun W hb => by rw [← ht.out]; exact made_is (Rdi_below hb hR.out) hd.out (by rw [ht.out]; omega) (by rw [← hml.out]; exact hmc) hm)
        have hqb : (((q : Int) + 1) == 0) = false := by simp; omega
        clear hx0
        go_wp2_with fail
        exact bodyPost_ret (v := .agg #[.bool neg, .slice (some ⟨b, off, none⟩) (q + 1) c]) (by simp [results, Tryz.results112, go_sem]) rfl ⟨_, _, _, _, rfl, hI.out _ (below_new _ _), below_new _ _, fun q hq => hq⟩
end Go.Proofs.YteaoaoknpihchaaGreat
