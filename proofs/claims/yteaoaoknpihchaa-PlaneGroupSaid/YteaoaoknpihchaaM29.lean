/- Contracts of the package integer and its reference: The reference's turns. The reference's Still. Words for the numbers, turns and placements that the laws of package plane are about. Numbers, vectors, turns and placements of the reference. Align and placements of the reference. -/
import Derived.Test.YteaoaoknpihchaaM28
import Derived.Test.YteaoaoknpihchaaM19
import Derived.Test.YteaoaoknpihchaaM23
import Derived.Deep.LoopGhost
set_option linter.unusedVariables false
namespace Go.Proofs.Yteaoaoknpihchaa
open Go.RowKit

set_option maxRecDepth 100000 in
set_option maxHeartbeats 1600000 in
theorem cR5TSame {w : World} {N : Nat} {a b c d : Rat} {v0 v1 : Value} (h0 : Vv N (a) (b) v0 w) (h1 : Vv N (c) (d) v1 w) (h3 : 3 ≤ N) (hN : N ≤ 10000) : Calls Try.prog 32 #[v0, v1] w (RV (Vb (decide (a = c ∧ b = d))) w) := by
  go_enter Try.func32, Try.ntmps32
  have st0 : St w.heap.size w 17 [] [(0, Vv N (a) (b)), (1, Vv N (c) (d))] _ w := St.begin (a := ⟨#[v0, v1, undef, undef, undef, undef, undef, undef, undef, undef, undef, undef, undef, undef, undef, undef, undef], []⟩) rfl rfl (List.forall_mem_cons.2 ⟨⟨_, rfl, h0⟩, (List.forall_mem_cons.2 ⟨⟨_, rfl, h1⟩, (fun _ h => absurd h (by simp))⟩)⟩)
  generalize (⟨#[v0, v1, undef, undef, undef, undef, undef, undef, undef, undef, undef, undef, undef, undef, undef, undef, undef], []⟩ : Act) = a0 at st0 ⊢
  repeat first | refine wp_seq ?_ | refine wp_block ?_ | refine wp_skip ?_ | refine wp_exit ?_
  refine rg (BT := []) (Vl := [VT, VT, Vb (false)]) (B := [⟨2, some 0, some 0, 28, 8, Vv N (a) (b), VT⟩, ⟨3, some 1, some 1, 28, 8, Vv N (c) (d), VT⟩]) (SL' := [(4, Vb (false))]) st0 ⟨ks, ks, ks, trivial⟩ ?_
  intro a1 w1 st1
  clear st0
  by_cases hp : a = c
  ·
    repeat first | refine wp_seq ?_ | refine wp_block ?_ | refine wp_skip ?_ | refine wp_exit ?_
    refine rg (BT := []) (Vl := [Vpt a1 2 0, Vq N (a), Vpt a1 3 0, Vq N (c), Vb (true), Vb (true), Vpt a1 2 4, Vq N (b), Vpt a1 3 4, Vq N (d), Vb (decide ((b) = (d))), Vb (decide ((b) = (d))), Vb (decide ((b) = (d)))]) (B := [⟨2, none, none, 28, 8, Vv N (a) (b), VT⟩, ⟨3, none, none, 28, 8, Vv N (c) (d), VT⟩]) (SL' := [(4, Vb (decide ((b) = (d))))]) st1 ⟨ks, ks, ks, ks, ?s4, ks, ks, ks, ks, ks, ?s10, ks, ks, trivial⟩ ?_
    case s4 =>
      refine kc fun _ ac Wd h hd => ?_
      obtain ⟨v0, hv0, hV0⟩ := h.dp hd 6
      obtain ⟨v1, hv1, hV1⟩ := h.dp hd 8
      exact ⟨#[v0, v1], by simp [hv0, hv1], (cR4Same (show Vq N (a) v0 Wd from hV0) (show Vq N (c) v1 Wd from hV1) (by omega)).mono fun e w h => h.le fun v w hv => hv.trans (congrArg Value.bool (decide_eq_true (hp)))⟩
    case s10 =>
      refine kc fun _ ac Wd h hd => ?_
      obtain ⟨v0, hv0, hV0⟩ := h.dp hd 12
      obtain ⟨v1, hv1, hV1⟩ := h.dp hd 14
      exact ⟨#[v0, v1], by simp [hv0, hv1], cR4Same (show Vq N (b) v0 Wd from hV0) (show Vq N (d) v1 Wd from hV1) (by omega)⟩
    intro a2 w2 st2
    clear st1
    repeat first | refine wp_seq ?_ | refine wp_block ?_ | refine wp_skip ?_ | refine wp_exit ?_
    obtain ⟨vr, r1, r4⟩ := st2.slot (4, Vb (decide ((b) = (d)))) (.head _)
    exact wp_ret (bodyPost_ret (results_tmp rfl _ _ _) st2.defers ⟨_, congrArg Ending.returned (show _ = vr from r1), (by rw [show decide (a = c ∧ b = d) = decide (b = d) by simp [hp]]; exact r4), st2.k.below⟩)
  ·
    repeat first | refine wp_seq ?_ | refine wp_block ?_ | refine wp_skip ?_ | refine wp_exit ?_
    refine rg (BT := []) (Vl := [Vpt a1 2 0, Vq N (a), Vpt a1 3 0, Vq N (c), Vb (false), Vb (false), VT, VT, VT, VT, VT, Vb (false), Vb (false)]) (B := [⟨2, none, none, 28, 8, Vv N (a) (b), VT⟩, ⟨3, none, none, 28, 8, Vv N (c) (d), VT⟩]) (SL' := [(4, Vb (false))]) st1 ⟨ks, ks, ks, ks, ?s4, ks, ks, ks, ks, ks, ks, ks, ks, trivial⟩ ?_
    case s4 =>
      refine kc fun _ ac Wd h hd => ?_
      obtain ⟨v0, hv0, hV0⟩ := h.dp hd 6
      obtain ⟨v1, hv1, hV1⟩ := h.dp hd 8
      exact ⟨#[v0, v1], by simp [hv0, hv1], (cR4Same (show Vq N (a) v0 Wd from hV0) (show Vq N (c) v1 Wd from hV1) (by omega)).mono fun e w h => h.le fun v w hv => hv.trans (congrArg Value.bool (decide_eq_false (hp)))⟩
    intro a2 w2 st2
    clear st1
    repeat first | refine wp_seq ?_ | refine wp_block ?_ | refine wp_skip ?_ | refine wp_exit ?_
    obtain ⟨vr, r1, r4⟩ := st2.slot (4, Vb (false)) (.head _)
    exact wp_ret (bodyPost_ret (results_tmp rfl _ _ _) st2.defers ⟨_, congrArg Ending.returned (show _ = vr from r1), (by rw [show decide (a = c ∧ b = d) = false by simp [hp]]; exact r4), st2.k.below⟩)
end Go.Proofs.Yteaoaoknpihchaa

namespace Go.Proofs.Yteaoaoknpihchaa
open Go.RowKit

theorem build_Turn1 {ρ : Operand → Value} {o : Oper} {W : World} {x : Operand} {va : Value} {q : Rat} {N : Nat} (ho : o.op = .build 28 #[(0, x)]) (hx : ρ x = va) (h1 : Vq N q va W) : ∃ v, (execOp ρ o).run Try.prog W = .ok (.value v) W ∧ Vv N q 0 v W := by
  obtain ⟨cx, rfl, e1, -⟩ := AggV_Vq _ _ _ _ h1
  obtain ⟨a, b, c, d, rfl⟩ := arr4 e1
  have hz : Vq N 0 (.agg (#[.bool false, .slice none 0 0] ++ #[.bool false, .slice none 0 0])) W := ⟨_, _, rfl, rfl, rfl, ⟨_, _, _, _, rfl, IntAt_zero _ _ _ (by omega), by omega⟩, ⟨_, _, _, _, rfl, IntAt_zero _ _ _ (by omega), by omega⟩⟩
  refine ⟨.agg (#[a, b, c, d] ++ (#[.bool false, .slice none 0 0] ++ #[.bool false, .slice none 0 0])), ?_, ⟨_, _, rfl, rfl, rfl, h1, hz⟩⟩
  obtain ⟨dd, op, ty, ps, af, gd⟩ := o
  subst ho
  go_simp

end Go.Proofs.Yteaoaoknpihchaa

namespace Go.Proofs.Yteaoaoknpihchaa
open Go.RowKit
variable {BT : List (TypeId × Nat × Nat)}

section
variable {P : Program} {md : Region.Mode} {ops : Array Oper} {Q : Exit → Act → World → Prop} {a0 : Act} {V : Nat → VP} {n0 : Nat} {w0 : World} {B : List Bd} {SL : List (Nat × VP)}
/-- a part of a box, ahead of the store into it -/
theorem k_part0 {i : Nat} {o : Oper} {b : Bd} {d : TypeDesc} {T : TypeId} {s j off k kk : Nat} (hBP : ∀ b ∈ B, b.stab BT) (hq : quietB B i o.dst = true) (hb : b ∈ B) (ho : o.op = .load T (.tmp s)) (hon : b.ia = none) (hok : b.ik = some kk) (hkk : (match ops[kk]? with | some o => o.after.any (fun e => e.on == i && Region.binds md e) | none => false) = true) (hj : o.after.any (fun e => e.on == j && Region.binds md e) = true) (hdst : (ops[j]?).bind (·.dst) = some s) (hVj : V j = Vpt a0 b.t off)
    (hbt : ops.all (fun o => o.dst != some b.t) = true) (hk : off + k ≤ b.m) (hV : ∀ cs w, b.P0 (.agg cs) w → V i (.agg (cs.extract off (off + k))) w)
    (hu : P.underlying T = some d) (hdd : aggT d = true) (hi : (P.info? T).map (·.size) = some k) (H : Ask md ops a0 V n0 w0 B SL o fun _ _ _ => True) : KStep BT P md ops Q a0 V n0 w0 B SL i o := by
  intro listed a w h hd _ _ hnl K hK
  obtain ⟨hg, -⟩ := H listed a w h hd
  rw [if_pos (wanted_of hg)]
  obtain ⟨g, cs, e1, e2, e3, e4, e5, -, e7⟩ := h.k.ok b hb (by rw [hon]; rfl)
  have hP := e7 hon (by rw [hok]; exact h.not_yet hnl hkk)
  obtain ⟨v, hv, -, hVv⟩ := h.dep hd j s hj hdst
  rw [hVj] at hVv
  obtain ⟨g', f1, rfl⟩ := hVv
  have ho1 := h.other b.t fun i o ho => by
    rw [Array.all_eq_true'] at hbt
    have := hbt o (Array.mem_of_getElem? ho)
    simpa using this
  rw [e1, f1] at ho1
  simp at ho1
  subst ho1
  unfold Oper.wp execOp
  simp only [ho, hv, Instr.loadAt, Instr.sureAddr, Sem.run_bind, Sem.run_pure, Result.andThen_ok, run_loadVar_part w g off k b.T T cs (0, 0) d e3 (by omega) hu hdd hi]
  exact hK _ w (h.k.quiet hq hBP h.n (Below.refl _ _)) (RI.refl w) (hV _ _ hP)
end
/-- a number of the reference -/
def numQ (n : Int) : Rat := Rat.divInt (arn n 100 % 25 - 12) (1 + arn n 100 / 25)
def tM (n : Int) : Int := 1 + arn n 64 / 4 % 4
def tW (n : Int) : Int := arn n 64 / 16
theorem tM_lo (n : Int) : 1 ≤ tM n := by unfold tM; omega
theorem tM_hi (n : Int) : tM n ≤ 4 := by unfold tM; omega
theorem tW_lo (n : Int) : 0 ≤ tW n := by unfold tW; have := arn_lo n 64 (by omega); omega
theorem tW_hi (n : Int) : tW n ≤ 3 := by unfold tW; have := arn_hi n 64 (by omega); omega
/-- products of small numbers -/
theorem mm_lo (n : Int) : 1 ≤ tM n * tM n := by
  have h1 := tM_lo n
  have := Int.mul_le_mul h1 h1 (by omega) (by omega); omega
theorem mm_hi (n : Int) : tM n * tM n ≤ 16 := by
  have h1 := tM_lo n
  have h2 := tM_hi n
  have := Int.mul_le_mul h2 h2 (by omega) (by omega); omega
theorem ww_lo (n : Int) : 0 ≤ tW n * tW n := Int.mul_nonneg (tW_lo n) (tW_lo n)
theorem ww_hi (n : Int) : tW n * tW n ≤ 9 := by
  have h2 := tW_hi n
  have h1 := tW_lo n
  have := Int.mul_le_mul h2 h2 (by omega) (by omega); omega
theorem mw_lo (n : Int) : 0 ≤ 2 * tM n * tW n := Int.mul_nonneg (by have := tM_lo n; omega) (tW_lo n)
theorem mw_hi (n : Int) : 2 * tM n * tW n ≤ 24 := by
  have h2 := tW_hi n
  have h1 := tW_lo n
  have h3 := tM_hi n
  have := Int.mul_le_mul (show 2 * tM n ≤ 8 by omega) h2 (by omega) (by omega); omega
def tC0 (n : Int) : Rat := Rat.divInt (tM n * tM n - tW n * tW n) (tM n * tM n + tW n * tW n)
def tS0 (n : Int) : Rat := Rat.divInt (2 * tM n * tW n) (tM n * tM n + tW n * tW n)
/-- so many quarters more -/
def tIt : Nat → Rat → Rat → Rat × Rat
  | 0, c, s => (c, s)
  | k + 1, c, s => (-(tIt k c s).2, (tIt k c s).1)
def turnC (n : Int) : Rat := (tIt (arn n 64 % 4).toNat (tC0 n) (tS0 n)).1
def turnS (n : Int) : Rat := (tIt (arn n 64 % 4).toNat (tC0 n) (tS0 n)).2
theorem tIt_unit (c s : Rat) (h : c * c + s * s = 1) : ∀ k, (tIt k c s).1 * (tIt k c s).1 + (tIt k c s).2 * (tIt k c s).2 = 1
  | 0 => h
  | k + 1 => by
    have := tIt_unit c s h k
    show -(tIt k c s).2 * -(tIt k c s).2 + (tIt k c s).1 * (tIt k c s).1 = 1
    grind
theorem t0_unit (n : Int) : tC0 n * tC0 n + tS0 n * tS0 n = 1 := by
  have key : ∀ m : Fin 5, ∀ w : Fin 4, 1 ≤ m.val → Rat.divInt ((m.val : Int) * m.val - (w.val : Int) * w.val) ((m.val : Int) * m.val + (w.val : Int) * w.val) * Rat.divInt ((m.val : Int) * m.val - (w.val : Int) * w.val) ((m.val : Int) * m.val + (w.val : Int) * w.val) + Rat.divInt (2 * (m.val : Int) * w.val) ((m.val : Int) * m.val + (w.val : Int) * w.val) * Rat.divInt (2 * (m.val : Int) * w.val) ((m.val : Int) * m.val + (w.val : Int) * w.val) = 1 := by decide +kernel
  have h1 := tM_lo n
  have h2 := tM_hi n
  have h3 := tW_lo n
  have h4 := tW_hi n
  have := key ⟨(tM n).toNat, by omega⟩ ⟨(tW n).toNat, by omega⟩ (by simp only []; omega)
  simp only [Int.toNat_of_nonneg (show 0 ≤ tM n by omega), Int.toNat_of_nonneg h3] at this
  exact this
theorem turn_unit (n : Int) : turnC n * turnC n + turnS n * turnS n = 1 := tIt_unit _ _ (t0_unit n) _
section
variable {ρ : Operand → Value} {o : Oper} {W : World} {x y : Operand} {va vb : Value} {A B : VP} {a b : Int}
theorem run_eqe (ho : o.op = .binOp .eql 57 x y 57) (hx : ρ x = .int .i64 a) (hy : ρ y = .int .i64 b) : (execOp ρ o).run Try.prog W = .ok (.value (.bool (a == b))) W := by
  obtain ⟨d, op, ty, ps, af, gd⟩ := o
  subst ho
  go_simp
theorem run_neqe (ho : o.op = .binOp .neq 57 x y 57) (hx : ρ x = .int .i64 a) (hy : ρ y = .int .i64 b) : (execOp ρ o).run Try.prog W = .ok (.value (.bool (a != b))) W := by
  obtain ⟨d, op, ty, ps, af, gd⟩ := o
  subst ho
  go_simp
theorem run_remt (ho : o.op = .binOp .rem 3 x y 3) (hx : ρ x = .int .i64 a) (hy : ρ y = .int .i64 b) (hb : 1 < b) (hb2 : b < 1000) : (execOp ρ o).run Try.prog W = .ok (.value (.int .i64 (Int.tmod a b))) W := by
  have hb0 : ¬ b = 0 := by omega
  have hb1 : ¬ b = -1 := by omega
  generalize hq : Int.tmod a b = q
  clear hb hb2
  obtain ⟨d, op, ty, ps, af, gd⟩ := o
  subst ho
  go_simp
theorem run_eqb {c d : Bool} (ho : o.op = .binOp .eql 4 x y 4) (hx : ρ x = .bool c) (hy : ρ y = .bool d) : (execOp ρ o).run Try.prog W = .ok (.value (.bool (c == d))) W := by
  obtain ⟨dd, op, ty, ps, af, gd⟩ := o
  subst ho
  cases c <;> cases d <;> go_simp
theorem VP2_arr (h : VP2 8 8 A B va W) : ∃ cx cy, va = .agg (cx ++ cy) ∧ cx.size = 8 ∧ cy.size = 8 ∧ A (.agg cx) W ∧ B (.agg cy) W := by
  obtain ⟨x, y, h1, h2, h3, h4, h5⟩ := h
  exact ⟨x, y, h3, h1, h2, h4, h5⟩
theorem fieldv_Place1 (ho : o.op = .field 61 x 1) (hx : ρ x = va) (h : VP2 8 8 A B va W) : ∃ v, (execOp ρ o).run Try.prog W = .ok (.value v) W ∧ B v W := by
  obtain ⟨cx, cy, rfl, e1, e2, h1, h2⟩ := VP2_arr h
  obtain ⟨a, b, c, d, e, f, g, i, rfl⟩ := arr8 e1
  obtain ⟨a', b', c', d', e', f', g', i', rfl⟩ := arr8 e2
  have hfd : (Instr.field 61 (.agg (#[a, b, c, d, e, f, g, i] ++ #[a', b', c', d', e', f', g', i'])) 1).run Try.prog W = .ok (.agg #[a', b', c', d', e', f', g', i']) W := by kernel_rfl
  refine ⟨.agg #[a', b', c', d', e', f', g', i'], ?_, h2⟩
  unfold execOp
  simp only [ho, hx, Sem.run_bind, hfd, Sem.run_pure, Result.andThen_ok]
theorem build_Vec0 (ho : o.op = .build 31 #[]) : ∃ v, (execOp ρ o).run Try.prog W = .ok (.value v) W ∧ Vv 1 0 0 v W := by
  have hz : Vq 1 0 (.agg (#[.bool false, .slice none 0 0] ++ #[.bool false, .slice none 0 0])) W := ⟨_, _, rfl, rfl, rfl, ⟨_, _, _, _, rfl, IntAt_zero _ _ _ (by omega), by omega⟩, ⟨_, _, _, _, rfl, IntAt_zero _ _ _ (by omega), by omega⟩⟩
  refine ⟨.agg ((#[.bool false, .slice none 0 0] ++ #[.bool false, .slice none 0 0]) ++ (#[.bool false, .slice none 0 0] ++ #[.bool false, .slice none 0 0])), ?_, ⟨_, _, rfl, rfl, rfl, hz, hz⟩⟩
  obtain ⟨dd, op, ty, ps, af, gd⟩ := o
  subst ho
  go_simp
theorem build_TurnS {q : Rat} {N : Nat} (ho : o.op = .build 28 #[(1, x)]) (hx : ρ x = va) (h1 : Vq N q va W) : ∃ v, (execOp ρ o).run Try.prog W = .ok (.value v) W ∧ Vv N 0 q v W := by
  obtain ⟨cx, rfl, e1, -⟩ := AggV_Vq _ _ _ _ h1
  obtain ⟨a, b, c, d, rfl⟩ := arr4 e1
  have hz : Vq N 0 (.agg (#[.bool false, .slice none 0 0] ++ #[.bool false, .slice none 0 0])) W := ⟨_, _, rfl, rfl, rfl, ⟨_, _, _, _, rfl, IntAt_zero _ _ _ (by omega), by omega⟩, ⟨_, _, _, _, rfl, IntAt_zero _ _ _ (by omega), by omega⟩⟩
  refine ⟨.agg ((#[.bool false, .slice none 0 0] ++ #[.bool false, .slice none 0 0]) ++ #[a, b, c, d]), ?_, ⟨_, _, rfl, rfl, rfl, hz, h1⟩⟩
  obtain ⟨dd, op, ty, ps, af, gd⟩ := o
  subst ho
  go_simp
end
/-- two whole numbers that lie like a numerator and a denominator -/
theorem vzz_D1 {N : Nat} {a b : Int} {cs : Array Value} {w : World} (h : VP2 2 2 (Vz N a) (Vz N b) (.agg cs) w) : ∃ v, cs[1]? = some v ∧ VD N a v w := by
  obtain ⟨x, y, h1, h2, h3, h4, h5⟩ := h
  obtain ⟨nb, p, n, c, e1, e2, e3⟩ := h4
  obtain ⟨nb2, p2, n2, c2, f1, f2, -⟩ := h5
  cases h3
  cases e1
  cases f1
  exact ⟨_, rfl, p, n, c, rfl, e2.2.1, e2.2.2.1, e2.2.2.2.1, e2.2.2.2.2, e3⟩
theorem vzz_D3 {N : Nat} {a b : Int} {cs : Array Value} {w : World} (h : VP2 2 2 (Vz N a) (Vz N b) (.agg cs) w) : ∃ v, cs[3]? = some v ∧ VD N b v w := by
  obtain ⟨x, y, h1, h2, h3, h4, h5⟩ := h
  obtain ⟨nb, p, n, c, e1, e2, -⟩ := h4
  obtain ⟨nb2, p2, n2, c2, f1, f2, f3⟩ := h5
  cases h3
  cases e1
  cases f1
  exact ⟨_, rfl, p2, n2, c2, rfl, f2.2.1, f2.2.2.1, f2.2.2.2.1, f2.2.2.2.2, f3⟩
instance (N : Nat) (a b : Int) : CeC (VP2 2 2 (Vz N a) (Vz N b)) 1 (VD N a) := ⟨fun _ _ h => vzz_D1 h⟩
instance (N : Nat) (a b : Int) : CeC (VP2 2 2 (Vz N a) (Vz N b)) 3 (VD N b) := ⟨fun _ _ h => vzz_D3 h⟩
theorem vzz_N2 {N : Nat} {a b : Int} {cs : Array Value} {w : World} (h : VP2 2 2 (Vz N a) (Vz N b) (.agg cs) w) : ∃ v, cs[2]? = some v ∧ Vb (decide (b < 0)) v w := by
  obtain ⟨x, y, h1, h2, h3, h4, h5⟩ := h
  obtain ⟨nb, p, n, c, e1, e2, -⟩ := h4
  obtain ⟨nb2, p2, n2, c2, f1, f2, f3⟩ := h5
  cases h3
  cases e1
  cases f1
  exact ⟨_, rfl, congrArg Value.bool f2.1⟩
theorem vzz_N2T {N : Nat} {a b : Int} {cs : Array Value} {w : World} (h : VP2 2 2 (Vz N a) (Vz N b) (.agg cs) w) (hz : b < 0) : ∃ v, cs[2]? = some v ∧ Vb true v w := by
  obtain ⟨v, h1, h2⟩ := vzz_N2 h
  rw [decide_eq_true hz] at h2
  exact ⟨v, h1, h2⟩
theorem vzz_N2F {N : Nat} {a b : Int} {cs : Array Value} {w : World} (h : VP2 2 2 (Vz N a) (Vz N b) (.agg cs) w) (hz : ¬ b < 0) : ∃ v, cs[2]? = some v ∧ Vb false v w := by
  obtain ⟨v, h1, h2⟩ := vzz_N2 h
  rw [decide_eq_false hz] at h2
  exact ⟨v, h1, h2⟩
end Go.Proofs.Yteaoaoknpihchaa

namespace Go.Proofs.Yteaoaoknpihchaa
open Go.RowKit

set_option maxRecDepth 100000 in
set_option maxHeartbeats 1600000 in
theorem cNum {w : World} {n : Int} {v0 : Value} (h0 : Vi (n) v0 w) (hn0 : -9223372036854775808 ≤ n) (hn1 : n ≤ 9223372036854775807) : Calls Try.prog 20 #[v0] w (RV (Vq 3 (numQ n)) w) := by
  go_enter Try.func20, Try.ntmps20
  have st0 : St w.heap.size w 13 [] [(0, Vi (n))] _ w := St.begin (a := ⟨#[v0, undef, undef, undef, undef, undef, undef, undef, undef, undef, undef, undef, undef], []⟩) rfl rfl (List.forall_mem_cons.2 ⟨⟨_, rfl, h0⟩, (fun _ h => absurd h (by simp))⟩)
  generalize (⟨#[v0, undef, undef, undef, undef, undef, undef, undef, undef, undef, undef, undef, undef], []⟩ : Act) = a0 at st0 ⊢
  have hk0 := arn_lo n 100 (by omega)
  have hk1 := arn_hi n 100 (by omega)
  repeat first | refine wp_seq ?_ | refine wp_block ?_ | refine wp_skip ?_ | refine wp_exit ?_
  refine rg (BT := [(26, 4, 0)]) (Vl := [VT]) (B := [⟨2, some 0, none, 26, 4, VT, VT⟩]) (SL' := [(0, Vi (n))]) st0 ⟨ks, trivial⟩ ?_
  intro a1 w1 st1
  clear st0
  repeat first | refine wp_seq ?_ | refine wp_block ?_ | refine wp_skip ?_ | refine wp_exit ?_
  refine rg (BT := [(26, 4, 0)]) (Vl := [Vi (n), Vi (arn (n) 100), Vi (arn (n) 100)]) (B := [⟨2, none, none, 26, 4, VT, VT⟩]) (SL' := [(3, Vi (arn (n) 100))]) st1 ⟨ks, ?s1, ks, trivial⟩ ?_
  case s1 =>
    refine kc fun _ ac Wd h hd => ?_
    obtain ⟨v0, hv0, hV0⟩ := h.dp hd 4
    exact ⟨#[v0, .int .i64 (100)], by simp [hv0, eval_const], cAround (show Vi (n) v0 Wd from hV0) (by omega) (by omega) (by omega) (by omega)⟩
  intro a2 w2 st2
  clear st1
  repeat first | refine wp_seq ?_ | refine wp_block ?_ | refine wp_skip ?_ | refine wp_exit ?_
  refine rg (BT := [(26, 4, 0)]) (Vl := [Vi (arn (n) 100), Vi ((arn (n) 100) % (25)), Vi (((arn (n) 100) % (25)) - (12)), Vi (arn (n) 100), Vi ((arn (n) 100) / (25)), Vi ((1) + ((arn (n) 100) / (25))), Vq 3 (Rat.divInt (((arn (n) 100) % (25)) - (12)) ((1) + ((arn (n) 100) / (25)))), VT]) (B := [⟨2, none, some 7, 26, 4, Vq 3 (Rat.divInt (((arn (n) 100) % (25)) - (12)) ((1) + ((arn (n) 100) / (25)))), VT⟩]) (SL' := []) st2 ⟨ks, ?s1, ?s2, ks, ?s4, ?s5, ?s6, ks, trivial⟩ ?_
  case s1 => refine kr fun _ ac Wd h hd => ?_; obtain ⟨v0, hv0, hV0⟩ := h.dp hd 6; have hV0' : v0 = .int .i64 (arn (n) 100) := hV0; exact ⟨_, run_remi rfl (hv0.trans hV0') rfl hk0 (by omega), rfl⟩
  case s2 =>
    refine kr fun _ ac Wd h hd => ?_
    obtain ⟨v0, hv0, hV0⟩ := h.dp hd 7
    have hV0' : v0 = .int .i64 ((arn (n) 100) % (25)) := hV0
    exact ⟨_, run_subi rfl (hv0.trans hV0') rfl (wrap_id (by omega) (by omega)), rfl⟩
  case s4 => refine kr fun _ ac Wd h hd => ?_; obtain ⟨v0, hv0, hV0⟩ := h.dp hd 9; have hV0' : v0 = .int .i64 (arn (n) 100) := hV0; exact ⟨_, run_quoi rfl (hv0.trans hV0') rfl ⟨hk0, by omega⟩ (by omega), rfl⟩
  case s5 =>
    refine kr fun _ ac Wd h hd => ?_
    obtain ⟨v1, hv1, hV1⟩ := h.dp hd 10
    have hV1' : v1 = .int .i64 ((arn (n) 100) / (25)) := hV1
    exact ⟨_, run_addi rfl rfl (hv1.trans hV1') (wrap_id (by omega) (by omega)), rfl⟩
  case s6 =>
    refine kc fun _ ac Wd h hd => ?_
    obtain ⟨v0, hv0, hV0⟩ := h.dp hd 8
    obtain ⟨v1, hv1, hV1⟩ := h.dp hd 11
    exact ⟨#[v0, v1], by simp [hv0, hv1], cR4Of (show Vi (((arn (n) 100) % (25)) - (12)) v0 Wd from hV0) (show Vi ((1) + ((arn (n) 100) / (25))) v1 Wd from hV1) (by omega) (by omega) (by omega) (by omega)⟩
  intro a3 w3 st3
  clear st2
  repeat first | refine wp_seq ?_ | refine wp_block ?_ | refine wp_skip ?_ | refine wp_exit ?_
  obtain ⟨g, cs, r1, r2, r3, r4, r5⟩ := st3.res ⟨2, none, none, 26, 4, Vq 3 (Rat.divInt (((arn (n) 100) % (25)) - (12)) ((1) + ((arn (n) 100) / (25)))), VT⟩ (.head _) rfl rfl
  exact wp_ret (bodyPost_ret (results_cell_row rfl _ _ g 26 cs (0, 0) _ r1 r2 Try.underlying26 rfl (by rw [r3]; exact size_Rat)) st3.defers ⟨_, rfl, r4, r5⟩)
set_option maxRecDepth 100000 in
set_option maxHeartbeats 1600000 in
theorem cVecL {w : World} {l : List Int} {ix : Int} {v0 v1 : Value} (h0 : VI l v0 w) (h1 : Vi (ix) v1 w) (hi0 : 0 ≤ ix) (hi1 : ix ≤ 1000000) : Calls Try.prog 5 #[v0, v1] w (RV (Vv 3 (numQ (atv l ix 100)) (numQ (atv l (ix + 1) 100))) w) := by
  go_enter Try.func5, Try.ntmps5
  have st0 : St w.heap.size w 15 [] [(0, VI l), (1, Vi (ix))] _ w := St.begin (a := ⟨#[v0, v1, undef, undef, undef, undef, undef, undef, undef, undef, undef, undef, undef, undef, undef], []⟩) rfl rfl (List.forall_mem_cons.2 ⟨⟨_, rfl, h0⟩, (List.forall_mem_cons.2 ⟨⟨_, rfl, h1⟩, (fun _ h => absurd h (by simp))⟩)⟩)
  generalize (⟨#[v0, v1, undef, undef, undef, undef, undef, undef, undef, undef, undef, undef, undef, undef, undef], []⟩ : Act) = a0 at st0 ⊢
  repeat first | refine wp_seq ?_ | refine wp_block ?_ | refine wp_skip ?_ | refine wp_exit ?_
  refine rg (BT := [(31, 8, 0)]) (Vl := [VT]) (B := [⟨4, some 0, none, 31, 8, VT, VT⟩]) (SL' := [(0, VI l), (1, Vi (ix))]) st0 ⟨ks, trivial⟩ ?_
  intro a1 w1 st1
  clear st0
  repeat first | refine wp_seq ?_ | refine wp_block ?_ | refine wp_skip ?_ | refine wp_exit ?_
  refine rg (BT := [(31, 8, 0)]) (Vl := [VI l, Vi (ix), Vi (atv l (ix) 100), Vq 3 (numQ (atv l (ix) 100)), VI l, Vi (ix), Vi ((ix) + (1)), Vi (atv l ((ix) + (1)) 100), Vq 3 (numQ (atv l ((ix) + (1)) 100)), Vv 3 (numQ (atv l (ix) 100)) (numQ (atv l ((ix) + (1)) 100)), VT]) (B := [⟨4, none, some 10, 31, 8, Vv 3 (numQ (atv l (ix) 100)) (numQ (atv l ((ix) + (1)) 100)), VT⟩]) (SL' := []) st1 ⟨ks, ks, ?s2, ?s3, ks, ks, ?s6, ?s7, ?s8, ?s9, ks, trivial⟩ ?_
  case s2 =>
    refine kc fun _ ac Wd h hd => ?_
    obtain ⟨v0, hv0, hV0⟩ := h.dp hd 5
    obtain ⟨v1, hv1, hV1⟩ := h.dp hd 6
    exact ⟨#[v0, v1, .int .i64 (100)], by simp [hv0, hv1, eval_const], cAt (show VI l v0 Wd from hV0) (show Vi (ix) v1 Wd from hV1) (by omega) (by omega) (by omega) (by omega)⟩
  case s3 =>
    refine kc fun _ ac Wd h hd => ?_
    obtain ⟨v0, hv0, hV0⟩ := h.dp hd 7
    exact ⟨#[v0], by simp [hv0], cNum (show Vi (atv l (ix) 100) v0 Wd from hV0) (atv_ge _ _ _ (by omega)) (atv_le _ _ _ (by omega) (by omega))⟩
  case s6 => refine kr fun _ ac Wd h hd => ?_; obtain ⟨v0, hv0, hV0⟩ := h.dp hd 10; have hV0' : v0 = .int .i64 (ix) := hV0; exact ⟨_, run_addi rfl (hv0.trans hV0') rfl (wrap_id (by omega) (by omega)), rfl⟩
  case s7 =>
    refine kc fun _ ac Wd h hd => ?_
    obtain ⟨v0, hv0, hV0⟩ := h.dp hd 9
    obtain ⟨v1, hv1, hV1⟩ := h.dp hd 11
    exact ⟨#[v0, v1, .int .i64 (100)], by simp [hv0, hv1, eval_const], cAt (show VI l v0 Wd from hV0) (show Vi ((ix) + (1)) v1 Wd from hV1) (by omega) (by omega) (by omega) (by omega)⟩
  case s8 =>
    refine kc fun _ ac Wd h hd => ?_
    obtain ⟨v0, hv0, hV0⟩ := h.dp hd 12
    exact ⟨#[v0], by simp [hv0], cNum (show Vi (atv l ((ix) + (1)) 100) v0 Wd from hV0) (atv_ge _ _ _ (by omega)) (atv_le _ _ _ (by omega) (by omega))⟩
  case s9 =>
    refine kr fun _ ac Wd h hd => ?_
    obtain ⟨v0, hv0, hV0⟩ := h.dp hd 8
    obtain ⟨v1, hv1, hV1⟩ := h.dp hd 13
    exact build_Vec rfl hv0 hv1 (AggV_Vq _ _) (AggV_Vq _ _) (show Vq 3 (numQ (atv l (ix) 100)) v0 Wd from hV0) (show Vq 3 (numQ (atv l ((ix) + (1)) 100)) v1 Wd from hV1)
  intro a2 w2 st2
  clear st1
  repeat first | refine wp_seq ?_ | refine wp_block ?_ | refine wp_skip ?_ | refine wp_exit ?_
  obtain ⟨g, cs, r1, r2, r3, r4, r5⟩ := st2.res ⟨4, none, none, 31, 8, Vv 3 (numQ (atv l (ix) 100)) (numQ (atv l ((ix) + (1)) 100)), VT⟩ (.head _) rfl rfl
  exact wp_ret (bodyPost_ret (results_cell_row rfl _ _ g 31 cs (0, 0) _ r1 r2 Try.underlying31 rfl (by rw [r3]; exact size_Vec)) st2.defers ⟨_, rfl, r4, r5⟩)
set_option maxRecDepth 100000 in
set_option maxHeartbeats 1600000 in
theorem cTurnN {w : World} {n : Int} {v0 : Value} (h0 : Vi (n) v0 w) (hn0 : -9223372036854775808 ≤ n) (hn1 : n ≤ 9223372036854775807) : Calls Try.prog 4 #[v0] w (RV (Vv 3 (turnC n) (turnS n)) w) := by
  go_enter Try.func4, Try.ntmps4
  have st0 : St w.heap.size w 53 [] [(0, Vi (n))] _ w := St.begin (a := ⟨#[v0, undef, undef, undef, undef, undef, undef, undef, undef, undef, undef, undef, undef, undef, undef, undef, undef, undef, undef, undef, undef, undef, undef, undef, undef, undef, undef, undef, undef, undef, undef, undef, undef, undef, undef, undef, undef, undef, undef, undef, undef, undef, undef, undef, undef, undef, undef, undef, undef, undef, undef, undef, undef], []⟩) rfl rfl (List.forall_mem_cons.2 ⟨⟨_, rfl, h0⟩, (fun _ h => absurd h (by simp))⟩)
  generalize (⟨#[v0, undef, undef, undef, undef, undef, undef, undef, undef, undef, undef, undef, undef, undef, undef, undef, undef, undef, undef, undef, undef, undef, undef, undef, undef, undef, undef, undef, undef, undef, undef, undef, undef, undef, undef, undef, undef, undef, undef, undef, undef, undef, undef, undef, undef, undef, undef, undef, undef, undef, undef, undef, undef], []⟩ : Act) = a0 at st0 ⊢
  have hk0 := arn_lo n 64 (by omega)
  have hk1 := arn_hi n 64 (by omega)
  have e1 : 1 ≤ tM n := tM_lo n
  have e2 := tM_hi n
  have e3 := tW_lo n
  have e4 := tW_hi n
  have m1 := mm_lo n
  have m2 := mm_hi n
  have w1 := ww_lo n
  have w2 := ww_hi n
  have p1 := mw_lo n
  have p2 := mw_hi n
  repeat first | refine wp_seq ?_ | refine wp_block ?_ | refine wp_skip ?_ | refine wp_exit ?_
  refine rg (BT := [(28, 8, 0)]) (Vl := [VT]) (B := [⟨2, some 0, none, 28, 8, VT, VT⟩]) (SL' := [(0, Vi (n))]) st0 ⟨ks, trivial⟩ ?_
  intro a1 w1 st1
  clear st0
  repeat first | refine wp_seq ?_ | refine wp_block ?_ | refine wp_skip ?_ | refine wp_exit ?_
  refine rg (BT := [(28, 8, 0)]) (Vl := [Vi (n), Vi (arn (n) 64), Vi (arn (n) 64)]) (B := [⟨2, none, none, 28, 8, VT, VT⟩]) (SL' := [(3, Vi (arn (n) 64))]) st1 ⟨ks, ?s1, ks, trivial⟩ ?_
  case s1 =>
    refine kc fun _ ac Wd h hd => ?_
    obtain ⟨v0, hv0, hV0⟩ := h.dp hd 9
    exact ⟨#[v0, .int .i64 (64)], by simp [hv0, eval_const], cAround (show Vi (n) v0 Wd from hV0) (by omega) (by omega) (by omega) (by omega)⟩
  intro a2 w2 st2
  clear st1
  repeat first | refine wp_seq ?_ | refine wp_block ?_ | refine wp_skip ?_ | refine wp_exit ?_
  refine rg (BT := [(28, 8, 0)]) (Vl := [Vi (arn (n) 64), Vi ((arn (n) 64) / (4)), Vi (((arn (n) 64) / (4)) % (4)), Vi (tM n), Vi (tM n)]) (B := [⟨2, none, none, 28, 8, VT, VT⟩]) (SL' := [(3, Vi (arn (n) 64)), (4, Vi (tM n))]) st2 ⟨ks, ?s1, ?s2, ?s3, ks, trivial⟩ ?_
  case s1 => refine kr fun _ ac Wd h hd => ?_; obtain ⟨v0, hv0, hV0⟩ := h.dp hd 11; have hV0' : v0 = .int .i64 (arn (n) 64) := hV0; exact ⟨_, run_quoi rfl (hv0.trans hV0') rfl ⟨hk0, by omega⟩ (by omega), rfl⟩
  case s2 => refine kr fun _ ac Wd h hd => ?_; obtain ⟨v0, hv0, hV0⟩ := h.dp hd 12; have hV0' : v0 = .int .i64 ((arn (n) 64) / (4)) := hV0; exact ⟨_, run_remi rfl (hv0.trans hV0') rfl (by omega) (by omega), rfl⟩
  case s3 =>
    refine kr fun _ ac Wd h hd => ?_
    obtain ⟨v1, hv1, hV1⟩ := h.dp hd 13
    have hV1' : v1 = .int .i64 (((arn (n) 64) / (4)) % (4)) := hV1
    exact ⟨_, run_addi rfl rfl (hv1.trans hV1') (wrap_id (by omega) (by omega)), congrArg (Value.int .i64) (rfl)⟩
  intro a3 w3 st3
  clear st2
  repeat first | refine wp_seq ?_ | refine wp_block ?_ | refine wp_skip ?_ | refine wp_exit ?_
  refine rg (BT := [(28, 8, 0)]) (Vl := [Vi (arn (n) 64), Vi (tW n), Vi (tW n)]) (B := [⟨2, none, none, 28, 8, VT, VT⟩]) (SL' := [(3, Vi (arn (n) 64)), (4, Vi (tM n)), (5, Vi (tW n))]) st3 ⟨ks, ?s1, ks, trivial⟩ ?_
  case s1 =>
    refine kr fun _ ac Wd h hd => ?_
    obtain ⟨v0, hv0, hV0⟩ := h.dp hd 15
    have hV0' : v0 = .int .i64 (arn (n) 64) := hV0
    exact ⟨_, run_quoi rfl (hv0.trans hV0') rfl ⟨hk0, by omega⟩ (by omega), congrArg (Value.int .i64) (rfl)⟩
  intro a4 w4 st4
  clear st3
  repeat first | refine wp_seq ?_ | refine wp_block ?_ | refine wp_skip ?_ | refine wp_exit ?_
  refine rg (BT := [(28, 8, 0)]) (Vl := [Vi (tM n), Vi (tM n), Vi ((tM n) * (tM n)), Vi (tW n), Vi (tW n), Vi ((tW n) * (tW n)), Vi (((tM n) * (tM n)) + ((tW n) * (tW n))), Vi (((tM n) * (tM n)) + ((tW n) * (tW n)))]) (B := [⟨2, none, none, 28, 8, VT, VT⟩]) (SL' := [(3, Vi (arn (n) 64)), (4, Vi (tM n)), (5, Vi (tW n)), (6, Vi (((tM n) * (tM n)) + ((tW n) * (tW n))))]) st4 ⟨ks, ks, ?s2, ks, ks, ?s5, ?s6, ks, trivial⟩ ?_
  case s2 =>
    refine kr fun _ ac Wd h hd => ?_
    obtain ⟨v0, hv0, hV0⟩ := h.dp hd 17
    have hV0' : v0 = .int .i64 (tM n) := hV0
    obtain ⟨v1, hv1, hV1⟩ := h.dp hd 18
    have hV1' : v1 = .int .i64 (tM n) := hV1
    exact ⟨_, run_muli rfl (hv0.trans hV0') (hv1.trans hV1') (wrap_id (by omega) (by omega)), rfl⟩
  case s5 =>
    refine kr fun _ ac Wd h hd => ?_
    obtain ⟨v0, hv0, hV0⟩ := h.dp hd 20
    have hV0' : v0 = .int .i64 (tW n) := hV0
    obtain ⟨v1, hv1, hV1⟩ := h.dp hd 21
    have hV1' : v1 = .int .i64 (tW n) := hV1
    exact ⟨_, run_muli rfl (hv0.trans hV0') (hv1.trans hV1') (wrap_id (by omega) (by omega)), rfl⟩
  case s6 =>
    refine kr fun _ ac Wd h hd => ?_
    obtain ⟨v0, hv0, hV0⟩ := h.dp hd 19
    have hV0' : v0 = .int .i64 ((tM n) * (tM n)) := hV0
    obtain ⟨v1, hv1, hV1⟩ := h.dp hd 22
    have hV1' : v1 = .int .i64 ((tW n) * (tW n)) := hV1
    exact ⟨_, run_addi rfl (hv0.trans hV0') (hv1.trans hV1') (wrap_id (by omega) (by omega)), rfl⟩
  intro a5 w5 st5
  clear st4
  repeat first | refine wp_seq ?_ | refine wp_block ?_ | refine wp_skip ?_ | refine wp_exit ?_
  refine rg (BT := [(28, 8, 0)]) (Vl := [Vi (tM n), Vi (tM n), Vi ((tM n) * (tM n)), Vi (tW n), Vi (tW n), Vi ((tW n) * (tW n)), Vi (((tM n) * (tM n)) - ((tW n) * (tW n))), Vi (((tM n) * (tM n)) + ((tW n) * (tW n))), Vq 3 (Rat.divInt (((tM n) * (tM n)) - ((tW n) * (tW n))) (((tM n) * (tM n)) + ((tW n) * (tW n)))), Vi (tM n), Vi ((2) * (tM n)), Vi (tW n), Vi (((2) * (tM n)) * (tW n)), Vi (((tM n) * (tM n)) + ((tW n) * (tW n))), Vq 3 (Rat.divInt (((2) * (tM n)) * (tW n)) (((tM n) * (tM n)) + ((tW n) * (tW n)))), Vv 3 (Rat.divInt (((tM n) * (tM n)) - ((tW n) * (tW n))) (((tM n) * (tM n)) + ((tW n) * (tW n)))) (Rat.divInt (((2) * (tM n)) * (tW n)) (((tM n) * (tM n)) + ((tW n) * (tW n)))), VT, VT]) (B := [⟨2, none, none, 28, 8, VT, VT⟩, ⟨7, some 16, some 17, 28, 8, Vv 3 (Rat.divInt (((tM n) * (tM n)) - ((tW n) * (tW n))) (((tM n) * (tM n)) + ((tW n) * (tW n)))) (Rat.divInt (((2) * (tM n)) * (tW n)) (((tM n) * (tM n)) + ((tW n) * (tW n)))), VT⟩]) (SL' := [(3, Vi (arn (n) 64)), (4, Vi (tM n)), (5, Vi (tW n))]) st5 ⟨ks, ks, ?s2, ks, ks, ?s5, ?s6, ks, ?s8, ks, ?s10, ks, ?s12, ks, ?s14, ?s15, ks, ks, trivial⟩ ?_
  case s2 =>
    refine kr fun _ ac Wd h hd => ?_
    obtain ⟨v0, hv0, hV0⟩ := h.dp hd 24
    have hV0' : v0 = .int .i64 (tM n) := hV0
    obtain ⟨v1, hv1, hV1⟩ := h.dp hd 25
    have hV1' : v1 = .int .i64 (tM n) := hV1
    exact ⟨_, run_muli rfl (hv0.trans hV0') (hv1.trans hV1') (wrap_id (by omega) (by omega)), rfl⟩
  case s5 =>
    refine kr fun _ ac Wd h hd => ?_
    obtain ⟨v0, hv0, hV0⟩ := h.dp hd 27
    have hV0' : v0 = .int .i64 (tW n) := hV0
    obtain ⟨v1, hv1, hV1⟩ := h.dp hd 28
    have hV1' : v1 = .int .i64 (tW n) := hV1
    exact ⟨_, run_muli rfl (hv0.trans hV0') (hv1.trans hV1') (wrap_id (by omega) (by omega)), rfl⟩
  case s6 =>
    refine kr fun _ ac Wd h hd => ?_
    obtain ⟨v0, hv0, hV0⟩ := h.dp hd 26
    have hV0' : v0 = .int .i64 ((tM n) * (tM n)) := hV0
    obtain ⟨v1, hv1, hV1⟩ := h.dp hd 29
    have hV1' : v1 = .int .i64 ((tW n) * (tW n)) := hV1
    exact ⟨_, run_subi rfl (hv0.trans hV0') (hv1.trans hV1') (wrap_id (by omega) (by omega)), rfl⟩
  case s8 =>
    refine kc fun _ ac Wd h hd => ?_
    obtain ⟨v0, hv0, hV0⟩ := h.dp hd 30
    obtain ⟨v1, hv1, hV1⟩ := h.dp hd 31
    exact ⟨#[v0, v1], by simp [hv0, hv1], cR4Of (show Vi (((tM n) * (tM n)) - ((tW n) * (tW n))) v0 Wd from hV0) (show Vi (((tM n) * (tM n)) + ((tW n) * (tW n))) v1 Wd from hV1) (by omega) (by omega) (by omega) (by omega)⟩
  case s10 => refine kr fun _ ac Wd h hd => ?_; obtain ⟨v1, hv1, hV1⟩ := h.dp hd 33; have hV1' : v1 = .int .i64 (tM n) := hV1; exact ⟨_, run_muli rfl rfl (hv1.trans hV1') (wrap_id (by omega) (by omega)), rfl⟩
  case s12 =>
    refine kr fun _ ac Wd h hd => ?_
    obtain ⟨v0, hv0, hV0⟩ := h.dp hd 34
    have hV0' : v0 = .int .i64 ((2) * (tM n)) := hV0
    obtain ⟨v1, hv1, hV1⟩ := h.dp hd 35
    have hV1' : v1 = .int .i64 (tW n) := hV1
    exact ⟨_, run_muli rfl (hv0.trans hV0') (hv1.trans hV1') (wrap_id (by omega) (by omega)), rfl⟩
  case s14 =>
    refine kc fun _ ac Wd h hd => ?_
    obtain ⟨v0, hv0, hV0⟩ := h.dp hd 36
    obtain ⟨v1, hv1, hV1⟩ := h.dp hd 37
    exact ⟨#[v0, v1], by simp [hv0, hv1], cR4Of (show Vi (((2) * (tM n)) * (tW n)) v0 Wd from hV0) (show Vi (((tM n) * (tM n)) + ((tW n) * (tW n))) v1 Wd from hV1) (by omega) (by omega) (by omega) (by omega)⟩
  case s15 =>
    refine kr fun _ ac Wd h hd => ?_
    obtain ⟨v0, hv0, hV0⟩ := h.dp hd 32
    obtain ⟨v1, hv1, hV1⟩ := h.dp hd 38
    exact build_Turn rfl hv0 hv1 (AggV_Vq _ _) (AggV_Vq _ _) (show Vq 3 (Rat.divInt (((tM n) * (tM n)) - ((tW n) * (tW n))) (((tM n) * (tM n)) + ((tW n) * (tW n)))) v0 Wd from hV0) (show Vq 3 (Rat.divInt (((2) * (tM n)) * (tW n)) (((tM n) * (tM n)) + ((tW n) * (tW n)))) v1 Wd from hV1)
  intro a6 w6 st6
  clear st5
  repeat first | refine wp_seq ?_ | refine wp_block ?_ | refine wp_skip ?_ | refine wp_exit ?_
  refine rg (BT := [(28, 8, 0)]) (Vl := [Vi (0)]) (B := [⟨2, none, none, 28, 8, VT, VT⟩, ⟨7, none, none, 28, 8, Vv 3 (Rat.divInt (((tM n) * (tM n)) - ((tW n) * (tW n))) (((tM n) * (tM n)) + ((tW n) * (tW n)))) (Rat.divInt (((2) * (tM n)) * (tW n)) (((tM n) * (tM n)) + ((tW n) * (tW n)))), VT⟩]) (SL' := [(3, Vi (arn (n) 64)), (4, Vi (tM n)), (5, Vi (tW n)), (8, Vi (0))]) st6 ⟨ks, trivial⟩ ?_
  intro a7 w7 st7
  clear st6
  replace st7 : St w.heap.size w 53 [⟨2, none, none, 28, 8, VT, VT⟩, ⟨7, none, none, 28, 8, Vv 3 ((tIt 0 (tC0 n) (tS0 n)).1) ((tIt 0 (tC0 n) (tS0 n)).2), VT⟩] [(3, Vi (arn (n) 64)), (4, Vi (tM n)), (5, Vi (tW n)), (8, Vi (((0 : Nat) : Int)))] a7 w7 := st7
  repeat first | refine wp_seq ?_ | refine wp_block ?_ | refine wp_skip ?_ | refine wp_exit ?_
  refine wp_loop_ghost (fun m aX wX => ∃ j : Nat, j + m = (arn n 64 % 4).toNat ∧ St w.heap.size w 53 [⟨2, none, none, 28, 8, VT, VT⟩, ⟨7, none, none, 28, 8, Vv 3 ((tIt j (tC0 n) (tS0 n)).1) ((tIt j (tC0 n) (tS0 n)).2), VT⟩] [(3, Vi (arn (n) 64)), (8, Vi ((j : Int)))] aX wX) (arn n 64 % 4).toNat ⟨0, by omega, st7.cut⟩ ?_
  clear st7
  intro m aL wL ⟨j, hj, st7⟩
  by_cases hlt : (j : Int) < (arn n 64) % 4
  ·
    repeat first | refine wp_seq ?_ | refine wp_block ?_ | refine wp_skip ?_ | refine wp_exit ?_
    refine rg (BT := [(28, 8, 0)]) (Vl := [Vi ((j : Int)), Vi (arn (n) 64), Vi ((arn (n) 64) % (4)), Vb (true)]) (B := [⟨2, none, none, 28, 8, VT, VT⟩, ⟨7, none, none, 28, 8, Vv 3 ((tIt j (tC0 n) (tS0 n)).1) ((tIt j (tC0 n) (tS0 n)).2), VT⟩]) (SL' := [(3, Vi (arn (n) 64)), (8, Vi ((j : Int))), (43, Vb (true))]) st7 ⟨ks, ks, ?s2, ?s3, trivial⟩ ?_
    case s2 => refine kr fun _ ac Wd h hd => ?_; obtain ⟨v0, hv0, hV0⟩ := h.dp hd 41; have hV0' : v0 = .int .i64 (arn (n) 64) := hV0; exact ⟨_, run_remi rfl (hv0.trans hV0') rfl hk0 (by omega), rfl⟩
    case s3 =>
      refine kr fun _ ac Wd h hd => ?_
      obtain ⟨v0, hv0, hV0⟩ := h.dp hd 40
      have hV0' : v0 = .int .i64 ((j : Int)) := hV0
      obtain ⟨v1, hv1, hV1⟩ := h.dp hd 42
      have hV1' : v1 = .int .i64 ((arn (n) 64) % (4)) := hV1
      exact ⟨_, run_lssi rfl (hv0.trans hV0') (hv1.trans hV1'), congrArg Value.bool (decide_eq_true hlt)⟩
    intro a8 w8 st8
    clear st7
    repeat first | refine wp_seq ?_ | refine wp_block ?_ | refine wp_skip ?_ | refine wp_exit ?_
    obtain ⟨vc, hc1, hc2⟩ := st8.slot (43, Vb (true)) (.tail _ (.tail _ (.head _)))
    refine wp_cond_true (hc1.trans hc2) ?_
    clear hc1 hc2
    repeat first | refine wp_seq ?_ | refine wp_block ?_ | refine wp_skip ?_ | refine wp_exit ?_
    refine rg (BT := [(28, 8, 0)]) (Vl := [Vpt a8 7 4, Vq 3 ((tIt j (tC0 n) (tS0 n)).2), Vq 3 (-((tIt j (tC0 n) (tS0 n)).2)), Vpt a8 7 0, Vq 3 ((tIt j (tC0 n) (tS0 n)).1), Vv 3 (-((tIt j (tC0 n) (tS0 n)).2)) ((tIt j (tC0 n) (tS0 n)).1), VT]) (B := [⟨2, none, none, 28, 8, VT, VT⟩, ⟨7, none, some 6, 28, 8, Vv 3 (-((tIt j (tC0 n) (tS0 n)).2)) ((tIt j (tC0 n) (tS0 n)).1), Vv 3 ((tIt j (tC0 n) (tS0 n)).1) ((tIt j (tC0 n) (tS0 n)).2)⟩]) (SL' := [(3, Vi (arn (n) 64)), (8, Vi ((j : Int))), (43, Vb (true))]) st8 ⟨ks, ?s1, ?s2, ks, ?s4, ?s5, ks, trivial⟩ ?_
    case s1 =>
      exact k_part0 (j := 0) (off := 4) (k := 4) SbB.out (by kernel_rfl) (.tail _ (.head _)) rfl rfl rfl (by kernel_rfl) (by kernel_rfl) (by kernel_rfl) rfl (by kernel_rfl) (Nat.le_of_ble_eq_true rfl) (fun cs w h => (VP2_snd h)) Try.underlying26 rfl size_Rat fun listed ac Wd h hd => ⟨trivial, trivial⟩
    case s2 => refine kc fun _ ac Wd h hd => ?_; obtain ⟨v0, hv0, hV0⟩ := h.dp hd 47; exact ⟨#[v0], by simp [hv0], cR4Neg (show Vq 3 ((tIt j (tC0 n) (tS0 n)).2) v0 Wd from hV0) (by omega)⟩
    case s4 =>
      exact k_part0 (j := 3) (off := 0) (k := 4) SbB.out (by kernel_rfl) (.tail _ (.head _)) rfl rfl rfl (by kernel_rfl) (by kernel_rfl) (by kernel_rfl) rfl (by kernel_rfl) (Nat.le_of_ble_eq_true rfl) (fun cs w h => (VP2_fst h)) Try.underlying26 rfl size_Rat fun listed ac Wd h hd => ⟨trivial, trivial⟩
    case s5 =>
      refine kr fun _ ac Wd h hd => ?_
      obtain ⟨v0, hv0, hV0⟩ := h.dp hd 48
      obtain ⟨v1, hv1, hV1⟩ := h.dp hd 50
      exact build_Turn rfl hv0 hv1 (AggV_Vq _ _) (AggV_Vq _ _) (show Vq 3 (-((tIt j (tC0 n) (tS0 n)).2)) v0 Wd from hV0) (show Vq 3 ((tIt j (tC0 n) (tS0 n)).1) v1 Wd from hV1)
    intro a9 w9 st9
    clear st8
    repeat first | refine wp_seq ?_ | refine wp_block ?_ | refine wp_skip ?_ | refine wp_exit ?_
    refine rg (BT := [(28, 8, 0)]) (Vl := [Vi ((j : Int)), Vi (((j + 1 : Nat) : Int)), Vi (((j + 1 : Nat) : Int))]) (B := [⟨2, none, none, 28, 8, VT, VT⟩, ⟨7, none, none, 28, 8, Vv 3 (-((tIt j (tC0 n) (tS0 n)).2)) ((tIt j (tC0 n) (tS0 n)).1), VT⟩]) (SL' := [(3, Vi (arn (n) 64)), (43, Vb (true)), (8, Vi (((j + 1 : Nat) : Int)))]) st9 ⟨?s0, ?s1, ks, trivial⟩ ?_
    case s0 =>
      refine k_run0 SbB.out (by kernel_rfl) fun listed ac Wd h hd hnl => ⟨trivial, ?_⟩
      obtain ⟨v0, hv0, hV0⟩ := h.out0 hnl (8, Vi ((j : Int))) (.tail _ (.head _)) 2 (by kernel_rfl) (.inr (by kernel_rfl))
      exact ⟨_, run_move rfl, by rw [hv0]; exact hV0⟩
    case s1 =>
      refine kr fun _ ac Wd h hd => ?_
      obtain ⟨v0, hv0, hV0⟩ := h.dp hd 44
      have hV0' : v0 = .int .i64 ((j : Int)) := hV0
      exact ⟨_, run_addi rfl (hv0.trans hV0') rfl (wrap_id (by omega) (by omega)), congrArg (Value.int .i64) (by omega)⟩
    intro a10 w10 st10
    clear st9
    replace st10 : St w.heap.size w 53 [⟨2, none, none, 28, 8, VT, VT⟩, ⟨7, none, none, 28, 8, Vv 3 ((tIt (j + 1) (tC0 n) (tS0 n)).1) ((tIt (j + 1) (tC0 n) (tS0 n)).2), VT⟩] [(3, Vi (arn (n) 64)), (43, Vb (true)), (8, Vi (((j + 1 : Nat) : Int)))] a10 w10 := st10
    exact ⟨m - 1, by omega, j + 1, by omega, st10.cut⟩
  ·
    repeat first | refine wp_seq ?_ | refine wp_block ?_ | refine wp_skip ?_ | refine wp_exit ?_
    refine rg (BT := [(28, 8, 0)]) (Vl := [Vi ((j : Int)), Vi (arn (n) 64), Vi ((arn (n) 64) % (4)), Vb (false)]) (B := [⟨2, none, none, 28, 8, VT, VT⟩, ⟨7, none, none, 28, 8, Vv 3 ((tIt j (tC0 n) (tS0 n)).1) ((tIt j (tC0 n) (tS0 n)).2), VT⟩]) (SL' := [(3, Vi (arn (n) 64)), (8, Vi ((j : Int))), (43, Vb (false))]) st7 ⟨ks, ks, ?s2, ?s3, trivial⟩ ?_
    case s2 => refine kr fun _ ac Wd h hd => ?_; obtain ⟨v0, hv0, hV0⟩ := h.dp hd 41; have hV0' : v0 = .int .i64 (arn (n) 64) := hV0; exact ⟨_, run_remi rfl (hv0.trans hV0') rfl hk0 (by omega), rfl⟩
    case s3 =>
      refine kr fun _ ac Wd h hd => ?_
      obtain ⟨v0, hv0, hV0⟩ := h.dp hd 40
      have hV0' : v0 = .int .i64 ((j : Int)) := hV0
      obtain ⟨v1, hv1, hV1⟩ := h.dp hd 42
      have hV1' : v1 = .int .i64 ((arn (n) 64) % (4)) := hV1
      exact ⟨_, run_lssi rfl (hv0.trans hV0') (hv1.trans hV1'), congrArg Value.bool (decide_eq_false hlt)⟩
    intro a8 w8 st8
    clear st7
    repeat first | refine wp_seq ?_ | refine wp_block ?_ | refine wp_skip ?_ | refine wp_exit ?_
    obtain ⟨vc, hc1, hc2⟩ := st8.slot (43, Vb (false)) (.tail _ (.tail _ (.head _)))
    refine wp_cond_false (hc1.trans hc2) ?_
    clear hc1 hc2
    have hje : (arn n 64 % 4).toNat = j := by omega
    repeat first | refine wp_seq ?_ | refine wp_block ?_ | refine wp_skip ?_ | refine wp_exit ?_
    refine rg (BT := [(28, 8, 0)]) (Vl := [Vv 3 ((tIt j (tC0 n) (tS0 n)).1) ((tIt j (tC0 n) (tS0 n)).2), VT]) (B := [⟨2, none, some 1, 28, 8, Vv 3 ((tIt j (tC0 n) (tS0 n)).1) ((tIt j (tC0 n) (tS0 n)).2), VT⟩, ⟨7, none, none, 28, 8, Vv 3 ((tIt j (tC0 n) (tS0 n)).1) ((tIt j (tC0 n) (tS0 n)).2), VT⟩]) (SL' := [(3, Vi (arn (n) 64)), (8, Vi ((j : Int))), (43, Vb (false))]) st8 ⟨ks, ks, trivial⟩ ?_
    intro a9 w9 st9
    clear st8
    repeat first | refine wp_seq ?_ | refine wp_block ?_ | refine wp_skip ?_ | refine wp_exit ?_
    obtain ⟨g, cs, r1, r2, r3, r4, r5⟩ := st9.res ⟨2, none, none, 28, 8, Vv 3 ((tIt j (tC0 n) (tS0 n)).1) ((tIt j (tC0 n) (tS0 n)).2), VT⟩ (.head _) rfl rfl
    exact wp_ret (bodyPost_ret (results_cell_row rfl _ _ g 28 cs (0, 0) _ r1 r2 Try.underlying28 rfl (by rw [r3]; exact size_Turn)) st9.defers ⟨_, rfl, (by unfold turnC turnS; rw [hje]; exact r4), r5⟩)
end Go.Proofs.Yteaoaoknpihchaa

namespace Go.Proofs.Yteaoaoknpihchaa
open Go.RowKit

end Go.Proofs.Yteaoaoknpihchaa
