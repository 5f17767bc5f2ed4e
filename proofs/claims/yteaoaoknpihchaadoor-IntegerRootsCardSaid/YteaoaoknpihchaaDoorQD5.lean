/- IntegerRoots: the walk. -/
import Derived.Deep.LoopGhost
import Derived.Test.YteaoaoknpihchaaDoorQD4
set_option linter.unusedVariables false
namespace Go.Proofs.YteaoaoknpihchaaDoor
open Go.RowKit

variable {BT : List (TypeId × Nat × Nat)}
/-- four integers in a row -/
def VR4 (N : Nat) (X : Nat → Int) : VP := fun v w => ∃ h cs, v = .slice (some ⟨h, 0, none⟩) 4 4 ∧ w.heap[h]? = some (.cells cs 24 (0, 0)) ∧ cs.size = 8 ∧ ∀ j, j < 4 → Vz N (X j) (.agg (cs.extract (2 * j) (2 * j + 2))) w
theorem Stab_VR4 (N : Nat) (X : Nat → Int) (hn : BT.any (fun e => e.1 == 24 && e.2.1 == 8) = false) : Stab BT (VR4 N X) := fun _ _ _ ⟨h, cs, e1, e2, e3, e4⟩ hr => ⟨h, cs, e1, (hr.row h cs _ e2 (BT_not hn e3)).trans e2, e3, fun j hj => Stab_Vz _ _ _ _ _ (e4 j hj) hr⟩
/-- the address of one of them -/
def VP4 (N : Nat) (x : Int) : VP := fun v w => ∃ h off cs, v = .pointer (some ⟨h, off, none⟩) ∧ w.heap[h]? = some (.cells cs 24 (0, 0)) ∧ cs.size = 8 ∧ off + 2 ≤ 8 ∧ Vz N x (.agg (cs.extract off (off + 2))) w
theorem Stab_VP4 (N : Nat) (x : Int) (hn : BT.any (fun e => e.1 == 24 && e.2.1 == 8) = false) : Stab BT (VP4 N x) := fun _ _ _ ⟨h, off, cs, e1, e2, e3, e4, e5⟩ hr => ⟨h, off, cs, e1, (hr.row h cs _ e2 (BT_not hn e3)).trans e2, e3, e4, Stab_Vz _ _ _ _ _ e5 hr⟩
section
variable {ρ : Operand → Value} {o : Oper} {W : World} {x y : Operand} {va vb : Value} {N : Nat} {a b : Int}
theorem bslice_4 {x0 x1 x2 x3 : Operand} {v0 v1 v2 v3 : Value} {X : Nat → Int} (ho : o.op = .buildSlice 30 4 #[(0, x0), (1, x1), (2, x2), (3, x3)]) (q0 : ρ x0 = v0) (q1 : ρ x1 = v1) (q2 : ρ x2 = v2) (q3 : ρ x3 = v3) (h0 : Vz N (X 0) v0 W) (h1 : Vz N (X 1) v1 W) (h2 : Vz N (X 2) v2 W) (h3 : Vz N (X 3) v3 W) : ∃ v w', (execOp ρ o).run Tryd.prog W = .ok (.value v) w' ∧ Below W.heap.size W w' ∧ VR4 N X v w' := by
  obtain ⟨nb0, p0, n0, c0, rfl, I0, l0⟩ := h0
  obtain ⟨nb1, p1, n1, c1, rfl, I1, l1⟩ := h1
  obtain ⟨nb2, p2, n2, c2, rfl, I2, l2⟩ := h2
  obtain ⟨nb3, p3, n3, c3, rfl, I3, l3⟩ := h3
  have hb := below_new W (.cells #[.bool nb0, .slice p0 n0 c0, .bool nb1, .slice p1 n1 c1, .bool nb2, .slice p2 n2 c2, .bool nb3, .slice p3 n3 c3] 24)
  refine ⟨.slice (some ⟨W.heap.size, 0, none⟩) 4 4, _, ?_, hb, ⟨_, _, rfl, heap_alloc_new _ _, rfl, fun j hj => ?_⟩⟩
  · clear I0 I1 I2 I3 hb
    obtain ⟨dd, op, ty, ps, af, gd⟩ := o
    subst ho
    go_simp
  · match j, hj with
    | 0, _ => exact ⟨nb0, p0, n0, c0, rfl, I0.later hb, l0⟩
    | 1, _ => exact ⟨nb1, p1, n1, c1, rfl, I1.later hb, l1⟩
    | 2, _ => exact ⟨nb2, p2, n2, c2, rfl, I2.later hb, l2⟩
    | 3, _ => exact ⟨nb3, p3, n3, c3, rfl, I3.later hb, l3⟩
theorem run_len4 {X : Nat → Int} (ho : o.op = .call { callee := .builtin .len, args := #[x], argTypes := #[30] }) (hty : o.type = 3) (hx : ρ x = va) (h : VR4 N X va W) : ∃ v, (execOp ρ o).run Tryd.prog W = .ok (.value v) W ∧ Vi 4 v W := by
  obtain ⟨h, cs, rfl, -⟩ := h
  refine ⟨.int .i64 4, ?_, rfl⟩
  obtain ⟨dd, op, ty, ps, af, gd⟩ := o
  subst ho
  simp only at hty
  subst hty
  go_simp
theorem index_4 {X : Nat → Int} {j : Nat} (ho : o.op = .indexAddr 30 x y) (hx : ρ x = va) (h : VR4 N X va W) (hy : ρ y = vb) (hb : Vi (j : Int) vb W) (hj : j < 4) : ∃ v, (execOp ρ o).run Tryd.prog W = .ok (.value v) W ∧ VP4 N (X j) v W := by
  obtain ⟨h, cs, rfl, e2, e3, e4⟩ := h
  obtain rfl := hb
  have e5 := e4 j hj
  refine ⟨.pointer (some ⟨h, 2 * j, none⟩), ?_, ⟨h, 2 * j, cs, rfl, e2, e3, by omega, e5⟩⟩
  have hj2 : (j : Int) < 4 := by omega
  have hm : j * 2 = 2 * j := Nat.mul_comm _ _
  clear e2 e3 e4 e5
  obtain ⟨dd, op, ty, ps, af, gd⟩ := o
  subst ho
  go_simp
theorem load_P4 (ho : o.op = .load 24 x) (hx : ρ x = va) (h : VP4 N a va W) : ∃ v, (execOp ρ o).run Tryd.prog W = .ok (.value v) W ∧ Vz N a v W := by
  obtain ⟨h, off, cs, rfl, e2, e3, e4, e5⟩ := h
  refine ⟨_, ?_, e5⟩
  unfold execOp
  simp only [ho, hx, Instr.loadAt, Instr.sureAddr, Sem.run_bind, Sem.run_pure, Result.andThen_ok, run_loadVar_part W h off 2 24 24 cs (0, 0) _ e2 (by omega) Tryd.underlying24 rfl size_Int]
end

set_option maxRecDepth 100000 in
set_option maxHeartbeats 1600000 in
theorem walkRoots0 {w : World} {l : List Int} {k : Int} {v0 v1 : Value} (h0 : VI l v0 w) (h1 : Vi (k) v1 w) (hk0' : -9223372036854775808 ≤ k) (hk1' : k ≤ 9223372036854775807) (hT : Tb w) : Calls Tryd.prog 5 #[v0, v1] w (RV (Vb true) w) := by
  go_enter Tryd.func5, Tryd.ntmps5
  have st0 : St w.heap.size w 62 [] [(0, VI l), (1, Vi (k))] _ w := St.begin (a := ⟨#[v0, v1, undef, undef, undef, undef, undef, undef, undef, undef, undef, undef, undef, undef, undef, undef, undef, undef, undef, undef, undef, undef, undef, undef, undef, undef, undef, undef, undef, undef, undef, undef, undef, undef, undef, undef, undef, undef, undef, undef, undef, undef, undef, undef, undef, undef, undef, undef, undef, undef, undef, undef, undef, undef, undef, undef, undef, undef, undef, undef, undef, undef], []⟩) rfl rfl (List.forall_mem_cons.2 ⟨⟨_, rfl, h0⟩, (List.forall_mem_cons.2 ⟨⟨_, rfl, h1⟩, (fun _ h => absurd h (by simp))⟩)⟩)
  generalize (⟨#[v0, v1, undef, undef, undef, undef, undef, undef, undef, undef, undef, undef, undef, undef, undef, undef, undef, undef, undef, undef, undef, undef, undef, undef, undef, undef, undef, undef, undef, undef, undef, undef, undef, undef, undef, undef, undef, undef, undef, undef, undef, undef, undef, undef, undef, undef, undef, undef, undef, undef, undef, undef, undef, undef, undef, undef, undef, undef, undef, undef, undef, undef], []⟩ : Act) = a0 at st0 ⊢
  have hk0 := arn_lo k 5 (by omega)
  have hk1 := arn_hi k 5 (by omega)
  repeat first | refine wp_seq ?_ | refine wp_block ?_ | refine wp_skip ?_ | refine wp_exit ?_
  refine rg (BT := [(24, 2, 0)]) (Vl := [Vb (false)]) (B := []) (SL' := [(0, VI l), (1, Vi (k)), (4, Vb (false))]) st0 ⟨ks, trivial⟩ ?_
  intro a1 w1 st1
  clear st0
  repeat first | refine wp_seq ?_ | refine wp_block ?_ | refine wp_skip ?_ | refine wp_exit ?_
  refine rg (BT := [(24, 2, 0)]) (Vl := [VI l, Vex (fun z => Vz 6 z), VT, VT]) (B := [⟨5, some 2, some 3, 24, 2, Vex (fun z => Vz 6 z), VT⟩]) (SL' := [(1, Vi (k)), (4, Vb (false))]) st1 ⟨ks, ?s1, ks, ks, trivial⟩ ?_
  case s1 => refine kc fun _ ac Wd h hd => ?_; obtain ⟨v0, hv0, hV0⟩ := h.dp hd 13; exact ⟨#[v0, .int .i64 (0)], by simp [hv0, eval_const], cNumberX (show VI l v0 Wd from hV0)⟩
  intro a2 w2 st2
  clear st1
  replace st2 : St w.heap.size w 62 [⟨5, none, none, 24, 2, Vex (fun z => Vz 6 z), VT⟩] [(1, Vi (k)), (4, Vb (false))] a2 w2 := st2
  obtain ⟨X, st2⟩ := St.exB (L1 := []) (L2 := []) st2
  replace st2 : St w.heap.size w 62 [⟨5, none, none, 24, 2, Vz 6 (X), VT⟩] [(1, Vi (k)), (4, Vb (false))] a2 w2 := st2
  repeat first | refine wp_seq ?_ | refine wp_block ?_ | refine wp_skip ?_ | refine wp_exit ?_
  refine rg (BT := [(24, 2, 0)]) (Vl := [Vz 6 (X), Vz 6 (X), Vz (6 + 6) ((X) * (X)), VT, VT]) (B := [⟨5, none, none, 24, 2, Vz 6 (X), VT⟩, ⟨6, some 3, some 4, 24, 2, Vz (6 + 6) ((X) * (X)), VT⟩]) (SL' := [(1, Vi (k)), (4, Vb (false))]) st2 ⟨ks, ks, ?s2, ks, ks, trivial⟩ ?_
  case s2 =>
    refine kc fun _ ac Wd h hd => ?_
    obtain ⟨v0, hv0, hV0⟩ := h.dp hd 15
    obtain ⟨v1, hv1, hV1⟩ := h.dp hd 16
    exact ⟨#[v0, v1], by simp [hv0, hv1], (cRMul (show Vz 6 (X) v0 Wd from hV0) (show Vz 6 (X) v1 Wd from hV1) (by omega) (by omega))⟩
  intro a3 w3 st3
  clear st2
  repeat first | refine wp_seq ?_ | refine wp_block ?_ | refine wp_skip ?_ | refine wp_exit ?_
  have : Sb [(24, 2, 0)] (VR4 13 (fun j => [X, (X) * (X), (X) * (X) + ((arn (k) 5) - (2)), (X) * (X) - (1)].getD j 0)) := ⟨Stab_VR4 _ _ (by kernel_rfl)⟩
  refine rg (BT := [(24, 2, 0)]) (Vl := [Vz 6 (X), Vz (6 + 6) ((X) * (X)), Vz (6 + 6) ((X) * (X)), Vi (k), Vi (arn (k) 5), Vi ((arn (k) 5) - (2)), Vz 3 ((arn (k) 5) - (2)), Vz (max (6 + 6) 3 + 1) (((X) * (X)) + ((arn (k) 5) - (2))), Vz (6 + 6) ((X) * (X)), Vz 3 (1), Vz (max (6 + 6) 3 + 1) (((X) * (X)) - (1)), VR4 13 (fun j => [X, (X) * (X), (X) * (X) + ((arn (k) 5) - (2)), (X) * (X) - (1)].getD j 0), VR4 13 (fun j => [X, (X) * (X), (X) * (X) + ((arn (k) 5) - (2)), (X) * (X) - (1)].getD j 0)]) (B := [⟨5, none, none, 24, 2, Vz 6 (X), VT⟩, ⟨6, none, none, 24, 2, Vz (6 + 6) ((X) * (X)), VT⟩]) (SL' := [(4, Vb (false)), (7, VR4 13 (fun j => [X, (X) * (X), (X) * (X) + ((arn (k) 5) - (2)), (X) * (X) - (1)].getD j 0))]) st3 ⟨ks, ks, ks, ks, ?s4, ?s5, ?s6, ?s7, ks, ?s9, ?s10, ?s11, ks, trivial⟩ ?_
  case s4 =>
    refine kc fun _ ac Wd h hd => ?_
    obtain ⟨v0, hv0, hV0⟩ := h.dp hd 21
    exact ⟨#[v0, .int .i64 (5)], by simp [hv0, eval_const], cAround (show Vi (k) v0 Wd from hV0) (by omega) (by omega) (by omega) (by omega)⟩
  case s5 => refine kr fun _ ac Wd h hd => ?_; obtain ⟨v0, hv0, hV0⟩ := h.dp hd 22; have hV0' : v0 = .int .i64 (arn (k) 5) := hV0; exact ⟨_, run_subi rfl (hv0.trans hV0') rfl (wrap_id (by omega) (by omega)), rfl⟩
  case s6 => refine kc fun _ ac Wd h hd => ?_; obtain ⟨v0, hv0, hV0⟩ := h.dp hd 23; exact ⟨#[v0], by simp [hv0], cROfV (show Vi ((arn (k) 5) - (2)) v0 Wd from hV0) (by omega) (by omega)⟩
  case s7 =>
    refine kc fun _ ac Wd h hd => ?_
    obtain ⟨v0, hv0, hV0⟩ := h.dp hd 20
    obtain ⟨v1, hv1, hV1⟩ := h.dp hd 24
    exact ⟨#[v0, v1], by simp [hv0, hv1], (cRAdd (show Vz (6 + 6) ((X) * (X)) v0 Wd from hV0) (show Vz 3 ((arn (k) 5) - (2)) v1 Wd from hV1) (by omega) (by omega))⟩
  case s9 => refine kc fun _ ac Wd h hd => ?_; exact ⟨#[.int .i64 (1)], by simp [eval_const], cROf (1) (by omega) (by omega)⟩
  case s10 =>
    refine kc fun _ ac Wd h hd => ?_
    obtain ⟨v0, hv0, hV0⟩ := h.dp hd 26
    obtain ⟨v1, hv1, hV1⟩ := h.dp hd 27
    exact ⟨#[v0, v1], by simp [hv0, hv1], (cRSub (show Vz (6 + 6) ((X) * (X)) v0 Wd from hV0) (show Vz 3 (1) v1 Wd from hV1) (by omega) (by omega))⟩
  case s11 =>
    refine km fun _ ac Wd h hd => ?_
    obtain ⟨v0, hv0, hV0⟩ := h.dp hd 18
    obtain ⟨v1, hv1, hV1⟩ := h.dp hd 19
    obtain ⟨v2, hv2, hV2⟩ := h.dp hd 25
    obtain ⟨v3, hv3, hV3⟩ := h.dp hd 28
    exact bslice_4 (N := 13) (X := (fun j => [X, (X) * (X), (X) * (X) + ((arn (k) 5) - (2)), (X) * (X) - (1)].getD j 0)) rfl hv0 hv1 hv2 hv3 (Vz_le (M := 13) (show Vz 6 (X) v0 Wd from hV0) (by omega)) (Vz_le (M := 13) (show Vz (6 + 6) ((X) * (X)) v1 Wd from hV1) (by omega)) (show Vz 13 ((X) * (X) + ((arn (k) 5) - (2))) v2 Wd from hV2) (show Vz 13 ((X) * (X) - (1)) v3 Wd from hV3)
  intro a4 w4 st4
  clear st3
  repeat first | refine wp_seq ?_ | refine wp_block ?_ | refine wp_skip ?_ | refine wp_exit ?_
  have : Sb [(24, 2, 0)] (VR4 13 (fun j => [X, (X) * (X), (X) * (X) + ((arn (k) 5) - (2)), (X) * (X) - (1)].getD j 0)) := ⟨Stab_VR4 _ _ (by kernel_rfl)⟩
  refine rg (BT := [(24, 2, 0)]) (Vl := [Vi (0)]) (B := [⟨5, none, none, 24, 2, Vz 6 (X), VT⟩, ⟨6, none, none, 24, 2, Vz (6 + 6) ((X) * (X)), VT⟩]) (SL' := [(4, Vb (false)), (7, VR4 13 (fun j => [X, (X) * (X), (X) * (X) + ((arn (k) 5) - (2)), (X) * (X) - (1)].getD j 0)), (8, Vi (0))]) st4 ⟨ks, trivial⟩ ?_
  intro a5 w5 st5
  clear st4
  replace st5 : St w.heap.size w 62 [] [(4, Vb (false)), (7, VR4 13 (fun j => [X, (X) * (X), (X) * (X) + ((arn (k) 5) - (2)), (X) * (X) - (1)].getD j 0)), (8, Vi (((0 : Nat) : Int)))] a5 w5 := st5.cut
  generalize (fun j => [X, (X) * (X), (X) * (X) + ((arn (k) 5) - (2)), (X) * (X) - (1)].getD j 0) = XF at st5
  repeat first | refine wp_seq ?_ | refine wp_block ?_ | refine wp_skip ?_ | refine wp_exit ?_
  refine wp_loop_ghost (fun m aX wX => ∃ j : Nat, j + m = 4 ∧ St w.heap.size w 62 [] [(4, Vb (false)), (7, VR4 13 XF), (8, Vi (((j : Nat) : Int)))] aX wX) 4 ⟨0, by omega, st5⟩ ?_
  clear st5
  intro m aL wL ⟨j, hj, st5⟩
  by_cases hlt : ((j : Nat) : Int) < 4
  ·
    repeat first | refine wp_seq ?_ | refine wp_block ?_ | refine wp_skip ?_ | refine wp_exit ?_
    have : Sb [(24, 2, 0)] (VR4 13 XF) := ⟨Stab_VR4 _ _ (by kernel_rfl)⟩
    refine rg (BT := [(24, 2, 0)]) (Vl := [Vi (((j : Nat) : Int)), VR4 13 XF, Vi (4), Vb (true)]) (B := []) (SL' := [(4, Vb (false)), (7, VR4 13 XF), (8, Vi (((j : Nat) : Int))), (33, Vb (true))]) st5 ⟨ks, ks, ?s2, ?s3, trivial⟩ ?_
    case s2 => refine kr fun _ ac Wd h hd => ?_; obtain ⟨v0, hv0, hV0⟩ := h.dp hd 31; exact run_len4 rfl rfl hv0 hV0
    case s3 =>
      refine kr fun _ ac Wd h hd => ?_
      obtain ⟨v0, hv0, hV0⟩ := h.dp hd 30
      have hV0' : v0 = .int .i64 (((j : Nat) : Int)) := hV0
      obtain ⟨v1, hv1, hV1⟩ := h.dp hd 32
      have hV1' : v1 = .int .i64 (4) := hV1
      exact ⟨_, run_lssi rfl (hv0.trans hV0') (hv1.trans hV1'), congrArg Value.bool (decide_eq_true hlt)⟩
    intro a6 w6 st6
    clear st5
    repeat first | refine wp_seq ?_ | refine wp_block ?_ | refine wp_skip ?_ | refine wp_exit ?_
    obtain ⟨vc, hc1, hc2⟩ := st6.slot (33, Vb (true)) (.tail _ (.tail _ (.tail _ (.head _))))
    refine wp_cond_true (hc1.trans hc2) ?_
    clear hc1 hc2
    have hj4 : j < 4 := by omega
    repeat first | refine wp_seq ?_ | refine wp_block ?_ | refine wp_skip ?_ | refine wp_exit ?_
    have : Sb [(24, 2, 0)] (VR4 13 XF) := ⟨Stab_VR4 _ _ (by kernel_rfl)⟩
    have : Sb [(24, 2, 0)] (VP4 13 (XF j)) := ⟨Stab_VP4 _ _ (by kernel_rfl)⟩
    refine rg (BT := [(24, 2, 0)]) (Vl := [VR4 13 XF, Vi (((j : Nat) : Int)), VP4 13 (XF j), Vz 13 (XF j), VTup (Vz 13 (rt (XF j))) (Vb (rb (XF j))), VTup (Vz 13 (rt (XF j))) (Vb (rb (XF j))), Vz 13 (rt (XF j)), Vb (rb (XF j)), VT, VT, Vb (rb (XF j))]) (B := [⟨9, some 8, some 9, 24, 2, Vz 13 (rt (XF j)), VT⟩]) (SL' := [(4, Vb (false)), (7, VR4 13 XF), (8, Vi (((j : Nat) : Int))), (33, Vb (true)), (10, Vb (rb (XF j)))]) st6 ⟨ks, ks, ?s2, ?s3, ?s4, ks, ks, ks, ks, ks, ks, trivial⟩ ?_
    case s2 => refine kr fun _ ac Wd h hd => ?_; obtain ⟨v0, hv0, hV0⟩ := h.dp hd 37; obtain ⟨v1, hv1, hV1⟩ := h.dp hd 38; exact index_4 rfl hv0 hV0 hv1 hV1 hj4
    case s3 => refine kr fun _ ac Wd h hd => ?_; obtain ⟨v0, hv0, hV0⟩ := h.dp hd 39; exact load_P4 rfl hv0 hV0
    case s4 => refine kc fun _ ac Wd h hd => ?_; obtain ⟨v0, hv0, hV0⟩ := h.dp hd 40; exact ⟨#[v0], by simp [hv0], cRootT (show Vz 13 (XF j) v0 Wd from hV0) (by omega)⟩
    intro a7 w7 st7
    clear st6
    repeat first | refine wp_seq ?_ | refine wp_block ?_ | refine wp_skip ?_ | refine wp_exit ?_
    have : Sb [(24, 2, 0)] (VR4 13 XF) := ⟨Stab_VR4 _ _ (by kernel_rfl)⟩
    have : Sb [(24, 2, 0)] (VP4 13 (XF j)) := ⟨Stab_VP4 _ _ (by kernel_rfl)⟩
    refine rg (BT := [(24, 2, 0)]) (Vl := [VR4 13 XF, Vi (((j : Nat) : Int)), VP4 13 (XF j), Vz 13 (XF j), VTup (Vz (13 + 3) (rt (XF j))) (Vb (rb (XF j))), VTup (Vz (13 + 3) (rt (XF j))) (Vb (rb (XF j))), Vz (13 + 3) (rt (XF j)), Vb (rb (XF j)), VT, VT, Vb (rb (XF j))]) (B := [⟨9, none, none, 24, 2, Vz 13 (rt (XF j)), VT⟩, ⟨11, some 8, some 9, 24, 2, Vz (13 + 3) (rt (XF j)), VT⟩]) (SL' := [(4, Vb (false)), (7, VR4 13 XF), (8, Vi (((j : Nat) : Int))), (33, Vb (true)), (10, Vb (rb (XF j))), (12, Vb (rb (XF j)))]) st7 ⟨ks, ks, ?s2, ?s3, ?s4, ks, ks, ks, ks, ks, ks, trivial⟩ ?_
    case s2 => refine kr fun _ ac Wd h hd => ?_; obtain ⟨v0, hv0, hV0⟩ := h.dp hd 45; obtain ⟨v1, hv1, hV1⟩ := h.dp hd 46; exact index_4 rfl hv0 hV0 hv1 hV1 hj4
    case s3 => refine kr fun _ ac Wd h hd => ?_; obtain ⟨v0, hv0, hV0⟩ := h.dp hd 47; exact load_P4 rfl hv0 hV0
    case s4 => refine kc fun _ ac Wd h hd => ?_; obtain ⟨v0, hv0, hV0⟩ := h.dp hd 48; exact ⟨#[v0], by simp [hv0], cRRoot (show Vz 13 (XF j) v0 Wd from hV0) (by omega)⟩
    intro a8 w8 st8
    clear st7
    repeat first | refine wp_seq ?_ | refine wp_block ?_ | refine wp_skip ?_ | refine wp_exit ?_
    have : Sb [(24, 2, 0)] (VR4 13 XF) := ⟨Stab_VR4 _ _ (by kernel_rfl)⟩
    refine rg (BT := [(24, 2, 0)]) (Vl := [Vz 13 (rt (XF j)), Vz (13 + 3) (rt (XF j)), Vb (true), Vb (false), Vb (false), Vb (rb (XF j)), Vb (rb (XF j)), Vb (false), Vb (false)]) (B := [⟨9, none, none, 24, 2, Vz 13 (rt (XF j)), VT⟩, ⟨11, none, none, 24, 2, Vz (13 + 3) (rt (XF j)), VT⟩]) (SL' := [(4, Vb (false)), (7, VR4 13 XF), (8, Vi (((j : Nat) : Int))), (33, Vb (true)), (60, Vb (false))]) st8 ⟨ks, ks, ?s2, ks, ks, ks, ks, ?s7, ks, trivial⟩ ?_
    case s2 =>
      refine kc fun _ ac Wd h hd => ?_
      obtain ⟨v0, hv0, hV0⟩ := h.dp hd 52
      obtain ⟨v1, hv1, hV1⟩ := h.dp hd 53
      exact ⟨#[v0, v1], by simp [hv0, hv1], cSame (show Vz 13 (rt (XF j)) v0 Wd from hV0) (show Vz (13 + 3) (rt (XF j)) v1 Wd from hV1) (by omega) (by omega) rfl⟩
    case s7 =>
      refine kr fun _ ac Wd h hd => ?_
      obtain ⟨v0, hv0, hV0⟩ := h.dp hd 57
      obtain ⟨v1, hv1, hV1⟩ := h.dp hd 58
      exact ⟨_, run_neqb rfl (hv0.trans hV0) (hv1.trans hV1), congrArg Value.bool (bne_self_eq_false _)⟩
    intro a9 w9 st9
    clear st8
    repeat first | refine wp_seq ?_ | refine wp_block ?_ | refine wp_skip ?_ | refine wp_exit ?_
    obtain ⟨vc, hc1, hc2⟩ := st9.slot (60, Vb (false)) (.tail _ (.tail _ (.tail _ (.tail _ (.head _)))))
    refine wp_cond_false (hc1.trans hc2) ?_
    clear hc1 hc2
    repeat first | refine wp_seq ?_ | refine wp_block ?_ | refine wp_skip ?_ | refine wp_exit ?_
    have : Sb [(24, 2, 0)] (VR4 13 XF) := ⟨Stab_VR4 _ _ (by kernel_rfl)⟩
    refine rg (BT := [(24, 2, 0)]) (Vl := [Vi (((j : Nat) : Int)), Vi (((j + 1 : Nat) : Int)), Vi (((j + 1 : Nat) : Int))]) (B := [⟨9, none, none, 24, 2, Vz 13 (rt (XF j)), VT⟩, ⟨11, none, none, 24, 2, Vz (13 + 3) (rt (XF j)), VT⟩]) (SL' := [(4, Vb (false)), (7, VR4 13 XF), (33, Vb (true)), (60, Vb (false)), (8, Vi (((j + 1 : Nat) : Int)))]) st9 ⟨?s0, ?s1, ks, trivial⟩ ?_
    case s0 =>
      refine k_run0 SbB.out (by kernel_rfl) fun listed ac Wd h hd hnl => ⟨trivial, ?_⟩
      obtain ⟨v0, hv0, hV0⟩ := h.out0 hnl (8, Vi (((j : Nat) : Int))) (.tail _ (.tail _ (.head _))) 2 (by kernel_rfl) (.inr (by kernel_rfl))
      exact ⟨_, run_move rfl, by rw [hv0]; exact hV0⟩
    case s1 =>
      refine kr fun _ ac Wd h hd => ?_
      obtain ⟨v0, hv0, hV0⟩ := h.dp hd 34
      have hV0' : v0 = .int .i64 (((j : Nat) : Int)) := hV0
      exact ⟨_, run_addi rfl (hv0.trans hV0') rfl (wrap_id (by omega) (by omega)), congrArg (Value.int .i64) (by omega)⟩
    intro a10 w10 st10
    clear st9
    exact ⟨m - 1, by omega, j + 1, by omega, st10.cut⟩
  ·
    repeat first | refine wp_seq ?_ | refine wp_block ?_ | refine wp_skip ?_ | refine wp_exit ?_
    have : Sb [(24, 2, 0)] (VR4 13 XF) := ⟨Stab_VR4 _ _ (by kernel_rfl)⟩
    refine rg (BT := [(24, 2, 0)]) (Vl := [Vi (((j : Nat) : Int)), VR4 13 XF, Vi (4), Vb (false)]) (B := []) (SL' := [(4, Vb (false)), (7, VR4 13 XF), (8, Vi (((j : Nat) : Int))), (33, Vb (false))]) st5 ⟨ks, ks, ?s2, ?s3, trivial⟩ ?_
    case s2 => refine kr fun _ ac Wd h hd => ?_; obtain ⟨v0, hv0, hV0⟩ := h.dp hd 31; exact run_len4 rfl rfl hv0 hV0
    case s3 =>
      refine kr fun _ ac Wd h hd => ?_
      obtain ⟨v0, hv0, hV0⟩ := h.dp hd 30
      have hV0' : v0 = .int .i64 (((j : Nat) : Int)) := hV0
      obtain ⟨v1, hv1, hV1⟩ := h.dp hd 32
      have hV1' : v1 = .int .i64 (4) := hV1
      exact ⟨_, run_lssi rfl (hv0.trans hV0') (hv1.trans hV1'), congrArg Value.bool (decide_eq_false hlt)⟩
    intro a6 w6 st6
    clear st5
    repeat first | refine wp_seq ?_ | refine wp_block ?_ | refine wp_skip ?_ | refine wp_exit ?_
    obtain ⟨vc, hc1, hc2⟩ := st6.slot (33, Vb (false)) (.tail _ (.tail _ (.tail _ (.head _))))
    refine wp_cond_false (hc1.trans hc2) ?_
    clear hc1 hc2
    repeat first | refine wp_seq ?_ | refine wp_block ?_ | refine wp_skip ?_ | refine wp_exit ?_
    have : Sb [(24, 2, 0)] (VR4 13 XF) := ⟨Stab_VR4 _ _ (by kernel_rfl)⟩
    refine rg (BT := [(24, 2, 0)]) (Vl := [Vb (true), Vb (true)]) (B := []) (SL' := [(7, VR4 13 XF), (8, Vi (((j : Nat) : Int))), (33, Vb (false)), (4, Vb (true))]) st6 ⟨?s0, ks, trivial⟩ ?_
    case s0 => refine kc fun _ ac Wd h hd => ?_; exact ⟨#[], by simp [], cLives hT h.k.below rfl⟩
    intro a7 w7 st7
    clear st6
    repeat first | refine wp_seq ?_ | refine wp_block ?_ | refine wp_skip ?_ | refine wp_exit ?_
    obtain ⟨vr, r1, r4⟩ := st7.slot (4, Vb (true)) (.tail _ (.tail _ (.tail _ (.head _))))
    exact wp_ret (bodyPost_ret (results_tmp rfl _ _ _) st7.defers ⟨_, congrArg Ending.returned (show _ = vr from r1), r4, st7.k.below⟩)
end Go.Proofs.YteaoaoknpihchaaDoor
