/- IntegerQuotients: the walk. -/
import Derived.Deep.LoopGhost
import Derived.Test.YteaoaoknpihchaaDoorM24
import Derived.Test.YteaoaoknpihchaaDoorM28
set_option linter.unusedVariables false
namespace Go.Proofs.YteaoaoknpihchaaDoor
open Go.RowKit

variable {BT : List (TypeId × Nat × Nat)}
/-- a slice of two integers -/
def VS2 (N : Nat) (x y : Int) : VP := fun v w => ∃ h cs, v = .slice (some ⟨h, 0, none⟩) 2 2 ∧ w.heap[h]? = some (.cells cs 24 (0, 0)) ∧ cs.size = 4 ∧ Vz N x (.agg (cs.extract 0 (0 + 2))) w ∧ Vz N y (.agg (cs.extract 2 (2 + 2))) w
theorem Stab_VS2 (N : Nat) (x y : Int) (hn : BT.any (fun e => e.1 == 24 && e.2.1 == 4) = false) : Stab BT (VS2 N x y) := fun _ _ _ ⟨h, cs, e1, e2, e3, e4, e5⟩ hr => ⟨h, cs, e1, (hr.row h cs _ e2 (BT_not hn e3)).trans e2, e3, Stab_Vz _ _ _ _ _ e4 hr, Stab_Vz _ _ _ _ _ e5 hr⟩
/-- six of them -/
def VS6 (N : Nat) (X Y : Nat → Int) : VP := fun v w => ∃ h cs, v = .slice (some ⟨h, 0, none⟩) 6 6 ∧ w.heap[h]? = some (.cells cs 30 (0, 0)) ∧ cs.size = 6 ∧ ∀ j, j < 6 → ∃ u, cs[j]? = some u ∧ VS2 N (X j) (Y j) u w
theorem Stab_VS6 (N : Nat) (X Y : Nat → Int) (hn : BT.any (fun e => e.1 == 24 && e.2.1 == 4) = false) (hn2 : BT.any (fun e => e.1 == 30 && e.2.1 == 6) = false) : Stab BT (VS6 N X Y) := fun _ _ _ ⟨h, cs, e1, e2, e3, e4⟩ hr => ⟨h, cs, e1, (hr.row h cs _ e2 (BT_not hn2 e3)).trans e2, e3, fun j hj => by
  obtain ⟨u, h1, h2⟩ := e4 j hj
  exact ⟨u, h1, Stab_VS2 N _ _ hn _ _ _ h2 hr⟩⟩
/-- the address of one of them -/
def VSp (N : Nat) (x y : Int) : VP := fun v w => ∃ h j cs u, v = .pointer (some ⟨h, j, none⟩) ∧ w.heap[h]? = some (.cells cs 30 (0, 0)) ∧ cs.size = 6 ∧ cs[j]? = some u ∧ VS2 N x y u w
theorem Stab_VSp (N : Nat) (x y : Int) (hn : BT.any (fun e => e.1 == 24 && e.2.1 == 4) = false) (hn2 : BT.any (fun e => e.1 == 30 && e.2.1 == 6) = false) : Stab BT (VSp N x y) := fun _ _ _ ⟨h, j, cs, u, e1, e2, e3, e4, e5⟩ hr => ⟨h, j, cs, u, e1, (hr.row h cs _ e2 (BT_not hn2 e3)).trans e2, e3, e4, Stab_VS2 N _ _ hn _ _ _ e5 hr⟩
/-- the address of an integer in a row of two -/
def VZp (N : Nat) (x : Int) : VP := fun v w => ∃ h off cs, v = .pointer (some ⟨h, off, none⟩) ∧ w.heap[h]? = some (.cells cs 24 (0, 0)) ∧ cs.size = 4 ∧ off + 2 ≤ 4 ∧ Vz N x (.agg (cs.extract off (off + 2))) w
theorem Stab_VZp (N : Nat) (x : Int) (hn : BT.any (fun e => e.1 == 24 && e.2.1 == 4) = false) : Stab BT (VZp N x) := fun _ _ _ ⟨h, off, cs, e1, e2, e3, e4, e5⟩ hr => ⟨h, off, cs, e1, (hr.row h cs _ e2 (BT_not hn e3)).trans e2, e3, e4, Stab_Vz _ _ _ _ _ e5 hr⟩
section
variable {ρ : Operand → Value} {o : Oper} {W : World} {x y : Operand} {va vb : Value} {N : Nat} {a b : Int}
theorem bslice_2 (ho : o.op = .buildSlice 30 2 #[(0, x), (1, y)]) (hx : ρ x = va) (hy : ρ y = vb) (h1 : Vz N a va W) (h2 : Vz N b vb W) : ∃ v w', (execOp ρ o).run Tryd.prog W = .ok (.value v) w' ∧ Below W.heap.size W w' ∧ VS2 N a b v w' := by
  have h1' := Stab_Vz (BT := []) N a _ _ _ h1 (RI.of_below (below_new W (.cells #[.bool false] 24)))
  obtain ⟨nb, p, n, c, rfl, hI, hn⟩ := h1
  obtain ⟨nb2, p2, n2, c2, rfl, hI2, hn2⟩ := h2
  have hb := below_new W (.cells #[.bool nb, .slice p n c, .bool nb2, .slice p2 n2 c2] 24)
  refine ⟨.slice (some ⟨W.heap.size, 0, none⟩) 2 2, W.alloc (.cells #[.bool nb, .slice p n c, .bool nb2, .slice p2 n2 c2] 24), ?_, hb, ⟨_, _, rfl, heap_alloc_new _ _, rfl, ⟨nb, p, n, c, rfl, hI.later hb, hn⟩, ⟨nb2, p2, n2, c2, rfl, hI2.later hb, hn2⟩⟩⟩
  clear hI hI2 h1' hb
  obtain ⟨dd, op, ty, ps, af, gd⟩ := o
  subst ho
  go_simp
theorem bslice_6 {x0 x1 x2 x3 x4 x5 : Operand} {v0 v1 v2 v3 v4 v5 : Value} {X Y : Nat → Int} (ho : o.op = .buildSlice 37 6 #[(0, x0), (1, x1), (2, x2), (3, x3), (4, x4), (5, x5)]) (q0 : ρ x0 = v0) (q1 : ρ x1 = v1) (q2 : ρ x2 = v2) (q3 : ρ x3 = v3) (q4 : ρ x4 = v4) (q5 : ρ x5 = v5)
    (h0 : VS2 N (X 0) (Y 0) v0 W) (h1 : VS2 N (X 1) (Y 1) v1 W) (h2 : VS2 N (X 2) (Y 2) v2 W) (h3 : VS2 N (X 3) (Y 3) v3 W) (h4 : VS2 N (X 4) (Y 4) v4 W) (h5 : VS2 N (X 5) (Y 5) v5 W) : ∃ v w', (execOp ρ o).run Tryd.prog W = .ok (.value v) w' ∧ Below W.heap.size W w' ∧ VS6 N X Y v w' := by
  have st := fun (x y : Int) (v : Value) (c : Array Value) (h : VS2 N x y v W) => Stab_VS2 (BT := []) N x y rfl _ _ _ h (RI.of_below (below_new W (.cells c 30)))
  have key : ∃ w', (execOp ρ o).run Tryd.prog W = .ok (.value (.slice (some ⟨W.heap.size, 0, none⟩) 6 6)) w' ∧ w' = W.alloc (.cells #[v0, v1, v2, v3, v4, v5] 30) := by
    obtain ⟨g0, c0, rfl, -⟩ := h0
    obtain ⟨g1, c1, rfl, -⟩ := h1
    obtain ⟨g2, c2, rfl, -⟩ := h2
    obtain ⟨g3, c3, rfl, -⟩ := h3
    obtain ⟨g4, c4, rfl, -⟩ := h4
    obtain ⟨g5, c5, rfl, -⟩ := h5
    refine ⟨_, ?_, rfl⟩
    obtain ⟨dd, op, ty, ps, af, gd⟩ := o
    subst ho
    go_simp
  obtain ⟨w', hr, rfl⟩ := key
  refine ⟨_, _, hr, below_new _ _, ⟨_, _, rfl, heap_alloc_new _ _, rfl, fun j hj => ?_⟩⟩
  match j, hj with
  | 0, _ => exact ⟨_, rfl, st _ _ _ _ h0⟩
  | 1, _ => exact ⟨_, rfl, st _ _ _ _ h1⟩
  | 2, _ => exact ⟨_, rfl, st _ _ _ _ h2⟩
  | 3, _ => exact ⟨_, rfl, st _ _ _ _ h3⟩
  | 4, _ => exact ⟨_, rfl, st _ _ _ _ h4⟩
  | 5, _ => exact ⟨_, rfl, st _ _ _ _ h5⟩
theorem run_len6 {X Y : Nat → Int} (ho : o.op = .call { callee := .builtin .len, args := #[x], argTypes := #[37] }) (hty : o.type = 3) (hx : ρ x = va) (h : VS6 N X Y va W) : ∃ v, (execOp ρ o).run Tryd.prog W = .ok (.value v) W ∧ Vi 6 v W := by
  obtain ⟨h, cs, rfl, -⟩ := h
  refine ⟨.int .i64 6, ?_, rfl⟩
  obtain ⟨dd, op, ty, ps, af, gd⟩ := o
  subst ho
  simp only at hty
  subst hty
  go_simp
theorem index_6 {X Y : Nat → Int} {j : Nat} (ho : o.op = .indexAddr 37 x y) (hx : ρ x = va) (h : VS6 N X Y va W) (hy : ρ y = vb) (hb : Vi (j : Int) vb W) (hj : j < 6) : ∃ v, (execOp ρ o).run Tryd.prog W = .ok (.value v) W ∧ VSp N (X j) (Y j) v W := by
  obtain ⟨h, cs, rfl, e2, e3, e4⟩ := h
  obtain rfl := hb
  obtain ⟨u, e5, e6⟩ := e4 j hj
  refine ⟨.pointer (some ⟨h, j, none⟩), ?_, ⟨h, j, cs, u, rfl, e2, e3, e5, e6⟩⟩
  have hj2 : (j : Int) < 6 := by omega
  clear e2 e3 e4 e5 e6
  obtain ⟨dd, op, ty, ps, af, gd⟩ := o
  subst ho
  go_simp
theorem load_Sp (ho : o.op = .load 30 x) (hx : ρ x = va) (h : VSp N a b va W) : ∃ v, (execOp ρ o).run Tryd.prog W = .ok (.value v) W ∧ VS2 N a b v W := by
  obtain ⟨h, j, cs, u, rfl, e2, e3, e4, e5⟩ := h
  have hc : W.cell? ⟨h, j, none⟩ = some u := by simp [World.cell?, e2, e4]
  have hagg : (isAgg 30).run Tryd.prog W = .ok false W := by
    unfold isAgg
    rw [Sem.run_bind, run_underlying Tryd.underlying30 W]
    rfl
  refine ⟨u, ?_, e5⟩
  unfold execOp
  simp only [ho, hx, Instr.loadAt, Instr.sureAddr, Sem.run_bind, Sem.run_pure, Result.andThen_ok, loadVar, hagg]
  simp only [Bool.false_eq_true, if_false, run_load, hc, Result.andThen_ok]
theorem index_2a (ho : o.op = .indexAddr 30 x (.const (.int .i64 0))) (hρ : ρ (.const (.int .i64 0)) = .int .i64 0) (hx : ρ x = va) (h : VS2 N a b va W) : ∃ v, (execOp ρ o).run Tryd.prog W = .ok (.value v) W ∧ VZp N a v W := by
  obtain ⟨h, cs, rfl, e2, e3, e4, e5⟩ := h
  refine ⟨.pointer (some ⟨h, 0, none⟩), ?_, ⟨h, 0, cs, rfl, e2, e3, by omega, e4⟩⟩
  clear e2 e3 e4 e5
  obtain ⟨dd, op, ty, ps, af, gd⟩ := o
  subst ho
  go_simp
theorem index_2b (ho : o.op = .indexAddr 30 x (.const (.int .i64 1))) (hρ : ρ (.const (.int .i64 1)) = .int .i64 1) (hx : ρ x = va) (h : VS2 N a b va W) : ∃ v, (execOp ρ o).run Tryd.prog W = .ok (.value v) W ∧ VZp N b v W := by
  obtain ⟨h, cs, rfl, e2, e3, e4, e5⟩ := h
  refine ⟨.pointer (some ⟨h, 2, none⟩), ?_, ⟨h, 2, cs, rfl, e2, e3, by omega, e5⟩⟩
  clear e2 e3 e4 e5
  obtain ⟨dd, op, ty, ps, af, gd⟩ := o
  subst ho
  go_simp
theorem load_Zp (ho : o.op = .load 24 x) (hx : ρ x = va) (h : VZp N a va W) : ∃ v, (execOp ρ o).run Tryd.prog W = .ok (.value v) W ∧ Vz N a v W := by
  obtain ⟨h, off, cs, rfl, e2, e3, e4, e5⟩ := h
  refine ⟨_, ?_, e5⟩
  unfold execOp
  simp only [ho, hx, Instr.loadAt, Instr.sureAddr, Sem.run_bind, Sem.run_pure, Result.andThen_ok, run_loadVar_part W h off 2 24 24 cs (0, 0) _ e2 (by omega) Tryd.underlying24 rfl size_Int]
end

set_option maxRecDepth 100000 in
set_option maxHeartbeats 1600000 in
theorem walkQuo0 {w : World} {l ll : List Int} {k : Int} {v0 v1 v2 : Value} (h0 : VI l v0 w) (h1 : VI ll v1 w) (h2 : Vi (k) v2 w) (hk0' : -9223372036854775808 ≤ k) (hk1' : k ≤ 9223372036854775807) (hT : Tb w) : Calls Tryd.prog 4 #[v0, v1, v2] w (RV (Vb true) w) := by
  go_enter Tryd.func4, Tryd.ntmps4
  have st0 : St w.heap.size w 128 [] [(0, VI l), (1, VI ll), (2, Vi (k))] _ w := St.begin (a := ⟨#[v0, v1, v2, undef, undef, undef, undef, undef, undef, undef, undef, undef, undef, undef, undef, undef, undef, undef, undef, undef, undef, undef, undef, undef, undef, undef, undef, undef, undef, undef, undef, undef, undef, undef, undef, undef, undef, undef, undef, undef, undef, undef, undef, undef, undef, undef, undef, undef, undef, undef, undef, undef, undef, undef, undef, undef, undef, undef, undef, undef, undef, undef, undef, undef, undef, undef, undef, undef, undef, undef, undef, undef, undef, undef, undef, undef, undef, undef, undef, undef, undef, undef, undef, undef, undef, undef, undef, undef, undef, undef, undef, undef, undef, undef, undef, undef, undef, undef, undef, undef, undef, undef, undef, undef, undef, undef, undef, undef, undef, undef, undef, undef, undef, undef, undef, undef, undef, undef, undef, undef, undef, undef, undef, undef, undef, undef, undef, undef], []⟩) rfl rfl (List.forall_mem_cons.2 ⟨⟨_, rfl, h0⟩, (List.forall_mem_cons.2 ⟨⟨_, rfl, h1⟩, (List.forall_mem_cons.2 ⟨⟨_, rfl, h2⟩, (fun _ h => absurd h (by simp))⟩)⟩)⟩)
  generalize (⟨#[v0, v1, v2, undef, undef, undef, undef, undef, undef, undef, undef, undef, undef, undef, undef, undef, undef, undef, undef, undef, undef, undef, undef, undef, undef, undef, undef, undef, undef, undef, undef, undef, undef, undef, undef, undef, undef, undef, undef, undef, undef, undef, undef, undef, undef, undef, undef, undef, undef, undef, undef, undef, undef, undef, undef, undef, undef, undef, undef, undef, undef, undef, undef, undef, undef, undef, undef, undef, undef, undef, undef, undef, undef, undef, undef, undef, undef, undef, undef, undef, undef, undef, undef, undef, undef, undef, undef, undef, undef, undef, undef, undef, undef, undef, undef, undef, undef, undef, undef, undef, undef, undef, undef, undef, undef, undef, undef, undef, undef, undef, undef, undef, undef, undef, undef, undef, undef, undef, undef, undef, undef, undef, undef, undef, undef, undef, undef, undef], []⟩ : Act) = a0 at st0 ⊢
  have hk0 := arn_lo k 5 (by omega)
  have hk1 := arn_hi k 5 (by omega)
  repeat first | refine wp_seq ?_ | refine wp_block ?_ | refine wp_skip ?_ | refine wp_exit ?_
  refine rg (BT := [(24, 2, 0)]) (Vl := [Vb (false)]) (B := []) (SL' := [(0, VI l), (1, VI ll), (2, Vi (k)), (6, Vb (false))]) st0 ⟨ks, trivial⟩ ?_
  intro a1 w1 st1
  clear st0
  repeat first | refine wp_seq ?_ | refine wp_block ?_ | refine wp_skip ?_ | refine wp_exit ?_
  refine rg (BT := [(24, 2, 0)]) (Vl := [VI l, Vex (fun z => Vz 6 z), VT, VT]) (B := [⟨7, some 2, some 3, 24, 2, Vex (fun z => Vz 6 z), VT⟩]) (SL' := [(1, VI ll), (2, Vi (k)), (6, Vb (false))]) st1 ⟨ks, ?s1, ks, ks, trivial⟩ ?_
  case s1 => refine kc fun _ ac Wd h hd => ?_; obtain ⟨v0, hv0, hV0⟩ := h.dp hd 16; exact ⟨#[v0, .int .i64 (0)], by simp [hv0, eval_const], cNumberX (show VI l v0 Wd from hV0)⟩
  intro a2 w2 st2
  clear st1
  replace st2 : St w.heap.size w 128 [⟨7, none, none, 24, 2, Vex (fun z => Vz 6 z), VT⟩] [(1, VI ll), (2, Vi (k)), (6, Vb (false))] a2 w2 := st2
  obtain ⟨X, st2⟩ := St.exB (L1 := []) (L2 := []) st2
  replace st2 : St w.heap.size w 128 [⟨7, none, none, 24, 2, Vz 6 (X), VT⟩] [(1, VI ll), (2, Vi (k)), (6, Vb (false))] a2 w2 := st2
  repeat first | refine wp_seq ?_ | refine wp_block ?_ | refine wp_skip ?_ | refine wp_exit ?_
  refine rg (BT := [(24, 2, 0)]) (Vl := [VI ll, Vex (fun z => Vz 6 z), VT, VT]) (B := [⟨7, none, none, 24, 2, Vz 6 (X), VT⟩, ⟨8, some 2, some 3, 24, 2, Vex (fun z => Vz 6 z), VT⟩]) (SL' := [(2, Vi (k)), (6, Vb (false))]) st2 ⟨ks, ?s1, ks, ks, trivial⟩ ?_
  case s1 => refine kc fun _ ac Wd h hd => ?_; obtain ⟨v0, hv0, hV0⟩ := h.dp hd 18; exact ⟨#[v0, .int .i64 (0)], by simp [hv0, eval_const], cNumberX (show VI ll v0 Wd from hV0)⟩
  intro a3 w3 st3
  clear st2
  replace st3 : St w.heap.size w 128 [⟨7, none, none, 24, 2, Vz 6 (X), VT⟩, ⟨8, none, none, 24, 2, Vex (fun z => Vz 6 z), VT⟩] [(2, Vi (k)), (6, Vb (false))] a3 w3 := st3
  obtain ⟨Y, st3⟩ := St.exB (L1 := [⟨7, none, none, 24, 2, Vz 6 (X), VT⟩]) (L2 := []) st3
  replace st3 : St w.heap.size w 128 [⟨7, none, none, 24, 2, Vz 6 (X), VT⟩, ⟨8, none, none, 24, 2, Vz 6 (Y), VT⟩] [(2, Vi (k)), (6, Vb (false))] a3 w3 := st3
  repeat first | refine wp_seq ?_ | refine wp_block ?_ | refine wp_skip ?_ | refine wp_exit ?_
  refine rg (BT := [(24, 2, 0)]) (Vl := [Vz 6 (X), Vz 6 (Y), Vz (6 + 6) ((X) * (Y)), Vi (k), Vi (arn (k) 5), Vi ((arn (k) 5) - (2)), Vz 3 ((arn (k) 5) - (2)), Vz (max (6 + 6) 3 + 1) (((X) * (Y)) + ((arn (k) 5) - (2))), VT, VT]) (B := [⟨7, none, none, 24, 2, Vz 6 (X), VT⟩, ⟨8, none, none, 24, 2, Vz 6 (Y), VT⟩, ⟨9, some 8, some 9, 24, 2, Vz (max (6 + 6) 3 + 1) (((X) * (Y)) + ((arn (k) 5) - (2))), VT⟩]) (SL' := [(6, Vb (false))]) st3 ⟨ks, ks, ?s2, ks, ?s4, ?s5, ?s6, ?s7, ks, ks, trivial⟩ ?_
  case s2 =>
    refine kc fun _ ac Wd h hd => ?_
    obtain ⟨v0, hv0, hV0⟩ := h.dp hd 20
    obtain ⟨v1, hv1, hV1⟩ := h.dp hd 21
    exact ⟨#[v0, v1], by simp [hv0, hv1], (cRMul (show Vz 6 (X) v0 Wd from hV0) (show Vz 6 (Y) v1 Wd from hV1) (by omega) (by omega))⟩
  case s4 =>
    refine kc fun _ ac Wd h hd => ?_
    obtain ⟨v0, hv0, hV0⟩ := h.dp hd 23
    exact ⟨#[v0, .int .i64 (5)], by simp [hv0, eval_const], cAround (show Vi (k) v0 Wd from hV0) (by omega) (by omega) (by omega) (by omega)⟩
  case s5 => refine kr fun _ ac Wd h hd => ?_; obtain ⟨v0, hv0, hV0⟩ := h.dp hd 24; have hV0' : v0 = .int .i64 (arn (k) 5) := hV0; exact ⟨_, run_subi rfl (hv0.trans hV0') rfl (wrap_id (by omega) (by omega)), rfl⟩
  case s6 => refine kc fun _ ac Wd h hd => ?_; obtain ⟨v0, hv0, hV0⟩ := h.dp hd 25; exact ⟨#[v0], by simp [hv0], cROfV (show Vi ((arn (k) 5) - (2)) v0 Wd from hV0) (by omega) (by omega)⟩
  case s7 =>
    refine kc fun _ ac Wd h hd => ?_
    obtain ⟨v0, hv0, hV0⟩ := h.dp hd 22
    obtain ⟨v1, hv1, hV1⟩ := h.dp hd 26
    exact ⟨#[v0, v1], by simp [hv0, hv1], (cRAdd (show Vz (6 + 6) ((X) * (Y)) v0 Wd from hV0) (show Vz 3 ((arn (k) 5) - (2)) v1 Wd from hV1) (by omega) (by omega))⟩
  intro a4 w4 st4
  clear st3
  repeat first | refine wp_seq ?_ | refine wp_block ?_ | refine wp_skip ?_ | refine wp_exit ?_
  have : Sb [(24, 2, 0)] (VS2 13 (X) (Y)) := ⟨Stab_VS2 _ _ _ (by kernel_rfl)⟩
  have : Sb [(24, 2, 0)] (VS2 13 (Y) (X)) := ⟨Stab_VS2 _ _ _ (by kernel_rfl)⟩
  have : Sb [(24, 2, 0)] (VS2 13 ((((X) * (Y)) + ((arn (k) 5) - (2)))) (Y)) := ⟨Stab_VS2 _ _ _ (by kernel_rfl)⟩
  have : Sb [(24, 2, 0)] (VS2 13 ((((X) * (Y)) + ((arn (k) 5) - (2)))) (X)) := ⟨Stab_VS2 _ _ _ (by kernel_rfl)⟩
  have : Sb [(24, 2, 0)] (VS2 13 (X) (0)) := ⟨Stab_VS2 _ _ _ (by kernel_rfl)⟩
  have : Sb [(24, 2, 0)] (VS2 13 ((((X) * (Y)) + ((arn (k) 5) - (2)))) (Y * Y)) := ⟨Stab_VS2 _ _ _ (by kernel_rfl)⟩
  have : Sb [(24, 2, 0)] (VS6 13 (fun j => [X, Y, (((X) * (Y)) + ((arn (k) 5) - (2))), (((X) * (Y)) + ((arn (k) 5) - (2))), X, (((X) * (Y)) + ((arn (k) 5) - (2)))].getD j 0) (fun j => [Y, X, Y, X, 0, Y * Y].getD j 0)) := ⟨Stab_VS6 _ _ _ (by kernel_rfl) (by kernel_rfl)⟩
  refine rg (BT := [(24, 2, 0)]) (Vl := [Vz 6 (X), Vz 6 (Y), VS2 13 (X) (Y), Vz 6 (Y), Vz 6 (X), VS2 13 (Y) (X), Vz (max (6 + 6) 3 + 1) (((X) * (Y)) + ((arn (k) 5) - (2))), Vz 6 (Y), VS2 13 ((((X) * (Y)) + ((arn (k) 5) - (2)))) (Y), Vz (max (6 + 6) 3 + 1) (((X) * (Y)) + ((arn (k) 5) - (2))), Vz 6 (X), VS2 13 ((((X) * (Y)) + ((arn (k) 5) - (2)))) (X), Vz 6 (X), Vz 1 (0), VS2 13 (X) (0), Vz (max (6 + 6) 3 + 1) (((X) * (Y)) + ((arn (k) 5) - (2))), Vz 6 (Y), Vz 6 (Y), Vz (6 + 6) ((Y) * (Y)), VS2 13 ((((X) * (Y)) + ((arn (k) 5) - (2)))) (Y * Y), VS6 13 (fun j => [X, Y, (((X) * (Y)) + ((arn (k) 5) - (2))), (((X) * (Y)) + ((arn (k) 5) - (2))), X, (((X) * (Y)) + ((arn (k) 5) - (2)))].getD j 0) (fun j => [Y, X, Y, X, 0, Y * Y].getD j 0), VS6 13 (fun j => [X, Y, (((X) * (Y)) + ((arn (k) 5) - (2))), (((X) * (Y)) + ((arn (k) 5) - (2))), X, (((X) * (Y)) + ((arn (k) 5) - (2)))].getD j 0) (fun j => [Y, X, Y, X, 0, Y * Y].getD j 0)]) (B := [⟨7, none, none, 24, 2, Vz 6 (X), VT⟩, ⟨8, none, none, 24, 2, Vz 6 (Y), VT⟩, ⟨9, none, none, 24, 2, Vz (max (6 + 6) 3 + 1) (((X) * (Y)) + ((arn (k) 5) - (2))), VT⟩]) (SL' := [(6, Vb (false)), (10, VS6 13 (fun j => [X, Y, (((X) * (Y)) + ((arn (k) 5) - (2))), (((X) * (Y)) + ((arn (k) 5) - (2))), X, (((X) * (Y)) + ((arn (k) 5) - (2)))].getD j 0) (fun j => [Y, X, Y, X, 0, Y * Y].getD j 0))]) st4 ⟨ks, ks, ?s2, ks, ks, ?s5, ks, ks, ?s8, ks, ks, ?s11, ks, ?s13, ?s14, ks, ks, ks, ?s18, ?s19, ?s20, ks, trivial⟩ ?_
  case s2 =>
    refine km fun _ ac Wd h hd => ?_
    obtain ⟨v0, hv0, hV0⟩ := h.dp hd 28
    obtain ⟨v1, hv1, hV1⟩ := h.dp hd 29
    exact bslice_2 (N := 13) rfl hv0 hv1 (Vz_le (M := 13) (show Vz 6 (X) v0 Wd from hV0) (by omega)) (Vz_le (M := 13) (show Vz 6 (Y) v1 Wd from hV1) (by omega))
  case s5 =>
    refine km fun _ ac Wd h hd => ?_
    obtain ⟨v0, hv0, hV0⟩ := h.dp hd 31
    obtain ⟨v1, hv1, hV1⟩ := h.dp hd 32
    exact bslice_2 (N := 13) rfl hv0 hv1 (Vz_le (M := 13) (show Vz 6 (Y) v0 Wd from hV0) (by omega)) (Vz_le (M := 13) (show Vz 6 (X) v1 Wd from hV1) (by omega))
  case s8 =>
    refine km fun _ ac Wd h hd => ?_
    obtain ⟨v0, hv0, hV0⟩ := h.dp hd 34
    obtain ⟨v1, hv1, hV1⟩ := h.dp hd 35
    exact bslice_2 (N := 13) rfl hv0 hv1 (Vz_le (M := 13) (show Vz (max (6 + 6) 3 + 1) (((X) * (Y)) + ((arn (k) 5) - (2))) v0 Wd from hV0) (by omega)) (Vz_le (M := 13) (show Vz 6 (Y) v1 Wd from hV1) (by omega))
  case s11 =>
    refine km fun _ ac Wd h hd => ?_
    obtain ⟨v0, hv0, hV0⟩ := h.dp hd 37
    obtain ⟨v1, hv1, hV1⟩ := h.dp hd 38
    exact bslice_2 (N := 13) rfl hv0 hv1 (Vz_le (M := 13) (show Vz (max (6 + 6) 3 + 1) (((X) * (Y)) + ((arn (k) 5) - (2))) v0 Wd from hV0) (by omega)) (Vz_le (M := 13) (show Vz 6 (X) v1 Wd from hV1) (by omega))
  case s13 => exact kr fun _ ac Wd h hd => build_Int0 rfl
  case s14 =>
    refine km fun _ ac Wd h hd => ?_
    obtain ⟨v0, hv0, hV0⟩ := h.dp hd 40
    obtain ⟨v1, hv1, hV1⟩ := h.dp hd 41
    exact bslice_2 (N := 13) rfl hv0 hv1 (Vz_le (M := 13) (show Vz 6 (X) v0 Wd from hV0) (by omega)) (Vz_le (M := 13) (show Vz 1 (0) v1 Wd from hV1) (by omega))
  case s18 =>
    refine kc fun _ ac Wd h hd => ?_
    obtain ⟨v0, hv0, hV0⟩ := h.dp hd 44
    obtain ⟨v1, hv1, hV1⟩ := h.dp hd 45
    exact ⟨#[v0, v1], by simp [hv0, hv1], (cRMul (show Vz 6 (Y) v0 Wd from hV0) (show Vz 6 (Y) v1 Wd from hV1) (by omega) (by omega))⟩
  case s19 =>
    refine km fun _ ac Wd h hd => ?_
    obtain ⟨v0, hv0, hV0⟩ := h.dp hd 43
    obtain ⟨v1, hv1, hV1⟩ := h.dp hd 46
    exact bslice_2 (N := 13) rfl hv0 hv1 (Vz_le (M := 13) (show Vz (max (6 + 6) 3 + 1) (((X) * (Y)) + ((arn (k) 5) - (2))) v0 Wd from hV0) (by omega)) (Vz_le (M := 13) (show Vz 12 ((Y) * (Y)) v1 Wd from hV1) (by omega))
  case s20 =>
    refine km fun _ ac Wd h hd => ?_
    obtain ⟨v0, hv0, hV0⟩ := h.dp hd 30
    obtain ⟨v1, hv1, hV1⟩ := h.dp hd 33
    obtain ⟨v2, hv2, hV2⟩ := h.dp hd 36
    obtain ⟨v3, hv3, hV3⟩ := h.dp hd 39
    obtain ⟨v4, hv4, hV4⟩ := h.dp hd 42
    obtain ⟨v5, hv5, hV5⟩ := h.dp hd 47
    exact bslice_6 (X := fun j => [X, Y, (((X) * (Y)) + ((arn (k) 5) - (2))), (((X) * (Y)) + ((arn (k) 5) - (2))), X, (((X) * (Y)) + ((arn (k) 5) - (2)))].getD j 0) (Y := fun j => [Y, X, Y, X, 0, Y * Y].getD j 0) rfl hv0 hv1 hv2 hv3 hv4 hv5 hV0 hV1 hV2 hV3 hV4 hV5
  intro a5 w5 st5
  clear st4
  repeat first | refine wp_seq ?_ | refine wp_block ?_ | refine wp_skip ?_ | refine wp_exit ?_
  have : Sb [(24, 2, 0)] (VS6 13 (fun j => [X, Y, (((X) * (Y)) + ((arn (k) 5) - (2))), (((X) * (Y)) + ((arn (k) 5) - (2))), X, (((X) * (Y)) + ((arn (k) 5) - (2)))].getD j 0) (fun j => [Y, X, Y, X, 0, Y * Y].getD j 0)) := ⟨Stab_VS6 _ _ _ (by kernel_rfl) (by kernel_rfl)⟩
  refine rg (BT := [(24, 2, 0)]) (Vl := [Vi (0)]) (B := [⟨7, none, none, 24, 2, Vz 6 (X), VT⟩, ⟨8, none, none, 24, 2, Vz 6 (Y), VT⟩, ⟨9, none, none, 24, 2, Vz (max (6 + 6) 3 + 1) (((X) * (Y)) + ((arn (k) 5) - (2))), VT⟩]) (SL' := [(6, Vb (false)), (10, VS6 13 (fun j => [X, Y, (((X) * (Y)) + ((arn (k) 5) - (2))), (((X) * (Y)) + ((arn (k) 5) - (2))), X, (((X) * (Y)) + ((arn (k) 5) - (2)))].getD j 0) (fun j => [Y, X, Y, X, 0, Y * Y].getD j 0)), (11, Vi (0))]) st5 ⟨ks, trivial⟩ ?_
  intro a6 w6 st6
  clear st5
  replace st6 : St w.heap.size w 128 [] [(6, Vb (false)), (10, VS6 13 (fun j => [X, Y, (((X) * (Y)) + ((arn (k) 5) - (2))), (((X) * (Y)) + ((arn (k) 5) - (2))), X, (((X) * (Y)) + ((arn (k) 5) - (2)))].getD j 0) (fun j => [Y, X, Y, X, 0, Y * Y].getD j 0)), (11, Vi (((0 : Nat) : Int)))] a6 w6 := st6.cut
  generalize (fun j => [X, Y, (((X) * (Y)) + ((arn (k) 5) - (2))), (((X) * (Y)) + ((arn (k) 5) - (2))), X, (((X) * (Y)) + ((arn (k) 5) - (2)))].getD j 0) = XF at st6
  generalize (fun j => [Y, X, Y, X, 0, Y * Y].getD j 0) = YF at st6
  repeat first | refine wp_seq ?_ | refine wp_block ?_ | refine wp_skip ?_ | refine wp_exit ?_
  refine wp_loop_ghost (fun m aX wX => ∃ j : Nat, j + m = 6 ∧ St w.heap.size w 128 [] [(6, Vb (false)), (10, VS6 13 XF YF), (11, Vi (((j : Nat) : Int)))] aX wX) 6 ⟨0, by omega, st6⟩ ?_
  clear st6
  intro m aL wL ⟨j, hj, st6⟩
  by_cases hlt : ((j : Nat) : Int) < 6
  ·
    repeat first | refine wp_seq ?_ | refine wp_block ?_ | refine wp_skip ?_ | refine wp_exit ?_
    have : Sb [(24, 2, 0)] (VS6 13 XF YF) := ⟨Stab_VS6 _ _ _ (by kernel_rfl) (by kernel_rfl)⟩
    refine rg (BT := [(24, 2, 0)]) (Vl := [Vi (((j : Nat) : Int)), VS6 13 XF YF, Vi (6), Vb (true)]) (B := []) (SL' := [(6, Vb (false)), (10, VS6 13 XF YF), (11, Vi (((j : Nat) : Int))), (52, Vb (true))]) st6 ⟨ks, ks, ?s2, ?s3, trivial⟩ ?_
    case s2 => refine kr fun _ ac Wd h hd => ?_; obtain ⟨v0, hv0, hV0⟩ := h.dp hd 50; exact run_len6 rfl rfl hv0 hV0
    case s3 =>
      refine kr fun _ ac Wd h hd => ?_
      obtain ⟨v0, hv0, hV0⟩ := h.dp hd 49
      have hV0' : v0 = .int .i64 (((j : Nat) : Int)) := hV0
      obtain ⟨v1, hv1, hV1⟩ := h.dp hd 51
      have hV1' : v1 = .int .i64 (6) := hV1
      exact ⟨_, run_lssi rfl (hv0.trans hV0') (hv1.trans hV1'), congrArg Value.bool (decide_eq_true hlt)⟩
    intro a7 w7 st7
    clear st6
    repeat first | refine wp_seq ?_ | refine wp_block ?_ | refine wp_skip ?_ | refine wp_exit ?_
    obtain ⟨vc, hc1, hc2⟩ := st7.slot (52, Vb (true)) (.tail _ (.tail _ (.tail _ (.head _))))
    refine wp_cond_true (hc1.trans hc2) ?_
    clear hc1 hc2
    have hj6 : j < 6 := by omega
    repeat first | refine wp_seq ?_ | refine wp_block ?_ | refine wp_skip ?_ | refine wp_exit ?_
    have : Sb [(24, 2, 0)] (VS6 13 XF YF) := ⟨Stab_VS6 _ _ _ (by kernel_rfl) (by kernel_rfl)⟩
    have : Sb [(24, 2, 0)] (VSp 13 (XF j) (YF j)) := ⟨Stab_VSp _ _ _ (by kernel_rfl) (by kernel_rfl)⟩
    have : Sb [(24, 2, 0)] (VS2 13 (XF j) (YF j)) := ⟨Stab_VS2 _ _ _ (by kernel_rfl)⟩
    have : Sb [(24, 2, 0)] (VZp 13 (XF j)) := ⟨Stab_VZp _ _ (by kernel_rfl)⟩
    have : Sb [(24, 2, 0)] (VZp 13 (YF j)) := ⟨Stab_VZp _ _ (by kernel_rfl)⟩
    refine rg (BT := [(24, 2, 0)]) (Vl := [VS6 13 XF YF, Vi (((j : Nat) : Int)), VSp 13 (XF j) (YF j), VS2 13 (XF j) (YF j), VZp 13 (XF j), Vz 13 (XF j), VS6 13 XF YF, Vi (((j : Nat) : Int)), VSp 13 (XF j) (YF j), VS2 13 (XF j) (YF j), VZp 13 (YF j), Vz 13 (YF j), VTup (Vz 13 (dq (XF j) (YF j))) (Vz 13 (dr (XF j) (YF j))), VTup (Vz 13 (dq (XF j) (YF j))) (Vz 13 (dr (XF j) (YF j))), Vz 13 (dq (XF j) (YF j)), Vz 13 (dr (XF j) (YF j)), VT, VT, VT, VT]) (B := [⟨12, some 16, some 18, 24, 2, Vz 13 (dq (XF j) (YF j)), VT⟩, ⟨13, some 17, some 19, 24, 2, Vz 13 (dr (XF j) (YF j)), VT⟩]) (SL' := [(6, Vb (false)), (10, VS6 13 XF YF), (11, Vi (((j : Nat) : Int))), (52, Vb (true))]) st7 ⟨ks, ks, ?s2, ?s3, ?s4, ?s5, ks, ks, ?s8, ?s9, ?s10, ?s11, ?s12, ks, ks, ks, ks, ks, ks, ks, trivial⟩ ?_
    case s2 => refine kr fun _ ac Wd h hd => ?_; obtain ⟨v0, hv0, hV0⟩ := h.dp hd 56; obtain ⟨v1, hv1, hV1⟩ := h.dp hd 57; exact index_6 rfl hv0 hV0 hv1 hV1 hj6
    case s3 => refine kr fun _ ac Wd h hd => ?_; obtain ⟨v0, hv0, hV0⟩ := h.dp hd 58; exact load_Sp rfl hv0 hV0
    case s4 => refine kr fun _ ac Wd h hd => ?_; obtain ⟨v0, hv0, hV0⟩ := h.dp hd 59; exact index_2a rfl rfl hv0 hV0
    case s5 => refine kr fun _ ac Wd h hd => ?_; obtain ⟨v0, hv0, hV0⟩ := h.dp hd 60; exact load_Zp rfl hv0 hV0
    case s8 => refine kr fun _ ac Wd h hd => ?_; obtain ⟨v0, hv0, hV0⟩ := h.dp hd 62; obtain ⟨v1, hv1, hV1⟩ := h.dp hd 63; exact index_6 rfl hv0 hV0 hv1 hV1 hj6
    case s9 => refine kr fun _ ac Wd h hd => ?_; obtain ⟨v0, hv0, hV0⟩ := h.dp hd 64; exact load_Sp rfl hv0 hV0
    case s10 => refine kr fun _ ac Wd h hd => ?_; obtain ⟨v0, hv0, hV0⟩ := h.dp hd 65; exact index_2b rfl rfl hv0 hV0
    case s11 => refine kr fun _ ac Wd h hd => ?_; obtain ⟨v0, hv0, hV0⟩ := h.dp hd 66; exact load_Zp rfl hv0 hV0
    case s12 =>
      refine kc fun _ ac Wd h hd => ?_
      obtain ⟨v0, hv0, hV0⟩ := h.dp hd 61
      obtain ⟨v1, hv1, hV1⟩ := h.dp hd 67
      exact ⟨#[v0, v1], by simp [hv0, hv1], (cDiv (show Vz 13 (XF j) v0 Wd from hV0) (show Vz 13 (YF j) v1 Wd from hV1) (by omega) (by omega)).mono fun e w' h => h.tup⟩
    intro a8 w8 st8
    clear st7
    repeat first | refine wp_seq ?_ | refine wp_block ?_ | refine wp_skip ?_ | refine wp_exit ?_
    have : Sb [(24, 2, 0)] (VS6 13 XF YF) := ⟨Stab_VS6 _ _ _ (by kernel_rfl) (by kernel_rfl)⟩
    have : Sb [(24, 2, 0)] (VSp 13 (XF j) (YF j)) := ⟨Stab_VSp _ _ _ (by kernel_rfl) (by kernel_rfl)⟩
    have : Sb [(24, 2, 0)] (VS2 13 (XF j) (YF j)) := ⟨Stab_VS2 _ _ _ (by kernel_rfl)⟩
    have : Sb [(24, 2, 0)] (VZp 13 (XF j)) := ⟨Stab_VZp _ _ (by kernel_rfl)⟩
    have : Sb [(24, 2, 0)] (VZp 13 (YF j)) := ⟨Stab_VZp _ _ (by kernel_rfl)⟩
    refine rg (BT := [(24, 2, 0)]) (Vl := [VS6 13 XF YF, Vi (((j : Nat) : Int)), VSp 13 (XF j) (YF j), VS2 13 (XF j) (YF j), VZp 13 (XF j), Vz 13 (XF j), VS6 13 XF YF, Vi (((j : Nat) : Int)), VSp 13 (XF j) (YF j), VS2 13 (XF j) (YF j), VZp 13 (YF j), Vz 13 (YF j), VTup (Vz (13 + 1) (dq (XF j) (YF j))) (Vz 13 (dr (XF j) (YF j))), VTup (Vz (13 + 1) (dq (XF j) (YF j))) (Vz 13 (dr (XF j) (YF j))), Vz (13 + 1) (dq (XF j) (YF j)), Vz 13 (dr (XF j) (YF j)), VT, VT, VT, VT]) (B := [⟨12, none, none, 24, 2, Vz 13 (dq (XF j) (YF j)), VT⟩, ⟨13, none, none, 24, 2, Vz 13 (dr (XF j) (YF j)), VT⟩, ⟨14, some 16, some 18, 24, 2, Vz (13 + 1) (dq (XF j) (YF j)), VT⟩, ⟨15, some 17, some 19, 24, 2, Vz 13 (dr (XF j) (YF j)), VT⟩]) (SL' := [(6, Vb (false)), (10, VS6 13 XF YF), (11, Vi (((j : Nat) : Int))), (52, Vb (true))]) st8 ⟨ks, ks, ?s2, ?s3, ?s4, ?s5, ks, ks, ?s8, ?s9, ?s10, ?s11, ?s12, ks, ks, ks, ks, ks, ks, ks, trivial⟩ ?_
    case s2 => refine kr fun _ ac Wd h hd => ?_; obtain ⟨v0, hv0, hV0⟩ := h.dp hd 72; obtain ⟨v1, hv1, hV1⟩ := h.dp hd 73; exact index_6 rfl hv0 hV0 hv1 hV1 hj6
    case s3 => refine kr fun _ ac Wd h hd => ?_; obtain ⟨v0, hv0, hV0⟩ := h.dp hd 74; exact load_Sp rfl hv0 hV0
    case s4 => refine kr fun _ ac Wd h hd => ?_; obtain ⟨v0, hv0, hV0⟩ := h.dp hd 75; exact index_2a rfl rfl hv0 hV0
    case s5 => refine kr fun _ ac Wd h hd => ?_; obtain ⟨v0, hv0, hV0⟩ := h.dp hd 76; exact load_Zp rfl hv0 hV0
    case s8 => refine kr fun _ ac Wd h hd => ?_; obtain ⟨v0, hv0, hV0⟩ := h.dp hd 78; obtain ⟨v1, hv1, hV1⟩ := h.dp hd 79; exact index_6 rfl hv0 hV0 hv1 hV1 hj6
    case s9 => refine kr fun _ ac Wd h hd => ?_; obtain ⟨v0, hv0, hV0⟩ := h.dp hd 80; exact load_Sp rfl hv0 hV0
    case s10 => refine kr fun _ ac Wd h hd => ?_; obtain ⟨v0, hv0, hV0⟩ := h.dp hd 81; exact index_2b rfl rfl hv0 hV0
    case s11 => refine kr fun _ ac Wd h hd => ?_; obtain ⟨v0, hv0, hV0⟩ := h.dp hd 82; exact load_Zp rfl hv0 hV0
    case s12 =>
      refine kc fun _ ac Wd h hd => ?_
      obtain ⟨v0, hv0, hV0⟩ := h.dp hd 77
      obtain ⟨v1, hv1, hV1⟩ := h.dp hd 83
      exact ⟨#[v0, v1], by simp [hv0, hv1], (cRDiv (show Vz 13 (XF j) v0 Wd from hV0) (show Vz 13 (YF j) v1 Wd from hV1) (by omega) (by omega) (by omega) (by omega))⟩
    intro a9 w9 st9
    clear st8
    repeat first | refine wp_seq ?_ | refine wp_block ?_ | refine wp_skip ?_ | refine wp_exit ?_
    have : Sb [(24, 2, 0)] (VS6 13 XF YF) := ⟨Stab_VS6 _ _ _ (by kernel_rfl) (by kernel_rfl)⟩
    have : Sb [(24, 2, 0)] (VSp 13 (XF j) (YF j)) := ⟨Stab_VSp _ _ _ (by kernel_rfl) (by kernel_rfl)⟩
    have : Sb [(24, 2, 0)] (VS2 13 (XF j) (YF j)) := ⟨Stab_VS2 _ _ _ (by kernel_rfl)⟩
    have : Sb [(24, 2, 0)] (VZp 13 (XF j)) := ⟨Stab_VZp _ _ (by kernel_rfl)⟩
    have : Sb [(24, 2, 0)] (VZp 13 (YF j)) := ⟨Stab_VZp _ _ (by kernel_rfl)⟩
    refine rg (BT := [(24, 2, 0)]) (Vl := [Vz 13 (dq (XF j) (YF j)), Vz (13 + 1) (dq (XF j) (YF j)), Vb (true), Vb (false), Vb (false), Vz 13 (dr (XF j) (YF j)), Vz 13 (dr (XF j) (YF j)), Vb (true), Vb (false), Vb (false), Vb (false), VS6 13 XF YF, Vi (((j : Nat) : Int)), VSp 13 (XF j) (YF j), VS2 13 (XF j) (YF j), VZp 13 (XF j), Vz 13 (XF j), VS6 13 XF YF, Vi (((j : Nat) : Int)), VSp 13 (XF j) (YF j), VS2 13 (XF j) (YF j), VZp 13 (YF j), Vz 13 (YF j), Vz (max 13 13) ((Int.gcd (XF j) (YF j) : Int)), VS6 13 XF YF, Vi (((j : Nat) : Int)), VSp 13 (XF j) (YF j), VS2 13 (XF j) (YF j), VZp 13 (XF j), Vz 13 (XF j), VS6 13 XF YF, Vi (((j : Nat) : Int)), VSp 13 (XF j) (YF j), VS2 13 (XF j) (YF j), VZp 13 (YF j), Vz 13 (YF j), Vz 13 ((Int.gcd (XF j) (YF j) : Int)), Vb (true), Vb (false), Vb (false)]) (B := [⟨12, none, none, 24, 2, Vz 13 (dq (XF j) (YF j)), VT⟩, ⟨13, none, none, 24, 2, Vz 13 (dr (XF j) (YF j)), VT⟩, ⟨14, none, none, 24, 2, Vz (13 + 1) (dq (XF j) (YF j)), VT⟩, ⟨15, none, none, 24, 2, Vz 13 (dr (XF j) (YF j)), VT⟩]) (SL' := [(6, Vb (false)), (10, VS6 13 XF YF), (11, Vi (((j : Nat) : Int))), (52, Vb (true)), (126, Vb (false))]) st9 ⟨ks, ks, ?s2, ks, ks, ks, ks, ?s7, ks, ks, ks, ks, ks, ?s13, ?s14, ?s15, ?s16, ks, ks, ?s19, ?s20, ?s21, ?s22, ?s23, ks, ks, ?s26, ?s27, ?s28, ?s29, ks, ks, ?s32, ?s33, ?s34, ?s35, ?s36, ?s37, ks, ks, trivial⟩ ?_
    case s2 =>
      refine kc fun _ ac Wd h hd => ?_
      obtain ⟨v0, hv0, hV0⟩ := h.dp hd 87
      obtain ⟨v1, hv1, hV1⟩ := h.dp hd 88
      exact ⟨#[v0, v1], by simp [hv0, hv1], cSame (show Vz 13 (dq (XF j) (YF j)) v0 Wd from hV0) (show Vz (13 + 1) (dq (XF j) (YF j)) v1 Wd from hV1) (by omega) (by omega) rfl⟩
    case s7 =>
      refine kc fun _ ac Wd h hd => ?_
      obtain ⟨v0, hv0, hV0⟩ := h.dp hd 92
      obtain ⟨v1, hv1, hV1⟩ := h.dp hd 93
      exact ⟨#[v0, v1], by simp [hv0, hv1], cSame (show Vz 13 (dr (XF j) (YF j)) v0 Wd from hV0) (show Vz 13 (dr (XF j) (YF j)) v1 Wd from hV1) (by omega) (by omega) rfl⟩
    case s13 => refine kr fun _ ac Wd h hd => ?_; obtain ⟨v0, hv0, hV0⟩ := h.dp hd 98; obtain ⟨v1, hv1, hV1⟩ := h.dp hd 99; exact index_6 rfl hv0 hV0 hv1 hV1 hj6
    case s14 => refine kr fun _ ac Wd h hd => ?_; obtain ⟨v0, hv0, hV0⟩ := h.dp hd 100; exact load_Sp rfl hv0 hV0
    case s15 => refine kr fun _ ac Wd h hd => ?_; obtain ⟨v0, hv0, hV0⟩ := h.dp hd 101; exact index_2a rfl rfl hv0 hV0
    case s16 => refine kr fun _ ac Wd h hd => ?_; obtain ⟨v0, hv0, hV0⟩ := h.dp hd 102; exact load_Zp rfl hv0 hV0
    case s19 => refine kr fun _ ac Wd h hd => ?_; obtain ⟨v0, hv0, hV0⟩ := h.dp hd 104; obtain ⟨v1, hv1, hV1⟩ := h.dp hd 105; exact index_6 rfl hv0 hV0 hv1 hV1 hj6
    case s20 => refine kr fun _ ac Wd h hd => ?_; obtain ⟨v0, hv0, hV0⟩ := h.dp hd 106; exact load_Sp rfl hv0 hV0
    case s21 => refine kr fun _ ac Wd h hd => ?_; obtain ⟨v0, hv0, hV0⟩ := h.dp hd 107; exact index_2b rfl rfl hv0 hV0
    case s22 => refine kr fun _ ac Wd h hd => ?_; obtain ⟨v0, hv0, hV0⟩ := h.dp hd 108; exact load_Zp rfl hv0 hV0
    case s23 =>
      refine kc fun _ ac Wd h hd => ?_
      obtain ⟨v0, hv0, hV0⟩ := h.dp hd 103
      obtain ⟨v1, hv1, hV1⟩ := h.dp hd 109
      exact ⟨#[v0, v1], by simp [hv0, hv1], (cGcd (show Vz 13 (XF j) v0 Wd from hV0) (show Vz 13 (YF j) v1 Wd from hV1) (by omega) (by omega))⟩
    case s26 => refine kr fun _ ac Wd h hd => ?_; obtain ⟨v0, hv0, hV0⟩ := h.dp hd 111; obtain ⟨v1, hv1, hV1⟩ := h.dp hd 112; exact index_6 rfl hv0 hV0 hv1 hV1 hj6
    case s27 => refine kr fun _ ac Wd h hd => ?_; obtain ⟨v0, hv0, hV0⟩ := h.dp hd 113; exact load_Sp rfl hv0 hV0
    case s28 => refine kr fun _ ac Wd h hd => ?_; obtain ⟨v0, hv0, hV0⟩ := h.dp hd 114; exact index_2a rfl rfl hv0 hV0
    case s29 => refine kr fun _ ac Wd h hd => ?_; obtain ⟨v0, hv0, hV0⟩ := h.dp hd 115; exact load_Zp rfl hv0 hV0
    case s32 => refine kr fun _ ac Wd h hd => ?_; obtain ⟨v0, hv0, hV0⟩ := h.dp hd 117; obtain ⟨v1, hv1, hV1⟩ := h.dp hd 118; exact index_6 rfl hv0 hV0 hv1 hV1 hj6
    case s33 => refine kr fun _ ac Wd h hd => ?_; obtain ⟨v0, hv0, hV0⟩ := h.dp hd 119; exact load_Sp rfl hv0 hV0
    case s34 => refine kr fun _ ac Wd h hd => ?_; obtain ⟨v0, hv0, hV0⟩ := h.dp hd 120; exact index_2b rfl rfl hv0 hV0
    case s35 => refine kr fun _ ac Wd h hd => ?_; obtain ⟨v0, hv0, hV0⟩ := h.dp hd 121; exact load_Zp rfl hv0 hV0
    case s36 =>
      refine kc fun _ ac Wd h hd => ?_
      obtain ⟨v0, hv0, hV0⟩ := h.dp hd 116
      obtain ⟨v1, hv1, hV1⟩ := h.dp hd 122
      exact ⟨#[v0, v1], by simp [hv0, hv1], cRGcd (show Vz 13 (XF j) v0 Wd from hV0) (show Vz 13 (YF j) v1 Wd from hV1) (by omega) (by omega)⟩
    case s37 =>
      refine kc fun _ ac Wd h hd => ?_
      obtain ⟨v0, hv0, hV0⟩ := h.dp hd 110
      obtain ⟨v1, hv1, hV1⟩ := h.dp hd 123
      exact ⟨#[v0, v1], by simp [hv0, hv1], cSame (show Vz (max 13 13) ((Int.gcd (XF j) (YF j) : Int)) v0 Wd from hV0) (show Vz 13 ((Int.gcd (XF j) (YF j) : Int)) v1 Wd from hV1) (by omega) (by omega) rfl⟩
    intro a10 w10 st10
    clear st9
    repeat first | refine wp_seq ?_ | refine wp_block ?_ | refine wp_skip ?_ | refine wp_exit ?_
    obtain ⟨vc, hc1, hc2⟩ := st10.slot (126, Vb (false)) (.tail _ (.tail _ (.tail _ (.tail _ (.head _)))))
    refine wp_cond_false (hc1.trans hc2) ?_
    clear hc1 hc2
    repeat first | refine wp_seq ?_ | refine wp_block ?_ | refine wp_skip ?_ | refine wp_exit ?_
    have : Sb [(24, 2, 0)] (VS6 13 XF YF) := ⟨Stab_VS6 _ _ _ (by kernel_rfl) (by kernel_rfl)⟩
    refine rg (BT := [(24, 2, 0)]) (Vl := [Vi (((j : Nat) : Int)), Vi (((j + 1 : Nat) : Int)), Vi (((j + 1 : Nat) : Int))]) (B := [⟨12, none, none, 24, 2, Vz 13 (dq (XF j) (YF j)), VT⟩, ⟨13, none, none, 24, 2, Vz 13 (dr (XF j) (YF j)), VT⟩, ⟨14, none, none, 24, 2, Vz (13 + 1) (dq (XF j) (YF j)), VT⟩, ⟨15, none, none, 24, 2, Vz 13 (dr (XF j) (YF j)), VT⟩]) (SL' := [(6, Vb (false)), (10, VS6 13 XF YF), (52, Vb (true)), (126, Vb (false)), (11, Vi (((j + 1 : Nat) : Int)))]) st10 ⟨?s0, ?s1, ks, trivial⟩ ?_
    case s0 =>
      refine k_run0 SbB.out (by kernel_rfl) fun listed ac Wd h hd hnl => ⟨trivial, ?_⟩
      obtain ⟨v0, hv0, hV0⟩ := h.out0 hnl (11, Vi (((j : Nat) : Int))) (.tail _ (.tail _ (.head _))) 2 (by kernel_rfl) (.inr (by kernel_rfl))
      exact ⟨_, run_move rfl, by rw [hv0]; exact hV0⟩
    case s1 =>
      refine kr fun _ ac Wd h hd => ?_
      obtain ⟨v0, hv0, hV0⟩ := h.dp hd 53
      have hV0' : v0 = .int .i64 (((j : Nat) : Int)) := hV0
      exact ⟨_, run_addi rfl (hv0.trans hV0') rfl (wrap_id (by omega) (by omega)), congrArg (Value.int .i64) (by omega)⟩
    intro a11 w11 st11
    clear st10
    exact ⟨m - 1, by omega, j + 1, by omega, st11.cut⟩
  ·
    repeat first | refine wp_seq ?_ | refine wp_block ?_ | refine wp_skip ?_ | refine wp_exit ?_
    have : Sb [(24, 2, 0)] (VS6 13 XF YF) := ⟨Stab_VS6 _ _ _ (by kernel_rfl) (by kernel_rfl)⟩
    refine rg (BT := [(24, 2, 0)]) (Vl := [Vi (((j : Nat) : Int)), VS6 13 XF YF, Vi (6), Vb (false)]) (B := []) (SL' := [(6, Vb (false)), (10, VS6 13 XF YF), (11, Vi (((j : Nat) : Int))), (52, Vb (false))]) st6 ⟨ks, ks, ?s2, ?s3, trivial⟩ ?_
    case s2 => refine kr fun _ ac Wd h hd => ?_; obtain ⟨v0, hv0, hV0⟩ := h.dp hd 50; exact run_len6 rfl rfl hv0 hV0
    case s3 =>
      refine kr fun _ ac Wd h hd => ?_
      obtain ⟨v0, hv0, hV0⟩ := h.dp hd 49
      have hV0' : v0 = .int .i64 (((j : Nat) : Int)) := hV0
      obtain ⟨v1, hv1, hV1⟩ := h.dp hd 51
      have hV1' : v1 = .int .i64 (6) := hV1
      exact ⟨_, run_lssi rfl (hv0.trans hV0') (hv1.trans hV1'), congrArg Value.bool (decide_eq_false hlt)⟩
    intro a7 w7 st7
    clear st6
    repeat first | refine wp_seq ?_ | refine wp_block ?_ | refine wp_skip ?_ | refine wp_exit ?_
    obtain ⟨vc, hc1, hc2⟩ := st7.slot (52, Vb (false)) (.tail _ (.tail _ (.tail _ (.head _))))
    refine wp_cond_false (hc1.trans hc2) ?_
    clear hc1 hc2
    repeat first | refine wp_seq ?_ | refine wp_block ?_ | refine wp_skip ?_ | refine wp_exit ?_
    have : Sb [(24, 2, 0)] (VS6 13 XF YF) := ⟨Stab_VS6 _ _ _ (by kernel_rfl) (by kernel_rfl)⟩
    refine rg (BT := [(24, 2, 0)]) (Vl := [Vb (true), Vb (true)]) (B := []) (SL' := [(10, VS6 13 XF YF), (11, Vi (((j : Nat) : Int))), (52, Vb (false)), (6, Vb (true))]) st7 ⟨?s0, ks, trivial⟩ ?_
    case s0 => refine kc fun _ ac Wd h hd => ?_; exact ⟨#[], by simp [], cLives hT h.k.below rfl⟩
    intro a8 w8 st8
    clear st7
    repeat first | refine wp_seq ?_ | refine wp_block ?_ | refine wp_skip ?_ | refine wp_exit ?_
    obtain ⟨vr, r1, r4⟩ := st8.slot (6, Vb (true)) (.tail _ (.tail _ (.tail _ (.head _))))
    exact wp_ret (bodyPost_ret (results_tmp rfl _ _ _) st8.defers ⟨_, congrArg Ending.returned (show _ = vr from r1), r4, st8.k.below⟩)
end Go.Proofs.YteaoaoknpihchaaDoor
