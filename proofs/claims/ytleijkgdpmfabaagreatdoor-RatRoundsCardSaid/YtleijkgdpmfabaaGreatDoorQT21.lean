/- rat.total. -/
import Derived.Test.YtleijkgdpmfabaaGreatDoorQT20
set_option linter.unusedVariables false
namespace Go.Proofs.YtleijkgdpmfabaaGreatDoor
open Go.RowKit
def smR (X : Nat → Rat) : Nat → Rat
  | 0 => 0
  | j + 1 => smR X j + X j
def VFl (n N : Nat) (X : Nat → Rat) : VP := fun v w => ∃ g cs, v = .slice (some ⟨g, 0, none⟩) n n ∧ w.heap[g]? = some (.cells cs 27 (0, 0)) ∧ cs.size = 4 * n ∧ ∀ i, i < n → Vq N (X i) (.agg (cs.extract (4 * i) (4 * i + 4))) w
section
variable {ρ : Operand → Value} {o : Oper} {W w : World} {x y : Operand} {va vb : Value} {n N : Nat} {X : Nat → Rat}
theorem len_Fl (ho : o.op = .call { callee := .builtin .len, args := #[x], argTypes := #[33] }) (_hty : o.type = 3) (hx : ρ x = va) (h : VAt w (VFl n N X) va W) : ∃ v, (execOp ρ o).run Tryz.prog W = .ok (.value v) W ∧ Vi (n : Int) v W := by
  obtain ⟨g, cs, rfl, -⟩ := h
  refine ⟨.int .i64 (n : Int), ?_, rfl⟩
  obtain ⟨dd, op, ty, ps, af, gd⟩ := o
  subst ho
  simp only at _hty
  subst _hty
  go_simp
theorem index_Fl {j : Nat} (ho : o.op = .indexAddr 33 x y) (hx : ρ x = va) (h : VAt w (VFl n N X) va W) (hy : ρ y = vb) (hb : Vi (j : Int) vb W) (hj : j < n) : ∃ v, (execOp ρ o).run Tryz.prog W = .ok (.value v) W ∧ VAt w (VEp 27 4 (Vq N (X j))) v W := by
  obtain ⟨g, cs, rfl, e2, e3, e4⟩ := h
  obtain rfl : vb = _ := hb
  refine ⟨.pointer (some ⟨g, 4 * j, none⟩), ?_, ⟨g, 4 * j, cs, rfl, e2, by omega, e4 j hj⟩⟩
  have hj2 : (j : Int) < (n : Int) := by omega
  have hm : j * 4 = 4 * j := Nat.mul_comm _ _
  clear e2 e3 e4
  obtain ⟨dd, op, ty, ps, af, gd⟩ := o
  subst ho
  go_simp
end
set_option maxRecDepth 100000 in
set_option maxHeartbeats 1600000 in
theorem cTotalN {w : World} {n : Nat} {X : Nat → Rat} {v0 : Value} (h0 : VAt w (VFl n 12 X) v0 w) (hn : n ≤ 5) : Calls Tryz.prog 96 #[v0] w (RV (Vq 70 (smR X n)) w) := by
  go_enter Tryz.func96, Tryz.ntmps96
  have st0 : St w.heap.size w 18 [] [(0, VAt w (VFl n 12 X))] _ w := St.begin (a := ⟨#[v0, undef, undef, undef, undef, undef, undef, undef, undef, undef, undef, undef, undef, undef, undef, undef, undef, undef], []⟩) rfl rfl (List.forall_mem_cons.2 ⟨⟨_, rfl, h0⟩, (fun _ h => absurd h (by simp))⟩)
  generalize (⟨#[v0, undef, undef, undef, undef, undef, undef, undef, undef, undef, undef, undef, undef, undef, undef, undef, undef, undef], []⟩ : Act) = a0 at st0 ⊢
  repeat first|refine wp_seq ?_|refine wp_block ?_|refine wp_skip ?_|refine wp_exit ?_
  refine rg (BT := [(27, 4, 0)]) (Vl := [VT]) (B := [⟨2, some 0, none, 27, 4, VT, VT⟩]) (SL' := [(0, VAt w (VFl n 12 X))]) st0 ⟨ks, trivial⟩ ?_
  intro a1 w1 st1
  clear st0
  repeat first|refine wp_seq ?_|refine wp_block ?_|refine wp_skip ?_|refine wp_exit ?_
  refine rg (BT := [(27, 4, 0)]) (Vl := [Vq 1 (0), VT, VT]) (B := [⟨2, none, none, 27, 4, VT, VT⟩, ⟨3, some 1, some 2, 27, 4, Vq 1 (0), VT⟩]) (SL' := [(0, VAt w (VFl n 12 X))]) st1 ⟨?s0, ks, ks, trivial⟩ ?_
  case s0 => exact kr fun _ ac Wd h hd => build_Rat0 rfl
  intro a2 w2 st2
  clear st1
  repeat first|refine wp_seq ?_|refine wp_block ?_|refine wp_skip ?_|refine wp_exit ?_
  refine rg (BT := [(27, 4, 0)]) (Vl := [VAt w (VFl n 12 X), Vi (((n : Nat) : Int)), Vi (0)]) (B := [⟨2, none, none, 27, 4, VT, VT⟩, ⟨3, none, none, 27, 4, Vq 1 (0), VT⟩]) (SL' := [(7, VAt w (VFl n 12 X)), (8, Vi (((n : Nat) : Int))), (9, Vi (0))]) st2 ⟨ks, ?s1, ks, trivial⟩ ?_
  case s1 => refine kr fun _ ac Wd h hd => ?_; obtain ⟨v0, hv0, hV0⟩ := h.dp hd 7; exact len_Fl rfl rfl hv0 hV0
  intro a3 w3 st3
  clear st2
  replace st3 : St w.heap.size w 18 [⟨2, none, none, 27, 4, VT, VT⟩, ⟨3, none, none, 27, 4, Vq 1 (0), VT⟩] [(7, VAt w (VFl n 12 X)), (8, Vi (((n : Nat) : Int))), (9, Vi (((0 : Nat) : Int)))] a3 w3 := st3.cut
  repeat first|refine wp_seq ?_|refine wp_block ?_|refine wp_skip ?_|refine wp_exit ?_
  refine wp_loop_ghost (fun m aX wX => ∃ j : Nat, j + m = n ∧ St w.heap.size w 18 [⟨2, none, none, 27, 4, VT, VT⟩, ⟨3, none, none, 27, 4, Vq (j * 13 + 1) (smR X j), VT⟩] [(7, VAt w (VFl n 12 X)), (8, Vi (((n : Nat) : Int))), (9, Vi (((j : Nat) : Int)))] aX wX) n ⟨0, by omega, st3⟩ ?_
  clear st3
  intro m aL wL ⟨j, hj, st3⟩
  by_cases hlt : ((j : Nat) : Int) < ((n : Nat) : Int)
  ·
    repeat first|refine wp_seq ?_|refine wp_block ?_|refine wp_skip ?_|refine wp_exit ?_
    refine rg (BT := [(27, 4, 0)]) (Vl := [Vb (true)]) (B := [⟨2, none, none, 27, 4, VT, VT⟩, ⟨3, none, none, 27, 4, Vq (j * 13 + 1) (smR X j), VT⟩]) (SL' := [(7, VAt w (VFl n 12 X)), (8, Vi (((n : Nat) : Int))), (9, Vi (((j : Nat) : Int))), (10, Vb (true))]) st3 ⟨?s0, trivial⟩ ?_
    case s0 =>
      refine kr fun _ ac Wd h hd => ?_
      obtain ⟨v0, hv0, hV0⟩ := h.ot 9
      have hV0' : v0 = .int .i64 (((j : Nat) : Int)) := hV0
      obtain ⟨v1, hv1, hV1⟩ := h.ot 8
      have hV1' : v1 = .int .i64 (((n : Nat) : Int)) := hV1
      exact ⟨_, run_lssi rfl (hv0.trans hV0') (hv1.trans hV1'), congrArg Value.bool (decide_eq_true hlt)⟩
    intro a4 w4 st4
    clear st3
    repeat first|refine wp_seq ?_|refine wp_block ?_|refine wp_skip ?_|refine wp_exit ?_
    obtain ⟨vc, hc1, hc2⟩ := st4.slot (10, Vb (true)) (.tail _ (.tail _ (.tail _ (.head _))))
    refine wp_cond_true (hc1.trans hc2) ?_
    clear hc1 hc2
    have hj2 : j < n := by omega
    repeat first|refine wp_seq ?_|refine wp_block ?_|refine wp_skip ?_|refine wp_exit ?_
    refine rg (BT := [(27, 4, 0)]) (Vl := [VAt w (VEp 27 4 (Vq 12 (X j))), Vq 12 (X j), VT, VT]) (B := [⟨2, none, none, 27, 4, VT, VT⟩, ⟨3, none, none, 27, 4, Vq (j * 13 + 1) (smR X j), VT⟩, ⟨5, some 2, some 3, 27, 4, Vq 12 (X j), VT⟩]) (SL' := [(7, VAt w (VFl n 12 X)), (8, Vi (((n : Nat) : Int))), (9, Vi (((j : Nat) : Int))), (10, Vb (true))]) st4 ⟨?s0, ?s1, ks, ks, trivial⟩ ?_
    case s0 => refine kr fun _ ac Wd h hd => ?_; obtain ⟨v0, hv0, hV0⟩ := h.ot 7; obtain ⟨v1, hv1, hV1⟩ := h.ot 9; exact index_Fl rfl hv0 hV0 hv1 hV1 hj2
    case s1 => refine kr fun _ ac Wd h hd => ?_; obtain ⟨v0, hv0, hV0⟩ := h.dp hd 11; exact load_Sn rfl hv0 hV0 h.k.below
    intro a5 w5 st5
    clear st4
    repeat first|refine wp_seq ?_|refine wp_block ?_|refine wp_skip ?_|refine wp_exit ?_
    refine rg (BT := [(27, 4, 0)]) (Vl := [Vq (j * 13 + 1) (smR X j), Vq 12 (X j), Vq ((j * 13 + 1) + 12 + 1) ((smR X j) + (X j)), VT]) (B := [⟨2, none, none, 27, 4, VT, VT⟩, ⟨3, none, some 3, 27, 4, Vq ((j * 13 + 1) + 12 + 1) ((smR X j) + (X j)), Vq (j * 13 + 1) (smR X j)⟩, ⟨5, none, none, 27, 4, Vq 12 (X j), VT⟩]) (SL' := [(7, VAt w (VFl n 12 X)), (8, Vi (((n : Nat) : Int))), (9, Vi (((j : Nat) : Int))), (10, Vb (true))]) st5 ⟨ks, ks, ?s2, ks, trivial⟩ ?_
    case s2 =>
      refine kc fun _ ac Wd h hd => ?_
      obtain ⟨v0, hv0, hV0⟩ := h.dp hd 13
      obtain ⟨v1, hv1, hV1⟩ := h.dp hd 14
      exact ⟨#[v0, v1], by simp [hv0, hv1], cQAdd (Na := (j * 13 + 1)) (Nb := 12) (show Vq (j * 13 + 1) (smR X j) v0 Wd from hV0) (show Vq 12 (X j) v1 Wd from hV1) (by omega) (by omega) (by omega) (by omega)⟩
    intro a6 w6 st6
    clear st5
    repeat first|refine wp_seq ?_|refine wp_block ?_|refine wp_skip ?_|refine wp_exit ?_
    refine rg (BT := [(27, 4, 0)]) (Vl := [Vi (((j + 1 : Nat) : Int)), Vi (((j + 1 : Nat) : Int))]) (B := [⟨2, none, none, 27, 4, VT, VT⟩, ⟨3, none, none, 27, 4, Vq ((j * 13 + 1) + 12 + 1) ((smR X j) + (X j)), VT⟩, ⟨5, none, none, 27, 4, Vq 12 (X j), VT⟩]) (SL' := [(7, VAt w (VFl n 12 X)), (8, Vi (((n : Nat) : Int))), (10, Vb (true)), (9, Vi (((j + 1 : Nat) : Int)))]) st6 ⟨?s0, ks, trivial⟩ ?_
    case s0 =>
      refine k_run0 SbB.out (by kernel_rfl) fun listed ac Wd h hd hnl => ⟨trivial, ?_⟩
      obtain ⟨v0, hv0, hV0⟩ := h.out0 hnl (9, Vi (((j : Nat) : Int))) (.tail _ (.tail _ (.head _))) 1 (by kernel_rfl) (.inr (by kernel_rfl))
      exact ⟨_, run_addi rfl (hv0.trans (show v0 = .int .i64 ((j : Nat) : Int) from hV0)) rfl (wrap_id (by omega) (by omega)), congrArg (Value.int .i64) (by omega)⟩
    intro a7 w7 st7
    clear st6
    replace st7 : St w.heap.size w 18 [⟨2, none, none, 27, 4, VT, VT⟩, ⟨3, none, none, 27, 4, Vq ((j * 13 + 1) + 12 + 1) ((smR X j) + (X j)), VT⟩] [(7, VAt w (VFl n 12 X)), (8, Vi (((n : Nat) : Int))), (9, Vi (((j + 1 : Nat) : Int)))] a7 w7 := st7.cut
    exact ⟨m - 1, by omega, j + 1, by omega, st7.weak [⟨2, none, none, 27, 4, VT, VT⟩, ⟨3, none, none, 27, 4, Vq ((j + 1) * 13 + 1) (smR X (j + 1)), VT⟩] (List.forall_mem_cons.2 ⟨⟨_, (.head _), rfl, rfl, rfl, rfl, rfl, rfl, rfl, fun _ _ h => h⟩, (List.forall_mem_cons.2 ⟨⟨_, (.tail _ (.head _)), rfl, rfl, rfl, rfl, rfl, rfl, rfl, fun _ _ h => Vq_le h (by omega)⟩, (fun _ h => absurd h (by simp))⟩)⟩)⟩
  ·
    repeat first|refine wp_seq ?_|refine wp_block ?_|refine wp_skip ?_|refine wp_exit ?_
    refine rg (BT := [(27, 4, 0)]) (Vl := [Vb (false)]) (B := [⟨2, none, none, 27, 4, VT, VT⟩, ⟨3, none, none, 27, 4, Vq (j * 13 + 1) (smR X j), VT⟩]) (SL' := [(7, VAt w (VFl n 12 X)), (8, Vi (((n : Nat) : Int))), (9, Vi (((j : Nat) : Int))), (10, Vb (false))]) st3 ⟨?s0, trivial⟩ ?_
    case s0 =>
      refine kr fun _ ac Wd h hd => ?_
      obtain ⟨v0, hv0, hV0⟩ := h.ot 9
      have hV0' : v0 = .int .i64 (((j : Nat) : Int)) := hV0
      obtain ⟨v1, hv1, hV1⟩ := h.ot 8
      have hV1' : v1 = .int .i64 (((n : Nat) : Int)) := hV1
      exact ⟨_, run_lssi rfl (hv0.trans hV0') (hv1.trans hV1'), congrArg Value.bool (decide_eq_false hlt)⟩
    intro a4 w4 st4
    clear st3
    repeat first|refine wp_seq ?_|refine wp_block ?_|refine wp_skip ?_|refine wp_exit ?_
    obtain ⟨vc, hc1, hc2⟩ := st4.slot (10, Vb (false)) (.tail _ (.tail _ (.tail _ (.head _))))
    refine wp_cond_false (hc1.trans hc2) ?_
    clear hc1 hc2
    have hj2 : j = n := by omega
    repeat first|refine wp_seq ?_|refine wp_block ?_|refine wp_skip ?_|refine wp_exit ?_
    refine rg (BT := [(27, 4, 0)]) (Vl := [Vq (j * 13 + 1) (smR X j), VT]) (B := [⟨2, none, some 1, 27, 4, Vq (j * 13 + 1) (smR X j), VT⟩, ⟨3, none, none, 27, 4, Vq (j * 13 + 1) (smR X j), VT⟩]) (SL' := [(7, VAt w (VFl n 12 X)), (8, Vi (((n : Nat) : Int))), (9, Vi (((j : Nat) : Int))), (10, Vb (false))]) st4 ⟨ks, ks, trivial⟩ ?_
    intro a5 w5 st5
    clear st4
    repeat first|refine wp_seq ?_|refine wp_block ?_|refine wp_skip ?_|refine wp_exit ?_
    obtain ⟨g, cs, r1, r2, r3, r4, r5⟩ := st5.res ⟨2, none, none, 27, 4, Vq (j * 13 + 1) (smR X j), VT⟩ (.head _) rfl rfl
    exact wp_ret (bodyPost_ret (results_cell_row rfl _ _ g 27 cs (0, 0) _ r1 r2 Tryz.underlying27 rfl (by rw [r3]; exact size_Rat)) st5.defers ⟨_, rfl, (by rw [← hj2]; exact Vq_le r4 (by omega)), r5⟩)
end Go.Proofs.YtleijkgdpmfabaaGreatDoor
