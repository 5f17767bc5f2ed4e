/- rat.Dot of two. -/
import Derived.Deep.LoopGhost
import Derived.Test.YteaoaoknpihchaaGreatQV7a
set_option linter.unusedVariables false
namespace Go.Proofs.YteaoaoknpihchaaGreat
open Go.RowKit

set_option maxRecDepth 100000 in
set_option maxHeartbeats 1600000 in
theorem cDot2 {w : World} {X Y : Nat → Rat} {v0 v1 : Value} (h0 : VAt w (VQ2 3 X) v0 w) (h1 : VAt w (VQ2 3 Y) v1 w)  : Calls Tryz.prog 23 #[v0, v1] w (RV (Vq 15 (0 + X 0 * Y 0 + X 1 * Y 1)) w) := by
  go_enter Tryz.func23, Tryz.ntmps23
  have st0 : St w.heap.size w 34 [] [(0, VAt w (VQ2 3 X)), (1, VAt w (VQ2 3 Y))] _ w := St.begin (a := ⟨#[v0, v1, undef, undef, undef, undef, undef, undef, undef, undef, undef, undef, undef, undef, undef, undef, undef, undef, undef, undef, undef, undef, undef, undef, undef, undef, undef, undef, undef, undef, undef, undef, undef, undef], []⟩) rfl rfl (List.forall_mem_cons.2 ⟨⟨_, rfl, h0⟩, (List.forall_mem_cons.2 ⟨⟨_, rfl, h1⟩, (fun _ h => absurd h (by simp))⟩)⟩)
  generalize (⟨#[v0, v1, undef, undef, undef, undef, undef, undef, undef, undef, undef, undef, undef, undef, undef, undef, undef, undef, undef, undef, undef, undef, undef, undef, undef, undef, undef, undef, undef, undef, undef, undef, undef, undef], []⟩ : Act) = a0 at st0 ⊢
  repeat first | refine wp_seq ?_ | refine wp_block ?_ | refine wp_skip ?_ | refine wp_exit ?_
  refine rg (BT := [(26, 4, 0)]) (Vl := [VT]) (B := [⟨4, some 0, none, 26, 4, VT, VT⟩]) (SL' := [(0, VAt w (VQ2 3 X)), (1, VAt w (VQ2 3 Y))]) st0 ⟨ks, trivial⟩ ?_
  intro a1 w1 st1
  clear st0
  repeat first | refine wp_seq ?_ | refine wp_block ?_ | refine wp_skip ?_ | refine wp_exit ?_
  refine rg (BT := [(26, 4, 0)]) (Vl := [VAt w (VQ2 3 X), Vi (2), VAt w (VQ2 3 Y), Vi (2), Vi (2), Vi (2)]) (B := [⟨4, none, none, 26, 4, VT, VT⟩]) (SL' := [(0, VAt w (VQ2 3 X)), (1, VAt w (VQ2 3 Y)), (5, Vi (2))]) st1 ⟨ks, ?s1, ks, ?s3, ?s4, ks, trivial⟩ ?_
  case s1 => refine kr fun _ ac Wd h hd => ?_; obtain ⟨v0, hv0, hV0⟩ := h.dp hd 8; exact len_Q2 rfl rfl hv0 hV0
  case s3 => refine kr fun _ ac Wd h hd => ?_; obtain ⟨v0, hv0, hV0⟩ := h.dp hd 10; exact len_Q2 rfl rfl hv0 hV0
  case s4 => refine kr fun _ ac Wd h hd => ?_; obtain ⟨v0, hv0, hV0⟩ := h.dp hd 9; obtain ⟨v1, hv1, hV1⟩ := h.dp hd 11; exact min_22 rfl rfl hv0 hv1 hV0 hV1
  intro a2 w2 st2
  clear st1
  repeat first | refine wp_seq ?_ | refine wp_block ?_ | refine wp_skip ?_ | refine wp_exit ?_
  have : Sb [(26, 4, 0)] (VMk2 w.heap.size) := ⟨Stab_VMk2 (by kernel_rfl)⟩
  refine rg (BT := [(26, 4, 0)]) (Vl := [Vi (2), VMk2 w.heap.size, VMk2 w.heap.size]) (B := [⟨4, none, none, 26, 4, VT, VT⟩]) (SL' := [(0, VAt w (VQ2 3 X)), (1, VAt w (VQ2 3 Y)), (5, Vi (2)), (6, VMk2 w.heap.size)]) st2 ⟨ks, ?s1, ks, trivial⟩ ?_
  case s1 => refine km fun _ ac Wd h hd => ?_; obtain ⟨v0, hv0, hV0⟩ := h.dp hd 13; exact mk_Q2 rfl hv0 hV0 h.n
  intro a3 w3 st3
  clear st2
  obtain ⟨v6, he6, ⟨g, hg0, hg6, ⟨cs6, q1, q2, q3, -⟩⟩⟩ := st3.sl (6, VMk2 w.heap.size) (lS_mem rfl)
  replace st3 := st3.reT 6 (VRs g (VQr 6 (fun j => X j * Y j) 0)) he6 ⟨hg6, cs6, q1, q2, q3, ⟨cs6, rfl, fun i hi => by omega⟩⟩
  replace st3 : St w.heap.size w 34 [⟨4, none, none, 26, 4, VT, VT⟩] [(0, VAt w (VQ2 3 X)), (1, VAt w (VQ2 3 Y)), (5, Vi (2)), (6, VRs g (VQr 6 (fun j => X j * Y j) 0))] a3 w3 := st3.cut
  clear he6 hg6 q1 q2 q3
  repeat first | refine wp_seq ?_ | refine wp_block ?_ | refine wp_skip ?_ | refine wp_exit ?_
  have : Sb [(26, 4, 0)] (VRs g (VQr 6 (fun j => X j * Y j) 0)) := ⟨Stab_VRs (Sb.out) (by kernel_rfl)⟩
  refine rg (BT := [(26, 4, 0)]) (Vl := [Vi (2), Vi (0)]) (B := [⟨4, none, none, 26, 4, VT, VT⟩]) (SL' := [(0, VAt w (VQ2 3 X)), (1, VAt w (VQ2 3 Y)), (5, Vi (2)), (6, VRs g (VQr 6 (fun j => X j * Y j) 0)), (15, Vi (2)), (16, Vi (0))]) st3 ⟨ks, ks, trivial⟩ ?_
  intro a4 w4 st4
  clear st3
  replace st4 : St w.heap.size w 34 [⟨4, none, none, 26, 4, VT, VT⟩] [(0, VAt w (VQ2 3 X)), (1, VAt w (VQ2 3 Y)), (5, Vi (2)), (6, VRs g (VQr 6 (fun j => X j * Y j) 0)), (15, Vi (2)), (16, Vi (0))] a4 w4 := st4
  replace st4 : St w.heap.size w 34 [⟨4, none, none, 26, 4, VT, VT⟩] [(0, VAt w (VQ2 3 X)), (1, VAt w (VQ2 3 Y)), (6, VRs g (VQr 6 (fun j => X j * Y j) 0)), (15, Vi (2)), (16, Vi (((0 : Nat) : Int)))] a4 w4 := st4.cut
  repeat first | refine wp_seq ?_ | refine wp_block ?_ | refine wp_skip ?_ | refine wp_exit ?_
  refine wp_loop_ghost (fun m aX wX => ∃ j : Nat, j + m = 2 ∧ St w.heap.size w 34 [⟨4, none, none, 26, 4, VT, VT⟩] [(0, VAt w (VQ2 3 X)), (1, VAt w (VQ2 3 Y)), (6, VRs g (VQr 6 (fun j => X j * Y j) j)), (15, Vi (2)), (16, Vi (((j : Nat) : Int)))] aX wX) 2 ⟨0, by omega, st4⟩ ?_
  clear st4
  intro m aL wL ⟨j, hj, st4⟩
  by_cases hlt : ((j : Nat) : Int) < 2
  ·
    repeat first | refine wp_seq ?_ | refine wp_block ?_ | refine wp_skip ?_ | refine wp_exit ?_
    have : Sb [(26, 4, 0)] (VRs g (VQr 6 (fun j => X j * Y j) j)) := ⟨Stab_VRs (Sb.out) (by kernel_rfl)⟩
    refine rg (BT := [(26, 4, 0)]) (Vl := [Vb (true)]) (B := [⟨4, none, none, 26, 4, VT, VT⟩]) (SL' := [(0, VAt w (VQ2 3 X)), (1, VAt w (VQ2 3 Y)), (6, VRs g (VQr 6 (fun j => X j * Y j) j)), (15, Vi (2)), (16, Vi (((j : Nat) : Int))), (17, Vb (true))]) st4 ⟨?s0, trivial⟩ ?_
    case s0 =>
      refine kr fun _ ac Wd h hd => ?_
      obtain ⟨v0, hv0, hV0⟩ := h.ot 16
      have hV0' : v0 = .int .i64 (((j : Nat) : Int)) := hV0
      obtain ⟨v1, hv1, hV1⟩ := h.ot 15
      have hV1' : v1 = .int .i64 (2) := hV1
      exact ⟨_, run_lssi rfl (hv0.trans hV0') (hv1.trans hV1'), congrArg Value.bool (decide_eq_true hlt)⟩
    intro a5 w5 st5
    clear st4
    repeat first | refine wp_seq ?_ | refine wp_block ?_ | refine wp_skip ?_ | refine wp_exit ?_
    obtain ⟨vc, hc1, hc2⟩ := st5.slot (17, Vb (true)) (.tail _ (.tail _ (.tail _ (.tail _ (.tail _ (.head _))))))
    refine wp_cond_true (hc1.trans hc2) ?_
    clear hc1 hc2
    have hj2 : j < 2 := by omega
    repeat first | refine wp_seq ?_ | refine wp_block ?_ | refine wp_skip ?_ | refine wp_exit ?_
    have : Sb [(26, 4, 0)] (VRs g (VQr 6 (fun j => X j * Y j) j)) := ⟨Stab_VRs (Sb.out) (by kernel_rfl)⟩
    refine rg (BT := [(26, 4, 0)]) (Vl := [Vi (((j : Nat) : Int)), Vi (((j : Nat) : Int))]) (B := [⟨4, none, none, 26, 4, VT, VT⟩]) (SL' := [(0, VAt w (VQ2 3 X)), (1, VAt w (VQ2 3 Y)), (6, VRs g (VQr 6 (fun j => X j * Y j) j)), (15, Vi (2)), (16, Vi (((j : Nat) : Int))), (17, Vb (true)), (7, Vi (((j : Nat) : Int)))]) st5 ⟨ks, ks, trivial⟩ ?_
    intro a6 w6 st6
    clear st5
    obtain ⟨v6, he6, hg6, hrow⟩ := st6.sl (6, VRs g (VQr 6 (fun j => X j * Y j) j)) (lS_mem rfl)
    replace st6 := st6.reT 6 (VEq (.slice (some ⟨g, 0, none⟩) 2 2)) he6 hg6
    replace st6 : St w.heap.size w 34 [⟨4, none, none, 26, 4, VT, VT⟩] [(0, VAt w (VQ2 3 X)), (1, VAt w (VQ2 3 Y)), (6, VEq (.slice (some ⟨g, 0, none⟩) 2 2)), (15, Vi (2)), (16, Vi (((j : Nat) : Int))), (17, Vb (true)), (7, Vi (((j : Nat) : Int)))] a6 w6 := st6.cut
    clear he6 hg6
    repeat first | refine wp_seq ?_ | refine wp_block ?_ | refine wp_skip ?_ | refine wp_exit ?_
    refine rgR (BT := [(26, 4, 0)]) (Vl := [VEq (.slice (some ⟨g, 0, none⟩) 2 2), Vi (((j : Nat) : Int)), VAt w (VQ2 3 X), Vi (((j : Nat) : Int)), VAt w (VQp 3 (X j)), Vq 3 (X j), VAt w (VQ2 3 Y), Vi (((j : Nat) : Int)), VAt w (VQp 3 (Y j)), Vq 3 (Y j), Vq (3 + 3) ((X j) * (Y j)), VEq (.pointer (some ⟨g, 4 * j, none⟩)), VT]) (B := [⟨4, none, none, 26, 4, VT, VT⟩]) (SL' := [(0, VAt w (VQ2 3 X)), (1, VAt w (VQ2 3 Y)), (6, VEq (.slice (some ⟨g, 0, none⟩) 2 2)), (15, Vi (2)), (16, Vi (((j : Nat) : Int))), (17, Vb (true)), (7, Vi (((j : Nat) : Int)))]) ⟨g, 12, 26, 8, VQr 6 (fun j => X j * Y j) (j + 1), VQr 6 (fun j => X j * Y j) j⟩ st6 hrow ⟨fun _ => ks, fun _ => ks, fun _ => ks, fun _ => ks, fun _ => ?s4, fun _ => ?s5, fun _ => ks, fun _ => ks, fun _ => ?s8, fun _ => ?s9, fun _ => ?s10, fun _ => ?s11, fun hne => absurd rfl hne, trivial⟩ ?r12 ?_ (by kernel_rfl) (Nat.le_of_ble_eq_true rfl)
    case s4 => refine kr fun _ ac Wd h hd => ?_; obtain ⟨v0, hv0, hV0⟩ := h.dp hd 21; obtain ⟨v1, hv1, hV1⟩ := h.dp hd 22; exact index_Q2 rfl hv0 hV0 hv1 hV1 hj2
    case s5 => refine kr fun _ ac Wd h hd => ?_; obtain ⟨v0, hv0, hV0⟩ := h.dp hd 23; exact load_Qp rfl hv0 hV0 h.k.below
    case s8 => refine kr fun _ ac Wd h hd => ?_; obtain ⟨v0, hv0, hV0⟩ := h.dp hd 25; obtain ⟨v1, hv1, hV1⟩ := h.dp hd 26; exact index_Q2 rfl hv0 hV0 hv1 hV1 hj2
    case s9 => refine kr fun _ ac Wd h hd => ?_; obtain ⟨v0, hv0, hV0⟩ := h.dp hd 27; exact load_Qp rfl hv0 hV0 h.k.below
    case s10 =>
      refine kc fun _ ac Wd h hd => ?_
      obtain ⟨v0, hv0, hV0⟩ := h.dp hd 24
      obtain ⟨v1, hv1, hV1⟩ := h.dp hd 28
      exact ⟨#[v0, v1], by simp [hv0, hv1], cQMul (show Vq 3 (X j) v0 Wd from hV0) (show Vq 3 (Y j) v1 Wd from hV1) (by omega) (by omega) (by omega) (by omega)⟩
    case s11 => refine kr fun _ ac Wd h hd => ?_; obtain ⟨v0, hv0, hV0⟩ := h.dp hd 19; obtain ⟨v1, hv1, hV1⟩ := h.dp hd 20; exact index_own rfl hv0 hV0 hv1 hV1 hj2
    case r12 => intro o ho; obtain rfl := Option.some.inj ho.symm; exact k_row (A := Vq (3 + 3) (X j * Y j)) rfl rfl rfl rfl hg0 (by kernel_rfl) (by kernel_rfl) (by kernel_rfl) rfl (.inl ⟨by kernel_rfl, rfl, rfl⟩) (by show 4 * j + 4 ≤ 8; omega) (fun cs z w h1 h2 h3 h4 => upd_row h1 h2 hj2 h3 h4) Sb.out trivial
    clear hrow
    intro a7 w7 st7 hrow
    clear st6
    obtain ⟨v6, he6, hg6⟩ := st7.sl (6, VEq (.slice (some ⟨g, 0, none⟩) 2 2)) (lS_mem rfl)
    replace st7 := st7.reT 6 (VRs g (VQr 6 (fun j => X j * Y j) (j + 1))) he6 ⟨hg6, hrow⟩
    replace st7 : St w.heap.size w 34 [⟨4, none, none, 26, 4, VT, VT⟩] [(0, VAt w (VQ2 3 X)), (1, VAt w (VQ2 3 Y)), (6, VRs g (VQr 6 (fun j => X j * Y j) (j + 1))), (15, Vi (2)), (16, Vi (((j : Nat) : Int))), (17, Vb (true)), (7, Vi (((j : Nat) : Int)))] a7 w7 := st7.cut
    clear he6 hg6 hrow
    repeat first | refine wp_seq ?_ | refine wp_block ?_ | refine wp_skip ?_ | refine wp_exit ?_
    have : Sb [(26, 4, 0)] (VRs g (VQr 6 (fun j => X j * Y j) (j + 1))) := ⟨Stab_VRs (Sb.out) (by kernel_rfl)⟩
    refine rg (BT := [(26, 4, 0)]) (Vl := [Vi (((j + 1 : Nat) : Int)), Vi (((j + 1 : Nat) : Int))]) (B := [⟨4, none, none, 26, 4, VT, VT⟩]) (SL' := [(0, VAt w (VQ2 3 X)), (1, VAt w (VQ2 3 Y)), (6, VRs g (VQr 6 (fun j => X j * Y j) (j + 1))), (15, Vi (2)), (17, Vb (true)), (7, Vi (((j : Nat) : Int))), (16, Vi (((j + 1 : Nat) : Int)))]) st7 ⟨?s0, ks, trivial⟩ ?_
    case s0 =>
      refine k_run0 SbB.out (by kernel_rfl) fun listed ac Wd h hd hnl => ⟨trivial, ?_⟩
      obtain ⟨v0, hv0, hV0⟩ := h.out0 hnl (16, Vi (((j : Nat) : Int))) (.tail _ (.tail _ (.tail _ (.tail _ (.head _))))) 1 (by kernel_rfl) (.inr (by kernel_rfl))
      exact ⟨_, run_addi rfl (hv0.trans (show v0 = .int .i64 ((j : Nat) : Int) from hV0)) rfl (wrap_id (by omega) (by omega)), congrArg (Value.int .i64) (by omega)⟩
    intro a8 w8 st8
    clear st7
    exact ⟨m - 1, by omega, j + 1, by omega, st8.cut⟩
  ·
    repeat first | refine wp_seq ?_ | refine wp_block ?_ | refine wp_skip ?_ | refine wp_exit ?_
    have : Sb [(26, 4, 0)] (VRs g (VQr 6 (fun j => X j * Y j) j)) := ⟨Stab_VRs (Sb.out) (by kernel_rfl)⟩
    refine rg (BT := [(26, 4, 0)]) (Vl := [Vb (false)]) (B := [⟨4, none, none, 26, 4, VT, VT⟩]) (SL' := [(0, VAt w (VQ2 3 X)), (1, VAt w (VQ2 3 Y)), (6, VRs g (VQr 6 (fun j => X j * Y j) j)), (15, Vi (2)), (16, Vi (((j : Nat) : Int))), (17, Vb (false))]) st4 ⟨?s0, trivial⟩ ?_
    case s0 =>
      refine kr fun _ ac Wd h hd => ?_
      obtain ⟨v0, hv0, hV0⟩ := h.ot 16
      have hV0' : v0 = .int .i64 (((j : Nat) : Int)) := hV0
      obtain ⟨v1, hv1, hV1⟩ := h.ot 15
      have hV1' : v1 = .int .i64 (2) := hV1
      exact ⟨_, run_lssi rfl (hv0.trans hV0') (hv1.trans hV1'), congrArg Value.bool (decide_eq_false hlt)⟩
    intro a5 w5 st5
    clear st4
    repeat first | refine wp_seq ?_ | refine wp_block ?_ | refine wp_skip ?_ | refine wp_exit ?_
    obtain ⟨vc, hc1, hc2⟩ := st5.slot (17, Vb (false)) (.tail _ (.tail _ (.tail _ (.tail _ (.tail _ (.head _))))))
    refine wp_cond_false (hc1.trans hc2) ?_
    clear hc1 hc2
    have hj2 : j = 2 := by omega
    obtain ⟨v6, he6, hg6, ⟨cs, e1, e2, -, ⟨_, e4, e5⟩⟩⟩ := st5.sl (6, VRs g (VQr 6 (fun j => X j * Y j) j)) (lS_mem rfl)
    cases e4
    replace st5 := st5.reT 6 (VQ2 6 (fun j => X j * Y j)) he6 ⟨g, cs, hg6, e1, e2, fun i hi => e5 i (by omega)⟩
    replace st5 : St w.heap.size w 34 [⟨4, none, none, 26, 4, VT, VT⟩] [(6, VQ2 6 (fun j => X j * Y j))] a5 w5 := st5.cut
    clear he6 hg6 e1 e2 e5
    repeat first | refine wp_seq ?_ | refine wp_block ?_ | refine wp_skip ?_ | refine wp_exit ?_
    have : Sb [(26, 4, 0)] (VQ2 6 (fun j => X j * Y j)) := ⟨Stab_VQ2 (by kernel_rfl)⟩
    refine rg (BT := [(26, 4, 0)]) (Vl := [VQ2 6 (fun j => X j * Y j), Vq 15 (0 + (fun j => X j * Y j) 0 + (fun j => X j * Y j) 1), VT]) (B := [⟨4, none, some 2, 26, 4, Vq 15 (0 + (fun j => X j * Y j) 0 + (fun j => X j * Y j) 1), VT⟩]) (SL' := [(6, VQ2 6 (fun j => X j * Y j))]) st5 ⟨ks, ?s1, ks, trivial⟩ ?_
    case s1 => refine kc fun _ ac Wd h hd => ?_; obtain ⟨v0, hv0, hV0⟩ := h.dp hd 32; exact ⟨#[v0], by simp [hv0], cTotal2 (X := fun j => X j * Y j) (VAt_now (show VQ2 6 (fun j => X j * Y j) v0 Wd from hV0))⟩
    intro a6 w6 st6
    clear st5
    repeat first | refine wp_seq ?_ | refine wp_block ?_ | refine wp_skip ?_ | refine wp_exit ?_
    obtain ⟨g, cs, r1, r2, r3, r4, r5⟩ := st6.res ⟨4, none, none, 26, 4, Vq 15 (0 + (fun j => X j * Y j) 0 + (fun j => X j * Y j) 1), VT⟩ (.head _) rfl rfl
    exact wp_ret (bodyPost_ret (results_cell_row rfl _ _ g 26 cs (0, 0) _ r1 r2 Tryz.underlying26 rfl (by rw [r3]; exact size_Rat)) st6.defers ⟨_, rfl, r4, r5⟩)
end Go.Proofs.YteaoaoknpihchaaGreat
