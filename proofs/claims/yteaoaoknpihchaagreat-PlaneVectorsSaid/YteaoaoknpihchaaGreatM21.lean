/- Contracts of the package integer and its reference: Vectors and turns of package plane. -/
import Derived.Test.YteaoaoknpihchaaGreatM20
set_option linter.unusedVariables false
namespace Go.Proofs.YteaoaoknpihchaaGreat
open Go.RowKit

set_option maxRecDepth 100000 in
set_option maxHeartbeats 1600000 in
theorem cDot {w : World} {N : Nat} {a b c d : Rat} {v0 v1 : Value} (h0 : Vv N (a) (b) v0 w) (h1 : Vv N (c) (d) v1 w) (hN1 : 1 ≤ N) (hN : N ≤ 4000) : Calls Tryz.prog 18 #[v0, v1] w (RV (Vq (4 * N + 1) (a * c + b * d)) w) := by
  go_enter Tryz.func18, Tryz.ntmps18
  have st0 : St w.heap.size w 17 [] [(0, Vv N (a) (b)), (1, Vv N (c) (d))] _ w := St.begin (a := ⟨#[v0, v1, undef, undef, undef, undef, undef, undef, undef, undef, undef, undef, undef, undef, undef, undef, undef], []⟩) rfl rfl (List.forall_mem_cons.2 ⟨⟨_, rfl, h0⟩, (List.forall_mem_cons.2 ⟨⟨_, rfl, h1⟩, (fun _ h => absurd h (by simp))⟩)⟩)
  generalize (⟨#[v0, v1, undef, undef, undef, undef, undef, undef, undef, undef, undef, undef, undef, undef, undef, undef, undef], []⟩ : Act) = a0 at st0 ⊢
  repeat first | refine wp_seq ?_ | refine wp_block ?_ | refine wp_skip ?_ | refine wp_exit ?_
  refine rg (BT := [(26, 4, 0)]) (Vl := [VT, VT, VT]) (B := [⟨2, some 0, some 0, 28, 8, Vv N (a) (b), VT⟩, ⟨3, some 1, some 1, 28, 8, Vv N (c) (d), VT⟩, ⟨4, some 2, none, 26, 4, VT, VT⟩]) (SL' := []) st0 ⟨ks, ks, ks, trivial⟩ ?_
  intro a1 w1 st1
  clear st0
  repeat first | refine wp_seq ?_ | refine wp_block ?_ | refine wp_skip ?_ | refine wp_exit ?_
  have : Sb [(26, 4, 0)] (VR1 (Vv N (b) (d))) := ⟨Stab_VR1 (Stab_Vv _ _ _) (by kernel_rfl)⟩
  refine rg (BT := [(26, 4, 0)]) (Vl := [Vpt a1 2 0, Vq N (a), Vpt a1 3 0, Vq N (c), Vv N (a) (c), Vpt a1 2 4, Vq N (b), Vpt a1 3 4, Vq N (d), Vv N (b) (d), VR1 (Vv N (b) (d)), Vq (4 * N + 1) ((a) * (c) + (b) * (d)), VT]) (B := [⟨2, none, none, 28, 8, Vv N (a) (b), VT⟩, ⟨3, none, none, 28, 8, Vv N (c) (d), VT⟩, ⟨4, none, some 12, 26, 4, Vq (4 * N + 1) ((a) * (c) + (b) * (d)), VT⟩]) (SL' := []) st1 ⟨ks, ks, ks, ks, ?s4, ks, ks, ks, ks, ?s9, ?s10, ?s11, ks, trivial⟩ ?_
  case s4 =>
    refine kr fun _ ac Wd h hd => ?_
    obtain ⟨v0, hv0, hV0⟩ := h.dp hd 6
    obtain ⟨v1, hv1, hV1⟩ := h.dp hd 8
    exact build_pair rfl hv0 hv1 (AggV_Vq _ _) (AggV_Vq _ _) (show Vq N (a) v0 Wd from hV0) (show Vq N (c) v1 Wd from hV1)
  case s9 =>
    refine kr fun _ ac Wd h hd => ?_
    obtain ⟨v0, hv0, hV0⟩ := h.dp hd 11
    obtain ⟨v1, hv1, hV1⟩ := h.dp hd 13
    exact build_pair rfl hv0 hv1 (AggV_Vq _ _) (AggV_Vq _ _) (show Vq N (b) v0 Wd from hV0) (show Vq N (d) v1 Wd from hV1)
  case s10 => refine km fun _ ac Wd h hd => ?_; obtain ⟨v0, hv0, hV0⟩ := h.dp hd 14; exact bslice_pair rfl hv0 (AggV_Vv _ _ _) (Stab_Vv _ _ _) hV0
  case s11 =>
    refine kc fun _ ac Wd h hd => ?_
    obtain ⟨v0, hv0, hV0⟩ := h.dp hd 9
    obtain ⟨v1, hv1, hV1⟩ := h.dp hd 15
    exact ⟨#[v0, v1], by simp [hv0, hv1], cSumA (show Vv N (a) (c) v0 Wd from hV0) (show VR1 (Vv N (b) (d)) v1 Wd from hV1) (by omega) (by omega)⟩
  intro a2 w2 st2
  clear st1
  repeat first | refine wp_seq ?_ | refine wp_block ?_ | refine wp_skip ?_ | refine wp_exit ?_
  obtain ⟨g, cs, r1, r2, r3, r4, r5⟩ := st2.res ⟨4, none, none, 26, 4, Vq (4 * N + 1) ((a) * (c) + (b) * (d)), VT⟩ (.tail _ (.tail _ (.head _))) rfl rfl
  exact wp_ret (bodyPost_ret (results_cell_row rfl _ _ g 26 cs (0, 0) _ r1 r2 Tryz.underlying26 rfl (by rw [r3]; exact size_Rat)) st2.defers ⟨_, rfl, r4, r5⟩)
set_option maxRecDepth 100000 in
set_option maxHeartbeats 1600000 in
theorem cCross {w : World} {N : Nat} {a b c d : Rat} {v0 v1 : Value} (h0 : Vv N (a) (b) v0 w) (h1 : Vv N (c) (d) v1 w) (hN1 : 1 ≤ N) (hN : N ≤ 4000) : Calls Tryz.prog 20 #[v0, v1] w (RV (Vq (4 * N + 1) (a * d + -b * c)) w) := by
  go_enter Tryz.func20, Tryz.ntmps20
  have st0 : St w.heap.size w 18 [] [(0, Vv N (a) (b)), (1, Vv N (c) (d))] _ w := St.begin (a := ⟨#[v0, v1, undef, undef, undef, undef, undef, undef, undef, undef, undef, undef, undef, undef, undef, undef, undef, undef], []⟩) rfl rfl (List.forall_mem_cons.2 ⟨⟨_, rfl, h0⟩, (List.forall_mem_cons.2 ⟨⟨_, rfl, h1⟩, (fun _ h => absurd h (by simp))⟩)⟩)
  generalize (⟨#[v0, v1, undef, undef, undef, undef, undef, undef, undef, undef, undef, undef, undef, undef, undef, undef, undef, undef], []⟩ : Act) = a0 at st0 ⊢
  repeat first | refine wp_seq ?_ | refine wp_block ?_ | refine wp_skip ?_ | refine wp_exit ?_
  refine rg (BT := [(26, 4, 0)]) (Vl := [VT, VT, VT]) (B := [⟨2, some 0, some 0, 28, 8, Vv N (a) (b), VT⟩, ⟨3, some 1, some 1, 28, 8, Vv N (c) (d), VT⟩, ⟨4, some 2, none, 26, 4, VT, VT⟩]) (SL' := []) st0 ⟨ks, ks, ks, trivial⟩ ?_
  intro a1 w1 st1
  clear st0
  repeat first | refine wp_seq ?_ | refine wp_block ?_ | refine wp_skip ?_ | refine wp_exit ?_
  have : Sb [(26, 4, 0)] (VR1 (Vv N (-(b)) (c))) := ⟨Stab_VR1 (Stab_Vv _ _ _) (by kernel_rfl)⟩
  refine rg (BT := [(26, 4, 0)]) (Vl := [Vpt a1 2 0, Vq N (a), Vpt a1 3 4, Vq N (d), Vv N (a) (d), Vpt a1 2 4, Vq N (b), Vq N (-(b)), Vpt a1 3 0, Vq N (c), Vv N (-(b)) (c), VR1 (Vv N (-(b)) (c)), Vq (4 * N + 1) ((a) * (d) + (-(b)) * (c)), VT]) (B := [⟨2, none, none, 28, 8, Vv N (a) (b), VT⟩, ⟨3, none, none, 28, 8, Vv N (c) (d), VT⟩, ⟨4, none, some 13, 26, 4, Vq (4 * N + 1) ((a) * (d) + (-(b)) * (c)), VT⟩]) (SL' := []) st1 ⟨ks, ks, ks, ks, ?s4, ks, ks, ?s7, ks, ks, ?s10, ?s11, ?s12, ks, trivial⟩ ?_
  case s4 =>
    refine kr fun _ ac Wd h hd => ?_
    obtain ⟨v0, hv0, hV0⟩ := h.dp hd 6
    obtain ⟨v1, hv1, hV1⟩ := h.dp hd 8
    exact build_pair rfl hv0 hv1 (AggV_Vq _ _) (AggV_Vq _ _) (show Vq N (a) v0 Wd from hV0) (show Vq N (d) v1 Wd from hV1)
  case s7 => refine kc fun _ ac Wd h hd => ?_; obtain ⟨v0, hv0, hV0⟩ := h.dp hd 11; exact ⟨#[v0], by simp [hv0], cQNeg (show Vq N (b) v0 Wd from hV0) (by omega)⟩
  case s10 =>
    refine kr fun _ ac Wd h hd => ?_
    obtain ⟨v0, hv0, hV0⟩ := h.dp hd 12
    obtain ⟨v1, hv1, hV1⟩ := h.dp hd 14
    exact build_pair rfl hv0 hv1 (AggV_Vq _ _) (AggV_Vq _ _) (show Vq N (-(b)) v0 Wd from hV0) (show Vq N (c) v1 Wd from hV1)
  case s11 => refine km fun _ ac Wd h hd => ?_; obtain ⟨v0, hv0, hV0⟩ := h.dp hd 15; exact bslice_pair rfl hv0 (AggV_Vv _ _ _) (Stab_Vv _ _ _) hV0
  case s12 =>
    refine kc fun _ ac Wd h hd => ?_
    obtain ⟨v0, hv0, hV0⟩ := h.dp hd 9
    obtain ⟨v1, hv1, hV1⟩ := h.dp hd 16
    exact ⟨#[v0, v1], by simp [hv0, hv1], cSumA (show Vv N (a) (d) v0 Wd from hV0) (show VR1 (Vv N (-(b)) (c)) v1 Wd from hV1) (by omega) (by omega)⟩
  intro a2 w2 st2
  clear st1
  repeat first | refine wp_seq ?_ | refine wp_block ?_ | refine wp_skip ?_ | refine wp_exit ?_
  obtain ⟨g, cs, r1, r2, r3, r4, r5⟩ := st2.res ⟨4, none, none, 26, 4, Vq (4 * N + 1) ((a) * (d) + (-(b)) * (c)), VT⟩ (.tail _ (.tail _ (.head _))) rfl rfl
  exact wp_ret (bodyPost_ret (results_cell_row rfl _ _ g 26 cs (0, 0) _ r1 r2 Tryz.underlying26 rfl (by rw [r3]; exact size_Rat)) st2.defers ⟨_, rfl, r4, r5⟩)
set_option maxRecDepth 100000 in
set_option maxHeartbeats 1600000 in
theorem cVAdd {w : World} {N : Nat} {a b c d : Rat} {v0 v1 : Value} (h0 : Vv N (a) (b) v0 w) (h1 : Vv N (c) (d) v1 w) (hN1 : 1 ≤ N) (hN : N ≤ 4000) : Calls Tryz.prog 11 #[v0, v1] w (RV (Vv (N + N + 1) (a + c) (b + d)) w) := by
  go_enter Tryz.func11, Tryz.ntmps11
  have st0 : St w.heap.size w 16 [] [(0, Vv N (a) (b)), (1, Vv N (c) (d))] _ w := St.begin (a := ⟨#[v0, v1, undef, undef, undef, undef, undef, undef, undef, undef, undef, undef, undef, undef, undef, undef], []⟩) rfl rfl (List.forall_mem_cons.2 ⟨⟨_, rfl, h0⟩, (List.forall_mem_cons.2 ⟨⟨_, rfl, h1⟩, (fun _ h => absurd h (by simp))⟩)⟩)
  generalize (⟨#[v0, v1, undef, undef, undef, undef, undef, undef, undef, undef, undef, undef, undef, undef, undef, undef], []⟩ : Act) = a0 at st0 ⊢
  repeat first | refine wp_seq ?_ | refine wp_block ?_ | refine wp_skip ?_ | refine wp_exit ?_
  refine rg (BT := [(28, 8, 0)]) (Vl := [VT, VT, VT]) (B := [⟨2, some 0, some 0, 28, 8, Vv N (a) (b), VT⟩, ⟨3, some 1, some 1, 28, 8, Vv N (c) (d), VT⟩, ⟨4, some 2, none, 28, 8, VT, VT⟩]) (SL' := []) st0 ⟨ks, ks, ks, trivial⟩ ?_
  intro a1 w1 st1
  clear st0
  repeat first | refine wp_seq ?_ | refine wp_block ?_ | refine wp_skip ?_ | refine wp_exit ?_
  refine rg (BT := [(28, 8, 0)]) (Vl := [Vpt a1 2 0, Vq N (a), Vpt a1 3 0, Vq N (c), Vq (N + N + 1) ((a) + (c)), Vpt a1 2 4, Vq N (b), Vpt a1 3 4, Vq N (d), Vq (N + N + 1) ((b) + (d)), Vv (N + N + 1) ((a) + (c)) ((b) + (d)), VT]) (B := [⟨2, none, none, 28, 8, Vv N (a) (b), VT⟩, ⟨3, none, none, 28, 8, Vv N (c) (d), VT⟩, ⟨4, none, some 11, 28, 8, Vv (N + N + 1) ((a) + (c)) ((b) + (d)), VT⟩]) (SL' := []) st1 ⟨ks, ks, ks, ks, ?s4, ks, ks, ks, ks, ?s9, ?s10, ks, trivial⟩ ?_
  case s4 =>
    refine kc fun _ ac Wd h hd => ?_
    obtain ⟨v0, hv0, hV0⟩ := h.dp hd 6
    obtain ⟨v1, hv1, hV1⟩ := h.dp hd 8
    exact ⟨#[v0, v1], by simp [hv0, hv1], cQAdd (show Vq N (a) v0 Wd from hV0) (show Vq N (c) v1 Wd from hV1) (by omega) (by omega) (by omega) (by omega)⟩
  case s9 =>
    refine kc fun _ ac Wd h hd => ?_
    obtain ⟨v0, hv0, hV0⟩ := h.dp hd 11
    obtain ⟨v1, hv1, hV1⟩ := h.dp hd 13
    exact ⟨#[v0, v1], by simp [hv0, hv1], cQAdd (show Vq N (b) v0 Wd from hV0) (show Vq N (d) v1 Wd from hV1) (by omega) (by omega) (by omega) (by omega)⟩
  case s10 =>
    refine kr fun _ ac Wd h hd => ?_
    obtain ⟨v0, hv0, hV0⟩ := h.dp hd 9
    obtain ⟨v1, hv1, hV1⟩ := h.dp hd 14
    exact build_Vec rfl hv0 hv1 (AggV_Vq _ _) (AggV_Vq _ _) (show Vq (N + N + 1) ((a) + (c)) v0 Wd from hV0) (show Vq (N + N + 1) ((b) + (d)) v1 Wd from hV1)
  intro a2 w2 st2
  clear st1
  repeat first | refine wp_seq ?_ | refine wp_block ?_ | refine wp_skip ?_ | refine wp_exit ?_
  obtain ⟨g, cs, r1, r2, r3, r4, r5⟩ := st2.res ⟨4, none, none, 28, 8, Vv (N + N + 1) ((a) + (c)) ((b) + (d)), VT⟩ (.tail _ (.tail _ (.head _))) rfl rfl
  exact wp_ret (bodyPost_ret (results_cell_row rfl _ _ g 28 cs (0, 0) _ r1 r2 Tryz.underlying28 rfl (by rw [r3]; exact size_Vec)) st2.defers ⟨_, rfl, r4, r5⟩)
set_option maxRecDepth 100000 in
set_option maxHeartbeats 1600000 in
theorem cVSub {w : World} {N : Nat} {a b c d : Rat} {v0 v1 : Value} (h0 : Vv N (a) (b) v0 w) (h1 : Vv N (c) (d) v1 w) (hN1 : 1 ≤ N) (hN : N ≤ 4000) : Calls Tryz.prog 13 #[v0, v1] w (RV (Vv (N + N + 1) (a - c) (b - d)) w) := by
  go_enter Tryz.func13, Tryz.ntmps13
  have st0 : St w.heap.size w 16 [] [(0, Vv N (a) (b)), (1, Vv N (c) (d))] _ w := St.begin (a := ⟨#[v0, v1, undef, undef, undef, undef, undef, undef, undef, undef, undef, undef, undef, undef, undef, undef], []⟩) rfl rfl (List.forall_mem_cons.2 ⟨⟨_, rfl, h0⟩, (List.forall_mem_cons.2 ⟨⟨_, rfl, h1⟩, (fun _ h => absurd h (by simp))⟩)⟩)
  generalize (⟨#[v0, v1, undef, undef, undef, undef, undef, undef, undef, undef, undef, undef, undef, undef, undef, undef], []⟩ : Act) = a0 at st0 ⊢
  repeat first | refine wp_seq ?_ | refine wp_block ?_ | refine wp_skip ?_ | refine wp_exit ?_
  refine rg (BT := [(28, 8, 0)]) (Vl := [VT, VT, VT]) (B := [⟨2, some 0, some 0, 28, 8, Vv N (a) (b), VT⟩, ⟨3, some 1, some 1, 28, 8, Vv N (c) (d), VT⟩, ⟨4, some 2, none, 28, 8, VT, VT⟩]) (SL' := []) st0 ⟨ks, ks, ks, trivial⟩ ?_
  intro a1 w1 st1
  clear st0
  repeat first | refine wp_seq ?_ | refine wp_block ?_ | refine wp_skip ?_ | refine wp_exit ?_
  refine rg (BT := [(28, 8, 0)]) (Vl := [Vpt a1 2 0, Vq N (a), Vpt a1 3 0, Vq N (c), Vq (N + N + 1) ((a) - (c)), Vpt a1 2 4, Vq N (b), Vpt a1 3 4, Vq N (d), Vq (N + N + 1) ((b) - (d)), Vv (N + N + 1) ((a) - (c)) ((b) - (d)), VT]) (B := [⟨2, none, none, 28, 8, Vv N (a) (b), VT⟩, ⟨3, none, none, 28, 8, Vv N (c) (d), VT⟩, ⟨4, none, some 11, 28, 8, Vv (N + N + 1) ((a) - (c)) ((b) - (d)), VT⟩]) (SL' := []) st1 ⟨ks, ks, ks, ks, ?s4, ks, ks, ks, ks, ?s9, ?s10, ks, trivial⟩ ?_
  case s4 =>
    refine kc fun _ ac Wd h hd => ?_
    obtain ⟨v0, hv0, hV0⟩ := h.dp hd 6
    obtain ⟨v1, hv1, hV1⟩ := h.dp hd 8
    exact ⟨#[v0, v1], by simp [hv0, hv1], cQSub (show Vq N (a) v0 Wd from hV0) (show Vq N (c) v1 Wd from hV1) (by omega) (by omega) (by omega) (by omega)⟩
  case s9 =>
    refine kc fun _ ac Wd h hd => ?_
    obtain ⟨v0, hv0, hV0⟩ := h.dp hd 11
    obtain ⟨v1, hv1, hV1⟩ := h.dp hd 13
    exact ⟨#[v0, v1], by simp [hv0, hv1], cQSub (show Vq N (b) v0 Wd from hV0) (show Vq N (d) v1 Wd from hV1) (by omega) (by omega) (by omega) (by omega)⟩
  case s10 =>
    refine kr fun _ ac Wd h hd => ?_
    obtain ⟨v0, hv0, hV0⟩ := h.dp hd 9
    obtain ⟨v1, hv1, hV1⟩ := h.dp hd 14
    exact build_Vec rfl hv0 hv1 (AggV_Vq _ _) (AggV_Vq _ _) (show Vq (N + N + 1) ((a) - (c)) v0 Wd from hV0) (show Vq (N + N + 1) ((b) - (d)) v1 Wd from hV1)
  intro a2 w2 st2
  clear st1
  repeat first | refine wp_seq ?_ | refine wp_block ?_ | refine wp_skip ?_ | refine wp_exit ?_
  obtain ⟨g, cs, r1, r2, r3, r4, r5⟩ := st2.res ⟨4, none, none, 28, 8, Vv (N + N + 1) ((a) - (c)) ((b) - (d)), VT⟩ (.tail _ (.tail _ (.head _))) rfl rfl
  exact wp_ret (bodyPost_ret (results_cell_row rfl _ _ g 28 cs (0, 0) _ r1 r2 Tryz.underlying28 rfl (by rw [r3]; exact size_Vec)) st2.defers ⟨_, rfl, r4, r5⟩)
set_option maxRecDepth 100000 in
set_option maxHeartbeats 1600000 in
theorem cVScale {w : World} {N : Nat} {a b c : Rat} {v0 v1 : Value} (h0 : Vv N (a) (b) v0 w) (h1 : Vq N (c) v1 w) (hN1 : 1 ≤ N) (hN : N ≤ 4000) : Calls Tryz.prog 15 #[v0, v1] w (RV (Vv (N + N) (a * c) (b * c)) w) := by
  go_enter Tryz.func15, Tryz.ntmps15
  have st0 : St w.heap.size w 14 [] [(0, Vv N (a) (b)), (1, Vq N (c))] _ w := St.begin (a := ⟨#[v0, v1, undef, undef, undef, undef, undef, undef, undef, undef, undef, undef, undef, undef], []⟩) rfl rfl (List.forall_mem_cons.2 ⟨⟨_, rfl, h0⟩, (List.forall_mem_cons.2 ⟨⟨_, rfl, h1⟩, (fun _ h => absurd h (by simp))⟩)⟩)
  generalize (⟨#[v0, v1, undef, undef, undef, undef, undef, undef, undef, undef, undef, undef, undef, undef], []⟩ : Act) = a0 at st0 ⊢
  repeat first | refine wp_seq ?_ | refine wp_block ?_ | refine wp_skip ?_ | refine wp_exit ?_
  refine rg (BT := [(28, 8, 0)]) (Vl := [VT, VT, VT]) (B := [⟨2, some 0, some 0, 28, 8, Vv N (a) (b), VT⟩, ⟨3, some 1, some 1, 26, 4, Vq N (c), VT⟩, ⟨4, some 2, none, 28, 8, VT, VT⟩]) (SL' := []) st0 ⟨ks, ks, ks, trivial⟩ ?_
  intro a1 w1 st1
  clear st0
  repeat first | refine wp_seq ?_ | refine wp_block ?_ | refine wp_skip ?_ | refine wp_exit ?_
  refine rg (BT := [(28, 8, 0)]) (Vl := [Vpt a1 2 0, Vq N (a), Vq N (c), Vq (N + N) ((a) * (c)), Vpt a1 2 4, Vq N (b), Vq N (c), Vq (N + N) ((b) * (c)), Vv (N + N) ((a) * (c)) ((b) * (c)), VT]) (B := [⟨2, none, none, 28, 8, Vv N (a) (b), VT⟩, ⟨3, none, none, 26, 4, Vq N (c), VT⟩, ⟨4, none, some 9, 28, 8, Vv (N + N) ((a) * (c)) ((b) * (c)), VT⟩]) (SL' := []) st1 ⟨ks, ks, ks, ?s3, ks, ks, ks, ?s7, ?s8, ks, trivial⟩ ?_
  case s3 =>
    refine kc fun _ ac Wd h hd => ?_
    obtain ⟨v0, hv0, hV0⟩ := h.dp hd 6
    obtain ⟨v1, hv1, hV1⟩ := h.dp hd 7
    exact ⟨#[v0, v1], by simp [hv0, hv1], cQMul (show Vq N (a) v0 Wd from hV0) (show Vq N (c) v1 Wd from hV1) (by omega) (by omega) (by omega) (by omega)⟩
  case s7 =>
    refine kc fun _ ac Wd h hd => ?_
    obtain ⟨v0, hv0, hV0⟩ := h.dp hd 10
    obtain ⟨v1, hv1, hV1⟩ := h.dp hd 11
    exact ⟨#[v0, v1], by simp [hv0, hv1], cQMul (show Vq N (b) v0 Wd from hV0) (show Vq N (c) v1 Wd from hV1) (by omega) (by omega) (by omega) (by omega)⟩
  case s8 =>
    refine kr fun _ ac Wd h hd => ?_
    obtain ⟨v0, hv0, hV0⟩ := h.dp hd 8
    obtain ⟨v1, hv1, hV1⟩ := h.dp hd 12
    exact build_Vec rfl hv0 hv1 (AggV_Vq _ _) (AggV_Vq _ _) (show Vq (N + N) ((a) * (c)) v0 Wd from hV0) (show Vq (N + N) ((b) * (c)) v1 Wd from hV1)
  intro a2 w2 st2
  clear st1
  repeat first | refine wp_seq ?_ | refine wp_block ?_ | refine wp_skip ?_ | refine wp_exit ?_
  obtain ⟨g, cs, r1, r2, r3, r4, r5⟩ := st2.res ⟨4, none, none, 28, 8, Vv (N + N) ((a) * (c)) ((b) * (c)), VT⟩ (.tail _ (.tail _ (.head _))) rfl rfl
  exact wp_ret (bodyPost_ret (results_cell_row rfl _ _ g 28 cs (0, 0) _ r1 r2 Tryz.underlying28 rfl (by rw [r3]; exact size_Vec)) st2.defers ⟨_, rfl, r4, r5⟩)
set_option maxRecDepth 100000 in
set_option maxHeartbeats 1600000 in
theorem cEnd {w : World} {N : Nat} {a b : Rat} {v0 : Value} (h0 : Vv N (a) (b) v0 w)  : Calls Tryz.prog 78 #[v0] w (RV (Vv N a b) w) := by
  go_enter Tryz.func78, Tryz.ntmps78
  have st0 : St w.heap.size w 8 [] [(0, Vv N (a) (b))] _ w := St.begin (a := ⟨#[v0, undef, undef, undef, undef, undef, undef, undef], []⟩) rfl rfl (List.forall_mem_cons.2 ⟨⟨_, rfl, h0⟩, (fun _ h => absurd h (by simp))⟩)
  generalize (⟨#[v0, undef, undef, undef, undef, undef, undef, undef], []⟩ : Act) = a0 at st0 ⊢
  repeat first | refine wp_seq ?_ | refine wp_block ?_ | refine wp_skip ?_ | refine wp_exit ?_
  refine rg (BT := [(28, 8, 0)]) (Vl := [VT, VT]) (B := [⟨1, some 0, some 0, 47, 8, Vv N (a) (b), VT⟩, ⟨2, some 1, none, 28, 8, VT, VT⟩]) (SL' := []) st0 ⟨ks, ks, trivial⟩ ?_
  intro a1 w1 st1
  clear st0
  repeat first | refine wp_seq ?_ | refine wp_block ?_ | refine wp_skip ?_ | refine wp_exit ?_
  refine rg (BT := [(28, 8, 0)]) (Vl := [Vpt a1 1 0, Vq N (a), Vpt a1 1 4, Vq N (b), Vv N (a) (b), VT]) (B := [⟨1, none, none, 47, 8, Vv N (a) (b), VT⟩, ⟨2, none, some 5, 28, 8, Vv N (a) (b), VT⟩]) (SL' := []) st1 ⟨ks, ks, ks, ks, ?s4, ks, trivial⟩ ?_
  case s4 =>
    refine kr fun _ ac Wd h hd => ?_
    obtain ⟨v0, hv0, hV0⟩ := h.dp hd 4
    obtain ⟨v1, hv1, hV1⟩ := h.dp hd 6
    exact build_Vec rfl hv0 hv1 (AggV_Vq _ _) (AggV_Vq _ _) (show Vq N (a) v0 Wd from hV0) (show Vq N (b) v1 Wd from hV1)
  intro a2 w2 st2
  clear st1
  repeat first | refine wp_seq ?_ | refine wp_block ?_ | refine wp_skip ?_ | refine wp_exit ?_
  obtain ⟨g, cs, r1, r2, r3, r4, r5⟩ := st2.res ⟨2, none, none, 28, 8, Vv N (a) (b), VT⟩ (.tail _ (.head _)) rfl rfl
  exact wp_ret (bodyPost_ret (results_cell_row rfl _ _ g 28 cs (0, 0) _ r1 r2 Tryz.underlying28 rfl (by rw [r3]; exact size_Vec)) st2.defers ⟨_, rfl, r4, r5⟩)
set_option maxRecDepth 100000 in
set_option maxHeartbeats 1600000 in
theorem cTurnTo {w : World} {N : Nat} {a b : Rat} {v0 : Value} (h0 : Vv N (a) (b) v0 w)  : Calls Tryz.prog 80 #[v0] w (RV (Vv N a b) w) := by
  go_enter Tryz.func80, Tryz.ntmps80
  have st0 : St w.heap.size w 8 [] [(0, Vv N (a) (b))] _ w := St.begin (a := ⟨#[v0, undef, undef, undef, undef, undef, undef, undef], []⟩) rfl rfl (List.forall_mem_cons.2 ⟨⟨_, rfl, h0⟩, (fun _ h => absurd h (by simp))⟩)
  generalize (⟨#[v0, undef, undef, undef, undef, undef, undef, undef], []⟩ : Act) = a0 at st0 ⊢
  repeat first | refine wp_seq ?_ | refine wp_block ?_ | refine wp_skip ?_ | refine wp_exit ?_
  refine rg (BT := [(47, 8, 0)]) (Vl := [VT, VT]) (B := [⟨1, some 0, some 0, 28, 8, Vv N (a) (b), VT⟩, ⟨2, some 1, none, 47, 8, VT, VT⟩]) (SL' := []) st0 ⟨ks, ks, trivial⟩ ?_
  intro a1 w1 st1
  clear st0
  repeat first | refine wp_seq ?_ | refine wp_block ?_ | refine wp_skip ?_ | refine wp_exit ?_
  refine rg (BT := [(47, 8, 0)]) (Vl := [Vpt a1 1 0, Vq N (a), Vpt a1 1 4, Vq N (b), Vv N (a) (b), VT]) (B := [⟨1, none, none, 28, 8, Vv N (a) (b), VT⟩, ⟨2, none, some 5, 47, 8, Vv N (a) (b), VT⟩]) (SL' := []) st1 ⟨ks, ks, ks, ks, ?s4, ks, trivial⟩ ?_
  case s4 =>
    refine kr fun _ ac Wd h hd => ?_
    obtain ⟨v0, hv0, hV0⟩ := h.dp hd 4
    obtain ⟨v1, hv1, hV1⟩ := h.dp hd 6
    exact build_Turn rfl hv0 hv1 (AggV_Vq _ _) (AggV_Vq _ _) (show Vq N (a) v0 Wd from hV0) (show Vq N (b) v1 Wd from hV1)
  intro a2 w2 st2
  clear st1
  repeat first | refine wp_seq ?_ | refine wp_block ?_ | refine wp_skip ?_ | refine wp_exit ?_
  obtain ⟨g, cs, r1, r2, r3, r4, r5⟩ := st2.res ⟨2, none, none, 47, 8, Vv N (a) (b), VT⟩ (.tail _ (.head _)) rfl rfl
  exact wp_ret (bodyPost_ret (results_cell_row rfl _ _ g 47 cs (0, 0) _ r1 r2 Tryz.underlying47 rfl (by rw [r3]; exact size_Turn)) st2.defers ⟨_, rfl, r4, r5⟩)
set_option maxRecDepth 100000 in
set_option maxHeartbeats 1600000 in
theorem cRotate {w : World} {N : Nat} {a b c d : Rat} {v0 v1 : Value} (h0 : Vv N (a) (b) v0 w) (h1 : Vv N (c) (d) v1 w) (hN1 : 1 ≤ N) (hN : N ≤ 4000) : Calls Tryz.prog 39 #[v0, v1] w (RV (Vv (4 * N + 1) (a * c + -b * d) (b * c + a * d)) w) := by
  go_enter Tryz.func39, Tryz.ntmps39
  have st0 : St w.heap.size w 31 [] [(0, Vv N (a) (b)), (1, Vv N (c) (d))] _ w := St.begin (a := ⟨#[v0, v1, undef, undef, undef, undef, undef, undef, undef, undef, undef, undef, undef, undef, undef, undef, undef, undef, undef, undef, undef, undef, undef, undef, undef, undef, undef, undef, undef, undef, undef], []⟩) rfl rfl (List.forall_mem_cons.2 ⟨⟨_, rfl, h0⟩, (List.forall_mem_cons.2 ⟨⟨_, rfl, h1⟩, (fun _ h => absurd h (by simp))⟩)⟩)
  generalize (⟨#[v0, v1, undef, undef, undef, undef, undef, undef, undef, undef, undef, undef, undef, undef, undef, undef, undef, undef, undef, undef, undef, undef, undef, undef, undef, undef, undef, undef, undef, undef, undef], []⟩ : Act) = a0 at st0 ⊢
  repeat first | refine wp_seq ?_ | refine wp_block ?_ | refine wp_skip ?_ | refine wp_exit ?_
  refine rg (BT := [(28, 8, 0)]) (Vl := [VT, VT, VT]) (B := [⟨2, some 0, some 0, 47, 8, Vv N (a) (b), VT⟩, ⟨3, some 1, some 1, 28, 8, Vv N (c) (d), VT⟩, ⟨4, some 2, none, 28, 8, VT, VT⟩]) (SL' := []) st0 ⟨ks, ks, ks, trivial⟩ ?_
  intro a1 w1 st1
  clear st0
  repeat first | refine wp_seq ?_ | refine wp_block ?_ | refine wp_skip ?_ | refine wp_exit ?_
  have : Sb [(28, 8, 0)] (VR1 (Vv N (-(b)) (d))) := ⟨Stab_VR1 (Stab_Vv _ _ _) (by kernel_rfl)⟩
  have : Sb [(28, 8, 0)] (VR1 (Vv N (a) (d))) := ⟨Stab_VR1 (Stab_Vv _ _ _) (by kernel_rfl)⟩
  refine rg (BT := [(28, 8, 0)]) (Vl := [Vpt a1 2 0, Vq N (a), Vpt a1 3 0, Vq N (c), Vv N (a) (c), Vpt a1 2 4, Vq N (b), Vq N (-(b)), Vpt a1 3 4, Vq N (d), Vv N (-(b)) (d), VR1 (Vv N (-(b)) (d)), Vq (4 * N + 1) ((a) * (c) + (-(b)) * (d)), Vpt a1 2 4, Vq N (b), Vpt a1 3 0, Vq N (c), Vv N (b) (c), Vpt a1 2 0, Vq N (a), Vpt a1 3 4, Vq N (d), Vv N (a) (d), VR1 (Vv N (a) (d)), Vq (4 * N + 1) ((b) * (c) + (a) * (d)), Vv (4 * N + 1) ((a) * (c) + (-(b)) * (d)) ((b) * (c) + (a) * (d)), VT]) (B := [⟨2, none, none, 47, 8, Vv N (a) (b), VT⟩, ⟨3, none, none, 28, 8, Vv N (c) (d), VT⟩, ⟨4, none, some 26, 28, 8, Vv (4 * N + 1) ((a) * (c) + (-(b)) * (d)) ((b) * (c) + (a) * (d)), VT⟩]) (SL' := []) st1 ⟨ks, ks, ks, ks, ?s4, ks, ks, ?s7, ks, ks, ?s10, ?s11, ?s12, ks, ks, ks, ks, ?s17, ks, ks, ks, ks, ?s22, ?s23, ?s24, ?s25, ks, trivial⟩ ?_
  case s4 =>
    refine kr fun _ ac Wd h hd => ?_
    obtain ⟨v0, hv0, hV0⟩ := h.dp hd 6
    obtain ⟨v1, hv1, hV1⟩ := h.dp hd 8
    exact build_pair rfl hv0 hv1 (AggV_Vq _ _) (AggV_Vq _ _) (show Vq N (a) v0 Wd from hV0) (show Vq N (c) v1 Wd from hV1)
  case s7 => refine kc fun _ ac Wd h hd => ?_; obtain ⟨v0, hv0, hV0⟩ := h.dp hd 11; exact ⟨#[v0], by simp [hv0], cQNeg (show Vq N (b) v0 Wd from hV0) (by omega)⟩
  case s10 =>
    refine kr fun _ ac Wd h hd => ?_
    obtain ⟨v0, hv0, hV0⟩ := h.dp hd 12
    obtain ⟨v1, hv1, hV1⟩ := h.dp hd 14
    exact build_pair rfl hv0 hv1 (AggV_Vq _ _) (AggV_Vq _ _) (show Vq N (-(b)) v0 Wd from hV0) (show Vq N (d) v1 Wd from hV1)
  case s11 => refine km fun _ ac Wd h hd => ?_; obtain ⟨v0, hv0, hV0⟩ := h.dp hd 15; exact bslice_pair rfl hv0 (AggV_Vv _ _ _) (Stab_Vv _ _ _) hV0
  case s12 =>
    refine kc fun _ ac Wd h hd => ?_
    obtain ⟨v0, hv0, hV0⟩ := h.dp hd 9
    obtain ⟨v1, hv1, hV1⟩ := h.dp hd 16
    exact ⟨#[v0, v1], by simp [hv0, hv1], cSumA (show Vv N (a) (c) v0 Wd from hV0) (show VR1 (Vv N (-(b)) (d)) v1 Wd from hV1) (by omega) (by omega)⟩
  case s17 =>
    refine kr fun _ ac Wd h hd => ?_
    obtain ⟨v0, hv0, hV0⟩ := h.dp hd 19
    obtain ⟨v1, hv1, hV1⟩ := h.dp hd 21
    exact build_pair rfl hv0 hv1 (AggV_Vq _ _) (AggV_Vq _ _) (show Vq N (b) v0 Wd from hV0) (show Vq N (c) v1 Wd from hV1)
  case s22 =>
    refine kr fun _ ac Wd h hd => ?_
    obtain ⟨v0, hv0, hV0⟩ := h.dp hd 24
    obtain ⟨v1, hv1, hV1⟩ := h.dp hd 26
    exact build_pair rfl hv0 hv1 (AggV_Vq _ _) (AggV_Vq _ _) (show Vq N (a) v0 Wd from hV0) (show Vq N (d) v1 Wd from hV1)
  case s23 => refine km fun _ ac Wd h hd => ?_; obtain ⟨v0, hv0, hV0⟩ := h.dp hd 27; exact bslice_pair rfl hv0 (AggV_Vv _ _ _) (Stab_Vv _ _ _) hV0
  case s24 =>
    refine kc fun _ ac Wd h hd => ?_
    obtain ⟨v0, hv0, hV0⟩ := h.dp hd 22
    obtain ⟨v1, hv1, hV1⟩ := h.dp hd 28
    exact ⟨#[v0, v1], by simp [hv0, hv1], cSumA (show Vv N (b) (c) v0 Wd from hV0) (show VR1 (Vv N (a) (d)) v1 Wd from hV1) (by omega) (by omega)⟩
  case s25 =>
    refine kr fun _ ac Wd h hd => ?_
    obtain ⟨v0, hv0, hV0⟩ := h.dp hd 17
    obtain ⟨v1, hv1, hV1⟩ := h.dp hd 29
    exact build_Vec rfl hv0 hv1 (AggV_Vq _ _) (AggV_Vq _ _) (show Vq (4 * N + 1) ((a) * (c) + (-(b)) * (d)) v0 Wd from hV0) (show Vq (4 * N + 1) ((b) * (c) + (a) * (d)) v1 Wd from hV1)
  intro a2 w2 st2
  clear st1
  repeat first | refine wp_seq ?_ | refine wp_block ?_ | refine wp_skip ?_ | refine wp_exit ?_
  obtain ⟨g, cs, r1, r2, r3, r4, r5⟩ := st2.res ⟨4, none, none, 28, 8, Vv (4 * N + 1) ((a) * (c) + (-(b)) * (d)) ((b) * (c) + (a) * (d)), VT⟩ (.tail _ (.tail _ (.head _))) rfl rfl
  exact wp_ret (bodyPost_ret (results_cell_row rfl _ _ g 28 cs (0, 0) _ r1 r2 Tryz.underlying28 rfl (by rw [r3]; exact size_Vec)) st2.defers ⟨_, rfl, r4, r5⟩)
set_option maxRecDepth 100000 in
set_option maxHeartbeats 1600000 in
theorem cAfter {w : World} {N : Nat} {a b c d : Rat} {v0 v1 : Value} (h0 : Vv N (a) (b) v0 w) (h1 : Vv N (c) (d) v1 w) (hN1 : 1 ≤ N) (hN : N ≤ 4000) : Calls Tryz.prog 41 #[v0, v1] w (RV (Vv (4 * N + 1) (a * c + -b * d) (b * c + a * d)) w) := by
  go_enter Tryz.func41, Tryz.ntmps41
  have st0 : St w.heap.size w 10 [] [(0, Vv N (a) (b)), (1, Vv N (c) (d))] _ w := St.begin (a := ⟨#[v0, v1, undef, undef, undef, undef, undef, undef, undef, undef], []⟩) rfl rfl (List.forall_mem_cons.2 ⟨⟨_, rfl, h0⟩, (List.forall_mem_cons.2 ⟨⟨_, rfl, h1⟩, (fun _ h => absurd h (by simp))⟩)⟩)
  generalize (⟨#[v0, v1, undef, undef, undef, undef, undef, undef, undef, undef], []⟩ : Act) = a0 at st0 ⊢
  repeat first | refine wp_seq ?_ | refine wp_block ?_ | refine wp_skip ?_ | refine wp_exit ?_
  refine rg (BT := [(47, 8, 0)]) (Vl := [VT, VT, VT]) (B := [⟨2, some 0, some 0, 47, 8, Vv N (a) (b), VT⟩, ⟨3, some 1, some 1, 47, 8, Vv N (c) (d), VT⟩, ⟨4, some 2, none, 47, 8, VT, VT⟩]) (SL' := []) st0 ⟨ks, ks, ks, trivial⟩ ?_
  intro a1 w1 st1
  clear st0
  repeat first | refine wp_seq ?_ | refine wp_block ?_ | refine wp_skip ?_ | refine wp_exit ?_
  refine rg (BT := [(47, 8, 0)]) (Vl := [Vv N (a) (b), Vv N (c) (d), Vv N (c) (d), Vv (4 * N + 1) ((a) * (c) + -(b) * (d)) ((b) * (c) + (a) * (d)), Vv (4 * N + 1) ((a) * (c) + -(b) * (d)) ((b) * (c) + (a) * (d)), VT]) (B := [⟨2, none, none, 47, 8, Vv N (a) (b), VT⟩, ⟨3, none, none, 47, 8, Vv N (c) (d), VT⟩, ⟨4, none, some 5, 47, 8, Vv (4 * N + 1) ((a) * (c) + -(b) * (d)) ((b) * (c) + (a) * (d)), VT⟩]) (SL' := []) st1 ⟨ks, ks, ?s2, ?s3, ?s4, ks, trivial⟩ ?_
  case s2 => refine kc fun _ ac Wd h hd => ?_; obtain ⟨v0, hv0, hV0⟩ := h.dp hd 6; exact ⟨#[v0], by simp [hv0], cEnd (show Vv N (c) (d) v0 Wd from hV0)⟩
  case s3 =>
    refine kc fun _ ac Wd h hd => ?_
    obtain ⟨v0, hv0, hV0⟩ := h.dp hd 5
    obtain ⟨v1, hv1, hV1⟩ := h.dp hd 7
    exact ⟨#[v0, v1], by simp [hv0, hv1], cRotate (show Vv N (a) (b) v0 Wd from hV0) (show Vv N (c) (d) v1 Wd from hV1) (by omega) (by omega)⟩
  case s4 => refine kc fun _ ac Wd h hd => ?_; obtain ⟨v0, hv0, hV0⟩ := h.dp hd 8; exact ⟨#[v0], by simp [hv0], cTurnTo (show Vv (4 * N + 1) ((a) * (c) + -(b) * (d)) ((b) * (c) + (a) * (d)) v0 Wd from hV0)⟩
  intro a2 w2 st2
  clear st1
  repeat first | refine wp_seq ?_ | refine wp_block ?_ | refine wp_skip ?_ | refine wp_exit ?_
  obtain ⟨g, cs, r1, r2, r3, r4, r5⟩ := st2.res ⟨4, none, none, 47, 8, Vv (4 * N + 1) ((a) * (c) + -(b) * (d)) ((b) * (c) + (a) * (d)), VT⟩ (.tail _ (.tail _ (.head _))) rfl rfl
  exact wp_ret (bodyPost_ret (results_cell_row rfl _ _ g 47 cs (0, 0) _ r1 r2 Tryz.underlying47 rfl (by rw [r3]; exact size_Turn)) st2.defers ⟨_, rfl, r4, r5⟩)
set_option maxRecDepth 100000 in
set_option maxHeartbeats 1600000 in
theorem cBack {w : World} {N : Nat} {a b : Rat} {v0 : Value} (h0 : Vv N (a) (b) v0 w) (hN : N ≤ 4000) : Calls Tryz.prog 43 #[v0] w (RV (Vv N a (-b)) w) := by
  go_enter Tryz.func43, Tryz.ntmps43
  have st0 : St w.heap.size w 9 [] [(0, Vv N (a) (b))] _ w := St.begin (a := ⟨#[v0, undef, undef, undef, undef, undef, undef, undef, undef], []⟩) rfl rfl (List.forall_mem_cons.2 ⟨⟨_, rfl, h0⟩, (fun _ h => absurd h (by simp))⟩)
  generalize (⟨#[v0, undef, undef, undef, undef, undef, undef, undef, undef], []⟩ : Act) = a0 at st0 ⊢
  repeat first | refine wp_seq ?_ | refine wp_block ?_ | refine wp_skip ?_ | refine wp_exit ?_
  refine rg (BT := [(47, 8, 0)]) (Vl := [VT, VT]) (B := [⟨1, some 0, some 0, 47, 8, Vv N (a) (b), VT⟩, ⟨2, some 1, none, 47, 8, VT, VT⟩]) (SL' := []) st0 ⟨ks, ks, trivial⟩ ?_
  intro a1 w1 st1
  clear st0
  repeat first | refine wp_seq ?_ | refine wp_block ?_ | refine wp_skip ?_ | refine wp_exit ?_
  refine rg (BT := [(47, 8, 0)]) (Vl := [Vpt a1 1 0, Vq N (a), Vpt a1 1 4, Vq N (b), Vq N (-(b)), Vv N (a) (-(b)), VT]) (B := [⟨1, none, none, 47, 8, Vv N (a) (b), VT⟩, ⟨2, none, some 6, 47, 8, Vv N (a) (-(b)), VT⟩]) (SL' := []) st1 ⟨ks, ks, ks, ks, ?s4, ?s5, ks, trivial⟩ ?_
  case s4 => refine kc fun _ ac Wd h hd => ?_; obtain ⟨v0, hv0, hV0⟩ := h.dp hd 6; exact ⟨#[v0], by simp [hv0], cQNeg (show Vq N (b) v0 Wd from hV0) (by omega)⟩
  case s5 =>
    refine kr fun _ ac Wd h hd => ?_
    obtain ⟨v0, hv0, hV0⟩ := h.dp hd 4
    obtain ⟨v1, hv1, hV1⟩ := h.dp hd 7
    exact build_Turn rfl hv0 hv1 (AggV_Vq _ _) (AggV_Vq _ _) (show Vq N (a) v0 Wd from hV0) (show Vq N (-(b)) v1 Wd from hV1)
  intro a2 w2 st2
  clear st1
  repeat first | refine wp_seq ?_ | refine wp_block ?_ | refine wp_skip ?_ | refine wp_exit ?_
  obtain ⟨g, cs, r1, r2, r3, r4, r5⟩ := st2.res ⟨2, none, none, 47, 8, Vv N (a) (-(b)), VT⟩ (.tail _ (.head _)) rfl rfl
  exact wp_ret (bodyPost_ret (results_cell_row rfl _ _ g 47 cs (0, 0) _ r1 r2 Tryz.underlying47 rfl (by rw [r3]; exact size_Turn)) st2.defers ⟨_, rfl, r4, r5⟩)
end Go.Proofs.YteaoaoknpihchaaGreat
