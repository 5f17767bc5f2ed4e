/- Contracts of the package integer and its reference: The reference's turns. The reference's Still. Words for the numbers, turns and placements that the laws of package plane are about. -/
import Derived.Test.YteaoaoknpihchaaGreatM30
import Derived.Test.YteaoaoknpihchaaGreatM19
import Derived.Test.YteaoaoknpihchaaGreatM23
set_option linter.unusedVariables false
namespace Go.Proofs.YteaoaoknpihchaaGreat
open Go.RowKit

set_option maxRecDepth 100000 in
set_option maxHeartbeats 1600000 in
theorem cR5TSame {w : World} {N : Nat} {a b c d : Rat} {v0 v1 : Value} (h0 : Vv N (a) (b) v0 w) (h1 : Vv N (c) (d) v1 w) (h3 : 3 ≤ N) (hN : N ≤ 10000) : Calls Tryz.prog 36 #[v0, v1] w (RV (Vb (decide (a = c ∧ b = d))) w) := by
  go_enter Tryz.func36, Tryz.ntmps36
  have st0 : St w.heap.size w 17 [] [(0, Vv N (a) (b)), (1, Vv N (c) (d))] _ w := St.begin (a := ⟨#[v0, v1, undef, undef, undef, undef, undef, undef, undef, undef, undef, undef, undef, undef, undef, undef, undef], []⟩) rfl rfl (List.forall_mem_cons.2 ⟨⟨_, rfl, h0⟩, (List.forall_mem_cons.2 ⟨⟨_, rfl, h1⟩, (fun _ h => absurd h (by simp))⟩)⟩)
  generalize (⟨#[v0, v1, undef, undef, undef, undef, undef, undef, undef, undef, undef, undef, undef, undef, undef, undef, undef], []⟩ : Act) = a0 at st0 ⊢
  repeat first | refine wp_seq ?_ | refine wp_block ?_ | refine wp_skip ?_ | refine wp_exit ?_
  refine rg (BT := []) (Vl := [VT, VT, Vb (false)]) (B := [⟨2, some 0, some 0, 47, 8, Vv N (a) (b), VT⟩, ⟨3, some 1, some 1, 47, 8, Vv N (c) (d), VT⟩]) (SL' := [(4, Vb (false))]) st0 ⟨ks, ks, ks, trivial⟩ ?_
  intro a1 w1 st1
  clear st0
  by_cases hp : a = c
  ·
    repeat first | refine wp_seq ?_ | refine wp_block ?_ | refine wp_skip ?_ | refine wp_exit ?_
    refine rg (BT := []) (Vl := [Vpt a1 2 0, Vq N (a), Vpt a1 3 0, Vq N (c), Vb (true), Vb (true), Vpt a1 2 4, Vq N (b), Vpt a1 3 4, Vq N (d), Vb (decide ((b) = (d))), Vb (decide ((b) = (d))), Vb (decide ((b) = (d)))]) (B := [⟨2, none, none, 47, 8, Vv N (a) (b), VT⟩, ⟨3, none, none, 47, 8, Vv N (c) (d), VT⟩]) (SL' := [(4, Vb (decide ((b) = (d))))]) st1 ⟨ks, ks, ks, ks, ?s4, ks, ks, ks, ks, ks, ?s10, ks, ks, trivial⟩ ?_
    case s4 =>
      refine kc fun _ ac Wd h hd => ?_
      obtain ⟨v0, hv0, hV0⟩ := h.dp hd 6
      obtain ⟨v1, hv1, hV1⟩ := h.dp hd 8
      exact ⟨#[v0, v1], by simp [hv0, hv1], (cR4Same (show Vq N (a) v0 Wd from hV0) (show Vq N (c) v1 Wd from hV1) (by omega)).mono fun e w h => h.le fun v w hv => hv.trans (congrArg Value.bool (decide_eq_true (hp)))⟩
    case s10 =>
      refine kc fun _ ac Wd h hd => ?_
      obtain ⟨v0, hv0, hV0⟩ := h.dp hd 12
      obtain ⟨v1, hv1, hV1⟩ := h.dp hd 14
      exact ⟨#[v0, v1], by simp [hv0, hv1], cR4Same (show Vq N (b) v0 Wd from hV0) (show Vq N (d) v1 Wd from hV1) (by omega)⟩
    intro a2 w2 st2
    clear st1
    repeat first | refine wp_seq ?_ | refine wp_block ?_ | refine wp_skip ?_ | refine wp_exit ?_
    obtain ⟨vr, r1, r4⟩ := st2.slot (4, Vb (decide ((b) = (d)))) (.head _)
    exact wp_ret (bodyPost_ret (results_tmp rfl _ _ _) st2.defers ⟨_, congrArg Ending.returned (show _ = vr from r1), (by rw [show decide (a = c ∧ b = d) = decide (b = d) by simp [hp]]; exact r4), st2.k.below⟩)
  ·
    repeat first | refine wp_seq ?_ | refine wp_block ?_ | refine wp_skip ?_ | refine wp_exit ?_
    refine rg (BT := []) (Vl := [Vpt a1 2 0, Vq N (a), Vpt a1 3 0, Vq N (c), Vb (false), Vb (false), VT, VT, VT, VT, VT, Vb (false), Vb (false)]) (B := [⟨2, none, none, 47, 8, Vv N (a) (b), VT⟩, ⟨3, none, none, 47, 8, Vv N (c) (d), VT⟩]) (SL' := [(4, Vb (false))]) st1 ⟨ks, ks, ks, ks, ?s4, ks, ks, ks, ks, ks, ks, ks, ks, trivial⟩ ?_
    case s4 =>
      refine kc fun _ ac Wd h hd => ?_
      obtain ⟨v0, hv0, hV0⟩ := h.dp hd 6
      obtain ⟨v1, hv1, hV1⟩ := h.dp hd 8
      exact ⟨#[v0, v1], by simp [hv0, hv1], (cR4Same (show Vq N (a) v0 Wd from hV0) (show Vq N (c) v1 Wd from hV1) (by omega)).mono fun e w h => h.le fun v w hv => hv.trans (congrArg Value.bool (decide_eq_false (hp)))⟩
    intro a2 w2 st2
    clear st1
    repeat first | refine wp_seq ?_ | refine wp_block ?_ | refine wp_skip ?_ | refine wp_exit ?_
    obtain ⟨vr, r1, r4⟩ := st2.slot (4, Vb (false)) (.head _)
    exact wp_ret (bodyPost_ret (results_tmp rfl _ _ _) st2.defers ⟨_, congrArg Ending.returned (show _ = vr from r1), (by rw [show decide (a = c ∧ b = d) = false by simp [hp]]; exact r4), st2.k.below⟩)
set_option maxRecDepth 100000 in
set_option maxHeartbeats 1600000 in
theorem cR5Rotate {w : World} {N : Nat} {a b c d : Rat} {v0 v1 : Value} (h0 : Vv N (a) (b) v0 w) (h1 : Vv N (c) (d) v1 w) (h3 : 3 ≤ N) (hN : N ≤ 10000) : Calls Tryz.prog 40 #[v0, v1] w (RV (Vv (4 * N + 1) (a * c - b * d) (b * c + a * d)) w) := by
  go_enter Tryz.func40, Tryz.ntmps40
  have st0 : St w.heap.size w 32 [] [(0, Vv N (a) (b)), (1, Vv N (c) (d))] _ w := St.begin (a := ⟨#[v0, v1, undef, undef, undef, undef, undef, undef, undef, undef, undef, undef, undef, undef, undef, undef, undef, undef, undef, undef, undef, undef, undef, undef, undef, undef, undef, undef, undef, undef, undef, undef], []⟩) rfl rfl (List.forall_mem_cons.2 ⟨⟨_, rfl, h0⟩, (List.forall_mem_cons.2 ⟨⟨_, rfl, h1⟩, (fun _ h => absurd h (by simp))⟩)⟩)
  generalize (⟨#[v0, v1, undef, undef, undef, undef, undef, undef, undef, undef, undef, undef, undef, undef, undef, undef, undef, undef, undef, undef, undef, undef, undef, undef, undef, undef, undef, undef, undef, undef, undef, undef], []⟩ : Act) = a0 at st0 ⊢
  repeat first | refine wp_seq ?_ | refine wp_block ?_ | refine wp_skip ?_ | refine wp_exit ?_
  refine rg (BT := [(26, 4, 0), (28, 8, 0)]) (Vl := [VT, VT, VT]) (B := [⟨2, some 0, some 0, 47, 8, Vv N (a) (b), VT⟩, ⟨3, some 1, some 1, 28, 8, Vv N (c) (d), VT⟩, ⟨4, some 2, none, 28, 8, VT, VT⟩]) (SL' := []) st0 ⟨ks, ks, ks, trivial⟩ ?_
  intro a1 w1 st1
  clear st0
  repeat first | refine wp_seq ?_ | refine wp_block ?_ | refine wp_skip ?_ | refine wp_exit ?_
  refine rg (BT := [(26, 4, 0), (28, 8, 0)]) (Vl := [Vpt a1 2 0, Vq N (a), Vpt a1 3 0, Vq N (c), Vq (N + N) ((a) * (c)), Vpt a1 2 4, Vq N (b), Vpt a1 3 4, Vq N (d), Vq (N + N) ((b) * (d)), Vq ((N + N) + (N + N) + 1) (((a) * (c)) - ((b) * (d))), VT, VT]) (B := [⟨2, none, none, 47, 8, Vv N (a) (b), VT⟩, ⟨3, none, none, 28, 8, Vv N (c) (d), VT⟩, ⟨4, none, none, 28, 8, VT, VT⟩, ⟨5, some 11, some 12, 26, 4, Vq ((N + N) + (N + N) + 1) (((a) * (c)) - ((b) * (d))), VT⟩]) (SL' := []) st1 ⟨ks, ks, ks, ks, ?s4, ks, ks, ks, ks, ?s9, ?s10, ks, ks, trivial⟩ ?_
  case s4 =>
    refine kc fun _ ac Wd h hd => ?_
    obtain ⟨v0, hv0, hV0⟩ := h.dp hd 8
    obtain ⟨v1, hv1, hV1⟩ := h.dp hd 10
    exact ⟨#[v0, v1], by simp [hv0, hv1], cR4Mul (show Vq N (a) v0 Wd from hV0) (show Vq N (c) v1 Wd from hV1) (by omega) (by omega)⟩
  case s9 =>
    refine kc fun _ ac Wd h hd => ?_
    obtain ⟨v0, hv0, hV0⟩ := h.dp hd 13
    obtain ⟨v1, hv1, hV1⟩ := h.dp hd 15
    exact ⟨#[v0, v1], by simp [hv0, hv1], cR4Mul (show Vq N (b) v0 Wd from hV0) (show Vq N (d) v1 Wd from hV1) (by omega) (by omega)⟩
  case s10 =>
    refine kc fun _ ac Wd h hd => ?_
    obtain ⟨v0, hv0, hV0⟩ := h.dp hd 11
    obtain ⟨v1, hv1, hV1⟩ := h.dp hd 16
    exact ⟨#[v0, v1], by simp [hv0, hv1], cR4Sub (show Vq (N + N) ((a) * (c)) v0 Wd from hV0) (show Vq (N + N) ((b) * (d)) v1 Wd from hV1) (by omega) (by omega)⟩
  intro a2 w2 st2
  clear st1
  repeat first | refine wp_seq ?_ | refine wp_block ?_ | refine wp_skip ?_ | refine wp_exit ?_
  refine rg (BT := [(26, 4, 0), (28, 8, 0)]) (Vl := [Vpt a2 2 4, Vq N (b), Vpt a2 3 0, Vq N (c), Vq (N + N) ((b) * (c)), Vpt a2 2 0, Vq N (a), Vpt a2 3 4, Vq N (d), Vq (N + N) ((a) * (d)), Vq ((N + N) + (N + N) + 1) (((b) * (c)) + ((a) * (d))), VT, VT]) (B := [⟨2, none, none, 47, 8, Vv N (a) (b), VT⟩, ⟨3, none, none, 28, 8, Vv N (c) (d), VT⟩, ⟨4, none, none, 28, 8, VT, VT⟩, ⟨5, none, none, 26, 4, Vq ((N + N) + (N + N) + 1) (((a) * (c)) - ((b) * (d))), VT⟩, ⟨6, some 11, some 12, 26, 4, Vq ((N + N) + (N + N) + 1) (((b) * (c)) + ((a) * (d))), VT⟩]) (SL' := []) st2 ⟨ks, ks, ks, ks, ?s4, ks, ks, ks, ks, ?s9, ?s10, ks, ks, trivial⟩ ?_
  case s4 =>
    refine kc fun _ ac Wd h hd => ?_
    obtain ⟨v0, hv0, hV0⟩ := h.dp hd 19
    obtain ⟨v1, hv1, hV1⟩ := h.dp hd 21
    exact ⟨#[v0, v1], by simp [hv0, hv1], cR4Mul (show Vq N (b) v0 Wd from hV0) (show Vq N (c) v1 Wd from hV1) (by omega) (by omega)⟩
  case s9 =>
    refine kc fun _ ac Wd h hd => ?_
    obtain ⟨v0, hv0, hV0⟩ := h.dp hd 24
    obtain ⟨v1, hv1, hV1⟩ := h.dp hd 26
    exact ⟨#[v0, v1], by simp [hv0, hv1], cR4Mul (show Vq N (a) v0 Wd from hV0) (show Vq N (d) v1 Wd from hV1) (by omega) (by omega)⟩
  case s10 =>
    refine kc fun _ ac Wd h hd => ?_
    obtain ⟨v0, hv0, hV0⟩ := h.dp hd 22
    obtain ⟨v1, hv1, hV1⟩ := h.dp hd 27
    exact ⟨#[v0, v1], by simp [hv0, hv1], cR4Add (show Vq (N + N) ((b) * (c)) v0 Wd from hV0) (show Vq (N + N) ((a) * (d)) v1 Wd from hV1) (by omega) (by omega)⟩
  intro a3 w3 st3
  clear st2
  repeat first | refine wp_seq ?_ | refine wp_block ?_ | refine wp_skip ?_ | refine wp_exit ?_
  refine rg (BT := [(26, 4, 0), (28, 8, 0)]) (Vl := [Vq ((N + N) + (N + N) + 1) (((a) * (c)) - ((b) * (d))), Vq ((N + N) + (N + N) + 1) (((b) * (c)) + ((a) * (d))), Vv ((N + N) + (N + N) + 1) (((a) * (c)) - ((b) * (d))) (((b) * (c)) + ((a) * (d))), VT]) (B := [⟨2, none, none, 47, 8, Vv N (a) (b), VT⟩, ⟨3, none, none, 28, 8, Vv N (c) (d), VT⟩, ⟨4, none, some 3, 28, 8, Vv ((N + N) + (N + N) + 1) (((a) * (c)) - ((b) * (d))) (((b) * (c)) + ((a) * (d))), VT⟩, ⟨5, none, none, 26, 4, Vq ((N + N) + (N + N) + 1) (((a) * (c)) - ((b) * (d))), VT⟩, ⟨6, none, none, 26, 4, Vq ((N + N) + (N + N) + 1) (((b) * (c)) + ((a) * (d))), VT⟩]) (SL' := []) st3 ⟨ks, ks, ?s2, ks, trivial⟩ ?_
  case s2 =>
    refine kr fun _ ac Wd h hd => ?_
    obtain ⟨v0, hv0, hV0⟩ := h.dp hd 29
    obtain ⟨v1, hv1, hV1⟩ := h.dp hd 30
    exact build_Vec rfl hv0 hv1 (AggV_Vq _ _) (AggV_Vq _ _) (show Vq ((N + N) + (N + N) + 1) (((a) * (c)) - ((b) * (d))) v0 Wd from hV0) (show Vq ((N + N) + (N + N) + 1) (((b) * (c)) + ((a) * (d))) v1 Wd from hV1)
  intro a4 w4 st4
  clear st3
  repeat first | refine wp_seq ?_ | refine wp_block ?_ | refine wp_skip ?_ | refine wp_exit ?_
  obtain ⟨g, cs, r1, r2, r3, r4, r5⟩ := st4.res ⟨4, none, none, 28, 8, Vv ((N + N) + (N + N) + 1) (((a) * (c)) - ((b) * (d))) (((b) * (c)) + ((a) * (d))), VT⟩ (.tail _ (.tail _ (.head _))) rfl rfl
  exact wp_ret (bodyPost_ret (results_cell_row rfl _ _ g 28 cs (0, 0) _ r1 r2 Tryz.underlying28 rfl (by rw [r3]; exact size_Vec)) st4.defers ⟨_, rfl, Vv_le r4 (by omega), r5⟩)
set_option maxRecDepth 100000 in
set_option maxHeartbeats 1600000 in
theorem cR5After {w : World} {N : Nat} {a b c d : Rat} {v0 v1 : Value} (h0 : Vv N (a) (b) v0 w) (h1 : Vv N (c) (d) v1 w) (h3 : 3 ≤ N) (hN : N ≤ 10000) : Calls Tryz.prog 42 #[v0, v1] w (RV (Vv (4 * N + 1) (a * c - b * d) (b * c + a * d)) w) := by
  go_enter Tryz.func42, Tryz.ntmps42
  have st0 : St w.heap.size w 32 [] [(0, Vv N (a) (b)), (1, Vv N (c) (d))] _ w := St.begin (a := ⟨#[v0, v1, undef, undef, undef, undef, undef, undef, undef, undef, undef, undef, undef, undef, undef, undef, undef, undef, undef, undef, undef, undef, undef, undef, undef, undef, undef, undef, undef, undef, undef, undef], []⟩) rfl rfl (List.forall_mem_cons.2 ⟨⟨_, rfl, h0⟩, (List.forall_mem_cons.2 ⟨⟨_, rfl, h1⟩, (fun _ h => absurd h (by simp))⟩)⟩)
  generalize (⟨#[v0, v1, undef, undef, undef, undef, undef, undef, undef, undef, undef, undef, undef, undef, undef, undef, undef, undef, undef, undef, undef, undef, undef, undef, undef, undef, undef, undef, undef, undef, undef, undef], []⟩ : Act) = a0 at st0 ⊢
  repeat first | refine wp_seq ?_ | refine wp_block ?_ | refine wp_skip ?_ | refine wp_exit ?_
  refine rg (BT := [(26, 4, 0), (47, 8, 0)]) (Vl := [VT, VT, VT]) (B := [⟨2, some 0, some 0, 47, 8, Vv N (a) (b), VT⟩, ⟨3, some 1, some 1, 47, 8, Vv N (c) (d), VT⟩, ⟨4, some 2, none, 47, 8, VT, VT⟩]) (SL' := []) st0 ⟨ks, ks, ks, trivial⟩ ?_
  intro a1 w1 st1
  clear st0
  repeat first | refine wp_seq ?_ | refine wp_block ?_ | refine wp_skip ?_ | refine wp_exit ?_
  refine rg (BT := [(26, 4, 0), (47, 8, 0)]) (Vl := [Vpt a1 2 0, Vq N (a), Vpt a1 3 0, Vq N (c), Vq (N + N) ((a) * (c)), Vpt a1 2 4, Vq N (b), Vpt a1 3 4, Vq N (d), Vq (N + N) ((b) * (d)), Vq ((N + N) + (N + N) + 1) (((a) * (c)) - ((b) * (d))), VT, VT]) (B := [⟨2, none, none, 47, 8, Vv N (a) (b), VT⟩, ⟨3, none, none, 47, 8, Vv N (c) (d), VT⟩, ⟨4, none, none, 47, 8, VT, VT⟩, ⟨5, some 11, some 12, 26, 4, Vq ((N + N) + (N + N) + 1) (((a) * (c)) - ((b) * (d))), VT⟩]) (SL' := []) st1 ⟨ks, ks, ks, ks, ?s4, ks, ks, ks, ks, ?s9, ?s10, ks, ks, trivial⟩ ?_
  case s4 =>
    refine kc fun _ ac Wd h hd => ?_
    obtain ⟨v0, hv0, hV0⟩ := h.dp hd 8
    obtain ⟨v1, hv1, hV1⟩ := h.dp hd 10
    exact ⟨#[v0, v1], by simp [hv0, hv1], cR4Mul (show Vq N (a) v0 Wd from hV0) (show Vq N (c) v1 Wd from hV1) (by omega) (by omega)⟩
  case s9 =>
    refine kc fun _ ac Wd h hd => ?_
    obtain ⟨v0, hv0, hV0⟩ := h.dp hd 13
    obtain ⟨v1, hv1, hV1⟩ := h.dp hd 15
    exact ⟨#[v0, v1], by simp [hv0, hv1], cR4Mul (show Vq N (b) v0 Wd from hV0) (show Vq N (d) v1 Wd from hV1) (by omega) (by omega)⟩
  case s10 =>
    refine kc fun _ ac Wd h hd => ?_
    obtain ⟨v0, hv0, hV0⟩ := h.dp hd 11
    obtain ⟨v1, hv1, hV1⟩ := h.dp hd 16
    exact ⟨#[v0, v1], by simp [hv0, hv1], cR4Sub (show Vq (N + N) ((a) * (c)) v0 Wd from hV0) (show Vq (N + N) ((b) * (d)) v1 Wd from hV1) (by omega) (by omega)⟩
  intro a2 w2 st2
  clear st1
  repeat first | refine wp_seq ?_ | refine wp_block ?_ | refine wp_skip ?_ | refine wp_exit ?_
  refine rg (BT := [(26, 4, 0), (47, 8, 0)]) (Vl := [Vpt a2 2 4, Vq N (b), Vpt a2 3 0, Vq N (c), Vq (N + N) ((b) * (c)), Vpt a2 2 0, Vq N (a), Vpt a2 3 4, Vq N (d), Vq (N + N) ((a) * (d)), Vq ((N + N) + (N + N) + 1) (((b) * (c)) + ((a) * (d))), VT, VT]) (B := [⟨2, none, none, 47, 8, Vv N (a) (b), VT⟩, ⟨3, none, none, 47, 8, Vv N (c) (d), VT⟩, ⟨4, none, none, 47, 8, VT, VT⟩, ⟨5, none, none, 26, 4, Vq ((N + N) + (N + N) + 1) (((a) * (c)) - ((b) * (d))), VT⟩, ⟨6, some 11, some 12, 26, 4, Vq ((N + N) + (N + N) + 1) (((b) * (c)) + ((a) * (d))), VT⟩]) (SL' := []) st2 ⟨ks, ks, ks, ks, ?s4, ks, ks, ks, ks, ?s9, ?s10, ks, ks, trivial⟩ ?_
  case s4 =>
    refine kc fun _ ac Wd h hd => ?_
    obtain ⟨v0, hv0, hV0⟩ := h.dp hd 19
    obtain ⟨v1, hv1, hV1⟩ := h.dp hd 21
    exact ⟨#[v0, v1], by simp [hv0, hv1], cR4Mul (show Vq N (b) v0 Wd from hV0) (show Vq N (c) v1 Wd from hV1) (by omega) (by omega)⟩
  case s9 =>
    refine kc fun _ ac Wd h hd => ?_
    obtain ⟨v0, hv0, hV0⟩ := h.dp hd 24
    obtain ⟨v1, hv1, hV1⟩ := h.dp hd 26
    exact ⟨#[v0, v1], by simp [hv0, hv1], cR4Mul (show Vq N (a) v0 Wd from hV0) (show Vq N (d) v1 Wd from hV1) (by omega) (by omega)⟩
  case s10 =>
    refine kc fun _ ac Wd h hd => ?_
    obtain ⟨v0, hv0, hV0⟩ := h.dp hd 22
    obtain ⟨v1, hv1, hV1⟩ := h.dp hd 27
    exact ⟨#[v0, v1], by simp [hv0, hv1], cR4Add (show Vq (N + N) ((b) * (c)) v0 Wd from hV0) (show Vq (N + N) ((a) * (d)) v1 Wd from hV1) (by omega) (by omega)⟩
  intro a3 w3 st3
  clear st2
  repeat first | refine wp_seq ?_ | refine wp_block ?_ | refine wp_skip ?_ | refine wp_exit ?_
  refine rg (BT := [(26, 4, 0), (47, 8, 0)]) (Vl := [Vq ((N + N) + (N + N) + 1) (((a) * (c)) - ((b) * (d))), Vq ((N + N) + (N + N) + 1) (((b) * (c)) + ((a) * (d))), Vv ((N + N) + (N + N) + 1) (((a) * (c)) - ((b) * (d))) (((b) * (c)) + ((a) * (d))), VT]) (B := [⟨2, none, none, 47, 8, Vv N (a) (b), VT⟩, ⟨3, none, none, 47, 8, Vv N (c) (d), VT⟩, ⟨4, none, some 3, 47, 8, Vv ((N + N) + (N + N) + 1) (((a) * (c)) - ((b) * (d))) (((b) * (c)) + ((a) * (d))), VT⟩, ⟨5, none, none, 26, 4, Vq ((N + N) + (N + N) + 1) (((a) * (c)) - ((b) * (d))), VT⟩, ⟨6, none, none, 26, 4, Vq ((N + N) + (N + N) + 1) (((b) * (c)) + ((a) * (d))), VT⟩]) (SL' := []) st3 ⟨ks, ks, ?s2, ks, trivial⟩ ?_
  case s2 =>
    refine kr fun _ ac Wd h hd => ?_
    obtain ⟨v0, hv0, hV0⟩ := h.dp hd 29
    obtain ⟨v1, hv1, hV1⟩ := h.dp hd 30
    exact build_Turn rfl hv0 hv1 (AggV_Vq _ _) (AggV_Vq _ _) (show Vq ((N + N) + (N + N) + 1) (((a) * (c)) - ((b) * (d))) v0 Wd from hV0) (show Vq ((N + N) + (N + N) + 1) (((b) * (c)) + ((a) * (d))) v1 Wd from hV1)
  intro a4 w4 st4
  clear st3
  repeat first | refine wp_seq ?_ | refine wp_block ?_ | refine wp_skip ?_ | refine wp_exit ?_
  obtain ⟨g, cs, r1, r2, r3, r4, r5⟩ := st4.res ⟨4, none, none, 47, 8, Vv ((N + N) + (N + N) + 1) (((a) * (c)) - ((b) * (d))) (((b) * (c)) + ((a) * (d))), VT⟩ (.tail _ (.tail _ (.head _))) rfl rfl
  exact wp_ret (bodyPost_ret (results_cell_row rfl _ _ g 47 cs (0, 0) _ r1 r2 Tryz.underlying47 rfl (by rw [r3]; exact size_Turn)) st4.defers ⟨_, rfl, Vv_le r4 (by omega), r5⟩)
set_option maxRecDepth 100000 in
set_option maxHeartbeats 1600000 in
theorem cR5Back {w : World} {N : Nat} {a b : Rat} {v0 : Value} (h0 : Vv N (a) (b) v0 w) (hN : N ≤ 10000) : Calls Tryz.prog 44 #[v0] w (RV (Vv N a (-b)) w) := by
  go_enter Tryz.func44, Tryz.ntmps44
  have st0 : St w.heap.size w 9 [] [(0, Vv N (a) (b))] _ w := St.begin (a := ⟨#[v0, undef, undef, undef, undef, undef, undef, undef, undef], []⟩) rfl rfl (List.forall_mem_cons.2 ⟨⟨_, rfl, h0⟩, (fun _ h => absurd h (by simp))⟩)
  generalize (⟨#[v0, undef, undef, undef, undef, undef, undef, undef, undef], []⟩ : Act) = a0 at st0 ⊢
  repeat first | refine wp_seq ?_ | refine wp_block ?_ | refine wp_skip ?_ | refine wp_exit ?_
  refine rg (BT := [(47, 8, 0)]) (Vl := [VT, VT]) (B := [⟨1, some 0, some 0, 47, 8, Vv N (a) (b), VT⟩, ⟨2, some 1, none, 47, 8, VT, VT⟩]) (SL' := []) st0 ⟨ks, ks, trivial⟩ ?_
  intro a1 w1 st1
  clear st0
  repeat first | refine wp_seq ?_ | refine wp_block ?_ | refine wp_skip ?_ | refine wp_exit ?_
  refine rg (BT := [(47, 8, 0)]) (Vl := [Vpt a1 1 0, Vq N (a), Vpt a1 1 4, Vq N (b), Vq N (-(b)), Vv N (a) (-(b)), VT]) (B := [⟨1, none, none, 47, 8, Vv N (a) (b), VT⟩, ⟨2, none, some 6, 47, 8, Vv N (a) (-(b)), VT⟩]) (SL' := []) st1 ⟨ks, ks, ks, ks, ?s4, ?s5, ks, trivial⟩ ?_
  case s4 => refine kc fun _ ac Wd h hd => ?_; obtain ⟨v0, hv0, hV0⟩ := h.dp hd 6; exact ⟨#[v0], by simp [hv0], cR4Neg (show Vq N (b) v0 Wd from hV0) (by omega)⟩
  case s5 =>
    refine kr fun _ ac Wd h hd => ?_
    obtain ⟨v0, hv0, hV0⟩ := h.dp hd 4
    obtain ⟨v1, hv1, hV1⟩ := h.dp hd 7
    exact build_Turn rfl hv0 hv1 (AggV_Vq _ _) (AggV_Vq _ _) (show Vq N (a) v0 Wd from hV0) (show Vq N (-(b)) v1 Wd from hV1)
  intro a2 w2 st2
  clear st1
  repeat first | refine wp_seq ?_ | refine wp_block ?_ | refine wp_skip ?_ | refine wp_exit ?_
  obtain ⟨g, cs, r1, r2, r3, r4, r5⟩ := st2.res ⟨2, none, none, 47, 8, Vv N (a) (-(b)), VT⟩ (.tail _ (.head _)) rfl rfl
  exact wp_ret (bodyPost_ret (results_cell_row rfl _ _ g 47 cs (0, 0) _ r1 r2 Tryz.underlying47 rfl (by rw [r3]; exact size_Turn)) st2.defers ⟨_, rfl, r4, r5⟩)
end Go.Proofs.YteaoaoknpihchaaGreat

namespace Go.Proofs.YteaoaoknpihchaaGreat
open Go.RowKit

theorem build_Turn1 {ρ : Operand → Value} {o : Oper} {W : World} {x : Operand} {va : Value} {q : Rat} {N : Nat} (ho : o.op = .build 47 #[(0, x)]) (hx : ρ x = va) (h1 : Vq N q va W) : ∃ v, (execOp ρ o).run Tryz.prog W = .ok (.value v) W ∧ Vv N q 0 v W := by
  obtain ⟨cx, rfl, e1, -⟩ := AggV_Vq _ _ _ _ h1
  obtain ⟨a, b, c, d, rfl⟩ := arr4 e1
  have hz : Vq N 0 (.agg (#[.bool false, .slice none 0 0] ++ #[.bool false, .slice none 0 0])) W := ⟨_, _, rfl, rfl, rfl, ⟨_, _, _, _, rfl, IntAt_zero _ _ _ (by omega), by omega⟩, ⟨_, _, _, _, rfl, IntAt_zero _ _ _ (by omega), by omega⟩⟩
  refine ⟨.agg (#[a, b, c, d] ++ (#[.bool false, .slice none 0 0] ++ #[.bool false, .slice none 0 0])), ?_, ⟨_, _, rfl, rfl, rfl, h1, hz⟩⟩
  obtain ⟨dd, op, ty, ps, af, gd⟩ := o
  subst ho
  go_simp

set_option maxRecDepth 100000 in
set_option maxHeartbeats 1600000 in
theorem cR5Still {w : World}     : Calls Tryz.prog 38 #[] w (RV (Vv 3 (Rat.divInt 1 1) 0) w) := by
  go_enter Tryz.func38, Tryz.ntmps38
  have st0 : St w.heap.size w 3 [] [] _ w := St.begin (a := ⟨#[undef, undef, undef], []⟩) rfl rfl (fun _ h => absurd h (by simp))
  generalize (⟨#[undef, undef, undef], []⟩ : Act) = a0 at st0 ⊢
  repeat first | refine wp_seq ?_ | refine wp_block ?_ | refine wp_skip ?_ | refine wp_exit ?_
  refine rg (BT := [(47, 8, 0)]) (Vl := [VT]) (B := [⟨0, some 0, none, 47, 8, VT, VT⟩]) (SL' := []) st0 ⟨ks, trivial⟩ ?_
  intro a1 w1 st1
  clear st0
  repeat first | refine wp_seq ?_ | refine wp_block ?_ | refine wp_skip ?_ | refine wp_exit ?_
  refine rg (BT := [(47, 8, 0)]) (Vl := [Vq 3 (Rat.divInt (1) (1)), Vv 3 (Rat.divInt (1) (1)) (0), VT]) (B := [⟨0, none, some 2, 47, 8, Vv 3 (Rat.divInt (1) (1)) (0), VT⟩]) (SL' := []) st1 ⟨?s0, ?s1, ks, trivial⟩ ?_
  case s0 =>
    refine kc fun _ ac Wd h hd => ?_
    exact ⟨#[.int .i64 (1), .int .i64 (1)], by simp [eval_const], cR4Of (show Vi (1) (.int .i64 (1)) Wd from rfl) (show Vi (1) (.int .i64 (1)) Wd from rfl) (by omega) (by omega) (by omega) (by omega)⟩
  case s1 => refine kr fun _ ac Wd h hd => ?_; obtain ⟨v0, hv0, hV0⟩ := h.dp hd 1; exact build_Turn1 rfl hv0 hV0
  intro a2 w2 st2
  clear st1
  repeat first | refine wp_seq ?_ | refine wp_block ?_ | refine wp_skip ?_ | refine wp_exit ?_
  obtain ⟨g, cs, r1, r2, r3, r4, r5⟩ := st2.res ⟨0, none, none, 47, 8, Vv 3 (Rat.divInt (1) (1)) (0), VT⟩ (.head _) rfl rfl
  exact wp_ret (bodyPost_ret (results_cell_row rfl _ _ g 47 cs (0, 0) _ r1 r2 Tryz.underlying47 rfl (by rw [r3]; exact size_Turn)) st2.defers ⟨_, rfl, r4, r5⟩)
end Go.Proofs.YteaoaoknpihchaaGreat

namespace Go.Proofs.YteaoaoknpihchaaGreat
open Go.RowKit
variable {BT : List (TypeId × Nat × Nat)}

section
variable {P : Program} {md : Region.Mode} {ops : Array Oper} {Q : Exit → Act → World → Prop} {a0 : Act} {V : Nat → VP} {n0 : Nat} {w0 : World} {B : List Bd} {SL : List (Nat × VP)}
/-- a part of a box, ahead of the store into it -/
theorem k_part0 {i : Nat} {o : Oper} {b : Bd} {d : TypeDesc} {T : TypeId} {s j off k kk : Nat} (hBP : ∀ b ∈ B, b.stab BT) (hq : quietB B i o.dst = true) (hb : b ∈ B) (ho : o.op = .load T (.tmp s)) (hon : b.ia = none) (hok : b.ik = some kk) (hkk : (match ops[kk]? with | some o => o.after.any (fun e => e.on == i && Region.binds md e) | none => false) = true) (hj : o.after.any (fun e => e.on == j && Region.binds md e) = true) (hdst : (ops[j]?).bind (·.dst) = some s) (hVj : V j = Vpt a0 b.t off)
    (hbt : ops.all (fun o => o.dst != some b.t) = true) (hk : off + k ≤ b.m) (hV : ∀ cs w, b.P0 (.agg cs) w → V i (.agg (cs.extract off (off + k))) w)
    (hu : P.underlying T = some d) (hdd : aggT d = true) (hi : (P.info? T).map (·.size) = some k) (H : Ask md ops a0 V n0 w0 B SL o fun _ _ _ => True) : KStep BT P md ops Q a0 V n0 w0 B SL i o := by
  intro listed a w h hd _ _ hnl K hK
  obtain ⟨hg, -⟩ := H listed a w h hd
  rw [if_pos (wanted_of hg)]
  obtain ⟨g, cs, e1, e2, e3, e4, e5, -, e7⟩ := h.k.ok b hb (by rw [hon]; rfl)
  have hP := e7 hon (by rw [hok]; exact h.not_yet hnl hkk)
  obtain ⟨v, hv, -, hVv⟩ := h.dep hd j s hj hdst
  rw [hVj] at hVv
  obtain ⟨g', f1, rfl⟩ := hVv
  have ho1 := h.other b.t fun i o ho => by
    rw [Array.all_eq_true'] at hbt
    have := hbt o (Array.mem_of_getElem? ho)
    simpa using this
  rw [e1, f1] at ho1
  simp at ho1
  subst ho1
  unfold Oper.wp execOp
  simp only [ho, hv, Instr.loadAt, Instr.sureAddr, Sem.run_bind, Sem.run_pure, Result.andThen_ok, run_loadVar_part w g off k b.T T cs (0, 0) d e3 (by omega) hu hdd hi]
  exact hK _ w (h.k.quiet hq hBP h.n (Below.refl _ _)) (RI.refl w) (hV _ _ hP)
end
/-- a number of the reference -/
def numQ (n : Int) : Rat := Rat.divInt (arn n 100 % 25 - 12) (1 + arn n 100 / 25)
def tM (n : Int) : Int := 1 + arn n 64 / 4 % 4
def tW (n : Int) : Int := arn n 64 / 16
theorem tM_lo (n : Int) : 1 ≤ tM n := by unfold tM; omega
theorem tM_hi (n : Int) : tM n ≤ 4 := by unfold tM; omega
theorem tW_lo (n : Int) : 0 ≤ tW n := by unfold tW; have := arn_lo n 64 (by omega); omega
theorem tW_hi (n : Int) : tW n ≤ 3 := by unfold tW; have := arn_hi n 64 (by omega); omega
/-- products of small numbers -/
theorem mm_lo (n : Int) : 1 ≤ tM n * tM n := by
  have h1 := tM_lo n
  have := Int.mul_le_mul h1 h1 (by omega) (by omega); omega
theorem mm_hi (n : Int) : tM n * tM n ≤ 16 := by
  have h1 := tM_lo n
  have h2 := tM_hi n
  have := Int.mul_le_mul h2 h2 (by omega) (by omega); omega
theorem ww_lo (n : Int) : 0 ≤ tW n * tW n := Int.mul_nonneg (tW_lo n) (tW_lo n)
theorem ww_hi (n : Int) : tW n * tW n ≤ 9 := by
  have h2 := tW_hi n
  have h1 := tW_lo n
  have := Int.mul_le_mul h2 h2 (by omega) (by omega); omega
theorem mw_lo (n : Int) : 0 ≤ 2 * tM n * tW n := Int.mul_nonneg (by have := tM_lo n; omega) (tW_lo n)
theorem mw_hi (n : Int) : 2 * tM n * tW n ≤ 24 := by
  have h2 := tW_hi n
  have h1 := tW_lo n
  have h3 := tM_hi n
  have := Int.mul_le_mul (show 2 * tM n ≤ 8 by omega) h2 (by omega) (by omega); omega
def tC0 (n : Int) : Rat := Rat.divInt (tM n * tM n - tW n * tW n) (tM n * tM n + tW n * tW n)
def tS0 (n : Int) : Rat := Rat.divInt (2 * tM n * tW n) (tM n * tM n + tW n * tW n)
/-- so many quarters more -/
def tIt : Nat → Rat → Rat → Rat × Rat
  | 0, c, s => (c, s)
  | k + 1, c, s => (-(tIt k c s).2, (tIt k c s).1)
def turnC (n : Int) : Rat := (tIt (arn n 64 % 4).toNat (tC0 n) (tS0 n)).1
def turnS (n : Int) : Rat := (tIt (arn n 64 % 4).toNat (tC0 n) (tS0 n)).2
theorem tIt_unit (c s : Rat) (h : c * c + s * s = 1) : ∀ k, (tIt k c s).1 * (tIt k c s).1 + (tIt k c s).2 * (tIt k c s).2 = 1
  | 0 => h
  | k + 1 => by
    have := tIt_unit c s h k
    show -(tIt k c s).2 * -(tIt k c s).2 + (tIt k c s).1 * (tIt k c s).1 = 1
    grind
theorem t0_unit (n : Int) : tC0 n * tC0 n + tS0 n * tS0 n = 1 := by
  have key : ∀ m : Fin 5, ∀ w : Fin 4, 1 ≤ m.val → Rat.divInt ((m.val : Int) * m.val - (w.val : Int) * w.val) ((m.val : Int) * m.val + (w.val : Int) * w.val) * Rat.divInt ((m.val : Int) * m.val - (w.val : Int) * w.val) ((m.val : Int) * m.val + (w.val : Int) * w.val) + Rat.divInt (2 * (m.val : Int) * w.val) ((m.val : Int) * m.val + (w.val : Int) * w.val) * Rat.divInt (2 * (m.val : Int) * w.val) ((m.val : Int) * m.val + (w.val : Int) * w.val) = 1 := by decide +kernel
  have h1 := tM_lo n
  have h2 := tM_hi n
  have h3 := tW_lo n
  have h4 := tW_hi n
  have := key ⟨(tM n).toNat, by omega⟩ ⟨(tW n).toNat, by omega⟩ (by simp only []; omega)
  simp only [Int.toNat_of_nonneg (show 0 ≤ tM n by omega), Int.toNat_of_nonneg h3] at this
  exact this
theorem turn_unit (n : Int) : turnC n * turnC n + turnS n * turnS n = 1 := tIt_unit _ _ (t0_unit n) _
section
variable {ρ : Operand → Value} {o : Oper} {W : World} {x y : Operand} {va vb : Value} {A B : VP} {a b : Int}
theorem run_eqe (ho : o.op = .binOp .eql 56 x y 56) (hx : ρ x = .int .i64 a) (hy : ρ y = .int .i64 b) : (execOp ρ o).run Tryz.prog W = .ok (.value (.bool (a == b))) W := by
  obtain ⟨d, op, ty, ps, af, gd⟩ := o
  subst ho
  go_simp
theorem run_neqe (ho : o.op = .binOp .neq 56 x y 56) (hx : ρ x = .int .i64 a) (hy : ρ y = .int .i64 b) : (execOp ρ o).run Tryz.prog W = .ok (.value (.bool (a != b))) W := by
  obtain ⟨d, op, ty, ps, af, gd⟩ := o
  subst ho
  go_simp
theorem run_remt (ho : o.op = .binOp .rem 3 x y 3) (hx : ρ x = .int .i64 a) (hy : ρ y = .int .i64 b) (hb : 1 < b) (hb2 : b < 1000) : (execOp ρ o).run Tryz.prog W = .ok (.value (.int .i64 (Int.tmod a b))) W := by
  have hb0 : ¬ b = 0 := by omega
  have hb1 : ¬ b = -1 := by omega
  generalize hq : Int.tmod a b = q
  clear hb hb2
  obtain ⟨d, op, ty, ps, af, gd⟩ := o
  subst ho
  go_simp
theorem run_eqb {c d : Bool} (ho : o.op = .binOp .eql 4 x y 4) (hx : ρ x = .bool c) (hy : ρ y = .bool d) : (execOp ρ o).run Tryz.prog W = .ok (.value (.bool (c == d))) W := by
  obtain ⟨dd, op, ty, ps, af, gd⟩ := o
  subst ho
  cases c <;> cases d <;> go_simp
theorem VP2_arr (h : VP2 8 8 A B va W) : ∃ cx cy, va = .agg (cx ++ cy) ∧ cx.size = 8 ∧ cy.size = 8 ∧ A (.agg cx) W ∧ B (.agg cy) W := by
  obtain ⟨x, y, h1, h2, h3, h4, h5⟩ := h
  exact ⟨x, y, h3, h1, h2, h4, h5⟩
theorem fieldv_Place1 (ho : o.op = .field 60 x 1) (hx : ρ x = va) (h : VP2 8 8 A B va W) : ∃ v, (execOp ρ o).run Tryz.prog W = .ok (.value v) W ∧ B v W := by
  obtain ⟨cx, cy, rfl, e1, e2, h1, h2⟩ := VP2_arr h
  obtain ⟨a, b, c, d, e, f, g, i, rfl⟩ := arr8 e1
  obtain ⟨a', b', c', d', e', f', g', i', rfl⟩ := arr8 e2
  have hfd : (Instr.field 60 (.agg (#[a, b, c, d, e, f, g, i] ++ #[a', b', c', d', e', f', g', i'])) 1).run Tryz.prog W = .ok (.agg #[a', b', c', d', e', f', g', i']) W := by kernel_rfl
  refine ⟨.agg #[a', b', c', d', e', f', g', i'], ?_, h2⟩
  unfold execOp
  simp only [ho, hx, Sem.run_bind, hfd, Sem.run_pure, Result.andThen_ok]
theorem build_Vec0 (ho : o.op = .build 28 #[]) : ∃ v, (execOp ρ o).run Tryz.prog W = .ok (.value v) W ∧ Vv 1 0 0 v W := by
  have hz : Vq 1 0 (.agg (#[.bool false, .slice none 0 0] ++ #[.bool false, .slice none 0 0])) W := ⟨_, _, rfl, rfl, rfl, ⟨_, _, _, _, rfl, IntAt_zero _ _ _ (by omega), by omega⟩, ⟨_, _, _, _, rfl, IntAt_zero _ _ _ (by omega), by omega⟩⟩
  refine ⟨.agg ((#[.bool false, .slice none 0 0] ++ #[.bool false, .slice none 0 0]) ++ (#[.bool false, .slice none 0 0] ++ #[.bool false, .slice none 0 0])), ?_, ⟨_, _, rfl, rfl, rfl, hz, hz⟩⟩
  obtain ⟨dd, op, ty, ps, af, gd⟩ := o
  subst ho
  go_simp
theorem build_TurnS {q : Rat} {N : Nat} (ho : o.op = .build 47 #[(1, x)]) (hx : ρ x = va) (h1 : Vq N q va W) : ∃ v, (execOp ρ o).run Tryz.prog W = .ok (.value v) W ∧ Vv N 0 q v W := by
  obtain ⟨cx, rfl, e1, -⟩ := AggV_Vq _ _ _ _ h1
  obtain ⟨a, b, c, d, rfl⟩ := arr4 e1
  have hz : Vq N 0 (.agg (#[.bool false, .slice none 0 0] ++ #[.bool false, .slice none 0 0])) W := ⟨_, _, rfl, rfl, rfl, ⟨_, _, _, _, rfl, IntAt_zero _ _ _ (by omega), by omega⟩, ⟨_, _, _, _, rfl, IntAt_zero _ _ _ (by omega), by omega⟩⟩
  refine ⟨.agg ((#[.bool false, .slice none 0 0] ++ #[.bool false, .slice none 0 0]) ++ #[a, b, c, d]), ?_, ⟨_, _, rfl, rfl, rfl, hz, h1⟩⟩
  obtain ⟨dd, op, ty, ps, af, gd⟩ := o
  subst ho
  go_simp
end
/-- two whole numbers that lie like a numerator and a denominator -/
theorem vzz_D1 {N : Nat} {a b : Int} {cs : Array Value} {w : World} (h : VP2 2 2 (Vz N a) (Vz N b) (.agg cs) w) : ∃ v, cs[1]? = some v ∧ VD N a v w := by
  obtain ⟨x, y, h1, h2, h3, h4, h5⟩ := h
  obtain ⟨nb, p, n, c, e1, e2, e3⟩ := h4
  obtain ⟨nb2, p2, n2, c2, f1, f2, -⟩ := h5
  cases h3
  cases e1
  cases f1
  exact ⟨_, rfl, p, n, c, rfl, e2.2.1, e2.2.2.1, e2.2.2.2.1, e2.2.2.2.2, e3⟩
theorem vzz_D3 {N : Nat} {a b : Int} {cs : Array Value} {w : World} (h : VP2 2 2 (Vz N a) (Vz N b) (.agg cs) w) : ∃ v, cs[3]? = some v ∧ VD N b v w := by
  obtain ⟨x, y, h1, h2, h3, h4, h5⟩ := h
  obtain ⟨nb, p, n, c, e1, e2, -⟩ := h4
  obtain ⟨nb2, p2, n2, c2, f1, f2, f3⟩ := h5
  cases h3
  cases e1
  cases f1
  exact ⟨_, rfl, p2, n2, c2, rfl, f2.2.1, f2.2.2.1, f2.2.2.2.1, f2.2.2.2.2, f3⟩
instance (N : Nat) (a b : Int) : CeC (VP2 2 2 (Vz N a) (Vz N b)) 1 (VD N a) := ⟨fun _ _ h => vzz_D1 h⟩
instance (N : Nat) (a b : Int) : CeC (VP2 2 2 (Vz N a) (Vz N b)) 3 (VD N b) := ⟨fun _ _ h => vzz_D3 h⟩
theorem vzz_N2 {N : Nat} {a b : Int} {cs : Array Value} {w : World} (h : VP2 2 2 (Vz N a) (Vz N b) (.agg cs) w) : ∃ v, cs[2]? = some v ∧ Vb (decide (b < 0)) v w := by
  obtain ⟨x, y, h1, h2, h3, h4, h5⟩ := h
  obtain ⟨nb, p, n, c, e1, e2, -⟩ := h4
  obtain ⟨nb2, p2, n2, c2, f1, f2, f3⟩ := h5
  cases h3
  cases e1
  cases f1
  exact ⟨_, rfl, congrArg Value.bool f2.1⟩
theorem vzz_N2T {N : Nat} {a b : Int} {cs : Array Value} {w : World} (h : VP2 2 2 (Vz N a) (Vz N b) (.agg cs) w) (hz : b < 0) : ∃ v, cs[2]? = some v ∧ Vb true v w := by
  obtain ⟨v, h1, h2⟩ := vzz_N2 h
  rw [decide_eq_true hz] at h2
  exact ⟨v, h1, h2⟩
theorem vzz_N2F {N : Nat} {a b : Int} {cs : Array Value} {w : World} (h : VP2 2 2 (Vz N a) (Vz N b) (.agg cs) w) (hz : ¬ b < 0) : ∃ v, cs[2]? = some v ∧ Vb false v w := by
  obtain ⟨v, h1, h2⟩ := vzz_N2 h
  rw [decide_eq_false hz] at h2
  exact ⟨v, h1, h2⟩
theorem cR3Valid {W : World} {N : Nat} {z : Int} {v : Value} (h : Vz N z v W) (hN : N ≤ 1000000) : Calls Tryz.prog 106 #[v] W (RV (Vb true) W) := by
  obtain ⟨nb, p, n, c, rfl, hI, hn⟩ := h
  have := rValid_any nb p n c (digs z.natAbs) W hI.2.2.1 hI.2.1 (by omega)
  rw [vld_int hI.1] at this
  exact this.mono fun e w' h => ⟨_, h.1, rfl, h.2⟩
end Go.Proofs.YteaoaoknpihchaaGreat
