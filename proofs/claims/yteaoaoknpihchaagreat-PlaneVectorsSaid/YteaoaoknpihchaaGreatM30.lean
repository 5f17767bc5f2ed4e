/- Contracts of the package integer and its reference: The reference's vectors. -/
import Derived.Test.YteaoaoknpihchaaGreatM29
import Derived.Test.YteaoaoknpihchaaGreatM21
set_option linter.unusedVariables false
namespace Go.Proofs.YteaoaoknpihchaaGreat
open Go.RowKit

set_option maxRecDepth 100000 in
set_option maxHeartbeats 1600000 in
theorem cR5Add {w : World} {N : Nat} {a b c d : Rat} {v0 v1 : Value} (h0 : Vv N (a) (b) v0 w) (h1 : Vv N (c) (d) v1 w) (h3 : 3 ≤ N) (hN : N ≤ 10000) : Calls Tryz.prog 12 #[v0, v1] w (RV (Vv (N + N + 1) (a + c) (b + d)) w) := by
  go_enter Tryz.func12, Tryz.ntmps12
  have st0 : St w.heap.size w 16 [] [(0, Vv N (a) (b)), (1, Vv N (c) (d))] _ w := St.begin (a := ⟨#[v0, v1, undef, undef, undef, undef, undef, undef, undef, undef, undef, undef, undef, undef, undef, undef], []⟩) rfl rfl (List.forall_mem_cons.2 ⟨⟨_, rfl, h0⟩, (List.forall_mem_cons.2 ⟨⟨_, rfl, h1⟩, (fun _ h => absurd h (by simp))⟩)⟩)
  generalize (⟨#[v0, v1, undef, undef, undef, undef, undef, undef, undef, undef, undef, undef, undef, undef, undef, undef], []⟩ : Act) = a0 at st0 ⊢
  repeat first | refine wp_seq ?_ | refine wp_block ?_ | refine wp_skip ?_ | refine wp_exit ?_
  refine rg (BT := [(28, 8, 0)]) (Vl := [VT, VT, VT]) (B := [⟨2, some 0, some 0, 28, 8, Vv N (a) (b), VT⟩, ⟨3, some 1, some 1, 28, 8, Vv N (c) (d), VT⟩, ⟨4, some 2, none, 28, 8, VT, VT⟩]) (SL' := []) st0 ⟨ks, ks, ks, trivial⟩ ?_
  intro a1 w1 st1
  clear st0
  repeat first | refine wp_seq ?_ | refine wp_block ?_ | refine wp_skip ?_ | refine wp_exit ?_
  refine rg (BT := [(28, 8, 0)]) (Vl := [Vpt a1 2 0, Vq N (a), Vpt a1 3 0, Vq N (c), Vq (N + N + 1) ((a) + (c)), Vpt a1 2 4, Vq N (b), Vpt a1 3 4, Vq N (d), Vq (N + N + 1) ((b) + (d)), Vv (N + N + 1) ((a) + (c)) ((b) + (d)), VT]) (B := [⟨2, none, none, 28, 8, Vv N (a) (b), VT⟩, ⟨3, none, none, 28, 8, Vv N (c) (d), VT⟩, ⟨4, none, some 11, 28, 8, Vv (N + N + 1) ((a) + (c)) ((b) + (d)), VT⟩]) (SL' := []) st1 ⟨ks, ks, ks, ks, ?s4, ks, ks, ks, ks, ?s9, ?s10, ks, trivial⟩ ?_
  case s4 =>
    refine kc fun _ ac Wd h hd => ?_
    obtain ⟨v0, hv0, hV0⟩ := h.dp hd 6
    obtain ⟨v1, hv1, hV1⟩ := h.dp hd 8
    exact ⟨#[v0, v1], by simp [hv0, hv1], cR4Add (show Vq N (a) v0 Wd from hV0) (show Vq N (c) v1 Wd from hV1) (by omega) (by omega)⟩
  case s9 =>
    refine kc fun _ ac Wd h hd => ?_
    obtain ⟨v0, hv0, hV0⟩ := h.dp hd 11
    obtain ⟨v1, hv1, hV1⟩ := h.dp hd 13
    exact ⟨#[v0, v1], by simp [hv0, hv1], cR4Add (show Vq N (b) v0 Wd from hV0) (show Vq N (d) v1 Wd from hV1) (by omega) (by omega)⟩
  case s10 =>
    refine kr fun _ ac Wd h hd => ?_
    obtain ⟨v0, hv0, hV0⟩ := h.dp hd 9
    obtain ⟨v1, hv1, hV1⟩ := h.dp hd 14
    exact build_Vec rfl hv0 hv1 (AggV_Vq _ _) (AggV_Vq _ _) (show Vq (N + N + 1) ((a) + (c)) v0 Wd from hV0) (show Vq (N + N + 1) ((b) + (d)) v1 Wd from hV1)
  intro a2 w2 st2
  clear st1
  repeat first | refine wp_seq ?_ | refine wp_block ?_ | refine wp_skip ?_ | refine wp_exit ?_
  obtain ⟨g, cs, r1, r2, r3, r4, r5⟩ := st2.res ⟨4, none, none, 28, 8, Vv (N + N + 1) ((a) + (c)) ((b) + (d)), VT⟩ (.tail _ (.tail _ (.head _))) rfl rfl
  exact wp_ret (bodyPost_ret (results_cell_row rfl _ _ g 28 cs (0, 0) _ r1 r2 Tryz.underlying28 rfl (by rw [r3]; exact size_Vec)) st2.defers ⟨_, rfl, r4, r5⟩)
set_option maxRecDepth 100000 in
set_option maxHeartbeats 1600000 in
theorem cR5Sub {w : World} {N : Nat} {a b c d : Rat} {v0 v1 : Value} (h0 : Vv N (a) (b) v0 w) (h1 : Vv N (c) (d) v1 w) (h3 : 3 ≤ N) (hN : N ≤ 10000) : Calls Tryz.prog 14 #[v0, v1] w (RV (Vv (N + N + 1) (a - c) (b - d)) w) := by
  go_enter Tryz.func14, Tryz.ntmps14
  have st0 : St w.heap.size w 16 [] [(0, Vv N (a) (b)), (1, Vv N (c) (d))] _ w := St.begin (a := ⟨#[v0, v1, undef, undef, undef, undef, undef, undef, undef, undef, undef, undef, undef, undef, undef, undef], []⟩) rfl rfl (List.forall_mem_cons.2 ⟨⟨_, rfl, h0⟩, (List.forall_mem_cons.2 ⟨⟨_, rfl, h1⟩, (fun _ h => absurd h (by simp))⟩)⟩)
  generalize (⟨#[v0, v1, undef, undef, undef, undef, undef, undef, undef, undef, undef, undef, undef, undef, undef, undef], []⟩ : Act) = a0 at st0 ⊢
  repeat first | refine wp_seq ?_ | refine wp_block ?_ | refine wp_skip ?_ | refine wp_exit ?_
  refine rg (BT := [(28, 8, 0)]) (Vl := [VT, VT, VT]) (B := [⟨2, some 0, some 0, 28, 8, Vv N (a) (b), VT⟩, ⟨3, some 1, some 1, 28, 8, Vv N (c) (d), VT⟩, ⟨4, some 2, none, 28, 8, VT, VT⟩]) (SL' := []) st0 ⟨ks, ks, ks, trivial⟩ ?_
  intro a1 w1 st1
  clear st0
  repeat first | refine wp_seq ?_ | refine wp_block ?_ | refine wp_skip ?_ | refine wp_exit ?_
  refine rg (BT := [(28, 8, 0)]) (Vl := [Vpt a1 2 0, Vq N (a), Vpt a1 3 0, Vq N (c), Vq (N + N + 1) ((a) - (c)), Vpt a1 2 4, Vq N (b), Vpt a1 3 4, Vq N (d), Vq (N + N + 1) ((b) - (d)), Vv (N + N + 1) ((a) - (c)) ((b) - (d)), VT]) (B := [⟨2, none, none, 28, 8, Vv N (a) (b), VT⟩, ⟨3, none, none, 28, 8, Vv N (c) (d), VT⟩, ⟨4, none, some 11, 28, 8, Vv (N + N + 1) ((a) - (c)) ((b) - (d)), VT⟩]) (SL' := []) st1 ⟨ks, ks, ks, ks, ?s4, ks, ks, ks, ks, ?s9, ?s10, ks, trivial⟩ ?_
  case s4 =>
    refine kc fun _ ac Wd h hd => ?_
    obtain ⟨v0, hv0, hV0⟩ := h.dp hd 6
    obtain ⟨v1, hv1, hV1⟩ := h.dp hd 8
    exact ⟨#[v0, v1], by simp [hv0, hv1], cR4Sub (show Vq N (a) v0 Wd from hV0) (show Vq N (c) v1 Wd from hV1) (by omega) (by omega)⟩
  case s9 =>
    refine kc fun _ ac Wd h hd => ?_
    obtain ⟨v0, hv0, hV0⟩ := h.dp hd 11
    obtain ⟨v1, hv1, hV1⟩ := h.dp hd 13
    exact ⟨#[v0, v1], by simp [hv0, hv1], cR4Sub (show Vq N (b) v0 Wd from hV0) (show Vq N (d) v1 Wd from hV1) (by omega) (by omega)⟩
  case s10 =>
    refine kr fun _ ac Wd h hd => ?_
    obtain ⟨v0, hv0, hV0⟩ := h.dp hd 9
    obtain ⟨v1, hv1, hV1⟩ := h.dp hd 14
    exact build_Vec rfl hv0 hv1 (AggV_Vq _ _) (AggV_Vq _ _) (show Vq (N + N + 1) ((a) - (c)) v0 Wd from hV0) (show Vq (N + N + 1) ((b) - (d)) v1 Wd from hV1)
  intro a2 w2 st2
  clear st1
  repeat first | refine wp_seq ?_ | refine wp_block ?_ | refine wp_skip ?_ | refine wp_exit ?_
  obtain ⟨g, cs, r1, r2, r3, r4, r5⟩ := st2.res ⟨4, none, none, 28, 8, Vv (N + N + 1) ((a) - (c)) ((b) - (d)), VT⟩ (.tail _ (.tail _ (.head _))) rfl rfl
  exact wp_ret (bodyPost_ret (results_cell_row rfl _ _ g 28 cs (0, 0) _ r1 r2 Tryz.underlying28 rfl (by rw [r3]; exact size_Vec)) st2.defers ⟨_, rfl, r4, r5⟩)
set_option maxRecDepth 100000 in
set_option maxHeartbeats 1600000 in
theorem cR5Scale {w : World} {N : Nat} {a b c : Rat} {v0 v1 : Value} (h0 : Vv N (a) (b) v0 w) (h1 : Vq N (c) v1 w) (h3 : 3 ≤ N) (hN : N ≤ 10000) : Calls Tryz.prog 16 #[v0, v1] w (RV (Vv (N + N) (a * c) (b * c)) w) := by
  go_enter Tryz.func16, Tryz.ntmps16
  have st0 : St w.heap.size w 14 [] [(0, Vv N (a) (b)), (1, Vq N (c))] _ w := St.begin (a := ⟨#[v0, v1, undef, undef, undef, undef, undef, undef, undef, undef, undef, undef, undef, undef], []⟩) rfl rfl (List.forall_mem_cons.2 ⟨⟨_, rfl, h0⟩, (List.forall_mem_cons.2 ⟨⟨_, rfl, h1⟩, (fun _ h => absurd h (by simp))⟩)⟩)
  generalize (⟨#[v0, v1, undef, undef, undef, undef, undef, undef, undef, undef, undef, undef, undef, undef], []⟩ : Act) = a0 at st0 ⊢
  repeat first | refine wp_seq ?_ | refine wp_block ?_ | refine wp_skip ?_ | refine wp_exit ?_
  refine rg (BT := [(28, 8, 0)]) (Vl := [VT, VT, VT]) (B := [⟨2, some 0, some 0, 28, 8, Vv N (a) (b), VT⟩, ⟨3, some 1, some 1, 26, 4, Vq N (c), VT⟩, ⟨4, some 2, none, 28, 8, VT, VT⟩]) (SL' := []) st0 ⟨ks, ks, ks, trivial⟩ ?_
  intro a1 w1 st1
  clear st0
  repeat first | refine wp_seq ?_ | refine wp_block ?_ | refine wp_skip ?_ | refine wp_exit ?_
  refine rg (BT := [(28, 8, 0)]) (Vl := [Vpt a1 2 0, Vq N (a), Vq N (c), Vq (N + N) ((a) * (c)), Vpt a1 2 4, Vq N (b), Vq N (c), Vq (N + N) ((b) * (c)), Vv (N + N) ((a) * (c)) ((b) * (c)), VT]) (B := [⟨2, none, none, 28, 8, Vv N (a) (b), VT⟩, ⟨3, none, none, 26, 4, Vq N (c), VT⟩, ⟨4, none, some 9, 28, 8, Vv (N + N) ((a) * (c)) ((b) * (c)), VT⟩]) (SL' := []) st1 ⟨ks, ks, ks, ?s3, ks, ks, ks, ?s7, ?s8, ks, trivial⟩ ?_
  case s3 =>
    refine kc fun _ ac Wd h hd => ?_
    obtain ⟨v0, hv0, hV0⟩ := h.dp hd 6
    obtain ⟨v1, hv1, hV1⟩ := h.dp hd 7
    exact ⟨#[v0, v1], by simp [hv0, hv1], cR4Mul (show Vq N (a) v0 Wd from hV0) (show Vq N (c) v1 Wd from hV1) (by omega) (by omega)⟩
  case s7 =>
    refine kc fun _ ac Wd h hd => ?_
    obtain ⟨v0, hv0, hV0⟩ := h.dp hd 10
    obtain ⟨v1, hv1, hV1⟩ := h.dp hd 11
    exact ⟨#[v0, v1], by simp [hv0, hv1], cR4Mul (show Vq N (b) v0 Wd from hV0) (show Vq N (c) v1 Wd from hV1) (by omega) (by omega)⟩
  case s8 =>
    refine kr fun _ ac Wd h hd => ?_
    obtain ⟨v0, hv0, hV0⟩ := h.dp hd 8
    obtain ⟨v1, hv1, hV1⟩ := h.dp hd 12
    exact build_Vec rfl hv0 hv1 (AggV_Vq _ _) (AggV_Vq _ _) (show Vq (N + N) ((a) * (c)) v0 Wd from hV0) (show Vq (N + N) ((b) * (c)) v1 Wd from hV1)
  intro a2 w2 st2
  clear st1
  repeat first | refine wp_seq ?_ | refine wp_block ?_ | refine wp_skip ?_ | refine wp_exit ?_
  obtain ⟨g, cs, r1, r2, r3, r4, r5⟩ := st2.res ⟨4, none, none, 28, 8, Vv (N + N) ((a) * (c)) ((b) * (c)), VT⟩ (.tail _ (.tail _ (.head _))) rfl rfl
  exact wp_ret (bodyPost_ret (results_cell_row rfl _ _ g 28 cs (0, 0) _ r1 r2 Tryz.underlying28 rfl (by rw [r3]; exact size_Vec)) st2.defers ⟨_, rfl, r4, r5⟩)
set_option maxRecDepth 100000 in
set_option maxHeartbeats 1600000 in
theorem cR5Dot {w : World} {N : Nat} {a b c d : Rat} {v0 v1 : Value} (h0 : Vv N (a) (b) v0 w) (h1 : Vv N (c) (d) v1 w) (h3 : 3 ≤ N) (hN : N ≤ 10000) : Calls Tryz.prog 19 #[v0, v1] w (RV (Vq (4 * N + 1) (a * c + b * d)) w) := by
  go_enter Tryz.func19, Tryz.ntmps19
  have st0 : St w.heap.size w 16 [] [(0, Vv N (a) (b)), (1, Vv N (c) (d))] _ w := St.begin (a := ⟨#[v0, v1, undef, undef, undef, undef, undef, undef, undef, undef, undef, undef, undef, undef, undef, undef], []⟩) rfl rfl (List.forall_mem_cons.2 ⟨⟨_, rfl, h0⟩, (List.forall_mem_cons.2 ⟨⟨_, rfl, h1⟩, (fun _ h => absurd h (by simp))⟩)⟩)
  generalize (⟨#[v0, v1, undef, undef, undef, undef, undef, undef, undef, undef, undef, undef, undef, undef, undef, undef], []⟩ : Act) = a0 at st0 ⊢
  repeat first | refine wp_seq ?_ | refine wp_block ?_ | refine wp_skip ?_ | refine wp_exit ?_
  refine rg (BT := [(26, 4, 0)]) (Vl := [VT, VT, VT]) (B := [⟨2, some 0, some 0, 28, 8, Vv N (a) (b), VT⟩, ⟨3, some 1, some 1, 28, 8, Vv N (c) (d), VT⟩, ⟨4, some 2, none, 26, 4, VT, VT⟩]) (SL' := []) st0 ⟨ks, ks, ks, trivial⟩ ?_
  intro a1 w1 st1
  clear st0
  repeat first | refine wp_seq ?_ | refine wp_block ?_ | refine wp_skip ?_ | refine wp_exit ?_
  refine rg (BT := [(26, 4, 0)]) (Vl := [Vpt a1 2 0, Vq N (a), Vpt a1 3 0, Vq N (c), Vq (N + N) ((a) * (c)), Vpt a1 2 4, Vq N (b), Vpt a1 3 4, Vq N (d), Vq (N + N) ((b) * (d)), Vq ((N + N) + (N + N) + 1) (((a) * (c)) + ((b) * (d))), VT]) (B := [⟨2, none, none, 28, 8, Vv N (a) (b), VT⟩, ⟨3, none, none, 28, 8, Vv N (c) (d), VT⟩, ⟨4, none, some 11, 26, 4, Vq ((N + N) + (N + N) + 1) (((a) * (c)) + ((b) * (d))), VT⟩]) (SL' := []) st1 ⟨ks, ks, ks, ks, ?s4, ks, ks, ks, ks, ?s9, ?s10, ks, trivial⟩ ?_
  case s4 =>
    refine kc fun _ ac Wd h hd => ?_
    obtain ⟨v0, hv0, hV0⟩ := h.dp hd 6
    obtain ⟨v1, hv1, hV1⟩ := h.dp hd 8
    exact ⟨#[v0, v1], by simp [hv0, hv1], cR4Mul (show Vq N (a) v0 Wd from hV0) (show Vq N (c) v1 Wd from hV1) (by omega) (by omega)⟩
  case s9 =>
    refine kc fun _ ac Wd h hd => ?_
    obtain ⟨v0, hv0, hV0⟩ := h.dp hd 11
    obtain ⟨v1, hv1, hV1⟩ := h.dp hd 13
    exact ⟨#[v0, v1], by simp [hv0, hv1], cR4Mul (show Vq N (b) v0 Wd from hV0) (show Vq N (d) v1 Wd from hV1) (by omega) (by omega)⟩
  case s10 =>
    refine kc fun _ ac Wd h hd => ?_
    obtain ⟨v0, hv0, hV0⟩ := h.dp hd 9
    obtain ⟨v1, hv1, hV1⟩ := h.dp hd 14
    exact ⟨#[v0, v1], by simp [hv0, hv1], cR4Add (show Vq (N + N) ((a) * (c)) v0 Wd from hV0) (show Vq (N + N) ((b) * (d)) v1 Wd from hV1) (by omega) (by omega)⟩
  intro a2 w2 st2
  clear st1
  repeat first | refine wp_seq ?_ | refine wp_block ?_ | refine wp_skip ?_ | refine wp_exit ?_
  obtain ⟨g, cs, r1, r2, r3, r4, r5⟩ := st2.res ⟨4, none, none, 26, 4, Vq ((N + N) + (N + N) + 1) (((a) * (c)) + ((b) * (d))), VT⟩ (.tail _ (.tail _ (.head _))) rfl rfl
  exact wp_ret (bodyPost_ret (results_cell_row rfl _ _ g 26 cs (0, 0) _ r1 r2 Tryz.underlying26 rfl (by rw [r3]; exact size_Rat)) st2.defers ⟨_, rfl, (Vq_le r4 (by omega)), r5⟩)
set_option maxRecDepth 100000 in
set_option maxHeartbeats 1600000 in
theorem cR5Cross {w : World} {N : Nat} {a b c d : Rat} {v0 v1 : Value} (h0 : Vv N (a) (b) v0 w) (h1 : Vv N (c) (d) v1 w) (h3 : 3 ≤ N) (hN : N ≤ 10000) : Calls Tryz.prog 21 #[v0, v1] w (RV (Vq (4 * N + 1) (a * d - b * c)) w) := by
  go_enter Tryz.func21, Tryz.ntmps21
  have st0 : St w.heap.size w 16 [] [(0, Vv N (a) (b)), (1, Vv N (c) (d))] _ w := St.begin (a := ⟨#[v0, v1, undef, undef, undef, undef, undef, undef, undef, undef, undef, undef, undef, undef, undef, undef], []⟩) rfl rfl (List.forall_mem_cons.2 ⟨⟨_, rfl, h0⟩, (List.forall_mem_cons.2 ⟨⟨_, rfl, h1⟩, (fun _ h => absurd h (by simp))⟩)⟩)
  generalize (⟨#[v0, v1, undef, undef, undef, undef, undef, undef, undef, undef, undef, undef, undef, undef, undef, undef], []⟩ : Act) = a0 at st0 ⊢
  repeat first | refine wp_seq ?_ | refine wp_block ?_ | refine wp_skip ?_ | refine wp_exit ?_
  refine rg (BT := [(26, 4, 0)]) (Vl := [VT, VT, VT]) (B := [⟨2, some 0, some 0, 28, 8, Vv N (a) (b), VT⟩, ⟨3, some 1, some 1, 28, 8, Vv N (c) (d), VT⟩, ⟨4, some 2, none, 26, 4, VT, VT⟩]) (SL' := []) st0 ⟨ks, ks, ks, trivial⟩ ?_
  intro a1 w1 st1
  clear st0
  repeat first | refine wp_seq ?_ | refine wp_block ?_ | refine wp_skip ?_ | refine wp_exit ?_
  refine rg (BT := [(26, 4, 0)]) (Vl := [Vpt a1 2 0, Vq N (a), Vpt a1 3 4, Vq N (d), Vq (N + N) ((a) * (d)), Vpt a1 2 4, Vq N (b), Vpt a1 3 0, Vq N (c), Vq (N + N) ((b) * (c)), Vq ((N + N) + (N + N) + 1) (((a) * (d)) - ((b) * (c))), VT]) (B := [⟨2, none, none, 28, 8, Vv N (a) (b), VT⟩, ⟨3, none, none, 28, 8, Vv N (c) (d), VT⟩, ⟨4, none, some 11, 26, 4, Vq ((N + N) + (N + N) + 1) (((a) * (d)) - ((b) * (c))), VT⟩]) (SL' := []) st1 ⟨ks, ks, ks, ks, ?s4, ks, ks, ks, ks, ?s9, ?s10, ks, trivial⟩ ?_
  case s4 =>
    refine kc fun _ ac Wd h hd => ?_
    obtain ⟨v0, hv0, hV0⟩ := h.dp hd 6
    obtain ⟨v1, hv1, hV1⟩ := h.dp hd 8
    exact ⟨#[v0, v1], by simp [hv0, hv1], cR4Mul (show Vq N (a) v0 Wd from hV0) (show Vq N (d) v1 Wd from hV1) (by omega) (by omega)⟩
  case s9 =>
    refine kc fun _ ac Wd h hd => ?_
    obtain ⟨v0, hv0, hV0⟩ := h.dp hd 11
    obtain ⟨v1, hv1, hV1⟩ := h.dp hd 13
    exact ⟨#[v0, v1], by simp [hv0, hv1], cR4Mul (show Vq N (b) v0 Wd from hV0) (show Vq N (c) v1 Wd from hV1) (by omega) (by omega)⟩
  case s10 =>
    refine kc fun _ ac Wd h hd => ?_
    obtain ⟨v0, hv0, hV0⟩ := h.dp hd 9
    obtain ⟨v1, hv1, hV1⟩ := h.dp hd 14
    exact ⟨#[v0, v1], by simp [hv0, hv1], cR4Sub (show Vq (N + N) ((a) * (d)) v0 Wd from hV0) (show Vq (N + N) ((b) * (c)) v1 Wd from hV1) (by omega) (by omega)⟩
  intro a2 w2 st2
  clear st1
  repeat first | refine wp_seq ?_ | refine wp_block ?_ | refine wp_skip ?_ | refine wp_exit ?_
  obtain ⟨g, cs, r1, r2, r3, r4, r5⟩ := st2.res ⟨4, none, none, 26, 4, Vq ((N + N) + (N + N) + 1) (((a) * (d)) - ((b) * (c))), VT⟩ (.tail _ (.tail _ (.head _))) rfl rfl
  exact wp_ret (bodyPost_ret (results_cell_row rfl _ _ g 26 cs (0, 0) _ r1 r2 Tryz.underlying26 rfl (by rw [r3]; exact size_Rat)) st2.defers ⟨_, rfl, (Vq_le r4 (by omega)), r5⟩)
set_option maxRecDepth 100000 in
set_option maxHeartbeats 1600000 in
theorem cR5Same {w : World} {N : Nat} {a b c d : Rat} {v0 v1 : Value} (h0 : Vv N (a) (b) v0 w) (h1 : Vv N (c) (d) v1 w) (h3 : 3 ≤ N) (hN : N ≤ 10000) : Calls Tryz.prog 24 #[v0, v1] w (RV (Vb (decide (a = c ∧ b = d))) w) := by
  go_enter Tryz.func24, Tryz.ntmps24
  have st0 : St w.heap.size w 17 [] [(0, Vv N (a) (b)), (1, Vv N (c) (d))] _ w := St.begin (a := ⟨#[v0, v1, undef, undef, undef, undef, undef, undef, undef, undef, undef, undef, undef, undef, undef, undef, undef], []⟩) rfl rfl (List.forall_mem_cons.2 ⟨⟨_, rfl, h0⟩, (List.forall_mem_cons.2 ⟨⟨_, rfl, h1⟩, (fun _ h => absurd h (by simp))⟩)⟩)
  generalize (⟨#[v0, v1, undef, undef, undef, undef, undef, undef, undef, undef, undef, undef, undef, undef, undef, undef, undef], []⟩ : Act) = a0 at st0 ⊢
  repeat first | refine wp_seq ?_ | refine wp_block ?_ | refine wp_skip ?_ | refine wp_exit ?_
  refine rg (BT := []) (Vl := [VT, VT, Vb (false)]) (B := [⟨2, some 0, some 0, 28, 8, Vv N (a) (b), VT⟩, ⟨3, some 1, some 1, 28, 8, Vv N (c) (d), VT⟩]) (SL' := [(4, Vb (false))]) st0 ⟨ks, ks, ks, trivial⟩ ?_
  intro a1 w1 st1
  clear st0
  by_cases hp : a = c
  ·
    repeat first | refine wp_seq ?_ | refine wp_block ?_ | refine wp_skip ?_ | refine wp_exit ?_
    refine rg (BT := []) (Vl := [Vpt a1 2 0, Vq N (a), Vpt a1 3 0, Vq N (c), Vb (true), Vb (true), Vpt a1 2 4, Vq N (b), Vpt a1 3 4, Vq N (d), Vb (decide ((b) = (d))), Vb (decide ((b) = (d))), Vb (decide ((b) = (d)))]) (B := [⟨2, none, none, 28, 8, Vv N (a) (b), VT⟩, ⟨3, none, none, 28, 8, Vv N (c) (d), VT⟩]) (SL' := [(4, Vb (decide ((b) = (d))))]) st1 ⟨ks, ks, ks, ks, ?s4, ks, ks, ks, ks, ks, ?s10, ks, ks, trivial⟩ ?_
    case s4 =>
      refine kc fun _ ac Wd h hd => ?_
      obtain ⟨v0, hv0, hV0⟩ := h.dp hd 6
      obtain ⟨v1, hv1, hV1⟩ := h.dp hd 8
      exact ⟨#[v0, v1], by simp [hv0, hv1], (cR4Same (show Vq N (a) v0 Wd from hV0) (show Vq N (c) v1 Wd from hV1) (by omega)).mono fun e w h => h.le fun v w hv => hv.trans (congrArg Value.bool (decide_eq_true (hp)))⟩
    case s10 =>
      refine kc fun _ ac Wd h hd => ?_
      obtain ⟨v0, hv0, hV0⟩ := h.dp hd 12
      obtain ⟨v1, hv1, hV1⟩ := h.dp hd 14
      exact ⟨#[v0, v1], by simp [hv0, hv1], cR4Same (show Vq N (b) v0 Wd from hV0) (show Vq N (d) v1 Wd from hV1) (by omega)⟩
    intro a2 w2 st2
    clear st1
    repeat first | refine wp_seq ?_ | refine wp_block ?_ | refine wp_skip ?_ | refine wp_exit ?_
    obtain ⟨vr, r1, r4⟩ := st2.slot (4, Vb (decide ((b) = (d)))) (.head _)
    exact wp_ret (bodyPost_ret (results_tmp rfl _ _ _) st2.defers ⟨_, congrArg Ending.returned (show _ = vr from r1), (by rw [show decide (a = c ∧ b = d) = decide (b = d) by simp [hp]]; exact r4), st2.k.below⟩)
  ·
    repeat first | refine wp_seq ?_ | refine wp_block ?_ | refine wp_skip ?_ | refine wp_exit ?_
    refine rg (BT := []) (Vl := [Vpt a1 2 0, Vq N (a), Vpt a1 3 0, Vq N (c), Vb (false), Vb (false), VT, VT, VT, VT, VT, Vb (false), Vb (false)]) (B := [⟨2, none, none, 28, 8, Vv N (a) (b), VT⟩, ⟨3, none, none, 28, 8, Vv N (c) (d), VT⟩]) (SL' := [(4, Vb (false))]) st1 ⟨ks, ks, ks, ks, ?s4, ks, ks, ks, ks, ks, ks, ks, ks, trivial⟩ ?_
    case s4 =>
      refine kc fun _ ac Wd h hd => ?_
      obtain ⟨v0, hv0, hV0⟩ := h.dp hd 6
      obtain ⟨v1, hv1, hV1⟩ := h.dp hd 8
      exact ⟨#[v0, v1], by simp [hv0, hv1], (cR4Same (show Vq N (a) v0 Wd from hV0) (show Vq N (c) v1 Wd from hV1) (by omega)).mono fun e w h => h.le fun v w hv => hv.trans (congrArg Value.bool (decide_eq_false (hp)))⟩
    intro a2 w2 st2
    clear st1
    repeat first | refine wp_seq ?_ | refine wp_block ?_ | refine wp_skip ?_ | refine wp_exit ?_
    obtain ⟨vr, r1, r4⟩ := st2.slot (4, Vb (false)) (.head _)
    exact wp_ret (bodyPost_ret (results_tmp rfl _ _ _) st2.defers ⟨_, congrArg Ending.returned (show _ = vr from r1), (by rw [show decide (a = c ∧ b = d) = false by simp [hp]]; exact r4), st2.k.below⟩)
set_option maxRecDepth 100000 in
set_option maxHeartbeats 1600000 in
theorem cR5Compare {w : World} {N : Nat} {a b c d : Rat} {v0 v1 : Value} (h0 : Vv N (a) (b) v0 w) (h1 : Vv N (c) (d) v1 w) (h3 : 3 ≤ N) (hN : N ≤ 10000) : Calls Tryz.prog 32 #[v0, v1] w (RV (Vi (if cmpQ a c = 0 then cmpQ b d else cmpQ a c)) w) := by
  go_enter Tryz.func32, Tryz.ntmps32
  have st0 : St w.heap.size w 19 [] [(0, Vv N (a) (b)), (1, Vv N (c) (d))] _ w := St.begin (a := ⟨#[v0, v1, undef, undef, undef, undef, undef, undef, undef, undef, undef, undef, undef, undef, undef, undef, undef, undef, undef], []⟩) rfl rfl (List.forall_mem_cons.2 ⟨⟨_, rfl, h0⟩, (List.forall_mem_cons.2 ⟨⟨_, rfl, h1⟩, (fun _ h => absurd h (by simp))⟩)⟩)
  generalize (⟨#[v0, v1, undef, undef, undef, undef, undef, undef, undef, undef, undef, undef, undef, undef, undef, undef, undef, undef, undef], []⟩ : Act) = a0 at st0 ⊢
  repeat first | refine wp_seq ?_ | refine wp_block ?_ | refine wp_skip ?_ | refine wp_exit ?_
  refine rg (BT := []) (Vl := [VT, VT, Vi (0)]) (B := [⟨2, some 0, some 0, 28, 8, Vv N (a) (b), VT⟩, ⟨3, some 1, some 1, 28, 8, Vv N (c) (d), VT⟩]) (SL' := [(4, Vi (0))]) st0 ⟨ks, ks, ks, trivial⟩ ?_
  intro a1 w1 st1
  clear st0
  repeat first | refine wp_seq ?_ | refine wp_block ?_ | refine wp_skip ?_ | refine wp_exit ?_
  refine rg (BT := []) (Vl := [Vpt a1 2 0, Vq N (a), Vpt a1 3 0, Vq N (c), Vi (cmpQ (a) (c)), Vi (cmpQ (a) (c))]) (B := [⟨2, none, none, 28, 8, Vv N (a) (b), VT⟩, ⟨3, none, none, 28, 8, Vv N (c) (d), VT⟩]) (SL' := [(4, Vi (0)), (5, Vi (cmpQ (a) (c)))]) st1 ⟨ks, ks, ks, ks, ?s4, ks, trivial⟩ ?_
  case s4 =>
    refine kc fun _ ac Wd h hd => ?_
    obtain ⟨v0, hv0, hV0⟩ := h.dp hd 7
    obtain ⟨v1, hv1, hV1⟩ := h.dp hd 9
    exact ⟨#[v0, v1], by simp [hv0, hv1], cR4Compare (show Vq N (a) v0 Wd from hV0) (show Vq N (c) v1 Wd from hV1) (by omega) (by omega)⟩
  intro a2 w2 st2
  clear st1
  by_cases hp : cmpQ a c = 0
  ·
    repeat first | refine wp_seq ?_ | refine wp_block ?_ | refine wp_skip ?_ | refine wp_exit ?_
    refine rg (BT := []) (Vl := [Vi (cmpQ (a) (c)), Vb (false)]) (B := [⟨2, none, none, 28, 8, Vv N (a) (b), VT⟩, ⟨3, none, none, 28, 8, Vv N (c) (d), VT⟩]) (SL' := [(4, Vi (0)), (5, Vi (cmpQ (a) (c))), (12, Vb (false))]) st2 ⟨ks, ?s1, trivial⟩ ?_
    case s1 => refine kr fun _ ac Wd h hd => ?_; obtain ⟨v0, hv0, hV0⟩ := h.dp hd 11; have hV0' : v0 = .int .i64 (cmpQ (a) (c)) := hV0; exact ⟨_, run_neqi rfl (hv0.trans hV0') rfl, congrArg Value.bool (by rw [hp]; rfl)⟩
    intro a3 w3 st3
    clear st2
    repeat first | refine wp_seq ?_ | refine wp_block ?_ | refine wp_skip ?_ | refine wp_exit ?_
    obtain ⟨vc, hc1, hc2⟩ := st3.slot (12, Vb (false)) (.tail _ (.tail _ (.head _)))
    refine wp_cond_false (hc1.trans hc2) ?_
    clear hc1 hc2
    repeat first | refine wp_seq ?_ | refine wp_block ?_ | refine wp_skip ?_ | refine wp_exit ?_
    refine rg (BT := []) (Vl := [Vpt a3 2 4, Vq N (b), Vpt a3 3 4, Vq N (d), Vi (cmpQ (b) (d)), Vi (cmpQ (b) (d))]) (B := [⟨2, none, none, 28, 8, Vv N (a) (b), VT⟩, ⟨3, none, none, 28, 8, Vv N (c) (d), VT⟩]) (SL' := [(5, Vi (cmpQ (a) (c))), (12, Vb (false)), (4, Vi (cmpQ (b) (d)))]) st3 ⟨ks, ks, ks, ks, ?s4, ks, trivial⟩ ?_
    case s4 =>
      refine kc fun _ ac Wd h hd => ?_
      obtain ⟨v0, hv0, hV0⟩ := h.dp hd 15
      obtain ⟨v1, hv1, hV1⟩ := h.dp hd 17
      exact ⟨#[v0, v1], by simp [hv0, hv1], cR4Compare (show Vq N (b) v0 Wd from hV0) (show Vq N (d) v1 Wd from hV1) (by omega) (by omega)⟩
    intro a4 w4 st4
    clear st3
    repeat first | refine wp_seq ?_ | refine wp_block ?_ | refine wp_skip ?_ | refine wp_exit ?_
    obtain ⟨vr, r1, r4⟩ := st4.slot (4, Vi (cmpQ (b) (d))) (.tail _ (.tail _ (.head _)))
    exact wp_ret (bodyPost_ret (results_tmp rfl _ _ _) st4.defers ⟨_, congrArg Ending.returned (show _ = vr from r1), (by rw [if_pos hp]; exact r4), st4.k.below⟩)
  ·
    repeat first | refine wp_seq ?_ | refine wp_block ?_ | refine wp_skip ?_ | refine wp_exit ?_
    refine rg (BT := []) (Vl := [Vi (cmpQ (a) (c)), Vb (true)]) (B := [⟨2, none, none, 28, 8, Vv N (a) (b), VT⟩, ⟨3, none, none, 28, 8, Vv N (c) (d), VT⟩]) (SL' := [(4, Vi (0)), (5, Vi (cmpQ (a) (c))), (12, Vb (true))]) st2 ⟨ks, ?s1, trivial⟩ ?_
    case s1 => refine kr fun _ ac Wd h hd => ?_; obtain ⟨v0, hv0, hV0⟩ := h.dp hd 11; have hV0' : v0 = .int .i64 (cmpQ (a) (c)) := hV0; exact ⟨_, run_neqi rfl (hv0.trans hV0') rfl, congrArg Value.bool (bne_iff_ne.2 hp)⟩
    intro a3 w3 st3
    clear st2
    repeat first | refine wp_seq ?_ | refine wp_block ?_ | refine wp_skip ?_ | refine wp_exit ?_
    obtain ⟨vc, hc1, hc2⟩ := st3.slot (12, Vb (true)) (.tail _ (.tail _ (.head _)))
    refine wp_cond_true (hc1.trans hc2) ?_
    clear hc1 hc2
    repeat first | refine wp_seq ?_ | refine wp_block ?_ | refine wp_skip ?_ | refine wp_exit ?_
    refine rg (BT := []) (Vl := [Vi (cmpQ (a) (c)), Vi (cmpQ (a) (c))]) (B := [⟨2, none, none, 28, 8, Vv N (a) (b), VT⟩, ⟨3, none, none, 28, 8, Vv N (c) (d), VT⟩]) (SL' := [(5, Vi (cmpQ (a) (c))), (12, Vb (true)), (4, Vi (cmpQ (a) (c)))]) st3 ⟨ks, ks, trivial⟩ ?_
    intro a4 w4 st4
    clear st3
    repeat first | refine wp_seq ?_ | refine wp_block ?_ | refine wp_skip ?_ | refine wp_exit ?_
    obtain ⟨vr, r1, r4⟩ := st4.slot (4, Vi (cmpQ (a) (c))) (.tail _ (.tail _ (.head _)))
    exact wp_ret (bodyPost_ret (results_tmp rfl _ _ _) st4.defers ⟨_, congrArg Ending.returned (show _ = vr from r1), (by rw [if_neg hp]; exact r4), st4.k.below⟩)
set_option maxRecDepth 100000 in
set_option maxHeartbeats 1600000 in
theorem cR5Side {w : World} {N : Nat} {a b c d e f : Rat} {v0 v1 v2 : Value} (h0 : Vv N (a) (b) v0 w) (h1 : Vv N (c) (d) v1 w) (h2 : Vv N (e) (f) v2 w) (h3 : 3 ≤ N) (hN : N ≤ 1000) : Calls Tryz.prog 30 #[v0, v1, v2] w (RV (Vi (cmpI ((c - a) * (f - b) - (d - b) * (e - a)).num 0)) w) := by
  go_enter Tryz.func30, Tryz.ntmps30
  have st0 : St w.heap.size w 15 [] [(0, Vv N (a) (b)), (1, Vv N (c) (d)), (2, Vv N (e) (f))] _ w := St.begin (a := ⟨#[v0, v1, v2, undef, undef, undef, undef, undef, undef, undef, undef, undef, undef, undef, undef], []⟩) rfl rfl (List.forall_mem_cons.2 ⟨⟨_, rfl, h0⟩, (List.forall_mem_cons.2 ⟨⟨_, rfl, h1⟩, (List.forall_mem_cons.2 ⟨⟨_, rfl, h2⟩, (fun _ h => absurd h (by simp))⟩)⟩)⟩)
  generalize (⟨#[v0, v1, v2, undef, undef, undef, undef, undef, undef, undef, undef, undef, undef, undef, undef], []⟩ : Act) = a0 at st0 ⊢
  repeat first | refine wp_seq ?_ | refine wp_block ?_ | refine wp_skip ?_ | refine wp_exit ?_
  refine rg (BT := []) (Vl := [VT, VT, VT, Vi (0)]) (B := [⟨3, some 0, some 0, 28, 8, Vv N (a) (b), VT⟩, ⟨4, some 1, some 1, 28, 8, Vv N (c) (d), VT⟩, ⟨5, some 2, some 2, 28, 8, Vv N (e) (f), VT⟩]) (SL' := [(6, Vi (0))]) st0 ⟨ks, ks, ks, ks, trivial⟩ ?_
  intro a1 w1 st1
  clear st0
  repeat first | refine wp_seq ?_ | refine wp_block ?_ | refine wp_skip ?_ | refine wp_exit ?_
  refine rg (BT := []) (Vl := [Vv N (c) (d), Vv N (a) (b), Vv (N + N + 1) ((c) - (a)) ((d) - (b)), Vv N (e) (f), Vv N (a) (b), Vv (N + N + 1) ((e) - (a)) ((f) - (b)), Vq (4 * (N + N + 1) + 1) (((c) - (a)) * ((f) - (b)) - ((d) - (b)) * ((e) - (a))), Vi (cmpI (((c) - (a)) * ((f) - (b)) - ((d) - (b)) * ((e) - (a))).num 0), Vi (cmpI (((c) - (a)) * ((f) - (b)) - ((d) - (b)) * ((e) - (a))).num 0)]) (B := [⟨3, none, none, 28, 8, Vv N (a) (b), VT⟩, ⟨4, none, none, 28, 8, Vv N (c) (d), VT⟩, ⟨5, none, none, 28, 8, Vv N (e) (f), VT⟩]) (SL' := [(6, Vi (cmpI (((c) - (a)) * ((f) - (b)) - ((d) - (b)) * ((e) - (a))).num 0))]) st1 ⟨ks, ks, ?s2, ks, ks, ?s5, ?s6, ?s7, ks, trivial⟩ ?_
  case s2 =>
    refine kc fun _ ac Wd h hd => ?_
    obtain ⟨v0, hv0, hV0⟩ := h.dp hd 7
    obtain ⟨v1, hv1, hV1⟩ := h.dp hd 8
    exact ⟨#[v0, v1], by simp [hv0, hv1], cR5Sub (show Vv N (c) (d) v0 Wd from hV0) (show Vv N (a) (b) v1 Wd from hV1) (by omega) (by omega)⟩
  case s5 =>
    refine kc fun _ ac Wd h hd => ?_
    obtain ⟨v0, hv0, hV0⟩ := h.dp hd 10
    obtain ⟨v1, hv1, hV1⟩ := h.dp hd 11
    exact ⟨#[v0, v1], by simp [hv0, hv1], cR5Sub (show Vv N (e) (f) v0 Wd from hV0) (show Vv N (a) (b) v1 Wd from hV1) (by omega) (by omega)⟩
  case s6 =>
    refine kc fun _ ac Wd h hd => ?_
    obtain ⟨v0, hv0, hV0⟩ := h.dp hd 9
    obtain ⟨v1, hv1, hV1⟩ := h.dp hd 12
    exact ⟨#[v0, v1], by simp [hv0, hv1], cR5Cross (show Vv (N + N + 1) ((c) - (a)) ((d) - (b)) v0 Wd from hV0) (show Vv (N + N + 1) ((e) - (a)) ((f) - (b)) v1 Wd from hV1) (by omega) (by omega)⟩
  case s7 =>
    refine kc fun _ ac Wd h hd => ?_
    obtain ⟨v0, hv0, hV0⟩ := h.dp hd 13
    exact ⟨#[v0], by simp [hv0], cR4Sign (show Vq (4 * (N + N + 1) + 1) (((c) - (a)) * ((f) - (b)) - ((d) - (b)) * ((e) - (a))) v0 Wd from hV0) (by omega)⟩
  intro a2 w2 st2
  clear st1
  repeat first | refine wp_seq ?_ | refine wp_block ?_ | refine wp_skip ?_ | refine wp_exit ?_
  obtain ⟨vr, r1, r4⟩ := st2.slot (6, Vi (cmpI (((c) - (a)) * ((f) - (b)) - ((d) - (b)) * ((e) - (a))).num 0)) (.head _)
  exact wp_ret (bodyPost_ret (results_tmp rfl _ _ _) st2.defers ⟨_, congrArg Ending.returned (show _ = vr from r1), r4, st2.k.below⟩)
set_option maxRecDepth 100000 in
set_option maxHeartbeats 1600000 in
theorem cR5Of {w : World} {p q : Int} {v0 v1 : Value} (h0 : Vi (p) v0 w) (h1 : Vi (q) v1 w) (hp0 : -9223372036854775808 ≤ p) (hp1 : p ≤ 9223372036854775807) (hq0 : -9223372036854775808 ≤ q) (hq1 : q ≤ 9223372036854775807) : Calls Tryz.prog 71 #[v0, v1] w (RV (Vv 3 (Rat.divInt p 1) (Rat.divInt q 1)) w) := by
  go_enter Tryz.func71, Tryz.ntmps71
  have st0 : St w.heap.size w 10 [] [(0, Vi (p)), (1, Vi (q))] _ w := St.begin (a := ⟨#[v0, v1, undef, undef, undef, undef, undef, undef, undef, undef], []⟩) rfl rfl (List.forall_mem_cons.2 ⟨⟨_, rfl, h0⟩, (List.forall_mem_cons.2 ⟨⟨_, rfl, h1⟩, (fun _ h => absurd h (by simp))⟩)⟩)
  generalize (⟨#[v0, v1, undef, undef, undef, undef, undef, undef, undef, undef], []⟩ : Act) = a0 at st0 ⊢
  repeat first | refine wp_seq ?_ | refine wp_block ?_ | refine wp_skip ?_ | refine wp_exit ?_
  refine rg (BT := [(28, 8, 0)]) (Vl := [VT]) (B := [⟨4, some 0, none, 28, 8, VT, VT⟩]) (SL' := [(0, Vi (p)), (1, Vi (q))]) st0 ⟨ks, trivial⟩ ?_
  intro a1 w1 st1
  clear st0
  repeat first | refine wp_seq ?_ | refine wp_block ?_ | refine wp_skip ?_ | refine wp_exit ?_
  refine rg (BT := [(28, 8, 0)]) (Vl := [Vi (p), Vq 3 (Rat.divInt (p) (1)), Vi (q), Vq 3 (Rat.divInt (q) (1)), Vv 3 (Rat.divInt (p) (1)) (Rat.divInt (q) (1)), VT]) (B := [⟨4, none, some 5, 28, 8, Vv 3 (Rat.divInt (p) (1)) (Rat.divInt (q) (1)), VT⟩]) (SL' := []) st1 ⟨ks, ?s1, ks, ?s3, ?s4, ks, trivial⟩ ?_
  case s1 =>
    refine kc fun _ ac Wd h hd => ?_
    obtain ⟨v0, hv0, hV0⟩ := h.dp hd 5
    exact ⟨#[v0, .int .i64 (1)], by simp [hv0, eval_const], cR4Of (show Vi (p) v0 Wd from hV0) (show Vi (1) (.int .i64 (1)) Wd from rfl) (by omega) (by omega) (by omega) (by omega)⟩
  case s3 =>
    refine kc fun _ ac Wd h hd => ?_
    obtain ⟨v0, hv0, hV0⟩ := h.dp hd 7
    exact ⟨#[v0, .int .i64 (1)], by simp [hv0, eval_const], cR4Of (show Vi (q) v0 Wd from hV0) (show Vi (1) (.int .i64 (1)) Wd from rfl) (by omega) (by omega) (by omega) (by omega)⟩
  case s4 =>
    refine kr fun _ ac Wd h hd => ?_
    obtain ⟨v0, hv0, hV0⟩ := h.dp hd 6
    obtain ⟨v1, hv1, hV1⟩ := h.dp hd 8
    exact build_Vec rfl hv0 hv1 (AggV_Vq _ _) (AggV_Vq _ _) (show Vq 3 (Rat.divInt (p) (1)) v0 Wd from hV0) (show Vq 3 (Rat.divInt (q) (1)) v1 Wd from hV1)
  intro a2 w2 st2
  clear st1
  repeat first | refine wp_seq ?_ | refine wp_block ?_ | refine wp_skip ?_ | refine wp_exit ?_
  obtain ⟨g, cs, r1, r2, r3, r4, r5⟩ := st2.res ⟨4, none, none, 28, 8, Vv 3 (Rat.divInt (p) (1)) (Rat.divInt (q) (1)), VT⟩ (.head _) rfl rfl
  exact wp_ret (bodyPost_ret (results_cell_row rfl _ _ g 28 cs (0, 0) _ r1 r2 Tryz.underlying28 rfl (by rw [r3]; exact size_Vec)) st2.defers ⟨_, rfl, r4, r5⟩)
end Go.Proofs.YteaoaoknpihchaaGreat
