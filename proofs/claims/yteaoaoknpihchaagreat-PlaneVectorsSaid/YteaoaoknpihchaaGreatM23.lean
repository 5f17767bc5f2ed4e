/- Contracts of the package integer and its reference: Inverse and Align of package plane. Compose of package plane. -/
import Derived.Test.YteaoaoknpihchaaGreatM22
import Derived.Test.YteaoaoknpihchaaGreatM7
set_option linter.unusedVariables false
namespace Go.Proofs.YteaoaoknpihchaaGreat
open Go.RowKit

set_option maxRecDepth 100000 in
set_option maxHeartbeats 1600000 in
theorem cInverse {w : World} {N : Nat} {c s x y : Rat} {v0 : Value} (h0 : Vp N (c) (s) (x) (y) v0 w) (hN1 : 1 ≤ N) (hN : N ≤ 500) : Calls Tryz.prog 50 #[v0] w (RV (Vp (8 * N + 30) c (-s) (c * (x * Rat.divInt (-1) 1) + - -s * (y * Rat.divInt (-1) 1)) (-s * (x * Rat.divInt (-1) 1) + c * (y * Rat.divInt (-1) 1))) w) := by
  go_enter Tryz.func50, Tryz.ntmps50
  have st0 : St w.heap.size w 15 [] [(0, Vp N (c) (s) (x) (y))] _ w := St.begin (a := ⟨#[v0, undef, undef, undef, undef, undef, undef, undef, undef, undef, undef, undef, undef, undef, undef], []⟩) rfl rfl (List.forall_mem_cons.2 ⟨⟨_, rfl, h0⟩, (fun _ h => absurd h (by simp))⟩)
  generalize (⟨#[v0, undef, undef, undef, undef, undef, undef, undef, undef, undef, undef, undef, undef, undef, undef], []⟩ : Act) = a0 at st0 ⊢
  repeat first | refine wp_seq ?_ | refine wp_block ?_ | refine wp_skip ?_ | refine wp_exit ?_
  refine rg (BT := [(47, 8, 0), (60, 16, 0)]) (Vl := [VT, VT]) (B := [⟨1, some 0, some 0, 60, 16, Vp N (c) (s) (x) (y), VT⟩, ⟨2, some 1, none, 60, 16, VT, VT⟩]) (SL' := []) st0 ⟨ks, ks, trivial⟩ ?_
  intro a1 w1 st1
  clear st0
  repeat first | refine wp_seq ?_ | refine wp_block ?_ | refine wp_skip ?_ | refine wp_exit ?_
  refine rg (BT := [(47, 8, 0), (60, 16, 0)]) (Vl := [Vpt a1 1 0, Vv N (c) (s), Vv N (c) (-(s)), VT, VT]) (B := [⟨1, none, none, 60, 16, Vp N (c) (s) (x) (y), VT⟩, ⟨2, none, none, 60, 16, VT, VT⟩, ⟨3, some 3, some 4, 47, 8, Vv N (c) (-(s)), VT⟩]) (SL' := []) st1 ⟨ks, ks, ?s2, ks, ks, trivial⟩ ?_
  case s2 => refine kc fun _ ac Wd h hd => ?_; obtain ⟨v0, hv0, hV0⟩ := h.dp hd 5; exact ⟨#[v0], by simp [hv0], cBack (show Vv N (c) (s) v0 Wd from hV0) (by omega)⟩
  intro a2 w2 st2
  clear st1
  repeat first | refine wp_seq ?_ | refine wp_block ?_ | refine wp_skip ?_ | refine wp_exit ?_
  refine rg (BT := [(47, 8, 0), (60, 16, 0)]) (Vl := [Vv N (c) (-(s)), Vv N (c) (-(s)), Vpt a2 1 8, Vv N (x) (y), Vq 3 (Rat.divInt (-1) (1)), Vv ((max N 3) + (max N 3)) ((x) * (Rat.divInt (-1) (1))) ((y) * (Rat.divInt (-1) (1))), Vv (4 * (max N ((max N 3) + (max N 3))) + 1) ((c) * ((x) * (Rat.divInt (-1) (1))) + -(-(s)) * ((y) * (Rat.divInt (-1) (1)))) ((-(s)) * ((x) * (Rat.divInt (-1) (1))) + (c) * ((y) * (Rat.divInt (-1) (1)))), Vp (max N (4 * (max N ((max N 3) + (max N 3))) + 1)) (c) (-(s)) ((c) * ((x) * (Rat.divInt (-1) (1))) + -(-(s)) * ((y) * (Rat.divInt (-1) (1)))) ((-(s)) * ((x) * (Rat.divInt (-1) (1))) + (c) * ((y) * (Rat.divInt (-1) (1)))), VT]) (B := [⟨1, none, none, 60, 16, Vp N (c) (s) (x) (y), VT⟩, ⟨2, none, some 8, 60, 16, Vp (max N (4 * (max N ((max N 3) + (max N 3))) + 1)) (c) (-(s)) ((c) * ((x) * (Rat.divInt (-1) (1))) + -(-(s)) * ((y) * (Rat.divInt (-1) (1)))) ((-(s)) * ((x) * (Rat.divInt (-1) (1))) + (c) * ((y) * (Rat.divInt (-1) (1)))), VT⟩, ⟨3, none, none, 47, 8, Vv N (c) (-(s)), VT⟩]) (SL' := []) st2 ⟨ks, ks, ks, ks, ?s4, ?s5, ?s6, ?s7, ks, trivial⟩ ?_
  case s4 =>
    refine kc fun _ ac Wd h hd => ?_
    exact ⟨#[.int .i64 (-1), .int .i64 (1)], by simp [eval_const], cQOf (show Vi (-1) (.int .i64 (-1)) Wd from rfl) (show Vi (1) (.int .i64 (1)) Wd from rfl) (by omega) (by omega) (by omega) (by omega)⟩
  case s5 =>
    refine kc fun _ ac Wd h hd => ?_
    obtain ⟨v0, hv0, hV0⟩ := h.dp hd 10
    obtain ⟨v1, hv1, hV1⟩ := h.dp hd 11
    exact ⟨#[v0, v1], by simp [hv0, hv1], cVScale (Vv_le (M := (max N 3)) (show Vv N (x) (y) v0 Wd from hV0) (by omega)) (Vq_le (M := (max N 3)) (show Vq 3 (Rat.divInt (-1) (1)) v1 Wd from hV1) (by omega)) (by omega) (by omega)⟩
  case s6 =>
    refine kc fun _ ac Wd h hd => ?_
    obtain ⟨v0, hv0, hV0⟩ := h.dp hd 8
    obtain ⟨v1, hv1, hV1⟩ := h.dp hd 12
    exact ⟨#[v0, v1], by simp [hv0, hv1], cRotate (Vv_le (M := (max N ((max N 3) + (max N 3)))) (show Vv N (c) (-(s)) v0 Wd from hV0) (by omega)) (Vv_le (M := (max N ((max N 3) + (max N 3)))) (show Vv ((max N 3) + (max N 3)) ((x) * (Rat.divInt (-1) (1))) ((y) * (Rat.divInt (-1) (1))) v1 Wd from hV1) (by omega)) (by omega) (by omega)⟩
  case s7 =>
    refine kr fun _ ac Wd h hd => ?_
    obtain ⟨v0, hv0, hV0⟩ := h.dp hd 7
    obtain ⟨v1, hv1, hV1⟩ := h.dp hd 13
    exact build_Place rfl hv0 hv1 (AggV_Vv _ _ _) (AggV_Vv _ _ _) (Vv_le (M := (max N (4 * (max N ((max N 3) + (max N 3))) + 1))) (show Vv N (c) (-(s)) v0 Wd from hV0) (by omega)) (Vv_le (M := (max N (4 * (max N ((max N 3) + (max N 3))) + 1))) (show Vv (4 * (max N ((max N 3) + (max N 3))) + 1) ((c) * ((x) * (Rat.divInt (-1) (1))) + -(-(s)) * ((y) * (Rat.divInt (-1) (1)))) ((-(s)) * ((x) * (Rat.divInt (-1) (1))) + (c) * ((y) * (Rat.divInt (-1) (1)))) v1 Wd from hV1) (by omega))
  intro a3 w3 st3
  clear st2
  repeat first | refine wp_seq ?_ | refine wp_block ?_ | refine wp_skip ?_ | refine wp_exit ?_
  obtain ⟨g, cs, r1, r2, r3, r4, r5⟩ := st3.res ⟨2, none, none, 60, 16, Vp (max N (4 * (max N ((max N 3) + (max N 3))) + 1)) (c) (-(s)) ((c) * ((x) * (Rat.divInt (-1) (1))) + -(-(s)) * ((y) * (Rat.divInt (-1) (1)))) ((-(s)) * ((x) * (Rat.divInt (-1) (1))) + (c) * ((y) * (Rat.divInt (-1) (1)))), VT⟩ (.tail _ (.head _)) rfl rfl
  exact wp_ret (bodyPost_ret (results_cell_row rfl _ _ g 60 cs (0, 0) _ r1 r2 Tryz.underlying60 rfl (by rw [r3]; exact size_Place)) st3.defers ⟨_, rfl, (Vp_le r4 (by omega)), r5⟩)
set_option maxRecDepth 100000 in
set_option maxHeartbeats 1600000 in
theorem cAlign {w : World} {N : Nat} {a b c d : Rat} {v0 v1 : Value} (h0 : Vv N (a) (b) v0 w) (h1 : Vv N (c) (d) v1 w) (hN1 : 1 ≤ N) (hN : N ≤ 1000) : Calls Tryz.prog 46 #[v0, v1] w (RV (VTup (Vv (8 * N + 2) (alX ((a) * (a) + (b) * (b)) ((c) * (c) + (d) * (d)) (a * c + b * d)) (alX ((a) * (a) + (b) * (b)) ((c) * (c) + (d) * (d)) (a * d + -b * c))) (Vi (alE ((a) * (a) + (b) * (b)) ((c) * (c) + (d) * (d))))) w) := by
  go_enter Tryz.func46, Tryz.ntmps46
  have st0 : St w.heap.size w 41 [] [(0, Vv N (a) (b)), (1, Vv N (c) (d))] _ w := St.begin (a := ⟨#[v0, v1, undef, undef, undef, undef, undef, undef, undef, undef, undef, undef, undef, undef, undef, undef, undef, undef, undef, undef, undef, undef, undef, undef, undef, undef, undef, undef, undef, undef, undef, undef, undef, undef, undef, undef, undef, undef, undef, undef, undef], []⟩) rfl rfl (List.forall_mem_cons.2 ⟨⟨_, rfl, h0⟩, (List.forall_mem_cons.2 ⟨⟨_, rfl, h1⟩, (fun _ h => absurd h (by simp))⟩)⟩)
  generalize (⟨#[v0, v1, undef, undef, undef, undef, undef, undef, undef, undef, undef, undef, undef, undef, undef, undef, undef, undef, undef, undef, undef, undef, undef, undef, undef, undef, undef, undef, undef, undef, undef, undef, undef, undef, undef, undef, undef, undef, undef, undef, undef], []⟩ : Act) = a0 at st0 ⊢
  repeat first | refine wp_seq ?_ | refine wp_block ?_ | refine wp_skip ?_ | refine wp_exit ?_
  refine rg (BT := [(26, 4, 0), (47, 8, 0)]) (Vl := [VT, VT, VT, Vi (0)]) (B := [⟨2, some 0, some 0, 28, 8, Vv N (a) (b), VT⟩, ⟨3, some 1, some 1, 28, 8, Vv N (c) (d), VT⟩, ⟨4, some 2, none, 47, 8, VT, VT⟩]) (SL' := [(5, Vi (0))]) st0 ⟨ks, ks, ks, ks, trivial⟩ ?_
  intro a1 w1 st1
  clear st0
  repeat first | refine wp_seq ?_ | refine wp_block ?_ | refine wp_skip ?_ | refine wp_exit ?_
  refine rg (BT := [(26, 4, 0), (47, 8, 0)]) (Vl := [Vv N (a) (b), Vv N (a) (b), Vq (4 * N + 1) ((a) * (a) + (b) * (b)), Vv N (c) (d), Vv N (c) (d), Vq (4 * N + 1) ((c) * (c) + (d) * (d)), VT, VT, VT, VT]) (B := [⟨2, none, none, 28, 8, Vv N (a) (b), VT⟩, ⟨3, none, none, 28, 8, Vv N (c) (d), VT⟩, ⟨4, none, none, 47, 8, VT, VT⟩, ⟨6, some 6, some 8, 26, 4, Vq (4 * N + 1) ((a) * (a) + (b) * (b)), VT⟩, ⟨7, some 7, some 9, 26, 4, Vq (4 * N + 1) ((c) * (c) + (d) * (d)), VT⟩]) (SL' := [(5, Vi (0))]) st1 ⟨ks, ks, ?s2, ks, ks, ?s5, ks, ks, ks, ks, trivial⟩ ?_
  case s2 =>
    refine kc fun _ ac Wd h hd => ?_
    obtain ⟨v0, hv0, hV0⟩ := h.dp hd 8
    obtain ⟨v1, hv1, hV1⟩ := h.dp hd 9
    exact ⟨#[v0, v1], by simp [hv0, hv1], cDot (show Vv N (a) (b) v0 Wd from hV0) (show Vv N (a) (b) v1 Wd from hV1) (by omega) (by omega)⟩
  case s5 =>
    refine kc fun _ ac Wd h hd => ?_
    obtain ⟨v0, hv0, hV0⟩ := h.dp hd 11
    obtain ⟨v1, hv1, hV1⟩ := h.dp hd 12
    exact ⟨#[v0, v1], by simp [hv0, hv1], cDot (show Vv N (c) (d) v0 Wd from hV0) (show Vv N (c) (d) v1 Wd from hV1) (by omega) (by omega)⟩
  intro a2 w2 st2
  clear st1
  by_cases hs : ((a) * (a) + (b) * (b)) = 0
  ·
    repeat first | refine wp_seq ?_ | refine wp_block ?_ | refine wp_skip ?_ | refine wp_exit ?_
    refine rg (BT := [(26, 4, 0), (47, 8, 0)]) (Vl := [Vq (4 * N + 1) ((a) * (a) + (b) * (b)), Vi (cmpI ((a) * (a) + (b) * (b)).num 0), Vb (true), Vb (true), VT, VT, VT, Vb (true), Vb (true)]) (B := [⟨2, none, none, 28, 8, Vv N (a) (b), VT⟩, ⟨3, none, none, 28, 8, Vv N (c) (d), VT⟩, ⟨4, none, none, 47, 8, VT, VT⟩, ⟨6, none, none, 26, 4, Vq (4 * N + 1) ((a) * (a) + (b) * (b)), VT⟩, ⟨7, none, none, 26, 4, Vq (4 * N + 1) ((c) * (c) + (d) * (d)), VT⟩]) (SL' := [(5, Vi (0)), (14, Vb (true))]) st2 ⟨ks, ?s1, ?s2, ks, ks, ks, ks, ks, ks, trivial⟩ ?_
    case s1 => refine kc fun _ ac Wd h hd => ?_; obtain ⟨v0, hv0, hV0⟩ := h.dp hd 15; exact ⟨#[v0], by simp [hv0], cQSign (show Vq (4 * N + 1) ((a) * (a) + (b) * (b)) v0 Wd from hV0) (by omega)⟩
    case s2 =>
      refine kr fun _ ac Wd h hd => ?_
      obtain ⟨v0, hv0, hV0⟩ := h.dp hd 16
      have hV0' : v0 = .int .i64 (cmpI ((a) * (a) + (b) * (b)).num 0) := hV0
      exact ⟨_, run_eqi rfl (hv0.trans hV0') rfl, congrArg Value.bool (by rw [cmp0]; exact decide_eq_true (Rat.num_eq_zero.2 hs))⟩
    intro a3 w3 st3
    clear st2
    repeat first | refine wp_seq ?_ | refine wp_block ?_ | refine wp_skip ?_ | refine wp_exit ?_
    obtain ⟨vc, hc1, hc2⟩ := st3.slot (14, Vb (true)) (.tail _ (.head _))
    refine wp_cond_true (hc1.trans hc2) ?_
    clear hc1 hc2
    repeat first | refine wp_seq ?_ | refine wp_block ?_ | refine wp_skip ?_ | refine wp_exit ?_
    refine rg (BT := [(26, 4, 0), (47, 8, 0)]) (Vl := [Vv 1 (0) (0), VT, Vi (1)]) (B := [⟨2, none, none, 28, 8, Vv N (a) (b), VT⟩, ⟨3, none, none, 28, 8, Vv N (c) (d), VT⟩, ⟨4, none, some 1, 47, 8, Vv 1 (0) (0), VT⟩, ⟨6, none, none, 26, 4, Vq (4 * N + 1) ((a) * (a) + (b) * (b)), VT⟩, ⟨7, none, none, 26, 4, Vq (4 * N + 1) ((c) * (c) + (d) * (d)), VT⟩]) (SL' := [(14, Vb (true)), (5, Vi (1))]) st3 ⟨?s0, ks, ks, trivial⟩ ?_
    case s0 => exact kr fun _ ac Wd h hd => build_Turn0 rfl
    intro a4 w4 st4
    clear st3
    repeat first | refine wp_seq ?_ | refine wp_block ?_ | refine wp_skip ?_ | refine wp_exit ?_
    obtain ⟨g, cs, r1, r2, r3, r4, r5⟩ := st4.res ⟨4, none, none, 47, 8, Vv 1 (0) (0), VT⟩ (.tail _ (.tail _ (.head _))) rfl rfl
    obtain ⟨vr, q1, q4⟩ := st4.slot (5, Vi (1)) (.tail _ (.head _))
    exact wp_ret (bodyPost_ret (results_cell1 rfl _ _ g 47 cs (0, 0) _ vr r1 q1 r2 Tryz.underlying47 rfl (by rw [r3]; exact size_Turn)) st4.defers ⟨_, rfl, ⟨_, _, rfl, (by rw [show alX ((a) * (a) + (b) * (b)) ((c) * (c) + (d) * (d)) (a * c + b * d) = 0 from if_pos (.inl hs), show alX ((a) * (a) + (b) * (b)) ((c) * (c) + (d) * (d)) (a * d + -b * c) = 0 from if_pos (.inl hs)]; exact Vv_le r4 (by omega)), (by rw [show alE ((a) * (a) + (b) * (b)) ((c) * (c) + (d) * (d)) = 1 from if_pos (.inl hs)]; exact q4)⟩, r5⟩)
  ·
    by_cases ho : ((c) * (c) + (d) * (d)) = 0
    ·
      repeat first | refine wp_seq ?_ | refine wp_block ?_ | refine wp_skip ?_ | refine wp_exit ?_
      refine rg (BT := [(26, 4, 0), (47, 8, 0)]) (Vl := [Vq (4 * N + 1) ((a) * (a) + (b) * (b)), Vi (cmpI ((a) * (a) + (b) * (b)).num 0), Vb (false), Vb (false), Vq (4 * N + 1) ((c) * (c) + (d) * (d)), Vi (cmpI ((c) * (c) + (d) * (d)).num 0), Vb (true), Vb (true), Vb (true)]) (B := [⟨2, none, none, 28, 8, Vv N (a) (b), VT⟩, ⟨3, none, none, 28, 8, Vv N (c) (d), VT⟩, ⟨4, none, none, 47, 8, VT, VT⟩, ⟨6, none, none, 26, 4, Vq (4 * N + 1) ((a) * (a) + (b) * (b)), VT⟩, ⟨7, none, none, 26, 4, Vq (4 * N + 1) ((c) * (c) + (d) * (d)), VT⟩]) (SL' := [(5, Vi (0)), (14, Vb (true))]) st2 ⟨ks, ?s1, ?s2, ks, ks, ?s5, ?s6, ks, ks, trivial⟩ ?_
      case s1 => refine kc fun _ ac Wd h hd => ?_; obtain ⟨v0, hv0, hV0⟩ := h.dp hd 15; exact ⟨#[v0], by simp [hv0], cQSign (show Vq (4 * N + 1) ((a) * (a) + (b) * (b)) v0 Wd from hV0) (by omega)⟩
      case s2 =>
        refine kr fun _ ac Wd h hd => ?_
        obtain ⟨v0, hv0, hV0⟩ := h.dp hd 16
        have hV0' : v0 = .int .i64 (cmpI ((a) * (a) + (b) * (b)).num 0) := hV0
        exact ⟨_, run_eqi rfl (hv0.trans hV0') rfl, congrArg Value.bool (by rw [cmp0]; exact decide_eq_false (fun e => hs (Rat.num_eq_zero.1 e)))⟩
      case s5 => refine kc fun _ ac Wd h hd => ?_; obtain ⟨v0, hv0, hV0⟩ := h.dp hd 19; exact ⟨#[v0], by simp [hv0], cQSign (show Vq (4 * N + 1) ((c) * (c) + (d) * (d)) v0 Wd from hV0) (by omega)⟩
      case s6 =>
        refine kr fun _ ac Wd h hd => ?_
        obtain ⟨v0, hv0, hV0⟩ := h.dp hd 20
        have hV0' : v0 = .int .i64 (cmpI ((c) * (c) + (d) * (d)).num 0) := hV0
        exact ⟨_, run_eqi rfl (hv0.trans hV0') rfl, congrArg Value.bool (by rw [cmp0]; exact decide_eq_true (Rat.num_eq_zero.2 ho))⟩
      intro a3 w3 st3
      clear st2
      repeat first | refine wp_seq ?_ | refine wp_block ?_ | refine wp_skip ?_ | refine wp_exit ?_
      obtain ⟨vc, hc1, hc2⟩ := st3.slot (14, Vb (true)) (.tail _ (.head _))
      refine wp_cond_true (hc1.trans hc2) ?_
      clear hc1 hc2
      repeat first | refine wp_seq ?_ | refine wp_block ?_ | refine wp_skip ?_ | refine wp_exit ?_
      refine rg (BT := [(26, 4, 0), (47, 8, 0)]) (Vl := [Vv 1 (0) (0), VT, Vi (1)]) (B := [⟨2, none, none, 28, 8, Vv N (a) (b), VT⟩, ⟨3, none, none, 28, 8, Vv N (c) (d), VT⟩, ⟨4, none, some 1, 47, 8, Vv 1 (0) (0), VT⟩, ⟨6, none, none, 26, 4, Vq (4 * N + 1) ((a) * (a) + (b) * (b)), VT⟩, ⟨7, none, none, 26, 4, Vq (4 * N + 1) ((c) * (c) + (d) * (d)), VT⟩]) (SL' := [(14, Vb (true)), (5, Vi (1))]) st3 ⟨?s0, ks, ks, trivial⟩ ?_
      case s0 => exact kr fun _ ac Wd h hd => build_Turn0 rfl
      intro a4 w4 st4
      clear st3
      repeat first | refine wp_seq ?_ | refine wp_block ?_ | refine wp_skip ?_ | refine wp_exit ?_
      obtain ⟨g, cs, r1, r2, r3, r4, r5⟩ := st4.res ⟨4, none, none, 47, 8, Vv 1 (0) (0), VT⟩ (.tail _ (.tail _ (.head _))) rfl rfl
      obtain ⟨vr, q1, q4⟩ := st4.slot (5, Vi (1)) (.tail _ (.head _))
      exact wp_ret (bodyPost_ret (results_cell1 rfl _ _ g 47 cs (0, 0) _ vr r1 q1 r2 Tryz.underlying47 rfl (by rw [r3]; exact size_Turn)) st4.defers ⟨_, rfl, ⟨_, _, rfl, (by rw [show alX ((a) * (a) + (b) * (b)) ((c) * (c) + (d) * (d)) (a * c + b * d) = 0 from if_pos (.inr (.inl ho)), show alX ((a) * (a) + (b) * (b)) ((c) * (c) + (d) * (d)) (a * d + -b * c) = 0 from if_pos (.inr (.inl ho))]; exact Vv_le r4 (by omega)), (by rw [show alE ((a) * (a) + (b) * (b)) ((c) * (c) + (d) * (d)) = 1 from if_pos (.inr ho)]; exact q4)⟩, r5⟩)
    ·
      repeat first | refine wp_seq ?_ | refine wp_block ?_ | refine wp_skip ?_ | refine wp_exit ?_
      refine rg (BT := [(26, 4, 0), (47, 8, 0)]) (Vl := [Vq (4 * N + 1) ((a) * (a) + (b) * (b)), Vi (cmpI ((a) * (a) + (b) * (b)).num 0), Vb (false), Vb (false), Vq (4 * N + 1) ((c) * (c) + (d) * (d)), Vi (cmpI ((c) * (c) + (d) * (d)).num 0), Vb (false), Vb (false), Vb (false)]) (B := [⟨2, none, none, 28, 8, Vv N (a) (b), VT⟩, ⟨3, none, none, 28, 8, Vv N (c) (d), VT⟩, ⟨4, none, none, 47, 8, VT, VT⟩, ⟨6, none, none, 26, 4, Vq (4 * N + 1) ((a) * (a) + (b) * (b)), VT⟩, ⟨7, none, none, 26, 4, Vq (4 * N + 1) ((c) * (c) + (d) * (d)), VT⟩]) (SL' := [(5, Vi (0)), (14, Vb (false))]) st2 ⟨ks, ?s1, ?s2, ks, ks, ?s5, ?s6, ks, ks, trivial⟩ ?_
      case s1 => refine kc fun _ ac Wd h hd => ?_; obtain ⟨v0, hv0, hV0⟩ := h.dp hd 15; exact ⟨#[v0], by simp [hv0], cQSign (show Vq (4 * N + 1) ((a) * (a) + (b) * (b)) v0 Wd from hV0) (by omega)⟩
      case s2 =>
        refine kr fun _ ac Wd h hd => ?_
        obtain ⟨v0, hv0, hV0⟩ := h.dp hd 16
        have hV0' : v0 = .int .i64 (cmpI ((a) * (a) + (b) * (b)).num 0) := hV0
        exact ⟨_, run_eqi rfl (hv0.trans hV0') rfl, congrArg Value.bool (by rw [cmp0]; exact decide_eq_false (fun e => hs (Rat.num_eq_zero.1 e)))⟩
      case s5 => refine kc fun _ ac Wd h hd => ?_; obtain ⟨v0, hv0, hV0⟩ := h.dp hd 19; exact ⟨#[v0], by simp [hv0], cQSign (show Vq (4 * N + 1) ((c) * (c) + (d) * (d)) v0 Wd from hV0) (by omega)⟩
      case s6 =>
        refine kr fun _ ac Wd h hd => ?_
        obtain ⟨v0, hv0, hV0⟩ := h.dp hd 20
        have hV0' : v0 = .int .i64 (cmpI ((c) * (c) + (d) * (d)).num 0) := hV0
        exact ⟨_, run_eqi rfl (hv0.trans hV0') rfl, congrArg Value.bool (by rw [cmp0]; exact decide_eq_false (fun e => ho (Rat.num_eq_zero.1 e)))⟩
      intro a3 w3 st3
      clear st2
      repeat first | refine wp_seq ?_ | refine wp_block ?_ | refine wp_skip ?_ | refine wp_exit ?_
      obtain ⟨vc, hc1, hc2⟩ := st3.slot (14, Vb (false)) (.tail _ (.head _))
      refine wp_cond_false (hc1.trans hc2) ?_
      clear hc1 hc2
      by_cases he : ((a) * (a) + (b) * (b)) = ((c) * (c) + (d) * (d))
      ·
        repeat first | refine wp_seq ?_ | refine wp_block ?_ | refine wp_skip ?_ | refine wp_exit ?_
        refine rg (BT := [(26, 4, 0), (47, 8, 0)]) (Vl := [Vq (4 * N + 1) ((a) * (a) + (b) * (b)), Vq (4 * N + 1) ((c) * (c) + (d) * (d)), Vb (true), Vb (false), Vb (false)]) (B := [⟨2, none, none, 28, 8, Vv N (a) (b), VT⟩, ⟨3, none, none, 28, 8, Vv N (c) (d), VT⟩, ⟨4, none, none, 47, 8, VT, VT⟩, ⟨6, none, none, 26, 4, Vq (4 * N + 1) ((a) * (a) + (b) * (b)), VT⟩, ⟨7, none, none, 26, 4, Vq (4 * N + 1) ((c) * (c) + (d) * (d)), VT⟩]) (SL' := [(5, Vi (0)), (14, Vb (false)), (24, Vb (false))]) st3 ⟨ks, ks, ?s2, ks, ks, trivial⟩ ?_
        case s2 =>
          refine kc fun _ ac Wd h hd => ?_
          obtain ⟨v0, hv0, hV0⟩ := h.dp hd 25
          obtain ⟨v1, hv1, hV1⟩ := h.dp hd 26
          exact ⟨#[v0, v1], by simp [hv0, hv1], (cQSame (show Vq (4 * N + 1) ((a) * (a) + (b) * (b)) v0 Wd from hV0) (show Vq (4 * N + 1) ((c) * (c) + (d) * (d)) v1 Wd from hV1) (by omega) (by omega) (by omega) (by omega)).mono fun e w h => h.le fun v w hv => hv.trans (congrArg Value.bool (decide_eq_true (he)))⟩
        intro a4 w4 st4
        clear st3
        repeat first | refine wp_seq ?_ | refine wp_block ?_ | refine wp_skip ?_ | refine wp_exit ?_
        obtain ⟨vc, hc1, hc2⟩ := st4.slot (24, Vb (false)) (.tail _ (.tail _ (.head _)))
        refine wp_cond_false (hc1.trans hc2) ?_
        clear hc1 hc2
        repeat first | refine wp_seq ?_ | refine wp_block ?_ | refine wp_skip ?_ | refine wp_exit ?_
        refine rg (BT := [(26, 4, 0), (47, 8, 0)]) (Vl := [Vv N (a) (b), Vv N (c) (d), Vq (4 * N + 1) ((a) * (c) + (b) * (d)), Vq (4 * N + 1) ((a) * (a) + (b) * (b)), Vq ((4 * N + 1) + (4 * N + 1)) (((a) * (c) + (b) * (d)) / ((a) * (a) + (b) * (b))), Vv N (a) (b), Vv N (c) (d), Vq (4 * N + 1) ((a) * (d) + -(b) * (c)), Vq (4 * N + 1) ((a) * (a) + (b) * (b)), Vq ((4 * N + 1) + (4 * N + 1)) (((a) * (d) + -(b) * (c)) / ((a) * (a) + (b) * (b))), Vv ((4 * N + 1) + (4 * N + 1)) (((a) * (c) + (b) * (d)) / ((a) * (a) + (b) * (b))) (((a) * (d) + -(b) * (c)) / ((a) * (a) + (b) * (b))), VT, Vi (0)]) (B := [⟨2, none, none, 28, 8, Vv N (a) (b), VT⟩, ⟨3, none, none, 28, 8, Vv N (c) (d), VT⟩, ⟨4, none, some 11, 47, 8, Vv ((4 * N + 1) + (4 * N + 1)) (((a) * (c) + (b) * (d)) / ((a) * (a) + (b) * (b))) (((a) * (d) + -(b) * (c)) / ((a) * (a) + (b) * (b))), VT⟩, ⟨6, none, none, 26, 4, Vq (4 * N + 1) ((a) * (a) + (b) * (b)), VT⟩, ⟨7, none, none, 26, 4, Vq (4 * N + 1) ((c) * (c) + (d) * (d)), VT⟩]) (SL' := [(14, Vb (false)), (24, Vb (false)), (5, Vi (0))]) st4 ⟨ks, ks, ?s2, ks, ?s4, ks, ks, ?s7, ks, ?s9, ?s10, ks, ks, trivial⟩ ?_
        case s2 =>
          refine kc fun _ ac Wd h hd => ?_
          obtain ⟨v0, hv0, hV0⟩ := h.dp hd 30
          obtain ⟨v1, hv1, hV1⟩ := h.dp hd 31
          exact ⟨#[v0, v1], by simp [hv0, hv1], cDot (show Vv N (a) (b) v0 Wd from hV0) (show Vv N (c) (d) v1 Wd from hV1) (by omega) (by omega)⟩
        case s4 =>
          refine kc fun _ ac Wd h hd => ?_
          obtain ⟨v0, hv0, hV0⟩ := h.dp hd 32
          obtain ⟨v1, hv1, hV1⟩ := h.dp hd 33
          exact ⟨#[v0, v1], by simp [hv0, hv1], cQDiv (show Vq (4 * N + 1) ((a) * (c) + (b) * (d)) v0 Wd from hV0) (show Vq (4 * N + 1) ((a) * (a) + (b) * (b)) v1 Wd from hV1) (by omega) (by omega) (by omega) (by omega)⟩
        case s7 =>
          refine kc fun _ ac Wd h hd => ?_
          obtain ⟨v0, hv0, hV0⟩ := h.dp hd 35
          obtain ⟨v1, hv1, hV1⟩ := h.dp hd 36
          exact ⟨#[v0, v1], by simp [hv0, hv1], cCross (show Vv N (a) (b) v0 Wd from hV0) (show Vv N (c) (d) v1 Wd from hV1) (by omega) (by omega)⟩
        case s9 =>
          refine kc fun _ ac Wd h hd => ?_
          obtain ⟨v0, hv0, hV0⟩ := h.dp hd 37
          obtain ⟨v1, hv1, hV1⟩ := h.dp hd 38
          exact ⟨#[v0, v1], by simp [hv0, hv1], cQDiv (show Vq (4 * N + 1) ((a) * (d) + -(b) * (c)) v0 Wd from hV0) (show Vq (4 * N + 1) ((a) * (a) + (b) * (b)) v1 Wd from hV1) (by omega) (by omega) (by omega) (by omega)⟩
        case s10 =>
          refine kr fun _ ac Wd h hd => ?_
          obtain ⟨v0, hv0, hV0⟩ := h.dp hd 34
          obtain ⟨v1, hv1, hV1⟩ := h.dp hd 39
          exact build_Turn rfl hv0 hv1 (AggV_Vq _ _) (AggV_Vq _ _) (show Vq ((4 * N + 1) + (4 * N + 1)) (((a) * (c) + (b) * (d)) / ((a) * (a) + (b) * (b))) v0 Wd from hV0) (show Vq ((4 * N + 1) + (4 * N + 1)) (((a) * (d) + -(b) * (c)) / ((a) * (a) + (b) * (b))) v1 Wd from hV1)
        intro a5 w5 st5
        clear st4
        repeat first | refine wp_seq ?_ | refine wp_block ?_ | refine wp_skip ?_ | refine wp_exit ?_
        obtain ⟨g, cs, r1, r2, r3, r4, r5⟩ := st5.res ⟨4, none, none, 47, 8, Vv ((4 * N + 1) + (4 * N + 1)) (((a) * (c) + (b) * (d)) / ((a) * (a) + (b) * (b))) (((a) * (d) + -(b) * (c)) / ((a) * (a) + (b) * (b))), VT⟩ (.tail _ (.tail _ (.head _))) rfl rfl
        obtain ⟨vr, q1, q4⟩ := st5.slot (5, Vi (0)) (.tail _ (.tail _ (.head _)))
        exact wp_ret (bodyPost_ret (results_cell1 rfl _ _ g 47 cs (0, 0) _ vr r1 q1 r2 Tryz.underlying47 rfl (by rw [r3]; exact size_Turn)) st5.defers ⟨_, rfl, ⟨_, _, rfl, (by have hn : ¬ (((a) * (a) + (b) * (b)) = 0 ∨ ((c) * (c) + (d) * (d)) = 0 ∨ ((a) * (a) + (b) * (b)) ≠ ((c) * (c) + (d) * (d))) := (by rintro (h | h | h); exact hs h; exact ho h; exact h he); rw [show alX ((a) * (a) + (b) * (b)) ((c) * (c) + (d) * (d)) (a * c + b * d) = (a * c + b * d) / ((a) * (a) + (b) * (b)) from if_neg hn, show alX ((a) * (a) + (b) * (b)) ((c) * (c) + (d) * (d)) (a * d + -b * c) = (a * d + -b * c) / ((a) * (a) + (b) * (b)) from if_neg hn]; exact Vv_le r4 (by omega)), (by have hn : ¬ (((a) * (a) + (b) * (b)) = 0 ∨ ((c) * (c) + (d) * (d)) = 0) := (by rintro (h | h); exact hs h; exact ho h); rw [show alE ((a) * (a) + (b) * (b)) ((c) * (c) + (d) * (d)) = 0 from (if_neg hn).trans (if_pos he)]; exact q4)⟩, r5⟩)
      ·
        repeat first | refine wp_seq ?_ | refine wp_block ?_ | refine wp_skip ?_ | refine wp_exit ?_
        refine rg (BT := [(26, 4, 0), (47, 8, 0)]) (Vl := [Vq (4 * N + 1) ((a) * (a) + (b) * (b)), Vq (4 * N + 1) ((c) * (c) + (d) * (d)), Vb (false), Vb (true), Vb (true)]) (B := [⟨2, none, none, 28, 8, Vv N (a) (b), VT⟩, ⟨3, none, none, 28, 8, Vv N (c) (d), VT⟩, ⟨4, none, none, 47, 8, VT, VT⟩, ⟨6, none, none, 26, 4, Vq (4 * N + 1) ((a) * (a) + (b) * (b)), VT⟩, ⟨7, none, none, 26, 4, Vq (4 * N + 1) ((c) * (c) + (d) * (d)), VT⟩]) (SL' := [(5, Vi (0)), (14, Vb (false)), (24, Vb (true))]) st3 ⟨ks, ks, ?s2, ks, ks, trivial⟩ ?_
        case s2 =>
          refine kc fun _ ac Wd h hd => ?_
          obtain ⟨v0, hv0, hV0⟩ := h.dp hd 25
          obtain ⟨v1, hv1, hV1⟩ := h.dp hd 26
          exact ⟨#[v0, v1], by simp [hv0, hv1], (cQSame (show Vq (4 * N + 1) ((a) * (a) + (b) * (b)) v0 Wd from hV0) (show Vq (4 * N + 1) ((c) * (c) + (d) * (d)) v1 Wd from hV1) (by omega) (by omega) (by omega) (by omega)).mono fun e w h => h.le fun v w hv => hv.trans (congrArg Value.bool (decide_eq_false (he)))⟩
        intro a4 w4 st4
        clear st3
        repeat first | refine wp_seq ?_ | refine wp_block ?_ | refine wp_skip ?_ | refine wp_exit ?_
        obtain ⟨vc, hc1, hc2⟩ := st4.slot (24, Vb (true)) (.tail _ (.tail _ (.head _)))
        refine wp_cond_true (hc1.trans hc2) ?_
        clear hc1 hc2
        repeat first | refine wp_seq ?_ | refine wp_block ?_ | refine wp_skip ?_ | refine wp_exit ?_
        refine rg (BT := [(26, 4, 0), (47, 8, 0)]) (Vl := [Vv 1 (0) (0), VT, Vi (21)]) (B := [⟨2, none, none, 28, 8, Vv N (a) (b), VT⟩, ⟨3, none, none, 28, 8, Vv N (c) (d), VT⟩, ⟨4, none, some 1, 47, 8, Vv 1 (0) (0), VT⟩, ⟨6, none, none, 26, 4, Vq (4 * N + 1) ((a) * (a) + (b) * (b)), VT⟩, ⟨7, none, none, 26, 4, Vq (4 * N + 1) ((c) * (c) + (d) * (d)), VT⟩]) (SL' := [(14, Vb (false)), (24, Vb (true)), (5, Vi (21))]) st4 ⟨?s0, ks, ks, trivial⟩ ?_
        case s0 => exact kr fun _ ac Wd h hd => build_Turn0 rfl
        intro a5 w5 st5
        clear st4
        repeat first | refine wp_seq ?_ | refine wp_block ?_ | refine wp_skip ?_ | refine wp_exit ?_
        obtain ⟨g, cs, r1, r2, r3, r4, r5⟩ := st5.res ⟨4, none, none, 47, 8, Vv 1 (0) (0), VT⟩ (.tail _ (.tail _ (.head _))) rfl rfl
        obtain ⟨vr, q1, q4⟩ := st5.slot (5, Vi (21)) (.tail _ (.tail _ (.head _)))
        exact wp_ret (bodyPost_ret (results_cell1 rfl _ _ g 47 cs (0, 0) _ vr r1 q1 r2 Tryz.underlying47 rfl (by rw [r3]; exact size_Turn)) st5.defers ⟨_, rfl, ⟨_, _, rfl, (by rw [show alX ((a) * (a) + (b) * (b)) ((c) * (c) + (d) * (d)) (a * c + b * d) = 0 from if_pos (.inr (.inr he)), show alX ((a) * (a) + (b) * (b)) ((c) * (c) + (d) * (d)) (a * d + -b * c) = 0 from if_pos (.inr (.inr he))]; exact Vv_le r4 (by omega)), (by have hn : ¬ (((a) * (a) + (b) * (b)) = 0 ∨ ((c) * (c) + (d) * (d)) = 0) := (by rintro (h | h); exact hs h; exact ho h); rw [show alE ((a) * (a) + (b) * (b)) ((c) * (c) + (d) * (d)) = 21 from (if_neg hn).trans (if_neg he)]; exact q4)⟩, r5⟩)
end Go.Proofs.YteaoaoknpihchaaGreat

namespace Go.Proofs.YteaoaoknpihchaaGreat
open Go.RowKit

/-- a function that moves as a placement does, and whose variable lies high -/
def VFnL (lo : Nat) (A : VP) : VP := fun v w => ∃ g cs, lo ≤ g ∧ v = .func (.func 110) #[] #[.pointer (some ⟨g, 0, none⟩)] ∧ w.heap[g]? = some (.cells cs 60 (0, 0)) ∧ cs.size = 16 ∧ A (.agg cs) w
theorem Stab_VFnL {L : List (TypeId × Nat × Nat)} {lo : Nat} {A : VP} (h0 : 0 < lo) (hA : Stab ((60, 16, lo) :: L) A)  (hn : L.any (fun e => e.1 == 60 && e.2.1 == 16) = false := by kernel_rfl) : Stab ((60, 16, lo) :: L) (VFnL lo A) := fun _ _ _ ⟨h, cs, e0, e1, e2, e3, e4⟩ hr =>
  ⟨h, cs, e0, e1, (hr.row h cs _ e2 (fun e he q1 q2 => by
    rcases List.mem_cons.1 he with rfl | he
    · exact ⟨by show lo ≠ 0; omega, e0⟩
    · exact BT_not hn e3 e he q1 q2)).trans e2, e3, hA _ _ _ e4 hr⟩
theorem cMoverL {w : World} {lo : Nat} {A : VP} {v : Value} (hA : AggV 16 A) (hS : Stab [] A) (h : A v w) (hlo : lo ≤ w.heap.size) : Calls Tryz.prog 83 #[v] w (RV (VFnL lo A) w) := by
  obtain ⟨cs, rfl, e1, -⟩ := hA _ _ h
  have hfin : Hid (RV (VFnL lo A) w (.returned (.func (.func 110) #[] #[.pointer (some ⟨w.heap.size, 0, none⟩)])) (w.alloc (.cells cs 60))) := Lib.hid ⟨_, rfl, ⟨_, cs, hlo, rfl, heap_alloc_new _ _, e1, hS _ _ _ h (RI.of_below (below_new _ _))⟩, below_new _ _⟩
  clear h
  go_enter Tryz.func83, Tryz.ntmps83
  go_wp2_with fail
  go_ret
  exact hfin.out

set_option maxRecDepth 100000 in
set_option maxHeartbeats 1600000 in
theorem cCompose {w : World} {N : Nat} {c s x y c2 s2 x2 y2 : Rat} {v0 v1 : Value} (h0 : Vp N (c) (s) (x) (y) v0 w) (h1 : Vp N (c2) (s2) (x2) (y2) v1 w) (hN1 : 1 ≤ N) (hN : N ≤ 500) : Calls Tryz.prog 49 #[v0, v1] w (RV (Vp (8 * N + 3) (c * c2 + -s * s2) (s * c2 + c * s2) (c * x2 + -s * y2 + x) (s * x2 + c * y2 + y)) w) := by
  go_enter Tryz.func49, Tryz.ntmps49
  have st0 : St w.heap.size w 16 [] [(0, Vp N (c) (s) (x) (y)), (1, Vp N (c2) (s2) (x2) (y2))] _ w := St.begin (a := ⟨#[v0, v1, undef, undef, undef, undef, undef, undef, undef, undef, undef, undef, undef, undef, undef, undef], []⟩) rfl rfl (List.forall_mem_cons.2 ⟨⟨_, rfl, h0⟩, (List.forall_mem_cons.2 ⟨⟨_, rfl, h1⟩, (fun _ h => absurd h (by simp))⟩)⟩)
  generalize (⟨#[v0, v1, undef, undef, undef, undef, undef, undef, undef, undef, undef, undef, undef, undef, undef, undef], []⟩ : Act) = a0 at st0 ⊢
  repeat first | refine wp_seq ?_ | refine wp_block ?_ | refine wp_skip ?_ | refine wp_exit ?_
  refine rg (BT := [(60, 16, 0)]) (Vl := [VT, VT, VT]) (B := [⟨2, some 0, some 0, 60, 16, Vp N (c) (s) (x) (y), VT⟩, ⟨3, some 1, some 1, 60, 16, Vp N (c2) (s2) (x2) (y2), VT⟩, ⟨4, some 2, none, 60, 16, VT, VT⟩]) (SL' := [(0, Vp N (c) (s) (x) (y))]) st0 ⟨ks, ks, ks, trivial⟩ ?_
  intro a1 w1 st1
  clear st0
  have hlo := st1.low ⟨4, none, none, 60, 16, VT, VT⟩ (.tail _ (.tail _ (.head _))) rfl
  have hpos : 0 < w1.heap.size := by have hle := st1.n; obtain ⟨g0, cs0, q1, q2, q3, -⟩ := st1.k.ok ⟨4, none, none, 60, 16, VT, VT⟩ (.tail _ (.tail _ (.head _))) rfl; have := lt_blk q3; omega
  replace st1 : St w.heap.size w 16 [⟨2, none, none, 60, 16, Vp N (c) (s) (x) (y), VT⟩, ⟨3, none, none, 60, 16, Vp N (c2) (s2) (x2) (y2), VT⟩, ⟨4, none, none, 60, 16, VT, VT⟩] [(5, VLo w1.heap.size), (0, Vp N (c) (s) (x) (y))] a1 w1 := st1.lo 5 (by omega)
  generalize w1.heap.size = lo at hlo hpos st1
  repeat first | refine wp_seq ?_ | refine wp_block ?_ | refine wp_skip ?_ | refine wp_exit ?_
  have : Sb [(60, 16, lo)] (VFnL lo (Vp N (c) (s) (x) (y))) := ⟨Stab_VFnL (L := []) (by omega) (Stab_Vp _ _ _ _ _)⟩
  refine rg (BT := [(60, 16, lo)]) (Vl := [Vpt a1 2 0, Vv N (c) (s), Vpt a1 3 0, Vv N (c2) (s2), Vv (4 * N + 1) ((c) * (c2) + -(s) * (s2)) ((s) * (c2) + (c) * (s2)), Vp N (c) (s) (x) (y), VFnL lo (Vp N (c) (s) (x) (y)), Vpt a1 3 8, Vv N (x2) (y2), Vv (8 * N + 3) (c * x2 + -s * y2 + x) (s * x2 + c * y2 + y), Vp (max (4 * N + 1) (8 * N + 3)) ((c) * (c2) + -(s) * (s2)) ((s) * (c2) + (c) * (s2)) (c * x2 + -s * y2 + x) (s * x2 + c * y2 + y), VT]) (B := [⟨2, none, none, 60, 16, Vp N (c) (s) (x) (y), VT⟩, ⟨3, none, none, 60, 16, Vp N (c2) (s2) (x2) (y2), VT⟩, ⟨4, none, some 11, 60, 16, Vp (max (4 * N + 1) (8 * N + 3)) ((c) * (c2) + -(s) * (s2)) ((s) * (c2) + (c) * (s2)) (c * x2 + -s * y2 + x) (s * x2 + c * y2 + y), VT⟩]) (SL' := [(0, Vp N (c) (s) (x) (y))]) st1 ⟨ks, ks, ks, ks, ?s4, ks, ?s6, ks, ks, ?s9, ?s10, ?s11, trivial⟩ ?_
  case s4 =>
    refine kc fun _ ac Wd h hd => ?_
    obtain ⟨v0, hv0, hV0⟩ := h.dp hd 6
    obtain ⟨v1, hv1, hV1⟩ := h.dp hd 8
    exact ⟨#[v0, v1], by simp [hv0, hv1], cAfter (show Vv N (c) (s) v0 Wd from hV0) (show Vv N (c2) (s2) v1 Wd from hV1) (by omega) (by omega)⟩
  case s6 =>
    refine kc fun _ ac Wd h hd => ?_
    obtain ⟨v0, hv0, hV0⟩ := h.dp hd 10
    obtain ⟨vl, hvl1, hvl2⟩ := h.sl (5, VLo lo) (.head _)
    exact ⟨#[v0], by simp [hv0], cMoverL (AggV_Vp _ _ _ _ _) (Stab_Vp _ _ _ _ _) (show Vp N (c) (s) (x) (y) v0 Wd from hV0) hvl2⟩
  case s9 =>
    refine ke fun _ ac Wd h hd => ?_
    obtain ⟨v0, hv0, hV0⟩ := h.dp hd 11
    obtain ⟨v1, hv1, hV1⟩ := h.dp hd 13
    obtain ⟨g, cs, hglo, rfl, f2⟩ := hV0
    exact ⟨_, #[v1, .pointer (some ⟨g, 0, none⟩)], run_closure rfl hv0 hv1, cMover1 (show Vv N x2 y2 v1 Wd from hV1) ⟨g, cs, rfl, f2⟩ hN1 hN⟩
  case s10 =>
    refine kr fun _ ac Wd h hd => ?_
    obtain ⟨v0, hv0, hV0⟩ := h.dp hd 9
    obtain ⟨v1, hv1, hV1⟩ := h.dp hd 14
    exact build_Place rfl hv0 hv1 (AggV_Vv _ _ _) (AggV_Vv _ _ _) (Vv_le (M := (max (4 * N + 1) (8 * N + 3))) (show Vv (4 * N + 1) ((c) * (c2) + -(s) * (s2)) ((s) * (c2) + (c) * (s2)) v0 Wd from hV0) (by omega)) (Vv_le (M := (max (4 * N + 1) (8 * N + 3))) (show Vv (8 * N + 3) (c * x2 + -s * y2 + x) (s * x2 + c * y2 + y) v1 Wd from hV1) (by omega))
  case s11 =>
    refine k_storeG SbB.out (B1 := [⟨2, none, none, 60, 16, Vp N (c) (s) (x) (y), VT⟩, ⟨3, none, none, 60, 16, Vp N (c2) (s2) (x2) (y2), VT⟩]) (B2 := []) rfl (by kernel_rfl) (by kernel_rfl) rfl rfl (by kernel_rfl) rfl (fun a g h1 h2 => ⟨_, List.mem_cons_self, rfl, rfl, .inr (hlo a g h1 h2)⟩) (fun _ => by kernel_rfl) (fun h => absurd rfl h) rfl size_Place fun listed ac Wd h hd => ⟨trivial, rfl, ?_⟩
    obtain ⟨v0, hv0, hV0⟩ := h.dp hd 15
    exact agg_store (AggV_Vp _ _ _ _ _) hv0 hV0
  intro a2 w2 st2
  clear st1
  repeat first | refine wp_seq ?_ | refine wp_block ?_ | refine wp_skip ?_ | refine wp_exit ?_
  obtain ⟨g, cs, r1, r2, r3, r4, r5⟩ := st2.res ⟨4, none, none, 60, 16, Vp (max (4 * N + 1) (8 * N + 3)) ((c) * (c2) + -(s) * (s2)) ((s) * (c2) + (c) * (s2)) (c * x2 + -s * y2 + x) (s * x2 + c * y2 + y), VT⟩ (.tail _ (.tail _ (.head _))) rfl rfl
  exact wp_ret (bodyPost_ret (results_cell_row rfl _ _ g 60 cs (0, 0) _ r1 r2 Tryz.underlying60 rfl (by rw [r3]; exact size_Place)) st2.defers ⟨_, rfl, (Vp_le r4 (by omega)), r5⟩)
end Go.Proofs.YteaoaoknpihchaaGreat
