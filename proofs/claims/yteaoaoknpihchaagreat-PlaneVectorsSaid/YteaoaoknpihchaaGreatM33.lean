/- Contracts of the package integer and its reference: Align and placements of the reference. -/
import Derived.Test.YteaoaoknpihchaaGreatM32
set_option linter.unusedVariables false
namespace Go.Proofs.YteaoaoknpihchaaGreat
open Go.RowKit

set_option maxRecDepth 100000 in
set_option maxHeartbeats 1600000 in
theorem cR5Align {w : World} {N : Nat} {a b c d : Rat} {v0 v1 : Value} (h0 : Vv N (a) (b) v0 w) (h1 : Vv N (c) (d) v1 w) (h3 : 3 ≤ N) (hN : N ≤ 1000) : Calls Tryz.prog 47 #[v0, v1] w (RV (VTup (Vv (8 * N + 2) (alX (a * a + b * b) (c * c + d * d) (a * c + b * d)) (alX (a * a + b * b) (c * c + d * d) (a * d - b * c))) (Vi (alE (a * a + b * b) (c * c + d * d)))) w) := by
  go_enter Tryz.func47, Tryz.ntmps47
  have st0 : St w.heap.size w 39 [] [(0, Vv N (a) (b)), (1, Vv N (c) (d))] _ w := St.begin (a := ⟨#[v0, v1, undef, undef, undef, undef, undef, undef, undef, undef, undef, undef, undef, undef, undef, undef, undef, undef, undef, undef, undef, undef, undef, undef, undef, undef, undef, undef, undef, undef, undef, undef, undef, undef, undef, undef, undef, undef, undef], []⟩) rfl rfl (List.forall_mem_cons.2 ⟨⟨_, rfl, h0⟩, (List.forall_mem_cons.2 ⟨⟨_, rfl, h1⟩, (fun _ h => absurd h (by simp))⟩)⟩)
  generalize (⟨#[v0, v1, undef, undef, undef, undef, undef, undef, undef, undef, undef, undef, undef, undef, undef, undef, undef, undef, undef, undef, undef, undef, undef, undef, undef, undef, undef, undef, undef, undef, undef, undef, undef, undef, undef, undef, undef, undef, undef], []⟩ : Act) = a0 at st0 ⊢
  repeat first | refine wp_seq ?_ | refine wp_block ?_ | refine wp_skip ?_ | refine wp_exit ?_
  refine rg (BT := [(26, 4, 0), (47, 8, 0)]) (Vl := [VT, VT, VT, Vi (0)]) (B := [⟨2, some 0, some 0, 28, 8, Vv N (a) (b), VT⟩, ⟨3, some 1, some 1, 28, 8, Vv N (c) (d), VT⟩, ⟨4, some 2, none, 47, 8, VT, VT⟩]) (SL' := [(5, Vi (0))]) st0 ⟨ks, ks, ks, ks, trivial⟩ ?_
  intro a1 w1 st1
  clear st0
  repeat first | refine wp_seq ?_ | refine wp_block ?_ | refine wp_skip ?_ | refine wp_exit ?_
  refine rg (BT := [(26, 4, 0), (47, 8, 0)]) (Vl := [Vv N (a) (b), Vv N (a) (b), Vq (4 * N + 1) ((a) * (a) + (b) * (b)), VT, VT]) (B := [⟨2, none, none, 28, 8, Vv N (a) (b), VT⟩, ⟨3, none, none, 28, 8, Vv N (c) (d), VT⟩, ⟨4, none, none, 47, 8, VT, VT⟩, ⟨6, some 3, some 4, 26, 4, Vq (4 * N + 1) ((a) * (a) + (b) * (b)), VT⟩]) (SL' := [(5, Vi (0))]) st1 ⟨ks, ks, ?s2, ks, ks, trivial⟩ ?_
  case s2 =>
    refine kc fun _ ac Wd h hd => ?_
    obtain ⟨v0, hv0, hV0⟩ := h.dp hd 7
    obtain ⟨v1, hv1, hV1⟩ := h.dp hd 8
    exact ⟨#[v0, v1], by simp [hv0, hv1], cR5Dot (show Vv N (a) (b) v0 Wd from hV0) (show Vv N (a) (b) v1 Wd from hV1) (by omega) (by omega)⟩
  intro a2 w2 st2
  clear st1
  by_cases hs : (a * a + b * b) = 0
  ·
    repeat first | refine wp_seq ?_ | refine wp_block ?_ | refine wp_skip ?_ | refine wp_exit ?_
    refine rg (BT := [(26, 4, 0), (47, 8, 0)]) (Vl := [Vq (4 * N + 1) ((a) * (a) + (b) * (b)), Vi (cmpI ((a) * (a) + (b) * (b)).num 0), Vb (true), Vb (true), VT, VT, VT, VT, VT, Vb (true)]) (B := [⟨2, none, none, 28, 8, Vv N (a) (b), VT⟩, ⟨3, none, none, 28, 8, Vv N (c) (d), VT⟩, ⟨4, none, none, 47, 8, VT, VT⟩, ⟨6, none, none, 26, 4, Vq (4 * N + 1) ((a) * (a) + (b) * (b)), VT⟩]) (SL' := [(5, Vi (0)), (19, Vb (true))]) st2 ⟨ks, ?s1, ?s2, ks, ks, ks, ks, ks, ks, ks, trivial⟩ ?_
    case s1 => refine kc fun _ ac Wd h hd => ?_; obtain ⟨v0, hv0, hV0⟩ := h.dp hd 10; exact ⟨#[v0], by simp [hv0], cR4Sign (show Vq (4 * N + 1) ((a) * (a) + (b) * (b)) v0 Wd from hV0) (by omega)⟩
    case s2 =>
      refine kr fun _ ac Wd h hd => ?_
      obtain ⟨v0, hv0, hV0⟩ := h.dp hd 11
      have hV0' : v0 = .int .i64 (cmpI ((a) * (a) + (b) * (b)).num 0) := hV0
      exact ⟨_, run_eqi rfl (hv0.trans hV0') rfl, congrArg Value.bool (by rw [cmp0]; exact decide_eq_true (Rat.num_eq_zero.2 hs))⟩
    intro a3 w3 st3
    clear st2
    repeat first | refine wp_seq ?_ | refine wp_block ?_ | refine wp_skip ?_ | refine wp_exit ?_
    obtain ⟨vc, hc1, hc2⟩ := st3.slot (19, Vb (true)) (.tail _ (.head _))
    refine wp_cond_true (hc1.trans hc2) ?_
    clear hc1 hc2
    repeat first | refine wp_seq ?_ | refine wp_block ?_ | refine wp_skip ?_ | refine wp_exit ?_
    refine rg (BT := [(26, 4, 0), (47, 8, 0)]) (Vl := [Vv 1 (0) (0), VT, Vi (1)]) (B := [⟨2, none, none, 28, 8, Vv N (a) (b), VT⟩, ⟨3, none, none, 28, 8, Vv N (c) (d), VT⟩, ⟨4, none, some 1, 47, 8, Vv 1 (0) (0), VT⟩, ⟨6, none, none, 26, 4, Vq (4 * N + 1) ((a) * (a) + (b) * (b)), VT⟩]) (SL' := [(19, Vb (true)), (5, Vi (1))]) st3 ⟨?s0, ks, ks, trivial⟩ ?_
    case s0 => exact kr fun _ ac Wd h hd => build_Turn0 rfl
    intro a4 w4 st4
    clear st3
    repeat first | refine wp_seq ?_ | refine wp_block ?_ | refine wp_skip ?_ | refine wp_exit ?_
    obtain ⟨g, cs, r1, r2, r3, r4, r5⟩ := st4.res ⟨4, none, none, 47, 8, Vv 1 (0) (0), VT⟩ (.tail _ (.tail _ (.head _))) rfl rfl
    obtain ⟨vr, q1, q4⟩ := st4.slot (5, Vi (1)) (.tail _ (.head _))
    exact wp_ret (bodyPost_ret (results_cell1 rfl _ _ g 47 cs (0, 0) _ vr r1 q1 r2 Tryz.underlying47 rfl (by rw [r3]; exact size_Turn)) st4.defers ⟨_, rfl, ⟨_, _, rfl, (by rw [show alX (a * a + b * b) (c * c + d * d) (a * c + b * d) = 0 from if_pos (.inl hs), show alX (a * a + b * b) (c * c + d * d) (a * d - b * c) = 0 from if_pos (.inl hs)]; exact Vv_le r4 (by omega)), (by rw [show alE (a * a + b * b) (c * c + d * d) = 1 from if_pos (.inl hs)]; exact q4)⟩, r5⟩)
  ·
    by_cases ho : (c * c + d * d) = 0
    ·
      repeat first | refine wp_seq ?_ | refine wp_block ?_ | refine wp_skip ?_ | refine wp_exit ?_
      refine rg (BT := [(26, 4, 0), (47, 8, 0)]) (Vl := [Vq (4 * N + 1) ((a) * (a) + (b) * (b)), Vi (cmpI ((a) * (a) + (b) * (b)).num 0), Vb (false), Vb (false), Vv N (c) (d), Vv N (c) (d), Vq (4 * N + 1) ((c) * (c) + (d) * (d)), Vi (cmpI ((c) * (c) + (d) * (d)).num 0), Vb (true), Vb (true)]) (B := [⟨2, none, none, 28, 8, Vv N (a) (b), VT⟩, ⟨3, none, none, 28, 8, Vv N (c) (d), VT⟩, ⟨4, none, none, 47, 8, VT, VT⟩, ⟨6, none, none, 26, 4, Vq (4 * N + 1) ((a) * (a) + (b) * (b)), VT⟩]) (SL' := [(5, Vi (0)), (19, Vb (true))]) st2 ⟨ks, ?s1, ?s2, ks, ks, ks, ?s6, ?s7, ?s8, ks, trivial⟩ ?_
      case s1 => refine kc fun _ ac Wd h hd => ?_; obtain ⟨v0, hv0, hV0⟩ := h.dp hd 10; exact ⟨#[v0], by simp [hv0], cR4Sign (show Vq (4 * N + 1) ((a) * (a) + (b) * (b)) v0 Wd from hV0) (by omega)⟩
      case s2 =>
        refine kr fun _ ac Wd h hd => ?_
        obtain ⟨v0, hv0, hV0⟩ := h.dp hd 11
        have hV0' : v0 = .int .i64 (cmpI ((a) * (a) + (b) * (b)).num 0) := hV0
        exact ⟨_, run_eqi rfl (hv0.trans hV0') rfl, congrArg Value.bool (by rw [cmp0]; exact decide_eq_false (fun e => hs (Rat.num_eq_zero.1 e)))⟩
      case s6 =>
        refine kc fun _ ac Wd h hd => ?_
        obtain ⟨v0, hv0, hV0⟩ := h.dp hd 14
        obtain ⟨v1, hv1, hV1⟩ := h.dp hd 15
        exact ⟨#[v0, v1], by simp [hv0, hv1], cR5Dot (show Vv N (c) (d) v0 Wd from hV0) (show Vv N (c) (d) v1 Wd from hV1) (by omega) (by omega)⟩
      case s7 => refine kc fun _ ac Wd h hd => ?_; obtain ⟨v0, hv0, hV0⟩ := h.dp hd 16; exact ⟨#[v0], by simp [hv0], cR4Sign (show Vq (4 * N + 1) ((c) * (c) + (d) * (d)) v0 Wd from hV0) (by omega)⟩
      case s8 =>
        refine kr fun _ ac Wd h hd => ?_
        obtain ⟨v0, hv0, hV0⟩ := h.dp hd 17
        have hV0' : v0 = .int .i64 (cmpI ((c) * (c) + (d) * (d)).num 0) := hV0
        exact ⟨_, run_eqi rfl (hv0.trans hV0') rfl, congrArg Value.bool (by rw [cmp0]; exact decide_eq_true (Rat.num_eq_zero.2 ho))⟩
      intro a3 w3 st3
      clear st2
      repeat first | refine wp_seq ?_ | refine wp_block ?_ | refine wp_skip ?_ | refine wp_exit ?_
      obtain ⟨vc, hc1, hc2⟩ := st3.slot (19, Vb (true)) (.tail _ (.head _))
      refine wp_cond_true (hc1.trans hc2) ?_
      clear hc1 hc2
      repeat first | refine wp_seq ?_ | refine wp_block ?_ | refine wp_skip ?_ | refine wp_exit ?_
      refine rg (BT := [(26, 4, 0), (47, 8, 0)]) (Vl := [Vv 1 (0) (0), VT, Vi (1)]) (B := [⟨2, none, none, 28, 8, Vv N (a) (b), VT⟩, ⟨3, none, none, 28, 8, Vv N (c) (d), VT⟩, ⟨4, none, some 1, 47, 8, Vv 1 (0) (0), VT⟩, ⟨6, none, none, 26, 4, Vq (4 * N + 1) ((a) * (a) + (b) * (b)), VT⟩]) (SL' := [(19, Vb (true)), (5, Vi (1))]) st3 ⟨?s0, ks, ks, trivial⟩ ?_
      case s0 => exact kr fun _ ac Wd h hd => build_Turn0 rfl
      intro a4 w4 st4
      clear st3
      repeat first | refine wp_seq ?_ | refine wp_block ?_ | refine wp_skip ?_ | refine wp_exit ?_
      obtain ⟨g, cs, r1, r2, r3, r4, r5⟩ := st4.res ⟨4, none, none, 47, 8, Vv 1 (0) (0), VT⟩ (.tail _ (.tail _ (.head _))) rfl rfl
      obtain ⟨vr, q1, q4⟩ := st4.slot (5, Vi (1)) (.tail _ (.head _))
      exact wp_ret (bodyPost_ret (results_cell1 rfl _ _ g 47 cs (0, 0) _ vr r1 q1 r2 Tryz.underlying47 rfl (by rw [r3]; exact size_Turn)) st4.defers ⟨_, rfl, ⟨_, _, rfl, (by rw [show alX (a * a + b * b) (c * c + d * d) (a * c + b * d) = 0 from if_pos (.inr (.inl ho)), show alX (a * a + b * b) (c * c + d * d) (a * d - b * c) = 0 from if_pos (.inr (.inl ho))]; exact Vv_le r4 (by omega)), (by rw [show alE (a * a + b * b) (c * c + d * d) = 1 from if_pos (.inr ho)]; exact q4)⟩, r5⟩)
    ·
      repeat first | refine wp_seq ?_ | refine wp_block ?_ | refine wp_skip ?_ | refine wp_exit ?_
      refine rg (BT := [(26, 4, 0), (47, 8, 0)]) (Vl := [Vq (4 * N + 1) ((a) * (a) + (b) * (b)), Vi (cmpI ((a) * (a) + (b) * (b)).num 0), Vb (false), Vb (false), Vv N (c) (d), Vv N (c) (d), Vq (4 * N + 1) ((c) * (c) + (d) * (d)), Vi (cmpI ((c) * (c) + (d) * (d)).num 0), Vb (false), Vb (false)]) (B := [⟨2, none, none, 28, 8, Vv N (a) (b), VT⟩, ⟨3, none, none, 28, 8, Vv N (c) (d), VT⟩, ⟨4, none, none, 47, 8, VT, VT⟩, ⟨6, none, none, 26, 4, Vq (4 * N + 1) ((a) * (a) + (b) * (b)), VT⟩]) (SL' := [(5, Vi (0)), (19, Vb (false))]) st2 ⟨ks, ?s1, ?s2, ks, ks, ks, ?s6, ?s7, ?s8, ks, trivial⟩ ?_
      case s1 => refine kc fun _ ac Wd h hd => ?_; obtain ⟨v0, hv0, hV0⟩ := h.dp hd 10; exact ⟨#[v0], by simp [hv0], cR4Sign (show Vq (4 * N + 1) ((a) * (a) + (b) * (b)) v0 Wd from hV0) (by omega)⟩
      case s2 =>
        refine kr fun _ ac Wd h hd => ?_
        obtain ⟨v0, hv0, hV0⟩ := h.dp hd 11
        have hV0' : v0 = .int .i64 (cmpI ((a) * (a) + (b) * (b)).num 0) := hV0
        exact ⟨_, run_eqi rfl (hv0.trans hV0') rfl, congrArg Value.bool (by rw [cmp0]; exact decide_eq_false (fun e => hs (Rat.num_eq_zero.1 e)))⟩
      case s6 =>
        refine kc fun _ ac Wd h hd => ?_
        obtain ⟨v0, hv0, hV0⟩ := h.dp hd 14
        obtain ⟨v1, hv1, hV1⟩ := h.dp hd 15
        exact ⟨#[v0, v1], by simp [hv0, hv1], cR5Dot (show Vv N (c) (d) v0 Wd from hV0) (show Vv N (c) (d) v1 Wd from hV1) (by omega) (by omega)⟩
      case s7 => refine kc fun _ ac Wd h hd => ?_; obtain ⟨v0, hv0, hV0⟩ := h.dp hd 16; exact ⟨#[v0], by simp [hv0], cR4Sign (show Vq (4 * N + 1) ((c) * (c) + (d) * (d)) v0 Wd from hV0) (by omega)⟩
      case s8 =>
        refine kr fun _ ac Wd h hd => ?_
        obtain ⟨v0, hv0, hV0⟩ := h.dp hd 17
        have hV0' : v0 = .int .i64 (cmpI ((c) * (c) + (d) * (d)).num 0) := hV0
        exact ⟨_, run_eqi rfl (hv0.trans hV0') rfl, congrArg Value.bool (by rw [cmp0]; exact decide_eq_false (fun e => ho (Rat.num_eq_zero.1 e)))⟩
      intro a3 w3 st3
      clear st2
      repeat first | refine wp_seq ?_ | refine wp_block ?_ | refine wp_skip ?_ | refine wp_exit ?_
      obtain ⟨vc, hc1, hc2⟩ := st3.slot (19, Vb (false)) (.tail _ (.head _))
      refine wp_cond_false (hc1.trans hc2) ?_
      clear hc1 hc2
      by_cases he : (a * a + b * b) = (c * c + d * d)
      ·
        repeat first | refine wp_seq ?_ | refine wp_block ?_ | refine wp_skip ?_ | refine wp_exit ?_
        refine rg (BT := [(26, 4, 0), (47, 8, 0)]) (Vl := [Vq (4 * N + 1) ((a) * (a) + (b) * (b)), Vv N (c) (d), Vv N (c) (d), Vq (4 * N + 1) ((c) * (c) + (d) * (d)), Vb (true), Vb (false)]) (B := [⟨2, none, none, 28, 8, Vv N (a) (b), VT⟩, ⟨3, none, none, 28, 8, Vv N (c) (d), VT⟩, ⟨4, none, none, 47, 8, VT, VT⟩, ⟨6, none, none, 26, 4, Vq (4 * N + 1) ((a) * (a) + (b) * (b)), VT⟩]) (SL' := [(5, Vi (0)), (19, Vb (false)), (26, Vb (false))]) st3 ⟨ks, ks, ks, ?s3, ?s4, ks, trivial⟩ ?_
        case s3 =>
          refine kc fun _ ac Wd h hd => ?_
          obtain ⟨v0, hv0, hV0⟩ := h.dp hd 22
          obtain ⟨v1, hv1, hV1⟩ := h.dp hd 23
          exact ⟨#[v0, v1], by simp [hv0, hv1], cR5Dot (show Vv N (c) (d) v0 Wd from hV0) (show Vv N (c) (d) v1 Wd from hV1) (by omega) (by omega)⟩
        case s4 =>
          refine kc fun _ ac Wd h hd => ?_
          obtain ⟨v0, hv0, hV0⟩ := h.dp hd 21
          obtain ⟨v1, hv1, hV1⟩ := h.dp hd 24
          exact ⟨#[v0, v1], by simp [hv0, hv1], (cR4Same (show Vq (4 * N + 1) ((a) * (a) + (b) * (b)) v0 Wd from hV0) (show Vq (4 * N + 1) ((c) * (c) + (d) * (d)) v1 Wd from hV1) (by omega)).mono fun e w h => h.le fun v w hv => hv.trans (congrArg Value.bool (decide_eq_true (he)))⟩
        intro a4 w4 st4
        clear st3
        repeat first | refine wp_seq ?_ | refine wp_block ?_ | refine wp_skip ?_ | refine wp_exit ?_
        obtain ⟨vc, hc1, hc2⟩ := st4.slot (26, Vb (false)) (.tail _ (.tail _ (.head _)))
        refine wp_cond_false (hc1.trans hc2) ?_
        clear hc1 hc2
        repeat first | refine wp_seq ?_ | refine wp_block ?_ | refine wp_skip ?_ | refine wp_exit ?_
        refine rg (BT := [(26, 4, 0), (47, 8, 0)]) (Vl := [Vv N (a) (b), Vv N (c) (d), Vq (4 * N + 1) ((a) * (c) + (b) * (d)), Vq (4 * N + 1) ((a) * (a) + (b) * (b)), Vq ((4 * N + 1) + (4 * N + 1)) (((a) * (c) + (b) * (d)) / ((a) * (a) + (b) * (b))), Vv N (a) (b), Vv N (c) (d), Vq (4 * N + 1) ((a) * (d) - (b) * (c)), Vq (4 * N + 1) ((a) * (a) + (b) * (b)), Vq ((4 * N + 1) + (4 * N + 1)) (((a) * (d) - (b) * (c)) / ((a) * (a) + (b) * (b))), Vv ((4 * N + 1) + (4 * N + 1)) (((a) * (c) + (b) * (d)) / ((a) * (a) + (b) * (b))) (((a) * (d) - (b) * (c)) / ((a) * (a) + (b) * (b))), VT, Vi (0)]) (B := [⟨2, none, none, 28, 8, Vv N (a) (b), VT⟩, ⟨3, none, none, 28, 8, Vv N (c) (d), VT⟩, ⟨4, none, some 11, 47, 8, Vv ((4 * N + 1) + (4 * N + 1)) (((a) * (c) + (b) * (d)) / ((a) * (a) + (b) * (b))) (((a) * (d) - (b) * (c)) / ((a) * (a) + (b) * (b))), VT⟩, ⟨6, none, none, 26, 4, Vq (4 * N + 1) ((a) * (a) + (b) * (b)), VT⟩]) (SL' := [(19, Vb (false)), (26, Vb (false)), (5, Vi (0))]) st4 ⟨ks, ks, ?s2, ks, ?s4, ks, ks, ?s7, ks, ?s9, ?s10, ks, ks, trivial⟩ ?_
        case s2 =>
          refine kc fun _ ac Wd h hd => ?_
          obtain ⟨v0, hv0, hV0⟩ := h.dp hd 28
          obtain ⟨v1, hv1, hV1⟩ := h.dp hd 29
          exact ⟨#[v0, v1], by simp [hv0, hv1], cR5Dot (show Vv N (a) (b) v0 Wd from hV0) (show Vv N (c) (d) v1 Wd from hV1) (by omega) (by omega)⟩
        case s4 =>
          refine kc fun _ ac Wd h hd => ?_
          obtain ⟨v0, hv0, hV0⟩ := h.dp hd 30
          obtain ⟨v1, hv1, hV1⟩ := h.dp hd 31
          exact ⟨#[v0, v1], by simp [hv0, hv1], cR4Div (show Vq (4 * N + 1) ((a) * (c) + (b) * (d)) v0 Wd from hV0) (show Vq (4 * N + 1) ((a) * (a) + (b) * (b)) v1 Wd from hV1) (by omega) (by omega)⟩
        case s7 =>
          refine kc fun _ ac Wd h hd => ?_
          obtain ⟨v0, hv0, hV0⟩ := h.dp hd 33
          obtain ⟨v1, hv1, hV1⟩ := h.dp hd 34
          exact ⟨#[v0, v1], by simp [hv0, hv1], cR5Cross (show Vv N (a) (b) v0 Wd from hV0) (show Vv N (c) (d) v1 Wd from hV1) (by omega) (by omega)⟩
        case s9 =>
          refine kc fun _ ac Wd h hd => ?_
          obtain ⟨v0, hv0, hV0⟩ := h.dp hd 35
          obtain ⟨v1, hv1, hV1⟩ := h.dp hd 36
          exact ⟨#[v0, v1], by simp [hv0, hv1], cR4Div (show Vq (4 * N + 1) ((a) * (d) - (b) * (c)) v0 Wd from hV0) (show Vq (4 * N + 1) ((a) * (a) + (b) * (b)) v1 Wd from hV1) (by omega) (by omega)⟩
        case s10 =>
          refine kr fun _ ac Wd h hd => ?_
          obtain ⟨v0, hv0, hV0⟩ := h.dp hd 32
          obtain ⟨v1, hv1, hV1⟩ := h.dp hd 37
          exact build_Turn rfl hv0 hv1 (AggV_Vq _ _) (AggV_Vq _ _) (show Vq ((4 * N + 1) + (4 * N + 1)) (((a) * (c) + (b) * (d)) / ((a) * (a) + (b) * (b))) v0 Wd from hV0) (show Vq ((4 * N + 1) + (4 * N + 1)) (((a) * (d) - (b) * (c)) / ((a) * (a) + (b) * (b))) v1 Wd from hV1)
        intro a5 w5 st5
        clear st4
        repeat first | refine wp_seq ?_ | refine wp_block ?_ | refine wp_skip ?_ | refine wp_exit ?_
        obtain ⟨g, cs, r1, r2, r3, r4, r5⟩ := st5.res ⟨4, none, none, 47, 8, Vv ((4 * N + 1) + (4 * N + 1)) (((a) * (c) + (b) * (d)) / ((a) * (a) + (b) * (b))) (((a) * (d) - (b) * (c)) / ((a) * (a) + (b) * (b))), VT⟩ (.tail _ (.tail _ (.head _))) rfl rfl
        obtain ⟨vr, q1, q4⟩ := st5.slot (5, Vi (0)) (.tail _ (.tail _ (.head _)))
        exact wp_ret (bodyPost_ret (results_cell1 rfl _ _ g 47 cs (0, 0) _ vr r1 q1 r2 Tryz.underlying47 rfl (by rw [r3]; exact size_Turn)) st5.defers ⟨_, rfl, ⟨_, _, rfl, (by have hn : ¬ ((a * a + b * b) = 0 ∨ (c * c + d * d) = 0 ∨ (a * a + b * b) ≠ (c * c + d * d)) := (by rintro (h | h | h); exact hs h; exact ho h; exact h he); rw [show alX (a * a + b * b) (c * c + d * d) (a * c + b * d) = (a * c + b * d) / (a * a + b * b) from if_neg hn, show alX (a * a + b * b) (c * c + d * d) (a * d - b * c) = (a * d - b * c) / (a * a + b * b) from if_neg hn]; exact Vv_le r4 (by omega)), (by have hn : ¬ ((a * a + b * b) = 0 ∨ (c * c + d * d) = 0) := (by rintro (h | h); exact hs h; exact ho h); rw [show alE (a * a + b * b) (c * c + d * d) = 0 from (if_neg hn).trans (if_pos he)]; exact q4)⟩, r5⟩)
      ·
        repeat first | refine wp_seq ?_ | refine wp_block ?_ | refine wp_skip ?_ | refine wp_exit ?_
        refine rg (BT := [(26, 4, 0), (47, 8, 0)]) (Vl := [Vq (4 * N + 1) ((a) * (a) + (b) * (b)), Vv N (c) (d), Vv N (c) (d), Vq (4 * N + 1) ((c) * (c) + (d) * (d)), Vb (false), Vb (true)]) (B := [⟨2, none, none, 28, 8, Vv N (a) (b), VT⟩, ⟨3, none, none, 28, 8, Vv N (c) (d), VT⟩, ⟨4, none, none, 47, 8, VT, VT⟩, ⟨6, none, none, 26, 4, Vq (4 * N + 1) ((a) * (a) + (b) * (b)), VT⟩]) (SL' := [(5, Vi (0)), (19, Vb (false)), (26, Vb (true))]) st3 ⟨ks, ks, ks, ?s3, ?s4, ks, trivial⟩ ?_
        case s3 =>
          refine kc fun _ ac Wd h hd => ?_
          obtain ⟨v0, hv0, hV0⟩ := h.dp hd 22
          obtain ⟨v1, hv1, hV1⟩ := h.dp hd 23
          exact ⟨#[v0, v1], by simp [hv0, hv1], cR5Dot (show Vv N (c) (d) v0 Wd from hV0) (show Vv N (c) (d) v1 Wd from hV1) (by omega) (by omega)⟩
        case s4 =>
          refine kc fun _ ac Wd h hd => ?_
          obtain ⟨v0, hv0, hV0⟩ := h.dp hd 21
          obtain ⟨v1, hv1, hV1⟩ := h.dp hd 24
          exact ⟨#[v0, v1], by simp [hv0, hv1], (cR4Same (show Vq (4 * N + 1) ((a) * (a) + (b) * (b)) v0 Wd from hV0) (show Vq (4 * N + 1) ((c) * (c) + (d) * (d)) v1 Wd from hV1) (by omega)).mono fun e w h => h.le fun v w hv => hv.trans (congrArg Value.bool (decide_eq_false (he)))⟩
        intro a4 w4 st4
        clear st3
        repeat first | refine wp_seq ?_ | refine wp_block ?_ | refine wp_skip ?_ | refine wp_exit ?_
        obtain ⟨vc, hc1, hc2⟩ := st4.slot (26, Vb (true)) (.tail _ (.tail _ (.head _)))
        refine wp_cond_true (hc1.trans hc2) ?_
        clear hc1 hc2
        repeat first | refine wp_seq ?_ | refine wp_block ?_ | refine wp_skip ?_ | refine wp_exit ?_
        refine rg (BT := [(26, 4, 0), (47, 8, 0)]) (Vl := [Vv 1 (0) (0), VT, Vi (21)]) (B := [⟨2, none, none, 28, 8, Vv N (a) (b), VT⟩, ⟨3, none, none, 28, 8, Vv N (c) (d), VT⟩, ⟨4, none, some 1, 47, 8, Vv 1 (0) (0), VT⟩, ⟨6, none, none, 26, 4, Vq (4 * N + 1) ((a) * (a) + (b) * (b)), VT⟩]) (SL' := [(19, Vb (false)), (26, Vb (true)), (5, Vi (21))]) st4 ⟨?s0, ks, ks, trivial⟩ ?_
        case s0 => exact kr fun _ ac Wd h hd => build_Turn0 rfl
        intro a5 w5 st5
        clear st4
        repeat first | refine wp_seq ?_ | refine wp_block ?_ | refine wp_skip ?_ | refine wp_exit ?_
        obtain ⟨g, cs, r1, r2, r3, r4, r5⟩ := st5.res ⟨4, none, none, 47, 8, Vv 1 (0) (0), VT⟩ (.tail _ (.tail _ (.head _))) rfl rfl
        obtain ⟨vr, q1, q4⟩ := st5.slot (5, Vi (21)) (.tail _ (.tail _ (.head _)))
        exact wp_ret (bodyPost_ret (results_cell1 rfl _ _ g 47 cs (0, 0) _ vr r1 q1 r2 Tryz.underlying47 rfl (by rw [r3]; exact size_Turn)) st5.defers ⟨_, rfl, ⟨_, _, rfl, (by rw [show alX (a * a + b * b) (c * c + d * d) (a * c + b * d) = 0 from if_pos (.inr (.inr he)), show alX (a * a + b * b) (c * c + d * d) (a * d - b * c) = 0 from if_pos (.inr (.inr he))]; exact Vv_le r4 (by omega)), (by have hn : ¬ ((a * a + b * b) = 0 ∨ (c * c + d * d) = 0) := (by rintro (h | h); exact hs h; exact ho h); rw [show alE (a * a + b * b) (c * c + d * d) = 21 from (if_neg hn).trans (if_neg he)]; exact q4)⟩, r5⟩)
set_option maxRecDepth 100000 in
set_option maxHeartbeats 1600000 in
theorem cR5Put {w : World} {N : Nat} {a b c s x y : Rat} {v0 v1 : Value} (h0 : Vp N (c) (s) (x) (y) v0 w) (h1 : Vv N (a) (b) v1 w) (h3 : 3 ≤ N) (hN : N ≤ 500) : Calls Tryz.prog 52 #[v0, v1] w (RV (Vv (8 * N + 3) (c * a - s * b + x) (s * a + c * b + y)) w) := by
  go_enter Tryz.func52, Tryz.ntmps52
  have st0 : St w.heap.size w 12 [] [(0, Vp N (c) (s) (x) (y)), (1, Vv N (a) (b))] _ w := St.begin (a := ⟨#[v0, v1, undef, undef, undef, undef, undef, undef, undef, undef, undef, undef], []⟩) rfl rfl (List.forall_mem_cons.2 ⟨⟨_, rfl, h0⟩, (List.forall_mem_cons.2 ⟨⟨_, rfl, h1⟩, (fun _ h => absurd h (by simp))⟩)⟩)
  generalize (⟨#[v0, v1, undef, undef, undef, undef, undef, undef, undef, undef, undef, undef], []⟩ : Act) = a0 at st0 ⊢
  repeat first | refine wp_seq ?_ | refine wp_block ?_ | refine wp_skip ?_ | refine wp_exit ?_
  refine rg (BT := [(28, 8, 0)]) (Vl := [VT, VT, VT]) (B := [⟨2, some 0, some 0, 60, 16, Vp N (c) (s) (x) (y), VT⟩, ⟨3, some 1, some 1, 28, 8, Vv N (a) (b), VT⟩, ⟨4, some 2, none, 28, 8, VT, VT⟩]) (SL' := []) st0 ⟨ks, ks, ks, trivial⟩ ?_
  intro a1 w1 st1
  clear st0
  repeat first | refine wp_seq ?_ | refine wp_block ?_ | refine wp_skip ?_ | refine wp_exit ?_
  refine rg (BT := [(28, 8, 0)]) (Vl := [Vpt a1 2 0, Vv N (c) (s), Vv N (a) (b), Vv (4 * N + 1) ((c) * (a) - (s) * (b)) ((s) * (a) + (c) * (b)), Vpt a1 2 8, Vv N (x) (y), Vv ((max (4 * N + 1) N) + (max (4 * N + 1) N) + 1) (((c) * (a) - (s) * (b)) + (x)) (((s) * (a) + (c) * (b)) + (y)), VT]) (B := [⟨2, none, none, 60, 16, Vp N (c) (s) (x) (y), VT⟩, ⟨3, none, none, 28, 8, Vv N (a) (b), VT⟩, ⟨4, none, some 7, 28, 8, Vv ((max (4 * N + 1) N) + (max (4 * N + 1) N) + 1) (((c) * (a) - (s) * (b)) + (x)) (((s) * (a) + (c) * (b)) + (y)), VT⟩]) (SL' := []) st1 ⟨ks, ks, ks, ?s3, ks, ks, ?s6, ks, trivial⟩ ?_
  case s3 =>
    refine kc fun _ ac Wd h hd => ?_
    obtain ⟨v0, hv0, hV0⟩ := h.dp hd 6
    obtain ⟨v1, hv1, hV1⟩ := h.dp hd 7
    exact ⟨#[v0, v1], by simp [hv0, hv1], cR5Rotate (show Vv N (c) (s) v0 Wd from hV0) (show Vv N (a) (b) v1 Wd from hV1) (by omega) (by omega)⟩
  case s6 =>
    refine kc fun _ ac Wd h hd => ?_
    obtain ⟨v0, hv0, hV0⟩ := h.dp hd 8
    obtain ⟨v1, hv1, hV1⟩ := h.dp hd 10
    exact ⟨#[v0, v1], by simp [hv0, hv1], cR5Add (Vv_le (M := (max (4 * N + 1) N)) (show Vv (4 * N + 1) ((c) * (a) - (s) * (b)) ((s) * (a) + (c) * (b)) v0 Wd from hV0) (by omega)) (Vv_le (M := (max (4 * N + 1) N)) (show Vv N (x) (y) v1 Wd from hV1) (by omega)) (by omega) (by omega)⟩
  intro a2 w2 st2
  clear st1
  repeat first | refine wp_seq ?_ | refine wp_block ?_ | refine wp_skip ?_ | refine wp_exit ?_
  obtain ⟨g, cs, r1, r2, r3, r4, r5⟩ := st2.res ⟨4, none, none, 28, 8, Vv ((max (4 * N + 1) N) + (max (4 * N + 1) N) + 1) (((c) * (a) - (s) * (b)) + (x)) (((s) * (a) + (c) * (b)) + (y)), VT⟩ (.tail _ (.tail _ (.head _))) rfl rfl
  exact wp_ret (bodyPost_ret (results_cell_row rfl _ _ g 28 cs (0, 0) _ r1 r2 Tryz.underlying28 rfl (by rw [r3]; exact size_Vec)) st2.defers ⟨_, rfl, (Vv_le r4 (by omega)), r5⟩)
set_option maxRecDepth 100000 in
set_option maxHeartbeats 1600000 in
theorem cR5Compose {w : World} {N : Nat} {c s x y c2 s2 x2 y2 : Rat} {v0 v1 : Value} (h0 : Vp N (c) (s) (x) (y) v0 w) (h1 : Vp N (c2) (s2) (x2) (y2) v1 w) (h3 : 3 ≤ N) (hN : N ≤ 500) : Calls Tryz.prog 54 #[v0, v1] w (RV (Vp (8 * N + 3) (c * c2 - s * s2) (s * c2 + c * s2) (c * x2 - s * y2 + x) (s * x2 + c * y2 + y)) w) := by
  go_enter Tryz.func54, Tryz.ntmps54
  have st0 : St w.heap.size w 15 [] [(0, Vp N (c) (s) (x) (y)), (1, Vp N (c2) (s2) (x2) (y2))] _ w := St.begin (a := ⟨#[v0, v1, undef, undef, undef, undef, undef, undef, undef, undef, undef, undef, undef, undef, undef], []⟩) rfl rfl (List.forall_mem_cons.2 ⟨⟨_, rfl, h0⟩, (List.forall_mem_cons.2 ⟨⟨_, rfl, h1⟩, (fun _ h => absurd h (by simp))⟩)⟩)
  generalize (⟨#[v0, v1, undef, undef, undef, undef, undef, undef, undef, undef, undef, undef, undef, undef, undef], []⟩ : Act) = a0 at st0 ⊢
  repeat first | refine wp_seq ?_ | refine wp_block ?_ | refine wp_skip ?_ | refine wp_exit ?_
  refine rg (BT := [(60, 16, 0)]) (Vl := [VT, VT, VT]) (B := [⟨2, some 0, some 0, 60, 16, Vp N (c) (s) (x) (y), VT⟩, ⟨3, some 1, some 1, 60, 16, Vp N (c2) (s2) (x2) (y2), VT⟩, ⟨4, some 2, none, 60, 16, VT, VT⟩]) (SL' := []) st0 ⟨ks, ks, ks, trivial⟩ ?_
  intro a1 w1 st1
  clear st0
  repeat first | refine wp_seq ?_ | refine wp_block ?_ | refine wp_skip ?_ | refine wp_exit ?_
  refine rg (BT := [(60, 16, 0)]) (Vl := [Vpt a1 2 0, Vv N (c) (s), Vpt a1 3 0, Vv N (c2) (s2), Vv (4 * N + 1) ((c) * (c2) - (s) * (s2)) ((s) * (c2) + (c) * (s2)), Vp N (c) (s) (x) (y), Vpt a1 3 8, Vv N (x2) (y2), Vv (8 * N + 3) ((c) * (x2) - (s) * (y2) + (x)) ((s) * (x2) + (c) * (y2) + (y)), Vp (max (4 * N + 1) (8 * N + 3)) ((c) * (c2) - (s) * (s2)) ((s) * (c2) + (c) * (s2)) ((c) * (x2) - (s) * (y2) + (x)) ((s) * (x2) + (c) * (y2) + (y)), VT]) (B := [⟨2, none, none, 60, 16, Vp N (c) (s) (x) (y), VT⟩, ⟨3, none, none, 60, 16, Vp N (c2) (s2) (x2) (y2), VT⟩, ⟨4, none, some 10, 60, 16, Vp (max (4 * N + 1) (8 * N + 3)) ((c) * (c2) - (s) * (s2)) ((s) * (c2) + (c) * (s2)) ((c) * (x2) - (s) * (y2) + (x)) ((s) * (x2) + (c) * (y2) + (y)), VT⟩]) (SL' := []) st1 ⟨ks, ks, ks, ks, ?s4, ks, ks, ks, ?s8, ?s9, ks, trivial⟩ ?_
  case s4 =>
    refine kc fun _ ac Wd h hd => ?_
    obtain ⟨v0, hv0, hV0⟩ := h.dp hd 6
    obtain ⟨v1, hv1, hV1⟩ := h.dp hd 8
    exact ⟨#[v0, v1], by simp [hv0, hv1], cR5After (show Vv N (c) (s) v0 Wd from hV0) (show Vv N (c2) (s2) v1 Wd from hV1) (by omega) (by omega)⟩
  case s8 =>
    refine kc fun _ ac Wd h hd => ?_
    obtain ⟨v0, hv0, hV0⟩ := h.dp hd 10
    obtain ⟨v1, hv1, hV1⟩ := h.dp hd 12
    exact ⟨#[v0, v1], by simp [hv0, hv1], cR5Put (show Vp N (c) (s) (x) (y) v0 Wd from hV0) (show Vv N (x2) (y2) v1 Wd from hV1) (by omega) (by omega)⟩
  case s9 =>
    refine kr fun _ ac Wd h hd => ?_
    obtain ⟨v0, hv0, hV0⟩ := h.dp hd 9
    obtain ⟨v1, hv1, hV1⟩ := h.dp hd 13
    exact build_Place rfl hv0 hv1 (AggV_Vv _ _ _) (AggV_Vv _ _ _) (Vv_le (M := (max (4 * N + 1) (8 * N + 3))) (show Vv (4 * N + 1) ((c) * (c2) - (s) * (s2)) ((s) * (c2) + (c) * (s2)) v0 Wd from hV0) (by omega)) (Vv_le (M := (max (4 * N + 1) (8 * N + 3))) (show Vv (8 * N + 3) ((c) * (x2) - (s) * (y2) + (x)) ((s) * (x2) + (c) * (y2) + (y)) v1 Wd from hV1) (by omega))
  intro a2 w2 st2
  clear st1
  repeat first | refine wp_seq ?_ | refine wp_block ?_ | refine wp_skip ?_ | refine wp_exit ?_
  obtain ⟨g, cs, r1, r2, r3, r4, r5⟩ := st2.res ⟨4, none, none, 60, 16, Vp (max (4 * N + 1) (8 * N + 3)) ((c) * (c2) - (s) * (s2)) ((s) * (c2) + (c) * (s2)) ((c) * (x2) - (s) * (y2) + (x)) ((s) * (x2) + (c) * (y2) + (y)), VT⟩ (.tail _ (.tail _ (.head _))) rfl rfl
  exact wp_ret (bodyPost_ret (results_cell_row rfl _ _ g 60 cs (0, 0) _ r1 r2 Tryz.underlying60 rfl (by rw [r3]; exact size_Place)) st2.defers ⟨_, rfl, (Vp_le r4 (by omega)), r5⟩)
set_option maxRecDepth 100000 in
set_option maxHeartbeats 1600000 in
theorem cR5Inverse {w : World} {N : Nat} {c s x y : Rat} {v0 : Value} (h0 : Vp N (c) (s) (x) (y) v0 w) (h3 : 3 ≤ N) (hN : N ≤ 500) : Calls Tryz.prog 55 #[v0] w (RV (Vp (8 * N + 8) c (-s) (0 - (c * x - -s * y)) (0 - (-s * x + c * y))) w) := by
  go_enter Tryz.func55, Tryz.ntmps55
  have st0 : St w.heap.size w 15 [] [(0, Vp N (c) (s) (x) (y))] _ w := St.begin (a := ⟨#[v0, undef, undef, undef, undef, undef, undef, undef, undef, undef, undef, undef, undef, undef, undef], []⟩) rfl rfl (List.forall_mem_cons.2 ⟨⟨_, rfl, h0⟩, (fun _ h => absurd h (by simp))⟩)
  generalize (⟨#[v0, undef, undef, undef, undef, undef, undef, undef, undef, undef, undef, undef, undef, undef, undef], []⟩ : Act) = a0 at st0 ⊢
  repeat first | refine wp_seq ?_ | refine wp_block ?_ | refine wp_skip ?_ | refine wp_exit ?_
  refine rg (BT := [(47, 8, 0), (60, 16, 0)]) (Vl := [VT, VT]) (B := [⟨1, some 0, some 0, 60, 16, Vp N (c) (s) (x) (y), VT⟩, ⟨2, some 1, none, 60, 16, VT, VT⟩]) (SL' := []) st0 ⟨ks, ks, trivial⟩ ?_
  intro a1 w1 st1
  clear st0
  repeat first | refine wp_seq ?_ | refine wp_block ?_ | refine wp_skip ?_ | refine wp_exit ?_
  refine rg (BT := [(47, 8, 0), (60, 16, 0)]) (Vl := [Vpt a1 1 0, Vv N (c) (s), Vv N (c) (-(s)), VT, VT]) (B := [⟨1, none, none, 60, 16, Vp N (c) (s) (x) (y), VT⟩, ⟨2, none, none, 60, 16, VT, VT⟩, ⟨3, some 3, some 4, 47, 8, Vv N (c) (-(s)), VT⟩]) (SL' := []) st1 ⟨ks, ks, ?s2, ks, ks, trivial⟩ ?_
  case s2 => refine kc fun _ ac Wd h hd => ?_; obtain ⟨v0, hv0, hV0⟩ := h.dp hd 5; exact ⟨#[v0], by simp [hv0], cR5Back (show Vv N (c) (s) v0 Wd from hV0) (by omega)⟩
  intro a2 w2 st2
  clear st1
  repeat first | refine wp_seq ?_ | refine wp_block ?_ | refine wp_skip ?_ | refine wp_exit ?_
  refine rg (BT := [(47, 8, 0), (60, 16, 0)]) (Vl := [Vv N (c) (-(s)), Vv 1 (0) (0), Vv N (c) (-(s)), Vpt a2 1 8, Vv N (x) (y), Vv (4 * N + 1) ((c) * (x) - (-(s)) * (y)) ((-(s)) * (x) + (c) * (y)), Vv ((max 1 (4 * N + 1)) + (max 1 (4 * N + 1)) + 1) ((0) - ((c) * (x) - (-(s)) * (y))) ((0) - ((-(s)) * (x) + (c) * (y))), Vp (max N ((max 1 (4 * N + 1)) + (max 1 (4 * N + 1)) + 1)) (c) (-(s)) ((0) - ((c) * (x) - (-(s)) * (y))) ((0) - ((-(s)) * (x) + (c) * (y))), VT]) (B := [⟨1, none, none, 60, 16, Vp N (c) (s) (x) (y), VT⟩, ⟨2, none, some 8, 60, 16, Vp (max N ((max 1 (4 * N + 1)) + (max 1 (4 * N + 1)) + 1)) (c) (-(s)) ((0) - ((c) * (x) - (-(s)) * (y))) ((0) - ((-(s)) * (x) + (c) * (y))), VT⟩, ⟨3, none, none, 47, 8, Vv N (c) (-(s)), VT⟩]) (SL' := []) st2 ⟨ks, ?s1, ks, ks, ks, ?s5, ?s6, ?s7, ks, trivial⟩ ?_
  case s1 => exact kr fun _ ac Wd h hd => build_Vec0 rfl
  case s5 =>
    refine kc fun _ ac Wd h hd => ?_
    obtain ⟨v0, hv0, hV0⟩ := h.dp hd 9
    obtain ⟨v1, hv1, hV1⟩ := h.dp hd 11
    exact ⟨#[v0, v1], by simp [hv0, hv1], cR5Rotate (show Vv N (c) (-(s)) v0 Wd from hV0) (show Vv N (x) (y) v1 Wd from hV1) (by omega) (by omega)⟩
  case s6 =>
    refine kc fun _ ac Wd h hd => ?_
    obtain ⟨v0, hv0, hV0⟩ := h.dp hd 8
    obtain ⟨v1, hv1, hV1⟩ := h.dp hd 12
    exact ⟨#[v0, v1], by simp [hv0, hv1], cR5Sub (Vv_le (M := (max 1 (4 * N + 1))) (show Vv 1 (0) (0) v0 Wd from hV0) (by omega)) (Vv_le (M := (max 1 (4 * N + 1))) (show Vv (4 * N + 1) ((c) * (x) - (-(s)) * (y)) ((-(s)) * (x) + (c) * (y)) v1 Wd from hV1) (by omega)) (by omega) (by omega)⟩
  case s7 =>
    refine kr fun _ ac Wd h hd => ?_
    obtain ⟨v0, hv0, hV0⟩ := h.dp hd 7
    obtain ⟨v1, hv1, hV1⟩ := h.dp hd 13
    exact build_Place rfl hv0 hv1 (AggV_Vv _ _ _) (AggV_Vv _ _ _) (Vv_le (M := (max N ((max 1 (4 * N + 1)) + (max 1 (4 * N + 1)) + 1))) (show Vv N (c) (-(s)) v0 Wd from hV0) (by omega)) (Vv_le (M := (max N ((max 1 (4 * N + 1)) + (max 1 (4 * N + 1)) + 1))) (show Vv ((max 1 (4 * N + 1)) + (max 1 (4 * N + 1)) + 1) ((0) - ((c) * (x) - (-(s)) * (y))) ((0) - ((-(s)) * (x) + (c) * (y))) v1 Wd from hV1) (by omega))
  intro a3 w3 st3
  clear st2
  repeat first | refine wp_seq ?_ | refine wp_block ?_ | refine wp_skip ?_ | refine wp_exit ?_
  obtain ⟨g, cs, r1, r2, r3, r4, r5⟩ := st3.res ⟨2, none, none, 60, 16, Vp (max N ((max 1 (4 * N + 1)) + (max 1 (4 * N + 1)) + 1)) (c) (-(s)) ((0) - ((c) * (x) - (-(s)) * (y))) ((0) - ((-(s)) * (x) + (c) * (y))), VT⟩ (.tail _ (.head _)) rfl rfl
  exact wp_ret (bodyPost_ret (results_cell_row rfl _ _ g 60 cs (0, 0) _ r1 r2 Tryz.underlying60 rfl (by rw [r3]; exact size_Place)) st3.defers ⟨_, rfl, (Vp_le r4 (by omega)), r5⟩)
set_option maxRecDepth 100000 in
set_option maxHeartbeats 1600000 in
theorem cR5SameP {w : World} {N : Nat} {c s x y c2 s2 x2 y2 : Rat} {v0 v1 : Value} (h0 : Vp N (c) (s) (x) (y) v0 w) (h1 : Vp N (c2) (s2) (x2) (y2) v1 w) (h3 : 3 ≤ N) (hN : N ≤ 10000) : Calls Tryz.prog 53 #[v0, v1] w (RV (Vb (decide ((c = c2 ∧ s = s2) ∧ (x = x2 ∧ y = y2)))) w) := by
  go_enter Tryz.func53, Tryz.ntmps53
  have st0 : St w.heap.size w 17 [] [(0, Vp N (c) (s) (x) (y)), (1, Vp N (c2) (s2) (x2) (y2))] _ w := St.begin (a := ⟨#[v0, v1, undef, undef, undef, undef, undef, undef, undef, undef, undef, undef, undef, undef, undef, undef, undef], []⟩) rfl rfl (List.forall_mem_cons.2 ⟨⟨_, rfl, h0⟩, (List.forall_mem_cons.2 ⟨⟨_, rfl, h1⟩, (fun _ h => absurd h (by simp))⟩)⟩)
  generalize (⟨#[v0, v1, undef, undef, undef, undef, undef, undef, undef, undef, undef, undef, undef, undef, undef, undef, undef], []⟩ : Act) = a0 at st0 ⊢
  repeat first | refine wp_seq ?_ | refine wp_block ?_ | refine wp_skip ?_ | refine wp_exit ?_
  refine rg (BT := []) (Vl := [VT, VT, Vb (false)]) (B := [⟨2, some 0, some 0, 60, 16, Vp N (c) (s) (x) (y), VT⟩, ⟨3, some 1, some 1, 60, 16, Vp N (c2) (s2) (x2) (y2), VT⟩]) (SL' := [(4, Vb (false))]) st0 ⟨ks, ks, ks, trivial⟩ ?_
  intro a1 w1 st1
  clear st0
  by_cases hp : c = c2 ∧ s = s2
  ·
    repeat first | refine wp_seq ?_ | refine wp_block ?_ | refine wp_skip ?_ | refine wp_exit ?_
    refine rg (BT := []) (Vl := [Vpt a1 2 0, Vv N (c) (s), Vpt a1 3 0, Vv N (c2) (s2), Vb (true), Vb (true), Vpt a1 2 8, Vv N (x) (y), Vpt a1 3 8, Vv N (x2) (y2), Vb (decide ((x) = (x2) ∧ (y) = (y2))), Vb (decide ((x) = (x2) ∧ (y) = (y2))), Vb (decide ((x) = (x2) ∧ (y) = (y2)))]) (B := [⟨2, none, none, 60, 16, Vp N (c) (s) (x) (y), VT⟩, ⟨3, none, none, 60, 16, Vp N (c2) (s2) (x2) (y2), VT⟩]) (SL' := [(4, Vb (decide ((x) = (x2) ∧ (y) = (y2))))]) st1 ⟨ks, ks, ks, ks, ?s4, ks, ks, ks, ks, ks, ?s10, ks, ks, trivial⟩ ?_
    case s4 =>
      refine kc fun _ ac Wd h hd => ?_
      obtain ⟨v0, hv0, hV0⟩ := h.dp hd 6
      obtain ⟨v1, hv1, hV1⟩ := h.dp hd 8
      exact ⟨#[v0, v1], by simp [hv0, hv1], (cR5TSame (show Vv N (c) (s) v0 Wd from hV0) (show Vv N (c2) (s2) v1 Wd from hV1) (by omega) (by omega)).mono fun e w h => h.le fun v w hv => hv.trans (congrArg Value.bool (decide_eq_true (hp)))⟩
    case s10 =>
      refine kc fun _ ac Wd h hd => ?_
      obtain ⟨v0, hv0, hV0⟩ := h.dp hd 12
      obtain ⟨v1, hv1, hV1⟩ := h.dp hd 14
      exact ⟨#[v0, v1], by simp [hv0, hv1], cR5Same (show Vv N (x) (y) v0 Wd from hV0) (show Vv N (x2) (y2) v1 Wd from hV1) (by omega) (by omega)⟩
    intro a2 w2 st2
    clear st1
    repeat first | refine wp_seq ?_ | refine wp_block ?_ | refine wp_skip ?_ | refine wp_exit ?_
    obtain ⟨vr, r1, r4⟩ := st2.slot (4, Vb (decide ((x) = (x2) ∧ (y) = (y2)))) (.head _)
    exact wp_ret (bodyPost_ret (results_tmp rfl _ _ _) st2.defers ⟨_, congrArg Ending.returned (show _ = vr from r1), (by rw [show decide ((c = c2 ∧ s = s2) ∧ (x = x2 ∧ y = y2)) = decide (x = x2 ∧ y = y2) from decide_eq_decide.2 (and_iff_right hp)]; exact r4), st2.k.below⟩)
  ·
    repeat first | refine wp_seq ?_ | refine wp_block ?_ | refine wp_skip ?_ | refine wp_exit ?_
    refine rg (BT := []) (Vl := [Vpt a1 2 0, Vv N (c) (s), Vpt a1 3 0, Vv N (c2) (s2), Vb (false), Vb (false), VT, VT, VT, VT, VT, Vb (false), Vb (false)]) (B := [⟨2, none, none, 60, 16, Vp N (c) (s) (x) (y), VT⟩, ⟨3, none, none, 60, 16, Vp N (c2) (s2) (x2) (y2), VT⟩]) (SL' := [(4, Vb (false))]) st1 ⟨ks, ks, ks, ks, ?s4, ks, ks, ks, ks, ks, ks, ks, ks, trivial⟩ ?_
    case s4 =>
      refine kc fun _ ac Wd h hd => ?_
      obtain ⟨v0, hv0, hV0⟩ := h.dp hd 6
      obtain ⟨v1, hv1, hV1⟩ := h.dp hd 8
      exact ⟨#[v0, v1], by simp [hv0, hv1], (cR5TSame (show Vv N (c) (s) v0 Wd from hV0) (show Vv N (c2) (s2) v1 Wd from hV1) (by omega) (by omega)).mono fun e w h => h.le fun v w hv => hv.trans (congrArg Value.bool (decide_eq_false (hp)))⟩
    intro a2 w2 st2
    clear st1
    repeat first | refine wp_seq ?_ | refine wp_block ?_ | refine wp_skip ?_ | refine wp_exit ?_
    obtain ⟨vr, r1, r4⟩ := st2.slot (4, Vb (false)) (.head _)
    exact wp_ret (bodyPost_ret (results_tmp rfl _ _ _) st2.defers ⟨_, congrArg Ending.returned (show _ = vr from r1), (by rw [decide_eq_false (fun h => hp h.1)]; exact r4), st2.k.below⟩)
end Go.Proofs.YteaoaoknpihchaaGreat
