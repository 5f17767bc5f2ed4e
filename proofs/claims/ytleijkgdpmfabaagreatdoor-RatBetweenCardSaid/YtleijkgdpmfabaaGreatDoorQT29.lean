/- Between of both packages. -/
import Derived.Test.YtleijkgdpmfabaaGreatDoorQX4
import Derived.Test.YtleijkgdpmfabaaGreatDoorQT28
set_option linter.unusedVariables false
namespace Go.Proofs.YtleijkgdpmfabaaGreatDoor
open Go.RowKit
set_option maxRecDepth 100000 in
set_option maxHeartbeats 1600000 in
theorem cBetweenE {w : World} {N : Nat} {a : Rat} {v0 v1 : Value} (h0 : Vq N (a) v0 w) (h1 : Vq N (a) v1 w) (h1N : 1 ≤ N) (hN : N ≤ 100000) : Calls Tryz.prog 51 #[v0, v1] w (RV (VTup (Vq N a) (Vi 0)) w) := by
  go_enter Tryz.func51, Tryz.ntmps51
  have st0 : St w.heap.size w 35 [] [(0, Vq N (a)), (1, Vq N (a))] _ w := St.begin (a := ⟨#[v0, v1, undef, undef, undef, undef, undef, undef, undef, undef, undef, undef, undef, undef, undef, undef, undef, undef, undef, undef, undef, undef, undef, undef, undef, undef, undef, undef, undef, undef, undef, undef, undef, undef, undef], []⟩) rfl rfl (List.forall_mem_cons.2 ⟨⟨_, rfl, h0⟩, (List.forall_mem_cons.2 ⟨⟨_, rfl, h1⟩, (fun _ h => absurd h (by simp))⟩)⟩)
  generalize (⟨#[v0, v1, undef, undef, undef, undef, undef, undef, undef, undef, undef, undef, undef, undef, undef, undef, undef, undef, undef, undef, undef, undef, undef, undef, undef, undef, undef, undef, undef, undef, undef, undef, undef, undef, undef], []⟩ : Act) = a0 at st0 ⊢
  repeat first|refine wp_seq ?_|refine wp_block ?_|refine wp_skip ?_|refine wp_exit ?_
  refine rg (BT := [(27, 4, 0)]) (Vl := [VT, VT, VT, Vi (0)]) (B := [⟨2, some 0, some 0, 27, 4, Vq N (a), VT⟩, ⟨3, some 1, some 1, 27, 4, Vq N (a), VT⟩, ⟨4, some 2, none, 27, 4, VT, VT⟩]) (SL' := [(5, Vi (0))]) st0 ⟨ks, ks, ks, ks, trivial⟩ ?_
  intro a1 w1 st1
  clear st0
  repeat first|refine wp_seq ?_|refine wp_block ?_|refine wp_skip ?_|refine wp_exit ?_
  refine rg (BT := [(27, 4, 0)]) (Vl := [Vq N (a), Vq N (a), Vb (true), Vb (true)]) (B := [⟨2, none, none, 27, 4, Vq N (a), VT⟩, ⟨3, none, none, 27, 4, Vq N (a), VT⟩, ⟨4, none, none, 27, 4, VT, VT⟩]) (SL' := [(5, Vi (0)), (6, Vb (true))]) st1 ⟨ks, ks, ?s2, ks, trivial⟩ ?_
  case s2 =>
    refine kc fun _ ac Wd h hd => ?_
    obtain ⟨v0, hv0, hV0⟩ := h.dp hd 7
    obtain ⟨v1, hv1, hV1⟩ := h.dp hd 8
    exact ⟨#[v0, v1], by simp [hv0, hv1], (cQSame (Na := N) (Nb := N) (show Vq N (a) v0 Wd from hV0) (show Vq N (a) v1 Wd from hV1) (by omega) (by omega) (by omega) (by omega)).mono fun e w h => h.le fun v w hv => hv.trans (congrArg Value.bool (decide_eq_true rfl))⟩
  intro a2 w2 st2
  clear st1
  repeat first|refine wp_seq ?_|refine wp_block ?_|refine wp_skip ?_|refine wp_exit ?_
  obtain ⟨vc, hc1, hc2⟩ := st2.slot (6, Vb (true)) (.tail _ (.head _))
  refine wp_cond_true (hc1.trans hc2) ?_
  clear hc1 hc2
  repeat first|refine wp_seq ?_|refine wp_block ?_|refine wp_skip ?_|refine wp_exit ?_
  refine rg (BT := [(27, 4, 0)]) (Vl := [Vq N (a), VT, Vi (0)]) (B := [⟨2, none, none, 27, 4, Vq N (a), VT⟩, ⟨3, none, none, 27, 4, Vq N (a), VT⟩, ⟨4, none, some 1, 27, 4, Vq N (a), VT⟩]) (SL' := [(6, Vb (true)), (5, Vi (0))]) st2 ⟨ks, ks, ks, trivial⟩ ?_
  intro a3 w3 st3
  clear st2
  repeat first|refine wp_seq ?_|refine wp_block ?_|refine wp_skip ?_|refine wp_exit ?_
  obtain ⟨g, cs, r1, r2, r3, r4, r5⟩ := st3.res ⟨4, none, none, 27, 4, Vq N (a), VT⟩ (.tail _ (.tail _ (.head _))) rfl rfl
  obtain ⟨vr, q1, q4⟩ := st3.slot (5, Vi (0)) (.tail _ (.head _))
  exact wp_ret (bodyPost_ret (results_cell1 rfl _ _ g 27 cs (0, 0) _ vr r1 q1 r2 Tryz.underlying27 rfl (by rw [r3]; exact size_Rat)) st3.defers ⟨_, rfl, ⟨_, _, rfl, r4, q4⟩, r5⟩)
set_option maxRecDepth 100000 in
set_option maxHeartbeats 1600000 in
theorem cR4BetweenA {w : World} {N : Nat} {a b : Rat} {v0 v1 : Value} (h0 : Vq N (a) v0 w) (h1 : Vq N (b) v1 w) (h1N : 3 ≤ N) (hN : N ≤ 100000) (hc : 0 < cmpQ a b) : Calls Tryz.prog 52 #[v0, v1] w (RV (VTup (Vq N 0) (Vi 1)) w) := by
  go_enter Tryz.func52, Tryz.ntmps52
  have st0 : St w.heap.size w 27 [] [(0, Vq N (a)), (1, Vq N (b))] _ w := St.begin (a := ⟨#[v0, v1, undef, undef, undef, undef, undef, undef, undef, undef, undef, undef, undef, undef, undef, undef, undef, undef, undef, undef, undef, undef, undef, undef, undef, undef, undef], []⟩) rfl rfl (List.forall_mem_cons.2 ⟨⟨_, rfl, h0⟩, (List.forall_mem_cons.2 ⟨⟨_, rfl, h1⟩, (fun _ h => absurd h (by simp))⟩)⟩)
  generalize (⟨#[v0, v1, undef, undef, undef, undef, undef, undef, undef, undef, undef, undef, undef, undef, undef, undef, undef, undef, undef, undef, undef, undef, undef, undef, undef, undef, undef], []⟩ : Act) = a0 at st0 ⊢
  repeat first|refine wp_seq ?_|refine wp_block ?_|refine wp_skip ?_|refine wp_exit ?_
  refine rg (BT := [(27, 4, 0)]) (Vl := [VT, VT, VT, Vi (0)]) (B := [⟨2, some 0, some 0, 27, 4, Vq N (a), VT⟩, ⟨3, some 1, some 1, 27, 4, Vq N (b), VT⟩, ⟨4, some 2, none, 27, 4, VT, VT⟩]) (SL' := [(5, Vi (0))]) st0 ⟨ks, ks, ks, ks, trivial⟩ ?_
  intro a1 w1 st1
  clear st0
  repeat first|refine wp_seq ?_|refine wp_block ?_|refine wp_skip ?_|refine wp_exit ?_
  refine rg (BT := [(27, 4, 0)]) (Vl := [Vq N (a), Vq N (b), Vi (cmpQ (a) (b)), Vb (true)]) (B := [⟨2, none, none, 27, 4, Vq N (a), VT⟩, ⟨3, none, none, 27, 4, Vq N (b), VT⟩, ⟨4, none, none, 27, 4, VT, VT⟩]) (SL' := [(5, Vi (0)), (9, Vb (true))]) st1 ⟨ks, ks, ?s2, ?s3, trivial⟩ ?_
  case s2 =>
    refine kc fun _ ac Wd h hd => ?_
    obtain ⟨v0, hv0, hV0⟩ := h.dp hd 6
    obtain ⟨v1, hv1, hV1⟩ := h.dp hd 7
    exact ⟨#[v0, v1], by simp [hv0, hv1], cR4Compare (show Vq N (a) v0 Wd from hV0) (show Vq N (b) v1 Wd from hV1) (by omega) (by omega)⟩
  case s3 =>
    refine kr fun _ ac Wd h hd => ?_
    obtain ⟨v0, hv0, hV0⟩ := h.dp hd 8
    have hV0' : v0 = .int .i64 (cmpQ (a) (b)) := hV0
    exact ⟨_, run_gtri rfl (hv0.trans hV0') rfl, congrArg Value.bool (decide_eq_true (by omega))⟩
  intro a2 w2 st2
  clear st1
  repeat first|refine wp_seq ?_|refine wp_block ?_|refine wp_skip ?_|refine wp_exit ?_
  obtain ⟨vc, hc1, hc2⟩ := st2.slot (9, Vb (true)) (.tail _ (.head _))
  refine wp_cond_true (hc1.trans hc2) ?_
  clear hc1 hc2
  repeat first|refine wp_seq ?_|refine wp_block ?_|refine wp_skip ?_|refine wp_exit ?_
  refine rg (BT := [(27, 4, 0)]) (Vl := [Vq 1 (0), VT, Vi (1)]) (B := [⟨2, none, none, 27, 4, Vq N (a), VT⟩, ⟨3, none, none, 27, 4, Vq N (b), VT⟩, ⟨4, none, some 1, 27, 4, Vq 1 (0), VT⟩]) (SL' := [(9, Vb (true)), (5, Vi (1))]) st2 ⟨?s0, ks, ks, trivial⟩ ?_
  case s0 => exact kr fun _ ac Wd h hd => build_Rat0 rfl
  intro a3 w3 st3
  clear st2
  repeat first|refine wp_seq ?_|refine wp_block ?_|refine wp_skip ?_|refine wp_exit ?_
  obtain ⟨g, cs, r1, r2, r3, r4, r5⟩ := st3.res ⟨4, none, none, 27, 4, Vq 1 (0), VT⟩ (.tail _ (.tail _ (.head _))) rfl rfl
  obtain ⟨vr, q1, q4⟩ := st3.slot (5, Vi (1)) (.tail _ (.head _))
  exact wp_ret (bodyPost_ret (results_cell1 rfl _ _ g 27 cs (0, 0) _ vr r1 q1 r2 Tryz.underlying27 rfl (by rw [r3]; exact size_Rat)) st3.defers ⟨_, rfl, ⟨_, _, rfl, Vq_le r4 (by omega), q4⟩, r5⟩)
set_option maxRecDepth 100000 in
set_option maxHeartbeats 1600000 in
theorem cR4BetweenP {w : World} {N M : Nat} {a b r : Rat} {v0 v1 : Value} (h0 : Vq N (a) v0 w) (h1 : Vq N (b) v1 w) (h1N : 3 ≤ N) (hN : N ≤ 100000) (hc : cmpQ a b ≤ 0) (hs : 0 < cmpI a.num 0) (hl : ∀ (W : World) (v0 v1 : Value), Vq N a v0 W → Vq N b v1 W → Calls Tryz.prog 98 #[v0, v1] W (RV (Vq M r) W)) : Calls Tryz.prog 52 #[v0, v1] w (RV (VTup (Vq M r) (Vi 0)) w) := by
  go_enter Tryz.func52, Tryz.ntmps52
  have st0 : St w.heap.size w 27 [] [(0, Vq N (a)), (1, Vq N (b))] _ w := St.begin (a := ⟨#[v0, v1, undef, undef, undef, undef, undef, undef, undef, undef, undef, undef, undef, undef, undef, undef, undef, undef, undef, undef, undef, undef, undef, undef, undef, undef, undef], []⟩) rfl rfl (List.forall_mem_cons.2 ⟨⟨_, rfl, h0⟩, (List.forall_mem_cons.2 ⟨⟨_, rfl, h1⟩, (fun _ h => absurd h (by simp))⟩)⟩)
  generalize (⟨#[v0, v1, undef, undef, undef, undef, undef, undef, undef, undef, undef, undef, undef, undef, undef, undef, undef, undef, undef, undef, undef, undef, undef, undef, undef, undef, undef], []⟩ : Act) = a0 at st0 ⊢
  repeat first|refine wp_seq ?_|refine wp_block ?_|refine wp_skip ?_|refine wp_exit ?_
  refine rg (BT := [(27, 4, 0)]) (Vl := [VT, VT, VT, Vi (0)]) (B := [⟨2, some 0, some 0, 27, 4, Vq N (a), VT⟩, ⟨3, some 1, some 1, 27, 4, Vq N (b), VT⟩, ⟨4, some 2, none, 27, 4, VT, VT⟩]) (SL' := [(5, Vi (0))]) st0 ⟨ks, ks, ks, ks, trivial⟩ ?_
  intro a1 w1 st1
  clear st0
  repeat first|refine wp_seq ?_|refine wp_block ?_|refine wp_skip ?_|refine wp_exit ?_
  refine rg (BT := [(27, 4, 0)]) (Vl := [Vq N (a), Vq N (b), Vi (cmpQ (a) (b)), Vb (false)]) (B := [⟨2, none, none, 27, 4, Vq N (a), VT⟩, ⟨3, none, none, 27, 4, Vq N (b), VT⟩, ⟨4, none, none, 27, 4, VT, VT⟩]) (SL' := [(5, Vi (0)), (9, Vb (false))]) st1 ⟨ks, ks, ?s2, ?s3, trivial⟩ ?_
  case s2 =>
    refine kc fun _ ac Wd h hd => ?_
    obtain ⟨v0, hv0, hV0⟩ := h.dp hd 6
    obtain ⟨v1, hv1, hV1⟩ := h.dp hd 7
    exact ⟨#[v0, v1], by simp [hv0, hv1], cR4Compare (show Vq N (a) v0 Wd from hV0) (show Vq N (b) v1 Wd from hV1) (by omega) (by omega)⟩
  case s3 =>
    refine kr fun _ ac Wd h hd => ?_
    obtain ⟨v0, hv0, hV0⟩ := h.dp hd 8
    have hV0' : v0 = .int .i64 (cmpQ (a) (b)) := hV0
    exact ⟨_, run_gtri rfl (hv0.trans hV0') rfl, congrArg Value.bool (decide_eq_false (by omega))⟩
  intro a2 w2 st2
  clear st1
  repeat first|refine wp_seq ?_|refine wp_block ?_|refine wp_skip ?_|refine wp_exit ?_
  obtain ⟨vc, hc1, hc2⟩ := st2.slot (9, Vb (false)) (.tail _ (.head _))
  refine wp_cond_false (hc1.trans hc2) ?_
  clear hc1 hc2
  repeat first|refine wp_seq ?_|refine wp_block ?_|refine wp_skip ?_|refine wp_exit ?_
  refine rg (BT := [(27, 4, 0)]) (Vl := [Vq N (a), Vi (cmpI (a).num 0), Vb (true)]) (B := [⟨2, none, none, 27, 4, Vq N (a), VT⟩, ⟨3, none, none, 27, 4, Vq N (b), VT⟩, ⟨4, none, none, 27, 4, VT, VT⟩]) (SL' := [(5, Vi (0)), (9, Vb (false)), (13, Vb (true))]) st2 ⟨ks, ?s1, ?s2, trivial⟩ ?_
  case s1 => refine kc fun _ ac Wd h hd => ?_; obtain ⟨v0, hv0, hV0⟩ := h.dp hd 11; exact ⟨#[v0], by simp [hv0], cR4Sign (show Vq N (a) v0 Wd from hV0) (by omega)⟩
  case s2 =>
    refine kr fun _ ac Wd h hd => ?_
    obtain ⟨v0, hv0, hV0⟩ := h.dp hd 12
    have hV0' : v0 = .int .i64 (cmpI (a).num 0) := hV0
    exact ⟨_, run_gtri rfl (hv0.trans hV0') rfl, congrArg Value.bool (decide_eq_true (by omega))⟩
  intro a3 w3 st3
  clear st2
  repeat first|refine wp_seq ?_|refine wp_block ?_|refine wp_skip ?_|refine wp_exit ?_
  obtain ⟨vc, hc1, hc2⟩ := st3.slot (13, Vb (true)) (.tail _ (.tail _ (.head _)))
  refine wp_cond_true (hc1.trans hc2) ?_
  clear hc1 hc2
  repeat first|refine wp_seq ?_|refine wp_block ?_|refine wp_skip ?_|refine wp_exit ?_
  refine rg (BT := [(27, 4, 0)]) (Vl := [Vq N (a), Vq N (b), Vq M (r), VT, Vi (0)]) (B := [⟨2, none, none, 27, 4, Vq N (a), VT⟩, ⟨3, none, none, 27, 4, Vq N (b), VT⟩, ⟨4, none, some 3, 27, 4, Vq M (r), VT⟩]) (SL' := [(9, Vb (false)), (13, Vb (true)), (5, Vi (0))]) st3 ⟨ks, ks, ?s2, ks, ks, trivial⟩ ?_
  case s2 =>
    refine kc fun _ ac Wd h hd => ?_
    obtain ⟨v0, hv0, hV0⟩ := h.dp hd 14
    obtain ⟨v1, hv1, hV1⟩ := h.dp hd 15
    exact ⟨#[v0, v1], by simp [hv0, hv1], hl _ _ _ (show Vq N (a) v0 Wd from hV0) (show Vq N (b) v1 Wd from hV1)⟩
  intro a4 w4 st4
  clear st3
  repeat first|refine wp_seq ?_|refine wp_block ?_|refine wp_skip ?_|refine wp_exit ?_
  obtain ⟨g, cs, r1, r2, r3, r4, r5⟩ := st4.res ⟨4, none, none, 27, 4, Vq M (r), VT⟩ (.tail _ (.tail _ (.head _))) rfl rfl
  obtain ⟨vr, q1, q4⟩ := st4.slot (5, Vi (0)) (.tail _ (.tail _ (.head _)))
  exact wp_ret (bodyPost_ret (results_cell1 rfl _ _ g 27 cs (0, 0) _ vr r1 q1 r2 Tryz.underlying27 rfl (by rw [r3]; exact size_Rat)) st4.defers ⟨_, rfl, ⟨_, _, rfl, r4, q4⟩, r5⟩)
set_option maxRecDepth 100000 in
set_option maxHeartbeats 1600000 in
theorem cR4BetweenN {w : World} {N M : Nat} {a b r : Rat} {v0 v1 : Value} (h0 : Vq N (a) v0 w) (h1 : Vq N (b) v1 w) (h1N : 3 ≤ N) (hN : N ≤ 100000) (hMM : M ≤ 1000000) (hc : cmpQ a b ≤ 0) (hs : cmpI a.num 0 ≤ 0) (hs2 : cmpI b.num 0 < 0) (hl : ∀ (W : World) (v0 v1 : Value), Vq N (-b) v0 W → Vq N (-a) v1 W → Calls Tryz.prog 98 #[v0, v1] W (RV (Vq M r) W)) : Calls Tryz.prog 52 #[v0, v1] w (RV (VTup (Vq M (-r)) (Vi 0)) w) := by
  go_enter Tryz.func52, Tryz.ntmps52
  have st0 : St w.heap.size w 27 [] [(0, Vq N (a)), (1, Vq N (b))] _ w := St.begin (a := ⟨#[v0, v1, undef, undef, undef, undef, undef, undef, undef, undef, undef, undef, undef, undef, undef, undef, undef, undef, undef, undef, undef, undef, undef, undef, undef, undef, undef], []⟩) rfl rfl (List.forall_mem_cons.2 ⟨⟨_, rfl, h0⟩, (List.forall_mem_cons.2 ⟨⟨_, rfl, h1⟩, (fun _ h => absurd h (by simp))⟩)⟩)
  generalize (⟨#[v0, v1, undef, undef, undef, undef, undef, undef, undef, undef, undef, undef, undef, undef, undef, undef, undef, undef, undef, undef, undef, undef, undef, undef, undef, undef, undef], []⟩ : Act) = a0 at st0 ⊢
  repeat first|refine wp_seq ?_|refine wp_block ?_|refine wp_skip ?_|refine wp_exit ?_
  refine rg (BT := [(27, 4, 0)]) (Vl := [VT, VT, VT, Vi (0)]) (B := [⟨2, some 0, some 0, 27, 4, Vq N (a), VT⟩, ⟨3, some 1, some 1, 27, 4, Vq N (b), VT⟩, ⟨4, some 2, none, 27, 4, VT, VT⟩]) (SL' := [(5, Vi (0))]) st0 ⟨ks, ks, ks, ks, trivial⟩ ?_
  intro a1 w1 st1
  clear st0
  repeat first|refine wp_seq ?_|refine wp_block ?_|refine wp_skip ?_|refine wp_exit ?_
  refine rg (BT := [(27, 4, 0)]) (Vl := [Vq N (a), Vq N (b), Vi (cmpQ (a) (b)), Vb (false)]) (B := [⟨2, none, none, 27, 4, Vq N (a), VT⟩, ⟨3, none, none, 27, 4, Vq N (b), VT⟩, ⟨4, none, none, 27, 4, VT, VT⟩]) (SL' := [(5, Vi (0)), (9, Vb (false))]) st1 ⟨ks, ks, ?s2, ?s3, trivial⟩ ?_
  case s2 =>
    refine kc fun _ ac Wd h hd => ?_
    obtain ⟨v0, hv0, hV0⟩ := h.dp hd 6
    obtain ⟨v1, hv1, hV1⟩ := h.dp hd 7
    exact ⟨#[v0, v1], by simp [hv0, hv1], cR4Compare (show Vq N (a) v0 Wd from hV0) (show Vq N (b) v1 Wd from hV1) (by omega) (by omega)⟩
  case s3 =>
    refine kr fun _ ac Wd h hd => ?_
    obtain ⟨v0, hv0, hV0⟩ := h.dp hd 8
    have hV0' : v0 = .int .i64 (cmpQ (a) (b)) := hV0
    exact ⟨_, run_gtri rfl (hv0.trans hV0') rfl, congrArg Value.bool (decide_eq_false (by omega))⟩
  intro a2 w2 st2
  clear st1
  repeat first|refine wp_seq ?_|refine wp_block ?_|refine wp_skip ?_|refine wp_exit ?_
  obtain ⟨vc, hc1, hc2⟩ := st2.slot (9, Vb (false)) (.tail _ (.head _))
  refine wp_cond_false (hc1.trans hc2) ?_
  clear hc1 hc2
  repeat first|refine wp_seq ?_|refine wp_block ?_|refine wp_skip ?_|refine wp_exit ?_
  refine rg (BT := [(27, 4, 0)]) (Vl := [Vq N (a), Vi (cmpI (a).num 0), Vb (false)]) (B := [⟨2, none, none, 27, 4, Vq N (a), VT⟩, ⟨3, none, none, 27, 4, Vq N (b), VT⟩, ⟨4, none, none, 27, 4, VT, VT⟩]) (SL' := [(5, Vi (0)), (9, Vb (false)), (13, Vb (false))]) st2 ⟨ks, ?s1, ?s2, trivial⟩ ?_
  case s1 => refine kc fun _ ac Wd h hd => ?_; obtain ⟨v0, hv0, hV0⟩ := h.dp hd 11; exact ⟨#[v0], by simp [hv0], cR4Sign (show Vq N (a) v0 Wd from hV0) (by omega)⟩
  case s2 =>
    refine kr fun _ ac Wd h hd => ?_
    obtain ⟨v0, hv0, hV0⟩ := h.dp hd 12
    have hV0' : v0 = .int .i64 (cmpI (a).num 0) := hV0
    exact ⟨_, run_gtri rfl (hv0.trans hV0') rfl, congrArg Value.bool (decide_eq_false (by omega))⟩
  intro a3 w3 st3
  clear st2
  repeat first|refine wp_seq ?_|refine wp_block ?_|refine wp_skip ?_|refine wp_exit ?_
  obtain ⟨vc, hc1, hc2⟩ := st3.slot (13, Vb (false)) (.tail _ (.tail _ (.head _)))
  refine wp_cond_false (hc1.trans hc2) ?_
  clear hc1 hc2
  repeat first|refine wp_seq ?_|refine wp_block ?_|refine wp_skip ?_|refine wp_exit ?_
  refine rg (BT := [(27, 4, 0)]) (Vl := [Vq N (b), Vi (cmpI (b).num 0), Vb (true)]) (B := [⟨2, none, none, 27, 4, Vq N (a), VT⟩, ⟨3, none, none, 27, 4, Vq N (b), VT⟩, ⟨4, none, none, 27, 4, VT, VT⟩]) (SL' := [(5, Vi (0)), (9, Vb (false)), (13, Vb (false)), (19, Vb (true))]) st3 ⟨ks, ?s1, ?s2, trivial⟩ ?_
  case s1 => refine kc fun _ ac Wd h hd => ?_; obtain ⟨v0, hv0, hV0⟩ := h.dp hd 17; exact ⟨#[v0], by simp [hv0], cR4Sign (show Vq N (b) v0 Wd from hV0) (by omega)⟩
  case s2 =>
    refine kr fun _ ac Wd h hd => ?_
    obtain ⟨v0, hv0, hV0⟩ := h.dp hd 18
    have hV0' : v0 = .int .i64 (cmpI (b).num 0) := hV0
    exact ⟨_, run_lssi rfl (hv0.trans hV0') rfl, congrArg Value.bool (decide_eq_true (by omega))⟩
  intro a4 w4 st4
  clear st3
  repeat first|refine wp_seq ?_|refine wp_block ?_|refine wp_skip ?_|refine wp_exit ?_
  obtain ⟨vc, hc1, hc2⟩ := st4.slot (19, Vb (true)) (.tail _ (.tail _ (.tail _ (.head _))))
  refine wp_cond_true (hc1.trans hc2) ?_
  clear hc1 hc2
  repeat first|refine wp_seq ?_|refine wp_block ?_|refine wp_skip ?_|refine wp_exit ?_
  refine rg (BT := [(27, 4, 0)]) (Vl := [Vq N (b), Vq N (-(b)), Vq N (a), Vq N (-(a)), Vq M (r), Vq M (-(r)), VT, Vi (0)]) (B := [⟨2, none, none, 27, 4, Vq N (a), VT⟩, ⟨3, none, none, 27, 4, Vq N (b), VT⟩, ⟨4, none, some 6, 27, 4, Vq M (-(r)), VT⟩]) (SL' := [(9, Vb (false)), (13, Vb (false)), (19, Vb (true)), (5, Vi (0))]) st4 ⟨ks, ?s1, ks, ?s3, ?s4, ?s5, ks, ks, trivial⟩ ?_
  case s1 => refine kc fun _ ac Wd h hd => ?_; obtain ⟨v0, hv0, hV0⟩ := h.dp hd 20; exact ⟨#[v0], by simp [hv0], cR4Neg (show Vq N (b) v0 Wd from hV0) (by omega)⟩
  case s3 => refine kc fun _ ac Wd h hd => ?_; obtain ⟨v0, hv0, hV0⟩ := h.dp hd 22; exact ⟨#[v0], by simp [hv0], cR4Neg (show Vq N (a) v0 Wd from hV0) (by omega)⟩
  case s4 =>
    refine kc fun _ ac Wd h hd => ?_
    obtain ⟨v0, hv0, hV0⟩ := h.dp hd 21
    obtain ⟨v1, hv1, hV1⟩ := h.dp hd 23
    exact ⟨#[v0, v1], by simp [hv0, hv1], hl _ _ _ (show Vq N (-(b)) v0 Wd from hV0) (show Vq N (-(a)) v1 Wd from hV1)⟩
  case s5 => refine kc fun _ ac Wd h hd => ?_; obtain ⟨v0, hv0, hV0⟩ := h.dp hd 24; exact ⟨#[v0], by simp [hv0], cR4Neg (show Vq M (r) v0 Wd from hV0) (by omega)⟩
  intro a5 w5 st5
  clear st4
  repeat first|refine wp_seq ?_|refine wp_block ?_|refine wp_skip ?_|refine wp_exit ?_
  obtain ⟨g, cs, r1, r2, r3, r4, r5⟩ := st5.res ⟨4, none, none, 27, 4, Vq M (-(r)), VT⟩ (.tail _ (.tail _ (.head _))) rfl rfl
  obtain ⟨vr, q1, q4⟩ := st5.slot (5, Vi (0)) (.tail _ (.tail _ (.tail _ (.head _))))
  exact wp_ret (bodyPost_ret (results_cell1 rfl _ _ g 27 cs (0, 0) _ vr r1 q1 r2 Tryz.underlying27 rfl (by rw [r3]; exact size_Rat)) st5.defers ⟨_, rfl, ⟨_, _, rfl, r4, q4⟩, r5⟩)
set_option maxRecDepth 100000 in
set_option maxHeartbeats 1600000 in
theorem cR4BetweenZ {w : World} {N : Nat} {a b : Rat} {v0 v1 : Value} (h0 : Vq N (a) v0 w) (h1 : Vq N (b) v1 w) (h1N : 3 ≤ N) (hN : N ≤ 100000) (hc : cmpQ a b ≤ 0) (hs : cmpI a.num 0 ≤ 0) (hs2 : 0 ≤ cmpI b.num 0) : Calls Tryz.prog 52 #[v0, v1] w (RV (VTup (Vq N 0) (Vi 0)) w) := by
  go_enter Tryz.func52, Tryz.ntmps52
  have st0 : St w.heap.size w 27 [] [(0, Vq N (a)), (1, Vq N (b))] _ w := St.begin (a := ⟨#[v0, v1, undef, undef, undef, undef, undef, undef, undef, undef, undef, undef, undef, undef, undef, undef, undef, undef, undef, undef, undef, undef, undef, undef, undef, undef, undef], []⟩) rfl rfl (List.forall_mem_cons.2 ⟨⟨_, rfl, h0⟩, (List.forall_mem_cons.2 ⟨⟨_, rfl, h1⟩, (fun _ h => absurd h (by simp))⟩)⟩)
  generalize (⟨#[v0, v1, undef, undef, undef, undef, undef, undef, undef, undef, undef, undef, undef, undef, undef, undef, undef, undef, undef, undef, undef, undef, undef, undef, undef, undef, undef], []⟩ : Act) = a0 at st0 ⊢
  repeat first|refine wp_seq ?_|refine wp_block ?_|refine wp_skip ?_|refine wp_exit ?_
  refine rg (BT := [(27, 4, 0)]) (Vl := [VT, VT, VT, Vi (0)]) (B := [⟨2, some 0, some 0, 27, 4, Vq N (a), VT⟩, ⟨3, some 1, some 1, 27, 4, Vq N (b), VT⟩, ⟨4, some 2, none, 27, 4, VT, VT⟩]) (SL' := [(5, Vi (0))]) st0 ⟨ks, ks, ks, ks, trivial⟩ ?_
  intro a1 w1 st1
  clear st0
  repeat first|refine wp_seq ?_|refine wp_block ?_|refine wp_skip ?_|refine wp_exit ?_
  refine rg (BT := [(27, 4, 0)]) (Vl := [Vq N (a), Vq N (b), Vi (cmpQ (a) (b)), Vb (false)]) (B := [⟨2, none, none, 27, 4, Vq N (a), VT⟩, ⟨3, none, none, 27, 4, Vq N (b), VT⟩, ⟨4, none, none, 27, 4, VT, VT⟩]) (SL' := [(5, Vi (0)), (9, Vb (false))]) st1 ⟨ks, ks, ?s2, ?s3, trivial⟩ ?_
  case s2 =>
    refine kc fun _ ac Wd h hd => ?_
    obtain ⟨v0, hv0, hV0⟩ := h.dp hd 6
    obtain ⟨v1, hv1, hV1⟩ := h.dp hd 7
    exact ⟨#[v0, v1], by simp [hv0, hv1], cR4Compare (show Vq N (a) v0 Wd from hV0) (show Vq N (b) v1 Wd from hV1) (by omega) (by omega)⟩
  case s3 =>
    refine kr fun _ ac Wd h hd => ?_
    obtain ⟨v0, hv0, hV0⟩ := h.dp hd 8
    have hV0' : v0 = .int .i64 (cmpQ (a) (b)) := hV0
    exact ⟨_, run_gtri rfl (hv0.trans hV0') rfl, congrArg Value.bool (decide_eq_false (by omega))⟩
  intro a2 w2 st2
  clear st1
  repeat first|refine wp_seq ?_|refine wp_block ?_|refine wp_skip ?_|refine wp_exit ?_
  obtain ⟨vc, hc1, hc2⟩ := st2.slot (9, Vb (false)) (.tail _ (.head _))
  refine wp_cond_false (hc1.trans hc2) ?_
  clear hc1 hc2
  repeat first|refine wp_seq ?_|refine wp_block ?_|refine wp_skip ?_|refine wp_exit ?_
  refine rg (BT := [(27, 4, 0)]) (Vl := [Vq N (a), Vi (cmpI (a).num 0), Vb (false)]) (B := [⟨2, none, none, 27, 4, Vq N (a), VT⟩, ⟨3, none, none, 27, 4, Vq N (b), VT⟩, ⟨4, none, none, 27, 4, VT, VT⟩]) (SL' := [(5, Vi (0)), (9, Vb (false)), (13, Vb (false))]) st2 ⟨ks, ?s1, ?s2, trivial⟩ ?_
  case s1 => refine kc fun _ ac Wd h hd => ?_; obtain ⟨v0, hv0, hV0⟩ := h.dp hd 11; exact ⟨#[v0], by simp [hv0], cR4Sign (show Vq N (a) v0 Wd from hV0) (by omega)⟩
  case s2 =>
    refine kr fun _ ac Wd h hd => ?_
    obtain ⟨v0, hv0, hV0⟩ := h.dp hd 12
    have hV0' : v0 = .int .i64 (cmpI (a).num 0) := hV0
    exact ⟨_, run_gtri rfl (hv0.trans hV0') rfl, congrArg Value.bool (decide_eq_false (by omega))⟩
  intro a3 w3 st3
  clear st2
  repeat first|refine wp_seq ?_|refine wp_block ?_|refine wp_skip ?_|refine wp_exit ?_
  obtain ⟨vc, hc1, hc2⟩ := st3.slot (13, Vb (false)) (.tail _ (.tail _ (.head _)))
  refine wp_cond_false (hc1.trans hc2) ?_
  clear hc1 hc2
  repeat first|refine wp_seq ?_|refine wp_block ?_|refine wp_skip ?_|refine wp_exit ?_
  refine rg (BT := [(27, 4, 0)]) (Vl := [Vq N (b), Vi (cmpI (b).num 0), Vb (false)]) (B := [⟨2, none, none, 27, 4, Vq N (a), VT⟩, ⟨3, none, none, 27, 4, Vq N (b), VT⟩, ⟨4, none, none, 27, 4, VT, VT⟩]) (SL' := [(5, Vi (0)), (9, Vb (false)), (13, Vb (false)), (19, Vb (false))]) st3 ⟨ks, ?s1, ?s2, trivial⟩ ?_
  case s1 => refine kc fun _ ac Wd h hd => ?_; obtain ⟨v0, hv0, hV0⟩ := h.dp hd 17; exact ⟨#[v0], by simp [hv0], cR4Sign (show Vq N (b) v0 Wd from hV0) (by omega)⟩
  case s2 =>
    refine kr fun _ ac Wd h hd => ?_
    obtain ⟨v0, hv0, hV0⟩ := h.dp hd 18
    have hV0' : v0 = .int .i64 (cmpI (b).num 0) := hV0
    exact ⟨_, run_lssi rfl (hv0.trans hV0') rfl, congrArg Value.bool (decide_eq_false (by omega))⟩
  intro a4 w4 st4
  clear st3
  repeat first|refine wp_seq ?_|refine wp_block ?_|refine wp_skip ?_|refine wp_exit ?_
  obtain ⟨vc, hc1, hc2⟩ := st4.slot (19, Vb (false)) (.tail _ (.tail _ (.tail _ (.head _))))
  refine wp_cond_false (hc1.trans hc2) ?_
  clear hc1 hc2
  repeat first|refine wp_seq ?_|refine wp_block ?_|refine wp_skip ?_|refine wp_exit ?_
  refine rg (BT := [(27, 4, 0)]) (Vl := [Vq 1 (0), VT, Vi (0)]) (B := [⟨2, none, none, 27, 4, Vq N (a), VT⟩, ⟨3, none, none, 27, 4, Vq N (b), VT⟩, ⟨4, none, some 1, 27, 4, Vq 1 (0), VT⟩]) (SL' := [(9, Vb (false)), (13, Vb (false)), (19, Vb (false)), (5, Vi (0))]) st4 ⟨?s0, ks, ks, trivial⟩ ?_
  case s0 => exact kr fun _ ac Wd h hd => build_Rat0 rfl
  intro a5 w5 st5
  clear st4
  repeat first|refine wp_seq ?_|refine wp_block ?_|refine wp_skip ?_|refine wp_exit ?_
  obtain ⟨g, cs, r1, r2, r3, r4, r5⟩ := st5.res ⟨4, none, none, 27, 4, Vq 1 (0), VT⟩ (.tail _ (.tail _ (.head _))) rfl rfl
  obtain ⟨vr, q1, q4⟩ := st5.slot (5, Vi (0)) (.tail _ (.tail _ (.tail _ (.head _))))
  exact wp_ret (bodyPost_ret (results_cell1 rfl _ _ g 27 cs (0, 0) _ vr r1 q1 r2 Tryz.underlying27 rfl (by rw [r3]; exact size_Rat)) st5.defers ⟨_, rfl, ⟨_, _, rfl, Vq_le r4 (by omega), q4⟩, r5⟩)
theorem big6 : ∀ x : Int, 0 ≤ x → x ≤ 999999999999999999999999999999999999999999999999999999 → (digs x.natAbs).length ≤ 6 := fun x h0 h1 =>
  digs_len_le (by have : pw 6 = 1000000000000000000000000000000000000000000000000000000 := by decide +kernel
                  omega)
theorem len6 {x : Int} (h : (digs x.natAbs).length ≤ 6) : x ≤ 999999999999999999999999999999999999999999999999999999 := by
  have h1 := lt_pw x.natAbs
  have h2 : pw (digs x.natAbs).length ≤ 1000000000000000000000000000000000000000000000000000000 := by
    generalize (digs x.natAbs).length = L at h
    match L, h with
    | 0, _ => decide +kernel
    | 1, _ => decide +kernel
    | 2, _ => decide +kernel
    | 3, _ => decide +kernel
    | 4, _ => decide +kernel
    | 5, _ => decide +kernel
    | 6, _ => decide +kernel
  omega
def Sm (a : Rat) : Prop := (digs a.num.natAbs).length ≤ 6 ∧ (digs (a.den : Int).natAbs).length ≤ 6
theorem Vq_sm {a : Rat} {v : Value} {w : World} (h : Vq 6 a v w) : Sm a := by
  have hl := Vq_parts h
  refine ⟨Vz_len hl.1.choose_spec, ?_⟩
  have := Vz_len hl.2.choose_spec
  unfold qd at this
  split at this
  · rename_i hd; rw [hd]; exact Nat.le_trans (digs_one (by decide) (by decide)) (by decide)
  · exact this
theorem Sm.neg {a : Rat} (h : Sm a) : Sm (-a) := by
  unfold Sm at *
  rw [Rat.neg_num, Rat.neg_den, Int.natAbs_neg]; exact h
theorem ok6 {a b : Rat} (ha : 0 < a) (hab : a ≤ b) (sa : Sm a) (sb : Sm b) : okq 6 361 a.num (a.den : Int) b.num (b.den : Int) := by
  have hb : 0 < b := by grind
  have x1 := len6 sa.1
  have x2 := len6 sa.2
  have x3 := len6 sb.1
  have x4 := len6 sb.2
  have e : (999999999999999999999999999999999999999999999999999999 : Int) * 999999999999999999999999999999999999999999999999999999 < 4 ^ 180 := by decide +kernel
  have hB := den0 a
  have hD := den0 b
  exact okq_enough 6 _ big6 180 _ _ _ _ ((pos_iff' a).1 ha) hB ((pos_iff' b).1 hb) hD x1 x2 x3 x4 ((Rat.le_iff _ _).1 hab) (Int.lt_of_le_of_lt (Int.mul_le_mul x2 x4 (by omega) (by omega)) e)
noncomputable def lsQ (a b : Rat) : Rat := Classical.epsilon fun r => LsR a b r
theorem lsQ_spec {a b : Rat} (ha : 0 < a) (hab : a ≤ b) (sa : Sm a) (sb : Sm b) : LsR a b (lsQ a b) ∧ Sm (lsQ a b) := by
  obtain ⟨r, h, -⟩ := ls_ex ha hab (ok6 ha hab sa sb)
  have h2 : LsR a b (lsQ a b) := Classical.epsilon_spec (p := fun r => LsR a b r) ⟨r, h⟩
  exact ⟨h2, h2.fit hab sa.1 sa.2⟩
theorem lsQ_eq {a b r : Rat} (h : LsR a b r) : lsQ a b = r := (Classical.epsilon_spec (p := fun r => LsR a b r) ⟨r, h⟩ : LsR a b (lsQ a b)).uniq h
noncomputable def btv (a b : Rat) : Rat := if b < a then 0 else if 0 < a then lsQ a b else if b < 0 then -(lsQ (-b) (-a)) else 0
noncomputable def bte (a b : Rat) : Int := if b < a then 1 else 0
theorem btv_self {a : Rat} : btv a a = a := by
  unfold btv
  rw [if_neg (by grind)]
  split
  · exact lsQ_eq (LsR.self ‹_›)
  · split
    · rw [lsQ_eq (LsR.self (show 0 < -a by grind))]; grind
    · grind
theorem sgn_pos {a : Rat} : 0 < cmpI a.num 0 ↔ 0 < a := by
  rw [pos_iff' a]
  unfold cmpI
  split
  · constructor <;> intro h <;> omega
  · split <;> constructor <;> intro h <;> omega
theorem sgn_neg {a : Rat} : cmpI a.num 0 < 0 ↔ a < 0 := by
  have : a < 0 ↔ a.num < 0 := by rw [Rat.lt_iff]; simp
  rw [this]
  unfold cmpI
  split
  · constructor <;> intro h <;> omega
  · split <;> constructor <;> intro h <;> omega
theorem cBtw {a b : Rat} {W : World} {v0 v1 : Value} (h0 : Vq 6 a v0 W) (h1 : Vq 6 b v1 W) : Calls Tryz.prog 51 #[v0, v1] W (RV (VTup (Vq 6 (btv a b)) (Vi (bte a b))) W) := by
  have sa := Vq_sm h0
  have sb := Vq_sm h1
  by_cases he : a = b
  · subst he
    rw [btv_self, show bte a a = 0 from if_neg (by grind)]
    exact cBetweenE h0 h1 (by omega) (by omega)
  by_cases hlt : b < a
  · rw [show btv a b = 0 from if_pos hlt, show bte a b = 1 from if_pos hlt]
    exact cBetweenA h0 h1 (by omega) (by omega) he (by rw [cmpQ_gt.2 hlt]; decide)
  have hc : cmpQ a b ≤ 0 := cmpQ_le.2 (by grind)
  have hab : a ≤ b := by grind
  rw [show bte a b = 0 from if_neg hlt]
  by_cases hp : 0 < a
  · obtain ⟨q1, q2⟩ := lsQ_spec hp hab sa sb
    rw [show btv a b = lsQ a b by unfold btv; rw [if_neg hlt, if_pos hp]]
    exact cBetweenP h0 h1 (by omega) (by omega) he hc (sgn_pos.2 hp) fun W v0 v1 k0 k1 => cLeastG (m := 361) (by omega) (by omega) (by omega) hp hab (ok6 hp hab sa sb) q1 k0 k1
  by_cases hn : b < 0
  · have hp' : 0 < -b := by grind
    have hab' : -b ≤ -a := by grind
    obtain ⟨q1, q2⟩ := lsQ_spec hp' hab' sb.neg sa.neg
    rw [show btv a b = -(lsQ (-b) (-a)) by unfold btv; rw [if_neg hlt, if_neg hp, if_pos hn]]
    exact cBetweenN h0 h1 (by omega) (by omega) he (by omega) hc (Int.not_lt.1 fun h => hp (sgn_pos.1 h)) (sgn_neg.2 hn) fun W v0 v1 k0 k1 => cLeastG (m := 361) (by omega) (by omega) (by omega) hp' hab' (ok6 hp' hab' sb.neg sa.neg) q1 k0 k1
  · rw [show btv a b = 0 by unfold btv; rw [if_neg hlt, if_neg hp, if_neg hn]]
    exact cBetweenZ h0 h1 (by omega) (by omega) he hc (Int.not_lt.1 fun h => hp (sgn_pos.1 h)) (Int.not_lt.1 fun h => hn (sgn_neg.1 h))
theorem cR4Btw {a b : Rat} {W : World} {v0 v1 : Value} (h0 : Vq 6 a v0 W) (h1 : Vq 6 b v1 W) : Calls Tryz.prog 52 #[v0, v1] W (RV (VTup (Vq 6 (btv a b)) (Vi (bte a b))) W) := by
  have sa := Vq_sm h0
  have sb := Vq_sm h1
  by_cases hlt : b < a
  · rw [show btv a b = 0 from if_pos hlt, show bte a b = 1 from if_pos hlt]
    exact cR4BetweenA h0 h1 (by omega) (by omega) (by rw [cmpQ_gt.2 hlt]; decide)
  have hc : cmpQ a b ≤ 0 := cmpQ_le.2 (by grind)
  have hab : a ≤ b := by grind
  rw [show bte a b = 0 from if_neg hlt]
  by_cases hp : 0 < a
  · obtain ⟨q1, q2⟩ := lsQ_spec hp hab sa sb
    rw [show btv a b = lsQ a b by unfold btv; rw [if_neg hlt, if_pos hp]]
    exact cR4BetweenP h0 h1 (by omega) (by omega) hc (sgn_pos.2 hp) fun W v0 v1 k0 k1 => cR4leastG 361 6 a b _ (by omega) (by omega) hp hab (ok6 hp hab sa sb) q1 W 6 v0 v1 (by omega) k0 k1
  by_cases hn : b < 0
  · have hp' : 0 < -b := by grind
    have hab' : -b ≤ -a := by grind
    obtain ⟨q1, q2⟩ := lsQ_spec hp' hab' sb.neg sa.neg
    rw [show btv a b = -(lsQ (-b) (-a)) by unfold btv; rw [if_neg hlt, if_neg hp, if_pos hn]]
    exact cR4BetweenN h0 h1 (by omega) (by omega) (by omega) hc (Int.not_lt.1 fun h => hp (sgn_pos.1 h)) (sgn_neg.2 hn) fun W v0 v1 k0 k1 => cR4leastG 361 6 (-b) (-a) _ (by omega) (by omega) hp' hab' (ok6 hp' hab' sb.neg sa.neg) q1 W 6 v0 v1 (by omega) k0 k1
  · rw [show btv a b = 0 by unfold btv; rw [if_neg hlt, if_neg hp, if_neg hn]]
    exact cR4BetweenZ h0 h1 (by omega) (by omega) hc (Int.not_lt.1 fun h => hp (sgn_pos.1 h)) (Int.not_lt.1 fun h => hn (sgn_neg.1 h))
end Go.Proofs.YtleijkgdpmfabaaGreatDoor
