/- Contracts of the package integer and its reference: Comparisons and validity of package plane. The closure of package plane. Placements of package plane. -/
import Derived.Test.YteaoaoknpihchaaGreatM21
set_option linter.unusedVariables false
namespace Go.Proofs.YteaoaoknpihchaaGreat
open Go.RowKit

set_option maxRecDepth 100000 in
set_option maxHeartbeats 1600000 in
theorem cVSame {w : World} {N : Nat} {a b c d : Rat} {v0 v1 : Value} (h0 : Vv N (a) (b) v0 w) (h1 : Vv N (c) (d) v1 w) (hN1 : 1 ≤ N) (hN : N ≤ 4000) : Calls Tryz.prog 10 #[v0, v1] w (RV (Vb (decide (a = c ∧ b = d))) w) := by
  go_enter Tryz.func10, Tryz.ntmps10
  have st0 : St w.heap.size w 17 [] [(0, Vv N (a) (b)), (1, Vv N (c) (d))] _ w := St.begin (a := ⟨#[v0, v1, undef, undef, undef, undef, undef, undef, undef, undef, undef, undef, undef, undef, undef, undef, undef], []⟩) rfl rfl (List.forall_mem_cons.2 ⟨⟨_, rfl, h0⟩, (List.forall_mem_cons.2 ⟨⟨_, rfl, h1⟩, (fun _ h => absurd h (by simp))⟩)⟩)
  generalize (⟨#[v0, v1, undef, undef, undef, undef, undef, undef, undef, undef, undef, undef, undef, undef, undef, undef, undef], []⟩ : Act) = a0 at st0 ⊢
  repeat first | refine wp_seq ?_ | refine wp_block ?_ | refine wp_skip ?_ | refine wp_exit ?_
  refine rg (BT := []) (Vl := [VT, VT, Vb (false)]) (B := [⟨2, some 0, some 0, 28, 8, Vv N (a) (b), VT⟩, ⟨3, some 1, some 1, 28, 8, Vv N (c) (d), VT⟩]) (SL' := [(4, Vb (false))]) st0 ⟨ks, ks, ks, trivial⟩ ?_
  intro a1 w1 st1
  clear st0
  by_cases hp : a = c
  ·
    repeat first | refine wp_seq ?_ | refine wp_block ?_ | refine wp_skip ?_ | refine wp_exit ?_
    refine rg (BT := []) (Vl := [Vpt a1 2 0, Vq N (a), Vpt a1 3 0, Vq N (c), Vb (true), Vb (true), Vpt a1 2 4, Vq N (b), Vpt a1 3 4, Vq N (d), Vb (decide ((b) = (d))), Vb (decide ((b) = (d))), Vb (decide ((b) = (d)))]) (B := [⟨2, none, none, 28, 8, Vv N (a) (b), VT⟩, ⟨3, none, none, 28, 8, Vv N (c) (d), VT⟩]) (SL' := [(4, Vb (decide ((b) = (d))))]) st1 ⟨ks, ks, ks, ks, ?s4, ks, ks, ks, ks, ks, ?s10, ks, ks, trivial⟩ ?_
    case s4 =>
      refine kc fun _ ac Wd h hd => ?_
      obtain ⟨v0, hv0, hV0⟩ := h.dp hd 6
      obtain ⟨v1, hv1, hV1⟩ := h.dp hd 8
      exact ⟨#[v0, v1], by simp [hv0, hv1], (cQSame (show Vq N (a) v0 Wd from hV0) (show Vq N (c) v1 Wd from hV1) (by omega) (by omega) (by omega) (by omega)).mono fun e w h => h.le fun v w hv => hv.trans (congrArg Value.bool (decide_eq_true (hp)))⟩
    case s10 =>
      refine kc fun _ ac Wd h hd => ?_
      obtain ⟨v0, hv0, hV0⟩ := h.dp hd 12
      obtain ⟨v1, hv1, hV1⟩ := h.dp hd 14
      exact ⟨#[v0, v1], by simp [hv0, hv1], cQSame (show Vq N (b) v0 Wd from hV0) (show Vq N (d) v1 Wd from hV1) (by omega) (by omega) (by omega) (by omega)⟩
    intro a2 w2 st2
    clear st1
    repeat first | refine wp_seq ?_ | refine wp_block ?_ | refine wp_skip ?_ | refine wp_exit ?_
    obtain ⟨vr, r1, r4⟩ := st2.slot (4, Vb (decide ((b) = (d)))) (.head _)
    exact wp_ret (bodyPost_ret (results_tmp rfl _ _ _) st2.defers ⟨_, congrArg Ending.returned (show _ = vr from r1), (by rw [show decide (a = c ∧ b = d) = decide (b = d) by simp [hp]]; exact r4), st2.k.below⟩)
  ·
    repeat first | refine wp_seq ?_ | refine wp_block ?_ | refine wp_skip ?_ | refine wp_exit ?_
    refine rg (BT := []) (Vl := [Vpt a1 2 0, Vq N (a), Vpt a1 3 0, Vq N (c), Vb (false), Vb (false), VT, VT, VT, VT, VT, Vb (false), Vb (false)]) (B := [⟨2, none, none, 28, 8, Vv N (a) (b), VT⟩, ⟨3, none, none, 28, 8, Vv N (c) (d), VT⟩]) (SL' := [(4, Vb (false))]) st1 ⟨ks, ks, ks, ks, ?s4, ks, ks, ks, ks, ks, ks, ks, ks, trivial⟩ ?_
    case s4 =>
      refine kc fun _ ac Wd h hd => ?_
      obtain ⟨v0, hv0, hV0⟩ := h.dp hd 6
      obtain ⟨v1, hv1, hV1⟩ := h.dp hd 8
      exact ⟨#[v0, v1], by simp [hv0, hv1], (cQSame (show Vq N (a) v0 Wd from hV0) (show Vq N (c) v1 Wd from hV1) (by omega) (by omega) (by omega) (by omega)).mono fun e w h => h.le fun v w hv => hv.trans (congrArg Value.bool (decide_eq_false (hp)))⟩
    intro a2 w2 st2
    clear st1
    repeat first | refine wp_seq ?_ | refine wp_block ?_ | refine wp_skip ?_ | refine wp_exit ?_
    obtain ⟨vr, r1, r4⟩ := st2.slot (4, Vb (false)) (.head _)
    exact wp_ret (bodyPost_ret (results_tmp rfl _ _ _) st2.defers ⟨_, congrArg Ending.returned (show _ = vr from r1), (by rw [show decide (a = c ∧ b = d) = false by simp [hp]]; exact r4), st2.k.below⟩)
set_option maxRecDepth 100000 in
set_option maxHeartbeats 1600000 in
theorem cTSame {w : World} {N : Nat} {a b c d : Rat} {v0 v1 : Value} (h0 : Vv N (a) (b) v0 w) (h1 : Vv N (c) (d) v1 w) (hN1 : 1 ≤ N) (hN : N ≤ 4000) : Calls Tryz.prog 45 #[v0, v1] w (RV (Vb (decide (a = c ∧ b = d))) w) := by
  go_enter Tryz.func45, Tryz.ntmps45
  have st0 : St w.heap.size w 10 [] [(0, Vv N (a) (b)), (1, Vv N (c) (d))] _ w := St.begin (a := ⟨#[v0, v1, undef, undef, undef, undef, undef, undef, undef, undef], []⟩) rfl rfl (List.forall_mem_cons.2 ⟨⟨_, rfl, h0⟩, (List.forall_mem_cons.2 ⟨⟨_, rfl, h1⟩, (fun _ h => absurd h (by simp))⟩)⟩)
  generalize (⟨#[v0, v1, undef, undef, undef, undef, undef, undef, undef, undef], []⟩ : Act) = a0 at st0 ⊢
  repeat first | refine wp_seq ?_ | refine wp_block ?_ | refine wp_skip ?_ | refine wp_exit ?_
  refine rg (BT := []) (Vl := [VT, VT, Vb (false)]) (B := [⟨2, some 0, some 0, 47, 8, Vv N (a) (b), VT⟩, ⟨3, some 1, some 1, 47, 8, Vv N (c) (d), VT⟩]) (SL' := [(4, Vb (false))]) st0 ⟨ks, ks, ks, trivial⟩ ?_
  intro a1 w1 st1
  clear st0
  repeat first | refine wp_seq ?_ | refine wp_block ?_ | refine wp_skip ?_ | refine wp_exit ?_
  refine rg (BT := []) (Vl := [Vv N (a) (b), Vv N (a) (b), Vv N (c) (d), Vv N (c) (d), Vb (decide ((a) = (c) ∧ (b) = (d))), Vb (decide ((a) = (c) ∧ (b) = (d)))]) (B := [⟨2, none, none, 47, 8, Vv N (a) (b), VT⟩, ⟨3, none, none, 47, 8, Vv N (c) (d), VT⟩]) (SL' := [(4, Vb (decide ((a) = (c) ∧ (b) = (d))))]) st1 ⟨ks, ?s1, ks, ?s3, ?s4, ks, trivial⟩ ?_
  case s1 => refine kc fun _ ac Wd h hd => ?_; obtain ⟨v0, hv0, hV0⟩ := h.dp hd 5; exact ⟨#[v0], by simp [hv0], cEnd (show Vv N (a) (b) v0 Wd from hV0)⟩
  case s3 => refine kc fun _ ac Wd h hd => ?_; obtain ⟨v0, hv0, hV0⟩ := h.dp hd 7; exact ⟨#[v0], by simp [hv0], cEnd (show Vv N (c) (d) v0 Wd from hV0)⟩
  case s4 =>
    refine kc fun _ ac Wd h hd => ?_
    obtain ⟨v0, hv0, hV0⟩ := h.dp hd 6
    obtain ⟨v1, hv1, hV1⟩ := h.dp hd 8
    exact ⟨#[v0, v1], by simp [hv0, hv1], cVSame (show Vv N (a) (b) v0 Wd from hV0) (show Vv N (c) (d) v1 Wd from hV1) (by omega) (by omega)⟩
  intro a2 w2 st2
  clear st1
  repeat first | refine wp_seq ?_ | refine wp_block ?_ | refine wp_skip ?_ | refine wp_exit ?_
  obtain ⟨vr, r1, r4⟩ := st2.slot (4, Vb (decide ((a) = (c) ∧ (b) = (d)))) (.head _)
  exact wp_ret (bodyPost_ret (results_tmp rfl _ _ _) st2.defers ⟨_, congrArg Ending.returned (show _ = vr from r1), r4, st2.k.below⟩)
set_option maxRecDepth 100000 in
set_option maxHeartbeats 1600000 in
theorem cVCompare {w : World} {N : Nat} {a b c d : Rat} {v0 v1 : Value} (h0 : Vv N (a) (b) v0 w) (h1 : Vv N (c) (d) v1 w) (hN1 : 1 ≤ N) (hN : N ≤ 4000) : Calls Tryz.prog 31 #[v0, v1] w (RV (Vi (if cmpQ a c = 0 then cmpQ b d else cmpQ a c)) w) := by
  go_enter Tryz.func31, Tryz.ntmps31
  have st0 : St w.heap.size w 19 [] [(0, Vv N (a) (b)), (1, Vv N (c) (d))] _ w := St.begin (a := ⟨#[v0, v1, undef, undef, undef, undef, undef, undef, undef, undef, undef, undef, undef, undef, undef, undef, undef, undef, undef], []⟩) rfl rfl (List.forall_mem_cons.2 ⟨⟨_, rfl, h0⟩, (List.forall_mem_cons.2 ⟨⟨_, rfl, h1⟩, (fun _ h => absurd h (by simp))⟩)⟩)
  generalize (⟨#[v0, v1, undef, undef, undef, undef, undef, undef, undef, undef, undef, undef, undef, undef, undef, undef, undef, undef, undef], []⟩ : Act) = a0 at st0 ⊢
  repeat first | refine wp_seq ?_ | refine wp_block ?_ | refine wp_skip ?_ | refine wp_exit ?_
  refine rg (BT := []) (Vl := [VT, VT, Vi (0)]) (B := [⟨2, some 0, some 0, 28, 8, Vv N (a) (b), VT⟩, ⟨3, some 1, some 1, 28, 8, Vv N (c) (d), VT⟩]) (SL' := [(4, Vi (0))]) st0 ⟨ks, ks, ks, trivial⟩ ?_
  intro a1 w1 st1
  clear st0
  repeat first | refine wp_seq ?_ | refine wp_block ?_ | refine wp_skip ?_ | refine wp_exit ?_
  refine rg (BT := []) (Vl := [Vpt a1 2 0, Vq N (a), Vpt a1 3 0, Vq N (c), Vi (cmpQ (a) (c)), Vi (cmpQ (a) (c))]) (B := [⟨2, none, none, 28, 8, Vv N (a) (b), VT⟩, ⟨3, none, none, 28, 8, Vv N (c) (d), VT⟩]) (SL' := [(4, Vi (0)), (5, Vi (cmpQ (a) (c)))]) st1 ⟨ks, ks, ks, ks, ?s4, ks, trivial⟩ ?_
  case s4 =>
    refine kc fun _ ac Wd h hd => ?_
    obtain ⟨v0, hv0, hV0⟩ := h.dp hd 7
    obtain ⟨v1, hv1, hV1⟩ := h.dp hd 9
    exact ⟨#[v0, v1], by simp [hv0, hv1], cQCompare (show Vq N (a) v0 Wd from hV0) (show Vq N (c) v1 Wd from hV1) (by omega) (by omega) (by omega) (by omega)⟩
  intro a2 w2 st2
  clear st1
  by_cases hp : cmpQ a c = 0
  ·
    repeat first | refine wp_seq ?_ | refine wp_block ?_ | refine wp_skip ?_ | refine wp_exit ?_
    refine rg (BT := []) (Vl := [Vi (cmpQ (a) (c)), Vb (false)]) (B := [⟨2, none, none, 28, 8, Vv N (a) (b), VT⟩, ⟨3, none, none, 28, 8, Vv N (c) (d), VT⟩]) (SL' := [(4, Vi (0)), (5, Vi (cmpQ (a) (c))), (12, Vb (false))]) st2 ⟨ks, ?s1, trivial⟩ ?_
    case s1 => refine kr fun _ ac Wd h hd => ?_; obtain ⟨v0, hv0, hV0⟩ := h.dp hd 11; have hV0' : v0 = .int .i64 (cmpQ (a) (c)) := hV0; exact ⟨_, run_neqi rfl (hv0.trans hV0') rfl, congrArg Value.bool (by rw [hp]; rfl)⟩
    intro a3 w3 st3
    clear st2
    repeat first | refine wp_seq ?_ | refine wp_block ?_ | refine wp_skip ?_ | refine wp_exit ?_
    obtain ⟨vc, hc1, hc2⟩ := st3.slot (12, Vb (false)) (.tail _ (.tail _ (.head _)))
    refine wp_cond_false (hc1.trans hc2) ?_
    clear hc1 hc2
    repeat first | refine wp_seq ?_ | refine wp_block ?_ | refine wp_skip ?_ | refine wp_exit ?_
    refine rg (BT := []) (Vl := [Vpt a3 2 4, Vq N (b), Vpt a3 3 4, Vq N (d), Vi (cmpQ (b) (d)), Vi (cmpQ (b) (d))]) (B := [⟨2, none, none, 28, 8, Vv N (a) (b), VT⟩, ⟨3, none, none, 28, 8, Vv N (c) (d), VT⟩]) (SL' := [(5, Vi (cmpQ (a) (c))), (12, Vb (false)), (4, Vi (cmpQ (b) (d)))]) st3 ⟨ks, ks, ks, ks, ?s4, ks, trivial⟩ ?_
    case s4 =>
      refine kc fun _ ac Wd h hd => ?_
      obtain ⟨v0, hv0, hV0⟩ := h.dp hd 15
      obtain ⟨v1, hv1, hV1⟩ := h.dp hd 17
      exact ⟨#[v0, v1], by simp [hv0, hv1], cQCompare (show Vq N (b) v0 Wd from hV0) (show Vq N (d) v1 Wd from hV1) (by omega) (by omega) (by omega) (by omega)⟩
    intro a4 w4 st4
    clear st3
    repeat first | refine wp_seq ?_ | refine wp_block ?_ | refine wp_skip ?_ | refine wp_exit ?_
    obtain ⟨vr, r1, r4⟩ := st4.slot (4, Vi (cmpQ (b) (d))) (.tail _ (.tail _ (.head _)))
    exact wp_ret (bodyPost_ret (results_tmp rfl _ _ _) st4.defers ⟨_, congrArg Ending.returned (show _ = vr from r1), (by rw [if_pos hp]; exact r4), st4.k.below⟩)
  ·
    repeat first | refine wp_seq ?_ | refine wp_block ?_ | refine wp_skip ?_ | refine wp_exit ?_
    refine rg (BT := []) (Vl := [Vi (cmpQ (a) (c)), Vb (true)]) (B := [⟨2, none, none, 28, 8, Vv N (a) (b), VT⟩, ⟨3, none, none, 28, 8, Vv N (c) (d), VT⟩]) (SL' := [(4, Vi (0)), (5, Vi (cmpQ (a) (c))), (12, Vb (true))]) st2 ⟨ks, ?s1, trivial⟩ ?_
    case s1 => refine kr fun _ ac Wd h hd => ?_; obtain ⟨v0, hv0, hV0⟩ := h.dp hd 11; have hV0' : v0 = .int .i64 (cmpQ (a) (c)) := hV0; exact ⟨_, run_neqi rfl (hv0.trans hV0') rfl, congrArg Value.bool (bne_iff_ne.2 hp)⟩
    intro a3 w3 st3
    clear st2
    repeat first | refine wp_seq ?_ | refine wp_block ?_ | refine wp_skip ?_ | refine wp_exit ?_
    obtain ⟨vc, hc1, hc2⟩ := st3.slot (12, Vb (true)) (.tail _ (.tail _ (.head _)))
    refine wp_cond_true (hc1.trans hc2) ?_
    clear hc1 hc2
    repeat first | refine wp_seq ?_ | refine wp_block ?_ | refine wp_skip ?_ | refine wp_exit ?_
    refine rg (BT := []) (Vl := [Vi (cmpQ (a) (c)), Vi (cmpQ (a) (c))]) (B := [⟨2, none, none, 28, 8, Vv N (a) (b), VT⟩, ⟨3, none, none, 28, 8, Vv N (c) (d), VT⟩]) (SL' := [(5, Vi (cmpQ (a) (c))), (12, Vb (true)), (4, Vi (cmpQ (a) (c)))]) st3 ⟨ks, ks, trivial⟩ ?_
    intro a4 w4 st4
    clear st3
    repeat first | refine wp_seq ?_ | refine wp_block ?_ | refine wp_skip ?_ | refine wp_exit ?_
    obtain ⟨vr, r1, r4⟩ := st4.slot (4, Vi (cmpQ (a) (c))) (.tail _ (.tail _ (.head _)))
    exact wp_ret (bodyPost_ret (results_tmp rfl _ _ _) st4.defers ⟨_, congrArg Ending.returned (show _ = vr from r1), (by rw [if_neg hp]; exact r4), st4.k.below⟩)
set_option maxRecDepth 100000 in
set_option maxHeartbeats 1600000 in
theorem cSide {w : World} {N : Nat} {a b c d e f : Rat} {v0 v1 v2 : Value} (h0 : Vv N (a) (b) v0 w) (h1 : Vv N (c) (d) v1 w) (h2 : Vv N (e) (f) v2 w) (hN1 : 1 ≤ N) (hN : N ≤ 1000) : Calls Tryz.prog 29 #[v0, v1, v2] w (RV (Vi (cmpI ((c - a) * (f - b) + -(d - b) * (e - a)).num 0)) w) := by
  go_enter Tryz.func29, Tryz.ntmps29
  have st0 : St w.heap.size w 15 [] [(0, Vv N (a) (b)), (1, Vv N (c) (d)), (2, Vv N (e) (f))] _ w := St.begin (a := ⟨#[v0, v1, v2, undef, undef, undef, undef, undef, undef, undef, undef, undef, undef, undef, undef], []⟩) rfl rfl (List.forall_mem_cons.2 ⟨⟨_, rfl, h0⟩, (List.forall_mem_cons.2 ⟨⟨_, rfl, h1⟩, (List.forall_mem_cons.2 ⟨⟨_, rfl, h2⟩, (fun _ h => absurd h (by simp))⟩)⟩)⟩)
  generalize (⟨#[v0, v1, v2, undef, undef, undef, undef, undef, undef, undef, undef, undef, undef, undef, undef], []⟩ : Act) = a0 at st0 ⊢
  repeat first | refine wp_seq ?_ | refine wp_block ?_ | refine wp_skip ?_ | refine wp_exit ?_
  refine rg (BT := []) (Vl := [VT, VT, VT, Vi (0)]) (B := [⟨3, some 0, some 0, 28, 8, Vv N (a) (b), VT⟩, ⟨4, some 1, some 1, 28, 8, Vv N (c) (d), VT⟩, ⟨5, some 2, some 2, 28, 8, Vv N (e) (f), VT⟩]) (SL' := [(6, Vi (0))]) st0 ⟨ks, ks, ks, ks, trivial⟩ ?_
  intro a1 w1 st1
  clear st0
  repeat first | refine wp_seq ?_ | refine wp_block ?_ | refine wp_skip ?_ | refine wp_exit ?_
  refine rg (BT := []) (Vl := [Vv N (c) (d), Vv N (a) (b), Vv (N + N + 1) ((c) - (a)) ((d) - (b)), Vv N (e) (f), Vv N (a) (b), Vv (N + N + 1) ((e) - (a)) ((f) - (b)), Vq (4 * (N + N + 1) + 1) (((c) - (a)) * ((f) - (b)) + -((d) - (b)) * ((e) - (a))), Vi (cmpI (((c) - (a)) * ((f) - (b)) + -((d) - (b)) * ((e) - (a))).num 0), Vi (cmpI (((c) - (a)) * ((f) - (b)) + -((d) - (b)) * ((e) - (a))).num 0)]) (B := [⟨3, none, none, 28, 8, Vv N (a) (b), VT⟩, ⟨4, none, none, 28, 8, Vv N (c) (d), VT⟩, ⟨5, none, none, 28, 8, Vv N (e) (f), VT⟩]) (SL' := [(6, Vi (cmpI (((c) - (a)) * ((f) - (b)) + -((d) - (b)) * ((e) - (a))).num 0))]) st1 ⟨ks, ks, ?s2, ks, ks, ?s5, ?s6, ?s7, ks, trivial⟩ ?_
  case s2 =>
    refine kc fun _ ac Wd h hd => ?_
    obtain ⟨v0, hv0, hV0⟩ := h.dp hd 7
    obtain ⟨v1, hv1, hV1⟩ := h.dp hd 8
    exact ⟨#[v0, v1], by simp [hv0, hv1], cVSub (show Vv N (c) (d) v0 Wd from hV0) (show Vv N (a) (b) v1 Wd from hV1) (by omega) (by omega)⟩
  case s5 =>
    refine kc fun _ ac Wd h hd => ?_
    obtain ⟨v0, hv0, hV0⟩ := h.dp hd 10
    obtain ⟨v1, hv1, hV1⟩ := h.dp hd 11
    exact ⟨#[v0, v1], by simp [hv0, hv1], cVSub (show Vv N (e) (f) v0 Wd from hV0) (show Vv N (a) (b) v1 Wd from hV1) (by omega) (by omega)⟩
  case s6 =>
    refine kc fun _ ac Wd h hd => ?_
    obtain ⟨v0, hv0, hV0⟩ := h.dp hd 9
    obtain ⟨v1, hv1, hV1⟩ := h.dp hd 12
    exact ⟨#[v0, v1], by simp [hv0, hv1], cCross (show Vv (N + N + 1) ((c) - (a)) ((d) - (b)) v0 Wd from hV0) (show Vv (N + N + 1) ((e) - (a)) ((f) - (b)) v1 Wd from hV1) (by omega) (by omega)⟩
  case s7 =>
    refine kc fun _ ac Wd h hd => ?_
    obtain ⟨v0, hv0, hV0⟩ := h.dp hd 13
    exact ⟨#[v0], by simp [hv0], cQSign (show Vq (4 * (N + N + 1) + 1) (((c) - (a)) * ((f) - (b)) + -((d) - (b)) * ((e) - (a))) v0 Wd from hV0) (by omega)⟩
  intro a2 w2 st2
  clear st1
  repeat first | refine wp_seq ?_ | refine wp_block ?_ | refine wp_skip ?_ | refine wp_exit ?_
  obtain ⟨vr, r1, r4⟩ := st2.slot (6, Vi (cmpI (((c) - (a)) * ((f) - (b)) + -((d) - (b)) * ((e) - (a))).num 0)) (.head _)
  exact wp_ret (bodyPost_ret (results_tmp rfl _ _ _) st2.defers ⟨_, congrArg Ending.returned (show _ = vr from r1), r4, st2.k.below⟩)
set_option maxRecDepth 100000 in
set_option maxHeartbeats 1600000 in
theorem cVOf {w : World} {p q : Int} {v0 v1 : Value} (h0 : Vi (p) v0 w) (h1 : Vi (q) v1 w) (hp0 : -9223372036854775808 ≤ p) (hp1 : p ≤ 9223372036854775807) (hq0 : -9223372036854775808 ≤ q) (hq1 : q ≤ 9223372036854775807) : Calls Tryz.prog 25 #[v0, v1] w (RV (Vv 3 (Rat.divInt p 1) (Rat.divInt q 1)) w) := by
  go_enter Tryz.func25, Tryz.ntmps25
  have st0 : St w.heap.size w 10 [] [(0, Vi (p)), (1, Vi (q))] _ w := St.begin (a := ⟨#[v0, v1, undef, undef, undef, undef, undef, undef, undef, undef], []⟩) rfl rfl (List.forall_mem_cons.2 ⟨⟨_, rfl, h0⟩, (List.forall_mem_cons.2 ⟨⟨_, rfl, h1⟩, (fun _ h => absurd h (by simp))⟩)⟩)
  generalize (⟨#[v0, v1, undef, undef, undef, undef, undef, undef, undef, undef], []⟩ : Act) = a0 at st0 ⊢
  repeat first | refine wp_seq ?_ | refine wp_block ?_ | refine wp_skip ?_ | refine wp_exit ?_
  refine rg (BT := [(28, 8, 0)]) (Vl := [VT]) (B := [⟨4, some 0, none, 28, 8, VT, VT⟩]) (SL' := [(0, Vi (p)), (1, Vi (q))]) st0 ⟨ks, trivial⟩ ?_
  intro a1 w1 st1
  clear st0
  repeat first | refine wp_seq ?_ | refine wp_block ?_ | refine wp_skip ?_ | refine wp_exit ?_
  refine rg (BT := [(28, 8, 0)]) (Vl := [Vi (p), Vq 3 (Rat.divInt (p) (1)), Vi (q), Vq 3 (Rat.divInt (q) (1)), Vv 3 (Rat.divInt (p) (1)) (Rat.divInt (q) (1)), VT]) (B := [⟨4, none, some 5, 28, 8, Vv 3 (Rat.divInt (p) (1)) (Rat.divInt (q) (1)), VT⟩]) (SL' := []) st1 ⟨ks, ?s1, ks, ?s3, ?s4, ks, trivial⟩ ?_
  case s1 =>
    refine kc fun _ ac Wd h hd => ?_
    obtain ⟨v0, hv0, hV0⟩ := h.dp hd 5
    exact ⟨#[v0, .int .i64 (1)], by simp [hv0, eval_const], cQOf (show Vi (p) v0 Wd from hV0) (show Vi (1) (.int .i64 (1)) Wd from rfl) (by omega) (by omega) (by omega) (by omega)⟩
  case s3 =>
    refine kc fun _ ac Wd h hd => ?_
    obtain ⟨v0, hv0, hV0⟩ := h.dp hd 7
    exact ⟨#[v0, .int .i64 (1)], by simp [hv0, eval_const], cQOf (show Vi (q) v0 Wd from hV0) (show Vi (1) (.int .i64 (1)) Wd from rfl) (by omega) (by omega) (by omega) (by omega)⟩
  case s4 =>
    refine kr fun _ ac Wd h hd => ?_
    obtain ⟨v0, hv0, hV0⟩ := h.dp hd 6
    obtain ⟨v1, hv1, hV1⟩ := h.dp hd 8
    exact build_Vec rfl hv0 hv1 (AggV_Vq _ _) (AggV_Vq _ _) (show Vq 3 (Rat.divInt (p) (1)) v0 Wd from hV0) (show Vq 3 (Rat.divInt (q) (1)) v1 Wd from hV1)
  intro a2 w2 st2
  clear st1
  repeat first | refine wp_seq ?_ | refine wp_block ?_ | refine wp_skip ?_ | refine wp_exit ?_
  obtain ⟨g, cs, r1, r2, r3, r4, r5⟩ := st2.res ⟨4, none, none, 28, 8, Vv 3 (Rat.divInt (p) (1)) (Rat.divInt (q) (1)), VT⟩ (.head _) rfl rfl
  exact wp_ret (bodyPost_ret (results_cell_row rfl _ _ g 28 cs (0, 0) _ r1 r2 Tryz.underlying28 rfl (by rw [r3]; exact size_Vec)) st2.defers ⟨_, rfl, r4, r5⟩)
set_option maxRecDepth 100000 in
set_option maxHeartbeats 1600000 in
theorem cStill {w : World}     : Calls Tryz.prog 37 #[] w (RV (Vv 3 (Rat.divInt 1 1) (Rat.divInt 0 1)) w) := by
  go_enter Tryz.func37, Tryz.ntmps37
  have st0 : St w.heap.size w 3 [] [] _ w := St.begin (a := ⟨#[undef, undef, undef], []⟩) rfl rfl (fun _ h => absurd h (by simp))
  generalize (⟨#[undef, undef, undef], []⟩ : Act) = a0 at st0 ⊢
  repeat first | refine wp_seq ?_ | refine wp_block ?_ | refine wp_skip ?_ | refine wp_exit ?_
  refine rg (BT := [(47, 8, 0)]) (Vl := [VT]) (B := [⟨0, some 0, none, 47, 8, VT, VT⟩]) (SL' := []) st0 ⟨ks, trivial⟩ ?_
  intro a1 w1 st1
  clear st0
  repeat first | refine wp_seq ?_ | refine wp_block ?_ | refine wp_skip ?_ | refine wp_exit ?_
  refine rg (BT := [(47, 8, 0)]) (Vl := [Vv 3 (Rat.divInt (1) 1) (Rat.divInt (0) 1), Vv 3 (Rat.divInt (1) 1) (Rat.divInt (0) 1), VT]) (B := [⟨0, none, some 2, 47, 8, Vv 3 (Rat.divInt (1) 1) (Rat.divInt (0) 1), VT⟩]) (SL' := []) st1 ⟨?s0, ?s1, ks, trivial⟩ ?_
  case s0 =>
    refine kc fun _ ac Wd h hd => ?_
    exact ⟨#[.int .i64 (1), .int .i64 (0)], by simp [eval_const], cVOf (show Vi (1) (.int .i64 (1)) Wd from rfl) (show Vi (0) (.int .i64 (0)) Wd from rfl) (by omega) (by omega) (by omega) (by omega)⟩
  case s1 => refine kc fun _ ac Wd h hd => ?_; obtain ⟨v0, hv0, hV0⟩ := h.dp hd 1; exact ⟨#[v0], by simp [hv0], cTurnTo (show Vv 3 (Rat.divInt (1) 1) (Rat.divInt (0) 1) v0 Wd from hV0)⟩
  intro a2 w2 st2
  clear st1
  repeat first | refine wp_seq ?_ | refine wp_block ?_ | refine wp_skip ?_ | refine wp_exit ?_
  obtain ⟨g, cs, r1, r2, r3, r4, r5⟩ := st2.res ⟨0, none, none, 47, 8, Vv 3 (Rat.divInt (1) 1) (Rat.divInt (0) 1), VT⟩ (.head _) rfl rfl
  exact wp_ret (bodyPost_ret (results_cell_row rfl _ _ g 47 cs (0, 0) _ r1 r2 Tryz.underlying47 rfl (by rw [r3]; exact size_Turn)) st2.defers ⟨_, rfl, r4, r5⟩)
set_option maxRecDepth 100000 in
set_option maxHeartbeats 1600000 in
theorem cPValid {w : World} {N : Nat} {a b : Rat} {v0 : Value} (h0 : Vv N (a) (b) v0 w) (hN1 : 1 ≤ N) (hN : N ≤ 4000) : Calls Tryz.prog 34 #[v0] w (RV (Vb (decide (a * a + b * b = Rat.divInt 1 1))) w) := by
  go_enter Tryz.func34, Tryz.ntmps34
  have st0 : St w.heap.size w 20 [] [(0, Vv N (a) (b))] _ w := St.begin (a := ⟨#[v0, undef, undef, undef, undef, undef, undef, undef, undef, undef, undef, undef, undef, undef, undef, undef, undef, undef, undef, undef], []⟩) rfl rfl (List.forall_mem_cons.2 ⟨⟨_, rfl, h0⟩, (fun _ h => absurd h (by simp))⟩)
  generalize (⟨#[v0, undef, undef, undef, undef, undef, undef, undef, undef, undef, undef, undef, undef, undef, undef, undef, undef, undef, undef, undef], []⟩ : Act) = a0 at st0 ⊢
  repeat first | refine wp_seq ?_ | refine wp_block ?_ | refine wp_skip ?_ | refine wp_exit ?_
  refine rg (BT := []) (Vl := [VT, Vb (false)]) (B := [⟨1, some 0, some 0, 47, 8, Vv N (a) (b), VT⟩]) (SL' := [(2, Vb (false))]) st0 ⟨ks, ks, trivial⟩ ?_
  intro a1 w1 st1
  clear st0
  repeat first | refine wp_seq ?_ | refine wp_block ?_ | refine wp_skip ?_ | refine wp_exit ?_
  refine rg (BT := []) (Vl := [Vpt a1 1 0, Vq N (a), Vb (true), Vb (true), Vpt a1 1 4, Vq N (b), Vb (true), Vb (true), Vb (true), Vv N (a) (b), Vv N (a) (b), Vv N (a) (b), Vv N (a) (b), Vq (4 * N + 1) ((a) * (a) + (b) * (b)), Vq 3 (Rat.divInt (1) (1)), Vb (decide (((a) * (a) + (b) * (b)) = (Rat.divInt (1) (1)))), Vb (decide (((a) * (a) + (b) * (b)) = (Rat.divInt (1) (1)))), Vb (decide (((a) * (a) + (b) * (b)) = (Rat.divInt (1) (1))))]) (B := [⟨1, none, none, 47, 8, Vv N (a) (b), VT⟩]) (SL' := [(2, Vb (decide (((a) * (a) + (b) * (b)) = (Rat.divInt (1) (1)))))]) st1 ⟨ks, ks, ?s2, ks, ks, ks, ?s6, ks, ks, ks, ?s10, ks, ?s12, ?s13, ?s14, ?s15, ks, ks, trivial⟩ ?_
  case s2 => refine kc fun _ ac Wd h hd => ?_; obtain ⟨v0, hv0, hV0⟩ := h.dp hd 4; exact ⟨#[v0], by simp [hv0], cQValid (show Vq N (a) v0 Wd from hV0) (by omega)⟩
  case s6 => refine kc fun _ ac Wd h hd => ?_; obtain ⟨v0, hv0, hV0⟩ := h.dp hd 8; exact ⟨#[v0], by simp [hv0], cQValid (show Vq N (b) v0 Wd from hV0) (by omega)⟩
  case s10 => refine kc fun _ ac Wd h hd => ?_; obtain ⟨v0, hv0, hV0⟩ := h.dp hd 12; exact ⟨#[v0], by simp [hv0], cEnd (show Vv N (a) (b) v0 Wd from hV0)⟩
  case s12 => refine kc fun _ ac Wd h hd => ?_; obtain ⟨v0, hv0, hV0⟩ := h.dp hd 14; exact ⟨#[v0], by simp [hv0], cEnd (show Vv N (a) (b) v0 Wd from hV0)⟩
  case s13 =>
    refine kc fun _ ac Wd h hd => ?_
    obtain ⟨v0, hv0, hV0⟩ := h.dp hd 13
    obtain ⟨v1, hv1, hV1⟩ := h.dp hd 15
    exact ⟨#[v0, v1], by simp [hv0, hv1], cDot (show Vv N (a) (b) v0 Wd from hV0) (show Vv N (a) (b) v1 Wd from hV1) (by omega) (by omega)⟩
  case s14 =>
    refine kc fun _ ac Wd h hd => ?_
    exact ⟨#[.int .i64 (1), .int .i64 (1)], by simp [eval_const], cQOf (show Vi (1) (.int .i64 (1)) Wd from rfl) (show Vi (1) (.int .i64 (1)) Wd from rfl) (by omega) (by omega) (by omega) (by omega)⟩
  case s15 =>
    refine kc fun _ ac Wd h hd => ?_
    obtain ⟨v0, hv0, hV0⟩ := h.dp hd 16
    obtain ⟨v1, hv1, hV1⟩ := h.dp hd 17
    exact ⟨#[v0, v1], by simp [hv0, hv1], cQSame (show Vq (4 * N + 1) ((a) * (a) + (b) * (b)) v0 Wd from hV0) (show Vq 3 (Rat.divInt (1) (1)) v1 Wd from hV1) (by omega) (by omega) (by omega) (by omega)⟩
  intro a2 w2 st2
  clear st1
  repeat first | refine wp_seq ?_ | refine wp_block ?_ | refine wp_skip ?_ | refine wp_exit ?_
  obtain ⟨vr, r1, r4⟩ := st2.slot (2, Vb (decide (((a) * (a) + (b) * (b)) = (Rat.divInt (1) (1))))) (.head _)
  exact wp_ret (bodyPost_ret (results_tmp rfl _ _ _) st2.defers ⟨_, congrArg Ending.returned (show _ = vr from r1), r4, st2.k.below⟩)
end Go.Proofs.YteaoaoknpihchaaGreat

namespace Go.Proofs.YteaoaoknpihchaaGreat
open Go.RowKit
variable {BT : List (TypeId × Nat × Nat)}

/-- a function that moves as a placement does -/
def VFn (A : VP) : VP := fun v w => ∃ g cs, v = .func (.func 110) #[] #[.pointer (some ⟨g, 0, none⟩)] ∧ w.heap[g]? = some (.cells cs 60 (0, 0)) ∧ cs.size = 16 ∧ A (.agg cs) w
theorem Stab_VFn {A : VP} (hA : Stab BT A) (hn : BT.any (fun e => e.1 == 60 && e.2.1 == 16) = false) : Stab BT (VFn A) := fun _ _ _ ⟨h, cs, e1, e2, e3, e4⟩ hr =>
  ⟨h, cs, e1, (hr.row h cs _ e2 (BT_not hn e3)).trans e2, e3, hA _ _ _ e4 hr⟩
/-- an address in a placement -/
def VPlo (A : VP) (off : Nat) : VP := fun v w => ∃ g cs, v = .pointer (some ⟨g, off, none⟩) ∧ w.heap[g]? = some (.cells cs 60 (0, 0)) ∧ cs.size = 16 ∧ A (.agg cs) w
section
variable {ρ : Operand → Value} {o : Oper} {W w : World} {x y : Operand} {va vb : Value} {A C : VP}
theorem field_pl0 (ho : o.op = .fieldAddr 60 x 0) (hx : ρ x = va) (h : VAt w (VPlo A 0) va W) : ∃ v, (execOp ρ o).run Tryz.prog W = .ok (.value v) W ∧ VAt w (VPlo A 0) v W := by
  obtain ⟨g, cs, rfl, e2⟩ := h
  refine ⟨.pointer (some ⟨g, 0, none⟩), ?_, ⟨g, cs, rfl, e2⟩⟩
  unfold execOp
  simp only [ho, hx, Sem.run_bind, field_Place0, Sem.run_pure, Result.andThen_ok]
theorem field_pl1 (ho : o.op = .fieldAddr 60 x 1) (hx : ρ x = va) (h : VAt w (VPlo A 0) va W) : ∃ v, (execOp ρ o).run Tryz.prog W = .ok (.value v) W ∧ VAt w (VPlo A 8) v W := by
  obtain ⟨g, cs, rfl, e2⟩ := h
  refine ⟨.pointer (some ⟨g, 8, none⟩), ?_, ⟨g, cs, rfl, e2⟩⟩
  unfold execOp
  simp only [ho, hx, Sem.run_bind, field_Place1, Sem.run_pure, Result.andThen_ok]
theorem load_pl {T : TypeId} {d : TypeDesc} {off : Nat} (ho : o.op = .load T x) (hx : ρ x = va) (h : VAt w (VPlo A off) va W) (hb : Below w.heap.size w W) (hA : Stab [] A) (hoff : off + 8 ≤ 16) (hAC : ∀ cs w, A (.agg cs) w → C (.agg (cs.extract off (off + 8))) w)
    (hu : Tryz.prog.underlying T = some d) (hd : aggT d = true) (hi : (Tryz.prog.info? T).map (·.size) = some 8) : ∃ v, (execOp ρ o).run Tryz.prog W = .ok (.value v) W ∧ C v W := by
  obtain ⟨g, cs, rfl, e2, e3, e4⟩ := h
  refine ⟨.agg (cs.extract off (off + 8)), ?_, hAC _ _ (hA _ _ _ e4 (RI.of_below hb))⟩
  have e5 := (hb.block _ (lt_blk e2)).trans e2
  unfold execOp
  simp only [ho, hx, Instr.loadAt, Instr.sureAddr, Sem.run_bind, Sem.run_pure, Result.andThen_ok, run_loadVar_part W g off 8 _ T cs (0, 0) d e5 (by omega) hu hd hi]
end
theorem run_closure {ρ : Operand → Value} {o : Oper} {W : World} {x y : Operand} {va vb : Value} {ats : Array TypeId} (ho : o.op = .call { callee := .value x, args := #[y], argTypes := ats }) (hx : ρ x = .func (.func 110) #[] #[va]) (hy : ρ y = vb) : (execOp ρ o).run Tryz.prog W = .ok (.enter 110 #[vb, va]) W := by
  obtain ⟨dd, op, ty, ps, af, gd⟩ := o
  subst ho
  go_simp
set_option maxRecDepth 100000 in
set_option maxHeartbeats 800000 in
theorem cMover {w : World} {A : VP} {v : Value} (hA : AggV 16 A) (hS : Stab [] A) (h : A v w) : Calls Tryz.prog 83 #[v] w (RV (VFn A) w) := by
  obtain ⟨cs, rfl, e1, -⟩ := hA _ _ h
  have hfin : Hid (RV (VFn A) w (.returned (.func (.func 110) #[] #[.pointer (some ⟨w.heap.size, 0, none⟩)])) (w.alloc (.cells cs 60))) := Lib.hid ⟨_, rfl, ⟨_, cs, rfl, heap_alloc_new _ _, e1, hS _ _ _ h (RI.of_below (below_new _ _))⟩, below_new _ _⟩
  clear h
  go_enter Tryz.func83, Tryz.ntmps83
  go_wp2_with fail
  go_ret
  exact hfin.out
theorem arr8 {x : Array Value} (h : x.size = 8) : ∃ a b c d e f g h, x = #[a, b, c, d, e, f, g, h] := by
  match x, h with
  | ⟨[a, b, c, d, e, f, g, h]⟩, _ => exact ⟨a, b, c, d, e, f, g, h, rfl⟩
theorem build_Place {ρ : Operand → Value} {o : Oper} {W : World} {x y : Operand} {va vb : Value} {A B : VP} (ho : o.op = .build 60 #[(0, x), (1, y)]) (hx : ρ x = va) (hy : ρ y = vb) (hA : AggV 8 A) (hB : AggV 8 B) (h1 : A va W) (h2 : B vb W) : ∃ v, (execOp ρ o).run Tryz.prog W = .ok (.value v) W ∧ VP2 8 8 A B v W := by
  obtain ⟨cx, rfl, e1, -⟩ := hA _ _ h1
  obtain ⟨cy, rfl, e2, -⟩ := hB _ _ h2
  obtain ⟨a, b, c, d, e, f, g, h, rfl⟩ := arr8 e1
  obtain ⟨a', b', c', d', e', f', g', h', rfl⟩ := arr8 e2
  refine ⟨.agg (#[a, b, c, d, e, f, g, h] ++ #[a', b', c', d', e', f', g', h']), ?_, ⟨_, _, rfl, rfl, rfl, h1, h2⟩⟩
  obtain ⟨dd, op, ty, ps, af, gd⟩ := o
  subst ho
  go_simp
theorem build_Turn0 {ρ : Operand → Value} {o : Oper} {W : World} (ho : o.op = .build 47 #[]) : ∃ v, (execOp ρ o).run Tryz.prog W = .ok (.value v) W ∧ Vv 1 0 0 v W := by
  have hz : Vq 1 0 (.agg (#[.bool false, .slice none 0 0] ++ #[.bool false, .slice none 0 0])) W := ⟨_, _, rfl, rfl, rfl, ⟨_, _, _, _, rfl, IntAt_zero _ _ _ (by omega), by omega⟩, ⟨_, _, _, _, rfl, IntAt_zero _ _ _ (by omega), by omega⟩⟩
  refine ⟨.agg ((#[.bool false, .slice none 0 0] ++ #[.bool false, .slice none 0 0]) ++ (#[.bool false, .slice none 0 0] ++ #[.bool false, .slice none 0 0])), ?_, ⟨_, _, rfl, rfl, rfl, hz, hz⟩⟩
  obtain ⟨dd, op, ty, ps, af, gd⟩ := o
  subst ho
  go_simp
/-- Align's error, and its two numbers -/
def alE (s o : Rat) : Int := if s = 0 ∨ o = 0 then 1 else if s = o then 0 else 21
def alX (s o p : Rat) : Rat := if s = 0 ∨ o = 0 ∨ s ≠ o then 0 else p / s
end Go.Proofs.YteaoaoknpihchaaGreat

namespace Go.Proofs.YteaoaoknpihchaaGreat
open Go.RowKit

set_option maxRecDepth 100000 in
set_option maxHeartbeats 1600000 in
theorem cMover1 {w : World} {N : Nat} {a b c s x y : Rat} {v0 v1 : Value} (h0 : Vv N (a) (b) v0 w) (h1 : VAt w (VPlo (Vp N c s x y) 0) v1 w) (hN1 : 1 ≤ N) (hN : N ≤ 500) : Calls Tryz.prog 110 #[v0, v1] w (RV (Vv (8 * N + 3) (c * a + -s * b + x) (s * a + c * b + y)) w) := by
  go_enter Tryz.func110, Tryz.ntmps110
  have st0 : St w.heap.size w 11 [] [(0, Vv N (a) (b)), (1, VAt w (VPlo (Vp N c s x y) 0))] _ w := St.begin (a := ⟨#[v0, v1, undef, undef, undef, undef, undef, undef, undef, undef, undef], []⟩) rfl rfl (List.forall_mem_cons.2 ⟨⟨_, rfl, h0⟩, (List.forall_mem_cons.2 ⟨⟨_, rfl, h1⟩, (fun _ h => absurd h (by simp))⟩)⟩)
  generalize (⟨#[v0, v1, undef, undef, undef, undef, undef, undef, undef, undef, undef], []⟩ : Act) = a0 at st0 ⊢
  repeat first | refine wp_seq ?_ | refine wp_block ?_ | refine wp_skip ?_ | refine wp_exit ?_
  refine rg (BT := [(28, 8, 0)]) (Vl := [VT, VT]) (B := [⟨2, some 0, some 0, 28, 8, Vv N (a) (b), VT⟩, ⟨3, some 1, none, 28, 8, VT, VT⟩]) (SL' := [(1, VAt w (VPlo (Vp N c s x y) 0))]) st0 ⟨ks, ks, trivial⟩ ?_
  intro a1 w1 st1
  clear st0
  repeat first | refine wp_seq ?_ | refine wp_block ?_ | refine wp_skip ?_ | refine wp_exit ?_
  refine rg (BT := [(28, 8, 0)]) (Vl := [VAt w (VPlo (Vp N c s x y) 0), Vv N (c) (s), Vv N (a) (b), Vv (4 * N + 1) ((c) * (a) + -(s) * (b)) ((s) * (a) + (c) * (b)), VAt w (VPlo (Vp N c s x y) 8), Vv N (x) (y), Vv ((max (4 * N + 1) N) + (max (4 * N + 1) N) + 1) (((c) * (a) + -(s) * (b)) + (x)) (((s) * (a) + (c) * (b)) + (y)), VT]) (B := [⟨2, none, none, 28, 8, Vv N (a) (b), VT⟩, ⟨3, none, some 7, 28, 8, Vv ((max (4 * N + 1) N) + (max (4 * N + 1) N) + 1) (((c) * (a) + -(s) * (b)) + (x)) (((s) * (a) + (c) * (b)) + (y)), VT⟩]) (SL' := []) st1 ⟨?s0, ?s1, ks, ?s3, ?s4, ?s5, ?s6, ks, trivial⟩ ?_
  case s0 => refine kr fun _ ac Wd h hd => ?_; obtain ⟨v0, hv0, hV0⟩ := h.ot 1; exact field_pl0 rfl hv0 hV0
  case s1 =>
    refine kr fun _ ac Wd h hd => ?_
    obtain ⟨v0, hv0, hV0⟩ := h.dp hd 4
    exact load_pl rfl hv0 hV0 h.k.below (Stab_Vp _ _ _ _ _) (by omega) (fun cs w h => VP2_fst h) Tryz.underlying47 rfl size_Turn
  case s3 =>
    refine kc fun _ ac Wd h hd => ?_
    obtain ⟨v0, hv0, hV0⟩ := h.dp hd 5
    obtain ⟨v1, hv1, hV1⟩ := h.dp hd 6
    exact ⟨#[v0, v1], by simp [hv0, hv1], cRotate (show Vv N (c) (s) v0 Wd from hV0) (show Vv N (a) (b) v1 Wd from hV1) (by omega) (by omega)⟩
  case s4 => refine kr fun _ ac Wd h hd => ?_; obtain ⟨v0, hv0, hV0⟩ := h.ot 1; exact field_pl1 rfl hv0 hV0
  case s5 =>
    refine kr fun _ ac Wd h hd => ?_
    obtain ⟨v0, hv0, hV0⟩ := h.dp hd 8
    exact load_pl rfl hv0 hV0 h.k.below (Stab_Vp _ _ _ _ _) (by omega) (fun cs w h => VP2_snd h) Tryz.underlying28 rfl size_Vec
  case s6 =>
    refine kc fun _ ac Wd h hd => ?_
    obtain ⟨v0, hv0, hV0⟩ := h.dp hd 7
    obtain ⟨v1, hv1, hV1⟩ := h.dp hd 9
    exact ⟨#[v0, v1], by simp [hv0, hv1], cVAdd (Vv_le (M := (max (4 * N + 1) N)) (show Vv (4 * N + 1) ((c) * (a) + -(s) * (b)) ((s) * (a) + (c) * (b)) v0 Wd from hV0) (by omega)) (Vv_le (M := (max (4 * N + 1) N)) (show Vv N (x) (y) v1 Wd from hV1) (by omega)) (by omega) (by omega)⟩
  intro a2 w2 st2
  clear st1
  repeat first | refine wp_seq ?_ | refine wp_block ?_ | refine wp_skip ?_ | refine wp_exit ?_
  obtain ⟨g, cs, r1, r2, r3, r4, r5⟩ := st2.res ⟨3, none, none, 28, 8, Vv ((max (4 * N + 1) N) + (max (4 * N + 1) N) + 1) (((c) * (a) + -(s) * (b)) + (x)) (((s) * (a) + (c) * (b)) + (y)), VT⟩ (.tail _ (.head _)) rfl rfl
  exact wp_ret (bodyPost_ret (results_cell_row rfl _ _ g 28 cs (0, 0) _ r1 r2 Tryz.underlying28 rfl (by rw [r3]; exact size_Vec)) st2.defers ⟨_, rfl, (Vv_le r4 (by omega)), r5⟩)
set_option maxRecDepth 100000 in
set_option maxHeartbeats 1600000 in
theorem cPut {w : World} {N : Nat} {a b c s x y : Rat} {v0 v1 : Value} (h0 : Vp N (c) (s) (x) (y) v0 w) (h1 : Vv N (a) (b) v1 w) (hN1 : 1 ≤ N) (hN : N ≤ 500) : Calls Tryz.prog 51 #[v0, v1] w (RV (Vv (8 * N + 3) (c * a + -s * b + x) (s * a + c * b + y)) w) := by
  go_enter Tryz.func51, Tryz.ntmps51
  have st0 : St w.heap.size w 9 [] [(0, Vp N (c) (s) (x) (y)), (1, Vv N (a) (b))] _ w := St.begin (a := ⟨#[v0, v1, undef, undef, undef, undef, undef, undef, undef], []⟩) rfl rfl (List.forall_mem_cons.2 ⟨⟨_, rfl, h0⟩, (List.forall_mem_cons.2 ⟨⟨_, rfl, h1⟩, (fun _ h => absurd h (by simp))⟩)⟩)
  generalize (⟨#[v0, v1, undef, undef, undef, undef, undef, undef, undef], []⟩ : Act) = a0 at st0 ⊢
  repeat first | refine wp_seq ?_ | refine wp_block ?_ | refine wp_skip ?_ | refine wp_exit ?_
  refine rg (BT := [(28, 8, 0)]) (Vl := [VT, VT, VT]) (B := [⟨2, some 0, some 0, 60, 16, Vp N (c) (s) (x) (y), VT⟩, ⟨3, some 1, some 1, 28, 8, Vv N (a) (b), VT⟩, ⟨4, some 2, none, 28, 8, VT, VT⟩]) (SL' := []) st0 ⟨ks, ks, ks, trivial⟩ ?_
  intro a1 w1 st1
  clear st0
  repeat first | refine wp_seq ?_ | refine wp_block ?_ | refine wp_skip ?_ | refine wp_exit ?_
  have : Sb [(28, 8, 0)] (VFn (Vp N (c) (s) (x) (y))) := ⟨Stab_VFn (Stab_Vp _ _ _ _ _) (by kernel_rfl)⟩
  refine rg (BT := [(28, 8, 0)]) (Vl := [Vp N (c) (s) (x) (y), VFn (Vp N (c) (s) (x) (y)), Vv N (a) (b), Vv (8 * N + 3) (c * a + -s * b + x) (s * a + c * b + y), VT]) (B := [⟨2, none, none, 60, 16, Vp N (c) (s) (x) (y), VT⟩, ⟨3, none, none, 28, 8, Vv N (a) (b), VT⟩, ⟨4, none, some 4, 28, 8, Vv (8 * N + 3) (c * a + -s * b + x) (s * a + c * b + y), VT⟩]) (SL' := []) st1 ⟨ks, ?s1, ks, ?s3, ks, trivial⟩ ?_
  case s1 => refine kc fun _ ac Wd h hd => ?_; obtain ⟨v0, hv0, hV0⟩ := h.dp hd 5; exact ⟨#[v0], by simp [hv0], cMover (AggV_Vp _ _ _ _ _) (Stab_Vp _ _ _ _ _) (show Vp N (c) (s) (x) (y) v0 Wd from hV0)⟩
  case s3 =>
    refine ke fun _ ac Wd h hd => ?_
    obtain ⟨v0, hv0, hV0⟩ := h.dp hd 6
    obtain ⟨v1, hv1, hV1⟩ := h.dp hd 7
    obtain ⟨g, cs, rfl, f2⟩ := hV0
    exact ⟨_, #[v1, .pointer (some ⟨g, 0, none⟩)], run_closure rfl hv0 hv1, cMover1 (show Vv N a b v1 Wd from hV1) ⟨g, cs, rfl, f2⟩ hN1 hN⟩
  intro a2 w2 st2
  clear st1
  repeat first | refine wp_seq ?_ | refine wp_block ?_ | refine wp_skip ?_ | refine wp_exit ?_
  obtain ⟨g, cs, r1, r2, r3, r4, r5⟩ := st2.res ⟨4, none, none, 28, 8, Vv (8 * N + 3) (c * a + -s * b + x) (s * a + c * b + y), VT⟩ (.tail _ (.tail _ (.head _))) rfl rfl
  exact wp_ret (bodyPost_ret (results_cell_row rfl _ _ g 28 cs (0, 0) _ r1 r2 Tryz.underlying28 rfl (by rw [r3]; exact size_Vec)) st2.defers ⟨_, rfl, r4, r5⟩)
end Go.Proofs.YteaoaoknpihchaaGreat
