/- Contracts of the package integer and its reference: Sub, Div, Compare, Same, Make, Of of package rat. -/
import Derived.Test.YtleijkgdpmfabaaGreatDoorW19
set_option linter.unusedVariables false
namespace Go.Proofs.YtleijkgdpmfabaaGreatDoor
open Go.RowKit
set_option maxRecDepth 100000 in
set_option maxHeartbeats 1600000 in
theorem cQCompare {w : World} {Na Nb : Nat} {a b : Rat} {v0 v1 : Value} (h0 : Vq Na (a) v0 w) (h1 : Vq Nb (b) v1 w) (h1a : 1 ≤ Na) (h1b : 1 ≤ Nb) (hNa : Na ≤ 100000) (hNb : Nb ≤ 100000) : Calls Tryz.prog 36 #[v0, v1] w (RV (Vi (cmpQ a b)) w) := by
  go_enter Tryz.func36, Tryz.ntmps36
  have st0 : St w.heap.size w 28 [] [(0, Vq Na (a)), (1, Vq Nb (b))] _ w := St.begin (a := ⟨#[v0, v1, undef, undef, undef, undef, undef, undef, undef, undef, undef, undef, undef, undef, undef, undef, undef, undef, undef, undef, undef, undef, undef, undef, undef, undef, undef, undef], []⟩) rfl rfl (List.forall_mem_cons.2 ⟨⟨_, rfl, h0⟩, (List.forall_mem_cons.2 ⟨⟨_, rfl, h1⟩, (fun _ h => absurd h (by simp))⟩)⟩)
  generalize (⟨#[v0, v1, undef, undef, undef, undef, undef, undef, undef, undef, undef, undef, undef, undef, undef, undef, undef, undef, undef, undef, undef, undef, undef, undef, undef, undef, undef, undef], []⟩ : Act) = a0 at st0 ⊢
  repeat first|refine wp_seq ?_|refine wp_block ?_|refine wp_skip ?_|refine wp_exit ?_
  refine rg (BT := []) (Vl := [VT, VT, Vi (0)]) (B := [⟨2, some 0, some 0, 27, 4, Vq Na (a), VT⟩, ⟨3, some 1, some 1, 27, 4, Vq Nb (b), VT⟩]) (SL' := [(4, Vi (0))]) st0 ⟨ks, ks, ks, trivial⟩ ?_
  intro a1 w1 st1
  clear st0
  repeat first|refine wp_seq ?_|refine wp_block ?_|refine wp_skip ?_|refine wp_exit ?_
  refine rg (BT := []) (Vl := [Vq Na (a), Vi (cmpI (a).num 0), Vq Nb (b), Vi (cmpI (b).num 0), Vi (cmpI (a).num 0), Vi (cmpI (b).num 0)]) (B := [⟨2, none, none, 27, 4, Vq Na (a), VT⟩, ⟨3, none, none, 27, 4, Vq Nb (b), VT⟩]) (SL' := [(4, Vi (0)), (5, Vi (cmpI (a).num 0)), (6, Vi (cmpI (b).num 0))]) st1 ⟨ks, ?s1, ks, ?s3, ks, ks, trivial⟩ ?_
  case s1 => refine kc fun _ ac Wd h hd => ?_; obtain ⟨v0, hv0, hV0⟩ := h.dp hd 7; exact ⟨#[v0], by simp [hv0], cQSign (show Vq Na (a) v0 Wd from hV0) (by omega)⟩
  case s3 => refine kc fun _ ac Wd h hd => ?_; obtain ⟨v0, hv0, hV0⟩ := h.dp hd 9; exact ⟨#[v0], by simp [hv0], cQSign (show Vq Nb (b) v0 Wd from hV0) (by omega)⟩
  intro a2 w2 st2
  clear st1
  by_cases hs : cmpI a.num 0 = cmpI b.num 0
  ·
    repeat first|refine wp_seq ?_|refine wp_block ?_|refine wp_skip ?_|refine wp_exit ?_
    refine rg (BT := []) (Vl := [Vi (cmpI (a).num 0), Vi (cmpI (b).num 0), Vb (false)]) (B := [⟨2, none, none, 27, 4, Vq Na (a), VT⟩, ⟨3, none, none, 27, 4, Vq Nb (b), VT⟩]) (SL' := [(4, Vi (0)), (5, Vi (cmpI (a).num 0)), (6, Vi (cmpI (b).num 0)), (13, Vb (false))]) st2 ⟨ks, ks, ?s2, trivial⟩ ?_
    case s2 =>
      refine kr fun _ ac Wd h hd => ?_
      obtain ⟨v0, hv0, hV0⟩ := h.dp hd 11
      have hV0' : v0 = .int .i64 (cmpI (a).num 0) := hV0
      obtain ⟨v1, hv1, hV1⟩ := h.dp hd 12
      have hV1' : v1 = .int .i64 (cmpI (b).num 0) := hV1
      exact ⟨_, run_neqi rfl (hv0.trans hV0') (hv1.trans hV1'), congrArg Value.bool (by rw [hs]; simp)⟩
    intro a3 w3 st3
    clear st2
    repeat first|refine wp_seq ?_|refine wp_block ?_|refine wp_skip ?_|refine wp_exit ?_
    obtain ⟨vc, hc1, hc2⟩ := st3.slot (13, Vb (false)) (.tail _ (.tail _ (.tail _ (.head _))))
    refine wp_cond_false (hc1.trans hc2) ?_
    clear hc1 hc2
    repeat first|refine wp_seq ?_|refine wp_block ?_|refine wp_skip ?_|refine wp_exit ?_
    refine rg (BT := []) (Vl := [Vpt a3 2 0, Vz Na ((a).num), Vq Nb (b), Vz Nb (((b).den : Int)), Vz (Na + Nb) (((a).num) * (((b).den : Int))), Vpt a3 3 0, Vz Nb ((b).num), Vq Na (a), Vz Na (((a).den : Int)), Vz (Nb + Na) (((b).num) * (((a).den : Int))), Vi (cmpI (((a).num) * (((b).den : Int))) (((b).num) * (((a).den : Int)))), Vi (cmpI (((a).num) * (((b).den : Int))) (((b).num) * (((a).den : Int))))]) (B := [⟨2, none, none, 27, 4, Vq Na (a), VT⟩, ⟨3, none, none, 27, 4, Vq Nb (b), VT⟩]) (SL' := [(5, Vi (cmpI (a).num 0)), (6, Vi (cmpI (b).num 0)), (13, Vb (false)), (4, Vi (cmpI (((a).num) * (((b).den : Int))) (((b).num) * (((a).den : Int)))))]) st3 ⟨ks, ks, ks, ?s3, ?s4, ks, ks, ks, ?s8, ?s9, ?s10, ks, trivial⟩ ?_
    case s3 => refine kc fun _ ac Wd h hd => ?_; obtain ⟨v0, hv0, hV0⟩ := h.dp hd 19; exact ⟨#[v0], by simp [hv0], cDen (show Vq Nb (b) v0 Wd from hV0) (by omega)⟩
    case s4 =>
      refine kc fun _ ac Wd h hd => ?_
      obtain ⟨v0, hv0, hV0⟩ := h.dp hd 18
      obtain ⟨v1, hv1, hV1⟩ := h.dp hd 20
      exact ⟨#[v0, v1], by simp [hv0, hv1], (cMul (show Vz Na ((a).num) v0 Wd from hV0) (show Vz Nb (((b).den : Int)) v1 Wd from hV1) (by omega) (by omega))⟩
    case s8 => refine kc fun _ ac Wd h hd => ?_; obtain ⟨v0, hv0, hV0⟩ := h.dp hd 24; exact ⟨#[v0], by simp [hv0], cDen (show Vq Na (a) v0 Wd from hV0) (by omega)⟩
    case s9 =>
      refine kc fun _ ac Wd h hd => ?_
      obtain ⟨v0, hv0, hV0⟩ := h.dp hd 23
      obtain ⟨v1, hv1, hV1⟩ := h.dp hd 25
      exact ⟨#[v0, v1], by simp [hv0, hv1], (cMul (show Vz Nb ((b).num) v0 Wd from hV0) (show Vz Na (((a).den : Int)) v1 Wd from hV1) (by omega) (by omega))⟩
    case s10 =>
      refine kc fun _ ac Wd h hd => ?_
      obtain ⟨v0, hv0, hV0⟩ := h.dp hd 21
      obtain ⟨v1, hv1, hV1⟩ := h.dp hd 26
      exact ⟨#[v0, v1], by simp [hv0, hv1], (cCompare (show Vz (Na + Nb) (((a).num) * (((b).den : Int))) v0 Wd from hV0) (show Vz (Nb + Na) (((b).num) * (((a).den : Int))) v1 Wd from hV1) (by omega) (by omega))⟩
    intro a4 w4 st4
    clear st3
    repeat first|refine wp_seq ?_|refine wp_block ?_|refine wp_skip ?_|refine wp_exit ?_
    obtain ⟨vr, r1, r4⟩ := st4.slot (4, Vi (cmpI (((a).num) * (((b).den : Int))) (((b).num) * (((a).den : Int))))) (.tail _ (.tail _ (.tail _ (.head _))))
    exact wp_ret (bodyPost_ret (results_tmp rfl _ _ _) st4.defers ⟨_, congrArg Ending.returned (show _ = vr from r1), r4, st4.k.below⟩)
  ·
    repeat first|refine wp_seq ?_|refine wp_block ?_|refine wp_skip ?_|refine wp_exit ?_
    refine rg (BT := []) (Vl := [Vi (cmpI (a).num 0), Vi (cmpI (b).num 0), Vb (true)]) (B := [⟨2, none, none, 27, 4, Vq Na (a), VT⟩, ⟨3, none, none, 27, 4, Vq Nb (b), VT⟩]) (SL' := [(4, Vi (0)), (5, Vi (cmpI (a).num 0)), (6, Vi (cmpI (b).num 0)), (13, Vb (true))]) st2 ⟨ks, ks, ?s2, trivial⟩ ?_
    case s2 =>
      refine kr fun _ ac Wd h hd => ?_
      obtain ⟨v0, hv0, hV0⟩ := h.dp hd 11
      have hV0' : v0 = .int .i64 (cmpI (a).num 0) := hV0
      obtain ⟨v1, hv1, hV1⟩ := h.dp hd 12
      have hV1' : v1 = .int .i64 (cmpI (b).num 0) := hV1
      exact ⟨_, run_neqi rfl (hv0.trans hV0') (hv1.trans hV1'), congrArg Value.bool (bne_iff_ne.2 hs)⟩
    intro a3 w3 st3
    clear st2
    repeat first|refine wp_seq ?_|refine wp_block ?_|refine wp_skip ?_|refine wp_exit ?_
    obtain ⟨vc, hc1, hc2⟩ := st3.slot (13, Vb (true)) (.tail _ (.tail _ (.tail _ (.head _))))
    refine wp_cond_true (hc1.trans hc2) ?_
    clear hc1 hc2
    repeat first|refine wp_seq ?_|refine wp_block ?_|refine wp_skip ?_|refine wp_exit ?_
    refine rg (BT := []) (Vl := [Vi (cmpI (a).num 0), Vi (cmpI (b).num 0), Vi (cmpI (cmpI (a).num 0) (cmpI (b).num 0)), Vi (cmpI (cmpI (a).num 0) (cmpI (b).num 0))]) (B := [⟨2, none, none, 27, 4, Vq Na (a), VT⟩, ⟨3, none, none, 27, 4, Vq Nb (b), VT⟩]) (SL' := [(5, Vi (cmpI (a).num 0)), (6, Vi (cmpI (b).num 0)), (13, Vb (true)), (4, Vi (cmpI (cmpI (a).num 0) (cmpI (b).num 0)))]) st3 ⟨ks, ks, ?s2, ks, trivial⟩ ?_
    case s2 =>
      refine kc fun _ ac Wd h hd => ?_
      obtain ⟨v0, hv0, hV0⟩ := h.dp hd 14
      obtain ⟨v1, hv1, hV1⟩ := h.dp hd 15
      exact ⟨#[v0, v1], by simp [hv0, hv1], cCmp (show Vi (cmpI (a).num 0) v0 Wd from hV0) (show Vi (cmpI (b).num 0) v1 Wd from hV1)⟩
    intro a4 w4 st4
    clear st3
    repeat first|refine wp_seq ?_|refine wp_block ?_|refine wp_skip ?_|refine wp_exit ?_
    obtain ⟨vr, r1, r4⟩ := st4.slot (4, Vi (cmpI (cmpI (a).num 0) (cmpI (b).num 0))) (.tail _ (.tail _ (.tail _ (.head _))))
    exact wp_ret (bodyPost_ret (results_tmp rfl _ _ _) st4.defers ⟨_, congrArg Ending.returned (show _ = vr from r1), (by rw [← cmpQ_sign hs]; exact r4), st4.k.below⟩)
set_option maxRecDepth 100000 in
set_option maxHeartbeats 1600000 in
theorem cQSame {w : World} {Na Nb : Nat} {a b : Rat} {v0 v1 : Value} (h0 : Vq Na (a) v0 w) (h1 : Vq Nb (b) v1 w) (h1a : 1 ≤ Na) (h1b : 1 ≤ Nb) (hNa : Na ≤ 100000) (hNb : Nb ≤ 100000) : Calls Tryz.prog 40 #[v0, v1] w (RV (Vb (decide (a = b))) w) := by
  go_enter Tryz.func40, Tryz.ntmps40
  have st0 : St w.heap.size w 19 [] [(0, Vq Na (a)), (1, Vq Nb (b))] _ w := St.begin (a := ⟨#[v0, v1, undef, undef, undef, undef, undef, undef, undef, undef, undef, undef, undef, undef, undef, undef, undef, undef, undef], []⟩) rfl rfl (List.forall_mem_cons.2 ⟨⟨_, rfl, h0⟩, (List.forall_mem_cons.2 ⟨⟨_, rfl, h1⟩, (fun _ h => absurd h (by simp))⟩)⟩)
  generalize (⟨#[v0, v1, undef, undef, undef, undef, undef, undef, undef, undef, undef, undef, undef, undef, undef, undef, undef, undef, undef], []⟩ : Act) = a0 at st0 ⊢
  repeat first|refine wp_seq ?_|refine wp_block ?_|refine wp_skip ?_|refine wp_exit ?_
  refine rg (BT := []) (Vl := [VT, VT, Vb (false)]) (B := [⟨2, some 0, some 0, 27, 4, Vq Na (a), VT⟩, ⟨3, some 1, some 1, 27, 4, Vq Nb (b), VT⟩]) (SL' := [(4, Vb (false))]) st0 ⟨ks, ks, ks, trivial⟩ ?_
  intro a1 w1 st1
  clear st0
  by_cases hp : a.num = b.num
  ·
    repeat first|refine wp_seq ?_|refine wp_block ?_|refine wp_skip ?_|refine wp_exit ?_
    refine rg (BT := []) (Vl := [Vpt a1 2 0, Vz Na ((a).num), Vpt a1 3 0, Vz Nb ((b).num), Vi (cmpI ((a).num) ((b).num)), Vb (true), Vb (true), Vpt a1 2 2, Vz Na (qd (a)), Vpt a1 3 2, Vz Nb (qd (b)), Vi (cmpI (qd (a)) (qd (b))), Vb (decide (a = b)), Vb (decide (a = b)), Vb (decide (a = b))]) (B := [⟨2, none, none, 27, 4, Vq Na (a), VT⟩, ⟨3, none, none, 27, 4, Vq Nb (b), VT⟩]) (SL' := [(4, Vb (decide (a = b)))]) st1 ⟨ks, ks, ks, ks, ?s4, ?s5, ks, ks, ks, ks, ks, ?s11, ?s12, ks, ks, trivial⟩ ?_
    case s4 =>
      refine kc fun _ ac Wd h hd => ?_
      obtain ⟨v0, hv0, hV0⟩ := h.dp hd 6
      obtain ⟨v1, hv1, hV1⟩ := h.dp hd 8
      exact ⟨#[v0, v1], by simp [hv0, hv1], (cCompare (show Vz Na ((a).num) v0 Wd from hV0) (show Vz Nb ((b).num) v1 Wd from hV1) (by omega) (by omega))⟩
    case s5 =>
      refine kr fun _ ac Wd h hd => ?_
      obtain ⟨v0, hv0, hV0⟩ := h.dp hd 9
      have hV0' : v0 = .int .i64 (cmpI ((a).num) ((b).num)) := hV0
      exact ⟨_, run_eqi rfl (hv0.trans hV0') rfl, congrArg Value.bool (by rw [cmp0]; exact decide_eq_true hp)⟩
    case s11 =>
      refine kc fun _ ac Wd h hd => ?_
      obtain ⟨v0, hv0, hV0⟩ := h.dp hd 13
      obtain ⟨v1, hv1, hV1⟩ := h.dp hd 15
      exact ⟨#[v0, v1], by simp [hv0, hv1], (cCompare (show Vz Na (qd (a)) v0 Wd from hV0) (show Vz Nb (qd (b)) v1 Wd from hV1) (by omega) (by omega))⟩
    case s12 =>
      refine kr fun _ ac Wd h hd => ?_
      obtain ⟨v0, hv0, hV0⟩ := h.dp hd 16
      have hV0' : v0 = .int .i64 (cmpI (qd (a)) (qd (b))) := hV0
      exact ⟨_, run_eqi rfl (hv0.trans hV0') rfl, congrArg Value.bool (by rw [cmp0]; exact decide_eq_decide.2 (qd_inj hp))⟩
    intro a2 w2 st2
    clear st1
    repeat first|refine wp_seq ?_|refine wp_block ?_|refine wp_skip ?_|refine wp_exit ?_
    obtain ⟨vr, r1, r4⟩ := st2.slot (4, Vb (decide (a = b))) (.head _)
    exact wp_ret (bodyPost_ret (results_tmp rfl _ _ _) st2.defers ⟨_, congrArg Ending.returned (show _ = vr from r1), r4, st2.k.below⟩)
  ·
    repeat first|refine wp_seq ?_|refine wp_block ?_|refine wp_skip ?_|refine wp_exit ?_
    refine rg (BT := []) (Vl := [Vpt a1 2 0, Vz Na ((a).num), Vpt a1 3 0, Vz Nb ((b).num), Vi (cmpI ((a).num) ((b).num)), Vb (false), Vb (false), VT, VT, VT, VT, VT, VT, Vb (false), Vb (false)]) (B := [⟨2, none, none, 27, 4, Vq Na (a), VT⟩, ⟨3, none, none, 27, 4, Vq Nb (b), VT⟩]) (SL' := [(4, Vb (false))]) st1 ⟨ks, ks, ks, ks, ?s4, ?s5, ks, ks, ks, ks, ks, ks, ks, ks, ks, trivial⟩ ?_
    case s4 =>
      refine kc fun _ ac Wd h hd => ?_
      obtain ⟨v0, hv0, hV0⟩ := h.dp hd 6
      obtain ⟨v1, hv1, hV1⟩ := h.dp hd 8
      exact ⟨#[v0, v1], by simp [hv0, hv1], (cCompare (show Vz Na ((a).num) v0 Wd from hV0) (show Vz Nb ((b).num) v1 Wd from hV1) (by omega) (by omega))⟩
    case s5 =>
      refine kr fun _ ac Wd h hd => ?_
      obtain ⟨v0, hv0, hV0⟩ := h.dp hd 9
      have hV0' : v0 = .int .i64 (cmpI ((a).num) ((b).num)) := hV0
      exact ⟨_, run_eqi rfl (hv0.trans hV0') rfl, congrArg Value.bool (by rw [cmp0]; exact decide_eq_false hp)⟩
    intro a2 w2 st2
    clear st1
    repeat first|refine wp_seq ?_|refine wp_block ?_|refine wp_skip ?_|refine wp_exit ?_
    obtain ⟨vr, r1, r4⟩ := st2.slot (4, Vb (false)) (.head _)
    exact wp_ret (bodyPost_ret (results_tmp rfl _ _ _) st2.defers ⟨_, congrArg Ending.returned (show _ = vr from r1), (by rw [decide_eq_false (fun e => hp (by rw [e]))]; exact r4), st2.k.below⟩)
set_option maxRecDepth 100000 in
set_option maxHeartbeats 1600000 in
theorem cQMake {w : World} {Na Nb : Nat} {p q : Int} {v0 v1 : Value} (h0 : Vz Na (p) v0 w) (h1 : Vz Nb (q) v1 w) (h1a : 1 ≤ Na) (h1b : 1 ≤ Nb) (hNa : Na ≤ 100000) (hNb : Nb ≤ 100000) : Calls Tryz.prog 19 #[v0, v1] w (RV (Vq (max Na Nb) (Rat.divInt p q)) w) := by
  go_enter Tryz.func19, Tryz.ntmps19
  have st0 : St w.heap.size w 27 [] [(0, Vz Na (p)), (1, Vz Nb (q))] _ w := St.begin (a := ⟨#[v0, v1, undef, undef, undef, undef, undef, undef, undef, undef, undef, undef, undef, undef, undef, undef, undef, undef, undef, undef, undef, undef, undef, undef, undef, undef, undef], []⟩) rfl rfl (List.forall_mem_cons.2 ⟨⟨_, rfl, h0⟩, (List.forall_mem_cons.2 ⟨⟨_, rfl, h1⟩, (fun _ h => absurd h (by simp))⟩)⟩)
  generalize (⟨#[v0, v1, undef, undef, undef, undef, undef, undef, undef, undef, undef, undef, undef, undef, undef, undef, undef, undef, undef, undef, undef, undef, undef, undef, undef, undef, undef], []⟩ : Act) = a0 at st0 ⊢
  repeat first|refine wp_seq ?_|refine wp_block ?_|refine wp_skip ?_|refine wp_exit ?_
  refine rg (BT := [(27, 4, 0), (24, 2, 0)]) (Vl := [VT, VT, VT]) (B := [⟨2, some 0, some 0, 24, 2, Vz Na (p), VT⟩, ⟨3, some 1, some 1, 24, 2, Vz Nb (q), VT⟩, ⟨4, some 2, none, 27, 4, VT, VT⟩]) (SL' := []) st0 ⟨ks, ks, ks, trivial⟩ ?_
  intro a1 w1 st1
  clear st0
  repeat first|refine wp_seq ?_|refine wp_block ?_|refine wp_skip ?_|refine wp_exit ?_
  refine rg (BT := [(27, 4, 0), (24, 2, 0)]) (Vl := [Vz Nb (q), Vi (cmpI (q) 0)]) (B := [⟨2, none, none, 24, 2, Vz Na (p), VT⟩, ⟨3, none, none, 24, 2, Vz Nb (q), VT⟩, ⟨4, none, none, 27, 4, VT, VT⟩]) (SL' := [(7, Vi (cmpI (q) 0))]) st1 ⟨ks, ?s1, trivial⟩ ?_
  case s1 => refine kc fun _ ac Wd h hd => ?_; obtain ⟨v0, hv0, hV0⟩ := h.dp hd 6; exact ⟨#[v0], by simp [hv0], cSign (show Vz Nb (q) v0 Wd from hV0) (by omega)⟩
  intro a2 w2 st2
  clear st1
  by_cases hz : q = 0
  ·
    repeat first|refine wp_seq ?_|refine wp_block ?_|refine wp_skip ?_|refine wp_exit ?_
    refine rg (BT := [(27, 4, 0), (24, 2, 0)]) (Vl := [Vb (true), Vb (true)]) (B := [⟨2, none, none, 24, 2, Vz Na (p), VT⟩, ⟨3, none, none, 24, 2, Vz Nb (q), VT⟩, ⟨4, none, none, 27, 4, VT, VT⟩]) (SL' := [(7, Vi (cmpI (q) 0)), (8, Vb (true))]) st2 ⟨?s0, ks, trivial⟩ ?_
    case s0 => refine kr fun _ ac Wd h hd => ?_; obtain ⟨v0, hv0, hV0⟩ := h.ot 7; have hV0' : v0 = .int .i64 (cmpI (q) 0) := hV0; exact ⟨_, run_eqi rfl (hv0.trans hV0') rfl, congrArg Value.bool (by rw [hz, cmp_eq]; rfl)⟩
    intro a3 w3 st3
    clear st2
    repeat first|refine wp_seq ?_|refine wp_block ?_|refine wp_skip ?_|refine wp_exit ?_
    obtain ⟨vc, hc1, hc2⟩ := st3.slot (8, Vb (true)) (.tail _ (.head _))
    refine wp_cond_true (hc1.trans hc2) ?_
    clear hc1 hc2
    repeat first|refine wp_seq ?_|refine wp_block ?_|refine wp_skip ?_|refine wp_exit ?_
    refine rg (BT := [(27, 4, 0), (24, 2, 0)]) (Vl := [Vq 1 (0), VT]) (B := [⟨2, none, none, 24, 2, Vz Na (p), VT⟩, ⟨3, none, none, 24, 2, Vz Nb (q), VT⟩, ⟨4, none, some 1, 27, 4, Vq 1 (0), VT⟩]) (SL' := [(7, Vi (cmpI (q) 0)), (8, Vb (true))]) st3 ⟨?s0, ks, trivial⟩ ?_
    case s0 => exact kr fun _ ac Wd h hd => build_Rat0 rfl
    intro a4 w4 st4
    clear st3
    repeat first|refine wp_seq ?_|refine wp_block ?_|refine wp_skip ?_|refine wp_exit ?_
    obtain ⟨g, cs, r1, r2, r3, r4, r5⟩ := st4.res ⟨4, none, none, 27, 4, Vq 1 (0), VT⟩ (.tail _ (.tail _ (.head _))) rfl rfl
    exact wp_ret (bodyPost_ret (results_cell_row rfl _ _ g 27 cs (0, 0) _ r1 r2 Tryz.underlying27 rfl (by rw [r3]; exact size_Rat)) st4.defers ⟨_, rfl, (by rw [hz, Rat.divInt_zero]; exact Vq_le r4 (by omega)), r5⟩)
  ·
    by_cases hl : q < 0
    ·
      repeat first|refine wp_seq ?_|refine wp_block ?_|refine wp_skip ?_|refine wp_exit ?_
      refine rg (BT := [(27, 4, 0), (24, 2, 0)]) (Vl := [Vb (false), Vb (false)]) (B := [⟨2, none, none, 24, 2, Vz Na (p), VT⟩, ⟨3, none, none, 24, 2, Vz Nb (q), VT⟩, ⟨4, none, none, 27, 4, VT, VT⟩]) (SL' := [(7, Vi (cmpI (q) 0)), (8, Vb (false))]) st2 ⟨?s0, ks, trivial⟩ ?_
      case s0 =>
        refine kr fun _ ac Wd h hd => ?_
        obtain ⟨v0, hv0, hV0⟩ := h.ot 7
        have hV0' : v0 = .int .i64 (cmpI (q) 0) := hV0
        exact ⟨_, run_eqi rfl (hv0.trans hV0') rfl, congrArg Value.bool (by rw [cmp0]; exact decide_eq_false hz)⟩
      intro a3 w3 st3
      clear st2
      repeat first|refine wp_seq ?_|refine wp_block ?_|refine wp_skip ?_|refine wp_exit ?_
      obtain ⟨vc, hc1, hc2⟩ := st3.slot (8, Vb (false)) (.tail _ (.head _))
      refine wp_cond_false (hc1.trans hc2) ?_
      clear hc1 hc2
      repeat first|refine wp_seq ?_|refine wp_block ?_|refine wp_skip ?_|refine wp_exit ?_
      refine rg (BT := [(27, 4, 0), (24, 2, 0)]) (Vl := [Vb (true), Vb (true)]) (B := [⟨2, none, none, 24, 2, Vz Na (p), VT⟩, ⟨3, none, none, 24, 2, Vz Nb (q), VT⟩, ⟨4, none, none, 27, 4, VT, VT⟩]) (SL' := [(7, Vi (cmpI (q) 0)), (8, Vb (false)), (11, Vb (true))]) st3 ⟨?s0, ks, trivial⟩ ?_
      case s0 => refine kr fun _ ac Wd h hd => ?_; obtain ⟨v0, hv0, hV0⟩ := h.ot 7; have hV0' : v0 = .int .i64 (cmpI (q) 0) := hV0; exact ⟨_, run_eqi rfl (hv0.trans hV0') rfl, congrArg Value.bool (by rw [cmp_lt hl]; rfl)⟩
      intro a4 w4 st4
      clear st3
      repeat first|refine wp_seq ?_|refine wp_block ?_|refine wp_skip ?_|refine wp_exit ?_
      obtain ⟨vc, hc1, hc2⟩ := st4.slot (11, Vb (true)) (.tail _ (.tail _ (.head _)))
      refine wp_cond_true (hc1.trans hc2) ?_
      clear hc1 hc2
      repeat first|refine wp_seq ?_|refine wp_block ?_|refine wp_skip ?_|refine wp_exit ?_
      refine rg (BT := [(27, 4, 0), (24, 2, 0)]) (Vl := [Vz Na (p), Vz Na (-(p)), Vz Nb (q), Vz Nb (-(q)), VT, VT]) (B := [⟨2, none, some 4, 24, 2, Vz Na (-(p)), Vz Na (p)⟩, ⟨3, none, some 5, 24, 2, Vz Nb (-(q)), Vz Nb (q)⟩, ⟨4, none, none, 27, 4, VT, VT⟩]) (SL' := [(7, Vi (cmpI (q) 0)), (8, Vb (false)), (11, Vb (true))]) st4 ⟨ks, ?s1, ks, ?s3, ks, ks, trivial⟩ ?_
      case s1 => refine kc fun _ ac Wd h hd => ?_; obtain ⟨v0, hv0, hV0⟩ := h.dp hd 13; exact ⟨#[v0], by simp [hv0], cNeg (show Vz Na (p) v0 Wd from hV0) (by omega)⟩
      case s3 => refine kc fun _ ac Wd h hd => ?_; obtain ⟨v0, hv0, hV0⟩ := h.dp hd 15; exact ⟨#[v0], by simp [hv0], cNeg (show Vz Nb (q) v0 Wd from hV0) (by omega)⟩
      intro a5 w5 st5
      clear st4
      repeat first|refine wp_seq ?_|refine wp_block ?_|refine wp_skip ?_|refine wp_exit ?_
      refine rg (BT := [(27, 4, 0), (24, 2, 0)]) (Vl := [Vz Na (-(p)), Vz Nb (-(q)), Vz (max Na Nb) ((Int.gcd (-(p)) (-(q)) : Int)), VT, VT]) (B := [⟨2, none, none, 24, 2, Vz Na (-(p)), VT⟩, ⟨3, none, none, 24, 2, Vz Nb (-(q)), VT⟩, ⟨4, none, none, 27, 4, VT, VT⟩, ⟨5, some 3, some 4, 24, 2, Vz (max Na Nb) ((Int.gcd (-(p)) (-(q)) : Int)), VT⟩]) (SL' := [(7, Vi (cmpI (q) 0)), (8, Vb (false)), (11, Vb (true))]) st5 ⟨ks, ks, ?s2, ks, ks, trivial⟩ ?_
      case s2 =>
        refine kc fun _ ac Wd h hd => ?_
        obtain ⟨v0, hv0, hV0⟩ := h.dp hd 17
        obtain ⟨v1, hv1, hV1⟩ := h.dp hd 18
        exact ⟨#[v0, v1], by simp [hv0, hv1], (cGcd (show Vz Na (-(p)) v0 Wd from hV0) (show Vz Nb (-(q)) v1 Wd from hV1) (by omega) (by omega))⟩
      intro a6 w6 st6
      clear st5
      repeat first|refine wp_seq ?_|refine wp_block ?_|refine wp_skip ?_|refine wp_exit ?_
      refine rg (BT := [(27, 4, 0), (24, 2, 0)]) (Vl := [Vz Na (-(p)), Vz (max Na Nb) ((Int.gcd (-(p)) (-(q)) : Int)), Vz Na ((-(p)) / ((Int.gcd (-(p)) (-(q)) : Int))), Vz Nb (-(q)), Vz (max Na Nb) ((Int.gcd (-(p)) (-(q)) : Int)), Vz Nb ((-(q)) / ((Int.gcd (-(p)) (-(q)) : Int))), Vq (max Na Nb) (Rat.divInt p q), VT]) (B := [⟨2, none, none, 24, 2, Vz Na (-(p)), VT⟩, ⟨3, none, none, 24, 2, Vz Nb (-(q)), VT⟩, ⟨4, none, some 7, 27, 4, Vq (max Na Nb) (Rat.divInt p q), VT⟩, ⟨5, none, none, 24, 2, Vz (max Na Nb) ((Int.gcd (-(p)) (-(q)) : Int)), VT⟩]) (SL' := [(7, Vi (cmpI (q) 0)), (8, Vb (false)), (11, Vb (true))]) st6 ⟨ks, ks, ?s2, ks, ks, ?s5, ?s6, ks, trivial⟩ ?_
      case s2 =>
        refine kc fun _ ac Wd h hd => ?_
        obtain ⟨v0, hv0, hV0⟩ := h.dp hd 20
        obtain ⟨v1, hv1, hV1⟩ := h.dp hd 21
        exact ⟨#[v0, v1], by simp [hv0, hv1], cPart (show Vz Na (-(p)) v0 Wd from hV0) (show Vz (max Na Nb) ((Int.gcd (-(p)) (-(q)) : Int)) v1 Wd from hV1) (by first | exact gcd_den_ne _ _ | exact gcd_den_ne' _ _ | exact gcd_gcd_ne _ _ _ | exact gcd_ne_r (by omega)) (by omega) (by omega)⟩
      case s5 =>
        refine kc fun _ ac Wd h hd => ?_
        obtain ⟨v0, hv0, hV0⟩ := h.dp hd 23
        obtain ⟨v1, hv1, hV1⟩ := h.dp hd 24
        exact ⟨#[v0, v1], by simp [hv0, hv1], cPart (show Vz Nb (-(q)) v0 Wd from hV0) (show Vz (max Na Nb) ((Int.gcd (-(p)) (-(q)) : Int)) v1 Wd from hV1) (by first | exact gcd_den_ne _ _ | exact gcd_den_ne' _ _ | exact gcd_gcd_ne _ _ _ | exact gcd_ne_r (by omega)) (by omega) (by omega)⟩
      case s6 =>
        refine kc fun _ ac Wd h hd => ?_
        obtain ⟨v0, hv0, hV0⟩ := h.dp hd 22
        obtain ⟨v1, hv1, hV1⟩ := h.dp hd 25
        exact ⟨#[v0, v1], by simp [hv0, hv1], cMade (r := Rat.divInt p q) (Vz_le (M := (max Na Nb)) (show Vz Na ((-(p)) / ((Int.gcd (-(p)) (-(q)) : Int))) v0 Wd from hV0) (by omega)) (Vz_le (M := (max Na Nb)) (show Vz Nb ((-(q)) / ((Int.gcd (-(p)) (-(q)) : Int))) v1 Wd from hV1) (by omega)) (by rw [← Rat.neg_divInt_neg]; exact make_low (by omega))⟩
      intro a7 w7 st7
      clear st6
      repeat first|refine wp_seq ?_|refine wp_block ?_|refine wp_skip ?_|refine wp_exit ?_
      obtain ⟨g, cs, r1, r2, r3, r4, r5⟩ := st7.res ⟨4, none, none, 27, 4, Vq (max Na Nb) (Rat.divInt p q), VT⟩ (.tail _ (.tail _ (.head _))) rfl rfl
      exact wp_ret (bodyPost_ret (results_cell_row rfl _ _ g 27 cs (0, 0) _ r1 r2 Tryz.underlying27 rfl (by rw [r3]; exact size_Rat)) st7.defers ⟨_, rfl, r4, r5⟩)
    ·
      repeat first|refine wp_seq ?_|refine wp_block ?_|refine wp_skip ?_|refine wp_exit ?_
      refine rg (BT := [(27, 4, 0), (24, 2, 0)]) (Vl := [Vb (false), Vb (false)]) (B := [⟨2, none, none, 24, 2, Vz Na (p), VT⟩, ⟨3, none, none, 24, 2, Vz Nb (q), VT⟩, ⟨4, none, none, 27, 4, VT, VT⟩]) (SL' := [(7, Vi (cmpI (q) 0)), (8, Vb (false))]) st2 ⟨?s0, ks, trivial⟩ ?_
      case s0 =>
        refine kr fun _ ac Wd h hd => ?_
        obtain ⟨v0, hv0, hV0⟩ := h.ot 7
        have hV0' : v0 = .int .i64 (cmpI (q) 0) := hV0
        exact ⟨_, run_eqi rfl (hv0.trans hV0') rfl, congrArg Value.bool (by rw [cmp0]; exact decide_eq_false hz)⟩
      intro a3 w3 st3
      clear st2
      repeat first|refine wp_seq ?_|refine wp_block ?_|refine wp_skip ?_|refine wp_exit ?_
      obtain ⟨vc, hc1, hc2⟩ := st3.slot (8, Vb (false)) (.tail _ (.head _))
      refine wp_cond_false (hc1.trans hc2) ?_
      clear hc1 hc2
      repeat first|refine wp_seq ?_|refine wp_block ?_|refine wp_skip ?_|refine wp_exit ?_
      refine rg (BT := [(27, 4, 0), (24, 2, 0)]) (Vl := [Vb (false), Vb (false)]) (B := [⟨2, none, none, 24, 2, Vz Na (p), VT⟩, ⟨3, none, none, 24, 2, Vz Nb (q), VT⟩, ⟨4, none, none, 27, 4, VT, VT⟩]) (SL' := [(7, Vi (cmpI (q) 0)), (8, Vb (false)), (11, Vb (false))]) st3 ⟨?s0, ks, trivial⟩ ?_
      case s0 =>
        refine kr fun _ ac Wd h hd => ?_
        obtain ⟨v0, hv0, hV0⟩ := h.ot 7
        have hV0' : v0 = .int .i64 (cmpI (q) 0) := hV0
        exact ⟨_, run_eqi rfl (hv0.trans hV0') rfl, congrArg Value.bool (by rw [cmp_gt (by omega)]; rfl)⟩
      intro a4 w4 st4
      clear st3
      repeat first|refine wp_seq ?_|refine wp_block ?_|refine wp_skip ?_|refine wp_exit ?_
      obtain ⟨vc, hc1, hc2⟩ := st4.slot (11, Vb (false)) (.tail _ (.tail _ (.head _)))
      refine wp_cond_false (hc1.trans hc2) ?_
      clear hc1 hc2
      repeat first|refine wp_seq ?_|refine wp_block ?_|refine wp_skip ?_|refine wp_exit ?_
      refine rg (BT := [(27, 4, 0), (24, 2, 0)]) (Vl := [Vz Na (p), Vz Nb (q), Vz (max Na Nb) ((Int.gcd (p) (q) : Int)), VT, VT]) (B := [⟨2, none, none, 24, 2, Vz Na (p), VT⟩, ⟨3, none, none, 24, 2, Vz Nb (q), VT⟩, ⟨4, none, none, 27, 4, VT, VT⟩, ⟨5, some 3, some 4, 24, 2, Vz (max Na Nb) ((Int.gcd (p) (q) : Int)), VT⟩]) (SL' := [(7, Vi (cmpI (q) 0)), (8, Vb (false)), (11, Vb (false))]) st4 ⟨ks, ks, ?s2, ks, ks, trivial⟩ ?_
      case s2 =>
        refine kc fun _ ac Wd h hd => ?_
        obtain ⟨v0, hv0, hV0⟩ := h.dp hd 17
        obtain ⟨v1, hv1, hV1⟩ := h.dp hd 18
        exact ⟨#[v0, v1], by simp [hv0, hv1], (cGcd (show Vz Na (p) v0 Wd from hV0) (show Vz Nb (q) v1 Wd from hV1) (by omega) (by omega))⟩
      intro a5 w5 st5
      clear st4
      repeat first|refine wp_seq ?_|refine wp_block ?_|refine wp_skip ?_|refine wp_exit ?_
      refine rg (BT := [(27, 4, 0), (24, 2, 0)]) (Vl := [Vz Na (p), Vz (max Na Nb) ((Int.gcd (p) (q) : Int)), Vz Na ((p) / ((Int.gcd (p) (q) : Int))), Vz Nb (q), Vz (max Na Nb) ((Int.gcd (p) (q) : Int)), Vz Nb ((q) / ((Int.gcd (p) (q) : Int))), Vq (max Na Nb) (Rat.divInt p q), VT]) (B := [⟨2, none, none, 24, 2, Vz Na (p), VT⟩, ⟨3, none, none, 24, 2, Vz Nb (q), VT⟩, ⟨4, none, some 7, 27, 4, Vq (max Na Nb) (Rat.divInt p q), VT⟩, ⟨5, none, none, 24, 2, Vz (max Na Nb) ((Int.gcd (p) (q) : Int)), VT⟩]) (SL' := [(7, Vi (cmpI (q) 0)), (8, Vb (false)), (11, Vb (false))]) st5 ⟨ks, ks, ?s2, ks, ks, ?s5, ?s6, ks, trivial⟩ ?_
      case s2 =>
        refine kc fun _ ac Wd h hd => ?_
        obtain ⟨v0, hv0, hV0⟩ := h.dp hd 20
        obtain ⟨v1, hv1, hV1⟩ := h.dp hd 21
        exact ⟨#[v0, v1], by simp [hv0, hv1], cPart (show Vz Na (p) v0 Wd from hV0) (show Vz (max Na Nb) ((Int.gcd (p) (q) : Int)) v1 Wd from hV1) (by first | exact gcd_den_ne _ _ | exact gcd_den_ne' _ _ | exact gcd_gcd_ne _ _ _ | exact gcd_ne_r (by omega)) (by omega) (by omega)⟩
      case s5 =>
        refine kc fun _ ac Wd h hd => ?_
        obtain ⟨v0, hv0, hV0⟩ := h.dp hd 23
        obtain ⟨v1, hv1, hV1⟩ := h.dp hd 24
        exact ⟨#[v0, v1], by simp [hv0, hv1], cPart (show Vz Nb (q) v0 Wd from hV0) (show Vz (max Na Nb) ((Int.gcd (p) (q) : Int)) v1 Wd from hV1) (by first | exact gcd_den_ne _ _ | exact gcd_den_ne' _ _ | exact gcd_gcd_ne _ _ _ | exact gcd_ne_r (by omega)) (by omega) (by omega)⟩
      case s6 =>
        refine kc fun _ ac Wd h hd => ?_
        obtain ⟨v0, hv0, hV0⟩ := h.dp hd 22
        obtain ⟨v1, hv1, hV1⟩ := h.dp hd 25
        exact ⟨#[v0, v1], by simp [hv0, hv1], cMade (r := Rat.divInt p q) (Vz_le (M := (max Na Nb)) (show Vz Na ((p) / ((Int.gcd (p) (q) : Int))) v0 Wd from hV0) (by omega)) (Vz_le (M := (max Na Nb)) (show Vz Nb ((q) / ((Int.gcd (p) (q) : Int))) v1 Wd from hV1) (by omega)) (make_low (by omega))⟩
      intro a6 w6 st6
      clear st5
      repeat first|refine wp_seq ?_|refine wp_block ?_|refine wp_skip ?_|refine wp_exit ?_
      obtain ⟨g, cs, r1, r2, r3, r4, r5⟩ := st6.res ⟨4, none, none, 27, 4, Vq (max Na Nb) (Rat.divInt p q), VT⟩ (.tail _ (.tail _ (.head _))) rfl rfl
      exact wp_ret (bodyPost_ret (results_cell_row rfl _ _ g 27 cs (0, 0) _ r1 r2 Tryz.underlying27 rfl (by rw [r3]; exact size_Rat)) st6.defers ⟨_, rfl, r4, r5⟩)
set_option maxRecDepth 100000 in
set_option maxHeartbeats 1600000 in
theorem cQOf {w : World} {p q : Int} {v0 v1 : Value} (h0 : Vi (p) v0 w) (h1 : Vi (q) v1 w) (hp0 : -9223372036854775808 ≤ p) (hp1 : p ≤ 9223372036854775807) (hq0 : -9223372036854775808 ≤ q) (hq1 : q ≤ 9223372036854775807) : Calls Tryz.prog 20 #[v0, v1] w (RV (Vq 3 (Rat.divInt p q)) w) := by
  go_enter Tryz.func20, Tryz.ntmps20
  have st0 : St w.heap.size w 10 [] [(0, Vi (p)), (1, Vi (q))] _ w := St.begin (a := ⟨#[v0, v1, undef, undef, undef, undef, undef, undef, undef, undef], []⟩) rfl rfl (List.forall_mem_cons.2 ⟨⟨_, rfl, h0⟩, (List.forall_mem_cons.2 ⟨⟨_, rfl, h1⟩, (fun _ h => absurd h (by simp))⟩)⟩)
  generalize (⟨#[v0, v1, undef, undef, undef, undef, undef, undef, undef, undef], []⟩ : Act) = a0 at st0 ⊢
  repeat first|refine wp_seq ?_|refine wp_block ?_|refine wp_skip ?_|refine wp_exit ?_
  refine rg (BT := [(27, 4, 0)]) (Vl := [VT]) (B := [⟨4, some 0, none, 27, 4, VT, VT⟩]) (SL' := [(0, Vi (p)), (1, Vi (q))]) st0 ⟨ks, trivial⟩ ?_
  intro a1 w1 st1
  clear st0
  repeat first|refine wp_seq ?_|refine wp_block ?_|refine wp_skip ?_|refine wp_exit ?_
  refine rg (BT := [(27, 4, 0)]) (Vl := [Vi (p), Vz 3 (p), Vi (q), Vz 3 (q), Vq 3 (Rat.divInt (p) (q)), VT]) (B := [⟨4, none, some 5, 27, 4, Vq 3 (Rat.divInt (p) (q)), VT⟩]) (SL' := []) st1 ⟨ks, ?s1, ks, ?s3, ?s4, ks, trivial⟩ ?_
  case s1 => refine kc fun _ ac Wd h hd => ?_; obtain ⟨v0, hv0, hV0⟩ := h.dp hd 5; exact ⟨#[v0], by simp [hv0], cOfV (show Vi (p) v0 Wd from hV0) (by omega) (by omega)⟩
  case s3 => refine kc fun _ ac Wd h hd => ?_; obtain ⟨v0, hv0, hV0⟩ := h.dp hd 7; exact ⟨#[v0], by simp [hv0], cOfV (show Vi (q) v0 Wd from hV0) (by omega) (by omega)⟩
  case s4 =>
    refine kc fun _ ac Wd h hd => ?_
    obtain ⟨v0, hv0, hV0⟩ := h.dp hd 6
    obtain ⟨v1, hv1, hV1⟩ := h.dp hd 8
    exact ⟨#[v0, v1], by simp [hv0, hv1], cQMake (show Vz 3 (p) v0 Wd from hV0) (show Vz 3 (q) v1 Wd from hV1) (by omega) (by omega) (by omega) (by omega)⟩
  intro a2 w2 st2
  clear st1
  repeat first|refine wp_seq ?_|refine wp_block ?_|refine wp_skip ?_|refine wp_exit ?_
  obtain ⟨g, cs, r1, r2, r3, r4, r5⟩ := st2.res ⟨4, none, none, 27, 4, Vq 3 (Rat.divInt (p) (q)), VT⟩ (.head _) rfl rfl
  exact wp_ret (bodyPost_ret (results_cell_row rfl _ _ g 27 cs (0, 0) _ r1 r2 Tryz.underlying27 rfl (by rw [r3]; exact size_Rat)) st2.defers ⟨_, rfl, r4, r5⟩)
end Go.Proofs.YtleijkgdpmfabaaGreatDoor
