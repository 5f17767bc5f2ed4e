/- Take of the reference, eight. -/
import Derived.Test.YtmbkpcnpacncjaaDoorM26
import Derived.Test.YtmbkpcnpacncjaaDoorM23
set_option linter.unusedVariables false
namespace Go.Proofs.YtmbkpcnpacncjaaDoor
open Go.RowKit

set_option maxRecDepth 100000 in
set_option maxHeartbeats 1600000 in
theorem cTake8 {w : World} {l : List Int} {v0 v1 : Value} (h0 : VIc l v0 w) (h1 : Vi (8) v1 w)  : Calls Tryd.prog 5 #[v0, v1] w (RV (VLn 8 (l.take (min l.length 8))) w) := by
  go_enter Tryd.func5, Tryd.ntmps5
  have st0 : St w.heap.size w 14 [] [(0, VIc l), (1, Vi (8))] _ w := St.begin (a := ⟨#[v0, v1, undef, undef, undef, undef, undef, undef, undef, undef, undef, undef, undef, undef], []⟩) rfl rfl (List.forall_mem_cons.2 ⟨⟨_, rfl, h0⟩, (List.forall_mem_cons.2 ⟨⟨_, rfl, h1⟩, (fun _ h => absurd h (by simp))⟩)⟩)
  generalize (⟨#[v0, v1, undef, undef, undef, undef, undef, undef, undef, undef, undef, undef, undef, undef], []⟩ : Act) = a0 at st0 ⊢
  have hlt : (l.take (min l.length 8)).length ≤ 8 := by rw [List.length_take]; omega
  repeat first | refine wp_seq ?_ | refine wp_block ?_ | refine wp_skip ?_ | refine wp_exit ?_
  refine rg (BT := []) (Vl := [VEq (.slice none 0 0)]) (B := []) (SL' := [(0, VIc l), (1, Vi (8)), (4, VEq (.slice none 0 0))]) st0 ⟨ks, trivial⟩ ?_
  intro a1 w1 st1
  clear st0
  repeat first | refine wp_seq ?_ | refine wp_block ?_ | refine wp_skip ?_ | refine wp_exit ?_
  refine rg (BT := []) (Vl := [VEq (.slice none 0 0)]) (B := []) (SL' := [(0, VIc l), (1, Vi (8)), (4, VEq (.slice none 0 0)), (5, VEq (.slice none 0 0))]) st1 ⟨ks, trivial⟩ ?_
  intro a2 w2 st2
  clear st1
  repeat first | refine wp_seq ?_ | refine wp_block ?_ | refine wp_skip ?_ | refine wp_exit ?_
  refine rg (BT := []) (Vl := [VEq (.slice none 0 0), VIc l, VIc l, Vi ((l.length : Int)), Vi (8), Vi (((min l.length 8 : Nat) : Int)), VSr (l.take (min l.length 8)), VLn (l.take (min l.length 8)).length (l.take (min l.length 8)), VLn (l.take (min l.length 8)).length (l.take (min l.length 8))]) (B := []) (SL' := [(0, VIc l), (1, Vi (8)), (4, VLn (l.take (min l.length 8)).length (l.take (min l.length 8)))]) st2 ⟨ks, ks, ks, ?s3, ks, ?s5, ?s6, ?s7, ks, trivial⟩ ?_
  case s3 => refine kr fun _ ac Wd h hd => ?_; obtain ⟨v0, hv0, hV0⟩ := h.dp hd 8; exact len_VIc rfl rfl hv0 hV0
  case s5 => refine kr fun _ ac Wd h hd => ?_; obtain ⟨v0, hv0, hV0⟩ := h.dp hd 9; obtain ⟨v1, hv1, hV1⟩ := h.dp hd 10; exact min_iv rfl rfl rfl hv0 hv1 hV0 hV1
  case s6 => refine kr fun _ ac Wd h hd => ?_; obtain ⟨v0, hv0, hV0⟩ := h.dp hd 7; obtain ⟨v1, hv1, hV1⟩ := h.dp hd 11; exact take_VIc rfl hv0 hV0 hv1 hV1 (Nat.min_le_left _ _)
  case s7 => refine km fun _ ac Wd h hd => ?_; obtain ⟨v0, hv0, hV0⟩ := h.dp hd 6; obtain ⟨v1, hv1, hV1⟩ := h.dp hd 12; exact app_nilI rfl hv0 hV0 hv1 hV1 (by omega)
  intro a3 w3 st3
  clear st2
  repeat first | refine wp_seq ?_ | refine wp_block ?_ | refine wp_skip ?_ | refine wp_exit ?_
  obtain ⟨vr, r1, r4⟩ := st3.slot (4, VLn (l.take (min l.length 8)).length (l.take (min l.length 8))) (.tail _ (.tail _ (.head _)))
  exact wp_ret (bodyPost_ret (results_tmp rfl _ _ _) st3.defers ⟨_, congrArg Ending.returned (show _ = vr from r1), (VLn_le r4 hlt), st3.k.below⟩)
end Go.Proofs.YtmbkpcnpacncjaaDoor
