/- RatSums: the walk. -/
import Derived.Test.YtleijkgdpmfabaaGreatDoorM38
set_option linter.unusedVariables false
namespace Go.Proofs.YtleijkgdpmfabaaGreatDoor
open Go.RowKit

set_option maxRecDepth 100000 in
set_option maxHeartbeats 1600000 in
theorem walkRatSums {w : World} {l m : List Int} {v0 v1 : Value} (h0 : VI l v0 w) (h1 : VI m v1 w) (hT : Tb w) : Calls Tryz.prog 4 #[v0, v1] w (RV (Vb true) w) := by
  go_enter Tryz.func4, Tryz.ntmps4
  have st0 : St w.heap.size w 89 [] [(0, VI l), (1, VI m)] _ w := St.begin (a := ⟨#[v0, v1, undef, undef, undef, undef, undef, undef, undef, undef, undef, undef, undef, undef, undef, undef, undef, undef, undef, undef, undef, undef, undef, undef, undef, undef, undef, undef, undef, undef, undef, undef, undef, undef, undef, undef, undef, undef, undef, undef, undef, undef, undef, undef, undef, undef, undef, undef, undef, undef, undef, undef, undef, undef, undef, undef, undef, undef, undef, undef, undef, undef, undef, undef, undef, undef, undef, undef, undef, undef, undef, undef, undef, undef, undef, undef, undef, undef, undef, undef, undef, undef, undef, undef, undef, undef, undef, undef, undef], []⟩) rfl rfl (List.forall_mem_cons.2 ⟨⟨_, rfl, h0⟩, (List.forall_mem_cons.2 ⟨⟨_, rfl, h1⟩, (fun _ h => absurd h (by simp))⟩)⟩)
  generalize (⟨#[v0, v1, undef, undef, undef, undef, undef, undef, undef, undef, undef, undef, undef, undef, undef, undef, undef, undef, undef, undef, undef, undef, undef, undef, undef, undef, undef, undef, undef, undef, undef, undef, undef, undef, undef, undef, undef, undef, undef, undef, undef, undef, undef, undef, undef, undef, undef, undef, undef, undef, undef, undef, undef, undef, undef, undef, undef, undef, undef, undef, undef, undef, undef, undef, undef, undef, undef, undef, undef, undef, undef, undef, undef, undef, undef, undef, undef, undef, undef, undef, undef, undef, undef, undef, undef, undef, undef, undef, undef], []⟩ : Act) = a0 at st0 ⊢
  repeat first | refine wp_seq ?_ | refine wp_block ?_ | refine wp_skip ?_ | refine wp_exit ?_
  refine rg (BT := [(27, 4, 0)]) (Vl := [Vb (false)]) (B := []) (SL' := [(0, VI l), (1, VI m), (4, Vb (false))]) st0 ⟨ks, trivial⟩ ?_
  intro a1 w1 st1
  clear st0
  repeat first | refine wp_seq ?_ | refine wp_block ?_ | refine wp_skip ?_ | refine wp_exit ?_
  refine rg (BT := [(27, 4, 0)]) (Vl := [VI l, VexQ (fun x => Vq 6 x), VT, VT]) (B := [⟨5, some 2, some 3, 27, 4, VexQ (fun x => Vq 6 x), VT⟩]) (SL' := [(0, VI l), (1, VI m), (4, Vb (false))]) st1 ⟨ks, ?s1, ks, ks, trivial⟩ ?_
  case s1 =>
    refine kc fun _ ac Wd h hd => ?_
    obtain ⟨v0, hv0, hV0⟩ := h.dp hd 9
    exact ⟨#[v0, .int .i64 (0)], by simp [hv0, eval_const], cR4Number (show VI l v0 Wd from hV0) (show Vi (0) (.int .i64 (0)) Wd from rfl) (by omega) (by omega)⟩
  intro a2 w2 st2
  clear st1
  replace st2 : St w.heap.size w 89 [⟨5, none, none, 27, 4, VexQ (fun x => Vq 6 x), VT⟩] [(0, VI l), (1, VI m), (4, Vb (false))] a2 w2 := st2
  obtain ⟨a, st2⟩ := St.exQ (L1 := []) (L2 := []) st2
  replace st2 : St w.heap.size w 89 [⟨5, none, none, 27, 4, Vq 6 (a), VT⟩] [(0, VI l), (1, VI m), (4, Vb (false))] a2 w2 := st2
  repeat first | refine wp_seq ?_ | refine wp_block ?_ | refine wp_skip ?_ | refine wp_exit ?_
  refine rg (BT := [(27, 4, 0)]) (Vl := [VI m, VexQ (fun x => Vq 6 x), VT, VT]) (B := [⟨5, none, none, 27, 4, Vq 6 (a), VT⟩, ⟨6, some 2, some 3, 27, 4, VexQ (fun x => Vq 6 x), VT⟩]) (SL' := [(0, VI l), (1, VI m), (4, Vb (false))]) st2 ⟨ks, ?s1, ks, ks, trivial⟩ ?_
  case s1 =>
    refine kc fun _ ac Wd h hd => ?_
    obtain ⟨v0, hv0, hV0⟩ := h.dp hd 11
    exact ⟨#[v0, .int .i64 (0)], by simp [hv0, eval_const], cR4Number (show VI m v0 Wd from hV0) (show Vi (0) (.int .i64 (0)) Wd from rfl) (by omega) (by omega)⟩
  intro a3 w3 st3
  clear st2
  replace st3 : St w.heap.size w 89 [⟨5, none, none, 27, 4, Vq 6 (a), VT⟩, ⟨6, none, none, 27, 4, VexQ (fun x => Vq 6 x), VT⟩] [(0, VI l), (1, VI m), (4, Vb (false))] a3 w3 := st3
  obtain ⟨b, st3⟩ := St.exQ (L1 := [⟨5, none, none, 27, 4, Vq 6 (a), VT⟩]) (L2 := []) st3
  replace st3 : St w.heap.size w 89 [⟨5, none, none, 27, 4, Vq 6 (a), VT⟩, ⟨6, none, none, 27, 4, Vq 6 (b), VT⟩] [(0, VI l), (1, VI m), (4, Vb (false))] a3 w3 := st3
  repeat first | refine wp_seq ?_ | refine wp_block ?_ | refine wp_skip ?_ | refine wp_exit ?_
  refine rg (BT := [(27, 4, 0)]) (Vl := [Vq 6 (a), Vq 6 (b), Vq (6 + 6 + 1) ((a) + (b)), Vq 6 (a), Vq 6 (b), Vq (6 + 6 + 1) ((a) + (b)), Vb (true), Vb (true), Vq 6 (a), Vq 6 (b), Vq (6 + 6 + 1) ((a) - (b)), Vq 6 (a), Vq 6 (b), Vq (6 + 6 + 1) ((a) - (b)), Vb (true), Vb (true), Vb (true), Vq 6 (a), Vq 6 (b), Vq (6 + 6) ((a) * (b)), Vq 6 (a), Vq 6 (b), Vq (6 + 6) ((a) * (b)), Vb (true), Vb (true), Vb (true), Vq 6 (a), Vq 6 (b), Vq (6 + 6) ((a) / (b)), Vq 6 (a), Vq 6 (b), Vq (6 + 6) ((a) / (b)), Vb (true), Vb (true), Vb (true), Vq 6 (a), Vq 6 (-(a)), Vq 6 (a), Vq 6 (-(a)), Vb (true), Vb (true), Vb (true)]) (B := [⟨5, none, none, 27, 4, Vq 6 (a), VT⟩, ⟨6, none, none, 27, 4, Vq 6 (b), VT⟩]) (SL' := [(0, VI l), (1, VI m), (4, Vb (false)), (7, Vb (true))]) st3 ⟨ks, ks, ?s2, ks, ks, ?s5, ?s6, ks, ks, ks, ?s10, ks, ks, ?s13, ?s14, ks, ks, ks, ks, ?s19, ks, ks, ?s22, ?s23, ks, ks, ks, ks, ?s28, ks, ks, ?s31, ?s32, ks, ks, ks, ?s36, ks, ?s38, ?s39, ks, ks, trivial⟩ ?_
  case s2 =>
    refine kc fun _ ac Wd h hd => ?_
    obtain ⟨v0, hv0, hV0⟩ := h.dp hd 13
    obtain ⟨v1, hv1, hV1⟩ := h.dp hd 14
    exact ⟨#[v0, v1], by simp [hv0, hv1], cQAdd (Na := 6) (Nb := 6) (show Vq 6 (a) v0 Wd from hV0) (show Vq 6 (b) v1 Wd from hV1) (by omega) (by omega) (by omega) (by omega)⟩
  case s5 =>
    refine kc fun _ ac Wd h hd => ?_
    obtain ⟨v0, hv0, hV0⟩ := h.dp hd 16
    obtain ⟨v1, hv1, hV1⟩ := h.dp hd 17
    exact ⟨#[v0, v1], by simp [hv0, hv1], cR4Add (show Vq 6 (a) v0 Wd from hV0) (show Vq 6 (b) v1 Wd from hV1) (by omega) (by omega)⟩
  case s6 =>
    refine kc fun _ ac Wd h hd => ?_
    obtain ⟨v0, hv0, hV0⟩ := h.dp hd 15
    obtain ⟨v1, hv1, hV1⟩ := h.dp hd 18
    exact ⟨#[v0, v1], by simp [hv0, hv1], (cL4Same (show Vq (6 + 6 + 1) ((a) + (b)) v0 Wd from hV0) (show Vq (6 + 6 + 1) ((a) + (b)) v1 Wd from hV1) (by omega)).mono fun e w h => h.le fun v w hv => hv.trans (congrArg Value.bool (decide_eq_true (rfl)))⟩
  case s10 =>
    refine kc fun _ ac Wd h hd => ?_
    obtain ⟨v0, hv0, hV0⟩ := h.dp hd 21
    obtain ⟨v1, hv1, hV1⟩ := h.dp hd 22
    exact ⟨#[v0, v1], by simp [hv0, hv1], cQSub (Na := 6) (Nb := 6) (show Vq 6 (a) v0 Wd from hV0) (show Vq 6 (b) v1 Wd from hV1) (by omega) (by omega) (by omega) (by omega)⟩
  case s13 =>
    refine kc fun _ ac Wd h hd => ?_
    obtain ⟨v0, hv0, hV0⟩ := h.dp hd 24
    obtain ⟨v1, hv1, hV1⟩ := h.dp hd 25
    exact ⟨#[v0, v1], by simp [hv0, hv1], cR4Sub (show Vq 6 (a) v0 Wd from hV0) (show Vq 6 (b) v1 Wd from hV1) (by omega) (by omega)⟩
  case s14 =>
    refine kc fun _ ac Wd h hd => ?_
    obtain ⟨v0, hv0, hV0⟩ := h.dp hd 23
    obtain ⟨v1, hv1, hV1⟩ := h.dp hd 26
    exact ⟨#[v0, v1], by simp [hv0, hv1], (cL4Same (show Vq (6 + 6 + 1) ((a) - (b)) v0 Wd from hV0) (show Vq (6 + 6 + 1) ((a) - (b)) v1 Wd from hV1) (by omega)).mono fun e w h => h.le fun v w hv => hv.trans (congrArg Value.bool (decide_eq_true (rfl)))⟩
  case s19 =>
    refine kc fun _ ac Wd h hd => ?_
    obtain ⟨v0, hv0, hV0⟩ := h.dp hd 30
    obtain ⟨v1, hv1, hV1⟩ := h.dp hd 31
    exact ⟨#[v0, v1], by simp [hv0, hv1], cQMul (Na := 6) (Nb := 6) (show Vq 6 (a) v0 Wd from hV0) (show Vq 6 (b) v1 Wd from hV1) (by omega) (by omega) (by omega) (by omega)⟩
  case s22 =>
    refine kc fun _ ac Wd h hd => ?_
    obtain ⟨v0, hv0, hV0⟩ := h.dp hd 33
    obtain ⟨v1, hv1, hV1⟩ := h.dp hd 34
    exact ⟨#[v0, v1], by simp [hv0, hv1], cR4Mul (show Vq 6 (a) v0 Wd from hV0) (show Vq 6 (b) v1 Wd from hV1) (by omega) (by omega)⟩
  case s23 =>
    refine kc fun _ ac Wd h hd => ?_
    obtain ⟨v0, hv0, hV0⟩ := h.dp hd 32
    obtain ⟨v1, hv1, hV1⟩ := h.dp hd 35
    exact ⟨#[v0, v1], by simp [hv0, hv1], (cL4Same (show Vq (6 + 6) ((a) * (b)) v0 Wd from hV0) (show Vq (6 + 6) ((a) * (b)) v1 Wd from hV1) (by omega)).mono fun e w h => h.le fun v w hv => hv.trans (congrArg Value.bool (decide_eq_true (rfl)))⟩
  case s28 =>
    refine kc fun _ ac Wd h hd => ?_
    obtain ⟨v0, hv0, hV0⟩ := h.dp hd 39
    obtain ⟨v1, hv1, hV1⟩ := h.dp hd 40
    exact ⟨#[v0, v1], by simp [hv0, hv1], cQDiv (Na := 6) (Nb := 6) (show Vq 6 (a) v0 Wd from hV0) (show Vq 6 (b) v1 Wd from hV1) (by omega) (by omega) (by omega) (by omega)⟩
  case s31 =>
    refine kc fun _ ac Wd h hd => ?_
    obtain ⟨v0, hv0, hV0⟩ := h.dp hd 42
    obtain ⟨v1, hv1, hV1⟩ := h.dp hd 43
    exact ⟨#[v0, v1], by simp [hv0, hv1], cR4Div (show Vq 6 (a) v0 Wd from hV0) (show Vq 6 (b) v1 Wd from hV1) (by omega) (by omega)⟩
  case s32 =>
    refine kc fun _ ac Wd h hd => ?_
    obtain ⟨v0, hv0, hV0⟩ := h.dp hd 41
    obtain ⟨v1, hv1, hV1⟩ := h.dp hd 44
    exact ⟨#[v0, v1], by simp [hv0, hv1], (cL4Same (show Vq (6 + 6) ((a) / (b)) v0 Wd from hV0) (show Vq (6 + 6) ((a) / (b)) v1 Wd from hV1) (by omega)).mono fun e w h => h.le fun v w hv => hv.trans (congrArg Value.bool (decide_eq_true (rfl)))⟩
  case s36 => refine kc fun _ ac Wd h hd => ?_; obtain ⟨v0, hv0, hV0⟩ := h.dp hd 48; exact ⟨#[v0], by simp [hv0], cQNeg (show Vq 6 (a) v0 Wd from hV0) (by omega)⟩
  case s38 => refine kc fun _ ac Wd h hd => ?_; obtain ⟨v0, hv0, hV0⟩ := h.dp hd 50; exact ⟨#[v0], by simp [hv0], cR4Neg (show Vq 6 (a) v0 Wd from hV0) (by omega)⟩
  case s39 =>
    refine kc fun _ ac Wd h hd => ?_
    obtain ⟨v0, hv0, hV0⟩ := h.dp hd 49
    obtain ⟨v1, hv1, hV1⟩ := h.dp hd 51
    exact ⟨#[v0, v1], by simp [hv0, hv1], (cL4Same (show Vq 6 (-(a)) v0 Wd from hV0) (show Vq 6 (-(a)) v1 Wd from hV1) (by omega)).mono fun e w h => h.le fun v w hv => hv.trans (congrArg Value.bool (decide_eq_true (rfl)))⟩
  intro a4 w4 st4
  clear st3
  repeat first | refine wp_seq ?_ | refine wp_block ?_ | refine wp_skip ?_ | refine wp_exit ?_
  refine rg (BT := [(27, 4, 0)]) (Vl := [Vq 6 (a), Vq 6 (b), Vi (cmpQ (a) (b)), Vq 6 (a), Vq 6 (b), Vi (cmpQ (a) (b)), Vb (true), Vb (true), Vq 6 (a), Vi (cmpI (a).num 0), Vq 6 (a), Vi (cmpI (a).num 0), Vb (true), Vb (true), Vb (true), Vq 6 (a), Vq 6 (b), Vb (decide ((a) = (b))), Vq 6 (a), Vq 6 (b), Vb (decide ((a) = (b))), Vb (true), Vb (true), Vb (true), Vq 6 (a), Vq 6 (a), Vb (true), Vb (true), Vb (true)]) (B := [⟨5, none, none, 27, 4, Vq 6 (a), VT⟩, ⟨6, none, none, 27, 4, Vq 6 (b), VT⟩]) (SL' := [(0, VI l), (1, VI m), (4, Vb (false)), (7, Vb (true)), (8, Vb (true))]) st4 ⟨ks, ks, ?s2, ks, ks, ?s5, ?s6, ks, ks, ?s9, ks, ?s11, ?s12, ks, ks, ks, ks, ?s17, ks, ks, ?s20, ?s21, ks, ks, ks, ks, ?s26, ks, ks, trivial⟩ ?_
  case s2 =>
    refine kc fun _ ac Wd h hd => ?_
    obtain ⟨v0, hv0, hV0⟩ := h.dp hd 54
    obtain ⟨v1, hv1, hV1⟩ := h.dp hd 55
    exact ⟨#[v0, v1], by simp [hv0, hv1], cQCompare (Na := 6) (Nb := 6) (show Vq 6 (a) v0 Wd from hV0) (show Vq 6 (b) v1 Wd from hV1) (by omega) (by omega) (by omega) (by omega)⟩
  case s5 =>
    refine kc fun _ ac Wd h hd => ?_
    obtain ⟨v0, hv0, hV0⟩ := h.dp hd 57
    obtain ⟨v1, hv1, hV1⟩ := h.dp hd 58
    exact ⟨#[v0, v1], by simp [hv0, hv1], cR4Compare (show Vq 6 (a) v0 Wd from hV0) (show Vq 6 (b) v1 Wd from hV1) (by omega) (by omega)⟩
  case s6 =>
    refine kr fun _ ac Wd h hd => ?_
    obtain ⟨v0, hv0, hV0⟩ := h.dp hd 56
    have hV0' : v0 = .int .i64 (cmpQ (a) (b)) := hV0
    obtain ⟨v1, hv1, hV1⟩ := h.dp hd 59
    have hV1' : v1 = .int .i64 (cmpQ (a) (b)) := hV1
    exact ⟨_, run_eqi rfl (hv0.trans hV0') (hv1.trans hV1'), congrArg Value.bool (beq_self_eq_true _)⟩
  case s9 => refine kc fun _ ac Wd h hd => ?_; obtain ⟨v0, hv0, hV0⟩ := h.dp hd 62; exact ⟨#[v0], by simp [hv0], cQSign (show Vq 6 (a) v0 Wd from hV0) (by omega)⟩
  case s11 => refine kc fun _ ac Wd h hd => ?_; obtain ⟨v0, hv0, hV0⟩ := h.dp hd 64; exact ⟨#[v0], by simp [hv0], cR4Sign (show Vq 6 (a) v0 Wd from hV0) (by omega)⟩
  case s12 =>
    refine kr fun _ ac Wd h hd => ?_
    obtain ⟨v0, hv0, hV0⟩ := h.dp hd 63
    have hV0' : v0 = .int .i64 (cmpI (a).num 0) := hV0
    obtain ⟨v1, hv1, hV1⟩ := h.dp hd 65
    have hV1' : v1 = .int .i64 (cmpI (a).num 0) := hV1
    exact ⟨_, run_eqi rfl (hv0.trans hV0') (hv1.trans hV1'), congrArg Value.bool (beq_self_eq_true _)⟩
  case s17 =>
    refine kc fun _ ac Wd h hd => ?_
    obtain ⟨v0, hv0, hV0⟩ := h.dp hd 69
    obtain ⟨v1, hv1, hV1⟩ := h.dp hd 70
    exact ⟨#[v0, v1], by simp [hv0, hv1], cQSame (show Vq 6 (a) v0 Wd from hV0) (show Vq 6 (b) v1 Wd from hV1) (by omega) (by omega) (by omega) (by omega)⟩
  case s20 =>
    refine kc fun _ ac Wd h hd => ?_
    obtain ⟨v0, hv0, hV0⟩ := h.dp hd 72
    obtain ⟨v1, hv1, hV1⟩ := h.dp hd 73
    exact ⟨#[v0, v1], by simp [hv0, hv1], cR4Same (show Vq 6 (a) v0 Wd from hV0) (show Vq 6 (b) v1 Wd from hV1) (by omega)⟩
  case s21 => refine kr fun _ ac Wd h hd => ?_; obtain ⟨v0, hv0, hV0⟩ := h.dp hd 71; obtain ⟨v1, hv1, hV1⟩ := h.dp hd 74; exact ⟨_, run_eqb rfl (hv0.trans hV0) (hv1.trans hV1), congrArg Value.bool (beq_self_eq_true _)⟩
  case s26 =>
    refine kc fun _ ac Wd h hd => ?_
    obtain ⟨v0, hv0, hV0⟩ := h.dp hd 78
    obtain ⟨v1, hv1, hV1⟩ := h.dp hd 79
    exact ⟨#[v0, v1], by simp [hv0, hv1], (cQSame (show Vq 6 (a) v0 Wd from hV0) (show Vq 6 (a) v1 Wd from hV1) (by omega) (by omega) (by omega) (by omega)).mono fun e w h => h.le fun v w hv => hv.trans (congrArg Value.bool (decide_eq_true rfl))⟩
  intro a5 w5 st5
  clear st4
  repeat first | refine wp_seq ?_ | refine wp_block ?_ | refine wp_skip ?_ | refine wp_exit ?_
  refine rg (BT := [(27, 4, 0)]) (Vl := [Vb (true), Vb (true), Vb (true), Vb (true), Vb (true), Vb (true), Vb (true), Vb (true)]) (B := [⟨5, none, none, 27, 4, Vq 6 (a), VT⟩, ⟨6, none, none, 27, 4, Vq 6 (b), VT⟩]) (SL' := [(0, VI l), (1, VI m), (7, Vb (true)), (8, Vb (true)), (4, Vb (true))]) st5 ⟨ks, ks, ks, ks, ks, ?s5, ks, ks, trivial⟩ ?_
  case s5 => refine kc fun _ ac Wd h hd => ?_; exact ⟨#[], by simp [], cL4Lives (hT.later h.k.below)⟩
  intro a6 w6 st6
  clear st5
  repeat first | refine wp_seq ?_ | refine wp_block ?_ | refine wp_skip ?_ | refine wp_exit ?_
  obtain ⟨vr, r1, r4⟩ := st6.slot (4, Vb (true)) (.tail _ (.tail _ (.tail _ (.tail _ (.head _)))))
  exact wp_ret (bodyPost_ret (results_tmp rfl _ _ _) st6.defers ⟨_, congrArg Ending.returned (show _ = vr from r1), r4, st6.k.below⟩)
end Go.Proofs.YtleijkgdpmfabaaGreatDoor
