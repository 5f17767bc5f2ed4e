/- RatField: the walk. -/
import Derived.Test.YtleijkgdpmfabaaGreatDoorM38
set_option linter.unusedVariables false
namespace Go.Proofs.YtleijkgdpmfabaaGreatDoor
open Go.RowKit

set_option maxRecDepth 100000 in
set_option maxHeartbeats 1600000 in
theorem walkRatField {w : World} {l m n : List Int} {v0 v1 v2 : Value} (h0 : VI l v0 w) (h1 : VI m v1 w) (h2 : VI n v2 w) (hT : Tb w) : Calls Tryz.prog 8 #[v0, v1, v2] w (RV (Vb true) w) := by
  go_enter Tryz.func8, Tryz.ntmps8
  have st0 : St w.heap.size w 128 [] [(0, VI l), (1, VI m), (2, VI n)] _ w := St.begin (a := ⟨#[v0, v1, v2, undef, undef, undef, undef, undef, undef, undef, undef, undef, undef, undef, undef, undef, undef, undef, undef, undef, undef, undef, undef, undef, undef, undef, undef, undef, undef, undef, undef, undef, undef, undef, undef, undef, undef, undef, undef, undef, undef, undef, undef, undef, undef, undef, undef, undef, undef, undef, undef, undef, undef, undef, undef, undef, undef, undef, undef, undef, undef, undef, undef, undef, undef, undef, undef, undef, undef, undef, undef, undef, undef, undef, undef, undef, undef, undef, undef, undef, undef, undef, undef, undef, undef, undef, undef, undef, undef, undef, undef, undef, undef, undef, undef, undef, undef, undef, undef, undef, undef, undef, undef, undef, undef, undef, undef, undef, undef, undef, undef, undef, undef, undef, undef, undef, undef, undef, undef, undef, undef, undef, undef, undef, undef, undef, undef, undef], []⟩) rfl rfl (List.forall_mem_cons.2 ⟨⟨_, rfl, h0⟩, (List.forall_mem_cons.2 ⟨⟨_, rfl, h1⟩, (List.forall_mem_cons.2 ⟨⟨_, rfl, h2⟩, (fun _ h => absurd h (by simp))⟩)⟩)⟩)
  generalize (⟨#[v0, v1, v2, undef, undef, undef, undef, undef, undef, undef, undef, undef, undef, undef, undef, undef, undef, undef, undef, undef, undef, undef, undef, undef, undef, undef, undef, undef, undef, undef, undef, undef, undef, undef, undef, undef, undef, undef, undef, undef, undef, undef, undef, undef, undef, undef, undef, undef, undef, undef, undef, undef, undef, undef, undef, undef, undef, undef, undef, undef, undef, undef, undef, undef, undef, undef, undef, undef, undef, undef, undef, undef, undef, undef, undef, undef, undef, undef, undef, undef, undef, undef, undef, undef, undef, undef, undef, undef, undef, undef, undef, undef, undef, undef, undef, undef, undef, undef, undef, undef, undef, undef, undef, undef, undef, undef, undef, undef, undef, undef, undef, undef, undef, undef, undef, undef, undef, undef, undef, undef, undef, undef, undef, undef, undef, undef, undef, undef], []⟩ : Act) = a0 at st0 ⊢
  repeat first | refine wp_seq ?_ | refine wp_block ?_ | refine wp_skip ?_ | refine wp_exit ?_
  refine rg (BT := [(27, 4, 0)]) (Vl := [Vb (false)]) (B := []) (SL' := [(0, VI l), (1, VI m), (2, VI n), (6, Vb (false))]) st0 ⟨ks, trivial⟩ ?_
  intro a1 w1 st1
  clear st0
  repeat first | refine wp_seq ?_ | refine wp_block ?_ | refine wp_skip ?_ | refine wp_exit ?_
  refine rg (BT := [(27, 4, 0)]) (Vl := [VI l, VexQ (fun x => Vq 6 x), VT, VT]) (B := [⟨7, some 2, some 3, 27, 4, VexQ (fun x => Vq 6 x), VT⟩]) (SL' := [(0, VI l), (1, VI m), (2, VI n), (6, Vb (false))]) st1 ⟨ks, ?s1, ks, ks, trivial⟩ ?_
  case s1 =>
    refine kc fun _ ac Wd h hd => ?_
    obtain ⟨v0, hv0, hV0⟩ := h.dp hd 10
    exact ⟨#[v0, .int .i64 (0)], by simp [hv0, eval_const], cR4Number (show VI l v0 Wd from hV0) (show Vi (0) (.int .i64 (0)) Wd from rfl) (by omega) (by omega)⟩
  intro a2 w2 st2
  clear st1
  replace st2 : St w.heap.size w 128 [⟨7, none, none, 27, 4, VexQ (fun x => Vq 6 x), VT⟩] [(0, VI l), (1, VI m), (2, VI n), (6, Vb (false))] a2 w2 := st2
  obtain ⟨a, st2⟩ := St.exQ (L1 := []) (L2 := []) st2
  replace st2 : St w.heap.size w 128 [⟨7, none, none, 27, 4, Vq 6 (a), VT⟩] [(0, VI l), (1, VI m), (2, VI n), (6, Vb (false))] a2 w2 := st2
  repeat first | refine wp_seq ?_ | refine wp_block ?_ | refine wp_skip ?_ | refine wp_exit ?_
  refine rg (BT := [(27, 4, 0)]) (Vl := [VI m, VexQ (fun x => Vq 6 x), VT, VT]) (B := [⟨7, none, none, 27, 4, Vq 6 (a), VT⟩, ⟨8, some 2, some 3, 27, 4, VexQ (fun x => Vq 6 x), VT⟩]) (SL' := [(0, VI l), (1, VI m), (2, VI n), (6, Vb (false))]) st2 ⟨ks, ?s1, ks, ks, trivial⟩ ?_
  case s1 =>
    refine kc fun _ ac Wd h hd => ?_
    obtain ⟨v0, hv0, hV0⟩ := h.dp hd 12
    exact ⟨#[v0, .int .i64 (0)], by simp [hv0, eval_const], cR4Number (show VI m v0 Wd from hV0) (show Vi (0) (.int .i64 (0)) Wd from rfl) (by omega) (by omega)⟩
  intro a3 w3 st3
  clear st2
  replace st3 : St w.heap.size w 128 [⟨7, none, none, 27, 4, Vq 6 (a), VT⟩, ⟨8, none, none, 27, 4, VexQ (fun x => Vq 6 x), VT⟩] [(0, VI l), (1, VI m), (2, VI n), (6, Vb (false))] a3 w3 := st3
  obtain ⟨b, st3⟩ := St.exQ (L1 := [⟨7, none, none, 27, 4, Vq 6 (a), VT⟩]) (L2 := []) st3
  replace st3 : St w.heap.size w 128 [⟨7, none, none, 27, 4, Vq 6 (a), VT⟩, ⟨8, none, none, 27, 4, Vq 6 (b), VT⟩] [(0, VI l), (1, VI m), (2, VI n), (6, Vb (false))] a3 w3 := st3
  repeat first | refine wp_seq ?_ | refine wp_block ?_ | refine wp_skip ?_ | refine wp_exit ?_
  refine rg (BT := [(27, 4, 0)]) (Vl := [VI n, VexQ (fun x => Vq 6 x), VT, VT]) (B := [⟨7, none, none, 27, 4, Vq 6 (a), VT⟩, ⟨8, none, none, 27, 4, Vq 6 (b), VT⟩, ⟨9, some 2, some 3, 27, 4, VexQ (fun x => Vq 6 x), VT⟩]) (SL' := [(0, VI l), (1, VI m), (2, VI n), (6, Vb (false))]) st3 ⟨ks, ?s1, ks, ks, trivial⟩ ?_
  case s1 =>
    refine kc fun _ ac Wd h hd => ?_
    obtain ⟨v0, hv0, hV0⟩ := h.dp hd 14
    exact ⟨#[v0, .int .i64 (0)], by simp [hv0, eval_const], cR4Number (show VI n v0 Wd from hV0) (show Vi (0) (.int .i64 (0)) Wd from rfl) (by omega) (by omega)⟩
  intro a4 w4 st4
  clear st3
  replace st4 : St w.heap.size w 128 [⟨7, none, none, 27, 4, Vq 6 (a), VT⟩, ⟨8, none, none, 27, 4, Vq 6 (b), VT⟩, ⟨9, none, none, 27, 4, VexQ (fun x => Vq 6 x), VT⟩] [(0, VI l), (1, VI m), (2, VI n), (6, Vb (false))] a4 w4 := st4
  obtain ⟨c, st4⟩ := St.exQ (L1 := [⟨7, none, none, 27, 4, Vq 6 (a), VT⟩, ⟨8, none, none, 27, 4, Vq 6 (b), VT⟩]) (L2 := []) st4
  replace st4 : St w.heap.size w 128 [⟨7, none, none, 27, 4, Vq 6 (a), VT⟩, ⟨8, none, none, 27, 4, Vq 6 (b), VT⟩, ⟨9, none, none, 27, 4, Vq 6 (c), VT⟩] [(0, VI l), (1, VI m), (2, VI n), (6, Vb (false))] a4 w4 := st4
  repeat first | refine wp_seq ?_ | refine wp_block ?_ | refine wp_skip ?_ | refine wp_exit ?_
  refine rg (BT := [(27, 4, 0)]) (Vl := [Vq 6 (a), Vq 6 (b), Vq (6 + 6 + 1) ((a) + (b)), Vq 6 (b), Vq 6 (a), Vq (6 + 6 + 1) ((b) + (a)), Vb (true), Vb (false), Vb (false), Vq 6 (a), Vq 6 (b), Vq (6 + 6) ((a) * (b)), Vq 6 (b), Vq 6 (a), Vq (6 + 6) ((b) * (a)), Vb (true), Vb (false), Vb (false), Vb (false), Vq 6 (a), Vq 6 (b), Vq (6 + 6 + 1) ((a) + (b)), Vq 6 (c), Vq ((6 + 6 + 1) + 6 + 1) (((a) + (b)) + (c)), Vq 6 (a), Vq 6 (b), Vq 6 (c), Vq (6 + 6 + 1) ((b) + (c)), Vq (6 + (6 + 6 + 1) + 1) ((a) + ((b) + (c))), Vb (true), Vb (false), Vb (false), Vb (false), Vq 6 (a), Vq 6 (b), Vq (6 + 6) ((a) * (b)), Vq 6 (c), Vq ((6 + 6) + 6) (((a) * (b)) * (c)), Vq 6 (a), Vq 6 (b), Vq 6 (c), Vq (6 + 6) ((b) * (c)), Vq (6 + (6 + 6)) ((a) * ((b) * (c))), Vb (true), Vb (false), Vb (false)]) (B := [⟨7, none, none, 27, 4, Vq 6 (a), VT⟩, ⟨8, none, none, 27, 4, Vq 6 (b), VT⟩, ⟨9, none, none, 27, 4, Vq 6 (c), VT⟩]) (SL' := [(0, VI l), (1, VI m), (2, VI n), (6, Vb (false)), (61, Vb (false))]) st4 ⟨ks, ks, ?s2, ks, ks, ?s5, ?s6, ks, ks, ks, ks, ?s11, ks, ks, ?s14, ?s15, ks, ks, ks, ks, ks, ?s21, ks, ?s23, ks, ks, ks, ?s27, ?s28, ?s29, ks, ks, ks, ks, ks, ?s35, ks, ?s37, ks, ks, ks, ?s41, ?s42, ?s43, ks, ks, trivial⟩ ?_
  case s2 =>
    refine kc fun _ ac Wd h hd => ?_
    obtain ⟨v0, hv0, hV0⟩ := h.dp hd 16
    obtain ⟨v1, hv1, hV1⟩ := h.dp hd 17
    exact ⟨#[v0, v1], by simp [hv0, hv1], cQAdd (Na := 6) (Nb := 6) (show Vq 6 (a) v0 Wd from hV0) (show Vq 6 (b) v1 Wd from hV1) (by omega) (by omega) (by omega) (by omega)⟩
  case s5 =>
    refine kc fun _ ac Wd h hd => ?_
    obtain ⟨v0, hv0, hV0⟩ := h.dp hd 19
    obtain ⟨v1, hv1, hV1⟩ := h.dp hd 20
    exact ⟨#[v0, v1], by simp [hv0, hv1], cQAdd (Na := 6) (Nb := 6) (show Vq 6 (b) v0 Wd from hV0) (show Vq 6 (a) v1 Wd from hV1) (by omega) (by omega) (by omega) (by omega)⟩
  case s6 =>
    refine kc fun _ ac Wd h hd => ?_
    obtain ⟨v0, hv0, hV0⟩ := h.dp hd 18
    obtain ⟨v1, hv1, hV1⟩ := h.dp hd 21
    exact ⟨#[v0, v1], by simp [hv0, hv1], (cL4Same (show Vq (6 + 6 + 1) ((a) + (b)) v0 Wd from hV0) (show Vq (6 + 6 + 1) ((b) + (a)) v1 Wd from hV1) (by omega)).mono fun e w h => h.le fun v w hv => hv.trans (congrArg Value.bool (decide_eq_true (by first | rfl | grind)))⟩
  case s11 =>
    refine kc fun _ ac Wd h hd => ?_
    obtain ⟨v0, hv0, hV0⟩ := h.dp hd 25
    obtain ⟨v1, hv1, hV1⟩ := h.dp hd 26
    exact ⟨#[v0, v1], by simp [hv0, hv1], cQMul (Na := 6) (Nb := 6) (show Vq 6 (a) v0 Wd from hV0) (show Vq 6 (b) v1 Wd from hV1) (by omega) (by omega) (by omega) (by omega)⟩
  case s14 =>
    refine kc fun _ ac Wd h hd => ?_
    obtain ⟨v0, hv0, hV0⟩ := h.dp hd 28
    obtain ⟨v1, hv1, hV1⟩ := h.dp hd 29
    exact ⟨#[v0, v1], by simp [hv0, hv1], cQMul (Na := 6) (Nb := 6) (show Vq 6 (b) v0 Wd from hV0) (show Vq 6 (a) v1 Wd from hV1) (by omega) (by omega) (by omega) (by omega)⟩
  case s15 =>
    refine kc fun _ ac Wd h hd => ?_
    obtain ⟨v0, hv0, hV0⟩ := h.dp hd 27
    obtain ⟨v1, hv1, hV1⟩ := h.dp hd 30
    exact ⟨#[v0, v1], by simp [hv0, hv1], (cL4Same (show Vq (6 + 6) ((a) * (b)) v0 Wd from hV0) (show Vq (6 + 6) ((b) * (a)) v1 Wd from hV1) (by omega)).mono fun e w h => h.le fun v w hv => hv.trans (congrArg Value.bool (decide_eq_true (by first | rfl | grind)))⟩
  case s21 =>
    refine kc fun _ ac Wd h hd => ?_
    obtain ⟨v0, hv0, hV0⟩ := h.dp hd 35
    obtain ⟨v1, hv1, hV1⟩ := h.dp hd 36
    exact ⟨#[v0, v1], by simp [hv0, hv1], cQAdd (Na := 6) (Nb := 6) (show Vq 6 (a) v0 Wd from hV0) (show Vq 6 (b) v1 Wd from hV1) (by omega) (by omega) (by omega) (by omega)⟩
  case s23 =>
    refine kc fun _ ac Wd h hd => ?_
    obtain ⟨v0, hv0, hV0⟩ := h.dp hd 37
    obtain ⟨v1, hv1, hV1⟩ := h.dp hd 38
    exact ⟨#[v0, v1], by simp [hv0, hv1], cQAdd (Na := (6 + 6 + 1)) (Nb := 6) (show Vq (6 + 6 + 1) ((a) + (b)) v0 Wd from hV0) (show Vq 6 (c) v1 Wd from hV1) (by omega) (by omega) (by omega) (by omega)⟩
  case s27 =>
    refine kc fun _ ac Wd h hd => ?_
    obtain ⟨v0, hv0, hV0⟩ := h.dp hd 41
    obtain ⟨v1, hv1, hV1⟩ := h.dp hd 42
    exact ⟨#[v0, v1], by simp [hv0, hv1], cQAdd (Na := 6) (Nb := 6) (show Vq 6 (b) v0 Wd from hV0) (show Vq 6 (c) v1 Wd from hV1) (by omega) (by omega) (by omega) (by omega)⟩
  case s28 =>
    refine kc fun _ ac Wd h hd => ?_
    obtain ⟨v0, hv0, hV0⟩ := h.dp hd 40
    obtain ⟨v1, hv1, hV1⟩ := h.dp hd 43
    exact ⟨#[v0, v1], by simp [hv0, hv1], cQAdd (Na := 6) (Nb := (6 + 6 + 1)) (show Vq 6 (a) v0 Wd from hV0) (show Vq (6 + 6 + 1) ((b) + (c)) v1 Wd from hV1) (by omega) (by omega) (by omega) (by omega)⟩
  case s29 =>
    refine kc fun _ ac Wd h hd => ?_
    obtain ⟨v0, hv0, hV0⟩ := h.dp hd 39
    obtain ⟨v1, hv1, hV1⟩ := h.dp hd 44
    exact ⟨#[v0, v1], by simp [hv0, hv1], (cL4Same (Vq_le (M := (max ((6 + 6 + 1) + 6 + 1) (6 + (6 + 6 + 1) + 1))) (show Vq ((6 + 6 + 1) + 6 + 1) (((a) + (b)) + (c)) v0 Wd from hV0) (by omega)) (Vq_le (M := (max ((6 + 6 + 1) + 6 + 1) (6 + (6 + 6 + 1) + 1))) (show Vq (6 + (6 + 6 + 1) + 1) ((a) + ((b) + (c))) v1 Wd from hV1) (by omega)) (by omega)).mono fun e w h => h.le fun v w hv => hv.trans (congrArg Value.bool (decide_eq_true (by first | rfl | grind)))⟩
  case s35 =>
    refine kc fun _ ac Wd h hd => ?_
    obtain ⟨v0, hv0, hV0⟩ := h.dp hd 49
    obtain ⟨v1, hv1, hV1⟩ := h.dp hd 50
    exact ⟨#[v0, v1], by simp [hv0, hv1], cQMul (Na := 6) (Nb := 6) (show Vq 6 (a) v0 Wd from hV0) (show Vq 6 (b) v1 Wd from hV1) (by omega) (by omega) (by omega) (by omega)⟩
  case s37 =>
    refine kc fun _ ac Wd h hd => ?_
    obtain ⟨v0, hv0, hV0⟩ := h.dp hd 51
    obtain ⟨v1, hv1, hV1⟩ := h.dp hd 52
    exact ⟨#[v0, v1], by simp [hv0, hv1], cQMul (Na := (6 + 6)) (Nb := 6) (show Vq (6 + 6) ((a) * (b)) v0 Wd from hV0) (show Vq 6 (c) v1 Wd from hV1) (by omega) (by omega) (by omega) (by omega)⟩
  case s41 =>
    refine kc fun _ ac Wd h hd => ?_
    obtain ⟨v0, hv0, hV0⟩ := h.dp hd 55
    obtain ⟨v1, hv1, hV1⟩ := h.dp hd 56
    exact ⟨#[v0, v1], by simp [hv0, hv1], cQMul (Na := 6) (Nb := 6) (show Vq 6 (b) v0 Wd from hV0) (show Vq 6 (c) v1 Wd from hV1) (by omega) (by omega) (by omega) (by omega)⟩
  case s42 =>
    refine kc fun _ ac Wd h hd => ?_
    obtain ⟨v0, hv0, hV0⟩ := h.dp hd 54
    obtain ⟨v1, hv1, hV1⟩ := h.dp hd 57
    exact ⟨#[v0, v1], by simp [hv0, hv1], cQMul (Na := 6) (Nb := (6 + 6)) (show Vq 6 (a) v0 Wd from hV0) (show Vq (6 + 6) ((b) * (c)) v1 Wd from hV1) (by omega) (by omega) (by omega) (by omega)⟩
  case s43 =>
    refine kc fun _ ac Wd h hd => ?_
    obtain ⟨v0, hv0, hV0⟩ := h.dp hd 53
    obtain ⟨v1, hv1, hV1⟩ := h.dp hd 58
    exact ⟨#[v0, v1], by simp [hv0, hv1], (cL4Same (Vq_le (M := (max ((6 + 6) + 6) (6 + (6 + 6)))) (show Vq ((6 + 6) + 6) (((a) * (b)) * (c)) v0 Wd from hV0) (by omega)) (Vq_le (M := (max ((6 + 6) + 6) (6 + (6 + 6)))) (show Vq (6 + (6 + 6)) ((a) * ((b) * (c))) v1 Wd from hV1) (by omega)) (by omega)).mono fun e w h => h.le fun v w hv => hv.trans (congrArg Value.bool (decide_eq_true (by first | rfl | grind)))⟩
  intro a5 w5 st5
  clear st4
  repeat first | refine wp_seq ?_ | refine wp_block ?_ | refine wp_skip ?_ | refine wp_exit ?_
  obtain ⟨vc, hc1, hc2⟩ := st5.slot (61, Vb (false)) (.tail _ (.tail _ (.tail _ (.tail _ (.head _)))))
  refine wp_cond_false (hc1.trans hc2) ?_
  clear hc1 hc2
  repeat first | refine wp_seq ?_ | refine wp_block ?_ | refine wp_skip ?_ | refine wp_exit ?_
  refine rg (BT := [(27, 4, 0)]) (Vl := [Vq 6 (a), Vq 6 (b), Vq 6 (c), Vq (6 + 6 + 1) ((b) + (c)), Vq (6 + (6 + 6 + 1)) ((a) * ((b) + (c))), Vq 6 (a), Vq 6 (b), Vq (6 + 6) ((a) * (b)), Vq 6 (a), Vq 6 (c), Vq (6 + 6) ((a) * (c)), Vq ((6 + 6) + (6 + 6) + 1) (((a) * (b)) + ((a) * (c))), Vb (true), Vb (false), Vb (false), Vq 6 (a), Vq 6 (b), Vq (6 + 6 + 1) ((a) + (b)), Vq 6 (b), Vq ((6 + 6 + 1) + 6 + 1) (((a) + (b)) - (b)), Vq 6 (a), Vb (true), Vb (false), Vb (false)]) (B := [⟨7, none, none, 27, 4, Vq 6 (a), VT⟩, ⟨8, none, none, 27, 4, Vq 6 (b), VT⟩, ⟨9, none, none, 27, 4, Vq 6 (c), VT⟩]) (SL' := [(0, VI l), (1, VI m), (2, VI n), (6, Vb (false)), (61, Vb (false)), (85, Vb (false))]) st5 ⟨ks, ks, ks, ?s3, ?s4, ks, ks, ?s7, ks, ks, ?s10, ?s11, ?s12, ks, ks, ks, ks, ?s17, ks, ?s19, ks, ?s21, ks, ks, trivial⟩ ?_
  case s3 =>
    refine kc fun _ ac Wd h hd => ?_
    obtain ⟨v0, hv0, hV0⟩ := h.dp hd 63
    obtain ⟨v1, hv1, hV1⟩ := h.dp hd 64
    exact ⟨#[v0, v1], by simp [hv0, hv1], cQAdd (Na := 6) (Nb := 6) (show Vq 6 (b) v0 Wd from hV0) (show Vq 6 (c) v1 Wd from hV1) (by omega) (by omega) (by omega) (by omega)⟩
  case s4 =>
    refine kc fun _ ac Wd h hd => ?_
    obtain ⟨v0, hv0, hV0⟩ := h.dp hd 62
    obtain ⟨v1, hv1, hV1⟩ := h.dp hd 65
    exact ⟨#[v0, v1], by simp [hv0, hv1], cQMul (Na := 6) (Nb := (6 + 6 + 1)) (show Vq 6 (a) v0 Wd from hV0) (show Vq (6 + 6 + 1) ((b) + (c)) v1 Wd from hV1) (by omega) (by omega) (by omega) (by omega)⟩
  case s7 =>
    refine kc fun _ ac Wd h hd => ?_
    obtain ⟨v0, hv0, hV0⟩ := h.dp hd 67
    obtain ⟨v1, hv1, hV1⟩ := h.dp hd 68
    exact ⟨#[v0, v1], by simp [hv0, hv1], cQMul (Na := 6) (Nb := 6) (show Vq 6 (a) v0 Wd from hV0) (show Vq 6 (b) v1 Wd from hV1) (by omega) (by omega) (by omega) (by omega)⟩
  case s10 =>
    refine kc fun _ ac Wd h hd => ?_
    obtain ⟨v0, hv0, hV0⟩ := h.dp hd 70
    obtain ⟨v1, hv1, hV1⟩ := h.dp hd 71
    exact ⟨#[v0, v1], by simp [hv0, hv1], cQMul (Na := 6) (Nb := 6) (show Vq 6 (a) v0 Wd from hV0) (show Vq 6 (c) v1 Wd from hV1) (by omega) (by omega) (by omega) (by omega)⟩
  case s11 =>
    refine kc fun _ ac Wd h hd => ?_
    obtain ⟨v0, hv0, hV0⟩ := h.dp hd 69
    obtain ⟨v1, hv1, hV1⟩ := h.dp hd 72
    exact ⟨#[v0, v1], by simp [hv0, hv1], cQAdd (Na := (6 + 6)) (Nb := (6 + 6)) (show Vq (6 + 6) ((a) * (b)) v0 Wd from hV0) (show Vq (6 + 6) ((a) * (c)) v1 Wd from hV1) (by omega) (by omega) (by omega) (by omega)⟩
  case s12 =>
    refine kc fun _ ac Wd h hd => ?_
    obtain ⟨v0, hv0, hV0⟩ := h.dp hd 66
    obtain ⟨v1, hv1, hV1⟩ := h.dp hd 73
    exact ⟨#[v0, v1], by simp [hv0, hv1], (cL4Same (Vq_le (M := (max (6 + (6 + 6 + 1)) ((6 + 6) + (6 + 6) + 1))) (show Vq (6 + (6 + 6 + 1)) ((a) * ((b) + (c))) v0 Wd from hV0) (by omega)) (Vq_le (M := (max (6 + (6 + 6 + 1)) ((6 + 6) + (6 + 6) + 1))) (show Vq ((6 + 6) + (6 + 6) + 1) (((a) * (b)) + ((a) * (c))) v1 Wd from hV1) (by omega)) (by omega)).mono fun e w h => h.le fun v w hv => hv.trans (congrArg Value.bool (decide_eq_true (by first | rfl | grind)))⟩
  case s17 =>
    refine kc fun _ ac Wd h hd => ?_
    obtain ⟨v0, hv0, hV0⟩ := h.dp hd 77
    obtain ⟨v1, hv1, hV1⟩ := h.dp hd 78
    exact ⟨#[v0, v1], by simp [hv0, hv1], cQAdd (Na := 6) (Nb := 6) (show Vq 6 (a) v0 Wd from hV0) (show Vq 6 (b) v1 Wd from hV1) (by omega) (by omega) (by omega) (by omega)⟩
  case s19 =>
    refine kc fun _ ac Wd h hd => ?_
    obtain ⟨v0, hv0, hV0⟩ := h.dp hd 79
    obtain ⟨v1, hv1, hV1⟩ := h.dp hd 80
    exact ⟨#[v0, v1], by simp [hv0, hv1], cQSub (Na := (6 + 6 + 1)) (Nb := 6) (show Vq (6 + 6 + 1) ((a) + (b)) v0 Wd from hV0) (show Vq 6 (b) v1 Wd from hV1) (by omega) (by omega) (by omega) (by omega)⟩
  case s21 =>
    refine kc fun _ ac Wd h hd => ?_
    obtain ⟨v0, hv0, hV0⟩ := h.dp hd 81
    obtain ⟨v1, hv1, hV1⟩ := h.dp hd 82
    exact ⟨#[v0, v1], by simp [hv0, hv1], (cL4Same (Vq_le (M := (max ((6 + 6 + 1) + 6 + 1) 6)) (show Vq ((6 + 6 + 1) + 6 + 1) (((a) + (b)) - (b)) v0 Wd from hV0) (by omega)) (Vq_le (M := (max ((6 + 6 + 1) + 6 + 1) 6)) (show Vq 6 (a) v1 Wd from hV1) (by omega)) (by omega)).mono fun e w h => h.le fun v w hv => hv.trans (congrArg Value.bool (decide_eq_true (by first | rfl | grind)))⟩
  intro a6 w6 st6
  clear st5
  repeat first | refine wp_seq ?_ | refine wp_block ?_ | refine wp_skip ?_ | refine wp_exit ?_
  obtain ⟨vc, hc1, hc2⟩ := st6.slot (85, Vb (false)) (.tail _ (.tail _ (.tail _ (.tail _ (.tail _ (.head _))))))
  refine wp_cond_false (hc1.trans hc2) ?_
  clear hc1 hc2
  by_cases hb : b = 0
  ·
    repeat first | refine wp_seq ?_ | refine wp_block ?_ | refine wp_skip ?_ | refine wp_exit ?_
    refine rg (BT := [(27, 4, 0)]) (Vl := [Vq 6 (b), Vi (cmpI (b).num 0), Vb (true)]) (B := [⟨7, none, none, 27, 4, Vq 6 (a), VT⟩, ⟨8, none, none, 27, 4, Vq 6 (b), VT⟩, ⟨9, none, none, 27, 4, Vq 6 (c), VT⟩]) (SL' := [(0, VI l), (1, VI m), (2, VI n), (6, Vb (false)), (61, Vb (false)), (85, Vb (false)), (88, Vb (true))]) st6 ⟨ks, ?s1, ?s2, trivial⟩ ?_
    case s1 => refine kc fun _ ac Wd h hd => ?_; obtain ⟨v0, hv0, hV0⟩ := h.dp hd 86; exact ⟨#[v0], by simp [hv0], cQSign (show Vq 6 (b) v0 Wd from hV0) (by omega)⟩
    case s2 => refine kr fun _ ac Wd h hd => ?_; obtain ⟨v0, hv0, hV0⟩ := h.dp hd 87; have hV0' : v0 = .int .i64 (cmpI (b).num 0) := hV0; exact ⟨_, run_eqi rfl (hv0.trans hV0') rfl, congrArg Value.bool (by rw [hb]; rfl)⟩
    intro a7 w7 st7
    clear st6
    repeat first | refine wp_seq ?_ | refine wp_block ?_ | refine wp_skip ?_ | refine wp_exit ?_
    obtain ⟨vc, hc1, hc2⟩ := st7.slot (88, Vb (true)) (.tail _ (.tail _ (.tail _ (.tail _ (.tail _ (.tail _ (.head _)))))))
    refine wp_cond_true (hc1.trans hc2) ?_
    clear hc1 hc2
    repeat first | refine wp_seq ?_ | refine wp_block ?_ | refine wp_skip ?_ | refine wp_exit ?_
    refine rg (BT := [(27, 4, 0)]) (Vl := [Vq 6 (a), Vq 6 (b), Vq (6 + 6) ((a) / (b)), Vq 1 (0), Vb (true), Vb (true), Vb (true), Vb (true), Vb (true)]) (B := [⟨7, none, none, 27, 4, Vq 6 (a), VT⟩, ⟨8, none, none, 27, 4, Vq 6 (b), VT⟩, ⟨9, none, none, 27, 4, Vq 6 (c), VT⟩]) (SL' := [(0, VI l), (1, VI m), (2, VI n), (61, Vb (false)), (85, Vb (false)), (88, Vb (true)), (6, Vb (true))]) st7 ⟨ks, ks, ?s2, ?s3, ?s4, ks, ?s6, ks, ks, trivial⟩ ?_
    case s2 =>
      refine kc fun _ ac Wd h hd => ?_
      obtain ⟨v0, hv0, hV0⟩ := h.dp hd 89
      obtain ⟨v1, hv1, hV1⟩ := h.dp hd 90
      exact ⟨#[v0, v1], by simp [hv0, hv1], cQDiv (Na := 6) (Nb := 6) (show Vq 6 (a) v0 Wd from hV0) (show Vq 6 (b) v1 Wd from hV1) (by omega) (by omega) (by omega) (by omega)⟩
    case s3 => exact kr fun _ ac Wd h hd => build_Rat0 rfl
    case s4 =>
      refine kc fun _ ac Wd h hd => ?_
      obtain ⟨v0, hv0, hV0⟩ := h.dp hd 91
      obtain ⟨v1, hv1, hV1⟩ := h.dp hd 92
      exact ⟨#[v0, v1], by simp [hv0, hv1], (cL4Same (Vq_le (M := (max (6 + 6) 1)) (show Vq (6 + 6) ((a) / (b)) v0 Wd from hV0) (by omega)) (Vq_le (M := (max (6 + 6) 1)) (show Vq 1 (0) v1 Wd from hV1) (by omega)) (by omega)).mono fun e w h => h.le fun v w hv => hv.trans (congrArg Value.bool (decide_eq_true (by rw [hb, Rat.div_def, Rat.inv_zero, Rat.mul_zero])))⟩
    case s6 => refine kc fun _ ac Wd h hd => ?_; exact ⟨#[], by simp [], cL4Lives (hT.later h.k.below)⟩
    intro a8 w8 st8
    clear st7
    repeat first | refine wp_seq ?_ | refine wp_block ?_ | refine wp_skip ?_ | refine wp_exit ?_
    obtain ⟨vr, r1, r4⟩ := st8.slot (6, Vb (true)) (.tail _ (.tail _ (.tail _ (.tail _ (.tail _ (.tail _ (.head _)))))))
    exact wp_ret (bodyPost_ret (results_tmp rfl _ _ _) st8.defers ⟨_, congrArg Ending.returned (show _ = vr from r1), r4, st8.k.below⟩)
  ·
    repeat first | refine wp_seq ?_ | refine wp_block ?_ | refine wp_skip ?_ | refine wp_exit ?_
    refine rg (BT := [(27, 4, 0)]) (Vl := [Vq 6 (b), Vi (cmpI (b).num 0), Vb (false)]) (B := [⟨7, none, none, 27, 4, Vq 6 (a), VT⟩, ⟨8, none, none, 27, 4, Vq 6 (b), VT⟩, ⟨9, none, none, 27, 4, Vq 6 (c), VT⟩]) (SL' := [(0, VI l), (1, VI m), (2, VI n), (6, Vb (false)), (61, Vb (false)), (85, Vb (false)), (88, Vb (false))]) st6 ⟨ks, ?s1, ?s2, trivial⟩ ?_
    case s1 => refine kc fun _ ac Wd h hd => ?_; obtain ⟨v0, hv0, hV0⟩ := h.dp hd 86; exact ⟨#[v0], by simp [hv0], cQSign (show Vq 6 (b) v0 Wd from hV0) (by omega)⟩
    case s2 =>
      refine kr fun _ ac Wd h hd => ?_
      obtain ⟨v0, hv0, hV0⟩ := h.dp hd 87
      have hV0' : v0 = .int .i64 (cmpI (b).num 0) := hV0
      exact ⟨_, run_eqi rfl (hv0.trans hV0') rfl, congrArg Value.bool (by rw [cmp0]; exact decide_eq_false (fun e => hb (Rat.num_eq_zero.1 e)))⟩
    intro a7 w7 st7
    clear st6
    repeat first | refine wp_seq ?_ | refine wp_block ?_ | refine wp_skip ?_ | refine wp_exit ?_
    obtain ⟨vc, hc1, hc2⟩ := st7.slot (88, Vb (false)) (.tail _ (.tail _ (.tail _ (.tail _ (.tail _ (.tail _ (.head _)))))))
    refine wp_cond_false (hc1.trans hc2) ?_
    clear hc1 hc2
    repeat first | refine wp_seq ?_ | refine wp_block ?_ | refine wp_skip ?_ | refine wp_exit ?_
    refine rg (BT := [(27, 4, 0)]) (Vl := [Vq 6 (a), Vq 6 (b), Vq (6 + 6) ((a) * (b)), Vq 6 (b), Vq ((6 + 6) + 6) (((a) * (b)) / (b)), Vq 6 (a), Vb (true), Vb (true), Vq 6 (a), Vq 6 (b), Vq (6 + 6) ((a) / (b)), Vq 6 (b), Vq ((6 + 6) + 6) (((a) / (b)) * (b)), Vq 6 (a), Vb (true), Vb (true), Vb (true), Vq 6 (a), Vq 6 (b), Vq (6 + 6) ((a) / (b)), Vb (true), Vb (true), Vb (true), Vq 6 (a), Vq 6 (b), Vq (6 + 6 + 1) ((a) + (b)), Vb (true), Vb (true), Vb (true), Vb (true), Vb (true), Vb (true)]) (B := [⟨7, none, none, 27, 4, Vq 6 (a), VT⟩, ⟨8, none, none, 27, 4, Vq 6 (b), VT⟩, ⟨9, none, none, 27, 4, Vq 6 (c), VT⟩]) (SL' := [(0, VI l), (1, VI m), (2, VI n), (61, Vb (false)), (85, Vb (false)), (88, Vb (false)), (6, Vb (true))]) st7 ⟨ks, ks, ?s2, ks, ?s4, ks, ?s6, ks, ks, ks, ?s10, ks, ?s12, ks, ?s14, ks, ks, ks, ks, ?s19, ?s20, ks, ks, ks, ks, ?s25, ?s26, ks, ks, ?s29, ks, ks, trivial⟩ ?_
    case s2 =>
      refine kc fun _ ac Wd h hd => ?_
      obtain ⟨v0, hv0, hV0⟩ := h.dp hd 97
      obtain ⟨v1, hv1, hV1⟩ := h.dp hd 98
      exact ⟨#[v0, v1], by simp [hv0, hv1], cQMul (Na := 6) (Nb := 6) (show Vq 6 (a) v0 Wd from hV0) (show Vq 6 (b) v1 Wd from hV1) (by omega) (by omega) (by omega) (by omega)⟩
    case s4 =>
      refine kc fun _ ac Wd h hd => ?_
      obtain ⟨v0, hv0, hV0⟩ := h.dp hd 99
      obtain ⟨v1, hv1, hV1⟩ := h.dp hd 100
      exact ⟨#[v0, v1], by simp [hv0, hv1], cQDiv (Na := (6 + 6)) (Nb := 6) (show Vq (6 + 6) ((a) * (b)) v0 Wd from hV0) (show Vq 6 (b) v1 Wd from hV1) (by omega) (by omega) (by omega) (by omega)⟩
    case s6 =>
      refine kc fun _ ac Wd h hd => ?_
      obtain ⟨v0, hv0, hV0⟩ := h.dp hd 101
      obtain ⟨v1, hv1, hV1⟩ := h.dp hd 102
      exact ⟨#[v0, v1], by simp [hv0, hv1], (cL4Same (Vq_le (M := (max ((6 + 6) + 6) 6)) (show Vq ((6 + 6) + 6) (((a) * (b)) / (b)) v0 Wd from hV0) (by omega)) (Vq_le (M := (max ((6 + 6) + 6) 6)) (show Vq 6 (a) v1 Wd from hV1) (by omega)) (by omega)).mono fun e w h => h.le fun v w hv => hv.trans (congrArg Value.bool (decide_eq_true (by first | rfl | grind)))⟩
    case s10 =>
      refine kc fun _ ac Wd h hd => ?_
      obtain ⟨v0, hv0, hV0⟩ := h.dp hd 105
      obtain ⟨v1, hv1, hV1⟩ := h.dp hd 106
      exact ⟨#[v0, v1], by simp [hv0, hv1], cQDiv (Na := 6) (Nb := 6) (show Vq 6 (a) v0 Wd from hV0) (show Vq 6 (b) v1 Wd from hV1) (by omega) (by omega) (by omega) (by omega)⟩
    case s12 =>
      refine kc fun _ ac Wd h hd => ?_
      obtain ⟨v0, hv0, hV0⟩ := h.dp hd 107
      obtain ⟨v1, hv1, hV1⟩ := h.dp hd 108
      exact ⟨#[v0, v1], by simp [hv0, hv1], cQMul (Na := (6 + 6)) (Nb := 6) (show Vq (6 + 6) ((a) / (b)) v0 Wd from hV0) (show Vq 6 (b) v1 Wd from hV1) (by omega) (by omega) (by omega) (by omega)⟩
    case s14 =>
      refine kc fun _ ac Wd h hd => ?_
      obtain ⟨v0, hv0, hV0⟩ := h.dp hd 109
      obtain ⟨v1, hv1, hV1⟩ := h.dp hd 110
      exact ⟨#[v0, v1], by simp [hv0, hv1], (cL4Same (Vq_le (M := (max ((6 + 6) + 6) 6)) (show Vq ((6 + 6) + 6) (((a) / (b)) * (b)) v0 Wd from hV0) (by omega)) (Vq_le (M := (max ((6 + 6) + 6) 6)) (show Vq 6 (a) v1 Wd from hV1) (by omega)) (by omega)).mono fun e w h => h.le fun v w hv => hv.trans (congrArg Value.bool (decide_eq_true (by first | rfl | grind)))⟩
    case s19 =>
      refine kc fun _ ac Wd h hd => ?_
      obtain ⟨v0, hv0, hV0⟩ := h.dp hd 114
      obtain ⟨v1, hv1, hV1⟩ := h.dp hd 115
      exact ⟨#[v0, v1], by simp [hv0, hv1], cQDiv (Na := 6) (Nb := 6) (show Vq 6 (a) v0 Wd from hV0) (show Vq 6 (b) v1 Wd from hV1) (by omega) (by omega) (by omega) (by omega)⟩
    case s20 => refine kc fun _ ac Wd h hd => ?_; obtain ⟨v0, hv0, hV0⟩ := h.dp hd 116; exact ⟨#[v0], by simp [hv0], cQValid (show Vq (6 + 6) ((a) / (b)) v0 Wd from hV0) (by omega)⟩
    case s25 =>
      refine kc fun _ ac Wd h hd => ?_
      obtain ⟨v0, hv0, hV0⟩ := h.dp hd 120
      obtain ⟨v1, hv1, hV1⟩ := h.dp hd 121
      exact ⟨#[v0, v1], by simp [hv0, hv1], cQAdd (Na := 6) (Nb := 6) (show Vq 6 (a) v0 Wd from hV0) (show Vq 6 (b) v1 Wd from hV1) (by omega) (by omega) (by omega) (by omega)⟩
    case s26 => refine kc fun _ ac Wd h hd => ?_; obtain ⟨v0, hv0, hV0⟩ := h.dp hd 122; exact ⟨#[v0], by simp [hv0], cQValid (show Vq (6 + 6 + 1) ((a) + (b)) v0 Wd from hV0) (by omega)⟩
    case s29 => refine kc fun _ ac Wd h hd => ?_; exact ⟨#[], by simp [], cL4Lives (hT.later h.k.below)⟩
    intro a8 w8 st8
    clear st7
    repeat first | refine wp_seq ?_ | refine wp_block ?_ | refine wp_skip ?_ | refine wp_exit ?_
    obtain ⟨vr, r1, r4⟩ := st8.slot (6, Vb (true)) (.tail _ (.tail _ (.tail _ (.tail _ (.tail _ (.tail _ (.head _)))))))
    exact wp_ret (bodyPost_ret (results_tmp rfl _ _ _) st8.defers ⟨_, congrArg Ending.returned (show _ = vr from r1), r4, st8.k.below⟩)
end Go.Proofs.YtleijkgdpmfabaaGreatDoor
