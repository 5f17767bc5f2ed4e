/- PlaneVectors: the walk. -/
import Derived.Test.YteaoaoknpihchaaGreatM35
import Derived.Test.YteaoaoknpihchaaGreatQV7b
set_option linter.unusedVariables false
namespace Go.Proofs.YteaoaoknpihchaaGreat
open Go.RowKit

set_option maxRecDepth 100000 in
set_option maxHeartbeats 1600000 in
theorem walkVectors0 {w : World} {l : List Int} {n m : Int} {v0 v1 v2 : Value} (h0 : VI l v0 w) (h1 : Vi (n) v1 w) (h2 : Vi (m) v2 w) (hn0 : -9223372036854775808 ≤ n) (hn1 : n ≤ 9223372036854775807) (hm0 : -9223372036854775808 ≤ m) (hm1 : m ≤ 9223372036854775807) : Calls Tryz.prog 3 #[v0, v1, v2] w (RV (Vb true) w) := by
  go_enter Tryz.func3, Tryz.ntmps3
  have st0 : St w.heap.size w 92 [] [(0, VI l), (1, Vi (n)), (2, Vi (m))] _ w := St.begin (a := ⟨#[v0, v1, v2, undef, undef, undef, undef, undef, undef, undef, undef, undef, undef, undef, undef, undef, undef, undef, undef, undef, undef, undef, undef, undef, undef, undef, undef, undef, undef, undef, undef, undef, undef, undef, undef, undef, undef, undef, undef, undef, undef, undef, undef, undef, undef, undef, undef, undef, undef, undef, undef, undef, undef, undef, undef, undef, undef, undef, undef, undef, undef, undef, undef, undef, undef, undef, undef, undef, undef, undef, undef, undef, undef, undef, undef, undef, undef, undef, undef, undef, undef, undef, undef, undef, undef, undef, undef, undef, undef, undef, undef, undef], []⟩) rfl rfl (List.forall_mem_cons.2 ⟨⟨_, rfl, h0⟩, (List.forall_mem_cons.2 ⟨⟨_, rfl, h1⟩, (List.forall_mem_cons.2 ⟨⟨_, rfl, h2⟩, (fun _ h => absurd h (by simp))⟩)⟩)⟩)
  generalize (⟨#[v0, v1, v2, undef, undef, undef, undef, undef, undef, undef, undef, undef, undef, undef, undef, undef, undef, undef, undef, undef, undef, undef, undef, undef, undef, undef, undef, undef, undef, undef, undef, undef, undef, undef, undef, undef, undef, undef, undef, undef, undef, undef, undef, undef, undef, undef, undef, undef, undef, undef, undef, undef, undef, undef, undef, undef, undef, undef, undef, undef, undef, undef, undef, undef, undef, undef, undef, undef, undef, undef, undef, undef, undef, undef, undef, undef, undef, undef, undef, undef, undef, undef, undef, undef, undef, undef, undef, undef, undef, undef, undef, undef], []⟩ : Act) = a0 at st0 ⊢
  have one1 : Rat.divInt 1 1 = 1 := by decide +kernel
  have onem : Rat.divInt (-1) 1 = -1 := by decide +kernel
  repeat first | refine wp_seq ?_ | refine wp_block ?_ | refine wp_skip ?_ | refine wp_exit ?_
  refine rg (BT := [(28, 8, 0), (26, 4, 0)]) (Vl := [Vb (false)]) (B := []) (SL' := [(0, VI l), (1, Vi (n)), (2, Vi (m)), (6, Vb (false))]) st0 ⟨ks, trivial⟩ ?_
  intro a1 w1 st1
  clear st0
  repeat first | refine wp_seq ?_ | refine wp_block ?_ | refine wp_skip ?_ | refine wp_exit ?_
  refine rg (BT := [(28, 8, 0), (26, 4, 0)]) (Vl := [VI l, Vv 3 (numQ (atv l (0) 100)) (numQ (atv l (0 + 1) 100)), VT, VT]) (B := [⟨7, some 2, some 3, 28, 8, Vv 3 (numQ (atv l (0) 100)) (numQ (atv l (0 + 1) 100)), VT⟩]) (SL' := [(0, VI l), (1, Vi (n)), (2, Vi (m)), (6, Vb (false))]) st1 ⟨ks, ?s1, ks, ks, trivial⟩ ?_
  case s1 =>
    refine kc fun _ ac Wd h hd => ?_
    obtain ⟨v0, hv0, hV0⟩ := h.dp hd 10
    exact ⟨#[v0, .int .i64 (0)], by simp [hv0, eval_const], cVecL (show VI l v0 Wd from hV0) (show Vi (0) (.int .i64 (0)) Wd from rfl) (by omega) (by omega)⟩
  intro a2 w2 st2
  clear st1
  generalize numQ (atv l (0) 100) = xa at st2 
  generalize numQ (atv l (0 + 1) 100) = ya at st2 
  repeat first | refine wp_seq ?_ | refine wp_block ?_ | refine wp_skip ?_ | refine wp_exit ?_
  refine rg (BT := [(28, 8, 0), (26, 4, 0)]) (Vl := [VI l, Vv 3 (numQ (atv l (2) 100)) (numQ (atv l (2 + 1) 100)), VT, VT]) (B := [⟨7, none, none, 28, 8, Vv 3 (xa) (ya), VT⟩, ⟨8, some 2, some 3, 28, 8, Vv 3 (numQ (atv l (2) 100)) (numQ (atv l (2 + 1) 100)), VT⟩]) (SL' := [(0, VI l), (1, Vi (n)), (2, Vi (m)), (6, Vb (false))]) st2 ⟨ks, ?s1, ks, ks, trivial⟩ ?_
  case s1 =>
    refine kc fun _ ac Wd h hd => ?_
    obtain ⟨v0, hv0, hV0⟩ := h.dp hd 12
    exact ⟨#[v0, .int .i64 (2)], by simp [hv0, eval_const], cVecL (show VI l v0 Wd from hV0) (show Vi (2) (.int .i64 (2)) Wd from rfl) (by omega) (by omega)⟩
  intro a3 w3 st3
  clear st2
  generalize numQ (atv l (2) 100) = xb at st3 
  generalize numQ (atv l (2 + 1) 100) = yb at st3 
  repeat first | refine wp_seq ?_ | refine wp_block ?_ | refine wp_skip ?_ | refine wp_exit ?_
  refine rg (BT := [(28, 8, 0), (26, 4, 0)]) (Vl := [Vi (n), Vq 3 (numQ (n)), VT, VT]) (B := [⟨7, none, none, 28, 8, Vv 3 (xa) (ya), VT⟩, ⟨8, none, none, 28, 8, Vv 3 (xb) (yb), VT⟩, ⟨9, some 2, some 3, 26, 4, Vq 3 (numQ (n)), VT⟩]) (SL' := [(0, VI l), (1, Vi (n)), (2, Vi (m)), (6, Vb (false))]) st3 ⟨ks, ?s1, ks, ks, trivial⟩ ?_
  case s1 => refine kc fun _ ac Wd h hd => ?_; obtain ⟨v0, hv0, hV0⟩ := h.dp hd 14; exact ⟨#[v0], by simp [hv0], cNum (show Vi (n) v0 Wd from hV0) (by omega) (by omega)⟩
  intro a4 w4 st4
  clear st3
  generalize numQ (n) = kk at st4 
  repeat first | refine wp_seq ?_ | refine wp_block ?_ | refine wp_skip ?_ | refine wp_exit ?_
  refine rg (BT := [(28, 8, 0), (26, 4, 0)]) (Vl := [Vv 3 (xa) (ya), Vv 3 (xb) (yb), Vv (3 + 3 + 1) ((xa) + (xb)) ((ya) + (yb)), Vv 3 (xa) (ya), Vv 3 (xb) (yb), Vv (3 + 3 + 1) ((xa) + (xb)) ((ya) + (yb)), Vb (true), Vb (false), Vb (false), Vv 3 (xa) (ya), Vv 3 (xb) (yb), Vv (3 + 3 + 1) ((xa) - (xb)) ((ya) - (yb)), Vv 3 (xa) (ya), Vv 3 (xb) (yb), Vv (3 + 3 + 1) ((xa) - (xb)) ((ya) - (yb)), Vb (true), Vb (false), Vb (false), Vb (false), Vv 3 (xa) (ya), Vq 3 (kk), Vv (3 + 3) ((xa) * (kk)) ((ya) * (kk)), Vv 3 (xa) (ya), Vq 3 (kk), Vv (3 + 3) ((xa) * (kk)) ((ya) * (kk)), Vb (true), Vb (false), Vb (false)]) (B := [⟨7, none, none, 28, 8, Vv 3 (xa) (ya), VT⟩, ⟨8, none, none, 28, 8, Vv 3 (xb) (yb), VT⟩, ⟨9, none, none, 26, 4, Vq 3 (kk), VT⟩]) (SL' := [(0, VI l), (1, Vi (n)), (2, Vi (m)), (6, Vb (false)), (43, Vb (false))]) st4 ⟨ks, ks, ?s2, ks, ks, ?s5, ?s6, ks, ks, ks, ks, ?s11, ks, ks, ?s14, ?s15, ks, ks, ks, ks, ks, ?s21, ks, ks, ?s24, ?s25, ks, ks, trivial⟩ ?_
  case s2 =>
    refine kc fun _ ac Wd h hd => ?_
    obtain ⟨v0, hv0, hV0⟩ := h.dp hd 16
    obtain ⟨v1, hv1, hV1⟩ := h.dp hd 17
    exact ⟨#[v0, v1], by simp [hv0, hv1], cVAdd (show Vv 3 (xa) (ya) v0 Wd from hV0) (show Vv 3 (xb) (yb) v1 Wd from hV1) (by omega) (by omega)⟩
  case s5 =>
    refine kc fun _ ac Wd h hd => ?_
    obtain ⟨v0, hv0, hV0⟩ := h.dp hd 19
    obtain ⟨v1, hv1, hV1⟩ := h.dp hd 20
    exact ⟨#[v0, v1], by simp [hv0, hv1], cR5Add (show Vv 3 (xa) (ya) v0 Wd from hV0) (show Vv 3 (xb) (yb) v1 Wd from hV1) (by omega) (by omega)⟩
  case s6 =>
    refine kc fun _ ac Wd h hd => ?_
    obtain ⟨v0, hv0, hV0⟩ := h.dp hd 18
    obtain ⟨v1, hv1, hV1⟩ := h.dp hd 21
    exact ⟨#[v0, v1], by simp [hv0, hv1], (cVSame (show Vv (3 + 3 + 1) ((xa) + (xb)) ((ya) + (yb)) v0 Wd from hV0) (show Vv (3 + 3 + 1) ((xa) + (xb)) ((ya) + (yb)) v1 Wd from hV1) (by omega) (by omega)).mono fun e w h => h.le fun v w hv => hv.trans (congrArg Value.bool (decide_eq_true (by first | (and_intros <;> grind) | grind)))⟩
  case s11 =>
    refine kc fun _ ac Wd h hd => ?_
    obtain ⟨v0, hv0, hV0⟩ := h.dp hd 25
    obtain ⟨v1, hv1, hV1⟩ := h.dp hd 26
    exact ⟨#[v0, v1], by simp [hv0, hv1], cVSub (show Vv 3 (xa) (ya) v0 Wd from hV0) (show Vv 3 (xb) (yb) v1 Wd from hV1) (by omega) (by omega)⟩
  case s14 =>
    refine kc fun _ ac Wd h hd => ?_
    obtain ⟨v0, hv0, hV0⟩ := h.dp hd 28
    obtain ⟨v1, hv1, hV1⟩ := h.dp hd 29
    exact ⟨#[v0, v1], by simp [hv0, hv1], cR5Sub (show Vv 3 (xa) (ya) v0 Wd from hV0) (show Vv 3 (xb) (yb) v1 Wd from hV1) (by omega) (by omega)⟩
  case s15 =>
    refine kc fun _ ac Wd h hd => ?_
    obtain ⟨v0, hv0, hV0⟩ := h.dp hd 27
    obtain ⟨v1, hv1, hV1⟩ := h.dp hd 30
    exact ⟨#[v0, v1], by simp [hv0, hv1], (cVSame (show Vv (3 + 3 + 1) ((xa) - (xb)) ((ya) - (yb)) v0 Wd from hV0) (show Vv (3 + 3 + 1) ((xa) - (xb)) ((ya) - (yb)) v1 Wd from hV1) (by omega) (by omega)).mono fun e w h => h.le fun v w hv => hv.trans (congrArg Value.bool (decide_eq_true (by first | (and_intros <;> grind) | grind)))⟩
  case s21 =>
    refine kc fun _ ac Wd h hd => ?_
    obtain ⟨v0, hv0, hV0⟩ := h.dp hd 35
    obtain ⟨v1, hv1, hV1⟩ := h.dp hd 36
    exact ⟨#[v0, v1], by simp [hv0, hv1], cVScale (show Vv 3 (xa) (ya) v0 Wd from hV0) (show Vq 3 (kk) v1 Wd from hV1) (by omega) (by omega)⟩
  case s24 =>
    refine kc fun _ ac Wd h hd => ?_
    obtain ⟨v0, hv0, hV0⟩ := h.dp hd 38
    obtain ⟨v1, hv1, hV1⟩ := h.dp hd 39
    exact ⟨#[v0, v1], by simp [hv0, hv1], cR5Scale (show Vv 3 (xa) (ya) v0 Wd from hV0) (show Vq 3 (kk) v1 Wd from hV1) (by omega) (by omega)⟩
  case s25 =>
    refine kc fun _ ac Wd h hd => ?_
    obtain ⟨v0, hv0, hV0⟩ := h.dp hd 37
    obtain ⟨v1, hv1, hV1⟩ := h.dp hd 40
    exact ⟨#[v0, v1], by simp [hv0, hv1], (cVSame (show Vv (3 + 3) ((xa) * (kk)) ((ya) * (kk)) v0 Wd from hV0) (show Vv (3 + 3) ((xa) * (kk)) ((ya) * (kk)) v1 Wd from hV1) (by omega) (by omega)).mono fun e w h => h.le fun v w hv => hv.trans (congrArg Value.bool (decide_eq_true (by first | (and_intros <;> grind) | grind)))⟩
  intro a5 w5 st5
  clear st4
  repeat first | refine wp_seq ?_ | refine wp_block ?_ | refine wp_skip ?_ | refine wp_exit ?_
  obtain ⟨vc, hc1, hc2⟩ := st5.slot (43, Vb (false)) (.tail _ (.tail _ (.tail _ (.tail _ (.head _)))))
  refine wp_cond_false (hc1.trans hc2) ?_
  clear hc1 hc2
  repeat first | refine wp_seq ?_ | refine wp_block ?_ | refine wp_skip ?_ | refine wp_exit ?_
  have : Sb [(28, 8, 0), (26, 4, 0)] (VQ2 3 (fun j => [xa, ya].getD j 0)) := ⟨Stab_VQ2 (by kernel_rfl)⟩
  have : Sb [(28, 8, 0), (26, 4, 0)] (VQ2 3 (fun j => [xb, yb].getD j 0)) := ⟨Stab_VQ2 (by kernel_rfl)⟩
  refine rg (BT := [(28, 8, 0), (26, 4, 0)]) (Vl := [Vv 3 (xa) (ya), Vv 3 (xb) (yb), Vq (4 * 3 + 1) ((xa) * (xb) + (ya) * (yb)), Vv 3 (xa) (ya), Vv 3 (xb) (yb), Vq (4 * 3 + 1) ((xa) * (xb) + (ya) * (yb)), Vb (true), Vb (false), Vb (false), Vv 3 (xa) (ya), Vv 3 (xb) (yb), Vq (4 * 3 + 1) ((xa) * (yb) + -(ya) * (xb)), Vv 3 (xa) (ya), Vv 3 (xb) (yb), Vq (4 * 3 + 1) ((xa) * (yb) - (ya) * (xb)), Vb (true), Vb (false), Vb (false), Vb (false), Vv 3 (xa) (ya), Vv 3 (xb) (yb), Vq (4 * 3 + 1) ((xa) * (xb) + (ya) * (yb)), Vpt a5 7 0, Vq 3 (xa), Vpt a5 7 4, Vq 3 (ya), VQ2 3 (fun j => [xa, ya].getD j 0), Vpt a5 8 0, Vq 3 (xb), Vpt a5 8 4, Vq 3 (yb), VQ2 3 (fun j => [xb, yb].getD j 0), Vq 15 (0 + (xa) * (xb) + (ya) * (yb)), Vb (true), Vb (false), Vb (false)]) (B := [⟨7, none, none, 28, 8, Vv 3 (xa) (ya), VT⟩, ⟨8, none, none, 28, 8, Vv 3 (xb) (yb), VT⟩, ⟨9, none, none, 26, 4, Vq 3 (kk), VT⟩]) (SL' := [(0, VI l), (1, Vi (n)), (2, Vi (m)), (6, Vb (false)), (43, Vb (false)), (79, Vb (false))]) st5 ⟨ks, ks, ?s2, ks, ks, ?s5, ?s6, ks, ks, ks, ks, ?s11, ks, ks, ?s14, ?s15, ks, ks, ks, ks, ks, ?s21, ks, ks, ks, ks, ?s26, ks, ks, ks, ks, ?s31, ?s32, ?s33, ks, ks, trivial⟩ ?_
  case s2 =>
    refine kc fun _ ac Wd h hd => ?_
    obtain ⟨v0, hv0, hV0⟩ := h.dp hd 44
    obtain ⟨v1, hv1, hV1⟩ := h.dp hd 45
    exact ⟨#[v0, v1], by simp [hv0, hv1], cDot (show Vv 3 (xa) (ya) v0 Wd from hV0) (show Vv 3 (xb) (yb) v1 Wd from hV1) (by omega) (by omega)⟩
  case s5 =>
    refine kc fun _ ac Wd h hd => ?_
    obtain ⟨v0, hv0, hV0⟩ := h.dp hd 47
    obtain ⟨v1, hv1, hV1⟩ := h.dp hd 48
    exact ⟨#[v0, v1], by simp [hv0, hv1], cR5Dot (show Vv 3 (xa) (ya) v0 Wd from hV0) (show Vv 3 (xb) (yb) v1 Wd from hV1) (by omega) (by omega)⟩
  case s6 =>
    refine kc fun _ ac Wd h hd => ?_
    obtain ⟨v0, hv0, hV0⟩ := h.dp hd 46
    obtain ⟨v1, hv1, hV1⟩ := h.dp hd 49
    exact ⟨#[v0, v1], by simp [hv0, hv1], (cR4Same (show Vq (4 * 3 + 1) ((xa) * (xb) + (ya) * (yb)) v0 Wd from hV0) (show Vq (4 * 3 + 1) ((xa) * (xb) + (ya) * (yb)) v1 Wd from hV1) (by omega)).mono fun e w h => h.le fun v w hv => hv.trans (congrArg Value.bool (decide_eq_true (by first | (and_intros <;> grind) | grind)))⟩
  case s11 =>
    refine kc fun _ ac Wd h hd => ?_
    obtain ⟨v0, hv0, hV0⟩ := h.dp hd 53
    obtain ⟨v1, hv1, hV1⟩ := h.dp hd 54
    exact ⟨#[v0, v1], by simp [hv0, hv1], cCross (show Vv 3 (xa) (ya) v0 Wd from hV0) (show Vv 3 (xb) (yb) v1 Wd from hV1) (by omega) (by omega)⟩
  case s14 =>
    refine kc fun _ ac Wd h hd => ?_
    obtain ⟨v0, hv0, hV0⟩ := h.dp hd 56
    obtain ⟨v1, hv1, hV1⟩ := h.dp hd 57
    exact ⟨#[v0, v1], by simp [hv0, hv1], cR5Cross (show Vv 3 (xa) (ya) v0 Wd from hV0) (show Vv 3 (xb) (yb) v1 Wd from hV1) (by omega) (by omega)⟩
  case s15 =>
    refine kc fun _ ac Wd h hd => ?_
    obtain ⟨v0, hv0, hV0⟩ := h.dp hd 55
    obtain ⟨v1, hv1, hV1⟩ := h.dp hd 58
    exact ⟨#[v0, v1], by simp [hv0, hv1], (cR4Same (show Vq (4 * 3 + 1) ((xa) * (yb) + -(ya) * (xb)) v0 Wd from hV0) (show Vq (4 * 3 + 1) ((xa) * (yb) - (ya) * (xb)) v1 Wd from hV1) (by omega)).mono fun e w h => h.le fun v w hv => hv.trans (congrArg Value.bool (decide_eq_true (by first | (and_intros <;> grind) | grind)))⟩
  case s21 =>
    refine kc fun _ ac Wd h hd => ?_
    obtain ⟨v0, hv0, hV0⟩ := h.dp hd 63
    obtain ⟨v1, hv1, hV1⟩ := h.dp hd 64
    exact ⟨#[v0, v1], by simp [hv0, hv1], cDot (show Vv 3 (xa) (ya) v0 Wd from hV0) (show Vv 3 (xb) (yb) v1 Wd from hV1) (by omega) (by omega)⟩
  case s26 => refine km fun _ ac Wd h hd => ?_; obtain ⟨v0, hv0, hV0⟩ := h.dp hd 67; obtain ⟨v1, hv1, hV1⟩ := h.dp hd 69; exact bslice_Q2 (N := 3) (X := (fun j => [xa, ya].getD j 0)) rfl hv0 hv1 hV0 hV1
  case s31 => refine km fun _ ac Wd h hd => ?_; obtain ⟨v0, hv0, hV0⟩ := h.dp hd 72; obtain ⟨v1, hv1, hV1⟩ := h.dp hd 74; exact bslice_Q2 (N := 3) (X := (fun j => [xb, yb].getD j 0)) rfl hv0 hv1 hV0 hV1
  case s32 =>
    refine kc fun _ ac Wd h hd => ?_
    obtain ⟨v0, hv0, hV0⟩ := h.dp hd 70
    obtain ⟨v1, hv1, hV1⟩ := h.dp hd 75
    exact ⟨#[v0, v1], by simp [hv0, hv1], cDot2 (X := (fun j => [xa, ya].getD j 0)) (Y := (fun j => [xb, yb].getD j 0)) (VAt_now (show VQ2 3 (fun j => [xa, ya].getD j 0) v0 Wd from hV0)) (VAt_now (show VQ2 3 (fun j => [xb, yb].getD j 0) v1 Wd from hV1))⟩
  case s33 =>
    refine kc fun _ ac Wd h hd => ?_
    obtain ⟨v0, hv0, hV0⟩ := h.dp hd 65
    obtain ⟨v1, hv1, hV1⟩ := h.dp hd 76
    exact ⟨#[v0, v1], by simp [hv0, hv1], (cQSame (show Vq (4 * 3 + 1) ((xa) * (xb) + (ya) * (yb)) v0 Wd from hV0) (show Vq 15 (0 + (xa) * (xb) + (ya) * (yb)) v1 Wd from hV1) (by omega) (by omega) (by omega) (by omega)).mono fun e w h => h.le fun v w hv => hv.trans (congrArg Value.bool (decide_eq_true (by first | (and_intros <;> grind) | grind)))⟩
  intro a6 w6 st6
  clear st5
  repeat first | refine wp_seq ?_ | refine wp_block ?_ | refine wp_skip ?_ | refine wp_exit ?_
  obtain ⟨vc, hc1, hc2⟩ := st6.slot (79, Vb (false)) (.tail _ (.tail _ (.tail _ (.tail _ (.tail _ (.head _))))))
  refine wp_cond_false (hc1.trans hc2) ?_
  clear hc1 hc2
  repeat first | refine wp_seq ?_ | refine wp_block ?_ | refine wp_skip ?_ | refine wp_exit ?_
  refine rg (BT := [(28, 8, 0), (26, 4, 0)]) (Vl := [Vi (n), Vi (m), Vv 3 (Rat.divInt (n) 1) (Rat.divInt (m) 1), Vi (n), Vq 3 (Rat.divInt (n) (1)), Vi (m), Vq 3 (Rat.divInt (m) (1)), Vv 3 (Rat.divInt (n) (1)) (Rat.divInt (m) (1)), Vb (true), Vb (true), Vb (true), Vb (true), Vb (true)]) (B := [⟨7, none, none, 28, 8, Vv 3 (xa) (ya), VT⟩, ⟨8, none, none, 28, 8, Vv 3 (xb) (yb), VT⟩, ⟨9, none, none, 26, 4, Vq 3 (kk), VT⟩]) (SL' := [(0, VI l), (1, Vi (n)), (2, Vi (m)), (43, Vb (false)), (79, Vb (false)), (6, Vb (true))]) st6 ⟨ks, ks, ?s2, ks, ?s4, ks, ?s6, ?s7, ?s8, ks, ?s10, ks, ks, trivial⟩ ?_
  case s2 =>
    refine kc fun _ ac Wd h hd => ?_
    obtain ⟨v0, hv0, hV0⟩ := h.dp hd 80
    obtain ⟨v1, hv1, hV1⟩ := h.dp hd 81
    exact ⟨#[v0, v1], by simp [hv0, hv1], cVOf (show Vi (n) v0 Wd from hV0) (show Vi (m) v1 Wd from hV1) (by omega) (by omega) (by omega) (by omega)⟩
  case s4 =>
    refine kc fun _ ac Wd h hd => ?_
    obtain ⟨v0, hv0, hV0⟩ := h.dp hd 83
    exact ⟨#[v0, .int .i64 (1)], by simp [hv0, eval_const], cQOf (show Vi (n) v0 Wd from hV0) (show Vi (1) (.int .i64 (1)) Wd from rfl) (by omega) (by omega) (by omega) (by omega)⟩
  case s6 =>
    refine kc fun _ ac Wd h hd => ?_
    obtain ⟨v0, hv0, hV0⟩ := h.dp hd 85
    exact ⟨#[v0, .int .i64 (1)], by simp [hv0, eval_const], cQOf (show Vi (m) v0 Wd from hV0) (show Vi (1) (.int .i64 (1)) Wd from rfl) (by omega) (by omega) (by omega) (by omega)⟩
  case s7 =>
    refine kr fun _ ac Wd h hd => ?_
    obtain ⟨v0, hv0, hV0⟩ := h.dp hd 84
    obtain ⟨v1, hv1, hV1⟩ := h.dp hd 86
    exact build_Vec rfl hv0 hv1 (AggV_Vq _ _) (AggV_Vq _ _) (show Vq 3 (Rat.divInt (n) (1)) v0 Wd from hV0) (show Vq 3 (Rat.divInt (m) (1)) v1 Wd from hV1)
  case s8 =>
    refine kc fun _ ac Wd h hd => ?_
    obtain ⟨v0, hv0, hV0⟩ := h.dp hd 82
    obtain ⟨v1, hv1, hV1⟩ := h.dp hd 87
    exact ⟨#[v0, v1], by simp [hv0, hv1], (cR5Same (show Vv 3 (Rat.divInt (n) 1) (Rat.divInt (m) 1) v0 Wd from hV0) (show Vv 3 (Rat.divInt (n) (1)) (Rat.divInt (m) (1)) v1 Wd from hV1) (by omega) (by omega)).mono fun e w h => h.le fun v w hv => hv.trans (congrArg Value.bool (decide_eq_true (by first | (and_intros <;> grind) | grind)))⟩
  case s10 => refine kc fun _ ac Wd h hd => ?_; exact ⟨#[], by simp [], cPLives⟩
  intro a7 w7 st7
  clear st6
  repeat first | refine wp_seq ?_ | refine wp_block ?_ | refine wp_skip ?_ | refine wp_exit ?_
  obtain ⟨vr, r1, r4⟩ := st7.slot (6, Vb (true)) (.tail _ (.tail _ (.tail _ (.tail _ (.tail _ (.head _))))))
  exact wp_ret (bodyPost_ret (results_tmp rfl _ _ _) st7.defers ⟨_, congrArg Ending.returned (show _ = vr from r1), r4, st7.k.below⟩)
end Go.Proofs.YteaoaoknpihchaaGreat
