/- PlaneGroup: the walk. -/
import Derived.Test.YteaoaoknpihchaaM31
set_option linter.unusedVariables false
namespace Go.Proofs.Yteaoaoknpihchaa
open Go.RowKit

set_option maxRecDepth 100000 in
set_option maxHeartbeats 1600000 in
theorem walkGroup0 {w : World} {l : List Int} {n m k : Int} {v0 v1 v2 v3 : Value} (h0 : VI l v0 w) (h1 : Vi (n) v1 w) (h2 : Vi (m) v2 w) (h3 : Vi (k) v3 w) (hn0 : -9223372036854775808 ≤ n) (hn1 : n ≤ 9223372036854775807) (hm0 : -9223372036854775808 ≤ m) (hm1 : m ≤ 9223372036854775807) (hk0 : -9223372036854775808 ≤ k) (hk1 : k ≤ 9223372036854775807) : Calls Try.prog 3 #[v0, v1, v2, v3] w (RV (Vb true) w) := by
  go_enter Try.func3, Try.ntmps3
  have st0 : St w.heap.size w 111 [] [(0, VI l), (1, Vi (n)), (2, Vi (m)), (3, Vi (k))] _ w := St.begin (a := ⟨#[v0, v1, v2, v3, undef, undef, undef, undef, undef, undef, undef, undef, undef, undef, undef, undef, undef, undef, undef, undef, undef, undef, undef, undef, undef, undef, undef, undef, undef, undef, undef, undef, undef, undef, undef, undef, undef, undef, undef, undef, undef, undef, undef, undef, undef, undef, undef, undef, undef, undef, undef, undef, undef, undef, undef, undef, undef, undef, undef, undef, undef, undef, undef, undef, undef, undef, undef, undef, undef, undef, undef, undef, undef, undef, undef, undef, undef, undef, undef, undef, undef, undef, undef, undef, undef, undef, undef, undef, undef, undef, undef, undef, undef, undef, undef, undef, undef, undef, undef, undef, undef, undef, undef, undef, undef, undef, undef, undef, undef, undef, undef], []⟩) rfl rfl (List.forall_mem_cons.2 ⟨⟨_, rfl, h0⟩, (List.forall_mem_cons.2 ⟨⟨_, rfl, h1⟩, (List.forall_mem_cons.2 ⟨⟨_, rfl, h2⟩, (List.forall_mem_cons.2 ⟨⟨_, rfl, h3⟩, (fun _ h => absurd h (by simp))⟩)⟩)⟩)⟩)
  generalize (⟨#[v0, v1, v2, v3, undef, undef, undef, undef, undef, undef, undef, undef, undef, undef, undef, undef, undef, undef, undef, undef, undef, undef, undef, undef, undef, undef, undef, undef, undef, undef, undef, undef, undef, undef, undef, undef, undef, undef, undef, undef, undef, undef, undef, undef, undef, undef, undef, undef, undef, undef, undef, undef, undef, undef, undef, undef, undef, undef, undef, undef, undef, undef, undef, undef, undef, undef, undef, undef, undef, undef, undef, undef, undef, undef, undef, undef, undef, undef, undef, undef, undef, undef, undef, undef, undef, undef, undef, undef, undef, undef, undef, undef, undef, undef, undef, undef, undef, undef, undef, undef, undef, undef, undef, undef, undef, undef, undef, undef, undef, undef, undef], []⟩ : Act) = a0 at st0 ⊢
  have one1 : Rat.divInt 1 1 = 1 := by decide +kernel
  have onem : Rat.divInt (-1) 1 = -1 := by decide +kernel
  have zero1 : Rat.divInt 0 1 = 0 := by decide +kernel
  repeat first | refine wp_seq ?_ | refine wp_block ?_ | refine wp_skip ?_ | refine wp_exit ?_
  refine rg (BT := [(28, 8, 0), (31, 8, 0)]) (Vl := [Vb (false)]) (B := []) (SL' := [(0, VI l), (1, Vi (n)), (2, Vi (m)), (3, Vi (k)), (8, Vb (false))]) st0 ⟨ks, trivial⟩ ?_
  intro a1 w1 st1
  clear st0
  repeat first | refine wp_seq ?_ | refine wp_block ?_ | refine wp_skip ?_ | refine wp_exit ?_
  refine rg (BT := [(28, 8, 0), (31, 8, 0)]) (Vl := [Vi (n), Vv 3 (turnC (n)) (turnS (n)), VT, VT]) (B := [⟨9, some 2, some 3, 28, 8, Vv 3 (turnC (n)) (turnS (n)), VT⟩]) (SL' := [(0, VI l), (1, Vi (n)), (2, Vi (m)), (3, Vi (k)), (8, Vb (false))]) st1 ⟨ks, ?s1, ks, ks, trivial⟩ ?_
  case s1 => refine kc fun _ ac Wd h hd => ?_; obtain ⟨v0, hv0, hV0⟩ := h.dp hd 17; exact ⟨#[v0], by simp [hv0], cTurnN (show Vi (n) v0 Wd from hV0) (by omega) (by omega)⟩
  intro a2 w2 st2
  clear st1
  have hun := turn_unit n
  generalize turnC (n) = ct at st2 hun
  generalize turnS (n) = st_ at st2 hun
  repeat first | refine wp_seq ?_ | refine wp_block ?_ | refine wp_skip ?_ | refine wp_exit ?_
  refine rg (BT := [(28, 8, 0), (31, 8, 0)]) (Vl := [Vi (m), Vv 3 (turnC (m)) (turnS (m)), VT, VT]) (B := [⟨9, none, none, 28, 8, Vv 3 (ct) (st_), VT⟩, ⟨10, some 2, some 3, 28, 8, Vv 3 (turnC (m)) (turnS (m)), VT⟩]) (SL' := [(0, VI l), (1, Vi (n)), (2, Vi (m)), (3, Vi (k)), (8, Vb (false))]) st2 ⟨ks, ?s1, ks, ks, trivial⟩ ?_
  case s1 => refine kc fun _ ac Wd h hd => ?_; obtain ⟨v0, hv0, hV0⟩ := h.dp hd 19; exact ⟨#[v0], by simp [hv0], cTurnN (show Vi (m) v0 Wd from hV0) (by omega) (by omega)⟩
  intro a3 w3 st3
  clear st2
  have hum := turn_unit m
  generalize turnC (m) = cu at st3 hum
  generalize turnS (m) = su at st3 hum
  repeat first | refine wp_seq ?_ | refine wp_block ?_ | refine wp_skip ?_ | refine wp_exit ?_
  refine rg (BT := [(28, 8, 0), (31, 8, 0)]) (Vl := [Vi (k), Vv 3 (turnC (k)) (turnS (k)), VT, VT]) (B := [⟨9, none, none, 28, 8, Vv 3 (ct) (st_), VT⟩, ⟨10, none, none, 28, 8, Vv 3 (cu) (su), VT⟩, ⟨11, some 2, some 3, 28, 8, Vv 3 (turnC (k)) (turnS (k)), VT⟩]) (SL' := [(0, VI l), (1, Vi (n)), (2, Vi (m)), (3, Vi (k)), (8, Vb (false))]) st3 ⟨ks, ?s1, ks, ks, trivial⟩ ?_
  case s1 => refine kc fun _ ac Wd h hd => ?_; obtain ⟨v0, hv0, hV0⟩ := h.dp hd 21; exact ⟨#[v0], by simp [hv0], cTurnN (show Vi (k) v0 Wd from hV0) (by omega) (by omega)⟩
  intro a4 w4 st4
  clear st3
  have huk := turn_unit k
  generalize turnC (k) = cv at st4 huk
  generalize turnS (k) = sv at st4 huk
  repeat first | refine wp_seq ?_ | refine wp_block ?_ | refine wp_skip ?_ | refine wp_exit ?_
  refine rg (BT := [(28, 8, 0), (31, 8, 0)]) (Vl := [VI l, Vv 3 (numQ (atv l (0) 100)) (numQ (atv l (0 + 1) 100)), VT, VT]) (B := [⟨9, none, none, 28, 8, Vv 3 (ct) (st_), VT⟩, ⟨10, none, none, 28, 8, Vv 3 (cu) (su), VT⟩, ⟨11, none, none, 28, 8, Vv 3 (cv) (sv), VT⟩, ⟨12, some 2, some 3, 31, 8, Vv 3 (numQ (atv l (0) 100)) (numQ (atv l (0 + 1) 100)), VT⟩]) (SL' := [(0, VI l), (1, Vi (n)), (2, Vi (m)), (3, Vi (k)), (8, Vb (false))]) st4 ⟨ks, ?s1, ks, ks, trivial⟩ ?_
  case s1 =>
    refine kc fun _ ac Wd h hd => ?_
    obtain ⟨v0, hv0, hV0⟩ := h.dp hd 23
    exact ⟨#[v0, .int .i64 (0)], by simp [hv0, eval_const], cVecL (show VI l v0 Wd from hV0) (show Vi (0) (.int .i64 (0)) Wd from rfl) (by omega) (by omega)⟩
  intro a5 w5 st5
  clear st4
  generalize numQ (atv l (0) 100) = xa at st5 
  generalize numQ (atv l (0 + 1) 100) = ya at st5 
  repeat first | refine wp_seq ?_ | refine wp_block ?_ | refine wp_skip ?_ | refine wp_exit ?_
  refine rg (BT := [(28, 8, 0), (31, 8, 0)]) (Vl := [VI l, Vv 3 (numQ (atv l (2) 100)) (numQ (atv l (2 + 1) 100)), VT, VT]) (B := [⟨9, none, none, 28, 8, Vv 3 (ct) (st_), VT⟩, ⟨10, none, none, 28, 8, Vv 3 (cu) (su), VT⟩, ⟨11, none, none, 28, 8, Vv 3 (cv) (sv), VT⟩, ⟨12, none, none, 31, 8, Vv 3 (xa) (ya), VT⟩, ⟨13, some 2, some 3, 31, 8, Vv 3 (numQ (atv l (2) 100)) (numQ (atv l (2 + 1) 100)), VT⟩]) (SL' := [(0, VI l), (1, Vi (n)), (2, Vi (m)), (3, Vi (k)), (8, Vb (false))]) st5 ⟨ks, ?s1, ks, ks, trivial⟩ ?_
  case s1 =>
    refine kc fun _ ac Wd h hd => ?_
    obtain ⟨v0, hv0, hV0⟩ := h.dp hd 25
    exact ⟨#[v0, .int .i64 (2)], by simp [hv0, eval_const], cVecL (show VI l v0 Wd from hV0) (show Vi (2) (.int .i64 (2)) Wd from rfl) (by omega) (by omega)⟩
  intro a6 w6 st6
  clear st5
  generalize numQ (atv l (2) 100) = xb at st6 
  generalize numQ (atv l (2 + 1) 100) = yb at st6 
  repeat first | refine wp_seq ?_ | refine wp_block ?_ | refine wp_skip ?_ | refine wp_exit ?_
  refine rg (BT := [(28, 8, 0), (31, 8, 0)]) (Vl := [Vv 3 (ct) (st_), Vv 3 (xa) (ya), Vv (4 * 3 + 1) ((ct) * (xa) + -(st_) * (ya)) ((st_) * (xa) + (ct) * (ya)), VT, VT]) (B := [⟨9, none, none, 28, 8, Vv 3 (ct) (st_), VT⟩, ⟨10, none, none, 28, 8, Vv 3 (cu) (su), VT⟩, ⟨11, none, none, 28, 8, Vv 3 (cv) (sv), VT⟩, ⟨12, none, none, 31, 8, Vv 3 (xa) (ya), VT⟩, ⟨13, none, none, 31, 8, Vv 3 (xb) (yb), VT⟩, ⟨14, some 3, some 4, 31, 8, Vv (4 * 3 + 1) ((ct) * (xa) + -(st_) * (ya)) ((st_) * (xa) + (ct) * (ya)), VT⟩]) (SL' := [(0, VI l), (1, Vi (n)), (2, Vi (m)), (3, Vi (k)), (8, Vb (false))]) st6 ⟨ks, ks, ?s2, ks, ks, trivial⟩ ?_
  case s2 =>
    refine kc fun _ ac Wd h hd => ?_
    obtain ⟨v0, hv0, hV0⟩ := h.dp hd 27
    obtain ⟨v1, hv1, hV1⟩ := h.dp hd 28
    exact ⟨#[v0, v1], by simp [hv0, hv1], cRotate (show Vv 3 (ct) (st_) v0 Wd from hV0) (show Vv 3 (xa) (ya) v1 Wd from hV1) (by omega) (by omega)⟩
  intro a7 w7 st7
  clear st6
  repeat first | refine wp_seq ?_ | refine wp_block ?_ | refine wp_skip ?_ | refine wp_exit ?_
  refine rg (BT := [(28, 8, 0), (31, 8, 0)]) (Vl := [Vv 3 (ct) (st_), Vv 3 (xb) (yb), Vv (4 * 3 + 1) ((ct) * (xb) + -(st_) * (yb)) ((st_) * (xb) + (ct) * (yb)), VT, VT]) (B := [⟨9, none, none, 28, 8, Vv 3 (ct) (st_), VT⟩, ⟨10, none, none, 28, 8, Vv 3 (cu) (su), VT⟩, ⟨11, none, none, 28, 8, Vv 3 (cv) (sv), VT⟩, ⟨12, none, none, 31, 8, Vv 3 (xa) (ya), VT⟩, ⟨13, none, none, 31, 8, Vv 3 (xb) (yb), VT⟩, ⟨14, none, none, 31, 8, Vv (4 * 3 + 1) ((ct) * (xa) + -(st_) * (ya)) ((st_) * (xa) + (ct) * (ya)), VT⟩, ⟨15, some 3, some 4, 31, 8, Vv (4 * 3 + 1) ((ct) * (xb) + -(st_) * (yb)) ((st_) * (xb) + (ct) * (yb)), VT⟩]) (SL' := [(0, VI l), (1, Vi (n)), (2, Vi (m)), (3, Vi (k)), (8, Vb (false))]) st7 ⟨ks, ks, ?s2, ks, ks, trivial⟩ ?_
  case s2 =>
    refine kc fun _ ac Wd h hd => ?_
    obtain ⟨v0, hv0, hV0⟩ := h.dp hd 30
    obtain ⟨v1, hv1, hV1⟩ := h.dp hd 31
    exact ⟨#[v0, v1], by simp [hv0, hv1], cRotate (show Vv 3 (ct) (st_) v0 Wd from hV0) (show Vv 3 (xb) (yb) v1 Wd from hV1) (by omega) (by omega)⟩
  intro a8 w8 st8
  clear st7
  repeat first | refine wp_seq ?_ | refine wp_block ?_ | refine wp_skip ?_ | refine wp_exit ?_
  refine rg (BT := [(28, 8, 0), (31, 8, 0)]) (Vl := [Vv (4 * 3 + 1) ((ct) * (xa) + -(st_) * (ya)) ((st_) * (xa) + (ct) * (ya)), Vv (4 * 3 + 1) ((ct) * (xb) + -(st_) * (yb)) ((st_) * (xb) + (ct) * (yb)), Vq (4 * (4 * 3 + 1) + 1) (((ct) * (xa) + -(st_) * (ya)) * ((ct) * (xb) + -(st_) * (yb)) + ((st_) * (xa) + (ct) * (ya)) * ((st_) * (xb) + (ct) * (yb))), Vv 3 (xa) (ya), Vv 3 (xb) (yb), Vq (4 * 3 + 1) ((xa) * (xb) + (ya) * (yb)), Vb (true), Vb (false), Vb (false), Vv (4 * 3 + 1) ((ct) * (xa) + -(st_) * (ya)) ((st_) * (xa) + (ct) * (ya)), Vv (4 * 3 + 1) ((ct) * (xb) + -(st_) * (yb)) ((st_) * (xb) + (ct) * (yb)), Vq (4 * (4 * 3 + 1) + 1) (((ct) * (xa) + -(st_) * (ya)) * ((st_) * (xb) + (ct) * (yb)) + -((st_) * (xa) + (ct) * (ya)) * ((ct) * (xb) + -(st_) * (yb))), Vv 3 (xa) (ya), Vv 3 (xb) (yb), Vq (4 * 3 + 1) ((xa) * (yb) + -(ya) * (xb)), Vb (true), Vb (false), Vb (false)]) (B := [⟨9, none, none, 28, 8, Vv 3 (ct) (st_), VT⟩, ⟨10, none, none, 28, 8, Vv 3 (cu) (su), VT⟩, ⟨11, none, none, 28, 8, Vv 3 (cv) (sv), VT⟩, ⟨12, none, none, 31, 8, Vv 3 (xa) (ya), VT⟩, ⟨13, none, none, 31, 8, Vv 3 (xb) (yb), VT⟩, ⟨14, none, none, 31, 8, Vv (4 * 3 + 1) ((ct) * (xa) + -(st_) * (ya)) ((st_) * (xa) + (ct) * (ya)), VT⟩, ⟨15, none, none, 31, 8, Vv (4 * 3 + 1) ((ct) * (xb) + -(st_) * (yb)) ((st_) * (xb) + (ct) * (yb)), VT⟩]) (SL' := [(0, VI l), (1, Vi (n)), (2, Vi (m)), (3, Vi (k)), (8, Vb (false)), (50, Vb (false))]) st8 ⟨ks, ks, ?s2, ks, ks, ?s5, ?s6, ks, ks, ks, ks, ?s11, ks, ks, ?s14, ?s15, ks, ks, trivial⟩ ?_
  case s2 =>
    refine kc fun _ ac Wd h hd => ?_
    obtain ⟨v0, hv0, hV0⟩ := h.dp hd 33
    obtain ⟨v1, hv1, hV1⟩ := h.dp hd 34
    exact ⟨#[v0, v1], by simp [hv0, hv1], cDot (show Vv (4 * 3 + 1) ((ct) * (xa) + -(st_) * (ya)) ((st_) * (xa) + (ct) * (ya)) v0 Wd from hV0) (show Vv (4 * 3 + 1) ((ct) * (xb) + -(st_) * (yb)) ((st_) * (xb) + (ct) * (yb)) v1 Wd from hV1) (by omega) (by omega)⟩
  case s5 =>
    refine kc fun _ ac Wd h hd => ?_
    obtain ⟨v0, hv0, hV0⟩ := h.dp hd 36
    obtain ⟨v1, hv1, hV1⟩ := h.dp hd 37
    exact ⟨#[v0, v1], by simp [hv0, hv1], cDot (show Vv 3 (xa) (ya) v0 Wd from hV0) (show Vv 3 (xb) (yb) v1 Wd from hV1) (by omega) (by omega)⟩
  case s6 =>
    refine kc fun _ ac Wd h hd => ?_
    obtain ⟨v0, hv0, hV0⟩ := h.dp hd 35
    obtain ⟨v1, hv1, hV1⟩ := h.dp hd 38
    exact ⟨#[v0, v1], by simp [hv0, hv1], (cQSame (show Vq (4 * (4 * 3 + 1) + 1) (((ct) * (xa) + -(st_) * (ya)) * ((ct) * (xb) + -(st_) * (yb)) + ((st_) * (xa) + (ct) * (ya)) * ((st_) * (xb) + (ct) * (yb))) v0 Wd from hV0) (show Vq (4 * 3 + 1) ((xa) * (xb) + (ya) * (yb)) v1 Wd from hV1) (by omega) (by omega) (by omega) (by omega)).mono fun e w h => h.le fun v w hv => hv.trans (congrArg Value.bool (decide_eq_true (by first | (and_intros <;> grind) | grind)))⟩
  case s11 =>
    refine kc fun _ ac Wd h hd => ?_
    obtain ⟨v0, hv0, hV0⟩ := h.dp hd 42
    obtain ⟨v1, hv1, hV1⟩ := h.dp hd 43
    exact ⟨#[v0, v1], by simp [hv0, hv1], cCross (show Vv (4 * 3 + 1) ((ct) * (xa) + -(st_) * (ya)) ((st_) * (xa) + (ct) * (ya)) v0 Wd from hV0) (show Vv (4 * 3 + 1) ((ct) * (xb) + -(st_) * (yb)) ((st_) * (xb) + (ct) * (yb)) v1 Wd from hV1) (by omega) (by omega)⟩
  case s14 =>
    refine kc fun _ ac Wd h hd => ?_
    obtain ⟨v0, hv0, hV0⟩ := h.dp hd 45
    obtain ⟨v1, hv1, hV1⟩ := h.dp hd 46
    exact ⟨#[v0, v1], by simp [hv0, hv1], cCross (show Vv 3 (xa) (ya) v0 Wd from hV0) (show Vv 3 (xb) (yb) v1 Wd from hV1) (by omega) (by omega)⟩
  case s15 =>
    refine kc fun _ ac Wd h hd => ?_
    obtain ⟨v0, hv0, hV0⟩ := h.dp hd 44
    obtain ⟨v1, hv1, hV1⟩ := h.dp hd 47
    exact ⟨#[v0, v1], by simp [hv0, hv1], (cQSame (show Vq (4 * (4 * 3 + 1) + 1) (((ct) * (xa) + -(st_) * (ya)) * ((st_) * (xb) + (ct) * (yb)) + -((st_) * (xa) + (ct) * (ya)) * ((ct) * (xb) + -(st_) * (yb))) v0 Wd from hV0) (show Vq (4 * 3 + 1) ((xa) * (yb) + -(ya) * (xb)) v1 Wd from hV1) (by omega) (by omega) (by omega) (by omega)).mono fun e w h => h.le fun v w hv => hv.trans (congrArg Value.bool (decide_eq_true (by first | (and_intros <;> grind) | grind)))⟩
  intro a9 w9 st9
  clear st8
  repeat first | refine wp_seq ?_ | refine wp_block ?_ | refine wp_skip ?_ | refine wp_exit ?_
  obtain ⟨vc, hc1, hc2⟩ := st9.slot (50, Vb (false)) (.tail _ (.tail _ (.tail _ (.tail _ (.tail _ (.head _))))))
  refine wp_cond_false (hc1.trans hc2) ?_
  clear hc1 hc2
  repeat first | refine wp_seq ?_ | refine wp_block ?_ | refine wp_skip ?_ | refine wp_exit ?_
  refine rg (BT := [(28, 8, 0), (31, 8, 0)]) (Vl := [Vv 3 (ct) (st_), Vv 3 (cu) (su), Vv (4 * 3 + 1) ((ct) * (cu) + -(st_) * (su)) ((st_) * (cu) + (ct) * (su)), VT, VT]) (B := [⟨9, none, none, 28, 8, Vv 3 (ct) (st_), VT⟩, ⟨10, none, none, 28, 8, Vv 3 (cu) (su), VT⟩, ⟨11, none, none, 28, 8, Vv 3 (cv) (sv), VT⟩, ⟨12, none, none, 31, 8, Vv 3 (xa) (ya), VT⟩, ⟨13, none, none, 31, 8, Vv 3 (xb) (yb), VT⟩, ⟨14, none, none, 31, 8, Vv (4 * 3 + 1) ((ct) * (xa) + -(st_) * (ya)) ((st_) * (xa) + (ct) * (ya)), VT⟩, ⟨15, none, none, 31, 8, Vv (4 * 3 + 1) ((ct) * (xb) + -(st_) * (yb)) ((st_) * (xb) + (ct) * (yb)), VT⟩, ⟨16, some 3, some 4, 28, 8, Vv (4 * 3 + 1) ((ct) * (cu) + -(st_) * (su)) ((st_) * (cu) + (ct) * (su)), VT⟩]) (SL' := [(0, VI l), (1, Vi (n)), (2, Vi (m)), (3, Vi (k)), (8, Vb (false)), (50, Vb (false))]) st9 ⟨ks, ks, ?s2, ks, ks, trivial⟩ ?_
  case s2 =>
    refine kc fun _ ac Wd h hd => ?_
    obtain ⟨v0, hv0, hV0⟩ := h.dp hd 51
    obtain ⟨v1, hv1, hV1⟩ := h.dp hd 52
    exact ⟨#[v0, v1], by simp [hv0, hv1], cAfter (show Vv 3 (ct) (st_) v0 Wd from hV0) (show Vv 3 (cu) (su) v1 Wd from hV1) (by omega) (by omega)⟩
  intro a10 w10 st10
  clear st9
  repeat first | refine wp_seq ?_ | refine wp_block ?_ | refine wp_skip ?_ | refine wp_exit ?_
  refine rg (BT := [(28, 8, 0), (31, 8, 0)]) (Vl := [Vv (4 * 3 + 1) ((ct) * (cu) + -(st_) * (su)) ((st_) * (cu) + (ct) * (su)), Vv 3 (xa) (ya), Vv (4 * (max (4 * 3 + 1) 3) + 1) (((ct) * (cu) + -(st_) * (su)) * (xa) + -((st_) * (cu) + (ct) * (su)) * (ya)) (((st_) * (cu) + (ct) * (su)) * (xa) + ((ct) * (cu) + -(st_) * (su)) * (ya)), Vv 3 (ct) (st_), Vv 3 (cu) (su), Vv 3 (xa) (ya), Vv (4 * 3 + 1) ((cu) * (xa) + -(su) * (ya)) ((su) * (xa) + (cu) * (ya)), Vv (4 * (max 3 (4 * 3 + 1)) + 1) ((ct) * ((cu) * (xa) + -(su) * (ya)) + -(st_) * ((su) * (xa) + (cu) * (ya))) ((st_) * ((cu) * (xa) + -(su) * (ya)) + (ct) * ((su) * (xa) + (cu) * (ya))), Vb (true), Vb (false), Vb (false), Vv (4 * 3 + 1) ((ct) * (cu) + -(st_) * (su)) ((st_) * (cu) + (ct) * (su)), Vv 3 (cv) (sv), Vv (4 * (max (4 * 3 + 1) 3) + 1) (((ct) * (cu) + -(st_) * (su)) * (cv) + -((st_) * (cu) + (ct) * (su)) * (sv)) (((st_) * (cu) + (ct) * (su)) * (cv) + ((ct) * (cu) + -(st_) * (su)) * (sv)), Vv 3 (ct) (st_), Vv 3 (cu) (su), Vv 3 (cv) (sv), Vv (4 * 3 + 1) ((cu) * (cv) + -(su) * (sv)) ((su) * (cv) + (cu) * (sv)), Vv (4 * (max 3 (4 * 3 + 1)) + 1) ((ct) * ((cu) * (cv) + -(su) * (sv)) + -(st_) * ((su) * (cv) + (cu) * (sv))) ((st_) * ((cu) * (cv) + -(su) * (sv)) + (ct) * ((su) * (cv) + (cu) * (sv))), Vb (true), Vb (false), Vb (false), Vb (false), Vv (4 * 3 + 1) ((ct) * (cu) + -(st_) * (su)) ((st_) * (cu) + (ct) * (su)), Vb (true), Vb (false), Vb (false), Vb (false), Vv 3 (ct) (st_), Vv 3 (ct) (-(st_)), Vb (true), Vb (false), Vb (false)]) (B := [⟨9, none, none, 28, 8, Vv 3 (ct) (st_), VT⟩, ⟨10, none, none, 28, 8, Vv 3 (cu) (su), VT⟩, ⟨11, none, none, 28, 8, Vv 3 (cv) (sv), VT⟩, ⟨12, none, none, 31, 8, Vv 3 (xa) (ya), VT⟩, ⟨13, none, none, 31, 8, Vv 3 (xb) (yb), VT⟩, ⟨14, none, none, 31, 8, Vv (4 * 3 + 1) ((ct) * (xa) + -(st_) * (ya)) ((st_) * (xa) + (ct) * (ya)), VT⟩, ⟨15, none, none, 31, 8, Vv (4 * 3 + 1) ((ct) * (xb) + -(st_) * (yb)) ((st_) * (xb) + (ct) * (yb)), VT⟩, ⟨16, none, none, 28, 8, Vv (4 * 3 + 1) ((ct) * (cu) + -(st_) * (su)) ((st_) * (cu) + (ct) * (su)), VT⟩]) (SL' := [(0, VI l), (1, Vi (n)), (2, Vi (m)), (3, Vi (k)), (8, Vb (false)), (50, Vb (false)), (86, Vb (false))]) st10 ⟨ks, ks, ?s2, ks, ks, ks, ?s6, ?s7, ?s8, ks, ks, ks, ks, ?s13, ks, ks, ks, ?s17, ?s18, ?s19, ks, ks, ks, ks, ?s24, ks, ks, ks, ks, ?s29, ?s30, ks, ks, trivial⟩ ?_
  case s2 =>
    refine kc fun _ ac Wd h hd => ?_
    obtain ⟨v0, hv0, hV0⟩ := h.dp hd 54
    obtain ⟨v1, hv1, hV1⟩ := h.dp hd 55
    exact ⟨#[v0, v1], by simp [hv0, hv1], cRotate (Vv_le (M := (max (4 * 3 + 1) 3)) (show Vv (4 * 3 + 1) ((ct) * (cu) + -(st_) * (su)) ((st_) * (cu) + (ct) * (su)) v0 Wd from hV0) (by omega)) (Vv_le (M := (max (4 * 3 + 1) 3)) (show Vv 3 (xa) (ya) v1 Wd from hV1) (by omega)) (by omega) (by omega)⟩
  case s6 =>
    refine kc fun _ ac Wd h hd => ?_
    obtain ⟨v0, hv0, hV0⟩ := h.dp hd 58
    obtain ⟨v1, hv1, hV1⟩ := h.dp hd 59
    exact ⟨#[v0, v1], by simp [hv0, hv1], cRotate (show Vv 3 (cu) (su) v0 Wd from hV0) (show Vv 3 (xa) (ya) v1 Wd from hV1) (by omega) (by omega)⟩
  case s7 =>
    refine kc fun _ ac Wd h hd => ?_
    obtain ⟨v0, hv0, hV0⟩ := h.dp hd 57
    obtain ⟨v1, hv1, hV1⟩ := h.dp hd 60
    exact ⟨#[v0, v1], by simp [hv0, hv1], cRotate (Vv_le (M := (max 3 (4 * 3 + 1))) (show Vv 3 (ct) (st_) v0 Wd from hV0) (by omega)) (Vv_le (M := (max 3 (4 * 3 + 1))) (show Vv (4 * 3 + 1) ((cu) * (xa) + -(su) * (ya)) ((su) * (xa) + (cu) * (ya)) v1 Wd from hV1) (by omega)) (by omega) (by omega)⟩
  case s8 =>
    refine kc fun _ ac Wd h hd => ?_
    obtain ⟨v0, hv0, hV0⟩ := h.dp hd 56
    obtain ⟨v1, hv1, hV1⟩ := h.dp hd 61
    exact ⟨#[v0, v1], by simp [hv0, hv1], (cVSame (Vv_le (M := (max (4 * (max (4 * 3 + 1) 3) + 1) (4 * (max 3 (4 * 3 + 1)) + 1))) (show Vv (4 * (max (4 * 3 + 1) 3) + 1) (((ct) * (cu) + -(st_) * (su)) * (xa) + -((st_) * (cu) + (ct) * (su)) * (ya)) (((st_) * (cu) + (ct) * (su)) * (xa) + ((ct) * (cu) + -(st_) * (su)) * (ya)) v0 Wd from hV0) (by omega)) (Vv_le (M := (max (4 * (max (4 * 3 + 1) 3) + 1) (4 * (max 3 (4 * 3 + 1)) + 1))) (show Vv (4 * (max 3 (4 * 3 + 1)) + 1) ((ct) * ((cu) * (xa) + -(su) * (ya)) + -(st_) * ((su) * (xa) + (cu) * (ya))) ((st_) * ((cu) * (xa) + -(su) * (ya)) + (ct) * ((su) * (xa) + (cu) * (ya))) v1 Wd from hV1) (by omega)) (by omega) (by omega)).mono fun e w h => h.le fun v w hv => hv.trans (congrArg Value.bool (decide_eq_true (by first | (and_intros <;> grind) | grind)))⟩
  case s13 =>
    refine kc fun _ ac Wd h hd => ?_
    obtain ⟨v0, hv0, hV0⟩ := h.dp hd 65
    obtain ⟨v1, hv1, hV1⟩ := h.dp hd 66
    exact ⟨#[v0, v1], by simp [hv0, hv1], cAfter (Vv_le (M := (max (4 * 3 + 1) 3)) (show Vv (4 * 3 + 1) ((ct) * (cu) + -(st_) * (su)) ((st_) * (cu) + (ct) * (su)) v0 Wd from hV0) (by omega)) (Vv_le (M := (max (4 * 3 + 1) 3)) (show Vv 3 (cv) (sv) v1 Wd from hV1) (by omega)) (by omega) (by omega)⟩
  case s17 =>
    refine kc fun _ ac Wd h hd => ?_
    obtain ⟨v0, hv0, hV0⟩ := h.dp hd 69
    obtain ⟨v1, hv1, hV1⟩ := h.dp hd 70
    exact ⟨#[v0, v1], by simp [hv0, hv1], cAfter (show Vv 3 (cu) (su) v0 Wd from hV0) (show Vv 3 (cv) (sv) v1 Wd from hV1) (by omega) (by omega)⟩
  case s18 =>
    refine kc fun _ ac Wd h hd => ?_
    obtain ⟨v0, hv0, hV0⟩ := h.dp hd 68
    obtain ⟨v1, hv1, hV1⟩ := h.dp hd 71
    exact ⟨#[v0, v1], by simp [hv0, hv1], cAfter (Vv_le (M := (max 3 (4 * 3 + 1))) (show Vv 3 (ct) (st_) v0 Wd from hV0) (by omega)) (Vv_le (M := (max 3 (4 * 3 + 1))) (show Vv (4 * 3 + 1) ((cu) * (cv) + -(su) * (sv)) ((su) * (cv) + (cu) * (sv)) v1 Wd from hV1) (by omega)) (by omega) (by omega)⟩
  case s19 =>
    refine kc fun _ ac Wd h hd => ?_
    obtain ⟨v0, hv0, hV0⟩ := h.dp hd 67
    obtain ⟨v1, hv1, hV1⟩ := h.dp hd 72
    exact ⟨#[v0, v1], by simp [hv0, hv1], (cTSame (Vv_le (M := (max (4 * (max (4 * 3 + 1) 3) + 1) (4 * (max 3 (4 * 3 + 1)) + 1))) (show Vv (4 * (max (4 * 3 + 1) 3) + 1) (((ct) * (cu) + -(st_) * (su)) * (cv) + -((st_) * (cu) + (ct) * (su)) * (sv)) (((st_) * (cu) + (ct) * (su)) * (cv) + ((ct) * (cu) + -(st_) * (su)) * (sv)) v0 Wd from hV0) (by omega)) (Vv_le (M := (max (4 * (max (4 * 3 + 1) 3) + 1) (4 * (max 3 (4 * 3 + 1)) + 1))) (show Vv (4 * (max 3 (4 * 3 + 1)) + 1) ((ct) * ((cu) * (cv) + -(su) * (sv)) + -(st_) * ((su) * (cv) + (cu) * (sv))) ((st_) * ((cu) * (cv) + -(su) * (sv)) + (ct) * ((su) * (cv) + (cu) * (sv))) v1 Wd from hV1) (by omega)) (by omega) (by omega)).mono fun e w h => h.le fun v w hv => hv.trans (congrArg Value.bool (decide_eq_true (by first | (and_intros <;> grind) | grind)))⟩
  case s24 =>
    refine kc fun _ ac Wd h hd => ?_
    obtain ⟨v0, hv0, hV0⟩ := h.dp hd 77
    exact ⟨#[v0], by simp [hv0], (cPValid (show Vv (4 * 3 + 1) ((ct) * (cu) + -(st_) * (su)) ((st_) * (cu) + (ct) * (su)) v0 Wd from hV0) (by omega) (by omega)).mono fun e w h => h.le fun v w hv => hv.trans (congrArg Value.bool (decide_eq_true (by first | (and_intros <;> grind) | grind)))⟩
  case s29 => refine kc fun _ ac Wd h hd => ?_; obtain ⟨v0, hv0, hV0⟩ := h.dp hd 82; exact ⟨#[v0], by simp [hv0], cBack (show Vv 3 (ct) (st_) v0 Wd from hV0) (by omega)⟩
  case s30 =>
    refine kc fun _ ac Wd h hd => ?_
    obtain ⟨v0, hv0, hV0⟩ := h.dp hd 83
    exact ⟨#[v0], by simp [hv0], (cPValid (show Vv 3 (ct) (-(st_)) v0 Wd from hV0) (by omega) (by omega)).mono fun e w h => h.le fun v w hv => hv.trans (congrArg Value.bool (decide_eq_true (by first | (and_intros <;> grind) | grind)))⟩
  intro a11 w11 st11
  clear st10
  repeat first | refine wp_seq ?_ | refine wp_block ?_ | refine wp_skip ?_ | refine wp_exit ?_
  obtain ⟨vc, hc1, hc2⟩ := st11.slot (86, Vb (false)) (.tail _ (.tail _ (.tail _ (.tail _ (.tail _ (.tail _ (.head _)))))))
  refine wp_cond_false (hc1.trans hc2) ?_
  clear hc1 hc2
  repeat first | refine wp_seq ?_ | refine wp_block ?_ | refine wp_skip ?_ | refine wp_exit ?_
  refine rg (BT := [(28, 8, 0), (31, 8, 0)]) (Vl := [Vv 3 (ct) (st_), Vv 3 (ct) (st_), Vv 3 (ct) (-(st_)), Vv (4 * 3 + 1) ((ct) * (ct) + -(st_) * (-(st_))) ((st_) * (ct) + (ct) * (-(st_))), Vv 3 (Rat.divInt 1 1) (Rat.divInt 0 1), Vb (true), Vb (true), Vv 3 (ct) (st_), Vv 3 (ct) (-(st_)), Vv 3 (ct) (st_), Vv (4 * 3 + 1) ((ct) * (ct) + -(-(st_)) * (st_)) ((-(st_)) * (ct) + (ct) * (st_)), Vv 3 (Rat.divInt 1 1) (Rat.divInt 0 1), Vb (true), Vb (true), Vb (true), Vv 3 (Rat.divInt 1 1) (Rat.divInt 0 1), Vv 3 (xa) (ya), Vv (4 * 3 + 1) ((Rat.divInt 1 1) * (xa) + -(Rat.divInt 0 1) * (ya)) ((Rat.divInt 0 1) * (xa) + (Rat.divInt 1 1) * (ya)), Vv 3 (xa) (ya), Vb (true), Vb (true), Vb (true), Vb (true), Vb (true), Vb (true)]) (B := [⟨9, none, none, 28, 8, Vv 3 (ct) (st_), VT⟩, ⟨10, none, none, 28, 8, Vv 3 (cu) (su), VT⟩, ⟨11, none, none, 28, 8, Vv 3 (cv) (sv), VT⟩, ⟨12, none, none, 31, 8, Vv 3 (xa) (ya), VT⟩, ⟨13, none, none, 31, 8, Vv 3 (xb) (yb), VT⟩, ⟨14, none, none, 31, 8, Vv (4 * 3 + 1) ((ct) * (xa) + -(st_) * (ya)) ((st_) * (xa) + (ct) * (ya)), VT⟩, ⟨15, none, none, 31, 8, Vv (4 * 3 + 1) ((ct) * (xb) + -(st_) * (yb)) ((st_) * (xb) + (ct) * (yb)), VT⟩, ⟨16, none, none, 28, 8, Vv (4 * 3 + 1) ((ct) * (cu) + -(st_) * (su)) ((st_) * (cu) + (ct) * (su)), VT⟩]) (SL' := [(0, VI l), (1, Vi (n)), (2, Vi (m)), (3, Vi (k)), (50, Vb (false)), (86, Vb (false)), (8, Vb (true))]) st11 ⟨ks, ks, ?s2, ?s3, ?s4, ?s5, ks, ks, ?s8, ks, ?s10, ?s11, ?s12, ks, ks, ?s15, ks, ?s17, ks, ?s19, ks, ks, ?s22, ks, ks, trivial⟩ ?_
  case s2 => refine kc fun _ ac Wd h hd => ?_; obtain ⟨v0, hv0, hV0⟩ := h.dp hd 88; exact ⟨#[v0], by simp [hv0], cBack (show Vv 3 (ct) (st_) v0 Wd from hV0) (by omega)⟩
  case s3 =>
    refine kc fun _ ac Wd h hd => ?_
    obtain ⟨v0, hv0, hV0⟩ := h.dp hd 87
    obtain ⟨v1, hv1, hV1⟩ := h.dp hd 89
    exact ⟨#[v0, v1], by simp [hv0, hv1], cAfter (show Vv 3 (ct) (st_) v0 Wd from hV0) (show Vv 3 (ct) (-(st_)) v1 Wd from hV1) (by omega) (by omega)⟩
  case s4 => refine kc fun _ ac Wd h hd => ?_; exact ⟨#[], by simp [], cStill⟩
  case s5 =>
    refine kc fun _ ac Wd h hd => ?_
    obtain ⟨v0, hv0, hV0⟩ := h.dp hd 90
    obtain ⟨v1, hv1, hV1⟩ := h.dp hd 91
    exact ⟨#[v0, v1], by simp [hv0, hv1], (cTSame (Vv_le (M := (max (4 * 3 + 1) 3)) (show Vv (4 * 3 + 1) ((ct) * (ct) + -(st_) * (-(st_))) ((st_) * (ct) + (ct) * (-(st_))) v0 Wd from hV0) (by omega)) (Vv_le (M := (max (4 * 3 + 1) 3)) (show Vv 3 (Rat.divInt 1 1) (Rat.divInt 0 1) v1 Wd from hV1) (by omega)) (by omega) (by omega)).mono fun e w h => h.le fun v w hv => hv.trans (congrArg Value.bool (decide_eq_true (by first | (and_intros <;> grind) | grind)))⟩
  case s8 => refine kc fun _ ac Wd h hd => ?_; obtain ⟨v0, hv0, hV0⟩ := h.dp hd 94; exact ⟨#[v0], by simp [hv0], cBack (show Vv 3 (ct) (st_) v0 Wd from hV0) (by omega)⟩
  case s10 =>
    refine kc fun _ ac Wd h hd => ?_
    obtain ⟨v0, hv0, hV0⟩ := h.dp hd 95
    obtain ⟨v1, hv1, hV1⟩ := h.dp hd 96
    exact ⟨#[v0, v1], by simp [hv0, hv1], cAfter (show Vv 3 (ct) (-(st_)) v0 Wd from hV0) (show Vv 3 (ct) (st_) v1 Wd from hV1) (by omega) (by omega)⟩
  case s11 => refine kc fun _ ac Wd h hd => ?_; exact ⟨#[], by simp [], cStill⟩
  case s12 =>
    refine kc fun _ ac Wd h hd => ?_
    obtain ⟨v0, hv0, hV0⟩ := h.dp hd 97
    obtain ⟨v1, hv1, hV1⟩ := h.dp hd 98
    exact ⟨#[v0, v1], by simp [hv0, hv1], (cTSame (Vv_le (M := (max (4 * 3 + 1) 3)) (show Vv (4 * 3 + 1) ((ct) * (ct) + -(-(st_)) * (st_)) ((-(st_)) * (ct) + (ct) * (st_)) v0 Wd from hV0) (by omega)) (Vv_le (M := (max (4 * 3 + 1) 3)) (show Vv 3 (Rat.divInt 1 1) (Rat.divInt 0 1) v1 Wd from hV1) (by omega)) (by omega) (by omega)).mono fun e w h => h.le fun v w hv => hv.trans (congrArg Value.bool (decide_eq_true (by first | (and_intros <;> grind) | grind)))⟩
  case s15 => refine kc fun _ ac Wd h hd => ?_; exact ⟨#[], by simp [], cStill⟩
  case s17 =>
    refine kc fun _ ac Wd h hd => ?_
    obtain ⟨v0, hv0, hV0⟩ := h.dp hd 102
    obtain ⟨v1, hv1, hV1⟩ := h.dp hd 103
    exact ⟨#[v0, v1], by simp [hv0, hv1], cRotate (show Vv 3 (Rat.divInt 1 1) (Rat.divInt 0 1) v0 Wd from hV0) (show Vv 3 (xa) (ya) v1 Wd from hV1) (by omega) (by omega)⟩
  case s19 =>
    refine kc fun _ ac Wd h hd => ?_
    obtain ⟨v0, hv0, hV0⟩ := h.dp hd 104
    obtain ⟨v1, hv1, hV1⟩ := h.dp hd 105
    exact ⟨#[v0, v1], by simp [hv0, hv1], (cVSame (Vv_le (M := (max (4 * 3 + 1) 3)) (show Vv (4 * 3 + 1) ((Rat.divInt 1 1) * (xa) + -(Rat.divInt 0 1) * (ya)) ((Rat.divInt 0 1) * (xa) + (Rat.divInt 1 1) * (ya)) v0 Wd from hV0) (by omega)) (Vv_le (M := (max (4 * 3 + 1) 3)) (show Vv 3 (xa) (ya) v1 Wd from hV1) (by omega)) (by omega) (by omega)).mono fun e w h => h.le fun v w hv => hv.trans (congrArg Value.bool (decide_eq_true (by first | (and_intros <;> grind) | grind)))⟩
  case s22 => refine kc fun _ ac Wd h hd => ?_; exact ⟨#[], by simp [], cPLives⟩
  intro a12 w12 st12
  clear st11
  repeat first | refine wp_seq ?_ | refine wp_block ?_ | refine wp_skip ?_ | refine wp_exit ?_
  obtain ⟨vr, r1, r4⟩ := st12.slot (8, Vb (true)) (.tail _ (.tail _ (.tail _ (.tail _ (.tail _ (.tail _ (.head _)))))))
  exact wp_ret (bodyPost_ret (results_tmp rfl _ _ _) st12.defers ⟨_, congrArg Ending.returned (show _ = vr from r1), r4, st12.k.below⟩)
end Go.Proofs.Yteaoaoknpihchaa
