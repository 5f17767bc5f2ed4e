/- Contracts of the package integer and its reference: Numbers, vectors, turns and placements of the reference. -/
import Derived.Deep.LoopGhost
import Derived.Test.YteaoaoknpihchaaGreatM31
set_option linter.unusedVariables false
namespace Go.Proofs.YteaoaoknpihchaaGreat
open Go.RowKit

set_option maxRecDepth 100000 in
set_option maxHeartbeats 1600000 in
theorem cNum {w : World} {n : Int} {v0 : Value} (h0 : Vi (n) v0 w) (hn0 : -9223372036854775808 ≤ n) (hn1 : n ≤ 9223372036854775807) : Calls Tryz.prog 9 #[v0] w (RV (Vq 3 (numQ n)) w) := by
  go_enter Tryz.func9, Tryz.ntmps9
  have st0 : St w.heap.size w 13 [] [(0, Vi (n))] _ w := St.begin (a := ⟨#[v0, undef, undef, undef, undef, undef, undef, undef, undef, undef, undef, undef, undef], []⟩) rfl rfl (List.forall_mem_cons.2 ⟨⟨_, rfl, h0⟩, (fun _ h => absurd h (by simp))⟩)
  generalize (⟨#[v0, undef, undef, undef, undef, undef, undef, undef, undef, undef, undef, undef, undef], []⟩ : Act) = a0 at st0 ⊢
  have hk0 := arn_lo n 100 (by omega)
  have hk1 := arn_hi n 100 (by omega)
  repeat first | refine wp_seq ?_ | refine wp_block ?_ | refine wp_skip ?_ | refine wp_exit ?_
  refine rg (BT := [(26, 4, 0)]) (Vl := [VT]) (B := [⟨2, some 0, none, 26, 4, VT, VT⟩]) (SL' := [(0, Vi (n))]) st0 ⟨ks, trivial⟩ ?_
  intro a1 w1 st1
  clear st0
  repeat first | refine wp_seq ?_ | refine wp_block ?_ | refine wp_skip ?_ | refine wp_exit ?_
  refine rg (BT := [(26, 4, 0)]) (Vl := [Vi (n), Vi (arn (n) 100), Vi (arn (n) 100)]) (B := [⟨2, none, none, 26, 4, VT, VT⟩]) (SL' := [(3, Vi (arn (n) 100))]) st1 ⟨ks, ?s1, ks, trivial⟩ ?_
  case s1 =>
    refine kc fun _ ac Wd h hd => ?_
    obtain ⟨v0, hv0, hV0⟩ := h.dp hd 4
    exact ⟨#[v0, .int .i64 (100)], by simp [hv0, eval_const], cAround (show Vi (n) v0 Wd from hV0) (by omega) (by omega) (by omega) (by omega)⟩
  intro a2 w2 st2
  clear st1
  repeat first | refine wp_seq ?_ | refine wp_block ?_ | refine wp_skip ?_ | refine wp_exit ?_
  refine rg (BT := [(26, 4, 0)]) (Vl := [Vi (arn (n) 100), Vi ((arn (n) 100) % (25)), Vi (((arn (n) 100) % (25)) - (12)), Vi (arn (n) 100), Vi ((arn (n) 100) / (25)), Vi ((1) + ((arn (n) 100) / (25))), Vq 3 (Rat.divInt (((arn (n) 100) % (25)) - (12)) ((1) + ((arn (n) 100) / (25)))), VT]) (B := [⟨2, none, some 7, 26, 4, Vq 3 (Rat.divInt (((arn (n) 100) % (25)) - (12)) ((1) + ((arn (n) 100) / (25)))), VT⟩]) (SL' := []) st2 ⟨ks, ?s1, ?s2, ks, ?s4, ?s5, ?s6, ks, trivial⟩ ?_
  case s1 => refine kr fun _ ac Wd h hd => ?_; obtain ⟨v0, hv0, hV0⟩ := h.dp hd 6; have hV0' : v0 = .int .i64 (arn (n) 100) := hV0; exact ⟨_, run_remi rfl (hv0.trans hV0') rfl hk0 (by omega), rfl⟩
  case s2 =>
    refine kr fun _ ac Wd h hd => ?_
    obtain ⟨v0, hv0, hV0⟩ := h.dp hd 7
    have hV0' : v0 = .int .i64 ((arn (n) 100) % (25)) := hV0
    exact ⟨_, run_subi rfl (hv0.trans hV0') rfl (wrap_id (by omega) (by omega)), rfl⟩
  case s4 => refine kr fun _ ac Wd h hd => ?_; obtain ⟨v0, hv0, hV0⟩ := h.dp hd 9; have hV0' : v0 = .int .i64 (arn (n) 100) := hV0; exact ⟨_, run_quoi rfl (hv0.trans hV0') rfl ⟨hk0, by omega⟩ (by omega), rfl⟩
  case s5 =>
    refine kr fun _ ac Wd h hd => ?_
    obtain ⟨v1, hv1, hV1⟩ := h.dp hd 10
    have hV1' : v1 = .int .i64 ((arn (n) 100) / (25)) := hV1
    exact ⟨_, run_addi rfl rfl (hv1.trans hV1') (wrap_id (by omega) (by omega)), rfl⟩
  case s6 =>
    refine kc fun _ ac Wd h hd => ?_
    obtain ⟨v0, hv0, hV0⟩ := h.dp hd 8
    obtain ⟨v1, hv1, hV1⟩ := h.dp hd 11
    exact ⟨#[v0, v1], by simp [hv0, hv1], cR4Of (show Vi (((arn (n) 100) % (25)) - (12)) v0 Wd from hV0) (show Vi ((1) + ((arn (n) 100) / (25))) v1 Wd from hV1) (by omega) (by omega) (by omega) (by omega)⟩
  intro a3 w3 st3
  clear st2
  repeat first | refine wp_seq ?_ | refine wp_block ?_ | refine wp_skip ?_ | refine wp_exit ?_
  obtain ⟨g, cs, r1, r2, r3, r4, r5⟩ := st3.res ⟨2, none, none, 26, 4, Vq 3 (Rat.divInt (((arn (n) 100) % (25)) - (12)) ((1) + ((arn (n) 100) / (25)))), VT⟩ (.head _) rfl rfl
  exact wp_ret (bodyPost_ret (results_cell_row rfl _ _ g 26 cs (0, 0) _ r1 r2 Tryz.underlying26 rfl (by rw [r3]; exact size_Rat)) st3.defers ⟨_, rfl, r4, r5⟩)
set_option maxRecDepth 100000 in
set_option maxHeartbeats 1600000 in
theorem cVecL {w : World} {l : List Int} {ix : Int} {v0 v1 : Value} (h0 : VI l v0 w) (h1 : Vi (ix) v1 w) (hi0 : 0 ≤ ix) (hi1 : ix ≤ 1000000) : Calls Tryz.prog 8 #[v0, v1] w (RV (Vv 3 (numQ (atv l ix 100)) (numQ (atv l (ix + 1) 100))) w) := by
  go_enter Tryz.func8, Tryz.ntmps8
  have st0 : St w.heap.size w 15 [] [(0, VI l), (1, Vi (ix))] _ w := St.begin (a := ⟨#[v0, v1, undef, undef, undef, undef, undef, undef, undef, undef, undef, undef, undef, undef, undef], []⟩) rfl rfl (List.forall_mem_cons.2 ⟨⟨_, rfl, h0⟩, (List.forall_mem_cons.2 ⟨⟨_, rfl, h1⟩, (fun _ h => absurd h (by simp))⟩)⟩)
  generalize (⟨#[v0, v1, undef, undef, undef, undef, undef, undef, undef, undef, undef, undef, undef, undef, undef], []⟩ : Act) = a0 at st0 ⊢
  repeat first | refine wp_seq ?_ | refine wp_block ?_ | refine wp_skip ?_ | refine wp_exit ?_
  refine rg (BT := [(28, 8, 0)]) (Vl := [VT]) (B := [⟨4, some 0, none, 28, 8, VT, VT⟩]) (SL' := [(0, VI l), (1, Vi (ix))]) st0 ⟨ks, trivial⟩ ?_
  intro a1 w1 st1
  clear st0
  repeat first | refine wp_seq ?_ | refine wp_block ?_ | refine wp_skip ?_ | refine wp_exit ?_
  refine rg (BT := [(28, 8, 0)]) (Vl := [VI l, Vi (ix), Vi (atv l (ix) 100), Vq 3 (numQ (atv l (ix) 100)), VI l, Vi (ix), Vi ((ix) + (1)), Vi (atv l ((ix) + (1)) 100), Vq 3 (numQ (atv l ((ix) + (1)) 100)), Vv 3 (numQ (atv l (ix) 100)) (numQ (atv l ((ix) + (1)) 100)), VT]) (B := [⟨4, none, some 10, 28, 8, Vv 3 (numQ (atv l (ix) 100)) (numQ (atv l ((ix) + (1)) 100)), VT⟩]) (SL' := []) st1 ⟨ks, ks, ?s2, ?s3, ks, ks, ?s6, ?s7, ?s8, ?s9, ks, trivial⟩ ?_
  case s2 =>
    refine kc fun _ ac Wd h hd => ?_
    obtain ⟨v0, hv0, hV0⟩ := h.dp hd 5
    obtain ⟨v1, hv1, hV1⟩ := h.dp hd 6
    exact ⟨#[v0, v1, .int .i64 (100)], by simp [hv0, hv1, eval_const], cAt (show VI l v0 Wd from hV0) (show Vi (ix) v1 Wd from hV1) (by omega) (by omega) (by omega) (by omega)⟩
  case s3 =>
    refine kc fun _ ac Wd h hd => ?_
    obtain ⟨v0, hv0, hV0⟩ := h.dp hd 7
    exact ⟨#[v0], by simp [hv0], cNum (show Vi (atv l (ix) 100) v0 Wd from hV0) (atv_ge _ _ _ (by omega)) (atv_le _ _ _ (by omega) (by omega))⟩
  case s6 => refine kr fun _ ac Wd h hd => ?_; obtain ⟨v0, hv0, hV0⟩ := h.dp hd 10; have hV0' : v0 = .int .i64 (ix) := hV0; exact ⟨_, run_addi rfl (hv0.trans hV0') rfl (wrap_id (by omega) (by omega)), rfl⟩
  case s7 =>
    refine kc fun _ ac Wd h hd => ?_
    obtain ⟨v0, hv0, hV0⟩ := h.dp hd 9
    obtain ⟨v1, hv1, hV1⟩ := h.dp hd 11
    exact ⟨#[v0, v1, .int .i64 (100)], by simp [hv0, hv1, eval_const], cAt (show VI l v0 Wd from hV0) (show Vi ((ix) + (1)) v1 Wd from hV1) (by omega) (by omega) (by omega) (by omega)⟩
  case s8 =>
    refine kc fun _ ac Wd h hd => ?_
    obtain ⟨v0, hv0, hV0⟩ := h.dp hd 12
    exact ⟨#[v0], by simp [hv0], cNum (show Vi (atv l ((ix) + (1)) 100) v0 Wd from hV0) (atv_ge _ _ _ (by omega)) (atv_le _ _ _ (by omega) (by omega))⟩
  case s9 =>
    refine kr fun _ ac Wd h hd => ?_
    obtain ⟨v0, hv0, hV0⟩ := h.dp hd 8
    obtain ⟨v1, hv1, hV1⟩ := h.dp hd 13
    exact build_Vec rfl hv0 hv1 (AggV_Vq _ _) (AggV_Vq _ _) (show Vq 3 (numQ (atv l (ix) 100)) v0 Wd from hV0) (show Vq 3 (numQ (atv l ((ix) + (1)) 100)) v1 Wd from hV1)
  intro a2 w2 st2
  clear st1
  repeat first | refine wp_seq ?_ | refine wp_block ?_ | refine wp_skip ?_ | refine wp_exit ?_
  obtain ⟨g, cs, r1, r2, r3, r4, r5⟩ := st2.res ⟨4, none, none, 28, 8, Vv 3 (numQ (atv l (ix) 100)) (numQ (atv l ((ix) + (1)) 100)), VT⟩ (.head _) rfl rfl
  exact wp_ret (bodyPost_ret (results_cell_row rfl _ _ g 28 cs (0, 0) _ r1 r2 Tryz.underlying28 rfl (by rw [r3]; exact size_Vec)) st2.defers ⟨_, rfl, r4, r5⟩)
set_option maxRecDepth 100000 in
set_option maxHeartbeats 1600000 in
theorem cTurnN {w : World} {n : Int} {v0 : Value} (h0 : Vi (n) v0 w) (hn0 : -9223372036854775808 ≤ n) (hn1 : n ≤ 9223372036854775807) : Calls Tryz.prog 33 #[v0] w (RV (Vv 3 (turnC n) (turnS n)) w) := by
  go_enter Tryz.func33, Tryz.ntmps33
  have st0 : St w.heap.size w 53 [] [(0, Vi (n))] _ w := St.begin (a := ⟨#[v0, undef, undef, undef, undef, undef, undef, undef, undef, undef, undef, undef, undef, undef, undef, undef, undef, undef, undef, undef, undef, undef, undef, undef, undef, undef, undef, undef, undef, undef, undef, undef, undef, undef, undef, undef, undef, undef, undef, undef, undef, undef, undef, undef, undef, undef, undef, undef, undef, undef, undef, undef, undef], []⟩) rfl rfl (List.forall_mem_cons.2 ⟨⟨_, rfl, h0⟩, (fun _ h => absurd h (by simp))⟩)
  generalize (⟨#[v0, undef, undef, undef, undef, undef, undef, undef, undef, undef, undef, undef, undef, undef, undef, undef, undef, undef, undef, undef, undef, undef, undef, undef, undef, undef, undef, undef, undef, undef, undef, undef, undef, undef, undef, undef, undef, undef, undef, undef, undef, undef, undef, undef, undef, undef, undef, undef, undef, undef, undef, undef, undef], []⟩ : Act) = a0 at st0 ⊢
  have hk0 := arn_lo n 64 (by omega)
  have hk1 := arn_hi n 64 (by omega)
  have e1 : 1 ≤ tM n := tM_lo n
  have e2 := tM_hi n
  have e3 := tW_lo n
  have e4 := tW_hi n
  have m1 := mm_lo n
  have m2 := mm_hi n
  have w1 := ww_lo n
  have w2 := ww_hi n
  have p1 := mw_lo n
  have p2 := mw_hi n
  repeat first | refine wp_seq ?_ | refine wp_block ?_ | refine wp_skip ?_ | refine wp_exit ?_
  refine rg (BT := [(47, 8, 0)]) (Vl := [VT]) (B := [⟨2, some 0, none, 47, 8, VT, VT⟩]) (SL' := [(0, Vi (n))]) st0 ⟨ks, trivial⟩ ?_
  intro a1 w1 st1
  clear st0
  repeat first | refine wp_seq ?_ | refine wp_block ?_ | refine wp_skip ?_ | refine wp_exit ?_
  refine rg (BT := [(47, 8, 0)]) (Vl := [Vi (n), Vi (arn (n) 64), Vi (arn (n) 64)]) (B := [⟨2, none, none, 47, 8, VT, VT⟩]) (SL' := [(3, Vi (arn (n) 64))]) st1 ⟨ks, ?s1, ks, trivial⟩ ?_
  case s1 =>
    refine kc fun _ ac Wd h hd => ?_
    obtain ⟨v0, hv0, hV0⟩ := h.dp hd 9
    exact ⟨#[v0, .int .i64 (64)], by simp [hv0, eval_const], cAround (show Vi (n) v0 Wd from hV0) (by omega) (by omega) (by omega) (by omega)⟩
  intro a2 w2 st2
  clear st1
  repeat first | refine wp_seq ?_ | refine wp_block ?_ | refine wp_skip ?_ | refine wp_exit ?_
  refine rg (BT := [(47, 8, 0)]) (Vl := [Vi (arn (n) 64), Vi ((arn (n) 64) / (4)), Vi (((arn (n) 64) / (4)) % (4)), Vi (tM n), Vi (tM n)]) (B := [⟨2, none, none, 47, 8, VT, VT⟩]) (SL' := [(3, Vi (arn (n) 64)), (4, Vi (tM n))]) st2 ⟨ks, ?s1, ?s2, ?s3, ks, trivial⟩ ?_
  case s1 => refine kr fun _ ac Wd h hd => ?_; obtain ⟨v0, hv0, hV0⟩ := h.dp hd 11; have hV0' : v0 = .int .i64 (arn (n) 64) := hV0; exact ⟨_, run_quoi rfl (hv0.trans hV0') rfl ⟨hk0, by omega⟩ (by omega), rfl⟩
  case s2 => refine kr fun _ ac Wd h hd => ?_; obtain ⟨v0, hv0, hV0⟩ := h.dp hd 12; have hV0' : v0 = .int .i64 ((arn (n) 64) / (4)) := hV0; exact ⟨_, run_remi rfl (hv0.trans hV0') rfl (by omega) (by omega), rfl⟩
  case s3 =>
    refine kr fun _ ac Wd h hd => ?_
    obtain ⟨v1, hv1, hV1⟩ := h.dp hd 13
    have hV1' : v1 = .int .i64 (((arn (n) 64) / (4)) % (4)) := hV1
    exact ⟨_, run_addi rfl rfl (hv1.trans hV1') (wrap_id (by omega) (by omega)), congrArg (Value.int .i64) (rfl)⟩
  intro a3 w3 st3
  clear st2
  repeat first | refine wp_seq ?_ | refine wp_block ?_ | refine wp_skip ?_ | refine wp_exit ?_
  refine rg (BT := [(47, 8, 0)]) (Vl := [Vi (arn (n) 64), Vi (tW n), Vi (tW n)]) (B := [⟨2, none, none, 47, 8, VT, VT⟩]) (SL' := [(3, Vi (arn (n) 64)), (4, Vi (tM n)), (5, Vi (tW n))]) st3 ⟨ks, ?s1, ks, trivial⟩ ?_
  case s1 =>
    refine kr fun _ ac Wd h hd => ?_
    obtain ⟨v0, hv0, hV0⟩ := h.dp hd 15
    have hV0' : v0 = .int .i64 (arn (n) 64) := hV0
    exact ⟨_, run_quoi rfl (hv0.trans hV0') rfl ⟨hk0, by omega⟩ (by omega), congrArg (Value.int .i64) (rfl)⟩
  intro a4 w4 st4
  clear st3
  repeat first | refine wp_seq ?_ | refine wp_block ?_ | refine wp_skip ?_ | refine wp_exit ?_
  refine rg (BT := [(47, 8, 0)]) (Vl := [Vi (tM n), Vi (tM n), Vi ((tM n) * (tM n)), Vi (tW n), Vi (tW n), Vi ((tW n) * (tW n)), Vi (((tM n) * (tM n)) + ((tW n) * (tW n))), Vi (((tM n) * (tM n)) + ((tW n) * (tW n)))]) (B := [⟨2, none, none, 47, 8, VT, VT⟩]) (SL' := [(3, Vi (arn (n) 64)), (4, Vi (tM n)), (5, Vi (tW n)), (6, Vi (((tM n) * (tM n)) + ((tW n) * (tW n))))]) st4 ⟨ks, ks, ?s2, ks, ks, ?s5, ?s6, ks, trivial⟩ ?_
  case s2 =>
    refine kr fun _ ac Wd h hd => ?_
    obtain ⟨v0, hv0, hV0⟩ := h.dp hd 17
    have hV0' : v0 = .int .i64 (tM n) := hV0
    obtain ⟨v1, hv1, hV1⟩ := h.dp hd 18
    have hV1' : v1 = .int .i64 (tM n) := hV1
    exact ⟨_, run_muli rfl (hv0.trans hV0') (hv1.trans hV1') (wrap_id (by omega) (by omega)), rfl⟩
  case s5 =>
    refine kr fun _ ac Wd h hd => ?_
    obtain ⟨v0, hv0, hV0⟩ := h.dp hd 20
    have hV0' : v0 = .int .i64 (tW n) := hV0
    obtain ⟨v1, hv1, hV1⟩ := h.dp hd 21
    have hV1' : v1 = .int .i64 (tW n) := hV1
    exact ⟨_, run_muli rfl (hv0.trans hV0') (hv1.trans hV1') (wrap_id (by omega) (by omega)), rfl⟩
  case s6 =>
    refine kr fun _ ac Wd h hd => ?_
    obtain ⟨v0, hv0, hV0⟩ := h.dp hd 19
    have hV0' : v0 = .int .i64 ((tM n) * (tM n)) := hV0
    obtain ⟨v1, hv1, hV1⟩ := h.dp hd 22
    have hV1' : v1 = .int .i64 ((tW n) * (tW n)) := hV1
    exact ⟨_, run_addi rfl (hv0.trans hV0') (hv1.trans hV1') (wrap_id (by omega) (by omega)), rfl⟩
  intro a5 w5 st5
  clear st4
  repeat first | refine wp_seq ?_ | refine wp_block ?_ | refine wp_skip ?_ | refine wp_exit ?_
  refine rg (BT := [(47, 8, 0)]) (Vl := [Vi (tM n), Vi (tM n), Vi ((tM n) * (tM n)), Vi (tW n), Vi (tW n), Vi ((tW n) * (tW n)), Vi (((tM n) * (tM n)) - ((tW n) * (tW n))), Vi (((tM n) * (tM n)) + ((tW n) * (tW n))), Vq 3 (Rat.divInt (((tM n) * (tM n)) - ((tW n) * (tW n))) (((tM n) * (tM n)) + ((tW n) * (tW n)))), Vi (tM n), Vi ((2) * (tM n)), Vi (tW n), Vi (((2) * (tM n)) * (tW n)), Vi (((tM n) * (tM n)) + ((tW n) * (tW n))), Vq 3 (Rat.divInt (((2) * (tM n)) * (tW n)) (((tM n) * (tM n)) + ((tW n) * (tW n)))), Vv 3 (Rat.divInt (((tM n) * (tM n)) - ((tW n) * (tW n))) (((tM n) * (tM n)) + ((tW n) * (tW n)))) (Rat.divInt (((2) * (tM n)) * (tW n)) (((tM n) * (tM n)) + ((tW n) * (tW n)))), VT, VT]) (B := [⟨2, none, none, 47, 8, VT, VT⟩, ⟨7, some 16, some 17, 47, 8, Vv 3 (Rat.divInt (((tM n) * (tM n)) - ((tW n) * (tW n))) (((tM n) * (tM n)) + ((tW n) * (tW n)))) (Rat.divInt (((2) * (tM n)) * (tW n)) (((tM n) * (tM n)) + ((tW n) * (tW n)))), VT⟩]) (SL' := [(3, Vi (arn (n) 64)), (4, Vi (tM n)), (5, Vi (tW n))]) st5 ⟨ks, ks, ?s2, ks, ks, ?s5, ?s6, ks, ?s8, ks, ?s10, ks, ?s12, ks, ?s14, ?s15, ks, ks, trivial⟩ ?_
  case s2 =>
    refine kr fun _ ac Wd h hd => ?_
    obtain ⟨v0, hv0, hV0⟩ := h.dp hd 24
    have hV0' : v0 = .int .i64 (tM n) := hV0
    obtain ⟨v1, hv1, hV1⟩ := h.dp hd 25
    have hV1' : v1 = .int .i64 (tM n) := hV1
    exact ⟨_, run_muli rfl (hv0.trans hV0') (hv1.trans hV1') (wrap_id (by omega) (by omega)), rfl⟩
  case s5 =>
    refine kr fun _ ac Wd h hd => ?_
    obtain ⟨v0, hv0, hV0⟩ := h.dp hd 27
    have hV0' : v0 = .int .i64 (tW n) := hV0
    obtain ⟨v1, hv1, hV1⟩ := h.dp hd 28
    have hV1' : v1 = .int .i64 (tW n) := hV1
    exact ⟨_, run_muli rfl (hv0.trans hV0') (hv1.trans hV1') (wrap_id (by omega) (by omega)), rfl⟩
  case s6 =>
    refine kr fun _ ac Wd h hd => ?_
    obtain ⟨v0, hv0, hV0⟩ := h.dp hd 26
    have hV0' : v0 = .int .i64 ((tM n) * (tM n)) := hV0
    obtain ⟨v1, hv1, hV1⟩ := h.dp hd 29
    have hV1' : v1 = .int .i64 ((tW n) * (tW n)) := hV1
    exact ⟨_, run_subi rfl (hv0.trans hV0') (hv1.trans hV1') (wrap_id (by omega) (by omega)), rfl⟩
  case s8 =>
    refine kc fun _ ac Wd h hd => ?_
    obtain ⟨v0, hv0, hV0⟩ := h.dp hd 30
    obtain ⟨v1, hv1, hV1⟩ := h.dp hd 31
    exact ⟨#[v0, v1], by simp [hv0, hv1], cR4Of (show Vi (((tM n) * (tM n)) - ((tW n) * (tW n))) v0 Wd from hV0) (show Vi (((tM n) * (tM n)) + ((tW n) * (tW n))) v1 Wd from hV1) (by omega) (by omega) (by omega) (by omega)⟩
  case s10 => refine kr fun _ ac Wd h hd => ?_; obtain ⟨v1, hv1, hV1⟩ := h.dp hd 33; have hV1' : v1 = .int .i64 (tM n) := hV1; exact ⟨_, run_muli rfl rfl (hv1.trans hV1') (wrap_id (by omega) (by omega)), rfl⟩
  case s12 =>
    refine kr fun _ ac Wd h hd => ?_
    obtain ⟨v0, hv0, hV0⟩ := h.dp hd 34
    have hV0' : v0 = .int .i64 ((2) * (tM n)) := hV0
    obtain ⟨v1, hv1, hV1⟩ := h.dp hd 35
    have hV1' : v1 = .int .i64 (tW n) := hV1
    exact ⟨_, run_muli rfl (hv0.trans hV0') (hv1.trans hV1') (wrap_id (by omega) (by omega)), rfl⟩
  case s14 =>
    refine kc fun _ ac Wd h hd => ?_
    obtain ⟨v0, hv0, hV0⟩ := h.dp hd 36
    obtain ⟨v1, hv1, hV1⟩ := h.dp hd 37
    exact ⟨#[v0, v1], by simp [hv0, hv1], cR4Of (show Vi (((2) * (tM n)) * (tW n)) v0 Wd from hV0) (show Vi (((tM n) * (tM n)) + ((tW n) * (tW n))) v1 Wd from hV1) (by omega) (by omega) (by omega) (by omega)⟩
  case s15 =>
    refine kr fun _ ac Wd h hd => ?_
    obtain ⟨v0, hv0, hV0⟩ := h.dp hd 32
    obtain ⟨v1, hv1, hV1⟩ := h.dp hd 38
    exact build_Turn rfl hv0 hv1 (AggV_Vq _ _) (AggV_Vq _ _) (show Vq 3 (Rat.divInt (((tM n) * (tM n)) - ((tW n) * (tW n))) (((tM n) * (tM n)) + ((tW n) * (tW n)))) v0 Wd from hV0) (show Vq 3 (Rat.divInt (((2) * (tM n)) * (tW n)) (((tM n) * (tM n)) + ((tW n) * (tW n)))) v1 Wd from hV1)
  intro a6 w6 st6
  clear st5
  repeat first | refine wp_seq ?_ | refine wp_block ?_ | refine wp_skip ?_ | refine wp_exit ?_
  refine rg (BT := [(47, 8, 0)]) (Vl := [Vi (0)]) (B := [⟨2, none, none, 47, 8, VT, VT⟩, ⟨7, none, none, 47, 8, Vv 3 (Rat.divInt (((tM n) * (tM n)) - ((tW n) * (tW n))) (((tM n) * (tM n)) + ((tW n) * (tW n)))) (Rat.divInt (((2) * (tM n)) * (tW n)) (((tM n) * (tM n)) + ((tW n) * (tW n)))), VT⟩]) (SL' := [(3, Vi (arn (n) 64)), (4, Vi (tM n)), (5, Vi (tW n)), (8, Vi (0))]) st6 ⟨ks, trivial⟩ ?_
  intro a7 w7 st7
  clear st6
  replace st7 : St w.heap.size w 53 [⟨2, none, none, 47, 8, VT, VT⟩, ⟨7, none, none, 47, 8, Vv 3 ((tIt 0 (tC0 n) (tS0 n)).1) ((tIt 0 (tC0 n) (tS0 n)).2), VT⟩] [(3, Vi (arn (n) 64)), (4, Vi (tM n)), (5, Vi (tW n)), (8, Vi (((0 : Nat) : Int)))] a7 w7 := st7
  repeat first | refine wp_seq ?_ | refine wp_block ?_ | refine wp_skip ?_ | refine wp_exit ?_
  refine wp_loop_ghost (fun m aX wX => ∃ j : Nat, j + m = (arn n 64 % 4).toNat ∧ St w.heap.size w 53 [⟨2, none, none, 47, 8, VT, VT⟩, ⟨7, none, none, 47, 8, Vv 3 ((tIt j (tC0 n) (tS0 n)).1) ((tIt j (tC0 n) (tS0 n)).2), VT⟩] [(3, Vi (arn (n) 64)), (8, Vi ((j : Int)))] aX wX) (arn n 64 % 4).toNat ⟨0, by omega, st7.cut⟩ ?_
  clear st7
  intro m aL wL ⟨j, hj, st7⟩
  by_cases hlt : (j : Int) < (arn n 64) % 4
  ·
    repeat first | refine wp_seq ?_ | refine wp_block ?_ | refine wp_skip ?_ | refine wp_exit ?_
    refine rg (BT := [(47, 8, 0)]) (Vl := [Vi ((j : Int)), Vi (arn (n) 64), Vi ((arn (n) 64) % (4)), Vb (true)]) (B := [⟨2, none, none, 47, 8, VT, VT⟩, ⟨7, none, none, 47, 8, Vv 3 ((tIt j (tC0 n) (tS0 n)).1) ((tIt j (tC0 n) (tS0 n)).2), VT⟩]) (SL' := [(3, Vi (arn (n) 64)), (8, Vi ((j : Int))), (43, Vb (true))]) st7 ⟨ks, ks, ?s2, ?s3, trivial⟩ ?_
    case s2 => refine kr fun _ ac Wd h hd => ?_; obtain ⟨v0, hv0, hV0⟩ := h.dp hd 41; have hV0' : v0 = .int .i64 (arn (n) 64) := hV0; exact ⟨_, run_remi rfl (hv0.trans hV0') rfl hk0 (by omega), rfl⟩
    case s3 =>
      refine kr fun _ ac Wd h hd => ?_
      obtain ⟨v0, hv0, hV0⟩ := h.dp hd 40
      have hV0' : v0 = .int .i64 ((j : Int)) := hV0
      obtain ⟨v1, hv1, hV1⟩ := h.dp hd 42
      have hV1' : v1 = .int .i64 ((arn (n) 64) % (4)) := hV1
      exact ⟨_, run_lssi rfl (hv0.trans hV0') (hv1.trans hV1'), congrArg Value.bool (decide_eq_true hlt)⟩
    intro a8 w8 st8
    clear st7
    repeat first | refine wp_seq ?_ | refine wp_block ?_ | refine wp_skip ?_ | refine wp_exit ?_
    obtain ⟨vc, hc1, hc2⟩ := st8.slot (43, Vb (true)) (.tail _ (.tail _ (.head _)))
    refine wp_cond_true (hc1.trans hc2) ?_
    clear hc1 hc2
    repeat first | refine wp_seq ?_ | refine wp_block ?_ | refine wp_skip ?_ | refine wp_exit ?_
    refine rg (BT := [(47, 8, 0)]) (Vl := [Vpt a8 7 4, Vq 3 ((tIt j (tC0 n) (tS0 n)).2), Vq 3 (-((tIt j (tC0 n) (tS0 n)).2)), Vpt a8 7 0, Vq 3 ((tIt j (tC0 n) (tS0 n)).1), Vv 3 (-((tIt j (tC0 n) (tS0 n)).2)) ((tIt j (tC0 n) (tS0 n)).1), VT]) (B := [⟨2, none, none, 47, 8, VT, VT⟩, ⟨7, none, some 6, 47, 8, Vv 3 (-((tIt j (tC0 n) (tS0 n)).2)) ((tIt j (tC0 n) (tS0 n)).1), Vv 3 ((tIt j (tC0 n) (tS0 n)).1) ((tIt j (tC0 n) (tS0 n)).2)⟩]) (SL' := [(3, Vi (arn (n) 64)), (8, Vi ((j : Int))), (43, Vb (true))]) st8 ⟨ks, ?s1, ?s2, ks, ?s4, ?s5, ks, trivial⟩ ?_
    case s1 =>
      exact k_part0 (j := 0) (off := 4) (k := 4) SbB.out (by kernel_rfl) (.tail _ (.head _)) rfl rfl rfl (by kernel_rfl) (by kernel_rfl) (by kernel_rfl) rfl (by kernel_rfl) (Nat.le_of_ble_eq_true rfl) (fun cs w h => (VP2_snd h)) Tryz.underlying26 rfl size_Rat fun listed ac Wd h hd => ⟨trivial, trivial⟩
    case s2 => refine kc fun _ ac Wd h hd => ?_; obtain ⟨v0, hv0, hV0⟩ := h.dp hd 47; exact ⟨#[v0], by simp [hv0], cR4Neg (show Vq 3 ((tIt j (tC0 n) (tS0 n)).2) v0 Wd from hV0) (by omega)⟩
    case s4 =>
      exact k_part0 (j := 3) (off := 0) (k := 4) SbB.out (by kernel_rfl) (.tail _ (.head _)) rfl rfl rfl (by kernel_rfl) (by kernel_rfl) (by kernel_rfl) rfl (by kernel_rfl) (Nat.le_of_ble_eq_true rfl) (fun cs w h => (VP2_fst h)) Tryz.underlying26 rfl size_Rat fun listed ac Wd h hd => ⟨trivial, trivial⟩
    case s5 =>
      refine kr fun _ ac Wd h hd => ?_
      obtain ⟨v0, hv0, hV0⟩ := h.dp hd 48
      obtain ⟨v1, hv1, hV1⟩ := h.dp hd 50
      exact build_Turn rfl hv0 hv1 (AggV_Vq _ _) (AggV_Vq _ _) (show Vq 3 (-((tIt j (tC0 n) (tS0 n)).2)) v0 Wd from hV0) (show Vq 3 ((tIt j (tC0 n) (tS0 n)).1) v1 Wd from hV1)
    intro a9 w9 st9
    clear st8
    repeat first | refine wp_seq ?_ | refine wp_block ?_ | refine wp_skip ?_ | refine wp_exit ?_
    refine rg (BT := [(47, 8, 0)]) (Vl := [Vi ((j : Int)), Vi (((j + 1 : Nat) : Int)), Vi (((j + 1 : Nat) : Int))]) (B := [⟨2, none, none, 47, 8, VT, VT⟩, ⟨7, none, none, 47, 8, Vv 3 (-((tIt j (tC0 n) (tS0 n)).2)) ((tIt j (tC0 n) (tS0 n)).1), VT⟩]) (SL' := [(3, Vi (arn (n) 64)), (43, Vb (true)), (8, Vi (((j + 1 : Nat) : Int)))]) st9 ⟨?s0, ?s1, ks, trivial⟩ ?_
    case s0 =>
      refine k_run0 SbB.out (by kernel_rfl) fun listed ac Wd h hd hnl => ⟨trivial, ?_⟩
      obtain ⟨v0, hv0, hV0⟩ := h.out0 hnl (8, Vi ((j : Int))) (.tail _ (.head _)) 2 (by kernel_rfl) (.inr (by kernel_rfl))
      exact ⟨_, run_move rfl, by rw [hv0]; exact hV0⟩
    case s1 =>
      refine kr fun _ ac Wd h hd => ?_
      obtain ⟨v0, hv0, hV0⟩ := h.dp hd 44
      have hV0' : v0 = .int .i64 ((j : Int)) := hV0
      exact ⟨_, run_addi rfl (hv0.trans hV0') rfl (wrap_id (by omega) (by omega)), congrArg (Value.int .i64) (by omega)⟩
    intro a10 w10 st10
    clear st9
    replace st10 : St w.heap.size w 53 [⟨2, none, none, 47, 8, VT, VT⟩, ⟨7, none, none, 47, 8, Vv 3 ((tIt (j + 1) (tC0 n) (tS0 n)).1) ((tIt (j + 1) (tC0 n) (tS0 n)).2), VT⟩] [(3, Vi (arn (n) 64)), (43, Vb (true)), (8, Vi (((j + 1 : Nat) : Int)))] a10 w10 := st10
    exact ⟨m - 1, by omega, j + 1, by omega, st10.cut⟩
  ·
    repeat first | refine wp_seq ?_ | refine wp_block ?_ | refine wp_skip ?_ | refine wp_exit ?_
    refine rg (BT := [(47, 8, 0)]) (Vl := [Vi ((j : Int)), Vi (arn (n) 64), Vi ((arn (n) 64) % (4)), Vb (false)]) (B := [⟨2, none, none, 47, 8, VT, VT⟩, ⟨7, none, none, 47, 8, Vv 3 ((tIt j (tC0 n) (tS0 n)).1) ((tIt j (tC0 n) (tS0 n)).2), VT⟩]) (SL' := [(3, Vi (arn (n) 64)), (8, Vi ((j : Int))), (43, Vb (false))]) st7 ⟨ks, ks, ?s2, ?s3, trivial⟩ ?_
    case s2 => refine kr fun _ ac Wd h hd => ?_; obtain ⟨v0, hv0, hV0⟩ := h.dp hd 41; have hV0' : v0 = .int .i64 (arn (n) 64) := hV0; exact ⟨_, run_remi rfl (hv0.trans hV0') rfl hk0 (by omega), rfl⟩
    case s3 =>
      refine kr fun _ ac Wd h hd => ?_
      obtain ⟨v0, hv0, hV0⟩ := h.dp hd 40
      have hV0' : v0 = .int .i64 ((j : Int)) := hV0
      obtain ⟨v1, hv1, hV1⟩ := h.dp hd 42
      have hV1' : v1 = .int .i64 ((arn (n) 64) % (4)) := hV1
      exact ⟨_, run_lssi rfl (hv0.trans hV0') (hv1.trans hV1'), congrArg Value.bool (decide_eq_false hlt)⟩
    intro a8 w8 st8
    clear st7
    repeat first | refine wp_seq ?_ | refine wp_block ?_ | refine wp_skip ?_ | refine wp_exit ?_
    obtain ⟨vc, hc1, hc2⟩ := st8.slot (43, Vb (false)) (.tail _ (.tail _ (.head _)))
    refine wp_cond_false (hc1.trans hc2) ?_
    clear hc1 hc2
    have hje : (arn n 64 % 4).toNat = j := by omega
    repeat first | refine wp_seq ?_ | refine wp_block ?_ | refine wp_skip ?_ | refine wp_exit ?_
    refine rg (BT := [(47, 8, 0)]) (Vl := [Vv 3 ((tIt j (tC0 n) (tS0 n)).1) ((tIt j (tC0 n) (tS0 n)).2), VT]) (B := [⟨2, none, some 1, 47, 8, Vv 3 ((tIt j (tC0 n) (tS0 n)).1) ((tIt j (tC0 n) (tS0 n)).2), VT⟩, ⟨7, none, none, 47, 8, Vv 3 ((tIt j (tC0 n) (tS0 n)).1) ((tIt j (tC0 n) (tS0 n)).2), VT⟩]) (SL' := [(3, Vi (arn (n) 64)), (8, Vi ((j : Int))), (43, Vb (false))]) st8 ⟨ks, ks, trivial⟩ ?_
    intro a9 w9 st9
    clear st8
    repeat first | refine wp_seq ?_ | refine wp_block ?_ | refine wp_skip ?_ | refine wp_exit ?_
    obtain ⟨g, cs, r1, r2, r3, r4, r5⟩ := st9.res ⟨2, none, none, 47, 8, Vv 3 ((tIt j (tC0 n) (tS0 n)).1) ((tIt j (tC0 n) (tS0 n)).2), VT⟩ (.head _) rfl rfl
    exact wp_ret (bodyPost_ret (results_cell_row rfl _ _ g 47 cs (0, 0) _ r1 r2 Tryz.underlying47 rfl (by rw [r3]; exact size_Turn)) st9.defers ⟨_, rfl, (by unfold turnC turnS; rw [hje]; exact r4), r5⟩)
set_option maxRecDepth 100000 in
set_option maxHeartbeats 1600000 in
theorem cPlaceL {w : World} {l : List Int} {ix : Int} {v0 v1 : Value} (h0 : VI l v0 w) (h1 : Vi (ix) v1 w) (hi0 : 0 ≤ ix) (hi1 : ix ≤ 100000) : Calls Tryz.prog 48 #[v0, v1] w (RV (Vp 3 (turnC (atv l ix 64)) (turnS (atv l ix 64)) (numQ (atv l (ix + 1) 100)) (numQ (atv l (ix + 1 + 1) 100))) w) := by
  go_enter Tryz.func48, Tryz.ntmps48
  have st0 : St w.heap.size w 14 [] [(0, VI l), (1, Vi (ix))] _ w := St.begin (a := ⟨#[v0, v1, undef, undef, undef, undef, undef, undef, undef, undef, undef, undef, undef, undef], []⟩) rfl rfl (List.forall_mem_cons.2 ⟨⟨_, rfl, h0⟩, (List.forall_mem_cons.2 ⟨⟨_, rfl, h1⟩, (fun _ h => absurd h (by simp))⟩)⟩)
  generalize (⟨#[v0, v1, undef, undef, undef, undef, undef, undef, undef, undef, undef, undef, undef, undef], []⟩ : Act) = a0 at st0 ⊢
  repeat first | refine wp_seq ?_ | refine wp_block ?_ | refine wp_skip ?_ | refine wp_exit ?_
  refine rg (BT := [(60, 16, 0)]) (Vl := [VT]) (B := [⟨4, some 0, none, 60, 16, VT, VT⟩]) (SL' := [(0, VI l), (1, Vi (ix))]) st0 ⟨ks, trivial⟩ ?_
  intro a1 w1 st1
  clear st0
  repeat first | refine wp_seq ?_ | refine wp_block ?_ | refine wp_skip ?_ | refine wp_exit ?_
  refine rg (BT := [(60, 16, 0)]) (Vl := [VI l, Vi (ix), Vi (atv l (ix) 64), Vv 3 (turnC (atv l (ix) 64)) (turnS (atv l (ix) 64)), VI l, Vi (ix), Vi ((ix) + (1)), Vv 3 (numQ (atv l ((ix) + (1)) 100)) (numQ (atv l ((ix) + (1) + 1) 100)), Vp 3 (turnC (atv l (ix) 64)) (turnS (atv l (ix) 64)) (numQ (atv l ((ix) + (1)) 100)) (numQ (atv l ((ix) + (1) + 1) 100)), VT]) (B := [⟨4, none, some 9, 60, 16, Vp 3 (turnC (atv l (ix) 64)) (turnS (atv l (ix) 64)) (numQ (atv l ((ix) + (1)) 100)) (numQ (atv l ((ix) + (1) + 1) 100)), VT⟩]) (SL' := []) st1 ⟨ks, ks, ?s2, ?s3, ks, ks, ?s6, ?s7, ?s8, ks, trivial⟩ ?_
  case s2 =>
    refine kc fun _ ac Wd h hd => ?_
    obtain ⟨v0, hv0, hV0⟩ := h.dp hd 5
    obtain ⟨v1, hv1, hV1⟩ := h.dp hd 6
    exact ⟨#[v0, v1, .int .i64 (64)], by simp [hv0, hv1, eval_const], cAt (show VI l v0 Wd from hV0) (show Vi (ix) v1 Wd from hV1) (by omega) (by omega) (by omega) (by omega)⟩
  case s3 =>
    refine kc fun _ ac Wd h hd => ?_
    obtain ⟨v0, hv0, hV0⟩ := h.dp hd 7
    exact ⟨#[v0], by simp [hv0], cTurnN (show Vi (atv l (ix) 64) v0 Wd from hV0) (atv_ge _ _ _ (by omega)) (atv_le _ _ _ (by omega) (by omega))⟩
  case s6 => refine kr fun _ ac Wd h hd => ?_; obtain ⟨v0, hv0, hV0⟩ := h.dp hd 10; have hV0' : v0 = .int .i64 (ix) := hV0; exact ⟨_, run_addi rfl (hv0.trans hV0') rfl (wrap_id (by omega) (by omega)), rfl⟩
  case s7 =>
    refine kc fun _ ac Wd h hd => ?_
    obtain ⟨v0, hv0, hV0⟩ := h.dp hd 9
    obtain ⟨v1, hv1, hV1⟩ := h.dp hd 11
    exact ⟨#[v0, v1], by simp [hv0, hv1], cVecL (show VI l v0 Wd from hV0) (show Vi ((ix) + (1)) v1 Wd from hV1) (by omega) (by omega)⟩
  case s8 =>
    refine kr fun _ ac Wd h hd => ?_
    obtain ⟨v0, hv0, hV0⟩ := h.dp hd 8
    obtain ⟨v1, hv1, hV1⟩ := h.dp hd 12
    exact build_Place rfl hv0 hv1 (AggV_Vv _ _ _) (AggV_Vv _ _ _) (show Vv 3 (turnC (atv l (ix) 64)) (turnS (atv l (ix) 64)) v0 Wd from hV0) (show Vv 3 (numQ (atv l ((ix) + (1)) 100)) (numQ (atv l ((ix) + (1) + 1) 100)) v1 Wd from hV1)
  intro a2 w2 st2
  clear st1
  repeat first | refine wp_seq ?_ | refine wp_block ?_ | refine wp_skip ?_ | refine wp_exit ?_
  obtain ⟨g, cs, r1, r2, r3, r4, r5⟩ := st2.res ⟨4, none, none, 60, 16, Vp 3 (turnC (atv l (ix) 64)) (turnS (atv l (ix) 64)) (numQ (atv l ((ix) + (1)) 100)) (numQ (atv l ((ix) + (1) + 1) 100)), VT⟩ (.head _) rfl rfl
  exact wp_ret (bodyPost_ret (results_cell_row rfl _ _ g 60 cs (0, 0) _ r1 r2 Tryz.underlying60 rfl (by rw [r3]; exact size_Place)) st2.defers ⟨_, rfl, r4, r5⟩)
end Go.Proofs.YteaoaoknpihchaaGreat
