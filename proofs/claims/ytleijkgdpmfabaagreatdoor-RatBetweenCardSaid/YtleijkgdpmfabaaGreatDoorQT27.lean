/- The reference: inverse, least. -/
import Derived.Test.YtleijkgdpmfabaaGreatDoorQX4
import Derived.Test.YtleijkgdpmfabaaGreatDoorQT26
import Derived.Test.YtleijkgdpmfabaaGreatDoorQT24
set_option linter.unusedVariables false
namespace Go.Proofs.YtleijkgdpmfabaaGreatDoor
open Go.RowKit
theorem whole_q {M : Nat} {c : Int} {v : Value} {w : World} (h : VP2 2 2 (Vz M c) (Vz M 0) v w) : Vq M (Rat.divInt c 1) v w := by
  obtain ⟨e1, e2⟩ := whole_n c
  unfold Vq
  rw [e1, show qd (Rat.divInt c 1) = 0 from if_pos (by omega)]
  exact h
theorem build_whole {ρ : Operand → Value} {o : Oper} {W : World} {x : Operand} {va : Value} {M : Nat} {c : Int} (ho : o.op = .build 27 #[(0, x)]) (hx : ρ x = va) (h1 : Vz M c va W) : ∃ v, (execOp ρ o).run Tryz.prog W = .ok (.value v) W ∧ Vq M (Rat.divInt c 1) v W := by
  obtain ⟨v, h2, h3⟩ := build_Rat1 M ho hx (AggV_Vz _ _) h1
  exact ⟨v, h2, whole_q h3⟩
set_option maxRecDepth 100000 in
set_option maxHeartbeats 1600000 in
theorem cR4Inv {w : World} {N : Nat} {q : Rat} {v0 : Value} (h0 : Vq N (q) v0 w) (h3 : 3 ≤ N) (hN : N ≤ 100000) (hq : 0 < q.num) : Calls Tryz.prog 128 #[v0] w (RV (Vq N q⁻¹) w) := by
  go_enter Tryz.func128, Tryz.ntmps128
  have st0 : St w.heap.size w 8 [] [(0, Vq N (q))] _ w := St.begin (a := ⟨#[v0, undef, undef, undef, undef, undef, undef, undef], []⟩) rfl rfl (List.forall_mem_cons.2 ⟨⟨_, rfl, h0⟩, (fun _ h => absurd h (by simp))⟩)
  generalize (⟨#[v0, undef, undef, undef, undef, undef, undef, undef], []⟩ : Act) = a0 at st0 ⊢
  repeat first|refine wp_seq ?_|refine wp_block ?_|refine wp_skip ?_|refine wp_exit ?_
  refine rg (BT := [(27, 4, 0)]) (Vl := [VT, VT]) (B := [⟨1, some 0, some 0, 27, 4, Vq N (q), VT⟩, ⟨2, some 1, none, 27, 4, VT, VT⟩]) (SL' := []) st0 ⟨ks, ks, trivial⟩ ?_
  intro a1 w1 st1
  clear st0
  repeat first|refine wp_seq ?_|refine wp_block ?_|refine wp_skip ?_|refine wp_exit ?_
  refine rg (BT := [(27, 4, 0)]) (Vl := [Vq N (q), Vz N (((q).den : Int)), Vpt a1 1 0, Vz N ((q).num), Vq N (Rat.divInt (((q).den : Int)) ((q).num)), VT]) (B := [⟨1, none, none, 27, 4, Vq N (q), VT⟩, ⟨2, none, some 5, 27, 4, Vq N (Rat.divInt (((q).den : Int)) ((q).num)), VT⟩]) (SL' := []) st1 ⟨ks, ?s1, ks, ks, ?s4, ks, trivial⟩ ?_
  case s1 => refine kc fun _ ac Wd h hd => ?_; obtain ⟨v0, hv0, hV0⟩ := h.dp hd 3; exact ⟨#[v0], by simp [hv0], cR4Den (show Vq N (q) v0 Wd from hV0) (by omega)⟩
  case s4 =>
    refine kc fun _ ac Wd h hd => ?_
    obtain ⟨v0, hv0, hV0⟩ := h.dp hd 4
    obtain ⟨v1, hv1, hV1⟩ := h.dp hd 6
    exact ⟨#[v0, v1], by simp [hv0, hv1], cR4Make (show Vz N (((q).den : Int)) v0 Wd from hV0) (show Vz N ((q).num) v1 Wd from hV1) (by omega) (by omega)⟩
  intro a2 w2 st2
  clear st1
  repeat first|refine wp_seq ?_|refine wp_block ?_|refine wp_skip ?_|refine wp_exit ?_
  obtain ⟨g, cs, r1, r2, r3, r4, r5⟩ := st2.res ⟨2, none, none, 27, 4, Vq N (Rat.divInt (((q).den : Int)) ((q).num)), VT⟩ (.tail _ (.head _)) rfl rfl
  exact wp_ret (bodyPost_ret (results_cell_row rfl _ _ g 27 cs (0, 0) _ r1 r2 Tryz.underlying27 rfl (by rw [r3]; exact size_Rat)) st2.defers ⟨_, rfl, (by have h := inv_low hq; rw [show q⁻¹ = Rat.divInt (q.den : Int) q.num by rw [← h.1, ← h.2, Rat.num_divInt_den]]; exact r4), r5⟩)
set_option maxRecDepth 100000 in
set_option maxHeartbeats 1600000 in
theorem cR4least1 {w : World} {N : Nat} {a b : Rat} {ce : Int} {v0 v1 : Value} (h0 : Vq N (a) v0 w) (h1 : Vq N (b) v1 w) (h3 : 3 ≤ N) (hN : N ≤ 1000) (hce : -(dq (-a).num ((-a).den : Int)) = ce) (hc : cmpQ (Rat.divInt ce 1) b ≤ 0) : Calls Tryz.prog 98 #[v0, v1] w (RV (Vq (N + 1) (Rat.divInt ce 1)) w) := by
  go_enter Tryz.func98, Tryz.ntmps98
  have st0 : St w.heap.size w 30 [] [(0, Vq N (a)), (1, Vq N (b))] _ w := St.begin (a := ⟨#[v0, v1, undef, undef, undef, undef, undef, undef, undef, undef, undef, undef, undef, undef, undef, undef, undef, undef, undef, undef, undef, undef, undef, undef, undef, undef, undef, undef, undef, undef], []⟩) rfl rfl (List.forall_mem_cons.2 ⟨⟨_, rfl, h0⟩, (List.forall_mem_cons.2 ⟨⟨_, rfl, h1⟩, (fun _ h => absurd h (by simp))⟩)⟩)
  generalize (⟨#[v0, v1, undef, undef, undef, undef, undef, undef, undef, undef, undef, undef, undef, undef, undef, undef, undef, undef, undef, undef, undef, undef, undef, undef, undef, undef, undef, undef, undef, undef], []⟩ : Act) = a0 at st0 ⊢
  repeat first|refine wp_seq ?_|refine wp_block ?_|refine wp_skip ?_|refine wp_exit ?_
  refine rg (BT := [(27, 4, 0)]) (Vl := [VT, VT, VT]) (B := [⟨2, some 0, some 0, 27, 4, Vq N (a), VT⟩, ⟨3, some 1, some 1, 27, 4, Vq N (b), VT⟩, ⟨4, some 2, none, 27, 4, VT, VT⟩]) (SL' := []) st0 ⟨ks, ks, ks, trivial⟩ ?_
  intro a1 w1 st1
  clear st0
  repeat first|refine wp_seq ?_|refine wp_block ?_|refine wp_skip ?_|refine wp_exit ?_
  refine rg (BT := [(27, 4, 0)]) (Vl := [Vq N (a), Vz (N + 1) (ce), Vq (N + 1) (Rat.divInt (ce) 1), VT, VT]) (B := [⟨2, none, none, 27, 4, Vq N (a), VT⟩, ⟨3, none, none, 27, 4, Vq N (b), VT⟩, ⟨4, none, none, 27, 4, VT, VT⟩, ⟨5, some 3, some 4, 27, 4, Vq (N + 1) (Rat.divInt (ce) 1), VT⟩]) (SL' := []) st1 ⟨ks, ?s1, ?s2, ks, ks, trivial⟩ ?_
  case s1 =>
    refine kc fun _ ac Wd h hd => ?_
    obtain ⟨v0, hv0, hV0⟩ := h.dp hd 7
    exact ⟨#[v0], by simp [hv0], (cR4Ceil (show Vq N (a) v0 Wd from hV0) (by omega) (by omega)).mono fun e w h => h.le fun v w hv => by rw [hce] at hv; exact hv⟩
  case s2 => refine kr fun _ ac Wd h hd => ?_; obtain ⟨v0, hv0, hV0⟩ := h.dp hd 8; exact build_whole rfl hv0 hV0
  intro a2 w2 st2
  clear st1
  repeat first|refine wp_seq ?_|refine wp_block ?_|refine wp_skip ?_|refine wp_exit ?_
  refine rg (BT := [(27, 4, 0)]) (Vl := [Vq (N + 1) (Rat.divInt (ce) 1), Vq N (b), Vi (cmpQ (Rat.divInt (ce) 1) (b)), Vb (true)]) (B := [⟨2, none, none, 27, 4, Vq N (a), VT⟩, ⟨3, none, none, 27, 4, Vq N (b), VT⟩, ⟨4, none, none, 27, 4, VT, VT⟩, ⟨5, none, none, 27, 4, Vq (N + 1) (Rat.divInt (ce) 1), VT⟩]) (SL' := [(13, Vb (true))]) st2 ⟨ks, ks, ?s2, ?s3, trivial⟩ ?_
  case s2 =>
    refine kc fun _ ac Wd h hd => ?_
    obtain ⟨v0, hv0, hV0⟩ := h.dp hd 10
    obtain ⟨v1, hv1, hV1⟩ := h.dp hd 11
    exact ⟨#[v0, v1], by simp [hv0, hv1], cR4Compare (Vq_le (M := (max (N + 1) N)) (show Vq (N + 1) (Rat.divInt (ce) 1) v0 Wd from hV0) (by omega)) (Vq_le (M := (max (N + 1) N)) (show Vq N (b) v1 Wd from hV1) (by omega)) (by omega) (by omega)⟩
  case s3 =>
    refine kr fun _ ac Wd h hd => ?_
    obtain ⟨v0, hv0, hV0⟩ := h.dp hd 12
    have hV0' : v0 = .int .i64 (cmpQ (Rat.divInt (ce) 1) (b)) := hV0
    exact ⟨_, run_leqi rfl (hv0.trans hV0') rfl, congrArg Value.bool (decide_eq_true hc)⟩
  intro a3 w3 st3
  clear st2
  repeat first|refine wp_seq ?_|refine wp_block ?_|refine wp_skip ?_|refine wp_exit ?_
  obtain ⟨vc, hc1, hc2⟩ := st3.slot (13, Vb (true)) (.head _)
  refine wp_cond_true (hc1.trans hc2) ?_
  clear hc1 hc2
  repeat first|refine wp_seq ?_|refine wp_block ?_|refine wp_skip ?_|refine wp_exit ?_
  refine rg (BT := [(27, 4, 0)]) (Vl := [Vq (N + 1) (Rat.divInt (ce) 1), VT]) (B := [⟨2, none, none, 27, 4, Vq N (a), VT⟩, ⟨3, none, none, 27, 4, Vq N (b), VT⟩, ⟨4, none, some 1, 27, 4, Vq (N + 1) (Rat.divInt (ce) 1), VT⟩, ⟨5, none, none, 27, 4, Vq (N + 1) (Rat.divInt (ce) 1), VT⟩]) (SL' := [(13, Vb (true))]) st3 ⟨ks, ks, trivial⟩ ?_
  intro a4 w4 st4
  clear st3
  repeat first|refine wp_seq ?_|refine wp_block ?_|refine wp_skip ?_|refine wp_exit ?_
  obtain ⟨g, cs, r1, r2, r3, r4, r5⟩ := st4.res ⟨4, none, none, 27, 4, Vq (N + 1) (Rat.divInt (ce) 1), VT⟩ (.tail _ (.tail _ (.head _))) rfl rfl
  exact wp_ret (bodyPost_ret (results_cell_row rfl _ _ g 27 cs (0, 0) _ r1 r2 Tryz.underlying27 rfl (by rw [r3]; exact size_Rat)) st4.defers ⟨_, rfl, r4, r5⟩)
set_option maxRecDepth 100000 in
set_option maxHeartbeats 1600000 in
theorem cR4least2 {w : World} {N : Nat} {a b r1 : Rat} {ce fl : Int} {v0 v1 : Value} (h0 : Vq N (a) v0 w) (h1 : Vq N (b) v1 w) (h3 : 3 ≤ N) (hN : N ≤ 1000) (hce : -(dq (-a).num ((-a).den : Int)) = ce) (hc : ¬ cmpQ (Rat.divInt ce 1) b ≤ 0) (hfl : dq a.num (a.den : Int) = fl) (hp1 : 0 < (b - Rat.divInt fl 1).num) (hp2 : 0 < (a - Rat.divInt fl 1).num) (hr1 : 0 < r1.num) (ih : ∀ (W : World) (K : Nat) (u0 u1 : Value), K ≤ 100000 → Vq K (b - Rat.divInt fl 1)⁻¹ u0 W → Vq K (a - Rat.divInt fl 1)⁻¹ u1 W → Calls Tryz.prog 98 #[u0, u1] W (RV (Vq N r1) W)) : Calls Tryz.prog 98 #[v0, v1] w (RV (Vq (3 * N + 100) (Rat.divInt fl 1 + r1⁻¹)) w) := by
  go_enter Tryz.func98, Tryz.ntmps98
  have st0 : St w.heap.size w 30 [] [(0, Vq N (a)), (1, Vq N (b))] _ w := St.begin (a := ⟨#[v0, v1, undef, undef, undef, undef, undef, undef, undef, undef, undef, undef, undef, undef, undef, undef, undef, undef, undef, undef, undef, undef, undef, undef, undef, undef, undef, undef, undef, undef], []⟩) rfl rfl (List.forall_mem_cons.2 ⟨⟨_, rfl, h0⟩, (List.forall_mem_cons.2 ⟨⟨_, rfl, h1⟩, (fun _ h => absurd h (by simp))⟩)⟩)
  generalize (⟨#[v0, v1, undef, undef, undef, undef, undef, undef, undef, undef, undef, undef, undef, undef, undef, undef, undef, undef, undef, undef, undef, undef, undef, undef, undef, undef, undef, undef, undef, undef], []⟩ : Act) = a0 at st0 ⊢
  repeat first|refine wp_seq ?_|refine wp_block ?_|refine wp_skip ?_|refine wp_exit ?_
  refine rg (BT := [(27, 4, 0)]) (Vl := [VT, VT, VT]) (B := [⟨2, some 0, some 0, 27, 4, Vq N (a), VT⟩, ⟨3, some 1, some 1, 27, 4, Vq N (b), VT⟩, ⟨4, some 2, none, 27, 4, VT, VT⟩]) (SL' := []) st0 ⟨ks, ks, ks, trivial⟩ ?_
  intro a1 w1 st1
  clear st0
  repeat first|refine wp_seq ?_|refine wp_block ?_|refine wp_skip ?_|refine wp_exit ?_
  refine rg (BT := [(27, 4, 0)]) (Vl := [Vq N (a), Vz (N + 1) (ce), Vq (N + 1) (Rat.divInt (ce) 1), VT, VT]) (B := [⟨2, none, none, 27, 4, Vq N (a), VT⟩, ⟨3, none, none, 27, 4, Vq N (b), VT⟩, ⟨4, none, none, 27, 4, VT, VT⟩, ⟨5, some 3, some 4, 27, 4, Vq (N + 1) (Rat.divInt (ce) 1), VT⟩]) (SL' := []) st1 ⟨ks, ?s1, ?s2, ks, ks, trivial⟩ ?_
  case s1 =>
    refine kc fun _ ac Wd h hd => ?_
    obtain ⟨v0, hv0, hV0⟩ := h.dp hd 7
    exact ⟨#[v0], by simp [hv0], (cR4Ceil (show Vq N (a) v0 Wd from hV0) (by omega) (by omega)).mono fun e w h => h.le fun v w hv => by rw [hce] at hv; exact hv⟩
  case s2 => refine kr fun _ ac Wd h hd => ?_; obtain ⟨v0, hv0, hV0⟩ := h.dp hd 8; exact build_whole rfl hv0 hV0
  intro a2 w2 st2
  clear st1
  repeat first|refine wp_seq ?_|refine wp_block ?_|refine wp_skip ?_|refine wp_exit ?_
  refine rg (BT := [(27, 4, 0)]) (Vl := [Vq (N + 1) (Rat.divInt (ce) 1), Vq N (b), Vi (cmpQ (Rat.divInt (ce) 1) (b)), Vb (false)]) (B := [⟨2, none, none, 27, 4, Vq N (a), VT⟩, ⟨3, none, none, 27, 4, Vq N (b), VT⟩, ⟨4, none, none, 27, 4, VT, VT⟩, ⟨5, none, none, 27, 4, Vq (N + 1) (Rat.divInt (ce) 1), VT⟩]) (SL' := [(13, Vb (false))]) st2 ⟨ks, ks, ?s2, ?s3, trivial⟩ ?_
  case s2 =>
    refine kc fun _ ac Wd h hd => ?_
    obtain ⟨v0, hv0, hV0⟩ := h.dp hd 10
    obtain ⟨v1, hv1, hV1⟩ := h.dp hd 11
    exact ⟨#[v0, v1], by simp [hv0, hv1], cR4Compare (Vq_le (M := (max (N + 1) N)) (show Vq (N + 1) (Rat.divInt (ce) 1) v0 Wd from hV0) (by omega)) (Vq_le (M := (max (N + 1) N)) (show Vq N (b) v1 Wd from hV1) (by omega)) (by omega) (by omega)⟩
  case s3 =>
    refine kr fun _ ac Wd h hd => ?_
    obtain ⟨v0, hv0, hV0⟩ := h.dp hd 12
    have hV0' : v0 = .int .i64 (cmpQ (Rat.divInt (ce) 1) (b)) := hV0
    exact ⟨_, run_leqi rfl (hv0.trans hV0') rfl, congrArg Value.bool (decide_eq_false hc)⟩
  intro a3 w3 st3
  clear st2
  repeat first|refine wp_seq ?_|refine wp_block ?_|refine wp_skip ?_|refine wp_exit ?_
  obtain ⟨vc, hc1, hc2⟩ := st3.slot (13, Vb (false)) (.head _)
  refine wp_cond_false (hc1.trans hc2) ?_
  clear hc1 hc2
  repeat first|refine wp_seq ?_|refine wp_block ?_|refine wp_skip ?_|refine wp_exit ?_
  refine rg (BT := [(27, 4, 0)]) (Vl := [Vq N (a), Vz (N + 1) (fl), Vq (N + 1) (Rat.divInt (fl) 1), VT, VT]) (B := [⟨2, none, none, 27, 4, Vq N (a), VT⟩, ⟨3, none, none, 27, 4, Vq N (b), VT⟩, ⟨4, none, none, 27, 4, VT, VT⟩, ⟨5, none, none, 27, 4, Vq (N + 1) (Rat.divInt (ce) 1), VT⟩, ⟨6, some 3, some 4, 27, 4, Vq (N + 1) (Rat.divInt (fl) 1), VT⟩]) (SL' := [(13, Vb (false))]) st3 ⟨ks, ?s1, ?s2, ks, ks, trivial⟩ ?_
  case s1 =>
    refine kc fun _ ac Wd h hd => ?_
    obtain ⟨v0, hv0, hV0⟩ := h.dp hd 15
    exact ⟨#[v0], by simp [hv0], (cR4Floor (show Vq N (a) v0 Wd from hV0) (by omega) (by omega)).mono fun e w h => h.le fun v w hv => by rw [hfl] at hv; exact hv⟩
  case s2 => refine kr fun _ ac Wd h hd => ?_; obtain ⟨v0, hv0, hV0⟩ := h.dp hd 16; exact build_whole rfl hv0 hV0
  intro a4 w4 st4
  clear st3
  repeat first|refine wp_seq ?_|refine wp_block ?_|refine wp_skip ?_|refine wp_exit ?_
  refine rg (BT := [(27, 4, 0)]) (Vl := [Vq (N + 1) (Rat.divInt (fl) 1), Vq N (b), Vq (N + 1) (Rat.divInt (fl) 1), Vq ((max N (N + 1)) + (max N (N + 1)) + 1) ((b) - (Rat.divInt (fl) 1)), Vq ((max N (N + 1)) + (max N (N + 1)) + 1) (((b) - (Rat.divInt (fl) 1))⁻¹), Vq N (a), Vq (N + 1) (Rat.divInt (fl) 1), Vq ((max N (N + 1)) + (max N (N + 1)) + 1) ((a) - (Rat.divInt (fl) 1)), Vq ((max N (N + 1)) + (max N (N + 1)) + 1) (((a) - (Rat.divInt (fl) 1))⁻¹), Vq N (r1), Vq N ((r1)⁻¹), Vq ((max (N + 1) N) + (max (N + 1) N) + 1) ((Rat.divInt (fl) 1) + ((r1)⁻¹)), VT]) (B := [⟨2, none, none, 27, 4, Vq N (a), VT⟩, ⟨3, none, none, 27, 4, Vq N (b), VT⟩, ⟨4, none, some 12, 27, 4, Vq ((max (N + 1) N) + (max (N + 1) N) + 1) ((Rat.divInt (fl) 1) + ((r1)⁻¹)), VT⟩, ⟨5, none, none, 27, 4, Vq (N + 1) (Rat.divInt (ce) 1), VT⟩, ⟨6, none, none, 27, 4, Vq (N + 1) (Rat.divInt (fl) 1), VT⟩]) (SL' := [(13, Vb (false))]) st4 ⟨ks, ks, ks, ?s3, ?s4, ks, ks, ?s7, ?s8, ?s9, ?s10, ?s11, ks, trivial⟩ ?_
  case s3 =>
    refine kc fun _ ac Wd h hd => ?_
    obtain ⟨v0, hv0, hV0⟩ := h.dp hd 19
    obtain ⟨v1, hv1, hV1⟩ := h.dp hd 20
    exact ⟨#[v0, v1], by simp [hv0, hv1], cR4Sub (Vq_le (M := (max N (N + 1))) (show Vq N (b) v0 Wd from hV0) (by omega)) (Vq_le (M := (max N (N + 1))) (show Vq (N + 1) (Rat.divInt (fl) 1) v1 Wd from hV1) (by omega)) (by omega) (by omega)⟩
  case s4 =>
    refine kc fun _ ac Wd h hd => ?_
    obtain ⟨v0, hv0, hV0⟩ := h.dp hd 21
    exact ⟨#[v0], by simp [hv0], cR4Inv (show Vq ((max N (N + 1)) + (max N (N + 1)) + 1) ((b) - (Rat.divInt (fl) 1)) v0 Wd from hV0) (by omega) (by omega) (by assumption)⟩
  case s7 =>
    refine kc fun _ ac Wd h hd => ?_
    obtain ⟨v0, hv0, hV0⟩ := h.dp hd 23
    obtain ⟨v1, hv1, hV1⟩ := h.dp hd 24
    exact ⟨#[v0, v1], by simp [hv0, hv1], cR4Sub (Vq_le (M := (max N (N + 1))) (show Vq N (a) v0 Wd from hV0) (by omega)) (Vq_le (M := (max N (N + 1))) (show Vq (N + 1) (Rat.divInt (fl) 1) v1 Wd from hV1) (by omega)) (by omega) (by omega)⟩
  case s8 =>
    refine kc fun _ ac Wd h hd => ?_
    obtain ⟨v0, hv0, hV0⟩ := h.dp hd 25
    exact ⟨#[v0], by simp [hv0], cR4Inv (show Vq ((max N (N + 1)) + (max N (N + 1)) + 1) ((a) - (Rat.divInt (fl) 1)) v0 Wd from hV0) (by omega) (by omega) (by assumption)⟩
  case s9 =>
    refine kc fun _ ac Wd h hd => ?_
    obtain ⟨v0, hv0, hV0⟩ := h.dp hd 22
    obtain ⟨v1, hv1, hV1⟩ := h.dp hd 26
    exact ⟨#[v0, v1], by simp [hv0, hv1], ih _ _ _ _ (by omega) (show Vq ((max N (N + 1)) + (max N (N + 1)) + 1) (((b) - (Rat.divInt (fl) 1))⁻¹) v0 Wd from hV0) (show Vq ((max N (N + 1)) + (max N (N + 1)) + 1) (((a) - (Rat.divInt (fl) 1))⁻¹) v1 Wd from hV1)⟩
  case s10 => refine kc fun _ ac Wd h hd => ?_; obtain ⟨v0, hv0, hV0⟩ := h.dp hd 27; exact ⟨#[v0], by simp [hv0], cR4Inv (show Vq N (r1) v0 Wd from hV0) (by omega) (by omega) (by assumption)⟩
  case s11 =>
    refine kc fun _ ac Wd h hd => ?_
    obtain ⟨v0, hv0, hV0⟩ := h.dp hd 18
    obtain ⟨v1, hv1, hV1⟩ := h.dp hd 28
    exact ⟨#[v0, v1], by simp [hv0, hv1], cR4Add (Vq_le (M := (max (N + 1) N)) (show Vq (N + 1) (Rat.divInt (fl) 1) v0 Wd from hV0) (by omega)) (Vq_le (M := (max (N + 1) N)) (show Vq N ((r1)⁻¹) v1 Wd from hV1) (by omega)) (by omega) (by omega)⟩
  intro a5 w5 st5
  clear st4
  repeat first|refine wp_seq ?_|refine wp_block ?_|refine wp_skip ?_|refine wp_exit ?_
  obtain ⟨g, cs, r1, r2, r3, r4, r5⟩ := st5.res ⟨4, none, none, 27, 4, Vq ((max (N + 1) N) + (max (N + 1) N) + 1) ((Rat.divInt (fl) 1) + ((r1)⁻¹)), VT⟩ (.tail _ (.tail _ (.head _))) rfl rfl
  exact wp_ret (bodyPost_ret (results_cell_row rfl _ _ g 27 cs (0, 0) _ r1 r2 Tryz.underlying27 rfl (by rw [r3]; exact size_Rat)) st5.defers ⟨_, rfl, Vq_le r4 (by omega), r5⟩)
end Go.Proofs.YtleijkgdpmfabaaGreatDoor
