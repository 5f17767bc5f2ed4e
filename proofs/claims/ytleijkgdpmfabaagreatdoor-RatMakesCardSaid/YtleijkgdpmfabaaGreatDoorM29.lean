/- Contracts of the package integer and its reference: Valid of rational numbers. -/
import Derived.Test.YtleijkgdpmfabaaGreatDoorM28
set_option linter.unusedVariables false
namespace Go.Proofs.YtleijkgdpmfabaaGreatDoor
open Go.RowKit

variable {BT : List (TypeId × Nat × Nat)}
/-- an integer of any digits -/
def VZr (N : Nat) (nb : Bool) (l : List Int) : VP := fun v w => ∃ p n c, v = .agg #[.bool nb, .slice p n c] ∧ Rdi w p l ∧ n = l.length ∧ n ≤ c ∧ c ≤ 9223372036854775807 ∧ n ≤ N
theorem Stab_VZr (N : Nat) (nb : Bool) (l : List Int) : Stab BT (VZr N nb l) := fun _ _ _ ⟨p, n, c, h1, h2, h3⟩ hr => ⟨p, n, c, h1, Rdi_RI hr h2, h3⟩
instance (N : Nat) (nb : Bool) (l : List Int) : Sb BT (VZr N nb l) := ⟨Stab_VZr N nb l⟩
theorem AggV_VZr (N : Nat) (nb : Bool) (l : List Int) : AggV 2 (VZr N nb l) := by
  rintro v w ⟨p, n, c, rfl, -⟩
  refine ⟨_, rfl, rfl, fun i x h => ?_, by simp [Value.oneCell']⟩
  match i with
  | 0 => simp at h
  | 1 => simp at h
  | i + 2 => simp at h
instance (N : Nat) (nb : Bool) (l : List Int) : Ag (VZr N nb l) 2 := ⟨AggV_VZr N nb l⟩
set_option maxRecDepth 100000 in
set_option maxHeartbeats 1600000 in
theorem cQValidZ {w : World} {N : Nat} {x y : Int} {v0 : Value} (h0 : VP2 2 2 (Vz N (x)) (Vz N (y)) v0 w) (h3 : 3 ≤ N) (hN : N ≤ 100000) : Calls Tryz.prog 16 #[v0] w (RV (Vb (decide (y = 0 ∨ (1 < y ∧ Int.gcd x y = 1)))) w) := by
  go_enter Tryz.func16, Tryz.ntmps16
  have st0 : St w.heap.size w 38 [] [(0, VP2 2 2 (Vz N (x)) (Vz N (y)))] _ w := St.begin (a := ⟨#[v0, undef, undef, undef, undef, undef, undef, undef, undef, undef, undef, undef, undef, undef, undef, undef, undef, undef, undef, undef, undef, undef, undef, undef, undef, undef, undef, undef, undef, undef, undef, undef, undef, undef, undef, undef, undef, undef], []⟩) rfl rfl (List.forall_mem_cons.2 ⟨⟨_, rfl, h0⟩, (fun _ h => absurd h (by simp))⟩)
  generalize (⟨#[v0, undef, undef, undef, undef, undef, undef, undef, undef, undef, undef, undef, undef, undef, undef, undef, undef, undef, undef, undef, undef, undef, undef, undef, undef, undef, undef, undef, undef, undef, undef, undef, undef, undef, undef, undef, undef, undef], []⟩ : Act) = a0 at st0 ⊢
  repeat first | refine wp_seq ?_ | refine wp_block ?_ | refine wp_skip ?_ | refine wp_exit ?_
  refine rg (BT := []) (Vl := [VT, Vb (false)]) (B := [⟨1, some 0, some 0, 27, 4, VP2 2 2 (Vz N (x)) (Vz N (y)), VT⟩]) (SL' := [(2, Vb (false))]) st0 ⟨ks, ks, trivial⟩ ?_
  intro a1 w1 st1
  clear st0
  repeat first | refine wp_seq ?_ | refine wp_block ?_ | refine wp_skip ?_ | refine wp_exit ?_
  refine rg (BT := []) (Vl := [Vpt a1 1 0, Vz N (x), Vb (true), Vb (false), Vb (false), Vpt a1 1 2, Vz N (y), Vb (true), Vb (false), Vb (false), Vb (false)]) (B := [⟨1, none, none, 27, 4, VP2 2 2 (Vz N (x)) (Vz N (y)), VT⟩]) (SL' := [(2, Vb (false)), (3, Vb (false))]) st1 ⟨ks, ks, ?s2, ks, ks, ks, ks, ?s7, ks, ks, ks, trivial⟩ ?_
  case s2 => refine kc fun _ ac Wd h hd => ?_; obtain ⟨v0, hv0, hV0⟩ := h.dp hd 5; exact ⟨#[v0], by simp [hv0], cZValid (show Vz N (x) v0 Wd from hV0) (by omega)⟩
  case s7 => refine kc fun _ ac Wd h hd => ?_; obtain ⟨v0, hv0, hV0⟩ := h.dp hd 10; exact ⟨#[v0], by simp [hv0], cZValid (show Vz N (y) v0 Wd from hV0) (by omega)⟩
  intro a2 w2 st2
  clear st1
  repeat first | refine wp_seq ?_ | refine wp_block ?_ | refine wp_skip ?_ | refine wp_exit ?_
  obtain ⟨vc, hc1, hc2⟩ := st2.slot (3, Vb (false)) (.tail _ (.head _))
  refine wp_cond_false (hc1.trans hc2) ?_
  clear hc1 hc2
  by_cases hz : y = 0
  ·
    repeat first | refine wp_seq ?_ | refine wp_block ?_ | refine wp_skip ?_ | refine wp_exit ?_
    refine rg (BT := []) (Vl := [Vpt a2 1 2, Vpt a2 1 3, VD N (y), Vi (((digs (y).natAbs).length : Int)), Vb (true), Vb (true)]) (B := [⟨1, none, none, 27, 4, VP2 2 2 (Vz N (x)) (Vz N (y)), VT⟩]) (SL' := [(2, Vb (false)), (3, Vb (false)), (14, Vb (true))]) st2 ⟨ks, ks, ks, ?s3, ?s4, ks, trivial⟩ ?_
    case s3 => refine kr fun _ ac Wd h hd => ?_; obtain ⟨v0, hv0, hV0⟩ := h.dp hd 17; obtain ⟨pp, nn, cc, rfl, hnn, -⟩ := hV0; exact ⟨_, run_len rfl rfl hv0, by rw [hnn]; rfl⟩
    case s4 =>
      refine kr fun _ ac Wd h hd => ?_
      obtain ⟨v0, hv0, hV0⟩ := h.dp hd 18
      have hV0' : v0 = .int .i64 (((digs (y).natAbs).length : Int)) := hV0
      exact ⟨_, run_eqi rfl (hv0.trans hV0') rfl, congrArg Value.bool (by rw [len_eq0]; exact decide_eq_true hz)⟩
    intro a3 w3 st3
    clear st2
    repeat first | refine wp_seq ?_ | refine wp_block ?_ | refine wp_skip ?_ | refine wp_exit ?_
    obtain ⟨vc, hc1, hc2⟩ := st3.slot (14, Vb (true)) (.tail _ (.tail _ (.head _)))
    refine wp_cond_true (hc1.trans hc2) ?_
    clear hc1 hc2
    repeat first | refine wp_seq ?_ | refine wp_block ?_ | refine wp_skip ?_ | refine wp_exit ?_
    refine rg (BT := []) (Vl := [Vb (true)]) (B := [⟨1, none, none, 27, 4, VP2 2 2 (Vz N (x)) (Vz N (y)), VT⟩]) (SL' := [(3, Vb (false)), (14, Vb (true)), (2, Vb (true))]) st3 ⟨ks, trivial⟩ ?_
    intro a4 w4 st4
    clear st3
    repeat first | refine wp_seq ?_ | refine wp_block ?_ | refine wp_skip ?_ | refine wp_exit ?_
    obtain ⟨vr, r1, r4⟩ := st4.slot (2, Vb (true)) (.tail _ (.tail _ (.head _)))
    exact wp_ret (bodyPost_ret (results_tmp rfl _ _ _) st4.defers ⟨_, congrArg Ending.returned (show _ = vr from r1), (by rw [decide_eq_true (show y = 0 ∨ (1 < y ∧ Int.gcd x y = 1) from .inl hz)]; exact r4), st4.k.below⟩)
  ·
    repeat first | refine wp_seq ?_ | refine wp_block ?_ | refine wp_skip ?_ | refine wp_exit ?_
    refine rg (BT := []) (Vl := [Vpt a2 1 2, Vpt a2 1 3, VD N (y), Vi (((digs (y).natAbs).length : Int)), Vb (false), Vb (false)]) (B := [⟨1, none, none, 27, 4, VP2 2 2 (Vz N (x)) (Vz N (y)), VT⟩]) (SL' := [(2, Vb (false)), (3, Vb (false)), (14, Vb (false))]) st2 ⟨ks, ks, ks, ?s3, ?s4, ks, trivial⟩ ?_
    case s3 => refine kr fun _ ac Wd h hd => ?_; obtain ⟨v0, hv0, hV0⟩ := h.dp hd 17; obtain ⟨pp, nn, cc, rfl, hnn, -⟩ := hV0; exact ⟨_, run_len rfl rfl hv0, by rw [hnn]; rfl⟩
    case s4 =>
      refine kr fun _ ac Wd h hd => ?_
      obtain ⟨v0, hv0, hV0⟩ := h.dp hd 18
      have hV0' : v0 = .int .i64 (((digs (y).natAbs).length : Int)) := hV0
      exact ⟨_, run_eqi rfl (hv0.trans hV0') rfl, congrArg Value.bool (by rw [len_eq0]; exact decide_eq_false hz)⟩
    intro a3 w3 st3
    clear st2
    by_cases hp : 0 < y
    ·
      repeat first | refine wp_seq ?_ | refine wp_block ?_ | refine wp_skip ?_ | refine wp_exit ?_
      obtain ⟨vc, hc1, hc2⟩ := st3.slot (14, Vb (false)) (.tail _ (.tail _ (.head _)))
      refine wp_cond_false (hc1.trans hc2) ?_
      clear hc1 hc2
      by_cases h1 : y = 1
      ·
        repeat first | refine wp_seq ?_ | refine wp_block ?_ | refine wp_skip ?_ | refine wp_exit ?_
        refine rg (BT := []) (Vl := [Vpt a3 1 2, Vz N (y), Vi (cmpI (y) 0), Vb (true), Vb (true), Vpt a3 1 2, Vz N (y), Vb (true), Vb (false), Vb (false), Vb (false), VT, VT, VT, VT, VT, VT, Vb (false), Vb (false)]) (B := [⟨1, none, none, 27, 4, VP2 2 2 (Vz N (x)) (Vz N (y)), VT⟩]) (SL' := [(3, Vb (false)), (14, Vb (false)), (2, Vb (false))]) st3 ⟨ks, ks, ?s2, ?s3, ks, ks, ks, ?s7, ks, ks, ks, ks, ks, ks, ks, ks, ks, ks, ks, trivial⟩ ?_
        case s2 => refine kc fun _ ac Wd h hd => ?_; obtain ⟨v0, hv0, hV0⟩ := h.dp hd 21; exact ⟨#[v0], by simp [hv0], cSign (show Vz N (y) v0 Wd from hV0) (by omega)⟩
        case s3 =>
          refine kr fun _ ac Wd h hd => ?_
          obtain ⟨v0, hv0, hV0⟩ := h.dp hd 22
          have hV0' : v0 = .int .i64 (cmpI (y) 0) := hV0
          exact ⟨_, run_gtri rfl (hv0.trans hV0') rfl, congrArg Value.bool (by rw [cmp_gt hp]; rfl)⟩
        case s7 =>
          refine kc fun _ ac Wd h hd => ?_
          obtain ⟨v0, hv0, hV0⟩ := h.dp hd 26
          exact ⟨#[v0], by simp [hv0], (cOne (show Vz N (y) v0 Wd from hV0)).mono fun e w h => h.le fun v w hv => hv.trans (congrArg Value.bool (decide_eq_true (h1)))⟩
        intro a4 w4 st4
        clear st3
        repeat first | refine wp_seq ?_ | refine wp_block ?_ | refine wp_skip ?_ | refine wp_exit ?_
        obtain ⟨vr, r1, r4⟩ := st4.slot (2, Vb (false)) (.tail _ (.tail _ (.head _)))
        exact wp_ret (bodyPost_ret (results_tmp rfl _ _ _) st4.defers ⟨_, congrArg Ending.returned (show _ = vr from r1), (by rw [decide_eq_false (show ¬ (y = 0 ∨ (1 < y ∧ Int.gcd x y = 1)) by omega)]; exact r4), st4.k.below⟩)
      ·
        repeat first | refine wp_seq ?_ | refine wp_block ?_ | refine wp_skip ?_ | refine wp_exit ?_
        refine rg (BT := []) (Vl := [Vpt a3 1 2, Vz N (y), Vi (cmpI (y) 0), Vb (true), Vb (true), Vpt a3 1 2, Vz N (y), Vb (false), Vb (true), Vb (true), Vb (true), Vpt a3 1 0, Vz N (x), Vpt a3 1 2, Vz N (y), Vz (max N N) ((Int.gcd (x) (y) : Int)), Vb (decide ((Int.gcd (x) (y) : Int) = 1)), Vb (decide ((Int.gcd (x) (y) : Int) = 1)), Vb (decide ((Int.gcd (x) (y) : Int) = 1))]) (B := [⟨1, none, none, 27, 4, VP2 2 2 (Vz N (x)) (Vz N (y)), VT⟩]) (SL' := [(3, Vb (false)), (14, Vb (false)), (2, Vb (decide ((Int.gcd (x) (y) : Int) = 1)))]) st3 ⟨ks, ks, ?s2, ?s3, ks, ks, ks, ?s7, ks, ks, ks, ks, ks, ks, ks, ?s15, ?s16, ks, ks, trivial⟩ ?_
        case s2 => refine kc fun _ ac Wd h hd => ?_; obtain ⟨v0, hv0, hV0⟩ := h.dp hd 21; exact ⟨#[v0], by simp [hv0], cSign (show Vz N (y) v0 Wd from hV0) (by omega)⟩
        case s3 =>
          refine kr fun _ ac Wd h hd => ?_
          obtain ⟨v0, hv0, hV0⟩ := h.dp hd 22
          have hV0' : v0 = .int .i64 (cmpI (y) 0) := hV0
          exact ⟨_, run_gtri rfl (hv0.trans hV0') rfl, congrArg Value.bool (by rw [cmp_gt hp]; rfl)⟩
        case s7 =>
          refine kc fun _ ac Wd h hd => ?_
          obtain ⟨v0, hv0, hV0⟩ := h.dp hd 26
          exact ⟨#[v0], by simp [hv0], (cOne (show Vz N (y) v0 Wd from hV0)).mono fun e w h => h.le fun v w hv => hv.trans (congrArg Value.bool (decide_eq_false (h1)))⟩
        case s15 =>
          refine kc fun _ ac Wd h hd => ?_
          obtain ⟨v0, hv0, hV0⟩ := h.dp hd 32
          obtain ⟨v1, hv1, hV1⟩ := h.dp hd 34
          exact ⟨#[v0, v1], by simp [hv0, hv1], (cGcd (show Vz N (x) v0 Wd from hV0) (show Vz N (y) v1 Wd from hV1) (by omega) (by omega))⟩
        case s16 => refine kc fun _ ac Wd h hd => ?_; obtain ⟨v0, hv0, hV0⟩ := h.dp hd 35; exact ⟨#[v0], by simp [hv0], cOne (show Vz (max N N) ((Int.gcd (x) (y) : Int)) v0 Wd from hV0)⟩
        intro a4 w4 st4
        clear st3
        repeat first | refine wp_seq ?_ | refine wp_block ?_ | refine wp_skip ?_ | refine wp_exit ?_
        obtain ⟨vr, r1, r4⟩ := st4.slot (2, Vb (decide ((Int.gcd (x) (y) : Int) = 1))) (.tail _ (.tail _ (.head _)))
        exact wp_ret (bodyPost_ret (results_tmp rfl _ _ _) st4.defers ⟨_, congrArg Ending.returned (show _ = vr from r1), (by rw [decide_eq_decide.2 (show (y = 0 ∨ (1 < y ∧ Int.gcd x y = 1)) ↔ ((Int.gcd x y : Int) = 1) by omega)]; exact r4), st4.k.below⟩)
    ·
      repeat first | refine wp_seq ?_ | refine wp_block ?_ | refine wp_skip ?_ | refine wp_exit ?_
      obtain ⟨vc, hc1, hc2⟩ := st3.slot (14, Vb (false)) (.tail _ (.tail _ (.head _)))
      refine wp_cond_false (hc1.trans hc2) ?_
      clear hc1 hc2
      repeat first | refine wp_seq ?_ | refine wp_block ?_ | refine wp_skip ?_ | refine wp_exit ?_
      refine rg (BT := []) (Vl := [Vpt a3 1 2, Vz N (y), Vi (cmpI (y) 0), Vb (false), Vb (false), VT, VT, VT, VT, Vb (false), Vb (false), VT, VT, VT, VT, VT, VT, Vb (false), Vb (false)]) (B := [⟨1, none, none, 27, 4, VP2 2 2 (Vz N (x)) (Vz N (y)), VT⟩]) (SL' := [(3, Vb (false)), (14, Vb (false)), (2, Vb (false))]) st3 ⟨ks, ks, ?s2, ?s3, ks, ks, ks, ks, ks, ks, ks, ks, ks, ks, ks, ks, ks, ks, ks, trivial⟩ ?_
      case s2 => refine kc fun _ ac Wd h hd => ?_; obtain ⟨v0, hv0, hV0⟩ := h.dp hd 21; exact ⟨#[v0], by simp [hv0], cSign (show Vz N (y) v0 Wd from hV0) (by omega)⟩
      case s3 =>
        refine kr fun _ ac Wd h hd => ?_
        obtain ⟨v0, hv0, hV0⟩ := h.dp hd 22
        have hV0' : v0 = .int .i64 (cmpI (y) 0) := hV0
        exact ⟨_, run_gtri rfl (hv0.trans hV0') rfl, congrArg Value.bool (by rw [cmp_lt (show y < 0 by omega)]; rfl)⟩
      intro a4 w4 st4
      clear st3
      repeat first | refine wp_seq ?_ | refine wp_block ?_ | refine wp_skip ?_ | refine wp_exit ?_
      obtain ⟨vr, r1, r4⟩ := st4.slot (2, Vb (false)) (.tail _ (.tail _ (.head _)))
      exact wp_ret (bodyPost_ret (results_tmp rfl _ _ _) st4.defers ⟨_, congrArg Ending.returned (show _ = vr from r1), (by rw [decide_eq_false (show ¬ (y = 0 ∨ (1 < y ∧ Int.gcd x y = 1)) by omega)]; exact r4), st4.k.below⟩)
end Go.Proofs.YtleijkgdpmfabaaGreatDoor
