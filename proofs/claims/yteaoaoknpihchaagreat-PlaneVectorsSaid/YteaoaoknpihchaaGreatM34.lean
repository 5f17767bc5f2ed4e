/- Contracts of the package integer and its reference: Valid of rational numbers. Valid of turns. -/
import Derived.Test.YteaoaoknpihchaaGreatM33
import Derived.Test.YteaoaoknpihchaaGreatM23
set_option linter.unusedVariables false
namespace Go.Proofs.YteaoaoknpihchaaGreat
open Go.RowKit

variable {BT : List (TypeId × Nat × Nat)}
/-- an integer of any digits -/
def VZr (N : Nat) (nb : Bool) (l : List Int) : VP := fun v w => ∃ p n c, v = .agg #[.bool nb, .slice p n c] ∧ Rdi w p l ∧ n = l.length ∧ n ≤ c ∧ c ≤ 9223372036854775807 ∧ n ≤ N
theorem Stab_VZr (N : Nat) (nb : Bool) (l : List Int) : Stab BT (VZr N nb l) := fun _ _ _ ⟨p, n, c, h1, h2, h3⟩ hr => ⟨p, n, c, h1, Rdi_RI hr h2, h3⟩
instance (N : Nat) (nb : Bool) (l : List Int) : Sb BT (VZr N nb l) := ⟨Stab_VZr N nb l⟩
theorem AggV_VZr (N : Nat) (nb : Bool) (l : List Int) : AggV 2 (VZr N nb l) := by
  rintro v w ⟨p, n, c, rfl, -⟩
  refine ⟨_, rfl, rfl, fun i x h => ?_, by simp [Value.oneCell']⟩
  match i with
  | 0 => simp at h
  | 1 => simp at h
  | i + 2 => simp at h
instance (N : Nat) (nb : Bool) (l : List Int) : Ag (VZr N nb l) 2 := ⟨AggV_VZr N nb l⟩
theorem cR3ValidR {W : World} {N : Nat} {nb : Bool} {l : List Int} {v : Value} (h : VZr N nb l v W) (hbad : vld nb l = false) (hN : N ≤ 1000000) : Calls Tryz.prog 106 #[v] W (RV (Vb false) W) := by
  obtain ⟨p, n, c, rfl, hR, hn, -, -, hnN⟩ := h
  have := rValid_any nb p n c l W hR hn (by omega)
  rw [hbad] at this
  exact this.mono fun e w' h => ⟨_, h.1, rfl, h.2⟩
theorem cZValidR {W : World} {N : Nat} {nb : Bool} {l : List Int} {v : Value} (h : VZr N nb l v W) (hbad : vld nb l = false) (hN : N ≤ 1000000) : Calls Tryz.prog 104 #[v] W (RV (Vb false) W) := by
  obtain ⟨p, n, c, rfl, hR, hn, -, -, hnN⟩ := h
  have := Valid_any nb p n c l W hR hn (by omega)
  rw [hbad] at this
  exact this.mono fun e w' h => ⟨_, h.1, rfl, h.2⟩

set_option maxRecDepth 100000 in
set_option maxHeartbeats 1600000 in
theorem cR4ValidZ {w : World} {N : Nat} {x y : Int} {v0 : Value} (h0 : VP2 2 2 (Vz N (x)) (Vz N (y)) v0 w) (h3 : 3 ≤ N) (hN : N ≤ 100000) : Calls Tryz.prog 79 #[v0] w (RV (Vb (decide (y = 0 ∨ (1 < y ∧ Int.gcd x y = 1)))) w) := by
  go_enter Tryz.func79, Tryz.ntmps79
  have st0 : St w.heap.size w 34 [] [(0, VP2 2 2 (Vz N (x)) (Vz N (y)))] _ w := St.begin (a := ⟨#[v0, undef, undef, undef, undef, undef, undef, undef, undef, undef, undef, undef, undef, undef, undef, undef, undef, undef, undef, undef, undef, undef, undef, undef, undef, undef, undef, undef, undef, undef, undef, undef, undef, undef], []⟩) rfl rfl (List.forall_mem_cons.2 ⟨⟨_, rfl, h0⟩, (fun _ h => absurd h (by simp))⟩)
  generalize (⟨#[v0, undef, undef, undef, undef, undef, undef, undef, undef, undef, undef, undef, undef, undef, undef, undef, undef, undef, undef, undef, undef, undef, undef, undef, undef, undef, undef, undef, undef, undef, undef, undef, undef, undef], []⟩ : Act) = a0 at st0 ⊢
  repeat first | refine wp_seq ?_ | refine wp_block ?_ | refine wp_skip ?_ | refine wp_exit ?_
  refine rg (BT := []) (Vl := [VT, Vb (false)]) (B := [⟨1, some 0, some 0, 26, 4, VP2 2 2 (Vz N (x)) (Vz N (y)), VT⟩]) (SL' := [(2, Vb (false))]) st0 ⟨ks, ks, trivial⟩ ?_
  intro a1 w1 st1
  clear st0
  by_cases hl : y < 0
  ·
    repeat first | refine wp_seq ?_ | refine wp_block ?_ | refine wp_skip ?_ | refine wp_exit ?_
    refine rg (BT := []) (Vl := [Vpt a1 1 0, Vz N (x), Vb (true), Vb (false), Vb (false), Vpt a1 1 2, Vz N (y), Vb (true), Vb (false), Vb (false), Vb (false), Vpt a1 1 2, Vpt a1 1 2, Vb (true), Vb (true), Vb (true), VT, VT, VT, Vb (true)]) (B := [⟨1, none, none, 26, 4, VP2 2 2 (Vz N (x)) (Vz N (y)), VT⟩]) (SL' := [(2, Vb (false)), (22, Vb (true))]) st1 ⟨ks, ks, ?s2, ks, ks, ks, ks, ?s7, ks, ks, ks, ks, ks, ?s13, ks, ks, ks, ks, ks, ks, trivial⟩ ?_
    case s2 => refine kc fun _ ac Wd h hd => ?_; obtain ⟨v0, hv0, hV0⟩ := h.dp hd 4; exact ⟨#[v0], by simp [hv0], cR3Valid (show Vz N (x) v0 Wd from hV0) (by omega)⟩
    case s7 => refine kc fun _ ac Wd h hd => ?_; obtain ⟨v0, hv0, hV0⟩ := h.dp hd 9; exact ⟨#[v0], by simp [hv0], cR3Valid (show Vz N (y) v0 Wd from hV0) (by omega)⟩
    case s13 =>
      exact k_cell (j := 12) (off := 2) SbB.out (by kernel_rfl) (.head _) rfl rfl rfl (by kernel_rfl) (by kernel_rfl) rfl (by kernel_rfl) (fun cs w h => vzz_N2T h (hl)) Tryz.underlying4 rfl fun listed ac Wd h hd => ⟨(by obtain ⟨u, hu, hy, hU⟩ := h.dep hd 10 13 (by kernel_rfl) (by kernel_rfl); obtain rfl : u = .bool false := hU; exact hy), trivial⟩
    intro a2 w2 st2
    clear st1
    repeat first | refine wp_seq ?_ | refine wp_block ?_ | refine wp_skip ?_ | refine wp_exit ?_
    obtain ⟨vc, hc1, hc2⟩ := st2.slot (22, Vb (true)) (.tail _ (.head _))
    refine wp_cond_true (hc1.trans hc2) ?_
    clear hc1 hc2
    repeat first | refine wp_seq ?_ | refine wp_block ?_ | refine wp_skip ?_ | refine wp_exit ?_
    refine rg (BT := []) (Vl := [Vb (false)]) (B := [⟨1, none, none, 26, 4, VP2 2 2 (Vz N (x)) (Vz N (y)), VT⟩]) (SL' := [(22, Vb (true)), (2, Vb (false))]) st2 ⟨ks, trivial⟩ ?_
    intro a3 w3 st3
    clear st2
    repeat first | refine wp_seq ?_ | refine wp_block ?_ | refine wp_skip ?_ | refine wp_exit ?_
    obtain ⟨vr, r1, r4⟩ := st3.slot (2, Vb (false)) (.tail _ (.head _))
    exact wp_ret (bodyPost_ret (results_tmp rfl _ _ _) st3.defers ⟨_, congrArg Ending.returned (show _ = vr from r1), (by rw [decide_eq_false (show ¬ (y = 0 ∨ (1 < y ∧ Int.gcd x y = 1)) by omega)]; exact r4), st3.k.below⟩)
  ·
    by_cases h1 : y = 1
    ·
      repeat first | refine wp_seq ?_ | refine wp_block ?_ | refine wp_skip ?_ | refine wp_exit ?_
      refine rg (BT := []) (Vl := [Vpt a1 1 0, Vz N (x), Vb (true), Vb (false), Vb (false), Vpt a1 1 2, Vz N (y), Vb (true), Vb (false), Vb (false), Vb (false), Vpt a1 1 2, Vpt a1 1 2, Vb (false), Vb (false), Vb (false), Vpt a1 1 2, Vz N (y), Vb (true), Vb (true)]) (B := [⟨1, none, none, 26, 4, VP2 2 2 (Vz N (x)) (Vz N (y)), VT⟩]) (SL' := [(2, Vb (false)), (22, Vb (true))]) st1 ⟨ks, ks, ?s2, ks, ks, ks, ks, ?s7, ks, ks, ks, ks, ks, ?s13, ks, ks, ks, ks, ?s18, ks, trivial⟩ ?_
      case s2 => refine kc fun _ ac Wd h hd => ?_; obtain ⟨v0, hv0, hV0⟩ := h.dp hd 4; exact ⟨#[v0], by simp [hv0], cR3Valid (show Vz N (x) v0 Wd from hV0) (by omega)⟩
      case s7 => refine kc fun _ ac Wd h hd => ?_; obtain ⟨v0, hv0, hV0⟩ := h.dp hd 9; exact ⟨#[v0], by simp [hv0], cR3Valid (show Vz N (y) v0 Wd from hV0) (by omega)⟩
      case s13 =>
        exact k_cell (j := 12) (off := 2) SbB.out (by kernel_rfl) (.head _) rfl rfl rfl (by kernel_rfl) (by kernel_rfl) rfl (by kernel_rfl) (fun cs w h => vzz_N2F h (hl)) Tryz.underlying4 rfl fun listed ac Wd h hd => ⟨(by obtain ⟨u, hu, hy, hU⟩ := h.dep hd 10 13 (by kernel_rfl) (by kernel_rfl); obtain rfl : u = .bool false := hU; exact hy), trivial⟩
      case s18 =>
        refine kc fun _ ac Wd h hd => ?_
        obtain ⟨v0, hv0, hV0⟩ := h.dp hd 20
        exact ⟨#[v0], by simp [hv0], (cR4One (show Vz N (y) v0 Wd from hV0)).mono fun e w h => h.le fun v w hv => hv.trans (congrArg Value.bool (decide_eq_true (h1)))⟩
      intro a2 w2 st2
      clear st1
      repeat first | refine wp_seq ?_ | refine wp_block ?_ | refine wp_skip ?_ | refine wp_exit ?_
      obtain ⟨vc, hc1, hc2⟩ := st2.slot (22, Vb (true)) (.tail _ (.head _))
      refine wp_cond_true (hc1.trans hc2) ?_
      clear hc1 hc2
      repeat first | refine wp_seq ?_ | refine wp_block ?_ | refine wp_skip ?_ | refine wp_exit ?_
      refine rg (BT := []) (Vl := [Vb (false)]) (B := [⟨1, none, none, 26, 4, VP2 2 2 (Vz N (x)) (Vz N (y)), VT⟩]) (SL' := [(22, Vb (true)), (2, Vb (false))]) st2 ⟨ks, trivial⟩ ?_
      intro a3 w3 st3
      clear st2
      repeat first | refine wp_seq ?_ | refine wp_block ?_ | refine wp_skip ?_ | refine wp_exit ?_
      obtain ⟨vr, r1, r4⟩ := st3.slot (2, Vb (false)) (.tail _ (.head _))
      exact wp_ret (bodyPost_ret (results_tmp rfl _ _ _) st3.defers ⟨_, congrArg Ending.returned (show _ = vr from r1), (by rw [decide_eq_false (show ¬ (y = 0 ∨ (1 < y ∧ Int.gcd x y = 1)) by omega)]; exact r4), st3.k.below⟩)
    ·
      repeat first | refine wp_seq ?_ | refine wp_block ?_ | refine wp_skip ?_ | refine wp_exit ?_
      refine rg (BT := []) (Vl := [Vpt a1 1 0, Vz N (x), Vb (true), Vb (false), Vb (false), Vpt a1 1 2, Vz N (y), Vb (true), Vb (false), Vb (false), Vb (false), Vpt a1 1 2, Vpt a1 1 2, Vb (false), Vb (false), Vb (false), Vpt a1 1 2, Vz N (y), Vb (false), Vb (false)]) (B := [⟨1, none, none, 26, 4, VP2 2 2 (Vz N (x)) (Vz N (y)), VT⟩]) (SL' := [(2, Vb (false)), (22, Vb (false))]) st1 ⟨ks, ks, ?s2, ks, ks, ks, ks, ?s7, ks, ks, ks, ks, ks, ?s13, ks, ks, ks, ks, ?s18, ks, trivial⟩ ?_
      case s2 => refine kc fun _ ac Wd h hd => ?_; obtain ⟨v0, hv0, hV0⟩ := h.dp hd 4; exact ⟨#[v0], by simp [hv0], cR3Valid (show Vz N (x) v0 Wd from hV0) (by omega)⟩
      case s7 => refine kc fun _ ac Wd h hd => ?_; obtain ⟨v0, hv0, hV0⟩ := h.dp hd 9; exact ⟨#[v0], by simp [hv0], cR3Valid (show Vz N (y) v0 Wd from hV0) (by omega)⟩
      case s13 =>
        exact k_cell (j := 12) (off := 2) SbB.out (by kernel_rfl) (.head _) rfl rfl rfl (by kernel_rfl) (by kernel_rfl) rfl (by kernel_rfl) (fun cs w h => vzz_N2F h (hl)) Tryz.underlying4 rfl fun listed ac Wd h hd => ⟨(by obtain ⟨u, hu, hy, hU⟩ := h.dep hd 10 13 (by kernel_rfl) (by kernel_rfl); obtain rfl : u = .bool false := hU; exact hy), trivial⟩
      case s18 =>
        refine kc fun _ ac Wd h hd => ?_
        obtain ⟨v0, hv0, hV0⟩ := h.dp hd 20
        exact ⟨#[v0], by simp [hv0], (cR4One (show Vz N (y) v0 Wd from hV0)).mono fun e w h => h.le fun v w hv => hv.trans (congrArg Value.bool (decide_eq_false (h1)))⟩
      intro a2 w2 st2
      clear st1
      repeat first | refine wp_seq ?_ | refine wp_block ?_ | refine wp_skip ?_ | refine wp_exit ?_
      obtain ⟨vc, hc1, hc2⟩ := st2.slot (22, Vb (false)) (.tail _ (.head _))
      refine wp_cond_false (hc1.trans hc2) ?_
      clear hc1 hc2
      by_cases hz : y = 0
      ·
        repeat first | refine wp_seq ?_ | refine wp_block ?_ | refine wp_skip ?_ | refine wp_exit ?_
        refine rg (BT := []) (Vl := [Vpt a2 1 2, Vpt a2 1 3, VD N (y), Vi (((digs (y).natAbs).length : Int)), Vb (true)]) (B := [⟨1, none, none, 26, 4, VP2 2 2 (Vz N (x)) (Vz N (y)), VT⟩]) (SL' := [(2, Vb (false)), (22, Vb (false)), (27, Vb (true))]) st2 ⟨ks, ks, ks, ?s3, ?s4, trivial⟩ ?_
        case s3 => refine kr fun _ ac Wd h hd => ?_; obtain ⟨v0, hv0, hV0⟩ := h.dp hd 25; obtain ⟨pp, nn, cc, rfl, hnn, -⟩ := hV0; exact ⟨_, run_len rfl rfl hv0, by rw [hnn]; rfl⟩
        case s4 =>
          refine kr fun _ ac Wd h hd => ?_
          obtain ⟨v0, hv0, hV0⟩ := h.dp hd 26
          have hV0' : v0 = .int .i64 (((digs (y).natAbs).length : Int)) := hV0
          exact ⟨_, run_eqi rfl (hv0.trans hV0') rfl, congrArg Value.bool (by rw [len_eq0]; exact decide_eq_true hz)⟩
        intro a3 w3 st3
        clear st2
        repeat first | refine wp_seq ?_ | refine wp_block ?_ | refine wp_skip ?_ | refine wp_exit ?_
        obtain ⟨vc, hc1, hc2⟩ := st3.slot (27, Vb (true)) (.tail _ (.tail _ (.head _)))
        refine wp_cond_true (hc1.trans hc2) ?_
        clear hc1 hc2
        repeat first | refine wp_seq ?_ | refine wp_block ?_ | refine wp_skip ?_ | refine wp_exit ?_
        refine rg (BT := []) (Vl := [Vb (true)]) (B := [⟨1, none, none, 26, 4, VP2 2 2 (Vz N (x)) (Vz N (y)), VT⟩]) (SL' := [(22, Vb (false)), (27, Vb (true)), (2, Vb (true))]) st3 ⟨ks, trivial⟩ ?_
        intro a4 w4 st4
        clear st3
        repeat first | refine wp_seq ?_ | refine wp_block ?_ | refine wp_skip ?_ | refine wp_exit ?_
        obtain ⟨vr, r1, r4⟩ := st4.slot (2, Vb (true)) (.tail _ (.tail _ (.head _)))
        exact wp_ret (bodyPost_ret (results_tmp rfl _ _ _) st4.defers ⟨_, congrArg Ending.returned (show _ = vr from r1), (by rw [decide_eq_true (show y = 0 ∨ (1 < y ∧ Int.gcd x y = 1) from .inl hz)]; exact r4), st4.k.below⟩)
      ·
        repeat first | refine wp_seq ?_ | refine wp_block ?_ | refine wp_skip ?_ | refine wp_exit ?_
        refine rg (BT := []) (Vl := [Vpt a2 1 2, Vpt a2 1 3, VD N (y), Vi (((digs (y).natAbs).length : Int)), Vb (false)]) (B := [⟨1, none, none, 26, 4, VP2 2 2 (Vz N (x)) (Vz N (y)), VT⟩]) (SL' := [(2, Vb (false)), (22, Vb (false)), (27, Vb (false))]) st2 ⟨ks, ks, ks, ?s3, ?s4, trivial⟩ ?_
        case s3 => refine kr fun _ ac Wd h hd => ?_; obtain ⟨v0, hv0, hV0⟩ := h.dp hd 25; obtain ⟨pp, nn, cc, rfl, hnn, -⟩ := hV0; exact ⟨_, run_len rfl rfl hv0, by rw [hnn]; rfl⟩
        case s4 =>
          refine kr fun _ ac Wd h hd => ?_
          obtain ⟨v0, hv0, hV0⟩ := h.dp hd 26
          have hV0' : v0 = .int .i64 (((digs (y).natAbs).length : Int)) := hV0
          exact ⟨_, run_eqi rfl (hv0.trans hV0') rfl, congrArg Value.bool (by rw [len_eq0]; exact decide_eq_false hz)⟩
        intro a3 w3 st3
        clear st2
        repeat first | refine wp_seq ?_ | refine wp_block ?_ | refine wp_skip ?_ | refine wp_exit ?_
        obtain ⟨vc, hc1, hc2⟩ := st3.slot (27, Vb (false)) (.tail _ (.tail _ (.head _)))
        refine wp_cond_false (hc1.trans hc2) ?_
        clear hc1 hc2
        repeat first | refine wp_seq ?_ | refine wp_block ?_ | refine wp_skip ?_ | refine wp_exit ?_
        refine rg (BT := []) (Vl := [Vpt a3 1 0, Vz N (x), Vpt a3 1 2, Vz N (y), Vz N ((Int.gcd (x) (y) : Int)), Vb (decide (((Int.gcd (x) (y) : Int)) = 1)), Vb (decide (((Int.gcd (x) (y) : Int)) = 1))]) (B := [⟨1, none, none, 26, 4, VP2 2 2 (Vz N (x)) (Vz N (y)), VT⟩]) (SL' := [(22, Vb (false)), (27, Vb (false)), (2, Vb (decide (((Int.gcd (x) (y) : Int)) = 1)))]) st3 ⟨ks, ks, ks, ks, ?s4, ?s5, ks, trivial⟩ ?_
        case s4 =>
          refine kc fun _ ac Wd h hd => ?_
          obtain ⟨v0, hv0, hV0⟩ := h.dp hd 29
          obtain ⟨v1, hv1, hV1⟩ := h.dp hd 31
          exact ⟨#[v0, v1], by simp [hv0, hv1], cRGcd (show Vz N (x) v0 Wd from hV0) (show Vz N (y) v1 Wd from hV1) (by omega) (by omega)⟩
        case s5 => refine kc fun _ ac Wd h hd => ?_; obtain ⟨v0, hv0, hV0⟩ := h.dp hd 32; exact ⟨#[v0], by simp [hv0], cR4One (show Vz N ((Int.gcd (x) (y) : Int)) v0 Wd from hV0)⟩
        intro a4 w4 st4
        clear st3
        repeat first | refine wp_seq ?_ | refine wp_block ?_ | refine wp_skip ?_ | refine wp_exit ?_
        obtain ⟨vr, r1, r4⟩ := st4.slot (2, Vb (decide (((Int.gcd (x) (y) : Int)) = 1))) (.tail _ (.tail _ (.head _)))
        exact wp_ret (bodyPost_ret (results_tmp rfl _ _ _) st4.defers ⟨_, congrArg Ending.returned (show _ = vr from r1), (by rw [decide_eq_decide.2 (show (y = 0 ∨ (1 < y ∧ Int.gcd x y = 1)) ↔ ((Int.gcd x y : Int) = 1) by omega)]; exact r4), st4.k.below⟩)
set_option maxRecDepth 100000 in
set_option maxHeartbeats 1600000 in
theorem cR4ValidR {w : World} {N : Nat} {x : Int} {nb : Bool} {l : List Int} {v0 : Value} (h0 : VP2 2 2 (Vz N (x)) (VZr N nb l) v0 w) (h3 : 3 ≤ N) (hN : N ≤ 100000) (hbad : vld nb l = false) : Calls Tryz.prog 79 #[v0] w (RV (Vb false) w) := by
  go_enter Tryz.func79, Tryz.ntmps79
  have st0 : St w.heap.size w 34 [] [(0, VP2 2 2 (Vz N (x)) (VZr N nb l))] _ w := St.begin (a := ⟨#[v0, undef, undef, undef, undef, undef, undef, undef, undef, undef, undef, undef, undef, undef, undef, undef, undef, undef, undef, undef, undef, undef, undef, undef, undef, undef, undef, undef, undef, undef, undef, undef, undef, undef], []⟩) rfl rfl (List.forall_mem_cons.2 ⟨⟨_, rfl, h0⟩, (fun _ h => absurd h (by simp))⟩)
  generalize (⟨#[v0, undef, undef, undef, undef, undef, undef, undef, undef, undef, undef, undef, undef, undef, undef, undef, undef, undef, undef, undef, undef, undef, undef, undef, undef, undef, undef, undef, undef, undef, undef, undef, undef, undef], []⟩ : Act) = a0 at st0 ⊢
  repeat first | refine wp_seq ?_ | refine wp_block ?_ | refine wp_skip ?_ | refine wp_exit ?_
  refine rg (BT := []) (Vl := [VT, Vb (false)]) (B := [⟨1, some 0, some 0, 26, 4, VP2 2 2 (Vz N (x)) (VZr N nb l), VT⟩]) (SL' := [(2, Vb (false))]) st0 ⟨ks, ks, trivial⟩ ?_
  intro a1 w1 st1
  clear st0
  repeat first | refine wp_seq ?_ | refine wp_block ?_ | refine wp_skip ?_ | refine wp_exit ?_
  refine rg (BT := []) (Vl := [Vpt a1 1 0, Vz N (x), Vb (true), Vb (false), Vb (false), Vpt a1 1 2, VZr N nb l, Vb (false), Vb (true), Vb (true), Vb (true), VT, VT, VT, Vb (true), Vb (true), VT, VT, VT, Vb (true)]) (B := [⟨1, none, none, 26, 4, VP2 2 2 (Vz N (x)) (VZr N nb l), VT⟩]) (SL' := [(2, Vb (false)), (22, Vb (true))]) st1 ⟨ks, ks, ?s2, ks, ks, ks, ks, ?s7, ks, ks, ks, ks, ks, ks, ks, ks, ks, ks, ks, ks, trivial⟩ ?_
  case s2 => refine kc fun _ ac Wd h hd => ?_; obtain ⟨v0, hv0, hV0⟩ := h.dp hd 4; exact ⟨#[v0], by simp [hv0], cR3Valid (show Vz N (x) v0 Wd from hV0) (by omega)⟩
  case s7 => refine kc fun _ ac Wd h hd => ?_; obtain ⟨v0, hv0, hV0⟩ := h.dp hd 9; exact ⟨#[v0], by simp [hv0], cR3ValidR (show VZr N nb l v0 Wd from hV0) hbad (by omega)⟩
  intro a2 w2 st2
  clear st1
  repeat first | refine wp_seq ?_ | refine wp_block ?_ | refine wp_skip ?_ | refine wp_exit ?_
  obtain ⟨vc, hc1, hc2⟩ := st2.slot (22, Vb (true)) (.tail _ (.head _))
  refine wp_cond_true (hc1.trans hc2) ?_
  clear hc1 hc2
  repeat first | refine wp_seq ?_ | refine wp_block ?_ | refine wp_skip ?_ | refine wp_exit ?_
  refine rg (BT := []) (Vl := [Vb (false)]) (B := [⟨1, none, none, 26, 4, VP2 2 2 (Vz N (x)) (VZr N nb l), VT⟩]) (SL' := [(22, Vb (true)), (2, Vb (false))]) st2 ⟨ks, trivial⟩ ?_
  intro a3 w3 st3
  clear st2
  repeat first | refine wp_seq ?_ | refine wp_block ?_ | refine wp_skip ?_ | refine wp_exit ?_
  obtain ⟨vr, r1, r4⟩ := st3.slot (2, Vb (false)) (.tail _ (.head _))
  exact wp_ret (bodyPost_ret (results_tmp rfl _ _ _) st3.defers ⟨_, congrArg Ending.returned (show _ = vr from r1), r4, st3.k.below⟩)
set_option maxRecDepth 100000 in
set_option maxHeartbeats 1600000 in
theorem cQValidZ {w : World} {N : Nat} {x y : Int} {v0 : Value} (h0 : VP2 2 2 (Vz N (x)) (Vz N (y)) v0 w) (h3 : 3 ≤ N) (hN : N ≤ 100000) : Calls Tryz.prog 77 #[v0] w (RV (Vb (decide (y = 0 ∨ (1 < y ∧ Int.gcd x y = 1)))) w) := by
  go_enter Tryz.func77, Tryz.ntmps77
  have st0 : St w.heap.size w 38 [] [(0, VP2 2 2 (Vz N (x)) (Vz N (y)))] _ w := St.begin (a := ⟨#[v0, undef, undef, undef, undef, undef, undef, undef, undef, undef, undef, undef, undef, undef, undef, undef, undef, undef, undef, undef, undef, undef, undef, undef, undef, undef, undef, undef, undef, undef, undef, undef, undef, undef, undef, undef, undef, undef], []⟩) rfl rfl (List.forall_mem_cons.2 ⟨⟨_, rfl, h0⟩, (fun _ h => absurd h (by simp))⟩)
  generalize (⟨#[v0, undef, undef, undef, undef, undef, undef, undef, undef, undef, undef, undef, undef, undef, undef, undef, undef, undef, undef, undef, undef, undef, undef, undef, undef, undef, undef, undef, undef, undef, undef, undef, undef, undef, undef, undef, undef, undef], []⟩ : Act) = a0 at st0 ⊢
  repeat first | refine wp_seq ?_ | refine wp_block ?_ | refine wp_skip ?_ | refine wp_exit ?_
  refine rg (BT := []) (Vl := [VT, Vb (false)]) (B := [⟨1, some 0, some 0, 26, 4, VP2 2 2 (Vz N (x)) (Vz N (y)), VT⟩]) (SL' := [(2, Vb (false))]) st0 ⟨ks, ks, trivial⟩ ?_
  intro a1 w1 st1
  clear st0
  repeat first | refine wp_seq ?_ | refine wp_block ?_ | refine wp_skip ?_ | refine wp_exit ?_
  refine rg (BT := []) (Vl := [Vpt a1 1 0, Vz N (x), Vb (true), Vb (false), Vb (false), Vpt a1 1 2, Vz N (y), Vb (true), Vb (false), Vb (false), Vb (false)]) (B := [⟨1, none, none, 26, 4, VP2 2 2 (Vz N (x)) (Vz N (y)), VT⟩]) (SL' := [(2, Vb (false)), (3, Vb (false))]) st1 ⟨ks, ks, ?s2, ks, ks, ks, ks, ?s7, ks, ks, ks, trivial⟩ ?_
  case s2 => refine kc fun _ ac Wd h hd => ?_; obtain ⟨v0, hv0, hV0⟩ := h.dp hd 5; exact ⟨#[v0], by simp [hv0], cZValid (show Vz N (x) v0 Wd from hV0) (by omega)⟩
  case s7 => refine kc fun _ ac Wd h hd => ?_; obtain ⟨v0, hv0, hV0⟩ := h.dp hd 10; exact ⟨#[v0], by simp [hv0], cZValid (show Vz N (y) v0 Wd from hV0) (by omega)⟩
  intro a2 w2 st2
  clear st1
  repeat first | refine wp_seq ?_ | refine wp_block ?_ | refine wp_skip ?_ | refine wp_exit ?_
  obtain ⟨vc, hc1, hc2⟩ := st2.slot (3, Vb (false)) (.tail _ (.head _))
  refine wp_cond_false (hc1.trans hc2) ?_
  clear hc1 hc2
  by_cases hz : y = 0
  ·
    repeat first | refine wp_seq ?_ | refine wp_block ?_ | refine wp_skip ?_ | refine wp_exit ?_
    refine rg (BT := []) (Vl := [Vpt a2 1 2, Vpt a2 1 3, VD N (y), Vi (((digs (y).natAbs).length : Int)), Vb (true), Vb (true)]) (B := [⟨1, none, none, 26, 4, VP2 2 2 (Vz N (x)) (Vz N (y)), VT⟩]) (SL' := [(2, Vb (false)), (3, Vb (false)), (14, Vb (true))]) st2 ⟨ks, ks, ks, ?s3, ?s4, ks, trivial⟩ ?_
    case s3 => refine kr fun _ ac Wd h hd => ?_; obtain ⟨v0, hv0, hV0⟩ := h.dp hd 17; obtain ⟨pp, nn, cc, rfl, hnn, -⟩ := hV0; exact ⟨_, run_len rfl rfl hv0, by rw [hnn]; rfl⟩
    case s4 =>
      refine kr fun _ ac Wd h hd => ?_
      obtain ⟨v0, hv0, hV0⟩ := h.dp hd 18
      have hV0' : v0 = .int .i64 (((digs (y).natAbs).length : Int)) := hV0
      exact ⟨_, run_eqi rfl (hv0.trans hV0') rfl, congrArg Value.bool (by rw [len_eq0]; exact decide_eq_true hz)⟩
    intro a3 w3 st3
    clear st2
    repeat first | refine wp_seq ?_ | refine wp_block ?_ | refine wp_skip ?_ | refine wp_exit ?_
    obtain ⟨vc, hc1, hc2⟩ := st3.slot (14, Vb (true)) (.tail _ (.tail _ (.head _)))
    refine wp_cond_true (hc1.trans hc2) ?_
    clear hc1 hc2
    repeat first | refine wp_seq ?_ | refine wp_block ?_ | refine wp_skip ?_ | refine wp_exit ?_
    refine rg (BT := []) (Vl := [Vb (true)]) (B := [⟨1, none, none, 26, 4, VP2 2 2 (Vz N (x)) (Vz N (y)), VT⟩]) (SL' := [(3, Vb (false)), (14, Vb (true)), (2, Vb (true))]) st3 ⟨ks, trivial⟩ ?_
    intro a4 w4 st4
    clear st3
    repeat first | refine wp_seq ?_ | refine wp_block ?_ | refine wp_skip ?_ | refine wp_exit ?_
    obtain ⟨vr, r1, r4⟩ := st4.slot (2, Vb (true)) (.tail _ (.tail _ (.head _)))
    exact wp_ret (bodyPost_ret (results_tmp rfl _ _ _) st4.defers ⟨_, congrArg Ending.returned (show _ = vr from r1), (by rw [decide_eq_true (show y = 0 ∨ (1 < y ∧ Int.gcd x y = 1) from .inl hz)]; exact r4), st4.k.below⟩)
  ·
    repeat first | refine wp_seq ?_ | refine wp_block ?_ | refine wp_skip ?_ | refine wp_exit ?_
    refine rg (BT := []) (Vl := [Vpt a2 1 2, Vpt a2 1 3, VD N (y), Vi (((digs (y).natAbs).length : Int)), Vb (false), Vb (false)]) (B := [⟨1, none, none, 26, 4, VP2 2 2 (Vz N (x)) (Vz N (y)), VT⟩]) (SL' := [(2, Vb (false)), (3, Vb (false)), (14, Vb (false))]) st2 ⟨ks, ks, ks, ?s3, ?s4, ks, trivial⟩ ?_
    case s3 => refine kr fun _ ac Wd h hd => ?_; obtain ⟨v0, hv0, hV0⟩ := h.dp hd 17; obtain ⟨pp, nn, cc, rfl, hnn, -⟩ := hV0; exact ⟨_, run_len rfl rfl hv0, by rw [hnn]; rfl⟩
    case s4 =>
      refine kr fun _ ac Wd h hd => ?_
      obtain ⟨v0, hv0, hV0⟩ := h.dp hd 18
      have hV0' : v0 = .int .i64 (((digs (y).natAbs).length : Int)) := hV0
      exact ⟨_, run_eqi rfl (hv0.trans hV0') rfl, congrArg Value.bool (by rw [len_eq0]; exact decide_eq_false hz)⟩
    intro a3 w3 st3
    clear st2
    by_cases hp : 0 < y
    ·
      repeat first | refine wp_seq ?_ | refine wp_block ?_ | refine wp_skip ?_ | refine wp_exit ?_
      obtain ⟨vc, hc1, hc2⟩ := st3.slot (14, Vb (false)) (.tail _ (.tail _ (.head _)))
      refine wp_cond_false (hc1.trans hc2) ?_
      clear hc1 hc2
      by_cases h1 : y = 1
      ·
        repeat first | refine wp_seq ?_ | refine wp_block ?_ | refine wp_skip ?_ | refine wp_exit ?_
        refine rg (BT := []) (Vl := [Vpt a3 1 2, Vz N (y), Vi (cmpI (y) 0), Vb (true), Vb (true), Vpt a3 1 2, Vz N (y), Vb (true), Vb (false), Vb (false), Vb (false), VT, VT, VT, VT, VT, VT, Vb (false), Vb (false)]) (B := [⟨1, none, none, 26, 4, VP2 2 2 (Vz N (x)) (Vz N (y)), VT⟩]) (SL' := [(3, Vb (false)), (14, Vb (false)), (2, Vb (false))]) st3 ⟨ks, ks, ?s2, ?s3, ks, ks, ks, ?s7, ks, ks, ks, ks, ks, ks, ks, ks, ks, ks, ks, trivial⟩ ?_
        case s2 => refine kc fun _ ac Wd h hd => ?_; obtain ⟨v0, hv0, hV0⟩ := h.dp hd 21; exact ⟨#[v0], by simp [hv0], cSign (show Vz N (y) v0 Wd from hV0) (by omega)⟩
        case s3 =>
          refine kr fun _ ac Wd h hd => ?_
          obtain ⟨v0, hv0, hV0⟩ := h.dp hd 22
          have hV0' : v0 = .int .i64 (cmpI (y) 0) := hV0
          exact ⟨_, run_gtri rfl (hv0.trans hV0') rfl, congrArg Value.bool (by rw [cmp_gt hp]; rfl)⟩
        case s7 =>
          refine kc fun _ ac Wd h hd => ?_
          obtain ⟨v0, hv0, hV0⟩ := h.dp hd 26
          exact ⟨#[v0], by simp [hv0], (cOne (show Vz N (y) v0 Wd from hV0)).mono fun e w h => h.le fun v w hv => hv.trans (congrArg Value.bool (decide_eq_true (h1)))⟩
        intro a4 w4 st4
        clear st3
        repeat first | refine wp_seq ?_ | refine wp_block ?_ | refine wp_skip ?_ | refine wp_exit ?_
        obtain ⟨vr, r1, r4⟩ := st4.slot (2, Vb (false)) (.tail _ (.tail _ (.head _)))
        exact wp_ret (bodyPost_ret (results_tmp rfl _ _ _) st4.defers ⟨_, congrArg Ending.returned (show _ = vr from r1), (by rw [decide_eq_false (show ¬ (y = 0 ∨ (1 < y ∧ Int.gcd x y = 1)) by omega)]; exact r4), st4.k.below⟩)
      ·
        repeat first | refine wp_seq ?_ | refine wp_block ?_ | refine wp_skip ?_ | refine wp_exit ?_
        refine rg (BT := []) (Vl := [Vpt a3 1 2, Vz N (y), Vi (cmpI (y) 0), Vb (true), Vb (true), Vpt a3 1 2, Vz N (y), Vb (false), Vb (true), Vb (true), Vb (true), Vpt a3 1 0, Vz N (x), Vpt a3 1 2, Vz N (y), Vz (max N N) ((Int.gcd (x) (y) : Int)), Vb (decide ((Int.gcd (x) (y) : Int) = 1)), Vb (decide ((Int.gcd (x) (y) : Int) = 1)), Vb (decide ((Int.gcd (x) (y) : Int) = 1))]) (B := [⟨1, none, none, 26, 4, VP2 2 2 (Vz N (x)) (Vz N (y)), VT⟩]) (SL' := [(3, Vb (false)), (14, Vb (false)), (2, Vb (decide ((Int.gcd (x) (y) : Int) = 1)))]) st3 ⟨ks, ks, ?s2, ?s3, ks, ks, ks, ?s7, ks, ks, ks, ks, ks, ks, ks, ?s15, ?s16, ks, ks, trivial⟩ ?_
        case s2 => refine kc fun _ ac Wd h hd => ?_; obtain ⟨v0, hv0, hV0⟩ := h.dp hd 21; exact ⟨#[v0], by simp [hv0], cSign (show Vz N (y) v0 Wd from hV0) (by omega)⟩
        case s3 =>
          refine kr fun _ ac Wd h hd => ?_
          obtain ⟨v0, hv0, hV0⟩ := h.dp hd 22
          have hV0' : v0 = .int .i64 (cmpI (y) 0) := hV0
          exact ⟨_, run_gtri rfl (hv0.trans hV0') rfl, congrArg Value.bool (by rw [cmp_gt hp]; rfl)⟩
        case s7 =>
          refine kc fun _ ac Wd h hd => ?_
          obtain ⟨v0, hv0, hV0⟩ := h.dp hd 26
          exact ⟨#[v0], by simp [hv0], (cOne (show Vz N (y) v0 Wd from hV0)).mono fun e w h => h.le fun v w hv => hv.trans (congrArg Value.bool (decide_eq_false (h1)))⟩
        case s15 =>
          refine kc fun _ ac Wd h hd => ?_
          obtain ⟨v0, hv0, hV0⟩ := h.dp hd 32
          obtain ⟨v1, hv1, hV1⟩ := h.dp hd 34
          exact ⟨#[v0, v1], by simp [hv0, hv1], (cGcd (show Vz N (x) v0 Wd from hV0) (show Vz N (y) v1 Wd from hV1) (by omega) (by omega))⟩
        case s16 => refine kc fun _ ac Wd h hd => ?_; obtain ⟨v0, hv0, hV0⟩ := h.dp hd 35; exact ⟨#[v0], by simp [hv0], cOne (show Vz (max N N) ((Int.gcd (x) (y) : Int)) v0 Wd from hV0)⟩
        intro a4 w4 st4
        clear st3
        repeat first | refine wp_seq ?_ | refine wp_block ?_ | refine wp_skip ?_ | refine wp_exit ?_
        obtain ⟨vr, r1, r4⟩ := st4.slot (2, Vb (decide ((Int.gcd (x) (y) : Int) = 1))) (.tail _ (.tail _ (.head _)))
        exact wp_ret (bodyPost_ret (results_tmp rfl _ _ _) st4.defers ⟨_, congrArg Ending.returned (show _ = vr from r1), (by rw [decide_eq_decide.2 (show (y = 0 ∨ (1 < y ∧ Int.gcd x y = 1)) ↔ ((Int.gcd x y : Int) = 1) by omega)]; exact r4), st4.k.below⟩)
    ·
      repeat first | refine wp_seq ?_ | refine wp_block ?_ | refine wp_skip ?_ | refine wp_exit ?_
      obtain ⟨vc, hc1, hc2⟩ := st3.slot (14, Vb (false)) (.tail _ (.tail _ (.head _)))
      refine wp_cond_false (hc1.trans hc2) ?_
      clear hc1 hc2
      repeat first | refine wp_seq ?_ | refine wp_block ?_ | refine wp_skip ?_ | refine wp_exit ?_
      refine rg (BT := []) (Vl := [Vpt a3 1 2, Vz N (y), Vi (cmpI (y) 0), Vb (false), Vb (false), VT, VT, VT, VT, Vb (false), Vb (false), VT, VT, VT, VT, VT, VT, Vb (false), Vb (false)]) (B := [⟨1, none, none, 26, 4, VP2 2 2 (Vz N (x)) (Vz N (y)), VT⟩]) (SL' := [(3, Vb (false)), (14, Vb (false)), (2, Vb (false))]) st3 ⟨ks, ks, ?s2, ?s3, ks, ks, ks, ks, ks, ks, ks, ks, ks, ks, ks, ks, ks, ks, ks, trivial⟩ ?_
      case s2 => refine kc fun _ ac Wd h hd => ?_; obtain ⟨v0, hv0, hV0⟩ := h.dp hd 21; exact ⟨#[v0], by simp [hv0], cSign (show Vz N (y) v0 Wd from hV0) (by omega)⟩
      case s3 =>
        refine kr fun _ ac Wd h hd => ?_
        obtain ⟨v0, hv0, hV0⟩ := h.dp hd 22
        have hV0' : v0 = .int .i64 (cmpI (y) 0) := hV0
        exact ⟨_, run_gtri rfl (hv0.trans hV0') rfl, congrArg Value.bool (by rw [cmp_lt (show y < 0 by omega)]; rfl)⟩
      intro a4 w4 st4
      clear st3
      repeat first | refine wp_seq ?_ | refine wp_block ?_ | refine wp_skip ?_ | refine wp_exit ?_
      obtain ⟨vr, r1, r4⟩ := st4.slot (2, Vb (false)) (.tail _ (.tail _ (.head _)))
      exact wp_ret (bodyPost_ret (results_tmp rfl _ _ _) st4.defers ⟨_, congrArg Ending.returned (show _ = vr from r1), (by rw [decide_eq_false (show ¬ (y = 0 ∨ (1 < y ∧ Int.gcd x y = 1)) by omega)]; exact r4), st4.k.below⟩)
set_option maxRecDepth 100000 in
set_option maxHeartbeats 1600000 in
theorem cQValidR {w : World} {N : Nat} {x : Int} {nb : Bool} {l : List Int} {v0 : Value} (h0 : VP2 2 2 (Vz N (x)) (VZr N nb l) v0 w) (h3 : 3 ≤ N) (hN : N ≤ 100000) (hbad : vld nb l = false) : Calls Tryz.prog 77 #[v0] w (RV (Vb false) w) := by
  go_enter Tryz.func77, Tryz.ntmps77
  have st0 : St w.heap.size w 38 [] [(0, VP2 2 2 (Vz N (x)) (VZr N nb l))] _ w := St.begin (a := ⟨#[v0, undef, undef, undef, undef, undef, undef, undef, undef, undef, undef, undef, undef, undef, undef, undef, undef, undef, undef, undef, undef, undef, undef, undef, undef, undef, undef, undef, undef, undef, undef, undef, undef, undef, undef, undef, undef, undef], []⟩) rfl rfl (List.forall_mem_cons.2 ⟨⟨_, rfl, h0⟩, (fun _ h => absurd h (by simp))⟩)
  generalize (⟨#[v0, undef, undef, undef, undef, undef, undef, undef, undef, undef, undef, undef, undef, undef, undef, undef, undef, undef, undef, undef, undef, undef, undef, undef, undef, undef, undef, undef, undef, undef, undef, undef, undef, undef, undef, undef, undef, undef], []⟩ : Act) = a0 at st0 ⊢
  repeat first | refine wp_seq ?_ | refine wp_block ?_ | refine wp_skip ?_ | refine wp_exit ?_
  refine rg (BT := []) (Vl := [VT, Vb (false)]) (B := [⟨1, some 0, some 0, 26, 4, VP2 2 2 (Vz N (x)) (VZr N nb l), VT⟩]) (SL' := [(2, Vb (false))]) st0 ⟨ks, ks, trivial⟩ ?_
  intro a1 w1 st1
  clear st0
  repeat first | refine wp_seq ?_ | refine wp_block ?_ | refine wp_skip ?_ | refine wp_exit ?_
  refine rg (BT := []) (Vl := [Vpt a1 1 0, Vz N (x), Vb (true), Vb (false), Vb (false), Vpt a1 1 2, VZr N nb l, Vb (false), Vb (true), Vb (true), Vb (true)]) (B := [⟨1, none, none, 26, 4, VP2 2 2 (Vz N (x)) (VZr N nb l), VT⟩]) (SL' := [(2, Vb (false)), (3, Vb (true))]) st1 ⟨ks, ks, ?s2, ks, ks, ks, ks, ?s7, ks, ks, ks, trivial⟩ ?_
  case s2 => refine kc fun _ ac Wd h hd => ?_; obtain ⟨v0, hv0, hV0⟩ := h.dp hd 5; exact ⟨#[v0], by simp [hv0], cZValid (show Vz N (x) v0 Wd from hV0) (by omega)⟩
  case s7 => refine kc fun _ ac Wd h hd => ?_; obtain ⟨v0, hv0, hV0⟩ := h.dp hd 10; exact ⟨#[v0], by simp [hv0], cZValidR (show VZr N nb l v0 Wd from hV0) hbad (by omega)⟩
  intro a2 w2 st2
  clear st1
  repeat first | refine wp_seq ?_ | refine wp_block ?_ | refine wp_skip ?_ | refine wp_exit ?_
  obtain ⟨vc, hc1, hc2⟩ := st2.slot (3, Vb (true)) (.tail _ (.head _))
  refine wp_cond_true (hc1.trans hc2) ?_
  clear hc1 hc2
  repeat first | refine wp_seq ?_ | refine wp_block ?_ | refine wp_skip ?_ | refine wp_exit ?_
  refine rg (BT := []) (Vl := [Vb (false)]) (B := [⟨1, none, none, 26, 4, VP2 2 2 (Vz N (x)) (VZr N nb l), VT⟩]) (SL' := [(3, Vb (true)), (2, Vb (false))]) st2 ⟨ks, trivial⟩ ?_
  intro a3 w3 st3
  clear st2
  repeat first | refine wp_seq ?_ | refine wp_block ?_ | refine wp_skip ?_ | refine wp_exit ?_
  obtain ⟨vr, r1, r4⟩ := st3.slot (2, Vb (false)) (.tail _ (.head _))
  exact wp_ret (bodyPost_ret (results_tmp rfl _ _ _) st3.defers ⟨_, congrArg Ending.returned (show _ = vr from r1), r4, st3.k.below⟩)
theorem q_low {q : Rat} : qd q = 0 ∨ (1 < qd q ∧ Int.gcd q.num (qd q) = 1) := by
  by_cases h : q.den = 1
  · exact .inl (if_pos h)
  · have := q.den_pos
    exact .inr ⟨by rw [qd_of h]; omega, by rw [qd_of h]; exact q.reduced⟩
theorem cR4Valid {W : World} {N : Nat} {q : Rat} {v : Value} (h : Vq N q v W) (h3 : 3 ≤ N) (hN : N ≤ 100000) : Calls Tryz.prog 79 #[v] W (RV (Vb true) W) := by
  have := cR4ValidZ h h3 hN
  rw [decide_eq_true q_low] at this
  exact this

end Go.Proofs.YteaoaoknpihchaaGreat

namespace Go.Proofs.YteaoaoknpihchaaGreat
open Go.RowKit

set_option maxRecDepth 100000 in
set_option maxHeartbeats 1600000 in
theorem cR5Valid {w : World} {N : Nat} {a b : Rat} {v0 : Value} (h0 : Vv N (a) (b) v0 w) (h3 : 3 ≤ N) (hN : N ≤ 4000) : Calls Tryz.prog 35 #[v0] w (RV (Vb (decide (a * a + b * b = Rat.divInt 1 1))) w) := by
  go_enter Tryz.func35, Tryz.ntmps35
  have st0 : St w.heap.size w 28 [] [(0, Vv N (a) (b))] _ w := St.begin (a := ⟨#[v0, undef, undef, undef, undef, undef, undef, undef, undef, undef, undef, undef, undef, undef, undef, undef, undef, undef, undef, undef, undef, undef, undef, undef, undef, undef, undef, undef], []⟩) rfl rfl (List.forall_mem_cons.2 ⟨⟨_, rfl, h0⟩, (fun _ h => absurd h (by simp))⟩)
  generalize (⟨#[v0, undef, undef, undef, undef, undef, undef, undef, undef, undef, undef, undef, undef, undef, undef, undef, undef, undef, undef, undef, undef, undef, undef, undef, undef, undef, undef, undef], []⟩ : Act) = a0 at st0 ⊢
  repeat first | refine wp_seq ?_ | refine wp_block ?_ | refine wp_skip ?_ | refine wp_exit ?_
  refine rg (BT := [(26, 4, 0)]) (Vl := [VT, Vb (false)]) (B := [⟨1, some 0, some 0, 47, 8, Vv N (a) (b), VT⟩]) (SL' := [(2, Vb (false))]) st0 ⟨ks, ks, trivial⟩ ?_
  intro a1 w1 st1
  clear st0
  repeat first | refine wp_seq ?_ | refine wp_block ?_ | refine wp_skip ?_ | refine wp_exit ?_
  refine rg (BT := [(26, 4, 0)]) (Vl := [Vpt a1 1 0, Vq N (a), Vb (true), Vb (false), Vb (false), Vpt a1 1 4, Vq N (b), Vb (true), Vb (false), Vb (false)]) (B := [⟨1, none, none, 47, 8, Vv N (a) (b), VT⟩]) (SL' := [(2, Vb (false)), (13, Vb (false))]) st1 ⟨ks, ks, ?s2, ks, ks, ks, ks, ?s7, ks, ks, trivial⟩ ?_
  case s2 => refine kc fun _ ac Wd h hd => ?_; obtain ⟨v0, hv0, hV0⟩ := h.dp hd 5; exact ⟨#[v0], by simp [hv0], cR4Valid (show Vq N (a) v0 Wd from hV0) (by omega) (by omega)⟩
  case s7 => refine kc fun _ ac Wd h hd => ?_; obtain ⟨v0, hv0, hV0⟩ := h.dp hd 10; exact ⟨#[v0], by simp [hv0], cR4Valid (show Vq N (b) v0 Wd from hV0) (by omega) (by omega)⟩
  intro a2 w2 st2
  clear st1
  repeat first | refine wp_seq ?_ | refine wp_block ?_ | refine wp_skip ?_ | refine wp_exit ?_
  obtain ⟨vc, hc1, hc2⟩ := st2.slot (13, Vb (false)) (.tail _ (.head _))
  refine wp_cond_false (hc1.trans hc2) ?_
  clear hc1 hc2
  repeat first | refine wp_seq ?_ | refine wp_block ?_ | refine wp_skip ?_ | refine wp_exit ?_
  refine rg (BT := [(26, 4, 0)]) (Vl := [Vpt a2 1 0, Vq N (a), Vpt a2 1 0, Vq N (a), Vq (N + N) ((a) * (a)), Vpt a2 1 4, Vq N (b), Vpt a2 1 4, Vq N (b), Vq (N + N) ((b) * (b)), Vq ((N + N) + (N + N) + 1) (((a) * (a)) + ((b) * (b))), VT, VT]) (B := [⟨1, none, none, 47, 8, Vv N (a) (b), VT⟩, ⟨3, some 11, some 12, 26, 4, Vq ((N + N) + (N + N) + 1) (((a) * (a)) + ((b) * (b))), VT⟩]) (SL' := [(2, Vb (false)), (13, Vb (false))]) st2 ⟨ks, ks, ks, ks, ?s4, ks, ks, ks, ks, ?s9, ?s10, ks, ks, trivial⟩ ?_
  case s4 =>
    refine kc fun _ ac Wd h hd => ?_
    obtain ⟨v0, hv0, hV0⟩ := h.dp hd 15
    obtain ⟨v1, hv1, hV1⟩ := h.dp hd 17
    exact ⟨#[v0, v1], by simp [hv0, hv1], cR4Mul (show Vq N (a) v0 Wd from hV0) (show Vq N (a) v1 Wd from hV1) (by omega) (by omega)⟩
  case s9 =>
    refine kc fun _ ac Wd h hd => ?_
    obtain ⟨v0, hv0, hV0⟩ := h.dp hd 20
    obtain ⟨v1, hv1, hV1⟩ := h.dp hd 22
    exact ⟨#[v0, v1], by simp [hv0, hv1], cR4Mul (show Vq N (b) v0 Wd from hV0) (show Vq N (b) v1 Wd from hV1) (by omega) (by omega)⟩
  case s10 =>
    refine kc fun _ ac Wd h hd => ?_
    obtain ⟨v0, hv0, hV0⟩ := h.dp hd 18
    obtain ⟨v1, hv1, hV1⟩ := h.dp hd 23
    exact ⟨#[v0, v1], by simp [hv0, hv1], cR4Add (show Vq (N + N) ((a) * (a)) v0 Wd from hV0) (show Vq (N + N) ((b) * (b)) v1 Wd from hV1) (by omega) (by omega)⟩
  intro a3 w3 st3
  clear st2
  repeat first | refine wp_seq ?_ | refine wp_block ?_ | refine wp_skip ?_ | refine wp_exit ?_
  refine rg (BT := [(26, 4, 0)]) (Vl := [Vq ((N + N) + (N + N) + 1) (((a) * (a)) + ((b) * (b))), Vq 3 (Rat.divInt (1) (1)), Vb (decide ((((a) * (a)) + ((b) * (b))) = (Rat.divInt (1) (1)))), Vb (decide ((((a) * (a)) + ((b) * (b))) = (Rat.divInt (1) (1))))]) (B := [⟨1, none, none, 47, 8, Vv N (a) (b), VT⟩, ⟨3, none, none, 26, 4, Vq ((N + N) + (N + N) + 1) (((a) * (a)) + ((b) * (b))), VT⟩]) (SL' := [(13, Vb (false)), (2, Vb (decide ((((a) * (a)) + ((b) * (b))) = (Rat.divInt (1) (1)))))]) st3 ⟨ks, ?s1, ?s2, ks, trivial⟩ ?_
  case s1 =>
    refine kc fun _ ac Wd h hd => ?_
    exact ⟨#[.int .i64 (1), .int .i64 (1)], by simp [eval_const], cR4Of (show Vi (1) (.int .i64 (1)) Wd from rfl) (show Vi (1) (.int .i64 (1)) Wd from rfl) (by omega) (by omega) (by omega) (by omega)⟩
  case s2 =>
    refine kc fun _ ac Wd h hd => ?_
    obtain ⟨v0, hv0, hV0⟩ := h.dp hd 25
    obtain ⟨v1, hv1, hV1⟩ := h.dp hd 26
    exact ⟨#[v0, v1], by simp [hv0, hv1], cR4Same (Vq_le (M := (max ((N + N) + (N + N) + 1) 3)) (show Vq ((N + N) + (N + N) + 1) (((a) * (a)) + ((b) * (b))) v0 Wd from hV0) (by omega)) (Vq_le (M := (max ((N + N) + (N + N) + 1) 3)) (show Vq 3 (Rat.divInt (1) (1)) v1 Wd from hV1) (by omega)) (by omega)⟩
  intro a4 w4 st4
  clear st3
  repeat first | refine wp_seq ?_ | refine wp_block ?_ | refine wp_skip ?_ | refine wp_exit ?_
  obtain ⟨vr, r1, r4⟩ := st4.slot (2, Vb (decide ((((a) * (a)) + ((b) * (b))) = (Rat.divInt (1) (1))))) (.tail _ (.head _))
  exact wp_ret (bodyPost_ret (results_tmp rfl _ _ _) st4.defers ⟨_, congrArg Ending.returned (show _ = vr from r1), r4, st4.k.below⟩)
set_option maxRecDepth 100000 in
set_option maxHeartbeats 1600000 in
theorem cR5ValidBad {w : World} {N : Nat} {b : Rat} {A : VP} [hA : Ag A 4] [hS : ∀ BT, Sb BT A] {v0 : Value} (h0 : VP2 4 4 A (Vq N b) v0 w) (hN : N ≤ 4000) (hbad : ∀ v W, A v W → Calls Tryz.prog 79 #[v] W (RV (Vb false) W)) : Calls Tryz.prog 35 #[v0] w (RV (Vb false) w) := by
  go_enter Tryz.func35, Tryz.ntmps35
  have st0 : St w.heap.size w 28 [] [(0, VP2 4 4 A (Vq N b))] _ w := St.begin (a := ⟨#[v0, undef, undef, undef, undef, undef, undef, undef, undef, undef, undef, undef, undef, undef, undef, undef, undef, undef, undef, undef, undef, undef, undef, undef, undef, undef, undef, undef], []⟩) rfl rfl (List.forall_mem_cons.2 ⟨⟨_, rfl, h0⟩, (fun _ h => absurd h (by simp))⟩)
  generalize (⟨#[v0, undef, undef, undef, undef, undef, undef, undef, undef, undef, undef, undef, undef, undef, undef, undef, undef, undef, undef, undef, undef, undef, undef, undef, undef, undef, undef, undef], []⟩ : Act) = a0 at st0 ⊢
  repeat first | refine wp_seq ?_ | refine wp_block ?_ | refine wp_skip ?_ | refine wp_exit ?_
  refine rg (BT := [(26, 4, 0)]) (Vl := [VT, Vb (false)]) (B := [⟨1, some 0, some 0, 47, 8, VP2 4 4 A (Vq N b), VT⟩]) (SL' := [(2, Vb (false))]) st0 ⟨ks, ks, trivial⟩ ?_
  intro a1 w1 st1
  clear st0
  repeat first | refine wp_seq ?_ | refine wp_block ?_ | refine wp_skip ?_ | refine wp_exit ?_
  refine rg (BT := [(26, 4, 0)]) (Vl := [Vpt a1 1 0, A, Vb (false), Vb (true), Vb (true), VT, VT, VT, VT, Vb (true)]) (B := [⟨1, none, none, 47, 8, VP2 4 4 A (Vq N b), VT⟩]) (SL' := [(2, Vb (false)), (13, Vb (true))]) st1 ⟨ks, ks, ?s2, ks, ks, ks, ks, ks, ks, ks, trivial⟩ ?_
  case s2 => refine kc fun _ ac Wd h hd => ?_; obtain ⟨v0, hv0, hV0⟩ := h.dp hd 5; exact ⟨#[v0], by simp [hv0], hbad _ _ (show A v0 Wd from hV0)⟩
  intro a2 w2 st2
  clear st1
  repeat first | refine wp_seq ?_ | refine wp_block ?_ | refine wp_skip ?_ | refine wp_exit ?_
  obtain ⟨vc, hc1, hc2⟩ := st2.slot (13, Vb (true)) (.tail _ (.head _))
  refine wp_cond_true (hc1.trans hc2) ?_
  clear hc1 hc2
  repeat first | refine wp_seq ?_ | refine wp_block ?_ | refine wp_skip ?_ | refine wp_exit ?_
  refine rg (BT := [(26, 4, 0)]) (Vl := [Vb (false)]) (B := [⟨1, none, none, 47, 8, VP2 4 4 A (Vq N b), VT⟩]) (SL' := [(13, Vb (true)), (2, Vb (false))]) st2 ⟨ks, trivial⟩ ?_
  intro a3 w3 st3
  clear st2
  repeat first | refine wp_seq ?_ | refine wp_block ?_ | refine wp_skip ?_ | refine wp_exit ?_
  obtain ⟨vr, r1, r4⟩ := st3.slot (2, Vb (false)) (.tail _ (.head _))
  exact wp_ret (bodyPost_ret (results_tmp rfl _ _ _) st3.defers ⟨_, congrArg Ending.returned (show _ = vr from r1), r4, st3.k.below⟩)
set_option maxRecDepth 100000 in
set_option maxHeartbeats 1600000 in
theorem cPValidBad {w : World} {N : Nat} {b : Rat} {A : VP} [hA : Ag A 4] [hS : ∀ BT, Sb BT A] {v0 : Value} (h0 : VP2 4 4 A (Vq N b) v0 w) (hN : N ≤ 4000) (hbad : ∀ v W, A v W → Calls Tryz.prog 77 #[v] W (RV (Vb false) W)) : Calls Tryz.prog 34 #[v0] w (RV (Vb false) w) := by
  go_enter Tryz.func34, Tryz.ntmps34
  have st0 : St w.heap.size w 20 [] [(0, VP2 4 4 A (Vq N b))] _ w := St.begin (a := ⟨#[v0, undef, undef, undef, undef, undef, undef, undef, undef, undef, undef, undef, undef, undef, undef, undef, undef, undef, undef, undef], []⟩) rfl rfl (List.forall_mem_cons.2 ⟨⟨_, rfl, h0⟩, (fun _ h => absurd h (by simp))⟩)
  generalize (⟨#[v0, undef, undef, undef, undef, undef, undef, undef, undef, undef, undef, undef, undef, undef, undef, undef, undef, undef, undef, undef], []⟩ : Act) = a0 at st0 ⊢
  repeat first | refine wp_seq ?_ | refine wp_block ?_ | refine wp_skip ?_ | refine wp_exit ?_
  refine rg (BT := []) (Vl := [VT, Vb (false)]) (B := [⟨1, some 0, some 0, 47, 8, VP2 4 4 A (Vq N b), VT⟩]) (SL' := [(2, Vb (false))]) st0 ⟨ks, ks, trivial⟩ ?_
  intro a1 w1 st1
  clear st0
  repeat first | refine wp_seq ?_ | refine wp_block ?_ | refine wp_skip ?_ | refine wp_exit ?_
  refine rg (BT := []) (Vl := [Vpt a1 1 0, A, Vb (false), Vb (false), VT, VT, VT, Vb (false), Vb (false), VT, VT, VT, VT, VT, VT, VT, Vb (false), Vb (false)]) (B := [⟨1, none, none, 47, 8, VP2 4 4 A (Vq N b), VT⟩]) (SL' := [(2, Vb (false))]) st1 ⟨ks, ks, ?s2, ks, ks, ks, ks, ks, ks, ks, ks, ks, ks, ks, ks, ks, ks, ks, trivial⟩ ?_
  case s2 => refine kc fun _ ac Wd h hd => ?_; obtain ⟨v0, hv0, hV0⟩ := h.dp hd 4; exact ⟨#[v0], by simp [hv0], hbad _ _ (show A v0 Wd from hV0)⟩
  intro a2 w2 st2
  clear st1
  repeat first | refine wp_seq ?_ | refine wp_block ?_ | refine wp_skip ?_ | refine wp_exit ?_
  obtain ⟨vr, r1, r4⟩ := st2.slot (2, Vb (false)) (.head _)
  exact wp_ret (bodyPost_ret (results_tmp rfl _ _ _) st2.defers ⟨_, congrArg Ending.returned (show _ = vr from r1), r4, st2.k.below⟩)
end Go.Proofs.YteaoaoknpihchaaGreat
