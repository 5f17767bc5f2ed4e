/- Contracts of the package integer and its reference: The reference's rational numbers. sherdref04.Same. -/
import Derived.Test.YteaoaoknpihchaaGreatM28
set_option linter.unusedVariables false
namespace Go.Proofs.YteaoaoknpihchaaGreat
open Go.RowKit

theorem add_mk (a b : Rat) : Rat.divInt (a.num * (b.den : Int) + b.num * (a.den : Int)) ((a.den : Int) * (b.den : Int)) = a + b := by
  have h1 := a.den_pos
  have h2 := b.den_pos
  have := Rat.divInt_add_divInt a.num b.num (d₁ := (a.den : Int)) (d₂ := (b.den : Int)) (by omega) (by omega)
  rw [Rat.num_divInt_den, Rat.num_divInt_den] at this
  exact this.symm
theorem mul_mk (a b : Rat) : Rat.divInt (a.num * b.num) ((a.den : Int) * (b.den : Int)) = a * b := by
  have := Rat.divInt_mul_divInt a.num b.num (d₁ := (a.den : Int)) (d₂ := (b.den : Int))
  rw [Rat.num_divInt_den, Rat.num_divInt_den] at this
  exact this.symm
theorem div_mk (a b : Rat) : Rat.divInt (a.num * (b.den : Int)) ((a.den : Int) * b.num) = a / b := by
  have e : b⁻¹ = Rat.divInt (b.den : Int) b.num := by
    have := Rat.inv_divInt b.num (b.den : Int)
    rwa [Rat.num_divInt_den] at this
  have := Rat.divInt_mul_divInt a.num (b.den : Int) (d₁ := (a.den : Int)) (d₂ := b.num)
  rw [Rat.num_divInt_den, ← e, ← Rat.div_def] at this
  exact this.symm

set_option maxRecDepth 100000 in
set_option maxHeartbeats 1600000 in
theorem cR4Neg {w : World} {N : Nat} {q : Rat} {v0 : Value} (h0 : Vq N (q) v0 w) (hN : N ≤ 1000000) : Calls Tryz.prog 76 #[v0] w (RV (Vq N (-q)) w) := by
  go_enter Tryz.func76, Tryz.ntmps76
  have st0 : St w.heap.size w 9 [] [(0, Vq N (q))] _ w := St.begin (a := ⟨#[v0, undef, undef, undef, undef, undef, undef, undef, undef], []⟩) rfl rfl (List.forall_mem_cons.2 ⟨⟨_, rfl, h0⟩, (fun _ h => absurd h (by simp))⟩)
  generalize (⟨#[v0, undef, undef, undef, undef, undef, undef, undef, undef], []⟩ : Act) = a0 at st0 ⊢
  repeat first | refine wp_seq ?_ | refine wp_block ?_ | refine wp_skip ?_ | refine wp_exit ?_
  refine rg (BT := [(26, 4, 0)]) (Vl := [VT, VT]) (B := [⟨1, some 0, some 0, 26, 4, Vq N (q), VT⟩, ⟨2, some 1, none, 26, 4, VT, VT⟩]) (SL' := []) st0 ⟨ks, ks, trivial⟩ ?_
  intro a1 w1 st1
  clear st0
  repeat first | refine wp_seq ?_ | refine wp_block ?_ | refine wp_skip ?_ | refine wp_exit ?_
  refine rg (BT := [(26, 4, 0)]) (Vl := [Vpt a1 1 0, Vz N ((q).num), Vz N (-((q).num)), Vpt a1 1 2, Vz N (qd (q)), VP2 2 2 (Vz N (-((q).num))) (Vz N (qd (q))), VT]) (B := [⟨1, none, none, 26, 4, Vq N (q), VT⟩, ⟨2, none, some 6, 26, 4, VP2 2 2 (Vz N (-((q).num))) (Vz N (qd (q))), VT⟩]) (SL' := []) st1 ⟨ks, ks, ?s2, ks, ks, ?s5, ks, trivial⟩ ?_
  case s2 => refine kc fun _ ac Wd h hd => ?_; obtain ⟨v0, hv0, hV0⟩ := h.dp hd 4; exact ⟨#[v0], by simp [hv0], cRNeg (show Vz N ((q).num) v0 Wd from hV0)⟩
  case s5 => refine kr fun _ ac Wd h hd => ?_; obtain ⟨v0, hv0, hV0⟩ := h.dp hd 5; obtain ⟨v1, hv1, hV1⟩ := h.dp hd 7; exact build_Rat rfl hv0 hv1 (AggV_Vz _ _) (AggV_Vz _ _) hV0 hV1
  intro a2 w2 st2
  clear st1
  repeat first | refine wp_seq ?_ | refine wp_block ?_ | refine wp_skip ?_ | refine wp_exit ?_
  obtain ⟨g, cs, r1, r2, r3, r4, r5⟩ := st2.res ⟨2, none, none, 26, 4, VP2 2 2 (Vz N (-((q).num))) (Vz N (qd (q))), VT⟩ (.tail _ (.head _)) rfl rfl
  exact wp_ret (bodyPost_ret (results_cell_row rfl _ _ g 26 cs (0, 0) _ r1 r2 Tryz.underlying26 rfl (by rw [r3]; exact size_Rat)) st2.defers ⟨_, rfl, (show Vq N (-q) _ _ from r4), r5⟩)
set_option maxRecDepth 100000 in
set_option maxHeartbeats 1600000 in
theorem cR4Sign {w : World} {N : Nat} {q : Rat} {v0 : Value} (h0 : Vq N (q) v0 w) (hN : N ≤ 1000000) : Calls Tryz.prog 73 #[v0] w (RV (Vi (cmpI q.num 0)) w) := by
  go_enter Tryz.func73, Tryz.ntmps73
  have st0 : St w.heap.size w 6 [] [(0, Vq N (q))] _ w := St.begin (a := ⟨#[v0, undef, undef, undef, undef, undef], []⟩) rfl rfl (List.forall_mem_cons.2 ⟨⟨_, rfl, h0⟩, (fun _ h => absurd h (by simp))⟩)
  generalize (⟨#[v0, undef, undef, undef, undef, undef], []⟩ : Act) = a0 at st0 ⊢
  repeat first | refine wp_seq ?_ | refine wp_block ?_ | refine wp_skip ?_ | refine wp_exit ?_
  refine rg (BT := []) (Vl := [VT, Vi (0)]) (B := [⟨1, some 0, some 0, 26, 4, Vq N (q), VT⟩]) (SL' := [(2, Vi (0))]) st0 ⟨ks, ks, trivial⟩ ?_
  intro a1 w1 st1
  clear st0
  repeat first | refine wp_seq ?_ | refine wp_block ?_ | refine wp_skip ?_ | refine wp_exit ?_
  refine rg (BT := []) (Vl := [Vpt a1 1 0, Vz N ((q).num), Vi (cmpI ((q).num) 0), Vi (cmpI ((q).num) 0)]) (B := [⟨1, none, none, 26, 4, Vq N (q), VT⟩]) (SL' := [(2, Vi (cmpI ((q).num) 0))]) st1 ⟨ks, ks, ?s2, ks, trivial⟩ ?_
  case s2 => refine kc fun _ ac Wd h hd => ?_; obtain ⟨v0, hv0, hV0⟩ := h.dp hd 4; exact ⟨#[v0], by simp [hv0], cRSign (show Vz N ((q).num) v0 Wd from hV0) (by omega)⟩
  intro a2 w2 st2
  clear st1
  repeat first | refine wp_seq ?_ | refine wp_block ?_ | refine wp_skip ?_ | refine wp_exit ?_
  obtain ⟨vr, r1, r4⟩ := st2.slot (2, Vi (cmpI ((q).num) 0)) (.head _)
  exact wp_ret (bodyPost_ret (results_tmp rfl _ _ _) st2.defers ⟨_, congrArg Ending.returned (show _ = vr from r1), r4, st2.k.below⟩)
set_option maxRecDepth 100000 in
set_option maxHeartbeats 1600000 in
theorem cR4Of {w : World} {p q : Int} {v0 v1 : Value} (h0 : Vi (p) v0 w) (h1 : Vi (q) v1 w) (hp0 : -9223372036854775808 ≤ p) (hp1 : p ≤ 9223372036854775807) (hq0 : -9223372036854775808 ≤ q) (hq1 : q ≤ 9223372036854775807) : Calls Tryz.prog 57 #[v0, v1] w (RV (Vq 3 (Rat.divInt p q)) w) := by
  go_enter Tryz.func57, Tryz.ntmps57
  have st0 : St w.heap.size w 10 [] [(0, Vi (p)), (1, Vi (q))] _ w := St.begin (a := ⟨#[v0, v1, undef, undef, undef, undef, undef, undef, undef, undef], []⟩) rfl rfl (List.forall_mem_cons.2 ⟨⟨_, rfl, h0⟩, (List.forall_mem_cons.2 ⟨⟨_, rfl, h1⟩, (fun _ h => absurd h (by simp))⟩)⟩)
  generalize (⟨#[v0, v1, undef, undef, undef, undef, undef, undef, undef, undef], []⟩ : Act) = a0 at st0 ⊢
  repeat first | refine wp_seq ?_ | refine wp_block ?_ | refine wp_skip ?_ | refine wp_exit ?_
  refine rg (BT := [(26, 4, 0)]) (Vl := [VT]) (B := [⟨4, some 0, none, 26, 4, VT, VT⟩]) (SL' := [(0, Vi (p)), (1, Vi (q))]) st0 ⟨ks, trivial⟩ ?_
  intro a1 w1 st1
  clear st0
  repeat first | refine wp_seq ?_ | refine wp_block ?_ | refine wp_skip ?_ | refine wp_exit ?_
  refine rg (BT := [(26, 4, 0)]) (Vl := [Vi (p), Vz 3 (p), Vi (q), Vz 3 (q), Vq 3 (Rat.divInt (p) (q)), VT]) (B := [⟨4, none, some 5, 26, 4, Vq 3 (Rat.divInt (p) (q)), VT⟩]) (SL' := []) st1 ⟨ks, ?s1, ks, ?s3, ?s4, ks, trivial⟩ ?_
  case s1 => refine kc fun _ ac Wd h hd => ?_; obtain ⟨v0, hv0, hV0⟩ := h.dp hd 5; exact ⟨#[v0], by simp [hv0], cROfV (show Vi (p) v0 Wd from hV0) (by omega) (by omega)⟩
  case s3 => refine kc fun _ ac Wd h hd => ?_; obtain ⟨v0, hv0, hV0⟩ := h.dp hd 7; exact ⟨#[v0], by simp [hv0], cROfV (show Vi (q) v0 Wd from hV0) (by omega) (by omega)⟩
  case s4 =>
    refine kc fun _ ac Wd h hd => ?_
    obtain ⟨v0, hv0, hV0⟩ := h.dp hd 6
    obtain ⟨v1, hv1, hV1⟩ := h.dp hd 8
    exact ⟨#[v0, v1], by simp [hv0, hv1], cR4Make (show Vz 3 (p) v0 Wd from hV0) (show Vz 3 (q) v1 Wd from hV1) (by omega) (by omega)⟩
  intro a2 w2 st2
  clear st1
  repeat first | refine wp_seq ?_ | refine wp_block ?_ | refine wp_skip ?_ | refine wp_exit ?_
  obtain ⟨g, cs, r1, r2, r3, r4, r5⟩ := st2.res ⟨4, none, none, 26, 4, Vq 3 (Rat.divInt (p) (q)), VT⟩ (.head _) rfl rfl
  exact wp_ret (bodyPost_ret (results_cell_row rfl _ _ g 26 cs (0, 0) _ r1 r2 Tryz.underlying26 rfl (by rw [r3]; exact size_Rat)) st2.defers ⟨_, rfl, r4, r5⟩)
set_option maxRecDepth 100000 in
set_option maxHeartbeats 1600000 in
theorem cR4Add {w : World} {N : Nat} {a b : Rat} {v0 v1 : Value} (h0 : Vq N (a) v0 w) (h1 : Vq N (b) v1 w) (h3 : 3 ≤ N) (hN : N ≤ 100000) : Calls Tryz.prog 59 #[v0, v1] w (RV (Vq (N + N + 1) (a + b)) w) := by
  go_enter Tryz.func59, Tryz.ntmps59
  have st0 : St w.heap.size w 26 [] [(0, Vq N (a)), (1, Vq N (b))] _ w := St.begin (a := ⟨#[v0, v1, undef, undef, undef, undef, undef, undef, undef, undef, undef, undef, undef, undef, undef, undef, undef, undef, undef, undef, undef, undef, undef, undef, undef, undef], []⟩) rfl rfl (List.forall_mem_cons.2 ⟨⟨_, rfl, h0⟩, (List.forall_mem_cons.2 ⟨⟨_, rfl, h1⟩, (fun _ h => absurd h (by simp))⟩)⟩)
  generalize (⟨#[v0, v1, undef, undef, undef, undef, undef, undef, undef, undef, undef, undef, undef, undef, undef, undef, undef, undef, undef, undef, undef, undef, undef, undef, undef, undef], []⟩ : Act) = a0 at st0 ⊢
  repeat first | refine wp_seq ?_ | refine wp_block ?_ | refine wp_skip ?_ | refine wp_exit ?_
  refine rg (BT := [(24, 2, 0), (26, 4, 0)]) (Vl := [VT, VT, VT]) (B := [⟨2, some 0, some 0, 26, 4, Vq N (a), VT⟩, ⟨3, some 1, some 1, 26, 4, Vq N (b), VT⟩, ⟨4, some 2, none, 26, 4, VT, VT⟩]) (SL' := []) st0 ⟨ks, ks, ks, trivial⟩ ?_
  intro a1 w1 st1
  clear st0
  repeat first | refine wp_seq ?_ | refine wp_block ?_ | refine wp_skip ?_ | refine wp_exit ?_
  refine rg (BT := [(24, 2, 0), (26, 4, 0)]) (Vl := [Vpt a1 2 0, Vz N ((a).num), Vq N (b), Vz N (((b).den : Int)), Vz (N + N) (((a).num) * (((b).den : Int))), VT, VT]) (B := [⟨2, none, none, 26, 4, Vq N (a), VT⟩, ⟨3, none, none, 26, 4, Vq N (b), VT⟩, ⟨4, none, none, 26, 4, VT, VT⟩, ⟨5, some 5, some 6, 24, 2, Vz (N + N) (((a).num) * (((b).den : Int))), VT⟩]) (SL' := []) st1 ⟨ks, ks, ks, ?s3, ?s4, ks, ks, trivial⟩ ?_
  case s3 => refine kc fun _ ac Wd h hd => ?_; obtain ⟨v0, hv0, hV0⟩ := h.dp hd 9; exact ⟨#[v0], by simp [hv0], cR4Den (show Vq N (b) v0 Wd from hV0) (by omega)⟩
  case s4 =>
    refine kc fun _ ac Wd h hd => ?_
    obtain ⟨v0, hv0, hV0⟩ := h.dp hd 8
    obtain ⟨v1, hv1, hV1⟩ := h.dp hd 10
    exact ⟨#[v0, v1], by simp [hv0, hv1], (cRMul (show Vz N ((a).num) v0 Wd from hV0) (show Vz N (((b).den : Int)) v1 Wd from hV1) (by omega) (by omega))⟩
  intro a2 w2 st2
  clear st1
  repeat first | refine wp_seq ?_ | refine wp_block ?_ | refine wp_skip ?_ | refine wp_exit ?_
  refine rg (BT := [(24, 2, 0), (26, 4, 0)]) (Vl := [Vpt a2 3 0, Vz N ((b).num), Vq N (a), Vz N (((a).den : Int)), Vz (N + N) (((b).num) * (((a).den : Int))), VT, VT]) (B := [⟨2, none, none, 26, 4, Vq N (a), VT⟩, ⟨3, none, none, 26, 4, Vq N (b), VT⟩, ⟨4, none, none, 26, 4, VT, VT⟩, ⟨5, none, none, 24, 2, Vz (N + N) (((a).num) * (((b).den : Int))), VT⟩, ⟨6, some 5, some 6, 24, 2, Vz (N + N) (((b).num) * (((a).den : Int))), VT⟩]) (SL' := []) st2 ⟨ks, ks, ks, ?s3, ?s4, ks, ks, trivial⟩ ?_
  case s3 => refine kc fun _ ac Wd h hd => ?_; obtain ⟨v0, hv0, hV0⟩ := h.dp hd 14; exact ⟨#[v0], by simp [hv0], cR4Den (show Vq N (a) v0 Wd from hV0) (by omega)⟩
  case s4 =>
    refine kc fun _ ac Wd h hd => ?_
    obtain ⟨v0, hv0, hV0⟩ := h.dp hd 13
    obtain ⟨v1, hv1, hV1⟩ := h.dp hd 15
    exact ⟨#[v0, v1], by simp [hv0, hv1], (cRMul (show Vz N ((b).num) v0 Wd from hV0) (show Vz N (((a).den : Int)) v1 Wd from hV1) (by omega) (by omega))⟩
  intro a3 w3 st3
  clear st2
  repeat first | refine wp_seq ?_ | refine wp_block ?_ | refine wp_skip ?_ | refine wp_exit ?_
  refine rg (BT := [(24, 2, 0), (26, 4, 0)]) (Vl := [Vz (N + N) (((a).num) * (((b).den : Int))), Vz (N + N) (((b).num) * (((a).den : Int))), Vz (max (N + N) (N + N) + 1) ((((a).num) * (((b).den : Int))) + (((b).num) * (((a).den : Int)))), Vq N (a), Vz N (((a).den : Int)), Vq N (b), Vz N (((b).den : Int)), Vz (N + N) ((((a).den : Int)) * (((b).den : Int))), Vq (max (max (N + N) (N + N) + 1) (N + N)) (Rat.divInt ((((a).num) * (((b).den : Int))) + (((b).num) * (((a).den : Int)))) ((((a).den : Int)) * (((b).den : Int)))), VT]) (B := [⟨2, none, none, 26, 4, Vq N (a), VT⟩, ⟨3, none, none, 26, 4, Vq N (b), VT⟩, ⟨4, none, some 9, 26, 4, Vq (max (max (N + N) (N + N) + 1) (N + N)) (Rat.divInt ((((a).num) * (((b).den : Int))) + (((b).num) * (((a).den : Int)))) ((((a).den : Int)) * (((b).den : Int)))), VT⟩, ⟨5, none, none, 24, 2, Vz (N + N) (((a).num) * (((b).den : Int))), VT⟩, ⟨6, none, none, 24, 2, Vz (N + N) (((b).num) * (((a).den : Int))), VT⟩]) (SL' := []) st3 ⟨ks, ks, ?s2, ks, ?s4, ks, ?s6, ?s7, ?s8, ks, trivial⟩ ?_
  case s2 =>
    refine kc fun _ ac Wd h hd => ?_
    obtain ⟨v0, hv0, hV0⟩ := h.dp hd 17
    obtain ⟨v1, hv1, hV1⟩ := h.dp hd 18
    exact ⟨#[v0, v1], by simp [hv0, hv1], (cRAdd (show Vz (N + N) (((a).num) * (((b).den : Int))) v0 Wd from hV0) (show Vz (N + N) (((b).num) * (((a).den : Int))) v1 Wd from hV1) (by omega) (by omega))⟩
  case s4 => refine kc fun _ ac Wd h hd => ?_; obtain ⟨v0, hv0, hV0⟩ := h.dp hd 20; exact ⟨#[v0], by simp [hv0], cR4Den (show Vq N (a) v0 Wd from hV0) (by omega)⟩
  case s6 => refine kc fun _ ac Wd h hd => ?_; obtain ⟨v0, hv0, hV0⟩ := h.dp hd 22; exact ⟨#[v0], by simp [hv0], cR4Den (show Vq N (b) v0 Wd from hV0) (by omega)⟩
  case s7 =>
    refine kc fun _ ac Wd h hd => ?_
    obtain ⟨v0, hv0, hV0⟩ := h.dp hd 21
    obtain ⟨v1, hv1, hV1⟩ := h.dp hd 23
    exact ⟨#[v0, v1], by simp [hv0, hv1], (cRMul (show Vz N (((a).den : Int)) v0 Wd from hV0) (show Vz N (((b).den : Int)) v1 Wd from hV1) (by omega) (by omega))⟩
  case s8 =>
    refine kc fun _ ac Wd h hd => ?_
    obtain ⟨v0, hv0, hV0⟩ := h.dp hd 19
    obtain ⟨v1, hv1, hV1⟩ := h.dp hd 24
    exact ⟨#[v0, v1], by simp [hv0, hv1], cR4Make (Vz_le (M := (max (max (N + N) (N + N) + 1) (N + N))) (show Vz (max (N + N) (N + N) + 1) ((((a).num) * (((b).den : Int))) + (((b).num) * (((a).den : Int)))) v0 Wd from hV0) (by omega)) (Vz_le (M := (max (max (N + N) (N + N) + 1) (N + N))) (show Vz (N + N) ((((a).den : Int)) * (((b).den : Int))) v1 Wd from hV1) (by omega)) (by omega) (by omega)⟩
  intro a4 w4 st4
  clear st3
  repeat first | refine wp_seq ?_ | refine wp_block ?_ | refine wp_skip ?_ | refine wp_exit ?_
  obtain ⟨g, cs, r1, r2, r3, r4, r5⟩ := st4.res ⟨4, none, none, 26, 4, Vq (max (max (N + N) (N + N) + 1) (N + N)) (Rat.divInt ((((a).num) * (((b).den : Int))) + (((b).num) * (((a).den : Int)))) ((((a).den : Int)) * (((b).den : Int)))), VT⟩ (.tail _ (.tail _ (.head _))) rfl rfl
  exact wp_ret (bodyPost_ret (results_cell_row rfl _ _ g 26 cs (0, 0) _ r1 r2 Tryz.underlying26 rfl (by rw [r3]; exact size_Rat)) st4.defers ⟨_, rfl, (by rw [← add_mk]; exact Vq_le r4 (by omega)), r5⟩)
set_option maxRecDepth 100000 in
set_option maxHeartbeats 1600000 in
theorem cR4Sub {w : World} {N : Nat} {a b : Rat} {v0 v1 : Value} (h0 : Vq N (a) v0 w) (h1 : Vq N (b) v1 w) (h3 : 3 ≤ N) (hN : N ≤ 100000) : Calls Tryz.prog 61 #[v0, v1] w (RV (Vq (N + N + 1) (a - b)) w) := by
  go_enter Tryz.func61, Tryz.ntmps61
  have st0 : St w.heap.size w 9 [] [(0, Vq N (a)), (1, Vq N (b))] _ w := St.begin (a := ⟨#[v0, v1, undef, undef, undef, undef, undef, undef, undef], []⟩) rfl rfl (List.forall_mem_cons.2 ⟨⟨_, rfl, h0⟩, (List.forall_mem_cons.2 ⟨⟨_, rfl, h1⟩, (fun _ h => absurd h (by simp))⟩)⟩)
  generalize (⟨#[v0, v1, undef, undef, undef, undef, undef, undef, undef], []⟩ : Act) = a0 at st0 ⊢
  repeat first | refine wp_seq ?_ | refine wp_block ?_ | refine wp_skip ?_ | refine wp_exit ?_
  refine rg (BT := [(26, 4, 0)]) (Vl := [VT, VT, VT]) (B := [⟨2, some 0, some 0, 26, 4, Vq N (a), VT⟩, ⟨3, some 1, some 1, 26, 4, Vq N (b), VT⟩, ⟨4, some 2, none, 26, 4, VT, VT⟩]) (SL' := []) st0 ⟨ks, ks, ks, trivial⟩ ?_
  intro a1 w1 st1
  clear st0
  repeat first | refine wp_seq ?_ | refine wp_block ?_ | refine wp_skip ?_ | refine wp_exit ?_
  refine rg (BT := [(26, 4, 0)]) (Vl := [Vq N (a), Vq N (b), Vq N (-(b)), Vq (N + N + 1) ((a) + (-(b))), VT]) (B := [⟨2, none, none, 26, 4, Vq N (a), VT⟩, ⟨3, none, none, 26, 4, Vq N (b), VT⟩, ⟨4, none, some 4, 26, 4, Vq (N + N + 1) ((a) + (-(b))), VT⟩]) (SL' := []) st1 ⟨ks, ks, ?s2, ?s3, ks, trivial⟩ ?_
  case s2 => refine kc fun _ ac Wd h hd => ?_; obtain ⟨v0, hv0, hV0⟩ := h.dp hd 6; exact ⟨#[v0], by simp [hv0], cR4Neg (show Vq N (b) v0 Wd from hV0) (by omega)⟩
  case s3 =>
    refine kc fun _ ac Wd h hd => ?_
    obtain ⟨v0, hv0, hV0⟩ := h.dp hd 5
    obtain ⟨v1, hv1, hV1⟩ := h.dp hd 7
    exact ⟨#[v0, v1], by simp [hv0, hv1], cR4Add (show Vq N (a) v0 Wd from hV0) (show Vq N (-(b)) v1 Wd from hV1) (by omega) (by omega)⟩
  intro a2 w2 st2
  clear st1
  repeat first | refine wp_seq ?_ | refine wp_block ?_ | refine wp_skip ?_ | refine wp_exit ?_
  obtain ⟨g, cs, r1, r2, r3, r4, r5⟩ := st2.res ⟨4, none, none, 26, 4, Vq (N + N + 1) ((a) + (-(b))), VT⟩ (.tail _ (.tail _ (.head _))) rfl rfl
  exact wp_ret (bodyPost_ret (results_cell_row rfl _ _ g 26 cs (0, 0) _ r1 r2 Tryz.underlying26 rfl (by rw [r3]; exact size_Rat)) st2.defers ⟨_, rfl, (by rw [Rat.sub_eq_add_neg]; exact r4), r5⟩)
set_option maxRecDepth 100000 in
set_option maxHeartbeats 1600000 in
theorem cR4Mul {w : World} {N : Nat} {a b : Rat} {v0 v1 : Value} (h0 : Vq N (a) v0 w) (h1 : Vq N (b) v1 w) (h3 : 3 ≤ N) (hN : N ≤ 100000) : Calls Tryz.prog 63 #[v0, v1] w (RV (Vq (N + N) (a * b)) w) := by
  go_enter Tryz.func63, Tryz.ntmps63
  have st0 : St w.heap.size w 16 [] [(0, Vq N (a)), (1, Vq N (b))] _ w := St.begin (a := ⟨#[v0, v1, undef, undef, undef, undef, undef, undef, undef, undef, undef, undef, undef, undef, undef, undef], []⟩) rfl rfl (List.forall_mem_cons.2 ⟨⟨_, rfl, h0⟩, (List.forall_mem_cons.2 ⟨⟨_, rfl, h1⟩, (fun _ h => absurd h (by simp))⟩)⟩)
  generalize (⟨#[v0, v1, undef, undef, undef, undef, undef, undef, undef, undef, undef, undef, undef, undef, undef, undef], []⟩ : Act) = a0 at st0 ⊢
  repeat first | refine wp_seq ?_ | refine wp_block ?_ | refine wp_skip ?_ | refine wp_exit ?_
  refine rg (BT := [(26, 4, 0)]) (Vl := [VT, VT, VT]) (B := [⟨2, some 0, some 0, 26, 4, Vq N (a), VT⟩, ⟨3, some 1, some 1, 26, 4, Vq N (b), VT⟩, ⟨4, some 2, none, 26, 4, VT, VT⟩]) (SL' := []) st0 ⟨ks, ks, ks, trivial⟩ ?_
  intro a1 w1 st1
  clear st0
  repeat first | refine wp_seq ?_ | refine wp_block ?_ | refine wp_skip ?_ | refine wp_exit ?_
  refine rg (BT := [(26, 4, 0)]) (Vl := [Vpt a1 2 0, Vz N ((a).num), Vpt a1 3 0, Vz N ((b).num), Vz (N + N) (((a).num) * ((b).num)), Vq N (a), Vz N (((a).den : Int)), Vq N (b), Vz N (((b).den : Int)), Vz (N + N) ((((a).den : Int)) * (((b).den : Int))), Vq (N + N) (Rat.divInt (((a).num) * ((b).num)) ((((a).den : Int)) * (((b).den : Int)))), VT]) (B := [⟨2, none, none, 26, 4, Vq N (a), VT⟩, ⟨3, none, none, 26, 4, Vq N (b), VT⟩, ⟨4, none, some 11, 26, 4, Vq (N + N) (Rat.divInt (((a).num) * ((b).num)) ((((a).den : Int)) * (((b).den : Int)))), VT⟩]) (SL' := []) st1 ⟨ks, ks, ks, ks, ?s4, ks, ?s6, ks, ?s8, ?s9, ?s10, ks, trivial⟩ ?_
  case s4 =>
    refine kc fun _ ac Wd h hd => ?_
    obtain ⟨v0, hv0, hV0⟩ := h.dp hd 6
    obtain ⟨v1, hv1, hV1⟩ := h.dp hd 8
    exact ⟨#[v0, v1], by simp [hv0, hv1], (cRMul (show Vz N ((a).num) v0 Wd from hV0) (show Vz N ((b).num) v1 Wd from hV1) (by omega) (by omega))⟩
  case s6 => refine kc fun _ ac Wd h hd => ?_; obtain ⟨v0, hv0, hV0⟩ := h.dp hd 10; exact ⟨#[v0], by simp [hv0], cR4Den (show Vq N (a) v0 Wd from hV0) (by omega)⟩
  case s8 => refine kc fun _ ac Wd h hd => ?_; obtain ⟨v0, hv0, hV0⟩ := h.dp hd 12; exact ⟨#[v0], by simp [hv0], cR4Den (show Vq N (b) v0 Wd from hV0) (by omega)⟩
  case s9 =>
    refine kc fun _ ac Wd h hd => ?_
    obtain ⟨v0, hv0, hV0⟩ := h.dp hd 11
    obtain ⟨v1, hv1, hV1⟩ := h.dp hd 13
    exact ⟨#[v0, v1], by simp [hv0, hv1], (cRMul (show Vz N (((a).den : Int)) v0 Wd from hV0) (show Vz N (((b).den : Int)) v1 Wd from hV1) (by omega) (by omega))⟩
  case s10 =>
    refine kc fun _ ac Wd h hd => ?_
    obtain ⟨v0, hv0, hV0⟩ := h.dp hd 9
    obtain ⟨v1, hv1, hV1⟩ := h.dp hd 14
    exact ⟨#[v0, v1], by simp [hv0, hv1], cR4Make (show Vz (N + N) (((a).num) * ((b).num)) v0 Wd from hV0) (show Vz (N + N) ((((a).den : Int)) * (((b).den : Int))) v1 Wd from hV1) (by omega) (by omega)⟩
  intro a2 w2 st2
  clear st1
  repeat first | refine wp_seq ?_ | refine wp_block ?_ | refine wp_skip ?_ | refine wp_exit ?_
  obtain ⟨g, cs, r1, r2, r3, r4, r5⟩ := st2.res ⟨4, none, none, 26, 4, Vq (N + N) (Rat.divInt (((a).num) * ((b).num)) ((((a).den : Int)) * (((b).den : Int)))), VT⟩ (.tail _ (.tail _ (.head _))) rfl rfl
  exact wp_ret (bodyPost_ret (results_cell_row rfl _ _ g 26 cs (0, 0) _ r1 r2 Tryz.underlying26 rfl (by rw [r3]; exact size_Rat)) st2.defers ⟨_, rfl, (by rw [← mul_mk]; exact Vq_le r4 (by omega)), r5⟩)
set_option maxRecDepth 100000 in
set_option maxHeartbeats 1600000 in
theorem cR4Div {w : World} {N : Nat} {a b : Rat} {v0 v1 : Value} (h0 : Vq N (a) v0 w) (h1 : Vq N (b) v1 w) (h3 : 3 ≤ N) (hN : N ≤ 100000) : Calls Tryz.prog 82 #[v0, v1] w (RV (Vq (N + N) (a / b)) w) := by
  go_enter Tryz.func82, Tryz.ntmps82
  have st0 : St w.heap.size w 16 [] [(0, Vq N (a)), (1, Vq N (b))] _ w := St.begin (a := ⟨#[v0, v1, undef, undef, undef, undef, undef, undef, undef, undef, undef, undef, undef, undef, undef, undef], []⟩) rfl rfl (List.forall_mem_cons.2 ⟨⟨_, rfl, h0⟩, (List.forall_mem_cons.2 ⟨⟨_, rfl, h1⟩, (fun _ h => absurd h (by simp))⟩)⟩)
  generalize (⟨#[v0, v1, undef, undef, undef, undef, undef, undef, undef, undef, undef, undef, undef, undef, undef, undef], []⟩ : Act) = a0 at st0 ⊢
  repeat first | refine wp_seq ?_ | refine wp_block ?_ | refine wp_skip ?_ | refine wp_exit ?_
  refine rg (BT := [(26, 4, 0)]) (Vl := [VT, VT, VT]) (B := [⟨2, some 0, some 0, 26, 4, Vq N (a), VT⟩, ⟨3, some 1, some 1, 26, 4, Vq N (b), VT⟩, ⟨4, some 2, none, 26, 4, VT, VT⟩]) (SL' := []) st0 ⟨ks, ks, ks, trivial⟩ ?_
  intro a1 w1 st1
  clear st0
  repeat first | refine wp_seq ?_ | refine wp_block ?_ | refine wp_skip ?_ | refine wp_exit ?_
  refine rg (BT := [(26, 4, 0)]) (Vl := [Vpt a1 2 0, Vz N ((a).num), Vq N (b), Vz N (((b).den : Int)), Vz (N + N) (((a).num) * (((b).den : Int))), Vq N (a), Vz N (((a).den : Int)), Vpt a1 3 0, Vz N ((b).num), Vz (N + N) ((((a).den : Int)) * ((b).num)), Vq (N + N) (Rat.divInt (((a).num) * (((b).den : Int))) ((((a).den : Int)) * ((b).num))), VT]) (B := [⟨2, none, none, 26, 4, Vq N (a), VT⟩, ⟨3, none, none, 26, 4, Vq N (b), VT⟩, ⟨4, none, some 11, 26, 4, Vq (N + N) (Rat.divInt (((a).num) * (((b).den : Int))) ((((a).den : Int)) * ((b).num))), VT⟩]) (SL' := []) st1 ⟨ks, ks, ks, ?s3, ?s4, ks, ?s6, ks, ks, ?s9, ?s10, ks, trivial⟩ ?_
  case s3 => refine kc fun _ ac Wd h hd => ?_; obtain ⟨v0, hv0, hV0⟩ := h.dp hd 7; exact ⟨#[v0], by simp [hv0], cR4Den (show Vq N (b) v0 Wd from hV0) (by omega)⟩
  case s4 =>
    refine kc fun _ ac Wd h hd => ?_
    obtain ⟨v0, hv0, hV0⟩ := h.dp hd 6
    obtain ⟨v1, hv1, hV1⟩ := h.dp hd 8
    exact ⟨#[v0, v1], by simp [hv0, hv1], (cRMul (show Vz N ((a).num) v0 Wd from hV0) (show Vz N (((b).den : Int)) v1 Wd from hV1) (by omega) (by omega))⟩
  case s6 => refine kc fun _ ac Wd h hd => ?_; obtain ⟨v0, hv0, hV0⟩ := h.dp hd 10; exact ⟨#[v0], by simp [hv0], cR4Den (show Vq N (a) v0 Wd from hV0) (by omega)⟩
  case s9 =>
    refine kc fun _ ac Wd h hd => ?_
    obtain ⟨v0, hv0, hV0⟩ := h.dp hd 11
    obtain ⟨v1, hv1, hV1⟩ := h.dp hd 13
    exact ⟨#[v0, v1], by simp [hv0, hv1], (cRMul (show Vz N (((a).den : Int)) v0 Wd from hV0) (show Vz N ((b).num) v1 Wd from hV1) (by omega) (by omega))⟩
  case s10 =>
    refine kc fun _ ac Wd h hd => ?_
    obtain ⟨v0, hv0, hV0⟩ := h.dp hd 9
    obtain ⟨v1, hv1, hV1⟩ := h.dp hd 14
    exact ⟨#[v0, v1], by simp [hv0, hv1], cR4Make (show Vz (N + N) (((a).num) * (((b).den : Int))) v0 Wd from hV0) (show Vz (N + N) ((((a).den : Int)) * ((b).num)) v1 Wd from hV1) (by omega) (by omega)⟩
  intro a2 w2 st2
  clear st1
  repeat first | refine wp_seq ?_ | refine wp_block ?_ | refine wp_skip ?_ | refine wp_exit ?_
  obtain ⟨g, cs, r1, r2, r3, r4, r5⟩ := st2.res ⟨4, none, none, 26, 4, Vq (N + N) (Rat.divInt (((a).num) * (((b).den : Int))) ((((a).den : Int)) * ((b).num))), VT⟩ (.tail _ (.tail _ (.head _))) rfl rfl
  exact wp_ret (bodyPost_ret (results_cell_row rfl _ _ g 26 cs (0, 0) _ r1 r2 Tryz.underlying26 rfl (by rw [r3]; exact size_Rat)) st2.defers ⟨_, rfl, (by rw [← div_mk]; exact Vq_le r4 (by omega)), r5⟩)
set_option maxRecDepth 100000 in
set_option maxHeartbeats 1600000 in
theorem cR4Compare {w : World} {N : Nat} {a b : Rat} {v0 v1 : Value} (h0 : Vq N (a) v0 w) (h1 : Vq N (b) v1 w) (h3 : 3 ≤ N) (hN : N ≤ 100000) : Calls Tryz.prog 75 #[v0, v1] w (RV (Vi (cmpQ a b)) w) := by
  go_enter Tryz.func75, Tryz.ntmps75
  have st0 : St w.heap.size w 16 [] [(0, Vq N (a)), (1, Vq N (b))] _ w := St.begin (a := ⟨#[v0, v1, undef, undef, undef, undef, undef, undef, undef, undef, undef, undef, undef, undef, undef, undef], []⟩) rfl rfl (List.forall_mem_cons.2 ⟨⟨_, rfl, h0⟩, (List.forall_mem_cons.2 ⟨⟨_, rfl, h1⟩, (fun _ h => absurd h (by simp))⟩)⟩)
  generalize (⟨#[v0, v1, undef, undef, undef, undef, undef, undef, undef, undef, undef, undef, undef, undef, undef, undef], []⟩ : Act) = a0 at st0 ⊢
  repeat first | refine wp_seq ?_ | refine wp_block ?_ | refine wp_skip ?_ | refine wp_exit ?_
  refine rg (BT := []) (Vl := [VT, VT, Vi (0)]) (B := [⟨2, some 0, some 0, 26, 4, Vq N (a), VT⟩, ⟨3, some 1, some 1, 26, 4, Vq N (b), VT⟩]) (SL' := [(4, Vi (0))]) st0 ⟨ks, ks, ks, trivial⟩ ?_
  intro a1 w1 st1
  clear st0
  repeat first | refine wp_seq ?_ | refine wp_block ?_ | refine wp_skip ?_ | refine wp_exit ?_
  refine rg (BT := []) (Vl := [Vpt a1 2 0, Vz N ((a).num), Vq N (b), Vz N (((b).den : Int)), Vz (N + N) (((a).num) * (((b).den : Int))), Vpt a1 3 0, Vz N ((b).num), Vq N (a), Vz N (((a).den : Int)), Vz (N + N) (((b).num) * (((a).den : Int))), Vi (cmpI (((a).num) * (((b).den : Int))) (((b).num) * (((a).den : Int)))), Vi (cmpI (((a).num) * (((b).den : Int))) (((b).num) * (((a).den : Int))))]) (B := [⟨2, none, none, 26, 4, Vq N (a), VT⟩, ⟨3, none, none, 26, 4, Vq N (b), VT⟩]) (SL' := [(4, Vi (cmpI (((a).num) * (((b).den : Int))) (((b).num) * (((a).den : Int)))))]) st1 ⟨ks, ks, ks, ?s3, ?s4, ks, ks, ks, ?s8, ?s9, ?s10, ks, trivial⟩ ?_
  case s3 => refine kc fun _ ac Wd h hd => ?_; obtain ⟨v0, hv0, hV0⟩ := h.dp hd 7; exact ⟨#[v0], by simp [hv0], cR4Den (show Vq N (b) v0 Wd from hV0) (by omega)⟩
  case s4 =>
    refine kc fun _ ac Wd h hd => ?_
    obtain ⟨v0, hv0, hV0⟩ := h.dp hd 6
    obtain ⟨v1, hv1, hV1⟩ := h.dp hd 8
    exact ⟨#[v0, v1], by simp [hv0, hv1], (cRMul (show Vz N ((a).num) v0 Wd from hV0) (show Vz N (((b).den : Int)) v1 Wd from hV1) (by omega) (by omega))⟩
  case s8 => refine kc fun _ ac Wd h hd => ?_; obtain ⟨v0, hv0, hV0⟩ := h.dp hd 12; exact ⟨#[v0], by simp [hv0], cR4Den (show Vq N (a) v0 Wd from hV0) (by omega)⟩
  case s9 =>
    refine kc fun _ ac Wd h hd => ?_
    obtain ⟨v0, hv0, hV0⟩ := h.dp hd 11
    obtain ⟨v1, hv1, hV1⟩ := h.dp hd 13
    exact ⟨#[v0, v1], by simp [hv0, hv1], (cRMul (show Vz N ((b).num) v0 Wd from hV0) (show Vz N (((a).den : Int)) v1 Wd from hV1) (by omega) (by omega))⟩
  case s10 =>
    refine kc fun _ ac Wd h hd => ?_
    obtain ⟨v0, hv0, hV0⟩ := h.dp hd 9
    obtain ⟨v1, hv1, hV1⟩ := h.dp hd 14
    exact ⟨#[v0, v1], by simp [hv0, hv1], (cRCompare (show Vz (N + N) (((a).num) * (((b).den : Int))) v0 Wd from hV0) (show Vz (N + N) (((b).num) * (((a).den : Int))) v1 Wd from hV1) (by omega) (by omega))⟩
  intro a2 w2 st2
  clear st1
  repeat first | refine wp_seq ?_ | refine wp_block ?_ | refine wp_skip ?_ | refine wp_exit ?_
  obtain ⟨vr, r1, r4⟩ := st2.slot (4, Vi (cmpI (((a).num) * (((b).den : Int))) (((b).num) * (((a).den : Int))))) (.head _)
  exact wp_ret (bodyPost_ret (results_tmp rfl _ _ _) st2.defers ⟨_, congrArg Ending.returned (show _ = vr from r1), r4, st2.k.below⟩)
end Go.Proofs.YteaoaoknpihchaaGreat

namespace Go.Proofs.YteaoaoknpihchaaGreat
open Go.RowKit

theorem cR3Same {W : World} {Na Nb : Nat} {x y : Int} {v1 v2 : Value} (h1 : Vz Na x v1 W) (h2 : Vz Nb y v2 W) (hNa : Na ≤ 1000000) (hNb : Nb ≤ 1000000) : Calls Tryz.prog 64 #[v1, v2] W (RV (Vb (decide (x = y))) W) := by
  obtain ⟨nb, p, n, c, rfl, hI, hn⟩ := h1
  obtain ⟨nb2, p2, n2, c2, rfl, hI2, hn2⟩ := h2
  exact (Same_any nb nb2 p p2 n c n2 c2 x y W hI hI2 (by omega) (by omega)).mono fun e w' h => ⟨_, h.1, rfl, h.2⟩

set_option maxRecDepth 100000 in
set_option maxHeartbeats 1600000 in
theorem cR4Same {w : World} {N : Nat} {a b : Rat} {v0 v1 : Value} (h0 : Vq N (a) v0 w) (h1 : Vq N (b) v1 w) (hN : N ≤ 100000) : Calls Tryz.prog 17 #[v0, v1] w (RV (Vb (decide (a = b))) w) := by
  go_enter Tryz.func17, Tryz.ntmps17
  have st0 : St w.heap.size w 17 [] [(0, Vq N (a)), (1, Vq N (b))] _ w := St.begin (a := ⟨#[v0, v1, undef, undef, undef, undef, undef, undef, undef, undef, undef, undef, undef, undef, undef, undef, undef], []⟩) rfl rfl (List.forall_mem_cons.2 ⟨⟨_, rfl, h0⟩, (List.forall_mem_cons.2 ⟨⟨_, rfl, h1⟩, (fun _ h => absurd h (by simp))⟩)⟩)
  generalize (⟨#[v0, v1, undef, undef, undef, undef, undef, undef, undef, undef, undef, undef, undef, undef, undef, undef, undef], []⟩ : Act) = a0 at st0 ⊢
  repeat first | refine wp_seq ?_ | refine wp_block ?_ | refine wp_skip ?_ | refine wp_exit ?_
  refine rg (BT := []) (Vl := [VT, VT, Vb (false)]) (B := [⟨2, some 0, some 0, 26, 4, Vq N (a), VT⟩, ⟨3, some 1, some 1, 26, 4, Vq N (b), VT⟩]) (SL' := [(4, Vb (false))]) st0 ⟨ks, ks, ks, trivial⟩ ?_
  intro a1 w1 st1
  clear st0
  by_cases hp : a.num = b.num
  ·
    repeat first | refine wp_seq ?_ | refine wp_block ?_ | refine wp_skip ?_ | refine wp_exit ?_
    refine rg (BT := []) (Vl := [Vpt a1 2 0, Vz N ((a).num), Vpt a1 3 0, Vz N ((b).num), Vb (true), Vb (true), Vpt a1 2 2, Vz N (qd (a)), Vpt a1 3 2, Vz N (qd (b)), Vb (decide ((qd (a)) = (qd (b)))), Vb (decide ((qd (a)) = (qd (b)))), Vb (decide ((qd (a)) = (qd (b))))]) (B := [⟨2, none, none, 26, 4, Vq N (a), VT⟩, ⟨3, none, none, 26, 4, Vq N (b), VT⟩]) (SL' := [(4, Vb (decide ((qd (a)) = (qd (b)))))]) st1 ⟨ks, ks, ks, ks, ?s4, ks, ks, ks, ks, ks, ?s10, ks, ks, trivial⟩ ?_
    case s4 =>
      refine kc fun _ ac Wd h hd => ?_
      obtain ⟨v0, hv0, hV0⟩ := h.dp hd 6
      obtain ⟨v1, hv1, hV1⟩ := h.dp hd 8
      exact ⟨#[v0, v1], by simp [hv0, hv1], (cR3Same (show Vz N ((a).num) v0 Wd from hV0) (show Vz N ((b).num) v1 Wd from hV1) (by omega) (by omega)).mono fun e w h => h.le fun v w hv => hv.trans (congrArg Value.bool (decide_eq_true (hp)))⟩
    case s10 =>
      refine kc fun _ ac Wd h hd => ?_
      obtain ⟨v0, hv0, hV0⟩ := h.dp hd 12
      obtain ⟨v1, hv1, hV1⟩ := h.dp hd 14
      exact ⟨#[v0, v1], by simp [hv0, hv1], cR3Same (show Vz N (qd (a)) v0 Wd from hV0) (show Vz N (qd (b)) v1 Wd from hV1) (by omega) (by omega)⟩
    intro a2 w2 st2
    clear st1
    repeat first | refine wp_seq ?_ | refine wp_block ?_ | refine wp_skip ?_ | refine wp_exit ?_
    obtain ⟨vr, r1, r4⟩ := st2.slot (4, Vb (decide ((qd (a)) = (qd (b))))) (.head _)
    exact wp_ret (bodyPost_ret (results_tmp rfl _ _ _) st2.defers ⟨_, congrArg Ending.returned (show _ = vr from r1), (by rw [show decide (a = b) = decide (qd a = qd b) from decide_eq_decide.2 (qd_inj hp).symm]; exact r4), st2.k.below⟩)
  ·
    repeat first | refine wp_seq ?_ | refine wp_block ?_ | refine wp_skip ?_ | refine wp_exit ?_
    refine rg (BT := []) (Vl := [Vpt a1 2 0, Vz N ((a).num), Vpt a1 3 0, Vz N ((b).num), Vb (false), Vb (false), VT, VT, VT, VT, VT, Vb (false), Vb (false)]) (B := [⟨2, none, none, 26, 4, Vq N (a), VT⟩, ⟨3, none, none, 26, 4, Vq N (b), VT⟩]) (SL' := [(4, Vb (false))]) st1 ⟨ks, ks, ks, ks, ?s4, ks, ks, ks, ks, ks, ks, ks, ks, trivial⟩ ?_
    case s4 =>
      refine kc fun _ ac Wd h hd => ?_
      obtain ⟨v0, hv0, hV0⟩ := h.dp hd 6
      obtain ⟨v1, hv1, hV1⟩ := h.dp hd 8
      exact ⟨#[v0, v1], by simp [hv0, hv1], (cR3Same (show Vz N ((a).num) v0 Wd from hV0) (show Vz N ((b).num) v1 Wd from hV1) (by omega) (by omega)).mono fun e w h => h.le fun v w hv => hv.trans (congrArg Value.bool (decide_eq_false (hp)))⟩
    intro a2 w2 st2
    clear st1
    repeat first | refine wp_seq ?_ | refine wp_block ?_ | refine wp_skip ?_ | refine wp_exit ?_
    obtain ⟨vr, r1, r4⟩ := st2.slot (4, Vb (false)) (.head _)
    exact wp_ret (bodyPost_ret (results_tmp rfl _ _ _) st2.defers ⟨_, congrArg Ending.returned (show _ = vr from r1), (by rw [decide_eq_false (fun e => hp (by rw [e]))]; exact r4), st2.k.below⟩)
end Go.Proofs.YteaoaoknpihchaaGreat
