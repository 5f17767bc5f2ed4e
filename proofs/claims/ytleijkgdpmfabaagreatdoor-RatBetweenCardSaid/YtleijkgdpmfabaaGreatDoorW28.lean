/- Contracts of the package integer and its reference: The reference's rational numbers. sherdref04.Same. Package plane: words for its structs and for the rows of pairs. plane.sum. Vectors and turns of package plane. The reference's vectors. The reference's turns. The reference's Still. Comparisons and validity of package plane. The closure of package plane. Placements of package plane. Inverse and Align of package plane. Words for the numbers, turns and placements that the laws of package plane are about. Numbers, vectors, turns and placements of the reference. Align and placements of the reference. Compose of package plane. Valid of rational numbers. -/
import Derived.Test.YtleijkgdpmfabaaGreatDoorW27
import Derived.Test.YtleijkgdpmfabaaGreatDoorW20
import Derived.Test.YtleijkgdpmfabaaGreatDoorW8
import Derived.Test.YtleijkgdpmfabaaGreatDoorW22
import Derived.Deep.LoopGhost
set_option linter.unusedVariables false
namespace Go.Proofs.YtleijkgdpmfabaaGreatDoor
open Go.RowKit
theorem add_mk (a b : Rat) : Rat.divInt (a.num * (b.den : Int) + b.num * (a.den : Int)) ((a.den : Int) * (b.den : Int)) = a + b := by
  have h1 := a.den_pos
  have h2 := b.den_pos
  have := Rat.divInt_add_divInt a.num b.num (d₁ := (a.den : Int)) (d₂ := (b.den : Int)) (by omega) (by omega)
  rw [Rat.num_divInt_den, Rat.num_divInt_den] at this
  exact this.symm
theorem mul_mk (a b : Rat) : Rat.divInt (a.num * b.num) ((a.den : Int) * (b.den : Int)) = a * b := by
  have := Rat.divInt_mul_divInt a.num b.num (d₁ := (a.den : Int)) (d₂ := (b.den : Int))
  rw [Rat.num_divInt_den, Rat.num_divInt_den] at this
  exact this.symm
set_option maxRecDepth 100000 in
set_option maxHeartbeats 1600000 in
theorem cR4Neg {w : World} {N : Nat} {q : Rat} {v0 : Value} (h0 : Vq N (q) v0 w) (hN : N ≤ 1000000) : Calls Tryz.prog 35 #[v0] w (RV (Vq N (-q)) w) := by
  go_enter Tryz.func35, Tryz.ntmps35
  have st0 : St w.heap.size w 9 [] [(0, Vq N (q))] _ w := St.begin (a := ⟨#[v0, undef, undef, undef, undef, undef, undef, undef, undef], []⟩) rfl rfl (List.forall_mem_cons.2 ⟨⟨_, rfl, h0⟩, (fun _ h => absurd h (by simp))⟩)
  generalize (⟨#[v0, undef, undef, undef, undef, undef, undef, undef, undef], []⟩ : Act) = a0 at st0 ⊢
  repeat first|refine wp_seq ?_|refine wp_block ?_|refine wp_skip ?_|refine wp_exit ?_
  refine rg (BT := [(27, 4, 0)]) (Vl := [VT, VT]) (B := [⟨1, some 0, some 0, 27, 4, Vq N (q), VT⟩, ⟨2, some 1, none, 27, 4, VT, VT⟩]) (SL' := []) st0 ⟨ks, ks, trivial⟩ ?_
  intro a1 w1 st1
  clear st0
  repeat first|refine wp_seq ?_|refine wp_block ?_|refine wp_skip ?_|refine wp_exit ?_
  refine rg (BT := [(27, 4, 0)]) (Vl := [Vpt a1 1 0, Vz N ((q).num), Vz N (-((q).num)), Vpt a1 1 2, Vz N (qd (q)), VP2 2 2 (Vz N (-((q).num))) (Vz N (qd (q))), VT]) (B := [⟨1, none, none, 27, 4, Vq N (q), VT⟩, ⟨2, none, some 6, 27, 4, VP2 2 2 (Vz N (-((q).num))) (Vz N (qd (q))), VT⟩]) (SL' := []) st1 ⟨ks, ks, ?s2, ks, ks, ?s5, ks, trivial⟩ ?_
  case s2 => refine kc fun _ ac Wd h hd => ?_; obtain ⟨v0, hv0, hV0⟩ := h.dp hd 4; exact ⟨#[v0], by simp [hv0], cRNeg (show Vz N ((q).num) v0 Wd from hV0)⟩
  case s5 => refine kr fun _ ac Wd h hd => ?_; obtain ⟨v0, hv0, hV0⟩ := h.dp hd 5; obtain ⟨v1, hv1, hV1⟩ := h.dp hd 7; exact build_Rat rfl hv0 hv1 (AggV_Vz _ _) (AggV_Vz _ _) hV0 hV1
  intro a2 w2 st2
  clear st1
  repeat first|refine wp_seq ?_|refine wp_block ?_|refine wp_skip ?_|refine wp_exit ?_
  obtain ⟨g, cs, r1, r2, r3, r4, r5⟩ := st2.res ⟨2, none, none, 27, 4, VP2 2 2 (Vz N (-((q).num))) (Vz N (qd (q))), VT⟩ (.tail _ (.head _)) rfl rfl
  exact wp_ret (bodyPost_ret (results_cell_row rfl _ _ g 27 cs (0, 0) _ r1 r2 Tryz.underlying27 rfl (by rw [r3]; exact size_Rat)) st2.defers ⟨_, rfl, (show Vq N (-q) _ _ from r4), r5⟩)
set_option maxRecDepth 100000 in
set_option maxHeartbeats 1600000 in
theorem cR4Of {w : World} {p q : Int} {v0 v1 : Value} (h0 : Vi (p) v0 w) (h1 : Vi (q) v1 w) (hp0 : -9223372036854775808 ≤ p) (hp1 : p ≤ 9223372036854775807) (hq0 : -9223372036854775808 ≤ q) (hq1 : q ≤ 9223372036854775807) : Calls Tryz.prog 21 #[v0, v1] w (RV (Vq 3 (Rat.divInt p q)) w) := by
  go_enter Tryz.func21, Tryz.ntmps21
  have st0 : St w.heap.size w 10 [] [(0, Vi (p)), (1, Vi (q))] _ w := St.begin (a := ⟨#[v0, v1, undef, undef, undef, undef, undef, undef, undef, undef], []⟩) rfl rfl (List.forall_mem_cons.2 ⟨⟨_, rfl, h0⟩, (List.forall_mem_cons.2 ⟨⟨_, rfl, h1⟩, (fun _ h => absurd h (by simp))⟩)⟩)
  generalize (⟨#[v0, v1, undef, undef, undef, undef, undef, undef, undef, undef], []⟩ : Act) = a0 at st0 ⊢
  repeat first|refine wp_seq ?_|refine wp_block ?_|refine wp_skip ?_|refine wp_exit ?_
  refine rg (BT := [(27, 4, 0)]) (Vl := [VT]) (B := [⟨4, some 0, none, 27, 4, VT, VT⟩]) (SL' := [(0, Vi (p)), (1, Vi (q))]) st0 ⟨ks, trivial⟩ ?_
  intro a1 w1 st1
  clear st0
  repeat first|refine wp_seq ?_|refine wp_block ?_|refine wp_skip ?_|refine wp_exit ?_
  refine rg (BT := [(27, 4, 0)]) (Vl := [Vi (p), Vz 3 (p), Vi (q), Vz 3 (q), Vq 3 (Rat.divInt (p) (q)), VT]) (B := [⟨4, none, some 5, 27, 4, Vq 3 (Rat.divInt (p) (q)), VT⟩]) (SL' := []) st1 ⟨ks, ?s1, ks, ?s3, ?s4, ks, trivial⟩ ?_
  case s1 => refine kc fun _ ac Wd h hd => ?_; obtain ⟨v0, hv0, hV0⟩ := h.dp hd 5; exact ⟨#[v0], by simp [hv0], cROfV (show Vi (p) v0 Wd from hV0) (by omega) (by omega)⟩
  case s3 => refine kc fun _ ac Wd h hd => ?_; obtain ⟨v0, hv0, hV0⟩ := h.dp hd 7; exact ⟨#[v0], by simp [hv0], cROfV (show Vi (q) v0 Wd from hV0) (by omega) (by omega)⟩
  case s4 =>
    refine kc fun _ ac Wd h hd => ?_
    obtain ⟨v0, hv0, hV0⟩ := h.dp hd 6
    obtain ⟨v1, hv1, hV1⟩ := h.dp hd 8
    exact ⟨#[v0, v1], by simp [hv0, hv1], cR4Make (show Vz 3 (p) v0 Wd from hV0) (show Vz 3 (q) v1 Wd from hV1) (by omega) (by omega)⟩
  intro a2 w2 st2
  clear st1
  repeat first|refine wp_seq ?_|refine wp_block ?_|refine wp_skip ?_|refine wp_exit ?_
  obtain ⟨g, cs, r1, r2, r3, r4, r5⟩ := st2.res ⟨4, none, none, 27, 4, Vq 3 (Rat.divInt (p) (q)), VT⟩ (.head _) rfl rfl
  exact wp_ret (bodyPost_ret (results_cell_row rfl _ _ g 27 cs (0, 0) _ r1 r2 Tryz.underlying27 rfl (by rw [r3]; exact size_Rat)) st2.defers ⟨_, rfl, r4, r5⟩)
set_option maxRecDepth 100000 in
set_option maxHeartbeats 1600000 in
theorem cR4Add {w : World} {N : Nat} {a b : Rat} {v0 v1 : Value} (h0 : Vq N (a) v0 w) (h1 : Vq N (b) v1 w) (h3 : 3 ≤ N) (hN : N ≤ 100000) : Calls Tryz.prog 27 #[v0, v1] w (RV (Vq (N + N + 1) (a + b)) w) := by
  go_enter Tryz.func27, Tryz.ntmps27
  have st0 : St w.heap.size w 26 [] [(0, Vq N (a)), (1, Vq N (b))] _ w := St.begin (a := ⟨#[v0, v1, undef, undef, undef, undef, undef, undef, undef, undef, undef, undef, undef, undef, undef, undef, undef, undef, undef, undef, undef, undef, undef, undef, undef, undef], []⟩) rfl rfl (List.forall_mem_cons.2 ⟨⟨_, rfl, h0⟩, (List.forall_mem_cons.2 ⟨⟨_, rfl, h1⟩, (fun _ h => absurd h (by simp))⟩)⟩)
  generalize (⟨#[v0, v1, undef, undef, undef, undef, undef, undef, undef, undef, undef, undef, undef, undef, undef, undef, undef, undef, undef, undef, undef, undef, undef, undef, undef, undef], []⟩ : Act) = a0 at st0 ⊢
  repeat first|refine wp_seq ?_|refine wp_block ?_|refine wp_skip ?_|refine wp_exit ?_
  refine rg (BT := [(24, 2, 0), (27, 4, 0)]) (Vl := [VT, VT, VT]) (B := [⟨2, some 0, some 0, 27, 4, Vq N (a), VT⟩, ⟨3, some 1, some 1, 27, 4, Vq N (b), VT⟩, ⟨4, some 2, none, 27, 4, VT, VT⟩]) (SL' := []) st0 ⟨ks, ks, ks, trivial⟩ ?_
  intro a1 w1 st1
  clear st0
  repeat first|refine wp_seq ?_|refine wp_block ?_|refine wp_skip ?_|refine wp_exit ?_
  refine rg (BT := [(24, 2, 0), (27, 4, 0)]) (Vl := [Vpt a1 2 0, Vz N ((a).num), Vq N (b), Vz N (((b).den : Int)), Vz (N + N) (((a).num) * (((b).den : Int))), VT, VT]) (B := [⟨2, none, none, 27, 4, Vq N (a), VT⟩, ⟨3, none, none, 27, 4, Vq N (b), VT⟩, ⟨4, none, none, 27, 4, VT, VT⟩, ⟨5, some 5, some 6, 24, 2, Vz (N + N) (((a).num) * (((b).den : Int))), VT⟩]) (SL' := []) st1 ⟨ks, ks, ks, ?s3, ?s4, ks, ks, trivial⟩ ?_
  case s3 => refine kc fun _ ac Wd h hd => ?_; obtain ⟨v0, hv0, hV0⟩ := h.dp hd 9; exact ⟨#[v0], by simp [hv0], cR4Den (show Vq N (b) v0 Wd from hV0) (by omega)⟩
  case s4 =>
    refine kc fun _ ac Wd h hd => ?_
    obtain ⟨v0, hv0, hV0⟩ := h.dp hd 8
    obtain ⟨v1, hv1, hV1⟩ := h.dp hd 10
    exact ⟨#[v0, v1], by simp [hv0, hv1], (cRMul (show Vz N ((a).num) v0 Wd from hV0) (show Vz N (((b).den : Int)) v1 Wd from hV1) (by omega) (by omega))⟩
  intro a2 w2 st2
  clear st1
  repeat first|refine wp_seq ?_|refine wp_block ?_|refine wp_skip ?_|refine wp_exit ?_
  refine rg (BT := [(24, 2, 0), (27, 4, 0)]) (Vl := [Vpt a2 3 0, Vz N ((b).num), Vq N (a), Vz N (((a).den : Int)), Vz (N + N) (((b).num) * (((a).den : Int))), VT, VT]) (B := [⟨2, none, none, 27, 4, Vq N (a), VT⟩, ⟨3, none, none, 27, 4, Vq N (b), VT⟩, ⟨4, none, none, 27, 4, VT, VT⟩, ⟨5, none, none, 24, 2, Vz (N + N) (((a).num) * (((b).den : Int))), VT⟩, ⟨6, some 5, some 6, 24, 2, Vz (N + N) (((b).num) * (((a).den : Int))), VT⟩]) (SL' := []) st2 ⟨ks, ks, ks, ?s3, ?s4, ks, ks, trivial⟩ ?_
  case s3 => refine kc fun _ ac Wd h hd => ?_; obtain ⟨v0, hv0, hV0⟩ := h.dp hd 14; exact ⟨#[v0], by simp [hv0], cR4Den (show Vq N (a) v0 Wd from hV0) (by omega)⟩
  case s4 =>
    refine kc fun _ ac Wd h hd => ?_
    obtain ⟨v0, hv0, hV0⟩ := h.dp hd 13
    obtain ⟨v1, hv1, hV1⟩ := h.dp hd 15
    exact ⟨#[v0, v1], by simp [hv0, hv1], (cRMul (show Vz N ((b).num) v0 Wd from hV0) (show Vz N (((a).den : Int)) v1 Wd from hV1) (by omega) (by omega))⟩
  intro a3 w3 st3
  clear st2
  repeat first|refine wp_seq ?_|refine wp_block ?_|refine wp_skip ?_|refine wp_exit ?_
  refine rg (BT := [(24, 2, 0), (27, 4, 0)]) (Vl := [Vz (N + N) (((a).num) * (((b).den : Int))), Vz (N + N) (((b).num) * (((a).den : Int))), Vz (max (N + N) (N + N) + 1) ((((a).num) * (((b).den : Int))) + (((b).num) * (((a).den : Int)))), Vq N (a), Vz N (((a).den : Int)), Vq N (b), Vz N (((b).den : Int)), Vz (N + N) ((((a).den : Int)) * (((b).den : Int))), Vq (max (max (N + N) (N + N) + 1) (N + N)) (Rat.divInt ((((a).num) * (((b).den : Int))) + (((b).num) * (((a).den : Int)))) ((((a).den : Int)) * (((b).den : Int)))), VT]) (B := [⟨2, none, none, 27, 4, Vq N (a), VT⟩, ⟨3, none, none, 27, 4, Vq N (b), VT⟩, ⟨4, none, some 9, 27, 4, Vq (max (max (N + N) (N + N) + 1) (N + N)) (Rat.divInt ((((a).num) * (((b).den : Int))) + (((b).num) * (((a).den : Int)))) ((((a).den : Int)) * (((b).den : Int)))), VT⟩, ⟨5, none, none, 24, 2, Vz (N + N) (((a).num) * (((b).den : Int))), VT⟩, ⟨6, none, none, 24, 2, Vz (N + N) (((b).num) * (((a).den : Int))), VT⟩]) (SL' := []) st3 ⟨ks, ks, ?s2, ks, ?s4, ks, ?s6, ?s7, ?s8, ks, trivial⟩ ?_
  case s2 =>
    refine kc fun _ ac Wd h hd => ?_
    obtain ⟨v0, hv0, hV0⟩ := h.dp hd 17
    obtain ⟨v1, hv1, hV1⟩ := h.dp hd 18
    exact ⟨#[v0, v1], by simp [hv0, hv1], (cRAdd (show Vz (N + N) (((a).num) * (((b).den : Int))) v0 Wd from hV0) (show Vz (N + N) (((b).num) * (((a).den : Int))) v1 Wd from hV1) (by omega) (by omega))⟩
  case s4 => refine kc fun _ ac Wd h hd => ?_; obtain ⟨v0, hv0, hV0⟩ := h.dp hd 20; exact ⟨#[v0], by simp [hv0], cR4Den (show Vq N (a) v0 Wd from hV0) (by omega)⟩
  case s6 => refine kc fun _ ac Wd h hd => ?_; obtain ⟨v0, hv0, hV0⟩ := h.dp hd 22; exact ⟨#[v0], by simp [hv0], cR4Den (show Vq N (b) v0 Wd from hV0) (by omega)⟩
  case s7 =>
    refine kc fun _ ac Wd h hd => ?_
    obtain ⟨v0, hv0, hV0⟩ := h.dp hd 21
    obtain ⟨v1, hv1, hV1⟩ := h.dp hd 23
    exact ⟨#[v0, v1], by simp [hv0, hv1], (cRMul (show Vz N (((a).den : Int)) v0 Wd from hV0) (show Vz N (((b).den : Int)) v1 Wd from hV1) (by omega) (by omega))⟩
  case s8 =>
    refine kc fun _ ac Wd h hd => ?_
    obtain ⟨v0, hv0, hV0⟩ := h.dp hd 19
    obtain ⟨v1, hv1, hV1⟩ := h.dp hd 24
    exact ⟨#[v0, v1], by simp [hv0, hv1], cR4Make (Vz_le (M := (max (max (N + N) (N + N) + 1) (N + N))) (show Vz (max (N + N) (N + N) + 1) ((((a).num) * (((b).den : Int))) + (((b).num) * (((a).den : Int)))) v0 Wd from hV0) (by omega)) (Vz_le (M := (max (max (N + N) (N + N) + 1) (N + N))) (show Vz (N + N) ((((a).den : Int)) * (((b).den : Int))) v1 Wd from hV1) (by omega)) (by omega) (by omega)⟩
  intro a4 w4 st4
  clear st3
  repeat first|refine wp_seq ?_|refine wp_block ?_|refine wp_skip ?_|refine wp_exit ?_
  obtain ⟨g, cs, r1, r2, r3, r4, r5⟩ := st4.res ⟨4, none, none, 27, 4, Vq (max (max (N + N) (N + N) + 1) (N + N)) (Rat.divInt ((((a).num) * (((b).den : Int))) + (((b).num) * (((a).den : Int)))) ((((a).den : Int)) * (((b).den : Int)))), VT⟩ (.tail _ (.tail _ (.head _))) rfl rfl
  exact wp_ret (bodyPost_ret (results_cell_row rfl _ _ g 27 cs (0, 0) _ r1 r2 Tryz.underlying27 rfl (by rw [r3]; exact size_Rat)) st4.defers ⟨_, rfl, (by rw [← add_mk]; exact Vq_le r4 (by omega)), r5⟩)
set_option maxRecDepth 100000 in
set_option maxHeartbeats 1600000 in
theorem cR4Mul {w : World} {N : Nat} {a b : Rat} {v0 v1 : Value} (h0 : Vq N (a) v0 w) (h1 : Vq N (b) v1 w) (h3 : 3 ≤ N) (hN : N ≤ 100000) : Calls Tryz.prog 31 #[v0, v1] w (RV (Vq (N + N) (a * b)) w) := by
  go_enter Tryz.func31, Tryz.ntmps31
  have st0 : St w.heap.size w 16 [] [(0, Vq N (a)), (1, Vq N (b))] _ w := St.begin (a := ⟨#[v0, v1, undef, undef, undef, undef, undef, undef, undef, undef, undef, undef, undef, undef, undef, undef], []⟩) rfl rfl (List.forall_mem_cons.2 ⟨⟨_, rfl, h0⟩, (List.forall_mem_cons.2 ⟨⟨_, rfl, h1⟩, (fun _ h => absurd h (by simp))⟩)⟩)
  generalize (⟨#[v0, v1, undef, undef, undef, undef, undef, undef, undef, undef, undef, undef, undef, undef, undef, undef], []⟩ : Act) = a0 at st0 ⊢
  repeat first|refine wp_seq ?_|refine wp_block ?_|refine wp_skip ?_|refine wp_exit ?_
  refine rg (BT := [(27, 4, 0)]) (Vl := [VT, VT, VT]) (B := [⟨2, some 0, some 0, 27, 4, Vq N (a), VT⟩, ⟨3, some 1, some 1, 27, 4, Vq N (b), VT⟩, ⟨4, some 2, none, 27, 4, VT, VT⟩]) (SL' := []) st0 ⟨ks, ks, ks, trivial⟩ ?_
  intro a1 w1 st1
  clear st0
  repeat first|refine wp_seq ?_|refine wp_block ?_|refine wp_skip ?_|refine wp_exit ?_
  refine rg (BT := [(27, 4, 0)]) (Vl := [Vpt a1 2 0, Vz N ((a).num), Vpt a1 3 0, Vz N ((b).num), Vz (N + N) (((a).num) * ((b).num)), Vq N (a), Vz N (((a).den : Int)), Vq N (b), Vz N (((b).den : Int)), Vz (N + N) ((((a).den : Int)) * (((b).den : Int))), Vq (N + N) (Rat.divInt (((a).num) * ((b).num)) ((((a).den : Int)) * (((b).den : Int)))), VT]) (B := [⟨2, none, none, 27, 4, Vq N (a), VT⟩, ⟨3, none, none, 27, 4, Vq N (b), VT⟩, ⟨4, none, some 11, 27, 4, Vq (N + N) (Rat.divInt (((a).num) * ((b).num)) ((((a).den : Int)) * (((b).den : Int)))), VT⟩]) (SL' := []) st1 ⟨ks, ks, ks, ks, ?s4, ks, ?s6, ks, ?s8, ?s9, ?s10, ks, trivial⟩ ?_
  case s4 =>
    refine kc fun _ ac Wd h hd => ?_
    obtain ⟨v0, hv0, hV0⟩ := h.dp hd 6
    obtain ⟨v1, hv1, hV1⟩ := h.dp hd 8
    exact ⟨#[v0, v1], by simp [hv0, hv1], (cRMul (show Vz N ((a).num) v0 Wd from hV0) (show Vz N ((b).num) v1 Wd from hV1) (by omega) (by omega))⟩
  case s6 => refine kc fun _ ac Wd h hd => ?_; obtain ⟨v0, hv0, hV0⟩ := h.dp hd 10; exact ⟨#[v0], by simp [hv0], cR4Den (show Vq N (a) v0 Wd from hV0) (by omega)⟩
  case s8 => refine kc fun _ ac Wd h hd => ?_; obtain ⟨v0, hv0, hV0⟩ := h.dp hd 12; exact ⟨#[v0], by simp [hv0], cR4Den (show Vq N (b) v0 Wd from hV0) (by omega)⟩
  case s9 =>
    refine kc fun _ ac Wd h hd => ?_
    obtain ⟨v0, hv0, hV0⟩ := h.dp hd 11
    obtain ⟨v1, hv1, hV1⟩ := h.dp hd 13
    exact ⟨#[v0, v1], by simp [hv0, hv1], (cRMul (show Vz N (((a).den : Int)) v0 Wd from hV0) (show Vz N (((b).den : Int)) v1 Wd from hV1) (by omega) (by omega))⟩
  case s10 =>
    refine kc fun _ ac Wd h hd => ?_
    obtain ⟨v0, hv0, hV0⟩ := h.dp hd 9
    obtain ⟨v1, hv1, hV1⟩ := h.dp hd 14
    exact ⟨#[v0, v1], by simp [hv0, hv1], cR4Make (show Vz (N + N) (((a).num) * ((b).num)) v0 Wd from hV0) (show Vz (N + N) ((((a).den : Int)) * (((b).den : Int))) v1 Wd from hV1) (by omega) (by omega)⟩
  intro a2 w2 st2
  clear st1
  repeat first|refine wp_seq ?_|refine wp_block ?_|refine wp_skip ?_|refine wp_exit ?_
  obtain ⟨g, cs, r1, r2, r3, r4, r5⟩ := st2.res ⟨4, none, none, 27, 4, Vq (N + N) (Rat.divInt (((a).num) * ((b).num)) ((((a).den : Int)) * (((b).den : Int)))), VT⟩ (.tail _ (.tail _ (.head _))) rfl rfl
  exact wp_ret (bodyPost_ret (results_cell_row rfl _ _ g 27 cs (0, 0) _ r1 r2 Tryz.underlying27 rfl (by rw [r3]; exact size_Rat)) st2.defers ⟨_, rfl, (by rw [← mul_mk]; exact Vq_le r4 (by omega)), r5⟩)
open Go.RowKit
theorem cR3Same {W : World} {Na Nb : Nat} {x y : Int} {v1 v2 : Value} (h1 : Vz Na x v1 W) (h2 : Vz Nb y v2 W) (hNa : Na ≤ 1000000) (hNb : Nb ≤ 1000000) : Calls Tryz.prog 22 #[v1, v2] W (RV (Vb (decide (x = y))) W) := by
  obtain ⟨nb, p, n, c, rfl, hI, hn⟩ := h1
  obtain ⟨nb2, p2, n2, c2, rfl, hI2, hn2⟩ := h2
  exact (Same_any nb nb2 p p2 n c n2 c2 x y W hI hI2 (by omega) (by omega)).mono fun e w' h => ⟨_, h.1, rfl, h.2⟩
set_option maxRecDepth 100000 in
set_option maxHeartbeats 1600000 in
theorem cR4Same {w : World} {N : Nat} {a b : Rat} {v0 v1 : Value} (h0 : Vq N (a) v0 w) (h1 : Vq N (b) v1 w) (hN : N ≤ 100000) : Calls Tryz.prog 41 #[v0, v1] w (RV (Vb (decide (a = b))) w) := by
  go_enter Tryz.func41, Tryz.ntmps41
  have st0 : St w.heap.size w 17 [] [(0, Vq N (a)), (1, Vq N (b))] _ w := St.begin (a := ⟨#[v0, v1, undef, undef, undef, undef, undef, undef, undef, undef, undef, undef, undef, undef, undef, undef, undef], []⟩) rfl rfl (List.forall_mem_cons.2 ⟨⟨_, rfl, h0⟩, (List.forall_mem_cons.2 ⟨⟨_, rfl, h1⟩, (fun _ h => absurd h (by simp))⟩)⟩)
  generalize (⟨#[v0, v1, undef, undef, undef, undef, undef, undef, undef, undef, undef, undef, undef, undef, undef, undef, undef], []⟩ : Act) = a0 at st0 ⊢
  repeat first|refine wp_seq ?_|refine wp_block ?_|refine wp_skip ?_|refine wp_exit ?_
  refine rg (BT := []) (Vl := [VT, VT, Vb (false)]) (B := [⟨2, some 0, some 0, 27, 4, Vq N (a), VT⟩, ⟨3, some 1, some 1, 27, 4, Vq N (b), VT⟩]) (SL' := [(4, Vb (false))]) st0 ⟨ks, ks, ks, trivial⟩ ?_
  intro a1 w1 st1
  clear st0
  by_cases hp : a.num = b.num
  ·
    repeat first|refine wp_seq ?_|refine wp_block ?_|refine wp_skip ?_|refine wp_exit ?_
    refine rg (BT := []) (Vl := [Vpt a1 2 0, Vz N ((a).num), Vpt a1 3 0, Vz N ((b).num), Vb (true), Vb (true), Vpt a1 2 2, Vz N (qd (a)), Vpt a1 3 2, Vz N (qd (b)), Vb (decide ((qd (a)) = (qd (b)))), Vb (decide ((qd (a)) = (qd (b)))), Vb (decide ((qd (a)) = (qd (b))))]) (B := [⟨2, none, none, 27, 4, Vq N (a), VT⟩, ⟨3, none, none, 27, 4, Vq N (b), VT⟩]) (SL' := [(4, Vb (decide ((qd (a)) = (qd (b)))))]) st1 ⟨ks, ks, ks, ks, ?s4, ks, ks, ks, ks, ks, ?s10, ks, ks, trivial⟩ ?_
    case s4 =>
      refine kc fun _ ac Wd h hd => ?_
      obtain ⟨v0, hv0, hV0⟩ := h.dp hd 6
      obtain ⟨v1, hv1, hV1⟩ := h.dp hd 8
      exact ⟨#[v0, v1], by simp [hv0, hv1], (cR3Same (show Vz N ((a).num) v0 Wd from hV0) (show Vz N ((b).num) v1 Wd from hV1) (by omega) (by omega)).mono fun e w h => h.le fun v w hv => hv.trans (congrArg Value.bool (decide_eq_true (hp)))⟩
    case s10 =>
      refine kc fun _ ac Wd h hd => ?_
      obtain ⟨v0, hv0, hV0⟩ := h.dp hd 12
      obtain ⟨v1, hv1, hV1⟩ := h.dp hd 14
      exact ⟨#[v0, v1], by simp [hv0, hv1], cR3Same (show Vz N (qd (a)) v0 Wd from hV0) (show Vz N (qd (b)) v1 Wd from hV1) (by omega) (by omega)⟩
    intro a2 w2 st2
    clear st1
    repeat first|refine wp_seq ?_|refine wp_block ?_|refine wp_skip ?_|refine wp_exit ?_
    obtain ⟨vr, r1, r4⟩ := st2.slot (4, Vb (decide ((qd (a)) = (qd (b))))) (.head _)
    exact wp_ret (bodyPost_ret (results_tmp rfl _ _ _) st2.defers ⟨_, congrArg Ending.returned (show _ = vr from r1), (by rw [show decide (a = b) = decide (qd a = qd b) from decide_eq_decide.2 (qd_inj hp).symm]; exact r4), st2.k.below⟩)
  ·
    repeat first|refine wp_seq ?_|refine wp_block ?_|refine wp_skip ?_|refine wp_exit ?_
    refine rg (BT := []) (Vl := [Vpt a1 2 0, Vz N ((a).num), Vpt a1 3 0, Vz N ((b).num), Vb (false), Vb (false), VT, VT, VT, VT, VT, Vb (false), Vb (false)]) (B := [⟨2, none, none, 27, 4, Vq N (a), VT⟩, ⟨3, none, none, 27, 4, Vq N (b), VT⟩]) (SL' := [(4, Vb (false))]) st1 ⟨ks, ks, ks, ks, ?s4, ks, ks, ks, ks, ks, ks, ks, ks, trivial⟩ ?_
    case s4 =>
      refine kc fun _ ac Wd h hd => ?_
      obtain ⟨v0, hv0, hV0⟩ := h.dp hd 6
      obtain ⟨v1, hv1, hV1⟩ := h.dp hd 8
      exact ⟨#[v0, v1], by simp [hv0, hv1], (cR3Same (show Vz N ((a).num) v0 Wd from hV0) (show Vz N ((b).num) v1 Wd from hV1) (by omega) (by omega)).mono fun e w h => h.le fun v w hv => hv.trans (congrArg Value.bool (decide_eq_false (hp)))⟩
    intro a2 w2 st2
    clear st1
    repeat first|refine wp_seq ?_|refine wp_block ?_|refine wp_skip ?_|refine wp_exit ?_
    obtain ⟨vr, r1, r4⟩ := st2.slot (4, Vb (false)) (.head _)
    exact wp_ret (bodyPost_ret (results_tmp rfl _ _ _) st2.defers ⟨_, congrArg Ending.returned (show _ = vr from r1), (by rw [decide_eq_false (fun e => hp (by rw [e]))]; exact r4), st2.k.below⟩)
open Go.RowKit
variable {BT : List (TypeId × Nat × Nat)}
def Vv (N : Nat) (x y : Rat) : VP := VP2 4 4 (Vq N x) (Vq N y)
theorem Stab_Vv (N : Nat) (x y : Rat) : Stab BT (Vv N x y) := Stab_VP2 (Stab_Vq _ _) (Stab_Vq _ _)
theorem AggV_Vv (N : Nat) (x y : Rat) : AggV 8 (Vv N x y) := AggV_VP2 (AggV_Vq _ _) (AggV_Vq _ _)
def Vp (N : Nat) (c s x y : Rat) : VP := VP2 8 8 (Vv N c s) (Vv N x y)
theorem Stab_Vp (N : Nat) (c s x y : Rat) : Stab BT (Vp N c s x y) := Stab_VP2 (Stab_Vv _ _ _) (Stab_Vv _ _ _)
theorem AggV_Vp (N : Nat) (c s x y : Rat) : AggV 16 (Vp N c s x y) := AggV_VP2 (AggV_Vv _ _ _) (AggV_Vv _ _ _)
instance (N : Nat) (x y : Rat) : Sb BT (Vv N x y) := ⟨Stab_Vv N x y⟩
instance (N : Nat) (c s x y : Rat) : Sb BT (Vp N c s x y) := ⟨Stab_Vp N c s x y⟩
instance (N : Nat) (x y : Rat) : Ag (Vv N x y) 8 := ⟨AggV_Vv N x y⟩
instance (N : Nat) (c s x y : Rat) : Ag (Vp N c s x y) 16 := ⟨AggV_Vp N c s x y⟩
theorem ext_ext {cs : Array Value} {o1 k1 o2 k2 : Nat} (h : o2 + k2 ≤ k1) : (cs.extract o1 (o1 + k1)).extract o2 (o2 + k2) = cs.extract (o1 + o2) (o1 + o2 + k2) := by
  rw [Array.extract_extract, show min (o1 + (o2 + k2)) (o1 + k1) = o1 + o2 + k2 by omega]
theorem PtC.comp {V A C : VP} {o1 k1 o2 k2 : Nat} (h1 : PtC V o1 k1 A) (h2 : PtC A o2 k2 C) (h : o2 + k2 ≤ k1) : PtC V (o1 + o2) k2 C := ⟨fun cs w hv => by
  have := h2.out _ _ (h1.out cs w hv)
  rwa [ext_ext h] at this⟩
instance (N : Nat) (x y : Rat) : PtC (Vv N x y) 0 4 (Vq N x) := ⟨fun _ _ h => VP2_fst h⟩
instance (N : Nat) (x y : Rat) : PtC (Vv N x y) 4 4 (Vq N y) := ⟨fun _ _ h => VP2_snd h⟩
instance (N : Nat) (x y : Rat) : PtC (Vv N x y) 0 2 (Vz N x.num) := PtC.comp (o1 := 0) (k1 := 4) (A := Vq N x) inferInstance (o2 := 0) inferInstance (by omega)
instance (N : Nat) (x y : Rat) : PtC (Vv N x y) 2 2 (Vz N (qd x)) := PtC.comp (o1 := 0) (k1 := 4) (A := Vq N x) inferInstance (o2 := 2) inferInstance (by omega)
instance (N : Nat) (x y : Rat) : PtC (Vv N x y) 4 2 (Vz N y.num) := PtC.comp (o1 := 4) (k1 := 4) (A := Vq N y) inferInstance (o2 := 0) inferInstance (by omega)
instance (N : Nat) (x y : Rat) : PtC (Vv N x y) 6 2 (Vz N (qd y)) := PtC.comp (o1 := 4) (k1 := 4) (A := Vq N y) inferInstance (o2 := 2) inferInstance (by omega)
instance (N : Nat) (c s x y : Rat) : PtC (Vp N c s x y) 0 8 (Vv N c s) := ⟨fun _ _ h => VP2_fst h⟩
instance (N : Nat) (c s x y : Rat) : PtC (Vp N c s x y) 8 8 (Vv N x y) := ⟨fun _ _ h => VP2_snd h⟩
instance (N : Nat) (c s x y : Rat) : PtC (Vp N c s x y) 0 4 (Vq N c) := PtC.comp (o1 := 0) (k1 := 8) (A := Vv N c s) inferInstance (o2 := 0) inferInstance (by omega)
instance (N : Nat) (c s x y : Rat) : PtC (Vp N c s x y) 4 4 (Vq N s) := PtC.comp (o1 := 0) (k1 := 8) (A := Vv N c s) inferInstance (o2 := 4) inferInstance (by omega)
instance (N : Nat) (c s x y : Rat) : PtC (Vp N c s x y) 8 4 (Vq N x) := PtC.comp (o1 := 8) (k1 := 8) (A := Vv N x y) inferInstance (o2 := 0) inferInstance (by omega)
instance (N : Nat) (c s x y : Rat) : PtC (Vp N c s x y) 12 4 (Vq N y) := PtC.comp (o1 := 8) (k1 := 8) (A := Vv N x y) inferInstance (o2 := 4) inferInstance (by omega)
section
variable {ρ : Operand → Value} {o : Oper} {W : World} {x y : Operand} {va vb : Value} {A B : VP}
end
def VAt (w : World) (V : VP) : VP := fun v _ => V v w
theorem Stab_VAt (w : World) (V : VP) : Stab BT (VAt w V) := fun _ _ _ h _ => h
instance (w : World) (V : VP) : Sb BT (VAt w V) := ⟨Stab_VAt w V⟩
section
variable {ρ : Operand → Value} {o : Oper} {W w : World} {x y : Operand} {va vb : Value} {A : VP}
end
end Go.Proofs.YtleijkgdpmfabaaGreatDoor
namespace Go.Proofs.YtleijkgdpmfabaaGreatDoor
open Go.RowKit
open Go.RowKit
open Go.RowKit
open Go.RowKit
open Go.RowKit
open Go.RowKit
open Go.RowKit
variable {BT : List (TypeId × Nat × Nat)}
section
variable {ρ : Operand → Value} {o : Oper} {W w : World} {x y : Operand} {va vb : Value} {A C : VP}
end
end Go.Proofs.YtleijkgdpmfabaaGreatDoor
namespace Go.Proofs.YtleijkgdpmfabaaGreatDoor
open Go.RowKit
open Go.RowKit
open Go.RowKit
variable {BT : List (TypeId × Nat × Nat)}
section
variable {P : Program} {md : Region.Mode} {ops : Array Oper} {Q : Exit → Act → World → Prop} {a0 : Act} {V : Nat → VP} {n0 : Nat} {w0 : World} {B : List Bd} {SL : List (Nat × VP)}
end
section
variable {ρ : Operand → Value} {o : Oper} {W : World} {x y : Operand} {va vb : Value} {A B : VP} {a b : Int}
theorem run_eqe (ho : o.op = .binOp .eql 51 x y 51) (hx : ρ x = .int .i64 a) (hy : ρ y = .int .i64 b) : (execOp ρ o).run Tryz.prog W = .ok (.value (.bool (a == b))) W := by
  obtain ⟨d, op, ty, ps, af, gd⟩ := o
  subst ho
  go_simp
theorem run_neqe (ho : o.op = .binOp .neq 51 x y 51) (hx : ρ x = .int .i64 a) (hy : ρ y = .int .i64 b) : (execOp ρ o).run Tryz.prog W = .ok (.value (.bool (a != b))) W := by
  obtain ⟨d, op, ty, ps, af, gd⟩ := o
  subst ho
  go_simp
theorem run_eqb {c d : Bool} (ho : o.op = .binOp .eql 4 x y 4) (hx : ρ x = .bool c) (hy : ρ y = .bool d) : (execOp ρ o).run Tryz.prog W = .ok (.value (.bool (c == d))) W := by
  obtain ⟨dd, op, ty, ps, af, gd⟩ := o
  subst ho
  cases c <;> cases d <;> go_simp
end
theorem vzz_D1 {N : Nat} {a b : Int} {cs : Array Value} {w : World} (h : VP2 2 2 (Vz N a) (Vz N b) (.agg cs) w) : ∃ v, cs[1]? = some v ∧ VD N a v w := by
  obtain ⟨x, y, h1, h2, h3, h4, h5⟩ := h
  obtain ⟨nb, p, n, c, e1, e2, e3⟩ := h4
  obtain ⟨nb2, p2, n2, c2, f1, f2, -⟩ := h5
  cases h3
  cases e1
  cases f1
  exact ⟨_, rfl, p, n, c, rfl, e2.2.1, e2.2.2.1, e2.2.2.2.1, e2.2.2.2.2, e3⟩
theorem vzz_D3 {N : Nat} {a b : Int} {cs : Array Value} {w : World} (h : VP2 2 2 (Vz N a) (Vz N b) (.agg cs) w) : ∃ v, cs[3]? = some v ∧ VD N b v w := by
  obtain ⟨x, y, h1, h2, h3, h4, h5⟩ := h
  obtain ⟨nb, p, n, c, e1, e2, -⟩ := h4
  obtain ⟨nb2, p2, n2, c2, f1, f2, f3⟩ := h5
  cases h3
  cases e1
  cases f1
  exact ⟨_, rfl, p2, n2, c2, rfl, f2.2.1, f2.2.2.1, f2.2.2.2.1, f2.2.2.2.2, f3⟩
instance (N : Nat) (a b : Int) : CeC (VP2 2 2 (Vz N a) (Vz N b)) 1 (VD N a) := ⟨fun _ _ h => vzz_D1 h⟩
instance (N : Nat) (a b : Int) : CeC (VP2 2 2 (Vz N a) (Vz N b)) 3 (VD N b) := ⟨fun _ _ h => vzz_D3 h⟩
end Go.Proofs.YtleijkgdpmfabaaGreatDoor
namespace Go.Proofs.YtleijkgdpmfabaaGreatDoor
open Go.RowKit
open Go.RowKit
open Go.RowKit
open Go.RowKit
variable {BT : List (TypeId × Nat × Nat)}
def VZr (N : Nat) (nb : Bool) (l : List Int) : VP := fun v w => ∃ p n c, v = .agg #[.bool nb, .slice p n c] ∧ Rdi w p l ∧ n = l.length ∧ n ≤ c ∧ c ≤ 9223372036854775807 ∧ n ≤ N
theorem Stab_VZr (N : Nat) (nb : Bool) (l : List Int) : Stab BT (VZr N nb l) := fun _ _ _ ⟨p, n, c, h1, h2, h3⟩ hr => ⟨p, n, c, h1, Rdi_RI hr h2, h3⟩
instance (N : Nat) (nb : Bool) (l : List Int) : Sb BT (VZr N nb l) := ⟨Stab_VZr N nb l⟩
theorem AggV_VZr (N : Nat) (nb : Bool) (l : List Int) : AggV 2 (VZr N nb l) := by
  rintro v w ⟨p, n, c, rfl, -⟩
  refine ⟨_, rfl, rfl, fun i x h => ?_, by simp [Value.oneCell']⟩
  match i with
  | 0 => simp at h
  | 1 => simp at h
  | i + 2 => simp at h
instance (N : Nat) (nb : Bool) (l : List Int) : Ag (VZr N nb l) 2 := ⟨AggV_VZr N nb l⟩
set_option maxRecDepth 100000 in
set_option maxHeartbeats 1600000 in
theorem cQValidZ {w : World} {N : Nat} {x y : Int} {v0 : Value} (h0 : VP2 2 2 (Vz N (x)) (Vz N (y)) v0 w) (h3 : 3 ≤ N) (hN : N ≤ 100000) : Calls Tryz.prog 16 #[v0] w (RV (Vb (decide (y = 0 ∨ (1 < y ∧ Int.gcd x y = 1)))) w) := by
  go_enter Tryz.func16, Tryz.ntmps16
  have st0 : St w.heap.size w 38 [] [(0, VP2 2 2 (Vz N (x)) (Vz N (y)))] _ w := St.begin (a := ⟨#[v0, undef, undef, undef, undef, undef, undef, undef, undef, undef, undef, undef, undef, undef, undef, undef, undef, undef, undef, undef, undef, undef, undef, undef, undef, undef, undef, undef, undef, undef, undef, undef, undef, undef, undef, undef, undef, undef], []⟩) rfl rfl (List.forall_mem_cons.2 ⟨⟨_, rfl, h0⟩, (fun _ h => absurd h (by simp))⟩)
  generalize (⟨#[v0, undef, undef, undef, undef, undef, undef, undef, undef, undef, undef, undef, undef, undef, undef, undef, undef, undef, undef, undef, undef, undef, undef, undef, undef, undef, undef, undef, undef, undef, undef, undef, undef, undef, undef, undef, undef, undef], []⟩ : Act) = a0 at st0 ⊢
  repeat first|refine wp_seq ?_|refine wp_block ?_|refine wp_skip ?_|refine wp_exit ?_
  refine rg (BT := []) (Vl := [VT, Vb (false)]) (B := [⟨1, some 0, some 0, 27, 4, VP2 2 2 (Vz N (x)) (Vz N (y)), VT⟩]) (SL' := [(2, Vb (false))]) st0 ⟨ks, ks, trivial⟩ ?_
  intro a1 w1 st1
  clear st0
  repeat first|refine wp_seq ?_|refine wp_block ?_|refine wp_skip ?_|refine wp_exit ?_
  refine rg (BT := []) (Vl := [Vpt a1 1 0, Vz N (x), Vb (true), Vb (false), Vb (false), Vpt a1 1 2, Vz N (y), Vb (true), Vb (false), Vb (false), Vb (false)]) (B := [⟨1, none, none, 27, 4, VP2 2 2 (Vz N (x)) (Vz N (y)), VT⟩]) (SL' := [(2, Vb (false)), (3, Vb (false))]) st1 ⟨ks, ks, ?s2, ks, ks, ks, ks, ?s7, ks, ks, ks, trivial⟩ ?_
  case s2 => refine kc fun _ ac Wd h hd => ?_; obtain ⟨v0, hv0, hV0⟩ := h.dp hd 5; exact ⟨#[v0], by simp [hv0], cZValid (show Vz N (x) v0 Wd from hV0) (by omega)⟩
  case s7 => refine kc fun _ ac Wd h hd => ?_; obtain ⟨v0, hv0, hV0⟩ := h.dp hd 10; exact ⟨#[v0], by simp [hv0], cZValid (show Vz N (y) v0 Wd from hV0) (by omega)⟩
  intro a2 w2 st2
  clear st1
  repeat first|refine wp_seq ?_|refine wp_block ?_|refine wp_skip ?_|refine wp_exit ?_
  obtain ⟨vc, hc1, hc2⟩ := st2.slot (3, Vb (false)) (.tail _ (.head _))
  refine wp_cond_false (hc1.trans hc2) ?_
  clear hc1 hc2
  by_cases hz : y = 0
  ·
    repeat first|refine wp_seq ?_|refine wp_block ?_|refine wp_skip ?_|refine wp_exit ?_
    refine rg (BT := []) (Vl := [Vpt a2 1 2, Vpt a2 1 3, VD N (y), Vi (((digs (y).natAbs).length : Int)), Vb (true), Vb (true)]) (B := [⟨1, none, none, 27, 4, VP2 2 2 (Vz N (x)) (Vz N (y)), VT⟩]) (SL' := [(2, Vb (false)), (3, Vb (false)), (14, Vb (true))]) st2 ⟨ks, ks, ks, ?s3, ?s4, ks, trivial⟩ ?_
    case s3 => refine kr fun _ ac Wd h hd => ?_; obtain ⟨v0, hv0, hV0⟩ := h.dp hd 17; obtain ⟨pp, nn, cc, rfl, hnn, -⟩ := hV0; exact ⟨_, run_len rfl rfl hv0, by rw [hnn]; rfl⟩
    case s4 =>
      refine kr fun _ ac Wd h hd => ?_
      obtain ⟨v0, hv0, hV0⟩ := h.dp hd 18
      have hV0' : v0 = .int .i64 (((digs (y).natAbs).length : Int)) := hV0
      exact ⟨_, run_eqi rfl (hv0.trans hV0') rfl, congrArg Value.bool (by rw [len_eq0]; exact decide_eq_true hz)⟩
    intro a3 w3 st3
    clear st2
    repeat first|refine wp_seq ?_|refine wp_block ?_|refine wp_skip ?_|refine wp_exit ?_
    obtain ⟨vc, hc1, hc2⟩ := st3.slot (14, Vb (true)) (.tail _ (.tail _ (.head _)))
    refine wp_cond_true (hc1.trans hc2) ?_
    clear hc1 hc2
    repeat first|refine wp_seq ?_|refine wp_block ?_|refine wp_skip ?_|refine wp_exit ?_
    refine rg (BT := []) (Vl := [Vb (true)]) (B := [⟨1, none, none, 27, 4, VP2 2 2 (Vz N (x)) (Vz N (y)), VT⟩]) (SL' := [(3, Vb (false)), (14, Vb (true)), (2, Vb (true))]) st3 ⟨ks, trivial⟩ ?_
    intro a4 w4 st4
    clear st3
    repeat first|refine wp_seq ?_|refine wp_block ?_|refine wp_skip ?_|refine wp_exit ?_
    obtain ⟨vr, r1, r4⟩ := st4.slot (2, Vb (true)) (.tail _ (.tail _ (.head _)))
    exact wp_ret (bodyPost_ret (results_tmp rfl _ _ _) st4.defers ⟨_, congrArg Ending.returned (show _ = vr from r1), (by rw [decide_eq_true (show y = 0 ∨ (1 < y ∧ Int.gcd x y = 1) from .inl hz)]; exact r4), st4.k.below⟩)
  ·
    repeat first|refine wp_seq ?_|refine wp_block ?_|refine wp_skip ?_|refine wp_exit ?_
    refine rg (BT := []) (Vl := [Vpt a2 1 2, Vpt a2 1 3, VD N (y), Vi (((digs (y).natAbs).length : Int)), Vb (false), Vb (false)]) (B := [⟨1, none, none, 27, 4, VP2 2 2 (Vz N (x)) (Vz N (y)), VT⟩]) (SL' := [(2, Vb (false)), (3, Vb (false)), (14, Vb (false))]) st2 ⟨ks, ks, ks, ?s3, ?s4, ks, trivial⟩ ?_
    case s3 => refine kr fun _ ac Wd h hd => ?_; obtain ⟨v0, hv0, hV0⟩ := h.dp hd 17; obtain ⟨pp, nn, cc, rfl, hnn, -⟩ := hV0; exact ⟨_, run_len rfl rfl hv0, by rw [hnn]; rfl⟩
    case s4 =>
      refine kr fun _ ac Wd h hd => ?_
      obtain ⟨v0, hv0, hV0⟩ := h.dp hd 18
      have hV0' : v0 = .int .i64 (((digs (y).natAbs).length : Int)) := hV0
      exact ⟨_, run_eqi rfl (hv0.trans hV0') rfl, congrArg Value.bool (by rw [len_eq0]; exact decide_eq_false hz)⟩
    intro a3 w3 st3
    clear st2
    by_cases hp : 0 < y
    ·
      repeat first|refine wp_seq ?_|refine wp_block ?_|refine wp_skip ?_|refine wp_exit ?_
      obtain ⟨vc, hc1, hc2⟩ := st3.slot (14, Vb (false)) (.tail _ (.tail _ (.head _)))
      refine wp_cond_false (hc1.trans hc2) ?_
      clear hc1 hc2
      by_cases h1 : y = 1
      ·
        repeat first|refine wp_seq ?_|refine wp_block ?_|refine wp_skip ?_|refine wp_exit ?_
        refine rg (BT := []) (Vl := [Vpt a3 1 2, Vz N (y), Vi (cmpI (y) 0), Vb (true), Vb (true), Vpt a3 1 2, Vz N (y), Vb (true), Vb (false), Vb (false), Vb (false), VT, VT, VT, VT, VT, VT, Vb (false), Vb (false)]) (B := [⟨1, none, none, 27, 4, VP2 2 2 (Vz N (x)) (Vz N (y)), VT⟩]) (SL' := [(3, Vb (false)), (14, Vb (false)), (2, Vb (false))]) st3 ⟨ks, ks, ?s2, ?s3, ks, ks, ks, ?s7, ks, ks, ks, ks, ks, ks, ks, ks, ks, ks, ks, trivial⟩ ?_
        case s2 => refine kc fun _ ac Wd h hd => ?_; obtain ⟨v0, hv0, hV0⟩ := h.dp hd 21; exact ⟨#[v0], by simp [hv0], cSign (show Vz N (y) v0 Wd from hV0) (by omega)⟩
        case s3 =>
          refine kr fun _ ac Wd h hd => ?_
          obtain ⟨v0, hv0, hV0⟩ := h.dp hd 22
          have hV0' : v0 = .int .i64 (cmpI (y) 0) := hV0
          exact ⟨_, run_gtri rfl (hv0.trans hV0') rfl, congrArg Value.bool (by rw [cmp_gt hp]; rfl)⟩
        case s7 =>
          refine kc fun _ ac Wd h hd => ?_
          obtain ⟨v0, hv0, hV0⟩ := h.dp hd 26
          exact ⟨#[v0], by simp [hv0], (cOne (show Vz N (y) v0 Wd from hV0)).mono fun e w h => h.le fun v w hv => hv.trans (congrArg Value.bool (decide_eq_true (h1)))⟩
        intro a4 w4 st4
        clear st3
        repeat first|refine wp_seq ?_|refine wp_block ?_|refine wp_skip ?_|refine wp_exit ?_
        obtain ⟨vr, r1, r4⟩ := st4.slot (2, Vb (false)) (.tail _ (.tail _ (.head _)))
        exact wp_ret (bodyPost_ret (results_tmp rfl _ _ _) st4.defers ⟨_, congrArg Ending.returned (show _ = vr from r1), (by rw [decide_eq_false (show ¬ (y = 0 ∨ (1 < y ∧ Int.gcd x y = 1)) by omega)]; exact r4), st4.k.below⟩)
      ·
        repeat first|refine wp_seq ?_|refine wp_block ?_|refine wp_skip ?_|refine wp_exit ?_
        refine rg (BT := []) (Vl := [Vpt a3 1 2, Vz N (y), Vi (cmpI (y) 0), Vb (true), Vb (true), Vpt a3 1 2, Vz N (y), Vb (false), Vb (true), Vb (true), Vb (true), Vpt a3 1 0, Vz N (x), Vpt a3 1 2, Vz N (y), Vz (max N N) ((Int.gcd (x) (y) : Int)), Vb (decide ((Int.gcd (x) (y) : Int) = 1)), Vb (decide ((Int.gcd (x) (y) : Int) = 1)), Vb (decide ((Int.gcd (x) (y) : Int) = 1))]) (B := [⟨1, none, none, 27, 4, VP2 2 2 (Vz N (x)) (Vz N (y)), VT⟩]) (SL' := [(3, Vb (false)), (14, Vb (false)), (2, Vb (decide ((Int.gcd (x) (y) : Int) = 1)))]) st3 ⟨ks, ks, ?s2, ?s3, ks, ks, ks, ?s7, ks, ks, ks, ks, ks, ks, ks, ?s15, ?s16, ks, ks, trivial⟩ ?_
        case s2 => refine kc fun _ ac Wd h hd => ?_; obtain ⟨v0, hv0, hV0⟩ := h.dp hd 21; exact ⟨#[v0], by simp [hv0], cSign (show Vz N (y) v0 Wd from hV0) (by omega)⟩
        case s3 =>
          refine kr fun _ ac Wd h hd => ?_
          obtain ⟨v0, hv0, hV0⟩ := h.dp hd 22
          have hV0' : v0 = .int .i64 (cmpI (y) 0) := hV0
          exact ⟨_, run_gtri rfl (hv0.trans hV0') rfl, congrArg Value.bool (by rw [cmp_gt hp]; rfl)⟩
        case s7 =>
          refine kc fun _ ac Wd h hd => ?_
          obtain ⟨v0, hv0, hV0⟩ := h.dp hd 26
          exact ⟨#[v0], by simp [hv0], (cOne (show Vz N (y) v0 Wd from hV0)).mono fun e w h => h.le fun v w hv => hv.trans (congrArg Value.bool (decide_eq_false (h1)))⟩
        case s15 =>
          refine kc fun _ ac Wd h hd => ?_
          obtain ⟨v0, hv0, hV0⟩ := h.dp hd 32
          obtain ⟨v1, hv1, hV1⟩ := h.dp hd 34
          exact ⟨#[v0, v1], by simp [hv0, hv1], (cGcd (show Vz N (x) v0 Wd from hV0) (show Vz N (y) v1 Wd from hV1) (by omega) (by omega))⟩
        case s16 => refine kc fun _ ac Wd h hd => ?_; obtain ⟨v0, hv0, hV0⟩ := h.dp hd 35; exact ⟨#[v0], by simp [hv0], cOne (show Vz (max N N) ((Int.gcd (x) (y) : Int)) v0 Wd from hV0)⟩
        intro a4 w4 st4
        clear st3
        repeat first|refine wp_seq ?_|refine wp_block ?_|refine wp_skip ?_|refine wp_exit ?_
        obtain ⟨vr, r1, r4⟩ := st4.slot (2, Vb (decide ((Int.gcd (x) (y) : Int) = 1))) (.tail _ (.tail _ (.head _)))
        exact wp_ret (bodyPost_ret (results_tmp rfl _ _ _) st4.defers ⟨_, congrArg Ending.returned (show _ = vr from r1), (by rw [decide_eq_decide.2 (show (y = 0 ∨ (1 < y ∧ Int.gcd x y = 1)) ↔ ((Int.gcd x y : Int) = 1) by omega)]; exact r4), st4.k.below⟩)
    ·
      repeat first|refine wp_seq ?_|refine wp_block ?_|refine wp_skip ?_|refine wp_exit ?_
      obtain ⟨vc, hc1, hc2⟩ := st3.slot (14, Vb (false)) (.tail _ (.tail _ (.head _)))
      refine wp_cond_false (hc1.trans hc2) ?_
      clear hc1 hc2
      repeat first|refine wp_seq ?_|refine wp_block ?_|refine wp_skip ?_|refine wp_exit ?_
      refine rg (BT := []) (Vl := [Vpt a3 1 2, Vz N (y), Vi (cmpI (y) 0), Vb (false), Vb (false), VT, VT, VT, VT, Vb (false), Vb (false), VT, VT, VT, VT, VT, VT, Vb (false), Vb (false)]) (B := [⟨1, none, none, 27, 4, VP2 2 2 (Vz N (x)) (Vz N (y)), VT⟩]) (SL' := [(3, Vb (false)), (14, Vb (false)), (2, Vb (false))]) st3 ⟨ks, ks, ?s2, ?s3, ks, ks, ks, ks, ks, ks, ks, ks, ks, ks, ks, ks, ks, ks, ks, trivial⟩ ?_
      case s2 => refine kc fun _ ac Wd h hd => ?_; obtain ⟨v0, hv0, hV0⟩ := h.dp hd 21; exact ⟨#[v0], by simp [hv0], cSign (show Vz N (y) v0 Wd from hV0) (by omega)⟩
      case s3 =>
        refine kr fun _ ac Wd h hd => ?_
        obtain ⟨v0, hv0, hV0⟩ := h.dp hd 22
        have hV0' : v0 = .int .i64 (cmpI (y) 0) := hV0
        exact ⟨_, run_gtri rfl (hv0.trans hV0') rfl, congrArg Value.bool (by rw [cmp_lt (show y < 0 by omega)]; rfl)⟩
      intro a4 w4 st4
      clear st3
      repeat first|refine wp_seq ?_|refine wp_block ?_|refine wp_skip ?_|refine wp_exit ?_
      obtain ⟨vr, r1, r4⟩ := st4.slot (2, Vb (false)) (.tail _ (.tail _ (.head _)))
      exact wp_ret (bodyPost_ret (results_tmp rfl _ _ _) st4.defers ⟨_, congrArg Ending.returned (show _ = vr from r1), (by rw [decide_eq_false (show ¬ (y = 0 ∨ (1 < y ∧ Int.gcd x y = 1)) by omega)]; exact r4), st4.k.below⟩)
end Go.Proofs.YtleijkgdpmfabaaGreatDoor
