/- Whole; the reference: Whole, Floor, Ceil. -/
import Derived.Test.YtleijkgdpmfabaaGreatDoorQX4
import Derived.Test.YtleijkgdpmfabaaGreatDoorW37
import Derived.Test.YtleijkgdpmfabaaGreatDoorQI49
set_option linter.unusedVariables false
namespace Go.Proofs.YtleijkgdpmfabaaGreatDoor
open Go.RowKit
set_option maxRecDepth 100000 in
set_option maxHeartbeats 1600000 in
theorem cR4Floor {w : World} {N : Nat} {q : Rat} {v0 : Value} (h0 : Vq N (q) v0 w) (h1 : 3 ≤ N) (hN : N ≤ 100000) : Calls Tryz.prog 46 #[v0] w (RV (Vz (N + 1) (dq q.num (q.den : Int))) w) := by
  go_enter Tryz.func46, Tryz.ntmps46
  have st0 : St w.heap.size w 14 [] [(0, Vq N (q))] _ w := St.begin (a := ⟨#[v0, undef, undef, undef, undef, undef, undef, undef, undef, undef, undef, undef, undef, undef], []⟩) rfl rfl (List.forall_mem_cons.2 ⟨⟨_, rfl, h0⟩, (fun _ h => absurd h (by simp))⟩)
  generalize (⟨#[v0, undef, undef, undef, undef, undef, undef, undef, undef, undef, undef, undef, undef, undef], []⟩ : Act) = a0 at st0 ⊢
  repeat first|refine wp_seq ?_|refine wp_block ?_|refine wp_skip ?_|refine wp_exit ?_
  refine rg (BT := [(24, 2, 0)]) (Vl := [VT, VT]) (B := [⟨1, some 0, some 0, 27, 4, Vq N (q), VT⟩, ⟨2, some 1, none, 24, 2, VT, VT⟩]) (SL' := []) st0 ⟨ks, ks, trivial⟩ ?_
  intro a1 w1 st1
  clear st0
  repeat first|refine wp_seq ?_|refine wp_block ?_|refine wp_skip ?_|refine wp_exit ?_
  refine rg (BT := [(24, 2, 0)]) (Vl := [Vpt a1 1 0, Vz N ((q).num), Vq N (q), Vz N (((q).den : Int)), VTup (Vz (N + 1) (dq ((q).num) (((q).den : Int)))) (Vz N (dr ((q).num) (((q).den : Int)))), VTup (Vz (N + 1) (dq ((q).num) (((q).den : Int)))) (Vz N (dr ((q).num) (((q).den : Int)))), Vz (N + 1) (dq ((q).num) (((q).den : Int))), Vz N (dr ((q).num) (((q).den : Int))), VT, VT, VT, VT]) (B := [⟨1, none, none, 27, 4, Vq N (q), VT⟩, ⟨2, none, none, 24, 2, VT, VT⟩, ⟨3, some 8, some 10, 24, 2, Vz (N + 1) (dq ((q).num) (((q).den : Int))), VT⟩, ⟨4, some 9, some 11, 24, 2, Vz N (dr ((q).num) (((q).den : Int))), VT⟩]) (SL' := []) st1 ⟨ks, ks, ks, ?s3, ?s4, ks, ks, ks, ks, ks, ks, ks, trivial⟩ ?_
  case s3 => refine kc fun _ ac Wd h hd => ?_; obtain ⟨v0, hv0, hV0⟩ := h.dp hd 8; exact ⟨#[v0], by simp [hv0], cR4Den (show Vq N (q) v0 Wd from hV0) (by omega)⟩
  case s4 =>
    refine kc fun _ ac Wd h hd => ?_
    obtain ⟨v0, hv0, hV0⟩ := h.dp hd 7
    obtain ⟨v1, hv1, hV1⟩ := h.dp hd 9
    exact ⟨#[v0, v1], by simp [hv0, hv1], (cRDiv (show Vz N ((q).num) v0 Wd from hV0) (show Vz N (((q).den : Int)) v1 Wd from hV1) (by omega) (by omega) (by omega) (by omega))⟩
  intro a2 w2 st2
  clear st1
  repeat first|refine wp_seq ?_|refine wp_block ?_|refine wp_skip ?_|refine wp_exit ?_
  refine rg (BT := [(24, 2, 0)]) (Vl := [Vz (N + 1) (dq ((q).num) (((q).den : Int))), VT]) (B := [⟨1, none, none, 27, 4, Vq N (q), VT⟩, ⟨2, none, some 1, 24, 2, Vz (N + 1) (dq ((q).num) (((q).den : Int))), VT⟩, ⟨3, none, none, 24, 2, Vz (N + 1) (dq ((q).num) (((q).den : Int))), VT⟩, ⟨4, none, none, 24, 2, Vz N (dr ((q).num) (((q).den : Int))), VT⟩]) (SL' := []) st2 ⟨ks, ks, trivial⟩ ?_
  intro a3 w3 st3
  clear st2
  repeat first|refine wp_seq ?_|refine wp_block ?_|refine wp_skip ?_|refine wp_exit ?_
  obtain ⟨g, cs, r1, r2, r3, r4, r5⟩ := st3.res ⟨2, none, none, 24, 2, Vz (N + 1) (dq ((q).num) (((q).den : Int))), VT⟩ (.tail _ (.head _)) rfl rfl
  exact wp_ret (bodyPost_ret (results_cell_row rfl _ _ g 24 cs (0, 0) _ r1 r2 Tryz.underlying24 rfl (by rw [r3]; exact size_Int)) st3.defers ⟨_, rfl, r4, r5⟩)
set_option maxRecDepth 100000 in
set_option maxHeartbeats 1600000 in
theorem cR4Ceil {w : World} {N : Nat} {q : Rat} {v0 : Value} (h0 : Vq N (q) v0 w) (h1 : 3 ≤ N) (hN : N ≤ 100000) : Calls Tryz.prog 48 #[v0] w (RV (Vz (N + 1) (-(dq (-q).num ((-q).den : Int)))) w) := by
  go_enter Tryz.func48, Tryz.ntmps48
  have st0 : St w.heap.size w 7 [] [(0, Vq N (q))] _ w := St.begin (a := ⟨#[v0, undef, undef, undef, undef, undef, undef], []⟩) rfl rfl (List.forall_mem_cons.2 ⟨⟨_, rfl, h0⟩, (fun _ h => absurd h (by simp))⟩)
  generalize (⟨#[v0, undef, undef, undef, undef, undef, undef], []⟩ : Act) = a0 at st0 ⊢
  repeat first|refine wp_seq ?_|refine wp_block ?_|refine wp_skip ?_|refine wp_exit ?_
  refine rg (BT := [(24, 2, 0)]) (Vl := [VT, VT]) (B := [⟨1, some 0, some 0, 27, 4, Vq N (q), VT⟩, ⟨2, some 1, none, 24, 2, VT, VT⟩]) (SL' := []) st0 ⟨ks, ks, trivial⟩ ?_
  intro a1 w1 st1
  clear st0
  repeat first|refine wp_seq ?_|refine wp_block ?_|refine wp_skip ?_|refine wp_exit ?_
  refine rg (BT := [(24, 2, 0)]) (Vl := [Vq N (q), Vq N (-(q)), Vz (N + 1) (dq (-(q)).num ((-(q)).den : Int)), Vz (N + 1) (-(dq (-(q)).num ((-(q)).den : Int))), VT]) (B := [⟨1, none, none, 27, 4, Vq N (q), VT⟩, ⟨2, none, some 4, 24, 2, Vz (N + 1) (-(dq (-(q)).num ((-(q)).den : Int))), VT⟩]) (SL' := []) st1 ⟨ks, ?s1, ?s2, ?s3, ks, trivial⟩ ?_
  case s1 => refine kc fun _ ac Wd h hd => ?_; obtain ⟨v0, hv0, hV0⟩ := h.dp hd 3; exact ⟨#[v0], by simp [hv0], cR4Neg (show Vq N (q) v0 Wd from hV0) (by omega)⟩
  case s2 => refine kc fun _ ac Wd h hd => ?_; obtain ⟨v0, hv0, hV0⟩ := h.dp hd 4; exact ⟨#[v0], by simp [hv0], cR4Floor (show Vq N (-(q)) v0 Wd from hV0) (by omega) (by omega)⟩
  case s3 => refine kc fun _ ac Wd h hd => ?_; obtain ⟨v0, hv0, hV0⟩ := h.dp hd 5; exact ⟨#[v0], by simp [hv0], cRNeg (show Vz (N + 1) (dq (-(q)).num ((-(q)).den : Int)) v0 Wd from hV0)⟩
  intro a2 w2 st2
  clear st1
  repeat first|refine wp_seq ?_|refine wp_block ?_|refine wp_skip ?_|refine wp_exit ?_
  obtain ⟨g, cs, r1, r2, r3, r4, r5⟩ := st2.res ⟨2, none, none, 24, 2, Vz (N + 1) (-(dq (-(q)).num ((-(q)).den : Int))), VT⟩ (.tail _ (.head _)) rfl rfl
  exact wp_ret (bodyPost_ret (results_cell_row rfl _ _ g 24 cs (0, 0) _ r1 r2 Tryz.underlying24 rfl (by rw [r3]; exact size_Int)) st2.defers ⟨_, rfl, r4, r5⟩)
end Go.Proofs.YtleijkgdpmfabaaGreatDoor
