/- Whole; the reference: Whole, Floor, Ceil. -/
import Derived.Test.YtleijkgdpmfabaaGreatDoorW37
import Derived.Test.YtleijkgdpmfabaaGreatDoorQI49
set_option linter.unusedVariables false
namespace Go.Proofs.YtleijkgdpmfabaaGreatDoor
open Go.RowKit
theorem cRSmall {W : World} {N : Nat} {a : Int} {v1 : Value} (h1 : Vz N a v1 W) (hN1 : N ≤ 1000000) : Calls Tryz.prog 94 #[v1] W (RV2 (Vi (smv a)) (Vb (smb a)) W) := by
  obtain ⟨nb, p, n, c, rfl, hI, hn⟩ := h1
  exact (rSmall_any _ _ _ _ a W hI (by omega)).mono fun e w' h => ⟨_, _, h.1, rfl, rfl, h.2⟩
theorem results_tmp2 {P : Program} {fn : Func} {p q : Tmp} (h : fn.results = #[.tmp p, .tmp q]) (tmps : Array Value) (w : World) {v1 v2 : Value} (hp : tmps.getD p undef = v1) (hq : tmps.getD q undef = v2) : (results fn tmps).run P w = .ok (.tuple #[v1, v2]) w := by
  have hp' : tmps[p]?.getD undef = v1 := by simpa using hp
  have hq' : tmps[q]?.getD undef = v2 := by simpa using hq
  simp [results, h, hp', hq']
def whv (q : Rat) : Int := if q.den = 1 then smv q.num else 0
def whb (q : Rat) : Bool := if q.den = 1 then smb q.num else false
set_option maxRecDepth 100000 in
set_option maxHeartbeats 1600000 in
theorem cQWhole {w : World} {N : Nat} {q : Rat} {v0 : Value} (h0 : Vq N (q) v0 w) (hN : N ≤ 100000) : Calls Tryz.prog 42 #[v0] w (RV (VTup (Vi (whv q)) (Vb (whb q))) w) := by
  go_enter Tryz.func42, Tryz.ntmps42
  have st0 : St w.heap.size w 14 [] [(0, Vq N (q))] _ w := St.begin (a := ⟨#[v0, undef, undef, undef, undef, undef, undef, undef, undef, undef, undef, undef, undef, undef], []⟩) rfl rfl (List.forall_mem_cons.2 ⟨⟨_, rfl, h0⟩, (fun _ h => absurd h (by simp))⟩)
  generalize (⟨#[v0, undef, undef, undef, undef, undef, undef, undef, undef, undef, undef, undef, undef, undef], []⟩ : Act) = a0 at st0 ⊢
  repeat first|refine wp_seq ?_|refine wp_block ?_|refine wp_skip ?_|refine wp_exit ?_
  refine rg (BT := []) (Vl := [VT, Vi (0), Vb (false)]) (B := [⟨1, some 0, some 0, 27, 4, Vq N (q), VT⟩]) (SL' := [(2, Vi (0)), (3, Vb (false))]) st0 ⟨ks, ks, ks, trivial⟩ ?_
  intro a1 w1 st1
  clear st0
  by_cases hd1 : q.den = 1
  ·
    have hl0 : (digs (qd q).natAbs).length = 0 := by rw [(qd0 q).2 hd1, show (0 : Int).natAbs = 0 from rfl, digs_zero]; rfl
    repeat first|refine wp_seq ?_|refine wp_block ?_|refine wp_skip ?_|refine wp_exit ?_
    refine rg (BT := []) (Vl := [Vpt a1 1 2, Vpt a1 1 3, VD N (qd (q)), Vi (((digs (qd (q)).natAbs).length : Int)), Vb (false)]) (B := [⟨1, none, none, 27, 4, Vq N (q), VT⟩]) (SL' := [(2, Vi (0)), (3, Vb (false)), (8, Vb (false))]) st1 ⟨ks, ks, ks, ?s3, ?s4, trivial⟩ ?_
    case s3 => refine kr fun _ ac Wd h hd => ?_; obtain ⟨v0, hv0, hV0⟩ := h.dp hd 6; obtain ⟨pp, nn, cc, rfl, hnn, -⟩ := hV0; exact ⟨_, run_len rfl rfl hv0, by rw [hnn]; rfl⟩
    case s4 =>
      refine kr fun _ ac Wd h hd => ?_
      obtain ⟨v0, hv0, hV0⟩ := h.dp hd 7
      have hV0' : v0 = .int .i64 (((digs (qd (q)).natAbs).length : Int)) := hV0
      exact ⟨_, run_gtri rfl (hv0.trans hV0') rfl, congrArg Value.bool (decide_eq_false (by omega))⟩
    intro a2 w2 st2
    clear st1
    repeat first|refine wp_seq ?_|refine wp_block ?_|refine wp_skip ?_|refine wp_exit ?_
    obtain ⟨vc, hc1, hc2⟩ := st2.slot (8, Vb (false)) (.tail _ (.tail _ (.head _)))
    refine wp_cond_false (hc1.trans hc2) ?_
    clear hc1 hc2
    repeat first|refine wp_seq ?_|refine wp_block ?_|refine wp_skip ?_|refine wp_exit ?_
    refine rg (BT := []) (Vl := [Vpt a2 1 0, Vz N ((q).num), VTup (Vi (smv ((q).num))) (Vb (smb ((q).num))), Vi (smv ((q).num)), Vb (smb ((q).num)), Vi (smv ((q).num)), Vb (smb ((q).num))]) (B := [⟨1, none, none, 27, 4, Vq N (q), VT⟩]) (SL' := [(8, Vb (false)), (2, Vi (smv ((q).num))), (3, Vb (smb ((q).num)))]) st2 ⟨ks, ks, ?s2, ks, ks, ks, ks, trivial⟩ ?_
    case s2 => refine kc fun _ ac Wd h hd => ?_; obtain ⟨v0, hv0, hV0⟩ := h.dp hd 10; exact ⟨#[v0], by simp [hv0], (cSmall (show Vz N ((q).num) v0 Wd from hV0) (by omega)).mono fun e w h => h.tup⟩
    intro a3 w3 st3
    clear st2
    repeat first|refine wp_seq ?_|refine wp_block ?_|refine wp_skip ?_|refine wp_exit ?_
    obtain ⟨vr, r1, r4⟩ := st3.slot (2, Vi (smv ((q).num))) (.tail _ (.head _))
    obtain ⟨vq, q1, q4⟩ := st3.slot (3, Vb (smb ((q).num))) (.tail _ (.tail _ (.head _)))
    exact wp_ret (bodyPost_ret (results_tmp2 rfl _ _ r1 q1) st3.defers ⟨_, rfl, ⟨_, _, rfl, (by rw [show whv q = smv q.num from if_pos hd1]; exact r4), (by rw [show whb q = smb q.num from if_pos hd1]; exact q4)⟩, st3.k.below⟩)
  ·
    have hl0 : (digs (qd q).natAbs).length ≠ 0 := by
      intro e
      have h1 := len_eq0 (qd q)
      rw [e] at h1
      have h2 : decide (qd q = 0) = true := h1.symm
      exact hd1 ((qd0 q).1 (of_decide_eq_true h2))
    repeat first|refine wp_seq ?_|refine wp_block ?_|refine wp_skip ?_|refine wp_exit ?_
    refine rg (BT := []) (Vl := [Vpt a1 1 2, Vpt a1 1 3, VD N (qd (q)), Vi (((digs (qd (q)).natAbs).length : Int)), Vb (true)]) (B := [⟨1, none, none, 27, 4, Vq N (q), VT⟩]) (SL' := [(2, Vi (0)), (3, Vb (false)), (8, Vb (true))]) st1 ⟨ks, ks, ks, ?s3, ?s4, trivial⟩ ?_
    case s3 => refine kr fun _ ac Wd h hd => ?_; obtain ⟨v0, hv0, hV0⟩ := h.dp hd 6; obtain ⟨pp, nn, cc, rfl, hnn, -⟩ := hV0; exact ⟨_, run_len rfl rfl hv0, by rw [hnn]; rfl⟩
    case s4 =>
      refine kr fun _ ac Wd h hd => ?_
      obtain ⟨v0, hv0, hV0⟩ := h.dp hd 7
      have hV0' : v0 = .int .i64 (((digs (qd (q)).natAbs).length : Int)) := hV0
      exact ⟨_, run_gtri rfl (hv0.trans hV0') rfl, congrArg Value.bool (decide_eq_true (by omega))⟩
    intro a2 w2 st2
    clear st1
    repeat first|refine wp_seq ?_|refine wp_block ?_|refine wp_skip ?_|refine wp_exit ?_
    obtain ⟨vc, hc1, hc2⟩ := st2.slot (8, Vb (true)) (.tail _ (.tail _ (.head _)))
    refine wp_cond_true (hc1.trans hc2) ?_
    clear hc1 hc2
    repeat first|refine wp_seq ?_|refine wp_block ?_|refine wp_skip ?_|refine wp_exit ?_
    refine rg (BT := []) (Vl := [Vi (0), Vb (false)]) (B := [⟨1, none, none, 27, 4, Vq N (q), VT⟩]) (SL' := [(8, Vb (true)), (2, Vi (0)), (3, Vb (false))]) st2 ⟨ks, ks, trivial⟩ ?_
    intro a3 w3 st3
    clear st2
    repeat first|refine wp_seq ?_|refine wp_block ?_|refine wp_skip ?_|refine wp_exit ?_
    obtain ⟨vr, r1, r4⟩ := st3.slot (2, Vi (0)) (.tail _ (.head _))
    obtain ⟨vq, q1, q4⟩ := st3.slot (3, Vb (false)) (.tail _ (.tail _ (.head _)))
    exact wp_ret (bodyPost_ret (results_tmp2 rfl _ _ r1 q1) st3.defers ⟨_, rfl, ⟨_, _, rfl, (by rw [show whv q = 0 from if_neg hd1]; exact r4), (by rw [show whb q = false from if_neg hd1]; exact q4)⟩, st3.k.below⟩)
set_option maxRecDepth 100000 in
set_option maxHeartbeats 1600000 in
theorem cR4Whole {w : World} {N : Nat} {q : Rat} {v0 : Value} (h0 : Vq N (q) v0 w) (hN : N ≤ 100000) : Calls Tryz.prog 43 #[v0] w (RV (VTup (Vi (whv q)) (Vb (whb q))) w) := by
  go_enter Tryz.func43, Tryz.ntmps43
  have st0 : St w.heap.size w 14 [] [(0, Vq N (q))] _ w := St.begin (a := ⟨#[v0, undef, undef, undef, undef, undef, undef, undef, undef, undef, undef, undef, undef, undef], []⟩) rfl rfl (List.forall_mem_cons.2 ⟨⟨_, rfl, h0⟩, (fun _ h => absurd h (by simp))⟩)
  generalize (⟨#[v0, undef, undef, undef, undef, undef, undef, undef, undef, undef, undef, undef, undef, undef], []⟩ : Act) = a0 at st0 ⊢
  repeat first|refine wp_seq ?_|refine wp_block ?_|refine wp_skip ?_|refine wp_exit ?_
  refine rg (BT := []) (Vl := [VT, Vi (0), Vb (false)]) (B := [⟨1, some 0, some 0, 27, 4, Vq N (q), VT⟩]) (SL' := [(2, Vi (0)), (3, Vb (false))]) st0 ⟨ks, ks, ks, trivial⟩ ?_
  intro a1 w1 st1
  clear st0
  by_cases hd1 : q.den = 1
  ·
    have hl0 : (digs (qd q).natAbs).length = 0 := by rw [(qd0 q).2 hd1, show (0 : Int).natAbs = 0 from rfl, digs_zero]; rfl
    repeat first|refine wp_seq ?_|refine wp_block ?_|refine wp_skip ?_|refine wp_exit ?_
    refine rg (BT := []) (Vl := [Vpt a1 1 2, Vpt a1 1 3, VD N (qd (q)), Vi (((digs (qd (q)).natAbs).length : Int)), Vb (false)]) (B := [⟨1, none, none, 27, 4, Vq N (q), VT⟩]) (SL' := [(2, Vi (0)), (3, Vb (false)), (8, Vb (false))]) st1 ⟨ks, ks, ks, ?s3, ?s4, trivial⟩ ?_
    case s3 => refine kr fun _ ac Wd h hd => ?_; obtain ⟨v0, hv0, hV0⟩ := h.dp hd 6; obtain ⟨pp, nn, cc, rfl, hnn, -⟩ := hV0; exact ⟨_, run_len rfl rfl hv0, by rw [hnn]; rfl⟩
    case s4 =>
      refine kr fun _ ac Wd h hd => ?_
      obtain ⟨v0, hv0, hV0⟩ := h.dp hd 7
      have hV0' : v0 = .int .i64 (((digs (qd (q)).natAbs).length : Int)) := hV0
      exact ⟨_, run_gtri rfl (hv0.trans hV0') rfl, congrArg Value.bool (decide_eq_false (by omega))⟩
    intro a2 w2 st2
    clear st1
    repeat first|refine wp_seq ?_|refine wp_block ?_|refine wp_skip ?_|refine wp_exit ?_
    obtain ⟨vc, hc1, hc2⟩ := st2.slot (8, Vb (false)) (.tail _ (.tail _ (.head _)))
    refine wp_cond_false (hc1.trans hc2) ?_
    clear hc1 hc2
    repeat first|refine wp_seq ?_|refine wp_block ?_|refine wp_skip ?_|refine wp_exit ?_
    refine rg (BT := []) (Vl := [Vpt a2 1 0, Vz N ((q).num), VTup (Vi (smv ((q).num))) (Vb (smb ((q).num))), Vi (smv ((q).num)), Vb (smb ((q).num)), Vi (smv ((q).num)), Vb (smb ((q).num))]) (B := [⟨1, none, none, 27, 4, Vq N (q), VT⟩]) (SL' := [(8, Vb (false)), (2, Vi (smv ((q).num))), (3, Vb (smb ((q).num)))]) st2 ⟨ks, ks, ?s2, ks, ks, ks, ks, trivial⟩ ?_
    case s2 => refine kc fun _ ac Wd h hd => ?_; obtain ⟨v0, hv0, hV0⟩ := h.dp hd 10; exact ⟨#[v0], by simp [hv0], (cRSmall (show Vz N ((q).num) v0 Wd from hV0) (by omega)).mono fun e w h => h.tup⟩
    intro a3 w3 st3
    clear st2
    repeat first|refine wp_seq ?_|refine wp_block ?_|refine wp_skip ?_|refine wp_exit ?_
    obtain ⟨vr, r1, r4⟩ := st3.slot (2, Vi (smv ((q).num))) (.tail _ (.head _))
    obtain ⟨vq, q1, q4⟩ := st3.slot (3, Vb (smb ((q).num))) (.tail _ (.tail _ (.head _)))
    exact wp_ret (bodyPost_ret (results_tmp2 rfl _ _ r1 q1) st3.defers ⟨_, rfl, ⟨_, _, rfl, (by rw [show whv q = smv q.num from if_pos hd1]; exact r4), (by rw [show whb q = smb q.num from if_pos hd1]; exact q4)⟩, st3.k.below⟩)
  ·
    have hl0 : (digs (qd q).natAbs).length ≠ 0 := by
      intro e
      have h1 := len_eq0 (qd q)
      rw [e] at h1
      have h2 : decide (qd q = 0) = true := h1.symm
      exact hd1 ((qd0 q).1 (of_decide_eq_true h2))
    repeat first|refine wp_seq ?_|refine wp_block ?_|refine wp_skip ?_|refine wp_exit ?_
    refine rg (BT := []) (Vl := [Vpt a1 1 2, Vpt a1 1 3, VD N (qd (q)), Vi (((digs (qd (q)).natAbs).length : Int)), Vb (true)]) (B := [⟨1, none, none, 27, 4, Vq N (q), VT⟩]) (SL' := [(2, Vi (0)), (3, Vb (false)), (8, Vb (true))]) st1 ⟨ks, ks, ks, ?s3, ?s4, trivial⟩ ?_
    case s3 => refine kr fun _ ac Wd h hd => ?_; obtain ⟨v0, hv0, hV0⟩ := h.dp hd 6; obtain ⟨pp, nn, cc, rfl, hnn, -⟩ := hV0; exact ⟨_, run_len rfl rfl hv0, by rw [hnn]; rfl⟩
    case s4 =>
      refine kr fun _ ac Wd h hd => ?_
      obtain ⟨v0, hv0, hV0⟩ := h.dp hd 7
      have hV0' : v0 = .int .i64 (((digs (qd (q)).natAbs).length : Int)) := hV0
      exact ⟨_, run_gtri rfl (hv0.trans hV0') rfl, congrArg Value.bool (decide_eq_true (by omega))⟩
    intro a2 w2 st2
    clear st1
    repeat first|refine wp_seq ?_|refine wp_block ?_|refine wp_skip ?_|refine wp_exit ?_
    obtain ⟨vc, hc1, hc2⟩ := st2.slot (8, Vb (true)) (.tail _ (.tail _ (.head _)))
    refine wp_cond_true (hc1.trans hc2) ?_
    clear hc1 hc2
    repeat first|refine wp_seq ?_|refine wp_block ?_|refine wp_skip ?_|refine wp_exit ?_
    refine rg (BT := []) (Vl := [Vi (0), Vb (false)]) (B := [⟨1, none, none, 27, 4, Vq N (q), VT⟩]) (SL' := [(8, Vb (true)), (2, Vi (0)), (3, Vb (false))]) st2 ⟨ks, ks, trivial⟩ ?_
    intro a3 w3 st3
    clear st2
    repeat first|refine wp_seq ?_|refine wp_block ?_|refine wp_skip ?_|refine wp_exit ?_
    obtain ⟨vr, r1, r4⟩ := st3.slot (2, Vi (0)) (.tail _ (.head _))
    obtain ⟨vq, q1, q4⟩ := st3.slot (3, Vb (false)) (.tail _ (.tail _ (.head _)))
    exact wp_ret (bodyPost_ret (results_tmp2 rfl _ _ r1 q1) st3.defers ⟨_, rfl, ⟨_, _, rfl, (by rw [show whv q = 0 from if_neg hd1]; exact r4), (by rw [show whb q = false from if_neg hd1]; exact q4)⟩, st3.k.below⟩)
set_option maxRecDepth 100000 in
set_option maxHeartbeats 1600000 in
theorem cR4Floor {w : World} {N : Nat} {q : Rat} {v0 : Value} (h0 : Vq N (q) v0 w) (h1 : 3 ≤ N) (hN : N ≤ 100000) : Calls Tryz.prog 46 #[v0] w (RV (Vz (N + 1) (dq q.num (q.den : Int))) w) := by
  go_enter Tryz.func46, Tryz.ntmps46
  have st0 : St w.heap.size w 14 [] [(0, Vq N (q))] _ w := St.begin (a := ⟨#[v0, undef, undef, undef, undef, undef, undef, undef, undef, undef, undef, undef, undef, undef], []⟩) rfl rfl (List.forall_mem_cons.2 ⟨⟨_, rfl, h0⟩, (fun _ h => absurd h (by simp))⟩)
  generalize (⟨#[v0, undef, undef, undef, undef, undef, undef, undef, undef, undef, undef, undef, undef, undef], []⟩ : Act) = a0 at st0 ⊢
  repeat first|refine wp_seq ?_|refine wp_block ?_|refine wp_skip ?_|refine wp_exit ?_
  refine rg (BT := [(24, 2, 0)]) (Vl := [VT, VT]) (B := [⟨1, some 0, some 0, 27, 4, Vq N (q), VT⟩, ⟨2, some 1, none, 24, 2, VT, VT⟩]) (SL' := []) st0 ⟨ks, ks, trivial⟩ ?_
  intro a1 w1 st1
  clear st0
  repeat first|refine wp_seq ?_|refine wp_block ?_|refine wp_skip ?_|refine wp_exit ?_
  refine rg (BT := [(24, 2, 0)]) (Vl := [Vpt a1 1 0, Vz N ((q).num), Vq N (q), Vz N (((q).den : Int)), VTup (Vz (N + 1) (dq ((q).num) (((q).den : Int)))) (Vz N (dr ((q).num) (((q).den : Int)))), VTup (Vz (N + 1) (dq ((q).num) (((q).den : Int)))) (Vz N (dr ((q).num) (((q).den : Int)))), Vz (N + 1) (dq ((q).num) (((q).den : Int))), Vz N (dr ((q).num) (((q).den : Int))), VT, VT, VT, VT]) (B := [⟨1, none, none, 27, 4, Vq N (q), VT⟩, ⟨2, none, none, 24, 2, VT, VT⟩, ⟨3, some 8, some 10, 24, 2, Vz (N + 1) (dq ((q).num) (((q).den : Int))), VT⟩, ⟨4, some 9, some 11, 24, 2, Vz N (dr ((q).num) (((q).den : Int))), VT⟩]) (SL' := []) st1 ⟨ks, ks, ks, ?s3, ?s4, ks, ks, ks, ks, ks, ks, ks, trivial⟩ ?_
  case s3 => refine kc fun _ ac Wd h hd => ?_; obtain ⟨v0, hv0, hV0⟩ := h.dp hd 8; exact ⟨#[v0], by simp [hv0], cR4Den (show Vq N (q) v0 Wd from hV0) (by omega)⟩
  case s4 =>
    refine kc fun _ ac Wd h hd => ?_
    obtain ⟨v0, hv0, hV0⟩ := h.dp hd 7
    obtain ⟨v1, hv1, hV1⟩ := h.dp hd 9
    exact ⟨#[v0, v1], by simp [hv0, hv1], (cRDiv (show Vz N ((q).num) v0 Wd from hV0) (show Vz N (((q).den : Int)) v1 Wd from hV1) (by omega) (by omega) (by omega) (by omega))⟩
  intro a2 w2 st2
  clear st1
  repeat first|refine wp_seq ?_|refine wp_block ?_|refine wp_skip ?_|refine wp_exit ?_
  refine rg (BT := [(24, 2, 0)]) (Vl := [Vz (N + 1) (dq ((q).num) (((q).den : Int))), VT]) (B := [⟨1, none, none, 27, 4, Vq N (q), VT⟩, ⟨2, none, some 1, 24, 2, Vz (N + 1) (dq ((q).num) (((q).den : Int))), VT⟩, ⟨3, none, none, 24, 2, Vz (N + 1) (dq ((q).num) (((q).den : Int))), VT⟩, ⟨4, none, none, 24, 2, Vz N (dr ((q).num) (((q).den : Int))), VT⟩]) (SL' := []) st2 ⟨ks, ks, trivial⟩ ?_
  intro a3 w3 st3
  clear st2
  repeat first|refine wp_seq ?_|refine wp_block ?_|refine wp_skip ?_|refine wp_exit ?_
  obtain ⟨g, cs, r1, r2, r3, r4, r5⟩ := st3.res ⟨2, none, none, 24, 2, Vz (N + 1) (dq ((q).num) (((q).den : Int))), VT⟩ (.tail _ (.head _)) rfl rfl
  exact wp_ret (bodyPost_ret (results_cell_row rfl _ _ g 24 cs (0, 0) _ r1 r2 Tryz.underlying24 rfl (by rw [r3]; exact size_Int)) st3.defers ⟨_, rfl, r4, r5⟩)
set_option maxRecDepth 100000 in
set_option maxHeartbeats 1600000 in
theorem cR4Ceil {w : World} {N : Nat} {q : Rat} {v0 : Value} (h0 : Vq N (q) v0 w) (h1 : 3 ≤ N) (hN : N ≤ 100000) : Calls Tryz.prog 48 #[v0] w (RV (Vz (N + 1) (-(dq (-q).num ((-q).den : Int)))) w) := by
  go_enter Tryz.func48, Tryz.ntmps48
  have st0 : St w.heap.size w 7 [] [(0, Vq N (q))] _ w := St.begin (a := ⟨#[v0, undef, undef, undef, undef, undef, undef], []⟩) rfl rfl (List.forall_mem_cons.2 ⟨⟨_, rfl, h0⟩, (fun _ h => absurd h (by simp))⟩)
  generalize (⟨#[v0, undef, undef, undef, undef, undef, undef], []⟩ : Act) = a0 at st0 ⊢
  repeat first|refine wp_seq ?_|refine wp_block ?_|refine wp_skip ?_|refine wp_exit ?_
  refine rg (BT := [(24, 2, 0)]) (Vl := [VT, VT]) (B := [⟨1, some 0, some 0, 27, 4, Vq N (q), VT⟩, ⟨2, some 1, none, 24, 2, VT, VT⟩]) (SL' := []) st0 ⟨ks, ks, trivial⟩ ?_
  intro a1 w1 st1
  clear st0
  repeat first|refine wp_seq ?_|refine wp_block ?_|refine wp_skip ?_|refine wp_exit ?_
  refine rg (BT := [(24, 2, 0)]) (Vl := [Vq N (q), Vq N (-(q)), Vz (N + 1) (dq (-(q)).num ((-(q)).den : Int)), Vz (N + 1) (-(dq (-(q)).num ((-(q)).den : Int))), VT]) (B := [⟨1, none, none, 27, 4, Vq N (q), VT⟩, ⟨2, none, some 4, 24, 2, Vz (N + 1) (-(dq (-(q)).num ((-(q)).den : Int))), VT⟩]) (SL' := []) st1 ⟨ks, ?s1, ?s2, ?s3, ks, trivial⟩ ?_
  case s1 => refine kc fun _ ac Wd h hd => ?_; obtain ⟨v0, hv0, hV0⟩ := h.dp hd 3; exact ⟨#[v0], by simp [hv0], cR4Neg (show Vq N (q) v0 Wd from hV0) (by omega)⟩
  case s2 => refine kc fun _ ac Wd h hd => ?_; obtain ⟨v0, hv0, hV0⟩ := h.dp hd 4; exact ⟨#[v0], by simp [hv0], cR4Floor (show Vq N (-(q)) v0 Wd from hV0) (by omega) (by omega)⟩
  case s3 => refine kc fun _ ac Wd h hd => ?_; obtain ⟨v0, hv0, hV0⟩ := h.dp hd 5; exact ⟨#[v0], by simp [hv0], cRNeg (show Vz (N + 1) (dq (-(q)).num ((-(q)).den : Int)) v0 Wd from hV0)⟩
  intro a2 w2 st2
  clear st1
  repeat first|refine wp_seq ?_|refine wp_block ?_|refine wp_skip ?_|refine wp_exit ?_
  obtain ⟨g, cs, r1, r2, r3, r4, r5⟩ := st2.res ⟨2, none, none, 24, 2, Vz (N + 1) (-(dq (-(q)).num ((-(q)).den : Int))), VT⟩ (.tail _ (.head _)) rfl rfl
  exact wp_ret (bodyPost_ret (results_cell_row rfl _ _ g 24 cs (0, 0) _ r1 r2 Tryz.underlying24 rfl (by rw [r3]; exact size_Int)) st2.defers ⟨_, rfl, r4, r5⟩)
end Go.Proofs.YtleijkgdpmfabaaGreatDoor
