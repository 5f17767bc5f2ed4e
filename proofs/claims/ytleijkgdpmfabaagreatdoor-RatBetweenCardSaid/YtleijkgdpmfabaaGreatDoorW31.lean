/- Contracts of the package integer and its reference: Floor, Ceil, Text of package rat; Parse of what is no text. -/
import Derived.Test.YtleijkgdpmfabaaGreatDoorW30
import Derived.Test.YtleijkgdpmfabaaGreatDoorW28
set_option linter.unusedVariables false
namespace Go.Proofs.YtleijkgdpmfabaaGreatDoor
open Go.RowKit
def qtx (q : Rat) : List UInt8 := if q.den = 1 then txt q.num else txt q.num ++ [47] ++ txt (qd q)
theorem Vq_parts {N : Nat} {q : Rat} {v : Value} {w : World} (h : Vq N q v w) : (∃ u, Vz N q.num u w) ∧ ∃ u, Vz N (qd q) u w := by
  obtain ⟨x, y, -, -, -, h1, h2⟩ := h
  exact ⟨⟨_, h1⟩, ⟨_, h2⟩⟩
def Vq0 (N : Nat) (x y : Int) : VP := VP2 2 2 (Vz N x) (Vz N y)
theorem Vq0_of {x y : Int} {v : Value} {w : World} (h : VP2 2 2 (Vz 1 x) (Vz 1 y) v w) : Vq0 3 x y v w := by
  obtain ⟨a, b, h1, h2, h3, h4, h5⟩ := h
  exact ⟨a, b, h1, h2, h3, Vz_le h4 (by omega), Vz_le h5 (by omega)⟩
set_option maxRecDepth 100000 in
set_option maxHeartbeats 1600000 in
theorem cQFloor {w : World} {N : Nat} {q : Rat} {v0 : Value} (h0 : Vq N (q) v0 w) (h1 : 1 ≤ N) (hN : N ≤ 100000) : Calls Tryz.prog 45 #[v0] w (RV (Vz N (dq q.num (q.den : Int))) w) := by
  go_enter Tryz.func45, Tryz.ntmps45
  have st0 : St w.heap.size w 14 [] [(0, Vq N (q))] _ w := St.begin (a := ⟨#[v0, undef, undef, undef, undef, undef, undef, undef, undef, undef, undef, undef, undef, undef], []⟩) rfl rfl (List.forall_mem_cons.2 ⟨⟨_, rfl, h0⟩, (fun _ h => absurd h (by simp))⟩)
  generalize (⟨#[v0, undef, undef, undef, undef, undef, undef, undef, undef, undef, undef, undef, undef, undef], []⟩ : Act) = a0 at st0 ⊢
  repeat first|refine wp_seq ?_|refine wp_block ?_|refine wp_skip ?_|refine wp_exit ?_
  refine rg (BT := [(24, 2, 0)]) (Vl := [VT, VT]) (B := [⟨1, some 0, some 0, 27, 4, Vq N (q), VT⟩, ⟨2, some 1, none, 24, 2, VT, VT⟩]) (SL' := []) st0 ⟨ks, ks, trivial⟩ ?_
  intro a1 w1 st1
  clear st0
  repeat first|refine wp_seq ?_|refine wp_block ?_|refine wp_skip ?_|refine wp_exit ?_
  refine rg (BT := [(24, 2, 0)]) (Vl := [Vpt a1 1 0, Vz N ((q).num), Vq N (q), Vz N (((q).den : Int)), VTup (Vz N (dq ((q).num) (((q).den : Int)))) (Vz N (dr ((q).num) (((q).den : Int)))), VTup (Vz N (dq ((q).num) (((q).den : Int)))) (Vz N (dr ((q).num) (((q).den : Int)))), Vz N (dq ((q).num) (((q).den : Int))), Vz N (dr ((q).num) (((q).den : Int))), VT, VT, VT, VT]) (B := [⟨1, none, none, 27, 4, Vq N (q), VT⟩, ⟨2, none, none, 24, 2, VT, VT⟩, ⟨3, some 8, some 10, 24, 2, Vz N (dq ((q).num) (((q).den : Int))), VT⟩, ⟨4, some 9, some 11, 24, 2, Vz N (dr ((q).num) (((q).den : Int))), VT⟩]) (SL' := []) st1 ⟨ks, ks, ks, ?s3, ?s4, ks, ks, ks, ks, ks, ks, ks, trivial⟩ ?_
  case s3 => refine kc fun _ ac Wd h hd => ?_; obtain ⟨v0, hv0, hV0⟩ := h.dp hd 8; exact ⟨#[v0], by simp [hv0], cDen (show Vq N (q) v0 Wd from hV0) (by omega)⟩
  case s4 =>
    refine kc fun _ ac Wd h hd => ?_
    obtain ⟨v0, hv0, hV0⟩ := h.dp hd 7
    obtain ⟨v1, hv1, hV1⟩ := h.dp hd 9
    exact ⟨#[v0, v1], by simp [hv0, hv1], (cDiv (show Vz N ((q).num) v0 Wd from hV0) (show Vz N (((q).den : Int)) v1 Wd from hV1) (by omega) (by omega)).mono fun e w' h => h.tup⟩
  intro a2 w2 st2
  clear st1
  repeat first|refine wp_seq ?_|refine wp_block ?_|refine wp_skip ?_|refine wp_exit ?_
  refine rg (BT := [(24, 2, 0)]) (Vl := [Vz N (dq ((q).num) (((q).den : Int))), VT]) (B := [⟨1, none, none, 27, 4, Vq N (q), VT⟩, ⟨2, none, some 1, 24, 2, Vz N (dq ((q).num) (((q).den : Int))), VT⟩, ⟨3, none, none, 24, 2, Vz N (dq ((q).num) (((q).den : Int))), VT⟩, ⟨4, none, none, 24, 2, Vz N (dr ((q).num) (((q).den : Int))), VT⟩]) (SL' := []) st2 ⟨ks, ks, trivial⟩ ?_
  intro a3 w3 st3
  clear st2
  repeat first|refine wp_seq ?_|refine wp_block ?_|refine wp_skip ?_|refine wp_exit ?_
  obtain ⟨g, cs, r1, r2, r3, r4, r5⟩ := st3.res ⟨2, none, none, 24, 2, Vz N (dq ((q).num) (((q).den : Int))), VT⟩ (.tail _ (.head _)) rfl rfl
  exact wp_ret (bodyPost_ret (results_cell_row rfl _ _ g 24 cs (0, 0) _ r1 r2 Tryz.underlying24 rfl (by rw [r3]; exact size_Int)) st3.defers ⟨_, rfl, r4, r5⟩)
set_option maxRecDepth 100000 in
set_option maxHeartbeats 1600000 in
theorem cQCeil {w : World} {N : Nat} {q : Rat} {v0 : Value} (h0 : Vq N (q) v0 w) (h1 : 1 ≤ N) (hN : N ≤ 100000) : Calls Tryz.prog 47 #[v0] w (RV (Vz N (-(dq (-q).num ((-q).den : Int)))) w) := by
  go_enter Tryz.func47, Tryz.ntmps47
  have st0 : St w.heap.size w 7 [] [(0, Vq N (q))] _ w := St.begin (a := ⟨#[v0, undef, undef, undef, undef, undef, undef], []⟩) rfl rfl (List.forall_mem_cons.2 ⟨⟨_, rfl, h0⟩, (fun _ h => absurd h (by simp))⟩)
  generalize (⟨#[v0, undef, undef, undef, undef, undef, undef], []⟩ : Act) = a0 at st0 ⊢
  repeat first|refine wp_seq ?_|refine wp_block ?_|refine wp_skip ?_|refine wp_exit ?_
  refine rg (BT := [(24, 2, 0)]) (Vl := [VT, VT]) (B := [⟨1, some 0, some 0, 27, 4, Vq N (q), VT⟩, ⟨2, some 1, none, 24, 2, VT, VT⟩]) (SL' := []) st0 ⟨ks, ks, trivial⟩ ?_
  intro a1 w1 st1
  clear st0
  repeat first|refine wp_seq ?_|refine wp_block ?_|refine wp_skip ?_|refine wp_exit ?_
  refine rg (BT := [(24, 2, 0)]) (Vl := [Vq N (q), Vq N (-(q)), Vz N (dq (-(q)).num ((-(q)).den : Int)), Vz N (-(dq (-(q)).num ((-(q)).den : Int))), VT]) (B := [⟨1, none, none, 27, 4, Vq N (q), VT⟩, ⟨2, none, some 4, 24, 2, Vz N (-(dq (-(q)).num ((-(q)).den : Int))), VT⟩]) (SL' := []) st1 ⟨ks, ?s1, ?s2, ?s3, ks, trivial⟩ ?_
  case s1 => refine kc fun _ ac Wd h hd => ?_; obtain ⟨v0, hv0, hV0⟩ := h.dp hd 3; exact ⟨#[v0], by simp [hv0], cQNeg (show Vq N (q) v0 Wd from hV0) (by omega)⟩
  case s2 => refine kc fun _ ac Wd h hd => ?_; obtain ⟨v0, hv0, hV0⟩ := h.dp hd 4; exact ⟨#[v0], by simp [hv0], cQFloor (show Vq N (-(q)) v0 Wd from hV0) (by omega) (by omega)⟩
  case s3 => refine kc fun _ ac Wd h hd => ?_; obtain ⟨v0, hv0, hV0⟩ := h.dp hd 5; exact ⟨#[v0], by simp [hv0], cNeg (show Vz N (dq (-(q)).num ((-(q)).den : Int)) v0 Wd from hV0) (by omega)⟩
  intro a2 w2 st2
  clear st1
  repeat first|refine wp_seq ?_|refine wp_block ?_|refine wp_skip ?_|refine wp_exit ?_
  obtain ⟨g, cs, r1, r2, r3, r4, r5⟩ := st2.res ⟨2, none, none, 24, 2, Vz N (-(dq (-(q)).num ((-(q)).den : Int))), VT⟩ (.tail _ (.head _)) rfl rfl
  exact wp_ret (bodyPost_ret (results_cell_row rfl _ _ g 24 cs (0, 0) _ r1 r2 Tryz.underlying24 rfl (by rw [r3]; exact size_Int)) st2.defers ⟨_, rfl, r4, r5⟩)
set_option maxRecDepth 100000 in
set_option maxHeartbeats 1600000 in
theorem cQText {w : World} {N : Nat} {q : Rat} {v0 : Value} (h0 : Vq N (q) v0 w) (h1 : 1 ≤ N) (hN : N ≤ 100000) (hT : Tb w) : Calls Tryz.prog 54 #[v0] w (RV (Vs (qtx q)) w) := by
  go_enter Tryz.func54, Tryz.ntmps54
  have st0 : St w.heap.size w 19 [] [(0, Vq N (q))] _ w := St.begin (a := ⟨#[v0, undef, undef, undef, undef, undef, undef, undef, undef, undef, undef, undef, undef, undef, undef, undef, undef, undef, undef], []⟩) rfl rfl (List.forall_mem_cons.2 ⟨⟨_, rfl, h0⟩, (fun _ h => absurd h (by simp))⟩)
  generalize (⟨#[v0, undef, undef, undef, undef, undef, undef, undef, undef, undef, undef, undef, undef, undef, undef, undef, undef, undef, undef], []⟩ : Act) = a0 at st0 ⊢
  have l1 := txt_len q.num
  have l2 := txt_len (qd q)
  have l3 : (digs q.num.natAbs).length ≤ N := by obtain ⟨⟨u, hu⟩, -⟩ := Vq_parts h0; exact Vz_len hu
  have l4 : (digs (qd q).natAbs).length ≤ N := by obtain ⟨-, ⟨u, hu⟩⟩ := Vq_parts h0; exact Vz_len hu
  repeat first|refine wp_seq ?_|refine wp_block ?_|refine wp_skip ?_|refine wp_exit ?_
  refine rg (BT := []) (Vl := [VT, Vs ([])]) (B := [⟨1, some 0, some 0, 27, 4, Vq N (q), VT⟩]) (SL' := [(2, Vs ([]))]) st0 ⟨ks, ks, trivial⟩ ?_
  intro a1 w1 st1
  clear st0
  repeat first|refine wp_seq ?_|refine wp_block ?_|refine wp_skip ?_|refine wp_exit ?_
  refine rg (BT := []) (Vl := [Vpt a1 1 2, Vpt a1 1 3, VD N (qd (q)), Vi (((digs (qd (q)).natAbs).length : Int)), Vb (decide (q.den = 1))]) (B := [⟨1, none, none, 27, 4, Vq N (q), VT⟩]) (SL' := [(2, Vs ([])), (7, Vb (decide (q.den = 1)))]) st1 ⟨ks, ks, ks, ?s3, ?s4, trivial⟩ ?_
  case s3 => refine kr fun _ ac Wd h hd => ?_; obtain ⟨v0, hv0, hV0⟩ := h.dp hd 5; obtain ⟨pp, nn, cc, rfl, hnn, -⟩ := hV0; exact ⟨_, run_len rfl rfl hv0, by rw [hnn]; rfl⟩
  case s4 =>
    refine kr fun _ ac Wd h hd => ?_
    obtain ⟨v0, hv0, hV0⟩ := h.dp hd 6
    have hV0' : v0 = .int .i64 (((digs (qd (q)).natAbs).length : Int)) := hV0
    exact ⟨_, run_eqi rfl (hv0.trans hV0') rfl, congrArg Value.bool (by rw [len_eq0]; exact decide_eq_decide.2 (qd0 q))⟩
  intro a2 w2 st2
  clear st1
  repeat first|refine wp_seq ?_|refine wp_block ?_|refine wp_skip ?_|refine wp_exit ?_
  obtain ⟨vc, hc1, hc2⟩ := st2.slot (7, Vb (decide (q.den = 1))) (.tail _ (.head _))
  by_cases hcc : q.den = 1
  · refine wp_cond_true (hc1.trans (hc2.trans (congrArg Value.bool (decide_eq_true hcc)))) ?_
    clear hc1 hc2
    repeat first|refine wp_seq ?_|refine wp_block ?_|refine wp_skip ?_|refine wp_exit ?_
    refine rg (BT := []) (Vl := [Vpt a2 1 0, Vz N ((q).num), Vs (txt ((q).num)), Vs (txt ((q).num))]) (B := [⟨1, none, none, 27, 4, Vq N (q), VT⟩]) (SL' := [(7, Vb (decide (q.den = 1))), (2, Vs (txt ((q).num)))]) st2 ⟨ks, ks, ?s2, ks, trivial⟩ ?_
    case s2 => refine kc fun _ ac Wd h hd => ?_; obtain ⟨v0, hv0, hV0⟩ := h.dp hd 9; exact ⟨#[v0], by simp [hv0], cTextV (show Vz N ((q).num) v0 Wd from hV0) (by omega) (hT.later h.k.below)⟩
    intro a3 w3 st3
    clear st2
    repeat first|refine wp_seq ?_|refine wp_block ?_|refine wp_skip ?_|refine wp_exit ?_
    obtain ⟨vr, r1, r4⟩ := st3.slot (2, Vs (txt ((q).num))) (.tail _ (.head _))
    exact wp_ret (bodyPost_ret (results_tmp rfl _ _ _) st3.defers ⟨_, congrArg Ending.returned (show _ = vr from r1), (by rw [show qtx q = txt q.num from if_pos hcc]; exact r4), st3.k.below⟩)
  · refine wp_cond_false (hc1.trans (hc2.trans (congrArg Value.bool (decide_eq_false hcc)))) ?_
    clear hc1 hc2
    repeat first|refine wp_seq ?_|refine wp_block ?_|refine wp_skip ?_|refine wp_exit ?_
    refine rg (BT := []) (Vl := [Vpt a2 1 0, Vz N ((q).num), Vs (txt ((q).num)), Vs ((txt ((q).num)) ++ ([47])), Vpt a2 1 2, Vz N (qd (q)), Vs (txt (qd (q))), Vs (((txt ((q).num)) ++ ([47])) ++ (txt (qd (q)))), Vs (((txt ((q).num)) ++ ([47])) ++ (txt (qd (q))))]) (B := [⟨1, none, none, 27, 4, Vq N (q), VT⟩]) (SL' := [(7, Vb (decide (q.den = 1))), (2, Vs (((txt ((q).num)) ++ ([47])) ++ (txt (qd (q)))))]) st2 ⟨ks, ks, ?s2, ?s3, ks, ks, ?s6, ?s7, ks, trivial⟩ ?_
    case s2 => refine kc fun _ ac Wd h hd => ?_; obtain ⟨v0, hv0, hV0⟩ := h.dp hd 12; exact ⟨#[v0], by simp [hv0], cTextV (show Vz N ((q).num) v0 Wd from hV0) (by omega) (hT.later h.k.below)⟩
    case s3 => refine kr fun _ ac Wd h hd => ?_; obtain ⟨v0, hv0, hV0⟩ := h.dp hd 13; exact ⟨_, run_addsV rfl (hv0.trans hV0) (show _ = Value.string (bs [47]) from rfl) (by rw [List.length_singleton]; omega), rfl⟩
    case s6 => refine kc fun _ ac Wd h hd => ?_; obtain ⟨v0, hv0, hV0⟩ := h.dp hd 16; exact ⟨#[v0], by simp [hv0], cTextV (show Vz N (qd (q)) v0 Wd from hV0) (by omega) (hT.later h.k.below)⟩
    case s7 =>
      refine kr fun _ ac Wd h hd => ?_
      obtain ⟨v0, hv0, hV0⟩ := h.dp hd 14
      obtain ⟨v1, hv1, hV1⟩ := h.dp hd 17
      exact ⟨_, run_addsV rfl (hv0.trans hV0) (hv1.trans hV1) (by rw [List.length_append, List.length_singleton]; omega), rfl⟩
    intro a3 w3 st3
    clear st2
    repeat first|refine wp_seq ?_|refine wp_block ?_|refine wp_skip ?_|refine wp_exit ?_
    obtain ⟨vr, r1, r4⟩ := st3.slot (2, Vs (((txt ((q).num)) ++ ([47])) ++ (txt (qd (q))))) (.tail _ (.head _))
    exact wp_ret (bodyPost_ret (results_tmp rfl _ _ _) st3.defers ⟨_, congrArg Ending.returned (show _ = vr from r1), (by rw [show qtx q = txt q.num ++ [47] ++ txt (qd q) from if_neg hcc]; exact r4), st3.k.below⟩)
set_option maxRecDepth 100000 in
set_option maxHeartbeats 1600000 in
theorem cQParseBad {w : World} {S A B : List UInt8} {x y : Int} {v0 : Value} (h0 : Vs (S) v0 w) (hS : S.length ≤ 65536) (hcut : ∀ W v, Vs S v W → Calls Tryz.prog 100 #[v, .string (bs [47])] W (RV (VTup3 (Vs A) (Vs B) (Vb true)) W)) (hA : ∀ W v, Vs A v W → Calls Tryz.prog 101 #[v] W (RV (VTup (Vz 1 x) (Vi 0)) W)) (hB : ∀ W v, Vs B v W → Calls Tryz.prog 101 #[v] W (RV (VTup (Vz 1 y) (Vi 0)) W)) (hy0 : 0 < ((digs y.natAbs).length : Int)) (hv : ¬ (y = 0 ∨ (1 < y ∧ Int.gcd x y = 1))) : Calls Tryz.prog 55 #[v0] w (RV (VTup (Vq 3 0) (Vi 2)) w) := by
  go_enter Tryz.func55, Tryz.ntmps55
  have st0 : St w.heap.size w 56 [] [(0, Vs (S))] _ w := St.begin (a := ⟨#[v0, undef, undef, undef, undef, undef, undef, undef, undef, undef, undef, undef, undef, undef, undef, undef, undef, undef, undef, undef, undef, undef, undef, undef, undef, undef, undef, undef, undef, undef, undef, undef, undef, undef, undef, undef, undef, undef, undef, undef, undef, undef, undef, undef, undef, undef, undef, undef, undef, undef, undef, undef, undef, undef, undef, undef], []⟩) rfl rfl (List.forall_mem_cons.2 ⟨⟨_, rfl, h0⟩, (fun _ h => absurd h (by simp))⟩)
  generalize (⟨#[v0, undef, undef, undef, undef, undef, undef, undef, undef, undef, undef, undef, undef, undef, undef, undef, undef, undef, undef, undef, undef, undef, undef, undef, undef, undef, undef, undef, undef, undef, undef, undef, undef, undef, undef, undef, undef, undef, undef, undef, undef, undef, undef, undef, undef, undef, undef, undef, undef, undef, undef, undef, undef, undef, undef, undef], []⟩ : Act) = a0 at st0 ⊢
  repeat first|refine wp_seq ?_|refine wp_block ?_|refine wp_skip ?_|refine wp_exit ?_
  refine rg (BT := [(27, 4, 0), (24, 2, 0)]) (Vl := [VT, Vi (0)]) (B := [⟨2, some 0, none, 27, 4, VT, VT⟩]) (SL' := [(0, Vs (S)), (3, Vi (0))]) st0 ⟨ks, ks, trivial⟩ ?_
  intro a1 w1 st1
  clear st0
  repeat first|refine wp_seq ?_|refine wp_block ?_|refine wp_skip ?_|refine wp_exit ?_
  refine rg (BT := [(27, 4, 0), (24, 2, 0)]) (Vl := [Vs (S), Vi (((S).length : Int)), Vb (false)]) (B := [⟨2, none, none, 27, 4, VT, VT⟩]) (SL' := [(0, Vs (S)), (3, Vi (0)), (13, Vb (false))]) st1 ⟨ks, ?s1, ?s2, trivial⟩ ?_
  case s1 => refine kr fun _ ac Wd h hd => ?_; obtain ⟨v0, hv0, hV0⟩ := h.dp hd 11; exact ⟨_, run_lenV rfl rfl (hv0.trans hV0), rfl⟩
  case s2 =>
    refine kr fun _ ac Wd h hd => ?_
    obtain ⟨v0, hv0, hV0⟩ := h.dp hd 12
    have hV0' : v0 = .int .i64 (((S).length : Int)) := hV0
    exact ⟨_, run_gtri rfl (hv0.trans hV0') rfl, congrArg Value.bool (decide_eq_false (by omega))⟩
  intro a2 w2 st2
  clear st1
  repeat first|refine wp_seq ?_|refine wp_block ?_|refine wp_skip ?_|refine wp_exit ?_
  obtain ⟨vc, hc1, hc2⟩ := st2.slot (13, Vb (false)) (.tail _ (.tail _ (.head _)))
  refine wp_cond_false (hc1.trans hc2) ?_
  clear hc1 hc2
  repeat first|refine wp_seq ?_|refine wp_block ?_|refine wp_skip ?_|refine wp_exit ?_
  refine rg (BT := [(27, 4, 0), (24, 2, 0)]) (Vl := [Vs (S), VTup3 (Vs (A)) (Vs (B)) (Vb (true)), VTup3 (Vs (A)) (Vs (B)) (Vb (true)), Vs (A), Vs (B), Vb (true), Vs (A), Vs (B), Vb (true)]) (B := [⟨2, none, none, 27, 4, VT, VT⟩]) (SL' := [(0, Vs (S)), (3, Vi (0)), (13, Vb (false)), (4, Vs (A)), (5, Vs (B)), (6, Vb (true))]) st2 ⟨ks, ?s1, ks, ?s3, ?s4, ?s5, ks, ks, ks, trivial⟩ ?_
  case s1 => refine kc fun _ ac Wd h hd => ?_; obtain ⟨v0, hv0, hV0⟩ := h.dp hd 16; exact ⟨#[v0, .string (bs [47])], by simp [hv0, eval_const, bs], hcut _ _ (show Vs (S) v0 Wd from hV0)⟩
  case s3 => refine kr fun _ ac Wd h hd => ?_; obtain ⟨v0, hv0, hV0⟩ := h.dp hd 15; obtain ⟨tx, ty, tz, rfl, hx, hy, hz⟩ := hV0; exact ⟨_, run_x0 rfl hv0, hx⟩
  case s4 => refine kr fun _ ac Wd h hd => ?_; obtain ⟨v0, hv0, hV0⟩ := h.dp hd 15; obtain ⟨tx, ty, tz, rfl, hx, hy, hz⟩ := hV0; exact ⟨_, run_x1 rfl hv0, hy⟩
  case s5 => refine kr fun _ ac Wd h hd => ?_; obtain ⟨v0, hv0, hV0⟩ := h.dp hd 15; obtain ⟨tx, ty, tz, rfl, hx, hy, hz⟩ := hV0; exact ⟨_, run_x2 rfl hv0, hz⟩
  intro a3 w3 st3
  clear st2
  repeat first|refine wp_seq ?_|refine wp_block ?_|refine wp_skip ?_|refine wp_exit ?_
  refine rg (BT := [(27, 4, 0), (24, 2, 0)]) (Vl := [Vs (A), VTup (Vz 1 (x)) (Vi (0)), VTup (Vz 1 (x)) (Vi (0)), Vz 1 (x), Vi (0), VT, VT, Vi (0)]) (B := [⟨2, none, none, 27, 4, VT, VT⟩, ⟨7, some 5, some 6, 24, 2, Vz 1 (x), VT⟩]) (SL' := [(0, Vs (S)), (3, Vi (0)), (13, Vb (false)), (4, Vs (A)), (5, Vs (B)), (6, Vb (true)), (8, Vi (0))]) st3 ⟨ks, ?s1, ks, ks, ks, ks, ks, ks, trivial⟩ ?_
  case s1 => refine kc fun _ ac Wd h hd => ?_; obtain ⟨v0, hv0, hV0⟩ := h.dp hd 22; exact ⟨#[v0], by simp [hv0], hA _ _ (show Vs (A) v0 Wd from hV0)⟩
  intro a4 w4 st4
  clear st3
  repeat first|refine wp_seq ?_|refine wp_block ?_|refine wp_skip ?_|refine wp_exit ?_
  refine rg (BT := [(27, 4, 0), (24, 2, 0)]) (Vl := [Vi (0), Vb (false)]) (B := [⟨2, none, none, 27, 4, VT, VT⟩, ⟨7, none, none, 24, 2, Vz 1 (x), VT⟩]) (SL' := [(0, Vs (S)), (3, Vi (0)), (13, Vb (false)), (4, Vs (A)), (5, Vs (B)), (6, Vb (true)), (8, Vi (0)), (27, Vb (false))]) st4 ⟨ks, ?s1, trivial⟩ ?_
  case s1 => refine kr fun _ ac Wd h hd => ?_; obtain ⟨v0, hv0, hV0⟩ := h.dp hd 26; have hV0' : v0 = .int .i64 (0) := hV0; exact ⟨_, run_neqe rfl (hv0.trans hV0') rfl, congrArg Value.bool (rfl)⟩
  intro a5 w5 st5
  clear st4
  repeat first|refine wp_seq ?_|refine wp_block ?_|refine wp_skip ?_|refine wp_exit ?_
  obtain ⟨vc, hc1, hc2⟩ := st5.slot (27, Vb (false)) (.tail _ (.tail _ (.tail _ (.tail _ (.tail _ (.tail _ (.tail _ (.head _))))))))
  refine wp_cond_false (hc1.trans hc2) ?_
  clear hc1 hc2
  repeat first|refine wp_seq ?_|refine wp_block ?_|refine wp_skip ?_|refine wp_exit ?_
  refine rg (BT := [(27, 4, 0), (24, 2, 0)]) (Vl := [Vb (true), Vb (false)]) (B := [⟨2, none, none, 27, 4, VT, VT⟩, ⟨7, none, none, 24, 2, Vz 1 (x), VT⟩]) (SL' := [(0, Vs (S)), (3, Vi (0)), (13, Vb (false)), (4, Vs (A)), (5, Vs (B)), (6, Vb (true)), (8, Vi (0)), (27, Vb (false)), (31, Vb (false))]) st5 ⟨ks, ks, trivial⟩ ?_
  intro a6 w6 st6
  clear st5
  repeat first|refine wp_seq ?_|refine wp_block ?_|refine wp_skip ?_|refine wp_exit ?_
  obtain ⟨vc, hc1, hc2⟩ := st6.slot (31, Vb (false)) (.tail _ (.tail _ (.tail _ (.tail _ (.tail _ (.tail _ (.tail _ (.tail _ (.head _)))))))))
  refine wp_cond_false (hc1.trans hc2) ?_
  clear hc1 hc2
  repeat first|refine wp_seq ?_|refine wp_block ?_|refine wp_skip ?_|refine wp_exit ?_
  refine rg (BT := [(27, 4, 0), (24, 2, 0)]) (Vl := [Vs (B), VTup (Vz 1 (y)) (Vi (0)), VTup (Vz 1 (y)) (Vi (0)), Vz 1 (y), Vi (0), VT, VT, Vi (0)]) (B := [⟨2, none, none, 27, 4, VT, VT⟩, ⟨7, none, none, 24, 2, Vz 1 (x), VT⟩, ⟨9, some 5, some 6, 24, 2, Vz 1 (y), VT⟩]) (SL' := [(0, Vs (S)), (3, Vi (0)), (13, Vb (false)), (4, Vs (A)), (5, Vs (B)), (6, Vb (true)), (27, Vb (false)), (31, Vb (false)), (8, Vi (0))]) st6 ⟨ks, ?s1, ks, ks, ks, ks, ks, ks, trivial⟩ ?_
  case s1 => refine kc fun _ ac Wd h hd => ?_; obtain ⟨v0, hv0, hV0⟩ := h.dp hd 35; exact ⟨#[v0], by simp [hv0], hB _ _ (show Vs (B) v0 Wd from hV0)⟩
  intro a7 w7 st7
  clear st6
  repeat first|refine wp_seq ?_|refine wp_block ?_|refine wp_skip ?_|refine wp_exit ?_
  refine rg (BT := [(27, 4, 0), (24, 2, 0)]) (Vl := [Vz 1 (x), Vz 1 (y), VP2 2 2 (Vz 1 (x)) (Vz 1 (y)), VT, VT]) (B := [⟨2, none, none, 27, 4, VT, VT⟩, ⟨7, none, none, 24, 2, Vz 1 (x), VT⟩, ⟨9, none, none, 24, 2, Vz 1 (y), VT⟩, ⟨10, some 3, some 4, 27, 4, VP2 2 2 (Vz 1 (x)) (Vz 1 (y)), VT⟩]) (SL' := [(0, Vs (S)), (3, Vi (0)), (13, Vb (false)), (4, Vs (A)), (5, Vs (B)), (6, Vb (true)), (27, Vb (false)), (31, Vb (false)), (8, Vi (0))]) st7 ⟨ks, ks, ?s2, ks, ks, trivial⟩ ?_
  case s2 => refine kr fun _ ac Wd h hd => ?_; obtain ⟨v0, hv0, hV0⟩ := h.dp hd 39; obtain ⟨v1, hv1, hV1⟩ := h.dp hd 40; exact build_Rat rfl hv0 hv1 (AggV_Vz _ _) (AggV_Vz _ _) hV0 hV1
  intro a8 w8 st8
  clear st7
  repeat first|refine wp_seq ?_|refine wp_block ?_|refine wp_skip ?_|refine wp_exit ?_
  refine rg (BT := [(27, 4, 0), (24, 2, 0)]) (Vl := [Vi (0), Vb (true), Vb (true), Vpt a8 9 1, VD 1 (y), Vi (((digs (y).natAbs).length : Int)), Vb (true), Vb (true), Vb (true), VP2 2 2 (Vz 1 (x)) (Vz 1 (y)), Vb (false), Vb (false)]) (B := [⟨2, none, none, 27, 4, VT, VT⟩, ⟨7, none, none, 24, 2, Vz 1 (x), VT⟩, ⟨9, none, none, 24, 2, Vz 1 (y), VT⟩, ⟨10, none, none, 27, 4, VP2 2 2 (Vz 1 (x)) (Vz 1 (y)), VT⟩]) (SL' := [(0, Vs (S)), (3, Vi (0)), (13, Vb (false)), (4, Vs (A)), (5, Vs (B)), (6, Vb (true)), (27, Vb (false)), (31, Vb (false)), (8, Vi (0)), (53, Vb (false))]) st8 ⟨ks, ?s1, ks, ks, ks, ?s5, ?s6, ks, ks, ks, ?s10, ks, trivial⟩ ?_
  case s1 => refine kr fun _ ac Wd h hd => ?_; obtain ⟨v0, hv0, hV0⟩ := h.dp hd 42; have hV0' : v0 = .int .i64 (0) := hV0; exact ⟨_, run_eqe rfl (hv0.trans hV0') rfl, congrArg Value.bool (rfl)⟩
  case s5 => refine kr fun _ ac Wd h hd => ?_; obtain ⟨v0, hv0, hV0⟩ := h.dp hd 46; obtain ⟨pp, nn, cc, rfl, hnn, -⟩ := hV0; exact ⟨_, run_len rfl rfl hv0, by rw [hnn]; rfl⟩
  case s6 =>
    refine kr fun _ ac Wd h hd => ?_
    obtain ⟨v0, hv0, hV0⟩ := h.dp hd 47
    have hV0' : v0 = .int .i64 (((digs (y).natAbs).length : Int)) := hV0
    exact ⟨_, run_gtri rfl (hv0.trans hV0') rfl, congrArg Value.bool (decide_eq_true hy0)⟩
  case s10 =>
    refine kc fun _ ac Wd h hd => ?_
    obtain ⟨v0, hv0, hV0⟩ := h.dp hd 51
    exact ⟨#[v0], by simp [hv0], (by have := cQValidZ (show Vq0 3 x y v0 Wd from Vq0_of (show VP2 2 2 (Vz 1 (x)) (Vz 1 (y)) v0 Wd from hV0)) (by omega) (by omega); rw [decide_eq_false hv] at this; exact this)⟩
  intro a9 w9 st9
  clear st8
  repeat first|refine wp_seq ?_|refine wp_block ?_|refine wp_skip ?_|refine wp_exit ?_
  obtain ⟨vc, hc1, hc2⟩ := st9.slot (53, Vb (false)) (.tail _ (.tail _ (.tail _ (.tail _ (.tail _ (.tail _ (.tail _ (.tail _ (.tail _ (.head _))))))))))
  refine wp_cond_false (hc1.trans hc2) ?_
  clear hc1 hc2
  repeat first|refine wp_seq ?_|refine wp_block ?_|refine wp_skip ?_|refine wp_exit ?_
  refine rg (BT := [(27, 4, 0), (24, 2, 0)]) (Vl := [Vq 1 (0), VT, Vi (2)]) (B := [⟨2, none, some 1, 27, 4, Vq 1 (0), VT⟩, ⟨7, none, none, 24, 2, Vz 1 (x), VT⟩, ⟨9, none, none, 24, 2, Vz 1 (y), VT⟩, ⟨10, none, none, 27, 4, VP2 2 2 (Vz 1 (x)) (Vz 1 (y)), VT⟩]) (SL' := [(0, Vs (S)), (13, Vb (false)), (4, Vs (A)), (5, Vs (B)), (6, Vb (true)), (27, Vb (false)), (31, Vb (false)), (8, Vi (0)), (53, Vb (false)), (3, Vi (2))]) st9 ⟨?s0, ks, ks, trivial⟩ ?_
  case s0 => exact kr fun _ ac Wd h hd => build_Rat0 rfl
  intro a10 w10 st10
  clear st9
  repeat first|refine wp_seq ?_|refine wp_block ?_|refine wp_skip ?_|refine wp_exit ?_
  obtain ⟨g, cs, r1, r2, r3, r4, r5⟩ := st10.res ⟨2, none, none, 27, 4, Vq 1 (0), VT⟩ (.head _) rfl rfl
  obtain ⟨vr, q1, q4⟩ := st10.slot (3, Vi (2)) (.tail _ (.tail _ (.tail _ (.tail _ (.tail _ (.tail _ (.tail _ (.tail _ (.tail _ (.head _))))))))))
  exact wp_ret (bodyPost_ret (results_cell1 rfl _ _ g 27 cs (0, 0) _ vr r1 q1 r2 Tryz.underlying27 rfl (by rw [r3]; exact size_Rat)) st10.defers ⟨_, rfl, ⟨_, _, rfl, (Vq_le r4 (by omega)), q4⟩, r5⟩)
end Go.Proofs.YtleijkgdpmfabaaGreatDoor
