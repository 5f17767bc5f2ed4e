/- Contracts of the package integer and its reference: rat.least, rat.Between. -/
import Derived.Test.YtleijkgdpmfabaaGreatDoorW33
set_option linter.unusedVariables false
namespace Go.Proofs.YtleijkgdpmfabaaGreatDoor
open Go.RowKit
theorem Stab_VSl2 {BT : List (TypeId × Nat × Nat)} {N : Nat} {xs : List Int} (hn : ∀ e ∈ BT, e.1 ≠ 24) : Stab BT (VSl 24 2 (Vz N) xs) := fun _ _ _ ⟨h, o, c, cs, e1, e2, e3, e4, e5, e6⟩ hr => ⟨h, o, c, cs, e1, e2, e3, (hr.row h cs _ e4 (.inl fun e he q => absurd q (hn e he))).trans e4, e5, fun i x hx => Stab_Vz _ _ _ _ _ (e6 i x hx) hr⟩
set_option maxRecDepth 100000 in
set_option maxHeartbeats 1600000 in
theorem cLeast {w : World} {N M m : Nat} {a b r : Rat} {RR : List Int} {v0 v1 : Value} (h0 : Vq N (a) v0 w) (h1 : Vq N (b) v1 w) (h1N : 1 ≤ N) (hN : N ≤ 100000) (hok : okq N m a.num (a.den : Int) b.num (b.den : Int)) (hm : m ≤ 1000000) (hRR : qsL m a.num (a.den : Int) b.num (b.den : Int) = RR) (hRn : RR ≠ []) (hRl : RR.length ≤ 1000000) (hM : 1 + (N + 1 + 2) * RR.length ≤ M) (hMM : M ≤ 1000000) (hr : r.num = (fld RR 1 0).1 ∧ (r.den : Int) = (fld RR 1 0).2) : Calls Tryz.prog 97 #[v0, v1] w (RV (Vq M r) w) := by
  go_enter Tryz.func97, Tryz.ntmps97
  have st0 : St w.heap.size w 17 [] [(0, Vq N (a)), (1, Vq N (b))] _ w := St.begin (a := ⟨#[v0, v1, undef, undef, undef, undef, undef, undef, undef, undef, undef, undef, undef, undef, undef, undef, undef], []⟩) rfl rfl (List.forall_mem_cons.2 ⟨⟨_, rfl, h0⟩, (List.forall_mem_cons.2 ⟨⟨_, rfl, h1⟩, (fun _ h => absurd h (by simp))⟩)⟩)
  generalize (⟨#[v0, v1, undef, undef, undef, undef, undef, undef, undef, undef, undef, undef, undef, undef, undef, undef, undef], []⟩ : Act) = a0 at st0 ⊢
  repeat first|refine wp_seq ?_|refine wp_block ?_|refine wp_skip ?_|refine wp_exit ?_
  refine rg (BT := [(100, 1, 0), (27, 4, 0)]) (Vl := [VT, VT, VT]) (B := [⟨2, some 0, some 0, 27, 4, Vq N (a), VT⟩, ⟨3, some 1, some 1, 27, 4, Vq N (b), VT⟩, ⟨4, some 2, none, 27, 4, VT, VT⟩]) (SL' := []) st0 ⟨ks, ks, ks, trivial⟩ ?_
  intro a1 w1 st1
  clear st0
  repeat first|refine wp_seq ?_|refine wp_block ?_|refine wp_skip ?_|refine wp_exit ?_
  refine rg (BT := [(100, 1, 0), (27, 4, 0)]) (Vl := [VT]) (B := [⟨2, none, none, 27, 4, Vq N (a), VT⟩, ⟨3, none, none, 27, 4, Vq N (b), VT⟩, ⟨4, none, none, 27, 4, VT, VT⟩, ⟨5, some 0, none, 100, 1, VT, VT⟩]) (SL' := []) st1 ⟨ks, trivial⟩ ?_
  intro a2 w2 st2
  clear st1
  replace st2 : St w.heap.size w 17 [⟨2, none, none, 27, 4, Vq N (a), VT⟩, ⟨3, none, none, 27, 4, Vq N (b), VT⟩, ⟨4, none, none, 27, 4, VT, VT⟩, ⟨5, none, none, 100, 1, VT, VT⟩] [] a2 w2 := st2
  obtain ⟨g, hgn, st2⟩ := st2.ptrB 5 rfl rfl rfl
  replace st2 : St w.heap.size w 17 [⟨2, none, none, 27, 4, Vq N (a), VT⟩, ⟨3, none, none, 27, 4, Vq N (b), VT⟩, ⟨4, none, none, 27, 4, VT, VT⟩, ⟨5, none, none, 100, 1, VT, VT⟩] [(5, VEq (.pointer (some ⟨g, 0, none⟩)))] a2 w2 := st2.cut
  repeat first|refine wp_seq ?_|refine wp_block ?_|refine wp_skip ?_|refine wp_exit ?_
  refine rg (BT := [(100, 1, 0)]) (Vl := [VEq (.func (.func 126) #[] #[.pointer (some ⟨g, 0, none⟩)]), VT]) (B := [⟨2, none, none, 27, 4, Vq N (a), VT⟩, ⟨3, none, none, 27, 4, Vq N (b), VT⟩, ⟨4, none, none, 27, 4, VT, VT⟩, ⟨5, none, some 1, 100, 1, VC1 (VEq (.func (.func 126) #[] #[.pointer (some ⟨g, 0, none⟩)])), VT⟩]) (SL' := [(5, VEq (.pointer (some ⟨g, 0, none⟩)))]) st2 ⟨?s0, ?s1, trivial⟩ ?_
  case s0 => refine kr fun _ ac Wd h hd => ?_; obtain ⟨v0, hv0, hV0⟩ := h.ot 5; obtain rfl : v0 = _ := hV0; exact ⟨_, run_mkfn1 rfl hv0, rfl⟩
  case s1 =>
    refine k_store1_ (A := VEq (.func (.func 126) #[] #[.pointer (some ⟨g, 0, none⟩)])) rfl rfl rfl rfl rfl rfl rfl rfl (by kernel_rfl) rfl (by kernel_rfl) (by kernel_rfl) rfl (by kernel_rfl) (by kernel_rfl) (.inl rfl) (.inl ⟨by kernel_rfl, rfl, rfl⟩) trivial
  intro a3 w3 st3
  clear st2
  repeat first|refine wp_seq ?_|refine wp_block ?_|refine wp_skip ?_|refine wp_exit ?_
  have : Sb [(27, 4, 0)] (VFn2) := ⟨(Stab_VFn2 (by simp))⟩
  have : Sb [(27, 4, 0)] (VSl 24 2 (Vz (N + 1)) RR) := ⟨(Stab_VSl2 (by simp))⟩
  refine rg (BT := [(27, 4, 0)]) (Vl := [VFn2, Vq N (a), Vq N (b), VSl 24 2 (Vz (N + 1)) RR, Vz 1 (1), Vz 1 (0), VTup (Vz M ((fld RR 1 0).1)) (Vz M ((fld RR 1 0).2)), Vz M ((fld RR 1 0).1), Vz M ((fld RR 1 0).2), Vq M (r), VT]) (B := [⟨2, none, none, 27, 4, Vq N (a), VT⟩, ⟨3, none, none, 27, 4, Vq N (b), VT⟩, ⟨4, none, some 10, 27, 4, Vq M (r), VT⟩, ⟨5, none, none, 100, 1, VC1 (VEq (.func (.func 126) #[] #[.pointer (some ⟨g, 0, none⟩)])), VT⟩]) (SL' := [(5, VEq (.pointer (some ⟨g, 0, none⟩)))]) st3 ⟨?s0, ks, ks, ?s3, ?s4, ?s5, ?s6, ks, ks, ?s9, ks, trivial⟩ ?_
  case s0 =>
    refine kr fun _ ac Wd h hd => ?_
    obtain ⟨g2, cs2, e1, e2, e3, e4, e5, e6, -⟩ := h.k.ok _ (gB_mem (n := 3) rfl) rfl
    obtain ⟨x2, hx2, hx3⟩ := e6 rfl
    cases hx2
    obtain rfl : x2 = _ := hx3
    obtain ⟨v0, hv0, hV0⟩ := h.ot 5
    obtain rfl : v0 = _ := hV0
    have hg2 : g2 = g := by have q := hv0; simp [Act.eval, Array.getD_eq_getD_getElem?, e1] at q; exact q
    subst hg2
    exact load_Fp (w := Wd) rfl hv0 ⟨g2, rfl, e3⟩ (Below.refl _ _)
  case s3 =>
    refine kc fun _ ac Wd h hd => ?_
    obtain ⟨v0, hv0, hV0⟩ := h.dp hd 8
    obtain ⟨v1, hv1, hV1⟩ := h.dp hd 9
    exact ⟨#[v0, v1], by simp [hv0, hv1], (cQuots (m := m) (show Vq N (a) v0 Wd from hV0) (show Vq N (b) v1 Wd from hV1) (by omega) (by omega) (by exact hok) (by omega)).mono fun e w' h => h.le fun v w hv => by rw [hRR] at hv; exact VRx_sl hRn hv⟩
  case s4 => refine kc fun _ ac Wd h hd => ?_; exact ⟨#[.int .i64 (1)], by simp [eval_const], cOf1⟩
  case s5 => exact kr fun _ ac Wd h hd => build_Int0 rfl
  case s6 =>
    refine ke fun _ ac Wd h hd => ?_
    obtain ⟨v0, hv0, hV0⟩ := h.dp hd 7
    obtain ⟨v1, hv1, hV1⟩ := h.dp hd 10
    obtain ⟨v2, hv2, hV2⟩ := h.dp hd 11
    obtain ⟨v3, hv3, hV3⟩ := h.dp hd 12
    obtain ⟨uu, rfl, hu⟩ := hV0
    exact ⟨_, _, run_clos3 rfl hv0 hv1 hv2 hv3, cBefore (N + 1) RR.length RR (Nat.le_refl _) (List.length_pos_iff.2 hRn) (by omega) Wd 1 M 1 0 _ _ _ _ hV1 hV2 hV3 hu hM hMM⟩
  case s9 =>
    refine kc fun _ ac Wd h hd => ?_
    obtain ⟨v0, hv0, hV0⟩ := h.dp hd 14
    obtain ⟨v1, hv1, hV1⟩ := h.dp hd 15
    exact ⟨#[v0, v1], by simp [hv0, hv1], cMade (r := r) (show Vz M ((fld RR 1 0).1) v0 Wd from hV0) (show Vz M ((fld RR 1 0).2) v1 Wd from hV1) hr⟩
  intro a4 w4 st4
  clear st3
  repeat first|refine wp_seq ?_|refine wp_block ?_|refine wp_skip ?_|refine wp_exit ?_
  obtain ⟨g, cs, r1, r2, r3, r4, r5⟩ := st4.res ⟨4, none, none, 27, 4, Vq M (r), VT⟩ (.tail _ (.tail _ (.head _))) rfl rfl
  exact wp_ret (bodyPost_ret (results_cell_row rfl _ _ g 27 cs (0, 0) _ r1 r2 Tryz.underlying27 rfl (by rw [r3]; exact size_Rat)) st4.defers ⟨_, rfl, r4, r5⟩)
set_option maxRecDepth 100000 in
set_option maxHeartbeats 1600000 in
theorem cBetweenA {w : World} {N : Nat} {a b : Rat} {v0 v1 : Value} (h0 : Vq N (a) v0 w) (h1 : Vq N (b) v1 w) (h1N : 1 ≤ N) (hN : N ≤ 100000) (hne : a ≠ b) (hc : 0 < cmpQ a b) : Calls Tryz.prog 51 #[v0, v1] w (RV (VTup (Vq N 0) (Vi 1)) w) := by
  go_enter Tryz.func51, Tryz.ntmps51
  have st0 : St w.heap.size w 35 [] [(0, Vq N (a)), (1, Vq N (b))] _ w := St.begin (a := ⟨#[v0, v1, undef, undef, undef, undef, undef, undef, undef, undef, undef, undef, undef, undef, undef, undef, undef, undef, undef, undef, undef, undef, undef, undef, undef, undef, undef, undef, undef, undef, undef, undef, undef, undef, undef], []⟩) rfl rfl (List.forall_mem_cons.2 ⟨⟨_, rfl, h0⟩, (List.forall_mem_cons.2 ⟨⟨_, rfl, h1⟩, (fun _ h => absurd h (by simp))⟩)⟩)
  generalize (⟨#[v0, v1, undef, undef, undef, undef, undef, undef, undef, undef, undef, undef, undef, undef, undef, undef, undef, undef, undef, undef, undef, undef, undef, undef, undef, undef, undef, undef, undef, undef, undef, undef, undef, undef, undef], []⟩ : Act) = a0 at st0 ⊢
  repeat first|refine wp_seq ?_|refine wp_block ?_|refine wp_skip ?_|refine wp_exit ?_
  refine rg (BT := [(27, 4, 0)]) (Vl := [VT, VT, VT, Vi (0)]) (B := [⟨2, some 0, some 0, 27, 4, Vq N (a), VT⟩, ⟨3, some 1, some 1, 27, 4, Vq N (b), VT⟩, ⟨4, some 2, none, 27, 4, VT, VT⟩]) (SL' := [(5, Vi (0))]) st0 ⟨ks, ks, ks, ks, trivial⟩ ?_
  intro a1 w1 st1
  clear st0
  repeat first|refine wp_seq ?_|refine wp_block ?_|refine wp_skip ?_|refine wp_exit ?_
  refine rg (BT := [(27, 4, 0)]) (Vl := [Vq N (a), Vq N (b), Vb (false), Vb (false)]) (B := [⟨2, none, none, 27, 4, Vq N (a), VT⟩, ⟨3, none, none, 27, 4, Vq N (b), VT⟩, ⟨4, none, none, 27, 4, VT, VT⟩]) (SL' := [(5, Vi (0)), (6, Vb (false))]) st1 ⟨ks, ks, ?s2, ks, trivial⟩ ?_
  case s2 =>
    refine kc fun _ ac Wd h hd => ?_
    obtain ⟨v0, hv0, hV0⟩ := h.dp hd 7
    obtain ⟨v1, hv1, hV1⟩ := h.dp hd 8
    exact ⟨#[v0, v1], by simp [hv0, hv1], (cQSame (show Vq N (a) v0 Wd from hV0) (show Vq N (b) v1 Wd from hV1) (by omega) (by omega) (by omega) (by omega)).mono fun e w h => h.le fun v w hv => hv.trans (congrArg Value.bool (decide_eq_false hne))⟩
  intro a2 w2 st2
  clear st1
  repeat first|refine wp_seq ?_|refine wp_block ?_|refine wp_skip ?_|refine wp_exit ?_
  obtain ⟨vc, hc1, hc2⟩ := st2.slot (6, Vb (false)) (.tail _ (.head _))
  refine wp_cond_false (hc1.trans hc2) ?_
  clear hc1 hc2
  repeat first|refine wp_seq ?_|refine wp_block ?_|refine wp_skip ?_|refine wp_exit ?_
  refine rg (BT := [(27, 4, 0)]) (Vl := [Vq N (a), Vq N (b), Vi (cmpQ (a) (b)), Vb (true), Vb (true)]) (B := [⟨2, none, none, 27, 4, Vq N (a), VT⟩, ⟨3, none, none, 27, 4, Vq N (b), VT⟩, ⟨4, none, none, 27, 4, VT, VT⟩]) (SL' := [(5, Vi (0)), (6, Vb (false)), (11, Vb (true))]) st2 ⟨ks, ks, ?s2, ?s3, ks, trivial⟩ ?_
  case s2 =>
    refine kc fun _ ac Wd h hd => ?_
    obtain ⟨v0, hv0, hV0⟩ := h.dp hd 12
    obtain ⟨v1, hv1, hV1⟩ := h.dp hd 13
    exact ⟨#[v0, v1], by simp [hv0, hv1], cQCompare (show Vq N (a) v0 Wd from hV0) (show Vq N (b) v1 Wd from hV1) (by omega) (by omega) (by omega) (by omega)⟩
  case s3 =>
    refine kr fun _ ac Wd h hd => ?_
    obtain ⟨v0, hv0, hV0⟩ := h.dp hd 14
    have hV0' : v0 = .int .i64 (cmpQ (a) (b)) := hV0
    exact ⟨_, run_gtri rfl (hv0.trans hV0') rfl, congrArg Value.bool (decide_eq_true (by omega))⟩
  intro a3 w3 st3
  clear st2
  repeat first|refine wp_seq ?_|refine wp_block ?_|refine wp_skip ?_|refine wp_exit ?_
  obtain ⟨vc, hc1, hc2⟩ := st3.slot (11, Vb (true)) (.tail _ (.tail _ (.head _)))
  refine wp_cond_true (hc1.trans hc2) ?_
  clear hc1 hc2
  repeat first|refine wp_seq ?_|refine wp_block ?_|refine wp_skip ?_|refine wp_exit ?_
  refine rg (BT := [(27, 4, 0)]) (Vl := [Vq 1 (0), VT, Vi (1)]) (B := [⟨2, none, none, 27, 4, Vq N (a), VT⟩, ⟨3, none, none, 27, 4, Vq N (b), VT⟩, ⟨4, none, some 1, 27, 4, Vq 1 (0), VT⟩]) (SL' := [(6, Vb (false)), (11, Vb (true)), (5, Vi (1))]) st3 ⟨?s0, ks, ks, trivial⟩ ?_
  case s0 => exact kr fun _ ac Wd h hd => build_Rat0 rfl
  intro a4 w4 st4
  clear st3
  repeat first|refine wp_seq ?_|refine wp_block ?_|refine wp_skip ?_|refine wp_exit ?_
  obtain ⟨g, cs, r1, r2, r3, r4, r5⟩ := st4.res ⟨4, none, none, 27, 4, Vq 1 (0), VT⟩ (.tail _ (.tail _ (.head _))) rfl rfl
  obtain ⟨vr, q1, q4⟩ := st4.slot (5, Vi (1)) (.tail _ (.tail _ (.head _)))
  exact wp_ret (bodyPost_ret (results_cell1 rfl _ _ g 27 cs (0, 0) _ vr r1 q1 r2 Tryz.underlying27 rfl (by rw [r3]; exact size_Rat)) st4.defers ⟨_, rfl, ⟨_, _, rfl, Vq_le r4 (by omega), q4⟩, r5⟩)
set_option maxRecDepth 100000 in
set_option maxHeartbeats 1600000 in
theorem cBetweenP {w : World} {N M : Nat} {a b r : Rat} {v0 v1 : Value} (h0 : Vq N (a) v0 w) (h1 : Vq N (b) v1 w) (h1N : 1 ≤ N) (hN : N ≤ 100000) (hne : a ≠ b) (hc : cmpQ a b ≤ 0) (hs : 0 < cmpI a.num 0) (hl : ∀ (W : World) (v0 v1 : Value), Vq N a v0 W → Vq N b v1 W → Calls Tryz.prog 97 #[v0, v1] W (RV (Vq M r) W)) : Calls Tryz.prog 51 #[v0, v1] w (RV (VTup (Vq M r) (Vi 0)) w) := by
  go_enter Tryz.func51, Tryz.ntmps51
  have st0 : St w.heap.size w 35 [] [(0, Vq N (a)), (1, Vq N (b))] _ w := St.begin (a := ⟨#[v0, v1, undef, undef, undef, undef, undef, undef, undef, undef, undef, undef, undef, undef, undef, undef, undef, undef, undef, undef, undef, undef, undef, undef, undef, undef, undef, undef, undef, undef, undef, undef, undef, undef, undef], []⟩) rfl rfl (List.forall_mem_cons.2 ⟨⟨_, rfl, h0⟩, (List.forall_mem_cons.2 ⟨⟨_, rfl, h1⟩, (fun _ h => absurd h (by simp))⟩)⟩)
  generalize (⟨#[v0, v1, undef, undef, undef, undef, undef, undef, undef, undef, undef, undef, undef, undef, undef, undef, undef, undef, undef, undef, undef, undef, undef, undef, undef, undef, undef, undef, undef, undef, undef, undef, undef, undef, undef], []⟩ : Act) = a0 at st0 ⊢
  repeat first|refine wp_seq ?_|refine wp_block ?_|refine wp_skip ?_|refine wp_exit ?_
  refine rg (BT := [(27, 4, 0)]) (Vl := [VT, VT, VT, Vi (0)]) (B := [⟨2, some 0, some 0, 27, 4, Vq N (a), VT⟩, ⟨3, some 1, some 1, 27, 4, Vq N (b), VT⟩, ⟨4, some 2, none, 27, 4, VT, VT⟩]) (SL' := [(5, Vi (0))]) st0 ⟨ks, ks, ks, ks, trivial⟩ ?_
  intro a1 w1 st1
  clear st0
  repeat first|refine wp_seq ?_|refine wp_block ?_|refine wp_skip ?_|refine wp_exit ?_
  refine rg (BT := [(27, 4, 0)]) (Vl := [Vq N (a), Vq N (b), Vb (false), Vb (false)]) (B := [⟨2, none, none, 27, 4, Vq N (a), VT⟩, ⟨3, none, none, 27, 4, Vq N (b), VT⟩, ⟨4, none, none, 27, 4, VT, VT⟩]) (SL' := [(5, Vi (0)), (6, Vb (false))]) st1 ⟨ks, ks, ?s2, ks, trivial⟩ ?_
  case s2 =>
    refine kc fun _ ac Wd h hd => ?_
    obtain ⟨v0, hv0, hV0⟩ := h.dp hd 7
    obtain ⟨v1, hv1, hV1⟩ := h.dp hd 8
    exact ⟨#[v0, v1], by simp [hv0, hv1], (cQSame (show Vq N (a) v0 Wd from hV0) (show Vq N (b) v1 Wd from hV1) (by omega) (by omega) (by omega) (by omega)).mono fun e w h => h.le fun v w hv => hv.trans (congrArg Value.bool (decide_eq_false hne))⟩
  intro a2 w2 st2
  clear st1
  repeat first|refine wp_seq ?_|refine wp_block ?_|refine wp_skip ?_|refine wp_exit ?_
  obtain ⟨vc, hc1, hc2⟩ := st2.slot (6, Vb (false)) (.tail _ (.head _))
  refine wp_cond_false (hc1.trans hc2) ?_
  clear hc1 hc2
  repeat first|refine wp_seq ?_|refine wp_block ?_|refine wp_skip ?_|refine wp_exit ?_
  refine rg (BT := [(27, 4, 0)]) (Vl := [Vq N (a), Vq N (b), Vi (cmpQ (a) (b)), Vb (false), Vb (false)]) (B := [⟨2, none, none, 27, 4, Vq N (a), VT⟩, ⟨3, none, none, 27, 4, Vq N (b), VT⟩, ⟨4, none, none, 27, 4, VT, VT⟩]) (SL' := [(5, Vi (0)), (6, Vb (false)), (11, Vb (false))]) st2 ⟨ks, ks, ?s2, ?s3, ks, trivial⟩ ?_
  case s2 =>
    refine kc fun _ ac Wd h hd => ?_
    obtain ⟨v0, hv0, hV0⟩ := h.dp hd 12
    obtain ⟨v1, hv1, hV1⟩ := h.dp hd 13
    exact ⟨#[v0, v1], by simp [hv0, hv1], cQCompare (show Vq N (a) v0 Wd from hV0) (show Vq N (b) v1 Wd from hV1) (by omega) (by omega) (by omega) (by omega)⟩
  case s3 =>
    refine kr fun _ ac Wd h hd => ?_
    obtain ⟨v0, hv0, hV0⟩ := h.dp hd 14
    have hV0' : v0 = .int .i64 (cmpQ (a) (b)) := hV0
    exact ⟨_, run_gtri rfl (hv0.trans hV0') rfl, congrArg Value.bool (decide_eq_false (by omega))⟩
  intro a3 w3 st3
  clear st2
  repeat first|refine wp_seq ?_|refine wp_block ?_|refine wp_skip ?_|refine wp_exit ?_
  obtain ⟨vc, hc1, hc2⟩ := st3.slot (11, Vb (false)) (.tail _ (.tail _ (.head _)))
  refine wp_cond_false (hc1.trans hc2) ?_
  clear hc1 hc2
  repeat first|refine wp_seq ?_|refine wp_block ?_|refine wp_skip ?_|refine wp_exit ?_
  refine rg (BT := [(27, 4, 0)]) (Vl := [Vq N (a), Vi (cmpI (a).num 0), Vb (true), Vb (true)]) (B := [⟨2, none, none, 27, 4, Vq N (a), VT⟩, ⟨3, none, none, 27, 4, Vq N (b), VT⟩, ⟨4, none, none, 27, 4, VT, VT⟩]) (SL' := [(5, Vi (0)), (6, Vb (false)), (11, Vb (false)), (17, Vb (true))]) st3 ⟨ks, ?s1, ?s2, ks, trivial⟩ ?_
  case s1 => refine kc fun _ ac Wd h hd => ?_; obtain ⟨v0, hv0, hV0⟩ := h.dp hd 18; exact ⟨#[v0], by simp [hv0], cQSign (show Vq N (a) v0 Wd from hV0) (by omega)⟩
  case s2 =>
    refine kr fun _ ac Wd h hd => ?_
    obtain ⟨v0, hv0, hV0⟩ := h.dp hd 19
    have hV0' : v0 = .int .i64 (cmpI (a).num 0) := hV0
    exact ⟨_, run_gtri rfl (hv0.trans hV0') rfl, congrArg Value.bool (decide_eq_true (by omega))⟩
  intro a4 w4 st4
  clear st3
  repeat first|refine wp_seq ?_|refine wp_block ?_|refine wp_skip ?_|refine wp_exit ?_
  obtain ⟨vc, hc1, hc2⟩ := st4.slot (17, Vb (true)) (.tail _ (.tail _ (.tail _ (.head _))))
  refine wp_cond_true (hc1.trans hc2) ?_
  clear hc1 hc2
  repeat first|refine wp_seq ?_|refine wp_block ?_|refine wp_skip ?_|refine wp_exit ?_
  refine rg (BT := [(27, 4, 0)]) (Vl := [Vq N (a), Vq N (b), Vq M (r), VT, Vi (0)]) (B := [⟨2, none, none, 27, 4, Vq N (a), VT⟩, ⟨3, none, none, 27, 4, Vq N (b), VT⟩, ⟨4, none, some 3, 27, 4, Vq M (r), VT⟩]) (SL' := [(6, Vb (false)), (11, Vb (false)), (17, Vb (true)), (5, Vi (0))]) st4 ⟨ks, ks, ?s2, ks, ks, trivial⟩ ?_
  case s2 =>
    refine kc fun _ ac Wd h hd => ?_
    obtain ⟨v0, hv0, hV0⟩ := h.dp hd 21
    obtain ⟨v1, hv1, hV1⟩ := h.dp hd 22
    exact ⟨#[v0, v1], by simp [hv0, hv1], hl _ _ _ (show Vq N (a) v0 Wd from hV0) (show Vq N (b) v1 Wd from hV1)⟩
  intro a5 w5 st5
  clear st4
  repeat first|refine wp_seq ?_|refine wp_block ?_|refine wp_skip ?_|refine wp_exit ?_
  obtain ⟨g, cs, r1, r2, r3, r4, r5⟩ := st5.res ⟨4, none, none, 27, 4, Vq M (r), VT⟩ (.tail _ (.tail _ (.head _))) rfl rfl
  obtain ⟨vr, q1, q4⟩ := st5.slot (5, Vi (0)) (.tail _ (.tail _ (.tail _ (.head _))))
  exact wp_ret (bodyPost_ret (results_cell1 rfl _ _ g 27 cs (0, 0) _ vr r1 q1 r2 Tryz.underlying27 rfl (by rw [r3]; exact size_Rat)) st5.defers ⟨_, rfl, ⟨_, _, rfl, r4, q4⟩, r5⟩)
set_option maxRecDepth 100000 in
set_option maxHeartbeats 1600000 in
theorem cBetweenN {w : World} {N M : Nat} {a b r : Rat} {v0 v1 : Value} (h0 : Vq N (a) v0 w) (h1 : Vq N (b) v1 w) (h1N : 1 ≤ N) (hN : N ≤ 100000) (hne : a ≠ b) (hMM : M ≤ 1000000) (hc : cmpQ a b ≤ 0) (hs : cmpI a.num 0 ≤ 0) (hs2 : cmpI b.num 0 < 0) (hl : ∀ (W : World) (v0 v1 : Value), Vq N (-b) v0 W → Vq N (-a) v1 W → Calls Tryz.prog 97 #[v0, v1] W (RV (Vq M r) W)) : Calls Tryz.prog 51 #[v0, v1] w (RV (VTup (Vq M (-r)) (Vi 0)) w) := by
  go_enter Tryz.func51, Tryz.ntmps51
  have st0 : St w.heap.size w 35 [] [(0, Vq N (a)), (1, Vq N (b))] _ w := St.begin (a := ⟨#[v0, v1, undef, undef, undef, undef, undef, undef, undef, undef, undef, undef, undef, undef, undef, undef, undef, undef, undef, undef, undef, undef, undef, undef, undef, undef, undef, undef, undef, undef, undef, undef, undef, undef, undef], []⟩) rfl rfl (List.forall_mem_cons.2 ⟨⟨_, rfl, h0⟩, (List.forall_mem_cons.2 ⟨⟨_, rfl, h1⟩, (fun _ h => absurd h (by simp))⟩)⟩)
  generalize (⟨#[v0, v1, undef, undef, undef, undef, undef, undef, undef, undef, undef, undef, undef, undef, undef, undef, undef, undef, undef, undef, undef, undef, undef, undef, undef, undef, undef, undef, undef, undef, undef, undef, undef, undef, undef], []⟩ : Act) = a0 at st0 ⊢
  repeat first|refine wp_seq ?_|refine wp_block ?_|refine wp_skip ?_|refine wp_exit ?_
  refine rg (BT := [(27, 4, 0)]) (Vl := [VT, VT, VT, Vi (0)]) (B := [⟨2, some 0, some 0, 27, 4, Vq N (a), VT⟩, ⟨3, some 1, some 1, 27, 4, Vq N (b), VT⟩, ⟨4, some 2, none, 27, 4, VT, VT⟩]) (SL' := [(5, Vi (0))]) st0 ⟨ks, ks, ks, ks, trivial⟩ ?_
  intro a1 w1 st1
  clear st0
  repeat first|refine wp_seq ?_|refine wp_block ?_|refine wp_skip ?_|refine wp_exit ?_
  refine rg (BT := [(27, 4, 0)]) (Vl := [Vq N (a), Vq N (b), Vb (false), Vb (false)]) (B := [⟨2, none, none, 27, 4, Vq N (a), VT⟩, ⟨3, none, none, 27, 4, Vq N (b), VT⟩, ⟨4, none, none, 27, 4, VT, VT⟩]) (SL' := [(5, Vi (0)), (6, Vb (false))]) st1 ⟨ks, ks, ?s2, ks, trivial⟩ ?_
  case s2 =>
    refine kc fun _ ac Wd h hd => ?_
    obtain ⟨v0, hv0, hV0⟩ := h.dp hd 7
    obtain ⟨v1, hv1, hV1⟩ := h.dp hd 8
    exact ⟨#[v0, v1], by simp [hv0, hv1], (cQSame (show Vq N (a) v0 Wd from hV0) (show Vq N (b) v1 Wd from hV1) (by omega) (by omega) (by omega) (by omega)).mono fun e w h => h.le fun v w hv => hv.trans (congrArg Value.bool (decide_eq_false hne))⟩
  intro a2 w2 st2
  clear st1
  repeat first|refine wp_seq ?_|refine wp_block ?_|refine wp_skip ?_|refine wp_exit ?_
  obtain ⟨vc, hc1, hc2⟩ := st2.slot (6, Vb (false)) (.tail _ (.head _))
  refine wp_cond_false (hc1.trans hc2) ?_
  clear hc1 hc2
  repeat first|refine wp_seq ?_|refine wp_block ?_|refine wp_skip ?_|refine wp_exit ?_
  refine rg (BT := [(27, 4, 0)]) (Vl := [Vq N (a), Vq N (b), Vi (cmpQ (a) (b)), Vb (false), Vb (false)]) (B := [⟨2, none, none, 27, 4, Vq N (a), VT⟩, ⟨3, none, none, 27, 4, Vq N (b), VT⟩, ⟨4, none, none, 27, 4, VT, VT⟩]) (SL' := [(5, Vi (0)), (6, Vb (false)), (11, Vb (false))]) st2 ⟨ks, ks, ?s2, ?s3, ks, trivial⟩ ?_
  case s2 =>
    refine kc fun _ ac Wd h hd => ?_
    obtain ⟨v0, hv0, hV0⟩ := h.dp hd 12
    obtain ⟨v1, hv1, hV1⟩ := h.dp hd 13
    exact ⟨#[v0, v1], by simp [hv0, hv1], cQCompare (show Vq N (a) v0 Wd from hV0) (show Vq N (b) v1 Wd from hV1) (by omega) (by omega) (by omega) (by omega)⟩
  case s3 =>
    refine kr fun _ ac Wd h hd => ?_
    obtain ⟨v0, hv0, hV0⟩ := h.dp hd 14
    have hV0' : v0 = .int .i64 (cmpQ (a) (b)) := hV0
    exact ⟨_, run_gtri rfl (hv0.trans hV0') rfl, congrArg Value.bool (decide_eq_false (by omega))⟩
  intro a3 w3 st3
  clear st2
  repeat first|refine wp_seq ?_|refine wp_block ?_|refine wp_skip ?_|refine wp_exit ?_
  obtain ⟨vc, hc1, hc2⟩ := st3.slot (11, Vb (false)) (.tail _ (.tail _ (.head _)))
  refine wp_cond_false (hc1.trans hc2) ?_
  clear hc1 hc2
  repeat first|refine wp_seq ?_|refine wp_block ?_|refine wp_skip ?_|refine wp_exit ?_
  refine rg (BT := [(27, 4, 0)]) (Vl := [Vq N (a), Vi (cmpI (a).num 0), Vb (false), Vb (false)]) (B := [⟨2, none, none, 27, 4, Vq N (a), VT⟩, ⟨3, none, none, 27, 4, Vq N (b), VT⟩, ⟨4, none, none, 27, 4, VT, VT⟩]) (SL' := [(5, Vi (0)), (6, Vb (false)), (11, Vb (false)), (17, Vb (false))]) st3 ⟨ks, ?s1, ?s2, ks, trivial⟩ ?_
  case s1 => refine kc fun _ ac Wd h hd => ?_; obtain ⟨v0, hv0, hV0⟩ := h.dp hd 18; exact ⟨#[v0], by simp [hv0], cQSign (show Vq N (a) v0 Wd from hV0) (by omega)⟩
  case s2 =>
    refine kr fun _ ac Wd h hd => ?_
    obtain ⟨v0, hv0, hV0⟩ := h.dp hd 19
    have hV0' : v0 = .int .i64 (cmpI (a).num 0) := hV0
    exact ⟨_, run_gtri rfl (hv0.trans hV0') rfl, congrArg Value.bool (decide_eq_false (by omega))⟩
  intro a4 w4 st4
  clear st3
  repeat first|refine wp_seq ?_|refine wp_block ?_|refine wp_skip ?_|refine wp_exit ?_
  obtain ⟨vc, hc1, hc2⟩ := st4.slot (17, Vb (false)) (.tail _ (.tail _ (.tail _ (.head _))))
  refine wp_cond_false (hc1.trans hc2) ?_
  clear hc1 hc2
  repeat first|refine wp_seq ?_|refine wp_block ?_|refine wp_skip ?_|refine wp_exit ?_
  refine rg (BT := [(27, 4, 0)]) (Vl := [Vq N (b), Vi (cmpI (b).num 0), Vb (true), Vb (true)]) (B := [⟨2, none, none, 27, 4, Vq N (a), VT⟩, ⟨3, none, none, 27, 4, Vq N (b), VT⟩, ⟨4, none, none, 27, 4, VT, VT⟩]) (SL' := [(5, Vi (0)), (6, Vb (false)), (11, Vb (false)), (17, Vb (false)), (24, Vb (true))]) st4 ⟨ks, ?s1, ?s2, ks, trivial⟩ ?_
  case s1 => refine kc fun _ ac Wd h hd => ?_; obtain ⟨v0, hv0, hV0⟩ := h.dp hd 25; exact ⟨#[v0], by simp [hv0], cQSign (show Vq N (b) v0 Wd from hV0) (by omega)⟩
  case s2 =>
    refine kr fun _ ac Wd h hd => ?_
    obtain ⟨v0, hv0, hV0⟩ := h.dp hd 26
    have hV0' : v0 = .int .i64 (cmpI (b).num 0) := hV0
    exact ⟨_, run_lssi rfl (hv0.trans hV0') rfl, congrArg Value.bool (decide_eq_true (by omega))⟩
  intro a5 w5 st5
  clear st4
  repeat first|refine wp_seq ?_|refine wp_block ?_|refine wp_skip ?_|refine wp_exit ?_
  obtain ⟨vc, hc1, hc2⟩ := st5.slot (24, Vb (true)) (.tail _ (.tail _ (.tail _ (.tail _ (.head _)))))
  refine wp_cond_true (hc1.trans hc2) ?_
  clear hc1 hc2
  repeat first|refine wp_seq ?_|refine wp_block ?_|refine wp_skip ?_|refine wp_exit ?_
  refine rg (BT := [(27, 4, 0)]) (Vl := [Vq N (b), Vq N (-(b)), Vq N (a), Vq N (-(a)), Vq M (r), Vq M (-(r)), VT, Vi (0)]) (B := [⟨2, none, none, 27, 4, Vq N (a), VT⟩, ⟨3, none, none, 27, 4, Vq N (b), VT⟩, ⟨4, none, some 6, 27, 4, Vq M (-(r)), VT⟩]) (SL' := [(6, Vb (false)), (11, Vb (false)), (17, Vb (false)), (24, Vb (true)), (5, Vi (0))]) st5 ⟨ks, ?s1, ks, ?s3, ?s4, ?s5, ks, ks, trivial⟩ ?_
  case s1 => refine kc fun _ ac Wd h hd => ?_; obtain ⟨v0, hv0, hV0⟩ := h.dp hd 28; exact ⟨#[v0], by simp [hv0], cQNeg (show Vq N (b) v0 Wd from hV0) (by omega)⟩
  case s3 => refine kc fun _ ac Wd h hd => ?_; obtain ⟨v0, hv0, hV0⟩ := h.dp hd 30; exact ⟨#[v0], by simp [hv0], cQNeg (show Vq N (a) v0 Wd from hV0) (by omega)⟩
  case s4 =>
    refine kc fun _ ac Wd h hd => ?_
    obtain ⟨v0, hv0, hV0⟩ := h.dp hd 29
    obtain ⟨v1, hv1, hV1⟩ := h.dp hd 31
    exact ⟨#[v0, v1], by simp [hv0, hv1], hl _ _ _ (show Vq N (-(b)) v0 Wd from hV0) (show Vq N (-(a)) v1 Wd from hV1)⟩
  case s5 => refine kc fun _ ac Wd h hd => ?_; obtain ⟨v0, hv0, hV0⟩ := h.dp hd 32; exact ⟨#[v0], by simp [hv0], cQNeg (show Vq M (r) v0 Wd from hV0) (by omega)⟩
  intro a6 w6 st6
  clear st5
  repeat first|refine wp_seq ?_|refine wp_block ?_|refine wp_skip ?_|refine wp_exit ?_
  obtain ⟨g, cs, r1, r2, r3, r4, r5⟩ := st6.res ⟨4, none, none, 27, 4, Vq M (-(r)), VT⟩ (.tail _ (.tail _ (.head _))) rfl rfl
  obtain ⟨vr, q1, q4⟩ := st6.slot (5, Vi (0)) (.tail _ (.tail _ (.tail _ (.tail _ (.head _)))))
  exact wp_ret (bodyPost_ret (results_cell1 rfl _ _ g 27 cs (0, 0) _ vr r1 q1 r2 Tryz.underlying27 rfl (by rw [r3]; exact size_Rat)) st6.defers ⟨_, rfl, ⟨_, _, rfl, r4, q4⟩, r5⟩)
set_option maxRecDepth 100000 in
set_option maxHeartbeats 1600000 in
theorem cBetweenZ {w : World} {N : Nat} {a b : Rat} {v0 v1 : Value} (h0 : Vq N (a) v0 w) (h1 : Vq N (b) v1 w) (h1N : 1 ≤ N) (hN : N ≤ 100000) (hne : a ≠ b) (hc : cmpQ a b ≤ 0) (hs : cmpI a.num 0 ≤ 0) (hs2 : 0 ≤ cmpI b.num 0) : Calls Tryz.prog 51 #[v0, v1] w (RV (VTup (Vq N 0) (Vi 0)) w) := by
  go_enter Tryz.func51, Tryz.ntmps51
  have st0 : St w.heap.size w 35 [] [(0, Vq N (a)), (1, Vq N (b))] _ w := St.begin (a := ⟨#[v0, v1, undef, undef, undef, undef, undef, undef, undef, undef, undef, undef, undef, undef, undef, undef, undef, undef, undef, undef, undef, undef, undef, undef, undef, undef, undef, undef, undef, undef, undef, undef, undef, undef, undef], []⟩) rfl rfl (List.forall_mem_cons.2 ⟨⟨_, rfl, h0⟩, (List.forall_mem_cons.2 ⟨⟨_, rfl, h1⟩, (fun _ h => absurd h (by simp))⟩)⟩)
  generalize (⟨#[v0, v1, undef, undef, undef, undef, undef, undef, undef, undef, undef, undef, undef, undef, undef, undef, undef, undef, undef, undef, undef, undef, undef, undef, undef, undef, undef, undef, undef, undef, undef, undef, undef, undef, undef], []⟩ : Act) = a0 at st0 ⊢
  repeat first|refine wp_seq ?_|refine wp_block ?_|refine wp_skip ?_|refine wp_exit ?_
  refine rg (BT := [(27, 4, 0)]) (Vl := [VT, VT, VT, Vi (0)]) (B := [⟨2, some 0, some 0, 27, 4, Vq N (a), VT⟩, ⟨3, some 1, some 1, 27, 4, Vq N (b), VT⟩, ⟨4, some 2, none, 27, 4, VT, VT⟩]) (SL' := [(5, Vi (0))]) st0 ⟨ks, ks, ks, ks, trivial⟩ ?_
  intro a1 w1 st1
  clear st0
  repeat first|refine wp_seq ?_|refine wp_block ?_|refine wp_skip ?_|refine wp_exit ?_
  refine rg (BT := [(27, 4, 0)]) (Vl := [Vq N (a), Vq N (b), Vb (false), Vb (false)]) (B := [⟨2, none, none, 27, 4, Vq N (a), VT⟩, ⟨3, none, none, 27, 4, Vq N (b), VT⟩, ⟨4, none, none, 27, 4, VT, VT⟩]) (SL' := [(5, Vi (0)), (6, Vb (false))]) st1 ⟨ks, ks, ?s2, ks, trivial⟩ ?_
  case s2 =>
    refine kc fun _ ac Wd h hd => ?_
    obtain ⟨v0, hv0, hV0⟩ := h.dp hd 7
    obtain ⟨v1, hv1, hV1⟩ := h.dp hd 8
    exact ⟨#[v0, v1], by simp [hv0, hv1], (cQSame (show Vq N (a) v0 Wd from hV0) (show Vq N (b) v1 Wd from hV1) (by omega) (by omega) (by omega) (by omega)).mono fun e w h => h.le fun v w hv => hv.trans (congrArg Value.bool (decide_eq_false hne))⟩
  intro a2 w2 st2
  clear st1
  repeat first|refine wp_seq ?_|refine wp_block ?_|refine wp_skip ?_|refine wp_exit ?_
  obtain ⟨vc, hc1, hc2⟩ := st2.slot (6, Vb (false)) (.tail _ (.head _))
  refine wp_cond_false (hc1.trans hc2) ?_
  clear hc1 hc2
  repeat first|refine wp_seq ?_|refine wp_block ?_|refine wp_skip ?_|refine wp_exit ?_
  refine rg (BT := [(27, 4, 0)]) (Vl := [Vq N (a), Vq N (b), Vi (cmpQ (a) (b)), Vb (false), Vb (false)]) (B := [⟨2, none, none, 27, 4, Vq N (a), VT⟩, ⟨3, none, none, 27, 4, Vq N (b), VT⟩, ⟨4, none, none, 27, 4, VT, VT⟩]) (SL' := [(5, Vi (0)), (6, Vb (false)), (11, Vb (false))]) st2 ⟨ks, ks, ?s2, ?s3, ks, trivial⟩ ?_
  case s2 =>
    refine kc fun _ ac Wd h hd => ?_
    obtain ⟨v0, hv0, hV0⟩ := h.dp hd 12
    obtain ⟨v1, hv1, hV1⟩ := h.dp hd 13
    exact ⟨#[v0, v1], by simp [hv0, hv1], cQCompare (show Vq N (a) v0 Wd from hV0) (show Vq N (b) v1 Wd from hV1) (by omega) (by omega) (by omega) (by omega)⟩
  case s3 =>
    refine kr fun _ ac Wd h hd => ?_
    obtain ⟨v0, hv0, hV0⟩ := h.dp hd 14
    have hV0' : v0 = .int .i64 (cmpQ (a) (b)) := hV0
    exact ⟨_, run_gtri rfl (hv0.trans hV0') rfl, congrArg Value.bool (decide_eq_false (by omega))⟩
  intro a3 w3 st3
  clear st2
  repeat first|refine wp_seq ?_|refine wp_block ?_|refine wp_skip ?_|refine wp_exit ?_
  obtain ⟨vc, hc1, hc2⟩ := st3.slot (11, Vb (false)) (.tail _ (.tail _ (.head _)))
  refine wp_cond_false (hc1.trans hc2) ?_
  clear hc1 hc2
  repeat first|refine wp_seq ?_|refine wp_block ?_|refine wp_skip ?_|refine wp_exit ?_
  refine rg (BT := [(27, 4, 0)]) (Vl := [Vq N (a), Vi (cmpI (a).num 0), Vb (false), Vb (false)]) (B := [⟨2, none, none, 27, 4, Vq N (a), VT⟩, ⟨3, none, none, 27, 4, Vq N (b), VT⟩, ⟨4, none, none, 27, 4, VT, VT⟩]) (SL' := [(5, Vi (0)), (6, Vb (false)), (11, Vb (false)), (17, Vb (false))]) st3 ⟨ks, ?s1, ?s2, ks, trivial⟩ ?_
  case s1 => refine kc fun _ ac Wd h hd => ?_; obtain ⟨v0, hv0, hV0⟩ := h.dp hd 18; exact ⟨#[v0], by simp [hv0], cQSign (show Vq N (a) v0 Wd from hV0) (by omega)⟩
  case s2 =>
    refine kr fun _ ac Wd h hd => ?_
    obtain ⟨v0, hv0, hV0⟩ := h.dp hd 19
    have hV0' : v0 = .int .i64 (cmpI (a).num 0) := hV0
    exact ⟨_, run_gtri rfl (hv0.trans hV0') rfl, congrArg Value.bool (decide_eq_false (by omega))⟩
  intro a4 w4 st4
  clear st3
  repeat first|refine wp_seq ?_|refine wp_block ?_|refine wp_skip ?_|refine wp_exit ?_
  obtain ⟨vc, hc1, hc2⟩ := st4.slot (17, Vb (false)) (.tail _ (.tail _ (.tail _ (.head _))))
  refine wp_cond_false (hc1.trans hc2) ?_
  clear hc1 hc2
  repeat first|refine wp_seq ?_|refine wp_block ?_|refine wp_skip ?_|refine wp_exit ?_
  refine rg (BT := [(27, 4, 0)]) (Vl := [Vq N (b), Vi (cmpI (b).num 0), Vb (false), Vb (false)]) (B := [⟨2, none, none, 27, 4, Vq N (a), VT⟩, ⟨3, none, none, 27, 4, Vq N (b), VT⟩, ⟨4, none, none, 27, 4, VT, VT⟩]) (SL' := [(5, Vi (0)), (6, Vb (false)), (11, Vb (false)), (17, Vb (false)), (24, Vb (false))]) st4 ⟨ks, ?s1, ?s2, ks, trivial⟩ ?_
  case s1 => refine kc fun _ ac Wd h hd => ?_; obtain ⟨v0, hv0, hV0⟩ := h.dp hd 25; exact ⟨#[v0], by simp [hv0], cQSign (show Vq N (b) v0 Wd from hV0) (by omega)⟩
  case s2 =>
    refine kr fun _ ac Wd h hd => ?_
    obtain ⟨v0, hv0, hV0⟩ := h.dp hd 26
    have hV0' : v0 = .int .i64 (cmpI (b).num 0) := hV0
    exact ⟨_, run_lssi rfl (hv0.trans hV0') rfl, congrArg Value.bool (decide_eq_false (by omega))⟩
  intro a5 w5 st5
  clear st4
  repeat first|refine wp_seq ?_|refine wp_block ?_|refine wp_skip ?_|refine wp_exit ?_
  obtain ⟨vc, hc1, hc2⟩ := st5.slot (24, Vb (false)) (.tail _ (.tail _ (.tail _ (.tail _ (.head _)))))
  refine wp_cond_false (hc1.trans hc2) ?_
  clear hc1 hc2
  repeat first|refine wp_seq ?_|refine wp_block ?_|refine wp_skip ?_|refine wp_exit ?_
  refine rg (BT := [(27, 4, 0)]) (Vl := [Vq 1 (0), VT, Vi (0)]) (B := [⟨2, none, none, 27, 4, Vq N (a), VT⟩, ⟨3, none, none, 27, 4, Vq N (b), VT⟩, ⟨4, none, some 1, 27, 4, Vq 1 (0), VT⟩]) (SL' := [(6, Vb (false)), (11, Vb (false)), (17, Vb (false)), (24, Vb (false)), (5, Vi (0))]) st5 ⟨?s0, ks, ks, trivial⟩ ?_
  case s0 => exact kr fun _ ac Wd h hd => build_Rat0 rfl
  intro a6 w6 st6
  clear st5
  repeat first|refine wp_seq ?_|refine wp_block ?_|refine wp_skip ?_|refine wp_exit ?_
  obtain ⟨g, cs, r1, r2, r3, r4, r5⟩ := st6.res ⟨4, none, none, 27, 4, Vq 1 (0), VT⟩ (.tail _ (.tail _ (.head _))) rfl rfl
  obtain ⟨vr, q1, q4⟩ := st6.slot (5, Vi (0)) (.tail _ (.tail _ (.tail _ (.tail _ (.head _)))))
  exact wp_ret (bodyPost_ret (results_cell1 rfl _ _ g 27 cs (0, 0) _ vr r1 q1 r2 Tryz.underlying27 rfl (by rw [r3]; exact size_Rat)) st6.defers ⟨_, rfl, ⟨_, _, rfl, Vq_le r4 (by omega), q4⟩, r5⟩)
end Go.Proofs.YtleijkgdpmfabaaGreatDoor
