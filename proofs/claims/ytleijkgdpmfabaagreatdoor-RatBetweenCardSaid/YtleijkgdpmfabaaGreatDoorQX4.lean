/- What package rat and its reference say besides. -/
import Derived.Test.YtleijkgdpmfabaaGreatDoorW37
set_option linter.unusedVariables false
namespace Go.Proofs.YtleijkgdpmfabaaGreatDoor
open Go.RowKit
theorem inv_low {q : Rat} (h : 0 < q.num) : (q⁻¹).num = (q.den : Int) ∧ ((q⁻¹).den : Int) = q.num := by
  have hs : q.num.sign = 1 := Int.sign_eq_one_of_pos h
  rw [Rat.num_inv, Rat.den_inv, if_neg (by omega), hs]
  omega
theorem cmpQ_lt {a b : Rat} : cmpQ a b = -1 ↔ a < b := by
  rw [Rat.lt_iff]
  unfold cmpQ
  rcases Int.lt_trichotomy (a.num * (b.den : Int)) (b.num * (a.den : Int)) with h | h | h
  · rw [cmp_lt h]; simp [h]
  · rw [h, cmp_eq]; simp
  · rw [cmp_gt h]; simp; omega
theorem cmpQ_gt {a b : Rat} : cmpQ a b = 1 ↔ b < a := by
  rw [Rat.lt_iff]
  unfold cmpQ
  rcases Int.lt_trichotomy (a.num * (b.den : Int)) (b.num * (a.den : Int)) with h | h | h
  · rw [cmp_lt h]; simp; omega
  · rw [h, cmp_eq]; simp
  · rw [cmp_gt h]; simp [h]
theorem cmpQ_eq {a b : Rat} : cmpQ a b = 0 ↔ a = b := by
  rw [Rat.eq_iff_mul_eq_mul]
  unfold cmpQ
  rcases Int.lt_trichotomy (a.num * (b.den : Int)) (b.num * (a.den : Int)) with h | h | h
  · rw [cmp_lt h]; simp; omega
  · rw [h, cmp_eq]; simp
  · rw [cmp_gt h]; simp; omega
set_option maxRecDepth 100000 in
set_option maxHeartbeats 800000 in
theorem rSign_any (nx : Bool) (px : Option Addr) (lx cx : Nat) (x : Int) (w : World) (hx0 : IntAt w nx px lx cx x) (hlx : lx ≤ 549755813887) :
    Calls Tryz.prog 93 #[.agg #[.bool nx, .slice px lx cx]] w fun e w' => e = .returned (.int .i64 (cmpI x 0)) ∧ Below w.heap.size w w' := by
  have hc : Hid (∀ W, Below w.heap.size w W → Calls Tryz.prog 53 #[.agg #[.bool nx, .slice px lx cx], .agg #[.bool false, .slice none 0 0]] W fun e w' => e = .returned (.int .i64 (cmpI x 0)) ∧ Below W.heap.size W w') :=
    Lib.hid fun W h => rCompare_any _ _ _ _ _ _ _ _ x 0 W (hx0.later h) (IntAt_zero _ _ _ (by omega)) hlx (by omega)
  obtain ⟨r, hr⟩ : ∃ r, cmpI x 0 = r := ⟨_, rfl⟩
  rw [hr] at hc ⊢
  clear hx0 hr
  go_enter Tryz.func93, Tryz.ntmps93
  go_wp2_with (go_at_call 53; refine (hc.out _ (below_new _ _)).mono ?_; rintro e w1 ⟨rfl, hb1⟩; have hB := Lib.hid (below_tr (below_new _ _) hb1); clear hb1)
  go_ret
  exact ⟨rfl, hB.out⟩

section
variable {W : World} {Na Nb : Nat} {a b : Int} {v1 v2 : Value}
theorem cRSign (h1 : Vz Na a v1 W) (hN1 : Na ≤ 1000000) : Calls Tryz.prog 93 #[v1] W (RV (Vi (cmpI a 0)) W) := by
  obtain ⟨nb, p, n, c, rfl, hI, hn⟩ := h1
  exact (rSign_any _ _ _ _ a W hI (by omega)).mono fun e w' h => ⟨_, h.1, rfl, h.2⟩
end
set_option maxRecDepth 100000 in
set_option maxHeartbeats 1600000 in
theorem cR4Sign {w : World} {N : Nat} {q : Rat} {v0 : Value} (h0 : Vq N (q) v0 w) (hN : N ≤ 1000000) : Calls Tryz.prog 39 #[v0] w (RV (Vi (cmpI q.num 0)) w) := by
  go_enter Tryz.func39, Tryz.ntmps39
  have st0 : St w.heap.size w 6 [] [(0, Vq N (q))] _ w := St.begin (a := ⟨#[v0, undef, undef, undef, undef, undef], []⟩) rfl rfl (List.forall_mem_cons.2 ⟨⟨_, rfl, h0⟩, (fun _ h => absurd h (by simp))⟩)
  generalize (⟨#[v0, undef, undef, undef, undef, undef], []⟩ : Act) = a0 at st0 ⊢
  repeat first | refine wp_seq ?_ | refine wp_block ?_ | refine wp_skip ?_ | refine wp_exit ?_
  refine rg (BT := []) (Vl := [VT, Vi (0)]) (B := [⟨1, some 0, some 0, 27, 4, Vq N (q), VT⟩]) (SL' := [(2, Vi (0))]) st0 ⟨ks, ks, trivial⟩ ?_
  intro a1 w1 st1
  clear st0
  repeat first | refine wp_seq ?_ | refine wp_block ?_ | refine wp_skip ?_ | refine wp_exit ?_
  refine rg (BT := []) (Vl := [Vpt a1 1 0, Vz N ((q).num), Vi (cmpI ((q).num) 0), Vi (cmpI ((q).num) 0)]) (B := [⟨1, none, none, 27, 4, Vq N (q), VT⟩]) (SL' := [(2, Vi (cmpI ((q).num) 0))]) st1 ⟨ks, ks, ?s2, ks, trivial⟩ ?_
  case s2 => refine kc fun _ ac Wd h hd => ?_; obtain ⟨v0, hv0, hV0⟩ := h.dp hd 4; exact ⟨#[v0], by simp [hv0], cRSign (show Vz N ((q).num) v0 Wd from hV0) (by omega)⟩
  intro a2 w2 st2
  clear st1
  repeat first | refine wp_seq ?_ | refine wp_block ?_ | refine wp_skip ?_ | refine wp_exit ?_
  obtain ⟨vr, r1, r4⟩ := st2.slot (2, Vi (cmpI ((q).num) 0)) (.head _)
  exact wp_ret (bodyPost_ret (results_tmp rfl _ _ _) st2.defers ⟨_, congrArg Ending.returned (show _ = vr from r1), r4, st2.k.below⟩)
set_option maxRecDepth 100000 in
set_option maxHeartbeats 1600000 in
theorem cR4Sub {w : World} {N : Nat} {a b : Rat} {v0 v1 : Value} (h0 : Vq N (a) v0 w) (h1 : Vq N (b) v1 w) (h3 : 3 ≤ N) (hN : N ≤ 100000) : Calls Tryz.prog 29 #[v0, v1] w (RV (Vq (N + N + 1) (a - b)) w) := by
  go_enter Tryz.func29, Tryz.ntmps29
  have st0 : St w.heap.size w 9 [] [(0, Vq N (a)), (1, Vq N (b))] _ w := St.begin (a := ⟨#[v0, v1, undef, undef, undef, undef, undef, undef, undef], []⟩) rfl rfl (List.forall_mem_cons.2 ⟨⟨_, rfl, h0⟩, (List.forall_mem_cons.2 ⟨⟨_, rfl, h1⟩, (fun _ h => absurd h (by simp))⟩)⟩)
  generalize (⟨#[v0, v1, undef, undef, undef, undef, undef, undef, undef], []⟩ : Act) = a0 at st0 ⊢
  repeat first | refine wp_seq ?_ | refine wp_block ?_ | refine wp_skip ?_ | refine wp_exit ?_
  refine rg (BT := [(27, 4, 0)]) (Vl := [VT, VT, VT]) (B := [⟨2, some 0, some 0, 27, 4, Vq N (a), VT⟩, ⟨3, some 1, some 1, 27, 4, Vq N (b), VT⟩, ⟨4, some 2, none, 27, 4, VT, VT⟩]) (SL' := []) st0 ⟨ks, ks, ks, trivial⟩ ?_
  intro a1 w1 st1
  clear st0
  repeat first | refine wp_seq ?_ | refine wp_block ?_ | refine wp_skip ?_ | refine wp_exit ?_
  refine rg (BT := [(27, 4, 0)]) (Vl := [Vq N (a), Vq N (b), Vq N (-(b)), Vq (N + N + 1) ((a) + (-(b))), VT]) (B := [⟨2, none, none, 27, 4, Vq N (a), VT⟩, ⟨3, none, none, 27, 4, Vq N (b), VT⟩, ⟨4, none, some 4, 27, 4, Vq (N + N + 1) ((a) + (-(b))), VT⟩]) (SL' := []) st1 ⟨ks, ks, ?s2, ?s3, ks, trivial⟩ ?_
  case s2 => refine kc fun _ ac Wd h hd => ?_; obtain ⟨v0, hv0, hV0⟩ := h.dp hd 6; exact ⟨#[v0], by simp [hv0], cR4Neg (show Vq N (b) v0 Wd from hV0) (by omega)⟩
  case s3 =>
    refine kc fun _ ac Wd h hd => ?_
    obtain ⟨v0, hv0, hV0⟩ := h.dp hd 5
    obtain ⟨v1, hv1, hV1⟩ := h.dp hd 7
    exact ⟨#[v0, v1], by simp [hv0, hv1], cR4Add (show Vq N (a) v0 Wd from hV0) (show Vq N (-(b)) v1 Wd from hV1) (by omega) (by omega)⟩
  intro a2 w2 st2
  clear st1
  repeat first | refine wp_seq ?_ | refine wp_block ?_ | refine wp_skip ?_ | refine wp_exit ?_
  obtain ⟨g, cs, r1, r2, r3, r4, r5⟩ := st2.res ⟨4, none, none, 27, 4, Vq (N + N + 1) ((a) + (-(b))), VT⟩ (.tail _ (.tail _ (.head _))) rfl rfl
  exact wp_ret (bodyPost_ret (results_cell_row rfl _ _ g 27 cs (0, 0) _ r1 r2 Tryz.underlying27 rfl (by rw [r3]; exact size_Rat)) st2.defers ⟨_, rfl, (by rw [Rat.sub_eq_add_neg]; exact r4), r5⟩)
set_option maxRecDepth 100000 in
set_option maxHeartbeats 1600000 in
theorem cR4Compare {w : World} {N : Nat} {a b : Rat} {v0 v1 : Value} (h0 : Vq N (a) v0 w) (h1 : Vq N (b) v1 w) (h3 : 3 ≤ N) (hN : N ≤ 100000) : Calls Tryz.prog 37 #[v0, v1] w (RV (Vi (cmpQ a b)) w) := by
  go_enter Tryz.func37, Tryz.ntmps37
  have st0 : St w.heap.size w 16 [] [(0, Vq N (a)), (1, Vq N (b))] _ w := St.begin (a := ⟨#[v0, v1, undef, undef, undef, undef, undef, undef, undef, undef, undef, undef, undef, undef, undef, undef], []⟩) rfl rfl (List.forall_mem_cons.2 ⟨⟨_, rfl, h0⟩, (List.forall_mem_cons.2 ⟨⟨_, rfl, h1⟩, (fun _ h => absurd h (by simp))⟩)⟩)
  generalize (⟨#[v0, v1, undef, undef, undef, undef, undef, undef, undef, undef, undef, undef, undef, undef, undef, undef], []⟩ : Act) = a0 at st0 ⊢
  repeat first | refine wp_seq ?_ | refine wp_block ?_ | refine wp_skip ?_ | refine wp_exit ?_
  refine rg (BT := []) (Vl := [VT, VT, Vi (0)]) (B := [⟨2, some 0, some 0, 27, 4, Vq N (a), VT⟩, ⟨3, some 1, some 1, 27, 4, Vq N (b), VT⟩]) (SL' := [(4, Vi (0))]) st0 ⟨ks, ks, ks, trivial⟩ ?_
  intro a1 w1 st1
  clear st0
  repeat first | refine wp_seq ?_ | refine wp_block ?_ | refine wp_skip ?_ | refine wp_exit ?_
  refine rg (BT := []) (Vl := [Vpt a1 2 0, Vz N ((a).num), Vq N (b), Vz N (((b).den : Int)), Vz (N + N) (((a).num) * (((b).den : Int))), Vpt a1 3 0, Vz N ((b).num), Vq N (a), Vz N (((a).den : Int)), Vz (N + N) (((b).num) * (((a).den : Int))), Vi (cmpI (((a).num) * (((b).den : Int))) (((b).num) * (((a).den : Int)))), Vi (cmpI (((a).num) * (((b).den : Int))) (((b).num) * (((a).den : Int))))]) (B := [⟨2, none, none, 27, 4, Vq N (a), VT⟩, ⟨3, none, none, 27, 4, Vq N (b), VT⟩]) (SL' := [(4, Vi (cmpI (((a).num) * (((b).den : Int))) (((b).num) * (((a).den : Int)))))]) st1 ⟨ks, ks, ks, ?s3, ?s4, ks, ks, ks, ?s8, ?s9, ?s10, ks, trivial⟩ ?_
  case s3 => refine kc fun _ ac Wd h hd => ?_; obtain ⟨v0, hv0, hV0⟩ := h.dp hd 7; exact ⟨#[v0], by simp [hv0], cR4Den (show Vq N (b) v0 Wd from hV0) (by omega)⟩
  case s4 =>
    refine kc fun _ ac Wd h hd => ?_
    obtain ⟨v0, hv0, hV0⟩ := h.dp hd 6
    obtain ⟨v1, hv1, hV1⟩ := h.dp hd 8
    exact ⟨#[v0, v1], by simp [hv0, hv1], (cRMul (show Vz N ((a).num) v0 Wd from hV0) (show Vz N (((b).den : Int)) v1 Wd from hV1) (by omega) (by omega))⟩
  case s8 => refine kc fun _ ac Wd h hd => ?_; obtain ⟨v0, hv0, hV0⟩ := h.dp hd 12; exact ⟨#[v0], by simp [hv0], cR4Den (show Vq N (a) v0 Wd from hV0) (by omega)⟩
  case s9 =>
    refine kc fun _ ac Wd h hd => ?_
    obtain ⟨v0, hv0, hV0⟩ := h.dp hd 11
    obtain ⟨v1, hv1, hV1⟩ := h.dp hd 13
    exact ⟨#[v0, v1], by simp [hv0, hv1], (cRMul (show Vz N ((b).num) v0 Wd from hV0) (show Vz N (((a).den : Int)) v1 Wd from hV1) (by omega) (by omega))⟩
  case s10 =>
    refine kc fun _ ac Wd h hd => ?_
    obtain ⟨v0, hv0, hV0⟩ := h.dp hd 9
    obtain ⟨v1, hv1, hV1⟩ := h.dp hd 14
    exact ⟨#[v0, v1], by simp [hv0, hv1], (cRCompare (show Vz (N + N) (((a).num) * (((b).den : Int))) v0 Wd from hV0) (show Vz (N + N) (((b).num) * (((a).den : Int))) v1 Wd from hV1) (by omega) (by omega))⟩
  intro a2 w2 st2
  clear st1
  repeat first | refine wp_seq ?_ | refine wp_block ?_ | refine wp_skip ?_ | refine wp_exit ?_
  obtain ⟨vr, r1, r4⟩ := st2.slot (4, Vi (cmpI (((a).num) * (((b).den : Int))) (((b).num) * (((a).den : Int))))) (.head _)
  exact wp_ret (bodyPost_ret (results_tmp rfl _ _ _) st2.defers ⟨_, congrArg Ending.returned (show _ = vr from r1), r4, st2.k.below⟩)
theorem VP2_le {k1 k2 : Nat} {A B A' B' : VP} {v : Value} {w : World} (h : VP2 k1 k2 A B v w) (hA : ∀ v, A v w → A' v w) (hB : ∀ v, B v w → B' v w) : VP2 k1 k2 A' B' v w := by
  obtain ⟨x, y, h1, h2, h3, h4, h5⟩ := h
  exact ⟨x, y, h1, h2, h3, hA _ h4, hB _ h5⟩
end Go.Proofs.YtleijkgdpmfabaaGreatDoor
