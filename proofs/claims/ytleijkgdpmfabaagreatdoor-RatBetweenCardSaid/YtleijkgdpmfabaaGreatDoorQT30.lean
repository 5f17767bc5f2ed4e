/- RatBetween: the walk. -/
import Derived.Test.YtleijkgdpmfabaaGreatDoorQX4
import Derived.Test.YtleijkgdpmfabaaGreatDoorQT29
set_option linter.unusedVariables false
namespace Go.Proofs.YtleijkgdpmfabaaGreatDoor
open Go.RowKit
theorem btw_facts {a b : Rat} (sa : Sm a) (sb : Sm b) (h : ¬ b < a) : a ≤ btv a b ∧ btv a b ≤ b ∧ btv a (btv a b) = btv a b ∧ btv (btv a b) b = btv a b ∧ ∀ s : Rat, a ≤ s → s ≤ b → ((btv a b).den : Int) ≤ s.den := by
  have hab : a ≤ b := by grind
  by_cases hp : 0 < a
  · obtain ⟨q1, -⟩ := lsQ_spec hp hab sa sb
    have e : btv a b = lsQ a b := by unfold btv; rw [if_neg h, if_pos hp]
    rw [e]
    obtain ⟨l1, l2⟩ := q1.le
    refine ⟨l1, l2, ?_, ?_, fun s h1 h2 => (q1.den h1 h2).2⟩
    · unfold btv
      rw [if_neg (by grind), if_pos hp]
      exact lsQ_eq (q1.sub Rat.le_refl l1 Rat.le_refl l2)
    · unfold btv
      rw [if_neg (by grind), if_pos (by grind)]
      exact lsQ_eq (q1.sub l1 Rat.le_refl l2 Rat.le_refl)
  by_cases hn : b < 0
  · obtain ⟨q1, -⟩ := lsQ_spec (a := -b) (b := -a) (by grind) (by grind) sb.neg sa.neg
    have e : btv a b = -(lsQ (-b) (-a)) := by unfold btv; rw [if_neg h, if_neg hp, if_pos hn]
    rw [e]
    obtain ⟨l1, l2⟩ := q1.le
    refine ⟨by grind, by grind, ?_, ?_, fun s h1 h2 => ?_⟩
    · unfold btv
      rw [if_neg (by grind), if_neg hp, if_pos (by grind), Rat.neg_neg]
      exact congrArg (fun q : Rat => -q) (lsQ_eq (q1.sub l1 Rat.le_refl l2 Rat.le_refl))
    · unfold btv
      rw [if_neg (by grind), if_neg (by grind), if_pos hn, Rat.neg_neg]
      exact congrArg (fun q : Rat => -q) (lsQ_eq (q1.sub Rat.le_refl l1 Rat.le_refl l2))
    · have := (q1.den (s := -s) (by grind) (by grind)).2
      rw [Rat.neg_den] at this ⊢
      exact this
  · have e : btv a b = 0 := by unfold btv; rw [if_neg h, if_neg hp, if_neg hn]
    rw [e]
    refine ⟨by grind, by grind, ?_, ?_, fun s _ _ => ?_⟩
    · unfold btv
      rw [if_neg (by grind), if_neg hp, if_neg (by grind)]
    · unfold btv
      rw [if_neg (by grind), if_neg (by grind), if_neg hn]
    · have := den0 s
      show (1 : Int) ≤ _
      omega
theorem divInt_int (z : Int) : Rat.divInt z 1 = (z : Rat) := by rw [Rat.divInt_eq_div]; grind
theorem step_no {a b x : Rat} (hm : ∀ s : Rat, a ≤ s → s ≤ b → (x.den : Int) ≤ s.den) {j c : Int} (hj : 0 < j) (hjx : j < x.den) (hc : -(dq (-(a * Rat.divInt j 1)).num ((-(a * Rat.divInt j 1)).den : Int)) = c) : ¬ cmpQ (Rat.divInt c j) b ≤ 0 := by
  intro h
  rw [cmpQ_le] at h
  obtain ⟨lo, hi, h1, h2, h3⟩ := fl_ce' (a * Rat.divInt j 1)
  obtain rfl : hi = c := h2.symm.trans hc
  have h4 : a * Rat.divInt j 1 ≤ Rat.divInt hi 1 := by
    rcases h3 with ⟨e1, e2⟩ | ⟨e1, e2, e3⟩
    · rw [← e1, e2]; exact Rat.le_refl
    · exact Rat.le_of_lt e3
  have hj0 : (0 : Rat) < (j : Rat) := by rw [← divInt_int, pos_iff', (whole_n j).1]; exact hj
  have h5 : Rat.divInt hi j * (j : Rat) = (hi : Rat) := by rw [Rat.divInt_eq_div]; grind
  have h6 : a ≤ Rat.divInt hi j := by
    rw [divInt_int, divInt_int, ← h5] at h4
    exact Rat.not_lt.1 fun h => by
      have := (Rat.mul_lt_mul_right hj0).2 h
      grind
  have h7 := hm _ h6 h
  have h8 := (make_low (p := hi) hj).2
  have h9 : j / (Int.gcd hi j : Int) ≤ j := Int.ediv_le_self _ (by omega)
  omega
set_option maxRecDepth 100000 in
set_option maxHeartbeats 1600000 in
theorem walkRatBetween {w : World} {l mm : List Int} {v0 v1 : Value} (h0 : VI l v0 w) (h1 : VI mm v1 w) (hT : Tb w) : Calls Tryz.prog 6 #[v0, v1] w (RV (Vb true) w) := by
  go_enter Tryz.func6, Tryz.ntmps6
  have st0 : St w.heap.size w 127 [] [(0, VI l), (1, VI mm)] _ w := St.begin (a := ⟨#[v0, v1, undef, undef, undef, undef, undef, undef, undef, undef, undef, undef, undef, undef, undef, undef, undef, undef, undef, undef, undef, undef, undef, undef, undef, undef, undef, undef, undef, undef, undef, undef, undef, undef, undef, undef, undef, undef, undef, undef, undef, undef, undef, undef, undef, undef, undef, undef, undef, undef, undef, undef, undef, undef, undef, undef, undef, undef, undef, undef, undef, undef, undef, undef, undef, undef, undef, undef, undef, undef, undef, undef, undef, undef, undef, undef, undef, undef, undef, undef, undef, undef, undef, undef, undef, undef, undef, undef, undef, undef, undef, undef, undef, undef, undef, undef, undef, undef, undef, undef, undef, undef, undef, undef, undef, undef, undef, undef, undef, undef, undef, undef, undef, undef, undef, undef, undef, undef, undef, undef, undef, undef, undef, undef, undef, undef, undef], []⟩) rfl rfl (List.forall_mem_cons.2 ⟨⟨_, rfl, h0⟩, (List.forall_mem_cons.2 ⟨⟨_, rfl, h1⟩, (fun _ h => absurd h (by simp))⟩)⟩)
  generalize (⟨#[v0, v1, undef, undef, undef, undef, undef, undef, undef, undef, undef, undef, undef, undef, undef, undef, undef, undef, undef, undef, undef, undef, undef, undef, undef, undef, undef, undef, undef, undef, undef, undef, undef, undef, undef, undef, undef, undef, undef, undef, undef, undef, undef, undef, undef, undef, undef, undef, undef, undef, undef, undef, undef, undef, undef, undef, undef, undef, undef, undef, undef, undef, undef, undef, undef, undef, undef, undef, undef, undef, undef, undef, undef, undef, undef, undef, undef, undef, undef, undef, undef, undef, undef, undef, undef, undef, undef, undef, undef, undef, undef, undef, undef, undef, undef, undef, undef, undef, undef, undef, undef, undef, undef, undef, undef, undef, undef, undef, undef, undef, undef, undef, undef, undef, undef, undef, undef, undef, undef, undef, undef, undef, undef, undef, undef, undef, undef], []⟩ : Act) = a0 at st0 ⊢
  repeat first|refine wp_seq ?_|refine wp_block ?_|refine wp_skip ?_|refine wp_exit ?_
  refine rg (BT := [(27, 4, 0), (24, 2, 0)]) (Vl := [Vb (false)]) (B := []) (SL' := [(0, VI l), (1, VI mm), (4, Vb (false))]) st0 ⟨ks, trivial⟩ ?_
  intro a1 w1 st1
  clear st0
  repeat first|refine wp_seq ?_|refine wp_block ?_|refine wp_skip ?_|refine wp_exit ?_
  refine rg (BT := [(27, 4, 0), (24, 2, 0)]) (Vl := [VI l, VexQ (fun x => Vq 6 x), VT, VT]) (B := [⟨5, some 2, some 3, 27, 4, VexQ (fun x => Vq 6 x), VT⟩]) (SL' := [(1, VI mm), (4, Vb (false))]) st1 ⟨ks, ?s1, ks, ks, trivial⟩ ?_
  case s1 =>
    refine kc fun _ ac Wd h hd => ?_
    obtain ⟨v0, hv0, hV0⟩ := h.dp hd 19
    exact ⟨#[v0, .int .i64 (0)], by simp [hv0, eval_const], cR4Number (show VI l v0 Wd from hV0) (show Vi (0) (.int .i64 (0)) Wd from rfl) (by omega) (by omega)⟩
  intro a2 w2 st2
  clear st1
  replace st2 : St w.heap.size w 127 [⟨5, none, none, 27, 4, VexQ (fun x => Vq 6 x), VT⟩] [(1, VI mm), (4, Vb (false))] a2 w2 := st2
  obtain ⟨a, st2⟩ := St.exQ (L1 := []) (L2 := []) st2
  replace st2 : St w.heap.size w 127 [⟨5, none, none, 27, 4, Vq 6 (a), VT⟩] [(1, VI mm), (4, Vb (false))] a2 w2 := st2
  repeat first|refine wp_seq ?_|refine wp_block ?_|refine wp_skip ?_|refine wp_exit ?_
  refine rg (BT := [(27, 4, 0), (24, 2, 0)]) (Vl := [VI mm, VexQ (fun x => Vq 6 x), VT, VT]) (B := [⟨5, none, none, 27, 4, Vq 6 (a), VT⟩, ⟨6, some 2, some 3, 27, 4, VexQ (fun x => Vq 6 x), VT⟩]) (SL' := [(4, Vb (false))]) st2 ⟨ks, ?s1, ks, ks, trivial⟩ ?_
  case s1 =>
    refine kc fun _ ac Wd h hd => ?_
    obtain ⟨v0, hv0, hV0⟩ := h.dp hd 21
    exact ⟨#[v0, .int .i64 (0)], by simp [hv0, eval_const], cR4Number (show VI mm v0 Wd from hV0) (show Vi (0) (.int .i64 (0)) Wd from rfl) (by omega) (by omega)⟩
  intro a3 w3 st3
  clear st2
  replace st3 : St w.heap.size w 127 [⟨5, none, none, 27, 4, Vq 6 (a), VT⟩, ⟨6, none, none, 27, 4, VexQ (fun x => Vq 6 x), VT⟩] [(4, Vb (false))] a3 w3 := st3
  obtain ⟨b, st3⟩ := St.exQ (L1 := [⟨5, none, none, 27, 4, Vq 6 (a), VT⟩]) (L2 := []) st3
  replace st3 : St w.heap.size w 127 [⟨5, none, none, 27, 4, Vq 6 (a), VT⟩, ⟨6, none, none, 27, 4, Vq 6 (b), VT⟩] [(4, Vb (false))] a3 w3 := st3
  replace st3 : St w.heap.size w 127 [⟨5, none, none, 27, 4, Vq 6 (a), VT⟩, ⟨6, none, none, 27, 4, Vq 6 (b), VT⟩] [(4, Vb (false))] a3 w3 := st3
  have sa : Sm a := by
    obtain ⟨g, cs, -, -, -, -, -, e6, -⟩ := st3.k.ok ⟨5, none, none, 27, 4, Vq 6 (a), VT⟩ (.head _) rfl
    exact Vq_sm (e6 rfl)
  have sb : Sm b := by
    obtain ⟨g, cs, -, -, -, -, -, e6, -⟩ := st3.k.ok ⟨6, none, none, 27, 4, Vq 6 (b), VT⟩ (.tail _ (.head _)) rfl
    exact Vq_sm (e6 rfl)
  obtain ⟨x, hx⟩ : ∃ x, btv a b = x := ⟨_, rfl⟩
  obtain ⟨er, her⟩ : ∃ e, bte a b = e := ⟨_, rfl⟩
  repeat first|refine wp_seq ?_|refine wp_block ?_|refine wp_skip ?_|refine wp_exit ?_
  refine rg (BT := [(27, 4, 0), (24, 2, 0)]) (Vl := [Vq 6 (a), Vq 6 (b), VTup (Vq 6 (x)) (Vi (er)), VTup (Vq 6 (x)) (Vi (er)), Vq 6 (x), Vi (er), VT, VT, Vi (er)]) (B := [⟨5, none, none, 27, 4, Vq 6 (a), VT⟩, ⟨6, none, none, 27, 4, Vq 6 (b), VT⟩, ⟨7, some 6, some 7, 27, 4, Vq 6 (x), VT⟩]) (SL' := [(4, Vb (false)), (8, Vi (er))]) st3 ⟨ks, ks, ?s2, ks, ks, ks, ks, ks, ks, trivial⟩ ?_
  case s2 =>
    refine kc fun _ ac Wd h hd => ?_
    obtain ⟨v0, hv0, hV0⟩ := h.dp hd 24
    obtain ⟨v1, hv1, hV1⟩ := h.dp hd 25
    exact ⟨#[v0, v1], by simp [hv0, hv1], (cBtw (show Vq 6 (a) v0 Wd from hV0) (show Vq 6 (b) v1 Wd from hV1)).mono fun e w h => h.le fun v w hv => by rw [hx, her] at hv; exact hv⟩
  intro a4 w4 st4
  clear st3
  repeat first|refine wp_seq ?_|refine wp_block ?_|refine wp_skip ?_|refine wp_exit ?_
  refine rg (BT := [(27, 4, 0), (24, 2, 0)]) (Vl := [Vq 6 (a), Vq 6 (b), VTup (Vq 6 (x)) (Vi (er)), VTup (Vq 6 (x)) (Vi (er)), Vq 6 (x), Vi (er), VT, VT, Vi (er)]) (B := [⟨5, none, none, 27, 4, Vq 6 (a), VT⟩, ⟨6, none, none, 27, 4, Vq 6 (b), VT⟩, ⟨7, none, none, 27, 4, Vq 6 (x), VT⟩, ⟨9, some 6, some 7, 27, 4, Vq 6 (x), VT⟩]) (SL' := [(4, Vb (false)), (8, Vi (er)), (10, Vi (er))]) st4 ⟨ks, ks, ?s2, ks, ks, ks, ks, ks, ks, trivial⟩ ?_
  case s2 =>
    refine kc fun _ ac Wd h hd => ?_
    obtain ⟨v0, hv0, hV0⟩ := h.dp hd 30
    obtain ⟨v1, hv1, hV1⟩ := h.dp hd 31
    exact ⟨#[v0, v1], by simp [hv0, hv1], (cR4Btw (show Vq 6 (a) v0 Wd from hV0) (show Vq 6 (b) v1 Wd from hV1)).mono fun e w h => h.le fun v w hv => by rw [hx, her] at hv; exact hv⟩
  intro a5 w5 st5
  clear st4
  repeat first|refine wp_seq ?_|refine wp_block ?_|refine wp_skip ?_|refine wp_exit ?_
  refine rg (BT := [(27, 4, 0), (24, 2, 0)]) (Vl := [Vi (er), Vi (er), Vb (false), Vb (false), Vq 6 (x), Vq 6 (x), Vb (true), Vb (false), Vb (false)]) (B := [⟨5, none, none, 27, 4, Vq 6 (a), VT⟩, ⟨6, none, none, 27, 4, Vq 6 (b), VT⟩, ⟨7, none, none, 27, 4, Vq 6 (x), VT⟩, ⟨9, none, none, 27, 4, Vq 6 (x), VT⟩]) (SL' := [(4, Vb (false)), (8, Vi (er)), (10, Vi (er)), (43, Vb (false))]) st5 ⟨ks, ks, ?s2, ks, ks, ks, ?s6, ks, ks, trivial⟩ ?_
  case s2 =>
    refine kr fun _ ac Wd h hd => ?_
    obtain ⟨v0, hv0, hV0⟩ := h.dp hd 35
    have hV0' : v0 = .int .i64 (er) := hV0
    obtain ⟨v1, hv1, hV1⟩ := h.dp hd 36
    have hV1' : v1 = .int .i64 (er) := hV1
    exact ⟨_, run_neqe rfl (hv0.trans hV0') (hv1.trans hV1'), congrArg Value.bool (bne_self_eq_false _)⟩
  case s6 =>
    refine kc fun _ ac Wd h hd => ?_
    obtain ⟨v0, hv0, hV0⟩ := h.dp hd 39
    obtain ⟨v1, hv1, hV1⟩ := h.dp hd 40
    exact ⟨#[v0, v1], by simp [hv0, hv1], (cL4Same (show Vq 6 (x) v0 Wd from hV0) (show Vq 6 (x) v1 Wd from hV1) (by omega)).mono fun e w h => h.le fun v w hv => hv.trans (congrArg Value.bool (decide_eq_true (rfl)))⟩
  intro a6 w6 st6
  clear st5
  repeat first|refine wp_seq ?_|refine wp_block ?_|refine wp_skip ?_|refine wp_exit ?_
  obtain ⟨vc, hc1, hc2⟩ := st6.slot (43, Vb (false)) (.tail _ (.tail _ (.tail _ (.head _))))
  refine wp_cond_false (hc1.trans hc2) ?_
  clear hc1 hc2
  by_cases hlt : b < a
  ·
    obtain rfl : er = 1 := her.symm.trans (if_pos hlt)
    repeat first|refine wp_seq ?_|refine wp_block ?_|refine wp_skip ?_|refine wp_exit ?_
    refine rg (BT := [(27, 4, 0), (24, 2, 0)]) (Vl := [Vi (1), Vb (true)]) (B := [⟨5, none, none, 27, 4, Vq 6 (a), VT⟩, ⟨6, none, none, 27, 4, Vq 6 (b), VT⟩, ⟨7, none, none, 27, 4, Vq 6 (x), VT⟩, ⟨9, none, none, 27, 4, Vq 6 (x), VT⟩]) (SL' := [(4, Vb (false)), (8, Vi (1)), (10, Vi (1)), (43, Vb (false)), (45, Vb (true))]) st6 ⟨ks, ?s1, trivial⟩ ?_
    case s1 => refine kr fun _ ac Wd h hd => ?_; obtain ⟨v0, hv0, hV0⟩ := h.dp hd 44; have hV0' : v0 = .int .i64 (1) := hV0; exact ⟨_, run_neqe rfl (hv0.trans hV0') rfl, congrArg Value.bool (rfl)⟩
    intro a7 w7 st7
    clear st6
    repeat first|refine wp_seq ?_|refine wp_block ?_|refine wp_skip ?_|refine wp_exit ?_
    obtain ⟨vc, hc1, hc2⟩ := st7.slot (45, Vb (true)) (.tail _ (.tail _ (.tail _ (.tail _ (.head _)))))
    refine wp_cond_true (hc1.trans hc2) ?_
    clear hc1 hc2
    repeat first|refine wp_seq ?_|refine wp_block ?_|refine wp_skip ?_|refine wp_exit ?_
    refine rg (BT := [(27, 4, 0), (24, 2, 0)]) (Vl := [Vb (true), Vb (true)]) (B := [⟨5, none, none, 27, 4, Vq 6 (a), VT⟩, ⟨6, none, none, 27, 4, Vq 6 (b), VT⟩, ⟨7, none, none, 27, 4, Vq 6 (x), VT⟩, ⟨9, none, none, 27, 4, Vq 6 (x), VT⟩]) (SL' := [(8, Vi (1)), (10, Vi (1)), (43, Vb (false)), (45, Vb (true)), (4, Vb (true))]) st7 ⟨?s0, ks, trivial⟩ ?_
    case s0 => refine kc fun _ ac Wd h hd => ?_; exact ⟨#[], by simp [], cL4Lives (hT.later h.k.below)⟩
    intro a8 w8 st8
    clear st7
    repeat first|refine wp_seq ?_|refine wp_block ?_|refine wp_skip ?_|refine wp_exit ?_
    obtain ⟨vr, r1, r4⟩ := st8.slot (4, Vb (true)) (.tail _ (.tail _ (.tail _ (.tail _ (.head _)))))
    exact wp_ret (bodyPost_ret (results_tmp rfl _ _ _) st8.defers ⟨_, congrArg Ending.returned (show _ = vr from r1), r4, st8.k.below⟩)
  ·
    obtain rfl : er = 0 := her.symm.trans (if_neg hlt)
    obtain ⟨f1, f2, f3, f4, f5⟩ := btw_facts sa sb hlt
    rw [hx] at f1 f2 f3 f4 f5
    have hax := f3
    have hxb := f4
    have haa := @btv_self a
    have eax : bte a x = 0 := if_neg (by grind)
    have exb : bte x b = 0 := if_neg (by grind)
    have eaa : bte a a = 0 := if_neg (by grind)
    repeat first|refine wp_seq ?_|refine wp_block ?_|refine wp_skip ?_|refine wp_exit ?_
    refine rg (BT := [(27, 4, 0), (24, 2, 0)]) (Vl := [Vi (0), Vb (false)]) (B := [⟨5, none, none, 27, 4, Vq 6 (a), VT⟩, ⟨6, none, none, 27, 4, Vq 6 (b), VT⟩, ⟨7, none, none, 27, 4, Vq 6 (x), VT⟩, ⟨9, none, none, 27, 4, Vq 6 (x), VT⟩]) (SL' := [(4, Vb (false)), (8, Vi (0)), (10, Vi (0)), (43, Vb (false)), (45, Vb (false))]) st6 ⟨ks, ?s1, trivial⟩ ?_
    case s1 => refine kr fun _ ac Wd h hd => ?_; obtain ⟨v0, hv0, hV0⟩ := h.dp hd 44; have hV0' : v0 = .int .i64 (0) := hV0; exact ⟨_, run_neqe rfl (hv0.trans hV0') rfl, congrArg Value.bool (rfl)⟩
    intro a7 w7 st7
    clear st6
    repeat first|refine wp_seq ?_|refine wp_block ?_|refine wp_skip ?_|refine wp_exit ?_
    obtain ⟨vc, hc1, hc2⟩ := st7.slot (45, Vb (false)) (.tail _ (.tail _ (.tail _ (.tail _ (.head _)))))
    refine wp_cond_false (hc1.trans hc2) ?_
    clear hc1 hc2
    repeat first|refine wp_seq ?_|refine wp_block ?_|refine wp_skip ?_|refine wp_exit ?_
    refine rg (BT := [(27, 4, 0), (24, 2, 0)]) (Vl := [Vi (1)]) (B := [⟨5, none, none, 27, 4, Vq 6 (a), VT⟩, ⟨6, none, none, 27, 4, Vq 6 (b), VT⟩, ⟨7, none, none, 27, 4, Vq 6 (x), VT⟩, ⟨9, none, none, 27, 4, Vq 6 (x), VT⟩]) (SL' := [(4, Vb (false)), (8, Vi (0)), (10, Vi (0)), (43, Vb (false)), (45, Vb (false)), (11, Vi (1))]) st7 ⟨ks, trivial⟩ ?_
    intro a8 w8 st8
    clear st7
    replace st8 : St w.heap.size w 127 [⟨5, none, none, 27, 4, Vq 6 (a), VT⟩, ⟨6, none, none, 27, 4, Vq 6 (b), VT⟩, ⟨7, none, none, 27, 4, Vq 6 (x), VT⟩] [(11, Vi (((1 : Nat) : Int)))] a8 w8 := st8.cut
    repeat first|refine wp_seq ?_|refine wp_block ?_|refine wp_skip ?_|refine wp_exit ?_
    refine wp_loop_ghost (fun m aX wX => ∃ j : Nat, j + m = 60 ∧ 1 ≤ j ∧ St w.heap.size w 127 [⟨5, none, none, 27, 4, Vq 6 (a), VT⟩, ⟨6, none, none, 27, 4, Vq 6 (b), VT⟩, ⟨7, none, none, 27, 4, Vq 6 (x), VT⟩] [(11, Vi (((j : Nat) : Int)))] aX wX) 59 ⟨1, by omega, by omega, st8⟩ ?_
    clear st8
    intro m aL wL ⟨j, hj, hj1, st8⟩
    by_cases hlj : j < 60
    ·
      repeat first|refine wp_seq ?_|refine wp_block ?_|refine wp_skip ?_|refine wp_exit ?_
      refine rg (BT := [(27, 4, 0), (24, 2, 0)]) (Vl := [Vi (((j : Nat) : Int)), Vb (true)]) (B := [⟨5, none, none, 27, 4, Vq 6 (a), VT⟩, ⟨6, none, none, 27, 4, Vq 6 (b), VT⟩, ⟨7, none, none, 27, 4, Vq 6 (x), VT⟩]) (SL' := [(11, Vi (((j : Nat) : Int))), (48, Vb (true))]) st8 ⟨ks, ?s1, trivial⟩ ?_
      case s1 =>
        refine kr fun _ ac Wd h hd => ?_
        obtain ⟨v0, hv0, hV0⟩ := h.dp hd 47
        have hV0' : v0 = .int .i64 (((j : Nat) : Int)) := hV0
        exact ⟨_, run_lssi rfl (hv0.trans hV0') rfl, congrArg Value.bool (decide_eq_true (by omega))⟩
      intro a9 w9 st9
      clear st8
      repeat first|refine wp_seq ?_|refine wp_block ?_|refine wp_skip ?_|refine wp_exit ?_
      obtain ⟨vc, hc1, hc2⟩ := st9.slot (48, Vb (true)) (.tail _ (.head _))
      refine wp_cond_true (hc1.trans hc2) ?_
      clear hc1 hc2
      by_cases hge : ((x).den : Int) ≤ ((j : Nat) : Int)
      ·
        repeat first|refine wp_seq ?_|refine wp_block ?_|refine wp_skip ?_|refine wp_exit ?_
        refine rg (BT := [(27, 4, 0), (24, 2, 0)]) (Vl := [Vi (((j : Nat) : Int)), Vz 3 (((j : Nat) : Int)), Vq 6 (x), Vz 6 (((x).den : Int)), Vi (cmpI (((j : Nat) : Int)) (((x).den : Int))), Vb (true)]) (B := [⟨5, none, none, 27, 4, Vq 6 (a), VT⟩, ⟨6, none, none, 27, 4, Vq 6 (b), VT⟩, ⟨7, none, none, 27, 4, Vq 6 (x), VT⟩]) (SL' := [(11, Vi (((j : Nat) : Int))), (48, Vb (true)), (56, Vb (true))]) st9 ⟨ks, ?s1, ks, ?s3, ?s4, ?s5, trivial⟩ ?_
        case s1 => refine kc fun _ ac Wd h hd => ?_; obtain ⟨v0, hv0, hV0⟩ := h.dp hd 51; exact ⟨#[v0], by simp [hv0], cROfV (show Vi (((j : Nat) : Int)) v0 Wd from hV0) (by omega) (by omega)⟩
        case s3 => refine kc fun _ ac Wd h hd => ?_; obtain ⟨v0, hv0, hV0⟩ := h.dp hd 53; exact ⟨#[v0], by simp [hv0], cR4Den (show Vq 6 (x) v0 Wd from hV0) (by omega)⟩
        case s4 =>
          refine kc fun _ ac Wd h hd => ?_
          obtain ⟨v0, hv0, hV0⟩ := h.dp hd 52
          obtain ⟨v1, hv1, hV1⟩ := h.dp hd 54
          exact ⟨#[v0, v1], by simp [hv0, hv1], cRCompare (show Vz 3 (((j : Nat) : Int)) v0 Wd from hV0) (show Vz 6 (((x).den : Int)) v1 Wd from hV1) (by omega) (by omega)⟩
        case s5 =>
          refine kr fun _ ac Wd h hd => ?_
          obtain ⟨v0, hv0, hV0⟩ := h.dp hd 55
          have hV0' : v0 = .int .i64 (cmpI (((j : Nat) : Int)) (((x).den : Int))) := hV0
          exact ⟨_, run_geqi rfl (hv0.trans hV0') rfl, congrArg Value.bool (decide_eq_true ((cmp_ge _ _).2 hge))⟩
        intro a10 w10 st10
        clear st9
        repeat first|refine wp_seq ?_|refine wp_block ?_|refine wp_skip ?_|refine wp_exit ?_
        obtain ⟨vc, hc1, hc2⟩ := st10.slot (56, Vb (true)) (.tail _ (.tail _ (.head _)))
        refine wp_cond_true (hc1.trans hc2) ?_
        clear hc1 hc2
        repeat first|refine wp_seq ?_|refine wp_block ?_|refine wp_skip ?_|refine wp_exit ?_
        refine rg (BT := [(27, 4, 0), (24, 2, 0)]) (Vl := [Vq 6 (a), Vq 6 (x), VTup (Vq 6 (x)) (Vi (0)), VTup (Vq 6 (x)) (Vi (0)), Vq 6 (x), Vi (0), VT, VT, Vi (0)]) (B := [⟨5, none, none, 27, 4, Vq 6 (a), VT⟩, ⟨6, none, none, 27, 4, Vq 6 (b), VT⟩, ⟨7, none, none, 27, 4, Vq 6 (x), VT⟩, ⟨13, some 6, some 7, 27, 4, Vq 6 (x), VT⟩]) (SL' := [(11, Vi (((j : Nat) : Int))), (48, Vb (true)), (56, Vb (true)), (14, Vi (0))]) st10 ⟨ks, ks, ?s2, ks, ks, ks, ks, ks, ks, trivial⟩ ?_
        case s2 =>
          refine kc fun _ ac Wd h hd => ?_
          obtain ⟨v0, hv0, hV0⟩ := h.dp hd 70
          obtain ⟨v1, hv1, hV1⟩ := h.dp hd 71
          exact ⟨#[v0, v1], by simp [hv0, hv1], (cBtw (show Vq 6 (a) v0 Wd from hV0) (show Vq 6 (x) v1 Wd from hV1)).mono fun e w h => h.le fun v w hv => by rw [hax, eax] at hv; exact hv⟩
        intro a11 w11 st11
        clear st10
        repeat first|refine wp_seq ?_|refine wp_block ?_|refine wp_skip ?_|refine wp_exit ?_
        refine rg (BT := [(27, 4, 0), (24, 2, 0)]) (Vl := [Vq 6 (x), Vq 6 (b), VTup (Vq 6 (x)) (Vi (0)), VTup (Vq 6 (x)) (Vi (0)), Vq 6 (x), Vi (0), VT, VT, Vi (0)]) (B := [⟨5, none, none, 27, 4, Vq 6 (a), VT⟩, ⟨6, none, none, 27, 4, Vq 6 (b), VT⟩, ⟨7, none, none, 27, 4, Vq 6 (x), VT⟩, ⟨13, none, none, 27, 4, Vq 6 (x), VT⟩, ⟨15, some 6, some 7, 27, 4, Vq 6 (x), VT⟩]) (SL' := [(11, Vi (((j : Nat) : Int))), (48, Vb (true)), (56, Vb (true)), (14, Vi (0)), (16, Vi (0))]) st11 ⟨ks, ks, ?s2, ks, ks, ks, ks, ks, ks, trivial⟩ ?_
        case s2 =>
          refine kc fun _ ac Wd h hd => ?_
          obtain ⟨v0, hv0, hV0⟩ := h.dp hd 76
          obtain ⟨v1, hv1, hV1⟩ := h.dp hd 77
          exact ⟨#[v0, v1], by simp [hv0, hv1], (cBtw (show Vq 6 (x) v0 Wd from hV0) (show Vq 6 (b) v1 Wd from hV1)).mono fun e w h => h.le fun v w hv => by rw [hxb, exb] at hv; exact hv⟩
        intro a12 w12 st12
        clear st11
        repeat first|refine wp_seq ?_|refine wp_block ?_|refine wp_skip ?_|refine wp_exit ?_
        refine rg (BT := [(27, 4, 0), (24, 2, 0)]) (Vl := [Vq 6 (a), Vq 6 (a), VTup (Vq 6 (a)) (Vi (0)), VTup (Vq 6 (a)) (Vi (0)), Vq 6 (a), Vi (0), VT, VT, Vi (0)]) (B := [⟨5, none, none, 27, 4, Vq 6 (a), VT⟩, ⟨6, none, none, 27, 4, Vq 6 (b), VT⟩, ⟨7, none, none, 27, 4, Vq 6 (x), VT⟩, ⟨13, none, none, 27, 4, Vq 6 (x), VT⟩, ⟨15, none, none, 27, 4, Vq 6 (x), VT⟩, ⟨17, some 6, some 7, 27, 4, Vq 6 (a), VT⟩]) (SL' := [(11, Vi (((j : Nat) : Int))), (48, Vb (true)), (56, Vb (true)), (14, Vi (0)), (16, Vi (0)), (18, Vi (0))]) st12 ⟨ks, ks, ?s2, ks, ks, ks, ks, ks, ks, trivial⟩ ?_
        case s2 =>
          refine kc fun _ ac Wd h hd => ?_
          obtain ⟨v0, hv0, hV0⟩ := h.dp hd 82
          obtain ⟨v1, hv1, hV1⟩ := h.dp hd 83
          exact ⟨#[v0, v1], by simp [hv0, hv1], (cBtw (show Vq 6 (a) v0 Wd from hV0) (show Vq 6 (a) v1 Wd from hV1)).mono fun e w h => h.le fun v w hv => by rw [haa, eaa] at hv; exact hv⟩
        intro a13 w13 st13
        clear st12
        repeat first|refine wp_seq ?_|refine wp_block ?_|refine wp_skip ?_|refine wp_exit ?_
        refine rg (BT := [(27, 4, 0), (24, 2, 0)]) (Vl := [Vi (0), Vb (true), Vb (true), Vi (0), Vb (true), Vb (true), Vb (true), Vi (0), Vb (true), Vb (true), Vb (true), Vq 6 (x), Vq 6 (x), Vb (true), Vb (true), Vb (true), Vq 6 (x), Vq 6 (x), Vb (true), Vb (true), Vb (true), Vq 6 (a), Vq 6 (a), Vb (true), Vb (true), Vb (true), Vq 6 (a), Vq 6 (x), Vi (cmpQ (a) (x)), Vb (true), Vb (true), Vb (true), Vq 6 (x), Vq 6 (b), Vi (cmpQ (x) (b)), Vb (true), Vb (true), Vb (true), Vb (true), Vb (true), Vb (true)]) (B := [⟨5, none, none, 27, 4, Vq 6 (a), VT⟩, ⟨6, none, none, 27, 4, Vq 6 (b), VT⟩, ⟨7, none, none, 27, 4, Vq 6 (x), VT⟩, ⟨13, none, none, 27, 4, Vq 6 (x), VT⟩, ⟨15, none, none, 27, 4, Vq 6 (x), VT⟩, ⟨17, none, none, 27, 4, Vq 6 (a), VT⟩]) (SL' := [(11, Vi (((j : Nat) : Int))), (48, Vb (true)), (56, Vb (true)), (14, Vi (0)), (16, Vi (0)), (18, Vi (0)), (4, Vb (true))]) st13 ⟨ks, ?s1, ks, ks, ?s4, ks, ks, ks, ?s8, ks, ks, ks, ks, ?s13, ks, ks, ks, ks, ?s18, ks, ks, ks, ks, ?s23, ks, ks, ks, ks, ?s28, ?s29, ks, ks, ks, ks, ?s34, ?s35, ks, ks, ?s38, ks, ks, trivial⟩ ?_
        case s1 => refine kr fun _ ac Wd h hd => ?_; obtain ⟨v0, hv0, hV0⟩ := h.dp hd 87; have hV0' : v0 = .int .i64 (0) := hV0; exact ⟨_, run_eqe rfl (hv0.trans hV0') rfl, congrArg Value.bool (rfl)⟩
        case s4 => refine kr fun _ ac Wd h hd => ?_; obtain ⟨v0, hv0, hV0⟩ := h.dp hd 90; have hV0' : v0 = .int .i64 (0) := hV0; exact ⟨_, run_eqe rfl (hv0.trans hV0') rfl, congrArg Value.bool (rfl)⟩
        case s8 => refine kr fun _ ac Wd h hd => ?_; obtain ⟨v0, hv0, hV0⟩ := h.dp hd 94; have hV0' : v0 = .int .i64 (0) := hV0; exact ⟨_, run_eqe rfl (hv0.trans hV0') rfl, congrArg Value.bool (rfl)⟩
        case s13 =>
          refine kc fun _ ac Wd h hd => ?_
          obtain ⟨v0, hv0, hV0⟩ := h.dp hd 98
          obtain ⟨v1, hv1, hV1⟩ := h.dp hd 99
          exact ⟨#[v0, v1], by simp [hv0, hv1], (cL4Same (show Vq 6 (x) v0 Wd from hV0) (show Vq 6 (x) v1 Wd from hV1) (by omega)).mono fun e w h => h.le fun v w hv => hv.trans (congrArg Value.bool (decide_eq_true (rfl)))⟩
        case s18 =>
          refine kc fun _ ac Wd h hd => ?_
          obtain ⟨v0, hv0, hV0⟩ := h.dp hd 103
          obtain ⟨v1, hv1, hV1⟩ := h.dp hd 104
          exact ⟨#[v0, v1], by simp [hv0, hv1], (cL4Same (show Vq 6 (x) v0 Wd from hV0) (show Vq 6 (x) v1 Wd from hV1) (by omega)).mono fun e w h => h.le fun v w hv => hv.trans (congrArg Value.bool (decide_eq_true (rfl)))⟩
        case s23 =>
          refine kc fun _ ac Wd h hd => ?_
          obtain ⟨v0, hv0, hV0⟩ := h.dp hd 108
          obtain ⟨v1, hv1, hV1⟩ := h.dp hd 109
          exact ⟨#[v0, v1], by simp [hv0, hv1], (cL4Same (show Vq 6 (a) v0 Wd from hV0) (show Vq 6 (a) v1 Wd from hV1) (by omega)).mono fun e w h => h.le fun v w hv => hv.trans (congrArg Value.bool (decide_eq_true (rfl)))⟩
        case s28 =>
          refine kc fun _ ac Wd h hd => ?_
          obtain ⟨v0, hv0, hV0⟩ := h.dp hd 113
          obtain ⟨v1, hv1, hV1⟩ := h.dp hd 114
          exact ⟨#[v0, v1], by simp [hv0, hv1], cQCompare (Na := 6) (Nb := 6) (show Vq 6 (a) v0 Wd from hV0) (show Vq 6 (x) v1 Wd from hV1) (by omega) (by omega) (by omega) (by omega)⟩
        case s29 =>
          refine kr fun _ ac Wd h hd => ?_
          obtain ⟨v0, hv0, hV0⟩ := h.dp hd 115
          have hV0' : v0 = .int .i64 (cmpQ (a) (x)) := hV0
          exact ⟨_, run_leqi rfl (hv0.trans hV0') rfl, congrArg Value.bool (decide_eq_true (cmpQ_le.2 f1))⟩
        case s34 =>
          refine kc fun _ ac Wd h hd => ?_
          obtain ⟨v0, hv0, hV0⟩ := h.dp hd 119
          obtain ⟨v1, hv1, hV1⟩ := h.dp hd 120
          exact ⟨#[v0, v1], by simp [hv0, hv1], cQCompare (Na := 6) (Nb := 6) (show Vq 6 (x) v0 Wd from hV0) (show Vq 6 (b) v1 Wd from hV1) (by omega) (by omega) (by omega) (by omega)⟩
        case s35 =>
          refine kr fun _ ac Wd h hd => ?_
          obtain ⟨v0, hv0, hV0⟩ := h.dp hd 121
          have hV0' : v0 = .int .i64 (cmpQ (x) (b)) := hV0
          exact ⟨_, run_leqi rfl (hv0.trans hV0') rfl, congrArg Value.bool (decide_eq_true (cmpQ_le.2 f2))⟩
        case s38 => refine kc fun _ ac Wd h hd => ?_; exact ⟨#[], by simp [], cL4Lives (hT.later h.k.below)⟩
        intro a14 w14 st14
        clear st13
        repeat first|refine wp_seq ?_|refine wp_block ?_|refine wp_skip ?_|refine wp_exit ?_
        obtain ⟨vr, r1, r4⟩ := st14.slot (4, Vb (true)) (.tail _ (.tail _ (.tail _ (.tail _ (.tail _ (.tail _ (.head _)))))))
        exact wp_ret (bodyPost_ret (results_tmp rfl _ _ _) st14.defers ⟨_, congrArg Ending.returned (show _ = vr from r1), r4, st14.k.below⟩)
      ·
        repeat first|refine wp_seq ?_|refine wp_block ?_|refine wp_skip ?_|refine wp_exit ?_
        refine rg (BT := [(27, 4, 0), (24, 2, 0)]) (Vl := [Vi (((j : Nat) : Int)), Vz 3 (((j : Nat) : Int)), Vq 6 (x), Vz 6 (((x).den : Int)), Vi (cmpI (((j : Nat) : Int)) (((x).den : Int))), Vb (false)]) (B := [⟨5, none, none, 27, 4, Vq 6 (a), VT⟩, ⟨6, none, none, 27, 4, Vq 6 (b), VT⟩, ⟨7, none, none, 27, 4, Vq 6 (x), VT⟩]) (SL' := [(11, Vi (((j : Nat) : Int))), (48, Vb (true)), (56, Vb (false))]) st9 ⟨ks, ?s1, ks, ?s3, ?s4, ?s5, trivial⟩ ?_
        case s1 => refine kc fun _ ac Wd h hd => ?_; obtain ⟨v0, hv0, hV0⟩ := h.dp hd 51; exact ⟨#[v0], by simp [hv0], cROfV (show Vi (((j : Nat) : Int)) v0 Wd from hV0) (by omega) (by omega)⟩
        case s3 => refine kc fun _ ac Wd h hd => ?_; obtain ⟨v0, hv0, hV0⟩ := h.dp hd 53; exact ⟨#[v0], by simp [hv0], cR4Den (show Vq 6 (x) v0 Wd from hV0) (by omega)⟩
        case s4 =>
          refine kc fun _ ac Wd h hd => ?_
          obtain ⟨v0, hv0, hV0⟩ := h.dp hd 52
          obtain ⟨v1, hv1, hV1⟩ := h.dp hd 54
          exact ⟨#[v0, v1], by simp [hv0, hv1], cRCompare (show Vz 3 (((j : Nat) : Int)) v0 Wd from hV0) (show Vz 6 (((x).den : Int)) v1 Wd from hV1) (by omega) (by omega)⟩
        case s5 =>
          refine kr fun _ ac Wd h hd => ?_
          obtain ⟨v0, hv0, hV0⟩ := h.dp hd 55
          have hV0' : v0 = .int .i64 (cmpI (((j : Nat) : Int)) (((x).den : Int))) := hV0
          exact ⟨_, run_geqi rfl (hv0.trans hV0') rfl, congrArg Value.bool (decide_eq_false (fun e => hge ((cmp_ge _ _).1 e)))⟩
        intro a10 w10 st10
        clear st9
        repeat first|refine wp_seq ?_|refine wp_block ?_|refine wp_skip ?_|refine wp_exit ?_
        obtain ⟨vc, hc1, hc2⟩ := st10.slot (56, Vb (false)) (.tail _ (.tail _ (.head _)))
        refine wp_cond_false (hc1.trans hc2) ?_
        clear hc1 hc2
        obtain ⟨ce, hce⟩ : ∃ c, -(dq (-((a) * (Rat.divInt (((j : Nat) : Int)) (1)))).num ((-((a) * (Rat.divInt (((j : Nat) : Int)) (1)))).den : Int)) = c := ⟨_, rfl⟩
        repeat first|refine wp_seq ?_|refine wp_block ?_|refine wp_skip ?_|refine wp_exit ?_
        refine rg (BT := [(27, 4, 0), (24, 2, 0)]) (Vl := [Vq 6 (a), Vi (((j : Nat) : Int)), Vq 3 (Rat.divInt (((j : Nat) : Int)) (1)), Vq ((max 6 3) + (max 6 3)) ((a) * (Rat.divInt (((j : Nat) : Int)) (1))), Vz (((max 6 3) + (max 6 3)) + 1) (ce), VT, VT]) (B := [⟨5, none, none, 27, 4, Vq 6 (a), VT⟩, ⟨6, none, none, 27, 4, Vq 6 (b), VT⟩, ⟨7, none, none, 27, 4, Vq 6 (x), VT⟩, ⟨12, some 5, some 6, 24, 2, Vz (((max 6 3) + (max 6 3)) + 1) (ce), VT⟩]) (SL' := [(11, Vi (((j : Nat) : Int))), (48, Vb (true)), (56, Vb (false))]) st10 ⟨ks, ks, ?s2, ?s3, ?s4, ks, ks, trivial⟩ ?_
        case s2 =>
          refine kc fun _ ac Wd h hd => ?_
          obtain ⟨v0, hv0, hV0⟩ := h.dp hd 58
          exact ⟨#[v0, .int .i64 (1)], by simp [hv0, eval_const], cR4Of (show Vi (((j : Nat) : Int)) v0 Wd from hV0) (show Vi (1) (.int .i64 (1)) Wd from rfl) (by omega) (by omega) (by omega) (by omega)⟩
        case s3 =>
          refine kc fun _ ac Wd h hd => ?_
          obtain ⟨v0, hv0, hV0⟩ := h.dp hd 57
          obtain ⟨v1, hv1, hV1⟩ := h.dp hd 59
          exact ⟨#[v0, v1], by simp [hv0, hv1], cR4Mul (Vq_le (M := (max 6 3)) (show Vq 6 (a) v0 Wd from hV0) (by omega)) (Vq_le (M := (max 6 3)) (show Vq 3 (Rat.divInt (((j : Nat) : Int)) (1)) v1 Wd from hV1) (by omega)) (by omega) (by omega)⟩
        case s4 =>
          refine kc fun _ ac Wd h hd => ?_
          obtain ⟨v0, hv0, hV0⟩ := h.dp hd 60
          exact ⟨#[v0], by simp [hv0], (cR4Ceil (show Vq ((max 6 3) + (max 6 3)) ((a) * (Rat.divInt (((j : Nat) : Int)) (1))) v0 Wd from hV0) (by omega) (by omega)).mono fun e w h => h.le fun v w hv => by rw [hce] at hv; exact hv⟩
        intro a11 w11 st11
        clear st10
        repeat first|refine wp_seq ?_|refine wp_block ?_|refine wp_skip ?_|refine wp_exit ?_
        refine rg (BT := [(27, 4, 0), (24, 2, 0)]) (Vl := [Vz (((max 6 3) + (max 6 3)) + 1) (ce), Vi (((j : Nat) : Int)), Vz 3 (((j : Nat) : Int)), Vq (max (((max 6 3) + (max 6 3)) + 1) 3) (Rat.divInt (ce) (((j : Nat) : Int))), Vq 6 (b), Vi (cmpQ (Rat.divInt (ce) (((j : Nat) : Int))) (b)), Vb (false)]) (B := [⟨5, none, none, 27, 4, Vq 6 (a), VT⟩, ⟨6, none, none, 27, 4, Vq 6 (b), VT⟩, ⟨7, none, none, 27, 4, Vq 6 (x), VT⟩, ⟨12, none, none, 24, 2, Vz (((max 6 3) + (max 6 3)) + 1) (ce), VT⟩]) (SL' := [(11, Vi (((j : Nat) : Int))), (48, Vb (true)), (56, Vb (false)), (68, Vb (false))]) st11 ⟨ks, ks, ?s2, ?s3, ks, ?s5, ?s6, trivial⟩ ?_
        case s2 => refine kc fun _ ac Wd h hd => ?_; obtain ⟨v0, hv0, hV0⟩ := h.dp hd 63; exact ⟨#[v0], by simp [hv0], cROfV (show Vi (((j : Nat) : Int)) v0 Wd from hV0) (by omega) (by omega)⟩
        case s3 =>
          refine kc fun _ ac Wd h hd => ?_
          obtain ⟨v0, hv0, hV0⟩ := h.dp hd 62
          obtain ⟨v1, hv1, hV1⟩ := h.dp hd 64
          exact ⟨#[v0, v1], by simp [hv0, hv1], cR4Make (Vz_le (M := (max (((max 6 3) + (max 6 3)) + 1) 3)) (show Vz (((max 6 3) + (max 6 3)) + 1) (ce) v0 Wd from hV0) (by omega)) (Vz_le (M := (max (((max 6 3) + (max 6 3)) + 1) 3)) (show Vz 3 (((j : Nat) : Int)) v1 Wd from hV1) (by omega)) (by omega) (by omega)⟩
        case s5 =>
          refine kc fun _ ac Wd h hd => ?_
          obtain ⟨v0, hv0, hV0⟩ := h.dp hd 65
          obtain ⟨v1, hv1, hV1⟩ := h.dp hd 66
          exact ⟨#[v0, v1], by simp [hv0, hv1], cR4Compare (Vq_le (M := (max (max (((max 6 3) + (max 6 3)) + 1) 3) 6)) (show Vq (max (((max 6 3) + (max 6 3)) + 1) 3) (Rat.divInt (ce) (((j : Nat) : Int))) v0 Wd from hV0) (by omega)) (Vq_le (M := (max (max (((max 6 3) + (max 6 3)) + 1) 3) 6)) (show Vq 6 (b) v1 Wd from hV1) (by omega)) (by omega) (by omega)⟩
        case s6 =>
          refine kr fun _ ac Wd h hd => ?_
          obtain ⟨v0, hv0, hV0⟩ := h.dp hd 67
          have hV0' : v0 = .int .i64 (cmpQ (Rat.divInt (ce) (((j : Nat) : Int))) (b)) := hV0
          exact ⟨_, run_leqi rfl (hv0.trans hV0') rfl, congrArg Value.bool (decide_eq_false (step_no f5 (by omega) (by omega) hce))⟩
        intro a12 w12 st12
        clear st11
        repeat first|refine wp_seq ?_|refine wp_block ?_|refine wp_skip ?_|refine wp_exit ?_
        obtain ⟨vc, hc1, hc2⟩ := st12.slot (68, Vb (false)) (.tail _ (.tail _ (.tail _ (.head _))))
        refine wp_cond_false (hc1.trans hc2) ?_
        clear hc1 hc2
        repeat first|refine wp_seq ?_|refine wp_block ?_|refine wp_skip ?_|refine wp_exit ?_
        refine rg (BT := [(27, 4, 0), (24, 2, 0)]) (Vl := [Vi (((j : Nat) : Int)), Vi (((j + 1 : Nat) : Int)), Vi (((j + 1 : Nat) : Int))]) (B := [⟨5, none, none, 27, 4, Vq 6 (a), VT⟩, ⟨6, none, none, 27, 4, Vq 6 (b), VT⟩, ⟨7, none, none, 27, 4, Vq 6 (x), VT⟩, ⟨12, none, none, 24, 2, Vz (((max 6 3) + (max 6 3)) + 1) (ce), VT⟩]) (SL' := [(48, Vb (true)), (56, Vb (false)), (68, Vb (false)), (11, Vi (((j + 1 : Nat) : Int)))]) st12 ⟨?s0, ?s1, ks, trivial⟩ ?_
        case s0 =>
          refine k_run0 SbB.out (by kernel_rfl) fun listed ac Wd h hd hnl => ⟨trivial, ?_⟩
          obtain ⟨v0, hv0, hV0⟩ := h.out0 hnl (11, Vi (((j : Nat) : Int))) (.head _) 2 (by kernel_rfl) (.inr (by kernel_rfl))
          exact ⟨_, run_move rfl, by rw [hv0]; exact hV0⟩
        case s1 =>
          refine kr fun _ ac Wd h hd => ?_
          obtain ⟨v0, hv0, hV0⟩ := h.dp hd 49
          exact ⟨_, run_addi rfl (hv0.trans (show v0 = .int .i64 ((j : Nat) : Int) from hV0)) rfl (wrap_id (by omega) (by omega)), congrArg (Value.int .i64) (by omega)⟩
        intro a13 w13 st13
        clear st12
        replace st13 : St w.heap.size w 127 [⟨5, none, none, 27, 4, Vq 6 (a), VT⟩, ⟨6, none, none, 27, 4, Vq 6 (b), VT⟩, ⟨7, none, none, 27, 4, Vq 6 (x), VT⟩, ⟨12, none, none, 24, 2, Vz (((max 6 3) + (max 6 3)) + 1) (ce), VT⟩] [(48, Vb (true)), (56, Vb (false)), (68, Vb (false)), (11, Vi (((j + 1 : Nat) : Int)))] a13 w13 := st13
        exact ⟨m - 1, by omega, j + 1, by omega, by omega, st13.cut⟩
    ·
      repeat first|refine wp_seq ?_|refine wp_block ?_|refine wp_skip ?_|refine wp_exit ?_
      refine rg (BT := [(27, 4, 0), (24, 2, 0)]) (Vl := [Vi (((j : Nat) : Int)), Vb (false)]) (B := [⟨5, none, none, 27, 4, Vq 6 (a), VT⟩, ⟨6, none, none, 27, 4, Vq 6 (b), VT⟩, ⟨7, none, none, 27, 4, Vq 6 (x), VT⟩]) (SL' := [(11, Vi (((j : Nat) : Int))), (48, Vb (false))]) st8 ⟨ks, ?s1, trivial⟩ ?_
      case s1 =>
        refine kr fun _ ac Wd h hd => ?_
        obtain ⟨v0, hv0, hV0⟩ := h.dp hd 47
        have hV0' : v0 = .int .i64 (((j : Nat) : Int)) := hV0
        exact ⟨_, run_lssi rfl (hv0.trans hV0') rfl, congrArg Value.bool (decide_eq_false (by omega))⟩
      intro a9 w9 st9
      clear st8
      repeat first|refine wp_seq ?_|refine wp_block ?_|refine wp_skip ?_|refine wp_exit ?_
      obtain ⟨vc, hc1, hc2⟩ := st9.slot (48, Vb (false)) (.tail _ (.head _))
      refine wp_cond_false (hc1.trans hc2) ?_
      clear hc1 hc2
      repeat first|refine wp_seq ?_|refine wp_block ?_|refine wp_skip ?_|refine wp_exit ?_
      refine rg (BT := [(27, 4, 0), (24, 2, 0)]) (Vl := [Vq 6 (a), Vq 6 (x), VTup (Vq 6 (x)) (Vi (0)), VTup (Vq 6 (x)) (Vi (0)), Vq 6 (x), Vi (0), VT, VT, Vi (0)]) (B := [⟨5, none, none, 27, 4, Vq 6 (a), VT⟩, ⟨6, none, none, 27, 4, Vq 6 (b), VT⟩, ⟨7, none, none, 27, 4, Vq 6 (x), VT⟩, ⟨13, some 6, some 7, 27, 4, Vq 6 (x), VT⟩]) (SL' := [(11, Vi (((j : Nat) : Int))), (48, Vb (false)), (14, Vi (0))]) st9 ⟨ks, ks, ?s2, ks, ks, ks, ks, ks, ks, trivial⟩ ?_
      case s2 =>
        refine kc fun _ ac Wd h hd => ?_
        obtain ⟨v0, hv0, hV0⟩ := h.dp hd 70
        obtain ⟨v1, hv1, hV1⟩ := h.dp hd 71
        exact ⟨#[v0, v1], by simp [hv0, hv1], (cBtw (show Vq 6 (a) v0 Wd from hV0) (show Vq 6 (x) v1 Wd from hV1)).mono fun e w h => h.le fun v w hv => by rw [hax, eax] at hv; exact hv⟩
      intro a10 w10 st10
      clear st9
      repeat first|refine wp_seq ?_|refine wp_block ?_|refine wp_skip ?_|refine wp_exit ?_
      refine rg (BT := [(27, 4, 0), (24, 2, 0)]) (Vl := [Vq 6 (x), Vq 6 (b), VTup (Vq 6 (x)) (Vi (0)), VTup (Vq 6 (x)) (Vi (0)), Vq 6 (x), Vi (0), VT, VT, Vi (0)]) (B := [⟨5, none, none, 27, 4, Vq 6 (a), VT⟩, ⟨6, none, none, 27, 4, Vq 6 (b), VT⟩, ⟨7, none, none, 27, 4, Vq 6 (x), VT⟩, ⟨13, none, none, 27, 4, Vq 6 (x), VT⟩, ⟨15, some 6, some 7, 27, 4, Vq 6 (x), VT⟩]) (SL' := [(11, Vi (((j : Nat) : Int))), (48, Vb (false)), (14, Vi (0)), (16, Vi (0))]) st10 ⟨ks, ks, ?s2, ks, ks, ks, ks, ks, ks, trivial⟩ ?_
      case s2 =>
        refine kc fun _ ac Wd h hd => ?_
        obtain ⟨v0, hv0, hV0⟩ := h.dp hd 76
        obtain ⟨v1, hv1, hV1⟩ := h.dp hd 77
        exact ⟨#[v0, v1], by simp [hv0, hv1], (cBtw (show Vq 6 (x) v0 Wd from hV0) (show Vq 6 (b) v1 Wd from hV1)).mono fun e w h => h.le fun v w hv => by rw [hxb, exb] at hv; exact hv⟩
      intro a11 w11 st11
      clear st10
      repeat first|refine wp_seq ?_|refine wp_block ?_|refine wp_skip ?_|refine wp_exit ?_
      refine rg (BT := [(27, 4, 0), (24, 2, 0)]) (Vl := [Vq 6 (a), Vq 6 (a), VTup (Vq 6 (a)) (Vi (0)), VTup (Vq 6 (a)) (Vi (0)), Vq 6 (a), Vi (0), VT, VT, Vi (0)]) (B := [⟨5, none, none, 27, 4, Vq 6 (a), VT⟩, ⟨6, none, none, 27, 4, Vq 6 (b), VT⟩, ⟨7, none, none, 27, 4, Vq 6 (x), VT⟩, ⟨13, none, none, 27, 4, Vq 6 (x), VT⟩, ⟨15, none, none, 27, 4, Vq 6 (x), VT⟩, ⟨17, some 6, some 7, 27, 4, Vq 6 (a), VT⟩]) (SL' := [(11, Vi (((j : Nat) : Int))), (48, Vb (false)), (14, Vi (0)), (16, Vi (0)), (18, Vi (0))]) st11 ⟨ks, ks, ?s2, ks, ks, ks, ks, ks, ks, trivial⟩ ?_
      case s2 =>
        refine kc fun _ ac Wd h hd => ?_
        obtain ⟨v0, hv0, hV0⟩ := h.dp hd 82
        obtain ⟨v1, hv1, hV1⟩ := h.dp hd 83
        exact ⟨#[v0, v1], by simp [hv0, hv1], (cBtw (show Vq 6 (a) v0 Wd from hV0) (show Vq 6 (a) v1 Wd from hV1)).mono fun e w h => h.le fun v w hv => by rw [haa, eaa] at hv; exact hv⟩
      intro a12 w12 st12
      clear st11
      repeat first|refine wp_seq ?_|refine wp_block ?_|refine wp_skip ?_|refine wp_exit ?_
      refine rg (BT := [(27, 4, 0), (24, 2, 0)]) (Vl := [Vi (0), Vb (true), Vb (true), Vi (0), Vb (true), Vb (true), Vb (true), Vi (0), Vb (true), Vb (true), Vb (true), Vq 6 (x), Vq 6 (x), Vb (true), Vb (true), Vb (true), Vq 6 (x), Vq 6 (x), Vb (true), Vb (true), Vb (true), Vq 6 (a), Vq 6 (a), Vb (true), Vb (true), Vb (true), Vq 6 (a), Vq 6 (x), Vi (cmpQ (a) (x)), Vb (true), Vb (true), Vb (true), Vq 6 (x), Vq 6 (b), Vi (cmpQ (x) (b)), Vb (true), Vb (true), Vb (true), Vb (true), Vb (true), Vb (true)]) (B := [⟨5, none, none, 27, 4, Vq 6 (a), VT⟩, ⟨6, none, none, 27, 4, Vq 6 (b), VT⟩, ⟨7, none, none, 27, 4, Vq 6 (x), VT⟩, ⟨13, none, none, 27, 4, Vq 6 (x), VT⟩, ⟨15, none, none, 27, 4, Vq 6 (x), VT⟩, ⟨17, none, none, 27, 4, Vq 6 (a), VT⟩]) (SL' := [(11, Vi (((j : Nat) : Int))), (48, Vb (false)), (14, Vi (0)), (16, Vi (0)), (18, Vi (0)), (4, Vb (true))]) st12 ⟨ks, ?s1, ks, ks, ?s4, ks, ks, ks, ?s8, ks, ks, ks, ks, ?s13, ks, ks, ks, ks, ?s18, ks, ks, ks, ks, ?s23, ks, ks, ks, ks, ?s28, ?s29, ks, ks, ks, ks, ?s34, ?s35, ks, ks, ?s38, ks, ks, trivial⟩ ?_
      case s1 => refine kr fun _ ac Wd h hd => ?_; obtain ⟨v0, hv0, hV0⟩ := h.dp hd 87; have hV0' : v0 = .int .i64 (0) := hV0; exact ⟨_, run_eqe rfl (hv0.trans hV0') rfl, congrArg Value.bool (rfl)⟩
      case s4 => refine kr fun _ ac Wd h hd => ?_; obtain ⟨v0, hv0, hV0⟩ := h.dp hd 90; have hV0' : v0 = .int .i64 (0) := hV0; exact ⟨_, run_eqe rfl (hv0.trans hV0') rfl, congrArg Value.bool (rfl)⟩
      case s8 => refine kr fun _ ac Wd h hd => ?_; obtain ⟨v0, hv0, hV0⟩ := h.dp hd 94; have hV0' : v0 = .int .i64 (0) := hV0; exact ⟨_, run_eqe rfl (hv0.trans hV0') rfl, congrArg Value.bool (rfl)⟩
      case s13 =>
        refine kc fun _ ac Wd h hd => ?_
        obtain ⟨v0, hv0, hV0⟩ := h.dp hd 98
        obtain ⟨v1, hv1, hV1⟩ := h.dp hd 99
        exact ⟨#[v0, v1], by simp [hv0, hv1], (cL4Same (show Vq 6 (x) v0 Wd from hV0) (show Vq 6 (x) v1 Wd from hV1) (by omega)).mono fun e w h => h.le fun v w hv => hv.trans (congrArg Value.bool (decide_eq_true (rfl)))⟩
      case s18 =>
        refine kc fun _ ac Wd h hd => ?_
        obtain ⟨v0, hv0, hV0⟩ := h.dp hd 103
        obtain ⟨v1, hv1, hV1⟩ := h.dp hd 104
        exact ⟨#[v0, v1], by simp [hv0, hv1], (cL4Same (show Vq 6 (x) v0 Wd from hV0) (show Vq 6 (x) v1 Wd from hV1) (by omega)).mono fun e w h => h.le fun v w hv => hv.trans (congrArg Value.bool (decide_eq_true (rfl)))⟩
      case s23 =>
        refine kc fun _ ac Wd h hd => ?_
        obtain ⟨v0, hv0, hV0⟩ := h.dp hd 108
        obtain ⟨v1, hv1, hV1⟩ := h.dp hd 109
        exact ⟨#[v0, v1], by simp [hv0, hv1], (cL4Same (show Vq 6 (a) v0 Wd from hV0) (show Vq 6 (a) v1 Wd from hV1) (by omega)).mono fun e w h => h.le fun v w hv => hv.trans (congrArg Value.bool (decide_eq_true (rfl)))⟩
      case s28 =>
        refine kc fun _ ac Wd h hd => ?_
        obtain ⟨v0, hv0, hV0⟩ := h.dp hd 113
        obtain ⟨v1, hv1, hV1⟩ := h.dp hd 114
        exact ⟨#[v0, v1], by simp [hv0, hv1], cQCompare (Na := 6) (Nb := 6) (show Vq 6 (a) v0 Wd from hV0) (show Vq 6 (x) v1 Wd from hV1) (by omega) (by omega) (by omega) (by omega)⟩
      case s29 =>
        refine kr fun _ ac Wd h hd => ?_
        obtain ⟨v0, hv0, hV0⟩ := h.dp hd 115
        have hV0' : v0 = .int .i64 (cmpQ (a) (x)) := hV0
        exact ⟨_, run_leqi rfl (hv0.trans hV0') rfl, congrArg Value.bool (decide_eq_true (cmpQ_le.2 f1))⟩
      case s34 =>
        refine kc fun _ ac Wd h hd => ?_
        obtain ⟨v0, hv0, hV0⟩ := h.dp hd 119
        obtain ⟨v1, hv1, hV1⟩ := h.dp hd 120
        exact ⟨#[v0, v1], by simp [hv0, hv1], cQCompare (Na := 6) (Nb := 6) (show Vq 6 (x) v0 Wd from hV0) (show Vq 6 (b) v1 Wd from hV1) (by omega) (by omega) (by omega) (by omega)⟩
      case s35 =>
        refine kr fun _ ac Wd h hd => ?_
        obtain ⟨v0, hv0, hV0⟩ := h.dp hd 121
        have hV0' : v0 = .int .i64 (cmpQ (x) (b)) := hV0
        exact ⟨_, run_leqi rfl (hv0.trans hV0') rfl, congrArg Value.bool (decide_eq_true (cmpQ_le.2 f2))⟩
      case s38 => refine kc fun _ ac Wd h hd => ?_; exact ⟨#[], by simp [], cL4Lives (hT.later h.k.below)⟩
      intro a13 w13 st13
      clear st12
      repeat first|refine wp_seq ?_|refine wp_block ?_|refine wp_skip ?_|refine wp_exit ?_
      obtain ⟨vr, r1, r4⟩ := st13.slot (4, Vb (true)) (.tail _ (.tail _ (.tail _ (.tail _ (.tail _ (.head _))))))
      exact wp_ret (bodyPost_ret (results_tmp rfl _ _ _) st13.defers ⟨_, congrArg Ending.returned (show _ = vr from r1), r4, st13.k.below⟩)
end Go.Proofs.YtleijkgdpmfabaaGreatDoor
