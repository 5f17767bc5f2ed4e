/- RatRounds: the walk. -/
import Derived.Test.YtleijkgdpmfabaaGreatDoorQT22
import Derived.Test.YtleijkgdpmfabaaGreatDoorQT23
import Derived.Test.YtleijkgdpmfabaaGreatDoorQT24
set_option linter.unusedVariables false
namespace Go.Proofs.YtleijkgdpmfabaaGreatDoor
open Go.RowKit
theorem VEp_later {T : TypeId} {k : Nat} {A : VP} {v : Value} {w W : World} (hA : Stab [] A) (h : VEp T k A v w) (hb : Below w.heap.size w W) : VEp T k A v W := by
  obtain ⟨g, o, cs, e1, e2, e3, e4⟩ := h
  exact ⟨g, o, cs, e1, (hb.block _ (lt_blk e2)).trans e2, e3, hA _ _ _ e4 (RI.of_below hb)⟩
theorem VRg_sn {g c : Nat} {us : List Unit} {v : Value} {w : World} (h : VRg 27 4 (fun _ : Unit => VexQ fun q => Vq 6 q) g c us v w) : ∃ xs : List Rat, xs.length = us.length ∧ VSn 6 xs v w := by
  obtain ⟨h3, h4, h5, (⟨h6, h7⟩ | ⟨h6, rfl, cs, q1, q2, q3, _, q4, q5⟩)⟩ := h
  · have : us = [] := List.eq_nil_of_length_eq_zero (by omega)
    subst this
    exact ⟨[], rfl, .inl ⟨h7, rfl⟩⟩
  · cases q4
    have hs : VSl 27 4 (fun _ : Unit => VexQ fun q => Vq 6 q) us (.slice (some ⟨g, 0, none⟩) us.length c) w := by
      refine ⟨g, 0, c, cs, rfl, h3, h4, q1, ?_, fun i x hx => by rw [Nat.zero_add]; exact q5 i x hx⟩
      rw [Nat.zero_add, q2]; exact Nat.mul_le_mul_left 4 h3
    obtain ⟨xs, h1, h2⟩ := VSl_choose hs
    exact ⟨xs, h1, .inr h2⟩
set_option maxRecDepth 100000 in
set_option maxHeartbeats 1600000 in
theorem walkRatRounds {w : World} {l mm : List Int} {many : Int} {v0 v1 v2 : Value} (h0 : VI l v0 w) (h1 : VI mm v1 w) (h2 : Vi (many) v2 w) (hk0 : -9223372036854775808 ≤ many) (hk1 : many ≤ 9223372036854775807) (hT : Tb w) : Calls Tryz.prog 5 #[v0, v1, v2] w (RV (Vb true) w) := by
  go_enter Tryz.func5, Tryz.ntmps5
  have st0 : St w.heap.size w 89 [] [(0, VI l), (1, VI mm), (2, Vi (many))] _ w := St.begin (a := ⟨#[v0, v1, v2, undef, undef, undef, undef, undef, undef, undef, undef, undef, undef, undef, undef, undef, undef, undef, undef, undef, undef, undef, undef, undef, undef, undef, undef, undef, undef, undef, undef, undef, undef, undef, undef, undef, undef, undef, undef, undef, undef, undef, undef, undef, undef, undef, undef, undef, undef, undef, undef, undef, undef, undef, undef, undef, undef, undef, undef, undef, undef, undef, undef, undef, undef, undef, undef, undef, undef, undef, undef, undef, undef, undef, undef, undef, undef, undef, undef, undef, undef, undef, undef, undef, undef, undef, undef, undef, undef], []⟩) rfl rfl (List.forall_mem_cons.2 ⟨⟨_, rfl, h0⟩, (List.forall_mem_cons.2 ⟨⟨_, rfl, h1⟩, (List.forall_mem_cons.2 ⟨⟨_, rfl, h2⟩, (fun _ h => absurd h (by simp))⟩)⟩)⟩)
  generalize (⟨#[v0, v1, v2, undef, undef, undef, undef, undef, undef, undef, undef, undef, undef, undef, undef, undef, undef, undef, undef, undef, undef, undef, undef, undef, undef, undef, undef, undef, undef, undef, undef, undef, undef, undef, undef, undef, undef, undef, undef, undef, undef, undef, undef, undef, undef, undef, undef, undef, undef, undef, undef, undef, undef, undef, undef, undef, undef, undef, undef, undef, undef, undef, undef, undef, undef, undef, undef, undef, undef, undef, undef, undef, undef, undef, undef, undef, undef, undef, undef, undef, undef, undef, undef, undef, undef, undef, undef, undef, undef], []⟩ : Act) = a0 at st0 ⊢
  obtain ⟨n1, hn1⟩ : ∃ n : Nat, (n : Int) = arn many 6 := ⟨(arn many 6).toNat, Int.toNat_of_nonneg (arn_lo _ _ (by omega))⟩
  have hn1b := arn_hi many 6 (by omega)
  have hqb := quot_bd (a := many) (b := 6) (by omega) hk0 hk1
  obtain ⟨n2, hn2⟩ : ∃ n : Nat, (n : Int) = arn (Int.tdiv many 6) 6 := ⟨(arn (Int.tdiv many 6) 6).toNat, Int.toNat_of_nonneg (arn_lo _ _ (by omega))⟩
  have hn2b := arn_hi (Int.tdiv many 6) 6 (by omega)
  repeat first|refine wp_seq ?_|refine wp_block ?_|refine wp_skip ?_|refine wp_exit ?_
  refine rg (BT := [(27, 4, 0)]) (Vl := [Vb (false)]) (B := []) (SL' := [(0, VI l), (1, VI mm), (2, Vi (many)), (6, Vb (false))]) st0 ⟨ks, trivial⟩ ?_
  intro a1 w1 st1
  clear st0
  repeat first|refine wp_seq ?_|refine wp_block ?_|refine wp_skip ?_|refine wp_exit ?_
  refine rg (BT := [(27, 4, 0)]) (Vl := [VI l, VexQ (fun x => Vq 6 x), VT, VT]) (B := [⟨7, some 2, some 3, 27, 4, VexQ (fun x => Vq 6 x), VT⟩]) (SL' := [(0, VI l), (1, VI mm), (2, Vi (many)), (6, Vb (false))]) st1 ⟨ks, ?s1, ks, ks, trivial⟩ ?_
  case s1 =>
    refine kc fun _ ac Wd h hd => ?_
    obtain ⟨v0, hv0, hV0⟩ := h.dp hd 16
    exact ⟨#[v0, .int .i64 (0)], by simp [hv0, eval_const], cR4Number (show VI l v0 Wd from hV0) (show Vi (0) (.int .i64 (0)) Wd from rfl) (by omega) (by omega)⟩
  intro a2 w2 st2
  clear st1
  replace st2 : St w.heap.size w 89 [⟨7, none, none, 27, 4, VexQ (fun x => Vq 6 x), VT⟩] [(0, VI l), (1, VI mm), (2, Vi (many)), (6, Vb (false))] a2 w2 := st2
  obtain ⟨a, st2⟩ := St.exQ (L1 := []) (L2 := []) st2
  replace st2 : St w.heap.size w 89 [⟨7, none, none, 27, 4, Vq 6 (a), VT⟩] [(0, VI l), (1, VI mm), (2, Vi (many)), (6, Vb (false))] a2 w2 := st2
  repeat first|refine wp_seq ?_|refine wp_block ?_|refine wp_skip ?_|refine wp_exit ?_
  refine rg (BT := [(27, 4, 0)]) (Vl := [Vq 6 (a), VTup (Vi (whv (a))) (Vb (whb (a))), VTup (Vi (whv (a))) (Vb (whb (a))), Vi (whv (a)), Vb (whb (a)), Vi (whv (a)), Vb (whb (a))]) (B := [⟨7, none, none, 27, 4, Vq 6 (a), VT⟩]) (SL' := [(0, VI l), (1, VI mm), (2, Vi (many)), (6, Vb (false)), (8, Vi (whv (a))), (9, Vb (whb (a)))]) st2 ⟨ks, ?s1, ks, ks, ks, ks, ks, trivial⟩ ?_
  case s1 => refine kc fun _ ac Wd h hd => ?_; obtain ⟨v0, hv0, hV0⟩ := h.dp hd 19; exact ⟨#[v0], by simp [hv0], cQWhole (show Vq 6 (a) v0 Wd from hV0) (by omega)⟩
  intro a3 w3 st3
  clear st2
  repeat first|refine wp_seq ?_|refine wp_block ?_|refine wp_skip ?_|refine wp_exit ?_
  refine rg (BT := [(27, 4, 0)]) (Vl := [Vq 6 (a), VTup (Vi (whv (a))) (Vb (whb (a))), VTup (Vi (whv (a))) (Vb (whb (a))), Vi (whv (a)), Vb (whb (a)), Vi (whv (a)), Vb (whb (a))]) (B := [⟨7, none, none, 27, 4, Vq 6 (a), VT⟩]) (SL' := [(0, VI l), (1, VI mm), (2, Vi (many)), (6, Vb (false)), (8, Vi (whv (a))), (9, Vb (whb (a))), (10, Vi (whv (a))), (11, Vb (whb (a)))]) st3 ⟨ks, ?s1, ks, ks, ks, ks, ks, trivial⟩ ?_
  case s1 => refine kc fun _ ac Wd h hd => ?_; obtain ⟨v0, hv0, hV0⟩ := h.dp hd 24; exact ⟨#[v0], by simp [hv0], cR4Whole (show Vq 6 (a) v0 Wd from hV0) (by omega)⟩
  intro a4 w4 st4
  clear st3
  repeat first|refine wp_seq ?_|refine wp_block ?_|refine wp_skip ?_|refine wp_exit ?_
  refine rg (BT := [(27, 4, 0)]) (Vl := [VEq (.slice none 0 0)]) (B := [⟨7, none, none, 27, 4, Vq 6 (a), VT⟩]) (SL' := [(0, VI l), (1, VI mm), (2, Vi (many)), (6, Vb (false)), (8, Vi (whv (a))), (9, Vb (whb (a))), (10, Vi (whv (a))), (11, Vb (whb (a))), (12, VEq (.slice none 0 0))]) st4 ⟨ks, trivial⟩ ?_
  intro a5 w5 st5
  clear st4
  repeat first|refine wp_seq ?_|refine wp_block ?_|refine wp_skip ?_|refine wp_exit ?_
  refine rg (BT := [(27, 4, 0)]) (Vl := [VEq (.slice none 0 0)]) (B := [⟨7, none, none, 27, 4, Vq 6 (a), VT⟩]) (SL' := [(0, VI l), (1, VI mm), (2, Vi (many)), (6, Vb (false)), (8, Vi (whv (a))), (9, Vb (whb (a))), (10, Vi (whv (a))), (11, Vb (whb (a))), (12, VEq (.slice none 0 0)), (13, VEq (.slice none 0 0))]) st5 ⟨ks, trivial⟩ ?_
  intro a6 w6 st6
  clear st5
  replace st6 : St w.heap.size w 89 [⟨7, none, none, 27, 4, Vq 6 (a), VT⟩] [(0, VI l), (1, VI mm), (2, Vi (many)), (6, Vb (false)), (8, Vi (whv (a))), (9, Vb (whb (a))), (10, Vi (whv (a))), (11, Vb (whb (a))), (12, VEq (.slice none 0 0)), (13, VEq (.slice none 0 0))] a6 w6 := st6
  obtain ⟨g7, e7, hg7, hpos, cs7, b1, b2, b3, b4⟩ := st6.boxAt (b := ⟨7, none, none, 27, 4, Vq 6 (a), VT⟩) (.head _) rfl rfl
  obtain ⟨u0, p0, s0⟩ := st6.sl (0, VI l) (lS_mem rfl)
  obtain ⟨u1, p1, s1⟩ := st6.sl (1, VI mm) (lS_mem rfl)
  obtain ⟨u2, p2, s2⟩ := st6.sl (2, Vi (many)) (lS_mem rfl)
  obtain ⟨u8, p8, s8⟩ := st6.sl (8, Vi (whv (a))) (lS_mem rfl)
  obtain ⟨u9, p9, s9⟩ := st6.sl (9, Vb (whb (a))) (lS_mem rfl)
  obtain ⟨u10, p10, s10⟩ := st6.sl (10, Vi (whv (a))) (lS_mem rfl)
  obtain ⟨u11, p11, s11⟩ := st6.sl (11, Vb (whb (a))) (lS_mem rfl)
  obtain ⟨u12, p12, s12⟩ := st6.sl (12, VEq (.slice none 0 0)) (lS_mem rfl)
  obtain ⟨u13, p13, s13⟩ := st6.sl (13, VEq (.slice none 0 0)) (lS_mem rfl)
  repeat first|refine wp_seq ?_|refine wp_block ?_|refine wp_skip ?_|refine wp_exit ?_
  obtain ⟨hb1, stB⟩ := st6.base [(0, VI l), (1, VI mm), (2, Vi (many)), (8, Vi (whv (a))), (9, Vb (whb (a))), (10, Vi (whv (a))), (11, Vb (whb (a))), (12, VEq (.slice none 0 0)), (13, VEq (.slice none 0 0)), (7, VAt w6 (VEp 27 4 (Vq 6 a)))] (List.forall_mem_cons.2 ⟨⟨_, p0, s0⟩, (List.forall_mem_cons.2 ⟨⟨_, p1, s1⟩, (List.forall_mem_cons.2 ⟨⟨_, p2, s2⟩, (List.forall_mem_cons.2 ⟨⟨_, p8, s8⟩, (List.forall_mem_cons.2 ⟨⟨_, p9, s9⟩, (List.forall_mem_cons.2 ⟨⟨_, p10, s10⟩, (List.forall_mem_cons.2 ⟨⟨_, p11, s11⟩, (List.forall_mem_cons.2 ⟨⟨_, p12, s12⟩, (List.forall_mem_cons.2 ⟨⟨_, p13, s13⟩, (List.forall_mem_cons.2 ⟨⟨_, e7, VEp_box b1 b2 b4⟩, (fun _ h => absurd h (by simp))⟩)⟩)⟩)⟩)⟩)⟩)⟩)⟩)⟩)⟩)
  clear st6
  obtain ⟨wO1, hren⟩ : ∃ z, z = w := ⟨_, rfl⟩
  subst hren
  obtain ⟨w, hren⟩ : ∃ z, z = w6 := ⟨_, rfl⟩
  subst hren
  have st6 : St w.heap.size w 89 [] [(0, VI l), (1, VI mm), (2, Vi (many)), (8, Vi (whv (a))), (9, Vb (whb (a))), (10, Vi (whv (a))), (11, Vb (whb (a))), (12, VEq (.slice none 0 0)), (13, VEq (.slice none 0 0)), (7, VAt w (VEp 27 4 (Vq 6 a)))] a6 w := stB
  clear stB
  replace hT := hT.later hb1
  replace hpos : 0 < w.heap.size := by omega
  clear p0 s0 p1 s1 p2 s2 p8 s8 p9 s9 p10 s10 p11 s11 p12 s12 p13 s13 e7 hg7 b1 b2 b3 b4
  repeat first|refine wp_seq ?_|refine wp_block ?_|refine wp_skip ?_|refine wp_exit ?_
  refine rg (BT := []) (Vl := [Vi (0)]) (B := []) (SL' := [(0, VI l), (1, VI mm), (2, Vi (many)), (8, Vi (whv (a))), (9, Vb (whb (a))), (10, Vi (whv (a))), (11, Vb (whb (a))), (12, VEq (.slice none 0 0)), (13, VEq (.slice none 0 0)), (7, VAt w (VEp 27 4 (Vq 6 a))), (14, Vi (0))]) st6 ⟨ks, trivial⟩ ?_
  intro a7 w7 st7
  clear st6
  replace st7 : St w.heap.size w 89 [] [(0, VI l), (1, VI mm), (2, Vi (many)), (8, Vi (whv (a))), (9, Vb (whb (a))), (10, Vi (whv (a))), (11, Vb (whb (a))), (12, VEq (.slice none 0 0)), (13, VEq (.slice none 0 0)), (7, VAt w (VEp 27 4 (Vq 6 a))), (14, Vi (0))] a7 w7 := st7
  obtain ⟨vR, heR, hvR⟩ := st7.sl (12, VEq (.slice none 0 0)) (lS_mem rfl)
  replace st7 := st7.reT 12 (VRg 27 4 (fun _ : Unit => VexQ fun q => Vq 6 q) 0 0 []) heR ⟨by simp, by omega, Nat.lt_of_lt_of_le hpos st7.n, .inl ⟨rfl, hvR⟩⟩
  replace st7 : St w.heap.size w 89 [] [(0, VI l), (1, VI mm), (2, Vi (many)), (7, VAt w (VEp 27 4 (Vq 6 a))), (8, Vi (whv (a))), (9, Vb (whb (a))), (10, Vi (whv (a))), (11, Vb (whb (a))), (13, VEq (.slice none 0 0)), (12, VRg 27 4 (fun _ : Unit => VexQ fun q => Vq 6 q) 0 0 ([])), (14, Vi (((0 : Nat) : Int)))] a7 w7 := st7.cut
  clear heR hvR
  repeat first|refine wp_seq ?_|refine wp_block ?_|refine wp_skip ?_|refine wp_exit ?_
  refine wp_loop_ghost (fun m aX wX => ∃ (j g c : Nat) (us : List Unit), j + m = n1 ∧ us.length = j ∧ (c = 0 ∨ w.heap.size ≤ g ∧ 0 < us.length) ∧ St w.heap.size w 89 [] [(0, VI l), (1, VI mm), (2, Vi (many)), (7, VAt w (VEp 27 4 (Vq 6 a))), (8, Vi (whv (a))), (9, Vb (whb (a))), (10, Vi (whv (a))), (11, Vb (whb (a))), (13, VEq (.slice none 0 0)), (12, VRg 27 4 (fun _ : Unit => VexQ fun q => Vq 6 q) g c (us)), (14, Vi (((j : Nat) : Int)))] aX wX) n1 ⟨0, 0, 0, [], by omega, rfl, .inl rfl, st7⟩ ?_
  clear st7
  intro m aL wL ⟨j, g, c, us, hj, hus, hxc, st7⟩
  by_cases hlt : j < n1
  ·
    repeat first|refine wp_seq ?_|refine wp_block ?_|refine wp_skip ?_|refine wp_exit ?_
    have : Sb [] (VRg 27 4 (fun _ : Unit => VexQ fun q => Vq 6 q) g c (us)) := ⟨Stab_VRg (fun x => Stab_VexQ fun _ => Stab_Vq _ _) (by decide) (by first | (refine Or.inl ?_; simp; done) | (refine Or.inr ?_; simp; done))⟩
    refine rg (BT := []) (Vl := [Vi (((j : Nat) : Int)), Vi (many), Vi (arn (many) 6), Vb (true)]) (B := []) (SL' := [(0, VI l), (1, VI mm), (2, Vi (many)), (7, VAt w (VEp 27 4 (Vq 6 a))), (8, Vi (whv (a))), (9, Vb (whb (a))), (10, Vi (whv (a))), (11, Vb (whb (a))), (13, VEq (.slice none 0 0)), (12, VRg 27 4 (fun _ : Unit => VexQ fun q => Vq 6 q) g c (us)), (14, Vi (((j : Nat) : Int))), (31, Vb (true))]) st7 ⟨ks, ks, ?s2, ?s3, trivial⟩ ?_
    case s2 =>
      refine kc fun _ ac Wd h hd => ?_
      obtain ⟨v0, hv0, hV0⟩ := h.dp hd 29
      exact ⟨#[v0, .int .i64 (6)], by simp [hv0, eval_const], cAround (show Vi (many) v0 Wd from hV0) (by omega) (by omega) (by omega) (by omega)⟩
    case s3 =>
      refine kr fun _ ac Wd h hd => ?_
      obtain ⟨v0, hv0, hV0⟩ := h.dp hd 28
      have hV0' : v0 = .int .i64 (((j : Nat) : Int)) := hV0
      obtain ⟨v1, hv1, hV1⟩ := h.dp hd 30
      have hV1' : v1 = .int .i64 (arn (many) 6) := hV1
      exact ⟨_, run_lssi rfl (hv0.trans hV0') (hv1.trans hV1'), congrArg Value.bool (decide_eq_true (by omega))⟩
    intro a8 w8 st8
    clear st7
    repeat first|refine wp_seq ?_|refine wp_block ?_|refine wp_skip ?_|refine wp_exit ?_
    obtain ⟨vc, hc1, hc2⟩ := st8.slot (31, Vb (true)) (.tail _ (.tail _ (.tail _ (.tail _ (.tail _ (.tail _ (.tail _ (.tail _ (.tail _ (.tail _ (.tail _ (.head _))))))))))))
    refine wp_cond_true (hc1.trans hc2) ?_
    clear hc1 hc2
    by_cases hrm : us.length + 1 ≤ c
    ·
      replace st8 : St w.heap.size w 89 [] [(0, VI l), (1, VI mm), (2, Vi (many)), (7, VAt w (VEp 27 4 (Vq 6 a))), (8, Vi (whv (a))), (9, Vb (whb (a))), (10, Vi (whv (a))), (11, Vb (whb (a))), (13, VEq (.slice none 0 0)), (12, VRg 27 4 (fun _ : Unit => VexQ fun q => Vq 6 q) g c (us)), (14, Vi (((j : Nat) : Int))), (31, Vb (true))] a8 w8 := st8
      obtain ⟨vR, heR, hlR, hcmR, hgR, (⟨h0, -⟩ | ⟨h0, hvR, hrow⟩)⟩ := st8.sl (12, VRg 27 4 (fun _ : Unit => VexQ fun q => Vq 6 q) g c (us)) (lS_mem rfl)
      · omega
      have h2c : 2 ≤ c := by omega
      have hgn : w.heap.size ≤ g := by omega
      replace st8 := st8.reT 12 (VEq (.slice (some ⟨g, 0, none⟩) us.length c)) heR hvR
      replace st8 : St w.heap.size w 89 [] [(0, VI l), (1, VI mm), (2, Vi (many)), (7, VAt w (VEp 27 4 (Vq 6 a))), (8, Vi (whv (a))), (9, Vb (whb (a))), (10, Vi (whv (a))), (11, Vb (whb (a))), (13, VEq (.slice none 0 0)), (12, VEq (.slice (some ⟨g, 0, none⟩) us.length c)), (14, Vi (((j : Nat) : Int))), (31, Vb (true))] a8 w8 := st8.cut
      clear heR hvR hlR
      repeat first|refine wp_seq ?_|refine wp_block ?_|refine wp_skip ?_|refine wp_exit ?_
      have : Sb ((27, 4 * c, 0) :: []) (VOn 27 4 (VexQ fun q => Vq 6 q)) := ⟨Stab_VOn (Stab_VexQ fun _ => Stab_Vq _ _) (by first | (simp; done) | (simp; omega))⟩
      refine rgR (BT := []) (Vl := [VEq (.slice (some ⟨g, 0, none⟩) us.length c), VI l, Vi (((j : Nat) : Int)), Vi ((2) * (((j : Nat) : Int))), VexQ (fun x => Vq 6 x), VOn 27 4 (VexQ fun q => Vq 6 q), VEq (.slice (some ⟨g, 0, none⟩) (us.length + 1) c), VEq (.slice (some ⟨g, 0, none⟩) (us.length + 1) c)]) (B := []) (SL' := [(0, VI l), (1, VI mm), (2, Vi (many)), (7, VAt w (VEp 27 4 (Vq 6 a))), (8, Vi (whv (a))), (9, Vb (whb (a))), (10, Vi (whv (a))), (11, Vb (whb (a))), (13, VEq (.slice none 0 0)), (14, Vi (((j : Nat) : Int))), (31, Vb (true)), (12, VEq (.slice (some ⟨g, 0, none⟩) (us.length + 1) c))]) ⟨g, 6, 27, 4 * c, VEl 4 (fun _ : Unit => VexQ fun q => Vq 6 q) (us ++ [()]), VEl 4 (fun _ : Unit => VexQ fun q => Vq 6 q) us⟩ st8 hrow ⟨fun _ => ?s0, fun _ => ks, fun _ => ks, fun _ => ?s3, fun _ => ?s4, fun _ => ?s5, fun hne => absurd rfl hne, fun _ => ks, trivial⟩ ?r6 ?_ (by kernel_rfl) (Nat.le_of_ble_eq_true rfl) (hm0 := (by show 4 * c ≠ 0; omega))
      case s0 =>
        refine k_run0 SbB.out (by kernel_rfl) fun listed ac Wd h hd hnl => ⟨trivial, ?_⟩
        obtain ⟨v0, hv0, hV0⟩ := h.out0 hnl (12, VEq (.slice (some ⟨g, 0, none⟩) us.length c)) (.tail _ (.tail _ (.tail _ (.tail _ (.tail _ (.tail _ (.tail _ (.tail _ (.tail _ (.head _)))))))))) 7 (by kernel_rfl) (.inr (by kernel_rfl))
        exact ⟨_, run_move rfl, by rw [hv0]; exact hV0⟩
      case s3 =>
        refine kr fun _ ac Wd h hd => ?_
        obtain ⟨v1, hv1, hV1⟩ := h.dp hd 36
        have hV1' : v1 = .int .i64 (((j : Nat) : Int)) := hV1
        exact ⟨_, run_muli rfl rfl (hv1.trans hV1') (wrap_id (by omega) (by omega)), rfl⟩
      case s4 =>
        refine kc fun _ ac Wd h hd => ?_
        obtain ⟨v0, hv0, hV0⟩ := h.dp hd 35
        obtain ⟨v1, hv1, hV1⟩ := h.dp hd 37
        exact ⟨#[v0, v1], by simp [hv0, hv1], cR4Number (show VI l v0 Wd from hV0) (show Vi ((2) * (((j : Nat) : Int))) v1 Wd from hV1) (by omega) (by omega)⟩
      case s5 => refine km fun _ ac Wd h hd => ?_; obtain ⟨v0, hv0, hV0⟩ := h.dp hd 38; exact bslice_Q1 rfl hv0 hV0
      case r6 => intro o ho; obtain rfl := Option.some.inj ho.symm; exact k_app (k := 4) (z := ()) rfl rfl (.inl ⟨by kernel_rfl, rfl, rfl⟩) (.inl ⟨by kernel_rfl, rfl, rfl⟩) rfl hrm h2c hgn (by kernel_rfl) (by kernel_rfl) (fun x BT => Stab_VexQ fun _ => Stab_Vq _ _) (by simp) trivial
      clear hrow
      intro a9 w9 st9 hrow
      clear st8
      replace st9 : St w.heap.size w 89 [] [(0, VI l), (1, VI mm), (2, Vi (many)), (7, VAt w (VEp 27 4 (Vq 6 a))), (8, Vi (whv (a))), (9, Vb (whb (a))), (10, Vi (whv (a))), (11, Vb (whb (a))), (13, VEq (.slice none 0 0)), (14, Vi (((j : Nat) : Int))), (31, Vb (true)), (12, VEq (.slice (some ⟨g, 0, none⟩) (us.length + 1) c))] a9 w9 := st9
      obtain ⟨vR, heR, hvR⟩ := st9.sl (12, VEq (.slice (some ⟨g, 0, none⟩) (us.length + 1) c)) (lS_mem rfl)
      replace st9 := st9.reT 12 (VRg 27 4 (fun _ : Unit => VexQ fun q => Vq 6 q) g c (us ++ [()])) heR (by obtain rfl : vR = _ := hvR; exact VRg_in hrm hcmR (by obtain ⟨cs, q1, -⟩ := hrow; exact lt_blk q1) hrow)
      replace st9 : St w.heap.size w 89 [] [(0, VI l), (1, VI mm), (2, Vi (many)), (7, VAt w (VEp 27 4 (Vq 6 a))), (8, Vi (whv (a))), (9, Vb (whb (a))), (10, Vi (whv (a))), (11, Vb (whb (a))), (13, VEq (.slice none 0 0)), (14, Vi (((j : Nat) : Int))), (31, Vb (true)), (12, VRg 27 4 (fun _ : Unit => VexQ fun q => Vq 6 q) g c (us ++ [()]))] a9 w9 := st9.cut
      clear heR hvR hrow hcmR hgR h0
      repeat first|refine wp_seq ?_|refine wp_block ?_|refine wp_skip ?_|refine wp_exit ?_
      have : Sb [] (VRg 27 4 (fun _ : Unit => VexQ fun q => Vq 6 q) g c (us ++ [()])) := ⟨Stab_VRg (fun x => Stab_VexQ fun _ => Stab_Vq _ _) (by decide) (by first | (refine Or.inl ?_; simp; done) | (refine Or.inr ?_; simp; done))⟩
      refine rg (BT := []) (Vl := [Vi (((j : Nat) : Int)), Vi (((j + 1 : Nat) : Int)), Vi (((j + 1 : Nat) : Int))]) (B := []) (SL' := [(0, VI l), (1, VI mm), (2, Vi (many)), (7, VAt w (VEp 27 4 (Vq 6 a))), (8, Vi (whv (a))), (9, Vb (whb (a))), (10, Vi (whv (a))), (11, Vb (whb (a))), (13, VEq (.slice none 0 0)), (31, Vb (true)), (12, VRg 27 4 (fun _ : Unit => VexQ fun q => Vq 6 q) g c (us ++ [()])), (14, Vi (((j + 1 : Nat) : Int)))]) st9 ⟨?s0, ?s1, ks, trivial⟩ ?_
      case s0 =>
        refine k_run0 SbB.out (by kernel_rfl) fun listed ac Wd h hd hnl => ⟨trivial, ?_⟩
        obtain ⟨v0, hv0, hV0⟩ := h.out0 hnl (14, Vi (((j : Nat) : Int))) (.tail _ (.tail _ (.tail _ (.tail _ (.tail _ (.tail _ (.tail _ (.tail _ (.tail _ (.head _)))))))))) 2 (by kernel_rfl) (.inr (by kernel_rfl))
        exact ⟨_, run_move rfl, by rw [hv0]; exact hV0⟩
      case s1 =>
        refine kr fun _ ac Wd h hd => ?_
        obtain ⟨v0, hv0, hV0⟩ := h.dp hd 32
        exact ⟨_, run_addi rfl (hv0.trans (show v0 = .int .i64 ((j : Nat) : Int) from hV0)) rfl (wrap_id (by omega) (by omega)), congrArg (Value.int .i64) (by omega)⟩
      intro a10 w10 st10
      clear st9
      replace st10 : St w.heap.size w 89 [] [(0, VI l), (1, VI mm), (2, Vi (many)), (7, VAt w (VEp 27 4 (Vq 6 a))), (8, Vi (whv (a))), (9, Vb (whb (a))), (10, Vi (whv (a))), (11, Vb (whb (a))), (13, VEq (.slice none 0 0)), (31, Vb (true)), (12, VRg 27 4 (fun _ : Unit => VexQ fun q => Vq 6 q) g c (us ++ [()])), (14, Vi (((j + 1 : Nat) : Int)))] a10 w10 := st10
      exact ⟨m - 1, by omega, j + 1, g, c, us ++ [()], by omega, by rw [List.length_append, hus]; rfl, .inr ⟨by omega, by rw [List.length_append, List.length_singleton]; omega⟩, st10.cut⟩
    ·
      repeat first|refine wp_seq ?_|refine wp_block ?_|refine wp_skip ?_|refine wp_exit ?_
      have : Sb [] (VRg 27 4 (fun _ : Unit => VexQ fun q => Vq 6 q) g c (us)) := ⟨Stab_VRg (fun x => Stab_VexQ fun _ => Stab_Vq _ _) (by decide) (by first | (refine Or.inl ?_; simp; done) | (refine Or.inr ?_; simp; done))⟩
      have : Sb [] (VOn 27 4 (VexQ fun q => Vq 6 q)) := ⟨Stab_VOn (Stab_VexQ fun _ => Stab_Vq _ _) (by first | (simp; done) | (simp; omega))⟩
      have : Sb [] (VRx 27 4 (fun _ : Unit => VexQ fun q => Vq 6 q) w.heap.size (us ++ [()])) := ⟨Stab_VRx (fun x => Stab_VexQ fun _ => Stab_Vq _ _) (by decide) (by simp)⟩
      refine rg (BT := []) (Vl := [VRg 27 4 (fun _ : Unit => VexQ fun q => Vq 6 q) g c (us), VI l, Vi (((j : Nat) : Int)), Vi ((2) * (((j : Nat) : Int))), VexQ (fun x => Vq 6 x), VOn 27 4 (VexQ fun q => Vq 6 q), VRx 27 4 (fun _ : Unit => VexQ fun q => Vq 6 q) w.heap.size (us ++ [()]), VRx 27 4 (fun _ : Unit => VexQ fun q => Vq 6 q) w.heap.size (us ++ [()])]) (B := []) (SL' := [(0, VI l), (1, VI mm), (2, Vi (many)), (7, VAt w (VEp 27 4 (Vq 6 a))), (8, Vi (whv (a))), (9, Vb (whb (a))), (10, Vi (whv (a))), (11, Vb (whb (a))), (13, VEq (.slice none 0 0)), (14, Vi (((j : Nat) : Int))), (31, Vb (true)), (12, VRx 27 4 (fun _ : Unit => VexQ fun q => Vq 6 q) w.heap.size (us ++ [()]))]) st8 ⟨?s0, ks, ks, ?s3, ?s4, ?s5, ?s6, ks, trivial⟩ ?_
      case s0 =>
        refine k_run0 SbB.out (by kernel_rfl) fun listed ac Wd h hd hnl => ⟨trivial, ?_⟩
        obtain ⟨v0, hv0, hV0⟩ := h.out0 hnl (12, VRg 27 4 (fun _ : Unit => VexQ fun q => Vq 6 q) g c (us)) (.tail _ (.tail _ (.tail _ (.tail _ (.tail _ (.tail _ (.tail _ (.tail _ (.tail _ (.head _)))))))))) 7 (by kernel_rfl) (.inr (by kernel_rfl))
        exact ⟨_, run_move rfl, by rw [hv0]; exact hV0⟩
      case s3 =>
        refine kr fun _ ac Wd h hd => ?_
        obtain ⟨v1, hv1, hV1⟩ := h.dp hd 36
        have hV1' : v1 = .int .i64 (((j : Nat) : Int)) := hV1
        exact ⟨_, run_muli rfl rfl (hv1.trans hV1') (wrap_id (by omega) (by omega)), rfl⟩
      case s4 =>
        refine kc fun _ ac Wd h hd => ?_
        obtain ⟨v0, hv0, hV0⟩ := h.dp hd 35
        obtain ⟨v1, hv1, hV1⟩ := h.dp hd 37
        exact ⟨#[v0, v1], by simp [hv0, hv1], cR4Number (show VI l v0 Wd from hV0) (show Vi ((2) * (((j : Nat) : Int))) v1 Wd from hV1) (by omega) (by omega)⟩
      case s5 => refine km fun _ ac Wd h hd => ?_; obtain ⟨v0, hv0, hV0⟩ := h.dp hd 38; exact bslice_Q1 rfl hv0 hV0
      case s6 =>
        refine km fun _ ac Wd h hd => ?_
        obtain ⟨v0, hv0, hV0⟩ := h.dp hd 34
        obtain ⟨v1, hv1, hV1⟩ := h.dp hd 39
        exact app_grow rfl hv0 hV0 hv1 hV1 (fun x => Stab_VexQ fun _ => Stab_Vq _ _) (by omega) h.n (by omega)
      intro a9 w9 st9
      clear st8
      replace st9 : St w.heap.size w 89 [] [(0, VI l), (1, VI mm), (2, Vi (many)), (7, VAt w (VEp 27 4 (Vq 6 a))), (8, Vi (whv (a))), (9, Vb (whb (a))), (10, Vi (whv (a))), (11, Vb (whb (a))), (13, VEq (.slice none 0 0)), (14, Vi (((j : Nat) : Int))), (31, Vb (true)), (12, VRx 27 4 (fun _ : Unit => VexQ fun q => Vq 6 q) w.heap.size (us ++ [()]))] a9 w9 := st9
      obtain ⟨g2, c2, hg2, hc2, st9⟩ := st9.nameR 12 rfl
      replace st9 : St w.heap.size w 89 [] [(0, VI l), (1, VI mm), (2, Vi (many)), (7, VAt w (VEp 27 4 (Vq 6 a))), (8, Vi (whv (a))), (9, Vb (whb (a))), (10, Vi (whv (a))), (11, Vb (whb (a))), (13, VEq (.slice none 0 0)), (14, Vi (((j : Nat) : Int))), (31, Vb (true)), (12, VRg 27 4 (fun _ : Unit => VexQ fun q => Vq 6 q) g2 c2 (us ++ [()]))] a9 w9 := st9.cut
      repeat first|refine wp_seq ?_|refine wp_block ?_|refine wp_skip ?_|refine wp_exit ?_
      have : Sb [] (VRg 27 4 (fun _ : Unit => VexQ fun q => Vq 6 q) g2 c2 (us ++ [()])) := ⟨Stab_VRg (fun x => Stab_VexQ fun _ => Stab_Vq _ _) (by decide) (by first | (refine Or.inl ?_; simp; done) | (refine Or.inr ?_; simp; done))⟩
      refine rg (BT := []) (Vl := [Vi (((j : Nat) : Int)), Vi (((j + 1 : Nat) : Int)), Vi (((j + 1 : Nat) : Int))]) (B := []) (SL' := [(0, VI l), (1, VI mm), (2, Vi (many)), (7, VAt w (VEp 27 4 (Vq 6 a))), (8, Vi (whv (a))), (9, Vb (whb (a))), (10, Vi (whv (a))), (11, Vb (whb (a))), (13, VEq (.slice none 0 0)), (31, Vb (true)), (12, VRg 27 4 (fun _ : Unit => VexQ fun q => Vq 6 q) g2 c2 (us ++ [()])), (14, Vi (((j + 1 : Nat) : Int)))]) st9 ⟨?s0, ?s1, ks, trivial⟩ ?_
      case s0 =>
        refine k_run0 SbB.out (by kernel_rfl) fun listed ac Wd h hd hnl => ⟨trivial, ?_⟩
        obtain ⟨v0, hv0, hV0⟩ := h.out0 hnl (14, Vi (((j : Nat) : Int))) (.tail _ (.tail _ (.tail _ (.tail _ (.tail _ (.tail _ (.tail _ (.tail _ (.tail _ (.head _)))))))))) 2 (by kernel_rfl) (.inr (by kernel_rfl))
        exact ⟨_, run_move rfl, by rw [hv0]; exact hV0⟩
      case s1 =>
        refine kr fun _ ac Wd h hd => ?_
        obtain ⟨v0, hv0, hV0⟩ := h.dp hd 32
        exact ⟨_, run_addi rfl (hv0.trans (show v0 = .int .i64 ((j : Nat) : Int) from hV0)) rfl (wrap_id (by omega) (by omega)), congrArg (Value.int .i64) (by omega)⟩
      intro a10 w10 st10
      clear st9
      replace st10 : St w.heap.size w 89 [] [(0, VI l), (1, VI mm), (2, Vi (many)), (7, VAt w (VEp 27 4 (Vq 6 a))), (8, Vi (whv (a))), (9, Vb (whb (a))), (10, Vi (whv (a))), (11, Vb (whb (a))), (13, VEq (.slice none 0 0)), (31, Vb (true)), (12, VRg 27 4 (fun _ : Unit => VexQ fun q => Vq 6 q) g2 c2 (us ++ [()])), (14, Vi (((j + 1 : Nat) : Int)))] a10 w10 := st10
      exact ⟨m - 1, by omega, j + 1, g2, c2, us ++ [()], by omega, by rw [List.length_append, hus]; rfl, .inr ⟨by omega, by rw [List.length_append, List.length_singleton]; omega⟩, st10.cut⟩
  ·
    repeat first|refine wp_seq ?_|refine wp_block ?_|refine wp_skip ?_|refine wp_exit ?_
    have : Sb [] (VRg 27 4 (fun _ : Unit => VexQ fun q => Vq 6 q) g c (us)) := ⟨Stab_VRg (fun x => Stab_VexQ fun _ => Stab_Vq _ _) (by decide) (by first | (refine Or.inl ?_; simp; done) | (refine Or.inr ?_; simp; done))⟩
    refine rg (BT := []) (Vl := [Vi (((j : Nat) : Int)), Vi (many), Vi (arn (many) 6), Vb (false)]) (B := []) (SL' := [(0, VI l), (1, VI mm), (2, Vi (many)), (7, VAt w (VEp 27 4 (Vq 6 a))), (8, Vi (whv (a))), (9, Vb (whb (a))), (10, Vi (whv (a))), (11, Vb (whb (a))), (13, VEq (.slice none 0 0)), (12, VRg 27 4 (fun _ : Unit => VexQ fun q => Vq 6 q) g c (us)), (14, Vi (((j : Nat) : Int))), (31, Vb (false))]) st7 ⟨ks, ks, ?s2, ?s3, trivial⟩ ?_
    case s2 =>
      refine kc fun _ ac Wd h hd => ?_
      obtain ⟨v0, hv0, hV0⟩ := h.dp hd 29
      exact ⟨#[v0, .int .i64 (6)], by simp [hv0, eval_const], cAround (show Vi (many) v0 Wd from hV0) (by omega) (by omega) (by omega) (by omega)⟩
    case s3 =>
      refine kr fun _ ac Wd h hd => ?_
      obtain ⟨v0, hv0, hV0⟩ := h.dp hd 28
      have hV0' : v0 = .int .i64 (((j : Nat) : Int)) := hV0
      obtain ⟨v1, hv1, hV1⟩ := h.dp hd 30
      have hV1' : v1 = .int .i64 (arn (many) 6) := hV1
      exact ⟨_, run_lssi rfl (hv0.trans hV0') (hv1.trans hV1'), congrArg Value.bool (decide_eq_false (by omega))⟩
    intro a8 w8 st8
    clear st7
    repeat first|refine wp_seq ?_|refine wp_block ?_|refine wp_skip ?_|refine wp_exit ?_
    obtain ⟨vc, hc1, hc2⟩ := st8.slot (31, Vb (false)) (.tail _ (.tail _ (.tail _ (.tail _ (.tail _ (.tail _ (.tail _ (.tail _ (.tail _ (.tail _ (.tail _ (.head _))))))))))))
    refine wp_cond_false (hc1.trans hc2) ?_
    clear hc1 hc2
    obtain rfl : j = n1 := by omega
    clear hj hxc
    replace st8 : St w.heap.size w 89 [] [(0, VI l), (1, VI mm), (2, Vi (many)), (7, VAt w (VEp 27 4 (Vq 6 a))), (8, Vi (whv (a))), (9, Vb (whb (a))), (10, Vi (whv (a))), (11, Vb (whb (a))), (13, VEq (.slice none 0 0)), (12, VRg 27 4 (fun _ : Unit => VexQ fun q => Vq 6 q) g c (us)), (14, Vi (((j : Nat) : Int))), (31, Vb (false))] a8 w8 := st8
    obtain ⟨u12, p12, s12⟩ := st8.sl (12, VRg 27 4 (fun _ : Unit => VexQ fun q => Vq 6 q) g c (us)) (lS_mem rfl)
    obtain ⟨xs, hxs, s12⟩ := VRg_sn s12
    obtain ⟨u1, p1, s1⟩ := st8.sl (1, VI mm) (lS_mem rfl)
    obtain ⟨u2, p2, s2⟩ := st8.sl (2, Vi (many)) (lS_mem rfl)
    obtain ⟨u7, p7, s7⟩ := st8.sl (7, VAt w (VEp 27 4 (Vq 6 a))) (lS_mem rfl)
    obtain ⟨u8, p8, s8⟩ := st8.sl (8, Vi (whv (a))) (lS_mem rfl)
    obtain ⟨u9, p9, s9⟩ := st8.sl (9, Vb (whb (a))) (lS_mem rfl)
    obtain ⟨u10, p10, s10⟩ := st8.sl (10, Vi (whv (a))) (lS_mem rfl)
    obtain ⟨u11, p11, s11⟩ := st8.sl (11, Vb (whb (a))) (lS_mem rfl)
    obtain ⟨u13, p13, s13⟩ := st8.sl (13, VEq (.slice none 0 0)) (lS_mem rfl)
    repeat first|refine wp_seq ?_|refine wp_block ?_|refine wp_skip ?_|refine wp_exit ?_
    obtain ⟨hb2, stB⟩ := st8.base [(1, VI mm), (2, Vi (many)), (7, VAt w8 (VEp 27 4 (Vq 6 a))), (8, Vi (whv (a))), (9, Vb (whb (a))), (10, Vi (whv (a))), (11, Vb (whb (a))), (13, VEq (.slice none 0 0)), (12, VAt w8 (VSn 6 xs))] (List.forall_mem_cons.2 ⟨⟨_, p1, s1⟩, (List.forall_mem_cons.2 ⟨⟨_, p2, s2⟩, (List.forall_mem_cons.2 ⟨⟨_, p7, VEp_later (Stab_Vq _ _) s7 st8.k.below⟩, (List.forall_mem_cons.2 ⟨⟨_, p8, s8⟩, (List.forall_mem_cons.2 ⟨⟨_, p9, s9⟩, (List.forall_mem_cons.2 ⟨⟨_, p10, s10⟩, (List.forall_mem_cons.2 ⟨⟨_, p11, s11⟩, (List.forall_mem_cons.2 ⟨⟨_, p13, s13⟩, (List.forall_mem_cons.2 ⟨⟨_, p12, s12⟩, (fun _ h => absurd h (by simp))⟩)⟩)⟩)⟩)⟩)⟩)⟩)⟩)⟩)
    clear st8
    obtain ⟨wO2, hren⟩ : ∃ z, z = w := ⟨_, rfl⟩
    subst hren
    obtain ⟨w, hren⟩ : ∃ z, z = w8 := ⟨_, rfl⟩
    subst hren
    have st8 : St w.heap.size w 89 [] [(1, VI mm), (2, Vi (many)), (7, VAt w (VEp 27 4 (Vq 6 a))), (8, Vi (whv (a))), (9, Vb (whb (a))), (10, Vi (whv (a))), (11, Vb (whb (a))), (13, VEq (.slice none 0 0)), (12, VAt w (VSn 6 xs))] a8 w := stB
    clear stB
    replace hT := hT.later hb2
    replace hb1 := below_tr hb1 hb2
    replace hpos : 0 < w.heap.size := Nat.lt_of_lt_of_le hpos hb2.size
    clear hb2 p1 s1 p2 s2 p7 s7 p8 s8 p9 s9 p10 s10 p11 s11 p13 s13 p12 s12
    replace hxs := hxs.trans hus
    clear hus hlt
    repeat first|refine wp_seq ?_|refine wp_block ?_|refine wp_skip ?_|refine wp_exit ?_
    refine rg (BT := []) (Vl := [Vi (0)]) (B := []) (SL' := [(1, VI mm), (2, Vi (many)), (7, VAt w (VEp 27 4 (Vq 6 a))), (8, Vi (whv (a))), (9, Vb (whb (a))), (10, Vi (whv (a))), (11, Vb (whb (a))), (13, VEq (.slice none 0 0)), (12, VAt w (VSn 6 xs)), (15, Vi (0))]) st8 ⟨ks, trivial⟩ ?_
    intro a9 w9 st9
    clear st8
    replace st9 : St w.heap.size w 89 [] [(1, VI mm), (2, Vi (many)), (7, VAt w (VEp 27 4 (Vq 6 a))), (8, Vi (whv (a))), (9, Vb (whb (a))), (10, Vi (whv (a))), (11, Vb (whb (a))), (13, VEq (.slice none 0 0)), (12, VAt w (VSn 6 xs)), (15, Vi (0))] a9 w9 := st9
    obtain ⟨vR, heR, hvR⟩ := st9.sl (13, VEq (.slice none 0 0)) (lS_mem rfl)
    replace st9 := st9.reT 13 (VRg 27 4 (fun _ : Unit => VexQ fun q => Vq 6 q) 0 0 []) heR ⟨by simp, by omega, Nat.lt_of_lt_of_le hpos st9.n, .inl ⟨rfl, hvR⟩⟩
    replace st9 : St w.heap.size w 89 [] [(1, VI mm), (2, Vi (many)), (7, VAt w (VEp 27 4 (Vq 6 a))), (8, Vi (whv (a))), (9, Vb (whb (a))), (10, Vi (whv (a))), (11, Vb (whb (a))), (12, VAt w (VSn 6 xs)), (13, VRg 27 4 (fun _ : Unit => VexQ fun q => Vq 6 q) 0 0 ([])), (15, Vi (((0 : Nat) : Int)))] a9 w9 := st9.cut
    clear heR hvR
    repeat first|refine wp_seq ?_|refine wp_block ?_|refine wp_skip ?_|refine wp_exit ?_
    refine wp_loop_ghost (fun m aX wX => ∃ (j g c : Nat) (us : List Unit), j + m = n2 ∧ us.length = j ∧ (c = 0 ∨ w.heap.size ≤ g ∧ 0 < us.length) ∧ St w.heap.size w 89 [] [(1, VI mm), (2, Vi (many)), (7, VAt w (VEp 27 4 (Vq 6 a))), (8, Vi (whv (a))), (9, Vb (whb (a))), (10, Vi (whv (a))), (11, Vb (whb (a))), (12, VAt w (VSn 6 xs)), (13, VRg 27 4 (fun _ : Unit => VexQ fun q => Vq 6 q) g c (us)), (15, Vi (((j : Nat) : Int)))] aX wX) n2 ⟨0, 0, 0, [], by omega, rfl, .inl rfl, st9⟩ ?_
    clear st9
    intro m aL wL ⟨j, g, c, us, hj, hus, hxc, st9⟩
    by_cases hlt : j < n2
    ·
      repeat first|refine wp_seq ?_|refine wp_block ?_|refine wp_skip ?_|refine wp_exit ?_
      have : Sb [] (VRg 27 4 (fun _ : Unit => VexQ fun q => Vq 6 q) g c (us)) := ⟨Stab_VRg (fun x => Stab_VexQ fun _ => Stab_Vq _ _) (by decide) (by first | (refine Or.inl ?_; simp; done) | (refine Or.inr ?_; simp; done))⟩
      refine rg (BT := []) (Vl := [Vi (((j : Nat) : Int)), Vi (many), Vi (Int.tdiv many 6), Vi (arn (Int.tdiv many 6) 6), Vb (true)]) (B := []) (SL' := [(1, VI mm), (2, Vi (many)), (7, VAt w (VEp 27 4 (Vq 6 a))), (8, Vi (whv (a))), (9, Vb (whb (a))), (10, Vi (whv (a))), (11, Vb (whb (a))), (12, VAt w (VSn 6 xs)), (13, VRg 27 4 (fun _ : Unit => VexQ fun q => Vq 6 q) g c (us)), (15, Vi (((j : Nat) : Int))), (45, Vb (true))]) st9 ⟨ks, ks, ?s2, ?s3, ?s4, trivial⟩ ?_
      case s2 => refine kr fun _ ac Wd h hd => ?_; obtain ⟨v0, hv0, hV0⟩ := h.dp hd 42; exact ⟨_, run_quot rfl (hv0.trans (show v0 = .int .i64 many from hV0)) rfl (by omega) (by omega) hk0 hk1, rfl⟩
      case s3 =>
        refine kc fun _ ac Wd h hd => ?_
        obtain ⟨v0, hv0, hV0⟩ := h.dp hd 43
        exact ⟨#[v0, .int .i64 (6)], by simp [hv0, eval_const], cAround (show Vi (Int.tdiv many 6) v0 Wd from hV0) (by omega) (by omega) (by omega) (by omega)⟩
      case s4 =>
        refine kr fun _ ac Wd h hd => ?_
        obtain ⟨v0, hv0, hV0⟩ := h.dp hd 41
        have hV0' : v0 = .int .i64 (((j : Nat) : Int)) := hV0
        obtain ⟨v1, hv1, hV1⟩ := h.dp hd 44
        have hV1' : v1 = .int .i64 (arn (Int.tdiv many 6) 6) := hV1
        exact ⟨_, run_lssi rfl (hv0.trans hV0') (hv1.trans hV1'), congrArg Value.bool (decide_eq_true (by omega))⟩
      intro a10 w10 st10
      clear st9
      repeat first|refine wp_seq ?_|refine wp_block ?_|refine wp_skip ?_|refine wp_exit ?_
      obtain ⟨vc, hc1, hc2⟩ := st10.slot (45, Vb (true)) (.tail _ (.tail _ (.tail _ (.tail _ (.tail _ (.tail _ (.tail _ (.tail _ (.tail _ (.tail _ (.head _)))))))))))
      refine wp_cond_true (hc1.trans hc2) ?_
      clear hc1 hc2
      by_cases hrm : us.length + 1 ≤ c
      ·
        replace st10 : St w.heap.size w 89 [] [(1, VI mm), (2, Vi (many)), (7, VAt w (VEp 27 4 (Vq 6 a))), (8, Vi (whv (a))), (9, Vb (whb (a))), (10, Vi (whv (a))), (11, Vb (whb (a))), (12, VAt w (VSn 6 xs)), (13, VRg 27 4 (fun _ : Unit => VexQ fun q => Vq 6 q) g c (us)), (15, Vi (((j : Nat) : Int))), (45, Vb (true))] a10 w10 := st10
        obtain ⟨vR, heR, hlR, hcmR, hgR, (⟨h0, -⟩ | ⟨h0, hvR, hrow⟩)⟩ := st10.sl (13, VRg 27 4 (fun _ : Unit => VexQ fun q => Vq 6 q) g c (us)) (lS_mem rfl)
        · omega
        have h2c : 2 ≤ c := by omega
        have hgn : w.heap.size ≤ g := by omega
        replace st10 := st10.reT 13 (VEq (.slice (some ⟨g, 0, none⟩) us.length c)) heR hvR
        replace st10 : St w.heap.size w 89 [] [(1, VI mm), (2, Vi (many)), (7, VAt w (VEp 27 4 (Vq 6 a))), (8, Vi (whv (a))), (9, Vb (whb (a))), (10, Vi (whv (a))), (11, Vb (whb (a))), (12, VAt w (VSn 6 xs)), (13, VEq (.slice (some ⟨g, 0, none⟩) us.length c)), (15, Vi (((j : Nat) : Int))), (45, Vb (true))] a10 w10 := st10.cut
        clear heR hvR hlR
        repeat first|refine wp_seq ?_|refine wp_block ?_|refine wp_skip ?_|refine wp_exit ?_
        have : Sb ((27, 4 * c, 0) :: []) (VOn 27 4 (VexQ fun q => Vq 6 q)) := ⟨Stab_VOn (Stab_VexQ fun _ => Stab_Vq _ _) (by first | (simp; done) | (simp; omega))⟩
        refine rgR (BT := []) (Vl := [VEq (.slice (some ⟨g, 0, none⟩) us.length c), VI mm, Vi (((j : Nat) : Int)), Vi ((2) * (((j : Nat) : Int))), VexQ (fun x => Vq 6 x), VOn 27 4 (VexQ fun q => Vq 6 q), VEq (.slice (some ⟨g, 0, none⟩) (us.length + 1) c), VEq (.slice (some ⟨g, 0, none⟩) (us.length + 1) c)]) (B := []) (SL' := [(1, VI mm), (2, Vi (many)), (7, VAt w (VEp 27 4 (Vq 6 a))), (8, Vi (whv (a))), (9, Vb (whb (a))), (10, Vi (whv (a))), (11, Vb (whb (a))), (12, VAt w (VSn 6 xs)), (15, Vi (((j : Nat) : Int))), (45, Vb (true)), (13, VEq (.slice (some ⟨g, 0, none⟩) (us.length + 1) c))]) ⟨g, 6, 27, 4 * c, VEl 4 (fun _ : Unit => VexQ fun q => Vq 6 q) (us ++ [()]), VEl 4 (fun _ : Unit => VexQ fun q => Vq 6 q) us⟩ st10 hrow ⟨fun _ => ?s0, fun _ => ks, fun _ => ks, fun _ => ?s3, fun _ => ?s4, fun _ => ?s5, fun hne => absurd rfl hne, fun _ => ks, trivial⟩ ?r6 ?_ (by kernel_rfl) (Nat.le_of_ble_eq_true rfl) (hm0 := (by show 4 * c ≠ 0; omega))
        case s0 =>
          refine k_run0 SbB.out (by kernel_rfl) fun listed ac Wd h hd hnl => ⟨trivial, ?_⟩
          obtain ⟨v0, hv0, hV0⟩ := h.out0 hnl (13, VEq (.slice (some ⟨g, 0, none⟩) us.length c)) (.tail _ (.tail _ (.tail _ (.tail _ (.tail _ (.tail _ (.tail _ (.tail _ (.head _))))))))) 7 (by kernel_rfl) (.inr (by kernel_rfl))
          exact ⟨_, run_move rfl, by rw [hv0]; exact hV0⟩
        case s3 =>
          refine kr fun _ ac Wd h hd => ?_
          obtain ⟨v1, hv1, hV1⟩ := h.dp hd 50
          have hV1' : v1 = .int .i64 (((j : Nat) : Int)) := hV1
          exact ⟨_, run_muli rfl rfl (hv1.trans hV1') (wrap_id (by omega) (by omega)), rfl⟩
        case s4 =>
          refine kc fun _ ac Wd h hd => ?_
          obtain ⟨v0, hv0, hV0⟩ := h.dp hd 49
          obtain ⟨v1, hv1, hV1⟩ := h.dp hd 51
          exact ⟨#[v0, v1], by simp [hv0, hv1], cR4Number (show VI mm v0 Wd from hV0) (show Vi ((2) * (((j : Nat) : Int))) v1 Wd from hV1) (by omega) (by omega)⟩
        case s5 => refine km fun _ ac Wd h hd => ?_; obtain ⟨v0, hv0, hV0⟩ := h.dp hd 52; exact bslice_Q1 rfl hv0 hV0
        case r6 => intro o ho; obtain rfl := Option.some.inj ho.symm; exact k_app (k := 4) (z := ()) rfl rfl (.inl ⟨by kernel_rfl, rfl, rfl⟩) (.inl ⟨by kernel_rfl, rfl, rfl⟩) rfl hrm h2c hgn (by kernel_rfl) (by kernel_rfl) (fun x BT => Stab_VexQ fun _ => Stab_Vq _ _) (by simp) trivial
        clear hrow
        intro a11 w11 st11 hrow
        clear st10
        replace st11 : St w.heap.size w 89 [] [(1, VI mm), (2, Vi (many)), (7, VAt w (VEp 27 4 (Vq 6 a))), (8, Vi (whv (a))), (9, Vb (whb (a))), (10, Vi (whv (a))), (11, Vb (whb (a))), (12, VAt w (VSn 6 xs)), (15, Vi (((j : Nat) : Int))), (45, Vb (true)), (13, VEq (.slice (some ⟨g, 0, none⟩) (us.length + 1) c))] a11 w11 := st11
        obtain ⟨vR, heR, hvR⟩ := st11.sl (13, VEq (.slice (some ⟨g, 0, none⟩) (us.length + 1) c)) (lS_mem rfl)
        replace st11 := st11.reT 13 (VRg 27 4 (fun _ : Unit => VexQ fun q => Vq 6 q) g c (us ++ [()])) heR (by obtain rfl : vR = _ := hvR; exact VRg_in hrm hcmR (by obtain ⟨cs, q1, -⟩ := hrow; exact lt_blk q1) hrow)
        replace st11 : St w.heap.size w 89 [] [(1, VI mm), (2, Vi (many)), (7, VAt w (VEp 27 4 (Vq 6 a))), (8, Vi (whv (a))), (9, Vb (whb (a))), (10, Vi (whv (a))), (11, Vb (whb (a))), (12, VAt w (VSn 6 xs)), (15, Vi (((j : Nat) : Int))), (45, Vb (true)), (13, VRg 27 4 (fun _ : Unit => VexQ fun q => Vq 6 q) g c (us ++ [()]))] a11 w11 := st11.cut
        clear heR hvR hrow hcmR hgR h0
        repeat first|refine wp_seq ?_|refine wp_block ?_|refine wp_skip ?_|refine wp_exit ?_
        have : Sb [] (VRg 27 4 (fun _ : Unit => VexQ fun q => Vq 6 q) g c (us ++ [()])) := ⟨Stab_VRg (fun x => Stab_VexQ fun _ => Stab_Vq _ _) (by decide) (by first | (refine Or.inl ?_; simp; done) | (refine Or.inr ?_; simp; done))⟩
        refine rg (BT := []) (Vl := [Vi (((j : Nat) : Int)), Vi (((j + 1 : Nat) : Int)), Vi (((j + 1 : Nat) : Int))]) (B := []) (SL' := [(1, VI mm), (2, Vi (many)), (7, VAt w (VEp 27 4 (Vq 6 a))), (8, Vi (whv (a))), (9, Vb (whb (a))), (10, Vi (whv (a))), (11, Vb (whb (a))), (12, VAt w (VSn 6 xs)), (45, Vb (true)), (13, VRg 27 4 (fun _ : Unit => VexQ fun q => Vq 6 q) g c (us ++ [()])), (15, Vi (((j + 1 : Nat) : Int)))]) st11 ⟨?s0, ?s1, ks, trivial⟩ ?_
        case s0 =>
          refine k_run0 SbB.out (by kernel_rfl) fun listed ac Wd h hd hnl => ⟨trivial, ?_⟩
          obtain ⟨v0, hv0, hV0⟩ := h.out0 hnl (15, Vi (((j : Nat) : Int))) (.tail _ (.tail _ (.tail _ (.tail _ (.tail _ (.tail _ (.tail _ (.tail _ (.head _))))))))) 2 (by kernel_rfl) (.inr (by kernel_rfl))
          exact ⟨_, run_move rfl, by rw [hv0]; exact hV0⟩
        case s1 =>
          refine kr fun _ ac Wd h hd => ?_
          obtain ⟨v0, hv0, hV0⟩ := h.dp hd 46
          exact ⟨_, run_addi rfl (hv0.trans (show v0 = .int .i64 ((j : Nat) : Int) from hV0)) rfl (wrap_id (by omega) (by omega)), congrArg (Value.int .i64) (by omega)⟩
        intro a12 w12 st12
        clear st11
        replace st12 : St w.heap.size w 89 [] [(1, VI mm), (2, Vi (many)), (7, VAt w (VEp 27 4 (Vq 6 a))), (8, Vi (whv (a))), (9, Vb (whb (a))), (10, Vi (whv (a))), (11, Vb (whb (a))), (12, VAt w (VSn 6 xs)), (45, Vb (true)), (13, VRg 27 4 (fun _ : Unit => VexQ fun q => Vq 6 q) g c (us ++ [()])), (15, Vi (((j + 1 : Nat) : Int)))] a12 w12 := st12
        exact ⟨m - 1, by omega, j + 1, g, c, us ++ [()], by omega, by rw [List.length_append, hus]; rfl, .inr ⟨by omega, by rw [List.length_append, List.length_singleton]; omega⟩, st12.cut⟩
      ·
        repeat first|refine wp_seq ?_|refine wp_block ?_|refine wp_skip ?_|refine wp_exit ?_
        have : Sb [] (VRg 27 4 (fun _ : Unit => VexQ fun q => Vq 6 q) g c (us)) := ⟨Stab_VRg (fun x => Stab_VexQ fun _ => Stab_Vq _ _) (by decide) (by first | (refine Or.inl ?_; simp; done) | (refine Or.inr ?_; simp; done))⟩
        have : Sb [] (VOn 27 4 (VexQ fun q => Vq 6 q)) := ⟨Stab_VOn (Stab_VexQ fun _ => Stab_Vq _ _) (by first | (simp; done) | (simp; omega))⟩
        have : Sb [] (VRx 27 4 (fun _ : Unit => VexQ fun q => Vq 6 q) w.heap.size (us ++ [()])) := ⟨Stab_VRx (fun x => Stab_VexQ fun _ => Stab_Vq _ _) (by decide) (by simp)⟩
        refine rg (BT := []) (Vl := [VRg 27 4 (fun _ : Unit => VexQ fun q => Vq 6 q) g c (us), VI mm, Vi (((j : Nat) : Int)), Vi ((2) * (((j : Nat) : Int))), VexQ (fun x => Vq 6 x), VOn 27 4 (VexQ fun q => Vq 6 q), VRx 27 4 (fun _ : Unit => VexQ fun q => Vq 6 q) w.heap.size (us ++ [()]), VRx 27 4 (fun _ : Unit => VexQ fun q => Vq 6 q) w.heap.size (us ++ [()])]) (B := []) (SL' := [(1, VI mm), (2, Vi (many)), (7, VAt w (VEp 27 4 (Vq 6 a))), (8, Vi (whv (a))), (9, Vb (whb (a))), (10, Vi (whv (a))), (11, Vb (whb (a))), (12, VAt w (VSn 6 xs)), (15, Vi (((j : Nat) : Int))), (45, Vb (true)), (13, VRx 27 4 (fun _ : Unit => VexQ fun q => Vq 6 q) w.heap.size (us ++ [()]))]) st10 ⟨?s0, ks, ks, ?s3, ?s4, ?s5, ?s6, ks, trivial⟩ ?_
        case s0 =>
          refine k_run0 SbB.out (by kernel_rfl) fun listed ac Wd h hd hnl => ⟨trivial, ?_⟩
          obtain ⟨v0, hv0, hV0⟩ := h.out0 hnl (13, VRg 27 4 (fun _ : Unit => VexQ fun q => Vq 6 q) g c (us)) (.tail _ (.tail _ (.tail _ (.tail _ (.tail _ (.tail _ (.tail _ (.tail _ (.head _))))))))) 7 (by kernel_rfl) (.inr (by kernel_rfl))
          exact ⟨_, run_move rfl, by rw [hv0]; exact hV0⟩
        case s3 =>
          refine kr fun _ ac Wd h hd => ?_
          obtain ⟨v1, hv1, hV1⟩ := h.dp hd 50
          have hV1' : v1 = .int .i64 (((j : Nat) : Int)) := hV1
          exact ⟨_, run_muli rfl rfl (hv1.trans hV1') (wrap_id (by omega) (by omega)), rfl⟩
        case s4 =>
          refine kc fun _ ac Wd h hd => ?_
          obtain ⟨v0, hv0, hV0⟩ := h.dp hd 49
          obtain ⟨v1, hv1, hV1⟩ := h.dp hd 51
          exact ⟨#[v0, v1], by simp [hv0, hv1], cR4Number (show VI mm v0 Wd from hV0) (show Vi ((2) * (((j : Nat) : Int))) v1 Wd from hV1) (by omega) (by omega)⟩
        case s5 => refine km fun _ ac Wd h hd => ?_; obtain ⟨v0, hv0, hV0⟩ := h.dp hd 52; exact bslice_Q1 rfl hv0 hV0
        case s6 =>
          refine km fun _ ac Wd h hd => ?_
          obtain ⟨v0, hv0, hV0⟩ := h.dp hd 48
          obtain ⟨v1, hv1, hV1⟩ := h.dp hd 53
          exact app_grow rfl hv0 hV0 hv1 hV1 (fun x => Stab_VexQ fun _ => Stab_Vq _ _) (by omega) h.n (by omega)
        intro a11 w11 st11
        clear st10
        replace st11 : St w.heap.size w 89 [] [(1, VI mm), (2, Vi (many)), (7, VAt w (VEp 27 4 (Vq 6 a))), (8, Vi (whv (a))), (9, Vb (whb (a))), (10, Vi (whv (a))), (11, Vb (whb (a))), (12, VAt w (VSn 6 xs)), (15, Vi (((j : Nat) : Int))), (45, Vb (true)), (13, VRx 27 4 (fun _ : Unit => VexQ fun q => Vq 6 q) w.heap.size (us ++ [()]))] a11 w11 := st11
        obtain ⟨g2, c2, hg2, hc2, st11⟩ := st11.nameR 13 rfl
        replace st11 : St w.heap.size w 89 [] [(1, VI mm), (2, Vi (many)), (7, VAt w (VEp 27 4 (Vq 6 a))), (8, Vi (whv (a))), (9, Vb (whb (a))), (10, Vi (whv (a))), (11, Vb (whb (a))), (12, VAt w (VSn 6 xs)), (15, Vi (((j : Nat) : Int))), (45, Vb (true)), (13, VRg 27 4 (fun _ : Unit => VexQ fun q => Vq 6 q) g2 c2 (us ++ [()]))] a11 w11 := st11.cut
        repeat first|refine wp_seq ?_|refine wp_block ?_|refine wp_skip ?_|refine wp_exit ?_
        have : Sb [] (VRg 27 4 (fun _ : Unit => VexQ fun q => Vq 6 q) g2 c2 (us ++ [()])) := ⟨Stab_VRg (fun x => Stab_VexQ fun _ => Stab_Vq _ _) (by decide) (by first | (refine Or.inl ?_; simp; done) | (refine Or.inr ?_; simp; done))⟩
        refine rg (BT := []) (Vl := [Vi (((j : Nat) : Int)), Vi (((j + 1 : Nat) : Int)), Vi (((j + 1 : Nat) : Int))]) (B := []) (SL' := [(1, VI mm), (2, Vi (many)), (7, VAt w (VEp 27 4 (Vq 6 a))), (8, Vi (whv (a))), (9, Vb (whb (a))), (10, Vi (whv (a))), (11, Vb (whb (a))), (12, VAt w (VSn 6 xs)), (45, Vb (true)), (13, VRg 27 4 (fun _ : Unit => VexQ fun q => Vq 6 q) g2 c2 (us ++ [()])), (15, Vi (((j + 1 : Nat) : Int)))]) st11 ⟨?s0, ?s1, ks, trivial⟩ ?_
        case s0 =>
          refine k_run0 SbB.out (by kernel_rfl) fun listed ac Wd h hd hnl => ⟨trivial, ?_⟩
          obtain ⟨v0, hv0, hV0⟩ := h.out0 hnl (15, Vi (((j : Nat) : Int))) (.tail _ (.tail _ (.tail _ (.tail _ (.tail _ (.tail _ (.tail _ (.tail _ (.head _))))))))) 2 (by kernel_rfl) (.inr (by kernel_rfl))
          exact ⟨_, run_move rfl, by rw [hv0]; exact hV0⟩
        case s1 =>
          refine kr fun _ ac Wd h hd => ?_
          obtain ⟨v0, hv0, hV0⟩ := h.dp hd 46
          exact ⟨_, run_addi rfl (hv0.trans (show v0 = .int .i64 ((j : Nat) : Int) from hV0)) rfl (wrap_id (by omega) (by omega)), congrArg (Value.int .i64) (by omega)⟩
        intro a12 w12 st12
        clear st11
        replace st12 : St w.heap.size w 89 [] [(1, VI mm), (2, Vi (many)), (7, VAt w (VEp 27 4 (Vq 6 a))), (8, Vi (whv (a))), (9, Vb (whb (a))), (10, Vi (whv (a))), (11, Vb (whb (a))), (12, VAt w (VSn 6 xs)), (45, Vb (true)), (13, VRg 27 4 (fun _ : Unit => VexQ fun q => Vq 6 q) g2 c2 (us ++ [()])), (15, Vi (((j + 1 : Nat) : Int)))] a12 w12 := st12
        exact ⟨m - 1, by omega, j + 1, g2, c2, us ++ [()], by omega, by rw [List.length_append, hus]; rfl, .inr ⟨by omega, by rw [List.length_append, List.length_singleton]; omega⟩, st12.cut⟩
    ·
      repeat first|refine wp_seq ?_|refine wp_block ?_|refine wp_skip ?_|refine wp_exit ?_
      have : Sb [] (VRg 27 4 (fun _ : Unit => VexQ fun q => Vq 6 q) g c (us)) := ⟨Stab_VRg (fun x => Stab_VexQ fun _ => Stab_Vq _ _) (by decide) (by first | (refine Or.inl ?_; simp; done) | (refine Or.inr ?_; simp; done))⟩
      refine rg (BT := []) (Vl := [Vi (((j : Nat) : Int)), Vi (many), Vi (Int.tdiv many 6), Vi (arn (Int.tdiv many 6) 6), Vb (false)]) (B := []) (SL' := [(1, VI mm), (2, Vi (many)), (7, VAt w (VEp 27 4 (Vq 6 a))), (8, Vi (whv (a))), (9, Vb (whb (a))), (10, Vi (whv (a))), (11, Vb (whb (a))), (12, VAt w (VSn 6 xs)), (13, VRg 27 4 (fun _ : Unit => VexQ fun q => Vq 6 q) g c (us)), (15, Vi (((j : Nat) : Int))), (45, Vb (false))]) st9 ⟨ks, ks, ?s2, ?s3, ?s4, trivial⟩ ?_
      case s2 => refine kr fun _ ac Wd h hd => ?_; obtain ⟨v0, hv0, hV0⟩ := h.dp hd 42; exact ⟨_, run_quot rfl (hv0.trans (show v0 = .int .i64 many from hV0)) rfl (by omega) (by omega) hk0 hk1, rfl⟩
      case s3 =>
        refine kc fun _ ac Wd h hd => ?_
        obtain ⟨v0, hv0, hV0⟩ := h.dp hd 43
        exact ⟨#[v0, .int .i64 (6)], by simp [hv0, eval_const], cAround (show Vi (Int.tdiv many 6) v0 Wd from hV0) (by omega) (by omega) (by omega) (by omega)⟩
      case s4 =>
        refine kr fun _ ac Wd h hd => ?_
        obtain ⟨v0, hv0, hV0⟩ := h.dp hd 41
        have hV0' : v0 = .int .i64 (((j : Nat) : Int)) := hV0
        obtain ⟨v1, hv1, hV1⟩ := h.dp hd 44
        have hV1' : v1 = .int .i64 (arn (Int.tdiv many 6) 6) := hV1
        exact ⟨_, run_lssi rfl (hv0.trans hV0') (hv1.trans hV1'), congrArg Value.bool (decide_eq_false (by omega))⟩
      intro a10 w10 st10
      clear st9
      repeat first|refine wp_seq ?_|refine wp_block ?_|refine wp_skip ?_|refine wp_exit ?_
      obtain ⟨vc, hc1, hc2⟩ := st10.slot (45, Vb (false)) (.tail _ (.tail _ (.tail _ (.tail _ (.tail _ (.tail _ (.tail _ (.tail _ (.tail _ (.tail _ (.head _)))))))))))
      refine wp_cond_false (hc1.trans hc2) ?_
      clear hc1 hc2
      obtain rfl : j = n2 := by omega
      clear hj hxc
      replace st10 : St w.heap.size w 89 [] [(1, VI mm), (2, Vi (many)), (7, VAt w (VEp 27 4 (Vq 6 a))), (8, Vi (whv (a))), (9, Vb (whb (a))), (10, Vi (whv (a))), (11, Vb (whb (a))), (12, VAt w (VSn 6 xs)), (13, VRg 27 4 (fun _ : Unit => VexQ fun q => Vq 6 q) g c (us)), (15, Vi (((j : Nat) : Int))), (45, Vb (false))] a10 w10 := st10
      obtain ⟨u13, p13, s13⟩ := st10.sl (13, VRg 27 4 (fun _ : Unit => VexQ fun q => Vq 6 q) g c (us)) (lS_mem rfl)
      obtain ⟨ys, hys, s13⟩ := VRg_sn s13
      obtain ⟨u7, p7, s7⟩ := st10.sl (7, VAt w (VEp 27 4 (Vq 6 a))) (lS_mem rfl)
      obtain ⟨u8, p8, s8⟩ := st10.sl (8, Vi (whv (a))) (lS_mem rfl)
      obtain ⟨u9, p9, s9⟩ := st10.sl (9, Vb (whb (a))) (lS_mem rfl)
      obtain ⟨u10, p10, s10⟩ := st10.sl (10, Vi (whv (a))) (lS_mem rfl)
      obtain ⟨u11, p11, s11⟩ := st10.sl (11, Vb (whb (a))) (lS_mem rfl)
      obtain ⟨u12, p12, s12⟩ := st10.sl (12, VAt w (VSn 6 xs)) (lS_mem rfl)
      repeat first|refine wp_seq ?_|refine wp_block ?_|refine wp_skip ?_|refine wp_exit ?_
      obtain ⟨hb3, stB⟩ := st10.base [(7, VAt w10 (VEp 27 4 (Vq 6 a))), (8, Vi (whv (a))), (9, Vb (whb (a))), (10, Vi (whv (a))), (11, Vb (whb (a))), (12, VAt w10 (VSn 6 xs)), (13, VAt w10 (VSn 6 ys))] (List.forall_mem_cons.2 ⟨⟨_, p7, VEp_later (Stab_Vq _ _) s7 st10.k.below⟩, (List.forall_mem_cons.2 ⟨⟨_, p8, s8⟩, (List.forall_mem_cons.2 ⟨⟨_, p9, s9⟩, (List.forall_mem_cons.2 ⟨⟨_, p10, s10⟩, (List.forall_mem_cons.2 ⟨⟨_, p11, s11⟩, (List.forall_mem_cons.2 ⟨⟨_, p12, VSn_later s12 st10.k.below⟩, (List.forall_mem_cons.2 ⟨⟨_, p13, s13⟩, (fun _ h => absurd h (by simp))⟩)⟩)⟩)⟩)⟩)⟩)⟩)
      clear st10
      obtain ⟨wO3, hren⟩ : ∃ z, z = w := ⟨_, rfl⟩
      subst hren
      obtain ⟨w, hren⟩ : ∃ z, z = w10 := ⟨_, rfl⟩
      subst hren
      have st10 : St w.heap.size w 89 [] [(7, VAt w (VEp 27 4 (Vq 6 a))), (8, Vi (whv (a))), (9, Vb (whb (a))), (10, Vi (whv (a))), (11, Vb (whb (a))), (12, VAt w (VSn 6 xs)), (13, VAt w (VSn 6 ys))] a10 w := stB
      clear stB
      replace hT := hT.later hb3
      replace hb1 := below_tr hb1 hb3
      replace hpos : 0 < w.heap.size := Nat.lt_of_lt_of_le hpos hb3.size
      clear hb3 p7 s7 p8 s8 p9 s9 p10 s10 p11 s11 p12 s12 p13 s13
      replace hys := hys.trans hus
      clear hus hlt
      obtain ⟨nn, hnm⟩ : ∃ nn, nn = min xs.length ys.length := ⟨_, rfl⟩
      have hn5 : nn ≤ 5 := by omega
      repeat first|refine wp_seq ?_|refine wp_block ?_|refine wp_skip ?_|refine wp_exit ?_
      refine rg (BT := []) (Vl := [Vq 6 (a), Vz 6 (dq (a).num ((a).den : Int)), Vq 6 (a), Vz (6 + 1) (dq (a).num ((a).den : Int)), Vb (true), Vb (true), Vq 6 (a), Vz 6 (-(dq (-(a)).num ((-(a)).den : Int))), Vq 6 (a), Vz (6 + 1) (-(dq (-(a)).num ((-(a)).den : Int))), Vb (true), Vb (true), Vb (true), Vi (whv (a)), Vi (whv (a)), Vb (true), Vb (true), Vb (true), Vb (whb (a)), Vb (whb (a)), Vb (true), Vb (true), Vb (true), VAt w (VSn 6 xs), VAt w (VSn 6 ys), Vq 70 (smR (fun j => xs.getD j 0 * ys.getD j 0) nn), VAt w (VSn 6 xs), VAt w (VSn 6 ys), Vq 1000 (smR (fun j => xs.getD j 0 * ys.getD j 0) nn), Vb (true), Vb (true), Vb (true), Vb (true), Vb (true), Vb (true)]) (B := []) (SL' := [(7, VAt w (VEp 27 4 (Vq 6 a))), (8, Vi (whv (a))), (9, Vb (whb (a))), (10, Vi (whv (a))), (11, Vb (whb (a))), (12, VAt w (VSn 6 xs)), (13, VAt w (VSn 6 ys)), (6, Vb (true))]) st10 ⟨?s0, ?s1, ?s2, ?s3, ?s4, ks, ?s6, ?s7, ?s8, ?s9, ?s10, ks, ks, ks, ks, ?s15, ks, ks, ks, ks, ?s20, ks, ks, ks, ks, ?s25, ks, ks, ?s28, ?s29, ks, ks, ?s32, ks, ks, trivial⟩ ?_
      case s0 => refine kr fun _ ac Wd h hd => ?_; obtain ⟨v0, hv0, hV0⟩ := h.ot 7; exact load_Sn rfl hv0 hV0 h.k.below
      case s1 => refine kc fun _ ac Wd h hd => ?_; obtain ⟨v0, hv0, hV0⟩ := h.dp hd 55; exact ⟨#[v0], by simp [hv0], cQFloor (show Vq 6 (a) v0 Wd from hV0) (by omega) (by omega)⟩
      case s2 => refine kr fun _ ac Wd h hd => ?_; obtain ⟨v0, hv0, hV0⟩ := h.ot 7; exact load_Sn rfl hv0 hV0 h.k.below
      case s3 => refine kc fun _ ac Wd h hd => ?_; obtain ⟨v0, hv0, hV0⟩ := h.dp hd 57; exact ⟨#[v0], by simp [hv0], cR4Floor (show Vq 6 (a) v0 Wd from hV0) (by omega) (by omega)⟩
      case s4 =>
        refine kc fun _ ac Wd h hd => ?_
        obtain ⟨v0, hv0, hV0⟩ := h.dp hd 56
        obtain ⟨v1, hv1, hV1⟩ := h.dp hd 58
        exact ⟨#[v0, v1], by simp [hv0, hv1], (cR3Same (show Vz 6 (dq (a).num ((a).den : Int)) v0 Wd from hV0) (show Vz (6 + 1) (dq (a).num ((a).den : Int)) v1 Wd from hV1) (by omega) (by omega)).mono fun e w h => h.le fun v w hv => hv.trans (congrArg Value.bool (decide_eq_true (rfl)))⟩
      case s6 => refine kr fun _ ac Wd h hd => ?_; obtain ⟨v0, hv0, hV0⟩ := h.ot 7; exact load_Sn rfl hv0 hV0 h.k.below
      case s7 => refine kc fun _ ac Wd h hd => ?_; obtain ⟨v0, hv0, hV0⟩ := h.dp hd 61; exact ⟨#[v0], by simp [hv0], cQCeil (show Vq 6 (a) v0 Wd from hV0) (by omega) (by omega)⟩
      case s8 => refine kr fun _ ac Wd h hd => ?_; obtain ⟨v0, hv0, hV0⟩ := h.ot 7; exact load_Sn rfl hv0 hV0 h.k.below
      case s9 => refine kc fun _ ac Wd h hd => ?_; obtain ⟨v0, hv0, hV0⟩ := h.dp hd 63; exact ⟨#[v0], by simp [hv0], cR4Ceil (show Vq 6 (a) v0 Wd from hV0) (by omega) (by omega)⟩
      case s10 =>
        refine kc fun _ ac Wd h hd => ?_
        obtain ⟨v0, hv0, hV0⟩ := h.dp hd 62
        obtain ⟨v1, hv1, hV1⟩ := h.dp hd 64
        exact ⟨#[v0, v1], by simp [hv0, hv1], (cR3Same (show Vz 6 (-(dq (-(a)).num ((-(a)).den : Int))) v0 Wd from hV0) (show Vz (6 + 1) (-(dq (-(a)).num ((-(a)).den : Int))) v1 Wd from hV1) (by omega) (by omega)).mono fun e w h => h.le fun v w hv => hv.trans (congrArg Value.bool (decide_eq_true (rfl)))⟩
      case s15 =>
        refine kr fun _ ac Wd h hd => ?_
        obtain ⟨v0, hv0, hV0⟩ := h.dp hd 68
        have hV0' : v0 = .int .i64 (whv (a)) := hV0
        obtain ⟨v1, hv1, hV1⟩ := h.dp hd 69
        have hV1' : v1 = .int .i64 (whv (a)) := hV1
        exact ⟨_, run_eqi rfl (hv0.trans hV0') (hv1.trans hV1'), congrArg Value.bool (beq_self_eq_true _)⟩
      case s20 => refine kr fun _ ac Wd h hd => ?_; obtain ⟨v0, hv0, hV0⟩ := h.dp hd 73; obtain ⟨v1, hv1, hV1⟩ := h.dp hd 74; exact ⟨_, run_eqb rfl (hv0.trans hV0) (hv1.trans hV1), congrArg Value.bool (beq_self_eq_true _)⟩
      case s25 =>
        refine kc fun _ ac Wd h hd => ?_
        obtain ⟨v0, hv0, hV0⟩ := h.dp hd 78
        obtain ⟨v1, hv1, hV1⟩ := h.dp hd 79
        exact ⟨#[v0, v1], by simp [hv0, hv1], cDotN (n := nn) (VAt_now (VSn_later (show VAt w (VSn 6 xs) v0 Wd from hV0) h.k.below)) (VAt_now (VSn_later (show VAt w (VSn 6 ys) v1 Wd from hV1) h.k.below)) hnm hn5⟩
      case s28 =>
        refine kc fun _ ac Wd h hd => ?_
        obtain ⟨v0, hv0, hV0⟩ := h.dp hd 81
        obtain ⟨v1, hv1, hV1⟩ := h.dp hd 82
        exact ⟨#[v0, v1], by simp [hv0, hv1], cR4DotN (n := nn) (VAt_now (VSn_later (show VAt w (VSn 6 xs) v0 Wd from hV0) h.k.below)) (VAt_now (VSn_later (show VAt w (VSn 6 ys) v1 Wd from hV1) h.k.below)) hnm hn5⟩
      case s29 =>
        refine kc fun _ ac Wd h hd => ?_
        obtain ⟨v0, hv0, hV0⟩ := h.dp hd 80
        obtain ⟨v1, hv1, hV1⟩ := h.dp hd 83
        exact ⟨#[v0, v1], by simp [hv0, hv1], (cL4Same (Vq_le (M := (max 70 1000)) (show Vq 70 (smR (fun j => xs.getD j 0 * ys.getD j 0) nn) v0 Wd from hV0) (by omega)) (Vq_le (M := (max 70 1000)) (show Vq 1000 (smR (fun j => xs.getD j 0 * ys.getD j 0) nn) v1 Wd from hV1) (by omega)) (by omega)).mono fun e w h => h.le fun v w hv => hv.trans (congrArg Value.bool (decide_eq_true (rfl)))⟩
      case s32 => refine kc fun _ ac Wd h hd => ?_; exact ⟨#[], by simp [], cL4Lives (hT.later h.k.below)⟩
      intro a11 w11 st11
      clear st10
      repeat first|refine wp_seq ?_|refine wp_block ?_|refine wp_skip ?_|refine wp_exit ?_
      obtain ⟨vr, r1, r4⟩ := st11.slot (6, Vb (true)) (.tail _ (.tail _ (.tail _ (.tail _ (.tail _ (.tail _ (.tail _ (.head _))))))))
      exact wp_ret (bodyPost_ret (results_tmp rfl _ _ _) st11.defers ⟨_, congrArg Ending.returned (show _ = vr from r1), r4, below_tr hb1 st11.k.below⟩)
end Go.Proofs.YtleijkgdpmfabaaGreatDoor
