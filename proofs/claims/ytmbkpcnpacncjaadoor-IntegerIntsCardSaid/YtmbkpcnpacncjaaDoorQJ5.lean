/- IntegerInts: the walk. -/
import Derived.Deep.LoopGhost
import Derived.Test.YtmbkpcnpacncjaaDoorQJ4
import Derived.Test.YtmbkpcnpacncjaaDoorM17
set_option linter.unusedVariables false
namespace Go.Proofs.YtmbkpcnpacncjaaDoor
open Go.RowKit

set_option maxRecDepth 100000 in
set_option maxHeartbeats 1600000 in
theorem walkInts {w : World} {n k : Int} {l d : List Int} {neg : Bool} {v0 v1 v2 v3 v4 : Value} (h0 : Vi (n) v0 w) (h1 : VI l v1 w) (h2 : VIc d v2 w) (h3 : Vb (neg) v3 w) (h4 : Vi (k) v4 w) (hn0' : -9223372036854775808 ≤ n) (hn1' : n ≤ 9223372036854775807) (hk0' : -9223372036854775808 ≤ k) (hk1' : k ≤ 9223372036854775807) (hT : Tb w) : Calls Tryd.prog 3 #[v0, v1, v2, v3, v4] w (RV (Vb true) w) := by
  go_enter Tryd.func3, Tryd.ntmps3
  have st0 : St w.heap.size w 130 [] [(0, Vi (n)), (1, VI l), (2, VIc d), (3, Vb (neg)), (4, Vi (k))] _ w := St.begin (a := ⟨#[v0, v1, v2, v3, v4, undef, undef, undef, undef, undef, undef, undef, undef, undef, undef, undef, undef, undef, undef, undef, undef, undef, undef, undef, undef, undef, undef, undef, undef, undef, undef, undef, undef, undef, undef, undef, undef, undef, undef, undef, undef, undef, undef, undef, undef, undef, undef, undef, undef, undef, undef, undef, undef, undef, undef, undef, undef, undef, undef, undef, undef, undef, undef, undef, undef, undef, undef, undef, undef, undef, undef, undef, undef, undef, undef, undef, undef, undef, undef, undef, undef, undef, undef, undef, undef, undef, undef, undef, undef, undef, undef, undef, undef, undef, undef, undef, undef, undef, undef, undef, undef, undef, undef, undef, undef, undef, undef, undef, undef, undef, undef, undef, undef, undef, undef, undef, undef, undef, undef, undef, undef, undef, undef, undef, undef, undef, undef, undef, undef, undef], []⟩) rfl rfl (List.forall_mem_cons.2 ⟨⟨_, rfl, h0⟩, (List.forall_mem_cons.2 ⟨⟨_, rfl, h1⟩, (List.forall_mem_cons.2 ⟨⟨_, rfl, h2⟩, (List.forall_mem_cons.2 ⟨⟨_, rfl, h3⟩, (List.forall_mem_cons.2 ⟨⟨_, rfl, h4⟩, (fun _ h => absurd h (by simp))⟩)⟩)⟩)⟩)⟩)
  generalize (⟨#[v0, v1, v2, v3, v4, undef, undef, undef, undef, undef, undef, undef, undef, undef, undef, undef, undef, undef, undef, undef, undef, undef, undef, undef, undef, undef, undef, undef, undef, undef, undef, undef, undef, undef, undef, undef, undef, undef, undef, undef, undef, undef, undef, undef, undef, undef, undef, undef, undef, undef, undef, undef, undef, undef, undef, undef, undef, undef, undef, undef, undef, undef, undef, undef, undef, undef, undef, undef, undef, undef, undef, undef, undef, undef, undef, undef, undef, undef, undef, undef, undef, undef, undef, undef, undef, undef, undef, undef, undef, undef, undef, undef, undef, undef, undef, undef, undef, undef, undef, undef, undef, undef, undef, undef, undef, undef, undef, undef, undef, undef, undef, undef, undef, undef, undef, undef, undef, undef, undef, undef, undef, undef, undef, undef, undef, undef, undef, undef, undef, undef], []⟩ : Act) = a0 at st0 ⊢
  repeat first | refine wp_seq ?_ | refine wp_block ?_ | refine wp_skip ?_ | refine wp_exit ?_
  refine rg (BT := [(24, 2, 0)]) (Vl := [Vb (false)]) (B := []) (SL' := [(0, Vi (n)), (1, VI l), (2, VIc d), (3, Vb (neg)), (4, Vi (k)), (10, Vb (false))]) st0 ⟨ks, trivial⟩ ?_
  intro a1 w1 st1
  clear st0
  repeat first | refine wp_seq ?_ | refine wp_block ?_ | refine wp_skip ?_ | refine wp_exit ?_
  refine rg (BT := [(24, 2, 0)]) (Vl := [VI l, Vex (fun z => Vz 6 z), VT, VT]) (B := [⟨11, some 2, some 3, 24, 2, Vex (fun z => Vz 6 z), VT⟩]) (SL' := [(0, Vi (n)), (2, VIc d), (3, Vb (neg)), (4, Vi (k)), (10, Vb (false))]) st1 ⟨ks, ?s1, ks, ks, trivial⟩ ?_
  case s1 => refine kc fun _ ac Wd h hd => ?_; obtain ⟨v0, hv0, hV0⟩ := h.dp hd 22; exact ⟨#[v0, .int .i64 (0)], by simp [hv0, eval_const], cNumberX (show VI l v0 Wd from hV0)⟩
  intro a2 w2 st2
  clear st1
  replace st2 : St w.heap.size w 130 [⟨11, none, none, 24, 2, Vex (fun z => Vz 6 z), VT⟩] [(0, Vi (n)), (2, VIc d), (3, Vb (neg)), (4, Vi (k)), (10, Vb (false))] a2 w2 := st2
  obtain ⟨x, st2⟩ := St.exB (L1 := []) (L2 := []) st2
  replace st2 : St w.heap.size w 130 [⟨11, none, none, 24, 2, Vz 6 (x), VT⟩] [(0, Vi (n)), (2, VIc d), (3, Vb (neg)), (4, Vi (k)), (10, Vb (false))] a2 w2 := st2
  repeat first | refine wp_seq ?_ | refine wp_block ?_ | refine wp_skip ?_ | refine wp_exit ?_
  refine rg (BT := [(24, 2, 0)]) (Vl := [Vb (neg), VIc d, VLn 8 (d.take (min d.length 8)), VZr 8 neg (d.take (min d.length 8)), VT, VT]) (B := [⟨11, none, none, 24, 2, Vz 6 (x), VT⟩, ⟨12, some 4, some 5, 24, 2, VZr 8 neg (d.take (min d.length 8)), VT⟩]) (SL' := [(0, Vi (n)), (3, Vb (neg)), (4, Vi (k)), (10, Vb (false))]) st2 ⟨ks, ks, ?s2, ?s3, ks, ks, trivial⟩ ?_
  case s2 =>
    refine kc fun _ ac Wd h hd => ?_
    obtain ⟨v0, hv0, hV0⟩ := h.dp hd 25
    exact ⟨#[v0, .int .i64 (8)], by simp [hv0, eval_const], cTake8 (show VIc d v0 Wd from hV0) (show Vi (8) (.int .i64 (8)) Wd from rfl)⟩
  case s3 => refine kr fun _ ac Wd h hd => ?_; obtain ⟨v0, hv0, hV0⟩ := h.dp hd 24; obtain ⟨v1, hv1, hV1⟩ := h.dp hd 26; exact build_IntDN rfl hv0 hV0 hv1 hV1
  intro a3 w3 st3
  clear st2
  replace st3 : St w.heap.size w 130 [⟨11, none, none, 24, 2, Vz 6 (x), VT⟩, ⟨12, none, none, 24, 2, VZr 8 neg (d.take (min d.length 8)), VT⟩] [(0, Vi (n)), (3, Vb (neg)), (4, Vi (k)), (10, Vb (false))] a3 w3 := st3
  obtain ⟨g11, e11, hg11, hl11, cs11, p11, q11, r11, P11⟩ := st3.boxAt (b := ⟨11, none, none, 24, 2, Vz 6 (x), VT⟩) (.head _) rfl rfl
  obtain ⟨g12, e12, hg12, hl12, cs12, p12, q12, r12, P12⟩ := st3.boxAt (b := ⟨12, none, none, 24, 2, VZr 8 neg (d.take (min d.length 8)), VT⟩) (.tail _ (.head _)) rfl rfl
  obtain ⟨u0, t0, s0⟩ := st3.sl (0, Vi (n)) (lS_mem rfl)
  obtain ⟨u3, t3, s3⟩ := st3.sl (3, Vb (neg)) (lS_mem rfl)
  obtain ⟨u4, t4, s4⟩ := st3.sl (4, Vi (k)) (lS_mem rfl)
  have P11' := P11
  obtain ⟨nb, px, nx, cx, hcs, hI, hnx⟩ := P11
  obtain ⟨hI1, hI2, hI3, hI4, hI5⟩ := hI
  obtain rfl : cs11 = _ := Value.agg.inj hcs
  clear hcs
  obtain ⟨ds, hds⟩ : ∃ ds, digs x.natAbs = ds := ⟨_, rfl⟩
  rw [hds] at hI2 hI3
  subst hI2
  have E3 : a3.eval (.tmp 3) = .bool neg := by simp [Act.eval, Array.getD_eq_getD_getElem?, t3]; exact s3
  have E4 : a3.eval (.tmp 4) = .int .i64 k := by simp [Act.eval, Array.getD_eq_getD_getElem?, t4]; exact s4
  have E11 : a3.eval (.tmp 11) = .pointer (some ⟨g11, 0, none⟩) := by simp [Act.eval, Array.getD_eq_getD_getElem?, e11]
  have C0 : ∀ W, Below w3.heap.size w3 W → W.cell? ⟨g11, 0, none⟩ = some (.bool nb) := fun W hb => by simp [World.cell?, (hb.block _ hl11).trans p11]
  have C1 : ∀ W, Below w3.heap.size w3 W → W.cell? ⟨g11, 1, none⟩ = some (.slice px ds.length cx) := fun W hb => by simp [World.cell?, (hb.block _ hl11).trans p11]
  obtain ⟨jn, hj5, hjn⟩ := five_nat (k := k) (arn_lo k 5 (by omega)) (arn_hi k 5 (by omega))
  repeat first | refine wp_seq ?_ | refine wp_block ?_ | refine wp_skip ?_ | refine wp_exit ?_
  refine region_J (W3 := w3) (V := J3 w3 g11 neg nb k ds px cx) (by kernel_rfl) (by kernel_rfl) (by kernel_rfl) (by rw [st3.size]; kernel_rfl) rfl ⟨?o0, ?o1, ?o2, ?o3, ?o4, ?o5, ?o6, ?o7, ?o8, ?o9, ?o10, ?o11, ?o12, ?o13, ?o14, ?o15, ?o16, ?o17, trivial⟩ ?fin
  case o0 =>
    refine jrun rfl rfl fun listed ac Wd h hd hi hl => ?_
    exact ⟨_, Wd, run_move rfl, Below.refl _ _, J3_keep hi (by decide) (by decide) (Below.refl _ _), (h.out 3 (by kernel_rfl)).trans E3⟩
  case o1 =>
    refine jrun rfl rfl fun listed ac Wd h hd hi hl => ?_
    exact ⟨_, Wd, j_field 0 g11 (.inl rfl) rfl ((h.out 11 (by kernel_rfl)).trans E11), Below.refl _ _, J3_keep hi (by decide) (by decide) (Below.refl _ _), rfl⟩
  case o2 =>
    refine jrun rfl rfl fun listed ac Wd h hd hi hl => ?_
    obtain ⟨v0, hv0, -, hV0⟩ := h.dep hd 1 29 (by kernel_rfl) (by kernel_rfl)
    exact ⟨_, Wd, j_load rfl Tryd.underlying4 rfl (hv0.trans hV0) (C0 _ h.s.2.1), Below.refl _ _, J3_keep hi (by decide) (by decide) (Below.refl _ _), rfl⟩
  case o3 =>
    refine jrun rfl rfl fun listed ac Wd h hd hi hl => ?_
    obtain ⟨v0, hv0, -, hV0⟩ := h.dep hd 0 28 (by kernel_rfl) (by kernel_rfl)
    obtain ⟨v1, hv1, -, hV1⟩ := h.dep hd 2 30 (by kernel_rfl) (by kernel_rfl)
    exact ⟨_, Wd, run_neqb rfl (hv0.trans hV0) (hv1.trans hV1), Below.refl _ _, J3_keep hi (by decide) (by decide) (Below.refl _ _), rfl⟩
  case o4 =>
    refine jrun rfl rfl fun listed ac Wd h hd hi hl => ?_
    exact ⟨_, _, j_bs0 rfl, (below_new _ _).mono h.s.2.2, J3_keep hi (by decide) (by decide) (below_new _ _), fun _ => ⟨_, rfl, World.ownsRow_made _ _ _ h.s.2.2 (by omega) rfl⟩⟩
  case o5 =>
    refine jrun rfl rfl fun listed ac Wd h hd hi hl => ?_
    exact ⟨_, Wd, j_field 1 g11 (.inr rfl) rfl ((h.out 11 (by kernel_rfl)).trans E11), Below.refl _ _, J3_keep hi (by decide) (by decide) (Below.refl _ _), rfl⟩
  case o6 =>
    refine jrun rfl rfl fun listed ac Wd h hd hi hl => ?_
    obtain ⟨v0, hv0, -, hV0⟩ := h.dep hd 5 33 (by kernel_rfl) (by kernel_rfl)
    exact ⟨_, Wd, j_load rfl Tryd.underlying22 rfl (hv0.trans hV0) (C1 _ h.s.2.1), Below.refl _ _, J3_keep hi (by decide) (by decide) (Below.refl _ _), rfl⟩
  case o7 =>
    refine jrun rfl rfl fun listed ac Wd h hd hi hl => ?_
    obtain ⟨v0, hv0, -, hV0⟩ := h.dep hd 4 32 (by kernel_rfl) (by kernel_rfl)
    obtain ⟨v1, hv1, -, hV1⟩ := h.dep hd 6 34 (by kernel_rfl) (by kernel_rfl)
    have hu : listed.getD 14 false = false := by cases hq : listed.getD 14 false with | false => rfl | true => rw [h.s.1.get 14 7 hq (by kernel_rfl)] at hl; cases hl
    obtain ⟨h4, rfl, hown⟩ := hV0 hu
    exact j_app1_k rfl hv0 (hv1.trans hV1) hown (Rdi_RI (BT := []) (RI.of_below h.s.2.1) hI3) (by omega) h.s.2.2 fun v w' z2 z3 => ⟨z2.mono h.s.2.2, J3_keep hi (by decide) (by decide) z2, fun _ => z3⟩
  case o8 =>
    refine jrun rfl rfl fun listed ac Wd h hd hi hl => ?_
    refine ⟨_, _, j_bs5 rfl (fun _ => rfl), (below_new _ _).mono h.s.2.2, J3_keep hi (by decide) (by decide) (below_new _ _), fun _ => ⟨_, rfl, fun j hj => ?_⟩⟩
    exact cell_bs5 Wd j hj
  case o9 =>
    refine jrun rfl rfl fun listed ac Wd h hd hi hl => ?_
    exact ⟨_, Wd, run_move rfl, Below.refl _ _, J3_keep hi (by decide) (by decide) (Below.refl _ _), (h.out 4 (by kernel_rfl)).trans E4⟩
  case o10 =>
    refine jcall rfl (fun _ _ => rfl) fun listed ac Wd h hd hi hl => ?_
    obtain ⟨v0, hv0, -, hV0⟩ := h.dep hd 9 37 (by kernel_rfl) (by kernel_rfl)
    exact ⟨#[v0, .int .i64 5], by simp [hv0, eval_const], (cAround (show Vi k v0 Wd from hV0) hk0' hk1' (by omega) (by omega)).mono fun e w' ⟨v, z1, z2, z3⟩ => ⟨v, z1, z3.mono h.s.2.2, J3_keep hi (by decide) (by decide) z3, z2⟩⟩
  case o11 =>
    refine jrun rfl rfl fun listed ac Wd h hd hi hl => ?_
    obtain ⟨v0, hv0, -, hV0⟩ := h.dep hd 8 36 (by kernel_rfl) (by kernel_rfl)
    obtain ⟨v1, hv1, -, hV1⟩ := h.dep hd 10 38 (by kernel_rfl) (by kernel_rfl)
    have hu : listed.getD 14 false = false := by cases hq : listed.getD 14 false with | false => rfl | true => rw [h.s.1.get 12 11 (h.s.1.get 13 12 (h.s.1.get 14 13 hq (by kernel_rfl)) (by kernel_rfl)) (by kernel_rfl)] at hl; cases hl
    obtain ⟨h8, rfl, hc8⟩ := hV0 hu
    exact ⟨_, Wd, j_index rfl hv0 (hv1.trans (hV1.trans (by rw [hjn]))) hj5, Below.refl _ _, J3_keep hi (by decide) (by decide) (Below.refl _ _), fun _ => ⟨_, rfl, by rw [hjn]; exact hc8 jn hj5⟩⟩
  case o12 =>
    refine jrun rfl rfl fun listed ac Wd h hd hi hl => ?_
    obtain ⟨v0, hv0, -, hV0⟩ := h.dep hd 11 39 (by kernel_rfl) (by kernel_rfl)
    have hu : listed.getD 14 false = false := by cases hq : listed.getD 14 false with | false => rfl | true => rw [h.s.1.get 13 12 (h.s.1.get 14 13 hq (by kernel_rfl)) (by kernel_rfl)] at hl; cases hl
    obtain ⟨p0, rfl, hc0⟩ := hV0 hu
    exact ⟨_, Wd, j_load rfl Tryd.underlying3 rfl hv0 hc0, Below.refl _ _, J3_keep hi (by decide) (by decide) (Below.refl _ _), rfl⟩
  case o13 =>
    refine jrun rfl rfl fun listed ac Wd h hd hi hl => ?_
    obtain ⟨v0, hv0, -, hV0⟩ := h.dep hd 12 40 (by kernel_rfl) (by kernel_rfl)
    exact ⟨_, _, j_bs1 rfl (hv0.trans hV0), (below_new _ _).mono h.s.2.2, J3_keep hi (by decide) (by decide) (below_new _ _), fun _ => ⟨_, rfl, cell_bs1 Wd _⟩⟩
  case o14 =>
    refine jrun rfl rfl fun listed ac Wd h hd hi hl => ?_
    obtain ⟨v0, hv0, -, hV0⟩ := h.dep hd 7 35 (by kernel_rfl) (by kernel_rfl)
    obtain ⟨v1, hv1, -, hV1⟩ := h.dep hd 13 41 (by kernel_rfl) (by kernel_rfl)
    have hown := hV0 hl
    obtain ⟨h13, rfl, hc13⟩ := hV1 hl
    exact j_app2_k rfl hv0 hv1 hown hc13 hnx h.s.2.2 fun v w' z2 z3 => ⟨(Below.refl _ Wd).grown z2 h.s.2.2 (fun k hk => (hown.lt k hk).1), J3_app h.s.1 hi hl (by kernel_rfl) (by kernel_rfl) z2 hown, z3⟩
  case o15 =>
    refine jrun rfl rfl fun listed ac Wd h hd hi hl => ?_
    obtain ⟨v0, hv0, -, hV0⟩ := h.dep hd 3 31 (by kernel_rfl) (by kernel_rfl)
    obtain ⟨v1, hv1, -, hV1⟩ := h.dep hd 14 42 (by kernel_rfl) (by kernel_rfl)
    exact j_build_k rfl hv0 hV0 hv1 hV1 fun v z2 => ⟨Below.refl _ _, J3_keep hi (by decide) (by decide) (Below.refl _ _), z2⟩
  case o16 =>
    refine jrun rfl rfl fun listed ac Wd h hd hi hl => ?_
    refine ⟨_, _, ?_, (below_new _ _).mono h.s.2.2, J3_keep hi (by decide) (by decide) (below_new _ _), ⟨_, _, rfl, h.s.2.2, heap_alloc_new _ _, rfl, noint_Int, fun q => ?_⟩⟩
    · have := alloc_Int Wd
      unfold execOp
      simp only [Sem.run_bind, this, Sem.run_pure, Result.andThen_ok]
    · rw [getD_set _ _ _ hi, if_neg (by decide)] at q; rw [h.s.1.get 17 16 q (by kernel_rfl)] at hl; cases hl
  case o17 =>
    refine flow_wpJ fun listed ac Wd h hd hl => ⟨trivial, fun K hK => ?_⟩
    have hi : 17 < listed.size := by rw [h.len]; exact (by decide : 17 < 18)
    have hl2 : listed.getD 17 false = false := by have h5 := hl; simp only [Array.getD, hi, dif_pos] at h5 ⊢; exact h5
    obtain ⟨v0, hv0, -, hV0⟩ := h.dep hd 16 13 (by kernel_rfl) (by kernel_rfl)
    obtain ⟨v1, hv1, -, hV1⟩ := h.dep hd 15 43 (by kernel_rfl) (by kernel_rfl)
    have h14 : listed.getD 14 false = true := listed_dep hd 14 (by kernel_rfl)
    obtain ⟨g, cs, rfl, z2, z3, z4, z5, -⟩ := hV0
    have h13 : ac.tmps[13]? = some (.pointer (some ⟨g, 0, none⟩)) := by have q := hv0; simp only [Act.eval, Array.getD_eq_getD_getElem?] at q; cases e : ac.tmps[13]? with | none => rw [e] at q; cases q | some u => rw [e] at q; exact congrArg some q
    obtain ⟨z, y1, y2, y3, y4, y5⟩ := agg_store (AggV_VZr _ _ _) hv1 hV1
    refine wp_store_row 24 (.tmp 13) (.tmp 43) rfl g z hv0 y1 24 cs z3 (by rw [y2]; exact size_Int) (by rw [y2, z4]) y4 ?_
    exact hK _ _ ⟨h.s.1.set hi rfl hd, below_setRow h.s.2.1 z2 _, by rw [size_setRow]; exact h.s.2.2⟩ (J3_store hi h14 z3 z5 z4 y2 y3 y5 rfl h13) trivial
  case fin =>
    intro aB wB h
    obtain ⟨v13, hv13, hV13⟩ := h.own 16 _ 13 rfl (by kernel_rfl) rfl
    obtain ⟨g, cs, rfl, y2, y3, y4, y5, y6⟩ := hV13
    have y7 := y6 (by kernel_rfl)
    have hbW : Below w3.heap.size w3 wB := h.s.2.1
    have hb1 : Below w.heap.size w wB := st3.k.below.trans (hbW.mono st3.n)
    have stB : St wB.heap.size wB 130 [] [(0, Vi (n)), (4, Vi (k)), (11, VAt wB (VEp 24 2 (Vz 6 (x)))), (12, VAt wB (VEp 24 2 (VZr 8 neg (d.take (min d.length 8))))), (13, VAt wB (VEp 24 2 (VZr 7 (neg != nb) (ds ++ [five (arn k 5)]))))] aB wB := ⟨⟨Below.refl _ _, fun b hb => absurd hb (by simp), fun b hb => absurd hb (by simp), fun b hb => absurd hb (by simp)⟩, Nat.le_refl _, h.size.trans st3.size, h.defers.trans st3.defers, (List.forall_mem_cons.2 ⟨⟨_, (h.oth 0 (by kernel_rfl)).trans t0, s0⟩, (List.forall_mem_cons.2 ⟨⟨_, (h.oth 4 (by kernel_rfl)).trans t4, s4⟩, (List.forall_mem_cons.2 ⟨⟨_, (h.oth 11 (by kernel_rfl)).trans e11, VEp_box ((hbW.block _ hl11).trans p11) q11 (Stab_Vz (BT := []) _ _ _ _ _ P11' (RI.of_below hbW))⟩, (List.forall_mem_cons.2 ⟨⟨_, (h.oth 12 (by kernel_rfl)).trans e12, VEp_box ((hbW.block _ hl12).trans p12) q12 (Stab_VZr (BT := []) _ _ _ _ _ _ P12 (RI.of_below hbW))⟩, (List.forall_mem_cons.2 ⟨⟨_, hv13, VEp_box y3 y4 y7⟩, (fun _ h => absurd h (by simp))⟩)⟩)⟩)⟩)⟩)⟩
    clear P11' hI3 P12 C0 C1 E3 E4 E11 e11 p11 e12 p12 st3 h y3 y7 y6 hbW hv13 t0 t3 t4
    obtain ⟨wO, hren⟩ : ∃ z, z = w := ⟨_, rfl⟩
    subst hren
    obtain ⟨w, hren⟩ : ∃ z, z = wB := ⟨_, rfl⟩
    subst hren
    replace hT := hT.later hb1
    have st4 : St w.heap.size w 130 [] [(0, Vi (n)), (4, Vi (k)), (11, VAt w (VEp 24 2 (Vz 6 (x)))), (12, VAt w (VEp 24 2 (VZr 8 neg (d.take (min d.length 8))))), (13, VAt w (VEp 24 2 (VZr 7 (neg != nb) (ds ++ [five (arn k 5)]))))] aB w := stB
    clear stB
    obtain ⟨z1, hz1⟩ := raw_ni (N := 20) neg (d.take (min d.length 8))
    obtain ⟨z2, hz2⟩ := raw_ni (N := 20) (neg != nb) (ds ++ [five (arn k 5)])
    have htm := tm3 k
    obtain ⟨xs, hxs⟩ : ∃ xs : List (Int ⊕ (Bool × List Int)), [(.inl x : (Int ⊕ (Bool × List Int))), z1, z2, .inl n, .inl (9223372036854775807 + Int.tmod k 3), .inl (-9223372036854775808 - Int.tmod k 3), .inl 0] = xs := ⟨_, rfl⟩
    have hx7 : xs.length = 7 := by rw [← hxs]; rfl
    repeat first | refine wp_seq ?_ | refine wp_block ?_ | refine wp_skip ?_ | refine wp_exit ?_
    have : Sb [] (VSl 24 2 (VNi 20) xs) := ⟨(Stab_VSlI (by simp))⟩
    refine rg (BT := []) (Vl := [Vz 6 (x), VZr 8 neg (d.take (min d.length 8)), VZr 7 (neg != nb) (ds ++ [five (arn k 5)]), Vi (n), Vz 3 (n), Vz 3 (9223372036854775807), Vi (k), Vi (Int.tmod (k) (3)), Vz 3 (Int.tmod (k) (3)), Vz (max 3 3 + 1) ((9223372036854775807) + (Int.tmod (k) (3))), Vz 3 (-9223372036854775808), Vi (k), Vi (Int.tmod (k) (3)), Vz 3 (Int.tmod (k) (3)), Vz (max 3 3 + 1) ((-9223372036854775808) - (Int.tmod (k) (3))), Vz 1 (0), VSl 24 2 (VNi 20) xs, VSl 24 2 (VNi 20) xs]) (B := []) (SL' := [(0, Vi (n)), (4, Vi (k)), (11, VAt w (VEp 24 2 (Vz 6 (x)))), (12, VAt w (VEp 24 2 (VZr 8 neg (d.take (min d.length 8))))), (13, VAt w (VEp 24 2 (VZr 7 (neg != nb) (ds ++ [five (arn k 5)])))), (14, VSl 24 2 (VNi 20) xs)]) st4 ⟨?s0, ?s1, ?s2, ks, ?s4, ?s5, ks, ?s7, ?s8, ?s9, ?s10, ks, ?s12, ?s13, ?s14, ?s15, ?s16, ks, trivial⟩ ?_
    case s0 => refine kr fun _ ac Wd h hd => ?_; obtain ⟨v0, hv0, hV0⟩ := h.ot 11; exact load_EpA rfl hv0 hV0 h.k.below (Stab_Vz _ _)
    case s1 => refine kr fun _ ac Wd h hd => ?_; obtain ⟨v0, hv0, hV0⟩ := h.ot 12; exact load_EpA rfl hv0 hV0 h.k.below (Stab_VZr _ _ _)
    case s2 => refine kr fun _ ac Wd h hd => ?_; obtain ⟨v0, hv0, hV0⟩ := h.ot 13; exact load_EpA rfl hv0 hV0 h.k.below (Stab_VZr _ _ _)
    case s4 => refine kc fun _ ac Wd h hd => ?_; obtain ⟨v0, hv0, hV0⟩ := h.dp hd 47; exact ⟨#[v0], by simp [hv0], cROfV (show Vi (n) v0 Wd from hV0) (by omega) (by omega)⟩
    case s5 => refine kc fun _ ac Wd h hd => ?_; exact ⟨#[.int .i64 (9223372036854775807)], by simp [eval_const], cROf (9223372036854775807) (by omega) (by omega)⟩
    case s7 => refine kr fun _ ac Wd h hd => ?_; obtain ⟨v0, hv0, hV0⟩ := h.dp hd 50; have hV0' : v0 = .int .i64 (k) := hV0; exact ⟨_, run_remt rfl (hv0.trans hV0') rfl (by omega) (by omega), rfl⟩
    case s8 => refine kc fun _ ac Wd h hd => ?_; obtain ⟨v0, hv0, hV0⟩ := h.dp hd 51; exact ⟨#[v0], by simp [hv0], cROfV (show Vi (Int.tmod (k) (3)) v0 Wd from hV0) (by omega) (by omega)⟩
    case s9 =>
      refine kc fun _ ac Wd h hd => ?_
      obtain ⟨v0, hv0, hV0⟩ := h.dp hd 49
      obtain ⟨v1, hv1, hV1⟩ := h.dp hd 52
      exact ⟨#[v0, v1], by simp [hv0, hv1], (cRAdd (show Vz 3 (9223372036854775807) v0 Wd from hV0) (show Vz 3 (Int.tmod (k) (3)) v1 Wd from hV1) (by omega) (by omega))⟩
    case s10 => refine kc fun _ ac Wd h hd => ?_; exact ⟨#[.int .i64 (-9223372036854775808)], by simp [eval_const], cROf (-9223372036854775808) (by omega) (by omega)⟩
    case s12 => refine kr fun _ ac Wd h hd => ?_; obtain ⟨v0, hv0, hV0⟩ := h.dp hd 55; have hV0' : v0 = .int .i64 (k) := hV0; exact ⟨_, run_remt rfl (hv0.trans hV0') rfl (by omega) (by omega), rfl⟩
    case s13 => refine kc fun _ ac Wd h hd => ?_; obtain ⟨v0, hv0, hV0⟩ := h.dp hd 56; exact ⟨#[v0], by simp [hv0], cROfV (show Vi (Int.tmod (k) (3)) v0 Wd from hV0) (by omega) (by omega)⟩
    case s14 =>
      refine kc fun _ ac Wd h hd => ?_
      obtain ⟨v0, hv0, hV0⟩ := h.dp hd 54
      obtain ⟨v1, hv1, hV1⟩ := h.dp hd 57
      exact ⟨#[v0, v1], by simp [hv0, hv1], (cRSub (show Vz 3 (-9223372036854775808) v0 Wd from hV0) (show Vz 3 (Int.tmod (k) (3)) v1 Wd from hV1) (by omega) (by omega))⟩
    case s15 => exact kr fun _ ac Wd h hd => build_Int0 rfl
    case s16 =>
      refine km fun _ ac Wd h hd => ?_
      obtain ⟨v0, hv0, hV0⟩ := h.dp hd 44
      obtain ⟨v1, hv1, hV1⟩ := h.dp hd 45
      obtain ⟨v2, hv2, hV2⟩ := h.dp hd 46
      obtain ⟨v3, hv3, hV3⟩ := h.dp hd 48
      obtain ⟨v4, hv4, hV4⟩ := h.dp hd 53
      obtain ⟨v5, hv5, hV5⟩ := h.dp hd 58
      obtain ⟨v6, hv6, hV6⟩ := h.dp hd 59
      rw [← hxs]
      exact bslice_I7 (N := 20) (z0 := .inl x) (z1 := z1) (z2 := z2) (z3 := .inl n) (z4 := .inl (9223372036854775807 + Int.tmod k 3)) (z5 := .inl (-9223372036854775808 - Int.tmod k 3)) (z6 := .inl 0) rfl hv0 hv1 hv2 hv3 hv4 hv5 hv6 (Vz_le hV0 (by omega)) (hz1 _ _ (VZr_le hV1 (by omega))) (hz2 _ _ (VZr_le hV2 (by omega))) (Vz_le hV3 (by omega)) (Vz_le hV4 (by omega)) (Vz_le hV5 (by omega)) (Vz_le hV6 (by omega))
    intro a5 w5 st5
    clear st4
    clear hz1 hz2
    repeat first | refine wp_seq ?_ | refine wp_block ?_ | refine wp_skip ?_ | refine wp_exit ?_
    have : Sb [] (VSl 24 2 (VNi 20) xs) := ⟨(Stab_VSlI (by simp))⟩
    refine rg (BT := []) (Vl := [Vi (0)]) (B := []) (SL' := [(0, Vi (n)), (4, Vi (k)), (11, VAt w (VEp 24 2 (Vz 6 (x)))), (12, VAt w (VEp 24 2 (VZr 8 neg (d.take (min d.length 8))))), (13, VAt w (VEp 24 2 (VZr 7 (neg != nb) (ds ++ [five (arn k 5)])))), (14, VSl 24 2 (VNi 20) xs), (15, Vi (0))]) st5 ⟨ks, trivial⟩ ?_
    intro a6 w6 st6
    clear st5
    replace st6 : St w.heap.size w 130 [] [(0, Vi (n)), (4, Vi (k)), (11, VAt w (VEp 24 2 (Vz 6 (x)))), (12, VAt w (VEp 24 2 (VZr 8 neg (d.take (min d.length 8))))), (13, VAt w (VEp 24 2 (VZr 7 (neg != nb) (ds ++ [five (arn k 5)])))), (14, VSl 24 2 (VNi 20) xs), (15, Vi (0))] a6 w6 := st6
    replace st6 : St w.heap.size w 130 [] [(0, Vi (n)), (14, VSl 24 2 (VNi 20) xs), (15, Vi (((0 : Nat) : Int)))] a6 w6 := st6.cut
    repeat first | refine wp_seq ?_ | refine wp_block ?_ | refine wp_skip ?_ | refine wp_exit ?_
    refine wp_loop_ghost (fun m aX wX => ∃ j : Nat, j + m = 7 ∧ St w.heap.size w 130 [] [(0, Vi (n)), (14, VSl 24 2 (VNi 20) xs), (15, Vi (((j : Nat) : Int)))] aX wX) 7 ⟨0, by omega, st6⟩ ?_
    clear st6
    intro m aL wL ⟨j, hj, st6⟩
    by_cases hlt : ((j : Nat) : Int) < (xs.length : Int)
    ·
      repeat first | refine wp_seq ?_ | refine wp_block ?_ | refine wp_skip ?_ | refine wp_exit ?_
      have : Sb [] (VSl 24 2 (VNi 20) xs) := ⟨(Stab_VSlI (by simp))⟩
      refine rg (BT := []) (Vl := [Vi (((j : Nat) : Int)), VSl 24 2 (VNi 20) xs, Vi ((xs.length : Int)), Vb (true)]) (B := []) (SL' := [(0, Vi (n)), (14, VSl 24 2 (VNi 20) xs), (15, Vi (((j : Nat) : Int))), (64, Vb (true))]) st6 ⟨ks, ks, ?s2, ?s3, trivial⟩ ?_
      case s2 => refine kr fun _ ac Wd h hd => ?_; obtain ⟨v0, hv0, hV0⟩ := h.dp hd 62; exact len_SlI rfl rfl hv0 hV0
      case s3 =>
        refine kr fun _ ac Wd h hd => ?_
        obtain ⟨v0, hv0, hV0⟩ := h.dp hd 61
        have hV0' : v0 = .int .i64 (((j : Nat) : Int)) := hV0
        obtain ⟨v1, hv1, hV1⟩ := h.dp hd 63
        have hV1' : v1 = .int .i64 ((xs.length : Int)) := hV1
        exact ⟨_, run_lssi rfl (hv0.trans hV0') (hv1.trans hV1'), congrArg Value.bool (decide_eq_true (by omega))⟩
      intro a7 w7 st7
      clear st6
      repeat first | refine wp_seq ?_ | refine wp_block ?_ | refine wp_skip ?_ | refine wp_exit ?_
      obtain ⟨vc, hc1, hc2⟩ := st7.slot (64, Vb (true)) (.tail _ (.tail _ (.tail _ (.head _))))
      refine wp_cond_true (hc1.trans hc2) ?_
      clear hc1 hc2
      obtain ⟨zj, hzj⟩ : ∃ z, xs[j]? = some z := ⟨_, List.getElem?_eq_getElem (by omega)⟩
      repeat first | refine wp_seq ?_ | refine wp_block ?_ | refine wp_skip ?_ | refine wp_exit ?_
      have : Sb [] (VSl 24 2 (VNi 20) xs) := ⟨(Stab_VSlI (by simp))⟩
      have : Sb [] (VEp 24 2 (VNi 20 zj)) := ⟨(Stab_VEpI (by simp))⟩
      refine rg (BT := []) (Vl := [VSl 24 2 (VNi 20) xs, Vi (((j : Nat) : Int)), VEp 24 2 (VNi 20 zj), VNi 20 (zj), Vb (nvi (zj)), VSl 24 2 (VNi 20) xs, Vi (((j : Nat) : Int)), VEp 24 2 (VNi 20 zj), VNi 20 (zj), Vb (nvi (zj)), Vb (false)]) (B := []) (SL' := [(0, Vi (n)), (14, VSl 24 2 (VNi 20) xs), (15, Vi (((j : Nat) : Int))), (64, Vb (true)), (77, Vb (false))]) st7 ⟨ks, ks, ?s2, ?s3, ?s4, ks, ks, ?s7, ?s8, ?s9, ?s10, trivial⟩ ?_
      case s2 => refine kr fun _ ac Wd h hd => ?_; obtain ⟨v0, hv0, hV0⟩ := h.dp hd 67; obtain ⟨v1, hv1, hV1⟩ := h.dp hd 68; exact index_SlI rfl hv0 hV0 hv1 hV1 hzj
      case s3 => refine kr fun _ ac Wd h hd => ?_; obtain ⟨v0, hv0, hV0⟩ := h.dp hd 69; exact load_EpI (A := VNi 20 zj) rfl hv0 hV0 (Stab_VNi _ _)
      case s4 => refine kc fun _ ac Wd h hd => ?_; obtain ⟨v0, hv0, hV0⟩ := h.dp hd 70; exact ⟨#[v0], by simp [hv0], cZValidN (show VNi 20 (zj) v0 Wd from hV0) (by omega)⟩
      case s7 => refine kr fun _ ac Wd h hd => ?_; obtain ⟨v0, hv0, hV0⟩ := h.dp hd 72; obtain ⟨v1, hv1, hV1⟩ := h.dp hd 73; exact index_SlI rfl hv0 hV0 hv1 hV1 hzj
      case s8 => refine kr fun _ ac Wd h hd => ?_; obtain ⟨v0, hv0, hV0⟩ := h.dp hd 74; exact load_EpI (A := VNi 20 zj) rfl hv0 hV0 (Stab_VNi _ _)
      case s9 => refine kc fun _ ac Wd h hd => ?_; obtain ⟨v0, hv0, hV0⟩ := h.dp hd 75; exact ⟨#[v0], by simp [hv0], cR3ValidN (show VNi 20 (zj) v0 Wd from hV0) (by omega)⟩
      case s10 =>
        refine kr fun _ ac Wd h hd => ?_
        obtain ⟨v0, hv0, hV0⟩ := h.dp hd 71
        obtain ⟨v1, hv1, hV1⟩ := h.dp hd 76
        exact ⟨_, run_neqb rfl (hv0.trans hV0) (hv1.trans hV1), congrArg Value.bool (bne_self_eq_false _)⟩
      intro a8 w8 st8
      clear st7
      repeat first | refine wp_seq ?_ | refine wp_block ?_ | refine wp_skip ?_ | refine wp_exit ?_
      obtain ⟨vc, hc1, hc2⟩ := st8.slot (77, Vb (false)) (.tail _ (.tail _ (.tail _ (.tail _ (.head _)))))
      refine wp_cond_false (hc1.trans hc2) ?_
      clear hc1 hc2
      match zj, hzj with
      | .inr zr, hzj =>
        repeat first | refine wp_seq ?_ | refine wp_block ?_ | refine wp_skip ?_ | refine wp_exit ?_
        have : Sb [] (VSl 24 2 (VNi 20) xs) := ⟨(Stab_VSlI (by simp))⟩
        have : Sb [] (VEp 24 2 (VNi 20 (.inr zr))) := ⟨(Stab_VEpI (by simp))⟩
        refine rg (BT := []) (Vl := [VSl 24 2 (VNi 20) xs, Vi (((j : Nat) : Int)), VEp 24 2 (VNi 20 (.inr zr)), VNi 20 (.inr zr), Vb (false), Vb (true)]) (B := []) (SL' := [(0, Vi (n)), (14, VSl 24 2 (VNi 20) xs), (15, Vi (((j : Nat) : Int))), (64, Vb (true)), (77, Vb (false)), (83, Vb (true))]) st8 ⟨ks, ks, ?s2, ?s3, ?s4, ks, trivial⟩ ?_
        case s2 => refine kr fun _ ac Wd h hd => ?_; obtain ⟨v0, hv0, hV0⟩ := h.dp hd 78; obtain ⟨v1, hv1, hV1⟩ := h.dp hd 79; exact index_SlI rfl hv0 hV0 hv1 hV1 hzj
        case s3 => refine kr fun _ ac Wd h hd => ?_; obtain ⟨v0, hv0, hV0⟩ := h.dp hd 80; exact load_EpI (A := VNi 20 (.inr zr)) rfl hv0 hV0 (Stab_VNi _ _)
        case s4 => refine kc fun _ ac Wd h hd => ?_; obtain ⟨v0, hv0, hV0⟩ := h.dp hd 81; exact ⟨#[v0], by simp [hv0], cR3ValidN (show VNi 20 (.inr zr) v0 Wd from hV0) (by omega)⟩
        intro a9 w9 st9
        clear st8
        repeat first | refine wp_seq ?_ | refine wp_block ?_ | refine wp_skip ?_ | refine wp_exit ?_
        obtain ⟨vc, hc1, hc2⟩ := st9.slot (83, Vb (true)) (.tail _ (.tail _ (.tail _ (.tail _ (.tail _ (.head _))))))
        refine wp_cond_true (hc1.trans hc2) ?_
        clear hc1 hc2
        repeat first | refine wp_seq ?_ | refine wp_block ?_ | refine wp_skip ?_ | refine wp_exit ?_
        have : Sb [] (VSl 24 2 (VNi 20) xs) := ⟨(Stab_VSlI (by simp))⟩
        refine rg (BT := []) (Vl := [Vi (((j : Nat) : Int)), Vi (((j + 1 : Nat) : Int)), Vi (((j + 1 : Nat) : Int))]) (B := []) (SL' := [(0, Vi (n)), (14, VSl 24 2 (VNi 20) xs), (64, Vb (true)), (77, Vb (false)), (83, Vb (true)), (15, Vi (((j + 1 : Nat) : Int)))]) st9 ⟨?s0, ?s1, ks, trivial⟩ ?_
        case s0 =>
          refine k_run0 SbB.out (by kernel_rfl) fun listed ac Wd h hd hnl => ⟨trivial, ?_⟩
          obtain ⟨v0, hv0, hV0⟩ := h.out0 hnl (15, Vi (((j : Nat) : Int))) (.tail _ (.tail _ (.head _))) 2 (by kernel_rfl) (.inr (by kernel_rfl))
          exact ⟨_, run_move rfl, by rw [hv0]; exact hV0⟩
        case s1 =>
          refine kr fun _ ac Wd h hd => ?_
          obtain ⟨v0, hv0, hV0⟩ := h.dp hd 65
          exact ⟨_, run_addi rfl (hv0.trans (show v0 = .int .i64 ((j : Nat) : Int) from hV0)) rfl (wrap_id (by omega) (by omega)), congrArg (Value.int .i64) (by omega)⟩
        intro a10 w10 st10
        clear st9
        replace st10 : St w.heap.size w 130 [] [(0, Vi (n)), (14, VSl 24 2 (VNi 20) xs), (64, Vb (true)), (77, Vb (false)), (83, Vb (true)), (15, Vi (((j + 1 : Nat) : Int)))] a10 w10 := st10
        exact ⟨m - 1, by omega, j + 1, by omega, st10.cut⟩
      | .inl y, hzj =>
        repeat first | refine wp_seq ?_ | refine wp_block ?_ | refine wp_skip ?_ | refine wp_exit ?_
        have : Sb [] (VSl 24 2 (VNi 20) xs) := ⟨(Stab_VSlI (by simp))⟩
        have : Sb [] (VEp 24 2 (VNi 20 (.inl y))) := ⟨(Stab_VEpI (by simp))⟩
        refine rg (BT := []) (Vl := [VSl 24 2 (VNi 20) xs, Vi (((j : Nat) : Int)), VEp 24 2 (VNi 20 (.inl y)), VNi 20 (.inl y), Vb (true), Vb (false)]) (B := []) (SL' := [(0, Vi (n)), (14, VSl 24 2 (VNi 20) xs), (15, Vi (((j : Nat) : Int))), (64, Vb (true)), (77, Vb (false)), (83, Vb (false))]) st8 ⟨ks, ks, ?s2, ?s3, ?s4, ks, trivial⟩ ?_
        case s2 => refine kr fun _ ac Wd h hd => ?_; obtain ⟨v0, hv0, hV0⟩ := h.dp hd 78; obtain ⟨v1, hv1, hV1⟩ := h.dp hd 79; exact index_SlI rfl hv0 hV0 hv1 hV1 hzj
        case s3 => refine kr fun _ ac Wd h hd => ?_; obtain ⟨v0, hv0, hV0⟩ := h.dp hd 80; exact load_EpI (A := VNi 20 (.inl y)) rfl hv0 hV0 (Stab_VNi _ _)
        case s4 => refine kc fun _ ac Wd h hd => ?_; obtain ⟨v0, hv0, hV0⟩ := h.dp hd 81; exact ⟨#[v0], by simp [hv0], cR3ValidN (show VNi 20 (.inl y) v0 Wd from hV0) (by omega)⟩
        intro a9 w9 st9
        clear st8
        repeat first | refine wp_seq ?_ | refine wp_block ?_ | refine wp_skip ?_ | refine wp_exit ?_
        obtain ⟨vc, hc1, hc2⟩ := st9.slot (83, Vb (false)) (.tail _ (.tail _ (.tail _ (.tail _ (.tail _ (.head _))))))
        refine wp_cond_false (hc1.trans hc2) ?_
        clear hc1 hc2
        repeat first | refine wp_seq ?_ | refine wp_block ?_ | refine wp_skip ?_ | refine wp_exit ?_
        have : Sb [] (VSl 24 2 (VNi 20) xs) := ⟨(Stab_VSlI (by simp))⟩
        have : Sb [] (VEp 24 2 (VNi 20 (.inl y))) := ⟨(Stab_VEpI (by simp))⟩
        refine rg (BT := []) (Vl := [VSl 24 2 (VNi 20) xs, Vi (((j : Nat) : Int)), VEp 24 2 (VNi 20 (.inl y)), Vz 20 (y), VTup (Vi (smv (y))) (Vb (smb (y))), VTup (Vi (smv (y))) (Vb (smb (y))), Vi (smv (y)), Vb (smb (y)), Vi (smv (y)), Vb (smb (y))]) (B := []) (SL' := [(0, Vi (n)), (14, VSl 24 2 (VNi 20) xs), (15, Vi (((j : Nat) : Int))), (64, Vb (true)), (77, Vb (false)), (83, Vb (false)), (16, Vi (smv (y))), (17, Vb (smb (y)))]) st9 ⟨ks, ks, ?s2, ?s3, ?s4, ks, ks, ks, ks, ks, trivial⟩ ?_
        case s2 => refine kr fun _ ac Wd h hd => ?_; obtain ⟨v0, hv0, hV0⟩ := h.dp hd 85; obtain ⟨v1, hv1, hV1⟩ := h.dp hd 86; exact index_SlI rfl hv0 hV0 hv1 hV1 hzj
        case s3 => refine kr fun _ ac Wd h hd => ?_; obtain ⟨v0, hv0, hV0⟩ := h.dp hd 87; exact load_EpI (A := VNi 20 (.inl y)) rfl hv0 hV0 (Stab_VNi _ _)
        case s4 => refine kc fun _ ac Wd h hd => ?_; obtain ⟨v0, hv0, hV0⟩ := h.dp hd 88; exact ⟨#[v0], by simp [hv0], cSmallT (show Vz 20 (y) v0 Wd from hV0) (by omega)⟩
        intro a10 w10 st10
        clear st9
        repeat first | refine wp_seq ?_ | refine wp_block ?_ | refine wp_skip ?_ | refine wp_exit ?_
        have : Sb [] (VSl 24 2 (VNi 20) xs) := ⟨(Stab_VSlI (by simp))⟩
        have : Sb [] (VEp 24 2 (VNi 20 (.inl y))) := ⟨(Stab_VEpI (by simp))⟩
        refine rg (BT := []) (Vl := [VSl 24 2 (VNi 20) xs, Vi (((j : Nat) : Int)), VEp 24 2 (VNi 20 (.inl y)), Vz 20 (y), VTup (Vi (smv (y))) (Vb (smb (y))), VTup (Vi (smv (y))) (Vb (smb (y))), Vi (smv (y)), Vb (smb (y)), Vi (smv (y)), Vb (smb (y))]) (B := []) (SL' := [(0, Vi (n)), (14, VSl 24 2 (VNi 20) xs), (15, Vi (((j : Nat) : Int))), (64, Vb (true)), (77, Vb (false)), (83, Vb (false)), (16, Vi (smv (y))), (17, Vb (smb (y))), (18, Vi (smv (y))), (19, Vb (smb (y)))]) st10 ⟨ks, ks, ?s2, ?s3, ?s4, ks, ks, ks, ks, ks, trivial⟩ ?_
        case s2 => refine kr fun _ ac Wd h hd => ?_; obtain ⟨v0, hv0, hV0⟩ := h.dp hd 93; obtain ⟨v1, hv1, hV1⟩ := h.dp hd 94; exact index_SlI rfl hv0 hV0 hv1 hV1 hzj
        case s3 => refine kr fun _ ac Wd h hd => ?_; obtain ⟨v0, hv0, hV0⟩ := h.dp hd 95; exact load_EpI (A := VNi 20 (.inl y)) rfl hv0 hV0 (Stab_VNi _ _)
        case s4 => refine kc fun _ ac Wd h hd => ?_; obtain ⟨v0, hv0, hV0⟩ := h.dp hd 96; exact ⟨#[v0], by simp [hv0], cRSmall (show Vz 20 (y) v0 Wd from hV0) (by omega)⟩
        intro a11 w11 st11
        clear st10
        repeat first | refine wp_seq ?_ | refine wp_block ?_ | refine wp_skip ?_ | refine wp_exit ?_
        have : Sb [] (VSl 24 2 (VNi 20) xs) := ⟨(Stab_VSlI (by simp))⟩
        refine rg (BT := []) (Vl := [Vi (smv (y)), Vi (smv (y)), Vb (false), Vb (false), Vb (smb (y)), Vb (smb (y)), Vb (false), Vb (false)]) (B := []) (SL' := [(0, Vi (n)), (14, VSl 24 2 (VNi 20) xs), (15, Vi (((j : Nat) : Int))), (64, Vb (true)), (77, Vb (false)), (83, Vb (false)), (107, Vb (false))]) st11 ⟨ks, ks, ?s2, ks, ks, ks, ?s6, ks, trivial⟩ ?_
        case s2 =>
          refine kr fun _ ac Wd h hd => ?_
          obtain ⟨v0, hv0, hV0⟩ := h.dp hd 100
          have hV0' : v0 = .int .i64 (smv (y)) := hV0
          obtain ⟨v1, hv1, hV1⟩ := h.dp hd 101
          have hV1' : v1 = .int .i64 (smv (y)) := hV1
          exact ⟨_, run_neqi rfl (hv0.trans hV0') (hv1.trans hV1'), congrArg Value.bool (by simp)⟩
        case s6 =>
          refine kr fun _ ac Wd h hd => ?_
          obtain ⟨v0, hv0, hV0⟩ := h.dp hd 104
          obtain ⟨v1, hv1, hV1⟩ := h.dp hd 105
          exact ⟨_, run_neqb rfl (hv0.trans hV0) (hv1.trans hV1), congrArg Value.bool (bne_self_eq_false _)⟩
        intro a12 w12 st12
        clear st11
        repeat first | refine wp_seq ?_ | refine wp_block ?_ | refine wp_skip ?_ | refine wp_exit ?_
        obtain ⟨vc, hc1, hc2⟩ := st12.slot (107, Vb (false)) (.tail _ (.tail _ (.tail _ (.tail _ (.tail _ (.tail _ (.head _)))))))
        refine wp_cond_false (hc1.trans hc2) ?_
        clear hc1 hc2
        repeat first | refine wp_seq ?_ | refine wp_block ?_ | refine wp_skip ?_ | refine wp_exit ?_
        have : Sb [] (VSl 24 2 (VNi 20) xs) := ⟨(Stab_VSlI (by simp))⟩
        refine rg (BT := []) (Vl := [Vi (((j : Nat) : Int)), Vi (((j + 1 : Nat) : Int)), Vi (((j + 1 : Nat) : Int))]) (B := []) (SL' := [(0, Vi (n)), (14, VSl 24 2 (VNi 20) xs), (64, Vb (true)), (77, Vb (false)), (83, Vb (false)), (107, Vb (false)), (15, Vi (((j + 1 : Nat) : Int)))]) st12 ⟨?s0, ?s1, ks, trivial⟩ ?_
        case s0 =>
          refine k_run0 SbB.out (by kernel_rfl) fun listed ac Wd h hd hnl => ⟨trivial, ?_⟩
          obtain ⟨v0, hv0, hV0⟩ := h.out0 hnl (15, Vi (((j : Nat) : Int))) (.tail _ (.tail _ (.head _))) 2 (by kernel_rfl) (.inr (by kernel_rfl))
          exact ⟨_, run_move rfl, by rw [hv0]; exact hV0⟩
        case s1 =>
          refine kr fun _ ac Wd h hd => ?_
          obtain ⟨v0, hv0, hV0⟩ := h.dp hd 65
          exact ⟨_, run_addi rfl (hv0.trans (show v0 = .int .i64 ((j : Nat) : Int) from hV0)) rfl (wrap_id (by omega) (by omega)), congrArg (Value.int .i64) (by omega)⟩
        intro a13 w13 st13
        clear st12
        replace st13 : St w.heap.size w 130 [] [(0, Vi (n)), (14, VSl 24 2 (VNi 20) xs), (64, Vb (true)), (77, Vb (false)), (83, Vb (false)), (107, Vb (false)), (15, Vi (((j + 1 : Nat) : Int)))] a13 w13 := st13
        exact ⟨m - 1, by omega, j + 1, by omega, st13.cut⟩
    ·
      repeat first | refine wp_seq ?_ | refine wp_block ?_ | refine wp_skip ?_ | refine wp_exit ?_
      have : Sb [] (VSl 24 2 (VNi 20) xs) := ⟨(Stab_VSlI (by simp))⟩
      refine rg (BT := []) (Vl := [Vi (((j : Nat) : Int)), VSl 24 2 (VNi 20) xs, Vi ((xs.length : Int)), Vb (false)]) (B := []) (SL' := [(0, Vi (n)), (14, VSl 24 2 (VNi 20) xs), (15, Vi (((j : Nat) : Int))), (64, Vb (false))]) st6 ⟨ks, ks, ?s2, ?s3, trivial⟩ ?_
      case s2 => refine kr fun _ ac Wd h hd => ?_; obtain ⟨v0, hv0, hV0⟩ := h.dp hd 62; exact len_SlI rfl rfl hv0 hV0
      case s3 =>
        refine kr fun _ ac Wd h hd => ?_
        obtain ⟨v0, hv0, hV0⟩ := h.dp hd 61
        have hV0' : v0 = .int .i64 (((j : Nat) : Int)) := hV0
        obtain ⟨v1, hv1, hV1⟩ := h.dp hd 63
        have hV1' : v1 = .int .i64 ((xs.length : Int)) := hV1
        exact ⟨_, run_lssi rfl (hv0.trans hV0') (hv1.trans hV1'), congrArg Value.bool (decide_eq_false (by omega))⟩
      intro a7 w7 st7
      clear st6
      repeat first | refine wp_seq ?_ | refine wp_block ?_ | refine wp_skip ?_ | refine wp_exit ?_
      obtain ⟨vc, hc1, hc2⟩ := st7.slot (64, Vb (false)) (.tail _ (.tail _ (.tail _ (.head _))))
      refine wp_cond_false (hc1.trans hc2) ?_
      clear hc1 hc2
      repeat first | refine wp_seq ?_ | refine wp_block ?_ | refine wp_skip ?_ | refine wp_exit ?_
      have : Sb [] (VSl 24 2 (VNi 20) xs) := ⟨(Stab_VSlI (by simp))⟩
      refine rg (BT := []) (Vl := [Vi (n), Vz 3 (n), VTup (Vi (smv (n))) (Vb (smb (n))), VTup (Vi (smv (n))) (Vb (smb (n))), Vi (smv (n)), Vb (smb (n)), Vi (smv (n)), Vb (smb (n))]) (B := []) (SL' := [(0, Vi (n)), (14, VSl 24 2 (VNi 20) xs), (15, Vi (((j : Nat) : Int))), (64, Vb (false)), (20, Vi (smv (n))), (21, Vb (smb (n)))]) st7 ⟨ks, ?s1, ?s2, ks, ks, ks, ks, ks, trivial⟩ ?_
      case s1 => refine kc fun _ ac Wd h hd => ?_; obtain ⟨v0, hv0, hV0⟩ := h.dp hd 109; exact ⟨#[v0], by simp [hv0], cOfV (show Vi (n) v0 Wd from hV0) (by omega) (by omega)⟩
      case s2 => refine kc fun _ ac Wd h hd => ?_; obtain ⟨v0, hv0, hV0⟩ := h.dp hd 110; exact ⟨#[v0], by simp [hv0], cSmallT (show Vz 3 (n) v0 Wd from hV0) (by omega)⟩
      intro a8 w8 st8
      clear st7
      have hsm : smv n = n := if_pos ⟨by omega, by omega⟩
      have hsb : smb n = true := decide_eq_true ⟨by omega, by omega⟩
      replace st8 : St w.heap.size w 130 [] [(0, Vi (n)), (14, VSl 24 2 (VNi 20) xs), (15, Vi (((j : Nat) : Int))), (64, Vb (false)), (20, Vi (smv (n))), (21, Vb (smb (n)))] a8 w8 := st8
      rw [hsm, hsb] at st8
      repeat first | refine wp_seq ?_ | refine wp_block ?_ | refine wp_skip ?_ | refine wp_exit ?_
      have : Sb [] (VSl 24 2 (VNi 20) xs) := ⟨(Stab_VSlI (by simp))⟩
      refine rg (BT := []) (Vl := [Vi (n), Vz 3 (n), Vi (n), Vz 3 (n), Vb (true), Vb (true), Vi (n), Vi (n), Vb (true), Vb (true), Vb (true), Vb (true), Vb (true), Vb (true), Vb (true), Vb (true), Vb (true)]) (B := []) (SL' := [(0, Vi (n)), (14, VSl 24 2 (VNi 20) xs), (15, Vi (((j : Nat) : Int))), (64, Vb (false)), (10, Vb (true))]) st8 ⟨ks, ?s1, ks, ?s3, ?s4, ks, ks, ks, ?s8, ks, ks, ks, ks, ks, ?s14, ks, ks, trivial⟩ ?_
      case s1 => refine kc fun _ ac Wd h hd => ?_; obtain ⟨v0, hv0, hV0⟩ := h.dp hd 114; exact ⟨#[v0], by simp [hv0], cOfV (show Vi (n) v0 Wd from hV0) (by omega) (by omega)⟩
      case s3 => refine kc fun _ ac Wd h hd => ?_; obtain ⟨v0, hv0, hV0⟩ := h.dp hd 116; exact ⟨#[v0], by simp [hv0], cROfV (show Vi (n) v0 Wd from hV0) (by omega) (by omega)⟩
      case s4 =>
        refine kc fun _ ac Wd h hd => ?_
        obtain ⟨v0, hv0, hV0⟩ := h.dp hd 115
        obtain ⟨v1, hv1, hV1⟩ := h.dp hd 117
        exact ⟨#[v0, v1], by simp [hv0, hv1], cSame (show Vz 3 (n) v0 Wd from hV0) (show Vz 3 (n) v1 Wd from hV1) (by omega) (by omega) rfl⟩
      case s8 =>
        refine kr fun _ ac Wd h hd => ?_
        obtain ⟨v0, hv0, hV0⟩ := h.dp hd 120
        have hV0' : v0 = .int .i64 (n) := hV0
        obtain ⟨v1, hv1, hV1⟩ := h.dp hd 121
        have hV1' : v1 = .int .i64 (n) := hV1
        exact ⟨_, run_eqi rfl (hv0.trans hV0') (hv1.trans hV1'), congrArg Value.bool (by simp)⟩
      case s14 => refine kc fun _ ac Wd h hd => ?_; exact ⟨#[], by simp [], cLives hT h.k.below rfl⟩
      intro a9 w9 st9
      clear st8
      repeat first | refine wp_seq ?_ | refine wp_block ?_ | refine wp_skip ?_ | refine wp_exit ?_
      obtain ⟨vr, r1, r4⟩ := st9.slot (10, Vb (true)) (.tail _ (.tail _ (.tail _ (.tail _ (.head _)))))
      exact wp_ret (bodyPost_ret (results_tmp rfl _ _ _) st9.defers ⟨_, congrArg Ending.returned (show _ = vr from r1), r4, below_tr hb1 st9.k.below⟩)
end Go.Proofs.YtmbkpcnpacncjaaDoor
