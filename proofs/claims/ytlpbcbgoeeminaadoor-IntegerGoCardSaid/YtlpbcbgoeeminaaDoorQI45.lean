/- IntegerGo. -/
import Derived.Test.YtlpbcbgoeeminaaDoorM22
namespace Go.Proofs.YtlpbcbgoeeminaaDoor
open Go.RowKit

theorem run_quo {ρ : Operand → Value} {o : Oper} {W : World} {x y : Operand} {n m : Int} (ho : o.op = .binOp .quo 3 x y 3) (hx : ρ x = .int .i64 n) (hy : ρ y = .int .i64 m) (h0 : 0 ≤ n) (h1 : n ≤ 9223372036854775807) (h2 : 0 < m) : (execOp ρ o).run Tryd.prog W = .ok (.value (.int .i64 (n / m))) W := by
  obtain ⟨d, op, ty, ps, af, gd⟩ := o
  subst ho
  have e1 : n.tdiv m = n / m := Int.tdiv_eq_ediv_of_nonneg h0
  have e2 : 0 ≤ n / m := Int.ediv_nonneg h0 (by omega)
  have e3 : n / m ≤ n := Int.ediv_le_self m h0
  have e4 : ¬ m = 0 := by omega
  generalize n / m = q at e1 e2 e3 ⊢
  go_simp
  simp [IntKind.wrap, IntKind.bits, IntKind.signed]
  omega
theorem run_rem {ρ : Operand → Value} {o : Oper} {W : World} {x y : Operand} {n m : Int} (ho : o.op = .binOp .rem 3 x y 3) (hx : ρ x = .int .i64 n) (hy : ρ y = .int .i64 m) (h0 : 0 ≤ n) (h2 : 0 < m) (h3 : m ≤ 9223372036854775807) : (execOp ρ o).run Tryd.prog W = .ok (.value (.int .i64 (n % m))) W := by
  obtain ⟨d, op, ty, ps, af, gd⟩ := o
  subst ho
  have e1 : n.tmod m = n % m := Int.tmod_eq_emod_of_nonneg h0
  have e2 : 0 ≤ n % m := Int.emod_nonneg n (by omega)
  have e3 : n % m < m := Int.emod_lt_of_pos n h2
  have e4 : ¬ m = 0 := by omega
  go_simp
theorem Bz_facts {N g : Nat} {z : Int} {W : World} (h : Bz N g z W) : ∃ nb p n c, W.cell? ⟨g, 0, none⟩ = some (.bool nb) ∧ W.cell? ⟨g, 1, none⟩ = some (.slice p n c) ∧ IntAt W nb p n c z ∧ n ≤ N := by
  obtain ⟨nb, p, n, c, h1, h2⟩ := h
  exact ⟨nb, p, n, c, by simp [World.cell?, h1], by simp [World.cell?, h1], h2⟩
theorem mul_bd {x y : Int} (h1 : -2147483648 < x) (h2 : x < 2147483648) (h3 : -2147483648 < y) (h4 : y < 2147483648) : -4611686018427387904 ≤ x * y ∧ x * y ≤ 4611686018427387904 := by
  have a1 : x.natAbs ≤ 2147483648 := by omega
  have a2 : y.natAbs ≤ 2147483648 := by omega
  have a3 : (x * y).natAbs ≤ 2147483648 * 2147483648 := by rw [Int.natAbs_mul]; exact Nat.mul_le_mul a1 a2
  omega

set_option maxRecDepth 100000 in
set_option maxHeartbeats 1600000 in
theorem walk_go_case (a b k : Int) (ha : -9223372036854775808 ≤ a ∧ a ≤ 9223372036854775807) (hb : -9223372036854775808 ≤ b ∧ b ≤ 9223372036854775807) (hk : -9223372036854775808 ≤ k ∧ k ≤ 9223372036854775807) (w : World) (hT : Tb w) (C x y : Int) (hx : a.tmod 2147483648 = x) (hy : b.tmod 2147483648 = y) (hC : cmpI x y = C) (hcase : (x < y ∧ C = -1) ∨ (x = y ∧ C = 0) ∨ (y < x ∧ C = 1)) :
    Calls Tryd.prog 9 #[.int .i64 a, .int .i64 b, .int .i64 k] w fun e w' => e = .returned (.bool true) ∧ Below w.heap.size w w' := by
  have hxb : -2147483648 < x ∧ x < 2147483648 := by rw [← hx]; exact ⟨Int.lt_tmod_of_pos a (by omega), Int.tmod_lt_of_pos a (by omega)⟩
  have hyb : -2147483648 < y ∧ y < 2147483648 := by rw [← hy]; exact ⟨Int.lt_tmod_of_pos b (by omega), Int.tmod_lt_of_pos b (by omega)⟩
  have hxb1 := hxb.1
  have hxb2 := hxb.2
  have hyb1 := hyb.1
  have hyb2 := hyb.2
  have hmul := mul_bd hxb1 hxb2 hyb1 hyb2
  have hmul1 := hmul.1
  have hmul2 := hmul.2
  have hof : Hid (∀ z : Int, -9223372036854775808 ≤ z → z ≤ 9223372036854775807 → ∀ W, Calls Tryd.prog 20 #[.int .i64 z] W (RV (Vz 3 z) W)) := Lib.hid fun z h1 h2 W => cOf z h1 h2
  have hT' := Lib.hid hT
  clear hT
  go_enter Tryd.func9, Tryd.ntmps9
  go_upto_region 3 with fail
  clear hxb hyb hmul hx hy
  go_upto_region 5 with (first
    | (go_at_call 20; (with_reducible refine (hof.out x (by omega) (by omega) _).mono ?_); rintro e w1 ⟨_, rfl, ⟨nb1, p1, n1, c1, rfl, hI1, hl1⟩, hb1⟩; have hX := Lib.hid (And.intro hI1 hl1); clear hI1 hl1)
    | (go_at_call 20; (with_reducible refine (hof.out y (by omega) (by omega) _).mono ?_); rintro e w2 ⟨_, rfl, ⟨nb2, p2, n2, c2, rfl, hI2, hl2⟩, hb2⟩; have hY := Lib.hid (And.intro hI2 hl2); clear hI2 hl2))
  obtain ⟨W1, hW1⟩ : ∃ W1, w2.alloc (.cells #[.bool nb2, .slice p2 n2 c2] 24 (0, 0)) = W1 := ⟨_, rfl⟩
  have t2 : Below w2.heap.size w2 W1 := hW1 ▸ below_new _ _
  have hY1 : Bz 3 w2.heap.size y W1 := hW1 ▸ Bz_new hY.out.1 hY.out.2
  have hX1 : Bz 3 w1.heap.size x W1 := (Bz_new hX.out.1 hX.out.2).later (below_tr hb2 t2)
  have tw := Lib.hid (below_tr hb1 (below_tr (below_new _ _) (below_tr hb2 t2)))
  rw [hW1]
  have hT1 : Hid (Tb W1) := Lib.hid (hT'.out.later tw.out)
  clear hW1 t2 hT' hb1 hb2 hX hY
  generalize w1.heap.size = g1 at hX1 ⊢
  generalize w2.heap.size = g2 at hY1 ⊢
  obtain ⟨nbx, px, nx, cx, cx0, cx1, hIx, hnx⟩ := Bz_facts hX1
  obtain ⟨nby, py, ny, cy, cy0, cy1, hIy, hny⟩ := Bz_facts hY1
  have hx := Lib.hid (And.intro hIx hnx)
  have hy := Lib.hid (And.intro hIy hny)
  clear hIx hnx hIy hny
  obtain ⟨N, hN⟩ : ∃ N, arn a 4611686018427387904 = N := ⟨_, rfl⟩
  obtain ⟨K1, hK1⟩ : ∃ N, arn k 4611686018427387903 = N := ⟨_, rfl⟩
  obtain ⟨M, hM⟩ : ∃ N, arn b (1 + K1) = N := ⟨_, rfl⟩
  have hN0 : 0 ≤ N := hN ▸ arn_lo _ _ (by omega)
  have hN1 : N < 4611686018427387904 := hN ▸ arn_hi _ _ (by omega)
  have hN3 : N ≤ 9223372036854775807 := by omega
  have hK0 : 0 ≤ K1 := hK1 ▸ arn_lo _ _ (by omega)
  have hK2 : K1 < 4611686018427387903 := hK1 ▸ arn_hi _ _ (by omega)
  have hM0 : 0 ≤ M := hM ▸ arn_lo _ _ (by omega)
  have hM1 : M < 1 + K1 := hM ▸ arn_hi _ _ (by omega)
  have hM3 : 0 < 1 + M := by omega
  have hM4 : 1 + M ≤ 9223372036854775807 := by omega
  have hr1c : Hid (∀ W, Calls Tryd.prog 12 #[.int .i64 a, .int .i64 4611686018427387904] W fun e w' => e = .returned (.int .i64 N) ∧ W = w') := Lib.hid fun W => by have := around_any a 4611686018427387904 ha.1 ha.2 (by omega) (by omega) W; rw [hN] at this; exact this
  have hr2c : Hid (∀ W, Calls Tryd.prog 12 #[.int .i64 k, .int .i64 4611686018427387903] W fun e w' => e = .returned (.int .i64 K1) ∧ W = w') := Lib.hid fun W => by have := around_any k 4611686018427387903 hk.1 hk.2 (by omega) (by omega) W; rw [hK1] at this; exact this
  have hr3c : Hid (∀ W, Calls Tryd.prog 12 #[.int .i64 b, .int .i64 (1 + K1)] W fun e w' => e = .returned (.int .i64 M) ∧ W = w') := Lib.hid fun W => by have := around_any b (1 + K1) hb.1 hb.2 (by omega) (by omega) W; rw [hM] at this; exact this
  have hdq : Hid (dq N (1 + M) = N / (1 + M)) := Lib.hid (by unfold dq; rw [if_neg (by omega)])
  have hdr : Hid (dr N (1 + M) = N % (1 + M)) := Lib.hid (by unfold dr; rw [if_neg (by omega)])
  have hq0 : 0 ≤ N / (1 + M) := Int.ediv_nonneg hN0 (by omega)
  have hq3 : N / (1 + M) ≤ N := Int.ediv_le_self _ hN0
  have hr0 : 0 ≤ N % (1 + M) := Int.emod_nonneg _ (by omega)
  have hr3 : N % (1 + M) < 1 + M := Int.emod_lt_of_pos _ hM3
  obtain ⟨hq1, hq2⟩ : -9223372036854775808 ≤ N / (1 + M) ∧ N / (1 + M) ≤ 9223372036854775807 := ⟨by omega, by omega⟩
  obtain ⟨hr1, hr2⟩ : -9223372036854775808 ≤ N % (1 + M) ∧ N % (1 + M) ≤ 9223372036854775807 := ⟨by omega, by omega⟩
  clear hN hK1 hM ha hb hk hq0 hq3 hr0 hr3
  rcases hcase with ⟨h, rfl⟩ | ⟨h, rfl⟩ | ⟨h, rfl⟩
  · skip
    go_upto_region 15 with (first
    | (go_at_call 24; (refine (cAdd (Na := 3) (Nb := 3) (a := x) (b := y) ⟨_, _, _, _, rfl, hx.out.1.later (Below.refl _ _), hx.out.2⟩ ⟨_, _, _, _, rfl, hy.out.1.later (Below.refl _ _), hy.out.2⟩ (by omega) (by omega)).mono ?_); rintro e u11 ⟨s1, rfl, hs1, hv11⟩; have hs1' := Lib.hid hs1; have tu11 := Lib.hid (below_tr (Below.refl _ _) hv11); clear hs1)
    | (go_at_call 20; (with_reducible refine (hof.out (x + y) (by omega) (by omega) _).mono ?_); rintro e u12 ⟨o1, rfl, ho1, hv12⟩; have ho1' := Lib.hid ho1; have tu12 := Lib.hid (below_tr tu11.out hv12); clear ho1)
    | (go_at_call 21; (refine (cSame (Vz_mono _ _ _ _ _ hs1'.out hv12) ho1'.out (by omega) (by omega) rfl).mono ?_); clear hs1' ho1'; rintro e u13 ⟨_, rfl, rfl, hv13⟩; have tu13 := Lib.hid (below_tr tu12.out hv13); have dx10 := Below.cell_of' tu13.out cx0; have dx11 := Below.cell_of' tu13.out cx1; have dy10 := Below.cell_of' tu13.out cy0; have dy11 := Below.cell_of' tu13.out cy1)
    | (go_at_call 25; (refine (cSub (Na := 3) (Nb := 3) (a := x) (b := y) ⟨_, _, _, _, rfl, hx.out.1.later tu13.out, hx.out.2⟩ ⟨_, _, _, _, rfl, hy.out.1.later tu13.out, hy.out.2⟩ (by omega) (by omega)).mono ?_); rintro e u21 ⟨s2, rfl, hs2, hv21⟩; have hs2' := Lib.hid hs2; have tu21 := Lib.hid (below_tr tu13.out hv21); clear hs2)
    | (go_at_call 20; (with_reducible refine (hof.out (x - y) (by omega) (by omega) _).mono ?_); rintro e u22 ⟨o2, rfl, ho2, hv22⟩; have ho2' := Lib.hid ho2; have tu22 := Lib.hid (below_tr tu21.out hv22); clear ho2)
    | (go_at_call 21; (refine (cSame (Vz_mono _ _ _ _ _ hs2'.out hv22) ho2'.out (by omega) (by omega) rfl).mono ?_); clear hs2' ho2'; rintro e u23 ⟨_, rfl, rfl, hv23⟩; have tu23 := Lib.hid (below_tr tu22.out hv23); have dx20 := Below.cell_of' tu23.out cx0; have dx21 := Below.cell_of' tu23.out cx1; have dy20 := Below.cell_of' tu23.out cy0; have dy21 := Below.cell_of' tu23.out cy1)
    | (go_at_call 26; (refine (cMul (Na := 3) (Nb := 3) (a := x) (b := y) ⟨_, _, _, _, rfl, hx.out.1.later tu23.out, hx.out.2⟩ ⟨_, _, _, _, rfl, hy.out.1.later tu23.out, hy.out.2⟩ (by omega) (by omega)).mono ?_); rintro e u31 ⟨s3, rfl, hs3, hv31⟩; have hs3' := Lib.hid hs3; have tu31 := Lib.hid (below_tr tu23.out hv31); clear hs3)
    | (go_at_call 20; (with_reducible refine (hof.out (x * y) (by omega) (by omega) _).mono ?_); rintro e u32 ⟨o3, rfl, ho3, hv32⟩; have ho3' := Lib.hid ho3; have tu32 := Lib.hid (below_tr tu31.out hv32); clear ho3)
    | (go_at_call 21; (refine (cSame (Vz_mono _ _ _ _ _ hs3'.out hv32) ho3'.out (by omega) (by omega) rfl).mono ?_); clear hs3' ho3'; rintro e u33 ⟨_, rfl, rfl, hv33⟩; have tu33 := Lib.hid (below_tr tu32.out hv33); have dx30 := Below.cell_of' tu33.out cx0; have dx31 := Below.cell_of' tu33.out cx1; have dy30 := Below.cell_of' tu33.out cy0; have dy31 := Below.cell_of' tu33.out cy1)
    | (go_at_call 30; (refine (cCompare (Na := 3) (Nb := 3) (a := x) (b := y) ⟨_, _, _, _, rfl, hx.out.1.later tu33.out, hx.out.2⟩ ⟨_, _, _, _, rfl, hy.out.1.later tu33.out, hy.out.2⟩ (by omega) (by omega)).mono ?_); rintro e u41 ⟨_, rfl, hvc, hv41⟩; have tu41 := Lib.hid (below_tr tu33.out hv41); rw [hC] at hvc; obtain rfl := hvc)
    | (go_at_call 12; (with_reducible refine (hr1c.out _).mono ?_); rintro e u5 ⟨rfl, rfl⟩)
    | (go_at_call 12; (with_reducible refine (hr2c.out _).mono ?_); rintro e u6 ⟨rfl, rfl⟩)
    | (go_at_call 12; (with_reducible refine (hr3c.out _).mono ?_); rintro e u7 ⟨rfl, rfl⟩)
    | (go_at_call 20; (with_reducible refine (hof.out N (by omega) (by omega) _).mono ?_); rintro e u8 ⟨o8, rfl, ho8, hv8⟩; have ho8' := Lib.hid ho8; have tu8 := Lib.hid (below_tr tu41.out hv8); clear ho8)
    | (go_at_call 20; (with_reducible refine (hof.out (1 + M) (by omega) (by omega) _).mono ?_); rintro e u9 ⟨o9, rfl, ho9, hv9⟩; have ho9' := Lib.hid ho9; have tu9 := Lib.hid (below_tr tu8.out hv9); clear ho9)
    | (go_at_call 35; (refine (cDiv (Vz_mono _ _ _ _ _ ho8'.out hv9) ho9'.out (by omega) (by omega)).mono ?_); rintro e u10 ⟨_, _, rfl, ⟨nbA, pA, nA, cA, rfl, hIA, hnA⟩, ⟨nbB, pB, nB, cB, rfl, hIB, hnB⟩, hv10⟩; have tu10 := Lib.hid (below_tr tu9.out hv10); have hA := Lib.hid (And.intro hIA hnA); have hB := Lib.hid (And.intro hIB hnB); clear hIA hnA hIB hnB))
    obtain ⟨W2, hW2⟩ : ∃ W2, (u10.alloc (.cells #[.bool nbA, .slice pA nA cA] 24 (0, 0))).alloc (.cells #[.bool nbB, .slice pB nB cB] 24 (0, 0)) = W2 := ⟨_, rfl⟩
    have hQ1 : Bz 3 u10.heap.size (dq N (1 + M)) W2 := hW2 ▸ (Bz_new hA.out.1 hA.out.2).later (below_new _ _)
    have hR1 : Bz 3 (u10.heap.size + 1) (dr N (1 + M)) W2 := hW2 ▸ Bz_new2 hB.out.1 hB.out.2
    have tw2 := Lib.hid (below_tr tw.out (below_tr tu10.out (hW2 ▸ below_tr (below_new _ _) (below_new _ _) : Below u10.heap.size u10 W2)))
    have hT2 : Hid (Tb W2) := Lib.hid (hT1.out.later (below_tr tu10.out (hW2 ▸ below_tr (below_new _ _) (below_new _ _) : Below u10.heap.size u10 W2)))
    rw [hW2]
    clear hW2 hA hB
    generalize u10.heap.size + 1 = g4 at hR1 ⊢
    generalize u10.heap.size = g3 at hQ1 ⊢
    refine region_flows (V := fun i => ([Vz 3 (dq N (1 + M)), Vi (N), Vi (1 + M), Vi (N / (1 + M)), Vz 3 (N / (1 + M)), Vb true, Vb true, Vz 3 (dr N (1 + M)), Vi (N), Vi (1 + M), Vi (N % (1 + M)), Vz 3 (N % (1 + M)), Vb true, Vb true, Vb true, Vb true, Vb true, Vb true] : List VP).getD i VT) (S := fun W => Below W2.heap.size W2 W) (R := fun a b => Below a.heap.size a b) (by kernel_rfl) (by kernel_rfl) (by kernel_rfl) (by rfl) (mono_of ⟨Vz_mono _ _, Vi_mono _, Vi_mono _, Vi_mono _, Vz_mono _ _, Vb_mono _, Vb_mono _, Vz_mono _ _, Vi_mono _, Vi_mono _, Vi_mono _, Vz_mono _ _, Vb_mono _, Vb_mono _, Vb_mono _, Vb_mono _, Vb_mono _, Vb_mono _, trivial⟩) ((Below.refl _ _).drew) ⟨?s0, ?s1, ?s2, ?s3, ?s4, ?s5, ?s6, ?s7, ?s8, ?s9, ?s10, ?s11, ?s12, ?s13, ?s14, ?s15, ?s16, ?s17, trivial⟩ [84, 85, 86, 87, 88, 89, 90, 91, 92, 93, 94, 95, 96, 97, 98, 99, 100, 6] rfl ?hdone
    case s0 =>
      refine flow_wp fun listed a W h hd => ⟨trivial, fun K hK => ?_⟩
      exact wp_load_box rfl (h.out 14 (by kernel_rfl)) (hQ1.later h.s) fun v hv => hK v W h.s (Below.refl _ _) hv
    case s1 =>
      refine flow_run fun listed a W h hd => ⟨trivial, ?_⟩
      exact ⟨_, W, run_move rfl, h.s, Below.refl _ _, h.out 12 (by kernel_rfl)⟩
    case s2 =>
      refine flow_run fun listed a W h hd => ⟨trivial, ?_⟩
      exact ⟨_, W, run_move rfl, h.s, Below.refl _ _, h.out 13 (by kernel_rfl)⟩
    case s3 =>
      refine flow_run fun listed a W h hd => ⟨trivial, ?_⟩
      obtain ⟨v0, hv0, -, hV0⟩ := h.dep hd 1 85 (by kernel_rfl) (by kernel_rfl)
      obtain ⟨v1, hv1, -, hV1⟩ := h.dep hd 2 86 (by kernel_rfl) (by kernel_rfl)
      have hV0' : v0 = .int .i64 N := hV0
      have hV1' : v1 = .int .i64 (1 + M) := hV1
      exact ⟨_, _, run_quo rfl (hv0.trans hV0') (hv1.trans hV1') hN0 hN3 hM3, h.s, Below.refl _ _, rfl⟩
    case s4 =>
      refine flow_call (fun _ _ => rfl) fun listed a W h hd => ⟨trivial, ?_⟩
      obtain ⟨v0, hv0, -, hV0⟩ := h.dep hd 3 87 (by kernel_rfl) (by kernel_rfl)
      obtain rfl : v0 = .int .i64 (N / (1 + M)) := hV0
      refine ⟨#[.int .i64 (N / (1 + M))], by simp [hv0], (cOf (N / (1 + M)) hq1 hq2).mono fun e w' ⟨v, he, hV, hb⟩ => ⟨v, he, below_tr h.s hb, hb, hV⟩⟩
    case s5 =>
      refine flow_call (fun _ _ => rfl) fun listed a W h hd => ⟨trivial, ?_⟩
      obtain ⟨v0, hv0, -, hV0⟩ := h.dep hd 0 84 (by kernel_rfl) (by kernel_rfl)
      obtain ⟨v1, hv1, -, hV1⟩ := h.dep hd 4 88 (by kernel_rfl) (by kernel_rfl)
      refine ⟨#[v0, v1], by simp [hv0, hv1], (cSame (show Vz 3 (dq N (1 + M)) v0 W from hV0) (show Vz 3 (N / (1 + M)) v1 W from hV1) (by omega) (by omega) (by first | exact hdq.out | exact hdr.out)).mono fun e w' ⟨v, he, hV, hb⟩ => ⟨v, he, below_tr h.s hb, hb, hV⟩⟩
    case s6 =>
      refine flow_run fun listed a W h hd => ⟨trivial, ?_⟩
      obtain ⟨v0, hv0, -, hV0⟩ := h.dep hd 5 89 (by kernel_rfl) (by kernel_rfl)
      exact ⟨_, W, run_move rfl, h.s, Below.refl _ _, by rw [hv0]; exact hV0⟩
    case s7 =>
      refine flow_wp fun listed a W h hd => ⟨(by obtain ⟨u, hu, hy, hU⟩ := h.dep hd 6 90 (by kernel_rfl) (by kernel_rfl); obtain rfl : u = .bool true := hU; exact hy), fun K hK => ?_⟩
      exact wp_load_box rfl (h.out 15 (by kernel_rfl)) (hR1.later h.s) fun v hv => hK v W h.s (Below.refl _ _) hv
    case s8 =>
      refine flow_run fun listed a W h hd => ⟨(by obtain ⟨u, hu, hy, hU⟩ := h.dep hd 6 90 (by kernel_rfl) (by kernel_rfl); obtain rfl : u = .bool true := hU; exact hy), ?_⟩
      exact ⟨_, W, run_move rfl, h.s, Below.refl _ _, h.out 12 (by kernel_rfl)⟩
    case s9 =>
      refine flow_run fun listed a W h hd => ⟨(by obtain ⟨u, hu, hy, hU⟩ := h.dep hd 6 90 (by kernel_rfl) (by kernel_rfl); obtain rfl : u = .bool true := hU; exact hy), ?_⟩
      exact ⟨_, W, run_move rfl, h.s, Below.refl _ _, h.out 13 (by kernel_rfl)⟩
    case s10 =>
      refine flow_run fun listed a W h hd => ⟨(by obtain ⟨u, hu, hy, hU⟩ := h.dep hd 6 90 (by kernel_rfl) (by kernel_rfl); obtain rfl : u = .bool true := hU; exact hy), ?_⟩
      obtain ⟨v0, hv0, -, hV0⟩ := h.dep hd 8 92 (by kernel_rfl) (by kernel_rfl)
      obtain ⟨v1, hv1, -, hV1⟩ := h.dep hd 9 93 (by kernel_rfl) (by kernel_rfl)
      have hV0' : v0 = .int .i64 N := hV0
      have hV1' : v1 = .int .i64 (1 + M) := hV1
      exact ⟨_, _, run_rem rfl (hv0.trans hV0') (hv1.trans hV1') hN0 hM3 hM4, h.s, Below.refl _ _, rfl⟩
    case s11 =>
      refine flow_call (fun _ _ => rfl) fun listed a W h hd => ⟨(by obtain ⟨u, hu, hy, hU⟩ := h.dep hd 6 90 (by kernel_rfl) (by kernel_rfl); obtain rfl : u = .bool true := hU; exact hy), ?_⟩
      obtain ⟨v0, hv0, -, hV0⟩ := h.dep hd 10 94 (by kernel_rfl) (by kernel_rfl)
      obtain rfl : v0 = .int .i64 (N % (1 + M)) := hV0
      refine ⟨#[.int .i64 (N % (1 + M))], by simp [hv0], (cOf (N % (1 + M)) hr1 hr2).mono fun e w' ⟨v, he, hV, hb⟩ => ⟨v, he, below_tr h.s hb, hb, hV⟩⟩
    case s12 =>
      refine flow_call (fun _ _ => rfl) fun listed a W h hd => ⟨(by obtain ⟨u, hu, hy, hU⟩ := h.dep hd 6 90 (by kernel_rfl) (by kernel_rfl); obtain rfl : u = .bool true := hU; exact hy), ?_⟩
      obtain ⟨v0, hv0, -, hV0⟩ := h.dep hd 7 91 (by kernel_rfl) (by kernel_rfl)
      obtain ⟨v1, hv1, -, hV1⟩ := h.dep hd 11 95 (by kernel_rfl) (by kernel_rfl)
      refine ⟨#[v0, v1], by simp [hv0, hv1], (cSame (show Vz 3 (dr N (1 + M)) v0 W from hV0) (show Vz 3 (N % (1 + M)) v1 W from hV1) (by omega) (by omega) (by first | exact hdq.out | exact hdr.out)).mono fun e w' ⟨v, he, hV, hb⟩ => ⟨v, he, below_tr h.s hb, hb, hV⟩⟩
    case s13 =>
      refine flow_run fun listed a W h hd => ⟨trivial, ?_⟩
      obtain ⟨v0, hv0, -, hV0⟩ := h.dep hd 6 90 (by kernel_rfl) (by kernel_rfl)
      obtain ⟨v1, hv1, -, hV1⟩ := h.dep hd 12 96 (by kernel_rfl) (by kernel_rfl)
      exact ⟨_, W, run_pick_t rfl (hv0.trans hV0), h.s, Below.refl _ _, by rw [hv1]; exact hV1⟩
    case s14 =>
      refine flow_run fun listed a W h hd => ⟨trivial, ?_⟩
      obtain ⟨v0, hv0, -, hV0⟩ := h.dep hd 13 97 (by kernel_rfl) (by kernel_rfl)
      exact ⟨_, W, run_move rfl, h.s, Below.refl _ _, by rw [hv0]; exact hV0⟩
    case s15 =>
      refine flow_call (fun _ _ => rfl) fun listed a W h hd => ⟨(by obtain ⟨u, hu, hy, hU⟩ := h.dep hd 14 98 (by kernel_rfl) (by kernel_rfl); obtain rfl : u = .bool true := hU; exact hy), ?_⟩
      refine ⟨#[], by simp, (lives_any W (hT2.out.later h.s)).mono fun e w' ⟨v, he, hV, hb⟩ => ⟨v, he, below_tr h.s hb, hb, hV⟩⟩
    case s16 =>
      refine flow_run fun listed a W h hd => ⟨trivial, ?_⟩
      obtain ⟨v0, hv0, -, hV0⟩ := h.dep hd 14 98 (by kernel_rfl) (by kernel_rfl)
      obtain ⟨v1, hv1, -, hV1⟩ := h.dep hd 15 99 (by kernel_rfl) (by kernel_rfl)
      exact ⟨_, W, run_pick_t rfl (hv0.trans hV0), h.s, Below.refl _ _, by rw [hv1]; exact hV1⟩
    case s17 =>
      refine flow_run fun listed a W h hd => ⟨trivial, ?_⟩
      obtain ⟨v0, hv0, -, hV0⟩ := h.dep hd 16 100 (by kernel_rfl) (by kernel_rfl)
      exact ⟨_, W, run_assign rfl, h.s, Below.refl _ _, by rw [hv0]; exact hV0⟩
    case hdone =>
      intro f W hS hf
      have hlast : f 6 = _ := hf 17 6 (by kernel_rfl)
      simp only [slots, Act.put, List.setIfInBounds_toArray, List.set_cons_zero, List.set_cons_succ]
      rw [hlast]
      have hS10 := Lib.hid (below_tr tw2.out hS)
      clear hf hS
      go_wp2_with fail
      go_ret
      exact ⟨rfl, hS10.out⟩
  · have h1 : ¬ x < y := by omega
    have h2 : ¬ y < x := by omega
    clear h
    go_upto_region 15 with (first
    | (go_at_call 24; (refine (cAdd (Na := 3) (Nb := 3) (a := x) (b := y) ⟨_, _, _, _, rfl, hx.out.1.later (Below.refl _ _), hx.out.2⟩ ⟨_, _, _, _, rfl, hy.out.1.later (Below.refl _ _), hy.out.2⟩ (by omega) (by omega)).mono ?_); rintro e u11 ⟨s1, rfl, hs1, hv11⟩; have hs1' := Lib.hid hs1; have tu11 := Lib.hid (below_tr (Below.refl _ _) hv11); clear hs1)
    | (go_at_call 20; (with_reducible refine (hof.out (x + y) (by omega) (by omega) _).mono ?_); rintro e u12 ⟨o1, rfl, ho1, hv12⟩; have ho1' := Lib.hid ho1; have tu12 := Lib.hid (below_tr tu11.out hv12); clear ho1)
    | (go_at_call 21; (refine (cSame (Vz_mono _ _ _ _ _ hs1'.out hv12) ho1'.out (by omega) (by omega) rfl).mono ?_); clear hs1' ho1'; rintro e u13 ⟨_, rfl, rfl, hv13⟩; have tu13 := Lib.hid (below_tr tu12.out hv13); have dx10 := Below.cell_of' tu13.out cx0; have dx11 := Below.cell_of' tu13.out cx1; have dy10 := Below.cell_of' tu13.out cy0; have dy11 := Below.cell_of' tu13.out cy1)
    | (go_at_call 25; (refine (cSub (Na := 3) (Nb := 3) (a := x) (b := y) ⟨_, _, _, _, rfl, hx.out.1.later tu13.out, hx.out.2⟩ ⟨_, _, _, _, rfl, hy.out.1.later tu13.out, hy.out.2⟩ (by omega) (by omega)).mono ?_); rintro e u21 ⟨s2, rfl, hs2, hv21⟩; have hs2' := Lib.hid hs2; have tu21 := Lib.hid (below_tr tu13.out hv21); clear hs2)
    | (go_at_call 20; (with_reducible refine (hof.out (x - y) (by omega) (by omega) _).mono ?_); rintro e u22 ⟨o2, rfl, ho2, hv22⟩; have ho2' := Lib.hid ho2; have tu22 := Lib.hid (below_tr tu21.out hv22); clear ho2)
    | (go_at_call 21; (refine (cSame (Vz_mono _ _ _ _ _ hs2'.out hv22) ho2'.out (by omega) (by omega) rfl).mono ?_); clear hs2' ho2'; rintro e u23 ⟨_, rfl, rfl, hv23⟩; have tu23 := Lib.hid (below_tr tu22.out hv23); have dx20 := Below.cell_of' tu23.out cx0; have dx21 := Below.cell_of' tu23.out cx1; have dy20 := Below.cell_of' tu23.out cy0; have dy21 := Below.cell_of' tu23.out cy1)
    | (go_at_call 26; (refine (cMul (Na := 3) (Nb := 3) (a := x) (b := y) ⟨_, _, _, _, rfl, hx.out.1.later tu23.out, hx.out.2⟩ ⟨_, _, _, _, rfl, hy.out.1.later tu23.out, hy.out.2⟩ (by omega) (by omega)).mono ?_); rintro e u31 ⟨s3, rfl, hs3, hv31⟩; have hs3' := Lib.hid hs3; have tu31 := Lib.hid (below_tr tu23.out hv31); clear hs3)
    | (go_at_call 20; (with_reducible refine (hof.out (x * y) (by omega) (by omega) _).mono ?_); rintro e u32 ⟨o3, rfl, ho3, hv32⟩; have ho3' := Lib.hid ho3; have tu32 := Lib.hid (below_tr tu31.out hv32); clear ho3)
    | (go_at_call 21; (refine (cSame (Vz_mono _ _ _ _ _ hs3'.out hv32) ho3'.out (by omega) (by omega) rfl).mono ?_); clear hs3' ho3'; rintro e u33 ⟨_, rfl, rfl, hv33⟩; have tu33 := Lib.hid (below_tr tu32.out hv33); have dx30 := Below.cell_of' tu33.out cx0; have dx31 := Below.cell_of' tu33.out cx1; have dy30 := Below.cell_of' tu33.out cy0; have dy31 := Below.cell_of' tu33.out cy1)
    | (go_at_call 30; (refine (cCompare (Na := 3) (Nb := 3) (a := x) (b := y) ⟨_, _, _, _, rfl, hx.out.1.later tu33.out, hx.out.2⟩ ⟨_, _, _, _, rfl, hy.out.1.later tu33.out, hy.out.2⟩ (by omega) (by omega)).mono ?_); rintro e u41 ⟨_, rfl, hvc, hv41⟩; have tu41 := Lib.hid (below_tr tu33.out hv41); rw [hC] at hvc; obtain rfl := hvc)
    | (go_at_call 12; (with_reducible refine (hr1c.out _).mono ?_); rintro e u5 ⟨rfl, rfl⟩)
    | (go_at_call 12; (with_reducible refine (hr2c.out _).mono ?_); rintro e u6 ⟨rfl, rfl⟩)
    | (go_at_call 12; (with_reducible refine (hr3c.out _).mono ?_); rintro e u7 ⟨rfl, rfl⟩)
    | (go_at_call 20; (with_reducible refine (hof.out N (by omega) (by omega) _).mono ?_); rintro e u8 ⟨o8, rfl, ho8, hv8⟩; have ho8' := Lib.hid ho8; have tu8 := Lib.hid (below_tr tu41.out hv8); clear ho8)
    | (go_at_call 20; (with_reducible refine (hof.out (1 + M) (by omega) (by omega) _).mono ?_); rintro e u9 ⟨o9, rfl, ho9, hv9⟩; have ho9' := Lib.hid ho9; have tu9 := Lib.hid (below_tr tu8.out hv9); clear ho9)
    | (go_at_call 35; (refine (cDiv (Vz_mono _ _ _ _ _ ho8'.out hv9) ho9'.out (by omega) (by omega)).mono ?_); rintro e u10 ⟨_, _, rfl, ⟨nbA, pA, nA, cA, rfl, hIA, hnA⟩, ⟨nbB, pB, nB, cB, rfl, hIB, hnB⟩, hv10⟩; have tu10 := Lib.hid (below_tr tu9.out hv10); have hA := Lib.hid (And.intro hIA hnA); have hB := Lib.hid (And.intro hIB hnB); clear hIA hnA hIB hnB))
    obtain ⟨W2, hW2⟩ : ∃ W2, (u10.alloc (.cells #[.bool nbA, .slice pA nA cA] 24 (0, 0))).alloc (.cells #[.bool nbB, .slice pB nB cB] 24 (0, 0)) = W2 := ⟨_, rfl⟩
    have hQ1 : Bz 3 u10.heap.size (dq N (1 + M)) W2 := hW2 ▸ (Bz_new hA.out.1 hA.out.2).later (below_new _ _)
    have hR1 : Bz 3 (u10.heap.size + 1) (dr N (1 + M)) W2 := hW2 ▸ Bz_new2 hB.out.1 hB.out.2
    have tw2 := Lib.hid (below_tr tw.out (below_tr tu10.out (hW2 ▸ below_tr (below_new _ _) (below_new _ _) : Below u10.heap.size u10 W2)))
    have hT2 : Hid (Tb W2) := Lib.hid (hT1.out.later (below_tr tu10.out (hW2 ▸ below_tr (below_new _ _) (below_new _ _) : Below u10.heap.size u10 W2)))
    rw [hW2]
    clear hW2 hA hB
    generalize u10.heap.size + 1 = g4 at hR1 ⊢
    generalize u10.heap.size = g3 at hQ1 ⊢
    refine region_flows (V := fun i => ([Vz 3 (dq N (1 + M)), Vi (N), Vi (1 + M), Vi (N / (1 + M)), Vz 3 (N / (1 + M)), Vb true, Vb true, Vz 3 (dr N (1 + M)), Vi (N), Vi (1 + M), Vi (N % (1 + M)), Vz 3 (N % (1 + M)), Vb true, Vb true, Vb true, Vb true, Vb true, Vb true] : List VP).getD i VT) (S := fun W => Below W2.heap.size W2 W) (R := fun a b => Below a.heap.size a b) (by kernel_rfl) (by kernel_rfl) (by kernel_rfl) (by rfl) (mono_of ⟨Vz_mono _ _, Vi_mono _, Vi_mono _, Vi_mono _, Vz_mono _ _, Vb_mono _, Vb_mono _, Vz_mono _ _, Vi_mono _, Vi_mono _, Vi_mono _, Vz_mono _ _, Vb_mono _, Vb_mono _, Vb_mono _, Vb_mono _, Vb_mono _, Vb_mono _, trivial⟩) ((Below.refl _ _).drew) ⟨?s0, ?s1, ?s2, ?s3, ?s4, ?s5, ?s6, ?s7, ?s8, ?s9, ?s10, ?s11, ?s12, ?s13, ?s14, ?s15, ?s16, ?s17, trivial⟩ [84, 85, 86, 87, 88, 89, 90, 91, 92, 93, 94, 95, 96, 97, 98, 99, 100, 6] rfl ?hdone
    case s0 =>
      refine flow_wp fun listed a W h hd => ⟨trivial, fun K hK => ?_⟩
      exact wp_load_box rfl (h.out 14 (by kernel_rfl)) (hQ1.later h.s) fun v hv => hK v W h.s (Below.refl _ _) hv
    case s1 =>
      refine flow_run fun listed a W h hd => ⟨trivial, ?_⟩
      exact ⟨_, W, run_move rfl, h.s, Below.refl _ _, h.out 12 (by kernel_rfl)⟩
    case s2 =>
      refine flow_run fun listed a W h hd => ⟨trivial, ?_⟩
      exact ⟨_, W, run_move rfl, h.s, Below.refl _ _, h.out 13 (by kernel_rfl)⟩
    case s3 =>
      refine flow_run fun listed a W h hd => ⟨trivial, ?_⟩
      obtain ⟨v0, hv0, -, hV0⟩ := h.dep hd 1 85 (by kernel_rfl) (by kernel_rfl)
      obtain ⟨v1, hv1, -, hV1⟩ := h.dep hd 2 86 (by kernel_rfl) (by kernel_rfl)
      have hV0' : v0 = .int .i64 N := hV0
      have hV1' : v1 = .int .i64 (1 + M) := hV1
      exact ⟨_, _, run_quo rfl (hv0.trans hV0') (hv1.trans hV1') hN0 hN3 hM3, h.s, Below.refl _ _, rfl⟩
    case s4 =>
      refine flow_call (fun _ _ => rfl) fun listed a W h hd => ⟨trivial, ?_⟩
      obtain ⟨v0, hv0, -, hV0⟩ := h.dep hd 3 87 (by kernel_rfl) (by kernel_rfl)
      obtain rfl : v0 = .int .i64 (N / (1 + M)) := hV0
      refine ⟨#[.int .i64 (N / (1 + M))], by simp [hv0], (cOf (N / (1 + M)) hq1 hq2).mono fun e w' ⟨v, he, hV, hb⟩ => ⟨v, he, below_tr h.s hb, hb, hV⟩⟩
    case s5 =>
      refine flow_call (fun _ _ => rfl) fun listed a W h hd => ⟨trivial, ?_⟩
      obtain ⟨v0, hv0, -, hV0⟩ := h.dep hd 0 84 (by kernel_rfl) (by kernel_rfl)
      obtain ⟨v1, hv1, -, hV1⟩ := h.dep hd 4 88 (by kernel_rfl) (by kernel_rfl)
      refine ⟨#[v0, v1], by simp [hv0, hv1], (cSame (show Vz 3 (dq N (1 + M)) v0 W from hV0) (show Vz 3 (N / (1 + M)) v1 W from hV1) (by omega) (by omega) (by first | exact hdq.out | exact hdr.out)).mono fun e w' ⟨v, he, hV, hb⟩ => ⟨v, he, below_tr h.s hb, hb, hV⟩⟩
    case s6 =>
      refine flow_run fun listed a W h hd => ⟨trivial, ?_⟩
      obtain ⟨v0, hv0, -, hV0⟩ := h.dep hd 5 89 (by kernel_rfl) (by kernel_rfl)
      exact ⟨_, W, run_move rfl, h.s, Below.refl _ _, by rw [hv0]; exact hV0⟩
    case s7 =>
      refine flow_wp fun listed a W h hd => ⟨(by obtain ⟨u, hu, hy, hU⟩ := h.dep hd 6 90 (by kernel_rfl) (by kernel_rfl); obtain rfl : u = .bool true := hU; exact hy), fun K hK => ?_⟩
      exact wp_load_box rfl (h.out 15 (by kernel_rfl)) (hR1.later h.s) fun v hv => hK v W h.s (Below.refl _ _) hv
    case s8 =>
      refine flow_run fun listed a W h hd => ⟨(by obtain ⟨u, hu, hy, hU⟩ := h.dep hd 6 90 (by kernel_rfl) (by kernel_rfl); obtain rfl : u = .bool true := hU; exact hy), ?_⟩
      exact ⟨_, W, run_move rfl, h.s, Below.refl _ _, h.out 12 (by kernel_rfl)⟩
    case s9 =>
      refine flow_run fun listed a W h hd => ⟨(by obtain ⟨u, hu, hy, hU⟩ := h.dep hd 6 90 (by kernel_rfl) (by kernel_rfl); obtain rfl : u = .bool true := hU; exact hy), ?_⟩
      exact ⟨_, W, run_move rfl, h.s, Below.refl _ _, h.out 13 (by kernel_rfl)⟩
    case s10 =>
      refine flow_run fun listed a W h hd => ⟨(by obtain ⟨u, hu, hy, hU⟩ := h.dep hd 6 90 (by kernel_rfl) (by kernel_rfl); obtain rfl : u = .bool true := hU; exact hy), ?_⟩
      obtain ⟨v0, hv0, -, hV0⟩ := h.dep hd 8 92 (by kernel_rfl) (by kernel_rfl)
      obtain ⟨v1, hv1, -, hV1⟩ := h.dep hd 9 93 (by kernel_rfl) (by kernel_rfl)
      have hV0' : v0 = .int .i64 N := hV0
      have hV1' : v1 = .int .i64 (1 + M) := hV1
      exact ⟨_, _, run_rem rfl (hv0.trans hV0') (hv1.trans hV1') hN0 hM3 hM4, h.s, Below.refl _ _, rfl⟩
    case s11 =>
      refine flow_call (fun _ _ => rfl) fun listed a W h hd => ⟨(by obtain ⟨u, hu, hy, hU⟩ := h.dep hd 6 90 (by kernel_rfl) (by kernel_rfl); obtain rfl : u = .bool true := hU; exact hy), ?_⟩
      obtain ⟨v0, hv0, -, hV0⟩ := h.dep hd 10 94 (by kernel_rfl) (by kernel_rfl)
      obtain rfl : v0 = .int .i64 (N % (1 + M)) := hV0
      refine ⟨#[.int .i64 (N % (1 + M))], by simp [hv0], (cOf (N % (1 + M)) hr1 hr2).mono fun e w' ⟨v, he, hV, hb⟩ => ⟨v, he, below_tr h.s hb, hb, hV⟩⟩
    case s12 =>
      refine flow_call (fun _ _ => rfl) fun listed a W h hd => ⟨(by obtain ⟨u, hu, hy, hU⟩ := h.dep hd 6 90 (by kernel_rfl) (by kernel_rfl); obtain rfl : u = .bool true := hU; exact hy), ?_⟩
      obtain ⟨v0, hv0, -, hV0⟩ := h.dep hd 7 91 (by kernel_rfl) (by kernel_rfl)
      obtain ⟨v1, hv1, -, hV1⟩ := h.dep hd 11 95 (by kernel_rfl) (by kernel_rfl)
      refine ⟨#[v0, v1], by simp [hv0, hv1], (cSame (show Vz 3 (dr N (1 + M)) v0 W from hV0) (show Vz 3 (N % (1 + M)) v1 W from hV1) (by omega) (by omega) (by first | exact hdq.out | exact hdr.out)).mono fun e w' ⟨v, he, hV, hb⟩ => ⟨v, he, below_tr h.s hb, hb, hV⟩⟩
    case s13 =>
      refine flow_run fun listed a W h hd => ⟨trivial, ?_⟩
      obtain ⟨v0, hv0, -, hV0⟩ := h.dep hd 6 90 (by kernel_rfl) (by kernel_rfl)
      obtain ⟨v1, hv1, -, hV1⟩ := h.dep hd 12 96 (by kernel_rfl) (by kernel_rfl)
      exact ⟨_, W, run_pick_t rfl (hv0.trans hV0), h.s, Below.refl _ _, by rw [hv1]; exact hV1⟩
    case s14 =>
      refine flow_run fun listed a W h hd => ⟨trivial, ?_⟩
      obtain ⟨v0, hv0, -, hV0⟩ := h.dep hd 13 97 (by kernel_rfl) (by kernel_rfl)
      exact ⟨_, W, run_move rfl, h.s, Below.refl _ _, by rw [hv0]; exact hV0⟩
    case s15 =>
      refine flow_call (fun _ _ => rfl) fun listed a W h hd => ⟨(by obtain ⟨u, hu, hy, hU⟩ := h.dep hd 14 98 (by kernel_rfl) (by kernel_rfl); obtain rfl : u = .bool true := hU; exact hy), ?_⟩
      refine ⟨#[], by simp, (lives_any W (hT2.out.later h.s)).mono fun e w' ⟨v, he, hV, hb⟩ => ⟨v, he, below_tr h.s hb, hb, hV⟩⟩
    case s16 =>
      refine flow_run fun listed a W h hd => ⟨trivial, ?_⟩
      obtain ⟨v0, hv0, -, hV0⟩ := h.dep hd 14 98 (by kernel_rfl) (by kernel_rfl)
      obtain ⟨v1, hv1, -, hV1⟩ := h.dep hd 15 99 (by kernel_rfl) (by kernel_rfl)
      exact ⟨_, W, run_pick_t rfl (hv0.trans hV0), h.s, Below.refl _ _, by rw [hv1]; exact hV1⟩
    case s17 =>
      refine flow_run fun listed a W h hd => ⟨trivial, ?_⟩
      obtain ⟨v0, hv0, -, hV0⟩ := h.dep hd 16 100 (by kernel_rfl) (by kernel_rfl)
      exact ⟨_, W, run_assign rfl, h.s, Below.refl _ _, by rw [hv0]; exact hV0⟩
    case hdone =>
      intro f W hS hf
      have hlast : f 6 = _ := hf 17 6 (by kernel_rfl)
      simp only [slots, Act.put, List.setIfInBounds_toArray, List.set_cons_zero, List.set_cons_succ]
      rw [hlast]
      have hS10 := Lib.hid (below_tr tw2.out hS)
      clear hf hS
      go_wp2_with fail
      go_ret
      exact ⟨rfl, hS10.out⟩
  · skip
    go_upto_region 15 with (first
    | (go_at_call 24; (refine (cAdd (Na := 3) (Nb := 3) (a := x) (b := y) ⟨_, _, _, _, rfl, hx.out.1.later (Below.refl _ _), hx.out.2⟩ ⟨_, _, _, _, rfl, hy.out.1.later (Below.refl _ _), hy.out.2⟩ (by omega) (by omega)).mono ?_); rintro e u11 ⟨s1, rfl, hs1, hv11⟩; have hs1' := Lib.hid hs1; have tu11 := Lib.hid (below_tr (Below.refl _ _) hv11); clear hs1)
    | (go_at_call 20; (with_reducible refine (hof.out (x + y) (by omega) (by omega) _).mono ?_); rintro e u12 ⟨o1, rfl, ho1, hv12⟩; have ho1' := Lib.hid ho1; have tu12 := Lib.hid (below_tr tu11.out hv12); clear ho1)
    | (go_at_call 21; (refine (cSame (Vz_mono _ _ _ _ _ hs1'.out hv12) ho1'.out (by omega) (by omega) rfl).mono ?_); clear hs1' ho1'; rintro e u13 ⟨_, rfl, rfl, hv13⟩; have tu13 := Lib.hid (below_tr tu12.out hv13); have dx10 := Below.cell_of' tu13.out cx0; have dx11 := Below.cell_of' tu13.out cx1; have dy10 := Below.cell_of' tu13.out cy0; have dy11 := Below.cell_of' tu13.out cy1)
    | (go_at_call 25; (refine (cSub (Na := 3) (Nb := 3) (a := x) (b := y) ⟨_, _, _, _, rfl, hx.out.1.later tu13.out, hx.out.2⟩ ⟨_, _, _, _, rfl, hy.out.1.later tu13.out, hy.out.2⟩ (by omega) (by omega)).mono ?_); rintro e u21 ⟨s2, rfl, hs2, hv21⟩; have hs2' := Lib.hid hs2; have tu21 := Lib.hid (below_tr tu13.out hv21); clear hs2)
    | (go_at_call 20; (with_reducible refine (hof.out (x - y) (by omega) (by omega) _).mono ?_); rintro e u22 ⟨o2, rfl, ho2, hv22⟩; have ho2' := Lib.hid ho2; have tu22 := Lib.hid (below_tr tu21.out hv22); clear ho2)
    | (go_at_call 21; (refine (cSame (Vz_mono _ _ _ _ _ hs2'.out hv22) ho2'.out (by omega) (by omega) rfl).mono ?_); clear hs2' ho2'; rintro e u23 ⟨_, rfl, rfl, hv23⟩; have tu23 := Lib.hid (below_tr tu22.out hv23); have dx20 := Below.cell_of' tu23.out cx0; have dx21 := Below.cell_of' tu23.out cx1; have dy20 := Below.cell_of' tu23.out cy0; have dy21 := Below.cell_of' tu23.out cy1)
    | (go_at_call 26; (refine (cMul (Na := 3) (Nb := 3) (a := x) (b := y) ⟨_, _, _, _, rfl, hx.out.1.later tu23.out, hx.out.2⟩ ⟨_, _, _, _, rfl, hy.out.1.later tu23.out, hy.out.2⟩ (by omega) (by omega)).mono ?_); rintro e u31 ⟨s3, rfl, hs3, hv31⟩; have hs3' := Lib.hid hs3; have tu31 := Lib.hid (below_tr tu23.out hv31); clear hs3)
    | (go_at_call 20; (with_reducible refine (hof.out (x * y) (by omega) (by omega) _).mono ?_); rintro e u32 ⟨o3, rfl, ho3, hv32⟩; have ho3' := Lib.hid ho3; have tu32 := Lib.hid (below_tr tu31.out hv32); clear ho3)
    | (go_at_call 21; (refine (cSame (Vz_mono _ _ _ _ _ hs3'.out hv32) ho3'.out (by omega) (by omega) rfl).mono ?_); clear hs3' ho3'; rintro e u33 ⟨_, rfl, rfl, hv33⟩; have tu33 := Lib.hid (below_tr tu32.out hv33); have dx30 := Below.cell_of' tu33.out cx0; have dx31 := Below.cell_of' tu33.out cx1; have dy30 := Below.cell_of' tu33.out cy0; have dy31 := Below.cell_of' tu33.out cy1)
    | (go_at_call 30; (refine (cCompare (Na := 3) (Nb := 3) (a := x) (b := y) ⟨_, _, _, _, rfl, hx.out.1.later tu33.out, hx.out.2⟩ ⟨_, _, _, _, rfl, hy.out.1.later tu33.out, hy.out.2⟩ (by omega) (by omega)).mono ?_); rintro e u41 ⟨_, rfl, hvc, hv41⟩; have tu41 := Lib.hid (below_tr tu33.out hv41); rw [hC] at hvc; obtain rfl := hvc)
    | (go_at_call 12; (with_reducible refine (hr1c.out _).mono ?_); rintro e u5 ⟨rfl, rfl⟩)
    | (go_at_call 12; (with_reducible refine (hr2c.out _).mono ?_); rintro e u6 ⟨rfl, rfl⟩)
    | (go_at_call 12; (with_reducible refine (hr3c.out _).mono ?_); rintro e u7 ⟨rfl, rfl⟩)
    | (go_at_call 20; (with_reducible refine (hof.out N (by omega) (by omega) _).mono ?_); rintro e u8 ⟨o8, rfl, ho8, hv8⟩; have ho8' := Lib.hid ho8; have tu8 := Lib.hid (below_tr tu41.out hv8); clear ho8)
    | (go_at_call 20; (with_reducible refine (hof.out (1 + M) (by omega) (by omega) _).mono ?_); rintro e u9 ⟨o9, rfl, ho9, hv9⟩; have ho9' := Lib.hid ho9; have tu9 := Lib.hid (below_tr tu8.out hv9); clear ho9)
    | (go_at_call 35; (refine (cDiv (Vz_mono _ _ _ _ _ ho8'.out hv9) ho9'.out (by omega) (by omega)).mono ?_); rintro e u10 ⟨_, _, rfl, ⟨nbA, pA, nA, cA, rfl, hIA, hnA⟩, ⟨nbB, pB, nB, cB, rfl, hIB, hnB⟩, hv10⟩; have tu10 := Lib.hid (below_tr tu9.out hv10); have hA := Lib.hid (And.intro hIA hnA); have hB := Lib.hid (And.intro hIB hnB); clear hIA hnA hIB hnB))
    obtain ⟨W2, hW2⟩ : ∃ W2, (u10.alloc (.cells #[.bool nbA, .slice pA nA cA] 24 (0, 0))).alloc (.cells #[.bool nbB, .slice pB nB cB] 24 (0, 0)) = W2 := ⟨_, rfl⟩
    have hQ1 : Bz 3 u10.heap.size (dq N (1 + M)) W2 := hW2 ▸ (Bz_new hA.out.1 hA.out.2).later (below_new _ _)
    have hR1 : Bz 3 (u10.heap.size + 1) (dr N (1 + M)) W2 := hW2 ▸ Bz_new2 hB.out.1 hB.out.2
    have tw2 := Lib.hid (below_tr tw.out (below_tr tu10.out (hW2 ▸ below_tr (below_new _ _) (below_new _ _) : Below u10.heap.size u10 W2)))
    have hT2 : Hid (Tb W2) := Lib.hid (hT1.out.later (below_tr tu10.out (hW2 ▸ below_tr (below_new _ _) (below_new _ _) : Below u10.heap.size u10 W2)))
    rw [hW2]
    clear hW2 hA hB
    generalize u10.heap.size + 1 = g4 at hR1 ⊢
    generalize u10.heap.size = g3 at hQ1 ⊢
    refine region_flows (V := fun i => ([Vz 3 (dq N (1 + M)), Vi (N), Vi (1 + M), Vi (N / (1 + M)), Vz 3 (N / (1 + M)), Vb true, Vb true, Vz 3 (dr N (1 + M)), Vi (N), Vi (1 + M), Vi (N % (1 + M)), Vz 3 (N % (1 + M)), Vb true, Vb true, Vb true, Vb true, Vb true, Vb true] : List VP).getD i VT) (S := fun W => Below W2.heap.size W2 W) (R := fun a b => Below a.heap.size a b) (by kernel_rfl) (by kernel_rfl) (by kernel_rfl) (by rfl) (mono_of ⟨Vz_mono _ _, Vi_mono _, Vi_mono _, Vi_mono _, Vz_mono _ _, Vb_mono _, Vb_mono _, Vz_mono _ _, Vi_mono _, Vi_mono _, Vi_mono _, Vz_mono _ _, Vb_mono _, Vb_mono _, Vb_mono _, Vb_mono _, Vb_mono _, Vb_mono _, trivial⟩) ((Below.refl _ _).drew) ⟨?s0, ?s1, ?s2, ?s3, ?s4, ?s5, ?s6, ?s7, ?s8, ?s9, ?s10, ?s11, ?s12, ?s13, ?s14, ?s15, ?s16, ?s17, trivial⟩ [84, 85, 86, 87, 88, 89, 90, 91, 92, 93, 94, 95, 96, 97, 98, 99, 100, 6] rfl ?hdone
    case s0 =>
      refine flow_wp fun listed a W h hd => ⟨trivial, fun K hK => ?_⟩
      exact wp_load_box rfl (h.out 14 (by kernel_rfl)) (hQ1.later h.s) fun v hv => hK v W h.s (Below.refl _ _) hv
    case s1 =>
      refine flow_run fun listed a W h hd => ⟨trivial, ?_⟩
      exact ⟨_, W, run_move rfl, h.s, Below.refl _ _, h.out 12 (by kernel_rfl)⟩
    case s2 =>
      refine flow_run fun listed a W h hd => ⟨trivial, ?_⟩
      exact ⟨_, W, run_move rfl, h.s, Below.refl _ _, h.out 13 (by kernel_rfl)⟩
    case s3 =>
      refine flow_run fun listed a W h hd => ⟨trivial, ?_⟩
      obtain ⟨v0, hv0, -, hV0⟩ := h.dep hd 1 85 (by kernel_rfl) (by kernel_rfl)
      obtain ⟨v1, hv1, -, hV1⟩ := h.dep hd 2 86 (by kernel_rfl) (by kernel_rfl)
      have hV0' : v0 = .int .i64 N := hV0
      have hV1' : v1 = .int .i64 (1 + M) := hV1
      exact ⟨_, _, run_quo rfl (hv0.trans hV0') (hv1.trans hV1') hN0 hN3 hM3, h.s, Below.refl _ _, rfl⟩
    case s4 =>
      refine flow_call (fun _ _ => rfl) fun listed a W h hd => ⟨trivial, ?_⟩
      obtain ⟨v0, hv0, -, hV0⟩ := h.dep hd 3 87 (by kernel_rfl) (by kernel_rfl)
      obtain rfl : v0 = .int .i64 (N / (1 + M)) := hV0
      refine ⟨#[.int .i64 (N / (1 + M))], by simp [hv0], (cOf (N / (1 + M)) hq1 hq2).mono fun e w' ⟨v, he, hV, hb⟩ => ⟨v, he, below_tr h.s hb, hb, hV⟩⟩
    case s5 =>
      refine flow_call (fun _ _ => rfl) fun listed a W h hd => ⟨trivial, ?_⟩
      obtain ⟨v0, hv0, -, hV0⟩ := h.dep hd 0 84 (by kernel_rfl) (by kernel_rfl)
      obtain ⟨v1, hv1, -, hV1⟩ := h.dep hd 4 88 (by kernel_rfl) (by kernel_rfl)
      refine ⟨#[v0, v1], by simp [hv0, hv1], (cSame (show Vz 3 (dq N (1 + M)) v0 W from hV0) (show Vz 3 (N / (1 + M)) v1 W from hV1) (by omega) (by omega) (by first | exact hdq.out | exact hdr.out)).mono fun e w' ⟨v, he, hV, hb⟩ => ⟨v, he, below_tr h.s hb, hb, hV⟩⟩
    case s6 =>
      refine flow_run fun listed a W h hd => ⟨trivial, ?_⟩
      obtain ⟨v0, hv0, -, hV0⟩ := h.dep hd 5 89 (by kernel_rfl) (by kernel_rfl)
      exact ⟨_, W, run_move rfl, h.s, Below.refl _ _, by rw [hv0]; exact hV0⟩
    case s7 =>
      refine flow_wp fun listed a W h hd => ⟨(by obtain ⟨u, hu, hy, hU⟩ := h.dep hd 6 90 (by kernel_rfl) (by kernel_rfl); obtain rfl : u = .bool true := hU; exact hy), fun K hK => ?_⟩
      exact wp_load_box rfl (h.out 15 (by kernel_rfl)) (hR1.later h.s) fun v hv => hK v W h.s (Below.refl _ _) hv
    case s8 =>
      refine flow_run fun listed a W h hd => ⟨(by obtain ⟨u, hu, hy, hU⟩ := h.dep hd 6 90 (by kernel_rfl) (by kernel_rfl); obtain rfl : u = .bool true := hU; exact hy), ?_⟩
      exact ⟨_, W, run_move rfl, h.s, Below.refl _ _, h.out 12 (by kernel_rfl)⟩
    case s9 =>
      refine flow_run fun listed a W h hd => ⟨(by obtain ⟨u, hu, hy, hU⟩ := h.dep hd 6 90 (by kernel_rfl) (by kernel_rfl); obtain rfl : u = .bool true := hU; exact hy), ?_⟩
      exact ⟨_, W, run_move rfl, h.s, Below.refl _ _, h.out 13 (by kernel_rfl)⟩
    case s10 =>
      refine flow_run fun listed a W h hd => ⟨(by obtain ⟨u, hu, hy, hU⟩ := h.dep hd 6 90 (by kernel_rfl) (by kernel_rfl); obtain rfl : u = .bool true := hU; exact hy), ?_⟩
      obtain ⟨v0, hv0, -, hV0⟩ := h.dep hd 8 92 (by kernel_rfl) (by kernel_rfl)
      obtain ⟨v1, hv1, -, hV1⟩ := h.dep hd 9 93 (by kernel_rfl) (by kernel_rfl)
      have hV0' : v0 = .int .i64 N := hV0
      have hV1' : v1 = .int .i64 (1 + M) := hV1
      exact ⟨_, _, run_rem rfl (hv0.trans hV0') (hv1.trans hV1') hN0 hM3 hM4, h.s, Below.refl _ _, rfl⟩
    case s11 =>
      refine flow_call (fun _ _ => rfl) fun listed a W h hd => ⟨(by obtain ⟨u, hu, hy, hU⟩ := h.dep hd 6 90 (by kernel_rfl) (by kernel_rfl); obtain rfl : u = .bool true := hU; exact hy), ?_⟩
      obtain ⟨v0, hv0, -, hV0⟩ := h.dep hd 10 94 (by kernel_rfl) (by kernel_rfl)
      obtain rfl : v0 = .int .i64 (N % (1 + M)) := hV0
      refine ⟨#[.int .i64 (N % (1 + M))], by simp [hv0], (cOf (N % (1 + M)) hr1 hr2).mono fun e w' ⟨v, he, hV, hb⟩ => ⟨v, he, below_tr h.s hb, hb, hV⟩⟩
    case s12 =>
      refine flow_call (fun _ _ => rfl) fun listed a W h hd => ⟨(by obtain ⟨u, hu, hy, hU⟩ := h.dep hd 6 90 (by kernel_rfl) (by kernel_rfl); obtain rfl : u = .bool true := hU; exact hy), ?_⟩
      obtain ⟨v0, hv0, -, hV0⟩ := h.dep hd 7 91 (by kernel_rfl) (by kernel_rfl)
      obtain ⟨v1, hv1, -, hV1⟩ := h.dep hd 11 95 (by kernel_rfl) (by kernel_rfl)
      refine ⟨#[v0, v1], by simp [hv0, hv1], (cSame (show Vz 3 (dr N (1 + M)) v0 W from hV0) (show Vz 3 (N % (1 + M)) v1 W from hV1) (by omega) (by omega) (by first | exact hdq.out | exact hdr.out)).mono fun e w' ⟨v, he, hV, hb⟩ => ⟨v, he, below_tr h.s hb, hb, hV⟩⟩
    case s13 =>
      refine flow_run fun listed a W h hd => ⟨trivial, ?_⟩
      obtain ⟨v0, hv0, -, hV0⟩ := h.dep hd 6 90 (by kernel_rfl) (by kernel_rfl)
      obtain ⟨v1, hv1, -, hV1⟩ := h.dep hd 12 96 (by kernel_rfl) (by kernel_rfl)
      exact ⟨_, W, run_pick_t rfl (hv0.trans hV0), h.s, Below.refl _ _, by rw [hv1]; exact hV1⟩
    case s14 =>
      refine flow_run fun listed a W h hd => ⟨trivial, ?_⟩
      obtain ⟨v0, hv0, -, hV0⟩ := h.dep hd 13 97 (by kernel_rfl) (by kernel_rfl)
      exact ⟨_, W, run_move rfl, h.s, Below.refl _ _, by rw [hv0]; exact hV0⟩
    case s15 =>
      refine flow_call (fun _ _ => rfl) fun listed a W h hd => ⟨(by obtain ⟨u, hu, hy, hU⟩ := h.dep hd 14 98 (by kernel_rfl) (by kernel_rfl); obtain rfl : u = .bool true := hU; exact hy), ?_⟩
      refine ⟨#[], by simp, (lives_any W (hT2.out.later h.s)).mono fun e w' ⟨v, he, hV, hb⟩ => ⟨v, he, below_tr h.s hb, hb, hV⟩⟩
    case s16 =>
      refine flow_run fun listed a W h hd => ⟨trivial, ?_⟩
      obtain ⟨v0, hv0, -, hV0⟩ := h.dep hd 14 98 (by kernel_rfl) (by kernel_rfl)
      obtain ⟨v1, hv1, -, hV1⟩ := h.dep hd 15 99 (by kernel_rfl) (by kernel_rfl)
      exact ⟨_, W, run_pick_t rfl (hv0.trans hV0), h.s, Below.refl _ _, by rw [hv1]; exact hV1⟩
    case s17 =>
      refine flow_run fun listed a W h hd => ⟨trivial, ?_⟩
      obtain ⟨v0, hv0, -, hV0⟩ := h.dep hd 16 100 (by kernel_rfl) (by kernel_rfl)
      exact ⟨_, W, run_assign rfl, h.s, Below.refl _ _, by rw [hv0]; exact hV0⟩
    case hdone =>
      intro f W hS hf
      have hlast : f 6 = _ := hf 17 6 (by kernel_rfl)
      simp only [slots, Act.put, List.setIfInBounds_toArray, List.set_cons_zero, List.set_cons_succ]
      rw [hlast]
      have hS10 := Lib.hid (below_tr tw2.out hS)
      clear hf hS
      go_wp2_with fail
      go_ret
      exact ⟨rfl, hS10.out⟩
theorem walkGo (a b k : Int) (ha : -9223372036854775808 ≤ a ∧ a ≤ 9223372036854775807) (hb : -9223372036854775808 ≤ b ∧ b ≤ 9223372036854775807) (hk : -9223372036854775808 ≤ k ∧ k ≤ 9223372036854775807) (w : World) (hT : Tb w) :
    Calls Tryd.prog 9 #[.int .i64 a, .int .i64 b, .int .i64 k] w fun e w' => e = .returned (.bool true) ∧ Below w.heap.size w w' := by
  rcases Int.lt_trichotomy (a.tmod 2147483648) (b.tmod 2147483648) with h | h | h
  · exact walk_go_case a b k ha hb hk w hT _ _ _ rfl rfl (cmp_lt h) (.inl ⟨h, rfl⟩)
  · exact walk_go_case a b k ha hb hk w hT _ _ _ rfl rfl (by rw [h, cmp_eq]) (.inr (.inl ⟨h, rfl⟩))
  · exact walk_go_case a b k ha hb hk w hT _ _ _ rfl rfl (cmp_gt h) (.inr (.inr ⟨h, rfl⟩))
end Go.Proofs.YtlpbcbgoeeminaaDoor
