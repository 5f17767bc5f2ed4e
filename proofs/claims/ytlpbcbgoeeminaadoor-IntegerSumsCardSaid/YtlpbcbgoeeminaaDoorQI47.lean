/- IntegerSums. -/
import Derived.Test.YtlpbcbgoeeminaaDoorM22
import Derived.Test.YtlpbcbgoeeminaaDoorM25
import Derived.Test.YtlpbcbgoeeminaaDoorM27
namespace Go.Proofs.YtlpbcbgoeeminaaDoor
open Go.RowKit
theorem cNumberS {w : World} {a : Option Addr} {m : Nat} {c : Nat} {l : List Int} (hR : Rdi w a l) (hm : m = l.length) (hi : i64s l) (at0 : Nat) (hat : at0 ≤ 1099511627776) : ∀ W, Below w.heap.size w W → Calls Tryd.prog 10 #[.slice a m c, .int .i64 (at0 : Int)] W fun e w' => ∃ z, RV (Vz 6 z) W e w' := fun W hb =>
  (number_any' a m c l at0 W (Rdi_below hb hR) hm hi hat).mono fun _ _ ⟨z, hz, h⟩ => ⟨z, retI_vz h hz⟩
theorem Bz_factsS {N g : Nat} {z : Int} {W : World} (h : Bz N g z W) : ∃ nb p n c, W.cell? ⟨g, 0, none⟩ = some (.bool nb) ∧ W.cell? ⟨g, 1, none⟩ = some (.slice p n c) ∧ IntAt W nb p n c z ∧ n ≤ N := by
  obtain ⟨nb, p, n, c, h1, h2⟩ := h
  exact ⟨nb, p, n, c, by simp [World.cell?, h1], by simp [World.cell?, h1], h2⟩
theorem enc_of (x : Int) (h : (digs x.natAbs).length ≤ 1000) : ∃ E : List UInt8, E.length ≤ 4611686018427387904 ∧ ∀ W v, Vz 6 x v W → Calls Tryd.prog 23 #[v] W (RV (Vbt E) W) :=
  ⟨encIs (codeL x), by have := code_len x (by omega); omega, fun W v hv => cREncode hv (by omega)⟩

set_option maxRecDepth 100000 in
set_option maxHeartbeats 1600000 in
theorem walk_sums (a0 a1 : Option Addr) (m0 m1 c0 c1 : Nat) (l0 l1 : List Int) (w : World) (hR0 : Rdi w a0 l0) (hR1 : Rdi w a1 l1) (hm0 : m0 = l0.length) (hm1 : m1 = l1.length) (hi0 : i64s l0) (hi1 : i64s l1) (hT : Tb w) :
    Calls Tryd.prog 4 #[.slice a0 m0 c0, .slice a1 m1 c1] w fun e w' => e = .returned (.bool true) ∧ Below w.heap.size w w' := by
  have hn0 : Hid (∀ W, Below w.heap.size w W → Calls Tryd.prog 10 #[.slice a0 m0 c0, .int .i64 0] W fun e w' => ∃ z, RV (Vz 6 z) W e w') := Lib.hid (cNumberS hR0 hm0 hi0 0 (by omega))
  have hn1 : Hid (∀ W, Below w.heap.size w W → Calls Tryd.prog 10 #[.slice a1 m1 c1, .int .i64 0] W fun e w' => ∃ z, RV (Vz 6 z) W e w') := Lib.hid (cNumberS hR1 hm1 hi1 0 (by omega))
  have hT' := Lib.hid hT
  clear hT hR0 hR1 hm0 hm1 hi0 hi1
  go_enter Tryd.func4, Tryd.ntmps4
  go_upto_region 3 with (first
    | (go_at_call 10; (with_reducible refine (hn0.out _ (Below.refl _ _)).mono ?_); clear hn0; rintro e w0 ⟨x, _, rfl, ⟨nb0, p0, n0, k0, rfl, hI0, hl0⟩, hb0⟩; have hI0' := Lib.hid (And.intro hI0 hl0); clear hI0 hl0; have tb0 := Lib.hid (below_tr hb0 (below_new w0 (.cells #[.bool nb0, .slice p0 n0 k0] 24 (0, 0)))))
    | (go_at_call 10; (with_reducible refine (hn1.out _ tb0.out).mono ?_); clear hn1; rintro e w1 ⟨y, _, rfl, ⟨nb1, p1, n1, k1, rfl, hI1, hl1⟩, hb1⟩; have hI1' := Lib.hid (And.intro hI1 hl1); clear hI1 hl1; have tb1 := Lib.hid (below_tr tb0.out (below_tr hb1 (below_new w1 (.cells #[.bool nb1, .slice p1 n1 k1] 24 (0, 0)))))))
  obtain ⟨W1, hW1⟩ : ∃ W1, w1.alloc (.cells #[.bool nb1, .slice p1 n1 k1] 24 (0, 0)) = W1 := ⟨_, rfl⟩
  have t2 : Below w1.heap.size w1 W1 := hW1 ▸ below_new _ _
  have hY1 : Bz 6 w1.heap.size y W1 := hW1 ▸ Bz_new hI1'.out.1 hI1'.out.2
  have hX1 : Bz 6 w0.heap.size x W1 := (Bz_new hI0'.out.1 hI0'.out.2).later (below_tr hb1 t2)
  have hdx : (digs x.natAbs).length ≤ 1000 := by have := hI0'.out.1.2.1; have := hI0'.out.2; omega
  have hdy : (digs y.natAbs).length ≤ 1000 := by have := hI1'.out.1.2.1; have := hI1'.out.2; omega
  rw [hW1] at tb1 ⊢
  have hT1 : Hid (Tb W1) := Lib.hid (hT'.out.later tb1.out)
  clear hW1 t2 hT' tb0 hb0 hb1 hI0' hI1'
  generalize w0.heap.size = g0 at hX1 ⊢
  generalize w1.heap.size = g1 at hY1 ⊢
  obtain ⟨nbx, px, nx, cx, cx0, cx1, hIx, hnx⟩ := Bz_factsS hX1
  obtain ⟨nby, py, ny, cy, cy0, cy1, hIy, hny⟩ := Bz_factsS hY1
  have hx := Lib.hid (And.intro hIx hnx)
  have hy := Lib.hid (And.intro hIy hny)
  obtain ⟨Ex, hEx0, hEx1⟩ := enc_of x hdx
  obtain ⟨Ey, hEy0, hEy1⟩ := enc_of y hdy
  have hEx : Hid (∀ W, Below W1.heap.size W1 W → Calls Tryd.prog 23 #[.agg #[.bool nbx, .slice px nx cx]] W (RV (Vbt Ex) W)) := Lib.hid fun W h => hEx1 W _ ⟨_, _, _, _, rfl, hx.out.1.later h, hx.out.2⟩
  have hEy : Hid (∀ W, Below W1.heap.size W1 W → Calls Tryd.prog 23 #[.agg #[.bool nby, .slice py ny cy]] W (RV (Vbt Ey) W)) := Lib.hid fun W h => hEy1 W _ ⟨_, _, _, _, rfl, hy.out.1.later h, hy.out.2⟩
  have hExl := Lib.hid hEx0
  have hEyl := Lib.hid hEy0
  clear hIx hnx hIy hny hdx hdy hEx1 hEy1 hEx0 hEy0
  go_upto_region 5 with (first
    | (go_at_call 23; (with_reducible refine (hEx.out _ (Below.refl _ _)).mono ?_); rintro e u1 ⟨_, rfl, ⟨pX, kX, rfl, hRX, hkX, hmX⟩, hv1⟩; have hRX' := Lib.hid hRX; have tu1 := Lib.hid hv1; have dax0 := Below.cell_of' hv1 cx0; have dax1 := Below.cell_of' hv1 cx1; have day0 := Below.cell_of' hv1 cy0; have day1 := Below.cell_of' hv1 cy1; clear hRX)
    | (go_at_call 23; (with_reducible refine (hEy.out _ tu1.out).mono ?_); rintro e u2 ⟨_, rfl, ⟨pY, kY, rfl, hRY, hkY, hmY⟩, hv2⟩; have hRY' := Lib.hid hRY; have tu2 := Lib.hid (below_tr tu1.out hv2); clear hRY))
  have hRX2 : Hid (Rd u2 pX Ex) := Lib.hid (Rd_below hv2 hRX'.out)
  replace hX1 := hX1.later tu2.out
  replace hY1 := hY1.later tu2.out
  have hEx2 : Hid (∀ W, Below u2.heap.size u2 W → Calls Tryd.prog 23 #[.agg #[.bool nbx, .slice px nx cx]] W (RV (Vbt Ex) W)) := Lib.hid fun W h => hEx.out W (below_tr tu2.out h)
  have hEy2 : Hid (∀ W, Below u2.heap.size u2 W → Calls Tryd.prog 23 #[.agg #[.bool nby, .slice py ny cy]] W (RV (Vbt Ey) W)) := Lib.hid fun W h => hEy.out W (below_tr tu2.out h)
  have hT2 : Hid (Tb u2) := Lib.hid (hT1.out.later tu2.out)
  have tw := Lib.hid (below_tr tb1.out tu2.out)
  replace cx0 := Below.cell_of' tu2.out cx0
  replace cx1 := Below.cell_of' tu2.out cx1
  replace cy0 := Below.cell_of' tu2.out cy0
  replace cy1 := Below.cell_of' tu2.out cy1
  clear hRX' dax0 dax1 day0 day1 hv1 hv2 tu1 tu2 hEx hEy hT1 tb1
  refine region_flows (V := fun i => ([Vz 6 (x), Vz 6 (y), Vz 7 ((x) + (y)), Vz 6 (x), Vz 6 (y), Vz 7 ((x) + (y)), Vb true, Vb true, Vz 6 (x), Vz 6 (y), Vz 7 ((x) - (y)), Vz 6 (x), Vz 6 (y), Vz 7 ((x) - (y)), Vb true, Vb true, Vb true, Vz 6 (x), Vz 6 (y), Vz 12 ((x) * (y)), Vz 6 (x), Vz 6 (y), Vz 12 ((x) * (y)), Vb true, Vb true, Vb true, Vz 6 (x), Vz 6 (-(x)), Vz 6 (x), Vz 6 (-(x)), Vb true, Vb true, Vb true] : List VP).getD i VT) (S := fun W => Below u2.heap.size u2 W) (R := fun a b => Below a.heap.size a b) (by kernel_rfl) (by kernel_rfl) (by kernel_rfl) (by rfl) (mono_of ⟨Vz_mono _ _, Vz_mono _ _, Vz_mono _ _, Vz_mono _ _, Vz_mono _ _, Vz_mono _ _, Vb_mono _, Vb_mono _, Vz_mono _ _, Vz_mono _ _, Vz_mono _ _, Vz_mono _ _, Vz_mono _ _, Vz_mono _ _, Vb_mono _, Vb_mono _, Vb_mono _, Vz_mono _ _, Vz_mono _ _, Vz_mono _ _, Vz_mono _ _, Vz_mono _ _, Vz_mono _ _, Vb_mono _, Vb_mono _, Vb_mono _, Vz_mono _ _, Vz_mono _ _, Vz_mono _ _, Vz_mono _ _, Vb_mono _, Vb_mono _, Vb_mono _, trivial⟩) ((Below.refl _ _).drew) ⟨?s0, ?s1, ?s2, ?s3, ?s4, ?s5, ?s6, ?s7, ?s8, ?s9, ?s10, ?s11, ?s12, ?s13, ?s14, ?s15, ?s16, ?s17, ?s18, ?s19, ?s20, ?s21, ?s22, ?s23, ?s24, ?s25, ?s26, ?s27, ?s28, ?s29, ?s30, ?s31, ?s32, trivial⟩ [19, 20, 21, 22, 23, 24, 25, 26, 27, 28, 29, 30, 31, 32, 33, 34, 35, 36, 37, 38, 39, 40, 41, 42, 43, 44, 45, 46, 47, 48, 49, 50, 9] rfl ?hdone
  case s0 =>
    refine flow_wp fun listed a W h hd => ⟨trivial, fun K hK => ?_⟩
    exact wp_load_box rfl (h.out 5 (by kernel_rfl)) (hX1.later h.s) fun v hv => hK v W h.s (Below.refl _ _) hv
  case s1 =>
    refine flow_wp fun listed a W h hd => ⟨trivial, fun K hK => ?_⟩
    exact wp_load_box rfl (h.out 6 (by kernel_rfl)) (hY1.later h.s) fun v hv => hK v W h.s (Below.refl _ _) hv
  case s2 =>
    refine flow_call (fun _ _ => rfl) fun listed a W h hd => ⟨trivial, ?_⟩
    obtain ⟨v0, hv0, -, hV0⟩ := h.dep hd 0 19 (by kernel_rfl) (by kernel_rfl)
    obtain ⟨v1, hv1, -, hV1⟩ := h.dep hd 1 20 (by kernel_rfl) (by kernel_rfl)
    refine ⟨#[v0, v1], by simp [hv0, hv1], (cAdd (show Vz 6 (x) v0 W from hV0) (show Vz 6 (y) v1 W from hV1) (by omega) (by omega)).mono fun e w' ⟨v, he, hV, hb⟩ => ⟨v, he, below_tr h.s hb, hb, hV⟩⟩
  case s3 =>
    refine flow_wp fun listed a W h hd => ⟨trivial, fun K hK => ?_⟩
    exact wp_load_box rfl (h.out 5 (by kernel_rfl)) (hX1.later h.s) fun v hv => hK v W h.s (Below.refl _ _) hv
  case s4 =>
    refine flow_wp fun listed a W h hd => ⟨trivial, fun K hK => ?_⟩
    exact wp_load_box rfl (h.out 6 (by kernel_rfl)) (hY1.later h.s) fun v hv => hK v W h.s (Below.refl _ _) hv
  case s5 =>
    refine flow_call (fun _ _ => rfl) fun listed a W h hd => ⟨trivial, ?_⟩
    obtain ⟨v0, hv0, -, hV0⟩ := h.dep hd 3 22 (by kernel_rfl) (by kernel_rfl)
    obtain ⟨v1, hv1, -, hV1⟩ := h.dep hd 4 23 (by kernel_rfl) (by kernel_rfl)
    refine ⟨#[v0, v1], by simp [hv0, hv1], (cRAdd (show Vz 6 (x) v0 W from hV0) (show Vz 6 (y) v1 W from hV1) (by omega) (by omega)).mono fun e w' ⟨v, he, hV, hb⟩ => ⟨v, he, below_tr h.s hb, hb, hV⟩⟩
  case s6 =>
    refine flow_call (fun _ _ => rfl) fun listed a W h hd => ⟨trivial, ?_⟩
    obtain ⟨v0, hv0, -, hV0⟩ := h.dep hd 2 21 (by kernel_rfl) (by kernel_rfl)
    obtain ⟨v1, hv1, -, hV1⟩ := h.dep hd 5 24 (by kernel_rfl) (by kernel_rfl)
    refine ⟨#[v0, v1], by simp [hv0, hv1], (cSame (show Vz 7 ((x) + (y)) v0 W from hV0) (show Vz 7 ((x) + (y)) v1 W from hV1) (by omega) (by omega) (by rfl)).mono fun e w' ⟨v, he, hV, hb⟩ => ⟨v, he, below_tr h.s hb, hb, hV⟩⟩
  case s7 =>
    refine flow_run fun listed a W h hd => ⟨trivial, ?_⟩
    obtain ⟨v0, hv0, -, hV0⟩ := h.dep hd 6 25 (by kernel_rfl) (by kernel_rfl)
    exact ⟨_, W, run_move rfl, h.s, Below.refl _ _, by rw [hv0]; exact hV0⟩
  case s8 =>
    refine flow_wp fun listed a W h hd => ⟨(by obtain ⟨u, hu, hy, hU⟩ := h.dep hd 7 26 (by kernel_rfl) (by kernel_rfl); obtain rfl : u = .bool true := hU; exact hy), fun K hK => ?_⟩
    exact wp_load_box rfl (h.out 5 (by kernel_rfl)) (hX1.later h.s) fun v hv => hK v W h.s (Below.refl _ _) hv
  case s9 =>
    refine flow_wp fun listed a W h hd => ⟨(by obtain ⟨u, hu, hy, hU⟩ := h.dep hd 7 26 (by kernel_rfl) (by kernel_rfl); obtain rfl : u = .bool true := hU; exact hy), fun K hK => ?_⟩
    exact wp_load_box rfl (h.out 6 (by kernel_rfl)) (hY1.later h.s) fun v hv => hK v W h.s (Below.refl _ _) hv
  case s10 =>
    refine flow_call (fun _ _ => rfl) fun listed a W h hd => ⟨(by obtain ⟨u, hu, hy, hU⟩ := h.dep hd 7 26 (by kernel_rfl) (by kernel_rfl); obtain rfl : u = .bool true := hU; exact hy), ?_⟩
    obtain ⟨v0, hv0, -, hV0⟩ := h.dep hd 8 27 (by kernel_rfl) (by kernel_rfl)
    obtain ⟨v1, hv1, -, hV1⟩ := h.dep hd 9 28 (by kernel_rfl) (by kernel_rfl)
    refine ⟨#[v0, v1], by simp [hv0, hv1], (cSub (show Vz 6 (x) v0 W from hV0) (show Vz 6 (y) v1 W from hV1) (by omega) (by omega)).mono fun e w' ⟨v, he, hV, hb⟩ => ⟨v, he, below_tr h.s hb, hb, hV⟩⟩
  case s11 =>
    refine flow_wp fun listed a W h hd => ⟨(by obtain ⟨u, hu, hy, hU⟩ := h.dep hd 7 26 (by kernel_rfl) (by kernel_rfl); obtain rfl : u = .bool true := hU; exact hy), fun K hK => ?_⟩
    exact wp_load_box rfl (h.out 5 (by kernel_rfl)) (hX1.later h.s) fun v hv => hK v W h.s (Below.refl _ _) hv
  case s12 =>
    refine flow_wp fun listed a W h hd => ⟨(by obtain ⟨u, hu, hy, hU⟩ := h.dep hd 7 26 (by kernel_rfl) (by kernel_rfl); obtain rfl : u = .bool true := hU; exact hy), fun K hK => ?_⟩
    exact wp_load_box rfl (h.out 6 (by kernel_rfl)) (hY1.later h.s) fun v hv => hK v W h.s (Below.refl _ _) hv
  case s13 =>
    refine flow_call (fun _ _ => rfl) fun listed a W h hd => ⟨(by obtain ⟨u, hu, hy, hU⟩ := h.dep hd 7 26 (by kernel_rfl) (by kernel_rfl); obtain rfl : u = .bool true := hU; exact hy), ?_⟩
    obtain ⟨v0, hv0, -, hV0⟩ := h.dep hd 11 30 (by kernel_rfl) (by kernel_rfl)
    obtain ⟨v1, hv1, -, hV1⟩ := h.dep hd 12 31 (by kernel_rfl) (by kernel_rfl)
    refine ⟨#[v0, v1], by simp [hv0, hv1], (cRSub (show Vz 6 (x) v0 W from hV0) (show Vz 6 (y) v1 W from hV1) (by omega) (by omega)).mono fun e w' ⟨v, he, hV, hb⟩ => ⟨v, he, below_tr h.s hb, hb, hV⟩⟩
  case s14 =>
    refine flow_call (fun _ _ => rfl) fun listed a W h hd => ⟨(by obtain ⟨u, hu, hy, hU⟩ := h.dep hd 7 26 (by kernel_rfl) (by kernel_rfl); obtain rfl : u = .bool true := hU; exact hy), ?_⟩
    obtain ⟨v0, hv0, -, hV0⟩ := h.dep hd 10 29 (by kernel_rfl) (by kernel_rfl)
    obtain ⟨v1, hv1, -, hV1⟩ := h.dep hd 13 32 (by kernel_rfl) (by kernel_rfl)
    refine ⟨#[v0, v1], by simp [hv0, hv1], (cSame (show Vz 7 ((x) - (y)) v0 W from hV0) (show Vz 7 ((x) - (y)) v1 W from hV1) (by omega) (by omega) (by rfl)).mono fun e w' ⟨v, he, hV, hb⟩ => ⟨v, he, below_tr h.s hb, hb, hV⟩⟩
  case s15 =>
    refine flow_run fun listed a W h hd => ⟨trivial, ?_⟩
    obtain ⟨v0, hv0, -, hV0⟩ := h.dep hd 7 26 (by kernel_rfl) (by kernel_rfl)
    obtain ⟨v1, hv1, -, hV1⟩ := h.dep hd 14 33 (by kernel_rfl) (by kernel_rfl)
    exact ⟨_, W, run_pick_t rfl (hv0.trans hV0), h.s, Below.refl _ _, by rw [hv1]; exact hV1⟩
  case s16 =>
    refine flow_run fun listed a W h hd => ⟨trivial, ?_⟩
    obtain ⟨v0, hv0, -, hV0⟩ := h.dep hd 15 34 (by kernel_rfl) (by kernel_rfl)
    exact ⟨_, W, run_move rfl, h.s, Below.refl _ _, by rw [hv0]; exact hV0⟩
  case s17 =>
    refine flow_wp fun listed a W h hd => ⟨(by obtain ⟨u, hu, hy, hU⟩ := h.dep hd 16 35 (by kernel_rfl) (by kernel_rfl); obtain rfl : u = .bool true := hU; exact hy), fun K hK => ?_⟩
    exact wp_load_box rfl (h.out 5 (by kernel_rfl)) (hX1.later h.s) fun v hv => hK v W h.s (Below.refl _ _) hv
  case s18 =>
    refine flow_wp fun listed a W h hd => ⟨(by obtain ⟨u, hu, hy, hU⟩ := h.dep hd 16 35 (by kernel_rfl) (by kernel_rfl); obtain rfl : u = .bool true := hU; exact hy), fun K hK => ?_⟩
    exact wp_load_box rfl (h.out 6 (by kernel_rfl)) (hY1.later h.s) fun v hv => hK v W h.s (Below.refl _ _) hv
  case s19 =>
    refine flow_call (fun _ _ => rfl) fun listed a W h hd => ⟨(by obtain ⟨u, hu, hy, hU⟩ := h.dep hd 16 35 (by kernel_rfl) (by kernel_rfl); obtain rfl : u = .bool true := hU; exact hy), ?_⟩
    obtain ⟨v0, hv0, -, hV0⟩ := h.dep hd 17 36 (by kernel_rfl) (by kernel_rfl)
    obtain ⟨v1, hv1, -, hV1⟩ := h.dep hd 18 37 (by kernel_rfl) (by kernel_rfl)
    refine ⟨#[v0, v1], by simp [hv0, hv1], (cMul (show Vz 6 (x) v0 W from hV0) (show Vz 6 (y) v1 W from hV1) (by omega) (by omega)).mono fun e w' ⟨v, he, hV, hb⟩ => ⟨v, he, below_tr h.s hb, hb, hV⟩⟩
  case s20 =>
    refine flow_wp fun listed a W h hd => ⟨(by obtain ⟨u, hu, hy, hU⟩ := h.dep hd 16 35 (by kernel_rfl) (by kernel_rfl); obtain rfl : u = .bool true := hU; exact hy), fun K hK => ?_⟩
    exact wp_load_box rfl (h.out 5 (by kernel_rfl)) (hX1.later h.s) fun v hv => hK v W h.s (Below.refl _ _) hv
  case s21 =>
    refine flow_wp fun listed a W h hd => ⟨(by obtain ⟨u, hu, hy, hU⟩ := h.dep hd 16 35 (by kernel_rfl) (by kernel_rfl); obtain rfl : u = .bool true := hU; exact hy), fun K hK => ?_⟩
    exact wp_load_box rfl (h.out 6 (by kernel_rfl)) (hY1.later h.s) fun v hv => hK v W h.s (Below.refl _ _) hv
  case s22 =>
    refine flow_call (fun _ _ => rfl) fun listed a W h hd => ⟨(by obtain ⟨u, hu, hy, hU⟩ := h.dep hd 16 35 (by kernel_rfl) (by kernel_rfl); obtain rfl : u = .bool true := hU; exact hy), ?_⟩
    obtain ⟨v0, hv0, -, hV0⟩ := h.dep hd 20 39 (by kernel_rfl) (by kernel_rfl)
    obtain ⟨v1, hv1, -, hV1⟩ := h.dep hd 21 40 (by kernel_rfl) (by kernel_rfl)
    refine ⟨#[v0, v1], by simp [hv0, hv1], (cRMul (show Vz 6 (x) v0 W from hV0) (show Vz 6 (y) v1 W from hV1) (by omega) (by omega)).mono fun e w' ⟨v, he, hV, hb⟩ => ⟨v, he, below_tr h.s hb, hb, hV⟩⟩
  case s23 =>
    refine flow_call (fun _ _ => rfl) fun listed a W h hd => ⟨(by obtain ⟨u, hu, hy, hU⟩ := h.dep hd 16 35 (by kernel_rfl) (by kernel_rfl); obtain rfl : u = .bool true := hU; exact hy), ?_⟩
    obtain ⟨v0, hv0, -, hV0⟩ := h.dep hd 19 38 (by kernel_rfl) (by kernel_rfl)
    obtain ⟨v1, hv1, -, hV1⟩ := h.dep hd 22 41 (by kernel_rfl) (by kernel_rfl)
    refine ⟨#[v0, v1], by simp [hv0, hv1], (cSame (show Vz 12 ((x) * (y)) v0 W from hV0) (show Vz 12 ((x) * (y)) v1 W from hV1) (by omega) (by omega) (by rfl)).mono fun e w' ⟨v, he, hV, hb⟩ => ⟨v, he, below_tr h.s hb, hb, hV⟩⟩
  case s24 =>
    refine flow_run fun listed a W h hd => ⟨trivial, ?_⟩
    obtain ⟨v0, hv0, -, hV0⟩ := h.dep hd 16 35 (by kernel_rfl) (by kernel_rfl)
    obtain ⟨v1, hv1, -, hV1⟩ := h.dep hd 23 42 (by kernel_rfl) (by kernel_rfl)
    exact ⟨_, W, run_pick_t rfl (hv0.trans hV0), h.s, Below.refl _ _, by rw [hv1]; exact hV1⟩
  case s25 =>
    refine flow_run fun listed a W h hd => ⟨trivial, ?_⟩
    obtain ⟨v0, hv0, -, hV0⟩ := h.dep hd 24 43 (by kernel_rfl) (by kernel_rfl)
    exact ⟨_, W, run_move rfl, h.s, Below.refl _ _, by rw [hv0]; exact hV0⟩
  case s26 =>
    refine flow_wp fun listed a W h hd => ⟨(by obtain ⟨u, hu, hy, hU⟩ := h.dep hd 25 44 (by kernel_rfl) (by kernel_rfl); obtain rfl : u = .bool true := hU; exact hy), fun K hK => ?_⟩
    exact wp_load_box rfl (h.out 5 (by kernel_rfl)) (hX1.later h.s) fun v hv => hK v W h.s (Below.refl _ _) hv
  case s27 =>
    refine flow_call (fun _ _ => rfl) fun listed a W h hd => ⟨(by obtain ⟨u, hu, hy, hU⟩ := h.dep hd 25 44 (by kernel_rfl) (by kernel_rfl); obtain rfl : u = .bool true := hU; exact hy), ?_⟩
    obtain ⟨v0, hv0, -, hV0⟩ := h.dep hd 26 45 (by kernel_rfl) (by kernel_rfl)
    refine ⟨#[v0], by simp [hv0], (cNeg (show Vz 6 (x) v0 W from hV0) (by omega)).mono fun e w' ⟨v, he, hV, hb⟩ => ⟨v, he, below_tr h.s hb, hb, hV⟩⟩
  case s28 =>
    refine flow_wp fun listed a W h hd => ⟨(by obtain ⟨u, hu, hy, hU⟩ := h.dep hd 25 44 (by kernel_rfl) (by kernel_rfl); obtain rfl : u = .bool true := hU; exact hy), fun K hK => ?_⟩
    exact wp_load_box rfl (h.out 5 (by kernel_rfl)) (hX1.later h.s) fun v hv => hK v W h.s (Below.refl _ _) hv
  case s29 =>
    refine flow_call (fun _ _ => rfl) fun listed a W h hd => ⟨(by obtain ⟨u, hu, hy, hU⟩ := h.dep hd 25 44 (by kernel_rfl) (by kernel_rfl); obtain rfl : u = .bool true := hU; exact hy), ?_⟩
    obtain ⟨v0, hv0, -, hV0⟩ := h.dep hd 28 47 (by kernel_rfl) (by kernel_rfl)
    refine ⟨#[v0], by simp [hv0], (cRNeg (show Vz 6 (x) v0 W from hV0)).mono fun e w' ⟨v, he, hV, hb⟩ => ⟨v, he, below_tr h.s hb, hb, hV⟩⟩
  case s30 =>
    refine flow_call (fun _ _ => rfl) fun listed a W h hd => ⟨(by obtain ⟨u, hu, hy, hU⟩ := h.dep hd 25 44 (by kernel_rfl) (by kernel_rfl); obtain rfl : u = .bool true := hU; exact hy), ?_⟩
    obtain ⟨v0, hv0, -, hV0⟩ := h.dep hd 27 46 (by kernel_rfl) (by kernel_rfl)
    obtain ⟨v1, hv1, -, hV1⟩ := h.dep hd 29 48 (by kernel_rfl) (by kernel_rfl)
    refine ⟨#[v0, v1], by simp [hv0, hv1], (cSame (show Vz 6 (-(x)) v0 W from hV0) (show Vz 6 (-(x)) v1 W from hV1) (by omega) (by omega) (by rfl)).mono fun e w' ⟨v, he, hV, hb⟩ => ⟨v, he, below_tr h.s hb, hb, hV⟩⟩
  case s31 =>
    refine flow_run fun listed a W h hd => ⟨trivial, ?_⟩
    obtain ⟨v0, hv0, -, hV0⟩ := h.dep hd 25 44 (by kernel_rfl) (by kernel_rfl)
    obtain ⟨v1, hv1, -, hV1⟩ := h.dep hd 30 49 (by kernel_rfl) (by kernel_rfl)
    exact ⟨_, W, run_pick_t rfl (hv0.trans hV0), h.s, Below.refl _ _, by rw [hv1]; exact hV1⟩
  case s32 =>
    refine flow_run fun listed a W h hd => ⟨trivial, ?_⟩
    obtain ⟨v0, hv0, -, hV0⟩ := h.dep hd 31 50 (by kernel_rfl) (by kernel_rfl)
    exact ⟨_, W, run_assign rfl, h.s, Below.refl _ _, by rw [hv0]; exact hV0⟩
  case hdone =>
    intro f W hS hf
    have hlast : f 9 = _ := hf 32 9 (by kernel_rfl)
    simp only [slots, Act.put, List.setIfInBounds_toArray, List.set_cons_zero, List.set_cons_succ]
    rw [hlast]
    have hS5 := hS
    clear hf hS
    go_upto_region 6 with fail
    refine region_flows (V := fun i => ([Vz 6 (x), Vz 6 (y), Vi (cmpI (x) (y)), Vz 6 (x), Vz 6 (y), Vi (cmpI (x) (y)), Vb true, Vb true, Vz 6 (x), Vz 6 (x), Vi (cmpI (x) (x)), Vb true, Vb true, Vb true, Vz 6 (x), Vi (cmpI (x) 0), Vz 6 (x), Vi (cmpI (x) 0), Vb true, Vb true, Vb true] : List VP).getD i VT) (S := fun W => Below u2.heap.size u2 W) (R := fun a b => Below a.heap.size a b) (by kernel_rfl) (by kernel_rfl) (by kernel_rfl) (by rfl) (mono_of ⟨Vz_mono _ _, Vz_mono _ _, Vi_mono _, Vz_mono _ _, Vz_mono _ _, Vi_mono _, Vb_mono _, Vb_mono _, Vz_mono _ _, Vz_mono _ _, Vi_mono _, Vb_mono _, Vb_mono _, Vb_mono _, Vz_mono _ _, Vi_mono _, Vz_mono _ _, Vi_mono _, Vb_mono _, Vb_mono _, Vb_mono _, trivial⟩) (below_tr hS5 ((Below.refl _ _).drew)) ⟨?s0, ?s1, ?s2, ?s3, ?s4, ?s5, ?s6, ?s7, ?s8, ?s9, ?s10, ?s11, ?s12, ?s13, ?s14, ?s15, ?s16, ?s17, ?s18, ?s19, ?s20, trivial⟩ [51, 52, 53, 54, 55, 56, 57, 58, 59, 60, 61, 62, 63, 64, 65, 66, 67, 68, 69, 70, 10] rfl ?hdone
    case s0 =>
      refine flow_wp fun listed a W h hd => ⟨trivial, fun K hK => ?_⟩
      exact wp_load_box rfl (h.out 5 (by kernel_rfl)) (hX1.later h.s) fun v hv => hK v W h.s (Below.refl _ _) hv
    case s1 =>
      refine flow_wp fun listed a W h hd => ⟨trivial, fun K hK => ?_⟩
      exact wp_load_box rfl (h.out 6 (by kernel_rfl)) (hY1.later h.s) fun v hv => hK v W h.s (Below.refl _ _) hv
    case s2 =>
      refine flow_call (fun _ _ => rfl) fun listed a W h hd => ⟨trivial, ?_⟩
      obtain ⟨v0, hv0, -, hV0⟩ := h.dep hd 0 51 (by kernel_rfl) (by kernel_rfl)
      obtain ⟨v1, hv1, -, hV1⟩ := h.dep hd 1 52 (by kernel_rfl) (by kernel_rfl)
      refine ⟨#[v0, v1], by simp [hv0, hv1], (cCompare (show Vz 6 (x) v0 W from hV0) (show Vz 6 (y) v1 W from hV1) (by omega) (by omega)).mono fun e w' ⟨v, he, hV, hb⟩ => ⟨v, he, below_tr h.s hb, hb, hV⟩⟩
    case s3 =>
      refine flow_wp fun listed a W h hd => ⟨trivial, fun K hK => ?_⟩
      exact wp_load_box rfl (h.out 5 (by kernel_rfl)) (hX1.later h.s) fun v hv => hK v W h.s (Below.refl _ _) hv
    case s4 =>
      refine flow_wp fun listed a W h hd => ⟨trivial, fun K hK => ?_⟩
      exact wp_load_box rfl (h.out 6 (by kernel_rfl)) (hY1.later h.s) fun v hv => hK v W h.s (Below.refl _ _) hv
    case s5 =>
      refine flow_call (fun _ _ => rfl) fun listed a W h hd => ⟨trivial, ?_⟩
      obtain ⟨v0, hv0, -, hV0⟩ := h.dep hd 3 54 (by kernel_rfl) (by kernel_rfl)
      obtain ⟨v1, hv1, -, hV1⟩ := h.dep hd 4 55 (by kernel_rfl) (by kernel_rfl)
      refine ⟨#[v0, v1], by simp [hv0, hv1], (cRCompare (show Vz 6 (x) v0 W from hV0) (show Vz 6 (y) v1 W from hV1) (by omega) (by omega)).mono fun e w' ⟨v, he, hV, hb⟩ => ⟨v, he, below_tr h.s hb, hb, hV⟩⟩
    case s6 =>
      refine flow_run fun listed a W h hd => ⟨trivial, ?_⟩
      obtain ⟨v0, hv0, -, hV0⟩ := h.dep hd 2 53 (by kernel_rfl) (by kernel_rfl)
      have hV0' : v0 = .int .i64 (cmpI (x) (y)) := hV0
      obtain ⟨v1, hv1, -, hV1⟩ := h.dep hd 5 56 (by kernel_rfl) (by kernel_rfl)
      have hV1' : v1 = .int .i64 (cmpI (x) (y)) := hV1
      exact ⟨_, _, run_eqi rfl (hv0.trans hV0') (hv1.trans hV1'), h.s, Below.refl _ _, congrArg Value.bool (by first | exact beq_self_eq_true _ | (rw [cmp_eq]; rfl))⟩
    case s7 =>
      refine flow_run fun listed a W h hd => ⟨trivial, ?_⟩
      obtain ⟨v0, hv0, -, hV0⟩ := h.dep hd 6 57 (by kernel_rfl) (by kernel_rfl)
      exact ⟨_, W, run_move rfl, h.s, Below.refl _ _, by rw [hv0]; exact hV0⟩
    case s8 =>
      refine flow_wp fun listed a W h hd => ⟨(by obtain ⟨u, hu, hy, hU⟩ := h.dep hd 7 58 (by kernel_rfl) (by kernel_rfl); obtain rfl : u = .bool true := hU; exact hy), fun K hK => ?_⟩
      exact wp_load_box rfl (h.out 5 (by kernel_rfl)) (hX1.later h.s) fun v hv => hK v W h.s (Below.refl _ _) hv
    case s9 =>
      refine flow_wp fun listed a W h hd => ⟨(by obtain ⟨u, hu, hy, hU⟩ := h.dep hd 7 58 (by kernel_rfl) (by kernel_rfl); obtain rfl : u = .bool true := hU; exact hy), fun K hK => ?_⟩
      exact wp_load_box rfl (h.out 5 (by kernel_rfl)) (hX1.later h.s) fun v hv => hK v W h.s (Below.refl _ _) hv
    case s10 =>
      refine flow_call (fun _ _ => rfl) fun listed a W h hd => ⟨(by obtain ⟨u, hu, hy, hU⟩ := h.dep hd 7 58 (by kernel_rfl) (by kernel_rfl); obtain rfl : u = .bool true := hU; exact hy), ?_⟩
      obtain ⟨v0, hv0, -, hV0⟩ := h.dep hd 8 59 (by kernel_rfl) (by kernel_rfl)
      obtain ⟨v1, hv1, -, hV1⟩ := h.dep hd 9 60 (by kernel_rfl) (by kernel_rfl)
      refine ⟨#[v0, v1], by simp [hv0, hv1], (cCompare (show Vz 6 (x) v0 W from hV0) (show Vz 6 (x) v1 W from hV1) (by omega) (by omega)).mono fun e w' ⟨v, he, hV, hb⟩ => ⟨v, he, below_tr h.s hb, hb, hV⟩⟩
    case s11 =>
      refine flow_run fun listed a W h hd => ⟨(by obtain ⟨u, hu, hy, hU⟩ := h.dep hd 7 58 (by kernel_rfl) (by kernel_rfl); obtain rfl : u = .bool true := hU; exact hy), ?_⟩
      obtain ⟨v0, hv0, -, hV0⟩ := h.dep hd 10 61 (by kernel_rfl) (by kernel_rfl)
      have hV0' : v0 = .int .i64 (cmpI (x) (x)) := hV0
      exact ⟨_, _, run_eqi rfl (hv0.trans hV0') rfl, h.s, Below.refl _ _, congrArg Value.bool (by first | exact beq_self_eq_true _ | (rw [cmp_eq]; rfl))⟩
    case s12 =>
      refine flow_run fun listed a W h hd => ⟨trivial, ?_⟩
      obtain ⟨v0, hv0, -, hV0⟩ := h.dep hd 7 58 (by kernel_rfl) (by kernel_rfl)
      obtain ⟨v1, hv1, -, hV1⟩ := h.dep hd 11 62 (by kernel_rfl) (by kernel_rfl)
      exact ⟨_, W, run_pick_t rfl (hv0.trans hV0), h.s, Below.refl _ _, by rw [hv1]; exact hV1⟩
    case s13 =>
      refine flow_run fun listed a W h hd => ⟨trivial, ?_⟩
      obtain ⟨v0, hv0, -, hV0⟩ := h.dep hd 12 63 (by kernel_rfl) (by kernel_rfl)
      exact ⟨_, W, run_move rfl, h.s, Below.refl _ _, by rw [hv0]; exact hV0⟩
    case s14 =>
      refine flow_wp fun listed a W h hd => ⟨(by obtain ⟨u, hu, hy, hU⟩ := h.dep hd 13 64 (by kernel_rfl) (by kernel_rfl); obtain rfl : u = .bool true := hU; exact hy), fun K hK => ?_⟩
      exact wp_load_box rfl (h.out 5 (by kernel_rfl)) (hX1.later h.s) fun v hv => hK v W h.s (Below.refl _ _) hv
    case s15 =>
      refine flow_call (fun _ _ => rfl) fun listed a W h hd => ⟨(by obtain ⟨u, hu, hy, hU⟩ := h.dep hd 13 64 (by kernel_rfl) (by kernel_rfl); obtain rfl : u = .bool true := hU; exact hy), ?_⟩
      obtain ⟨v0, hv0, -, hV0⟩ := h.dep hd 14 65 (by kernel_rfl) (by kernel_rfl)
      refine ⟨#[v0], by simp [hv0], (cSign (show Vz 6 (x) v0 W from hV0) (by omega)).mono fun e w' ⟨v, he, hV, hb⟩ => ⟨v, he, below_tr h.s hb, hb, hV⟩⟩
    case s16 =>
      refine flow_wp fun listed a W h hd => ⟨(by obtain ⟨u, hu, hy, hU⟩ := h.dep hd 13 64 (by kernel_rfl) (by kernel_rfl); obtain rfl : u = .bool true := hU; exact hy), fun K hK => ?_⟩
      exact wp_load_box rfl (h.out 5 (by kernel_rfl)) (hX1.later h.s) fun v hv => hK v W h.s (Below.refl _ _) hv
    case s17 =>
      refine flow_call (fun _ _ => rfl) fun listed a W h hd => ⟨(by obtain ⟨u, hu, hy, hU⟩ := h.dep hd 13 64 (by kernel_rfl) (by kernel_rfl); obtain rfl : u = .bool true := hU; exact hy), ?_⟩
      obtain ⟨v0, hv0, -, hV0⟩ := h.dep hd 16 67 (by kernel_rfl) (by kernel_rfl)
      refine ⟨#[v0], by simp [hv0], (cRSign (show Vz 6 (x) v0 W from hV0) (by omega)).mono fun e w' ⟨v, he, hV, hb⟩ => ⟨v, he, below_tr h.s hb, hb, hV⟩⟩
    case s18 =>
      refine flow_run fun listed a W h hd => ⟨(by obtain ⟨u, hu, hy, hU⟩ := h.dep hd 13 64 (by kernel_rfl) (by kernel_rfl); obtain rfl : u = .bool true := hU; exact hy), ?_⟩
      obtain ⟨v0, hv0, -, hV0⟩ := h.dep hd 15 66 (by kernel_rfl) (by kernel_rfl)
      have hV0' : v0 = .int .i64 (cmpI (x) 0) := hV0
      obtain ⟨v1, hv1, -, hV1⟩ := h.dep hd 17 68 (by kernel_rfl) (by kernel_rfl)
      have hV1' : v1 = .int .i64 (cmpI (x) 0) := hV1
      exact ⟨_, _, run_eqi rfl (hv0.trans hV0') (hv1.trans hV1'), h.s, Below.refl _ _, congrArg Value.bool (by first | exact beq_self_eq_true _ | (rw [cmp_eq]; rfl))⟩
    case s19 =>
      refine flow_run fun listed a W h hd => ⟨trivial, ?_⟩
      obtain ⟨v0, hv0, -, hV0⟩ := h.dep hd 13 64 (by kernel_rfl) (by kernel_rfl)
      obtain ⟨v1, hv1, -, hV1⟩ := h.dep hd 18 69 (by kernel_rfl) (by kernel_rfl)
      exact ⟨_, W, run_pick_t rfl (hv0.trans hV0), h.s, Below.refl _ _, by rw [hv1]; exact hV1⟩
    case s20 =>
      refine flow_run fun listed a W h hd => ⟨trivial, ?_⟩
      obtain ⟨v0, hv0, -, hV0⟩ := h.dep hd 19 70 (by kernel_rfl) (by kernel_rfl)
      exact ⟨_, W, run_assign rfl, h.s, Below.refl _ _, by rw [hv0]; exact hV0⟩
    case hdone =>
      intro f W hS hf
      have hlast : f 10 = _ := hf 20 10 (by kernel_rfl)
      simp only [slots, Act.put, List.setIfInBounds_toArray, List.set_cons_zero, List.set_cons_succ]
      rw [hlast]
      have hS6 := hS
      clear hf hS
      have tv := Lib.hid hS6
      have dbx0 := Below.cell_of' hS6 cx0
      have dbx1 := Below.cell_of' hS6 cx1
      have dby0 := Below.cell_of' hS6 cy0
      have dby1 := Below.cell_of' hS6 cy1
      have hlv : Hid (∀ W, Below u2.heap.size u2 W → Calls Tryd.prog 22 #[] W (RV (Vb true) W)) := Lib.hid fun W h => lives_any W (hT2.out.later h)
      clear hS6
      go_wp2_with (first
        | (go_at_call 23; (with_reducible refine (hEx2.out _ tv.out).mono ?_); clear hEx2; rintro e v1 ⟨_, rfl, ⟨pX2, kX2, rfl, hQX, hkX2, hmX2⟩, hw1⟩; have hQX' := Lib.hid hQX; have tv1 := Lib.hid (below_tr tv.out hw1); clear hQX)
        | (go_at_call 34; (refine (cSameB (l := Ex) ⟨_, _, rfl, Rd_below tv1.out hRX2.out, hkX, hmX⟩ ⟨_, _, rfl, hQX'.out, hkX2, hmX2⟩ hExl.out).mono ?_); clear hQX'; rintro e v2 ⟨_, rfl, rfl, hw2⟩; have tv2 := Lib.hid (below_tr tv1.out hw2); have dex0 := Below.cell_of' tv2.out cx0; have dex1 := Below.cell_of' tv2.out cx1; have dey0 := Below.cell_of' tv2.out cy0; have dey1 := Below.cell_of' tv2.out cy1)
        | (go_at_call 23; (with_reducible refine (hEy2.out _ tv2.out).mono ?_); clear hEy2; rintro e v3 ⟨_, rfl, ⟨pY2, kY2, rfl, hQY, hkY2, hmY2⟩, hw3⟩; have hQY' := Lib.hid hQY; have tv3 := Lib.hid (below_tr tv2.out hw3); clear hQY)
        | (go_at_call 34; (refine (cSameB (l := Ey) ⟨_, _, rfl, Rd_below tv3.out hRY'.out, hkY, hmY⟩ ⟨_, _, rfl, hQY'.out, hkY2, hmY2⟩ hEyl.out).mono ?_); clear hQY'; rintro e v4 ⟨_, rfl, rfl, hw4⟩; have tv4 := Lib.hid (below_tr tv3.out hw4))
        | (go_at_call 22; (with_reducible refine (hlv.out _ tv4.out).mono ?_); rintro e v5 ⟨_, rfl, rfl, hw5⟩; have tv5 := Lib.hid (below_tr tv4.out hw5)))
      go_ret
      exact ⟨rfl, below_tr tw.out tv5.out⟩
end Go.Proofs.YtlpbcbgoeeminaaDoor
