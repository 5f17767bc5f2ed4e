/- IntegerRing. -/
import Derived.Test.YtlpbcbgoeeminaaDoorM22
import Derived.Test.YtlpbcbgoeeminaaDoorM25
namespace Go.Proofs.YtlpbcbgoeeminaaDoor
open Go.RowKit
theorem cmp_sub_eq (x y : Int) : (cmpI x y == cmpI (x - y) 0) = true := by
  rcases Int.lt_trichotomy x y with h | h | h
  · rw [cmp_lt h, cmp_lt (by omega)]; rfl
  · rw [h, cmp_eq, Int.sub_self, cmp_eq]; rfl
  · rw [cmp_gt h, cmp_gt (by omega)]; rfl
theorem cmp_add_eq (x y z : Int) : (cmpI x y == cmpI (x + z) (y + z)) = true := by
  rcases Int.lt_trichotomy x y with h | h | h
  · rw [cmp_lt h, cmp_lt (by omega)]; rfl
  · rw [h, cmp_eq, cmp_eq]; rfl
  · rw [cmp_gt h, cmp_gt (by omega)]; rfl
/-- a value of six digits that a Number returns -/
theorem cNumber {w : World} {a : Option Addr} {m : Nat} {c : Nat} {l : List Int} (hR : Rdi w a l) (hm : m = l.length) (hi : i64s l) (at0 : Nat) (hat : at0 ≤ 1099511627776) : ∀ W, Below w.heap.size w W → Calls Tryd.prog 10 #[.slice a m c, .int .i64 (at0 : Int)] W fun e w' => ∃ z, RV (Vz 6 z) W e w' := fun W hb =>
  (number_any' a m c l at0 W (Rdi_below hb hR) hm hi hat).mono fun _ _ ⟨z, hz, h⟩ => ⟨z, retI_vz h hz⟩
theorem Bz.facts {N g : Nat} {z : Int} {W : World} (h : Bz N g z W) : ∃ nb p n c, W.cell? ⟨g, 0, none⟩ = some (.bool nb) ∧ W.cell? ⟨g, 1, none⟩ = some (.slice p n c) ∧ IntAt W nb p n c z ∧ n ≤ N := by
  obtain ⟨nb, p, n, c, h1, h2⟩ := h
  exact ⟨nb, p, n, c, by simp [World.cell?, h1], by simp [World.cell?, h1], h2⟩

set_option maxRecDepth 100000 in
set_option maxHeartbeats 1600000 in
theorem walk_ring (a0 a1 a2 : Option Addr) (m0 m1 m2 c0 c1 c2 : Nat) (l0 l1 l2 : List Int) (w : World) (hR0 : Rdi w a0 l0) (hR1 : Rdi w a1 l1) (hR2 : Rdi w a2 l2) (hm0 : m0 = l0.length) (hm1 : m1 = l1.length) (hm2 : m2 = l2.length) (hi0 : i64s l0) (hi1 : i64s l1) (hi2 : i64s l2) (hT : Tb w) :
    Calls Tryd.prog 7 #[.slice a0 m0 c0, .slice a1 m1 c1, .slice a2 m2 c2] w fun e w' => e = .returned (.bool true) ∧ Below w.heap.size w w' := by
  have hn0 : Hid (∀ W, Below w.heap.size w W → Calls Tryd.prog 10 #[.slice a0 m0 c0, .int .i64 0] W fun e w' => ∃ z, RV (Vz 6 z) W e w') := Lib.hid (cNumber hR0 hm0 hi0 0 (by omega))
  have hn1 : Hid (∀ W, Below w.heap.size w W → Calls Tryd.prog 10 #[.slice a1 m1 c1, .int .i64 0] W fun e w' => ∃ z, RV (Vz 6 z) W e w') := Lib.hid (cNumber hR1 hm1 hi1 0 (by omega))
  have hn2 : Hid (∀ W, Below w.heap.size w W → Calls Tryd.prog 10 #[.slice a2 m2 c2, .int .i64 0] W fun e w' => ∃ z, RV (Vz 6 z) W e w') := Lib.hid (cNumber hR2 hm2 hi2 0 (by omega))
  have hT' := Lib.hid hT
  clear hT hR0 hR1 hR2 hm0 hm1 hm2 hi0 hi1 hi2
  go_enter Tryd.func7, Tryd.ntmps7
  go_upto_region 4 with (first
    | (go_at_call 10; (with_reducible refine (hn0.out _ (Below.refl _ _)).mono ?_); clear hn0; rintro e w0 ⟨x, _, rfl, ⟨nb0, p0, n0, k0, rfl, hI0, hl0⟩, hb0⟩; have hI0' := Lib.hid (And.intro hI0 hl0); clear hI0 hl0; have tb0 := Lib.hid (below_tr hb0 (below_new w0 (.cells #[.bool nb0, .slice p0 n0 k0] 24 (0, 0)))))
    | (go_at_call 10; (with_reducible refine (hn1.out _ tb0.out).mono ?_); clear hn1; rintro e w1 ⟨y, _, rfl, ⟨nb1, p1, n1, k1, rfl, hI1, hl1⟩, hb1⟩; have hI1' := Lib.hid (And.intro hI1 hl1); clear hI1 hl1; have tb1 := Lib.hid (below_tr tb0.out (below_tr hb1 (below_new w1 (.cells #[.bool nb1, .slice p1 n1 k1] 24 (0, 0))))))
    | (go_at_call 10; (with_reducible refine (hn2.out _ tb1.out).mono ?_); clear hn2; rintro e w2 ⟨z, _, rfl, ⟨nb2, p2, n2, k2, rfl, hI2, hl2⟩, hb2⟩; have hI2' := Lib.hid (And.intro hI2 hl2); clear hI2 hl2; have tb2 := Lib.hid (below_tr tb1.out (below_tr hb2 (below_new w2 (.cells #[.bool nb2, .slice p2 n2 k2] 24 (0, 0)))))))
  obtain ⟨W1, hW1⟩ : ∃ W1, w2.alloc (.cells #[.bool nb2, .slice p2 n2 k2] 24 (0, 0)) = W1 := ⟨_, rfl⟩
  have hZ1 : Bz 6 w2.heap.size z W1 := hW1 ▸ Bz_new hI2'.out.1 hI2'.out.2
  have t2 : Below w2.heap.size w2 W1 := hW1 ▸ below_new _ _
  have hY1 : Bz 6 w1.heap.size y W1 := (Bz_new hI1'.out.1 hI1'.out.2).later (below_tr hb2 t2)
  have hX1 : Bz 6 w0.heap.size x W1 := (Bz_new hI0'.out.1 hI0'.out.2).later (below_tr hb1 (below_tr (below_new _ _) (below_tr hb2 t2)))
  rw [hW1] at tb2 ⊢
  have hT1 : Hid (Tb W1) := Lib.hid (hT'.out.later tb2.out)
  clear hW1 t2 hT' tb0 tb1 hb0 hb1 hb2 hI0' hI1' hI2'
  generalize w0.heap.size = g0 at hX1 ⊢
  generalize w1.heap.size = g1 at hY1 ⊢
  generalize w2.heap.size = g2 at hZ1 ⊢
  refine region_flows (V := fun i => ([Vz 6 (x), Vz 6 (y), Vz 7 ((x) + (y)), Vz 6 (y), Vz 6 (x), Vz 7 ((y) + (x)), Vb true, Vb false, Vb false, Vz 6 (x), Vz 6 (y), Vz 12 ((x) * (y)), Vz 6 (y), Vz 6 (x), Vz 12 ((y) * (x)), Vb true, Vb false, Vb false, Vb false, Vz 6 (x), Vz 6 (y), Vz 7 ((x) + (y)), Vz 6 (z), Vz 8 (((x) + (y)) + (z)), Vz 6 (x), Vz 6 (y), Vz 6 (z), Vz 7 ((y) + (z)), Vz 8 ((x) + ((y) + (z))), Vb true, Vb false, Vb false, Vb false, Vz 6 (x), Vz 6 (y), Vz 12 ((x) * (y)), Vz 6 (z), Vz 18 (((x) * (y)) * (z)), Vz 6 (x), Vz 6 (y), Vz 6 (z), Vz 12 ((y) * (z)), Vz 18 ((x) * ((y) * (z))), Vb true, Vb false, Vb false] : List VP).getD i VT) (S := fun W => Below W1.heap.size W1 W) (R := fun a b => Below a.heap.size a b) (by kernel_rfl) (by kernel_rfl) (by kernel_rfl) (by rfl) (mono_of ⟨Vz_mono _ _, Vz_mono _ _, Vz_mono _ _, Vz_mono _ _, Vz_mono _ _, Vz_mono _ _, Vb_mono _, Vb_mono _, Vb_mono _, Vz_mono _ _, Vz_mono _ _, Vz_mono _ _, Vz_mono _ _, Vz_mono _ _, Vz_mono _ _, Vb_mono _, Vb_mono _, Vb_mono _, Vb_mono _, Vz_mono _ _, Vz_mono _ _, Vz_mono _ _, Vz_mono _ _, Vz_mono _ _, Vz_mono _ _, Vz_mono _ _, Vz_mono _ _, Vz_mono _ _, Vz_mono _ _, Vb_mono _, Vb_mono _, Vb_mono _, Vb_mono _, Vz_mono _ _, Vz_mono _ _, Vz_mono _ _, Vz_mono _ _, Vz_mono _ _, Vz_mono _ _, Vz_mono _ _, Vz_mono _ _, Vz_mono _ _, Vz_mono _ _, Vb_mono _, Vb_mono _, Vb_mono _, trivial⟩) ((Below.refl _ _).drew) ⟨?s0, ?s1, ?s2, ?s3, ?s4, ?s5, ?s6, ?s7, ?s8, ?s9, ?s10, ?s11, ?s12, ?s13, ?s14, ?s15, ?s16, ?s17, ?s18, ?s19, ?s20, ?s21, ?s22, ?s23, ?s24, ?s25, ?s26, ?s27, ?s28, ?s29, ?s30, ?s31, ?s32, ?s33, ?s34, ?s35, ?s36, ?s37, ?s38, ?s39, ?s40, ?s41, ?s42, ?s43, ?s44, ?s45, trivial⟩ [17, 18, 19, 20, 21, 22, 23, 24, 25, 26, 27, 28, 29, 30, 31, 32, 33, 34, 35, 36, 37, 38, 39, 40, 41, 42, 43, 44, 45, 46, 47, 48, 49, 50, 51, 52, 53, 54, 55, 56, 57, 58, 59, 60, 61, 62] rfl ?hdone
  case s0 =>
    refine flow_wp fun listed a W h hd => ⟨trivial, fun K hK => ?_⟩
    exact wp_load_box rfl (h.out 7 (by kernel_rfl)) (hX1.later h.s) fun v hv => hK v W h.s (Below.refl _ _) hv
  case s1 =>
    refine flow_wp fun listed a W h hd => ⟨trivial, fun K hK => ?_⟩
    exact wp_load_box rfl (h.out 8 (by kernel_rfl)) (hY1.later h.s) fun v hv => hK v W h.s (Below.refl _ _) hv
  case s2 =>
    refine flow_call (fun _ _ => rfl) fun listed a W h hd => ⟨trivial, ?_⟩
    obtain ⟨v0, hv0, -, hV0⟩ := h.dep hd 0 17 (by kernel_rfl) (by kernel_rfl)
    obtain ⟨v1, hv1, -, hV1⟩ := h.dep hd 1 18 (by kernel_rfl) (by kernel_rfl)
    refine ⟨#[v0, v1], by simp [hv0, hv1], (cAdd (show Vz 6 (x) v0 W from hV0) (show Vz 6 (y) v1 W from hV1) (by omega) (by omega)).mono fun e w' ⟨v, he, hV, hb⟩ => ⟨v, he, below_tr h.s hb, hb, hV⟩⟩
  case s3 =>
    refine flow_wp fun listed a W h hd => ⟨trivial, fun K hK => ?_⟩
    exact wp_load_box rfl (h.out 8 (by kernel_rfl)) (hY1.later h.s) fun v hv => hK v W h.s (Below.refl _ _) hv
  case s4 =>
    refine flow_wp fun listed a W h hd => ⟨trivial, fun K hK => ?_⟩
    exact wp_load_box rfl (h.out 7 (by kernel_rfl)) (hX1.later h.s) fun v hv => hK v W h.s (Below.refl _ _) hv
  case s5 =>
    refine flow_call (fun _ _ => rfl) fun listed a W h hd => ⟨trivial, ?_⟩
    obtain ⟨v0, hv0, -, hV0⟩ := h.dep hd 3 20 (by kernel_rfl) (by kernel_rfl)
    obtain ⟨v1, hv1, -, hV1⟩ := h.dep hd 4 21 (by kernel_rfl) (by kernel_rfl)
    refine ⟨#[v0, v1], by simp [hv0, hv1], (cAdd (show Vz 6 (y) v0 W from hV0) (show Vz 6 (x) v1 W from hV1) (by omega) (by omega)).mono fun e w' ⟨v, he, hV, hb⟩ => ⟨v, he, below_tr h.s hb, hb, hV⟩⟩
  case s6 =>
    refine flow_call (fun _ _ => rfl) fun listed a W h hd => ⟨trivial, ?_⟩
    obtain ⟨v0, hv0, -, hV0⟩ := h.dep hd 2 19 (by kernel_rfl) (by kernel_rfl)
    obtain ⟨v1, hv1, -, hV1⟩ := h.dep hd 5 22 (by kernel_rfl) (by kernel_rfl)
    refine ⟨#[v0, v1], by simp [hv0, hv1], (cSame (show Vz 7 ((x) + (y)) v0 W from hV0) (show Vz 7 ((y) + (x)) v1 W from hV1) (by omega) (by omega) (by grind)).mono fun e w' ⟨v, he, hV, hb⟩ => ⟨v, he, below_tr h.s hb, hb, hV⟩⟩
  case s7 =>
    refine flow_run fun listed a W h hd => ⟨trivial, ?_⟩
    obtain ⟨v0, hv0, -, hV0⟩ := h.dep hd 6 23 (by kernel_rfl) (by kernel_rfl)
    exact ⟨_, W, run_not rfl (hv0.trans hV0), h.s, Below.refl _ _, rfl⟩
  case s8 =>
    refine flow_run fun listed a W h hd => ⟨trivial, ?_⟩
    obtain ⟨v0, hv0, -, hV0⟩ := h.dep hd 7 24 (by kernel_rfl) (by kernel_rfl)
    exact ⟨_, W, run_move rfl, h.s, Below.refl _ _, by rw [hv0]; exact hV0⟩
  case s9 =>
    refine flow_wp fun listed a W h hd => ⟨(by obtain ⟨u, hu, hy, hU⟩ := h.dep hd 8 25 (by kernel_rfl) (by kernel_rfl); obtain rfl : u = .bool false := hU; exact hy), fun K hK => ?_⟩
    exact wp_load_box rfl (h.out 7 (by kernel_rfl)) (hX1.later h.s) fun v hv => hK v W h.s (Below.refl _ _) hv
  case s10 =>
    refine flow_wp fun listed a W h hd => ⟨(by obtain ⟨u, hu, hy, hU⟩ := h.dep hd 8 25 (by kernel_rfl) (by kernel_rfl); obtain rfl : u = .bool false := hU; exact hy), fun K hK => ?_⟩
    exact wp_load_box rfl (h.out 8 (by kernel_rfl)) (hY1.later h.s) fun v hv => hK v W h.s (Below.refl _ _) hv
  case s11 =>
    refine flow_call (fun _ _ => rfl) fun listed a W h hd => ⟨(by obtain ⟨u, hu, hy, hU⟩ := h.dep hd 8 25 (by kernel_rfl) (by kernel_rfl); obtain rfl : u = .bool false := hU; exact hy), ?_⟩
    obtain ⟨v0, hv0, -, hV0⟩ := h.dep hd 9 26 (by kernel_rfl) (by kernel_rfl)
    obtain ⟨v1, hv1, -, hV1⟩ := h.dep hd 10 27 (by kernel_rfl) (by kernel_rfl)
    refine ⟨#[v0, v1], by simp [hv0, hv1], (cMul (show Vz 6 (x) v0 W from hV0) (show Vz 6 (y) v1 W from hV1) (by omega) (by omega)).mono fun e w' ⟨v, he, hV, hb⟩ => ⟨v, he, below_tr h.s hb, hb, hV⟩⟩
  case s12 =>
    refine flow_wp fun listed a W h hd => ⟨(by obtain ⟨u, hu, hy, hU⟩ := h.dep hd 8 25 (by kernel_rfl) (by kernel_rfl); obtain rfl : u = .bool false := hU; exact hy), fun K hK => ?_⟩
    exact wp_load_box rfl (h.out 8 (by kernel_rfl)) (hY1.later h.s) fun v hv => hK v W h.s (Below.refl _ _) hv
  case s13 =>
    refine flow_wp fun listed a W h hd => ⟨(by obtain ⟨u, hu, hy, hU⟩ := h.dep hd 8 25 (by kernel_rfl) (by kernel_rfl); obtain rfl : u = .bool false := hU; exact hy), fun K hK => ?_⟩
    exact wp_load_box rfl (h.out 7 (by kernel_rfl)) (hX1.later h.s) fun v hv => hK v W h.s (Below.refl _ _) hv
  case s14 =>
    refine flow_call (fun _ _ => rfl) fun listed a W h hd => ⟨(by obtain ⟨u, hu, hy, hU⟩ := h.dep hd 8 25 (by kernel_rfl) (by kernel_rfl); obtain rfl : u = .bool false := hU; exact hy), ?_⟩
    obtain ⟨v0, hv0, -, hV0⟩ := h.dep hd 12 29 (by kernel_rfl) (by kernel_rfl)
    obtain ⟨v1, hv1, -, hV1⟩ := h.dep hd 13 30 (by kernel_rfl) (by kernel_rfl)
    refine ⟨#[v0, v1], by simp [hv0, hv1], (cMul (show Vz 6 (y) v0 W from hV0) (show Vz 6 (x) v1 W from hV1) (by omega) (by omega)).mono fun e w' ⟨v, he, hV, hb⟩ => ⟨v, he, below_tr h.s hb, hb, hV⟩⟩
  case s15 =>
    refine flow_call (fun _ _ => rfl) fun listed a W h hd => ⟨(by obtain ⟨u, hu, hy, hU⟩ := h.dep hd 8 25 (by kernel_rfl) (by kernel_rfl); obtain rfl : u = .bool false := hU; exact hy), ?_⟩
    obtain ⟨v0, hv0, -, hV0⟩ := h.dep hd 11 28 (by kernel_rfl) (by kernel_rfl)
    obtain ⟨v1, hv1, -, hV1⟩ := h.dep hd 14 31 (by kernel_rfl) (by kernel_rfl)
    refine ⟨#[v0, v1], by simp [hv0, hv1], (cSame (show Vz 12 ((x) * (y)) v0 W from hV0) (show Vz 12 ((y) * (x)) v1 W from hV1) (by omega) (by omega) (by grind)).mono fun e w' ⟨v, he, hV, hb⟩ => ⟨v, he, below_tr h.s hb, hb, hV⟩⟩
  case s16 =>
    refine flow_run fun listed a W h hd => ⟨(by obtain ⟨u, hu, hy, hU⟩ := h.dep hd 8 25 (by kernel_rfl) (by kernel_rfl); obtain rfl : u = .bool false := hU; exact hy), ?_⟩
    obtain ⟨v0, hv0, -, hV0⟩ := h.dep hd 15 32 (by kernel_rfl) (by kernel_rfl)
    exact ⟨_, W, run_not rfl (hv0.trans hV0), h.s, Below.refl _ _, rfl⟩
  case s17 =>
    refine flow_run fun listed a W h hd => ⟨trivial, ?_⟩
    obtain ⟨v0, hv0, -, hV0⟩ := h.dep hd 8 25 (by kernel_rfl) (by kernel_rfl)
    obtain ⟨v1, hv1, -, hV1⟩ := h.dep hd 16 33 (by kernel_rfl) (by kernel_rfl)
    exact ⟨_, W, run_pick_f rfl (hv0.trans hV0), h.s, Below.refl _ _, by rw [hv1]; exact hV1⟩
  case s18 =>
    refine flow_run fun listed a W h hd => ⟨trivial, ?_⟩
    obtain ⟨v0, hv0, -, hV0⟩ := h.dep hd 17 34 (by kernel_rfl) (by kernel_rfl)
    exact ⟨_, W, run_move rfl, h.s, Below.refl _ _, by rw [hv0]; exact hV0⟩
  case s19 =>
    refine flow_wp fun listed a W h hd => ⟨(by obtain ⟨u, hu, hy, hU⟩ := h.dep hd 18 35 (by kernel_rfl) (by kernel_rfl); obtain rfl : u = .bool false := hU; exact hy), fun K hK => ?_⟩
    exact wp_load_box rfl (h.out 7 (by kernel_rfl)) (hX1.later h.s) fun v hv => hK v W h.s (Below.refl _ _) hv
  case s20 =>
    refine flow_wp fun listed a W h hd => ⟨(by obtain ⟨u, hu, hy, hU⟩ := h.dep hd 18 35 (by kernel_rfl) (by kernel_rfl); obtain rfl : u = .bool false := hU; exact hy), fun K hK => ?_⟩
    exact wp_load_box rfl (h.out 8 (by kernel_rfl)) (hY1.later h.s) fun v hv => hK v W h.s (Below.refl _ _) hv
  case s21 =>
    refine flow_call (fun _ _ => rfl) fun listed a W h hd => ⟨(by obtain ⟨u, hu, hy, hU⟩ := h.dep hd 18 35 (by kernel_rfl) (by kernel_rfl); obtain rfl : u = .bool false := hU; exact hy), ?_⟩
    obtain ⟨v0, hv0, -, hV0⟩ := h.dep hd 19 36 (by kernel_rfl) (by kernel_rfl)
    obtain ⟨v1, hv1, -, hV1⟩ := h.dep hd 20 37 (by kernel_rfl) (by kernel_rfl)
    refine ⟨#[v0, v1], by simp [hv0, hv1], (cAdd (show Vz 6 (x) v0 W from hV0) (show Vz 6 (y) v1 W from hV1) (by omega) (by omega)).mono fun e w' ⟨v, he, hV, hb⟩ => ⟨v, he, below_tr h.s hb, hb, hV⟩⟩
  case s22 =>
    refine flow_wp fun listed a W h hd => ⟨(by obtain ⟨u, hu, hy, hU⟩ := h.dep hd 18 35 (by kernel_rfl) (by kernel_rfl); obtain rfl : u = .bool false := hU; exact hy), fun K hK => ?_⟩
    exact wp_load_box rfl (h.out 9 (by kernel_rfl)) (hZ1.later h.s) fun v hv => hK v W h.s (Below.refl _ _) hv
  case s23 =>
    refine flow_call (fun _ _ => rfl) fun listed a W h hd => ⟨(by obtain ⟨u, hu, hy, hU⟩ := h.dep hd 18 35 (by kernel_rfl) (by kernel_rfl); obtain rfl : u = .bool false := hU; exact hy), ?_⟩
    obtain ⟨v0, hv0, -, hV0⟩ := h.dep hd 21 38 (by kernel_rfl) (by kernel_rfl)
    obtain ⟨v1, hv1, -, hV1⟩ := h.dep hd 22 39 (by kernel_rfl) (by kernel_rfl)
    refine ⟨#[v0, v1], by simp [hv0, hv1], (cAdd (show Vz 7 ((x) + (y)) v0 W from hV0) (show Vz 6 (z) v1 W from hV1) (by omega) (by omega)).mono fun e w' ⟨v, he, hV, hb⟩ => ⟨v, he, below_tr h.s hb, hb, hV⟩⟩
  case s24 =>
    refine flow_wp fun listed a W h hd => ⟨(by obtain ⟨u, hu, hy, hU⟩ := h.dep hd 18 35 (by kernel_rfl) (by kernel_rfl); obtain rfl : u = .bool false := hU; exact hy), fun K hK => ?_⟩
    exact wp_load_box rfl (h.out 7 (by kernel_rfl)) (hX1.later h.s) fun v hv => hK v W h.s (Below.refl _ _) hv
  case s25 =>
    refine flow_wp fun listed a W h hd => ⟨(by obtain ⟨u, hu, hy, hU⟩ := h.dep hd 18 35 (by kernel_rfl) (by kernel_rfl); obtain rfl : u = .bool false := hU; exact hy), fun K hK => ?_⟩
    exact wp_load_box rfl (h.out 8 (by kernel_rfl)) (hY1.later h.s) fun v hv => hK v W h.s (Below.refl _ _) hv
  case s26 =>
    refine flow_wp fun listed a W h hd => ⟨(by obtain ⟨u, hu, hy, hU⟩ := h.dep hd 18 35 (by kernel_rfl) (by kernel_rfl); obtain rfl : u = .bool false := hU; exact hy), fun K hK => ?_⟩
    exact wp_load_box rfl (h.out 9 (by kernel_rfl)) (hZ1.later h.s) fun v hv => hK v W h.s (Below.refl _ _) hv
  case s27 =>
    refine flow_call (fun _ _ => rfl) fun listed a W h hd => ⟨(by obtain ⟨u, hu, hy, hU⟩ := h.dep hd 18 35 (by kernel_rfl) (by kernel_rfl); obtain rfl : u = .bool false := hU; exact hy), ?_⟩
    obtain ⟨v0, hv0, -, hV0⟩ := h.dep hd 25 42 (by kernel_rfl) (by kernel_rfl)
    obtain ⟨v1, hv1, -, hV1⟩ := h.dep hd 26 43 (by kernel_rfl) (by kernel_rfl)
    refine ⟨#[v0, v1], by simp [hv0, hv1], (cAdd (show Vz 6 (y) v0 W from hV0) (show Vz 6 (z) v1 W from hV1) (by omega) (by omega)).mono fun e w' ⟨v, he, hV, hb⟩ => ⟨v, he, below_tr h.s hb, hb, hV⟩⟩
  case s28 =>
    refine flow_call (fun _ _ => rfl) fun listed a W h hd => ⟨(by obtain ⟨u, hu, hy, hU⟩ := h.dep hd 18 35 (by kernel_rfl) (by kernel_rfl); obtain rfl : u = .bool false := hU; exact hy), ?_⟩
    obtain ⟨v0, hv0, -, hV0⟩ := h.dep hd 24 41 (by kernel_rfl) (by kernel_rfl)
    obtain ⟨v1, hv1, -, hV1⟩ := h.dep hd 27 44 (by kernel_rfl) (by kernel_rfl)
    refine ⟨#[v0, v1], by simp [hv0, hv1], (cAdd (show Vz 6 (x) v0 W from hV0) (show Vz 7 ((y) + (z)) v1 W from hV1) (by omega) (by omega)).mono fun e w' ⟨v, he, hV, hb⟩ => ⟨v, he, below_tr h.s hb, hb, hV⟩⟩
  case s29 =>
    refine flow_call (fun _ _ => rfl) fun listed a W h hd => ⟨(by obtain ⟨u, hu, hy, hU⟩ := h.dep hd 18 35 (by kernel_rfl) (by kernel_rfl); obtain rfl : u = .bool false := hU; exact hy), ?_⟩
    obtain ⟨v0, hv0, -, hV0⟩ := h.dep hd 23 40 (by kernel_rfl) (by kernel_rfl)
    obtain ⟨v1, hv1, -, hV1⟩ := h.dep hd 28 45 (by kernel_rfl) (by kernel_rfl)
    refine ⟨#[v0, v1], by simp [hv0, hv1], (cSame (show Vz 8 (((x) + (y)) + (z)) v0 W from hV0) (show Vz 8 ((x) + ((y) + (z))) v1 W from hV1) (by omega) (by omega) (by grind)).mono fun e w' ⟨v, he, hV, hb⟩ => ⟨v, he, below_tr h.s hb, hb, hV⟩⟩
  case s30 =>
    refine flow_run fun listed a W h hd => ⟨(by obtain ⟨u, hu, hy, hU⟩ := h.dep hd 18 35 (by kernel_rfl) (by kernel_rfl); obtain rfl : u = .bool false := hU; exact hy), ?_⟩
    obtain ⟨v0, hv0, -, hV0⟩ := h.dep hd 29 46 (by kernel_rfl) (by kernel_rfl)
    exact ⟨_, W, run_not rfl (hv0.trans hV0), h.s, Below.refl _ _, rfl⟩
  case s31 =>
    refine flow_run fun listed a W h hd => ⟨trivial, ?_⟩
    obtain ⟨v0, hv0, -, hV0⟩ := h.dep hd 18 35 (by kernel_rfl) (by kernel_rfl)
    obtain ⟨v1, hv1, -, hV1⟩ := h.dep hd 30 47 (by kernel_rfl) (by kernel_rfl)
    exact ⟨_, W, run_pick_f rfl (hv0.trans hV0), h.s, Below.refl _ _, by rw [hv1]; exact hV1⟩
  case s32 =>
    refine flow_run fun listed a W h hd => ⟨trivial, ?_⟩
    obtain ⟨v0, hv0, -, hV0⟩ := h.dep hd 31 48 (by kernel_rfl) (by kernel_rfl)
    exact ⟨_, W, run_move rfl, h.s, Below.refl _ _, by rw [hv0]; exact hV0⟩
  case s33 =>
    refine flow_wp fun listed a W h hd => ⟨(by obtain ⟨u, hu, hy, hU⟩ := h.dep hd 32 49 (by kernel_rfl) (by kernel_rfl); obtain rfl : u = .bool false := hU; exact hy), fun K hK => ?_⟩
    exact wp_load_box rfl (h.out 7 (by kernel_rfl)) (hX1.later h.s) fun v hv => hK v W h.s (Below.refl _ _) hv
  case s34 =>
    refine flow_wp fun listed a W h hd => ⟨(by obtain ⟨u, hu, hy, hU⟩ := h.dep hd 32 49 (by kernel_rfl) (by kernel_rfl); obtain rfl : u = .bool false := hU; exact hy), fun K hK => ?_⟩
    exact wp_load_box rfl (h.out 8 (by kernel_rfl)) (hY1.later h.s) fun v hv => hK v W h.s (Below.refl _ _) hv
  case s35 =>
    refine flow_call (fun _ _ => rfl) fun listed a W h hd => ⟨(by obtain ⟨u, hu, hy, hU⟩ := h.dep hd 32 49 (by kernel_rfl) (by kernel_rfl); obtain rfl : u = .bool false := hU; exact hy), ?_⟩
    obtain ⟨v0, hv0, -, hV0⟩ := h.dep hd 33 50 (by kernel_rfl) (by kernel_rfl)
    obtain ⟨v1, hv1, -, hV1⟩ := h.dep hd 34 51 (by kernel_rfl) (by kernel_rfl)
    refine ⟨#[v0, v1], by simp [hv0, hv1], (cMul (show Vz 6 (x) v0 W from hV0) (show Vz 6 (y) v1 W from hV1) (by omega) (by omega)).mono fun e w' ⟨v, he, hV, hb⟩ => ⟨v, he, below_tr h.s hb, hb, hV⟩⟩
  case s36 =>
    refine flow_wp fun listed a W h hd => ⟨(by obtain ⟨u, hu, hy, hU⟩ := h.dep hd 32 49 (by kernel_rfl) (by kernel_rfl); obtain rfl : u = .bool false := hU; exact hy), fun K hK => ?_⟩
    exact wp_load_box rfl (h.out 9 (by kernel_rfl)) (hZ1.later h.s) fun v hv => hK v W h.s (Below.refl _ _) hv
  case s37 =>
    refine flow_call (fun _ _ => rfl) fun listed a W h hd => ⟨(by obtain ⟨u, hu, hy, hU⟩ := h.dep hd 32 49 (by kernel_rfl) (by kernel_rfl); obtain rfl : u = .bool false := hU; exact hy), ?_⟩
    obtain ⟨v0, hv0, -, hV0⟩ := h.dep hd 35 52 (by kernel_rfl) (by kernel_rfl)
    obtain ⟨v1, hv1, -, hV1⟩ := h.dep hd 36 53 (by kernel_rfl) (by kernel_rfl)
    refine ⟨#[v0, v1], by simp [hv0, hv1], (cMul (show Vz 12 ((x) * (y)) v0 W from hV0) (show Vz 6 (z) v1 W from hV1) (by omega) (by omega)).mono fun e w' ⟨v, he, hV, hb⟩ => ⟨v, he, below_tr h.s hb, hb, hV⟩⟩
  case s38 =>
    refine flow_wp fun listed a W h hd => ⟨(by obtain ⟨u, hu, hy, hU⟩ := h.dep hd 32 49 (by kernel_rfl) (by kernel_rfl); obtain rfl : u = .bool false := hU; exact hy), fun K hK => ?_⟩
    exact wp_load_box rfl (h.out 7 (by kernel_rfl)) (hX1.later h.s) fun v hv => hK v W h.s (Below.refl _ _) hv
  case s39 =>
    refine flow_wp fun listed a W h hd => ⟨(by obtain ⟨u, hu, hy, hU⟩ := h.dep hd 32 49 (by kernel_rfl) (by kernel_rfl); obtain rfl : u = .bool false := hU; exact hy), fun K hK => ?_⟩
    exact wp_load_box rfl (h.out 8 (by kernel_rfl)) (hY1.later h.s) fun v hv => hK v W h.s (Below.refl _ _) hv
  case s40 =>
    refine flow_wp fun listed a W h hd => ⟨(by obtain ⟨u, hu, hy, hU⟩ := h.dep hd 32 49 (by kernel_rfl) (by kernel_rfl); obtain rfl : u = .bool false := hU; exact hy), fun K hK => ?_⟩
    exact wp_load_box rfl (h.out 9 (by kernel_rfl)) (hZ1.later h.s) fun v hv => hK v W h.s (Below.refl _ _) hv
  case s41 =>
    refine flow_call (fun _ _ => rfl) fun listed a W h hd => ⟨(by obtain ⟨u, hu, hy, hU⟩ := h.dep hd 32 49 (by kernel_rfl) (by kernel_rfl); obtain rfl : u = .bool false := hU; exact hy), ?_⟩
    obtain ⟨v0, hv0, -, hV0⟩ := h.dep hd 39 56 (by kernel_rfl) (by kernel_rfl)
    obtain ⟨v1, hv1, -, hV1⟩ := h.dep hd 40 57 (by kernel_rfl) (by kernel_rfl)
    refine ⟨#[v0, v1], by simp [hv0, hv1], (cMul (show Vz 6 (y) v0 W from hV0) (show Vz 6 (z) v1 W from hV1) (by omega) (by omega)).mono fun e w' ⟨v, he, hV, hb⟩ => ⟨v, he, below_tr h.s hb, hb, hV⟩⟩
  case s42 =>
    refine flow_call (fun _ _ => rfl) fun listed a W h hd => ⟨(by obtain ⟨u, hu, hy, hU⟩ := h.dep hd 32 49 (by kernel_rfl) (by kernel_rfl); obtain rfl : u = .bool false := hU; exact hy), ?_⟩
    obtain ⟨v0, hv0, -, hV0⟩ := h.dep hd 38 55 (by kernel_rfl) (by kernel_rfl)
    obtain ⟨v1, hv1, -, hV1⟩ := h.dep hd 41 58 (by kernel_rfl) (by kernel_rfl)
    refine ⟨#[v0, v1], by simp [hv0, hv1], (cMul (show Vz 6 (x) v0 W from hV0) (show Vz 12 ((y) * (z)) v1 W from hV1) (by omega) (by omega)).mono fun e w' ⟨v, he, hV, hb⟩ => ⟨v, he, below_tr h.s hb, hb, hV⟩⟩
  case s43 =>
    refine flow_call (fun _ _ => rfl) fun listed a W h hd => ⟨(by obtain ⟨u, hu, hy, hU⟩ := h.dep hd 32 49 (by kernel_rfl) (by kernel_rfl); obtain rfl : u = .bool false := hU; exact hy), ?_⟩
    obtain ⟨v0, hv0, -, hV0⟩ := h.dep hd 37 54 (by kernel_rfl) (by kernel_rfl)
    obtain ⟨v1, hv1, -, hV1⟩ := h.dep hd 42 59 (by kernel_rfl) (by kernel_rfl)
    refine ⟨#[v0, v1], by simp [hv0, hv1], (cSame (show Vz 18 (((x) * (y)) * (z)) v0 W from hV0) (show Vz 18 ((x) * ((y) * (z))) v1 W from hV1) (by omega) (by omega) (by grind)).mono fun e w' ⟨v, he, hV, hb⟩ => ⟨v, he, below_tr h.s hb, hb, hV⟩⟩
  case s44 =>
    refine flow_run fun listed a W h hd => ⟨(by obtain ⟨u, hu, hy, hU⟩ := h.dep hd 32 49 (by kernel_rfl) (by kernel_rfl); obtain rfl : u = .bool false := hU; exact hy), ?_⟩
    obtain ⟨v0, hv0, -, hV0⟩ := h.dep hd 43 60 (by kernel_rfl) (by kernel_rfl)
    exact ⟨_, W, run_not rfl (hv0.trans hV0), h.s, Below.refl _ _, rfl⟩
  case s45 =>
    refine flow_run fun listed a W h hd => ⟨trivial, ?_⟩
    obtain ⟨v0, hv0, -, hV0⟩ := h.dep hd 32 49 (by kernel_rfl) (by kernel_rfl)
    obtain ⟨v1, hv1, -, hV1⟩ := h.dep hd 44 61 (by kernel_rfl) (by kernel_rfl)
    exact ⟨_, W, run_pick_f rfl (hv0.trans hV0), h.s, Below.refl _ _, by rw [hv1]; exact hV1⟩
  case hdone =>
    intro f W hS hf
    have hlast : f 62 = _ := hf 45 62 (by kernel_rfl)
    simp only [slots, Act.put, List.setIfInBounds_toArray, List.set_cons_zero, List.set_cons_succ]
    rw [hlast]
    have hS4 := hS
    clear hf hS
    go_upto_region 6 with fail
    refine region_flows (V := fun i => ([Vz 6 (x), Vz 6 (y), Vz 6 (z), Vz 7 ((y) + (z)), Vz 13 ((x) * ((y) + (z))), Vz 6 (x), Vz 6 (y), Vz 12 ((x) * (y)), Vz 6 (x), Vz 6 (z), Vz 12 ((x) * (z)), Vz 13 (((x) * (y)) + ((x) * (z))), Vb true, Vb false, Vb false, Vz 6 (x), Vz 6 (y), Vz 7 ((x) + (y)), Vz 6 (y), Vz 8 (((x) + (y)) - (y)), Vz 6 (x), Vb true, Vb false, Vb false] : List VP).getD i VT) (S := fun W => Below W1.heap.size W1 W) (R := fun a b => Below a.heap.size a b) (by kernel_rfl) (by kernel_rfl) (by kernel_rfl) (by rfl) (mono_of ⟨Vz_mono _ _, Vz_mono _ _, Vz_mono _ _, Vz_mono _ _, Vz_mono _ _, Vz_mono _ _, Vz_mono _ _, Vz_mono _ _, Vz_mono _ _, Vz_mono _ _, Vz_mono _ _, Vz_mono _ _, Vb_mono _, Vb_mono _, Vb_mono _, Vz_mono _ _, Vz_mono _ _, Vz_mono _ _, Vz_mono _ _, Vz_mono _ _, Vz_mono _ _, Vb_mono _, Vb_mono _, Vb_mono _, trivial⟩) (below_tr hS4 ((Below.refl _ _).drew)) ⟨?s0, ?s1, ?s2, ?s3, ?s4, ?s5, ?s6, ?s7, ?s8, ?s9, ?s10, ?s11, ?s12, ?s13, ?s14, ?s15, ?s16, ?s17, ?s18, ?s19, ?s20, ?s21, ?s22, ?s23, trivial⟩ [63, 64, 65, 66, 67, 68, 69, 70, 71, 72, 73, 74, 75, 76, 77, 78, 79, 80, 81, 82, 83, 84, 85, 86] rfl ?hdone
    case s0 =>
      refine flow_wp fun listed a W h hd => ⟨trivial, fun K hK => ?_⟩
      exact wp_load_box rfl (h.out 7 (by kernel_rfl)) (hX1.later h.s) fun v hv => hK v W h.s (Below.refl _ _) hv
    case s1 =>
      refine flow_wp fun listed a W h hd => ⟨trivial, fun K hK => ?_⟩
      exact wp_load_box rfl (h.out 8 (by kernel_rfl)) (hY1.later h.s) fun v hv => hK v W h.s (Below.refl _ _) hv
    case s2 =>
      refine flow_wp fun listed a W h hd => ⟨trivial, fun K hK => ?_⟩
      exact wp_load_box rfl (h.out 9 (by kernel_rfl)) (hZ1.later h.s) fun v hv => hK v W h.s (Below.refl _ _) hv
    case s3 =>
      refine flow_call (fun _ _ => rfl) fun listed a W h hd => ⟨trivial, ?_⟩
      obtain ⟨v0, hv0, -, hV0⟩ := h.dep hd 1 64 (by kernel_rfl) (by kernel_rfl)
      obtain ⟨v1, hv1, -, hV1⟩ := h.dep hd 2 65 (by kernel_rfl) (by kernel_rfl)
      refine ⟨#[v0, v1], by simp [hv0, hv1], (cAdd (show Vz 6 (y) v0 W from hV0) (show Vz 6 (z) v1 W from hV1) (by omega) (by omega)).mono fun e w' ⟨v, he, hV, hb⟩ => ⟨v, he, below_tr h.s hb, hb, hV⟩⟩
    case s4 =>
      refine flow_call (fun _ _ => rfl) fun listed a W h hd => ⟨trivial, ?_⟩
      obtain ⟨v0, hv0, -, hV0⟩ := h.dep hd 0 63 (by kernel_rfl) (by kernel_rfl)
      obtain ⟨v1, hv1, -, hV1⟩ := h.dep hd 3 66 (by kernel_rfl) (by kernel_rfl)
      refine ⟨#[v0, v1], by simp [hv0, hv1], (cMul (show Vz 6 (x) v0 W from hV0) (show Vz 7 ((y) + (z)) v1 W from hV1) (by omega) (by omega)).mono fun e w' ⟨v, he, hV, hb⟩ => ⟨v, he, below_tr h.s hb, hb, hV⟩⟩
    case s5 =>
      refine flow_wp fun listed a W h hd => ⟨trivial, fun K hK => ?_⟩
      exact wp_load_box rfl (h.out 7 (by kernel_rfl)) (hX1.later h.s) fun v hv => hK v W h.s (Below.refl _ _) hv
    case s6 =>
      refine flow_wp fun listed a W h hd => ⟨trivial, fun K hK => ?_⟩
      exact wp_load_box rfl (h.out 8 (by kernel_rfl)) (hY1.later h.s) fun v hv => hK v W h.s (Below.refl _ _) hv
    case s7 =>
      refine flow_call (fun _ _ => rfl) fun listed a W h hd => ⟨trivial, ?_⟩
      obtain ⟨v0, hv0, -, hV0⟩ := h.dep hd 5 68 (by kernel_rfl) (by kernel_rfl)
      obtain ⟨v1, hv1, -, hV1⟩ := h.dep hd 6 69 (by kernel_rfl) (by kernel_rfl)
      refine ⟨#[v0, v1], by simp [hv0, hv1], (cMul (show Vz 6 (x) v0 W from hV0) (show Vz 6 (y) v1 W from hV1) (by omega) (by omega)).mono fun e w' ⟨v, he, hV, hb⟩ => ⟨v, he, below_tr h.s hb, hb, hV⟩⟩
    case s8 =>
      refine flow_wp fun listed a W h hd => ⟨trivial, fun K hK => ?_⟩
      exact wp_load_box rfl (h.out 7 (by kernel_rfl)) (hX1.later h.s) fun v hv => hK v W h.s (Below.refl _ _) hv
    case s9 =>
      refine flow_wp fun listed a W h hd => ⟨trivial, fun K hK => ?_⟩
      exact wp_load_box rfl (h.out 9 (by kernel_rfl)) (hZ1.later h.s) fun v hv => hK v W h.s (Below.refl _ _) hv
    case s10 =>
      refine flow_call (fun _ _ => rfl) fun listed a W h hd => ⟨trivial, ?_⟩
      obtain ⟨v0, hv0, -, hV0⟩ := h.dep hd 8 71 (by kernel_rfl) (by kernel_rfl)
      obtain ⟨v1, hv1, -, hV1⟩ := h.dep hd 9 72 (by kernel_rfl) (by kernel_rfl)
      refine ⟨#[v0, v1], by simp [hv0, hv1], (cMul (show Vz 6 (x) v0 W from hV0) (show Vz 6 (z) v1 W from hV1) (by omega) (by omega)).mono fun e w' ⟨v, he, hV, hb⟩ => ⟨v, he, below_tr h.s hb, hb, hV⟩⟩
    case s11 =>
      refine flow_call (fun _ _ => rfl) fun listed a W h hd => ⟨trivial, ?_⟩
      obtain ⟨v0, hv0, -, hV0⟩ := h.dep hd 7 70 (by kernel_rfl) (by kernel_rfl)
      obtain ⟨v1, hv1, -, hV1⟩ := h.dep hd 10 73 (by kernel_rfl) (by kernel_rfl)
      refine ⟨#[v0, v1], by simp [hv0, hv1], (cAdd (show Vz 12 ((x) * (y)) v0 W from hV0) (show Vz 12 ((x) * (z)) v1 W from hV1) (by omega) (by omega)).mono fun e w' ⟨v, he, hV, hb⟩ => ⟨v, he, below_tr h.s hb, hb, hV⟩⟩
    case s12 =>
      refine flow_call (fun _ _ => rfl) fun listed a W h hd => ⟨trivial, ?_⟩
      obtain ⟨v0, hv0, -, hV0⟩ := h.dep hd 4 67 (by kernel_rfl) (by kernel_rfl)
      obtain ⟨v1, hv1, -, hV1⟩ := h.dep hd 11 74 (by kernel_rfl) (by kernel_rfl)
      refine ⟨#[v0, v1], by simp [hv0, hv1], (cSame (show Vz 13 ((x) * ((y) + (z))) v0 W from hV0) (show Vz 13 (((x) * (y)) + ((x) * (z))) v1 W from hV1) (by omega) (by omega) (by grind)).mono fun e w' ⟨v, he, hV, hb⟩ => ⟨v, he, below_tr h.s hb, hb, hV⟩⟩
    case s13 =>
      refine flow_run fun listed a W h hd => ⟨trivial, ?_⟩
      obtain ⟨v0, hv0, -, hV0⟩ := h.dep hd 12 75 (by kernel_rfl) (by kernel_rfl)
      exact ⟨_, W, run_not rfl (hv0.trans hV0), h.s, Below.refl _ _, rfl⟩
    case s14 =>
      refine flow_run fun listed a W h hd => ⟨trivial, ?_⟩
      obtain ⟨v0, hv0, -, hV0⟩ := h.dep hd 13 76 (by kernel_rfl) (by kernel_rfl)
      exact ⟨_, W, run_move rfl, h.s, Below.refl _ _, by rw [hv0]; exact hV0⟩
    case s15 =>
      refine flow_wp fun listed a W h hd => ⟨(by obtain ⟨u, hu, hy, hU⟩ := h.dep hd 14 77 (by kernel_rfl) (by kernel_rfl); obtain rfl : u = .bool false := hU; exact hy), fun K hK => ?_⟩
      exact wp_load_box rfl (h.out 7 (by kernel_rfl)) (hX1.later h.s) fun v hv => hK v W h.s (Below.refl _ _) hv
    case s16 =>
      refine flow_wp fun listed a W h hd => ⟨(by obtain ⟨u, hu, hy, hU⟩ := h.dep hd 14 77 (by kernel_rfl) (by kernel_rfl); obtain rfl : u = .bool false := hU; exact hy), fun K hK => ?_⟩
      exact wp_load_box rfl (h.out 8 (by kernel_rfl)) (hY1.later h.s) fun v hv => hK v W h.s (Below.refl _ _) hv
    case s17 =>
      refine flow_call (fun _ _ => rfl) fun listed a W h hd => ⟨(by obtain ⟨u, hu, hy, hU⟩ := h.dep hd 14 77 (by kernel_rfl) (by kernel_rfl); obtain rfl : u = .bool false := hU; exact hy), ?_⟩
      obtain ⟨v0, hv0, -, hV0⟩ := h.dep hd 15 78 (by kernel_rfl) (by kernel_rfl)
      obtain ⟨v1, hv1, -, hV1⟩ := h.dep hd 16 79 (by kernel_rfl) (by kernel_rfl)
      refine ⟨#[v0, v1], by simp [hv0, hv1], (cAdd (show Vz 6 (x) v0 W from hV0) (show Vz 6 (y) v1 W from hV1) (by omega) (by omega)).mono fun e w' ⟨v, he, hV, hb⟩ => ⟨v, he, below_tr h.s hb, hb, hV⟩⟩
    case s18 =>
      refine flow_wp fun listed a W h hd => ⟨(by obtain ⟨u, hu, hy, hU⟩ := h.dep hd 14 77 (by kernel_rfl) (by kernel_rfl); obtain rfl : u = .bool false := hU; exact hy), fun K hK => ?_⟩
      exact wp_load_box rfl (h.out 8 (by kernel_rfl)) (hY1.later h.s) fun v hv => hK v W h.s (Below.refl _ _) hv
    case s19 =>
      refine flow_call (fun _ _ => rfl) fun listed a W h hd => ⟨(by obtain ⟨u, hu, hy, hU⟩ := h.dep hd 14 77 (by kernel_rfl) (by kernel_rfl); obtain rfl : u = .bool false := hU; exact hy), ?_⟩
      obtain ⟨v0, hv0, -, hV0⟩ := h.dep hd 17 80 (by kernel_rfl) (by kernel_rfl)
      obtain ⟨v1, hv1, -, hV1⟩ := h.dep hd 18 81 (by kernel_rfl) (by kernel_rfl)
      refine ⟨#[v0, v1], by simp [hv0, hv1], (cSub (show Vz 7 ((x) + (y)) v0 W from hV0) (show Vz 6 (y) v1 W from hV1) (by omega) (by omega)).mono fun e w' ⟨v, he, hV, hb⟩ => ⟨v, he, below_tr h.s hb, hb, hV⟩⟩
    case s20 =>
      refine flow_wp fun listed a W h hd => ⟨(by obtain ⟨u, hu, hy, hU⟩ := h.dep hd 14 77 (by kernel_rfl) (by kernel_rfl); obtain rfl : u = .bool false := hU; exact hy), fun K hK => ?_⟩
      exact wp_load_box rfl (h.out 7 (by kernel_rfl)) (hX1.later h.s) fun v hv => hK v W h.s (Below.refl _ _) hv
    case s21 =>
      refine flow_call (fun _ _ => rfl) fun listed a W h hd => ⟨(by obtain ⟨u, hu, hy, hU⟩ := h.dep hd 14 77 (by kernel_rfl) (by kernel_rfl); obtain rfl : u = .bool false := hU; exact hy), ?_⟩
      obtain ⟨v0, hv0, -, hV0⟩ := h.dep hd 19 82 (by kernel_rfl) (by kernel_rfl)
      obtain ⟨v1, hv1, -, hV1⟩ := h.dep hd 20 83 (by kernel_rfl) (by kernel_rfl)
      refine ⟨#[v0, v1], by simp [hv0, hv1], (cSame (show Vz 8 (((x) + (y)) - (y)) v0 W from hV0) (show Vz 6 (x) v1 W from hV1) (by omega) (by omega) (by grind)).mono fun e w' ⟨v, he, hV, hb⟩ => ⟨v, he, below_tr h.s hb, hb, hV⟩⟩
    case s22 =>
      refine flow_run fun listed a W h hd => ⟨(by obtain ⟨u, hu, hy, hU⟩ := h.dep hd 14 77 (by kernel_rfl) (by kernel_rfl); obtain rfl : u = .bool false := hU; exact hy), ?_⟩
      obtain ⟨v0, hv0, -, hV0⟩ := h.dep hd 21 84 (by kernel_rfl) (by kernel_rfl)
      exact ⟨_, W, run_not rfl (hv0.trans hV0), h.s, Below.refl _ _, rfl⟩
    case s23 =>
      refine flow_run fun listed a W h hd => ⟨trivial, ?_⟩
      obtain ⟨v0, hv0, -, hV0⟩ := h.dep hd 14 77 (by kernel_rfl) (by kernel_rfl)
      obtain ⟨v1, hv1, -, hV1⟩ := h.dep hd 22 85 (by kernel_rfl) (by kernel_rfl)
      exact ⟨_, W, run_pick_f rfl (hv0.trans hV0), h.s, Below.refl _ _, by rw [hv1]; exact hV1⟩
    case hdone =>
      intro f W hS hf
      have hlast : f 86 = _ := hf 23 86 (by kernel_rfl)
      simp only [slots, Act.put, List.setIfInBounds_toArray, List.set_cons_zero, List.set_cons_succ]
      rw [hlast]
      have hS6 := hS
      clear hf hS
      obtain ⟨nbx, px, nx, cx, cx0, cx1, hIx, hnx⟩ := (hX1.later hS6).facts
      obtain ⟨nby, py, ny, cy, cy0, cy1, hIy, hny⟩ := (hY1.later hS6).facts
      have hcmp : Hid (Calls Tryd.prog 30 #[.agg #[.bool nbx, .slice px nx cx], .agg #[.bool nby, .slice py ny cy]] W (RV (Vi (cmpI x y)) W)) := Lib.hid (cCompare (Na := 6) (Nb := 6) ⟨_, _, _, _, rfl, hIx, hnx⟩ ⟨_, _, _, _, rfl, hIy, hny⟩ (by omega) (by omega))
      clear hIx hnx hIy hny
      go_upto_region 9 with (go_at_call 30; (refine hcmp.out.mono ?_); rintro e w9 ⟨_, rfl, rfl, hb9⟩; have hS9 := Lib.hid (below_tr hS6 hb9))
      replace hS9 := hS9.out
      refine region_flows (V := fun i => ([Vi (cmpI x y), Vz 6 (x), Vz 6 (y), Vz 7 ((x) - (y)), Vi (cmpI ((x) - (y)) 0), Vb true, Vb true, Vi (cmpI x y), Vz 6 (x), Vz 6 (z), Vz 7 ((x) + (z)), Vz 6 (y), Vz 6 (z), Vz 7 ((y) + (z)), Vi (cmpI ((x) + (z)) ((y) + (z))), Vb true, Vb true, Vb true, Vb true, Vb true, Vb true] : List VP).getD i VT) (S := fun W => Below W1.heap.size W1 W) (R := fun a b => Below a.heap.size a b) (by kernel_rfl) (by kernel_rfl) (by kernel_rfl) (by rfl) (mono_of ⟨Vi_mono _, Vz_mono _ _, Vz_mono _ _, Vz_mono _ _, Vi_mono _, Vb_mono _, Vb_mono _, Vi_mono _, Vz_mono _ _, Vz_mono _ _, Vz_mono _ _, Vz_mono _ _, Vz_mono _ _, Vz_mono _ _, Vi_mono _, Vb_mono _, Vb_mono _, Vb_mono _, Vb_mono _, Vb_mono _, Vb_mono _, trivial⟩) (below_tr hS9 ((Below.refl _ _).drew)) ⟨?s0, ?s1, ?s2, ?s3, ?s4, ?s5, ?s6, ?s7, ?s8, ?s9, ?s10, ?s11, ?s12, ?s13, ?s14, ?s15, ?s16, ?s17, ?s18, ?s19, ?s20, trivial⟩ [90, 91, 92, 93, 94, 95, 96, 97, 98, 99, 100, 101, 102, 103, 104, 105, 106, 107, 108, 109, 6] rfl ?hdone
      case s0 =>
        refine flow_run fun listed a W h hd => ⟨trivial, ?_⟩
        exact ⟨_, W, run_move rfl, h.s, Below.refl _ _, h.out 10 (by kernel_rfl)⟩
      case s1 =>
        refine flow_wp fun listed a W h hd => ⟨trivial, fun K hK => ?_⟩
        exact wp_load_box rfl (h.out 7 (by kernel_rfl)) (hX1.later h.s) fun v hv => hK v W h.s (Below.refl _ _) hv
      case s2 =>
        refine flow_wp fun listed a W h hd => ⟨trivial, fun K hK => ?_⟩
        exact wp_load_box rfl (h.out 8 (by kernel_rfl)) (hY1.later h.s) fun v hv => hK v W h.s (Below.refl _ _) hv
      case s3 =>
        refine flow_call (fun _ _ => rfl) fun listed a W h hd => ⟨trivial, ?_⟩
        obtain ⟨v0, hv0, -, hV0⟩ := h.dep hd 1 91 (by kernel_rfl) (by kernel_rfl)
        obtain ⟨v1, hv1, -, hV1⟩ := h.dep hd 2 92 (by kernel_rfl) (by kernel_rfl)
        refine ⟨#[v0, v1], by simp [hv0, hv1], (cSub (show Vz 6 (x) v0 W from hV0) (show Vz 6 (y) v1 W from hV1) (by omega) (by omega)).mono fun e w' ⟨v, he, hV, hb⟩ => ⟨v, he, below_tr h.s hb, hb, hV⟩⟩
      case s4 =>
        refine flow_call (fun _ _ => rfl) fun listed a W h hd => ⟨trivial, ?_⟩
        obtain ⟨v0, hv0, -, hV0⟩ := h.dep hd 3 93 (by kernel_rfl) (by kernel_rfl)
        refine ⟨#[v0], by simp [hv0], (cSign (show Vz 7 ((x) - (y)) v0 W from hV0) (by omega)).mono fun e w' ⟨v, he, hV, hb⟩ => ⟨v, he, below_tr h.s hb, hb, hV⟩⟩
      case s5 =>
        refine flow_run fun listed a W h hd => ⟨trivial, ?_⟩
        obtain ⟨v0, hv0, -, hV0⟩ := h.dep hd 0 90 (by kernel_rfl) (by kernel_rfl)
        obtain ⟨v1, hv1, -, hV1⟩ := h.dep hd 4 94 (by kernel_rfl) (by kernel_rfl)
        have hV0' : v0 = .int .i64 (cmpI x y) := hV0
        have hV1' : v1 = .int .i64 (cmpI ((x) - (y)) 0) := hV1
        exact ⟨_, _, run_eqi rfl (hv0.trans hV0') (hv1.trans hV1'), h.s, Below.refl _ _, congrArg Value.bool (cmp_sub_eq x y)⟩
      case s6 =>
        refine flow_run fun listed a W h hd => ⟨trivial, ?_⟩
        obtain ⟨v0, hv0, -, hV0⟩ := h.dep hd 5 95 (by kernel_rfl) (by kernel_rfl)
        exact ⟨_, W, run_move rfl, h.s, Below.refl _ _, by rw [hv0]; exact hV0⟩
      case s7 =>
        refine flow_run fun listed a W h hd => ⟨(by obtain ⟨u, hu, hy, hU⟩ := h.dep hd 6 96 (by kernel_rfl) (by kernel_rfl); obtain rfl : u = .bool true := hU; exact hy), ?_⟩
        exact ⟨_, W, run_move rfl, h.s, Below.refl _ _, h.out 10 (by kernel_rfl)⟩
      case s8 =>
        refine flow_wp fun listed a W h hd => ⟨(by obtain ⟨u, hu, hy, hU⟩ := h.dep hd 6 96 (by kernel_rfl) (by kernel_rfl); obtain rfl : u = .bool true := hU; exact hy), fun K hK => ?_⟩
        exact wp_load_box rfl (h.out 7 (by kernel_rfl)) (hX1.later h.s) fun v hv => hK v W h.s (Below.refl _ _) hv
      case s9 =>
        refine flow_wp fun listed a W h hd => ⟨(by obtain ⟨u, hu, hy, hU⟩ := h.dep hd 6 96 (by kernel_rfl) (by kernel_rfl); obtain rfl : u = .bool true := hU; exact hy), fun K hK => ?_⟩
        exact wp_load_box rfl (h.out 9 (by kernel_rfl)) (hZ1.later h.s) fun v hv => hK v W h.s (Below.refl _ _) hv
      case s10 =>
        refine flow_call (fun _ _ => rfl) fun listed a W h hd => ⟨(by obtain ⟨u, hu, hy, hU⟩ := h.dep hd 6 96 (by kernel_rfl) (by kernel_rfl); obtain rfl : u = .bool true := hU; exact hy), ?_⟩
        obtain ⟨v0, hv0, -, hV0⟩ := h.dep hd 8 98 (by kernel_rfl) (by kernel_rfl)
        obtain ⟨v1, hv1, -, hV1⟩ := h.dep hd 9 99 (by kernel_rfl) (by kernel_rfl)
        refine ⟨#[v0, v1], by simp [hv0, hv1], (cAdd (show Vz 6 (x) v0 W from hV0) (show Vz 6 (z) v1 W from hV1) (by omega) (by omega)).mono fun e w' ⟨v, he, hV, hb⟩ => ⟨v, he, below_tr h.s hb, hb, hV⟩⟩
      case s11 =>
        refine flow_wp fun listed a W h hd => ⟨(by obtain ⟨u, hu, hy, hU⟩ := h.dep hd 6 96 (by kernel_rfl) (by kernel_rfl); obtain rfl : u = .bool true := hU; exact hy), fun K hK => ?_⟩
        exact wp_load_box rfl (h.out 8 (by kernel_rfl)) (hY1.later h.s) fun v hv => hK v W h.s (Below.refl _ _) hv
      case s12 =>
        refine flow_wp fun listed a W h hd => ⟨(by obtain ⟨u, hu, hy, hU⟩ := h.dep hd 6 96 (by kernel_rfl) (by kernel_rfl); obtain rfl : u = .bool true := hU; exact hy), fun K hK => ?_⟩
        exact wp_load_box rfl (h.out 9 (by kernel_rfl)) (hZ1.later h.s) fun v hv => hK v W h.s (Below.refl _ _) hv
      case s13 =>
        refine flow_call (fun _ _ => rfl) fun listed a W h hd => ⟨(by obtain ⟨u, hu, hy, hU⟩ := h.dep hd 6 96 (by kernel_rfl) (by kernel_rfl); obtain rfl : u = .bool true := hU; exact hy), ?_⟩
        obtain ⟨v0, hv0, -, hV0⟩ := h.dep hd 11 101 (by kernel_rfl) (by kernel_rfl)
        obtain ⟨v1, hv1, -, hV1⟩ := h.dep hd 12 102 (by kernel_rfl) (by kernel_rfl)
        refine ⟨#[v0, v1], by simp [hv0, hv1], (cAdd (show Vz 6 (y) v0 W from hV0) (show Vz 6 (z) v1 W from hV1) (by omega) (by omega)).mono fun e w' ⟨v, he, hV, hb⟩ => ⟨v, he, below_tr h.s hb, hb, hV⟩⟩
      case s14 =>
        refine flow_call (fun _ _ => rfl) fun listed a W h hd => ⟨(by obtain ⟨u, hu, hy, hU⟩ := h.dep hd 6 96 (by kernel_rfl) (by kernel_rfl); obtain rfl : u = .bool true := hU; exact hy), ?_⟩
        obtain ⟨v0, hv0, -, hV0⟩ := h.dep hd 10 100 (by kernel_rfl) (by kernel_rfl)
        obtain ⟨v1, hv1, -, hV1⟩ := h.dep hd 13 103 (by kernel_rfl) (by kernel_rfl)
        refine ⟨#[v0, v1], by simp [hv0, hv1], (cCompare (show Vz 7 ((x) + (z)) v0 W from hV0) (show Vz 7 ((y) + (z)) v1 W from hV1) (by omega) (by omega)).mono fun e w' ⟨v, he, hV, hb⟩ => ⟨v, he, below_tr h.s hb, hb, hV⟩⟩
      case s15 =>
        refine flow_run fun listed a W h hd => ⟨(by obtain ⟨u, hu, hy, hU⟩ := h.dep hd 6 96 (by kernel_rfl) (by kernel_rfl); obtain rfl : u = .bool true := hU; exact hy), ?_⟩
        obtain ⟨v0, hv0, -, hV0⟩ := h.dep hd 7 97 (by kernel_rfl) (by kernel_rfl)
        obtain ⟨v1, hv1, -, hV1⟩ := h.dep hd 14 104 (by kernel_rfl) (by kernel_rfl)
        have hV0' : v0 = .int .i64 (cmpI x y) := hV0
        have hV1' : v1 = .int .i64 (cmpI ((x) + (z)) ((y) + (z))) := hV1
        exact ⟨_, _, run_eqi rfl (hv0.trans hV0') (hv1.trans hV1'), h.s, Below.refl _ _, congrArg Value.bool (cmp_add_eq x y z)⟩
      case s16 =>
        refine flow_run fun listed a W h hd => ⟨trivial, ?_⟩
        obtain ⟨v0, hv0, -, hV0⟩ := h.dep hd 6 96 (by kernel_rfl) (by kernel_rfl)
        obtain ⟨v1, hv1, -, hV1⟩ := h.dep hd 15 105 (by kernel_rfl) (by kernel_rfl)
        exact ⟨_, W, run_pick_t rfl (hv0.trans hV0), h.s, Below.refl _ _, by rw [hv1]; exact hV1⟩
      case s17 =>
        refine flow_run fun listed a W h hd => ⟨trivial, ?_⟩
        obtain ⟨v0, hv0, -, hV0⟩ := h.dep hd 16 106 (by kernel_rfl) (by kernel_rfl)
        exact ⟨_, W, run_move rfl, h.s, Below.refl _ _, by rw [hv0]; exact hV0⟩
      case s18 =>
        refine flow_call (fun _ _ => rfl) fun listed a W h hd => ⟨(by obtain ⟨u, hu, hy, hU⟩ := h.dep hd 17 107 (by kernel_rfl) (by kernel_rfl); obtain rfl : u = .bool true := hU; exact hy), ?_⟩
        refine ⟨#[], by simp, (lives_any W (hT1.out.later h.s)).mono fun e w' ⟨v, he, hV, hb⟩ => ⟨v, he, below_tr h.s hb, hb, hV⟩⟩
      case s19 =>
        refine flow_run fun listed a W h hd => ⟨trivial, ?_⟩
        obtain ⟨v0, hv0, -, hV0⟩ := h.dep hd 17 107 (by kernel_rfl) (by kernel_rfl)
        obtain ⟨v1, hv1, -, hV1⟩ := h.dep hd 18 108 (by kernel_rfl) (by kernel_rfl)
        exact ⟨_, W, run_pick_t rfl (hv0.trans hV0), h.s, Below.refl _ _, by rw [hv1]; exact hV1⟩
      case s20 =>
        refine flow_run fun listed a W h hd => ⟨trivial, ?_⟩
        obtain ⟨v0, hv0, -, hV0⟩ := h.dep hd 19 109 (by kernel_rfl) (by kernel_rfl)
        exact ⟨_, W, run_assign rfl, h.s, Below.refl _ _, by rw [hv0]; exact hV0⟩
      case hdone =>
        intro f W hS hf
        have hlast : f 6 = _ := hf 20 6 (by kernel_rfl)
        simp only [slots, Act.put, List.setIfInBounds_toArray, List.set_cons_zero, List.set_cons_succ]
        rw [hlast]
        have hS10 := Lib.hid (below_tr tb2.out hS)
        clear hf hS
        go_wp2_with fail
        go_ret
        exact ⟨rfl, hS10.out⟩
end Go.Proofs.YtlpbcbgoeeminaaDoor
