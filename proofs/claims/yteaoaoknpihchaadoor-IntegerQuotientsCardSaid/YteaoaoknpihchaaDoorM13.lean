/- Contracts of the package integer and its reference: lives. -/
import Derived.Test.YteaoaoknpihchaaDoorM12
set_option linter.unusedVariables false
namespace Go.Proofs.YteaoaoknpihchaaDoor
open Go.RowKit

set_option maxRecDepth 100000 in
set_option maxHeartbeats 1600000 in
theorem lives_any (w : World) (hT : Tb w) : Calls Tryd.prog 19 #[] w (RV (Vb true) w) := by
  have hm7 : Hid (∀ W, Calls Tryd.prog 17 #[.int .i64 (-7)] W (RV (Vz 3 (-7)) W)) := Lib.hid fun W => cOf _ (by omega) (by omega)
  have h2 : Hid (∀ W, Calls Tryd.prog 17 #[.int .i64 2] W (RV (Vz 3 2) W)) := Lib.hid fun W => cOf _ (by omega) (by omega)
  have h7 : Hid (∀ W, Calls Tryd.prog 17 #[.int .i64 7] W (RV (Vz 3 7) W)) := Lib.hid fun W => cOf _ (by omega) (by omega)
  have hm2 : Hid (∀ W, Calls Tryd.prog 17 #[.int .i64 (-2)] W (RV (Vz 3 (-2)) W)) := Lib.hid fun W => cOf _ (by omega) (by omega)
  have h32 : Hid (∀ W, Calls Tryd.prog 17 #[.int .i64 4294967296] W (RV (Vz 3 4294967296) W)) := Lib.hid fun W => cOf _ (by omega) (by omega)
  have h32b := h32
  have h10 : Hid (∀ W, Calls Tryd.prog 17 #[.int .i64 10] W (RV (Vz 3 10) W)) := Lib.hid fun W => cOf _ (by omega) (by omega)
  have hT' := Lib.hid hT
  clear hT
  go_enter Tryd.func19, Tryd.ntmps19
  go_upto_region 8 with (first
    | (go_at_call 17; (with_reducible refine (hm7.out _).mono ?_); clear hm7; rintro e w1 ⟨v1, rfl, hV1, hb1⟩; have hV1' := Lib.hid hV1; clear hV1)
    | (go_at_call 17; (with_reducible refine (h2.out _).mono ?_); clear h2; rintro e w2 ⟨v2, rfl, hV2, hb2⟩; have hV2' := Lib.hid hV2; clear hV2)
    | (go_at_call 17; (with_reducible refine (h7.out _).mono ?_); clear h7; rintro e w4 ⟨v4, rfl, hV4, hb4⟩; have hV4' := Lib.hid hV4; clear hV4)
    | (go_at_call 17; (with_reducible refine (hm2.out _).mono ?_); clear hm2; rintro e w5 ⟨v5, rfl, hV5, hb5⟩; have hV5' := Lib.hid hV5; clear hV5)
    | (go_at_call 17; (with_reducible refine (h32.out _).mono ?_); clear h32; rintro e w7 ⟨v7, rfl, hV7, hb7⟩; have hV7' := Lib.hid hV7; clear hV7)
    | (go_at_call 17; (with_reducible refine (h32b.out _).mono ?_); clear h32b; rintro e w8 ⟨v8, rfl, hV8, hb8⟩; have hV8' := Lib.hid hV8; clear hV8)
    | (go_at_call 17; (with_reducible refine (h10.out _).mono ?_); clear h10; rintro e w11 ⟨v11, rfl, hV11, hb11⟩; have hV11' := Lib.hid hV11; clear hV11)
    | (go_at_call 21; refine (cDiv (Vz_mono _ _ _ _ _ hV1'.out hb2) hV2'.out (by omega) (by omega)).mono ?_; clear hV1' hV2'; rintro e w3 ⟨_, _, rfl, ⟨nbA, pA, nA, cA, rfl, hIA, hnA⟩, ⟨nbB, pB, nB, cB, rfl, hIB, hnB⟩, hb3⟩; have hA := Lib.hid (And.intro hIA hnA); have hB := Lib.hid (And.intro hIB hnB); clear hIA hnA hIB hnB)
    | (go_at_call 21; refine (cDiv (Vz_mono _ _ _ _ _ hV4'.out hb5) hV5'.out (by omega) (by omega)).mono ?_; clear hV4' hV5'; rintro e w6 ⟨_, _, rfl, ⟨nbC, pC, nC, cC, rfl, hIC, hnC⟩, ⟨nbD, pD, nD, cD, rfl, hID, hnD⟩, hb6⟩; have hC := Lib.hid (And.intro hIC hnC); have hD := Lib.hid (And.intro hID hnD); clear hIC hnC hID hnD)
    | (go_at_call 30; refine (cMul (Vz_mono _ _ _ _ _ hV7'.out hb8) hV8'.out (by omega) (by omega)).mono ?_; clear hV7' hV8'; rintro e w9 ⟨_, rfl, ⟨nbE, pE, nE, cE, rfl, hIE, hnE⟩, hb9⟩; have hE := Lib.hid (And.intro hIE hnE); clear hIE hnE)
    | (go_at_call 15; refine (cSmall (a := 4294967296 * 4294967296) (Na := 6) ⟨nbE, pE, nE, cE, rfl, hE.out.1.later (below_new _ _), hE.out.2⟩ (by omega)).mono ?_; rintro e wS ⟨_, _, rfl, rfl, rfl, hbS⟩)
    | (go_at_call 25; refine (root10 hV11'.out).mono ?_; clear hV11'; rintro e wR ⟨_, _, rfl, ⟨nbF, pF, nF, cF, rfl, hIF, hnF⟩, rfl, hbR⟩; have hF := Lib.hid (And.intro hIF hnF); clear hIF hnF)
    | (go_at_call 44; (with_reducible refine (parse_m0 _).mono ?_); rintro e wP ⟨rfl, hbP⟩)
    | (go_at_call 44; (with_reducible refine (parse_01 _).mono ?_); rintro e wQ ⟨rfl, hbQ⟩))
  -- behind region 7
  obtain ⟨W1, hW1⟩ : ∃ W1, wQ.alloc (.cells #[.bool false, .slice none 0 0] 24 (0, 0)) = W1 := ⟨_, rfl⟩
  have t1 : Below wP.heap.size wP W1 := below_tr (below_new _ _) (below_tr hbQ (hW1 ▸ below_new _ _))
  have tR := below_tr hbP t1
  have tS := below_tr hb11 (below_tr hbR (below_tr (below_new _ _) tR))
  have tE := below_tr hbS tS
  have tD := below_tr hb7 (below_tr hb8 (below_tr hb9 (below_tr (below_new _ _) tE)))
  have tB := below_tr hb4 (below_tr hb5 (below_tr hb6 (below_tr (below_tr (below_new _ _) (below_new _ _)) tD)))
  have tw := below_tr hb1 (below_tr hb2 (below_tr hb3 (below_tr (below_tr (below_new _ _) (below_new _ _)) tB)))
  have e1 : dq (-7) 2 = -4 := by decide
  have e2 : dr (-7) 2 = 1 := by decide
  have e3 : dq 7 (-2) = -3 := by decide
  have e4 : dr 7 (-2) = 1 := by decide
  rw [e1] at hA; rw [e2] at hB; rw [e3] at hC; rw [e4] at hD
  have hA1 : Bz 3 w3.heap.size (-4) W1 := ((Bz_new hA.out.1 hA.out.2).later (below_new _ _)).later tB
  have hB1 : Bz 3 (w3.heap.size + 1) 1 W1 := (Bz_new2 hB.out.1 hB.out.2).later tB
  have hC1 : Bz 3 w6.heap.size (-3) W1 := ((Bz_new hC.out.1 hC.out.2).later (below_new _ _)).later tD
  have hD1 : Bz 3 (w6.heap.size + 1) 1 W1 := (Bz_new2 hD.out.1 hD.out.2).later tD
  have hE1 : Bz 6 w9.heap.size 18446744073709551616 W1 := (Bz_new hE.out.1 hE.out.2).later tE
  have hF1 : Bz 3 wR.heap.size 3 W1 := (Bz_new hF.out.1 hF.out.2).later tR
  have hT1 : Tb W1 := hT'.out.later tw
  have tw' := Lib.hid tw
  rw [hW1]
  have hsm : smb 18446744073709551616 = false := by decide
  rw [hsm]
  clear hW1 tw t1 tR tS tE tD tB e1 e2 e3 e4 hb1 hb2 hb3 hb4 hb5 hb6 hb7 hb8 hb9 hbS hb11 hbR hbP hbQ hA hB hC hD hE hF hT' hsm
  generalize w3.heap.size + 1 = gB at hB1 ⊢
  generalize w3.heap.size = gA at hA1 ⊢
  generalize w6.heap.size + 1 = gD at hD1 ⊢
  generalize w6.heap.size = gC at hC1 ⊢
  generalize w9.heap.size = gE at hE1 ⊢
  generalize wR.heap.size = gF at hF1 ⊢
  refine region_flows (V := fun i => ([Vz 3 (-4), Vz 3 (-4), Vb true, Vb true, Vz 3 (1), Vz 3 (1), Vb true, Vb true, Vb true, Vz 3 (-3), Vz 3 (-3), Vb true, Vb true, Vb true, Vz 3 (1), Vz 3 (1), Vb true, Vb true, Vb true] : List VP).getD i VT) (S := fun W => Below W1.heap.size W1 W) (R := fun a b => Below a.heap.size a b) (by kernel_rfl) (by kernel_rfl) (by kernel_rfl) (by rfl) (mono_of ⟨Vz_mono _ _, Vz_mono _ _, Vb_mono _, Vb_mono _, Vz_mono _ _, Vz_mono _ _, Vb_mono _, Vb_mono _, Vb_mono _, Vz_mono _ _, Vz_mono _ _, Vb_mono _, Vb_mono _, Vb_mono _, Vz_mono _ _, Vz_mono _ _, Vb_mono _, Vb_mono _, Vb_mono _, trivial⟩) ((Below.refl _ _).drew) ⟨?s0, ?s1, ?s2, ?s3, ?s4, ?s5, ?s6, ?s7, ?s8, ?s9, ?s10, ?s11, ?s12, ?s13, ?s14, ?s15, ?s16, ?s17, ?s18, trivial⟩ [49, 50, 51, 52, 53, 54, 55, 56, 57, 58, 59, 60, 61, 62, 63, 64, 65, 66, 14] rfl ?hdone
  case s0 =>
    refine flow_wp fun listed a W h hd => ⟨trivial, fun K hK => ?_⟩
    exact wp_load_box rfl (h.out 1 (by kernel_rfl)) (hA1.later h.s) fun v hv => hK v W h.s (Below.refl _ _) hv
  case s1 =>
    refine flow_call (fun _ _ => rfl) fun listed a W h hd => ⟨trivial, ?_⟩
    refine ⟨#[.int .i64 (-4)], by simp [Act.eval], (cROf (-4) (by omega) (by omega)).mono fun e w' ⟨v, he, hV, hb⟩ => ⟨v, he, below_tr h.s hb, hb, hV⟩⟩
  case s2 =>
    refine flow_call (fun _ _ => rfl) fun listed a W h hd => ⟨trivial, ?_⟩
    obtain ⟨v0, hv0, -, hV0⟩ := h.dep hd 0 49 (by kernel_rfl) (by kernel_rfl)
    obtain ⟨v1, hv1, -, hV1⟩ := h.dep hd 1 50 (by kernel_rfl) (by kernel_rfl)
    refine ⟨#[v0, v1], by simp [hv0, hv1], (cSame (show Vz 3 (-4) v0 W from hV0) (show Vz 3 (-4) v1 W from hV1) (by omega) (by omega) (by rfl)).mono fun e w' ⟨v, he, hV, hb⟩ => ⟨v, he, below_tr h.s hb, hb, hV⟩⟩
  case s3 =>
    refine flow_run fun listed a W h hd => ⟨trivial, ?_⟩
    obtain ⟨v0, hv0, -, hV0⟩ := h.dep hd 2 51 (by kernel_rfl) (by kernel_rfl)
    exact ⟨_, W, run_move rfl, h.s, Below.refl _ _, by rw [hv0]; exact hV0⟩
  case s4 =>
    refine flow_wp fun listed a W h hd => ⟨(by obtain ⟨u, hu, hy, hU⟩ := h.dep hd 3 52 (by kernel_rfl) (by kernel_rfl); obtain rfl : u = .bool true := hU; exact hy), fun K hK => ?_⟩
    exact wp_load_box rfl (h.out 2 (by kernel_rfl)) (hB1.later h.s) fun v hv => hK v W h.s (Below.refl _ _) hv
  case s5 =>
    refine flow_call (fun _ _ => rfl) fun listed a W h hd => ⟨(by obtain ⟨u, hu, hy, hU⟩ := h.dep hd 3 52 (by kernel_rfl) (by kernel_rfl); obtain rfl : u = .bool true := hU; exact hy), ?_⟩
    refine ⟨#[.int .i64 (1)], by simp [Act.eval], (cROf (1) (by omega) (by omega)).mono fun e w' ⟨v, he, hV, hb⟩ => ⟨v, he, below_tr h.s hb, hb, hV⟩⟩
  case s6 =>
    refine flow_call (fun _ _ => rfl) fun listed a W h hd => ⟨(by obtain ⟨u, hu, hy, hU⟩ := h.dep hd 3 52 (by kernel_rfl) (by kernel_rfl); obtain rfl : u = .bool true := hU; exact hy), ?_⟩
    obtain ⟨v0, hv0, -, hV0⟩ := h.dep hd 4 53 (by kernel_rfl) (by kernel_rfl)
    obtain ⟨v1, hv1, -, hV1⟩ := h.dep hd 5 54 (by kernel_rfl) (by kernel_rfl)
    refine ⟨#[v0, v1], by simp [hv0, hv1], (cSame (show Vz 3 (1) v0 W from hV0) (show Vz 3 (1) v1 W from hV1) (by omega) (by omega) (by rfl)).mono fun e w' ⟨v, he, hV, hb⟩ => ⟨v, he, below_tr h.s hb, hb, hV⟩⟩
  case s7 =>
    refine flow_run fun listed a W h hd => ⟨trivial, ?_⟩
    obtain ⟨v0, hv0, -, hV0⟩ := h.dep hd 3 52 (by kernel_rfl) (by kernel_rfl)
    obtain ⟨v1, hv1, -, hV1⟩ := h.dep hd 6 55 (by kernel_rfl) (by kernel_rfl)
    exact ⟨_, W, run_pick_t rfl (hv0.trans hV0), h.s, Below.refl _ _, by rw [hv1]; exact hV1⟩
  case s8 =>
    refine flow_run fun listed a W h hd => ⟨trivial, ?_⟩
    obtain ⟨v0, hv0, -, hV0⟩ := h.dep hd 7 56 (by kernel_rfl) (by kernel_rfl)
    exact ⟨_, W, run_move rfl, h.s, Below.refl _ _, by rw [hv0]; exact hV0⟩
  case s9 =>
    refine flow_wp fun listed a W h hd => ⟨(by obtain ⟨u, hu, hy, hU⟩ := h.dep hd 8 57 (by kernel_rfl) (by kernel_rfl); obtain rfl : u = .bool true := hU; exact hy), fun K hK => ?_⟩
    exact wp_load_box rfl (h.out 3 (by kernel_rfl)) (hC1.later h.s) fun v hv => hK v W h.s (Below.refl _ _) hv
  case s10 =>
    refine flow_call (fun _ _ => rfl) fun listed a W h hd => ⟨(by obtain ⟨u, hu, hy, hU⟩ := h.dep hd 8 57 (by kernel_rfl) (by kernel_rfl); obtain rfl : u = .bool true := hU; exact hy), ?_⟩
    refine ⟨#[.int .i64 (-3)], by simp [Act.eval], (cROf (-3) (by omega) (by omega)).mono fun e w' ⟨v, he, hV, hb⟩ => ⟨v, he, below_tr h.s hb, hb, hV⟩⟩
  case s11 =>
    refine flow_call (fun _ _ => rfl) fun listed a W h hd => ⟨(by obtain ⟨u, hu, hy, hU⟩ := h.dep hd 8 57 (by kernel_rfl) (by kernel_rfl); obtain rfl : u = .bool true := hU; exact hy), ?_⟩
    obtain ⟨v0, hv0, -, hV0⟩ := h.dep hd 9 58 (by kernel_rfl) (by kernel_rfl)
    obtain ⟨v1, hv1, -, hV1⟩ := h.dep hd 10 59 (by kernel_rfl) (by kernel_rfl)
    refine ⟨#[v0, v1], by simp [hv0, hv1], (cSame (show Vz 3 (-3) v0 W from hV0) (show Vz 3 (-3) v1 W from hV1) (by omega) (by omega) (by rfl)).mono fun e w' ⟨v, he, hV, hb⟩ => ⟨v, he, below_tr h.s hb, hb, hV⟩⟩
  case s12 =>
    refine flow_run fun listed a W h hd => ⟨trivial, ?_⟩
    obtain ⟨v0, hv0, -, hV0⟩ := h.dep hd 8 57 (by kernel_rfl) (by kernel_rfl)
    obtain ⟨v1, hv1, -, hV1⟩ := h.dep hd 11 60 (by kernel_rfl) (by kernel_rfl)
    exact ⟨_, W, run_pick_t rfl (hv0.trans hV0), h.s, Below.refl _ _, by rw [hv1]; exact hV1⟩
  case s13 =>
    refine flow_run fun listed a W h hd => ⟨trivial, ?_⟩
    obtain ⟨v0, hv0, -, hV0⟩ := h.dep hd 12 61 (by kernel_rfl) (by kernel_rfl)
    exact ⟨_, W, run_move rfl, h.s, Below.refl _ _, by rw [hv0]; exact hV0⟩
  case s14 =>
    refine flow_wp fun listed a W h hd => ⟨(by obtain ⟨u, hu, hy, hU⟩ := h.dep hd 13 62 (by kernel_rfl) (by kernel_rfl); obtain rfl : u = .bool true := hU; exact hy), fun K hK => ?_⟩
    exact wp_load_box rfl (h.out 4 (by kernel_rfl)) (hD1.later h.s) fun v hv => hK v W h.s (Below.refl _ _) hv
  case s15 =>
    refine flow_call (fun _ _ => rfl) fun listed a W h hd => ⟨(by obtain ⟨u, hu, hy, hU⟩ := h.dep hd 13 62 (by kernel_rfl) (by kernel_rfl); obtain rfl : u = .bool true := hU; exact hy), ?_⟩
    refine ⟨#[.int .i64 (1)], by simp [Act.eval], (cROf (1) (by omega) (by omega)).mono fun e w' ⟨v, he, hV, hb⟩ => ⟨v, he, below_tr h.s hb, hb, hV⟩⟩
  case s16 =>
    refine flow_call (fun _ _ => rfl) fun listed a W h hd => ⟨(by obtain ⟨u, hu, hy, hU⟩ := h.dep hd 13 62 (by kernel_rfl) (by kernel_rfl); obtain rfl : u = .bool true := hU; exact hy), ?_⟩
    obtain ⟨v0, hv0, -, hV0⟩ := h.dep hd 14 63 (by kernel_rfl) (by kernel_rfl)
    obtain ⟨v1, hv1, -, hV1⟩ := h.dep hd 15 64 (by kernel_rfl) (by kernel_rfl)
    refine ⟨#[v0, v1], by simp [hv0, hv1], (cSame (show Vz 3 (1) v0 W from hV0) (show Vz 3 (1) v1 W from hV1) (by omega) (by omega) (by rfl)).mono fun e w' ⟨v, he, hV, hb⟩ => ⟨v, he, below_tr h.s hb, hb, hV⟩⟩
  case s17 =>
    refine flow_run fun listed a W h hd => ⟨trivial, ?_⟩
    obtain ⟨v0, hv0, -, hV0⟩ := h.dep hd 13 62 (by kernel_rfl) (by kernel_rfl)
    obtain ⟨v1, hv1, -, hV1⟩ := h.dep hd 16 65 (by kernel_rfl) (by kernel_rfl)
    exact ⟨_, W, run_pick_t rfl (hv0.trans hV0), h.s, Below.refl _ _, by rw [hv1]; exact hV1⟩
  case s18 =>
    refine flow_run fun listed a W h hd => ⟨trivial, ?_⟩
    obtain ⟨v0, hv0, -, hV0⟩ := h.dep hd 17 66 (by kernel_rfl) (by kernel_rfl)
    exact ⟨_, W, run_assign rfl, h.s, Below.refl _ _, by rw [hv0]; exact hV0⟩
  case hdone =>
    intro f W hS hf
    have hlast : f 14 = _ := hf 18 14 (by kernel_rfl)
    simp only [slots, Act.put, List.setIfInBounds_toArray, List.set_cons_zero, List.set_cons_succ]
    rw [hlast]
    go_upto_region 9 with fail
    have hT1' := Lib.hid hT1
    have hS8 := hS
    clear hf hS hT1
    refine region_flows (V := fun i => ([Vz 6 (18446744073709551616), Vblk [709551616, 446744073, 18], Vz 3 (18446744073709551616), Vb true, Vb true, Vz 6 (18446744073709551616), (fun v _ => v = .string (bs (txt (18446744073709551616)))), Vb true, Vb true, Vb true, Vb false, Vb true, Vb true, Vb true, Vz 3 (3), Vz 3 (3), Vb true, Vb true, Vb true, Vb false, Vb true, Vb true, Vb true] : List VP).getD i VT) (S := fun W => Below W1.heap.size W1 W) (R := fun a b => Below a.heap.size a b) (by kernel_rfl) (by kernel_rfl) (by kernel_rfl) (by rfl) (mono_of ⟨Vz_mono _ _, Vblk_mono _, Vz_mono _ _, Vb_mono _, Vb_mono _, Vz_mono _ _, (fun _ _ _ h _ => h), Vb_mono _, Vb_mono _, Vb_mono _, Vb_mono _, Vb_mono _, Vb_mono _, Vb_mono _, Vz_mono _ _, Vz_mono _ _, Vb_mono _, Vb_mono _, Vb_mono _, Vb_mono _, Vb_mono _, Vb_mono _, Vb_mono _, trivial⟩) (below_tr hS8 ((Below.refl _ _).drew)) ⟨?s0, ?s1, ?s2, ?s3, ?s4, ?s5, ?s6, ?s7, ?s8, ?s9, ?s10, ?s11, ?s12, ?s13, ?s14, ?s15, ?s16, ?s17, ?s18, ?s19, ?s20, ?s21, ?s22, trivial⟩ [67, 68, 69, 70, 71, 72, 73, 74, 75, 76, 77, 78, 79, 80, 81, 82, 83, 84, 85, 86, 87, 88, 15] rfl ?hdone
    case s0 =>
      refine flow_wp fun listed a W h hd => ⟨trivial, fun K hK => ?_⟩
      exact wp_load_box rfl (h.out 5 (by kernel_rfl)) (hE1.later h.s) fun v hv => hK v W h.s (Below.refl _ _) hv
    case s1 =>
      refine flow_run fun listed a W h hd => ⟨trivial, ?_⟩
      refine ⟨_, _, ?_, below_tr h.s (below_new W (.cells #[.int .i64 709551616, .int .i64 446744073, .int .i64 18] 3)), below_new W (.cells #[.int .i64 709551616, .int .i64 446744073, .int .i64 18] 3), ⟨_, rfl, Blk_new W [709551616, 446744073, 18]⟩⟩
      clear h hd
      go_simp
    case s2 =>
      refine flow_run fun listed a W h hd => ⟨trivial, ?_⟩
      obtain ⟨v0, hv0, -, hV0⟩ := h.dep hd 1 68 (by kernel_rfl) (by kernel_rfl)
      obtain ⟨g, rfl, hB⟩ := hV0
      refine ⟨_, _, ?_, h.s, Below.refl _ _, Vz_build hB⟩
      clear h hd
      generalize a.eval = ρ at hv0 ⊢
      go_simp
    case s3 =>
      refine flow_call (fun _ _ => rfl) fun listed a W h hd => ⟨trivial, ?_⟩
      obtain ⟨v0, hv0, -, hV0⟩ := h.dep hd 0 67 (by kernel_rfl) (by kernel_rfl)
      obtain ⟨v1, hv1, -, hV1⟩ := h.dep hd 2 69 (by kernel_rfl) (by kernel_rfl)
      refine ⟨#[v0, v1], by simp [hv0, hv1], (cSame (show Vz 6 (18446744073709551616) v0 W from hV0) (show Vz 3 (18446744073709551616) v1 W from hV1) (by omega) (by omega) (by rfl)).mono fun e w' ⟨v, he, hV, hb⟩ => ⟨v, he, below_tr h.s hb, hb, hV⟩⟩
    case s4 =>
      refine flow_run fun listed a W h hd => ⟨trivial, ?_⟩
      obtain ⟨v0, hv0, -, hV0⟩ := h.dep hd 3 70 (by kernel_rfl) (by kernel_rfl)
      exact ⟨_, W, run_move rfl, h.s, Below.refl _ _, by rw [hv0]; exact hV0⟩
    case s5 =>
      refine flow_wp fun listed a W h hd => ⟨(by obtain ⟨u, hu, hy, hU⟩ := h.dep hd 4 71 (by kernel_rfl) (by kernel_rfl); obtain rfl : u = .bool true := hU; exact hy), fun K hK => ?_⟩
      exact wp_load_box rfl (h.out 5 (by kernel_rfl)) (hE1.later h.s) fun v hv => hK v W h.s (Below.refl _ _) hv
    case s6 =>
      refine flow_call (fun _ _ => rfl) fun listed a W h hd => ⟨(by obtain ⟨u, hu, hy, hU⟩ := h.dep hd 4 71 (by kernel_rfl) (by kernel_rfl); obtain rfl : u = .bool true := hU; exact hy), ?_⟩
      obtain ⟨v0, hv0, -, hV0⟩ := h.dep hd 5 72 (by kernel_rfl) (by kernel_rfl)
      refine ⟨#[v0], by simp [hv0], (cText (show Vz 6 (18446744073709551616) v0 W from hV0) (by omega) (hT1'.out.later h.s)).mono fun e w' ⟨v, he, hV, hb⟩ => ⟨v, he, below_tr h.s hb, hb, hV⟩⟩
    case s7 =>
      refine flow_run fun listed a W h hd => ⟨(by obtain ⟨u, hu, hy, hU⟩ := h.dep hd 4 71 (by kernel_rfl) (by kernel_rfl); obtain rfl : u = .bool true := hU; exact hy), ?_⟩
      obtain ⟨v0, hv0, -, hV0⟩ := h.dep hd 6 73 (by kernel_rfl) (by kernel_rfl)
      replace hV0 : v0 = .string (bs (txt 18446744073709551616)) := hV0
      rw [txt_big] at hV0
      replace hv0 := hv0.trans hV0
      refine ⟨_, _, run_eqs rfl hv0 rfl, h.s, Below.refl _ _, congrArg Value.bool (beq_self_eq_true _)⟩
    case s8 =>
      refine flow_run fun listed a W h hd => ⟨trivial, ?_⟩
      obtain ⟨v0, hv0, -, hV0⟩ := h.dep hd 4 71 (by kernel_rfl) (by kernel_rfl)
      obtain ⟨v1, hv1, -, hV1⟩ := h.dep hd 7 74 (by kernel_rfl) (by kernel_rfl)
      exact ⟨_, W, run_pick_t rfl (hv0.trans hV0), h.s, Below.refl _ _, by rw [hv1]; exact hV1⟩
    case s9 =>
      refine flow_run fun listed a W h hd => ⟨trivial, ?_⟩
      obtain ⟨v0, hv0, -, hV0⟩ := h.dep hd 8 75 (by kernel_rfl) (by kernel_rfl)
      exact ⟨_, W, run_move rfl, h.s, Below.refl _ _, by rw [hv0]; exact hV0⟩
    case s10 =>
      refine flow_run fun listed a W h hd => ⟨(by obtain ⟨u, hu, hy, hU⟩ := h.dep hd 9 76 (by kernel_rfl) (by kernel_rfl); obtain rfl : u = .bool true := hU; exact hy), ?_⟩
      exact ⟨_, W, run_move rfl, h.s, Below.refl _ _, h.out 7 (by kernel_rfl)⟩
    case s11 =>
      refine flow_run fun listed a W h hd => ⟨(by obtain ⟨u, hu, hy, hU⟩ := h.dep hd 9 76 (by kernel_rfl) (by kernel_rfl); obtain rfl : u = .bool true := hU; exact hy), ?_⟩
      obtain ⟨v0, hv0, -, hV0⟩ := h.dep hd 10 77 (by kernel_rfl) (by kernel_rfl)
      exact ⟨_, W, run_not rfl (hv0.trans hV0), h.s, Below.refl _ _, rfl⟩
    case s12 =>
      refine flow_run fun listed a W h hd => ⟨trivial, ?_⟩
      obtain ⟨v0, hv0, -, hV0⟩ := h.dep hd 9 76 (by kernel_rfl) (by kernel_rfl)
      obtain ⟨v1, hv1, -, hV1⟩ := h.dep hd 11 78 (by kernel_rfl) (by kernel_rfl)
      exact ⟨_, W, run_pick_t rfl (hv0.trans hV0), h.s, Below.refl _ _, by rw [hv1]; exact hV1⟩
    case s13 =>
      refine flow_run fun listed a W h hd => ⟨trivial, ?_⟩
      obtain ⟨v0, hv0, -, hV0⟩ := h.dep hd 12 79 (by kernel_rfl) (by kernel_rfl)
      exact ⟨_, W, run_move rfl, h.s, Below.refl _ _, by rw [hv0]; exact hV0⟩
    case s14 =>
      refine flow_wp fun listed a W h hd => ⟨(by obtain ⟨u, hu, hy, hU⟩ := h.dep hd 13 80 (by kernel_rfl) (by kernel_rfl); obtain rfl : u = .bool true := hU; exact hy), fun K hK => ?_⟩
      exact wp_load_box rfl (h.out 8 (by kernel_rfl)) (hF1.later h.s) fun v hv => hK v W h.s (Below.refl _ _) hv
    case s15 =>
      refine flow_call (fun _ _ => rfl) fun listed a W h hd => ⟨(by obtain ⟨u, hu, hy, hU⟩ := h.dep hd 13 80 (by kernel_rfl) (by kernel_rfl); obtain rfl : u = .bool true := hU; exact hy), ?_⟩
      refine ⟨#[.int .i64 (3)], by simp [Act.eval], (cROf (3) (by omega) (by omega)).mono fun e w' ⟨v, he, hV, hb⟩ => ⟨v, he, below_tr h.s hb, hb, hV⟩⟩
    case s16 =>
      refine flow_call (fun _ _ => rfl) fun listed a W h hd => ⟨(by obtain ⟨u, hu, hy, hU⟩ := h.dep hd 13 80 (by kernel_rfl) (by kernel_rfl); obtain rfl : u = .bool true := hU; exact hy), ?_⟩
      obtain ⟨v0, hv0, -, hV0⟩ := h.dep hd 14 81 (by kernel_rfl) (by kernel_rfl)
      obtain ⟨v1, hv1, -, hV1⟩ := h.dep hd 15 82 (by kernel_rfl) (by kernel_rfl)
      refine ⟨#[v0, v1], by simp [hv0, hv1], (cSame (show Vz 3 (3) v0 W from hV0) (show Vz 3 (3) v1 W from hV1) (by omega) (by omega) (by rfl)).mono fun e w' ⟨v, he, hV, hb⟩ => ⟨v, he, below_tr h.s hb, hb, hV⟩⟩
    case s17 =>
      refine flow_run fun listed a W h hd => ⟨trivial, ?_⟩
      obtain ⟨v0, hv0, -, hV0⟩ := h.dep hd 13 80 (by kernel_rfl) (by kernel_rfl)
      obtain ⟨v1, hv1, -, hV1⟩ := h.dep hd 16 83 (by kernel_rfl) (by kernel_rfl)
      exact ⟨_, W, run_pick_t rfl (hv0.trans hV0), h.s, Below.refl _ _, by rw [hv1]; exact hV1⟩
    case s18 =>
      refine flow_run fun listed a W h hd => ⟨trivial, ?_⟩
      obtain ⟨v0, hv0, -, hV0⟩ := h.dep hd 17 84 (by kernel_rfl) (by kernel_rfl)
      exact ⟨_, W, run_move rfl, h.s, Below.refl _ _, by rw [hv0]; exact hV0⟩
    case s19 =>
      refine flow_run fun listed a W h hd => ⟨(by obtain ⟨u, hu, hy, hU⟩ := h.dep hd 18 85 (by kernel_rfl) (by kernel_rfl); obtain rfl : u = .bool true := hU; exact hy), ?_⟩
      exact ⟨_, W, run_move rfl, h.s, Below.refl _ _, h.out 9 (by kernel_rfl)⟩
    case s20 =>
      refine flow_run fun listed a W h hd => ⟨(by obtain ⟨u, hu, hy, hU⟩ := h.dep hd 18 85 (by kernel_rfl) (by kernel_rfl); obtain rfl : u = .bool true := hU; exact hy), ?_⟩
      obtain ⟨v0, hv0, -, hV0⟩ := h.dep hd 19 86 (by kernel_rfl) (by kernel_rfl)
      exact ⟨_, W, run_not rfl (hv0.trans hV0), h.s, Below.refl _ _, rfl⟩
    case s21 =>
      refine flow_run fun listed a W h hd => ⟨trivial, ?_⟩
      obtain ⟨v0, hv0, -, hV0⟩ := h.dep hd 18 85 (by kernel_rfl) (by kernel_rfl)
      obtain ⟨v1, hv1, -, hV1⟩ := h.dep hd 20 87 (by kernel_rfl) (by kernel_rfl)
      exact ⟨_, W, run_pick_t rfl (hv0.trans hV0), h.s, Below.refl _ _, by rw [hv1]; exact hV1⟩
    case s22 =>
      refine flow_run fun listed a W h hd => ⟨trivial, ?_⟩
      obtain ⟨v0, hv0, -, hV0⟩ := h.dep hd 21 88 (by kernel_rfl) (by kernel_rfl)
      exact ⟨_, W, run_assign rfl, h.s, Below.refl _ _, by rw [hv0]; exact hV0⟩
    case hdone =>
      intro f W hS hf
      have hlast : f 15 = _ := hf 22 15 (by kernel_rfl)
      simp only [slots, Act.put, List.setIfInBounds_toArray, List.set_cons_zero, List.set_cons_succ]
      rw [hlast]
      have hm5 : Hid (∀ W, Calls Tryd.prog 17 #[.int .i64 (-5)] W (RV (Vz 3 (-5)) W)) := Lib.hid fun W => cOf _ (by omega) (by omega)
      have hen : Hid (∀ W v, Vz 3 (-5) v W → Calls Tryd.prog 47 #[v] W (BtP W (encIs [-1, 5]))) := Lib.hid fun W v h => encode5 h
      have hin : Hid (∀ W g, Blk W g [-1, 5] → Calls Tryd.prog 48 #[.slice (some ⟨g, 0, none⟩) 2 2] W (EncPost W (encIs [-1, 5]))) := Lib.hid fun W g h => ints15 h
      have hel := Lib.hid enc_len15
      obtain ⟨E, hE⟩ : ∃ E, encIs [-1, 5] = E := ⟨_, rfl⟩
      rw [hE] at hen hin hel
      have tw2 := Lib.hid (below_tr tw'.out hS)
      clear hE hf hlast hS tw' hS8 hA1 hB1 hC1 hD1 hE1 hF1
      go_wp2_with (first
        | (go_at_call 17; (refine (hm5.out _).mono ?_); rintro e wG ⟨vG, rfl, hG, hbG⟩; have hG' := Lib.hid hG; clear hG)
        | (go_at_call 47; (refine (hen.out _ _ hG'.out).mono ?_); rintro e wH ⟨pH, cH, rfl, hRH, hlH, hcH, hbH⟩; have hRH' := Lib.hid hRH; clear hRH)
        | (go_at_call 48; (refine (hin.out _ _ (Blk_new wH [-1, 5])).mono ?_); rintro e wJ hJ; obtain ⟨pJ, cJ, rfl, hRJ, hlJ, hcJ, hbJ⟩ := enc_Rd hJ; have hRJ' := Lib.hid hRJ; clear hRJ hJ)
        | (go_at_call 46; (refine (SameB_any _ _ _ _ _ _ E E _ (Rd_below (below_tr (below_new _ _) hbJ) hRH'.out) hRJ'.out rfl rfl (by have := hel.out; omega)).mono ?_); rintro e wK ⟨rfl, qK, rfl⟩))
      go_ret
      exact ⟨_, rfl, rfl, below_drewN (below_tr tw2.out (below_tr hbG (below_tr hbH (below_tr (below_new _ _) hbJ)))) _⟩
end Go.Proofs.YteaoaoknpihchaaDoor
