/- Contracts of the package integer and its reference: The reference's Number; the law's same and between. -/
import Derived.Test.YtleijkgdpmfabaaGreatDoorW35
import Derived.Test.YtleijkgdpmfabaaGreatDoorW28
import Derived.Test.YtleijkgdpmfabaaGreatDoorW22
set_option linter.unusedVariables false
namespace Go.Proofs.YtleijkgdpmfabaaGreatDoor
open Go.RowKit
def Vex (F : Int → VP) : VP := fun v w => ∃ z, F z v w
section
variable {BT : List (TypeId × Nat × Nat)}
theorem Stab_Vex {F : Int → VP} (h : ∀ z, Stab BT (F z)) : Stab BT (Vex F) := fun _ _ _ ⟨z, h1⟩ hr => ⟨z, h z _ _ _ h1 hr⟩
theorem AggV_Vex {m : Nat} {F : Int → VP} (h : ∀ z, AggV m (F z)) : AggV m (Vex F) := fun v w ⟨z, h1⟩ => h z v w h1
instance (F : Int → VP) [h : ∀ z, Sb BT (F z)] : Sb BT (Vex F) := ⟨Stab_Vex fun z => (h z).out⟩
end
instance (m : Nat) (F : Int → VP) [h : ∀ z, Ag (F z) m] : Ag (Vex F) m := ⟨AggV_Vex fun z => (h z).out⟩
def VexQ (F : Rat → VP) : VP := fun v w => ∃ z, F z v w
section
variable {BT : List (TypeId × Nat × Nat)}
theorem Stab_VexQ {F : Rat → VP} (h : ∀ z, Stab BT (F z)) : Stab BT (VexQ F) := fun _ _ _ ⟨z, h1⟩ hr => ⟨z, h z _ _ _ h1 hr⟩
theorem AggV_VexQ {m : Nat} {F : Rat → VP} (h : ∀ z, AggV m (F z)) : AggV m (VexQ F) := fun v w ⟨z, h1⟩ => h z v w h1
instance (F : Rat → VP) [h : ∀ z, Sb BT (F z)] : Sb BT (VexQ F) := ⟨Stab_VexQ fun z => (h z).out⟩
end
instance (m : Nat) (F : Rat → VP) [h : ∀ z, Ag (F z) m] : Ag (VexQ F) m := ⟨AggV_VexQ fun z => (h z).out⟩
theorem St.exQ {n0 N : Nat} {w0 : World} {L1 L2 : List Bd} {t : Nat} {T : TypeId} {m : Nat} {F : Rat → VP} {SL : List (Nat × VP)} {a : Act} {w : World} (h : St n0 w0 N (L1 ++ ⟨t, none, none, T, m, VexQ F, VT⟩ :: L2) SL a w) : ∃ z, St n0 w0 N (L1 ++ ⟨t, none, none, T, m, F z, VT⟩ :: L2) SL a w := by
  obtain ⟨g, cs, f1, f2, f3, f4, f5, f6, f7⟩ := h.k.ok ⟨t, none, none, T, m, VexQ F, VT⟩ (by simp) rfl
  obtain ⟨z, hz⟩ := f6 rfl
  refine ⟨z, ⟨⟨h.k.below, fun b hb hon => ?_, fun b hb c hc hne h1 h2 => ?_, fun b hb hn hk => ?_⟩, h.n, h.size, h.defers, h.sl⟩⟩
  · simp only [List.mem_append, List.mem_cons] at hb
    rcases hb with hb | rfl | hb
    · exact h.k.ok b (by simp [hb]) hon
    · exact ⟨g, cs, f1, f2, f3, f4, f5, fun _ => hz, fun _ hk => by cases hk⟩
    · exact h.k.ok b (by simp [hb]) hon
  · have key : ∀ x ∈ L1 ++ (⟨t, none, none, T, m, F z, VT⟩ : Bd) :: L2, ∃ y ∈ L1 ++ (⟨t, none, none, T, m, VexQ F, VT⟩ : Bd) :: L2, y.t = x.t ∧ y.ia = x.ia := by
      intro x hx
      simp only [List.mem_append, List.mem_cons] at hx
      rcases hx with hx | rfl | hx
      · exact ⟨x, by simp [hx], rfl, rfl⟩
      · exact ⟨⟨t, none, none, T, m, VexQ F, VT⟩, by simp, rfl, rfl⟩
      · exact ⟨x, by simp [hx], rfl, rfl⟩
    obtain ⟨b', hb', e1, e2⟩ := key b hb
    obtain ⟨c', hc', e3, e4⟩ := key c hc
    rw [← e1, ← e3]
    exact h.k.ne b' hb' c' hc' (by rw [e1, e3]; exact hne) (by rw [e2]; exact h1) (by rw [e4]; exact h2)
  · simp only [List.mem_append, List.mem_cons] at hb
    rcases hb with hb | rfl | hb
    · exact h.k.fa b (by simp [hb]) hn hk
    · exact absurd rfl hn
    · exact h.k.fa b (by simp [hb]) hn hk
theorem cNumberZ {W : World} {l : List Int} {i : Int} {v v1 : Value} (h : VI l v W) (h1 : Vi i v1 W) (hi0 : 0 ≤ i) (hi1 : i ≤ 1000000) : Calls Tryz.prog 10 #[v, v1] W (RV (Vex fun z => Vz 6 z) W) := by
  obtain ⟨a, m, c, rfl, hR, hm, hi⟩ := h
  obtain rfl : v1 = _ := h1
  have := number_any' a m c l i.toNat W hR hm hi (by omega)
  rw [Int.toNat_of_nonneg hi0] at this
  exact this.mono fun e w' ⟨z, hz, h⟩ => (retI_vz h hz).le fun v w hv => ⟨z, hv⟩
theorem cR4MakeX {W : World} {v1 v2 : Value} (h1 : Vex (fun x => Vz 6 x) v1 W) (h2 : Vex (fun x => Vz 6 x) v2 W) : Calls Tryz.prog 11 #[v1, v2] W (RV (VexQ fun x => Vq 6 x) W) := by
  obtain ⟨x, h1⟩ := h1
  obtain ⟨y, h2⟩ := h2
  exact (cR4Make h1 h2 (by omega) (by omega)).mono fun e w' h => h.le fun v w hv => ⟨Rat.divInt x y, hv⟩
set_option maxRecDepth 100000 in
set_option maxHeartbeats 1600000 in
theorem cR4Number {w : World} {l : List Int} {ix : Int} {v0 v1 : Value} (h0 : VI l v0 w) (h1 : Vi (ix) v1 w) (hi0 : 0 ≤ ix) (hi1 : ix ≤ 100000) : Calls Tryz.prog 25 #[v0, v1] w (RV (VexQ fun x => Vq 6 x) w) := by
  go_enter Tryz.func25, Tryz.ntmps25
  have st0 : St w.heap.size w 50 [] [(0, VI l), (1, Vi (ix))] _ w := St.begin (a := ⟨#[v0, v1, undef, undef, undef, undef, undef, undef, undef, undef, undef, undef, undef, undef, undef, undef, undef, undef, undef, undef, undef, undef, undef, undef, undef, undef, undef, undef, undef, undef, undef, undef, undef, undef, undef, undef, undef, undef, undef, undef, undef, undef, undef, undef, undef, undef, undef, undef, undef, undef], []⟩) rfl rfl (List.forall_mem_cons.2 ⟨⟨_, rfl, h0⟩, (List.forall_mem_cons.2 ⟨⟨_, rfl, h1⟩, (fun _ h => absurd h (by simp))⟩)⟩)
  generalize (⟨#[v0, v1, undef, undef, undef, undef, undef, undef, undef, undef, undef, undef, undef, undef, undef, undef, undef, undef, undef, undef, undef, undef, undef, undef, undef, undef, undef, undef, undef, undef, undef, undef, undef, undef, undef, undef, undef, undef, undef, undef, undef, undef, undef, undef, undef, undef, undef, undef, undef, undef], []⟩ : Act) = a0 at st0 ⊢
  have lix8 := atv_lo l (ix) 8 (by omega)
  have uix8 := atv_hi l (ix) 8 (by omega)
  have lix161 := atv_lo l (ix + 1) 61 (by omega)
  have uix161 := atv_hi l (ix + 1) 61 (by omega)
  have lix29 := atv_lo l (ix + 2) 9 (by omega)
  have uix29 := atv_hi l (ix + 2) 9 (by omega)
  have lix120001 := atv_lo l (ix + 1) 20001 (by omega)
  have uix120001 := atv_hi l (ix + 1) 20001 (by omega)
  have lix21000 := atv_lo l (ix + 2) 1000 (by omega)
  have uix21000 := atv_hi l (ix + 2) 1000 (by omega)
  repeat first|refine wp_seq ?_|refine wp_block ?_|refine wp_skip ?_|refine wp_exit ?_
  refine rg (BT := [(27, 4, 0)]) (Vl := [VT]) (B := [⟨4, some 0, none, 27, 4, VT, VT⟩]) (SL' := [(0, VI l), (1, Vi (ix))]) st0 ⟨ks, trivial⟩ ?_
  intro a1 w1 st1
  clear st0
  repeat first|refine wp_seq ?_|refine wp_block ?_|refine wp_skip ?_|refine wp_exit ?_
  refine rg (BT := [(27, 4, 0)]) (Vl := [VI l, Vi (ix), Vi (atv l (ix) 8), Vi (atv l (ix) 8)]) (B := [⟨4, none, none, 27, 4, VT, VT⟩]) (SL' := [(0, VI l), (1, Vi (ix)), (5, Vi (atv l (ix) 8))]) st1 ⟨ks, ks, ?s2, ks, trivial⟩ ?_
  case s2 =>
    refine kc fun _ ac Wd h hd => ?_
    obtain ⟨v0, hv0, hV0⟩ := h.dp hd 7
    obtain ⟨v1, hv1, hV1⟩ := h.dp hd 8
    exact ⟨#[v0, v1, .int .i64 (8)], by simp [hv0, hv1, eval_const], cAt (show VI l v0 Wd from hV0) (show Vi (ix) v1 Wd from hV1) (by omega) (by omega) (by omega) (by omega)⟩
  intro a2 w2 st2
  clear st1
  by_cases h7 : atv l ix 8 = 7
  ·
    repeat first|refine wp_seq ?_|refine wp_block ?_|refine wp_skip ?_|refine wp_exit ?_
    refine rg (BT := [(27, 4, 0)]) (Vl := [Vi (atv l (ix) 8), Vb (true)]) (B := [⟨4, none, none, 27, 4, VT, VT⟩]) (SL' := [(0, VI l), (1, Vi (ix)), (5, Vi (atv l (ix) 8)), (11, Vb (true))]) st2 ⟨ks, ?s1, trivial⟩ ?_
    case s1 => refine kr fun _ ac Wd h hd => ?_; obtain ⟨v0, hv0, hV0⟩ := h.dp hd 10; have hV0' : v0 = .int .i64 (atv l (ix) 8) := hV0; exact ⟨_, run_eqi rfl (hv0.trans hV0') rfl, congrArg Value.bool (by rw [h7]; rfl)⟩
    intro a3 w3 st3
    clear st2
    repeat first|refine wp_seq ?_|refine wp_block ?_|refine wp_skip ?_|refine wp_exit ?_
    obtain ⟨vc, hc1, hc2⟩ := st3.slot (11, Vb (true)) (.tail _ (.tail _ (.tail _ (.head _))))
    refine wp_cond_true (hc1.trans hc2) ?_
    clear hc1 hc2
    repeat first|refine wp_seq ?_|refine wp_block ?_|refine wp_skip ?_|refine wp_exit ?_
    refine rg (BT := [(27, 4, 0)]) (Vl := [VI l, Vi (ix), Vi ((ix) + (1)), Vex (fun z => Vz 6 z), VI l, Vi (ix), Vi ((ix) + (9)), Vex (fun z => Vz 6 z), VexQ (fun x => Vq 6 x), VT]) (B := [⟨4, none, some 9, 27, 4, VexQ (fun x => Vq 6 x), VT⟩]) (SL' := [(0, VI l), (1, Vi (ix)), (5, Vi (atv l (ix) 8)), (11, Vb (true))]) st3 ⟨ks, ks, ?s2, ?s3, ks, ks, ?s6, ?s7, ?s8, ks, trivial⟩ ?_
    case s2 => refine kr fun _ ac Wd h hd => ?_; obtain ⟨v0, hv0, hV0⟩ := h.dp hd 13; have hV0' : v0 = .int .i64 (ix) := hV0; exact ⟨_, run_addi rfl (hv0.trans hV0') rfl (wrap_id (by omega) (by omega)), rfl⟩
    case s3 =>
      refine kc fun _ ac Wd h hd => ?_
      obtain ⟨v0, hv0, hV0⟩ := h.dp hd 12
      obtain ⟨v1, hv1, hV1⟩ := h.dp hd 14
      exact ⟨#[v0, v1], by simp [hv0, hv1], cNumberZ (show VI l v0 Wd from hV0) (show Vi ((ix) + (1)) v1 Wd from hV1) (by omega) (by omega)⟩
    case s6 => refine kr fun _ ac Wd h hd => ?_; obtain ⟨v0, hv0, hV0⟩ := h.dp hd 17; have hV0' : v0 = .int .i64 (ix) := hV0; exact ⟨_, run_addi rfl (hv0.trans hV0') rfl (wrap_id (by omega) (by omega)), rfl⟩
    case s7 =>
      refine kc fun _ ac Wd h hd => ?_
      obtain ⟨v0, hv0, hV0⟩ := h.dp hd 16
      obtain ⟨v1, hv1, hV1⟩ := h.dp hd 18
      exact ⟨#[v0, v1], by simp [hv0, hv1], cNumberZ (show VI l v0 Wd from hV0) (show Vi ((ix) + (9)) v1 Wd from hV1) (by omega) (by omega)⟩
    case s8 =>
      refine kc fun _ ac Wd h hd => ?_
      obtain ⟨v0, hv0, hV0⟩ := h.dp hd 15
      obtain ⟨v1, hv1, hV1⟩ := h.dp hd 19
      exact ⟨#[v0, v1], by simp [hv0, hv1], cR4MakeX (show Vex (fun z => Vz 6 z) v0 Wd from hV0) (show Vex (fun z => Vz 6 z) v1 Wd from hV1)⟩
    intro a4 w4 st4
    clear st3
    repeat first|refine wp_seq ?_|refine wp_block ?_|refine wp_skip ?_|refine wp_exit ?_
    obtain ⟨g, cs, r1, r2, r3, r4, r5⟩ := st4.res ⟨4, none, none, 27, 4, VexQ (fun x => Vq 6 x), VT⟩ (.head _) rfl rfl
    exact wp_ret (bodyPost_ret (results_cell_row rfl _ _ g 27 cs (0, 0) _ r1 r2 Tryz.underlying27 rfl (by rw [r3]; exact size_Rat)) st4.defers ⟨_, rfl, r4, r5⟩)
  ·
    repeat first|refine wp_seq ?_|refine wp_block ?_|refine wp_skip ?_|refine wp_exit ?_
    refine rg (BT := [(27, 4, 0)]) (Vl := [Vi (atv l (ix) 8), Vb (false)]) (B := [⟨4, none, none, 27, 4, VT, VT⟩]) (SL' := [(0, VI l), (1, Vi (ix)), (5, Vi (atv l (ix) 8)), (11, Vb (false))]) st2 ⟨ks, ?s1, trivial⟩ ?_
    case s1 =>
      refine kr fun _ ac Wd h hd => ?_
      obtain ⟨v0, hv0, hV0⟩ := h.dp hd 10
      have hV0' : v0 = .int .i64 (atv l (ix) 8) := hV0
      exact ⟨_, run_eqi rfl (hv0.trans hV0') rfl, congrArg Value.bool (by rw [beq_eq_false_iff_ne]; exact h7)⟩
    intro a3 w3 st3
    clear st2
    repeat first|refine wp_seq ?_|refine wp_block ?_|refine wp_skip ?_|refine wp_exit ?_
    obtain ⟨vc, hc1, hc2⟩ := st3.slot (11, Vb (false)) (.tail _ (.tail _ (.tail _ (.head _))))
    refine wp_cond_false (hc1.trans hc2) ?_
    clear hc1 hc2
    repeat first|refine wp_seq ?_|refine wp_block ?_|refine wp_skip ?_|refine wp_exit ?_
    refine rg (BT := [(27, 4, 0)]) (Vl := [VI l, Vi (ix), Vi ((ix) + (1)), Vi (atv l ((ix) + (1)) 61), Vi ((atv l ((ix) + (1)) 61) - (30)), Vi ((atv l ((ix) + (1)) 61) - (30))]) (B := [⟨4, none, none, 27, 4, VT, VT⟩]) (SL' := [(0, VI l), (1, Vi (ix)), (5, Vi (atv l (ix) 8)), (11, Vb (false)), (6, Vi ((atv l ((ix) + (1)) 61) - (30)))]) st3 ⟨ks, ks, ?s2, ?s3, ?s4, ks, trivial⟩ ?_
    case s2 => refine kr fun _ ac Wd h hd => ?_; obtain ⟨v0, hv0, hV0⟩ := h.dp hd 22; have hV0' : v0 = .int .i64 (ix) := hV0; exact ⟨_, run_addi rfl (hv0.trans hV0') rfl (wrap_id (by omega) (by omega)), rfl⟩
    case s3 =>
      refine kc fun _ ac Wd h hd => ?_
      obtain ⟨v0, hv0, hV0⟩ := h.dp hd 21
      obtain ⟨v1, hv1, hV1⟩ := h.dp hd 23
      exact ⟨#[v0, v1, .int .i64 (61)], by simp [hv0, hv1, eval_const], cAt (show VI l v0 Wd from hV0) (show Vi ((ix) + (1)) v1 Wd from hV1) (by omega) (by omega) (by omega) (by omega)⟩
    case s4 =>
      refine kr fun _ ac Wd h hd => ?_
      obtain ⟨v0, hv0, hV0⟩ := h.dp hd 24
      have hV0' : v0 = .int .i64 (atv l ((ix) + (1)) 61) := hV0
      exact ⟨_, run_subi rfl (hv0.trans hV0') rfl (wrap_id (by omega) (by omega)), rfl⟩
    intro a4 w4 st4
    clear st3
    by_cases h2 : atv l ix 8 < 2
    ·
      repeat first|refine wp_seq ?_|refine wp_block ?_|refine wp_skip ?_|refine wp_exit ?_
      refine rg (BT := [(27, 4, 0)]) (Vl := [Vi (atv l (ix) 8), Vb (true)]) (B := [⟨4, none, none, 27, 4, VT, VT⟩]) (SL' := [(0, VI l), (1, Vi (ix)), (5, Vi (atv l (ix) 8)), (11, Vb (false)), (6, Vi ((atv l ((ix) + (1)) 61) - (30))), (27, Vb (true))]) st4 ⟨ks, ?s1, trivial⟩ ?_
      case s1 =>
        refine kr fun _ ac Wd h hd => ?_
        obtain ⟨v0, hv0, hV0⟩ := h.dp hd 26
        have hV0' : v0 = .int .i64 (atv l (ix) 8) := hV0
        exact ⟨_, run_lssi rfl (hv0.trans hV0') rfl, congrArg Value.bool (decide_eq_true h2)⟩
      intro a5 w5 st5
      clear st4
      repeat first|refine wp_seq ?_|refine wp_block ?_|refine wp_skip ?_|refine wp_exit ?_
      obtain ⟨vc, hc1, hc2⟩ := st5.slot (27, Vb (true)) (.tail _ (.tail _ (.tail _ (.tail _ (.tail _ (.head _))))))
      refine wp_cond_true (hc1.trans hc2) ?_
      clear hc1 hc2
      repeat first|refine wp_seq ?_|refine wp_block ?_|refine wp_skip ?_|refine wp_exit ?_
      refine rg (BT := [(27, 4, 0)]) (Vl := [Vi ((atv l ((ix) + (1)) 61) - (30)), Vq 3 (Rat.divInt ((atv l ((ix) + (1)) 61) - (30)) (1)), VT]) (B := [⟨4, none, some 2, 27, 4, Vq 3 (Rat.divInt ((atv l ((ix) + (1)) 61) - (30)) (1)), VT⟩]) (SL' := [(0, VI l), (1, Vi (ix)), (5, Vi (atv l (ix) 8)), (11, Vb (false)), (6, Vi ((atv l ((ix) + (1)) 61) - (30))), (27, Vb (true))]) st5 ⟨ks, ?s1, ks, trivial⟩ ?_
      case s1 =>
        refine kc fun _ ac Wd h hd => ?_
        obtain ⟨v0, hv0, hV0⟩ := h.dp hd 28
        exact ⟨#[v0, .int .i64 (1)], by simp [hv0, eval_const], cR4Of (show Vi ((atv l ((ix) + (1)) 61) - (30)) v0 Wd from hV0) (show Vi (1) (.int .i64 (1)) Wd from rfl) (by omega) (by omega) (by omega) (by omega)⟩
      intro a6 w6 st6
      clear st5
      repeat first|refine wp_seq ?_|refine wp_block ?_|refine wp_skip ?_|refine wp_exit ?_
      obtain ⟨g, cs, r1, r2, r3, r4, r5⟩ := st6.res ⟨4, none, none, 27, 4, Vq 3 (Rat.divInt ((atv l ((ix) + (1)) 61) - (30)) (1)), VT⟩ (.head _) rfl rfl
      exact wp_ret (bodyPost_ret (results_cell_row rfl _ _ g 27 cs (0, 0) _ r1 r2 Tryz.underlying27 rfl (by rw [r3]; exact size_Rat)) st6.defers ⟨_, rfl, ⟨_, Vq_le r4 (by omega)⟩, r5⟩)
    ·
      repeat first|refine wp_seq ?_|refine wp_block ?_|refine wp_skip ?_|refine wp_exit ?_
      refine rg (BT := [(27, 4, 0)]) (Vl := [Vi (atv l (ix) 8), Vb (false)]) (B := [⟨4, none, none, 27, 4, VT, VT⟩]) (SL' := [(0, VI l), (1, Vi (ix)), (5, Vi (atv l (ix) 8)), (11, Vb (false)), (6, Vi ((atv l ((ix) + (1)) 61) - (30))), (27, Vb (false))]) st4 ⟨ks, ?s1, trivial⟩ ?_
      case s1 =>
        refine kr fun _ ac Wd h hd => ?_
        obtain ⟨v0, hv0, hV0⟩ := h.dp hd 26
        have hV0' : v0 = .int .i64 (atv l (ix) 8) := hV0
        exact ⟨_, run_lssi rfl (hv0.trans hV0') rfl, congrArg Value.bool (decide_eq_false h2)⟩
      intro a5 w5 st5
      clear st4
      repeat first|refine wp_seq ?_|refine wp_block ?_|refine wp_skip ?_|refine wp_exit ?_
      obtain ⟨vc, hc1, hc2⟩ := st5.slot (27, Vb (false)) (.tail _ (.tail _ (.tail _ (.tail _ (.tail _ (.head _))))))
      refine wp_cond_false (hc1.trans hc2) ?_
      clear hc1 hc2
      by_cases h4 : atv l ix 8 < 4
      ·
        repeat first|refine wp_seq ?_|refine wp_block ?_|refine wp_skip ?_|refine wp_exit ?_
        refine rg (BT := [(27, 4, 0)]) (Vl := [Vi (atv l (ix) 8), Vb (true)]) (B := [⟨4, none, none, 27, 4, VT, VT⟩]) (SL' := [(0, VI l), (1, Vi (ix)), (5, Vi (atv l (ix) 8)), (11, Vb (false)), (6, Vi ((atv l ((ix) + (1)) 61) - (30))), (27, Vb (false)), (31, Vb (true))]) st5 ⟨ks, ?s1, trivial⟩ ?_
        case s1 =>
          refine kr fun _ ac Wd h hd => ?_
          obtain ⟨v0, hv0, hV0⟩ := h.dp hd 30
          have hV0' : v0 = .int .i64 (atv l (ix) 8) := hV0
          exact ⟨_, run_lssi rfl (hv0.trans hV0') rfl, congrArg Value.bool (decide_eq_true h4)⟩
        intro a6 w6 st6
        clear st5
        repeat first|refine wp_seq ?_|refine wp_block ?_|refine wp_skip ?_|refine wp_exit ?_
        obtain ⟨vc, hc1, hc2⟩ := st6.slot (31, Vb (true)) (.tail _ (.tail _ (.tail _ (.tail _ (.tail _ (.tail _ (.head _)))))))
        refine wp_cond_true (hc1.trans hc2) ?_
        clear hc1 hc2
        repeat first|refine wp_seq ?_|refine wp_block ?_|refine wp_skip ?_|refine wp_exit ?_
        refine rg (BT := [(27, 4, 0)]) (Vl := [Vi ((atv l ((ix) + (1)) 61) - (30)), VI l, Vi (ix), Vi ((ix) + (2)), Vi (atv l ((ix) + (2)) 9), Vi ((1) + (atv l ((ix) + (2)) 9)), Vq 3 (Rat.divInt ((atv l ((ix) + (1)) 61) - (30)) ((1) + (atv l ((ix) + (2)) 9))), VT]) (B := [⟨4, none, some 7, 27, 4, Vq 3 (Rat.divInt ((atv l ((ix) + (1)) 61) - (30)) ((1) + (atv l ((ix) + (2)) 9))), VT⟩]) (SL' := [(0, VI l), (1, Vi (ix)), (5, Vi (atv l (ix) 8)), (11, Vb (false)), (6, Vi ((atv l ((ix) + (1)) 61) - (30))), (27, Vb (false)), (31, Vb (true))]) st6 ⟨ks, ks, ks, ?s3, ?s4, ?s5, ?s6, ks, trivial⟩ ?_
        case s3 => refine kr fun _ ac Wd h hd => ?_; obtain ⟨v0, hv0, hV0⟩ := h.dp hd 34; have hV0' : v0 = .int .i64 (ix) := hV0; exact ⟨_, run_addi rfl (hv0.trans hV0') rfl (wrap_id (by omega) (by omega)), rfl⟩
        case s4 =>
          refine kc fun _ ac Wd h hd => ?_
          obtain ⟨v0, hv0, hV0⟩ := h.dp hd 33
          obtain ⟨v1, hv1, hV1⟩ := h.dp hd 35
          exact ⟨#[v0, v1, .int .i64 (9)], by simp [hv0, hv1, eval_const], cAt (show VI l v0 Wd from hV0) (show Vi ((ix) + (2)) v1 Wd from hV1) (by omega) (by omega) (by omega) (by omega)⟩
        case s5 =>
          refine kr fun _ ac Wd h hd => ?_
          obtain ⟨v1, hv1, hV1⟩ := h.dp hd 36
          have hV1' : v1 = .int .i64 (atv l ((ix) + (2)) 9) := hV1
          exact ⟨_, run_addi rfl rfl (hv1.trans hV1') (wrap_id (by omega) (by omega)), rfl⟩
        case s6 =>
          refine kc fun _ ac Wd h hd => ?_
          obtain ⟨v0, hv0, hV0⟩ := h.dp hd 32
          obtain ⟨v1, hv1, hV1⟩ := h.dp hd 37
          exact ⟨#[v0, v1], by simp [hv0, hv1], cR4Of (show Vi ((atv l ((ix) + (1)) 61) - (30)) v0 Wd from hV0) (show Vi ((1) + (atv l ((ix) + (2)) 9)) v1 Wd from hV1) (by omega) (by omega) (by omega) (by omega)⟩
        intro a7 w7 st7
        clear st6
        repeat first|refine wp_seq ?_|refine wp_block ?_|refine wp_skip ?_|refine wp_exit ?_
        obtain ⟨g, cs, r1, r2, r3, r4, r5⟩ := st7.res ⟨4, none, none, 27, 4, Vq 3 (Rat.divInt ((atv l ((ix) + (1)) 61) - (30)) ((1) + (atv l ((ix) + (2)) 9))), VT⟩ (.head _) rfl rfl
        exact wp_ret (bodyPost_ret (results_cell_row rfl _ _ g 27 cs (0, 0) _ r1 r2 Tryz.underlying27 rfl (by rw [r3]; exact size_Rat)) st7.defers ⟨_, rfl, ⟨_, Vq_le r4 (by omega)⟩, r5⟩)
      ·
        repeat first|refine wp_seq ?_|refine wp_block ?_|refine wp_skip ?_|refine wp_exit ?_
        refine rg (BT := [(27, 4, 0)]) (Vl := [Vi (atv l (ix) 8), Vb (false)]) (B := [⟨4, none, none, 27, 4, VT, VT⟩]) (SL' := [(0, VI l), (1, Vi (ix)), (5, Vi (atv l (ix) 8)), (11, Vb (false)), (6, Vi ((atv l ((ix) + (1)) 61) - (30))), (27, Vb (false)), (31, Vb (false))]) st5 ⟨ks, ?s1, trivial⟩ ?_
        case s1 =>
          refine kr fun _ ac Wd h hd => ?_
          obtain ⟨v0, hv0, hV0⟩ := h.dp hd 30
          have hV0' : v0 = .int .i64 (atv l (ix) 8) := hV0
          exact ⟨_, run_lssi rfl (hv0.trans hV0') rfl, congrArg Value.bool (decide_eq_false h4)⟩
        intro a6 w6 st6
        clear st5
        repeat first|refine wp_seq ?_|refine wp_block ?_|refine wp_skip ?_|refine wp_exit ?_
        obtain ⟨vc, hc1, hc2⟩ := st6.slot (31, Vb (false)) (.tail _ (.tail _ (.tail _ (.tail _ (.tail _ (.tail _ (.head _)))))))
        refine wp_cond_false (hc1.trans hc2) ?_
        clear hc1 hc2
        repeat first|refine wp_seq ?_|refine wp_block ?_|refine wp_skip ?_|refine wp_exit ?_
        refine rg (BT := [(27, 4, 0)]) (Vl := [VI l, Vi (ix), Vi ((ix) + (1)), Vi (atv l ((ix) + (1)) 20001), Vi ((atv l ((ix) + (1)) 20001) - (10000)), VI l, Vi (ix), Vi ((ix) + (2)), Vi (atv l ((ix) + (2)) 1000), Vi ((1) + (atv l ((ix) + (2)) 1000)), Vq 3 (Rat.divInt ((atv l ((ix) + (1)) 20001) - (10000)) ((1) + (atv l ((ix) + (2)) 1000))), VT]) (B := [⟨4, none, some 11, 27, 4, Vq 3 (Rat.divInt ((atv l ((ix) + (1)) 20001) - (10000)) ((1) + (atv l ((ix) + (2)) 1000))), VT⟩]) (SL' := [(0, VI l), (1, Vi (ix)), (5, Vi (atv l (ix) 8)), (11, Vb (false)), (6, Vi ((atv l ((ix) + (1)) 61) - (30))), (27, Vb (false)), (31, Vb (false))]) st6 ⟨ks, ks, ?s2, ?s3, ?s4, ks, ks, ?s7, ?s8, ?s9, ?s10, ks, trivial⟩ ?_
        case s2 => refine kr fun _ ac Wd h hd => ?_; obtain ⟨v0, hv0, hV0⟩ := h.dp hd 40; have hV0' : v0 = .int .i64 (ix) := hV0; exact ⟨_, run_addi rfl (hv0.trans hV0') rfl (wrap_id (by omega) (by omega)), rfl⟩
        case s3 =>
          refine kc fun _ ac Wd h hd => ?_
          obtain ⟨v0, hv0, hV0⟩ := h.dp hd 39
          obtain ⟨v1, hv1, hV1⟩ := h.dp hd 41
          exact ⟨#[v0, v1, .int .i64 (20001)], by simp [hv0, hv1, eval_const], cAt (show VI l v0 Wd from hV0) (show Vi ((ix) + (1)) v1 Wd from hV1) (by omega) (by omega) (by omega) (by omega)⟩
        case s4 =>
          refine kr fun _ ac Wd h hd => ?_
          obtain ⟨v0, hv0, hV0⟩ := h.dp hd 42
          have hV0' : v0 = .int .i64 (atv l ((ix) + (1)) 20001) := hV0
          exact ⟨_, run_subi rfl (hv0.trans hV0') rfl (wrap_id (by omega) (by omega)), rfl⟩
        case s7 => refine kr fun _ ac Wd h hd => ?_; obtain ⟨v0, hv0, hV0⟩ := h.dp hd 45; have hV0' : v0 = .int .i64 (ix) := hV0; exact ⟨_, run_addi rfl (hv0.trans hV0') rfl (wrap_id (by omega) (by omega)), rfl⟩
        case s8 =>
          refine kc fun _ ac Wd h hd => ?_
          obtain ⟨v0, hv0, hV0⟩ := h.dp hd 44
          obtain ⟨v1, hv1, hV1⟩ := h.dp hd 46
          exact ⟨#[v0, v1, .int .i64 (1000)], by simp [hv0, hv1, eval_const], cAt (show VI l v0 Wd from hV0) (show Vi ((ix) + (2)) v1 Wd from hV1) (by omega) (by omega) (by omega) (by omega)⟩
        case s9 =>
          refine kr fun _ ac Wd h hd => ?_
          obtain ⟨v1, hv1, hV1⟩ := h.dp hd 47
          have hV1' : v1 = .int .i64 (atv l ((ix) + (2)) 1000) := hV1
          exact ⟨_, run_addi rfl rfl (hv1.trans hV1') (wrap_id (by omega) (by omega)), rfl⟩
        case s10 =>
          refine kc fun _ ac Wd h hd => ?_
          obtain ⟨v0, hv0, hV0⟩ := h.dp hd 43
          obtain ⟨v1, hv1, hV1⟩ := h.dp hd 48
          exact ⟨#[v0, v1], by simp [hv0, hv1], cR4Of (show Vi ((atv l ((ix) + (1)) 20001) - (10000)) v0 Wd from hV0) (show Vi ((1) + (atv l ((ix) + (2)) 1000)) v1 Wd from hV1) (by omega) (by omega) (by omega) (by omega)⟩
        intro a7 w7 st7
        clear st6
        repeat first|refine wp_seq ?_|refine wp_block ?_|refine wp_skip ?_|refine wp_exit ?_
        obtain ⟨g, cs, r1, r2, r3, r4, r5⟩ := st7.res ⟨4, none, none, 27, 4, Vq 3 (Rat.divInt ((atv l ((ix) + (1)) 20001) - (10000)) ((1) + (atv l ((ix) + (2)) 1000))), VT⟩ (.head _) rfl rfl
        exact wp_ret (bodyPost_ret (results_cell_row rfl _ _ g 27 cs (0, 0) _ r1 r2 Tryz.underlying27 rfl (by rw [r3]; exact size_Rat)) st7.defers ⟨_, rfl, ⟨_, Vq_le r4 (by omega)⟩, r5⟩)
set_option maxRecDepth 100000 in
set_option maxHeartbeats 1600000 in
theorem cL4Same {w : World} {N : Nat} {a b : Rat} {v0 v1 : Value} (h0 : Vq N (a) v0 w) (h1 : Vq N (b) v1 w) (hN : N ≤ 100000) : Calls Tryz.prog 18 #[v0, v1] w (RV (Vb (decide (a = b))) w) := by
  go_enter Tryz.func18, Tryz.ntmps18
  have st0 : St w.heap.size w 8 [] [(0, Vq N (a)), (1, Vq N (b))] _ w := St.begin (a := ⟨#[v0, v1, undef, undef, undef, undef, undef, undef], []⟩) rfl rfl (List.forall_mem_cons.2 ⟨⟨_, rfl, h0⟩, (List.forall_mem_cons.2 ⟨⟨_, rfl, h1⟩, (fun _ h => absurd h (by simp))⟩)⟩)
  generalize (⟨#[v0, v1, undef, undef, undef, undef, undef, undef], []⟩ : Act) = a0 at st0 ⊢
  repeat first|refine wp_seq ?_|refine wp_block ?_|refine wp_skip ?_|refine wp_exit ?_
  refine rg (BT := []) (Vl := [VT, VT, Vb (false)]) (B := [⟨2, some 0, some 0, 27, 4, Vq N (a), VT⟩, ⟨3, some 1, some 1, 27, 4, Vq N (b), VT⟩]) (SL' := [(4, Vb (false))]) st0 ⟨ks, ks, ks, trivial⟩ ?_
  intro a1 w1 st1
  clear st0
  repeat first|refine wp_seq ?_|refine wp_block ?_|refine wp_skip ?_|refine wp_exit ?_
  refine rg (BT := []) (Vl := [Vq N (a), Vq N (b), Vb (decide ((a) = (b))), Vb (decide ((a) = (b)))]) (B := [⟨2, none, none, 27, 4, Vq N (a), VT⟩, ⟨3, none, none, 27, 4, Vq N (b), VT⟩]) (SL' := [(4, Vb (decide ((a) = (b))))]) st1 ⟨ks, ks, ?s2, ks, trivial⟩ ?_
  case s2 =>
    refine kc fun _ ac Wd h hd => ?_
    obtain ⟨v0, hv0, hV0⟩ := h.dp hd 5
    obtain ⟨v1, hv1, hV1⟩ := h.dp hd 6
    exact ⟨#[v0, v1], by simp [hv0, hv1], cR4Same (show Vq N (a) v0 Wd from hV0) (show Vq N (b) v1 Wd from hV1) (by omega)⟩
  intro a2 w2 st2
  clear st1
  repeat first|refine wp_seq ?_|refine wp_block ?_|refine wp_skip ?_|refine wp_exit ?_
  obtain ⟨vr, r1, r4⟩ := st2.slot (4, Vb (decide ((a) = (b)))) (.head _)
  exact wp_ret (bodyPost_ret (results_tmp rfl _ _ _) st2.defers ⟨_, congrArg Ending.returned (show _ = vr from r1), r4, st2.k.below⟩)
set_option maxRecDepth 100000 in
set_option maxHeartbeats 1600000 in
theorem cL4Between {w : World} {M : Nat} {p1 q1 p2 q2 : Int} {r : Rat} {v0 v1 v2 v3 : Value} (h0 : Vi (p1) v0 w) (h1 : Vi (q1) v1 w) (h2 : Vi (p2) v2 w) (h3 : Vi (q2) v3 w) (hp1a : -9223372036854775808 ≤ p1) (hp1b : p1 ≤ 9223372036854775807) (hq1a : -9223372036854775808 ≤ q1) (hq1b : q1 ≤ 9223372036854775807) (hp2a : -9223372036854775808 ≤ p2) (hp2b : p2 ≤ 9223372036854775807) (hq2a : -9223372036854775808 ≤ q2) (hq2b : q2 ≤ 9223372036854775807) (hb : ∀ (W : World) (v0 v1 : Value), Vq 3 (Rat.divInt p1 q1) v0 W → Vq 3 (Rat.divInt p2 q2) v1 W → Calls Tryz.prog 51 #[v0, v1] W (RV (VTup (Vq M r) (Vi 0)) W)) : Calls Tryz.prog 86 #[v0, v1, v2, v3] w (RV (Vq M r) w) := by
  go_enter Tryz.func86, Tryz.ntmps86
  have st0 : St w.heap.size w 22 [] [(0, Vi (p1)), (1, Vi (q1)), (2, Vi (p2)), (3, Vi (q2))] _ w := St.begin (a := ⟨#[v0, v1, v2, v3, undef, undef, undef, undef, undef, undef, undef, undef, undef, undef, undef, undef, undef, undef, undef, undef, undef, undef], []⟩) rfl rfl (List.forall_mem_cons.2 ⟨⟨_, rfl, h0⟩, (List.forall_mem_cons.2 ⟨⟨_, rfl, h1⟩, (List.forall_mem_cons.2 ⟨⟨_, rfl, h2⟩, (List.forall_mem_cons.2 ⟨⟨_, rfl, h3⟩, (fun _ h => absurd h (by simp))⟩)⟩)⟩)⟩)
  generalize (⟨#[v0, v1, v2, v3, undef, undef, undef, undef, undef, undef, undef, undef, undef, undef, undef, undef, undef, undef, undef, undef, undef, undef], []⟩ : Act) = a0 at st0 ⊢
  repeat first|refine wp_seq ?_|refine wp_block ?_|refine wp_skip ?_|refine wp_exit ?_
  refine rg (BT := [(27, 4, 0)]) (Vl := [VT]) (B := [⟨8, some 0, none, 27, 4, VT, VT⟩]) (SL' := [(0, Vi (p1)), (1, Vi (q1)), (2, Vi (p2)), (3, Vi (q2))]) st0 ⟨ks, trivial⟩ ?_
  intro a1 w1 st1
  clear st0
  repeat first|refine wp_seq ?_|refine wp_block ?_|refine wp_skip ?_|refine wp_exit ?_
  refine rg (BT := [(27, 4, 0)]) (Vl := [Vi (p1), Vi (q1), Vq 3 (Rat.divInt (p1) (q1)), Vi (p2), Vi (q2), Vq 3 (Rat.divInt (p2) (q2)), VTup (Vq M (r)) (Vi (0)), VTup (Vq M (r)) (Vi (0)), Vq M (r), Vi (0), VT, VT, Vi (0)]) (B := [⟨8, none, none, 27, 4, VT, VT⟩, ⟨9, some 10, some 11, 27, 4, Vq M (r), VT⟩]) (SL' := []) st1 ⟨ks, ks, ?s2, ks, ks, ?s5, ?s6, ks, ks, ks, ks, ks, ks, trivial⟩ ?_
  case s2 =>
    refine kc fun _ ac Wd h hd => ?_
    obtain ⟨v0, hv0, hV0⟩ := h.dp hd 12
    obtain ⟨v1, hv1, hV1⟩ := h.dp hd 13
    exact ⟨#[v0, v1], by simp [hv0, hv1], cQOf (show Vi (p1) v0 Wd from hV0) (show Vi (q1) v1 Wd from hV1) (by omega) (by omega) (by omega) (by omega)⟩
  case s5 =>
    refine kc fun _ ac Wd h hd => ?_
    obtain ⟨v0, hv0, hV0⟩ := h.dp hd 15
    obtain ⟨v1, hv1, hV1⟩ := h.dp hd 16
    exact ⟨#[v0, v1], by simp [hv0, hv1], cQOf (show Vi (p2) v0 Wd from hV0) (show Vi (q2) v1 Wd from hV1) (by omega) (by omega) (by omega) (by omega)⟩
  case s6 =>
    refine kc fun _ ac Wd h hd => ?_
    obtain ⟨v0, hv0, hV0⟩ := h.dp hd 14
    obtain ⟨v1, hv1, hV1⟩ := h.dp hd 17
    exact ⟨#[v0, v1], by simp [hv0, hv1], hb _ _ _ (show Vq 3 (Rat.divInt (p1) (q1)) v0 Wd from hV0) (show Vq 3 (Rat.divInt (p2) (q2)) v1 Wd from hV1)⟩
  intro a2 w2 st2
  clear st1
  repeat first|refine wp_seq ?_|refine wp_block ?_|refine wp_skip ?_|refine wp_exit ?_
  refine rg (BT := [(27, 4, 0)]) (Vl := [Vq M (r), VT]) (B := [⟨8, none, some 1, 27, 4, Vq M (r), VT⟩, ⟨9, none, none, 27, 4, Vq M (r), VT⟩]) (SL' := []) st2 ⟨ks, ks, trivial⟩ ?_
  intro a3 w3 st3
  clear st2
  repeat first|refine wp_seq ?_|refine wp_block ?_|refine wp_skip ?_|refine wp_exit ?_
  obtain ⟨g, cs, r1, r2, r3, r4, r5⟩ := st3.res ⟨8, none, none, 27, 4, Vq M (r), VT⟩ (.head _) rfl rfl
  exact wp_ret (bodyPost_ret (results_cell_row rfl _ _ g 27 cs (0, 0) _ r1 r2 Tryz.underlying27 rfl (by rw [r3]; exact size_Rat)) st3.defers ⟨_, rfl, r4, r5⟩)
end Go.Proofs.YtleijkgdpmfabaaGreatDoor
