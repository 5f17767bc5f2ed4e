/- RatMakes: the walk. -/
import Derived.Test.YtleijkgdpmfabaaGreatDoorQX1
import Derived.Test.YtleijkgdpmfabaaGreatDoorQT17
set_option linter.unusedVariables false
namespace Go.Proofs.YtleijkgdpmfabaaGreatDoor
open Go.RowKit

theorem St.exI {n0 N : Nat} {w0 : World} {L1 L2 : List Bd} {t : Nat} {T : TypeId} {m : Nat} {F : Int → VP} {SL : List (Nat × VP)} {a : Act} {w : World} (h : St n0 w0 N (L1 ++ ⟨t, none, none, T, m, Vex F, VT⟩ :: L2) SL a w) : ∃ z, St n0 w0 N (L1 ++ ⟨t, none, none, T, m, F z, VT⟩ :: L2) SL a w := by
  obtain ⟨g, cs, f1, f2, f3, f4, f5, f6, f7⟩ := h.k.ok ⟨t, none, none, T, m, Vex F, VT⟩ (by simp) rfl
  obtain ⟨z, hz⟩ := f6 rfl
  refine ⟨z, ⟨⟨h.k.below, fun b hb hon => ?_, fun b hb c hc hne h1 h2 => ?_, fun b hb hn hk => ?_⟩, h.n, h.size, h.defers, h.sl⟩⟩
  · simp only [List.mem_append, List.mem_cons] at hb
    rcases hb with hb | rfl | hb
    · exact h.k.ok b (by simp [hb]) hon
    · exact ⟨g, cs, f1, f2, f3, f4, f5, fun _ => hz, fun _ hk => by cases hk⟩
    · exact h.k.ok b (by simp [hb]) hon
  · have key : ∀ x ∈ L1 ++ (⟨t, none, none, T, m, F z, VT⟩ : Bd) :: L2, ∃ y ∈ L1 ++ (⟨t, none, none, T, m, Vex F, VT⟩ : Bd) :: L2, y.t = x.t ∧ y.ia = x.ia := by
      intro x hx
      simp only [List.mem_append, List.mem_cons] at hx
      rcases hx with hx | rfl | hx
      · exact ⟨x, by simp [hx], rfl, rfl⟩
      · exact ⟨⟨t, none, none, T, m, Vex F, VT⟩, by simp, rfl, rfl⟩
      · exact ⟨x, by simp [hx], rfl, rfl⟩
    obtain ⟨b', hb', e1, e2⟩ := key b hb
    obtain ⟨c', hc', e3, e4⟩ := key c hc
    rw [← e1, ← e3]
    exact h.k.ne b' hb' c' hc' (by rw [e1, e3]; exact hne) (by rw [e2]; exact h1) (by rw [e4]; exact h2)
  · simp only [List.mem_append, List.mem_cons] at hb
    rcases hb with hb | rfl | hb
    · exact h.k.fa b (by simp [hb]) hn hk
    · exact absurd rfl hn
    · exact h.k.fa b (by simp [hb]) hn hk
theorem VP2_nm {N M : Nat} {x y : Int} {v : Value} {w : World} (h : VP2 2 2 (Vz N x) (Vz M y) v w) (h1 : N ≤ 20) (h2 : M ≤ 20) : VNm 20 (.inl (x, y)) v w :=
  VP2_le h (fun _ h => Vz_le h h1) (fun _ h => Vz_le h h2)
theorem raw_nm (x : Int) (nb : Bool) (l : List Int) : ∃ z, ∀ (v : Value) (w : World), VP2 2 2 (Vz 6 x) (VZr 5 nb l) v w → VNm 20 z v w := by
  by_cases hv : vld nb l = true
  · refine ⟨.inl (x, sg nb (val l)), fun v w h => VP2_le h (fun _ h => Vz_le h (by omega)) (fun _ h => Vz_le (VZr_val h hv) (by omega))⟩
  · refine ⟨.inr (x, nb, l), fun v w h => ⟨VP2_le h (fun _ h => Vz_le h (by omega)) (fun _ h => ?_), by simpa using hv⟩⟩
    obtain ⟨p, n, c, h1, h2, h3, h4, h5, h6⟩ := h
    exact ⟨p, n, c, h1, h2, h3, h4, h5, by omega⟩
theorem build_IntDN {ρ : Operand → Value} {o : Oper} {W : World} {x y : Operand} {va vb : Value} {N : Nat} {nb : Bool} {l : List Int} (ho : o.op = .build 24 #[(0, x), (1, y)]) (hx : ρ x = va) (h1 : Vb nb va W) (hy : ρ y = vb) (h2 : VLn N l vb W) : ∃ v, (execOp ρ o).run Tryz.prog W = .ok (.value v) W ∧ VZr N nb l v W := by
  obtain ⟨p, n, c, rfl, h3⟩ := h2
  obtain rfl : va = _ := h1
  refine ⟨.agg #[.bool nb, .slice p n c], ?_, ⟨p, n, c, rfl, h3⟩⟩
  obtain ⟨dd, op, ty, ps, af, gd⟩ := o
  subst ho
  go_simp
theorem build_Rat2 {ρ : Operand → Value} {o : Oper} {W : World} {x : Operand} {va : Value} {A : VP} (N : Nat) (ho : o.op = .build 27 #[(1, x)]) (hx : ρ x = va) (hA : AggV 2 A) (h1 : A va W) : ∃ v, (execOp ρ o).run Tryz.prog W = .ok (.value v) W ∧ VP2 2 2 (Vz N 0) A v W := by
  obtain ⟨cx, rfl, e1, -⟩ := hA _ _ h1
  obtain ⟨a, b, rfl⟩ := arr2 e1
  refine ⟨.agg (#[.bool false, .slice none 0 0] ++ #[a, b]), ?_, ⟨_, _, rfl, rfl, rfl, ⟨_, _, _, _, rfl, IntAt_zero _ _ _ (by omega), by omega⟩, h1⟩⟩
  obtain ⟨dd, op, ty, ps, af, gd⟩ := o
  subst ho
  go_simp

set_option maxRecDepth 100000 in
set_option maxHeartbeats 1600000 in
theorem walkRatMakes {w : World} {p q : Int} {l m d : List Int} {neg : Bool} {v0 v1 v2 v3 v4 v5 : Value} (h0 : Vi (p) v0 w) (h1 : Vi (q) v1 w) (h2 : VI l v2 w) (h3 : VI m v3 w) (h4 : VIc d v4 w) (h5 : Vb (neg) v5 w) (hp0 : -9223372036854775808 ≤ p) (hp1 : p ≤ 9223372036854775807) (hq0 : -9223372036854775808 ≤ q) (hq1 : q ≤ 9223372036854775807) (hT : Tb w) : Calls Tryz.prog 3 #[v0, v1, v2, v3, v4, v5] w (RV (Vb true) w) := by
  go_enter Tryz.func3, Tryz.ntmps3
  have st0 : St w.heap.size w 93 [] [(0, Vi (p)), (1, Vi (q)), (2, VI l), (3, VI m), (4, VIc d), (5, Vb (neg))] _ w := St.begin (a := ⟨#[v0, v1, v2, v3, v4, v5, undef, undef, undef, undef, undef, undef, undef, undef, undef, undef, undef, undef, undef, undef, undef, undef, undef, undef, undef, undef, undef, undef, undef, undef, undef, undef, undef, undef, undef, undef, undef, undef, undef, undef, undef, undef, undef, undef, undef, undef, undef, undef, undef, undef, undef, undef, undef, undef, undef, undef, undef, undef, undef, undef, undef, undef, undef, undef, undef, undef, undef, undef, undef, undef, undef, undef, undef, undef, undef, undef, undef, undef, undef, undef, undef, undef, undef, undef, undef, undef, undef, undef, undef, undef, undef, undef, undef], []⟩) rfl rfl (List.forall_mem_cons.2 ⟨⟨_, rfl, h0⟩, (List.forall_mem_cons.2 ⟨⟨_, rfl, h1⟩, (List.forall_mem_cons.2 ⟨⟨_, rfl, h2⟩, (List.forall_mem_cons.2 ⟨⟨_, rfl, h3⟩, (List.forall_mem_cons.2 ⟨⟨_, rfl, h4⟩, (List.forall_mem_cons.2 ⟨⟨_, rfl, h5⟩, (fun _ h => absurd h (by simp))⟩)⟩)⟩)⟩)⟩)⟩)
  generalize (⟨#[v0, v1, v2, v3, v4, v5, undef, undef, undef, undef, undef, undef, undef, undef, undef, undef, undef, undef, undef, undef, undef, undef, undef, undef, undef, undef, undef, undef, undef, undef, undef, undef, undef, undef, undef, undef, undef, undef, undef, undef, undef, undef, undef, undef, undef, undef, undef, undef, undef, undef, undef, undef, undef, undef, undef, undef, undef, undef, undef, undef, undef, undef, undef, undef, undef, undef, undef, undef, undef, undef, undef, undef, undef, undef, undef, undef, undef, undef, undef, undef, undef, undef, undef, undef, undef, undef, undef, undef, undef, undef, undef, undef, undef], []⟩ : Act) = a0 at st0 ⊢
  repeat first | refine wp_seq ?_ | refine wp_block ?_ | refine wp_skip ?_ | refine wp_exit ?_
  refine rg (BT := [(24, 2, 0), (27, 4, 0)]) (Vl := [Vb (false)]) (B := []) (SL' := [(0, Vi (p)), (1, Vi (q)), (2, VI l), (3, VI m), (4, VIc d), (5, Vb (neg)), (12, Vb (false))]) st0 ⟨ks, trivial⟩ ?_
  intro a1 w1 st1
  clear st0
  repeat first | refine wp_seq ?_ | refine wp_block ?_ | refine wp_skip ?_ | refine wp_exit ?_
  refine rg (BT := [(24, 2, 0), (27, 4, 0)]) (Vl := [VI l, Vex (fun z => Vz 6 z), VT, VT]) (B := [⟨13, some 2, some 3, 24, 2, Vex (fun z => Vz 6 z), VT⟩]) (SL' := [(0, Vi (p)), (1, Vi (q)), (3, VI m), (4, VIc d), (5, Vb (neg)), (12, Vb (false))]) st1 ⟨ks, ?s1, ks, ks, trivial⟩ ?_
  case s1 =>
    refine kc fun _ ac Wd h hd => ?_
    obtain ⟨v0, hv0, hV0⟩ := h.dp hd 19
    exact ⟨#[v0, .int .i64 (0)], by simp [hv0, eval_const], cNumberZ (show VI l v0 Wd from hV0) (show Vi (0) (.int .i64 (0)) Wd from rfl) (by omega) (by omega)⟩
  intro a2 w2 st2
  clear st1
  replace st2 : St w.heap.size w 93 [⟨13, none, none, 24, 2, Vex (fun z => Vz 6 z), VT⟩] [(0, Vi (p)), (1, Vi (q)), (3, VI m), (4, VIc d), (5, Vb (neg)), (12, Vb (false))] a2 w2 := st2
  obtain ⟨x, st2⟩ := St.exI (L1 := []) (L2 := []) st2
  replace st2 : St w.heap.size w 93 [⟨13, none, none, 24, 2, Vz 6 (x), VT⟩] [(0, Vi (p)), (1, Vi (q)), (3, VI m), (4, VIc d), (5, Vb (neg)), (12, Vb (false))] a2 w2 := st2
  repeat first | refine wp_seq ?_ | refine wp_block ?_ | refine wp_skip ?_ | refine wp_exit ?_
  refine rg (BT := [(24, 2, 0), (27, 4, 0)]) (Vl := [VI m, Vex (fun z => Vz 6 z), VT, VT]) (B := [⟨13, none, none, 24, 2, Vz 6 (x), VT⟩, ⟨14, some 2, some 3, 24, 2, Vex (fun z => Vz 6 z), VT⟩]) (SL' := [(0, Vi (p)), (1, Vi (q)), (4, VIc d), (5, Vb (neg)), (12, Vb (false))]) st2 ⟨ks, ?s1, ks, ks, trivial⟩ ?_
  case s1 =>
    refine kc fun _ ac Wd h hd => ?_
    obtain ⟨v0, hv0, hV0⟩ := h.dp hd 21
    exact ⟨#[v0, .int .i64 (0)], by simp [hv0, eval_const], cNumberZ (show VI m v0 Wd from hV0) (show Vi (0) (.int .i64 (0)) Wd from rfl) (by omega) (by omega)⟩
  intro a3 w3 st3
  clear st2
  replace st3 : St w.heap.size w 93 [⟨13, none, none, 24, 2, Vz 6 (x), VT⟩, ⟨14, none, none, 24, 2, Vex (fun z => Vz 6 z), VT⟩] [(0, Vi (p)), (1, Vi (q)), (4, VIc d), (5, Vb (neg)), (12, Vb (false))] a3 w3 := st3
  obtain ⟨y, st3⟩ := St.exI (L1 := [⟨13, none, none, 24, 2, Vz 6 (x), VT⟩]) (L2 := []) st3
  replace st3 : St w.heap.size w 93 [⟨13, none, none, 24, 2, Vz 6 (x), VT⟩, ⟨14, none, none, 24, 2, Vz 6 (y), VT⟩] [(0, Vi (p)), (1, Vi (q)), (4, VIc d), (5, Vb (neg)), (12, Vb (false))] a3 w3 := st3
  repeat first | refine wp_seq ?_ | refine wp_block ?_ | refine wp_skip ?_ | refine wp_exit ?_
  refine rg (BT := [(24, 2, 0), (27, 4, 0)]) (Vl := [Vz 6 (x), Vz 6 (y), Vq 6 (Rat.divInt (x) (y)), VT, VT]) (B := [⟨13, none, none, 24, 2, Vz 6 (x), VT⟩, ⟨14, none, none, 24, 2, Vz 6 (y), VT⟩, ⟨15, some 3, some 4, 27, 4, Vq 6 (Rat.divInt (x) (y)), VT⟩]) (SL' := [(0, Vi (p)), (1, Vi (q)), (4, VIc d), (5, Vb (neg)), (12, Vb (false))]) st3 ⟨ks, ks, ?s2, ks, ks, trivial⟩ ?_
  case s2 =>
    refine kc fun _ ac Wd h hd => ?_
    obtain ⟨v0, hv0, hV0⟩ := h.dp hd 23
    obtain ⟨v1, hv1, hV1⟩ := h.dp hd 24
    exact ⟨#[v0, v1], by simp [hv0, hv1], cR4Make (show Vz 6 (x) v0 Wd from hV0) (show Vz 6 (y) v1 Wd from hV1) (by omega) (by omega)⟩
  intro a4 w4 st4
  clear st3
  repeat first | refine wp_seq ?_ | refine wp_block ?_ | refine wp_skip ?_ | refine wp_exit ?_
  refine rg (BT := [(24, 2, 0), (27, 4, 0)]) (Vl := [Vz 6 (x), Vb (neg), VIc d, VLn 5 (d.take (min d.length 5)), VZr 5 neg (d.take (min d.length 5)), VP2 2 2 (Vz 6 (x)) (VZr 5 neg (d.take (min d.length 5))), VT, VT]) (B := [⟨13, none, none, 24, 2, Vz 6 (x), VT⟩, ⟨14, none, none, 24, 2, Vz 6 (y), VT⟩, ⟨15, none, none, 27, 4, Vq 6 (Rat.divInt (x) (y)), VT⟩, ⟨16, some 6, some 7, 27, 4, VP2 2 2 (Vz 6 (x)) (VZr 5 neg (d.take (min d.length 5))), VT⟩]) (SL' := [(0, Vi (p)), (1, Vi (q)), (12, Vb (false))]) st4 ⟨ks, ks, ks, ?s3, ?s4, ?s5, ks, ks, trivial⟩ ?_
  case s3 =>
    refine kc fun _ ac Wd h hd => ?_
    obtain ⟨v0, hv0, hV0⟩ := h.dp hd 28
    exact ⟨#[v0, .int .i64 (5)], by simp [hv0, eval_const], cTake5 (show VIc d v0 Wd from hV0) (show Vi (5) (.int .i64 (5)) Wd from rfl)⟩
  case s4 => refine kr fun _ ac Wd h hd => ?_; obtain ⟨v0, hv0, hV0⟩ := h.dp hd 27; obtain ⟨v1, hv1, hV1⟩ := h.dp hd 29; exact build_IntDN rfl hv0 hV0 hv1 hV1
  case s5 => refine kr fun _ ac Wd h hd => ?_; obtain ⟨v0, hv0, hV0⟩ := h.dp hd 26; obtain ⟨v1, hv1, hV1⟩ := h.dp hd 30; exact build_Rat rfl hv0 hv1 (AggV_Vz _ _) (AggV_VZr _ _ _) hV0 hV1
  intro a5 w5 st5
  clear st4
  obtain ⟨z1, hz1⟩ := raw_nm x neg (d.take (min d.length 5))
  obtain ⟨xs, hxs⟩ : ∃ xs : List ((Int × Int) ⊕ (Int × Bool × List Int)), [.inl ((Rat.divInt (x) (y)).num, qd (Rat.divInt (x) (y))), z1, .inl (x, y), .inl ((Rat.divInt (x) (y)).num * y, ((Rat.divInt (x) (y)).den : Int) * y), .inl (0, 5), .inl (x, 1)] = xs := ⟨_, rfl⟩
  have hx6 : xs.length = 6 := by rw [← hxs]; rfl
  repeat first | refine wp_seq ?_ | refine wp_block ?_ | refine wp_skip ?_ | refine wp_exit ?_
  have : Sb [] (VSl 27 4 (VNm 20) xs) := ⟨(Stab_VSlQ (by simp))⟩
  refine rg (BT := []) (Vl := [Vq 6 (Rat.divInt (x) (y)), VP2 2 2 (Vz 6 (x)) (VZr 5 neg (d.take (min d.length 5))), Vz 6 (x), Vz 6 (y), VP2 2 2 (Vz 6 (x)) (Vz 6 (y)), Vpt a5 15 0, Vz 6 ((Rat.divInt (x) (y)).num), Vz 6 (y), Vz (6 + 6) (((Rat.divInt (x) (y)).num) * (y)), Vq 6 (Rat.divInt (x) (y)), Vz 6 (((Rat.divInt (x) (y)).den : Int)), Vz 6 (y), Vz (6 + 6) ((((Rat.divInt (x) (y)).den : Int)) * (y)), VP2 2 2 (Vz (6 + 6) (((Rat.divInt (x) (y)).num) * (y))) (Vz (6 + 6) ((((Rat.divInt (x) (y)).den : Int)) * (y))), Vz 3 (5), VP2 2 2 (Vz 3 0) (Vz 3 (5)), Vz 6 (x), Vz 3 (1), VP2 2 2 (Vz 6 (x)) (Vz 3 (1)), VSl 27 4 (VNm 20) xs, VSl 27 4 (VNm 20) xs]) (B := [⟨13, none, none, 24, 2, Vz 6 (x), VT⟩, ⟨14, none, none, 24, 2, Vz 6 (y), VT⟩, ⟨15, none, none, 27, 4, Vq 6 (Rat.divInt (x) (y)), VT⟩, ⟨16, none, none, 27, 4, VP2 2 2 (Vz 6 (x)) (VZr 5 neg (d.take (min d.length 5))), VT⟩]) (SL' := [(0, Vi (p)), (1, Vi (q)), (12, Vb (false)), (17, VSl 27 4 (VNm 20) xs)]) st5 ⟨ks, ks, ks, ks, ?s4, ks, ks, ks, ?s8, ks, ?s10, ks, ?s12, ?s13, ?s14, ?s15, ks, ?s17, ?s18, ?s19, ks, trivial⟩ ?_
  case s4 => refine kr fun _ ac Wd h hd => ?_; obtain ⟨v0, hv0, hV0⟩ := h.dp hd 34; obtain ⟨v1, hv1, hV1⟩ := h.dp hd 35; exact build_Rat rfl hv0 hv1 (AggV_Vz _ _) (AggV_Vz _ _) hV0 hV1
  case s8 =>
    refine kc fun _ ac Wd h hd => ?_
    obtain ⟨v0, hv0, hV0⟩ := h.dp hd 38
    obtain ⟨v1, hv1, hV1⟩ := h.dp hd 39
    exact ⟨#[v0, v1], by simp [hv0, hv1], (cRMul (show Vz 6 ((Rat.divInt (x) (y)).num) v0 Wd from hV0) (show Vz 6 (y) v1 Wd from hV1) (by omega) (by omega))⟩
  case s10 => refine kc fun _ ac Wd h hd => ?_; obtain ⟨v0, hv0, hV0⟩ := h.dp hd 41; exact ⟨#[v0], by simp [hv0], cR4Den (show Vq 6 (Rat.divInt (x) (y)) v0 Wd from hV0) (by omega)⟩
  case s12 =>
    refine kc fun _ ac Wd h hd => ?_
    obtain ⟨v0, hv0, hV0⟩ := h.dp hd 42
    obtain ⟨v1, hv1, hV1⟩ := h.dp hd 43
    exact ⟨#[v0, v1], by simp [hv0, hv1], (cRMul (show Vz 6 (((Rat.divInt (x) (y)).den : Int)) v0 Wd from hV0) (show Vz 6 (y) v1 Wd from hV1) (by omega) (by omega))⟩
  case s13 => refine kr fun _ ac Wd h hd => ?_; obtain ⟨v0, hv0, hV0⟩ := h.dp hd 40; obtain ⟨v1, hv1, hV1⟩ := h.dp hd 44; exact build_Rat rfl hv0 hv1 (AggV_Vz _ _) (AggV_Vz _ _) hV0 hV1
  case s14 => refine kc fun _ ac Wd h hd => ?_; exact ⟨#[.int .i64 (5)], by simp [eval_const], cROf (5) (by omega) (by omega)⟩
  case s15 => refine kr fun _ ac Wd h hd => ?_; obtain ⟨v0, hv0, hV0⟩ := h.dp hd 46; exact build_Rat2 3 rfl hv0 (AggV_Vz _ _) hV0
  case s17 => refine kc fun _ ac Wd h hd => ?_; exact ⟨#[.int .i64 (1)], by simp [eval_const], cROf (1) (by omega) (by omega)⟩
  case s18 => refine kr fun _ ac Wd h hd => ?_; obtain ⟨v0, hv0, hV0⟩ := h.dp hd 48; obtain ⟨v1, hv1, hV1⟩ := h.dp hd 49; exact build_Rat rfl hv0 hv1 (AggV_Vz _ _) (AggV_Vz _ _) hV0 hV1
  case s19 =>
    refine km fun _ ac Wd h hd => ?_
    obtain ⟨v0, hv0, hV0⟩ := h.dp hd 32
    obtain ⟨v1, hv1, hV1⟩ := h.dp hd 33
    obtain ⟨v2, hv2, hV2⟩ := h.dp hd 36
    obtain ⟨v3, hv3, hV3⟩ := h.dp hd 45
    obtain ⟨v4, hv4, hV4⟩ := h.dp hd 47
    obtain ⟨v5, hv5, hV5⟩ := h.dp hd 50
    rw [← hxs]
    exact bslice_Q6 rfl hv0 hv1 hv2 hv3 hv4 hv5 (VP2_nm hV0 (by omega) (by omega)) (hz1 _ _ hV1) (VP2_nm hV2 (by omega) (by omega)) (VP2_nm hV3 (by omega) (by omega)) (VP2_nm hV4 (by omega) (by omega)) (VP2_nm hV5 (by omega) (by omega))
  intro a6 w6 st6
  clear st5
  repeat first | refine wp_seq ?_ | refine wp_block ?_ | refine wp_skip ?_ | refine wp_exit ?_
  have : Sb [] (VSl 27 4 (VNm 20) xs) := ⟨(Stab_VSlQ (by simp))⟩
  refine rg (BT := []) (Vl := [Vi (0)]) (B := [⟨13, none, none, 24, 2, Vz 6 (x), VT⟩, ⟨14, none, none, 24, 2, Vz 6 (y), VT⟩, ⟨15, none, none, 27, 4, Vq 6 (Rat.divInt (x) (y)), VT⟩, ⟨16, none, none, 27, 4, VP2 2 2 (Vz 6 (x)) (VZr 5 neg (d.take (min d.length 5))), VT⟩]) (SL' := [(0, Vi (p)), (1, Vi (q)), (12, Vb (false)), (17, VSl 27 4 (VNm 20) xs), (18, Vi (0))]) st6 ⟨ks, trivial⟩ ?_
  intro a7 w7 st7
  clear st6
  replace st7 : St w.heap.size w 93 [⟨13, none, none, 24, 2, Vz 6 (x), VT⟩, ⟨14, none, none, 24, 2, Vz 6 (y), VT⟩, ⟨15, none, none, 27, 4, Vq 6 (Rat.divInt (x) (y)), VT⟩, ⟨16, none, none, 27, 4, VP2 2 2 (Vz 6 (x)) (VZr 5 neg (d.take (min d.length 5))), VT⟩] [(0, Vi (p)), (1, Vi (q)), (12, Vb (false)), (17, VSl 27 4 (VNm 20) xs), (18, Vi (0))] a7 w7 := st7
  replace st7 : St w.heap.size w 93 [⟨13, none, none, 24, 2, Vz 6 (x), VT⟩, ⟨14, none, none, 24, 2, Vz 6 (y), VT⟩, ⟨15, none, none, 27, 4, Vq 6 (Rat.divInt (x) (y)), VT⟩, ⟨16, none, none, 27, 4, VP2 2 2 (Vz 6 (x)) (VZr 5 neg (d.take (min d.length 5))), VT⟩] [(0, Vi (p)), (1, Vi (q)), (17, VSl 27 4 (VNm 20) xs), (18, Vi (((0 : Nat) : Int)))] a7 w7 := st7.cut
  repeat first | refine wp_seq ?_ | refine wp_block ?_ | refine wp_skip ?_ | refine wp_exit ?_
  refine wp_loop_ghost (fun m aX wX => ∃ j : Nat, j + m = 6 ∧ St w.heap.size w 93 [⟨13, none, none, 24, 2, Vz 6 (x), VT⟩, ⟨14, none, none, 24, 2, Vz 6 (y), VT⟩, ⟨15, none, none, 27, 4, Vq 6 (Rat.divInt (x) (y)), VT⟩, ⟨16, none, none, 27, 4, VP2 2 2 (Vz 6 (x)) (VZr 5 neg (d.take (min d.length 5))), VT⟩] [(0, Vi (p)), (1, Vi (q)), (17, VSl 27 4 (VNm 20) xs), (18, Vi (((j : Nat) : Int)))] aX wX) 6 ⟨0, by omega, st7⟩ ?_
  clear st7 hz1
  intro m aL wL ⟨j, hj, st7⟩
  by_cases hlt : ((j : Nat) : Int) < (xs.length : Int)
  ·
    repeat first | refine wp_seq ?_ | refine wp_block ?_ | refine wp_skip ?_ | refine wp_exit ?_
    have : Sb [] (VSl 27 4 (VNm 20) xs) := ⟨(Stab_VSlQ (by simp))⟩
    refine rg (BT := []) (Vl := [Vi (((j : Nat) : Int)), VSl 27 4 (VNm 20) xs, Vi ((xs.length : Int)), Vb (true)]) (B := [⟨13, none, none, 24, 2, Vz 6 (x), VT⟩, ⟨14, none, none, 24, 2, Vz 6 (y), VT⟩, ⟨15, none, none, 27, 4, Vq 6 (Rat.divInt (x) (y)), VT⟩, ⟨16, none, none, 27, 4, VP2 2 2 (Vz 6 (x)) (VZr 5 neg (d.take (min d.length 5))), VT⟩]) (SL' := [(0, Vi (p)), (1, Vi (q)), (17, VSl 27 4 (VNm 20) xs), (18, Vi (((j : Nat) : Int))), (55, Vb (true))]) st7 ⟨ks, ks, ?s2, ?s3, trivial⟩ ?_
    case s2 => refine kr fun _ ac Wd h hd => ?_; obtain ⟨v0, hv0, hV0⟩ := h.dp hd 53; exact len_SlQ rfl rfl hv0 hV0
    case s3 =>
      refine kr fun _ ac Wd h hd => ?_
      obtain ⟨v0, hv0, hV0⟩ := h.dp hd 52
      have hV0' : v0 = .int .i64 (((j : Nat) : Int)) := hV0
      obtain ⟨v1, hv1, hV1⟩ := h.dp hd 54
      have hV1' : v1 = .int .i64 ((xs.length : Int)) := hV1
      exact ⟨_, run_lssi rfl (hv0.trans hV0') (hv1.trans hV1'), congrArg Value.bool (decide_eq_true (by omega))⟩
    intro a8 w8 st8
    clear st7
    repeat first | refine wp_seq ?_ | refine wp_block ?_ | refine wp_skip ?_ | refine wp_exit ?_
    obtain ⟨vc, hc1, hc2⟩ := st8.slot (55, Vb (true)) (.tail _ (.tail _ (.tail _ (.tail _ (.head _)))))
    refine wp_cond_true (hc1.trans hc2) ?_
    clear hc1 hc2
    obtain ⟨zj, hzj⟩ : ∃ z, xs[j]? = some z := ⟨_, List.getElem?_eq_getElem (by omega)⟩
    repeat first | refine wp_seq ?_ | refine wp_block ?_ | refine wp_skip ?_ | refine wp_exit ?_
    have : Sb [] (VSl 27 4 (VNm 20) xs) := ⟨(Stab_VSlQ (by simp))⟩
    have : Sb [] (VEp 27 4 (VNm 20 zj)) := ⟨(Stab_VEpQ (by simp))⟩
    refine rg (BT := []) (Vl := [VSl 27 4 (VNm 20) xs, Vi (((j : Nat) : Int)), VEp 27 4 (VNm 20 zj), VNm 20 (zj), Vb (nmv (zj)), VSl 27 4 (VNm 20) xs, Vi (((j : Nat) : Int)), VEp 27 4 (VNm 20 zj), VNm 20 (zj), Vb (nmv (zj)), Vb (false)]) (B := [⟨13, none, none, 24, 2, Vz 6 (x), VT⟩, ⟨14, none, none, 24, 2, Vz 6 (y), VT⟩, ⟨15, none, none, 27, 4, Vq 6 (Rat.divInt (x) (y)), VT⟩, ⟨16, none, none, 27, 4, VP2 2 2 (Vz 6 (x)) (VZr 5 neg (d.take (min d.length 5))), VT⟩]) (SL' := [(0, Vi (p)), (1, Vi (q)), (17, VSl 27 4 (VNm 20) xs), (18, Vi (((j : Nat) : Int))), (55, Vb (true)), (68, Vb (false))]) st8 ⟨ks, ks, ?s2, ?s3, ?s4, ks, ks, ?s7, ?s8, ?s9, ?s10, trivial⟩ ?_
    case s2 => refine kr fun _ ac Wd h hd => ?_; obtain ⟨v0, hv0, hV0⟩ := h.dp hd 58; obtain ⟨v1, hv1, hV1⟩ := h.dp hd 59; exact index_SlQ rfl hv0 hV0 hv1 hV1 hzj
    case s3 => refine kr fun _ ac Wd h hd => ?_; obtain ⟨v0, hv0, hV0⟩ := h.dp hd 60; exact load_EpQ rfl hv0 hV0 (Stab_VNm _ _)
    case s4 => refine kc fun _ ac Wd h hd => ?_; obtain ⟨v0, hv0, hV0⟩ := h.dp hd 61; exact ⟨#[v0], by simp [hv0], cQValidN (show VNm 20 (zj) v0 Wd from hV0) (by omega) (by omega)⟩
    case s7 => refine kr fun _ ac Wd h hd => ?_; obtain ⟨v0, hv0, hV0⟩ := h.dp hd 63; obtain ⟨v1, hv1, hV1⟩ := h.dp hd 64; exact index_SlQ rfl hv0 hV0 hv1 hV1 hzj
    case s8 => refine kr fun _ ac Wd h hd => ?_; obtain ⟨v0, hv0, hV0⟩ := h.dp hd 65; exact load_EpQ rfl hv0 hV0 (Stab_VNm _ _)
    case s9 => refine kc fun _ ac Wd h hd => ?_; obtain ⟨v0, hv0, hV0⟩ := h.dp hd 66; exact ⟨#[v0], by simp [hv0], cR4ValidN (show VNm 20 (zj) v0 Wd from hV0) (by omega) (by omega)⟩
    case s10 =>
      refine kr fun _ ac Wd h hd => ?_
      obtain ⟨v0, hv0, hV0⟩ := h.dp hd 62
      obtain ⟨v1, hv1, hV1⟩ := h.dp hd 67
      exact ⟨_, run_neqb rfl (hv0.trans hV0) (hv1.trans hV1), congrArg Value.bool (bne_self_eq_false _)⟩
    intro a9 w9 st9
    clear st8
    repeat first | refine wp_seq ?_ | refine wp_block ?_ | refine wp_skip ?_ | refine wp_exit ?_
    obtain ⟨vc, hc1, hc2⟩ := st9.slot (68, Vb (false)) (.tail _ (.tail _ (.tail _ (.tail _ (.tail _ (.head _))))))
    refine wp_cond_false (hc1.trans hc2) ?_
    clear hc1 hc2
    repeat first | refine wp_seq ?_ | refine wp_block ?_ | refine wp_skip ?_ | refine wp_exit ?_
    have : Sb [] (VSl 27 4 (VNm 20) xs) := ⟨(Stab_VSlQ (by simp))⟩
    refine rg (BT := []) (Vl := [Vi (((j : Nat) : Int)), Vi (((j + 1 : Nat) : Int)), Vi (((j + 1 : Nat) : Int))]) (B := [⟨13, none, none, 24, 2, Vz 6 (x), VT⟩, ⟨14, none, none, 24, 2, Vz 6 (y), VT⟩, ⟨15, none, none, 27, 4, Vq 6 (Rat.divInt (x) (y)), VT⟩, ⟨16, none, none, 27, 4, VP2 2 2 (Vz 6 (x)) (VZr 5 neg (d.take (min d.length 5))), VT⟩]) (SL' := [(0, Vi (p)), (1, Vi (q)), (17, VSl 27 4 (VNm 20) xs), (55, Vb (true)), (68, Vb (false)), (18, Vi (((j + 1 : Nat) : Int)))]) st9 ⟨?s0, ?s1, ks, trivial⟩ ?_
    case s0 =>
      refine k_run0 SbB.out (by kernel_rfl) fun listed ac Wd h hd hnl => ⟨trivial, ?_⟩
      obtain ⟨v0, hv0, hV0⟩ := h.out0 hnl (18, Vi (((j : Nat) : Int))) (.tail _ (.tail _ (.tail _ (.head _)))) 2 (by kernel_rfl) (.inr (by kernel_rfl))
      exact ⟨_, run_move rfl, by rw [hv0]; exact hV0⟩
    case s1 =>
      refine kr fun _ ac Wd h hd => ?_
      obtain ⟨v0, hv0, hV0⟩ := h.dp hd 56
      exact ⟨_, run_addi rfl (hv0.trans (show v0 = .int .i64 ((j : Nat) : Int) from hV0)) rfl (wrap_id (by omega) (by omega)), congrArg (Value.int .i64) (by omega)⟩
    intro a10 w10 st10
    clear st9
    replace st10 : St w.heap.size w 93 [⟨13, none, none, 24, 2, Vz 6 (x), VT⟩, ⟨14, none, none, 24, 2, Vz 6 (y), VT⟩, ⟨15, none, none, 27, 4, Vq 6 (Rat.divInt (x) (y)), VT⟩, ⟨16, none, none, 27, 4, VP2 2 2 (Vz 6 (x)) (VZr 5 neg (d.take (min d.length 5))), VT⟩] [(0, Vi (p)), (1, Vi (q)), (17, VSl 27 4 (VNm 20) xs), (55, Vb (true)), (68, Vb (false)), (18, Vi (((j + 1 : Nat) : Int)))] a10 w10 := st10
    exact ⟨m - 1, by omega, j + 1, by omega, st10.cut⟩
  ·
    repeat first | refine wp_seq ?_ | refine wp_block ?_ | refine wp_skip ?_ | refine wp_exit ?_
    have : Sb [] (VSl 27 4 (VNm 20) xs) := ⟨(Stab_VSlQ (by simp))⟩
    refine rg (BT := []) (Vl := [Vi (((j : Nat) : Int)), VSl 27 4 (VNm 20) xs, Vi ((xs.length : Int)), Vb (false)]) (B := [⟨13, none, none, 24, 2, Vz 6 (x), VT⟩, ⟨14, none, none, 24, 2, Vz 6 (y), VT⟩, ⟨15, none, none, 27, 4, Vq 6 (Rat.divInt (x) (y)), VT⟩, ⟨16, none, none, 27, 4, VP2 2 2 (Vz 6 (x)) (VZr 5 neg (d.take (min d.length 5))), VT⟩]) (SL' := [(0, Vi (p)), (1, Vi (q)), (17, VSl 27 4 (VNm 20) xs), (18, Vi (((j : Nat) : Int))), (55, Vb (false))]) st7 ⟨ks, ks, ?s2, ?s3, trivial⟩ ?_
    case s2 => refine kr fun _ ac Wd h hd => ?_; obtain ⟨v0, hv0, hV0⟩ := h.dp hd 53; exact len_SlQ rfl rfl hv0 hV0
    case s3 =>
      refine kr fun _ ac Wd h hd => ?_
      obtain ⟨v0, hv0, hV0⟩ := h.dp hd 52
      have hV0' : v0 = .int .i64 (((j : Nat) : Int)) := hV0
      obtain ⟨v1, hv1, hV1⟩ := h.dp hd 54
      have hV1' : v1 = .int .i64 ((xs.length : Int)) := hV1
      exact ⟨_, run_lssi rfl (hv0.trans hV0') (hv1.trans hV1'), congrArg Value.bool (decide_eq_false (by omega))⟩
    intro a8 w8 st8
    clear st7
    repeat first | refine wp_seq ?_ | refine wp_block ?_ | refine wp_skip ?_ | refine wp_exit ?_
    obtain ⟨vc, hc1, hc2⟩ := st8.slot (55, Vb (false)) (.tail _ (.tail _ (.tail _ (.tail _ (.head _)))))
    refine wp_cond_false (hc1.trans hc2) ?_
    clear hc1 hc2
    repeat first | refine wp_seq ?_ | refine wp_block ?_ | refine wp_skip ?_ | refine wp_exit ?_
    have : Sb [] (VSl 27 4 (VNm 20) xs) := ⟨(Stab_VSlQ (by simp))⟩
    refine rg (BT := []) (Vl := [Vz 6 (x), Vz 6 (y), Vq (max 6 6) (Rat.divInt (x) (y)), Vq 6 (Rat.divInt (x) (y)), Vb (true), Vb (true), Vi (p), Vi (q), Vq 3 (Rat.divInt (p) (q)), Vi (p), Vi (q), Vq 3 (Rat.divInt (p) (q)), Vb (true), Vb (true), Vb (true), Vq 6 (Rat.divInt (x) (y)), Vz 6 (((Rat.divInt (x) (y)).den : Int)), Vq 6 (Rat.divInt (x) (y)), Vz 6 (((Rat.divInt (x) (y)).den : Int)), Vb (true), Vb (true), Vb (true), Vb (true), Vb (true), Vb (true)]) (B := [⟨13, none, none, 24, 2, Vz 6 (x), VT⟩, ⟨14, none, none, 24, 2, Vz 6 (y), VT⟩, ⟨15, none, none, 27, 4, Vq 6 (Rat.divInt (x) (y)), VT⟩, ⟨16, none, none, 27, 4, VP2 2 2 (Vz 6 (x)) (VZr 5 neg (d.take (min d.length 5))), VT⟩]) (SL' := [(0, Vi (p)), (1, Vi (q)), (17, VSl 27 4 (VNm 20) xs), (18, Vi (((j : Nat) : Int))), (55, Vb (false)), (12, Vb (true))]) st8 ⟨ks, ks, ?s2, ks, ?s4, ks, ks, ks, ?s8, ks, ks, ?s11, ?s12, ks, ks, ks, ?s16, ks, ?s18, ?s19, ks, ks, ?s22, ks, ks, trivial⟩ ?_
    case s2 =>
      refine kc fun _ ac Wd h hd => ?_
      obtain ⟨v0, hv0, hV0⟩ := h.dp hd 69
      obtain ⟨v1, hv1, hV1⟩ := h.dp hd 70
      exact ⟨#[v0, v1], by simp [hv0, hv1], cQMake (Na := 6) (Nb := 6) (show Vz 6 (x) v0 Wd from hV0) (show Vz 6 (y) v1 Wd from hV1) (by omega) (by omega) (by omega) (by omega)⟩
    case s4 =>
      refine kc fun _ ac Wd h hd => ?_
      obtain ⟨v0, hv0, hV0⟩ := h.dp hd 71
      obtain ⟨v1, hv1, hV1⟩ := h.dp hd 72
      exact ⟨#[v0, v1], by simp [hv0, hv1], (cL4Same (Vq_le (M := (max (max 6 6) 6)) (show Vq (max 6 6) (Rat.divInt (x) (y)) v0 Wd from hV0) (by omega)) (Vq_le (M := (max (max 6 6) 6)) (show Vq 6 (Rat.divInt (x) (y)) v1 Wd from hV1) (by omega)) (by omega)).mono fun e w h => h.le fun v w hv => hv.trans (congrArg Value.bool (decide_eq_true (rfl)))⟩
    case s8 =>
      refine kc fun _ ac Wd h hd => ?_
      obtain ⟨v0, hv0, hV0⟩ := h.dp hd 75
      obtain ⟨v1, hv1, hV1⟩ := h.dp hd 76
      exact ⟨#[v0, v1], by simp [hv0, hv1], cQOf (show Vi (p) v0 Wd from hV0) (show Vi (q) v1 Wd from hV1) (by omega) (by omega) (by omega) (by omega)⟩
    case s11 =>
      refine kc fun _ ac Wd h hd => ?_
      obtain ⟨v0, hv0, hV0⟩ := h.dp hd 78
      obtain ⟨v1, hv1, hV1⟩ := h.dp hd 79
      exact ⟨#[v0, v1], by simp [hv0, hv1], cR4Of (show Vi (p) v0 Wd from hV0) (show Vi (q) v1 Wd from hV1) (by omega) (by omega) (by omega) (by omega)⟩
    case s12 =>
      refine kc fun _ ac Wd h hd => ?_
      obtain ⟨v0, hv0, hV0⟩ := h.dp hd 77
      obtain ⟨v1, hv1, hV1⟩ := h.dp hd 80
      exact ⟨#[v0, v1], by simp [hv0, hv1], (cL4Same (show Vq 3 (Rat.divInt (p) (q)) v0 Wd from hV0) (show Vq 3 (Rat.divInt (p) (q)) v1 Wd from hV1) (by omega)).mono fun e w h => h.le fun v w hv => hv.trans (congrArg Value.bool (decide_eq_true (rfl)))⟩
    case s16 => refine kc fun _ ac Wd h hd => ?_; obtain ⟨v0, hv0, hV0⟩ := h.dp hd 84; exact ⟨#[v0], by simp [hv0], cDen (show Vq 6 (Rat.divInt (x) (y)) v0 Wd from hV0) (by omega)⟩
    case s18 => refine kc fun _ ac Wd h hd => ?_; obtain ⟨v0, hv0, hV0⟩ := h.dp hd 86; exact ⟨#[v0], by simp [hv0], cR4Den (show Vq 6 (Rat.divInt (x) (y)) v0 Wd from hV0) (by omega)⟩
    case s19 =>
      refine kc fun _ ac Wd h hd => ?_
      obtain ⟨v0, hv0, hV0⟩ := h.dp hd 85
      obtain ⟨v1, hv1, hV1⟩ := h.dp hd 87
      exact ⟨#[v0, v1], by simp [hv0, hv1], (cR3Same (show Vz 6 (((Rat.divInt (x) (y)).den : Int)) v0 Wd from hV0) (show Vz 6 (((Rat.divInt (x) (y)).den : Int)) v1 Wd from hV1) (by omega) (by omega)).mono fun e w h => h.le fun v w hv => hv.trans (congrArg Value.bool (decide_eq_true (rfl)))⟩
    case s22 => refine kc fun _ ac Wd h hd => ?_; exact ⟨#[], by simp [], cL4Lives (hT.later h.k.below)⟩
    intro a9 w9 st9
    clear st8
    repeat first | refine wp_seq ?_ | refine wp_block ?_ | refine wp_skip ?_ | refine wp_exit ?_
    obtain ⟨vr, r1, r4⟩ := st9.slot (12, Vb (true)) (.tail _ (.tail _ (.tail _ (.tail _ (.tail _ (.head _))))))
    exact wp_ret (bodyPost_ret (results_tmp rfl _ _ _) st9.defers ⟨_, congrArg Ending.returned (show _ = vr from r1), r4, st9.k.below⟩)
end Go.Proofs.YtleijkgdpmfabaaGreatDoor
