/- PlaneTurns: the walk. -/
import Derived.Test.YteaoaoknpihchaaGreatM35
set_option linter.unusedVariables false
namespace Go.Proofs.YteaoaoknpihchaaGreat
open Go.RowKit

variable {BT : List (TypeId × Nat × Nat)}
/-- new digits -/
def VL (N : Nat) (l : List Int) : VP := fun v w => ∃ p n c, v = .slice p n c ∧ Rdi w p l ∧ n = l.length ∧ n ≤ c ∧ c ≤ 9223372036854775807 ∧ n ≤ N
theorem Stab_VL (N : Nat) (l : List Int) : Stab BT (VL N l) := fun _ _ _ ⟨p, n, c, h1, h2, h3⟩ hr => ⟨p, n, c, h1, Rdi_RI hr h2, h3⟩
instance (N : Nat) (l : List Int) : Sb BT (VL N l) := ⟨Stab_VL N l⟩
instance (A C : VP) [h1 : Ag A 2] [h2 : Ag C 2] : Ag (VP2 2 2 A C) 4 := ⟨AggV_VP2 h1.out h2.out⟩
theorem bslice_var {ρ : Operand → Value} {o : Oper} {W : World} {x : Operand} {va : Value} {d : Int} (ho : o.op = .buildSlice 22 1 #[(0, x)]) (hx : ρ x = va) (hd : Vi d va W) : ∃ v w', (execOp ρ o).run Tryz.prog W = .ok (.value v) w' ∧ Below W.heap.size W w' ∧ VL 3 [d] v w' := by
  obtain rfl := hd
  refine ⟨.slice (some ⟨W.heap.size, 0, none⟩) 1 1, W.alloc (.cells #[.int .i64 d] 3), ?_, below_new _ _, ⟨_, _, _, rfl, (Blk_new W [d]).rdi, rfl, Nat.le_refl _, by omega, by omega⟩⟩
  obtain ⟨dd, op, ty, ps, af, gd⟩ := o
  subst ho
  go_simp
theorem build_IntD {ρ : Operand → Value} {o : Oper} {W : World} {x : Operand} {va : Value} {N : Nat} {l : List Int} (ho : o.op = .build 24 #[(1, x)]) (hx : ρ x = va) (h : VL N l va W) : ∃ v, (execOp ρ o).run Tryz.prog W = .ok (.value v) W ∧ VZr N false l v W := by
  obtain ⟨p, n, c, rfl, h1⟩ := h
  refine ⟨.agg #[.bool false, .slice p n c], ?_, ⟨p, n, c, rfl, h1⟩⟩
  obtain ⟨dd, op, ty, ps, af, gd⟩ := o
  subst ho
  go_simp
theorem digs_small {d : Nat} (h0 : 0 < d) (h1 : d < 1000000000) : digs d = [(d : Int)] := by
  rw [digs_pos (by omega), show d / 1000000000 = 0 by omega, digs_zero, show d % 1000000000 = d by omega]
/-- one digit that is not 0 is a number -/
theorem VZr_z {N d : Nat} {v : Value} {w : World} (h : VZr N false [(d : Int)] v w) (h0 : 0 < d) (h1 : d < 1000000000) : Vz N (d : Int) v w := by
  obtain ⟨p, n, c, rfl, hR, hn, hc, hm, hN⟩ := h
  have e : digs (d : Int).natAbs = [(d : Int)] := digs_small h0 h1
  exact ⟨false, p, n, c, rfl, ⟨by rw [decide_eq_false (by omega)], by rw [e]; exact hn, by rw [e]; exact hR, hc, hm⟩, hN⟩
/-- what is no number: an odd denominator -/
def RawBad (x d : Int) : Prop := d = 0 ∨ d = 1 ∨ (d = 2 ∧ ¬ Int.gcd x 2 = 1)
theorem raw_zz {N : Nat} {x : Int} {d : Nat} {v : Value} {w : World} (h : VP2 2 2 (Vz N x) (VZr N false [(d : Int)]) v w) (h0 : 0 < d) (h1 : d < 1000000000) : VP2 2 2 (Vz N x) (Vz N (d : Int)) v w := VP2_le h (fun _ h => h) (fun _ h => VZr_z h h0 h1)
theorem raw_badP {x d : Int} (hb : RawBad x d) (v : Value) (W : World) (h : VP2 2 2 (Vz 3 x) (VZr 3 false [d]) v W) : Calls Tryz.prog 77 #[v] W (RV (Vb false) W) := by
  rcases hb with rfl | rfl | ⟨rfl, hg⟩
  · exact cQValidR h (by omega) (by omega) (by decide)
  · have := cQValidZ (raw_zz (d := 1) h (by omega) (by omega)) (by omega) (by omega)
    rw [decide_eq_false (by omega)] at this
    exact this
  · have := cQValidZ (raw_zz (d := 2) h (by omega) (by omega)) (by omega) (by omega)
    rw [decide_eq_false (by rintro (h | ⟨-, h⟩); omega; exact hg h)] at this
    exact this
theorem raw_badR {x d : Int} (hb : RawBad x d) (v : Value) (W : World) (h : VP2 2 2 (Vz 3 x) (VZr 3 false [d]) v W) : Calls Tryz.prog 79 #[v] W (RV (Vb false) W) := by
  rcases hb with rfl | rfl | ⟨rfl, hg⟩
  · exact cR4ValidR h (by omega) (by omega) (by decide)
  · have := cR4ValidZ (raw_zz (d := 1) h (by omega) (by omega)) (by omega) (by omega)
    rw [decide_eq_false (by omega)] at this
    exact this
  · have := cR4ValidZ (raw_zz (d := 2) h (by omega) (by omega)) (by omega) (by omega)
    rw [decide_eq_false (by rintro (h | ⟨-, h⟩); omega; exact hg h)] at this
    exact this
/-- .. an even one -/
def halfQ (x : Int) : Rat := Rat.divInt x 2
theorem raw_good {x : Int} (hg : Int.gcd x 2 = 1) {v : Value} {W : World} (h : VP2 2 2 (Vz 3 x) (VZr 3 false [2]) v W) : Vq 3 (halfQ x) v W := by
  have e := make_low (p := x) (q := 2) (by omega)
  rw [hg] at e
  have e1 : (halfQ x).num = x := by rw [show halfQ x = Rat.divInt x 2 from rfl, e.1]; simp
  have e2 : qd (halfQ x) = 2 := by
    have : ((halfQ x).den : Int) = 2 := by rw [show halfQ x = Rat.divInt x 2 from rfl, e.2]; simp
    rw [qd_of (by omega)]; exact this
  unfold Vq
  rw [e1, e2]
  exact raw_zz (d := 2) h (by omega) (by omega)

set_option maxRecDepth 100000 in
set_option maxHeartbeats 1600000 in
theorem walkTurns0 {w : World} {l : List Int} {n m odd : Int} {v0 v1 v2 v3 : Value} (h0 : VI l v0 w) (h1 : Vi (n) v1 w) (h2 : Vi (m) v2 w) (h3 : Vi (odd) v3 w) (hn0 : -9223372036854775808 ≤ n) (hn1 : n ≤ 9223372036854775807) (hm0 : -9223372036854775808 ≤ m) (hm1 : m ≤ 9223372036854775807) (hodd0 : -9223372036854775808 ≤ odd) (hodd1 : odd ≤ 9223372036854775807) : Calls Tryz.prog 5 #[v0, v1, v2, v3] w (RV (Vb true) w) := by
  go_enter Tryz.func5, Tryz.ntmps5
  have st0 : St w.heap.size w 100 [] [(0, VI l), (1, Vi (n)), (2, Vi (m)), (3, Vi (odd))] _ w := St.begin (a := ⟨#[v0, v1, v2, v3, undef, undef, undef, undef, undef, undef, undef, undef, undef, undef, undef, undef, undef, undef, undef, undef, undef, undef, undef, undef, undef, undef, undef, undef, undef, undef, undef, undef, undef, undef, undef, undef, undef, undef, undef, undef, undef, undef, undef, undef, undef, undef, undef, undef, undef, undef, undef, undef, undef, undef, undef, undef, undef, undef, undef, undef, undef, undef, undef, undef, undef, undef, undef, undef, undef, undef, undef, undef, undef, undef, undef, undef, undef, undef, undef, undef, undef, undef, undef, undef, undef, undef, undef, undef, undef, undef, undef, undef, undef, undef, undef, undef, undef, undef, undef, undef], []⟩) rfl rfl (List.forall_mem_cons.2 ⟨⟨_, rfl, h0⟩, (List.forall_mem_cons.2 ⟨⟨_, rfl, h1⟩, (List.forall_mem_cons.2 ⟨⟨_, rfl, h2⟩, (List.forall_mem_cons.2 ⟨⟨_, rfl, h3⟩, (fun _ h => absurd h (by simp))⟩)⟩)⟩)⟩)
  generalize (⟨#[v0, v1, v2, v3, undef, undef, undef, undef, undef, undef, undef, undef, undef, undef, undef, undef, undef, undef, undef, undef, undef, undef, undef, undef, undef, undef, undef, undef, undef, undef, undef, undef, undef, undef, undef, undef, undef, undef, undef, undef, undef, undef, undef, undef, undef, undef, undef, undef, undef, undef, undef, undef, undef, undef, undef, undef, undef, undef, undef, undef, undef, undef, undef, undef, undef, undef, undef, undef, undef, undef, undef, undef, undef, undef, undef, undef, undef, undef, undef, undef, undef, undef, undef, undef, undef, undef, undef, undef, undef, undef, undef, undef, undef, undef, undef, undef, undef, undef, undef, undef], []⟩ : Act) = a0 at st0 ⊢
  have one1 : Rat.divInt 1 1 = 1 := by decide +kernel
  have onem : Rat.divInt (-1) 1 = -1 := by decide +kernel
  repeat first | refine wp_seq ?_ | refine wp_block ?_ | refine wp_skip ?_ | refine wp_exit ?_
  refine rg (BT := [(47, 8, 0), (28, 8, 0)]) (Vl := [Vb (false)]) (B := []) (SL' := [(0, VI l), (1, Vi (n)), (2, Vi (m)), (3, Vi (odd)), (8, Vb (false))]) st0 ⟨ks, trivial⟩ ?_
  intro a1 w1 st1
  clear st0
  repeat first | refine wp_seq ?_ | refine wp_block ?_ | refine wp_skip ?_ | refine wp_exit ?_
  refine rg (BT := [(47, 8, 0), (28, 8, 0)]) (Vl := [Vi (n), Vv 3 (turnC (n)) (turnS (n)), VT, VT]) (B := [⟨9, some 2, some 3, 47, 8, Vv 3 (turnC (n)) (turnS (n)), VT⟩]) (SL' := [(0, VI l), (1, Vi (n)), (2, Vi (m)), (3, Vi (odd)), (8, Vb (false))]) st1 ⟨ks, ?s1, ks, ks, trivial⟩ ?_
  case s1 => refine kc fun _ ac Wd h hd => ?_; obtain ⟨v0, hv0, hV0⟩ := h.dp hd 14; exact ⟨#[v0], by simp [hv0], cTurnN (show Vi (n) v0 Wd from hV0) (by omega) (by omega)⟩
  intro a2 w2 st2
  clear st1
  have hut := turn_unit n
  generalize turnC (n) = ct at st2 hut
  generalize turnS (n) = st_ at st2 hut
  repeat first | refine wp_seq ?_ | refine wp_block ?_ | refine wp_skip ?_ | refine wp_exit ?_
  refine rg (BT := [(47, 8, 0), (28, 8, 0)]) (Vl := [Vi (m), Vv 3 (turnC (m)) (turnS (m)), VT, VT]) (B := [⟨9, none, none, 47, 8, Vv 3 (ct) (st_), VT⟩, ⟨10, some 2, some 3, 47, 8, Vv 3 (turnC (m)) (turnS (m)), VT⟩]) (SL' := [(0, VI l), (1, Vi (n)), (2, Vi (m)), (3, Vi (odd)), (8, Vb (false))]) st2 ⟨ks, ?s1, ks, ks, trivial⟩ ?_
  case s1 => refine kc fun _ ac Wd h hd => ?_; obtain ⟨v0, hv0, hV0⟩ := h.dp hd 16; exact ⟨#[v0], by simp [hv0], cTurnN (show Vi (m) v0 Wd from hV0) (by omega) (by omega)⟩
  intro a3 w3 st3
  clear st2
  have huu := turn_unit m
  generalize turnC (m) = cu at st3 huu
  generalize turnS (m) = su at st3 huu
  repeat first | refine wp_seq ?_ | refine wp_block ?_ | refine wp_skip ?_ | refine wp_exit ?_
  refine rg (BT := [(47, 8, 0), (28, 8, 0)]) (Vl := [VI l, Vv 3 (numQ (atv l (0) 100)) (numQ (atv l (0 + 1) 100)), VT, VT]) (B := [⟨9, none, none, 47, 8, Vv 3 (ct) (st_), VT⟩, ⟨10, none, none, 47, 8, Vv 3 (cu) (su), VT⟩, ⟨11, some 2, some 3, 28, 8, Vv 3 (numQ (atv l (0) 100)) (numQ (atv l (0 + 1) 100)), VT⟩]) (SL' := [(0, VI l), (1, Vi (n)), (2, Vi (m)), (3, Vi (odd)), (8, Vb (false))]) st3 ⟨ks, ?s1, ks, ks, trivial⟩ ?_
  case s1 =>
    refine kc fun _ ac Wd h hd => ?_
    obtain ⟨v0, hv0, hV0⟩ := h.dp hd 18
    exact ⟨#[v0, .int .i64 (0)], by simp [hv0, eval_const], cVecL (show VI l v0 Wd from hV0) (show Vi (0) (.int .i64 (0)) Wd from rfl) (by omega) (by omega)⟩
  intro a4 w4 st4
  clear st3
  generalize numQ (atv l (0) 100) = xa at st4 
  generalize numQ (atv l (0 + 1) 100) = ya at st4 
  repeat first | refine wp_seq ?_ | refine wp_block ?_ | refine wp_skip ?_ | refine wp_exit ?_
  refine rg (BT := [(47, 8, 0), (28, 8, 0)]) (Vl := [Vi (odd), Vq 3 (numQ (odd)), Vpt a4 10 4, Vq 3 (su), Vv 3 (numQ (odd)) (su), VT, VT]) (B := [⟨9, none, none, 47, 8, Vv 3 (ct) (st_), VT⟩, ⟨10, none, none, 47, 8, Vv 3 (cu) (su), VT⟩, ⟨11, none, none, 28, 8, Vv 3 (xa) (ya), VT⟩, ⟨12, some 5, some 6, 47, 8, Vv 3 (numQ (odd)) (su), VT⟩]) (SL' := [(0, VI l), (1, Vi (n)), (2, Vi (m)), (3, Vi (odd)), (8, Vb (false))]) st4 ⟨ks, ?s1, ks, ks, ?s4, ks, ks, trivial⟩ ?_
  case s1 => refine kc fun _ ac Wd h hd => ?_; obtain ⟨v0, hv0, hV0⟩ := h.dp hd 20; exact ⟨#[v0], by simp [hv0], cNum (show Vi (odd) v0 Wd from hV0) (by omega) (by omega)⟩
  case s4 =>
    refine kr fun _ ac Wd h hd => ?_
    obtain ⟨v0, hv0, hV0⟩ := h.dp hd 21
    obtain ⟨v1, hv1, hV1⟩ := h.dp hd 23
    exact build_Turn rfl hv0 hv1 (AggV_Vq _ _) (AggV_Vq _ _) (show Vq 3 (numQ (odd)) v0 Wd from hV0) (show Vq 3 (su) v1 Wd from hV1)
  intro a5 w5 st5
  clear st4
  generalize numQ (odd) = xo at st5 
  repeat first | refine wp_seq ?_ | refine wp_block ?_ | refine wp_skip ?_ | refine wp_exit ?_
  refine rg (BT := [(47, 8, 0), (28, 8, 0)]) (Vl := [Vpt a5 9 0, Vpt a5 9 0, Vz 3 ((ct).num), Vi (odd), Vi (arn (odd) 3), VL 3 [(arn odd 3)], VZr 3 false [(arn odd 3)], VP2 2 2 (Vz 3 ((ct).num)) (VZr 3 false [(arn odd 3)]), Vpt a5 9 4, Vq 3 (st_), VP2 4 4 (VP2 2 2 (Vz 3 ((ct).num)) (VZr 3 false [(arn odd 3)])) (Vq 3 (st_)), VT, VT]) (B := [⟨9, none, none, 47, 8, Vv 3 (ct) (st_), VT⟩, ⟨10, none, none, 47, 8, Vv 3 (cu) (su), VT⟩, ⟨11, none, none, 28, 8, Vv 3 (xa) (ya), VT⟩, ⟨12, none, none, 47, 8, Vv 3 (xo) (su), VT⟩, ⟨13, some 11, some 12, 47, 8, VP2 4 4 (VP2 2 2 (Vz 3 ((ct).num)) (VZr 3 false [(arn odd 3)])) (Vq 3 (st_)), VT⟩]) (SL' := [(0, VI l), (1, Vi (n)), (2, Vi (m)), (3, Vi (odd)), (8, Vb (false))]) st5 ⟨ks, ks, ks, ks, ?s4, ?s5, ?s6, ?s7, ks, ks, ?s10, ks, ks, trivial⟩ ?_
  case s4 =>
    refine kc fun _ ac Wd h hd => ?_
    obtain ⟨v0, hv0, hV0⟩ := h.dp hd 28
    exact ⟨#[v0, .int .i64 (3)], by simp [hv0, eval_const], cAround (show Vi (odd) v0 Wd from hV0) (by omega) (by omega) (by omega) (by omega)⟩
  case s5 => refine km fun _ ac Wd h hd => ?_; obtain ⟨v0, hv0, hV0⟩ := h.dp hd 29; exact bslice_var rfl hv0 hV0
  case s6 => refine kr fun _ ac Wd h hd => ?_; obtain ⟨v1, hv1, hV1⟩ := h.dp hd 30; exact build_IntD rfl hv1 hV1
  case s7 => refine kr fun _ ac Wd h hd => ?_; obtain ⟨v0, hv0, hV0⟩ := h.dp hd 27; obtain ⟨v1, hv1, hV1⟩ := h.dp hd 31; exact build_Rat rfl hv0 hv1 (AggV_Vz _ _) (AggV_VZr _ _ _) hV0 hV1
  case s10 =>
    refine kr fun _ ac Wd h hd => ?_
    obtain ⟨v0, hv0, hV0⟩ := h.dp hd 32
    obtain ⟨v1, hv1, hV1⟩ := h.dp hd 34
    exact build_Turn rfl hv0 hv1 (AggV_VP2 (AggV_Vz _ _) (AggV_VZr _ _ _)) (AggV_Vq _ _) (show VP2 2 2 (Vz 3 ((ct).num)) (VZr 3 false [(arn odd 3)]) v0 Wd from hV0) (show Vq 3 (st_) v1 Wd from hV1)
  intro a6 w6 st6
  clear st5
  by_cases hg3 : RawBad (ct).num (arn odd 3)
  ·
    have hbad := hg3
    repeat first | refine wp_seq ?_ | refine wp_block ?_ | refine wp_skip ?_ | refine wp_exit ?_
    refine rg (BT := [(47, 8, 0), (28, 8, 0)]) (Vl := [Vv 3 (xo) (su), Vb (decide ((xo) * (xo) + (su) * (su) = Rat.divInt 1 1)), Vv 3 (xo) (su), Vb (decide ((xo) * (xo) + (su) * (su) = Rat.divInt 1 1)), Vb (false), Vb (false), VP2 4 4 (VP2 2 2 (Vz 3 ((ct).num)) (VZr 3 false [(arn odd 3)])) (Vq 3 (st_)), Vb (false), VP2 4 4 (VP2 2 2 (Vz 3 ((ct).num)) (VZr 3 false [(arn odd 3)])) (Vq 3 (st_)), Vb (false), Vb (false), Vb (false), Vb (false), Vv 3 (ct) (st_), Vb (true), Vb (false), Vb (false), Vb (false), Vv 3 (Rat.divInt 1 1) (Rat.divInt 0 1), Vv 3 (Rat.divInt 1 1) (0), Vb (true), Vb (false), Vb (false)]) (B := [⟨9, none, none, 47, 8, Vv 3 (ct) (st_), VT⟩, ⟨10, none, none, 47, 8, Vv 3 (cu) (su), VT⟩, ⟨11, none, none, 28, 8, Vv 3 (xa) (ya), VT⟩, ⟨12, none, none, 47, 8, Vv 3 (xo) (su), VT⟩, ⟨13, none, none, 47, 8, VP2 4 4 (VP2 2 2 (Vz 3 ((ct).num)) (VZr 3 false [(arn odd 3)])) (Vq 3 (st_)), VT⟩]) (SL' := [(0, VI l), (1, Vi (n)), (2, Vi (m)), (3, Vi (odd)), (8, Vb (false)), (58, Vb (false))]) st6 ⟨ks, ?s1, ks, ?s3, ?s4, ks, ks, ?s7, ks, ?s9, ?s10, ks, ks, ks, ?s14, ks, ks, ks, ?s18, ?s19, ?s20, ks, ks, trivial⟩ ?_
    case s1 => refine kc fun _ ac Wd h hd => ?_; obtain ⟨v0, hv0, hV0⟩ := h.dp hd 36; exact ⟨#[v0], by simp [hv0], cPValid (show Vv 3 (xo) (su) v0 Wd from hV0) (by omega) (by omega)⟩
    case s3 => refine kc fun _ ac Wd h hd => ?_; obtain ⟨v0, hv0, hV0⟩ := h.dp hd 38; exact ⟨#[v0], by simp [hv0], cR5Valid (show Vv 3 (xo) (su) v0 Wd from hV0) (by omega) (by omega)⟩
    case s4 =>
      refine kr fun _ ac Wd h hd => ?_
      obtain ⟨v0, hv0, hV0⟩ := h.dp hd 37
      obtain ⟨v1, hv1, hV1⟩ := h.dp hd 39
      exact ⟨_, run_neqb rfl (hv0.trans hV0) (hv1.trans hV1), congrArg Value.bool (bne_self_eq_false _)⟩
    case s7 =>
      refine kc fun _ ac Wd h hd => ?_
      obtain ⟨v0, hv0, hV0⟩ := h.dp hd 42
      exact ⟨#[v0], by simp [hv0], cPValidBad (show VP2 4 4 (VP2 2 2 (Vz 3 ((ct).num)) (VZr 3 false [(arn odd 3)])) (Vq 3 (st_)) v0 Wd from hV0) (by omega) (raw_badP hbad)⟩
    case s9 =>
      refine kc fun _ ac Wd h hd => ?_
      obtain ⟨v0, hv0, hV0⟩ := h.dp hd 44
      exact ⟨#[v0], by simp [hv0], cR5ValidBad (show VP2 4 4 (VP2 2 2 (Vz 3 ((ct).num)) (VZr 3 false [(arn odd 3)])) (Vq 3 (st_)) v0 Wd from hV0) (by omega) (raw_badR hbad)⟩
    case s10 =>
      refine kr fun _ ac Wd h hd => ?_
      obtain ⟨v0, hv0, hV0⟩ := h.dp hd 43
      obtain ⟨v1, hv1, hV1⟩ := h.dp hd 45
      exact ⟨_, run_neqb rfl (hv0.trans hV0) (hv1.trans hV1), congrArg Value.bool (bne_self_eq_false _)⟩
    case s14 =>
      refine kc fun _ ac Wd h hd => ?_
      obtain ⟨v0, hv0, hV0⟩ := h.dp hd 49
      exact ⟨#[v0], by simp [hv0], (cPValid (show Vv 3 (ct) (st_) v0 Wd from hV0) (by omega) (by omega)).mono fun e w h => h.le fun v w hv => hv.trans (congrArg Value.bool (decide_eq_true (by first | (and_intros <;> grind) | grind)))⟩
    case s18 => refine kc fun _ ac Wd h hd => ?_; exact ⟨#[], by simp [], cStill⟩
    case s19 => refine kc fun _ ac Wd h hd => ?_; exact ⟨#[], by simp [], cR5Still⟩
    case s20 =>
      refine kc fun _ ac Wd h hd => ?_
      obtain ⟨v0, hv0, hV0⟩ := h.dp hd 54
      obtain ⟨v1, hv1, hV1⟩ := h.dp hd 55
      exact ⟨#[v0, v1], by simp [hv0, hv1], (cR5TSame (show Vv 3 (Rat.divInt 1 1) (Rat.divInt 0 1) v0 Wd from hV0) (show Vv 3 (Rat.divInt 1 1) (0) v1 Wd from hV1) (by omega) (by omega)).mono fun e w h => h.le fun v w hv => hv.trans (congrArg Value.bool (decide_eq_true (by decide +kernel)))⟩
    intro a7 w7 st7
    clear st6
    repeat first | refine wp_seq ?_ | refine wp_block ?_ | refine wp_skip ?_ | refine wp_exit ?_
    obtain ⟨vc, hc1, hc2⟩ := st7.slot (58, Vb (false)) (.tail _ (.tail _ (.tail _ (.tail _ (.tail _ (.head _))))))
    refine wp_cond_false (hc1.trans hc2) ?_
    clear hc1 hc2
    repeat first | refine wp_seq ?_ | refine wp_block ?_ | refine wp_skip ?_ | refine wp_exit ?_
    refine rg (BT := [(47, 8, 0), (28, 8, 0)]) (Vl := [Vv 3 (ct) (st_), Vv 3 (xa) (ya), Vv (4 * 3 + 1) ((ct) * (xa) + -(st_) * (ya)) ((st_) * (xa) + (ct) * (ya)), Vv 3 (ct) (st_), Vv 3 (xa) (ya), Vv (4 * 3 + 1) ((ct) * (xa) - (st_) * (ya)) ((st_) * (xa) + (ct) * (ya)), Vb (true), Vb (false), Vb (false), Vv 3 (ct) (st_), Vv 3 (cu) (su), Vv (4 * 3 + 1) ((ct) * (cu) + -(st_) * (su)) ((st_) * (cu) + (ct) * (su)), Vv 3 (ct) (st_), Vv 3 (cu) (su), Vv (4 * 3 + 1) ((ct) * (cu) - (st_) * (su)) ((st_) * (cu) + (ct) * (su)), Vb (true), Vb (false), Vb (false), Vb (false), Vv 3 (ct) (st_), Vv 3 (ct) (-(st_)), Vv 3 (ct) (st_), Vv 3 (ct) (-(st_)), Vb (true), Vb (false), Vb (false)]) (B := [⟨9, none, none, 47, 8, Vv 3 (ct) (st_), VT⟩, ⟨10, none, none, 47, 8, Vv 3 (cu) (su), VT⟩, ⟨11, none, none, 28, 8, Vv 3 (xa) (ya), VT⟩, ⟨12, none, none, 47, 8, Vv 3 (xo) (su), VT⟩, ⟨13, none, none, 47, 8, VP2 4 4 (VP2 2 2 (Vz 3 ((ct).num)) (VZr 3 false [(arn odd 3)])) (Vq 3 (st_)), VT⟩]) (SL' := [(0, VI l), (1, Vi (n)), (2, Vi (m)), (3, Vi (odd)), (8, Vb (false)), (58, Vb (false)), (84, Vb (false))]) st7 ⟨ks, ks, ?s2, ks, ks, ?s5, ?s6, ks, ks, ks, ks, ?s11, ks, ks, ?s14, ?s15, ks, ks, ks, ks, ?s20, ks, ?s22, ?s23, ks, ks, trivial⟩ ?_
    case s2 =>
      refine kc fun _ ac Wd h hd => ?_
      obtain ⟨v0, hv0, hV0⟩ := h.dp hd 59
      obtain ⟨v1, hv1, hV1⟩ := h.dp hd 60
      exact ⟨#[v0, v1], by simp [hv0, hv1], cRotate (show Vv 3 (ct) (st_) v0 Wd from hV0) (show Vv 3 (xa) (ya) v1 Wd from hV1) (by omega) (by omega)⟩
    case s5 =>
      refine kc fun _ ac Wd h hd => ?_
      obtain ⟨v0, hv0, hV0⟩ := h.dp hd 62
      obtain ⟨v1, hv1, hV1⟩ := h.dp hd 63
      exact ⟨#[v0, v1], by simp [hv0, hv1], cR5Rotate (show Vv 3 (ct) (st_) v0 Wd from hV0) (show Vv 3 (xa) (ya) v1 Wd from hV1) (by omega) (by omega)⟩
    case s6 =>
      refine kc fun _ ac Wd h hd => ?_
      obtain ⟨v0, hv0, hV0⟩ := h.dp hd 61
      obtain ⟨v1, hv1, hV1⟩ := h.dp hd 64
      exact ⟨#[v0, v1], by simp [hv0, hv1], (cR5Same (show Vv (4 * 3 + 1) ((ct) * (xa) + -(st_) * (ya)) ((st_) * (xa) + (ct) * (ya)) v0 Wd from hV0) (show Vv (4 * 3 + 1) ((ct) * (xa) - (st_) * (ya)) ((st_) * (xa) + (ct) * (ya)) v1 Wd from hV1) (by omega) (by omega)).mono fun e w h => h.le fun v w hv => hv.trans (congrArg Value.bool (decide_eq_true (by first | (and_intros <;> grind) | grind)))⟩
    case s11 =>
      refine kc fun _ ac Wd h hd => ?_
      obtain ⟨v0, hv0, hV0⟩ := h.dp hd 68
      obtain ⟨v1, hv1, hV1⟩ := h.dp hd 69
      exact ⟨#[v0, v1], by simp [hv0, hv1], cAfter (show Vv 3 (ct) (st_) v0 Wd from hV0) (show Vv 3 (cu) (su) v1 Wd from hV1) (by omega) (by omega)⟩
    case s14 =>
      refine kc fun _ ac Wd h hd => ?_
      obtain ⟨v0, hv0, hV0⟩ := h.dp hd 71
      obtain ⟨v1, hv1, hV1⟩ := h.dp hd 72
      exact ⟨#[v0, v1], by simp [hv0, hv1], cR5After (show Vv 3 (ct) (st_) v0 Wd from hV0) (show Vv 3 (cu) (su) v1 Wd from hV1) (by omega) (by omega)⟩
    case s15 =>
      refine kc fun _ ac Wd h hd => ?_
      obtain ⟨v0, hv0, hV0⟩ := h.dp hd 70
      obtain ⟨v1, hv1, hV1⟩ := h.dp hd 73
      exact ⟨#[v0, v1], by simp [hv0, hv1], (cR5TSame (show Vv (4 * 3 + 1) ((ct) * (cu) + -(st_) * (su)) ((st_) * (cu) + (ct) * (su)) v0 Wd from hV0) (show Vv (4 * 3 + 1) ((ct) * (cu) - (st_) * (su)) ((st_) * (cu) + (ct) * (su)) v1 Wd from hV1) (by omega) (by omega)).mono fun e w h => h.le fun v w hv => hv.trans (congrArg Value.bool (decide_eq_true (by first | (and_intros <;> grind) | grind)))⟩
    case s20 => refine kc fun _ ac Wd h hd => ?_; obtain ⟨v0, hv0, hV0⟩ := h.dp hd 78; exact ⟨#[v0], by simp [hv0], cBack (show Vv 3 (ct) (st_) v0 Wd from hV0) (by omega)⟩
    case s22 => refine kc fun _ ac Wd h hd => ?_; obtain ⟨v0, hv0, hV0⟩ := h.dp hd 80; exact ⟨#[v0], by simp [hv0], cR5Back (show Vv 3 (ct) (st_) v0 Wd from hV0) (by omega)⟩
    case s23 =>
      refine kc fun _ ac Wd h hd => ?_
      obtain ⟨v0, hv0, hV0⟩ := h.dp hd 79
      obtain ⟨v1, hv1, hV1⟩ := h.dp hd 81
      exact ⟨#[v0, v1], by simp [hv0, hv1], (cR5TSame (show Vv 3 (ct) (-(st_)) v0 Wd from hV0) (show Vv 3 (ct) (-(st_)) v1 Wd from hV1) (by omega) (by omega)).mono fun e w h => h.le fun v w hv => hv.trans (congrArg Value.bool (decide_eq_true (by first | (and_intros <;> grind) | grind)))⟩
    intro a8 w8 st8
    clear st7
    repeat first | refine wp_seq ?_ | refine wp_block ?_ | refine wp_skip ?_ | refine wp_exit ?_
    obtain ⟨vc, hc1, hc2⟩ := st8.slot (84, Vb (false)) (.tail _ (.tail _ (.tail _ (.tail _ (.tail _ (.tail _ (.head _)))))))
    refine wp_cond_false (hc1.trans hc2) ?_
    clear hc1 hc2
    repeat first | refine wp_seq ?_ | refine wp_block ?_ | refine wp_skip ?_ | refine wp_exit ?_
    refine rg (BT := [(47, 8, 0), (28, 8, 0)]) (Vl := [Vv 3 (ct) (st_), Vv 3 (cu) (su), Vb (decide ((ct) = (cu) ∧ (st_) = (su))), Vv 3 (ct) (st_), Vv 3 (cu) (su), Vb (decide ((ct) = (cu) ∧ (st_) = (su))), Vb (true), Vb (true), Vv 3 (ct) (st_), Vv 3 (ct) (st_), Vb (true), Vb (true), Vb (true), Vb (true), Vb (true), Vb (true)]) (B := [⟨9, none, none, 47, 8, Vv 3 (ct) (st_), VT⟩, ⟨10, none, none, 47, 8, Vv 3 (cu) (su), VT⟩, ⟨11, none, none, 28, 8, Vv 3 (xa) (ya), VT⟩, ⟨12, none, none, 47, 8, Vv 3 (xo) (su), VT⟩, ⟨13, none, none, 47, 8, VP2 4 4 (VP2 2 2 (Vz 3 ((ct).num)) (VZr 3 false [(arn odd 3)])) (Vq 3 (st_)), VT⟩]) (SL' := [(0, VI l), (1, Vi (n)), (2, Vi (m)), (3, Vi (odd)), (58, Vb (false)), (84, Vb (false)), (8, Vb (true))]) st8 ⟨ks, ks, ?s2, ks, ks, ?s5, ?s6, ks, ks, ks, ?s10, ks, ks, ?s13, ks, ks, trivial⟩ ?_
    case s2 =>
      refine kc fun _ ac Wd h hd => ?_
      obtain ⟨v0, hv0, hV0⟩ := h.dp hd 85
      obtain ⟨v1, hv1, hV1⟩ := h.dp hd 86
      exact ⟨#[v0, v1], by simp [hv0, hv1], cTSame (show Vv 3 (ct) (st_) v0 Wd from hV0) (show Vv 3 (cu) (su) v1 Wd from hV1) (by omega) (by omega)⟩
    case s5 =>
      refine kc fun _ ac Wd h hd => ?_
      obtain ⟨v0, hv0, hV0⟩ := h.dp hd 88
      obtain ⟨v1, hv1, hV1⟩ := h.dp hd 89
      exact ⟨#[v0, v1], by simp [hv0, hv1], cR5TSame (show Vv 3 (ct) (st_) v0 Wd from hV0) (show Vv 3 (cu) (su) v1 Wd from hV1) (by omega) (by omega)⟩
    case s6 => refine kr fun _ ac Wd h hd => ?_; obtain ⟨v0, hv0, hV0⟩ := h.dp hd 87; obtain ⟨v1, hv1, hV1⟩ := h.dp hd 90; exact ⟨_, run_eqb rfl (hv0.trans hV0) (hv1.trans hV1), congrArg Value.bool (beq_self_eq_true _)⟩
    case s10 =>
      refine kc fun _ ac Wd h hd => ?_
      obtain ⟨v0, hv0, hV0⟩ := h.dp hd 93
      obtain ⟨v1, hv1, hV1⟩ := h.dp hd 94
      exact ⟨#[v0, v1], by simp [hv0, hv1], (cTSame (show Vv 3 (ct) (st_) v0 Wd from hV0) (show Vv 3 (ct) (st_) v1 Wd from hV1) (by omega) (by omega)).mono fun e w h => h.le fun v w hv => hv.trans (congrArg Value.bool (decide_eq_true (by exact ⟨rfl, rfl⟩)))⟩
    case s13 => refine kc fun _ ac Wd h hd => ?_; exact ⟨#[], by simp [], cPLives⟩
    intro a9 w9 st9
    clear st8
    repeat first | refine wp_seq ?_ | refine wp_block ?_ | refine wp_skip ?_ | refine wp_exit ?_
    obtain ⟨vr, r1, r4⟩ := st9.slot (8, Vb (true)) (.tail _ (.tail _ (.tail _ (.tail _ (.tail _ (.tail _ (.head _)))))))
    exact wp_ret (bodyPost_ret (results_tmp rfl _ _ _) st9.defers ⟨_, congrArg Ending.returned (show _ = vr from r1), r4, st9.k.below⟩)
  ·
    have hgood : (arn odd 3) = 2 ∧ Int.gcd (ct).num 2 = 1 := by have h1 := arn_lo odd 3 (by omega); have h2 := arn_hi odd 3 (by omega); unfold RawBad at hg3; omega
    repeat first | refine wp_seq ?_ | refine wp_block ?_ | refine wp_skip ?_ | refine wp_exit ?_
    refine rg (BT := [(47, 8, 0), (28, 8, 0)]) (Vl := [Vv 3 (xo) (su), Vb (decide ((xo) * (xo) + (su) * (su) = Rat.divInt 1 1)), Vv 3 (xo) (su), Vb (decide ((xo) * (xo) + (su) * (su) = Rat.divInt 1 1)), Vb (false), Vb (false), VP2 4 4 (VP2 2 2 (Vz 3 ((ct).num)) (VZr 3 false [(arn odd 3)])) (Vq 3 (st_)), Vb (decide ((halfQ (ct).num) * (halfQ (ct).num) + (st_) * (st_) = Rat.divInt 1 1)), VP2 4 4 (VP2 2 2 (Vz 3 ((ct).num)) (VZr 3 false [(arn odd 3)])) (Vq 3 (st_)), Vb (decide ((halfQ (ct).num) * (halfQ (ct).num) + (st_) * (st_) = Rat.divInt 1 1)), Vb (false), Vb (false), Vb (false), Vv 3 (ct) (st_), Vb (true), Vb (false), Vb (false), Vb (false), Vv 3 (Rat.divInt 1 1) (Rat.divInt 0 1), Vv 3 (Rat.divInt 1 1) (0), Vb (true), Vb (false), Vb (false)]) (B := [⟨9, none, none, 47, 8, Vv 3 (ct) (st_), VT⟩, ⟨10, none, none, 47, 8, Vv 3 (cu) (su), VT⟩, ⟨11, none, none, 28, 8, Vv 3 (xa) (ya), VT⟩, ⟨12, none, none, 47, 8, Vv 3 (xo) (su), VT⟩, ⟨13, none, none, 47, 8, VP2 4 4 (VP2 2 2 (Vz 3 ((ct).num)) (VZr 3 false [(arn odd 3)])) (Vq 3 (st_)), VT⟩]) (SL' := [(0, VI l), (1, Vi (n)), (2, Vi (m)), (3, Vi (odd)), (8, Vb (false)), (58, Vb (false))]) st6 ⟨ks, ?s1, ks, ?s3, ?s4, ks, ks, ?s7, ks, ?s9, ?s10, ks, ks, ks, ?s14, ks, ks, ks, ?s18, ?s19, ?s20, ks, ks, trivial⟩ ?_
    case s1 => refine kc fun _ ac Wd h hd => ?_; obtain ⟨v0, hv0, hV0⟩ := h.dp hd 36; exact ⟨#[v0], by simp [hv0], cPValid (show Vv 3 (xo) (su) v0 Wd from hV0) (by omega) (by omega)⟩
    case s3 => refine kc fun _ ac Wd h hd => ?_; obtain ⟨v0, hv0, hV0⟩ := h.dp hd 38; exact ⟨#[v0], by simp [hv0], cR5Valid (show Vv 3 (xo) (su) v0 Wd from hV0) (by omega) (by omega)⟩
    case s4 =>
      refine kr fun _ ac Wd h hd => ?_
      obtain ⟨v0, hv0, hV0⟩ := h.dp hd 37
      obtain ⟨v1, hv1, hV1⟩ := h.dp hd 39
      exact ⟨_, run_neqb rfl (hv0.trans hV0) (hv1.trans hV1), congrArg Value.bool (bne_self_eq_false _)⟩
    case s7 =>
      refine kc fun _ ac Wd h hd => ?_
      obtain ⟨v0, hv0, hV0⟩ := h.dp hd 42
      exact ⟨#[v0], by simp [hv0], cPValid (show Vv 3 (halfQ (ct).num) st_ _ Wd from VP2_le (show VP2 4 4 (VP2 2 2 (Vz 3 ((ct).num)) (VZr 3 false [(arn odd 3)])) (Vq 3 (st_)) v0 Wd from hV0) (fun _ h => raw_good hgood.2 (by rw [← hgood.1]; exact h)) (fun _ h => h)) (by omega) (by omega)⟩
    case s9 =>
      refine kc fun _ ac Wd h hd => ?_
      obtain ⟨v0, hv0, hV0⟩ := h.dp hd 44
      exact ⟨#[v0], by simp [hv0], cR5Valid (show Vv 3 (halfQ (ct).num) st_ _ Wd from VP2_le (show VP2 4 4 (VP2 2 2 (Vz 3 ((ct).num)) (VZr 3 false [(arn odd 3)])) (Vq 3 (st_)) v0 Wd from hV0) (fun _ h => raw_good hgood.2 (by rw [← hgood.1]; exact h)) (fun _ h => h)) (by omega) (by omega)⟩
    case s10 =>
      refine kr fun _ ac Wd h hd => ?_
      obtain ⟨v0, hv0, hV0⟩ := h.dp hd 43
      obtain ⟨v1, hv1, hV1⟩ := h.dp hd 45
      exact ⟨_, run_neqb rfl (hv0.trans hV0) (hv1.trans hV1), congrArg Value.bool (bne_self_eq_false _)⟩
    case s14 =>
      refine kc fun _ ac Wd h hd => ?_
      obtain ⟨v0, hv0, hV0⟩ := h.dp hd 49
      exact ⟨#[v0], by simp [hv0], (cPValid (show Vv 3 (ct) (st_) v0 Wd from hV0) (by omega) (by omega)).mono fun e w h => h.le fun v w hv => hv.trans (congrArg Value.bool (decide_eq_true (by first | (and_intros <;> grind) | grind)))⟩
    case s18 => refine kc fun _ ac Wd h hd => ?_; exact ⟨#[], by simp [], cStill⟩
    case s19 => refine kc fun _ ac Wd h hd => ?_; exact ⟨#[], by simp [], cR5Still⟩
    case s20 =>
      refine kc fun _ ac Wd h hd => ?_
      obtain ⟨v0, hv0, hV0⟩ := h.dp hd 54
      obtain ⟨v1, hv1, hV1⟩ := h.dp hd 55
      exact ⟨#[v0, v1], by simp [hv0, hv1], (cR5TSame (show Vv 3 (Rat.divInt 1 1) (Rat.divInt 0 1) v0 Wd from hV0) (show Vv 3 (Rat.divInt 1 1) (0) v1 Wd from hV1) (by omega) (by omega)).mono fun e w h => h.le fun v w hv => hv.trans (congrArg Value.bool (decide_eq_true (by decide +kernel)))⟩
    intro a7 w7 st7
    clear st6
    repeat first | refine wp_seq ?_ | refine wp_block ?_ | refine wp_skip ?_ | refine wp_exit ?_
    obtain ⟨vc, hc1, hc2⟩ := st7.slot (58, Vb (false)) (.tail _ (.tail _ (.tail _ (.tail _ (.tail _ (.head _))))))
    refine wp_cond_false (hc1.trans hc2) ?_
    clear hc1 hc2
    repeat first | refine wp_seq ?_ | refine wp_block ?_ | refine wp_skip ?_ | refine wp_exit ?_
    refine rg (BT := [(47, 8, 0), (28, 8, 0)]) (Vl := [Vv 3 (ct) (st_), Vv 3 (xa) (ya), Vv (4 * 3 + 1) ((ct) * (xa) + -(st_) * (ya)) ((st_) * (xa) + (ct) * (ya)), Vv 3 (ct) (st_), Vv 3 (xa) (ya), Vv (4 * 3 + 1) ((ct) * (xa) - (st_) * (ya)) ((st_) * (xa) + (ct) * (ya)), Vb (true), Vb (false), Vb (false), Vv 3 (ct) (st_), Vv 3 (cu) (su), Vv (4 * 3 + 1) ((ct) * (cu) + -(st_) * (su)) ((st_) * (cu) + (ct) * (su)), Vv 3 (ct) (st_), Vv 3 (cu) (su), Vv (4 * 3 + 1) ((ct) * (cu) - (st_) * (su)) ((st_) * (cu) + (ct) * (su)), Vb (true), Vb (false), Vb (false), Vb (false), Vv 3 (ct) (st_), Vv 3 (ct) (-(st_)), Vv 3 (ct) (st_), Vv 3 (ct) (-(st_)), Vb (true), Vb (false), Vb (false)]) (B := [⟨9, none, none, 47, 8, Vv 3 (ct) (st_), VT⟩, ⟨10, none, none, 47, 8, Vv 3 (cu) (su), VT⟩, ⟨11, none, none, 28, 8, Vv 3 (xa) (ya), VT⟩, ⟨12, none, none, 47, 8, Vv 3 (xo) (su), VT⟩, ⟨13, none, none, 47, 8, VP2 4 4 (VP2 2 2 (Vz 3 ((ct).num)) (VZr 3 false [(arn odd 3)])) (Vq 3 (st_)), VT⟩]) (SL' := [(0, VI l), (1, Vi (n)), (2, Vi (m)), (3, Vi (odd)), (8, Vb (false)), (58, Vb (false)), (84, Vb (false))]) st7 ⟨ks, ks, ?s2, ks, ks, ?s5, ?s6, ks, ks, ks, ks, ?s11, ks, ks, ?s14, ?s15, ks, ks, ks, ks, ?s20, ks, ?s22, ?s23, ks, ks, trivial⟩ ?_
    case s2 =>
      refine kc fun _ ac Wd h hd => ?_
      obtain ⟨v0, hv0, hV0⟩ := h.dp hd 59
      obtain ⟨v1, hv1, hV1⟩ := h.dp hd 60
      exact ⟨#[v0, v1], by simp [hv0, hv1], cRotate (show Vv 3 (ct) (st_) v0 Wd from hV0) (show Vv 3 (xa) (ya) v1 Wd from hV1) (by omega) (by omega)⟩
    case s5 =>
      refine kc fun _ ac Wd h hd => ?_
      obtain ⟨v0, hv0, hV0⟩ := h.dp hd 62
      obtain ⟨v1, hv1, hV1⟩ := h.dp hd 63
      exact ⟨#[v0, v1], by simp [hv0, hv1], cR5Rotate (show Vv 3 (ct) (st_) v0 Wd from hV0) (show Vv 3 (xa) (ya) v1 Wd from hV1) (by omega) (by omega)⟩
    case s6 =>
      refine kc fun _ ac Wd h hd => ?_
      obtain ⟨v0, hv0, hV0⟩ := h.dp hd 61
      obtain ⟨v1, hv1, hV1⟩ := h.dp hd 64
      exact ⟨#[v0, v1], by simp [hv0, hv1], (cR5Same (show Vv (4 * 3 + 1) ((ct) * (xa) + -(st_) * (ya)) ((st_) * (xa) + (ct) * (ya)) v0 Wd from hV0) (show Vv (4 * 3 + 1) ((ct) * (xa) - (st_) * (ya)) ((st_) * (xa) + (ct) * (ya)) v1 Wd from hV1) (by omega) (by omega)).mono fun e w h => h.le fun v w hv => hv.trans (congrArg Value.bool (decide_eq_true (by first | (and_intros <;> grind) | grind)))⟩
    case s11 =>
      refine kc fun _ ac Wd h hd => ?_
      obtain ⟨v0, hv0, hV0⟩ := h.dp hd 68
      obtain ⟨v1, hv1, hV1⟩ := h.dp hd 69
      exact ⟨#[v0, v1], by simp [hv0, hv1], cAfter (show Vv 3 (ct) (st_) v0 Wd from hV0) (show Vv 3 (cu) (su) v1 Wd from hV1) (by omega) (by omega)⟩
    case s14 =>
      refine kc fun _ ac Wd h hd => ?_
      obtain ⟨v0, hv0, hV0⟩ := h.dp hd 71
      obtain ⟨v1, hv1, hV1⟩ := h.dp hd 72
      exact ⟨#[v0, v1], by simp [hv0, hv1], cR5After (show Vv 3 (ct) (st_) v0 Wd from hV0) (show Vv 3 (cu) (su) v1 Wd from hV1) (by omega) (by omega)⟩
    case s15 =>
      refine kc fun _ ac Wd h hd => ?_
      obtain ⟨v0, hv0, hV0⟩ := h.dp hd 70
      obtain ⟨v1, hv1, hV1⟩ := h.dp hd 73
      exact ⟨#[v0, v1], by simp [hv0, hv1], (cR5TSame (show Vv (4 * 3 + 1) ((ct) * (cu) + -(st_) * (su)) ((st_) * (cu) + (ct) * (su)) v0 Wd from hV0) (show Vv (4 * 3 + 1) ((ct) * (cu) - (st_) * (su)) ((st_) * (cu) + (ct) * (su)) v1 Wd from hV1) (by omega) (by omega)).mono fun e w h => h.le fun v w hv => hv.trans (congrArg Value.bool (decide_eq_true (by first | (and_intros <;> grind) | grind)))⟩
    case s20 => refine kc fun _ ac Wd h hd => ?_; obtain ⟨v0, hv0, hV0⟩ := h.dp hd 78; exact ⟨#[v0], by simp [hv0], cBack (show Vv 3 (ct) (st_) v0 Wd from hV0) (by omega)⟩
    case s22 => refine kc fun _ ac Wd h hd => ?_; obtain ⟨v0, hv0, hV0⟩ := h.dp hd 80; exact ⟨#[v0], by simp [hv0], cR5Back (show Vv 3 (ct) (st_) v0 Wd from hV0) (by omega)⟩
    case s23 =>
      refine kc fun _ ac Wd h hd => ?_
      obtain ⟨v0, hv0, hV0⟩ := h.dp hd 79
      obtain ⟨v1, hv1, hV1⟩ := h.dp hd 81
      exact ⟨#[v0, v1], by simp [hv0, hv1], (cR5TSame (show Vv 3 (ct) (-(st_)) v0 Wd from hV0) (show Vv 3 (ct) (-(st_)) v1 Wd from hV1) (by omega) (by omega)).mono fun e w h => h.le fun v w hv => hv.trans (congrArg Value.bool (decide_eq_true (by first | (and_intros <;> grind) | grind)))⟩
    intro a8 w8 st8
    clear st7
    repeat first | refine wp_seq ?_ | refine wp_block ?_ | refine wp_skip ?_ | refine wp_exit ?_
    obtain ⟨vc, hc1, hc2⟩ := st8.slot (84, Vb (false)) (.tail _ (.tail _ (.tail _ (.tail _ (.tail _ (.tail _ (.head _)))))))
    refine wp_cond_false (hc1.trans hc2) ?_
    clear hc1 hc2
    repeat first | refine wp_seq ?_ | refine wp_block ?_ | refine wp_skip ?_ | refine wp_exit ?_
    refine rg (BT := [(47, 8, 0), (28, 8, 0)]) (Vl := [Vv 3 (ct) (st_), Vv 3 (cu) (su), Vb (decide ((ct) = (cu) ∧ (st_) = (su))), Vv 3 (ct) (st_), Vv 3 (cu) (su), Vb (decide ((ct) = (cu) ∧ (st_) = (su))), Vb (true), Vb (true), Vv 3 (ct) (st_), Vv 3 (ct) (st_), Vb (true), Vb (true), Vb (true), Vb (true), Vb (true), Vb (true)]) (B := [⟨9, none, none, 47, 8, Vv 3 (ct) (st_), VT⟩, ⟨10, none, none, 47, 8, Vv 3 (cu) (su), VT⟩, ⟨11, none, none, 28, 8, Vv 3 (xa) (ya), VT⟩, ⟨12, none, none, 47, 8, Vv 3 (xo) (su), VT⟩, ⟨13, none, none, 47, 8, VP2 4 4 (VP2 2 2 (Vz 3 ((ct).num)) (VZr 3 false [(arn odd 3)])) (Vq 3 (st_)), VT⟩]) (SL' := [(0, VI l), (1, Vi (n)), (2, Vi (m)), (3, Vi (odd)), (58, Vb (false)), (84, Vb (false)), (8, Vb (true))]) st8 ⟨ks, ks, ?s2, ks, ks, ?s5, ?s6, ks, ks, ks, ?s10, ks, ks, ?s13, ks, ks, trivial⟩ ?_
    case s2 =>
      refine kc fun _ ac Wd h hd => ?_
      obtain ⟨v0, hv0, hV0⟩ := h.dp hd 85
      obtain ⟨v1, hv1, hV1⟩ := h.dp hd 86
      exact ⟨#[v0, v1], by simp [hv0, hv1], cTSame (show Vv 3 (ct) (st_) v0 Wd from hV0) (show Vv 3 (cu) (su) v1 Wd from hV1) (by omega) (by omega)⟩
    case s5 =>
      refine kc fun _ ac Wd h hd => ?_
      obtain ⟨v0, hv0, hV0⟩ := h.dp hd 88
      obtain ⟨v1, hv1, hV1⟩ := h.dp hd 89
      exact ⟨#[v0, v1], by simp [hv0, hv1], cR5TSame (show Vv 3 (ct) (st_) v0 Wd from hV0) (show Vv 3 (cu) (su) v1 Wd from hV1) (by omega) (by omega)⟩
    case s6 => refine kr fun _ ac Wd h hd => ?_; obtain ⟨v0, hv0, hV0⟩ := h.dp hd 87; obtain ⟨v1, hv1, hV1⟩ := h.dp hd 90; exact ⟨_, run_eqb rfl (hv0.trans hV0) (hv1.trans hV1), congrArg Value.bool (beq_self_eq_true _)⟩
    case s10 =>
      refine kc fun _ ac Wd h hd => ?_
      obtain ⟨v0, hv0, hV0⟩ := h.dp hd 93
      obtain ⟨v1, hv1, hV1⟩ := h.dp hd 94
      exact ⟨#[v0, v1], by simp [hv0, hv1], (cTSame (show Vv 3 (ct) (st_) v0 Wd from hV0) (show Vv 3 (ct) (st_) v1 Wd from hV1) (by omega) (by omega)).mono fun e w h => h.le fun v w hv => hv.trans (congrArg Value.bool (decide_eq_true (by exact ⟨rfl, rfl⟩)))⟩
    case s13 => refine kc fun _ ac Wd h hd => ?_; exact ⟨#[], by simp [], cPLives⟩
    intro a9 w9 st9
    clear st8
    repeat first | refine wp_seq ?_ | refine wp_block ?_ | refine wp_skip ?_ | refine wp_exit ?_
    obtain ⟨vr, r1, r4⟩ := st9.slot (8, Vb (true)) (.tail _ (.tail _ (.tail _ (.tail _ (.tail _ (.tail _ (.head _)))))))
    exact wp_ret (bodyPost_ret (results_tmp rfl _ _ _) st9.defers ⟨_, congrArg Ending.returned (show _ = vr from r1), r4, st9.k.below⟩)
end Go.Proofs.YteaoaoknpihchaaGreat
