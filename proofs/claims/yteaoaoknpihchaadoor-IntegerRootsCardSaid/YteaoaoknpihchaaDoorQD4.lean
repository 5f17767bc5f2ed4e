/- sherdref03.Root. -/
import Derived.Deep.LoopGhost
import Derived.Test.YteaoaoknpihchaaDoorM24
import Derived.Test.YteaoaoknpihchaaDoorM28
import Derived.Test.YteaoaoknpihchaaDoorQFlowO
import Derived.Test.YteaoaoknpihchaaDoorM8
set_option linter.unusedVariables false
namespace Go.Proofs.YteaoaoknpihchaaDoor
open Go.RowKit

variable {BT : List (TypeId × Nat × Nat)}
theorem Vz_lenR {N : Nat} {z : Int} {v : Value} {w : World} (h : Vz N z v w) : (digs z.natAbs).length ≤ N := by
  obtain ⟨nb, p, n, c, h1, h2, h3⟩ := h
  rw [← h2.2.1]; exact h3
theorem Vz_fit {N M : Nat} {z : Int} {v : Value} {w : World} (h : Vz N z v w) (hM : (digs z.natAbs).length ≤ M) : Vz M z v w := by
  obtain ⟨nb, p, n, c, h1, h2, h3⟩ := h
  exact ⟨nb, p, n, c, h1, h2, by rw [h2.2.1]; exact hM⟩
theorem Dg_pw : ∀ L, Dg (List.replicate L 0 ++ [1]) := fun L k hk => by
  have hk' : k < L + 1 := by simpa using hk
  by_cases hkl : k < L
  · rw [show iat (List.replicate L 0 ++ [1]) k = 0 by unfold iat; simp [List.getD_eq_getElem?_getD, List.getElem?_append_left (by simpa using hkl : k < (List.replicate L (0:Int)).length), hkl]]
    omega
  · have : k = L := by omega
    subst this
    rw [show iat (List.replicate k 0 ++ [1]) k = 1 by unfold iat; simp]
    omega
theorem pw_digs {L M : Nat} (h : L + 1 ≤ M) : (digs (pw L).natAbs).length ≤ M := by
  have h1 := Go.Proofs.YteaoaoknpihchaaDoor.rt_len' (Dg_pw L)
  rw [val_append, val_zeros] at h1
  simp [val] at h1
  omega

/-- the root of a number, rounded down -/
def sqN : Nat → Nat
  | 0 => 0
  | n + 1 => if (sqN n + 1) * (sqN n + 1) ≤ n + 1 then sqN n + 1 else sqN n
theorem sqN_spec : ∀ n, sqN n * sqN n ≤ n ∧ n < (sqN n + 1) * (sqN n + 1)
  | 0 => by decide
  | n + 1 => by
    obtain ⟨h1, h2⟩ := sqN_spec n
    unfold sqN
    split
    · refine ⟨by assumption, ?_⟩
      have := Nat.mul_lt_mul_of_lt_of_le (show sqN n + 1 < sqN n + 1 + 1 by omega) (show sqN n + 1 ≤ sqN n + 1 + 1 by omega) (by omega)
      omega
    · omega
def rt (x : Int) : Int := if x < 0 then 0 else (sqN x.toNat : Int)
def rb (x : Int) : Bool := if x < 0 then false else decide (rt x * rt x = x)
theorem sq_mono {a b : Int} (ha : 0 ≤ a) (h : a ≤ b) : a * a ≤ b * b := Int.mul_le_mul h h ha (by omega)
theorem rt_uniq {x r : Int} (hx : ¬ x < 0) (h0 : 0 ≤ r) (h1 : r * r ≤ x) (h2 : x < (r + 1) * (r + 1)) : r = rt x := by
  unfold rt
  rw [if_neg hx]
  obtain ⟨q1, q2⟩ := sqN_spec x.toNat
  have e : (x.toNat : Int) = x := Int.toNat_of_nonneg (by omega)
  have q1' : (sqN x.toNat : Int) * (sqN x.toNat : Int) ≤ x := by rw [← e]; exact_mod_cast q1
  have q2' : x < ((sqN x.toNat : Int) + 1) * ((sqN x.toNat : Int) + 1) := by
    have : ((x.toNat : Nat) : Int) < (((sqN x.toNat + 1) * (sqN x.toNat + 1) : Nat) : Int) := by exact_mod_cast q2
    rw [e] at this
    simpa using this
  have hs0 : 0 ≤ (sqN x.toNat : Int) := Int.natCast_nonneg _
  generalize (sqN x.toNat : Int) = s at *
  rcases Int.lt_trichotomy r s with h | h | h
  · have := sq_mono (a := r + 1) (b := s) (by omega) (by omega); omega
  · exact h
  · have := sq_mono (a := s + 1) (b := r) (by omega) (by omega); omega
theorem rt_lenX {x r : Int} (h0 : 0 ≤ r) (h1 : r * r ≤ x) : (digs r.natAbs).length ≤ (digs x.natAbs).length := by
  refine digs_len_mono ?_
  have : r ≤ r * r := by
    rcases Int.lt_or_eq_of_le h0 with h | h
    · have := Int.mul_le_mul (show (1 : Int) ≤ r by omega) (Int.le_refl r) (by omega) (by omega); omega
    · rw [← h]; omega
  omega
theorem cRootT {W : World} {N : Nat} {x : Int} {v : Value} (h1 : Vz N x v W) (hN : N ≤ 1000000) : Calls Tryd.prog 25 #[v] W (RV (VTup (Vz N (rt x)) (Vb (rb x))) W) := by
  have hl := Vz_lenR h1
  obtain ⟨nb, p, n, c, rfl, hI, hn⟩ := h1
  exact (Root_any _ _ _ _ x W hI (by omega)).mono fun e w' ⟨nb2, p2, n2, c2, r, bl, he, h2, h3, h4, hb, _⟩ => by
    by_cases hx : x < 0
    · obtain ⟨rfl, rfl⟩ := h3 hx
      exact ⟨_, he, ⟨_, _, rfl, ⟨nb2, p2, n2, c2, rfl, by rw [show rt x = 0 from if_pos hx]; exact h2, by rw [h2.2.1]; show (digs 0).length ≤ N; rw [digs_zero]; exact Nat.zero_le _⟩, by rw [show rb x = false from if_pos hx]; rfl⟩, hb⟩
    · obtain ⟨h5, h6, h7, h8⟩ := h4 (by omega)
      have e1 := rt_uniq hx h5 h6 h7
      have e2 : rb x = bl := by rw [show rb x = decide (rt x * rt x = x) from if_neg hx, ← e1, h8]
      exact ⟨_, he, ⟨_, _, rfl, ⟨nb2, p2, n2, c2, rfl, by rw [← e1]; exact h2, by rw [h2.2.1]; have := rt_lenX h5 h6; omega⟩, by rw [e2]; rfl⟩, hb⟩
/-- a new row of zeros -/
def VMk (L : Nat) : VP := fun v w => ∃ h, v = .slice (some ⟨h, 0, none⟩) L L ∧ Blk w h (List.replicate L 0)
theorem Stab_VMk (L : Nat) (hn : BT.any (fun e => e.1 == 3) = false) : Stab BT (VMk L) := fun _ _ _ ⟨h, e1, e2⟩ hr => ⟨h, e1, (hr.row h _ _ e2 (fun e he q1 _ => by
  rw [List.any_eq_false] at hn
  exact absurd (by rw [q1]; simp) (hn e he))).trans e2⟩
section
variable {ρ : Operand → Value} {o : Oper} {W : World} {x y : Operand} {va vb : Value} {L : Nat}
theorem mk_row (ho : o.op = .makeSlice 22 x x) (hx : ρ x = va) (h : Vi (L : Int) va W) (hL : L ≤ 1000000) : ∃ v w', (execOp ρ o).run Tryd.prog W = .ok (.value v) w' ∧ Below W.heap.size W w' ∧ VMk L v w' := by
  obtain rfl := h
  have hmk := run_make_row' (P := Tryd.prog) 22 3 (.int .i64 0) 8 Tryd.underlying22 info_i64 rfl .i64 .i64 L (by omega) (by omega) W
  rw [zvs_zeros] at hmk
  refine ⟨_, _, ?_, below_new _ _, ⟨_, rfl, Blk_new _ _⟩⟩
  unfold execOp
  simp only [ho, hx, Sem.run_bind, hmk, Sem.run_pure, Result.andThen_ok]
theorem app_row (ho : o.op = .call { callee := .builtin .append, args := #[x, y], argTypes := #[22, 22] }) (hty : o.type = 22) (hx : ρ x = va) (hy : ρ y = vb) (h1 : VMk L va W) (h2 : VO 1 1 vb W) (hL : L ≤ 1000000) : ∃ v w', (execOp ρ o).run Tryd.prog W = .ok (.value v) w' ∧ Below W.heap.size W w' ∧ VO (L + 1) (pw L) v w' := by
  obtain ⟨h, rfl, hB⟩ := h1
  obtain ⟨p, n, c, l, rfl, hn, hR, hnc, hc, hd, hv, hN⟩ := h2
  have hl : l.length = 1 := by
    match l, hv with
    | [], hv => simp [val] at hv
    | [_], _ => rfl
    | _ :: _ :: _, _ => simp at hn; omega
  obtain ⟨pp, cc, W', hr, hR', hcc, hcm, -, hb⟩ := append_full h (List.replicate L 0) L (by simp) p n c l W hB hR hn (by omega) (by omega)
  refine ⟨_, W', ?_, hb, ⟨pp, L + n, cc, _, rfl, by simp; omega, hR', hcc, hcm, ?_, by rw [val_append, val_zeros, hv]; simp, by omega⟩⟩
  · have hr2 : (Builtin.append_ #[22, 22] o.type #[.slice (some ⟨h, 0, none⟩) L L, .slice p n c]).run Tryd.prog W = .ok (.slice pp (L + n) cc) W' := by rw [hty]; exact hr
    unfold execOp
    simp only [ho, resolve, invoke, builtin, Sem.run_bind, Sem.run_pure, Result.andThen_ok, List.map_toArray, List.map_cons, List.map_nil, hx, hy, hr2]
  · intro k hk
    have hk' : k < L + l.length := by simpa using hk
    by_cases hkl : k < L
    · rw [show iat (List.replicate L 0 ++ l) k = 0 by unfold iat; simp [List.getD_eq_getElem?_getD, List.getElem?_append_left (by simpa using hkl : k < (List.replicate L (0:Int)).length), hkl]]
      omega
    · have := hd (k - L) (by omega)
      rw [show iat (List.replicate L 0 ++ l) k = iat l (k - L) by unfold iat; simp [List.getD_eq_getElem?_getD, List.getElem?_append_right (by simpa using Nat.le_of_not_lt hkl : (List.replicate L (0:Int)).length ≤ k)]]
      exact this
end
theorem pw_big {x : Int} (hx : ¬ x < 0) {L : Nat} (hL : L = (digs x.natAbs).length / 2 + 1) : x < pw L * pw L := by
  have h1 := (Dg_digs x.natAbs).hi
  rw [val_digs] at h1
  have h2 := pw_mono (show (digs x.natAbs).length ≤ L + L by omega)
  rw [pw_add] at h2
  omega

set_option maxRecDepth 100000 in
set_option maxHeartbeats 1600000 in
theorem cRRoot {w : World} {N : Nat} {x : Int} {v0 : Value} (h0 : Vz N (x) v0 w) (hN : N ≤ 1000) : Calls Tryd.prog 26 #[v0] w (RV (VTup (Vz (N + 3) (rt x)) (Vb (rb x))) w) := by
  go_enter Tryd.func26, Tryd.ntmps26
  have st0 : St w.heap.size w 54 [] [(0, Vz N (x))] _ w := St.begin (a := ⟨#[v0, undef, undef, undef, undef, undef, undef, undef, undef, undef, undef, undef, undef, undef, undef, undef, undef, undef, undef, undef, undef, undef, undef, undef, undef, undef, undef, undef, undef, undef, undef, undef, undef, undef, undef, undef, undef, undef, undef, undef, undef, undef, undef, undef, undef, undef, undef, undef, undef, undef, undef, undef, undef, undef], []⟩) rfl rfl (List.forall_mem_cons.2 ⟨⟨_, rfl, h0⟩, (fun _ h => absurd h (by simp))⟩)
  generalize (⟨#[v0, undef, undef, undef, undef, undef, undef, undef, undef, undef, undef, undef, undef, undef, undef, undef, undef, undef, undef, undef, undef, undef, undef, undef, undef, undef, undef, undef, undef, undef, undef, undef, undef, undef, undef, undef, undef, undef, undef, undef, undef, undef, undef, undef, undef, undef, undef, undef, undef, undef, undef, undef, undef, undef], []⟩ : Act) = a0 at st0 ⊢
  repeat first | refine wp_seq ?_ | refine wp_block ?_ | refine wp_skip ?_ | refine wp_exit ?_
  refine rg (BT := [(24, 2, 0)]) (Vl := [VT, VT, Vb (false)]) (B := [⟨1, some 0, some 0, 24, 2, Vz N (x), VT⟩, ⟨2, some 1, none, 24, 2, VT, VT⟩]) (SL' := [(3, Vb (false))]) st0 ⟨ks, ks, ks, trivial⟩ ?_
  intro a1 w1 st1
  clear st0
  by_cases hx : x < 0
  ·
    repeat first | refine wp_seq ?_ | refine wp_block ?_ | refine wp_skip ?_ | refine wp_exit ?_
    refine rg (BT := [(24, 2, 0)]) (Vl := [Vpt a1 1 0, Vb (true)]) (B := [⟨1, none, none, 24, 2, Vz N (x), VT⟩, ⟨2, none, none, 24, 2, VT, VT⟩]) (SL' := [(3, Vb (false)), (11, Vb (true))]) st1 ⟨ks, ?s1, trivial⟩ ?_
    case s1 =>
      exact k_cell (j := 0) (off := 0) SbB.out (by kernel_rfl) (.head _) rfl rfl rfl (by kernel_rfl) (by kernel_rfl) rfl (by kernel_rfl) (fun cs w h => vz_NT h (hx)) Tryd.underlying4 rfl fun listed ac Wd h hd => ⟨trivial, trivial⟩
    intro a2 w2 st2
    clear st1
    repeat first | refine wp_seq ?_ | refine wp_block ?_ | refine wp_skip ?_ | refine wp_exit ?_
    obtain ⟨vc, hc1, hc2⟩ := st2.slot (11, Vb (true)) (.tail _ (.head _))
    refine wp_cond_true (hc1.trans hc2) ?_
    clear hc1 hc2
    repeat first | refine wp_seq ?_ | refine wp_block ?_ | refine wp_skip ?_ | refine wp_exit ?_
    refine rg (BT := [(24, 2, 0)]) (Vl := [Vz 1 (0), VT, Vb (false)]) (B := [⟨1, none, none, 24, 2, Vz N (x), VT⟩, ⟨2, none, some 1, 24, 2, Vz 1 (0), VT⟩]) (SL' := [(11, Vb (true)), (3, Vb (false))]) st2 ⟨?s0, ks, ks, trivial⟩ ?_
    case s0 => exact kr fun _ ac Wd h hd => build_Int0 rfl
    intro a3 w3 st3
    clear st2
    repeat first | refine wp_seq ?_ | refine wp_block ?_ | refine wp_skip ?_ | refine wp_exit ?_
    obtain ⟨g, cs, r1, r2, r3, r4, r5⟩ := st3.res ⟨2, none, none, 24, 2, Vz 1 (0), VT⟩ (.tail _ (.head _)) rfl rfl
    obtain ⟨vr, q1, q4⟩ := st3.slot (3, Vb (false)) (.tail _ (.head _))
    exact wp_ret (bodyPost_ret (results_cell1 rfl _ _ g 24 cs (0, 0) _ vr r1 q1 r2 Tryd.underlying24 rfl (by rw [r3]; exact size_Int)) st3.defers ⟨_, rfl, ⟨_, _, rfl, Vz_le (by rw [show rt x = 0 from if_pos hx]; exact r4) (by omega), (by rw [show rb x = false from if_pos hx]; exact q4)⟩, r5⟩)
  ·
    repeat first | refine wp_seq ?_ | refine wp_block ?_ | refine wp_skip ?_ | refine wp_exit ?_
    refine rg (BT := [(24, 2, 0)]) (Vl := [Vpt a1 1 0, Vb (false)]) (B := [⟨1, none, none, 24, 2, Vz N (x), VT⟩, ⟨2, none, none, 24, 2, VT, VT⟩]) (SL' := [(3, Vb (false)), (11, Vb (false))]) st1 ⟨ks, ?s1, trivial⟩ ?_
    case s1 =>
      exact k_cell (j := 0) (off := 0) SbB.out (by kernel_rfl) (.head _) rfl rfl rfl (by kernel_rfl) (by kernel_rfl) rfl (by kernel_rfl) (fun cs w h => vz_NF h (hx)) Tryd.underlying4 rfl fun listed ac Wd h hd => ⟨trivial, trivial⟩
    intro a2 w2 st2
    clear st1
    repeat first | refine wp_seq ?_ | refine wp_block ?_ | refine wp_skip ?_ | refine wp_exit ?_
    obtain ⟨vc, hc1, hc2⟩ := st2.slot (11, Vb (false)) (.tail _ (.head _))
    refine wp_cond_false (hc1.trans hc2) ?_
    clear hc1 hc2
    repeat first | refine wp_seq ?_ | refine wp_block ?_ | refine wp_skip ?_ | refine wp_exit ?_
    refine rg (BT := [(24, 2, 0)]) (Vl := [Vz 1 (0), VT, VT]) (B := [⟨1, none, none, 24, 2, Vz N (x), VT⟩, ⟨2, none, none, 24, 2, VT, VT⟩, ⟨4, some 1, some 2, 24, 2, Vz 1 (0), VT⟩]) (SL' := [(3, Vb (false)), (11, Vb (false))]) st2 ⟨?s0, ks, ks, trivial⟩ ?_
    case s0 => exact kr fun _ ac Wd h hd => build_Int0 rfl
    intro a3 w3 st3
    clear st2
    have hlen : (digs (x).natAbs).length ≤ N := Vz_lenR h0
    obtain ⟨L, hL⟩ : ∃ L, L = ((digs (x).natAbs).length / 2 + 1) := ⟨_, rfl⟩
    repeat first | refine wp_seq ?_ | refine wp_block ?_ | refine wp_skip ?_ | refine wp_exit ?_
    have : Sb [(24, 2, 0)] (VMk L) := ⟨Stab_VMk _ (by kernel_rfl)⟩
    refine rg (BT := [(24, 2, 0)]) (Vl := [Vpt a3 1 1, VD N (x), Vi (((digs (x).natAbs).length : Int)), Vi ((((digs (x).natAbs).length : Int)) / (2)), Vi ((L : Int)), VMk L, VO 1 (1), VO (L + 1) (pw L), Vz (L + 1) (pw L), VT, VT]) (B := [⟨1, none, none, 24, 2, Vz N (x), VT⟩, ⟨2, none, none, 24, 2, VT, VT⟩, ⟨4, none, none, 24, 2, Vz 1 (0), VT⟩, ⟨5, some 9, some 10, 24, 2, Vz (L + 1) (pw L), VT⟩]) (SL' := [(3, Vb (false)), (11, Vb (false))]) st3 ⟨ks, ks, ?s2, ?s3, ?s4, ?s5, ?s6, ?s7, ?s8, ks, ks, trivial⟩ ?_
    case s2 => refine kr fun _ ac Wd h hd => ?_; obtain ⟨v0, hv0, hV0⟩ := h.dp hd 15; obtain ⟨pp, nn, cc, rfl, hnn, -⟩ := hV0; exact ⟨_, run_len rfl rfl hv0, by rw [hnn]; rfl⟩
    case s3 =>
      refine kr fun _ ac Wd h hd => ?_
      obtain ⟨v0, hv0, hV0⟩ := h.dp hd 16
      have hV0' : v0 = .int .i64 (((digs (x).natAbs).length : Int)) := hV0
      exact ⟨_, run_quoi rfl (hv0.trans hV0') rfl ⟨by omega, by omega⟩ (by omega), rfl⟩
    case s4 =>
      refine kr fun _ ac Wd h hd => ?_
      obtain ⟨v0, hv0, hV0⟩ := h.dp hd 17
      have hV0' : v0 = .int .i64 ((((digs (x).natAbs).length : Int)) / (2)) := hV0
      exact ⟨_, run_addi rfl (hv0.trans hV0') rfl (wrap_id (by omega) (by omega)), congrArg (Value.int .i64) (by omega)⟩
    case s5 => refine km fun _ ac Wd h hd => ?_; obtain ⟨v0, hv0, hV0⟩ := h.dp hd 18; exact mk_row rfl hv0 hV0 (by omega)
    case s6 => exact km fun _ ac Wd h hd => bslice_one rfl rfl (by omega) (by omega)
    case s7 => refine km fun _ ac Wd h hd => ?_; obtain ⟨v0, hv0, hV0⟩ := h.dp hd 19; obtain ⟨v1, hv1, hV1⟩ := h.dp hd 20; exact app_row rfl rfl hv0 hv1 hV0 hV1 (by omega)
    case s8 => refine kc fun _ ac Wd h hd => ?_; obtain ⟨v1, hv1, hV1⟩ := h.dp hd 21; exact ⟨#[.bool false, v1], by simp [hv1, eval_const], cRNormalO (b := false) (show VO (L + 1) (pw L) v1 Wd from hV1)⟩
    intro a4 w4 st4
    clear st3
    repeat first | refine wp_seq ?_ | refine wp_block ?_ | refine wp_skip ?_ | refine wp_exit ?_
    refine rg (BT := [(24, 2, 0)]) (Vl := [Vz 3 (1), VT, VT]) (B := [⟨1, none, none, 24, 2, Vz N (x), VT⟩, ⟨2, none, none, 24, 2, VT, VT⟩, ⟨4, none, none, 24, 2, Vz 1 (0), VT⟩, ⟨5, none, none, 24, 2, Vz (L + 1) (pw L), VT⟩, ⟨6, some 1, some 2, 24, 2, Vz 3 (1), VT⟩]) (SL' := [(3, Vb (false)), (11, Vb (false))]) st4 ⟨?s0, ks, ks, trivial⟩ ?_
    case s0 => refine kc fun _ ac Wd h hd => ?_; exact ⟨#[.int .i64 (1)], by simp [eval_const], cROf (1) (by omega) (by omega)⟩
    intro a5 w5 st5
    clear st4
    repeat first | refine wp_seq ?_ | refine wp_block ?_ | refine wp_skip ?_ | refine wp_exit ?_
    refine rg (BT := [(24, 2, 0)]) (Vl := [Vz 3 (2), VT, VT]) (B := [⟨1, none, none, 24, 2, Vz N (x), VT⟩, ⟨2, none, none, 24, 2, VT, VT⟩, ⟨4, none, none, 24, 2, Vz 1 (0), VT⟩, ⟨5, none, none, 24, 2, Vz (L + 1) (pw L), VT⟩, ⟨6, none, none, 24, 2, Vz 3 (1), VT⟩, ⟨7, some 1, some 2, 24, 2, Vz 3 (2), VT⟩]) (SL' := [(3, Vb (false)), (11, Vb (false))]) st5 ⟨?s0, ks, ks, trivial⟩ ?_
    case s0 => refine kc fun _ ac Wd h hd => ?_; exact ⟨#[.int .i64 (2)], by simp [eval_const], cROf (2) (by omega) (by omega)⟩
    intro a6 w6 st6
    clear st5
    replace st6 : St w.heap.size w 54 [⟨1, none, none, 24, 2, Vz N (x), VT⟩, ⟨2, none, none, 24, 2, VT, VT⟩, ⟨4, none, none, 24, 2, Vz 1 (0), VT⟩, ⟨5, none, none, 24, 2, Vz (L + 1) (pw L), VT⟩, ⟨6, none, none, 24, 2, Vz 3 (1), VT⟩, ⟨7, none, none, 24, 2, Vz 3 (2), VT⟩] [(3, Vb (false)), (11, Vb (false))] a6 w6 := st6
    replace st6 : St w.heap.size w 54 [⟨1, none, none, 24, 2, Vz N (x), VT⟩, ⟨2, none, none, 24, 2, VT, VT⟩, ⟨4, none, none, 24, 2, Vz 1 (0), VT⟩, ⟨5, none, none, 24, 2, Vz (L + 1) (pw L), VT⟩, ⟨6, none, none, 24, 2, Vz 3 (1), VT⟩, ⟨7, none, none, 24, 2, Vz 3 (2), VT⟩] [] a6 w6 := st6.cut
    replace st6 := st6.weak [⟨1, none, none, 24, 2, Vz N (x), VT⟩, ⟨2, none, none, 24, 2, VT, VT⟩, ⟨4, none, none, 24, 2, Vz (N + 3) (0), VT⟩, ⟨5, none, none, 24, 2, Vz (N + 3) (pw L), VT⟩, ⟨6, none, none, 24, 2, Vz 3 (1), VT⟩, ⟨7, none, none, 24, 2, Vz 3 (2), VT⟩] (List.forall_mem_cons.2 ⟨⟨_, (.head _), rfl, rfl, rfl, rfl, rfl, rfl, rfl, fun _ _ h => h⟩, (List.forall_mem_cons.2 ⟨⟨_, (.tail _ (.head _)), rfl, rfl, rfl, rfl, rfl, rfl, rfl, fun _ _ h => h⟩, (List.forall_mem_cons.2 ⟨⟨_, (.tail _ (.tail _ (.head _))), rfl, rfl, rfl, rfl, rfl, rfl, rfl, fun _ _ h => Vz_le h (by omega)⟩, (List.forall_mem_cons.2 ⟨⟨_, (.tail _ (.tail _ (.tail _ (.head _)))), rfl, rfl, rfl, rfl, rfl, rfl, rfl, fun _ _ h => Vz_le h (by omega)⟩, (List.forall_mem_cons.2 ⟨⟨_, (.tail _ (.tail _ (.tail _ (.tail _ (.head _))))), rfl, rfl, rfl, rfl, rfl, rfl, rfl, fun _ _ h => h⟩, (List.forall_mem_cons.2 ⟨⟨_, (.tail _ (.tail _ (.tail _ (.tail _ (.tail _ (.head _)))))), rfl, rfl, rfl, rfl, rfl, rfl, rfl, fun _ _ h => h⟩, (fun _ h => absurd h (by simp))⟩)⟩)⟩)⟩)⟩)⟩)
    have hbig := pw_big hx hL
    have hpp := pw_pos L
    have hhl : (digs (pw L).natAbs).length ≤ N + 3 := pw_digs (by omega)
    repeat first | refine wp_seq ?_ | refine wp_block ?_ | refine wp_skip ?_ | refine wp_exit ?_
    refine wp_loop_ghost (fun m aX wX => ∃ lo hi : Int, (hi - lo).toNat = m ∧ 0 ≤ lo ∧ lo < hi ∧ lo * lo ≤ x ∧ x < hi * hi ∧ (digs hi.natAbs).length ≤ N + 3 ∧ St w.heap.size w 54 [⟨1, none, none, 24, 2, Vz N (x), VT⟩, ⟨2, none, none, 24, 2, VT, VT⟩, ⟨4, none, none, 24, 2, Vz (N + 3) (lo), VT⟩, ⟨5, none, none, 24, 2, Vz (N + 3) (hi), VT⟩, ⟨6, none, none, 24, 2, Vz 3 (1), VT⟩, ⟨7, none, none, 24, 2, Vz 3 (2), VT⟩] [] aX wX) _ ⟨0, pw L, rfl, by omega, by omega, by omega, hbig, hhl, st6⟩ ?_
    clear st6 hbig hpp hhl
    intro m aL wL ⟨lo, hi, hm, i1, i2, i3, i4, i5, st6⟩
    by_cases hlt : lo + 1 < hi
    ·
      repeat first | refine wp_seq ?_ | refine wp_block ?_ | refine wp_skip ?_ | refine wp_exit ?_
      refine rg (BT := [(24, 2, 0)]) (Vl := [Vz (N + 3) (lo), Vz 3 (1), Vz (max (N + 3) 3 + 1) ((lo) + (1)), Vz (N + 3) (hi), Vi (cmpI ((lo) + (1)) (hi)), Vb (true)]) (B := [⟨1, none, none, 24, 2, Vz N (x), VT⟩, ⟨2, none, none, 24, 2, VT, VT⟩, ⟨4, none, none, 24, 2, Vz (N + 3) (lo), VT⟩, ⟨5, none, none, 24, 2, Vz (N + 3) (hi), VT⟩, ⟨6, none, none, 24, 2, Vz 3 (1), VT⟩, ⟨7, none, none, 24, 2, Vz 3 (2), VT⟩]) (SL' := [(30, Vb (true))]) st6 ⟨ks, ks, ?s2, ks, ?s4, ?s5, trivial⟩ ?_
      case s2 =>
        refine kc fun _ ac Wd h hd => ?_
        obtain ⟨v0, hv0, hV0⟩ := h.dp hd 25
        obtain ⟨v1, hv1, hV1⟩ := h.dp hd 26
        exact ⟨#[v0, v1], by simp [hv0, hv1], (cRAdd (show Vz (N + 3) (lo) v0 Wd from hV0) (show Vz 3 (1) v1 Wd from hV1) (by omega) (by omega))⟩
      case s4 =>
        refine kc fun _ ac Wd h hd => ?_
        obtain ⟨v0, hv0, hV0⟩ := h.dp hd 27
        obtain ⟨v1, hv1, hV1⟩ := h.dp hd 28
        exact ⟨#[v0, v1], by simp [hv0, hv1], (cRCompare (show Vz (max (N + 3) 3 + 1) ((lo) + (1)) v0 Wd from hV0) (show Vz (N + 3) (hi) v1 Wd from hV1) (by omega) (by omega))⟩
      case s5 =>
        refine kr fun _ ac Wd h hd => ?_
        obtain ⟨v0, hv0, hV0⟩ := h.dp hd 29
        have hV0' : v0 = .int .i64 (cmpI ((lo) + (1)) (hi)) := hV0
        exact ⟨_, run_lssi rfl (hv0.trans hV0') rfl, congrArg Value.bool (by rw [cmp_lt hlt]; rfl)⟩
      intro a7 w7 st7
      clear st6
      repeat first | refine wp_seq ?_ | refine wp_block ?_ | refine wp_skip ?_ | refine wp_exit ?_
      obtain ⟨vc, hc1, hc2⟩ := st7.slot (30, Vb (true)) (.head _)
      refine wp_cond_true (hc1.trans hc2) ?_
      clear hc1 hc2
      repeat first | refine wp_seq ?_ | refine wp_block ?_ | refine wp_skip ?_ | refine wp_exit ?_
      refine rg (BT := [(24, 2, 0)]) (Vl := [Vz (N + 3) (lo), Vz (N + 3) (hi), Vz (max (N + 3) (N + 3) + 1) ((lo) + (hi)), Vz 3 (2), VTup (Vz ((max (N + 3) (N + 3) + 1) + 1) (dq ((lo) + (hi)) (2))) (Vz 3 (dr ((lo) + (hi)) (2))), VTup (Vz ((max (N + 3) (N + 3) + 1) + 1) (dq ((lo) + (hi)) (2))) (Vz 3 (dr ((lo) + (hi)) (2))), Vz ((max (N + 3) (N + 3) + 1) + 1) (dq ((lo) + (hi)) (2)), Vz 3 (dr ((lo) + (hi)) (2)), VT, VT, VT, VT]) (B := [⟨1, none, none, 24, 2, Vz N (x), VT⟩, ⟨2, none, none, 24, 2, VT, VT⟩, ⟨4, none, none, 24, 2, Vz (N + 3) (lo), VT⟩, ⟨5, none, none, 24, 2, Vz (N + 3) (hi), VT⟩, ⟨6, none, none, 24, 2, Vz 3 (1), VT⟩, ⟨7, none, none, 24, 2, Vz 3 (2), VT⟩, ⟨8, some 8, some 10, 24, 2, Vz ((max (N + 3) (N + 3) + 1) + 1) (dq ((lo) + (hi)) (2)), VT⟩, ⟨9, some 9, some 11, 24, 2, Vz 3 (dr ((lo) + (hi)) (2)), VT⟩]) (SL' := [(30, Vb (true))]) st7 ⟨ks, ks, ?s2, ks, ?s4, ks, ks, ks, ks, ks, ks, ks, trivial⟩ ?_
      case s2 =>
        refine kc fun _ ac Wd h hd => ?_
        obtain ⟨v0, hv0, hV0⟩ := h.dp hd 32
        obtain ⟨v1, hv1, hV1⟩ := h.dp hd 33
        exact ⟨#[v0, v1], by simp [hv0, hv1], (cRAdd (show Vz (N + 3) (lo) v0 Wd from hV0) (show Vz (N + 3) (hi) v1 Wd from hV1) (by omega) (by omega))⟩
      case s4 =>
        refine kc fun _ ac Wd h hd => ?_
        obtain ⟨v0, hv0, hV0⟩ := h.dp hd 34
        obtain ⟨v1, hv1, hV1⟩ := h.dp hd 35
        exact ⟨#[v0, v1], by simp [hv0, hv1], (cRDiv (show Vz (max (N + 3) (N + 3) + 1) ((lo) + (hi)) v0 Wd from hV0) (show Vz 3 (2) v1 Wd from hV1) (by omega) (by omega) (by omega) (by omega))⟩
      intro a8 w8 st8
      clear st7
      obtain ⟨md, hmd⟩ : ∃ md, md = dq (lo + hi) 2 := ⟨_, rfl⟩
      have hmd2 : md = (lo + hi) / 2 := by rw [hmd]; exact if_neg (by omega)
      replace st8 : St w.heap.size w 54 [⟨1, none, none, 24, 2, Vz N (x), VT⟩, ⟨2, none, none, 24, 2, VT, VT⟩, ⟨4, none, none, 24, 2, Vz (N + 3) (lo), VT⟩, ⟨5, none, none, 24, 2, Vz (N + 3) (hi), VT⟩, ⟨6, none, none, 24, 2, Vz 3 (1), VT⟩, ⟨7, none, none, 24, 2, Vz 3 (2), VT⟩, ⟨8, none, none, 24, 2, Vz ((max (N + 3) (N + 3) + 1) + 1) (dq ((lo) + (hi)) (2)), VT⟩, ⟨9, none, none, 24, 2, Vz 3 (dr ((lo) + (hi)) (2)), VT⟩] [(30, Vb (true))] a8 w8 := st8
      rw [show dq ((lo) + (hi)) (2) = md from hmd.symm] at st8
      by_cases hle : md * md ≤ x
      ·
        repeat first | refine wp_seq ?_ | refine wp_block ?_ | refine wp_skip ?_ | refine wp_exit ?_
        refine rg (BT := [(24, 2, 0)]) (Vl := [Vz ((max (N + 3) (N + 3) + 1) + 1) (md), Vz ((max (N + 3) (N + 3) + 1) + 1) (md), Vz (((max (N + 3) (N + 3) + 1) + 1) + ((max (N + 3) (N + 3) + 1) + 1)) ((md) * (md)), Vz N (x), Vi (cmpI ((md) * (md)) (x)), Vb (true)]) (B := [⟨1, none, none, 24, 2, Vz N (x), VT⟩, ⟨2, none, none, 24, 2, VT, VT⟩, ⟨4, none, none, 24, 2, Vz (N + 3) (lo), VT⟩, ⟨5, none, none, 24, 2, Vz (N + 3) (hi), VT⟩, ⟨6, none, none, 24, 2, Vz 3 (1), VT⟩, ⟨7, none, none, 24, 2, Vz 3 (2), VT⟩, ⟨8, none, none, 24, 2, Vz ((max (N + 3) (N + 3) + 1) + 1) (md), VT⟩, ⟨9, none, none, 24, 2, Vz 3 (dr ((lo) + (hi)) (2)), VT⟩]) (SL' := [(30, Vb (true)), (44, Vb (true))]) st8 ⟨ks, ks, ?s2, ks, ?s4, ?s5, trivial⟩ ?_
        case s2 =>
          refine kc fun _ ac Wd h hd => ?_
          obtain ⟨v0, hv0, hV0⟩ := h.dp hd 39
          obtain ⟨v1, hv1, hV1⟩ := h.dp hd 40
          exact ⟨#[v0, v1], by simp [hv0, hv1], (cRMul (show Vz ((max (N + 3) (N + 3) + 1) + 1) (md) v0 Wd from hV0) (show Vz ((max (N + 3) (N + 3) + 1) + 1) (md) v1 Wd from hV1) (by omega) (by omega))⟩
        case s4 =>
          refine kc fun _ ac Wd h hd => ?_
          obtain ⟨v0, hv0, hV0⟩ := h.dp hd 41
          obtain ⟨v1, hv1, hV1⟩ := h.dp hd 42
          exact ⟨#[v0, v1], by simp [hv0, hv1], (cRCompare (show Vz (((max (N + 3) (N + 3) + 1) + 1) + ((max (N + 3) (N + 3) + 1) + 1)) ((md) * (md)) v0 Wd from hV0) (show Vz N (x) v1 Wd from hV1) (by omega) (by omega))⟩
        case s5 =>
          refine kr fun _ ac Wd h hd => ?_
          obtain ⟨v0, hv0, hV0⟩ := h.dp hd 43
          have hV0' : v0 = .int .i64 (cmpI ((md) * (md)) (x)) := hV0
          exact ⟨_, run_leqi rfl (hv0.trans hV0') rfl, congrArg Value.bool (decide_eq_true (by rcases Int.lt_or_eq_of_le hle with h1 | h1; (rw [cmp_lt h1]; omega); (rw [h1, cmp_eq]; omega)))⟩
        intro a9 w9 st9
        clear st8
        repeat first | refine wp_seq ?_ | refine wp_block ?_ | refine wp_skip ?_ | refine wp_exit ?_
        obtain ⟨vc, hc1, hc2⟩ := st9.slot (44, Vb (true)) (.tail _ (.head _))
        refine wp_cond_true (hc1.trans hc2) ?_
        clear hc1 hc2
        repeat first | refine wp_seq ?_ | refine wp_block ?_ | refine wp_skip ?_ | refine wp_exit ?_
        refine rg (BT := [(24, 2, 0)]) (Vl := [Vz ((max (N + 3) (N + 3) + 1) + 1) (md), VT]) (B := [⟨1, none, none, 24, 2, Vz N (x), VT⟩, ⟨2, none, none, 24, 2, VT, VT⟩, ⟨4, none, some 1, 24, 2, Vz ((max (N + 3) (N + 3) + 1) + 1) (md), Vz (N + 3) (lo)⟩, ⟨5, none, none, 24, 2, Vz (N + 3) (hi), VT⟩, ⟨6, none, none, 24, 2, Vz 3 (1), VT⟩, ⟨7, none, none, 24, 2, Vz 3 (2), VT⟩, ⟨8, none, none, 24, 2, Vz ((max (N + 3) (N + 3) + 1) + 1) (md), VT⟩, ⟨9, none, none, 24, 2, Vz 3 (dr ((lo) + (hi)) (2)), VT⟩]) (SL' := [(30, Vb (true)), (44, Vb (true))]) st9 ⟨ks, ks, trivial⟩ ?_
        intro a10 w10 st10
        clear st9
        replace st10 : St w.heap.size w 54 [⟨1, none, none, 24, 2, Vz N (x), VT⟩, ⟨2, none, none, 24, 2, VT, VT⟩, ⟨4, none, none, 24, 2, Vz ((max (N + 3) (N + 3) + 1) + 1) (md), VT⟩, ⟨5, none, none, 24, 2, Vz (N + 3) (hi), VT⟩, ⟨6, none, none, 24, 2, Vz 3 (1), VT⟩, ⟨7, none, none, 24, 2, Vz 3 (2), VT⟩, ⟨8, none, none, 24, 2, Vz ((max (N + 3) (N + 3) + 1) + 1) (md), VT⟩, ⟨9, none, none, 24, 2, Vz 3 (dr ((lo) + (hi)) (2)), VT⟩] [(30, Vb (true)), (44, Vb (true))] a10 w10 := st10
        replace st10 : St w.heap.size w 54 [⟨1, none, none, 24, 2, Vz N (x), VT⟩, ⟨2, none, none, 24, 2, VT, VT⟩, ⟨4, none, none, 24, 2, Vz ((max (N + 3) (N + 3) + 1) + 1) (md), VT⟩, ⟨5, none, none, 24, 2, Vz (N + 3) (hi), VT⟩, ⟨6, none, none, 24, 2, Vz 3 (1), VT⟩, ⟨7, none, none, 24, 2, Vz 3 (2), VT⟩] [] a10 w10 := st10.cut
        exact ⟨_, by omega, md, hi, rfl, by omega, by omega, by omega, by omega, i5, st10.weak [⟨1, none, none, 24, 2, Vz N (x), VT⟩, ⟨2, none, none, 24, 2, VT, VT⟩, ⟨4, none, none, 24, 2, Vz (N + 3) (md), VT⟩, ⟨5, none, none, 24, 2, Vz (N + 3) (hi), VT⟩, ⟨6, none, none, 24, 2, Vz 3 (1), VT⟩, ⟨7, none, none, 24, 2, Vz 3 (2), VT⟩] (List.forall_mem_cons.2 ⟨⟨_, (.head _), rfl, rfl, rfl, rfl, rfl, rfl, rfl, fun _ _ h => h⟩, (List.forall_mem_cons.2 ⟨⟨_, (.tail _ (.head _)), rfl, rfl, rfl, rfl, rfl, rfl, rfl, fun _ _ h => h⟩, (List.forall_mem_cons.2 ⟨⟨_, (.tail _ (.tail _ (.head _))), rfl, rfl, rfl, rfl, rfl, rfl, rfl, fun _ _ h => Vz_fit h (Nat.le_trans (digs_len_mono (by omega)) i5)⟩, (List.forall_mem_cons.2 ⟨⟨_, (.tail _ (.tail _ (.tail _ (.head _)))), rfl, rfl, rfl, rfl, rfl, rfl, rfl, fun _ _ h => h⟩, (List.forall_mem_cons.2 ⟨⟨_, (.tail _ (.tail _ (.tail _ (.tail _ (.head _))))), rfl, rfl, rfl, rfl, rfl, rfl, rfl, fun _ _ h => h⟩, (List.forall_mem_cons.2 ⟨⟨_, (.tail _ (.tail _ (.tail _ (.tail _ (.tail _ (.head _)))))), rfl, rfl, rfl, rfl, rfl, rfl, rfl, fun _ _ h => h⟩, (fun _ h => absurd h (by simp))⟩)⟩)⟩)⟩)⟩)⟩)⟩
      ·
        repeat first | refine wp_seq ?_ | refine wp_block ?_ | refine wp_skip ?_ | refine wp_exit ?_
        refine rg (BT := [(24, 2, 0)]) (Vl := [Vz ((max (N + 3) (N + 3) + 1) + 1) (md), Vz ((max (N + 3) (N + 3) + 1) + 1) (md), Vz (((max (N + 3) (N + 3) + 1) + 1) + ((max (N + 3) (N + 3) + 1) + 1)) ((md) * (md)), Vz N (x), Vi (cmpI ((md) * (md)) (x)), Vb (false)]) (B := [⟨1, none, none, 24, 2, Vz N (x), VT⟩, ⟨2, none, none, 24, 2, VT, VT⟩, ⟨4, none, none, 24, 2, Vz (N + 3) (lo), VT⟩, ⟨5, none, none, 24, 2, Vz (N + 3) (hi), VT⟩, ⟨6, none, none, 24, 2, Vz 3 (1), VT⟩, ⟨7, none, none, 24, 2, Vz 3 (2), VT⟩, ⟨8, none, none, 24, 2, Vz ((max (N + 3) (N + 3) + 1) + 1) (md), VT⟩, ⟨9, none, none, 24, 2, Vz 3 (dr ((lo) + (hi)) (2)), VT⟩]) (SL' := [(30, Vb (true)), (44, Vb (false))]) st8 ⟨ks, ks, ?s2, ks, ?s4, ?s5, trivial⟩ ?_
        case s2 =>
          refine kc fun _ ac Wd h hd => ?_
          obtain ⟨v0, hv0, hV0⟩ := h.dp hd 39
          obtain ⟨v1, hv1, hV1⟩ := h.dp hd 40
          exact ⟨#[v0, v1], by simp [hv0, hv1], (cRMul (show Vz ((max (N + 3) (N + 3) + 1) + 1) (md) v0 Wd from hV0) (show Vz ((max (N + 3) (N + 3) + 1) + 1) (md) v1 Wd from hV1) (by omega) (by omega))⟩
        case s4 =>
          refine kc fun _ ac Wd h hd => ?_
          obtain ⟨v0, hv0, hV0⟩ := h.dp hd 41
          obtain ⟨v1, hv1, hV1⟩ := h.dp hd 42
          exact ⟨#[v0, v1], by simp [hv0, hv1], (cRCompare (show Vz (((max (N + 3) (N + 3) + 1) + 1) + ((max (N + 3) (N + 3) + 1) + 1)) ((md) * (md)) v0 Wd from hV0) (show Vz N (x) v1 Wd from hV1) (by omega) (by omega))⟩
        case s5 =>
          refine kr fun _ ac Wd h hd => ?_
          obtain ⟨v0, hv0, hV0⟩ := h.dp hd 43
          have hV0' : v0 = .int .i64 (cmpI ((md) * (md)) (x)) := hV0
          exact ⟨_, run_leqi rfl (hv0.trans hV0') rfl, congrArg Value.bool (decide_eq_false (by rw [cmp_gt (by omega)]; omega))⟩
        intro a9 w9 st9
        clear st8
        repeat first | refine wp_seq ?_ | refine wp_block ?_ | refine wp_skip ?_ | refine wp_exit ?_
        obtain ⟨vc, hc1, hc2⟩ := st9.slot (44, Vb (false)) (.tail _ (.head _))
        refine wp_cond_false (hc1.trans hc2) ?_
        clear hc1 hc2
        repeat first | refine wp_seq ?_ | refine wp_block ?_ | refine wp_skip ?_ | refine wp_exit ?_
        refine rg (BT := [(24, 2, 0)]) (Vl := [Vz ((max (N + 3) (N + 3) + 1) + 1) (md), VT]) (B := [⟨1, none, none, 24, 2, Vz N (x), VT⟩, ⟨2, none, none, 24, 2, VT, VT⟩, ⟨4, none, none, 24, 2, Vz (N + 3) (lo), VT⟩, ⟨5, none, some 1, 24, 2, Vz ((max (N + 3) (N + 3) + 1) + 1) (md), Vz (N + 3) (hi)⟩, ⟨6, none, none, 24, 2, Vz 3 (1), VT⟩, ⟨7, none, none, 24, 2, Vz 3 (2), VT⟩, ⟨8, none, none, 24, 2, Vz ((max (N + 3) (N + 3) + 1) + 1) (md), VT⟩, ⟨9, none, none, 24, 2, Vz 3 (dr ((lo) + (hi)) (2)), VT⟩]) (SL' := [(30, Vb (true)), (44, Vb (false))]) st9 ⟨ks, ks, trivial⟩ ?_
        intro a10 w10 st10
        clear st9
        replace st10 : St w.heap.size w 54 [⟨1, none, none, 24, 2, Vz N (x), VT⟩, ⟨2, none, none, 24, 2, VT, VT⟩, ⟨4, none, none, 24, 2, Vz (N + 3) (lo), VT⟩, ⟨5, none, none, 24, 2, Vz ((max (N + 3) (N + 3) + 1) + 1) (md), VT⟩, ⟨6, none, none, 24, 2, Vz 3 (1), VT⟩, ⟨7, none, none, 24, 2, Vz 3 (2), VT⟩, ⟨8, none, none, 24, 2, Vz ((max (N + 3) (N + 3) + 1) + 1) (md), VT⟩, ⟨9, none, none, 24, 2, Vz 3 (dr ((lo) + (hi)) (2)), VT⟩] [(30, Vb (true)), (44, Vb (false))] a10 w10 := st10
        replace st10 : St w.heap.size w 54 [⟨1, none, none, 24, 2, Vz N (x), VT⟩, ⟨2, none, none, 24, 2, VT, VT⟩, ⟨4, none, none, 24, 2, Vz (N + 3) (lo), VT⟩, ⟨5, none, none, 24, 2, Vz ((max (N + 3) (N + 3) + 1) + 1) (md), VT⟩, ⟨6, none, none, 24, 2, Vz 3 (1), VT⟩, ⟨7, none, none, 24, 2, Vz 3 (2), VT⟩] [] a10 w10 := st10.cut
        exact ⟨_, by omega, lo, md, rfl, by omega, by omega, by omega, by omega, Nat.le_trans (digs_len_mono (by omega)) i5, st10.weak [⟨1, none, none, 24, 2, Vz N (x), VT⟩, ⟨2, none, none, 24, 2, VT, VT⟩, ⟨4, none, none, 24, 2, Vz (N + 3) (lo), VT⟩, ⟨5, none, none, 24, 2, Vz (N + 3) (md), VT⟩, ⟨6, none, none, 24, 2, Vz 3 (1), VT⟩, ⟨7, none, none, 24, 2, Vz 3 (2), VT⟩] (List.forall_mem_cons.2 ⟨⟨_, (.head _), rfl, rfl, rfl, rfl, rfl, rfl, rfl, fun _ _ h => h⟩, (List.forall_mem_cons.2 ⟨⟨_, (.tail _ (.head _)), rfl, rfl, rfl, rfl, rfl, rfl, rfl, fun _ _ h => h⟩, (List.forall_mem_cons.2 ⟨⟨_, (.tail _ (.tail _ (.head _))), rfl, rfl, rfl, rfl, rfl, rfl, rfl, fun _ _ h => h⟩, (List.forall_mem_cons.2 ⟨⟨_, (.tail _ (.tail _ (.tail _ (.head _)))), rfl, rfl, rfl, rfl, rfl, rfl, rfl, fun _ _ h => Vz_fit h (Nat.le_trans (digs_len_mono (by omega)) i5)⟩, (List.forall_mem_cons.2 ⟨⟨_, (.tail _ (.tail _ (.tail _ (.tail _ (.head _))))), rfl, rfl, rfl, rfl, rfl, rfl, rfl, fun _ _ h => h⟩, (List.forall_mem_cons.2 ⟨⟨_, (.tail _ (.tail _ (.tail _ (.tail _ (.tail _ (.head _)))))), rfl, rfl, rfl, rfl, rfl, rfl, rfl, fun _ _ h => h⟩, (fun _ h => absurd h (by simp))⟩)⟩)⟩)⟩)⟩)⟩)⟩
    ·
      repeat first | refine wp_seq ?_ | refine wp_block ?_ | refine wp_skip ?_ | refine wp_exit ?_
      refine rg (BT := [(24, 2, 0)]) (Vl := [Vz (N + 3) (lo), Vz 3 (1), Vz (max (N + 3) 3 + 1) ((lo) + (1)), Vz (N + 3) (hi), Vi (cmpI ((lo) + (1)) (hi)), Vb (false)]) (B := [⟨1, none, none, 24, 2, Vz N (x), VT⟩, ⟨2, none, none, 24, 2, VT, VT⟩, ⟨4, none, none, 24, 2, Vz (N + 3) (lo), VT⟩, ⟨5, none, none, 24, 2, Vz (N + 3) (hi), VT⟩, ⟨6, none, none, 24, 2, Vz 3 (1), VT⟩, ⟨7, none, none, 24, 2, Vz 3 (2), VT⟩]) (SL' := [(30, Vb (false))]) st6 ⟨ks, ks, ?s2, ks, ?s4, ?s5, trivial⟩ ?_
      case s2 =>
        refine kc fun _ ac Wd h hd => ?_
        obtain ⟨v0, hv0, hV0⟩ := h.dp hd 25
        obtain ⟨v1, hv1, hV1⟩ := h.dp hd 26
        exact ⟨#[v0, v1], by simp [hv0, hv1], (cRAdd (show Vz (N + 3) (lo) v0 Wd from hV0) (show Vz 3 (1) v1 Wd from hV1) (by omega) (by omega))⟩
      case s4 =>
        refine kc fun _ ac Wd h hd => ?_
        obtain ⟨v0, hv0, hV0⟩ := h.dp hd 27
        obtain ⟨v1, hv1, hV1⟩ := h.dp hd 28
        exact ⟨#[v0, v1], by simp [hv0, hv1], (cRCompare (show Vz (max (N + 3) 3 + 1) ((lo) + (1)) v0 Wd from hV0) (show Vz (N + 3) (hi) v1 Wd from hV1) (by omega) (by omega))⟩
      case s5 =>
        refine kr fun _ ac Wd h hd => ?_
        obtain ⟨v0, hv0, hV0⟩ := h.dp hd 29
        have hV0' : v0 = .int .i64 (cmpI ((lo) + (1)) (hi)) := hV0
        exact ⟨_, run_lssi rfl (hv0.trans hV0') rfl, congrArg Value.bool (decide_eq_false (by rcases Int.lt_or_eq_of_le (Int.not_lt.1 hlt) with h1 | h1; (rw [cmp_gt h1]; omega); (rw [h1, cmp_eq]; omega)))⟩
      intro a7 w7 st7
      clear st6
      have hhi : hi = lo + 1 := by omega
      have i4b : x < (lo + 1) * (lo + 1) := by rw [← hhi]; exact i4
      have hrt := rt_uniq hx i1 i3 i4b
      have hrb : rb x = decide (lo * lo = x) := by rw [show rb x = decide (rt x * rt x = x) from if_neg hx, ← hrt]
      repeat first | refine wp_seq ?_ | refine wp_block ?_ | refine wp_skip ?_ | refine wp_exit ?_
      obtain ⟨vc, hc1, hc2⟩ := st7.slot (30, Vb (false)) (.head _)
      refine wp_cond_false (hc1.trans hc2) ?_
      clear hc1 hc2
      repeat first | refine wp_seq ?_ | refine wp_block ?_ | refine wp_skip ?_ | refine wp_exit ?_
      refine rg (BT := [(24, 2, 0)]) (Vl := [Vz (N + 3) (lo), Vz (N + 3) (lo), Vz (N + 3) (lo), Vz ((N + 3) + (N + 3)) ((lo) * (lo)), Vz N (x), Vi (cmpI ((lo) * (lo)) (x)), Vb (decide (lo * lo = x)), VT, Vb (decide (lo * lo = x))]) (B := [⟨1, none, none, 24, 2, Vz N (x), VT⟩, ⟨2, none, some 7, 24, 2, Vz (N + 3) (lo), VT⟩, ⟨4, none, none, 24, 2, Vz (N + 3) (lo), VT⟩, ⟨5, none, none, 24, 2, Vz (N + 3) (hi), VT⟩, ⟨6, none, none, 24, 2, Vz 3 (1), VT⟩, ⟨7, none, none, 24, 2, Vz 3 (2), VT⟩]) (SL' := [(30, Vb (false)), (3, Vb (decide (lo * lo = x)))]) st7 ⟨ks, ks, ks, ?s3, ks, ?s5, ?s6, ks, ks, trivial⟩ ?_
      case s3 =>
        refine kc fun _ ac Wd h hd => ?_
        obtain ⟨v0, hv0, hV0⟩ := h.dp hd 48
        obtain ⟨v1, hv1, hV1⟩ := h.dp hd 49
        exact ⟨#[v0, v1], by simp [hv0, hv1], (cRMul (show Vz (N + 3) (lo) v0 Wd from hV0) (show Vz (N + 3) (lo) v1 Wd from hV1) (by omega) (by omega))⟩
      case s5 =>
        refine kc fun _ ac Wd h hd => ?_
        obtain ⟨v0, hv0, hV0⟩ := h.dp hd 50
        obtain ⟨v1, hv1, hV1⟩ := h.dp hd 51
        exact ⟨#[v0, v1], by simp [hv0, hv1], (cRCompare (show Vz ((N + 3) + (N + 3)) ((lo) * (lo)) v0 Wd from hV0) (show Vz N (x) v1 Wd from hV1) (by omega) (by omega))⟩
      case s6 =>
        refine kr fun _ ac Wd h hd => ?_
        obtain ⟨v0, hv0, hV0⟩ := h.dp hd 52
        have hV0' : v0 = .int .i64 (cmpI ((lo) * (lo)) (x)) := hV0
        exact ⟨_, run_eqi rfl (hv0.trans hV0') rfl, congrArg Value.bool (by rw [cmp0])⟩
      intro a8 w8 st8
      clear st7
      repeat first | refine wp_seq ?_ | refine wp_block ?_ | refine wp_skip ?_ | refine wp_exit ?_
      obtain ⟨g, cs, r1, r2, r3, r4, r5⟩ := st8.res ⟨2, none, none, 24, 2, Vz (N + 3) (lo), VT⟩ (.tail _ (.head _)) rfl rfl
      obtain ⟨vr, q1, q4⟩ := st8.slot (3, Vb (decide (lo * lo = x))) (.tail _ (.head _))
      exact wp_ret (bodyPost_ret (results_cell1 rfl _ _ g 24 cs (0, 0) _ vr r1 q1 r2 Tryd.underlying24 rfl (by rw [r3]; exact size_Int)) st8.defers ⟨_, rfl, ⟨_, _, rfl, (by rw [← hrt]; exact r4), (by rw [hrb]; exact q4)⟩, r5⟩)
end Go.Proofs.YteaoaoknpihchaaDoor
