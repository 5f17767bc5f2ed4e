/- The reference: Dot. -/
import Derived.Test.YtleijkgdpmfabaaGreatDoorQT21
import Derived.Test.YtleijkgdpmfabaaGreatDoorQT22
set_option linter.unusedVariables false
namespace Go.Proofs.YtleijkgdpmfabaaGreatDoor
open Go.RowKit
section
variable {md : Region.Mode} {ops : Array Oper} {Q : Exit → Act → World → Prop} {a0 : Act} {Vl : List VP} {n0 : Nat} {w0 : World} {B : List Bd} {SL : List (Nat × VP)} {BT : List (TypeId × Nat × Nat)}
theorem Vq_zero (w : World) : Vq 1 0 (.agg #[.bool false, .slice none 0 0, .bool false, .slice none 0 0]) w :=
  show Vq 1 0 (.agg (#[.bool false, .slice none 0 0] ++ #[.bool false, .slice none 0 0])) w from ⟨_, _, rfl, rfl, rfl, ⟨_, _, _, _, rfl, IntAt_zero _ _ _ (by omega), by omega⟩, ⟨_, _, _, _, rfl, IntAt_zero _ _ _ (by omega), by omega⟩⟩
theorem k_allocQ0 {i t : Nat} {o : Oper} {b : Bd} [hB : SbB BT B] (ho : o.op = .alloc 27) (hds : o.dst = some t) (hb : gB B (iB B t) = some b) (hbt : b.t = t) (hT : b.T = 27) (hia : b.ia = some i) (hm : b.m = 4) (hP : b.P = Vq 1 0) (hV : GV Vl i = VT)
    (hq : quietB (B.take (iB B t) ++ B.drop (iB B t + 1)) i (some t) = true) (hg : GOk md ops Vl o) : KStep BT Tryz.prog md ops Q a0 (GV Vl) n0 w0 B SL i o := by
  subst hbt
  intro listed a w h hd hin hil hnl K hK
  rw [if_pos (wanted_of (hg.get h hd))]
  have ht : b.t < a.tmps.size := by
    rw [hds] at hin
    rw [h.size]
    simpa using hin
  have hks := h.k.alloc (gB_split hb) hq hia hil ht hB.out h.n #[.bool false, .slice none 0 0, .bool false, .slice none 0 0] (by rw [hm]; rfl) noint_Rat (fun hk => by rw [hP]; exact Vq_zero _)
  rw [hT] at hks
  unfold Oper.wp execOp
  simp only [ho, Sem.run_bind, alloc_Rat, Sem.run_pure, Result.andThen_ok]
  rw [← hds] at hks
  exact hK _ _ hks (RI.of_below (below_new _ _)) (by rw [hV]; trivial)
end
def smN : Nat → Nat
  | 0 => 1
  | j + 1 => max (smN j) (6 + 6) + max (smN j) (6 + 6) + 1
theorem smN_le : ∀ j : Nat, j ≤ 5 → 1 ≤ smN j ∧ smN j ≤ 1000
  | 0, _ => by decide
  | 1, _ => by decide
  | 2, _ => by decide
  | 3, _ => by decide
  | 4, _ => by decide
  | 5, _ => by decide
set_option maxRecDepth 100000 in
set_option maxHeartbeats 1600000 in
theorem cR4DotN {w : World} {n : Nat} {xs ys : List Rat} {v0 v1 : Value} (h0 : VAt w (VSn 6 xs) v0 w) (h1 : VAt w (VSn 6 ys) v1 w) (hnm : n = min xs.length ys.length) (hn : n ≤ 5) : Calls Tryz.prog 50 #[v0, v1] w (RV (Vq 1000 (smR (fun j => xs.getD j 0 * ys.getD j 0) n)) w) := by
  go_enter Tryz.func50, Tryz.ntmps50
  have st0 : St w.heap.size w 31 [] [(0, VAt w (VSn 6 xs)), (1, VAt w (VSn 6 ys))] _ w := St.begin (a := ⟨#[v0, v1, undef, undef, undef, undef, undef, undef, undef, undef, undef, undef, undef, undef, undef, undef, undef, undef, undef, undef, undef, undef, undef, undef, undef, undef, undef, undef, undef, undef, undef], []⟩) rfl rfl (List.forall_mem_cons.2 ⟨⟨_, rfl, h0⟩, (List.forall_mem_cons.2 ⟨⟨_, rfl, h1⟩, (fun _ h => absurd h (by simp))⟩)⟩)
  generalize (⟨#[v0, v1, undef, undef, undef, undef, undef, undef, undef, undef, undef, undef, undef, undef, undef, undef, undef, undef, undef, undef, undef, undef, undef, undef, undef, undef, undef, undef, undef, undef, undef], []⟩ : Act) = a0 at st0 ⊢
  repeat first|refine wp_seq ?_|refine wp_block ?_|refine wp_skip ?_|refine wp_exit ?_
  refine rg (BT := [(27, 4, 0)]) (Vl := [VT]) (B := [⟨4, some 0, none, 27, 4, VT, VT⟩]) (SL' := [(0, VAt w (VSn 6 xs)), (1, VAt w (VSn 6 ys))]) st0 ⟨ks, trivial⟩ ?_
  intro a1 w1 st1
  clear st0
  repeat first|refine wp_seq ?_|refine wp_block ?_|refine wp_skip ?_|refine wp_exit ?_
  refine rg (BT := [(27, 4, 0)]) (Vl := [VT]) (B := [⟨4, none, none, 27, 4, VT, VT⟩, ⟨5, some 0, none, 27, 4, Vq 1 (0), VT⟩]) (SL' := [(0, VAt w (VSn 6 xs)), (1, VAt w (VSn 6 ys))]) st1 ⟨?s0, trivial⟩ ?_
  case s0 => exact k_allocQ0 rfl rfl rfl rfl rfl rfl rfl rfl rfl (by kernel_rfl) (by first | exact trivial | exact ⟨by kernel_rfl, ⟨_, rfl⟩, rfl⟩)
  intro a2 w2 st2
  clear st1
  repeat first|refine wp_seq ?_|refine wp_block ?_|refine wp_skip ?_|refine wp_exit ?_
  refine rg (BT := [(27, 4, 0)]) (Vl := [Vi (0)]) (B := [⟨4, none, none, 27, 4, VT, VT⟩, ⟨5, none, none, 27, 4, Vq 1 (0), VT⟩]) (SL' := [(0, VAt w (VSn 6 xs)), (1, VAt w (VSn 6 ys)), (6, Vi (0))]) st2 ⟨ks, trivial⟩ ?_
  intro a3 w3 st3
  clear st2
  replace st3 : St w.heap.size w 31 [⟨4, none, none, 27, 4, VT, VT⟩, ⟨5, none, none, 27, 4, Vq 1 (0), VT⟩] [(0, VAt w (VSn 6 xs)), (1, VAt w (VSn 6 ys)), (6, Vi (((0 : Nat) : Int)))] a3 w3 := st3.cut
  repeat first|refine wp_seq ?_|refine wp_block ?_|refine wp_skip ?_|refine wp_exit ?_
  refine wp_loop_ghost (fun m aX wX => ∃ j : Nat, j + m = n ∧ St w.heap.size w 31 [⟨4, none, none, 27, 4, VT, VT⟩, ⟨5, none, none, 27, 4, Vq (smN j) (smR (fun j => xs.getD j 0 * ys.getD j 0) j), VT⟩] [(0, VAt w (VSn 6 xs)), (1, VAt w (VSn 6 ys)), (6, Vi (((j : Nat) : Int)))] aX wX) n ⟨0, by omega, st3⟩ ?_
  clear st3
  intro m aL wL ⟨j, hj, st3⟩
  have hNj := smN_le j (by omega)
  by_cases hlt : j < n
  ·
    repeat first|refine wp_seq ?_|refine wp_block ?_|refine wp_skip ?_|refine wp_exit ?_
    refine rg (BT := [(27, 4, 0)]) (Vl := [Vi (((j : Nat) : Int)), VAt w (VSn 6 xs), Vi ((xs.length : Int)), Vb (true), Vb (true), Vi (((j : Nat) : Int)), VAt w (VSn 6 ys), Vi ((ys.length : Int)), Vb (true), Vb (true)]) (B := [⟨4, none, none, 27, 4, VT, VT⟩, ⟨5, none, none, 27, 4, Vq (smN j) (smR (fun j => xs.getD j 0 * ys.getD j 0) j), VT⟩]) (SL' := [(0, VAt w (VSn 6 xs)), (1, VAt w (VSn 6 ys)), (6, Vi (((j : Nat) : Int))), (16, Vb (true))]) st3 ⟨ks, ks, ?s2, ?s3, ks, ks, ks, ?s7, ?s8, ks, trivial⟩ ?_
    case s2 => refine kr fun _ ac Wd h hd => ?_; obtain ⟨v0, hv0, hV0⟩ := h.dp hd 8; exact len_Sn rfl rfl hv0 hV0
    case s3 =>
      refine kr fun _ ac Wd h hd => ?_
      obtain ⟨v0, hv0, hV0⟩ := h.dp hd 7
      have hV0' : v0 = .int .i64 (((j : Nat) : Int)) := hV0
      obtain ⟨v1, hv1, hV1⟩ := h.dp hd 9
      have hV1' : v1 = .int .i64 ((xs.length : Int)) := hV1
      exact ⟨_, run_lssi rfl (hv0.trans hV0') (hv1.trans hV1'), congrArg Value.bool (decide_eq_true (by omega))⟩
    case s7 => refine kr fun _ ac Wd h hd => ?_; obtain ⟨v0, hv0, hV0⟩ := h.dp hd 13; exact len_Sn rfl rfl hv0 hV0
    case s8 =>
      refine kr fun _ ac Wd h hd => ?_
      obtain ⟨v0, hv0, hV0⟩ := h.dp hd 12
      have hV0' : v0 = .int .i64 (((j : Nat) : Int)) := hV0
      obtain ⟨v1, hv1, hV1⟩ := h.dp hd 14
      have hV1' : v1 = .int .i64 ((ys.length : Int)) := hV1
      exact ⟨_, run_lssi rfl (hv0.trans hV0') (hv1.trans hV1'), congrArg Value.bool (decide_eq_true (by omega))⟩
    intro a4 w4 st4
    clear st3
    repeat first|refine wp_seq ?_|refine wp_block ?_|refine wp_skip ?_|refine wp_exit ?_
    obtain ⟨vc, hc1, hc2⟩ := st4.slot (16, Vb (true)) (.tail _ (.tail _ (.tail _ (.head _))))
    refine wp_cond_true (hc1.trans hc2) ?_
    clear hc1 hc2
    have hxj : xs[j]? = some (xs.getD j 0) := by rw [List.getD_eq_getElem?_getD, List.getElem?_eq_getElem (by omega)]; rfl
    have hyj : ys[j]? = some (ys.getD j 0) := by rw [List.getD_eq_getElem?_getD, List.getElem?_eq_getElem (by omega)]; rfl
    repeat first|refine wp_seq ?_|refine wp_block ?_|refine wp_skip ?_|refine wp_exit ?_
    refine rg (BT := [(27, 4, 0)]) (Vl := [Vq (smN j) (smR (fun j => xs.getD j 0 * ys.getD j 0) j), VAt w (VSn 6 xs), Vi (((j : Nat) : Int)), VAt w (VEp 27 4 (Vq 6 (xs.getD j 0))), Vq 6 (xs.getD j 0), VAt w (VSn 6 ys), Vi (((j : Nat) : Int)), VAt w (VEp 27 4 (Vq 6 (ys.getD j 0))), Vq 6 (ys.getD j 0), Vq (6 + 6) ((xs.getD j 0) * (ys.getD j 0)), Vq ((max (smN j) (6 + 6)) + (max (smN j) (6 + 6)) + 1) ((smR (fun j => xs.getD j 0 * ys.getD j 0) j) + ((xs.getD j 0) * (ys.getD j 0))), VT]) (B := [⟨4, none, none, 27, 4, VT, VT⟩, ⟨5, none, some 11, 27, 4, Vq ((max (smN j) (6 + 6)) + (max (smN j) (6 + 6)) + 1) ((smR (fun j => xs.getD j 0 * ys.getD j 0) j) + ((xs.getD j 0) * (ys.getD j 0))), Vq (smN j) (smR (fun j => xs.getD j 0 * ys.getD j 0) j)⟩]) (SL' := [(0, VAt w (VSn 6 xs)), (1, VAt w (VSn 6 ys)), (6, Vi (((j : Nat) : Int))), (16, Vb (true))]) st4 ⟨ks, ks, ks, ?s3, ?s4, ks, ks, ?s7, ?s8, ?s9, ?s10, ks, trivial⟩ ?_
    case s3 => refine kr fun _ ac Wd h hd => ?_; obtain ⟨v0, hv0, hV0⟩ := h.dp hd 20; obtain ⟨v1, hv1, hV1⟩ := h.dp hd 21; exact index_Sn rfl hv0 hV0 hv1 hV1 hxj
    case s4 => refine kr fun _ ac Wd h hd => ?_; obtain ⟨v0, hv0, hV0⟩ := h.dp hd 22; exact load_Sn rfl hv0 hV0 h.k.below
    case s7 => refine kr fun _ ac Wd h hd => ?_; obtain ⟨v0, hv0, hV0⟩ := h.dp hd 24; obtain ⟨v1, hv1, hV1⟩ := h.dp hd 25; exact index_Sn rfl hv0 hV0 hv1 hV1 hyj
    case s8 => refine kr fun _ ac Wd h hd => ?_; obtain ⟨v0, hv0, hV0⟩ := h.dp hd 26; exact load_Sn rfl hv0 hV0 h.k.below
    case s9 =>
      refine kc fun _ ac Wd h hd => ?_
      obtain ⟨v0, hv0, hV0⟩ := h.dp hd 23
      obtain ⟨v1, hv1, hV1⟩ := h.dp hd 27
      exact ⟨#[v0, v1], by simp [hv0, hv1], cR4Mul (show Vq 6 (xs.getD j 0) v0 Wd from hV0) (show Vq 6 (ys.getD j 0) v1 Wd from hV1) (by omega) (by omega)⟩
    case s10 =>
      refine kc fun _ ac Wd h hd => ?_
      obtain ⟨v0, hv0, hV0⟩ := h.dp hd 19
      obtain ⟨v1, hv1, hV1⟩ := h.dp hd 28
      exact ⟨#[v0, v1], by simp [hv0, hv1], cR4Add (Vq_le (M := (max (smN j) (6 + 6))) (show Vq (smN j) (smR (fun j => xs.getD j 0 * ys.getD j 0) j) v0 Wd from hV0) (by omega)) (Vq_le (M := (max (smN j) (6 + 6))) (show Vq (6 + 6) ((xs.getD j 0) * (ys.getD j 0)) v1 Wd from hV1) (by omega)) (by omega) (by omega)⟩
    intro a5 w5 st5
    clear st4
    repeat first|refine wp_seq ?_|refine wp_block ?_|refine wp_skip ?_|refine wp_exit ?_
    refine rg (BT := [(27, 4, 0)]) (Vl := [Vi (((j : Nat) : Int)), Vi (((j + 1 : Nat) : Int)), Vi (((j + 1 : Nat) : Int))]) (B := [⟨4, none, none, 27, 4, VT, VT⟩, ⟨5, none, none, 27, 4, Vq ((max (smN j) (6 + 6)) + (max (smN j) (6 + 6)) + 1) ((smR (fun j => xs.getD j 0 * ys.getD j 0) j) + ((xs.getD j 0) * (ys.getD j 0))), VT⟩]) (SL' := [(0, VAt w (VSn 6 xs)), (1, VAt w (VSn 6 ys)), (16, Vb (true)), (6, Vi (((j + 1 : Nat) : Int)))]) st5 ⟨?s0, ?s1, ks, trivial⟩ ?_
    case s0 =>
      refine k_run0 SbB.out (by kernel_rfl) fun listed ac Wd h hd hnl => ⟨trivial, ?_⟩
      obtain ⟨v0, hv0, hV0⟩ := h.out0 hnl (6, Vi (((j : Nat) : Int))) (.tail _ (.tail _ (.head _))) 2 (by kernel_rfl) (.inr (by kernel_rfl))
      exact ⟨_, run_move rfl, by rw [hv0]; exact hV0⟩
    case s1 =>
      refine kr fun _ ac Wd h hd => ?_
      obtain ⟨v0, hv0, hV0⟩ := h.dp hd 17
      exact ⟨_, run_addi rfl (hv0.trans (show v0 = .int .i64 ((j : Nat) : Int) from hV0)) rfl (wrap_id (by omega) (by omega)), congrArg (Value.int .i64) (by omega)⟩
    intro a6 w6 st6
    clear st5
    replace st6 : St w.heap.size w 31 [⟨4, none, none, 27, 4, VT, VT⟩, ⟨5, none, none, 27, 4, Vq ((max (smN j) (6 + 6)) + (max (smN j) (6 + 6)) + 1) ((smR (fun j => xs.getD j 0 * ys.getD j 0) j) + ((xs.getD j 0) * (ys.getD j 0))), VT⟩] [(0, VAt w (VSn 6 xs)), (1, VAt w (VSn 6 ys)), (6, Vi (((j + 1 : Nat) : Int)))] a6 w6 := st6.cut
    exact ⟨m - 1, by omega, j + 1, by omega, st6.weak [⟨4, none, none, 27, 4, VT, VT⟩, ⟨5, none, none, 27, 4, Vq (smN (j + 1)) (smR (fun j => xs.getD j 0 * ys.getD j 0) (j + 1)), VT⟩] (List.forall_mem_cons.2 ⟨⟨_, (.head _), rfl, rfl, rfl, rfl, rfl, rfl, rfl, fun _ _ h => h⟩, (List.forall_mem_cons.2 ⟨⟨_, (.tail _ (.head _)), rfl, rfl, rfl, rfl, rfl, rfl, rfl, fun _ _ h => h⟩, (fun _ h => absurd h (by simp))⟩)⟩)⟩
  ·
    by_cases hlx : j < xs.length
    ·
      repeat first|refine wp_seq ?_|refine wp_block ?_|refine wp_skip ?_|refine wp_exit ?_
      refine rg (BT := [(27, 4, 0)]) (Vl := [Vi (((j : Nat) : Int)), VAt w (VSn 6 xs), Vi ((xs.length : Int)), Vb (true), Vb (true), Vi (((j : Nat) : Int)), VAt w (VSn 6 ys), Vi ((ys.length : Int)), Vb (false), Vb (false)]) (B := [⟨4, none, none, 27, 4, VT, VT⟩, ⟨5, none, none, 27, 4, Vq (smN j) (smR (fun j => xs.getD j 0 * ys.getD j 0) j), VT⟩]) (SL' := [(0, VAt w (VSn 6 xs)), (1, VAt w (VSn 6 ys)), (6, Vi (((j : Nat) : Int))), (16, Vb (false))]) st3 ⟨ks, ks, ?s2, ?s3, ks, ks, ks, ?s7, ?s8, ks, trivial⟩ ?_
      case s2 => refine kr fun _ ac Wd h hd => ?_; obtain ⟨v0, hv0, hV0⟩ := h.dp hd 8; exact len_Sn rfl rfl hv0 hV0
      case s3 =>
        refine kr fun _ ac Wd h hd => ?_
        obtain ⟨v0, hv0, hV0⟩ := h.dp hd 7
        have hV0' : v0 = .int .i64 (((j : Nat) : Int)) := hV0
        obtain ⟨v1, hv1, hV1⟩ := h.dp hd 9
        have hV1' : v1 = .int .i64 ((xs.length : Int)) := hV1
        exact ⟨_, run_lssi rfl (hv0.trans hV0') (hv1.trans hV1'), congrArg Value.bool (decide_eq_true (by omega))⟩
      case s7 => refine kr fun _ ac Wd h hd => ?_; obtain ⟨v0, hv0, hV0⟩ := h.dp hd 13; exact len_Sn rfl rfl hv0 hV0
      case s8 =>
        refine kr fun _ ac Wd h hd => ?_
        obtain ⟨v0, hv0, hV0⟩ := h.dp hd 12
        have hV0' : v0 = .int .i64 (((j : Nat) : Int)) := hV0
        obtain ⟨v1, hv1, hV1⟩ := h.dp hd 14
        have hV1' : v1 = .int .i64 ((ys.length : Int)) := hV1
        exact ⟨_, run_lssi rfl (hv0.trans hV0') (hv1.trans hV1'), congrArg Value.bool (decide_eq_false (by omega))⟩
      intro a4 w4 st4
      clear st3
      repeat first|refine wp_seq ?_|refine wp_block ?_|refine wp_skip ?_|refine wp_exit ?_
      obtain ⟨vc, hc1, hc2⟩ := st4.slot (16, Vb (false)) (.tail _ (.tail _ (.tail _ (.head _))))
      refine wp_cond_false (hc1.trans hc2) ?_
      clear hc1 hc2
      have hj2 : j = n := by omega
      repeat first|refine wp_seq ?_|refine wp_block ?_|refine wp_skip ?_|refine wp_exit ?_
      refine rg (BT := [(27, 4, 0)]) (Vl := [Vq (smN j) (smR (fun j => xs.getD j 0 * ys.getD j 0) j), VT]) (B := [⟨4, none, some 1, 27, 4, Vq (smN j) (smR (fun j => xs.getD j 0 * ys.getD j 0) j), VT⟩, ⟨5, none, none, 27, 4, Vq (smN j) (smR (fun j => xs.getD j 0 * ys.getD j 0) j), VT⟩]) (SL' := [(0, VAt w (VSn 6 xs)), (1, VAt w (VSn 6 ys)), (6, Vi (((j : Nat) : Int))), (16, Vb (false))]) st4 ⟨ks, ks, trivial⟩ ?_
      intro a5 w5 st5
      clear st4
      repeat first|refine wp_seq ?_|refine wp_block ?_|refine wp_skip ?_|refine wp_exit ?_
      obtain ⟨g, cs, r1, r2, r3, r4, r5⟩ := st5.res ⟨4, none, none, 27, 4, Vq (smN j) (smR (fun j => xs.getD j 0 * ys.getD j 0) j), VT⟩ (.head _) rfl rfl
      exact wp_ret (bodyPost_ret (results_cell_row rfl _ _ g 27 cs (0, 0) _ r1 r2 Tryz.underlying27 rfl (by rw [r3]; exact size_Rat)) st5.defers ⟨_, rfl, (by rw [← hj2]; exact Vq_le r4 (by omega)), r5⟩)
    ·
      repeat first|refine wp_seq ?_|refine wp_block ?_|refine wp_skip ?_|refine wp_exit ?_
      refine rg (BT := [(27, 4, 0)]) (Vl := [Vi (((j : Nat) : Int)), VAt w (VSn 6 xs), Vi ((xs.length : Int)), Vb (false), Vb (false), VT, VT, VT, VT, Vb (false)]) (B := [⟨4, none, none, 27, 4, VT, VT⟩, ⟨5, none, none, 27, 4, Vq (smN j) (smR (fun j => xs.getD j 0 * ys.getD j 0) j), VT⟩]) (SL' := [(0, VAt w (VSn 6 xs)), (1, VAt w (VSn 6 ys)), (6, Vi (((j : Nat) : Int))), (16, Vb (false))]) st3 ⟨ks, ks, ?s2, ?s3, ks, ks, ks, ?s7, ks, ks, trivial⟩ ?_
      case s2 => refine kr fun _ ac Wd h hd => ?_; obtain ⟨v0, hv0, hV0⟩ := h.dp hd 8; exact len_Sn rfl rfl hv0 hV0
      case s3 =>
        refine kr fun _ ac Wd h hd => ?_
        obtain ⟨v0, hv0, hV0⟩ := h.dp hd 7
        have hV0' : v0 = .int .i64 (((j : Nat) : Int)) := hV0
        obtain ⟨v1, hv1, hV1⟩ := h.dp hd 9
        have hV1' : v1 = .int .i64 ((xs.length : Int)) := hV1
        exact ⟨_, run_lssi rfl (hv0.trans hV0') (hv1.trans hV1'), congrArg Value.bool (decide_eq_false (by omega))⟩
      case s7 =>
        refine k_skip SbB.out (by kernel_rfl) fun listed ac Wd h hd => ⟨?_, trivial⟩
        obtain ⟨u, hu, hy, hU⟩ := h.dep hd 4 11 (by kernel_rfl) (by kernel_rfl)
        obtain rfl : u = .bool false := hU
        exact ⟨4, true, false, rfl, hy, by decide⟩
      intro a4 w4 st4
      clear st3
      repeat first|refine wp_seq ?_|refine wp_block ?_|refine wp_skip ?_|refine wp_exit ?_
      obtain ⟨vc, hc1, hc2⟩ := st4.slot (16, Vb (false)) (.tail _ (.tail _ (.tail _ (.head _))))
      refine wp_cond_false (hc1.trans hc2) ?_
      clear hc1 hc2
      have hj2 : j = n := by omega
      repeat first|refine wp_seq ?_|refine wp_block ?_|refine wp_skip ?_|refine wp_exit ?_
      refine rg (BT := [(27, 4, 0)]) (Vl := [Vq (smN j) (smR (fun j => xs.getD j 0 * ys.getD j 0) j), VT]) (B := [⟨4, none, some 1, 27, 4, Vq (smN j) (smR (fun j => xs.getD j 0 * ys.getD j 0) j), VT⟩, ⟨5, none, none, 27, 4, Vq (smN j) (smR (fun j => xs.getD j 0 * ys.getD j 0) j), VT⟩]) (SL' := [(0, VAt w (VSn 6 xs)), (1, VAt w (VSn 6 ys)), (6, Vi (((j : Nat) : Int))), (16, Vb (false))]) st4 ⟨ks, ks, trivial⟩ ?_
      intro a5 w5 st5
      clear st4
      repeat first|refine wp_seq ?_|refine wp_block ?_|refine wp_skip ?_|refine wp_exit ?_
      obtain ⟨g, cs, r1, r2, r3, r4, r5⟩ := st5.res ⟨4, none, none, 27, 4, Vq (smN j) (smR (fun j => xs.getD j 0 * ys.getD j 0) j), VT⟩ (.head _) rfl rfl
      exact wp_ret (bodyPost_ret (results_cell_row rfl _ _ g 27 cs (0, 0) _ r1 r2 Tryz.underlying27 rfl (by rw [r3]; exact size_Rat)) st5.defers ⟨_, rfl, (by rw [← hj2]; exact Vq_le r4 (by omega)), r5⟩)
end Go.Proofs.YtleijkgdpmfabaaGreatDoor
