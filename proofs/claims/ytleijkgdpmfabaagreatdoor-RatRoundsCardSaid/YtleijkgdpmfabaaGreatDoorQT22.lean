/- rat.Dot. -/
import Derived.Test.YtleijkgdpmfabaaGreatDoorQT21
set_option linter.unusedVariables false
namespace Go.Proofs.YtleijkgdpmfabaaGreatDoor
open Go.RowKit
theorem VSn_later {N : Nat} {xs : List Rat} {v : Value} {w W : World} (h : VSn N xs v w) (hb : Below w.heap.size w W) : VSn N xs v W :=
  h.imp id fun h => VSl_later (fun x => Stab_Vq _ _) h hb
theorem VRn_fl {n g N : Nat} {X : Nat → Rat} {v : Value} {w : World} (h : VRn n g (VQr N X n) v w) : VFl n N X v w := by
  obtain ⟨rfl, cs, e1, e2, -, ⟨_, e3, e4⟩⟩ := h
  cases e3
  exact ⟨g, cs, rfl, e1, e2, e4⟩
theorem Stab_VRnP {n g N : Nat} {X : Nat → Rat} (hg : g ≠ 0) : Stab [(27, 4, 0), (27, 0, g)] (VRn n g (VQr N X n)) := fun v w w' ⟨e0, ⟨cs, e2, e3, e4, e5⟩⟩ hr => ⟨e0, ⟨cs, (hr.row _ _ _ e2 (by
  rcases Nat.eq_zero_or_pos n with h | h
  · refine .inl fun e he q1 q2 => ?_
    rw [e3, h] at q2
    simp at he
    rcases he with rfl | rfl
    · simp at q2
    · exact ⟨hg, Nat.le_refl _⟩
  · exact .inr ⟨by omega, (27, 0, g), by simp, rfl, rfl, rfl⟩)).trans e2, e3, e4, Sb.out _ _ _ e5 hr⟩⟩
set_option maxRecDepth 100000 in
set_option maxHeartbeats 1600000 in
theorem cDotN {w : World} {n : Nat} {xs ys : List Rat} {v0 v1 : Value} (h0 : VAt w (VSn 6 xs) v0 w) (h1 : VAt w (VSn 6 ys) v1 w) (hnm : n = min xs.length ys.length) (hn : n ≤ 5) : Calls Tryz.prog 49 #[v0, v1] w (RV (Vq 70 (smR (fun j => xs.getD j 0 * ys.getD j 0) n)) w) := by
  go_enter Tryz.func49, Tryz.ntmps49
  have st0 : St w.heap.size w 34 [] [(0, VAt w (VSn 6 xs)), (1, VAt w (VSn 6 ys))] _ w := St.begin (a := ⟨#[v0, v1, undef, undef, undef, undef, undef, undef, undef, undef, undef, undef, undef, undef, undef, undef, undef, undef, undef, undef, undef, undef, undef, undef, undef, undef, undef, undef, undef, undef, undef, undef, undef, undef], []⟩) rfl rfl (List.forall_mem_cons.2 ⟨⟨_, rfl, h0⟩, (List.forall_mem_cons.2 ⟨⟨_, rfl, h1⟩, (fun _ h => absurd h (by simp))⟩)⟩)
  generalize (⟨#[v0, v1, undef, undef, undef, undef, undef, undef, undef, undef, undef, undef, undef, undef, undef, undef, undef, undef, undef, undef, undef, undef, undef, undef, undef, undef, undef, undef, undef, undef, undef, undef, undef, undef], []⟩ : Act) = a0 at st0 ⊢
  obtain ⟨Z, hZ⟩ : ∃ Z : Nat → Rat, (fun j => xs.getD j 0 * ys.getD j 0) = Z := ⟨_, rfl⟩
  rw [hZ]
  repeat first|refine wp_seq ?_|refine wp_block ?_|refine wp_skip ?_|refine wp_exit ?_
  refine rg (BT := [(27, 4, 0)]) (Vl := [VT]) (B := [⟨4, some 0, none, 27, 4, VT, VT⟩]) (SL' := [(0, VAt w (VSn 6 xs)), (1, VAt w (VSn 6 ys))]) st0 ⟨ks, trivial⟩ ?_
  intro a1 w1 st1
  clear st0
  replace st1 : St w.heap.size w 34 [⟨4, none, none, 27, 4, VT, VT⟩] [(0, VAt w (VSn 6 xs)), (1, VAt w (VSn 6 ys))] a1 w1 := st1
  obtain ⟨g4, e4, hg4, hg5, cs4, b1, b2, b3, -⟩ := st1.boxAt (b := ⟨4, none, none, 27, 4, VT, VT⟩) (.head _) rfl rfl
  obtain ⟨u0, p0, s0⟩ := st1.sl (0, VAt w (VSn 6 xs)) (lS_mem rfl)
  obtain ⟨u1, p1, s1⟩ := st1.sl (1, VAt w (VSn 6 ys)) (lS_mem rfl)
  repeat first|refine wp_seq ?_|refine wp_block ?_|refine wp_skip ?_|refine wp_exit ?_
  obtain ⟨hbO, stB⟩ := st1.base [(0, VAt w1 (VSn 6 xs)), (1, VAt w1 (VSn 6 ys)), (4, VEq (.pointer (some ⟨g4, 0, none⟩)))] (List.forall_mem_cons.2 ⟨⟨_, p0, VSn_later s0 st1.k.below⟩, (List.forall_mem_cons.2 ⟨⟨_, p1, VSn_later s1 st1.k.below⟩, (List.forall_mem_cons.2 ⟨⟨_, e4, rfl⟩, (fun _ h => absurd h (by simp))⟩)⟩)⟩)
  clear st1
  obtain ⟨wO, hren⟩ : ∃ z, z = w := ⟨_, rfl⟩
  subst hren
  obtain ⟨w, hren⟩ : ∃ z, z = w1 := ⟨_, rfl⟩
  subst hren
  have st1 : St w.heap.size w 34 [] [(0, VAt w (VSn 6 xs)), (1, VAt w (VSn 6 ys)), (4, VEq (.pointer (some ⟨g4, 0, none⟩)))] a1 w := stB
  clear stB
  clear h0 h1 s0 s1 p0 p1 e4
  repeat first|refine wp_seq ?_|refine wp_block ?_|refine wp_skip ?_|refine wp_exit ?_
  refine rg (BT := [(27, 4, 0)]) (Vl := [VAt w (VSn 6 xs), Vi ((xs.length : Int)), VAt w (VSn 6 ys), Vi ((ys.length : Int)), Vi (((n : Nat) : Int)), Vi (((n : Nat) : Int))]) (B := []) (SL' := [(0, VAt w (VSn 6 xs)), (1, VAt w (VSn 6 ys)), (4, VEq (.pointer (some ⟨g4, 0, none⟩))), (5, Vi (((n : Nat) : Int)))]) st1 ⟨ks, ?s1, ks, ?s3, ?s4, ks, trivial⟩ ?_
  case s1 => refine kr fun _ ac Wd h hd => ?_; obtain ⟨v0, hv0, hV0⟩ := h.dp hd 8; exact len_Sn rfl rfl hv0 hV0
  case s3 => refine kr fun _ ac Wd h hd => ?_; obtain ⟨v0, hv0, hV0⟩ := h.dp hd 10; exact len_Sn rfl rfl hv0 hV0
  case s4 => refine kr fun _ ac Wd h hd => ?_; obtain ⟨v0, hv0, hV0⟩ := h.dp hd 9; obtain ⟨v1, hv1, hV1⟩ := h.dp hd 11; exact min_iv hnm rfl rfl hv0 hv1 hV0 hV1
  intro a2 w2 st2
  clear st1
  repeat first|refine wp_seq ?_|refine wp_block ?_|refine wp_skip ?_|refine wp_exit ?_
  have : Sb [] (VMkn n w.heap.size) := ⟨Stab_VMkn0⟩
  refine rg (BT := []) (Vl := [Vi (((n : Nat) : Int)), VMkn n w.heap.size, VMkn n w.heap.size]) (B := []) (SL' := [(0, VAt w (VSn 6 xs)), (1, VAt w (VSn 6 ys)), (4, VEq (.pointer (some ⟨g4, 0, none⟩))), (5, Vi (((n : Nat) : Int))), (6, VMkn n w.heap.size)]) st2 ⟨ks, ?s1, ks, trivial⟩ ?_
  case s1 => refine km fun _ ac Wd h hd => ?_; obtain ⟨v0, hv0, hV0⟩ := h.dp hd 13; exact mk_Qn hn rfl hv0 hV0 h.n
  intro a3 w3 st3
  clear st2
  obtain ⟨v6, he6, ⟨g, hg0, hg6, ⟨cs6, q1, q2, q3, -⟩⟩⟩ := st3.sl (6, VMkn n w.heap.size) (lS_mem rfl)
  replace st3 := st3.reT 6 (VRn n g (VQr 12 Z 0)) he6 ⟨hg6, cs6, q1, q2, q3, ⟨cs6, rfl, fun i hi => by omega⟩⟩
  replace st3 : St w.heap.size w 34 [] [(0, VAt w (VSn 6 xs)), (1, VAt w (VSn 6 ys)), (4, VEq (.pointer (some ⟨g4, 0, none⟩))), (5, Vi (((n : Nat) : Int))), (6, VRn n g (VQr 12 Z 0))] a3 w3 := st3.cut
  clear he6 hg6 q1 q2 q3
  repeat first|refine wp_seq ?_|refine wp_block ?_|refine wp_skip ?_|refine wp_exit ?_
  have : Sb [] (VRn n g (VQr 12 Z 0)) := ⟨(Stab_VRn0 Sb.out)⟩
  refine rg (BT := []) (Vl := [Vi (((n : Nat) : Int)), Vi (0)]) (B := []) (SL' := [(0, VAt w (VSn 6 xs)), (1, VAt w (VSn 6 ys)), (4, VEq (.pointer (some ⟨g4, 0, none⟩))), (5, Vi (((n : Nat) : Int))), (6, VRn n g (VQr 12 Z 0)), (15, Vi (((n : Nat) : Int))), (16, Vi (0))]) st3 ⟨ks, ks, trivial⟩ ?_
  intro a4 w4 st4
  clear st3
  replace st4 : St w.heap.size w 34 [] [(0, VAt w (VSn 6 xs)), (1, VAt w (VSn 6 ys)), (4, VEq (.pointer (some ⟨g4, 0, none⟩))), (6, VRn n g (VQr 12 Z 0)), (15, Vi (((n : Nat) : Int))), (16, Vi (((0 : Nat) : Int)))] a4 w4 := st4.cut
  repeat first|refine wp_seq ?_|refine wp_block ?_|refine wp_skip ?_|refine wp_exit ?_
  refine wp_loop_ghost (fun m aX wX => ∃ j : Nat, j + m = n ∧ St w.heap.size w 34 [] [(0, VAt w (VSn 6 xs)), (1, VAt w (VSn 6 ys)), (4, VEq (.pointer (some ⟨g4, 0, none⟩))), (6, VRn n g (VQr 12 Z j)), (15, Vi (((n : Nat) : Int))), (16, Vi (((j : Nat) : Int)))] aX wX) n ⟨0, by omega, st4⟩ ?_
  clear st4
  intro m aL wL ⟨j, hj, st4⟩
  by_cases hlt : ((j : Nat) : Int) < ((n : Nat) : Int)
  ·
    repeat first|refine wp_seq ?_|refine wp_block ?_|refine wp_skip ?_|refine wp_exit ?_
    have : Sb [] (VRn n g (VQr 12 Z j)) := ⟨(Stab_VRn0 Sb.out)⟩
    refine rg (BT := []) (Vl := [Vb (true)]) (B := []) (SL' := [(0, VAt w (VSn 6 xs)), (1, VAt w (VSn 6 ys)), (4, VEq (.pointer (some ⟨g4, 0, none⟩))), (6, VRn n g (VQr 12 Z j)), (15, Vi (((n : Nat) : Int))), (16, Vi (((j : Nat) : Int))), (17, Vb (true))]) st4 ⟨?s0, trivial⟩ ?_
    case s0 =>
      refine kr fun _ ac Wd h hd => ?_
      obtain ⟨v0, hv0, hV0⟩ := h.ot 16
      have hV0' : v0 = .int .i64 (((j : Nat) : Int)) := hV0
      obtain ⟨v1, hv1, hV1⟩ := h.ot 15
      have hV1' : v1 = .int .i64 (((n : Nat) : Int)) := hV1
      exact ⟨_, run_lssi rfl (hv0.trans hV0') (hv1.trans hV1'), congrArg Value.bool (decide_eq_true hlt)⟩
    intro a5 w5 st5
    clear st4
    repeat first|refine wp_seq ?_|refine wp_block ?_|refine wp_skip ?_|refine wp_exit ?_
    obtain ⟨vc, hc1, hc2⟩ := st5.slot (17, Vb (true)) (.tail _ (.tail _ (.tail _ (.tail _ (.tail _ (.tail _ (.head _)))))))
    refine wp_cond_true (hc1.trans hc2) ?_
    clear hc1 hc2
    have hj2 : j < n := by omega
    have hxj : xs[j]? = some (xs.getD j 0) := by rw [List.getD_eq_getElem?_getD, List.getElem?_eq_getElem (by omega)]; rfl
    have hyj : ys[j]? = some (ys.getD j 0) := by rw [List.getD_eq_getElem?_getD, List.getElem?_eq_getElem (by omega)]; rfl
    have hZj : Z j = xs.getD j 0 * ys.getD j 0 := by rw [← hZ]
    repeat first|refine wp_seq ?_|refine wp_block ?_|refine wp_skip ?_|refine wp_exit ?_
    have : Sb [] (VRn n g (VQr 12 Z j)) := ⟨(Stab_VRn0 Sb.out)⟩
    refine rg (BT := []) (Vl := [Vi (((j : Nat) : Int)), Vi (((j : Nat) : Int))]) (B := []) (SL' := [(0, VAt w (VSn 6 xs)), (1, VAt w (VSn 6 ys)), (4, VEq (.pointer (some ⟨g4, 0, none⟩))), (6, VRn n g (VQr 12 Z j)), (15, Vi (((n : Nat) : Int))), (16, Vi (((j : Nat) : Int))), (17, Vb (true)), (7, Vi (((j : Nat) : Int)))]) st5 ⟨ks, ks, trivial⟩ ?_
    intro a6 w6 st6
    clear st5
    obtain ⟨v6, he6, hg6, hrow⟩ := st6.sl (6, VRn n g (VQr 12 Z j)) (lS_mem rfl)
    replace st6 := st6.reT 6 (VEq (.slice (some ⟨g, 0, none⟩) n n)) he6 hg6
    replace st6 : St w.heap.size w 34 [] [(0, VAt w (VSn 6 xs)), (1, VAt w (VSn 6 ys)), (4, VEq (.pointer (some ⟨g4, 0, none⟩))), (6, VEq (.slice (some ⟨g, 0, none⟩) n n)), (15, Vi (((n : Nat) : Int))), (16, Vi (((j : Nat) : Int))), (17, Vb (true)), (7, Vi (((j : Nat) : Int)))] a6 w6 := st6.cut
    clear he6 hg6
    repeat first|refine wp_seq ?_|refine wp_block ?_|refine wp_skip ?_|refine wp_exit ?_
    refine rgR (BT := []) (Vl := [VEq (.slice (some ⟨g, 0, none⟩) n n), Vi (((j : Nat) : Int)), VAt w (VSn 6 xs), Vi (((j : Nat) : Int)), VAt w (VEp 27 4 (Vq 6 (xs.getD j 0))), Vq 6 (xs.getD j 0), VAt w (VSn 6 ys), Vi (((j : Nat) : Int)), VAt w (VEp 27 4 (Vq 6 (ys.getD j 0))), Vq 6 (ys.getD j 0), Vq (6 + 6) ((xs.getD j 0) * (ys.getD j 0)), VEq (.pointer (some ⟨g, 4 * j, none⟩)), VT]) (B := []) (SL' := [(0, VAt w (VSn 6 xs)), (1, VAt w (VSn 6 ys)), (4, VEq (.pointer (some ⟨g4, 0, none⟩))), (6, VEq (.slice (some ⟨g, 0, none⟩) n n)), (15, Vi (((n : Nat) : Int))), (16, Vi (((j : Nat) : Int))), (17, Vb (true)), (7, Vi (((j : Nat) : Int)))]) ⟨g, 12, 27, 4 * n, VQr 12 Z (j + 1), VQr 12 Z j⟩ st6 hrow ⟨fun _ => ks, fun _ => ks, fun _ => ks, fun _ => ks, fun _ => ?s4, fun _ => ?s5, fun _ => ks, fun _ => ks, fun _ => ?s8, fun _ => ?s9, fun _ => ?s10, fun _ => ?s11, fun hne => absurd rfl hne, trivial⟩ ?r12 ?_ (by kernel_rfl) (Nat.le_of_ble_eq_true rfl) (hm0 := (by show 4 * n ≠ 0; omega))
    case s4 => refine kr fun _ ac Wd h hd => ?_; obtain ⟨v0, hv0, hV0⟩ := h.dp hd 21; obtain ⟨v1, hv1, hV1⟩ := h.dp hd 22; exact index_Sn rfl hv0 hV0 hv1 hV1 hxj
    case s5 => refine kr fun _ ac Wd h hd => ?_; obtain ⟨v0, hv0, hV0⟩ := h.dp hd 23; exact load_Sn rfl hv0 hV0 h.k.below
    case s8 => refine kr fun _ ac Wd h hd => ?_; obtain ⟨v0, hv0, hV0⟩ := h.dp hd 25; obtain ⟨v1, hv1, hV1⟩ := h.dp hd 26; exact index_Sn rfl hv0 hV0 hv1 hV1 hyj
    case s9 => refine kr fun _ ac Wd h hd => ?_; obtain ⟨v0, hv0, hV0⟩ := h.dp hd 27; exact load_Sn rfl hv0 hV0 h.k.below
    case s10 =>
      refine kc fun _ ac Wd h hd => ?_
      obtain ⟨v0, hv0, hV0⟩ := h.dp hd 24
      obtain ⟨v1, hv1, hV1⟩ := h.dp hd 28
      exact ⟨#[v0, v1], by simp [hv0, hv1], cQMul (Na := 6) (Nb := 6) (show Vq 6 (xs.getD j 0) v0 Wd from hV0) (show Vq 6 (ys.getD j 0) v1 Wd from hV1) (by omega) (by omega) (by omega) (by omega)⟩
    case s11 => refine kr fun _ ac Wd h hd => ?_; obtain ⟨v0, hv0, hV0⟩ := h.dp hd 19; obtain ⟨v1, hv1, hV1⟩ := h.dp hd 20; exact index_rn rfl hv0 hV0 hv1 hV1 hj2
    case r12 => intro o ho; obtain rfl := Option.some.inj ho.symm; exact k_row (A := Vq (6 + 6) (xs.getD j 0 * ys.getD j 0)) rfl rfl rfl rfl hg0 (by kernel_rfl) (by kernel_rfl) (by kernel_rfl) rfl (.inl ⟨by kernel_rfl, rfl, rfl⟩) (by show 4 * j + 4 ≤ 4 * n; omega) (fun cs z w h1 h2 h3 h4 => upd_rown h1 h2 hj2 h3 (by rw [hZj]; exact h4)) Sb.out trivial (by show 4 * n ≠ 0; omega)
    clear hrow
    intro a7 w7 st7 hrow
    clear st6
    obtain ⟨v6, he6, hg6⟩ := st7.sl (6, VEq (.slice (some ⟨g, 0, none⟩) n n)) (lS_mem rfl)
    replace st7 := st7.reT 6 (VRn n g (VQr 12 Z (j + 1))) he6 ⟨hg6, hrow⟩
    replace st7 : St w.heap.size w 34 [] [(0, VAt w (VSn 6 xs)), (1, VAt w (VSn 6 ys)), (4, VEq (.pointer (some ⟨g4, 0, none⟩))), (6, VRn n g (VQr 12 Z (j + 1))), (15, Vi (((n : Nat) : Int))), (16, Vi (((j : Nat) : Int))), (17, Vb (true)), (7, Vi (((j : Nat) : Int)))] a7 w7 := st7.cut
    clear he6 hg6 hrow
    repeat first|refine wp_seq ?_|refine wp_block ?_|refine wp_skip ?_|refine wp_exit ?_
    have : Sb [] (VRn n g (VQr 12 Z (j + 1))) := ⟨(Stab_VRn0 Sb.out)⟩
    refine rg (BT := []) (Vl := [Vi (((j + 1 : Nat) : Int)), Vi (((j + 1 : Nat) : Int))]) (B := []) (SL' := [(0, VAt w (VSn 6 xs)), (1, VAt w (VSn 6 ys)), (4, VEq (.pointer (some ⟨g4, 0, none⟩))), (6, VRn n g (VQr 12 Z (j + 1))), (15, Vi (((n : Nat) : Int))), (17, Vb (true)), (7, Vi (((j : Nat) : Int))), (16, Vi (((j + 1 : Nat) : Int)))]) st7 ⟨?s0, ks, trivial⟩ ?_
    case s0 =>
      refine k_run0 SbB.out (by kernel_rfl) fun listed ac Wd h hd hnl => ⟨trivial, ?_⟩
      obtain ⟨v0, hv0, hV0⟩ := h.out0 hnl (16, Vi (((j : Nat) : Int))) (.tail _ (.tail _ (.tail _ (.tail _ (.tail _ (.head _)))))) 1 (by kernel_rfl) (.inr (by kernel_rfl))
      exact ⟨_, run_addi rfl (hv0.trans (show v0 = .int .i64 ((j : Nat) : Int) from hV0)) rfl (wrap_id (by omega) (by omega)), congrArg (Value.int .i64) (by omega)⟩
    intro a8 w8 st8
    clear st7
    replace st8 : St w.heap.size w 34 [] [(0, VAt w (VSn 6 xs)), (1, VAt w (VSn 6 ys)), (4, VEq (.pointer (some ⟨g4, 0, none⟩))), (6, VRn n g (VQr 12 Z (j + 1))), (15, Vi (((n : Nat) : Int))), (17, Vb (true)), (7, Vi (((j : Nat) : Int))), (16, Vi (((j + 1 : Nat) : Int)))] a8 w8 := st8
    exact ⟨m - 1, by omega, j + 1, by omega, st8.cut⟩
  ·
    repeat first|refine wp_seq ?_|refine wp_block ?_|refine wp_skip ?_|refine wp_exit ?_
    have : Sb [] (VRn n g (VQr 12 Z j)) := ⟨(Stab_VRn0 Sb.out)⟩
    refine rg (BT := []) (Vl := [Vb (false)]) (B := []) (SL' := [(0, VAt w (VSn 6 xs)), (1, VAt w (VSn 6 ys)), (4, VEq (.pointer (some ⟨g4, 0, none⟩))), (6, VRn n g (VQr 12 Z j)), (15, Vi (((n : Nat) : Int))), (16, Vi (((j : Nat) : Int))), (17, Vb (false))]) st4 ⟨?s0, trivial⟩ ?_
    case s0 =>
      refine kr fun _ ac Wd h hd => ?_
      obtain ⟨v0, hv0, hV0⟩ := h.ot 16
      have hV0' : v0 = .int .i64 (((j : Nat) : Int)) := hV0
      obtain ⟨v1, hv1, hV1⟩ := h.ot 15
      have hV1' : v1 = .int .i64 (((n : Nat) : Int)) := hV1
      exact ⟨_, run_lssi rfl (hv0.trans hV0') (hv1.trans hV1'), congrArg Value.bool (decide_eq_false hlt)⟩
    intro a5 w5 st5
    clear st4
    repeat first|refine wp_seq ?_|refine wp_block ?_|refine wp_skip ?_|refine wp_exit ?_
    obtain ⟨vc, hc1, hc2⟩ := st5.slot (17, Vb (false)) (.tail _ (.tail _ (.tail _ (.tail _ (.tail _ (.tail _ (.head _)))))))
    refine wp_cond_false (hc1.trans hc2) ?_
    clear hc1 hc2
    replace st5 : St w.heap.size w 34 [] [(0, VAt w (VSn 6 xs)), (1, VAt w (VSn 6 ys)), (4, VEq (.pointer (some ⟨g4, 0, none⟩))), (6, VRn n g (VQr 12 Z j)), (15, Vi (((n : Nat) : Int))), (16, Vi (((j : Nat) : Int))), (17, Vb (false))] a5 w5 := st5
    obtain rfl : n = j := by omega
    replace st5 : St w.heap.size w 34 [] [(0, VAt w (VSn 6 xs)), (1, VAt w (VSn 6 ys)), (4, VEq (.pointer (some ⟨g4, 0, none⟩))), (6, VRn n g (VQr 12 Z n))] a5 w5 := st5.cut
    obtain ⟨v4, he4, hv4⟩ := st5.sl (4, VEq (.pointer (some ⟨g4, 0, none⟩))) (lS_mem rfl)
    obtain rfl : v4 = _ := hv4
    obtain ⟨v6, he6, hv6⟩ := st5.sl (6, VRn n g (VQr 12 Z n)) (lS_mem rfl)
    repeat first|refine wp_seq ?_|refine wp_block ?_|refine wp_skip ?_|refine wp_exit ?_
    have stB := st5.unbase (b := ⟨4, none, none, 27, 4, VT, VT⟩) hbO hbO.size (Nat.le_refl _) he4 hg4 hg5 b1 b2 b3 trivial trivial
    clear st5
    have hgne : g ≠ 0 := by omega
    have hg4g : g4 ≠ g := by omega
    replace stB := (stB.reT 6 (VRn n g (VQr 12 Z n)) he6 hv6).reT 4 (VNe g) he4 (by intro e; cases e; exact hg4g rfl)
    clear hbO hg0 hg4 hg5 b1 b2 b3
    obtain ⟨wB, hren⟩ : ∃ z, z = w := ⟨_, rfl⟩
    subst hren
    obtain ⟨w, hren⟩ : ∃ z, z = wO := ⟨_, rfl⟩
    subst hren
    have st5 : St w.heap.size w 34 [⟨4, none, none, 27, 4, VT, VT⟩] [(4, VNe g), (6, VRn n g (VQr 12 Z n))] a5 w5 := stB.cut
    clear stB
    repeat first|refine wp_seq ?_|refine wp_block ?_|refine wp_skip ?_|refine wp_exit ?_
    have : Sb [(27, 4, 0), (27, 0, g)] (VRn n g (VQr 12 Z n)) := ⟨(Stab_VRnP hgne)⟩
    refine rg (BT := [(27, 4, 0), (27, 0, g)]) (Vl := [VRn n g (VQr 12 Z n), Vq 70 (smR Z n), VT]) (B := [⟨4, none, some 2, 27, 4, Vq 70 (smR Z n), VT⟩]) (SL' := [(4, VNe g), (6, VRn n g (VQr 12 Z n))]) st5 ⟨ks, ?s1, ?s2, trivial⟩ ?_
    case s1 => refine kc fun _ ac Wd h hd => ?_; obtain ⟨v0, hv0, hV0⟩ := h.dp hd 32; exact ⟨#[v0], by simp [hv0], cTotalN (X := Z) (VAt_now (VRn_fl (show VRn n g (VQr 12 Z n) v0 Wd from hV0))) hn⟩
    case s2 =>
      refine k_storeN_ (gp := g) rfl rfl rfl rfl rfl rfl ?_ rfl (by kernel_rfl) (by kernel_rfl) rfl (by kernel_rfl) (by simp) ?_ ?_ ?_ ?_; (exact rfl); (first | exact .inl ⟨by kernel_rfl, rfl, rfl⟩ | exact .inr ⟨rfl, by kernel_rfl⟩); (first | exact .inl rfl | exact .inr ⟨_, rfl, by kernel_rfl⟩); (first | exact .inl ⟨by kernel_rfl, rfl, rfl⟩ | exact .inr ⟨rfl, by kernel_rfl⟩); (first | exact trivial | exact ⟨by kernel_rfl, ⟨_, rfl⟩, rfl⟩)
    intro a6 w6 st6
    clear st5
    repeat first|refine wp_seq ?_|refine wp_block ?_|refine wp_skip ?_|refine wp_exit ?_
    obtain ⟨g, cs, r1, r2, r3, r4, r5⟩ := st6.res ⟨4, none, none, 27, 4, Vq 70 (smR Z n), VT⟩ (.head _) rfl rfl
    exact wp_ret (bodyPost_ret (results_cell_row rfl _ _ g 27 cs (0, 0) _ r1 r2 Tryz.underlying27 rfl (by rw [r3]; exact size_Rat)) st6.defers ⟨_, rfl, r4, r5⟩)
end Go.Proofs.YtleijkgdpmfabaaGreatDoor
