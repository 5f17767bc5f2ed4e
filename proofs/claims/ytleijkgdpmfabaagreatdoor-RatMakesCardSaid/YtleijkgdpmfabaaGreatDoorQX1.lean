/- What package rat and its reference say of numbers of any digits. -/
import Derived.Test.YtleijkgdpmfabaaGreatDoorM38
set_option linter.unusedVariables false
namespace Go.Proofs.YtleijkgdpmfabaaGreatDoor
open Go.RowKit
set_option maxRecDepth 100000 in
set_option maxHeartbeats 800000 in
theorem rValid_any (nb : Bool) (p : Option Addr) (n c : Nat) (l : List Int) (w : World) (hR0 : Rdi w p l) (hn0 : n = l.length) (hmax : n ≤ 4611686018427387904) :
    Calls Tryz.prog 81 #[.agg #[.bool nb, .slice p n c]] w fun e w' => e = .returned (.bool (vld nb l)) ∧ Below w.heap.size w w' := by
  have hS0 := Lib.hid (@Bx.start nb p n c w)
  have hR := Lib.hid hR0
  have hn := Lib.hid hn0
  clear hR0 hn0
  go_enter Tryz.func81, Tryz.ntmps81
  go_upto_region 1 with fail
  generalize w.alloc (.cells #[.bool nb, .slice p n c] 24) = W0 at hS0 ⊢
  have hf := hS0.out.facts
  have hf1 := hf.1
  have hf2 := hf.2
  go_wp2_with fail
  go_loop [3] (fun i => ∃ k : Nat, k ≤ n ∧ i = .int .i64 k ∧ Hid (∀ j, j < k → 0 ≤ iat l j ∧ iat l j < 1000000000)) (fun i => n - (intOf i).toNat)
  case atStart => exact ⟨0, Nat.zero_le _, rfl, Lib.hid (fun j hj => by omega)⟩
  case round =>
    obtain ⟨k, hk, rfl, hall⟩ := hrel
    by_cases hlt : k < n
    · have hkl : Hid (k < l.length) := Lib.hid (by rw [← hn.out]; exact hlt)
      obtain ⟨b, o, rfl, hc0⟩ := Rdi_at (Rdi_below hS0.out.2 hR.out) k hkl.out
      obtain ⟨d, hd⟩ : ∃ d, iat l k = d := ⟨_, rfl⟩
      rw [hd] at hc0
      have hd' := Lib.hid hd
      clear hd
      by_cases h1 : d < 0
      · have hr : Hid (vld nb l = false) := Lib.hid (vld_no k hkl.out (by rw [hd'.out]; exact .inl h1))
        go_wp2_with fail
        go_ret
        exact ⟨by rw [hr.out]; rfl, hS0.out.2⟩
      · by_cases h2 : d < 1000000000
        · have hall2 : Hid (∀ j, j < k + 1 → 0 ≤ iat l j ∧ iat l j < 1000000000) := Lib.hid (fun j h3 => by
            rcases Nat.lt_or_ge j k with h4 | h4
            · exact hall.out j h4
            · obtain rfl : j = k := by omega
              rw [hd'.out]; omega)
          have h3 : ¬ 1000000000 ≤ d := by omega
          go_wp2_with fail
          exact ⟨⟨k + 1, by omega, by simp, hall2⟩, by simp [intOf]; omega⟩
        · have hr : Hid (vld nb l = false) := Lib.hid (vld_no k hkl.out (by rw [hd'.out]; omega))
          have h3 : 1000000000 ≤ d := by omega
          go_wp2_with fail
          go_ret
          exact ⟨by rw [hr.out]; rfl, hS0.out.2⟩
    · have hk' : k = n := by omega
      subst hk'
      have hr : Hid (vld nb l = if l = [] then !nb else iat l (l.length - 1) != 0) := Lib.hid (vld_yes fun j hj => hall.out j (by rw [hn.out]; exact hj))
      by_cases hz : k = 0
      · subst hz
        have hl : Hid (vld nb l = !nb) := Lib.hid (by rw [hr.out, if_pos (List.eq_nil_of_length_eq_zero hn.out.symm)])
        go_wp2_with fail
        go_ret
        exact ⟨by rw [hl.out]; rfl, hS0.out.2⟩
      · obtain ⟨b, o, rfl, hc0⟩ := Rdi_at (Rdi_below hS0.out.2 hR.out) (k - 1) (by have := hn.out; omega)
        obtain ⟨m, rfl⟩ : ∃ m, k = m + 1 := ⟨k - 1, by omega⟩
        rw [Nat.add_sub_cancel] at hc0
        have hl : Hid (vld nb l = (iat l m != 0)) := Lib.hid (by rw [hr.out, if_neg (fun h => by have := hn.out; rw [h] at this; simp at this), ← hn.out, Nat.add_sub_cancel])
        obtain ⟨d, hd⟩ : ∃ d, iat l m = d := ⟨_, rfl⟩
        rw [hd] at hc0 hl
        have e1 : ((m + 1 : Nat) : Int) - 1 = (m : Int) := by omega
        clear hd hall hr
        go_wp2_with fail
        go_ret
        exact ⟨by rw [hl.out]; rfl, hS0.out.2⟩
theorem arr4 {x : Array Value} (h : x.size = 4) : ∃ a b c d, x = #[a, b, c, d] := by
  match x, h with
  | ⟨[a, b, c, d]⟩, _ => exact ⟨a, b, c, d, rfl⟩
theorem VP2_le {k1 k2 : Nat} {A B A' B' : VP} {v : Value} {w : World} (h : VP2 k1 k2 A B v w) (hA : ∀ v, A v w → A' v w) (hB : ∀ v, B v w → B' v w) : VP2 k1 k2 A' B' v w := by
  obtain ⟨x, y, h1, h2, h3, h4, h5⟩ := h
  exact ⟨x, y, h1, h2, h3, hA _ h4, hB _ h5⟩
theorem vzz_N2 {N : Nat} {a b : Int} {cs : Array Value} {w : World} (h : VP2 2 2 (Vz N a) (Vz N b) (.agg cs) w) : ∃ v, cs[2]? = some v ∧ Vb (decide (b < 0)) v w := by
  obtain ⟨x, y, h1, h2, h3, h4, h5⟩ := h
  obtain ⟨nb, p, n, c, e1, e2, -⟩ := h4
  obtain ⟨nb2, p2, n2, c2, f1, f2, f3⟩ := h5
  cases h3
  cases e1
  cases f1
  exact ⟨_, rfl, congrArg Value.bool f2.1⟩
theorem vzz_N2T {N : Nat} {a b : Int} {cs : Array Value} {w : World} (h : VP2 2 2 (Vz N a) (Vz N b) (.agg cs) w) (hz : b < 0) : ∃ v, cs[2]? = some v ∧ Vb true v w := by
  obtain ⟨v, h1, h2⟩ := vzz_N2 h
  rw [decide_eq_true hz] at h2
  exact ⟨v, h1, h2⟩
theorem vzz_N2F {N : Nat} {a b : Int} {cs : Array Value} {w : World} (h : VP2 2 2 (Vz N a) (Vz N b) (.agg cs) w) (hz : ¬ b < 0) : ∃ v, cs[2]? = some v ∧ Vb false v w := by
  obtain ⟨v, h1, h2⟩ := vzz_N2 h
  rw [decide_eq_false hz] at h2
  exact ⟨v, h1, h2⟩
theorem cR3Valid {W : World} {N : Nat} {z : Int} {v : Value} (h : Vz N z v W) (hN : N ≤ 1000000) : Calls Tryz.prog 81 #[v] W (RV (Vb true) W) := by
  obtain ⟨nb, p, n, c, rfl, hI, hn⟩ := h
  have := rValid_any nb p n c (digs z.natAbs) W hI.2.2.1 hI.2.1 (by omega)
  rw [vld_int hI.1] at this
  exact this.mono fun e w' h => ⟨_, h.1, rfl, h.2⟩
theorem cR3ValidR {W : World} {N : Nat} {nb : Bool} {l : List Int} {v : Value} (h : VZr N nb l v W) (hbad : vld nb l = false) (hN : N ≤ 1000000) : Calls Tryz.prog 81 #[v] W (RV (Vb false) W) := by
  obtain ⟨p, n, c, rfl, hR, hn, -, -, hnN⟩ := h
  have := rValid_any nb p n c l W hR hn (by omega)
  rw [hbad] at this
  exact this.mono fun e w' h => ⟨_, h.1, rfl, h.2⟩
theorem cZValidR {W : World} {N : Nat} {nb : Bool} {l : List Int} {v : Value} (h : VZr N nb l v W) (hbad : vld nb l = false) (hN : N ≤ 1000000) : Calls Tryz.prog 77 #[v] W (RV (Vb false) W) := by
  obtain ⟨p, n, c, rfl, hR, hn, -, -, hnN⟩ := h
  have := Valid_any nb p n c l W hR hn (by omega)
  rw [hbad] at this
  exact this.mono fun e w' h => ⟨_, h.1, rfl, h.2⟩

set_option maxRecDepth 100000 in
set_option maxHeartbeats 1600000 in
theorem cR4ValidZ {w : World} {N : Nat} {x y : Int} {v0 : Value} (h0 : VP2 2 2 (Vz N (x)) (Vz N (y)) v0 w) (h3 : 3 ≤ N) (hN : N ≤ 100000) : Calls Tryz.prog 17 #[v0] w (RV (Vb (decide (y = 0 ∨ (1 < y ∧ Int.gcd x y = 1)))) w) := by
  go_enter Tryz.func17, Tryz.ntmps17
  have st0 : St w.heap.size w 34 [] [(0, VP2 2 2 (Vz N (x)) (Vz N (y)))] _ w := St.begin (a := ⟨#[v0, undef, undef, undef, undef, undef, undef, undef, undef, undef, undef, undef, undef, undef, undef, undef, undef, undef, undef, undef, undef, undef, undef, undef, undef, undef, undef, undef, undef, undef, undef, undef, undef, undef], []⟩) rfl rfl (List.forall_mem_cons.2 ⟨⟨_, rfl, h0⟩, (fun _ h => absurd h (by simp))⟩)
  generalize (⟨#[v0, undef, undef, undef, undef, undef, undef, undef, undef, undef, undef, undef, undef, undef, undef, undef, undef, undef, undef, undef, undef, undef, undef, undef, undef, undef, undef, undef, undef, undef, undef, undef, undef, undef], []⟩ : Act) = a0 at st0 ⊢
  repeat first | refine wp_seq ?_ | refine wp_block ?_ | refine wp_skip ?_ | refine wp_exit ?_
  refine rg (BT := []) (Vl := [VT, Vb (false)]) (B := [⟨1, some 0, some 0, 27, 4, VP2 2 2 (Vz N (x)) (Vz N (y)), VT⟩]) (SL' := [(2, Vb (false))]) st0 ⟨ks, ks, trivial⟩ ?_
  intro a1 w1 st1
  clear st0
  by_cases hl : y < 0
  ·
    repeat first | refine wp_seq ?_ | refine wp_block ?_ | refine wp_skip ?_ | refine wp_exit ?_
    refine rg (BT := []) (Vl := [Vpt a1 1 0, Vz N (x), Vb (true), Vb (false), Vb (false), Vpt a1 1 2, Vz N (y), Vb (true), Vb (false), Vb (false), Vb (false), Vpt a1 1 2, Vpt a1 1 2, Vb (true), Vb (true), Vb (true), VT, VT, VT, Vb (true)]) (B := [⟨1, none, none, 27, 4, VP2 2 2 (Vz N (x)) (Vz N (y)), VT⟩]) (SL' := [(2, Vb (false)), (22, Vb (true))]) st1 ⟨ks, ks, ?s2, ks, ks, ks, ks, ?s7, ks, ks, ks, ks, ks, ?s13, ks, ks, ks, ks, ks, ks, trivial⟩ ?_
    case s2 => refine kc fun _ ac Wd h hd => ?_; obtain ⟨v0, hv0, hV0⟩ := h.dp hd 4; exact ⟨#[v0], by simp [hv0], cR3Valid (show Vz N (x) v0 Wd from hV0) (by omega)⟩
    case s7 => refine kc fun _ ac Wd h hd => ?_; obtain ⟨v0, hv0, hV0⟩ := h.dp hd 9; exact ⟨#[v0], by simp [hv0], cR3Valid (show Vz N (y) v0 Wd from hV0) (by omega)⟩
    case s13 =>
      exact k_cell (j := 12) (off := 2) SbB.out (by kernel_rfl) (.head _) rfl rfl rfl (by kernel_rfl) (by kernel_rfl) rfl (by kernel_rfl) (fun cs w h => vzz_N2T h (hl)) Tryz.underlying4 rfl fun listed ac Wd h hd => ⟨(by obtain ⟨u, hu, hy, hU⟩ := h.dep hd 10 13 (by kernel_rfl) (by kernel_rfl); obtain rfl : u = .bool false := hU; exact hy), trivial⟩
    intro a2 w2 st2
    clear st1
    repeat first | refine wp_seq ?_ | refine wp_block ?_ | refine wp_skip ?_ | refine wp_exit ?_
    obtain ⟨vc, hc1, hc2⟩ := st2.slot (22, Vb (true)) (.tail _ (.head _))
    refine wp_cond_true (hc1.trans hc2) ?_
    clear hc1 hc2
    repeat first | refine wp_seq ?_ | refine wp_block ?_ | refine wp_skip ?_ | refine wp_exit ?_
    refine rg (BT := []) (Vl := [Vb (false)]) (B := [⟨1, none, none, 27, 4, VP2 2 2 (Vz N (x)) (Vz N (y)), VT⟩]) (SL' := [(22, Vb (true)), (2, Vb (false))]) st2 ⟨ks, trivial⟩ ?_
    intro a3 w3 st3
    clear st2
    repeat first | refine wp_seq ?_ | refine wp_block ?_ | refine wp_skip ?_ | refine wp_exit ?_
    obtain ⟨vr, r1, r4⟩ := st3.slot (2, Vb (false)) (.tail _ (.head _))
    exact wp_ret (bodyPost_ret (results_tmp rfl _ _ _) st3.defers ⟨_, congrArg Ending.returned (show _ = vr from r1), (by rw [decide_eq_false (show ¬ (y = 0 ∨ (1 < y ∧ Int.gcd x y = 1)) by omega)]; exact r4), st3.k.below⟩)
  ·
    by_cases h1 : y = 1
    ·
      repeat first | refine wp_seq ?_ | refine wp_block ?_ | refine wp_skip ?_ | refine wp_exit ?_
      refine rg (BT := []) (Vl := [Vpt a1 1 0, Vz N (x), Vb (true), Vb (false), Vb (false), Vpt a1 1 2, Vz N (y), Vb (true), Vb (false), Vb (false), Vb (false), Vpt a1 1 2, Vpt a1 1 2, Vb (false), Vb (false), Vb (false), Vpt a1 1 2, Vz N (y), Vb (true), Vb (true)]) (B := [⟨1, none, none, 27, 4, VP2 2 2 (Vz N (x)) (Vz N (y)), VT⟩]) (SL' := [(2, Vb (false)), (22, Vb (true))]) st1 ⟨ks, ks, ?s2, ks, ks, ks, ks, ?s7, ks, ks, ks, ks, ks, ?s13, ks, ks, ks, ks, ?s18, ks, trivial⟩ ?_
      case s2 => refine kc fun _ ac Wd h hd => ?_; obtain ⟨v0, hv0, hV0⟩ := h.dp hd 4; exact ⟨#[v0], by simp [hv0], cR3Valid (show Vz N (x) v0 Wd from hV0) (by omega)⟩
      case s7 => refine kc fun _ ac Wd h hd => ?_; obtain ⟨v0, hv0, hV0⟩ := h.dp hd 9; exact ⟨#[v0], by simp [hv0], cR3Valid (show Vz N (y) v0 Wd from hV0) (by omega)⟩
      case s13 =>
        exact k_cell (j := 12) (off := 2) SbB.out (by kernel_rfl) (.head _) rfl rfl rfl (by kernel_rfl) (by kernel_rfl) rfl (by kernel_rfl) (fun cs w h => vzz_N2F h (hl)) Tryz.underlying4 rfl fun listed ac Wd h hd => ⟨(by obtain ⟨u, hu, hy, hU⟩ := h.dep hd 10 13 (by kernel_rfl) (by kernel_rfl); obtain rfl : u = .bool false := hU; exact hy), trivial⟩
      case s18 =>
        refine kc fun _ ac Wd h hd => ?_
        obtain ⟨v0, hv0, hV0⟩ := h.dp hd 20
        exact ⟨#[v0], by simp [hv0], (cR4One (show Vz N (y) v0 Wd from hV0)).mono fun e w h => h.le fun v w hv => hv.trans (congrArg Value.bool (decide_eq_true (h1)))⟩
      intro a2 w2 st2
      clear st1
      repeat first | refine wp_seq ?_ | refine wp_block ?_ | refine wp_skip ?_ | refine wp_exit ?_
      obtain ⟨vc, hc1, hc2⟩ := st2.slot (22, Vb (true)) (.tail _ (.head _))
      refine wp_cond_true (hc1.trans hc2) ?_
      clear hc1 hc2
      repeat first | refine wp_seq ?_ | refine wp_block ?_ | refine wp_skip ?_ | refine wp_exit ?_
      refine rg (BT := []) (Vl := [Vb (false)]) (B := [⟨1, none, none, 27, 4, VP2 2 2 (Vz N (x)) (Vz N (y)), VT⟩]) (SL' := [(22, Vb (true)), (2, Vb (false))]) st2 ⟨ks, trivial⟩ ?_
      intro a3 w3 st3
      clear st2
      repeat first | refine wp_seq ?_ | refine wp_block ?_ | refine wp_skip ?_ | refine wp_exit ?_
      obtain ⟨vr, r1, r4⟩ := st3.slot (2, Vb (false)) (.tail _ (.head _))
      exact wp_ret (bodyPost_ret (results_tmp rfl _ _ _) st3.defers ⟨_, congrArg Ending.returned (show _ = vr from r1), (by rw [decide_eq_false (show ¬ (y = 0 ∨ (1 < y ∧ Int.gcd x y = 1)) by omega)]; exact r4), st3.k.below⟩)
    ·
      repeat first | refine wp_seq ?_ | refine wp_block ?_ | refine wp_skip ?_ | refine wp_exit ?_
      refine rg (BT := []) (Vl := [Vpt a1 1 0, Vz N (x), Vb (true), Vb (false), Vb (false), Vpt a1 1 2, Vz N (y), Vb (true), Vb (false), Vb (false), Vb (false), Vpt a1 1 2, Vpt a1 1 2, Vb (false), Vb (false), Vb (false), Vpt a1 1 2, Vz N (y), Vb (false), Vb (false)]) (B := [⟨1, none, none, 27, 4, VP2 2 2 (Vz N (x)) (Vz N (y)), VT⟩]) (SL' := [(2, Vb (false)), (22, Vb (false))]) st1 ⟨ks, ks, ?s2, ks, ks, ks, ks, ?s7, ks, ks, ks, ks, ks, ?s13, ks, ks, ks, ks, ?s18, ks, trivial⟩ ?_
      case s2 => refine kc fun _ ac Wd h hd => ?_; obtain ⟨v0, hv0, hV0⟩ := h.dp hd 4; exact ⟨#[v0], by simp [hv0], cR3Valid (show Vz N (x) v0 Wd from hV0) (by omega)⟩
      case s7 => refine kc fun _ ac Wd h hd => ?_; obtain ⟨v0, hv0, hV0⟩ := h.dp hd 9; exact ⟨#[v0], by simp [hv0], cR3Valid (show Vz N (y) v0 Wd from hV0) (by omega)⟩
      case s13 =>
        exact k_cell (j := 12) (off := 2) SbB.out (by kernel_rfl) (.head _) rfl rfl rfl (by kernel_rfl) (by kernel_rfl) rfl (by kernel_rfl) (fun cs w h => vzz_N2F h (hl)) Tryz.underlying4 rfl fun listed ac Wd h hd => ⟨(by obtain ⟨u, hu, hy, hU⟩ := h.dep hd 10 13 (by kernel_rfl) (by kernel_rfl); obtain rfl : u = .bool false := hU; exact hy), trivial⟩
      case s18 =>
        refine kc fun _ ac Wd h hd => ?_
        obtain ⟨v0, hv0, hV0⟩ := h.dp hd 20
        exact ⟨#[v0], by simp [hv0], (cR4One (show Vz N (y) v0 Wd from hV0)).mono fun e w h => h.le fun v w hv => hv.trans (congrArg Value.bool (decide_eq_false (h1)))⟩
      intro a2 w2 st2
      clear st1
      repeat first | refine wp_seq ?_ | refine wp_block ?_ | refine wp_skip ?_ | refine wp_exit ?_
      obtain ⟨vc, hc1, hc2⟩ := st2.slot (22, Vb (false)) (.tail _ (.head _))
      refine wp_cond_false (hc1.trans hc2) ?_
      clear hc1 hc2
      by_cases hz : y = 0
      ·
        repeat first | refine wp_seq ?_ | refine wp_block ?_ | refine wp_skip ?_ | refine wp_exit ?_
        refine rg (BT := []) (Vl := [Vpt a2 1 2, Vpt a2 1 3, VD N (y), Vi (((digs (y).natAbs).length : Int)), Vb (true)]) (B := [⟨1, none, none, 27, 4, VP2 2 2 (Vz N (x)) (Vz N (y)), VT⟩]) (SL' := [(2, Vb (false)), (22, Vb (false)), (27, Vb (true))]) st2 ⟨ks, ks, ks, ?s3, ?s4, trivial⟩ ?_
        case s3 => refine kr fun _ ac Wd h hd => ?_; obtain ⟨v0, hv0, hV0⟩ := h.dp hd 25; obtain ⟨pp, nn, cc, rfl, hnn, -⟩ := hV0; exact ⟨_, run_len rfl rfl hv0, by rw [hnn]; rfl⟩
        case s4 =>
          refine kr fun _ ac Wd h hd => ?_
          obtain ⟨v0, hv0, hV0⟩ := h.dp hd 26
          have hV0' : v0 = .int .i64 (((digs (y).natAbs).length : Int)) := hV0
          exact ⟨_, run_eqi rfl (hv0.trans hV0') rfl, congrArg Value.bool (by rw [len_eq0]; exact decide_eq_true hz)⟩
        intro a3 w3 st3
        clear st2
        repeat first | refine wp_seq ?_ | refine wp_block ?_ | refine wp_skip ?_ | refine wp_exit ?_
        obtain ⟨vc, hc1, hc2⟩ := st3.slot (27, Vb (true)) (.tail _ (.tail _ (.head _)))
        refine wp_cond_true (hc1.trans hc2) ?_
        clear hc1 hc2
        repeat first | refine wp_seq ?_ | refine wp_block ?_ | refine wp_skip ?_ | refine wp_exit ?_
        refine rg (BT := []) (Vl := [Vb (true)]) (B := [⟨1, none, none, 27, 4, VP2 2 2 (Vz N (x)) (Vz N (y)), VT⟩]) (SL' := [(22, Vb (false)), (27, Vb (true)), (2, Vb (true))]) st3 ⟨ks, trivial⟩ ?_
        intro a4 w4 st4
        clear st3
        repeat first | refine wp_seq ?_ | refine wp_block ?_ | refine wp_skip ?_ | refine wp_exit ?_
        obtain ⟨vr, r1, r4⟩ := st4.slot (2, Vb (true)) (.tail _ (.tail _ (.head _)))
        exact wp_ret (bodyPost_ret (results_tmp rfl _ _ _) st4.defers ⟨_, congrArg Ending.returned (show _ = vr from r1), (by rw [decide_eq_true (show y = 0 ∨ (1 < y ∧ Int.gcd x y = 1) from .inl hz)]; exact r4), st4.k.below⟩)
      ·
        repeat first | refine wp_seq ?_ | refine wp_block ?_ | refine wp_skip ?_ | refine wp_exit ?_
        refine rg (BT := []) (Vl := [Vpt a2 1 2, Vpt a2 1 3, VD N (y), Vi (((digs (y).natAbs).length : Int)), Vb (false)]) (B := [⟨1, none, none, 27, 4, VP2 2 2 (Vz N (x)) (Vz N (y)), VT⟩]) (SL' := [(2, Vb (false)), (22, Vb (false)), (27, Vb (false))]) st2 ⟨ks, ks, ks, ?s3, ?s4, trivial⟩ ?_
        case s3 => refine kr fun _ ac Wd h hd => ?_; obtain ⟨v0, hv0, hV0⟩ := h.dp hd 25; obtain ⟨pp, nn, cc, rfl, hnn, -⟩ := hV0; exact ⟨_, run_len rfl rfl hv0, by rw [hnn]; rfl⟩
        case s4 =>
          refine kr fun _ ac Wd h hd => ?_
          obtain ⟨v0, hv0, hV0⟩ := h.dp hd 26
          have hV0' : v0 = .int .i64 (((digs (y).natAbs).length : Int)) := hV0
          exact ⟨_, run_eqi rfl (hv0.trans hV0') rfl, congrArg Value.bool (by rw [len_eq0]; exact decide_eq_false hz)⟩
        intro a3 w3 st3
        clear st2
        repeat first | refine wp_seq ?_ | refine wp_block ?_ | refine wp_skip ?_ | refine wp_exit ?_
        obtain ⟨vc, hc1, hc2⟩ := st3.slot (27, Vb (false)) (.tail _ (.tail _ (.head _)))
        refine wp_cond_false (hc1.trans hc2) ?_
        clear hc1 hc2
        repeat first | refine wp_seq ?_ | refine wp_block ?_ | refine wp_skip ?_ | refine wp_exit ?_
        refine rg (BT := []) (Vl := [Vpt a3 1 0, Vz N (x), Vpt a3 1 2, Vz N (y), Vz N ((Int.gcd (x) (y) : Int)), Vb (decide (((Int.gcd (x) (y) : Int)) = 1)), Vb (decide (((Int.gcd (x) (y) : Int)) = 1))]) (B := [⟨1, none, none, 27, 4, VP2 2 2 (Vz N (x)) (Vz N (y)), VT⟩]) (SL' := [(22, Vb (false)), (27, Vb (false)), (2, Vb (decide (((Int.gcd (x) (y) : Int)) = 1)))]) st3 ⟨ks, ks, ks, ks, ?s4, ?s5, ks, trivial⟩ ?_
        case s4 =>
          refine kc fun _ ac Wd h hd => ?_
          obtain ⟨v0, hv0, hV0⟩ := h.dp hd 29
          obtain ⟨v1, hv1, hV1⟩ := h.dp hd 31
          exact ⟨#[v0, v1], by simp [hv0, hv1], cRGcd (show Vz N (x) v0 Wd from hV0) (show Vz N (y) v1 Wd from hV1) (by omega) (by omega)⟩
        case s5 => refine kc fun _ ac Wd h hd => ?_; obtain ⟨v0, hv0, hV0⟩ := h.dp hd 32; exact ⟨#[v0], by simp [hv0], cR4One (show Vz N ((Int.gcd (x) (y) : Int)) v0 Wd from hV0)⟩
        intro a4 w4 st4
        clear st3
        repeat first | refine wp_seq ?_ | refine wp_block ?_ | refine wp_skip ?_ | refine wp_exit ?_
        obtain ⟨vr, r1, r4⟩ := st4.slot (2, Vb (decide (((Int.gcd (x) (y) : Int)) = 1))) (.tail _ (.tail _ (.head _)))
        exact wp_ret (bodyPost_ret (results_tmp rfl _ _ _) st4.defers ⟨_, congrArg Ending.returned (show _ = vr from r1), (by rw [decide_eq_decide.2 (show (y = 0 ∨ (1 < y ∧ Int.gcd x y = 1)) ↔ ((Int.gcd x y : Int) = 1) by omega)]; exact r4), st4.k.below⟩)
set_option maxRecDepth 100000 in
set_option maxHeartbeats 1600000 in
theorem cR4ValidR {w : World} {N : Nat} {x : Int} {nb : Bool} {l : List Int} {v0 : Value} (h0 : VP2 2 2 (Vz N (x)) (VZr N nb l) v0 w) (h3 : 3 ≤ N) (hN : N ≤ 100000) (hbad : vld nb l = false) : Calls Tryz.prog 17 #[v0] w (RV (Vb false) w) := by
  go_enter Tryz.func17, Tryz.ntmps17
  have st0 : St w.heap.size w 34 [] [(0, VP2 2 2 (Vz N (x)) (VZr N nb l))] _ w := St.begin (a := ⟨#[v0, undef, undef, undef, undef, undef, undef, undef, undef, undef, undef, undef, undef, undef, undef, undef, undef, undef, undef, undef, undef, undef, undef, undef, undef, undef, undef, undef, undef, undef, undef, undef, undef, undef], []⟩) rfl rfl (List.forall_mem_cons.2 ⟨⟨_, rfl, h0⟩, (fun _ h => absurd h (by simp))⟩)
  generalize (⟨#[v0, undef, undef, undef, undef, undef, undef, undef, undef, undef, undef, undef, undef, undef, undef, undef, undef, undef, undef, undef, undef, undef, undef, undef, undef, undef, undef, undef, undef, undef, undef, undef, undef, undef], []⟩ : Act) = a0 at st0 ⊢
  repeat first | refine wp_seq ?_ | refine wp_block ?_ | refine wp_skip ?_ | refine wp_exit ?_
  refine rg (BT := []) (Vl := [VT, Vb (false)]) (B := [⟨1, some 0, some 0, 27, 4, VP2 2 2 (Vz N (x)) (VZr N nb l), VT⟩]) (SL' := [(2, Vb (false))]) st0 ⟨ks, ks, trivial⟩ ?_
  intro a1 w1 st1
  clear st0
  repeat first | refine wp_seq ?_ | refine wp_block ?_ | refine wp_skip ?_ | refine wp_exit ?_
  refine rg (BT := []) (Vl := [Vpt a1 1 0, Vz N (x), Vb (true), Vb (false), Vb (false), Vpt a1 1 2, VZr N nb l, Vb (false), Vb (true), Vb (true), Vb (true), VT, VT, VT, Vb (true), Vb (true), VT, VT, VT, Vb (true)]) (B := [⟨1, none, none, 27, 4, VP2 2 2 (Vz N (x)) (VZr N nb l), VT⟩]) (SL' := [(2, Vb (false)), (22, Vb (true))]) st1 ⟨ks, ks, ?s2, ks, ks, ks, ks, ?s7, ks, ks, ks, ks, ks, ks, ks, ks, ks, ks, ks, ks, trivial⟩ ?_
  case s2 => refine kc fun _ ac Wd h hd => ?_; obtain ⟨v0, hv0, hV0⟩ := h.dp hd 4; exact ⟨#[v0], by simp [hv0], cR3Valid (show Vz N (x) v0 Wd from hV0) (by omega)⟩
  case s7 => refine kc fun _ ac Wd h hd => ?_; obtain ⟨v0, hv0, hV0⟩ := h.dp hd 9; exact ⟨#[v0], by simp [hv0], cR3ValidR (show VZr N nb l v0 Wd from hV0) hbad (by omega)⟩
  intro a2 w2 st2
  clear st1
  repeat first | refine wp_seq ?_ | refine wp_block ?_ | refine wp_skip ?_ | refine wp_exit ?_
  obtain ⟨vc, hc1, hc2⟩ := st2.slot (22, Vb (true)) (.tail _ (.head _))
  refine wp_cond_true (hc1.trans hc2) ?_
  clear hc1 hc2
  repeat first | refine wp_seq ?_ | refine wp_block ?_ | refine wp_skip ?_ | refine wp_exit ?_
  refine rg (BT := []) (Vl := [Vb (false)]) (B := [⟨1, none, none, 27, 4, VP2 2 2 (Vz N (x)) (VZr N nb l), VT⟩]) (SL' := [(22, Vb (true)), (2, Vb (false))]) st2 ⟨ks, trivial⟩ ?_
  intro a3 w3 st3
  clear st2
  repeat first | refine wp_seq ?_ | refine wp_block ?_ | refine wp_skip ?_ | refine wp_exit ?_
  obtain ⟨vr, r1, r4⟩ := st3.slot (2, Vb (false)) (.tail _ (.head _))
  exact wp_ret (bodyPost_ret (results_tmp rfl _ _ _) st3.defers ⟨_, congrArg Ending.returned (show _ = vr from r1), r4, st3.k.below⟩)
set_option maxRecDepth 100000 in
set_option maxHeartbeats 1600000 in
theorem cQValidR {w : World} {N : Nat} {x : Int} {nb : Bool} {l : List Int} {v0 : Value} (h0 : VP2 2 2 (Vz N (x)) (VZr N nb l) v0 w) (h3 : 3 ≤ N) (hN : N ≤ 100000) (hbad : vld nb l = false) : Calls Tryz.prog 16 #[v0] w (RV (Vb false) w) := by
  go_enter Tryz.func16, Tryz.ntmps16
  have st0 : St w.heap.size w 38 [] [(0, VP2 2 2 (Vz N (x)) (VZr N nb l))] _ w := St.begin (a := ⟨#[v0, undef, undef, undef, undef, undef, undef, undef, undef, undef, undef, undef, undef, undef, undef, undef, undef, undef, undef, undef, undef, undef, undef, undef, undef, undef, undef, undef, undef, undef, undef, undef, undef, undef, undef, undef, undef, undef], []⟩) rfl rfl (List.forall_mem_cons.2 ⟨⟨_, rfl, h0⟩, (fun _ h => absurd h (by simp))⟩)
  generalize (⟨#[v0, undef, undef, undef, undef, undef, undef, undef, undef, undef, undef, undef, undef, undef, undef, undef, undef, undef, undef, undef, undef, undef, undef, undef, undef, undef, undef, undef, undef, undef, undef, undef, undef, undef, undef, undef, undef, undef], []⟩ : Act) = a0 at st0 ⊢
  repeat first | refine wp_seq ?_ | refine wp_block ?_ | refine wp_skip ?_ | refine wp_exit ?_
  refine rg (BT := []) (Vl := [VT, Vb (false)]) (B := [⟨1, some 0, some 0, 27, 4, VP2 2 2 (Vz N (x)) (VZr N nb l), VT⟩]) (SL' := [(2, Vb (false))]) st0 ⟨ks, ks, trivial⟩ ?_
  intro a1 w1 st1
  clear st0
  repeat first | refine wp_seq ?_ | refine wp_block ?_ | refine wp_skip ?_ | refine wp_exit ?_
  refine rg (BT := []) (Vl := [Vpt a1 1 0, Vz N (x), Vb (true), Vb (false), Vb (false), Vpt a1 1 2, VZr N nb l, Vb (false), Vb (true), Vb (true), Vb (true)]) (B := [⟨1, none, none, 27, 4, VP2 2 2 (Vz N (x)) (VZr N nb l), VT⟩]) (SL' := [(2, Vb (false)), (3, Vb (true))]) st1 ⟨ks, ks, ?s2, ks, ks, ks, ks, ?s7, ks, ks, ks, trivial⟩ ?_
  case s2 => refine kc fun _ ac Wd h hd => ?_; obtain ⟨v0, hv0, hV0⟩ := h.dp hd 5; exact ⟨#[v0], by simp [hv0], cZValid (show Vz N (x) v0 Wd from hV0) (by omega)⟩
  case s7 => refine kc fun _ ac Wd h hd => ?_; obtain ⟨v0, hv0, hV0⟩ := h.dp hd 10; exact ⟨#[v0], by simp [hv0], cZValidR (show VZr N nb l v0 Wd from hV0) hbad (by omega)⟩
  intro a2 w2 st2
  clear st1
  repeat first | refine wp_seq ?_ | refine wp_block ?_ | refine wp_skip ?_ | refine wp_exit ?_
  obtain ⟨vc, hc1, hc2⟩ := st2.slot (3, Vb (true)) (.tail _ (.head _))
  refine wp_cond_true (hc1.trans hc2) ?_
  clear hc1 hc2
  repeat first | refine wp_seq ?_ | refine wp_block ?_ | refine wp_skip ?_ | refine wp_exit ?_
  refine rg (BT := []) (Vl := [Vb (false)]) (B := [⟨1, none, none, 27, 4, VP2 2 2 (Vz N (x)) (VZr N nb l), VT⟩]) (SL' := [(3, Vb (true)), (2, Vb (false))]) st2 ⟨ks, trivial⟩ ?_
  intro a3 w3 st3
  clear st2
  repeat first | refine wp_seq ?_ | refine wp_block ?_ | refine wp_skip ?_ | refine wp_exit ?_
  obtain ⟨vr, r1, r4⟩ := st3.slot (2, Vb (false)) (.tail _ (.head _))
  exact wp_ret (bodyPost_ret (results_tmp rfl _ _ _) st3.defers ⟨_, congrArg Ending.returned (show _ = vr from r1), r4, st3.k.below⟩)
end Go.Proofs.YtleijkgdpmfabaaGreatDoor
