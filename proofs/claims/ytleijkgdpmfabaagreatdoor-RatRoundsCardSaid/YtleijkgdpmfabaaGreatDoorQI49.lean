/- The reference's Small. -/
import Derived.Test.YtleijkgdpmfabaaGreatDoorW24
import Derived.Test.YtleijkgdpmfabaaGreatDoorW10
set_option linter.unusedVariables false
namespace Go.Proofs.YtleijkgdpmfabaaGreatDoor
open Go.RowKit
theorem run_gti {ρ : Operand → Value} {o : Oper} {W : World} {x y : Operand} {a b : Int} (ho : o.op = .binOp .gtr 3 x y 3) (hx : ρ x = .int .i64 a) (hy : ρ y = .int .i64 b) : (execOp ρ o).run Tryz.prog W = .ok (.value (.bool (decide (b < a)))) W := by
  obtain ⟨d, op, ty, ps, af, gd⟩ := o
  subst ho
  go_simp
theorem run_lti {ρ : Operand → Value} {o : Oper} {W : World} {x y : Operand} {a b : Int} (ho : o.op = .binOp .lss 3 x y 3) (hx : ρ x = .int .i64 a) (hy : ρ y = .int .i64 b) : (execOp ρ o).run Tryz.prog W = .ok (.value (.bool (decide (a < b)))) W := by
  obtain ⟨d, op, ty, ps, af, gd⟩ := o
  subst ho
  go_simp
theorem val_drop_le {l : List Int} (h : Dg l) (k : Nat) (hk : k ≤ l.length) : 0 ≤ val (l.drop k) ∧ val (l.drop k) ≤ val l := by
  have h1 := val_split l k hk
  have h2 := (h.take k).lo
  have h3 := (h.drop k).lo
  have h4 := pw_pos k
  have h5 : 1 * val (l.drop k) ≤ pw k * val (l.drop k) := Int.mul_le_mul_of_nonneg_right (by omega) h3
  omega
theorem Bz_of_bx {w W : World} {nx : Bool} {px : Option Addr} {n c : Nat} {x : Int} (h : Bx w nx px n c W) (hx : IntAt w nx px n c x) : Bz n w.heap.size x W := ⟨nx, px, n, c, h.1, hx.later h.2, Nat.le_refl _⟩
set_option maxRecDepth 100000 in
set_option maxHeartbeats 1600000 in
theorem rSmall_gt (nx : Bool) (px : Option Addr) (n cx : Nat) (x : Int) (w : World) (hx0 : IntAt w nx px n cx x) (hlx : n ≤ 1000000) (hc : 9223372036854775807 < x) (hgt : decide (0 < cmpI x 9223372036854775807) = true) :
    Calls Tryz.prog 94 #[.agg #[.bool nx, .slice px n cx]] w (SmP w x) := by
  have hS0 := Lib.hid (@Bx.start nx px n cx w)
  have hx := Lib.hid hx0
  clear hx0
  go_enter Tryz.func94, Tryz.ntmps94
  go_upto_region 1 with fail
  generalize w.alloc (.cells #[.bool nx, .slice px n cx] 24) = W0 at hS0 ⊢
  have hB0 := Bz_of_bx hS0.out hx.out
  refine region_flows (V := fun i => ([Vz n (x), Vz 3 (9223372036854775807), Vi (cmpI (x) (9223372036854775807)), Vb true, Vb true, VT, VT, VT, VT, Vb true] : List VP).getD i VT) (S := fun W => Below W0.heap.size W0 W) (R := fun a b => Below a.heap.size a b) (by kernel_rfl) (by kernel_rfl) (by kernel_rfl) (by rfl) (mono_of ⟨Vz_mono _ _, Vz_mono _ _, Vi_mono _, Vb_mono _, Vb_mono _, VT_mono, VT_mono, VT_mono, VT_mono, Vb_mono _, trivial⟩) ((Below.refl _ _).drew) ⟨?s0, ?s1, ?s2, ?s3, ?s4, ?s5, ?s6, ?s7, ?s8, ?s9, trivial⟩ [6, 7, 8, 9, 10, 11, 12, 13, 14, 15] rfl ?hdone
  case s0 =>
    refine flow_wp fun listed a W h hd => ⟨trivial, fun K hK => ?_⟩
    exact wp_load_box rfl (h.out 1 (by kernel_rfl)) (hB0.later h.s) fun v hv => hK v W h.s (Below.refl _ _) hv
  case s1 =>
    refine flow_call (fun _ _ => rfl) fun listed a W h hd => ⟨trivial, ?_⟩
    refine ⟨#[.int .i64 (9223372036854775807)], by simp [Act.eval], (cROf (9223372036854775807) (by omega) (by omega)).mono fun e w' ⟨v, he, hV, hb⟩ => ⟨v, he, below_tr h.s hb, hb, hV⟩⟩
  case s2 =>
    refine flow_call (fun _ _ => rfl) fun listed a W h hd => ⟨trivial, ?_⟩
    obtain ⟨v0, hv0, -, hV0⟩ := h.dep hd 0 6 (by kernel_rfl) (by kernel_rfl)
    obtain ⟨v1, hv1, -, hV1⟩ := h.dep hd 1 7 (by kernel_rfl) (by kernel_rfl)
    refine ⟨#[v0, v1], by simp [hv0, hv1], (cRCompare (show Vz n (x) v0 W from hV0) (show Vz 3 (9223372036854775807) v1 W from hV1) (by omega) (by omega)).mono fun e w' ⟨v, he, hV, hb⟩ => ⟨v, he, below_tr h.s hb, hb, hV⟩⟩
  case s3 =>
    refine flow_run fun listed a W h hd => ⟨trivial, ?_⟩
    obtain ⟨v0, hv0, -, hV0⟩ := h.dep hd 2 8 (by kernel_rfl) (by kernel_rfl)
    have hV0' : v0 = .int .i64 (cmpI (x) (9223372036854775807)) := hV0
    exact ⟨_, _, run_gti rfl (hv0.trans hV0') rfl, h.s, Below.refl _ _, congrArg Value.bool hgt⟩
  case s4 =>
    refine flow_run fun listed a W h hd => ⟨trivial, ?_⟩
    obtain ⟨v0, hv0, -, hV0⟩ := h.dep hd 3 9 (by kernel_rfl) (by kernel_rfl)
    exact ⟨_, W, run_move rfl, h.s, Below.refl _ _, by rw [hv0]; exact hV0⟩
  case s5 =>
    refine flow_skip fun listed a W h hd => ⟨?_, Below.refl _ _, trivial⟩
    obtain ⟨u, hu, hy, hU⟩ := h.dep hd 4 10 (by kernel_rfl) (by kernel_rfl)
    obtain rfl : u = .bool true := hU
    exact ⟨4, false, true, rfl, hy, by decide⟩
  case s6 =>
    refine flow_skip fun listed a W h hd => ⟨?_, Below.refl _ _, trivial⟩
    obtain ⟨u, hu, hy, hU⟩ := h.dep hd 4 10 (by kernel_rfl) (by kernel_rfl)
    obtain rfl : u = .bool true := hU
    exact ⟨4, false, true, rfl, hy, by decide⟩
  case s7 =>
    refine flow_skip fun listed a W h hd => ⟨?_, Below.refl _ _, trivial⟩
    obtain ⟨u, hu, hy, hU⟩ := h.dep hd 4 10 (by kernel_rfl) (by kernel_rfl)
    obtain rfl : u = .bool true := hU
    exact ⟨4, false, true, rfl, hy, by decide⟩
  case s8 =>
    refine flow_skip fun listed a W h hd => ⟨?_, Below.refl _ _, trivial⟩
    obtain ⟨u, hu, hy, hU⟩ := h.dep hd 4 10 (by kernel_rfl) (by kernel_rfl)
    obtain rfl : u = .bool true := hU
    exact ⟨4, false, true, rfl, hy, by decide⟩
  case s9 =>
    refine flow_run fun listed a W h hd => ⟨trivial, ?_⟩
    obtain ⟨v0, hv0, -, hV0⟩ := h.dep hd 4 10 (by kernel_rfl) (by kernel_rfl)
    exact ⟨_, W, run_pick_t rfl (hv0.trans hV0), h.s, Below.refl _ _, rfl⟩
  case hdone =>
    intro f W hS hf
    have hlast : f 15 = _ := hf 9 15 (by kernel_rfl)
    simp only [slots, Act.put, List.setIfInBounds_toArray, List.set_cons_zero, List.set_cons_succ]
    rw [hlast]
    have hfin : Hid (SmP w x (.returned (.tuple #[.int .i64 0, .bool false])) W) := Lib.hid (smP_no (by omega) (below_tr hS0.out.2 hS))
    clear hf hS
    go_wp2_with fail
    go_ret2
    exact hfin.out
set_option maxRecDepth 100000 in
set_option maxHeartbeats 1600000 in
theorem rSmall_lt (nx : Bool) (px : Option Addr) (n cx : Nat) (x : Int) (w : World) (hx0 : IntAt w nx px n cx x) (hlx : n ≤ 1000000) (hc : x < -9223372036854775808) (hgt : decide (0 < cmpI x 9223372036854775807) = false) (hlt : decide (cmpI x (-9223372036854775808) < 0) = true) :
    Calls Tryz.prog 94 #[.agg #[.bool nx, .slice px n cx]] w (SmP w x) := by
  have hS0 := Lib.hid (@Bx.start nx px n cx w)
  have hx := Lib.hid hx0
  clear hx0
  go_enter Tryz.func94, Tryz.ntmps94
  go_upto_region 1 with fail
  generalize w.alloc (.cells #[.bool nx, .slice px n cx] 24) = W0 at hS0 ⊢
  have hB0 := Bz_of_bx hS0.out hx.out
  refine region_flows (V := fun i => ([Vz n (x), Vz 3 (9223372036854775807), Vi (cmpI (x) (9223372036854775807)), Vb false, Vb false, Vz n (x), Vz 3 (-9223372036854775808), Vi (cmpI (x) (-9223372036854775808)), Vb true, Vb true] : List VP).getD i VT) (S := fun W => Below W0.heap.size W0 W) (R := fun a b => Below a.heap.size a b) (by kernel_rfl) (by kernel_rfl) (by kernel_rfl) (by rfl) (mono_of ⟨Vz_mono _ _, Vz_mono _ _, Vi_mono _, Vb_mono _, Vb_mono _, Vz_mono _ _, Vz_mono _ _, Vi_mono _, Vb_mono _, Vb_mono _, trivial⟩) ((Below.refl _ _).drew) ⟨?s0, ?s1, ?s2, ?s3, ?s4, ?s5, ?s6, ?s7, ?s8, ?s9, trivial⟩ [6, 7, 8, 9, 10, 11, 12, 13, 14, 15] rfl ?hdone
  case s0 =>
    refine flow_wp fun listed a W h hd => ⟨trivial, fun K hK => ?_⟩
    exact wp_load_box rfl (h.out 1 (by kernel_rfl)) (hB0.later h.s) fun v hv => hK v W h.s (Below.refl _ _) hv
  case s1 =>
    refine flow_call (fun _ _ => rfl) fun listed a W h hd => ⟨trivial, ?_⟩
    refine ⟨#[.int .i64 (9223372036854775807)], by simp [Act.eval], (cROf (9223372036854775807) (by omega) (by omega)).mono fun e w' ⟨v, he, hV, hb⟩ => ⟨v, he, below_tr h.s hb, hb, hV⟩⟩
  case s2 =>
    refine flow_call (fun _ _ => rfl) fun listed a W h hd => ⟨trivial, ?_⟩
    obtain ⟨v0, hv0, -, hV0⟩ := h.dep hd 0 6 (by kernel_rfl) (by kernel_rfl)
    obtain ⟨v1, hv1, -, hV1⟩ := h.dep hd 1 7 (by kernel_rfl) (by kernel_rfl)
    refine ⟨#[v0, v1], by simp [hv0, hv1], (cRCompare (show Vz n (x) v0 W from hV0) (show Vz 3 (9223372036854775807) v1 W from hV1) (by omega) (by omega)).mono fun e w' ⟨v, he, hV, hb⟩ => ⟨v, he, below_tr h.s hb, hb, hV⟩⟩
  case s3 =>
    refine flow_run fun listed a W h hd => ⟨trivial, ?_⟩
    obtain ⟨v0, hv0, -, hV0⟩ := h.dep hd 2 8 (by kernel_rfl) (by kernel_rfl)
    have hV0' : v0 = .int .i64 (cmpI (x) (9223372036854775807)) := hV0
    exact ⟨_, _, run_gti rfl (hv0.trans hV0') rfl, h.s, Below.refl _ _, congrArg Value.bool hgt⟩
  case s4 =>
    refine flow_run fun listed a W h hd => ⟨trivial, ?_⟩
    obtain ⟨v0, hv0, -, hV0⟩ := h.dep hd 3 9 (by kernel_rfl) (by kernel_rfl)
    exact ⟨_, W, run_move rfl, h.s, Below.refl _ _, by rw [hv0]; exact hV0⟩
  case s5 =>
    refine flow_wp fun listed a W h hd => ⟨(by obtain ⟨u, hu, hy, hU⟩ := h.dep hd 4 10 (by kernel_rfl) (by kernel_rfl); obtain rfl : u = .bool false := hU; exact hy), fun K hK => ?_⟩
    exact wp_load_box rfl (h.out 1 (by kernel_rfl)) (hB0.later h.s) fun v hv => hK v W h.s (Below.refl _ _) hv
  case s6 =>
    refine flow_call (fun _ _ => rfl) fun listed a W h hd => ⟨(by obtain ⟨u, hu, hy, hU⟩ := h.dep hd 4 10 (by kernel_rfl) (by kernel_rfl); obtain rfl : u = .bool false := hU; exact hy), ?_⟩
    refine ⟨#[.int .i64 (-9223372036854775808)], by simp [Act.eval], (cROf (-9223372036854775808) (by omega) (by omega)).mono fun e w' ⟨v, he, hV, hb⟩ => ⟨v, he, below_tr h.s hb, hb, hV⟩⟩
  case s7 =>
    refine flow_call (fun _ _ => rfl) fun listed a W h hd => ⟨(by obtain ⟨u, hu, hy, hU⟩ := h.dep hd 4 10 (by kernel_rfl) (by kernel_rfl); obtain rfl : u = .bool false := hU; exact hy), ?_⟩
    obtain ⟨v0, hv0, -, hV0⟩ := h.dep hd 5 11 (by kernel_rfl) (by kernel_rfl)
    obtain ⟨v1, hv1, -, hV1⟩ := h.dep hd 6 12 (by kernel_rfl) (by kernel_rfl)
    refine ⟨#[v0, v1], by simp [hv0, hv1], (cRCompare (show Vz n (x) v0 W from hV0) (show Vz 3 (-9223372036854775808) v1 W from hV1) (by omega) (by omega)).mono fun e w' ⟨v, he, hV, hb⟩ => ⟨v, he, below_tr h.s hb, hb, hV⟩⟩
  case s8 =>
    refine flow_run fun listed a W h hd => ⟨(by obtain ⟨u, hu, hy, hU⟩ := h.dep hd 4 10 (by kernel_rfl) (by kernel_rfl); obtain rfl : u = .bool false := hU; exact hy), ?_⟩
    obtain ⟨v0, hv0, -, hV0⟩ := h.dep hd 7 13 (by kernel_rfl) (by kernel_rfl)
    have hV0' : v0 = .int .i64 (cmpI (x) (-9223372036854775808)) := hV0
    exact ⟨_, _, run_lti rfl (hv0.trans hV0') rfl, h.s, Below.refl _ _, congrArg Value.bool hlt⟩
  case s9 =>
    refine flow_run fun listed a W h hd => ⟨trivial, ?_⟩
    obtain ⟨v0, hv0, -, hV0⟩ := h.dep hd 4 10 (by kernel_rfl) (by kernel_rfl)
    obtain ⟨v1, hv1, -, hV1⟩ := h.dep hd 8 14 (by kernel_rfl) (by kernel_rfl)
    exact ⟨_, W, run_pick_f rfl (hv0.trans hV0), h.s, Below.refl _ _, by rw [hv1]; exact hV1⟩
  case hdone =>
    intro f W hS hf
    have hlast : f 15 = _ := hf 9 15 (by kernel_rfl)
    simp only [slots, Act.put, List.setIfInBounds_toArray, List.set_cons_zero, List.set_cons_succ]
    rw [hlast]
    have hfin : Hid (SmP w x (.returned (.tuple #[.int .i64 0, .bool false])) W) := Lib.hid (smP_no (by omega) (below_tr hS0.out.2 hS))
    clear hf hS
    go_wp2_with fail
    go_ret2
    exact hfin.out
set_option maxRecDepth 100000 in
set_option maxHeartbeats 1600000 in
theorem rSmall_in (nx : Bool) (px : Option Addr) (n cx : Nat) (x : Int) (w : World) (hx0 : IntAt w nx px n cx x) (hlx : n ≤ 1000000) (hlo : -9223372036854775808 ≤ x) (hhi : x ≤ 9223372036854775807) (hgt : decide (0 < cmpI x 9223372036854775807) = false) (hlt : decide (cmpI x (-9223372036854775808) < 0) = false) :
    Calls Tryz.prog 94 #[.agg #[.bool nx, .slice px n cx]] w (SmP w x) := by
  have hS0 := Lib.hid (@Bx.start nx px n cx w)
  have hx := Lib.hid hx0
  clear hx0
  go_enter Tryz.func94, Tryz.ntmps94
  go_upto_region 1 with fail
  generalize w.alloc (.cells #[.bool nx, .slice px n cx] 24) = W0 at hS0 ⊢
  have hB0 := Bz_of_bx hS0.out hx.out
  refine region_flows (V := fun i => ([Vz n (x), Vz 3 (9223372036854775807), Vi (cmpI (x) (9223372036854775807)), Vb false, Vb false, Vz n (x), Vz 3 (-9223372036854775808), Vi (cmpI (x) (-9223372036854775808)), Vb false, Vb false] : List VP).getD i VT) (S := fun W => Below W0.heap.size W0 W) (R := fun a b => Below a.heap.size a b) (by kernel_rfl) (by kernel_rfl) (by kernel_rfl) (by rfl) (mono_of ⟨Vz_mono _ _, Vz_mono _ _, Vi_mono _, Vb_mono _, Vb_mono _, Vz_mono _ _, Vz_mono _ _, Vi_mono _, Vb_mono _, Vb_mono _, trivial⟩) ((Below.refl _ _).drew) ⟨?s0, ?s1, ?s2, ?s3, ?s4, ?s5, ?s6, ?s7, ?s8, ?s9, trivial⟩ [6, 7, 8, 9, 10, 11, 12, 13, 14, 15] rfl ?hdone
  case s0 =>
    refine flow_wp fun listed a W h hd => ⟨trivial, fun K hK => ?_⟩
    exact wp_load_box rfl (h.out 1 (by kernel_rfl)) (hB0.later h.s) fun v hv => hK v W h.s (Below.refl _ _) hv
  case s1 =>
    refine flow_call (fun _ _ => rfl) fun listed a W h hd => ⟨trivial, ?_⟩
    refine ⟨#[.int .i64 (9223372036854775807)], by simp [Act.eval], (cROf (9223372036854775807) (by omega) (by omega)).mono fun e w' ⟨v, he, hV, hb⟩ => ⟨v, he, below_tr h.s hb, hb, hV⟩⟩
  case s2 =>
    refine flow_call (fun _ _ => rfl) fun listed a W h hd => ⟨trivial, ?_⟩
    obtain ⟨v0, hv0, -, hV0⟩ := h.dep hd 0 6 (by kernel_rfl) (by kernel_rfl)
    obtain ⟨v1, hv1, -, hV1⟩ := h.dep hd 1 7 (by kernel_rfl) (by kernel_rfl)
    refine ⟨#[v0, v1], by simp [hv0, hv1], (cRCompare (show Vz n (x) v0 W from hV0) (show Vz 3 (9223372036854775807) v1 W from hV1) (by omega) (by omega)).mono fun e w' ⟨v, he, hV, hb⟩ => ⟨v, he, below_tr h.s hb, hb, hV⟩⟩
  case s3 =>
    refine flow_run fun listed a W h hd => ⟨trivial, ?_⟩
    obtain ⟨v0, hv0, -, hV0⟩ := h.dep hd 2 8 (by kernel_rfl) (by kernel_rfl)
    have hV0' : v0 = .int .i64 (cmpI (x) (9223372036854775807)) := hV0
    exact ⟨_, _, run_gti rfl (hv0.trans hV0') rfl, h.s, Below.refl _ _, congrArg Value.bool hgt⟩
  case s4 =>
    refine flow_run fun listed a W h hd => ⟨trivial, ?_⟩
    obtain ⟨v0, hv0, -, hV0⟩ := h.dep hd 3 9 (by kernel_rfl) (by kernel_rfl)
    exact ⟨_, W, run_move rfl, h.s, Below.refl _ _, by rw [hv0]; exact hV0⟩
  case s5 =>
    refine flow_wp fun listed a W h hd => ⟨(by obtain ⟨u, hu, hy, hU⟩ := h.dep hd 4 10 (by kernel_rfl) (by kernel_rfl); obtain rfl : u = .bool false := hU; exact hy), fun K hK => ?_⟩
    exact wp_load_box rfl (h.out 1 (by kernel_rfl)) (hB0.later h.s) fun v hv => hK v W h.s (Below.refl _ _) hv
  case s6 =>
    refine flow_call (fun _ _ => rfl) fun listed a W h hd => ⟨(by obtain ⟨u, hu, hy, hU⟩ := h.dep hd 4 10 (by kernel_rfl) (by kernel_rfl); obtain rfl : u = .bool false := hU; exact hy), ?_⟩
    refine ⟨#[.int .i64 (-9223372036854775808)], by simp [Act.eval], (cROf (-9223372036854775808) (by omega) (by omega)).mono fun e w' ⟨v, he, hV, hb⟩ => ⟨v, he, below_tr h.s hb, hb, hV⟩⟩
  case s7 =>
    refine flow_call (fun _ _ => rfl) fun listed a W h hd => ⟨(by obtain ⟨u, hu, hy, hU⟩ := h.dep hd 4 10 (by kernel_rfl) (by kernel_rfl); obtain rfl : u = .bool false := hU; exact hy), ?_⟩
    obtain ⟨v0, hv0, -, hV0⟩ := h.dep hd 5 11 (by kernel_rfl) (by kernel_rfl)
    obtain ⟨v1, hv1, -, hV1⟩ := h.dep hd 6 12 (by kernel_rfl) (by kernel_rfl)
    refine ⟨#[v0, v1], by simp [hv0, hv1], (cRCompare (show Vz n (x) v0 W from hV0) (show Vz 3 (-9223372036854775808) v1 W from hV1) (by omega) (by omega)).mono fun e w' ⟨v, he, hV, hb⟩ => ⟨v, he, below_tr h.s hb, hb, hV⟩⟩
  case s8 =>
    refine flow_run fun listed a W h hd => ⟨(by obtain ⟨u, hu, hy, hU⟩ := h.dep hd 4 10 (by kernel_rfl) (by kernel_rfl); obtain rfl : u = .bool false := hU; exact hy), ?_⟩
    obtain ⟨v0, hv0, -, hV0⟩ := h.dep hd 7 13 (by kernel_rfl) (by kernel_rfl)
    have hV0' : v0 = .int .i64 (cmpI (x) (-9223372036854775808)) := hV0
    exact ⟨_, _, run_lti rfl (hv0.trans hV0') rfl, h.s, Below.refl _ _, congrArg Value.bool hlt⟩
  case s9 =>
    refine flow_run fun listed a W h hd => ⟨trivial, ?_⟩
    obtain ⟨v0, hv0, -, hV0⟩ := h.dep hd 4 10 (by kernel_rfl) (by kernel_rfl)
    obtain ⟨v1, hv1, -, hV1⟩ := h.dep hd 8 14 (by kernel_rfl) (by kernel_rfl)
    exact ⟨_, W, run_pick_f rfl (hv0.trans hV0), h.s, Below.refl _ _, by rw [hv1]; exact hV1⟩
  case hdone =>
    intro f W hS hf
    have hlast : f 15 = _ := hf 9 15 (by kernel_rfl)
    simp only [slots, Act.put, List.setIfInBounds_toArray, List.set_cons_zero, List.set_cons_succ]
    rw [hlast]
    have hBx := Lib.hid (hS0.out.later hS)
    have hf' := hBx.out.facts
    have hf1 := hf'.1
    have hf2 := hf'.2
    clear hf hS hB0
    obtain ⟨l, hl⟩ : ∃ l, digs x.natAbs = l := ⟨_, rfl⟩
    have hR : Hid (Rdi W px l) := Lib.hid (by rw [← hl]; exact Rdi_below hBx.out.2 hx.out.2.2.1)
    have hn : Hid (n = l.length) := Lib.hid (by rw [← hl]; exact hx.out.2.1)
    have hD : Hid (Dg l) := Lib.hid (by rw [← hl]; exact Dg_digs _)
    have hv : Hid (val l = (x.natAbs : Int)) := Lib.hid (by rw [← hl]; exact val_digs _)
    have hs : Hid (sg nx (val l) = x) := Lib.hid (by rw [hv.out]; have := hx.out.1; unfold sg; cases nx <;> simp at this ⊢ <;> omega)
    have hm : Hid (nx = false → val l ≤ 9223372036854775807) := Lib.hid (fun h => by rw [hv.out]; have := hx.out.1; rw [h] at this; simp at this; omega)
    have hm2 : Hid (val l ≤ 9223372036854775808) := Lib.hid (by rw [hv.out]; omega)
    clear hl
    go_wp2_with fail
    go_loop [4, 5] (fun s i => ∃ k : Nat, k ≤ n ∧ s = .int .i64 (sg nx (val (l.drop k))) ∧ i = .int .i64 ((k : Int) - 1)) (fun _ i => (intOf i + 1).toNat)
    case atStart => exact ⟨n, Nat.le_refl _, by rw [hn.out, List.drop_length]; cases nx <;> rfl, rfl⟩
    case round =>
      obtain ⟨k, hk, rfl, rfl⟩ := hrel
      cases k with
      | zero =>
        have e1 : Hid (sg nx (val (l.drop 0)) = x) := Lib.hid (by rw [List.drop_zero]; exact hs.out)
        rw [e1.out]
        have hfin : Hid (SmP w x (.returned (.tuple #[.int .i64 x, .bool true])) W) := Lib.hid (smP_yes ⟨hlo, hhi⟩ rfl hBx.out.2)
        go_wp2_with fail
        go_ret2
        exact hfin.out
      | succ j =>
        have hjl : j < l.length := by rw [← hn.out]; exact hk
        obtain ⟨b, o, rfl, hc0⟩ := Rdi_at hR.out j hjl
        have h1 := val_drop l j hjl
        have h2 := val_drop_le hD.out j (by omega)
        have h3 := val_drop_le hD.out (j + 1) (by omega)
        have h4 := hD.out.all j
        have hm' := hm.out
        have hm2' := hm2.out
        have hnew : Hid (sg nx (val (l.drop j)) = if nx then sg nx (val (l.drop (j + 1))) * 1000000000 - iat l j else sg nx (val (l.drop (j + 1))) * 1000000000 + iat l j) := Lib.hid (by unfold sg; cases nx <;> simp <;> omega)
        have hb1 : -9223372036854775808 ≤ sg nx (val (l.drop (j + 1))) * 1000000000 ∧ sg nx (val (l.drop (j + 1))) * 1000000000 ≤ 9223372036854775807 := by unfold sg; cases nx <;> simp at hm' ⊢ <;> omega
        have hb2 : -9223372036854775808 ≤ sg nx (val (l.drop j)) ∧ sg nx (val (l.drop j)) ≤ 9223372036854775807 := by unfold sg; cases nx <;> simp at hm' ⊢ <;> omega
        rw [hnew.out] at hb2
        obtain ⟨A, hA⟩ : ∃ A, sg nx (val (l.drop (j + 1))) = A := ⟨_, rfl⟩
        obtain ⟨d, hd⟩ : ∃ d, iat l j = d := ⟨_, rfl⟩
        rw [hA] at hb1 hb2 hnew ⊢
        rw [hd] at hc0 hb2 hnew
        have e0 : ((j + 1 : Nat) : Int) - 1 = (j : Int) := by omega
        rw [e0]
        have hb3 := hb1.1
        have hb4 := hb1.2
        clear h1 h2 h3 h4 hm' hm2' hA hd hb1 hjl
        cases nx
        · simp only [Bool.false_eq_true, if_false] at hb2 hnew
          have hb5 := hb2.1
          have hb6 := hb2.2
          go_wp2_with fail
          exact ⟨⟨j, by omega, by rw [hnew.out], rfl⟩, by simp [intOf]⟩
        · simp only [if_true] at hb2 hnew
          have hb5 := hb2.1
          have hb6 := hb2.2
          go_wp2_with fail
          exact ⟨⟨j, by omega, by rw [hnew.out], rfl⟩, by simp [intOf]⟩
theorem rSmall_any (nx : Bool) (px : Option Addr) (n cx : Nat) (x : Int) (w : World) (hx0 : IntAt w nx px n cx x) (hlx : n ≤ 1000000) :
    Calls Tryz.prog 94 #[.agg #[.bool nx, .slice px n cx]] w (SmP w x) := by
  by_cases h1 : 9223372036854775807 < x
  · exact rSmall_gt nx px n cx x w hx0 hlx h1 (by rw [cmp_gt h1]; rfl)
  · have g1 : decide (0 < cmpI x 9223372036854775807) = false := by
      rcases Int.lt_or_le x 9223372036854775807 with h | h
      · rw [cmp_lt h]; rfl
      · rw [show x = 9223372036854775807 by omega, cmp_eq]; rfl
    by_cases h2 : x < -9223372036854775808
    · exact rSmall_lt nx px n cx x w hx0 hlx h2 g1 (by rw [cmp_lt h2]; rfl)
    · have g2 : decide (cmpI x (-9223372036854775808) < 0) = false := by
        rcases Int.lt_or_le (-9223372036854775808) x with h | h
        · rw [cmp_gt h]; rfl
        · rw [show x = -9223372036854775808 by omega, cmp_eq]; rfl
      exact rSmall_in nx px n cx x w hx0 hlx (by omega) (by omega) g1 g2
end Go.Proofs.YtleijkgdpmfabaaGreatDoor
