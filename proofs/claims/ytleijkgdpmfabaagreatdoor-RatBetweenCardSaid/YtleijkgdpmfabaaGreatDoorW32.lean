/- Contracts of the package integer and its reference: rat.quotients. -/
import Derived.Deep.LoopGhost
import Derived.Test.YtleijkgdpmfabaaGreatDoorW30
import Derived.Test.YtleijkgdpmfabaaGreatDoorW31
set_option linter.unusedVariables false
namespace Go.Proofs.YtleijkgdpmfabaaGreatDoor
open Go.RowKit
instance iAlSl : SlT 101 24 2 := ⟨Tryz.underlying101, by
  have h : (Tryz.prog.info? 24).map (fun i => (i.zero, i.size, i.bytes)) = some (some (.agg #[.bool false, .slice none 0 0]), 2, 32) := by kernel_rfl
  cases hq : Tryz.prog.info? 24 with
  | none => rw [hq] at h; cases h
  | some i =>
    rw [hq] at h
    simp only [Option.map_some, Option.some.injEq, Prod.mk.injEq] at h
    exact ⟨i, _, rfl, h.1, h.2.1, by rw [h.2.2]; omega, rfl, noint_of (by simp [Value.cells])⟩, by decide⟩
section
variable {ρ : Operand → Value} {o : Oper} {W : World} {x : Operand} {va : Value}
theorem bslice_Int {N : Nat} {z : Int} (ho : o.op = .buildSlice 101 1 #[(0, x)]) (hx : ρ x = va) (h1 : Vz N z va W) : ∃ v w', (execOp ρ o).run Tryz.prog W = .ok (.value v) w' ∧ Below W.heap.size W w' ∧ VOn 24 2 (Vz N z) v w' := by
  obtain ⟨cx, rfl, e1, e2, e3⟩ := AggV_Vz _ _ _ _ h1
  obtain ⟨a, b, rfl⟩ : ∃ a b, cx = #[a, b] := by
    obtain ⟨l⟩ := cx
    match l, e1 with
    | [a, b], _ => exact ⟨a, b, rfl⟩
  have hb := below_new W (.cells #[a, b] 24)
  refine ⟨.slice (some ⟨W.heap.size, 0, none⟩) 1 1, _, ?_, hb, ⟨_, _, rfl, heap_alloc_new _ _, rfl, e2, e3, Stab_Vz (BT := []) _ _ _ _ _ h1 (RI.of_below hb)⟩⟩
  obtain ⟨dd, op, ty, ps, af, gd⟩ := o
  subst ho
  go_simp
end
def qsL : Nat → Int → Int → Int → Int → List Int
  | 0, _, _, _, _ => []
  | m + 1, a, b, c, d => if dr a b = 0 then [dq a b] else if d ≤ c - dq a b * d then [dq a b + 1] else dq a b :: qsL m d (c - dq a b * d) b (dr a b)
def okq (N : Nat) : Nat → Int → Int → Int → Int → Prop
  | 0, _, _, _, _ => False
  | m + 1, a, b, c, d => (digs a.natAbs).length ≤ N ∧ (digs b.natAbs).length ≤ N ∧ (digs c.natAbs).length ≤ N ∧ (digs d.natAbs).length ≤ N ∧ (dr a b = 0 ∨ d ≤ c - dq a b * d ∨ okq N m d (c - dq a b * d) b (dr a b))
theorem qsL_one {m : Nat} {a b c d : Int} (h : dr a b = 0) : qsL (m + 1) a b c d = [dq a b] := if_pos h
theorem qsL_two {m : Nat} {a b c d : Int} (h : dr a b ≠ 0) (h2 : d ≤ c - dq a b * d) : qsL (m + 1) a b c d = [dq a b + 1] := (if_neg h).trans (if_pos h2)
theorem qsL_more {m : Nat} {a b c d : Int} (h : dr a b ≠ 0) (h2 : ¬ d ≤ c - dq a b * d) : qsL (m + 1) a b c d = dq a b :: qsL m d (c - dq a b * d) b (dr a b) := (if_neg h).trans (if_neg h2)
theorem cmp_ge (x y : Int) : (0 ≤ cmpI x y) ↔ y ≤ x := by
  unfold cmpI
  split
  · constructor <;> intro h <;> omega
  · split <;> constructor <;> intro h <;> omega
theorem VRx_low {T : TypeId} {k lo lo' : Nat} {α : Type} {E : α → VP} {xs : List α} {v : Value} {w : World} (h : VRx T k E lo xs v w) (hl : lo' ≤ lo) : VRx T k E lo' xs v w := by
  obtain ⟨g, c, h1, h2⟩ := h
  exact ⟨g, c, Nat.le_trans hl h1, h2⟩
theorem VRg_in {T : TypeId} {k g c : Nat} {α : Type} {E : α → VP} {xs : List α} {z : α} {w : World} (hl : xs.length + 1 ≤ c) (hcm : c ≤ 9223372036854775807) (hg : g < w.heap.size) (hr : RowAt g T (k * c) (VEl k E (xs ++ [z])) w) : VRg T k E g c (xs ++ [z]) (.slice (some ⟨g, 0, none⟩) (xs.length + 1) c) w :=
  ⟨by rw [List.length_append]; exact hl, hcm, hg, .inr ⟨by omega, by rw [List.length_append]; rfl, hr⟩⟩
set_option maxRecDepth 100000 in
set_option maxHeartbeats 1600000 in
theorem cQuots {w : World} {N m : Nat} {a b : Rat} {v0 v1 : Value} (h0 : Vq N (a) v0 w) (h1 : Vq N (b) v1 w) (h1N : 1 ≤ N) (hN : N ≤ 100000) (hok : okq N m a.num (a.den : Int) b.num (b.den : Int)) (hm : m ≤ 1000000) : Calls Tryz.prog 127 #[v0, v1] w (RV (VRx 24 2 (Vz (N + 1)) w.heap.size (qsL m a.num (a.den : Int) b.num (b.den : Int))) w) := by
  go_enter Tryz.func127, Tryz.ntmps127
  have st0 : St w.heap.size w 57 [] [(0, Vq N (a)), (1, Vq N (b))] _ w := St.begin (a := ⟨#[v0, v1, undef, undef, undef, undef, undef, undef, undef, undef, undef, undef, undef, undef, undef, undef, undef, undef, undef, undef, undef, undef, undef, undef, undef, undef, undef, undef, undef, undef, undef, undef, undef, undef, undef, undef, undef, undef, undef, undef, undef, undef, undef, undef, undef, undef, undef, undef, undef, undef, undef, undef, undef, undef, undef, undef, undef], []⟩) rfl rfl (List.forall_mem_cons.2 ⟨⟨_, rfl, h0⟩, (List.forall_mem_cons.2 ⟨⟨_, rfl, h1⟩, (fun _ h => absurd h (by simp))⟩)⟩)
  generalize (⟨#[v0, v1, undef, undef, undef, undef, undef, undef, undef, undef, undef, undef, undef, undef, undef, undef, undef, undef, undef, undef, undef, undef, undef, undef, undef, undef, undef, undef, undef, undef, undef, undef, undef, undef, undef, undef, undef, undef, undef, undef, undef, undef, undef, undef, undef, undef, undef, undef, undef, undef, undef, undef, undef, undef, undef, undef, undef], []⟩ : Act) = a0 at st0 ⊢
  repeat first|refine wp_seq ?_|refine wp_block ?_|refine wp_skip ?_|refine wp_exit ?_
  refine rg (BT := [(24, 2, 0)]) (Vl := [VT, VT, VEq (.slice none 0 0)]) (B := [⟨2, some 0, some 0, 27, 4, Vq N (a), VT⟩, ⟨3, some 1, some 1, 27, 4, Vq N (b), VT⟩]) (SL' := [(4, VEq (.slice none 0 0))]) st0 ⟨ks, ks, ks, trivial⟩ ?_
  intro a1 w1 st1
  clear st0
  repeat first|refine wp_seq ?_|refine wp_block ?_|refine wp_skip ?_|refine wp_exit ?_
  refine rg (BT := [(24, 2, 0)]) (Vl := [VEq (.slice none 0 0)]) (B := [⟨2, none, none, 27, 4, Vq N (a), VT⟩, ⟨3, none, none, 27, 4, Vq N (b), VT⟩]) (SL' := [(4, VEq (.slice none 0 0)), (5, VEq (.slice none 0 0))]) st1 ⟨ks, trivial⟩ ?_
  intro a2 w2 st2
  clear st1
  repeat first|refine wp_seq ?_|refine wp_block ?_|refine wp_skip ?_|refine wp_exit ?_
  refine rg (BT := [(24, 2, 0)]) (Vl := [Vpt a2 2 0, Vz N ((a).num), Vq N (a), Vz N (((a).den : Int)), Vpt a2 3 0, Vz N ((b).num), Vq N (b), Vz N (((b).den : Int)), VT, VT, VT, VT, VT, VT, VT, VT]) (B := [⟨2, none, none, 27, 4, Vq N (a), VT⟩, ⟨3, none, none, 27, 4, Vq N (b), VT⟩, ⟨6, some 8, some 12, 24, 2, Vz N ((a).num), VT⟩, ⟨7, some 9, some 13, 24, 2, Vz N (((a).den : Int)), VT⟩, ⟨8, some 10, some 14, 24, 2, Vz N ((b).num), VT⟩, ⟨9, some 11, some 15, 24, 2, Vz N (((b).den : Int)), VT⟩]) (SL' := [(4, VEq (.slice none 0 0)), (5, VEq (.slice none 0 0))]) st2 ⟨ks, ks, ks, ?s3, ks, ks, ks, ?s7, ks, ks, ks, ks, ks, ks, ks, ks, trivial⟩ ?_
  case s3 => refine kc fun _ ac Wd h hd => ?_; obtain ⟨v0, hv0, hV0⟩ := h.dp hd 15; exact ⟨#[v0], by simp [hv0], cDen (show Vq N (a) v0 Wd from hV0) (by omega)⟩
  case s7 => refine kc fun _ ac Wd h hd => ?_; obtain ⟨v0, hv0, hV0⟩ := h.dp hd 19; exact ⟨#[v0], by simp [hv0], cDen (show Vq N (b) v0 Wd from hV0) (by omega)⟩
  intro a3 w3 st3
  clear st2
  replace st3 : St w.heap.size w 57 [⟨2, none, none, 27, 4, Vq N (a), VT⟩, ⟨3, none, none, 27, 4, Vq N (b), VT⟩, ⟨6, none, none, 24, 2, Vz N ((a).num), VT⟩, ⟨7, none, none, 24, 2, Vz N (((a).den : Int)), VT⟩, ⟨8, none, none, 24, 2, Vz N ((b).num), VT⟩, ⟨9, none, none, 24, 2, Vz N (((b).den : Int)), VT⟩] [(4, VEq (.slice none 0 0)), (5, VEq (.slice none 0 0))] a3 w3 := st3
  obtain ⟨g, hgn, hgt, st3⟩ := st3.nilR 5 2 rfl rfl rfl rfl 24 2 (Vz (N + 1))
  replace st3 : St w.heap.size w 57 [⟨2, none, none, 27, 4, Vq N (a), VT⟩, ⟨3, none, none, 27, 4, Vq N (b), VT⟩, ⟨6, none, none, 24, 2, Vz N ((a).num), VT⟩, ⟨7, none, none, 24, 2, Vz N (((a).den : Int)), VT⟩, ⟨8, none, none, 24, 2, Vz N ((b).num), VT⟩, ⟨9, none, none, 24, 2, Vz N (((b).den : Int)), VT⟩] [(5, VRg 24 2 (Vz (N + 1)) g 0 ([]))] a3 w3 := st3.cut
  replace st3 := st3.neB 2 6 hgt rfl rfl rfl rfl rfl rfl (by decide)
  replace st3 := st3.neB 2 7 hgt rfl rfl rfl rfl rfl rfl (by decide)
  replace st3 := st3.neB 2 8 hgt rfl rfl rfl rfl rfl rfl (by decide)
  replace st3 := st3.neB 2 9 hgt rfl rfl rfl rfl rfl rfl (by decide)
  replace st3 : St w.heap.size w 57 [⟨6, none, none, 24, 2, Vz N ((a).num), VT⟩, ⟨7, none, none, 24, 2, Vz N (((a).den : Int)), VT⟩, ⟨8, none, none, 24, 2, Vz N ((b).num), VT⟩, ⟨9, none, none, 24, 2, Vz N (((b).den : Int)), VT⟩] [(5, VRg 24 2 (Vz (N + 1)) g 0 ([])), (6, VNe g), (7, VNe g), (8, VNe g), (9, VNe g)] a3 w3 := st3.cut
  clear hgt
  repeat first|refine wp_seq ?_|refine wp_block ?_|refine wp_skip ?_|refine wp_exit ?_
  obtain ⟨R, hR⟩ : ∃ R, qsL m a.num (a.den : Int) b.num (b.den : Int) = R := ⟨_, rfl⟩
  rw [hR]
  refine wp_loop_ghost (fun m aX wX => ∃ (xs : List Int) (g c : Nat) (A B C D : Int), w.heap.size ≤ g ∧ (c = 0 ∨ 0 < xs.length) ∧ xs ++ qsL m A B C D = R ∧ okq N m A B C D ∧ xs.length + m ≤ 1000000 ∧ St w.heap.size w 57 [⟨6, none, none, 24, 2, Vz N (A), VT⟩, ⟨7, none, none, 24, 2, Vz N (B), VT⟩, ⟨8, none, none, 24, 2, Vz N (C), VT⟩, ⟨9, none, none, 24, 2, Vz N (D), VT⟩] [(5, VRg 24 2 (Vz (N + 1)) g c (xs)), (6, VNe g), (7, VNe g), (8, VNe g), (9, VNe g)] aX wX) m ⟨[], g, 0, a.num, (a.den : Int), b.num, (b.den : Int), hgn, .inl rfl, hR, hok, by simpa using hm, st3⟩ ?_
  clear st3 hgn hR hok hm g
  intro m aL wL ⟨xs, g, c, A, B, C, D, hgn, hxc, hR, hok, hm, st3⟩
  rcases m with _ | m
  · exact hok.elim
  obtain ⟨hA, hB, hC, hD, hok⟩ := hok
  have hxl : xs.length ≤ 1000000 := by omega
  repeat first|refine wp_seq ?_|refine wp_block ?_|refine wp_skip ?_|refine wp_exit ?_
  have : Sb [(24, 2, 0), (24, 0, g)] (VRg 24 2 (Vz (N + 1)) g c (xs)) := ⟨Stab_VRg (fun x => Stab_Vz _ _) (by decide) (by first | (refine Or.inl ?_; simp; done) | (refine Or.inr ?_; simp; done))⟩
  refine rg (BT := [(24, 2, 0), (24, 0, g)]) (Vl := [Vz N (A), Vz N (B), VTup (Vz N (dq (A) (B))) (Vz N (dr (A) (B))), VTup (Vz N (dq (A) (B))) (Vz N (dr (A) (B))), Vz N (dq (A) (B)), Vz N (dr (A) (B)), VNe g, VNe g, VT, VT]) (B := [⟨6, none, none, 24, 2, Vz N (A), VT⟩, ⟨7, none, none, 24, 2, Vz N (B), VT⟩, ⟨8, none, none, 24, 2, Vz N (C), VT⟩, ⟨9, none, none, 24, 2, Vz N (D), VT⟩, ⟨10, some 6, some 8, 24, 2, Vz N (dq (A) (B)), VT⟩, ⟨11, some 7, some 9, 24, 2, Vz N (dr (A) (B)), VT⟩]) (SL' := [(5, VRg 24 2 (Vz (N + 1)) g c (xs)), (6, VNe g), (7, VNe g), (8, VNe g), (9, VNe g)]) st3 ⟨ks, ks, ?s2, ks, ks, ks, ?s6, ?s7, ?s8, ?s9, trivial⟩ ?_
  case s2 =>
    refine kc fun _ ac Wd h hd => ?_
    obtain ⟨v0, hv0, hV0⟩ := h.dp hd 22
    obtain ⟨v1, hv1, hV1⟩ := h.dp hd 23
    exact ⟨#[v0, v1], by simp [hv0, hv1], (cDiv (show Vz N (A) v0 Wd from hV0) (show Vz N (B) v1 Wd from hV1) (by omega) (by omega)).mono fun e w' h => h.tup⟩
  case s6 =>
    refine k_allocN_ (s := 5) rfl rfl rfl rfl rfl rfl rfl ?_ rfl (by kernel_rfl) rfl (by kernel_rfl) ?_; (first | exact .inl ⟨rfl, rfl⟩ | exact .inr ⟨_, rfl, rfl⟩); (first | exact trivial | exact ⟨by kernel_rfl, ⟨_, rfl⟩, rfl⟩)
  case s7 =>
    refine k_allocN_ (s := 5) rfl rfl rfl rfl rfl rfl rfl ?_ rfl (by kernel_rfl) rfl (by kernel_rfl) ?_; (first | exact .inl ⟨rfl, rfl⟩ | exact .inr ⟨_, rfl, rfl⟩); (first | exact trivial | exact ⟨by kernel_rfl, ⟨_, rfl⟩, rfl⟩)
  case s8 =>
    refine k_storeN_ (gp := g) rfl rfl rfl rfl rfl rfl ?_ rfl (by kernel_rfl) (by kernel_rfl) rfl (by kernel_rfl) (by simp) ?_ ?_ ?_ ?_; (exact rfl); (first | exact .inl ⟨by kernel_rfl, rfl, rfl⟩ | exact .inr ⟨rfl, by kernel_rfl⟩); (first | exact .inl rfl | exact .inr ⟨_, rfl, by kernel_rfl⟩); (first | exact .inl ⟨by kernel_rfl, rfl, rfl⟩ | exact .inr ⟨rfl, by kernel_rfl⟩); (first | exact trivial | exact ⟨by kernel_rfl, ⟨_, rfl⟩, rfl⟩)
  case s9 =>
    refine k_storeN_ (gp := g) rfl rfl rfl rfl rfl rfl ?_ rfl (by kernel_rfl) (by kernel_rfl) rfl (by kernel_rfl) (by simp) ?_ ?_ ?_ ?_; (exact rfl); (first | exact .inl ⟨by kernel_rfl, rfl, rfl⟩ | exact .inr ⟨rfl, by kernel_rfl⟩); (first | exact .inl rfl | exact .inr ⟨_, rfl, by kernel_rfl⟩); (first | exact .inl ⟨by kernel_rfl, rfl, rfl⟩ | exact .inr ⟨rfl, by kernel_rfl⟩); (first | exact trivial | exact ⟨by kernel_rfl, ⟨_, rfl⟩, rfl⟩)
  intro a4 w4 st4
  clear st3
  by_cases hz0 : dr A B = 0
  ·
    repeat first|refine wp_seq ?_|refine wp_block ?_|refine wp_skip ?_|refine wp_exit ?_
    have : Sb [(24, 2, 0), (24, 0, g)] (VRg 24 2 (Vz (N + 1)) g c (xs)) := ⟨Stab_VRg (fun x => Stab_Vz _ _) (by decide) (by first | (refine Or.inl ?_; simp; done) | (refine Or.inr ?_; simp; done))⟩
    refine rg (BT := [(24, 2, 0), (24, 0, g)]) (Vl := [Vz N (dr (A) (B)), Vi (cmpI (dr (A) (B)) 0), Vb (true)]) (B := [⟨6, none, none, 24, 2, Vz N (A), VT⟩, ⟨7, none, none, 24, 2, Vz N (B), VT⟩, ⟨8, none, none, 24, 2, Vz N (C), VT⟩, ⟨9, none, none, 24, 2, Vz N (D), VT⟩, ⟨10, none, none, 24, 2, Vz N (dq (A) (B)), VT⟩, ⟨11, none, none, 24, 2, Vz N (dr (A) (B)), VT⟩]) (SL' := [(5, VRg 24 2 (Vz (N + 1)) g c (xs)), (6, VNe g), (7, VNe g), (8, VNe g), (9, VNe g), (29, Vb (true))]) st4 ⟨ks, ?s1, ?s2, trivial⟩ ?_
    case s1 => refine kc fun _ ac Wd h hd => ?_; obtain ⟨v0, hv0, hV0⟩ := h.dp hd 27; exact ⟨#[v0], by simp [hv0], cSign (show Vz N (dr (A) (B)) v0 Wd from hV0) (by omega)⟩
    case s2 =>
      refine kr fun _ ac Wd h hd => ?_
      obtain ⟨v0, hv0, hV0⟩ := h.dp hd 28
      have hV0' : v0 = .int .i64 (cmpI (dr (A) (B)) 0) := hV0
      exact ⟨_, run_eqi rfl (hv0.trans hV0') rfl, congrArg Value.bool (by rw [hz0, cmp_eq]; rfl)⟩
    intro a5 w5 st5
    clear st4
    repeat first|refine wp_seq ?_|refine wp_block ?_|refine wp_skip ?_|refine wp_exit ?_
    obtain ⟨vc, hc1, hc2⟩ := st5.slot (29, Vb (true)) (.tail _ (.tail _ (.tail _ (.tail _ (.tail _ (.head _))))))
    refine wp_cond_true (hc1.trans hc2) ?_
    clear hc1 hc2
    have hR1 : xs ++ [dq A B] = R := by rw [← hR, qsL_one hz0]
    clear hok hR
    by_cases hrm : xs.length + 1 ≤ c
    ·
      replace st5 : St w.heap.size w 57 [⟨6, none, none, 24, 2, Vz N (A), VT⟩, ⟨7, none, none, 24, 2, Vz N (B), VT⟩, ⟨8, none, none, 24, 2, Vz N (C), VT⟩, ⟨9, none, none, 24, 2, Vz N (D), VT⟩, ⟨10, none, none, 24, 2, Vz N (dq (A) (B)), VT⟩, ⟨11, none, none, 24, 2, Vz N (dr (A) (B)), VT⟩] [(5, VRg 24 2 (Vz (N + 1)) g c (xs)), (6, VNe g), (7, VNe g), (8, VNe g), (9, VNe g), (29, Vb (true))] a5 w5 := st5
      obtain ⟨v5, he5, hl5, hcm5, hg5, (⟨h0, -⟩ | ⟨h0, hv5, hrow⟩)⟩ := st5.sl (5, VRg 24 2 (Vz (N + 1)) g c (xs)) (lS_mem rfl)
      · omega
      have h2c : 2 ≤ c := by omega
      replace st5 := st5.reT 5 (VEq (.slice (some ⟨g, 0, none⟩) xs.length c)) he5 hv5
      replace st5 : St w.heap.size w 57 [⟨6, none, none, 24, 2, Vz N (A), VT⟩, ⟨7, none, none, 24, 2, Vz N (B), VT⟩, ⟨8, none, none, 24, 2, Vz N (C), VT⟩, ⟨9, none, none, 24, 2, Vz N (D), VT⟩, ⟨10, none, none, 24, 2, Vz N (dq (A) (B)), VT⟩, ⟨11, none, none, 24, 2, Vz N (dr (A) (B)), VT⟩] [(5, VEq (.slice (some ⟨g, 0, none⟩) xs.length c)), (6, VNe g), (7, VNe g), (8, VNe g), (9, VNe g), (29, Vb (true))] a5 w5 := st5.cut
      clear he5 hv5 hl5
      repeat first|refine wp_seq ?_|refine wp_block ?_|refine wp_skip ?_|refine wp_exit ?_
      have : Sb ((24, 2 * c, 0) :: []) (VOn 24 2 (Vz (N + 1) (dq (A) (B)))) := ⟨Stab_VOn (Stab_Vz _ _) (by first | (simp; done) | (simp; omega))⟩
      refine rgR (BT := []) (Vl := [VEq (.slice (some ⟨g, 0, none⟩) xs.length c), Vz N (dq (A) (B)), VOn 24 2 (Vz (N + 1) (dq (A) (B))), VEq (.slice (some ⟨g, 0, none⟩) (xs.length + 1) c), VEq (.slice (some ⟨g, 0, none⟩) (xs.length + 1) c)]) (B := [⟨6, none, none, 24, 2, Vz N (A), VT⟩, ⟨7, none, none, 24, 2, Vz N (B), VT⟩, ⟨8, none, none, 24, 2, Vz N (C), VT⟩, ⟨9, none, none, 24, 2, Vz N (D), VT⟩, ⟨10, none, none, 24, 2, Vz N (dq (A) (B)), VT⟩, ⟨11, none, none, 24, 2, Vz N (dr (A) (B)), VT⟩]) (SL' := [(5, VEq (.slice (some ⟨g, 0, none⟩) xs.length c)), (6, VNe g), (7, VNe g), (8, VNe g), (9, VNe g), (29, Vb (true)), (4, VEq (.slice (some ⟨g, 0, none⟩) (xs.length + 1) c))]) ⟨g, 3, 24, 2 * c, VEl 2 (Vz (N + 1)) (xs ++ [dq (A) (B)]), VEl 2 (Vz (N + 1)) xs⟩ st5 hrow ⟨fun _ => ks, fun _ => ks, fun _ => ?s2, fun hne => absurd rfl hne, fun _ => ks, trivial⟩ ?r3 ?_ (by kernel_rfl) (Nat.le_of_ble_eq_true rfl) (hm0 := (by show 2 * c ≠ 0; omega))
      case s2 => refine km fun _ ac Wd h hd => ?_; obtain ⟨v0, hv0, hV0⟩ := h.dp hd 31; exact bslice_Int (N := N + 1) rfl hv0 (Vz_le hV0 (by omega))
      case r3 => intro o ho; obtain rfl := Option.some.inj ho.symm; exact k_app (k := 2) (z := dq (A) (B)) rfl rfl (.inl ⟨by kernel_rfl, rfl, rfl⟩) (.inl ⟨by kernel_rfl, rfl, rfl⟩) rfl hrm h2c hgn (by kernel_rfl) (by kernel_rfl) (fun x BT => Stab_Vz _ _) (by simp) trivial
      clear hrow
      intro a6 w6 st6 hrow
      clear st5
      replace st6 : St w.heap.size w 57 [⟨6, none, none, 24, 2, Vz N (A), VT⟩, ⟨7, none, none, 24, 2, Vz N (B), VT⟩, ⟨8, none, none, 24, 2, Vz N (C), VT⟩, ⟨9, none, none, 24, 2, Vz N (D), VT⟩, ⟨10, none, none, 24, 2, Vz N (dq (A) (B)), VT⟩, ⟨11, none, none, 24, 2, Vz N (dr (A) (B)), VT⟩] [(5, VEq (.slice (some ⟨g, 0, none⟩) xs.length c)), (6, VNe g), (7, VNe g), (8, VNe g), (9, VNe g), (29, Vb (true)), (4, VEq (.slice (some ⟨g, 0, none⟩) (xs.length + 1) c))] a6 w6 := st6
      obtain ⟨v4, he4, hv4⟩ := st6.sl (4, VEq (.slice (some ⟨g, 0, none⟩) (xs.length + 1) c)) (lS_mem rfl)
      replace st6 := st6.reT 4 (VRx 24 2 (Vz (N + 1)) w.heap.size (xs ++ [dq (A) (B)])) he4 (by obtain rfl : v4 = _ := hv4; exact ⟨g, c, hgn, by omega, VRg_in hrm hcm5 (by obtain ⟨cs, q1, -⟩ := hrow; exact lt_blk q1) hrow⟩)
      replace st6 : St w.heap.size w 57 [⟨6, none, none, 24, 2, Vz N (A), VT⟩, ⟨7, none, none, 24, 2, Vz N (B), VT⟩, ⟨8, none, none, 24, 2, Vz N (C), VT⟩, ⟨9, none, none, 24, 2, Vz N (D), VT⟩, ⟨10, none, none, 24, 2, Vz N (dq (A) (B)), VT⟩, ⟨11, none, none, 24, 2, Vz N (dr (A) (B)), VT⟩] [(4, VRx 24 2 (Vz (N + 1)) w.heap.size (xs ++ [dq (A) (B)]))] a6 w6 := st6.cut
      repeat first|refine wp_seq ?_|refine wp_block ?_|refine wp_skip ?_|refine wp_exit ?_
      obtain ⟨vr, r1, r4⟩ := st6.slot (4, VRx 24 2 (Vz (N + 1)) w.heap.size (xs ++ [dq (A) (B)])) (.head _)
      exact wp_ret (bodyPost_ret (results_tmp rfl _ _ _) st6.defers ⟨_, congrArg Ending.returned (show _ = vr from r1), (by rw [← hR1]; exact r4), st6.k.below⟩)
    ·
      replace st5 : St w.heap.size w 57 [⟨6, none, none, 24, 2, Vz N (A), VT⟩, ⟨7, none, none, 24, 2, Vz N (B), VT⟩, ⟨8, none, none, 24, 2, Vz N (C), VT⟩, ⟨9, none, none, 24, 2, Vz N (D), VT⟩, ⟨10, none, none, 24, 2, Vz N (dq (A) (B)), VT⟩, ⟨11, none, none, 24, 2, Vz N (dr (A) (B)), VT⟩] [(5, VRg 24 2 (Vz (N + 1)) g c (xs)), (6, VNe g), (7, VNe g), (8, VNe g), (9, VNe g), (29, Vb (true))] a5 w5 := st5
      obtain ⟨lo, hlo⟩ : ∃ lo, w5.heap.size = lo := ⟨_, rfl⟩
      have hnlo : w.heap.size ≤ lo := by rw [← hlo]; exact st5.n
      replace st5 := st5.lt1 6 rfl rfl rfl
      replace st5 := st5.lt1 7 rfl rfl rfl
      replace st5 := st5.lt1 8 rfl rfl rfl
      replace st5 := st5.lt1 9 rfl rfl rfl
      replace st5 := st5.lt1 10 rfl rfl rfl
      replace st5 := st5.lt1 11 rfl rfl rfl
      rw [hlo] at st5
      replace st5 : St w.heap.size w 57 [⟨6, none, none, 24, 2, Vz N (A), VT⟩, ⟨7, none, none, 24, 2, Vz N (B), VT⟩, ⟨8, none, none, 24, 2, Vz N (C), VT⟩, ⟨9, none, none, 24, 2, Vz N (D), VT⟩, ⟨10, none, none, 24, 2, Vz N (dq (A) (B)), VT⟩, ⟨11, none, none, 24, 2, Vz N (dr (A) (B)), VT⟩] [(5, VRg 24 2 (Vz (N + 1)) g c (xs)), (6, VLt lo), (7, VLt lo), (8, VLt lo), (9, VLt lo), (29, Vb (true)), (10, VLt lo), (11, VLt lo)] a5 w5 := st5.cut
      clear hlo
      repeat first|refine wp_seq ?_|refine wp_block ?_|refine wp_skip ?_|refine wp_exit ?_
      have : Sb [] (VRg 24 2 (Vz (N + 1)) g c (xs)) := ⟨Stab_VRg (fun x => Stab_Vz _ _) (by decide) (by first | (refine Or.inl ?_; simp; done) | (refine Or.inr ?_; simp; done))⟩
      have : Sb [] (VOn 24 2 (Vz (N + 1) (dq (A) (B)))) := ⟨Stab_VOn (Stab_Vz _ _) (by first | (simp; done) | (simp; omega))⟩
      have : Sb [] (VRx 24 2 (Vz (N + 1)) lo (xs ++ [dq (A) (B)])) := ⟨Stab_VRx (fun x => Stab_Vz _ _) (by decide) (by simp)⟩
      refine rg (BT := []) (Vl := [VRg 24 2 (Vz (N + 1)) g c (xs), Vz N (dq (A) (B)), VOn 24 2 (Vz (N + 1) (dq (A) (B))), VRx 24 2 (Vz (N + 1)) lo (xs ++ [dq (A) (B)]), VRx 24 2 (Vz (N + 1)) lo (xs ++ [dq (A) (B)])]) (B := [⟨6, none, none, 24, 2, Vz N (A), VT⟩, ⟨7, none, none, 24, 2, Vz N (B), VT⟩, ⟨8, none, none, 24, 2, Vz N (C), VT⟩, ⟨9, none, none, 24, 2, Vz N (D), VT⟩, ⟨10, none, none, 24, 2, Vz N (dq (A) (B)), VT⟩, ⟨11, none, none, 24, 2, Vz N (dr (A) (B)), VT⟩]) (SL' := [(5, VRg 24 2 (Vz (N + 1)) g c (xs)), (6, VLt lo), (7, VLt lo), (8, VLt lo), (9, VLt lo), (29, Vb (true)), (10, VLt lo), (11, VLt lo), (4, VRx 24 2 (Vz (N + 1)) lo (xs ++ [dq (A) (B)]))]) st5 ⟨ks, ks, ?s2, ?s3, ks, trivial⟩ ?_
      case s2 => refine km fun _ ac Wd h hd => ?_; obtain ⟨v0, hv0, hV0⟩ := h.dp hd 31; exact bslice_Int (N := N + 1) rfl hv0 (Vz_le hV0 (by omega))
      case s3 =>
        refine km fun _ ac Wd h hd => ?_
        obtain ⟨v0, hv0, hV0⟩ := h.dp hd 30
        obtain ⟨v1, hv1, hV1⟩ := h.dp hd 32
        obtain ⟨vq, -, hVq⟩ := h.ot 6
        exact app_grow rfl hv0 hV0 hv1 hV1 (fun x => Stab_Vz _ _) (by omega) hVq.1 hxl
      intro a6 w6 st6
      clear st5
      repeat first|refine wp_seq ?_|refine wp_block ?_|refine wp_skip ?_|refine wp_exit ?_
      obtain ⟨vr, r1, r4⟩ := st6.slot (4, VRx 24 2 (Vz (N + 1)) lo (xs ++ [dq (A) (B)])) (.tail _ (.tail _ (.tail _ (.tail _ (.tail _ (.tail _ (.tail _ (.tail _ (.head _)))))))))
      exact wp_ret (bodyPost_ret (results_tmp rfl _ _ _) st6.defers ⟨_, congrArg Ending.returned (show _ = vr from r1), (by rw [← hR1]; exact VRx_low r4 (by omega)), st6.k.below⟩)
  ·
    repeat first|refine wp_seq ?_|refine wp_block ?_|refine wp_skip ?_|refine wp_exit ?_
    have : Sb [(24, 2, 0), (24, 0, g)] (VRg 24 2 (Vz (N + 1)) g c (xs)) := ⟨Stab_VRg (fun x => Stab_Vz _ _) (by decide) (by first | (refine Or.inl ?_; simp; done) | (refine Or.inr ?_; simp; done))⟩
    refine rg (BT := [(24, 2, 0), (24, 0, g)]) (Vl := [Vz N (dr (A) (B)), Vi (cmpI (dr (A) (B)) 0), Vb (false)]) (B := [⟨6, none, none, 24, 2, Vz N (A), VT⟩, ⟨7, none, none, 24, 2, Vz N (B), VT⟩, ⟨8, none, none, 24, 2, Vz N (C), VT⟩, ⟨9, none, none, 24, 2, Vz N (D), VT⟩, ⟨10, none, none, 24, 2, Vz N (dq (A) (B)), VT⟩, ⟨11, none, none, 24, 2, Vz N (dr (A) (B)), VT⟩]) (SL' := [(5, VRg 24 2 (Vz (N + 1)) g c (xs)), (6, VNe g), (7, VNe g), (8, VNe g), (9, VNe g), (29, Vb (false))]) st4 ⟨ks, ?s1, ?s2, trivial⟩ ?_
    case s1 => refine kc fun _ ac Wd h hd => ?_; obtain ⟨v0, hv0, hV0⟩ := h.dp hd 27; exact ⟨#[v0], by simp [hv0], cSign (show Vz N (dr (A) (B)) v0 Wd from hV0) (by omega)⟩
    case s2 =>
      refine kr fun _ ac Wd h hd => ?_
      obtain ⟨v0, hv0, hV0⟩ := h.dp hd 28
      have hV0' : v0 = .int .i64 (cmpI (dr (A) (B)) 0) := hV0
      exact ⟨_, run_eqi rfl (hv0.trans hV0') rfl, congrArg Value.bool (by rw [cmp0]; exact decide_eq_false hz0)⟩
    intro a5 w5 st5
    clear st4
    repeat first|refine wp_seq ?_|refine wp_block ?_|refine wp_skip ?_|refine wp_exit ?_
    obtain ⟨vc, hc1, hc2⟩ := st5.slot (29, Vb (false)) (.tail _ (.tail _ (.tail _ (.tail _ (.tail _ (.head _))))))
    refine wp_cond_false (hc1.trans hc2) ?_
    clear hc1 hc2
    repeat first|refine wp_seq ?_|refine wp_block ?_|refine wp_skip ?_|refine wp_exit ?_
    have : Sb [(24, 2, 0), (24, 0, g)] (VRg 24 2 (Vz (N + 1)) g c (xs)) := ⟨Stab_VRg (fun x => Stab_Vz _ _) (by decide) (by first | (refine Or.inl ?_; simp; done) | (refine Or.inr ?_; simp; done))⟩
    refine rg (BT := [(24, 2, 0), (24, 0, g)]) (Vl := [Vz N (C), Vz N (dq (A) (B)), Vz N (D), Vz (N + N) ((dq (A) (B)) * (D)), Vz (max N (N + N) + 1) ((C) - ((dq (A) (B)) * (D))), VNe g, VT]) (B := [⟨6, none, none, 24, 2, Vz N (A), VT⟩, ⟨7, none, none, 24, 2, Vz N (B), VT⟩, ⟨8, none, none, 24, 2, Vz N (C), VT⟩, ⟨9, none, none, 24, 2, Vz N (D), VT⟩, ⟨10, none, none, 24, 2, Vz N (dq (A) (B)), VT⟩, ⟨11, none, none, 24, 2, Vz N (dr (A) (B)), VT⟩, ⟨12, some 5, some 6, 24, 2, Vz (max N (N + N) + 1) ((C) - ((dq (A) (B)) * (D))), VT⟩]) (SL' := [(5, VRg 24 2 (Vz (N + 1)) g c (xs)), (6, VNe g), (7, VNe g), (8, VNe g), (9, VNe g), (29, Vb (false))]) st5 ⟨ks, ks, ks, ?s3, ?s4, ?s5, ?s6, trivial⟩ ?_
    case s3 =>
      refine kc fun _ ac Wd h hd => ?_
      obtain ⟨v0, hv0, hV0⟩ := h.dp hd 35
      obtain ⟨v1, hv1, hV1⟩ := h.dp hd 36
      exact ⟨#[v0, v1], by simp [hv0, hv1], (cMul (show Vz N (dq (A) (B)) v0 Wd from hV0) (show Vz N (D) v1 Wd from hV1) (by omega) (by omega))⟩
    case s4 =>
      refine kc fun _ ac Wd h hd => ?_
      obtain ⟨v0, hv0, hV0⟩ := h.dp hd 34
      obtain ⟨v1, hv1, hV1⟩ := h.dp hd 37
      exact ⟨#[v0, v1], by simp [hv0, hv1], (cSub (show Vz N (C) v0 Wd from hV0) (show Vz (N + N) ((dq (A) (B)) * (D)) v1 Wd from hV1) (by omega) (by omega))⟩
    case s5 =>
      refine k_allocN_ (s := 5) rfl rfl rfl rfl rfl rfl rfl ?_ rfl (by kernel_rfl) rfl (by kernel_rfl) ?_; (first | exact .inl ⟨rfl, rfl⟩ | exact .inr ⟨_, rfl, rfl⟩); (first | exact trivial | exact ⟨by kernel_rfl, ⟨_, rfl⟩, rfl⟩)
    case s6 =>
      refine k_storeN_ (gp := g) rfl rfl rfl rfl rfl rfl ?_ rfl (by kernel_rfl) (by kernel_rfl) rfl (by kernel_rfl) (by simp) ?_ ?_ ?_ ?_; (exact rfl); (first | exact .inl ⟨by kernel_rfl, rfl, rfl⟩ | exact .inr ⟨rfl, by kernel_rfl⟩); (first | exact .inl rfl | exact .inr ⟨_, rfl, by kernel_rfl⟩); (first | exact .inl ⟨by kernel_rfl, rfl, rfl⟩ | exact .inr ⟨rfl, by kernel_rfl⟩); (first | exact trivial | exact ⟨by kernel_rfl, ⟨_, rfl⟩, rfl⟩)
    intro a6 w6 st6
    clear st5
    by_cases hge : D ≤ C - dq A B * D
    ·
      repeat first|refine wp_seq ?_|refine wp_block ?_|refine wp_skip ?_|refine wp_exit ?_
      have : Sb [(24, 2, 0), (24, 0, g)] (VRg 24 2 (Vz (N + 1)) g c (xs)) := ⟨Stab_VRg (fun x => Stab_Vz _ _) (by decide) (by first | (refine Or.inl ?_; simp; done) | (refine Or.inr ?_; simp; done))⟩
      refine rg (BT := [(24, 2, 0), (24, 0, g)]) (Vl := [Vz (max N (N + N) + 1) ((C) - ((dq (A) (B)) * (D))), Vz N (D), Vi (cmpI ((C) - ((dq (A) (B)) * (D))) (D)), Vb (true)]) (B := [⟨6, none, none, 24, 2, Vz N (A), VT⟩, ⟨7, none, none, 24, 2, Vz N (B), VT⟩, ⟨8, none, none, 24, 2, Vz N (C), VT⟩, ⟨9, none, none, 24, 2, Vz N (D), VT⟩, ⟨10, none, none, 24, 2, Vz N (dq (A) (B)), VT⟩, ⟨11, none, none, 24, 2, Vz N (dr (A) (B)), VT⟩, ⟨12, none, none, 24, 2, Vz (max N (N + N) + 1) ((C) - ((dq (A) (B)) * (D))), VT⟩]) (SL' := [(5, VRg 24 2 (Vz (N + 1)) g c (xs)), (6, VNe g), (7, VNe g), (8, VNe g), (9, VNe g), (29, Vb (false)), (42, Vb (true))]) st6 ⟨ks, ks, ?s2, ?s3, trivial⟩ ?_
      case s2 =>
        refine kc fun _ ac Wd h hd => ?_
        obtain ⟨v0, hv0, hV0⟩ := h.dp hd 39
        obtain ⟨v1, hv1, hV1⟩ := h.dp hd 40
        exact ⟨#[v0, v1], by simp [hv0, hv1], (cCompare (show Vz (max N (N + N) + 1) ((C) - ((dq (A) (B)) * (D))) v0 Wd from hV0) (show Vz N (D) v1 Wd from hV1) (by omega) (by omega))⟩
      case s3 =>
        refine kr fun _ ac Wd h hd => ?_
        obtain ⟨v0, hv0, hV0⟩ := h.dp hd 41
        have hV0' : v0 = .int .i64 (cmpI ((C) - ((dq (A) (B)) * (D))) (D)) := hV0
        exact ⟨_, run_geqi rfl (hv0.trans hV0') rfl, congrArg Value.bool (decide_eq_true ((cmp_ge _ _).2 hge))⟩
      intro a7 w7 st7
      clear st6
      repeat first|refine wp_seq ?_|refine wp_block ?_|refine wp_skip ?_|refine wp_exit ?_
      obtain ⟨vc, hc1, hc2⟩ := st7.slot (42, Vb (true)) (.tail _ (.tail _ (.tail _ (.tail _ (.tail _ (.tail _ (.head _)))))))
      refine wp_cond_true (hc1.trans hc2) ?_
      clear hc1 hc2
      have hR1 : xs ++ [dq A B + 1] = R := by rw [← hR, qsL_two hz0 hge]
      clear hok hR
      by_cases hrm : xs.length + 1 ≤ c
      ·
        replace st7 : St w.heap.size w 57 [⟨6, none, none, 24, 2, Vz N (A), VT⟩, ⟨7, none, none, 24, 2, Vz N (B), VT⟩, ⟨8, none, none, 24, 2, Vz N (C), VT⟩, ⟨9, none, none, 24, 2, Vz N (D), VT⟩, ⟨10, none, none, 24, 2, Vz N (dq (A) (B)), VT⟩, ⟨11, none, none, 24, 2, Vz N (dr (A) (B)), VT⟩, ⟨12, none, none, 24, 2, Vz (max N (N + N) + 1) ((C) - ((dq (A) (B)) * (D))), VT⟩] [(5, VRg 24 2 (Vz (N + 1)) g c (xs)), (6, VNe g), (7, VNe g), (8, VNe g), (9, VNe g), (29, Vb (false)), (42, Vb (true))] a7 w7 := st7
        obtain ⟨v5, he5, hl5, hcm5, hg5, (⟨h0, -⟩ | ⟨h0, hv5, hrow⟩)⟩ := st7.sl (5, VRg 24 2 (Vz (N + 1)) g c (xs)) (lS_mem rfl)
        · omega
        have h2c : 2 ≤ c := by omega
        replace st7 := st7.reT 5 (VEq (.slice (some ⟨g, 0, none⟩) xs.length c)) he5 hv5
        replace st7 : St w.heap.size w 57 [⟨6, none, none, 24, 2, Vz N (A), VT⟩, ⟨7, none, none, 24, 2, Vz N (B), VT⟩, ⟨8, none, none, 24, 2, Vz N (C), VT⟩, ⟨9, none, none, 24, 2, Vz N (D), VT⟩, ⟨10, none, none, 24, 2, Vz N (dq (A) (B)), VT⟩, ⟨11, none, none, 24, 2, Vz N (dr (A) (B)), VT⟩, ⟨12, none, none, 24, 2, Vz (max N (N + N) + 1) ((C) - ((dq (A) (B)) * (D))), VT⟩] [(5, VEq (.slice (some ⟨g, 0, none⟩) xs.length c)), (6, VNe g), (7, VNe g), (8, VNe g), (9, VNe g), (29, Vb (false)), (42, Vb (true))] a7 w7 := st7.cut
        clear he5 hv5 hl5
        repeat first|refine wp_seq ?_|refine wp_block ?_|refine wp_skip ?_|refine wp_exit ?_
        have : Sb ((24, 2 * c, 0) :: []) (VOn 24 2 (Vz (N + 1) ((dq (A) (B)) + (1)))) := ⟨Stab_VOn (Stab_Vz _ _) (by first | (simp; done) | (simp; omega))⟩
        refine rgR (BT := []) (Vl := [VEq (.slice (some ⟨g, 0, none⟩) xs.length c), Vz N (dq (A) (B)), Vz 1 (1), Vz (max N 1 + 1) ((dq (A) (B)) + (1)), VOn 24 2 (Vz (N + 1) ((dq (A) (B)) + (1))), VEq (.slice (some ⟨g, 0, none⟩) (xs.length + 1) c), VEq (.slice (some ⟨g, 0, none⟩) (xs.length + 1) c)]) (B := [⟨6, none, none, 24, 2, Vz N (A), VT⟩, ⟨7, none, none, 24, 2, Vz N (B), VT⟩, ⟨8, none, none, 24, 2, Vz N (C), VT⟩, ⟨9, none, none, 24, 2, Vz N (D), VT⟩, ⟨10, none, none, 24, 2, Vz N (dq (A) (B)), VT⟩, ⟨11, none, none, 24, 2, Vz N (dr (A) (B)), VT⟩, ⟨12, none, none, 24, 2, Vz (max N (N + N) + 1) ((C) - ((dq (A) (B)) * (D))), VT⟩]) (SL' := [(5, VEq (.slice (some ⟨g, 0, none⟩) xs.length c)), (6, VNe g), (7, VNe g), (8, VNe g), (9, VNe g), (29, Vb (false)), (42, Vb (true)), (4, VEq (.slice (some ⟨g, 0, none⟩) (xs.length + 1) c))]) ⟨g, 5, 24, 2 * c, VEl 2 (Vz (N + 1)) (xs ++ [(dq (A) (B)) + (1)]), VEl 2 (Vz (N + 1)) xs⟩ st7 hrow ⟨fun _ => ks, fun _ => ks, fun _ => ?s2, fun _ => ?s3, fun _ => ?s4, fun hne => absurd rfl hne, fun _ => ks, trivial⟩ ?r5 ?_ (by kernel_rfl) (Nat.le_of_ble_eq_true rfl) (hm0 := (by show 2 * c ≠ 0; omega))
        case s2 => refine kc fun _ ac Wd h hd => ?_; exact ⟨#[.int .i64 (1)], by simp [eval_const], cOf1⟩
        case s3 =>
          refine kc fun _ ac Wd h hd => ?_
          obtain ⟨v0, hv0, hV0⟩ := h.dp hd 44
          obtain ⟨v1, hv1, hV1⟩ := h.dp hd 45
          exact ⟨#[v0, v1], by simp [hv0, hv1], (cAdd (show Vz N (dq (A) (B)) v0 Wd from hV0) (show Vz 1 (1) v1 Wd from hV1) (by omega) (by omega))⟩
        case s4 => refine km fun _ ac Wd h hd => ?_; obtain ⟨v0, hv0, hV0⟩ := h.dp hd 46; exact bslice_Int (N := N + 1) rfl hv0 (Vz_le hV0 (by omega))
        case r5 => intro o ho; obtain rfl := Option.some.inj ho.symm; exact k_app (k := 2) (z := (dq (A) (B)) + (1)) rfl rfl (.inl ⟨by kernel_rfl, rfl, rfl⟩) (.inl ⟨by kernel_rfl, rfl, rfl⟩) rfl hrm h2c hgn (by kernel_rfl) (by kernel_rfl) (fun x BT => Stab_Vz _ _) (by simp) trivial
        clear hrow
        intro a8 w8 st8 hrow
        clear st7
        replace st8 : St w.heap.size w 57 [⟨6, none, none, 24, 2, Vz N (A), VT⟩, ⟨7, none, none, 24, 2, Vz N (B), VT⟩, ⟨8, none, none, 24, 2, Vz N (C), VT⟩, ⟨9, none, none, 24, 2, Vz N (D), VT⟩, ⟨10, none, none, 24, 2, Vz N (dq (A) (B)), VT⟩, ⟨11, none, none, 24, 2, Vz N (dr (A) (B)), VT⟩, ⟨12, none, none, 24, 2, Vz (max N (N + N) + 1) ((C) - ((dq (A) (B)) * (D))), VT⟩] [(5, VEq (.slice (some ⟨g, 0, none⟩) xs.length c)), (6, VNe g), (7, VNe g), (8, VNe g), (9, VNe g), (29, Vb (false)), (42, Vb (true)), (4, VEq (.slice (some ⟨g, 0, none⟩) (xs.length + 1) c))] a8 w8 := st8
        obtain ⟨v4, he4, hv4⟩ := st8.sl (4, VEq (.slice (some ⟨g, 0, none⟩) (xs.length + 1) c)) (lS_mem rfl)
        replace st8 := st8.reT 4 (VRx 24 2 (Vz (N + 1)) w.heap.size (xs ++ [(dq (A) (B)) + (1)])) he4 (by obtain rfl : v4 = _ := hv4; exact ⟨g, c, hgn, by omega, VRg_in hrm hcm5 (by obtain ⟨cs, q1, -⟩ := hrow; exact lt_blk q1) hrow⟩)
        replace st8 : St w.heap.size w 57 [⟨6, none, none, 24, 2, Vz N (A), VT⟩, ⟨7, none, none, 24, 2, Vz N (B), VT⟩, ⟨8, none, none, 24, 2, Vz N (C), VT⟩, ⟨9, none, none, 24, 2, Vz N (D), VT⟩, ⟨10, none, none, 24, 2, Vz N (dq (A) (B)), VT⟩, ⟨11, none, none, 24, 2, Vz N (dr (A) (B)), VT⟩, ⟨12, none, none, 24, 2, Vz (max N (N + N) + 1) ((C) - ((dq (A) (B)) * (D))), VT⟩] [(4, VRx 24 2 (Vz (N + 1)) w.heap.size (xs ++ [(dq (A) (B)) + (1)]))] a8 w8 := st8.cut
        repeat first|refine wp_seq ?_|refine wp_block ?_|refine wp_skip ?_|refine wp_exit ?_
        obtain ⟨vr, r1, r4⟩ := st8.slot (4, VRx 24 2 (Vz (N + 1)) w.heap.size (xs ++ [(dq (A) (B)) + (1)])) (.head _)
        exact wp_ret (bodyPost_ret (results_tmp rfl _ _ _) st8.defers ⟨_, congrArg Ending.returned (show _ = vr from r1), (by rw [← hR1]; exact r4), st8.k.below⟩)
      ·
        replace st7 : St w.heap.size w 57 [⟨6, none, none, 24, 2, Vz N (A), VT⟩, ⟨7, none, none, 24, 2, Vz N (B), VT⟩, ⟨8, none, none, 24, 2, Vz N (C), VT⟩, ⟨9, none, none, 24, 2, Vz N (D), VT⟩, ⟨10, none, none, 24, 2, Vz N (dq (A) (B)), VT⟩, ⟨11, none, none, 24, 2, Vz N (dr (A) (B)), VT⟩, ⟨12, none, none, 24, 2, Vz (max N (N + N) + 1) ((C) - ((dq (A) (B)) * (D))), VT⟩] [(5, VRg 24 2 (Vz (N + 1)) g c (xs)), (6, VNe g), (7, VNe g), (8, VNe g), (9, VNe g), (29, Vb (false)), (42, Vb (true))] a7 w7 := st7
        obtain ⟨lo, hlo⟩ : ∃ lo, w7.heap.size = lo := ⟨_, rfl⟩
        have hnlo : w.heap.size ≤ lo := by rw [← hlo]; exact st7.n
        replace st7 := st7.lt1 6 rfl rfl rfl
        replace st7 := st7.lt1 7 rfl rfl rfl
        replace st7 := st7.lt1 8 rfl rfl rfl
        replace st7 := st7.lt1 9 rfl rfl rfl
        replace st7 := st7.lt1 10 rfl rfl rfl
        replace st7 := st7.lt1 11 rfl rfl rfl
        replace st7 := st7.lt1 12 rfl rfl rfl
        rw [hlo] at st7
        replace st7 : St w.heap.size w 57 [⟨6, none, none, 24, 2, Vz N (A), VT⟩, ⟨7, none, none, 24, 2, Vz N (B), VT⟩, ⟨8, none, none, 24, 2, Vz N (C), VT⟩, ⟨9, none, none, 24, 2, Vz N (D), VT⟩, ⟨10, none, none, 24, 2, Vz N (dq (A) (B)), VT⟩, ⟨11, none, none, 24, 2, Vz N (dr (A) (B)), VT⟩, ⟨12, none, none, 24, 2, Vz (max N (N + N) + 1) ((C) - ((dq (A) (B)) * (D))), VT⟩] [(5, VRg 24 2 (Vz (N + 1)) g c (xs)), (6, VLt lo), (7, VLt lo), (8, VLt lo), (9, VLt lo), (29, Vb (false)), (42, Vb (true)), (10, VLt lo), (11, VLt lo), (12, VLt lo)] a7 w7 := st7.cut
        clear hlo
        repeat first|refine wp_seq ?_|refine wp_block ?_|refine wp_skip ?_|refine wp_exit ?_
        have : Sb [] (VRg 24 2 (Vz (N + 1)) g c (xs)) := ⟨Stab_VRg (fun x => Stab_Vz _ _) (by decide) (by first | (refine Or.inl ?_; simp; done) | (refine Or.inr ?_; simp; done))⟩
        have : Sb [] (VOn 24 2 (Vz (N + 1) ((dq (A) (B)) + (1)))) := ⟨Stab_VOn (Stab_Vz _ _) (by first | (simp; done) | (simp; omega))⟩
        have : Sb [] (VRx 24 2 (Vz (N + 1)) lo (xs ++ [(dq (A) (B)) + (1)])) := ⟨Stab_VRx (fun x => Stab_Vz _ _) (by decide) (by simp)⟩
        refine rg (BT := []) (Vl := [VRg 24 2 (Vz (N + 1)) g c (xs), Vz N (dq (A) (B)), Vz 1 (1), Vz (max N 1 + 1) ((dq (A) (B)) + (1)), VOn 24 2 (Vz (N + 1) ((dq (A) (B)) + (1))), VRx 24 2 (Vz (N + 1)) lo (xs ++ [(dq (A) (B)) + (1)]), VRx 24 2 (Vz (N + 1)) lo (xs ++ [(dq (A) (B)) + (1)])]) (B := [⟨6, none, none, 24, 2, Vz N (A), VT⟩, ⟨7, none, none, 24, 2, Vz N (B), VT⟩, ⟨8, none, none, 24, 2, Vz N (C), VT⟩, ⟨9, none, none, 24, 2, Vz N (D), VT⟩, ⟨10, none, none, 24, 2, Vz N (dq (A) (B)), VT⟩, ⟨11, none, none, 24, 2, Vz N (dr (A) (B)), VT⟩, ⟨12, none, none, 24, 2, Vz (max N (N + N) + 1) ((C) - ((dq (A) (B)) * (D))), VT⟩]) (SL' := [(5, VRg 24 2 (Vz (N + 1)) g c (xs)), (6, VLt lo), (7, VLt lo), (8, VLt lo), (9, VLt lo), (29, Vb (false)), (42, Vb (true)), (10, VLt lo), (11, VLt lo), (12, VLt lo), (4, VRx 24 2 (Vz (N + 1)) lo (xs ++ [(dq (A) (B)) + (1)]))]) st7 ⟨ks, ks, ?s2, ?s3, ?s4, ?s5, ks, trivial⟩ ?_
        case s2 => refine kc fun _ ac Wd h hd => ?_; exact ⟨#[.int .i64 (1)], by simp [eval_const], cOf1⟩
        case s3 =>
          refine kc fun _ ac Wd h hd => ?_
          obtain ⟨v0, hv0, hV0⟩ := h.dp hd 44
          obtain ⟨v1, hv1, hV1⟩ := h.dp hd 45
          exact ⟨#[v0, v1], by simp [hv0, hv1], (cAdd (show Vz N (dq (A) (B)) v0 Wd from hV0) (show Vz 1 (1) v1 Wd from hV1) (by omega) (by omega))⟩
        case s4 => refine km fun _ ac Wd h hd => ?_; obtain ⟨v0, hv0, hV0⟩ := h.dp hd 46; exact bslice_Int (N := N + 1) rfl hv0 (Vz_le hV0 (by omega))
        case s5 =>
          refine km fun _ ac Wd h hd => ?_
          obtain ⟨v0, hv0, hV0⟩ := h.dp hd 43
          obtain ⟨v1, hv1, hV1⟩ := h.dp hd 47
          obtain ⟨vq, -, hVq⟩ := h.ot 6
          exact app_grow rfl hv0 hV0 hv1 hV1 (fun x => Stab_Vz _ _) (by omega) hVq.1 hxl
        intro a8 w8 st8
        clear st7
        repeat first|refine wp_seq ?_|refine wp_block ?_|refine wp_skip ?_|refine wp_exit ?_
        obtain ⟨vr, r1, r4⟩ := st8.slot (4, VRx 24 2 (Vz (N + 1)) lo (xs ++ [(dq (A) (B)) + (1)])) (.tail _ (.tail _ (.tail _ (.tail _ (.tail _ (.tail _ (.tail _ (.tail _ (.tail _ (.tail _ (.head _)))))))))))
        exact wp_ret (bodyPost_ret (results_tmp rfl _ _ _) st8.defers ⟨_, congrArg Ending.returned (show _ = vr from r1), (by rw [← hR1]; exact VRx_low r4 (by omega)), st8.k.below⟩)
    ·
      repeat first|refine wp_seq ?_|refine wp_block ?_|refine wp_skip ?_|refine wp_exit ?_
      have : Sb [(24, 2, 0), (24, 0, g)] (VRg 24 2 (Vz (N + 1)) g c (xs)) := ⟨Stab_VRg (fun x => Stab_Vz _ _) (by decide) (by first | (refine Or.inl ?_; simp; done) | (refine Or.inr ?_; simp; done))⟩
      refine rg (BT := [(24, 2, 0), (24, 0, g)]) (Vl := [Vz (max N (N + N) + 1) ((C) - ((dq (A) (B)) * (D))), Vz N (D), Vi (cmpI ((C) - ((dq (A) (B)) * (D))) (D)), Vb (false)]) (B := [⟨6, none, none, 24, 2, Vz N (A), VT⟩, ⟨7, none, none, 24, 2, Vz N (B), VT⟩, ⟨8, none, none, 24, 2, Vz N (C), VT⟩, ⟨9, none, none, 24, 2, Vz N (D), VT⟩, ⟨10, none, none, 24, 2, Vz N (dq (A) (B)), VT⟩, ⟨11, none, none, 24, 2, Vz N (dr (A) (B)), VT⟩, ⟨12, none, none, 24, 2, Vz (max N (N + N) + 1) ((C) - ((dq (A) (B)) * (D))), VT⟩]) (SL' := [(5, VRg 24 2 (Vz (N + 1)) g c (xs)), (6, VNe g), (7, VNe g), (8, VNe g), (9, VNe g), (29, Vb (false)), (42, Vb (false))]) st6 ⟨ks, ks, ?s2, ?s3, trivial⟩ ?_
      case s2 =>
        refine kc fun _ ac Wd h hd => ?_
        obtain ⟨v0, hv0, hV0⟩ := h.dp hd 39
        obtain ⟨v1, hv1, hV1⟩ := h.dp hd 40
        exact ⟨#[v0, v1], by simp [hv0, hv1], (cCompare (show Vz (max N (N + N) + 1) ((C) - ((dq (A) (B)) * (D))) v0 Wd from hV0) (show Vz N (D) v1 Wd from hV1) (by omega) (by omega))⟩
      case s3 =>
        refine kr fun _ ac Wd h hd => ?_
        obtain ⟨v0, hv0, hV0⟩ := h.dp hd 41
        have hV0' : v0 = .int .i64 (cmpI ((C) - ((dq (A) (B)) * (D))) (D)) := hV0
        exact ⟨_, run_geqi rfl (hv0.trans hV0') rfl, congrArg Value.bool (decide_eq_false (fun e => hge ((cmp_ge _ _).1 e)))⟩
      intro a7 w7 st7
      clear st6
      repeat first|refine wp_seq ?_|refine wp_block ?_|refine wp_skip ?_|refine wp_exit ?_
      obtain ⟨vc, hc1, hc2⟩ := st7.slot (42, Vb (false)) (.tail _ (.tail _ (.tail _ (.tail _ (.tail _ (.tail _ (.head _)))))))
      refine wp_cond_false (hc1.trans hc2) ?_
      clear hc1 hc2
      have hR1 : (xs ++ [dq A B]) ++ qsL m D (C - dq A B * D) B (dr A B) = R := by rw [← hR, qsL_more hz0 hge]; simp
      replace hok := (hok.resolve_left hz0).resolve_left hge
      clear hR
      by_cases hrm : xs.length + 1 ≤ c
      ·
        replace st7 : St w.heap.size w 57 [⟨6, none, none, 24, 2, Vz N (A), VT⟩, ⟨7, none, none, 24, 2, Vz N (B), VT⟩, ⟨8, none, none, 24, 2, Vz N (C), VT⟩, ⟨9, none, none, 24, 2, Vz N (D), VT⟩, ⟨10, none, none, 24, 2, Vz N (dq (A) (B)), VT⟩, ⟨11, none, none, 24, 2, Vz N (dr (A) (B)), VT⟩, ⟨12, none, none, 24, 2, Vz (max N (N + N) + 1) ((C) - ((dq (A) (B)) * (D))), VT⟩] [(5, VRg 24 2 (Vz (N + 1)) g c (xs)), (6, VNe g), (7, VNe g), (8, VNe g), (9, VNe g), (29, Vb (false)), (42, Vb (false))] a7 w7 := st7
        obtain ⟨v5, he5, hl5, hcm5, hg5, (⟨h0, -⟩ | ⟨h0, hv5, hrow⟩)⟩ := st7.sl (5, VRg 24 2 (Vz (N + 1)) g c (xs)) (lS_mem rfl)
        · omega
        have h2c : 2 ≤ c := by omega
        replace st7 := st7.reT 5 (VEq (.slice (some ⟨g, 0, none⟩) xs.length c)) he5 hv5
        replace st7 : St w.heap.size w 57 [⟨6, none, none, 24, 2, Vz N (A), VT⟩, ⟨7, none, none, 24, 2, Vz N (B), VT⟩, ⟨8, none, none, 24, 2, Vz N (C), VT⟩, ⟨9, none, none, 24, 2, Vz N (D), VT⟩, ⟨10, none, none, 24, 2, Vz N (dq (A) (B)), VT⟩, ⟨11, none, none, 24, 2, Vz N (dr (A) (B)), VT⟩, ⟨12, none, none, 24, 2, Vz (max N (N + N) + 1) ((C) - ((dq (A) (B)) * (D))), VT⟩] [(5, VEq (.slice (some ⟨g, 0, none⟩) xs.length c)), (6, VNe g), (7, VNe g), (8, VNe g), (9, VNe g), (29, Vb (false)), (42, Vb (false))] a7 w7 := st7.cut
        clear he5 hv5 hl5
        repeat first|refine wp_seq ?_|refine wp_block ?_|refine wp_skip ?_|refine wp_exit ?_
        have : Sb ((24, 2 * c, 0) :: []) (VOn 24 2 (Vz (N + 1) (dq (A) (B)))) := ⟨Stab_VOn (Stab_Vz _ _) (by first | (simp; done) | (simp; omega))⟩
        refine rgR (BT := []) (Vl := [VEq (.slice (some ⟨g, 0, none⟩) xs.length c), Vz N (dq (A) (B)), VOn 24 2 (Vz (N + 1) (dq (A) (B))), VEq (.slice (some ⟨g, 0, none⟩) (xs.length + 1) c), VEq (.slice (some ⟨g, 0, none⟩) (xs.length + 1) c)]) (B := [⟨6, none, none, 24, 2, Vz N (A), VT⟩, ⟨7, none, none, 24, 2, Vz N (B), VT⟩, ⟨8, none, none, 24, 2, Vz N (C), VT⟩, ⟨9, none, none, 24, 2, Vz N (D), VT⟩, ⟨10, none, none, 24, 2, Vz N (dq (A) (B)), VT⟩, ⟨11, none, none, 24, 2, Vz N (dr (A) (B)), VT⟩, ⟨12, none, none, 24, 2, Vz (max N (N + N) + 1) ((C) - ((dq (A) (B)) * (D))), VT⟩]) (SL' := [(6, VNe g), (7, VNe g), (8, VNe g), (9, VNe g), (29, Vb (false)), (42, Vb (false)), (5, VEq (.slice (some ⟨g, 0, none⟩) (xs.length + 1) c))]) ⟨g, 3, 24, 2 * c, VEl 2 (Vz (N + 1)) (xs ++ [dq (A) (B)]), VEl 2 (Vz (N + 1)) xs⟩ st7 hrow ⟨fun _ => ?s0, fun _ => ks, fun _ => ?s2, fun hne => absurd rfl hne, fun _ => ks, trivial⟩ ?r3 ?_ (by kernel_rfl) (Nat.le_of_ble_eq_true rfl) (hm0 := (by show 2 * c ≠ 0; omega))
        case s0 =>
          refine k_run0 SbB.out (by kernel_rfl) fun listed ac Wd h hd hnl => ⟨trivial, ?_⟩
          obtain ⟨v0, hv0, hV0⟩ := h.out0 hnl (5, VEq (.slice (some ⟨g, 0, none⟩) xs.length c)) (.head _) 4 (by kernel_rfl) (.inr (by kernel_rfl))
          exact ⟨_, run_move rfl, by rw [hv0]; exact hV0⟩
        case s2 => refine km fun _ ac Wd h hd => ?_; obtain ⟨v0, hv0, hV0⟩ := h.dp hd 50; exact bslice_Int (N := N + 1) rfl hv0 (Vz_le hV0 (by omega))
        case r3 => intro o ho; obtain rfl := Option.some.inj ho.symm; exact k_app (k := 2) (z := dq (A) (B)) rfl rfl (.inl ⟨by kernel_rfl, rfl, rfl⟩) (.inl ⟨by kernel_rfl, rfl, rfl⟩) rfl hrm h2c hgn (by kernel_rfl) (by kernel_rfl) (fun x BT => Stab_Vz _ _) (by simp) trivial
        clear hrow
        intro a8 w8 st8 hrow
        clear st7
        replace st8 : St w.heap.size w 57 [⟨6, none, none, 24, 2, Vz N (A), VT⟩, ⟨7, none, none, 24, 2, Vz N (B), VT⟩, ⟨8, none, none, 24, 2, Vz N (C), VT⟩, ⟨9, none, none, 24, 2, Vz N (D), VT⟩, ⟨10, none, none, 24, 2, Vz N (dq (A) (B)), VT⟩, ⟨11, none, none, 24, 2, Vz N (dr (A) (B)), VT⟩, ⟨12, none, none, 24, 2, Vz (max N (N + N) + 1) ((C) - ((dq (A) (B)) * (D))), VT⟩] [(6, VNe g), (7, VNe g), (8, VNe g), (9, VNe g), (29, Vb (false)), (42, Vb (false)), (5, VEq (.slice (some ⟨g, 0, none⟩) (xs.length + 1) c))] a8 w8 := st8
        obtain ⟨v5, he5, hv5⟩ := st8.sl (5, VEq (.slice (some ⟨g, 0, none⟩) (xs.length + 1) c)) (lS_mem rfl)
        replace st8 := st8.reT 5 (VRg 24 2 (Vz (N + 1)) g c (xs ++ [dq (A) (B)])) he5 (by obtain rfl : v5 = _ := hv5; exact VRg_in hrm hcm5 (by obtain ⟨cs, q1, -⟩ := hrow; exact lt_blk q1) hrow)
        replace st8 : St w.heap.size w 57 [⟨6, none, none, 24, 2, Vz N (A), VT⟩, ⟨7, none, none, 24, 2, Vz N (B), VT⟩, ⟨8, none, none, 24, 2, Vz N (C), VT⟩, ⟨9, none, none, 24, 2, Vz N (D), VT⟩, ⟨10, none, none, 24, 2, Vz N (dq (A) (B)), VT⟩, ⟨11, none, none, 24, 2, Vz N (dr (A) (B)), VT⟩, ⟨12, none, none, 24, 2, Vz (max N (N + N) + 1) ((C) - ((dq (A) (B)) * (D))), VT⟩] [(6, VNe g), (7, VNe g), (8, VNe g), (9, VNe g), (29, Vb (false)), (42, Vb (false)), (5, VRg 24 2 (Vz (N + 1)) g c (xs ++ [dq (A) (B)]))] a8 w8 := st8.cut
        clear he5 hv5 hrow hrm h2c hcm5 hg5 h0 hxc
        repeat first|refine wp_seq ?_|refine wp_block ?_|refine wp_skip ?_|refine wp_exit ?_
        have : Sb [(24, 2, 0), (24, 0, g)] (VRg 24 2 (Vz (N + 1)) g c (xs ++ [dq (A) (B)])) := ⟨Stab_VRg (fun x => Stab_Vz _ _) (by decide) (by first | (refine Or.inl ?_; simp; done) | (refine Or.inr ?_; simp; done))⟩
        refine rg (BT := [(24, 2, 0), (24, 0, g)]) (Vl := [Vz N (D), Vz (max N (N + N) + 1) ((C) - ((dq (A) (B)) * (D))), Vz N (B), Vz N (dr (A) (B)), VT, VT, VT, VT]) (B := [⟨6, none, some 4, 24, 2, Vz N (D), Vz N (A)⟩, ⟨7, none, some 5, 24, 2, Vz (max N (N + N) + 1) ((C) - ((dq (A) (B)) * (D))), Vz N (B)⟩, ⟨8, none, some 6, 24, 2, Vz N (B), Vz N (C)⟩, ⟨9, none, some 7, 24, 2, Vz N (dr (A) (B)), Vz N (D)⟩, ⟨10, none, none, 24, 2, Vz N (dq (A) (B)), VT⟩, ⟨11, none, none, 24, 2, Vz N (dr (A) (B)), VT⟩, ⟨12, none, none, 24, 2, Vz (max N (N + N) + 1) ((C) - ((dq (A) (B)) * (D))), VT⟩]) (SL' := [(6, VNe g), (7, VNe g), (8, VNe g), (9, VNe g), (29, Vb (false)), (42, Vb (false)), (5, VRg 24 2 (Vz (N + 1)) g c (xs ++ [dq (A) (B)]))]) st8 ⟨ks, ks, ks, ks, ?s4, ?s5, ?s6, ?s7, trivial⟩ ?_
        case s4 =>
          refine k_storeN_ (gp := g) rfl rfl rfl rfl rfl rfl ?_ rfl (by kernel_rfl) (by kernel_rfl) rfl (by kernel_rfl) (by simp) ?_ ?_ ?_ ?_; (exact rfl); (first | exact .inl ⟨by kernel_rfl, rfl, rfl⟩ | exact .inr ⟨rfl, by kernel_rfl⟩); (first | exact .inl rfl | exact .inr ⟨_, rfl, by kernel_rfl⟩); (first | exact .inl ⟨by kernel_rfl, rfl, rfl⟩ | exact .inr ⟨rfl, by kernel_rfl⟩); (first | exact trivial | exact ⟨by kernel_rfl, ⟨_, rfl⟩, rfl⟩)
        case s5 =>
          refine k_storeN_ (gp := g) rfl rfl rfl rfl rfl rfl ?_ rfl (by kernel_rfl) (by kernel_rfl) rfl (by kernel_rfl) (by simp) ?_ ?_ ?_ ?_; (exact rfl); (first | exact .inl ⟨by kernel_rfl, rfl, rfl⟩ | exact .inr ⟨rfl, by kernel_rfl⟩); (first | exact .inl rfl | exact .inr ⟨_, rfl, by kernel_rfl⟩); (first | exact .inl ⟨by kernel_rfl, rfl, rfl⟩ | exact .inr ⟨rfl, by kernel_rfl⟩); (first | exact trivial | exact ⟨by kernel_rfl, ⟨_, rfl⟩, rfl⟩)
        case s6 =>
          refine k_storeN_ (gp := g) rfl rfl rfl rfl rfl rfl ?_ rfl (by kernel_rfl) (by kernel_rfl) rfl (by kernel_rfl) (by simp) ?_ ?_ ?_ ?_; (exact rfl); (first | exact .inl ⟨by kernel_rfl, rfl, rfl⟩ | exact .inr ⟨rfl, by kernel_rfl⟩); (first | exact .inl rfl | exact .inr ⟨_, rfl, by kernel_rfl⟩); (first | exact .inl ⟨by kernel_rfl, rfl, rfl⟩ | exact .inr ⟨rfl, by kernel_rfl⟩); (first | exact trivial | exact ⟨by kernel_rfl, ⟨_, rfl⟩, rfl⟩)
        case s7 =>
          refine k_storeN_ (gp := g) rfl rfl rfl rfl rfl rfl ?_ rfl (by kernel_rfl) (by kernel_rfl) rfl (by kernel_rfl) (by simp) ?_ ?_ ?_ ?_; (exact rfl); (first | exact .inl ⟨by kernel_rfl, rfl, rfl⟩ | exact .inr ⟨rfl, by kernel_rfl⟩); (first | exact .inl rfl | exact .inr ⟨_, rfl, by kernel_rfl⟩); (first | exact .inl ⟨by kernel_rfl, rfl, rfl⟩ | exact .inr ⟨rfl, by kernel_rfl⟩); (first | exact trivial | exact ⟨by kernel_rfl, ⟨_, rfl⟩, rfl⟩)
        intro a9 w9 st9
        clear st8
        replace st9 : St w.heap.size w 57 [⟨6, none, none, 24, 2, Vz N (D), VT⟩, ⟨7, none, none, 24, 2, Vz (max N (N + N) + 1) ((C) - ((dq (A) (B)) * (D))), VT⟩, ⟨8, none, none, 24, 2, Vz N (B), VT⟩, ⟨9, none, none, 24, 2, Vz N (dr (A) (B)), VT⟩] [(5, VRg 24 2 (Vz (N + 1)) g c (xs ++ [dq (A) (B)])), (6, VNe g), (7, VNe g), (8, VNe g), (9, VNe g)] a9 w9 := st9.cut
        obtain ⟨k1, k2, k3, k4⟩ : (digs D.natAbs).length ≤ N ∧ (digs (C - dq A B * D).natAbs).length ≤ N ∧ (digs B.natAbs).length ≤ N ∧ (digs (dr A B).natAbs).length ≤ N := by
          cases m with
          | zero => exact hok.elim
          | succ m => exact ⟨hok.1, hok.2.1, hok.2.2.1, hok.2.2.2.1⟩
        exact ⟨m, by omega, xs ++ [dq A B], g, c, D, C - dq A B * D, B, dr A B, hgn, .inr (by simp), hR1, hok, by rw [List.length_append]; simp; omega, st9.weak [⟨6, none, none, 24, 2, Vz N (D), VT⟩, ⟨7, none, none, 24, 2, Vz N (C - dq A B * D), VT⟩, ⟨8, none, none, 24, 2, Vz N (B), VT⟩, ⟨9, none, none, 24, 2, Vz N (dr A B), VT⟩] (List.forall_mem_cons.2 ⟨⟨_, (.head _), rfl, rfl, rfl, rfl, rfl, rfl, rfl, fun _ _ h => Vz_fit h k1⟩, (List.forall_mem_cons.2 ⟨⟨_, (.tail _ (.head _)), rfl, rfl, rfl, rfl, rfl, rfl, rfl, fun _ _ h => Vz_fit h k2⟩, (List.forall_mem_cons.2 ⟨⟨_, (.tail _ (.tail _ (.head _))), rfl, rfl, rfl, rfl, rfl, rfl, rfl, fun _ _ h => Vz_fit h k3⟩, (List.forall_mem_cons.2 ⟨⟨_, (.tail _ (.tail _ (.tail _ (.head _)))), rfl, rfl, rfl, rfl, rfl, rfl, rfl, fun _ _ h => Vz_fit h k4⟩, (fun _ h => absurd h (by simp))⟩)⟩)⟩)⟩)⟩
      ·
        replace st7 : St w.heap.size w 57 [⟨6, none, none, 24, 2, Vz N (A), VT⟩, ⟨7, none, none, 24, 2, Vz N (B), VT⟩, ⟨8, none, none, 24, 2, Vz N (C), VT⟩, ⟨9, none, none, 24, 2, Vz N (D), VT⟩, ⟨10, none, none, 24, 2, Vz N (dq (A) (B)), VT⟩, ⟨11, none, none, 24, 2, Vz N (dr (A) (B)), VT⟩, ⟨12, none, none, 24, 2, Vz (max N (N + N) + 1) ((C) - ((dq (A) (B)) * (D))), VT⟩] [(5, VRg 24 2 (Vz (N + 1)) g c (xs)), (6, VNe g), (7, VNe g), (8, VNe g), (9, VNe g), (29, Vb (false)), (42, Vb (false))] a7 w7 := st7
        obtain ⟨lo, hlo⟩ : ∃ lo, w7.heap.size = lo := ⟨_, rfl⟩
        have hnlo : w.heap.size ≤ lo := by rw [← hlo]; exact st7.n
        replace st7 := st7.lt1 6 rfl rfl rfl
        replace st7 := st7.lt1 7 rfl rfl rfl
        replace st7 := st7.lt1 8 rfl rfl rfl
        replace st7 := st7.lt1 9 rfl rfl rfl
        replace st7 := st7.lt1 10 rfl rfl rfl
        replace st7 := st7.lt1 11 rfl rfl rfl
        replace st7 := st7.lt1 12 rfl rfl rfl
        rw [hlo] at st7
        replace st7 : St w.heap.size w 57 [⟨6, none, none, 24, 2, Vz N (A), VT⟩, ⟨7, none, none, 24, 2, Vz N (B), VT⟩, ⟨8, none, none, 24, 2, Vz N (C), VT⟩, ⟨9, none, none, 24, 2, Vz N (D), VT⟩, ⟨10, none, none, 24, 2, Vz N (dq (A) (B)), VT⟩, ⟨11, none, none, 24, 2, Vz N (dr (A) (B)), VT⟩, ⟨12, none, none, 24, 2, Vz (max N (N + N) + 1) ((C) - ((dq (A) (B)) * (D))), VT⟩] [(5, VRg 24 2 (Vz (N + 1)) g c (xs)), (6, VLt lo), (7, VLt lo), (8, VLt lo), (9, VLt lo), (29, Vb (false)), (42, Vb (false)), (10, VLt lo), (11, VLt lo), (12, VLt lo)] a7 w7 := st7.cut
        clear hlo
        repeat first|refine wp_seq ?_|refine wp_block ?_|refine wp_skip ?_|refine wp_exit ?_
        have : Sb [] (VRg 24 2 (Vz (N + 1)) g c (xs)) := ⟨Stab_VRg (fun x => Stab_Vz _ _) (by decide) (by first | (refine Or.inl ?_; simp; done) | (refine Or.inr ?_; simp; done))⟩
        have : Sb [] (VOn 24 2 (Vz (N + 1) (dq (A) (B)))) := ⟨Stab_VOn (Stab_Vz _ _) (by first | (simp; done) | (simp; omega))⟩
        have : Sb [] (VRx 24 2 (Vz (N + 1)) lo (xs ++ [dq (A) (B)])) := ⟨Stab_VRx (fun x => Stab_Vz _ _) (by decide) (by simp)⟩
        refine rg (BT := []) (Vl := [VRg 24 2 (Vz (N + 1)) g c (xs), Vz N (dq (A) (B)), VOn 24 2 (Vz (N + 1) (dq (A) (B))), VRx 24 2 (Vz (N + 1)) lo (xs ++ [dq (A) (B)]), VRx 24 2 (Vz (N + 1)) lo (xs ++ [dq (A) (B)])]) (B := [⟨6, none, none, 24, 2, Vz N (A), VT⟩, ⟨7, none, none, 24, 2, Vz N (B), VT⟩, ⟨8, none, none, 24, 2, Vz N (C), VT⟩, ⟨9, none, none, 24, 2, Vz N (D), VT⟩, ⟨10, none, none, 24, 2, Vz N (dq (A) (B)), VT⟩, ⟨11, none, none, 24, 2, Vz N (dr (A) (B)), VT⟩, ⟨12, none, none, 24, 2, Vz (max N (N + N) + 1) ((C) - ((dq (A) (B)) * (D))), VT⟩]) (SL' := [(6, VLt lo), (7, VLt lo), (8, VLt lo), (9, VLt lo), (29, Vb (false)), (42, Vb (false)), (10, VLt lo), (11, VLt lo), (12, VLt lo), (5, VRx 24 2 (Vz (N + 1)) lo (xs ++ [dq (A) (B)]))]) st7 ⟨?s0, ks, ?s2, ?s3, ks, trivial⟩ ?_
        case s0 =>
          refine k_run0 SbB.out (by kernel_rfl) fun listed ac Wd h hd hnl => ⟨trivial, ?_⟩
          obtain ⟨v0, hv0, hV0⟩ := h.out0 hnl (5, VRg 24 2 (Vz (N + 1)) g c (xs)) (.head _) 4 (by kernel_rfl) (.inr (by kernel_rfl))
          exact ⟨_, run_move rfl, by rw [hv0]; exact hV0⟩
        case s2 => refine km fun _ ac Wd h hd => ?_; obtain ⟨v0, hv0, hV0⟩ := h.dp hd 50; exact bslice_Int (N := N + 1) rfl hv0 (Vz_le hV0 (by omega))
        case s3 =>
          refine km fun _ ac Wd h hd => ?_
          obtain ⟨v0, hv0, hV0⟩ := h.dp hd 49
          obtain ⟨v1, hv1, hV1⟩ := h.dp hd 51
          obtain ⟨vq, -, hVq⟩ := h.ot 6
          exact app_grow rfl hv0 hV0 hv1 hV1 (fun x => Stab_Vz _ _) (by omega) hVq.1 hxl
        intro a8 w8 st8
        clear st7
        replace st8 : St w.heap.size w 57 [⟨6, none, none, 24, 2, Vz N (A), VT⟩, ⟨7, none, none, 24, 2, Vz N (B), VT⟩, ⟨8, none, none, 24, 2, Vz N (C), VT⟩, ⟨9, none, none, 24, 2, Vz N (D), VT⟩, ⟨10, none, none, 24, 2, Vz N (dq (A) (B)), VT⟩, ⟨11, none, none, 24, 2, Vz N (dr (A) (B)), VT⟩, ⟨12, none, none, 24, 2, Vz (max N (N + N) + 1) ((C) - ((dq (A) (B)) * (D))), VT⟩] [(6, VLt lo), (7, VLt lo), (8, VLt lo), (9, VLt lo), (29, Vb (false)), (42, Vb (false)), (10, VLt lo), (11, VLt lo), (12, VLt lo), (5, VRx 24 2 (Vz (N + 1)) lo (xs ++ [dq (A) (B)]))] a8 w8 := st8
        clear hrm
        obtain ⟨g2, c2, hg2, hc2, st8⟩ := st8.nameR 5 rfl
        replace st8 := st8.neR 6 rfl hg2
        replace st8 := st8.neR 7 rfl hg2
        replace st8 := st8.neR 8 rfl hg2
        replace st8 := st8.neR 9 rfl hg2
        replace st8 : St w.heap.size w 57 [⟨6, none, none, 24, 2, Vz N (A), VT⟩, ⟨7, none, none, 24, 2, Vz N (B), VT⟩, ⟨8, none, none, 24, 2, Vz N (C), VT⟩, ⟨9, none, none, 24, 2, Vz N (D), VT⟩, ⟨10, none, none, 24, 2, Vz N (dq (A) (B)), VT⟩, ⟨11, none, none, 24, 2, Vz N (dr (A) (B)), VT⟩, ⟨12, none, none, 24, 2, Vz (max N (N + N) + 1) ((C) - ((dq (A) (B)) * (D))), VT⟩] [(6, VNe g2), (7, VNe g2), (8, VNe g2), (9, VNe g2), (29, Vb (false)), (42, Vb (false)), (10, VLt lo), (11, VLt lo), (12, VLt lo), (5, VRg 24 2 (Vz (N + 1)) g2 c2 (xs ++ [dq (A) (B)]))] a8 w8 := st8.cut
        replace hgn : w.heap.size ≤ g2 := by omega
        clear hg2 hc2 hnlo hxc
        generalize g2 = gg at st8 hgn
        generalize c2 = cc at st8 hgn
        repeat first|refine wp_seq ?_|refine wp_block ?_|refine wp_skip ?_|refine wp_exit ?_
        have : Sb [(24, 2, 0), (24, 0, gg)] (VRg 24 2 (Vz (N + 1)) gg cc (xs ++ [dq (A) (B)])) := ⟨Stab_VRg (fun x => Stab_Vz _ _) (by decide) (by first | (refine Or.inl ?_; simp; done) | (refine Or.inr ?_; simp; done))⟩
        refine rg (BT := [(24, 2, 0), (24, 0, gg)]) (Vl := [Vz N (D), Vz (max N (N + N) + 1) ((C) - ((dq (A) (B)) * (D))), Vz N (B), Vz N (dr (A) (B)), VT, VT, VT, VT]) (B := [⟨6, none, some 4, 24, 2, Vz N (D), Vz N (A)⟩, ⟨7, none, some 5, 24, 2, Vz (max N (N + N) + 1) ((C) - ((dq (A) (B)) * (D))), Vz N (B)⟩, ⟨8, none, some 6, 24, 2, Vz N (B), Vz N (C)⟩, ⟨9, none, some 7, 24, 2, Vz N (dr (A) (B)), Vz N (D)⟩, ⟨10, none, none, 24, 2, Vz N (dq (A) (B)), VT⟩, ⟨11, none, none, 24, 2, Vz N (dr (A) (B)), VT⟩, ⟨12, none, none, 24, 2, Vz (max N (N + N) + 1) ((C) - ((dq (A) (B)) * (D))), VT⟩]) (SL' := [(6, VNe gg), (7, VNe gg), (8, VNe gg), (9, VNe gg), (29, Vb (false)), (42, Vb (false)), (10, VLt lo), (11, VLt lo), (12, VLt lo), (5, VRg 24 2 (Vz (N + 1)) gg cc (xs ++ [dq (A) (B)]))]) st8 ⟨ks, ks, ks, ks, ?s4, ?s5, ?s6, ?s7, trivial⟩ ?_
        case s4 =>
          refine k_storeN_ (gp := gg) rfl rfl rfl rfl rfl rfl ?_ rfl (by kernel_rfl) (by kernel_rfl) rfl (by kernel_rfl) (by simp) ?_ ?_ ?_ ?_; (exact rfl); (first | exact .inl ⟨by kernel_rfl, rfl, rfl⟩ | exact .inr ⟨rfl, by kernel_rfl⟩); (first | exact .inl rfl | exact .inr ⟨_, rfl, by kernel_rfl⟩); (first | exact .inl ⟨by kernel_rfl, rfl, rfl⟩ | exact .inr ⟨rfl, by kernel_rfl⟩); (first | exact trivial | exact ⟨by kernel_rfl, ⟨_, rfl⟩, rfl⟩)
        case s5 =>
          refine k_storeN_ (gp := gg) rfl rfl rfl rfl rfl rfl ?_ rfl (by kernel_rfl) (by kernel_rfl) rfl (by kernel_rfl) (by simp) ?_ ?_ ?_ ?_; (exact rfl); (first | exact .inl ⟨by kernel_rfl, rfl, rfl⟩ | exact .inr ⟨rfl, by kernel_rfl⟩); (first | exact .inl rfl | exact .inr ⟨_, rfl, by kernel_rfl⟩); (first | exact .inl ⟨by kernel_rfl, rfl, rfl⟩ | exact .inr ⟨rfl, by kernel_rfl⟩); (first | exact trivial | exact ⟨by kernel_rfl, ⟨_, rfl⟩, rfl⟩)
        case s6 =>
          refine k_storeN_ (gp := gg) rfl rfl rfl rfl rfl rfl ?_ rfl (by kernel_rfl) (by kernel_rfl) rfl (by kernel_rfl) (by simp) ?_ ?_ ?_ ?_; (exact rfl); (first | exact .inl ⟨by kernel_rfl, rfl, rfl⟩ | exact .inr ⟨rfl, by kernel_rfl⟩); (first | exact .inl rfl | exact .inr ⟨_, rfl, by kernel_rfl⟩); (first | exact .inl ⟨by kernel_rfl, rfl, rfl⟩ | exact .inr ⟨rfl, by kernel_rfl⟩); (first | exact trivial | exact ⟨by kernel_rfl, ⟨_, rfl⟩, rfl⟩)
        case s7 =>
          refine k_storeN_ (gp := gg) rfl rfl rfl rfl rfl rfl ?_ rfl (by kernel_rfl) (by kernel_rfl) rfl (by kernel_rfl) (by simp) ?_ ?_ ?_ ?_; (exact rfl); (first | exact .inl ⟨by kernel_rfl, rfl, rfl⟩ | exact .inr ⟨rfl, by kernel_rfl⟩); (first | exact .inl rfl | exact .inr ⟨_, rfl, by kernel_rfl⟩); (first | exact .inl ⟨by kernel_rfl, rfl, rfl⟩ | exact .inr ⟨rfl, by kernel_rfl⟩); (first | exact trivial | exact ⟨by kernel_rfl, ⟨_, rfl⟩, rfl⟩)
        intro a9 w9 st9
        clear st8
        replace st9 : St w.heap.size w 57 [⟨6, none, none, 24, 2, Vz N (D), VT⟩, ⟨7, none, none, 24, 2, Vz (max N (N + N) + 1) ((C) - ((dq (A) (B)) * (D))), VT⟩, ⟨8, none, none, 24, 2, Vz N (B), VT⟩, ⟨9, none, none, 24, 2, Vz N (dr (A) (B)), VT⟩] [(5, VRg 24 2 (Vz (N + 1)) gg cc (xs ++ [dq (A) (B)])), (6, VNe gg), (7, VNe gg), (8, VNe gg), (9, VNe gg)] a9 w9 := st9.cut
        obtain ⟨k1, k2, k3, k4⟩ : (digs D.natAbs).length ≤ N ∧ (digs (C - dq A B * D).natAbs).length ≤ N ∧ (digs B.natAbs).length ≤ N ∧ (digs (dr A B).natAbs).length ≤ N := by
          cases m with
          | zero => exact hok.elim
          | succ m => exact ⟨hok.1, hok.2.1, hok.2.2.1, hok.2.2.2.1⟩
        exact ⟨m, by omega, xs ++ [dq A B], gg, cc, D, C - dq A B * D, B, dr A B, hgn, .inr (by simp), hR1, hok, by rw [List.length_append]; simp; omega, st9.weak [⟨6, none, none, 24, 2, Vz N (D), VT⟩, ⟨7, none, none, 24, 2, Vz N (C - dq A B * D), VT⟩, ⟨8, none, none, 24, 2, Vz N (B), VT⟩, ⟨9, none, none, 24, 2, Vz N (dr A B), VT⟩] (List.forall_mem_cons.2 ⟨⟨_, (.head _), rfl, rfl, rfl, rfl, rfl, rfl, rfl, fun _ _ h => Vz_fit h k1⟩, (List.forall_mem_cons.2 ⟨⟨_, (.tail _ (.head _)), rfl, rfl, rfl, rfl, rfl, rfl, rfl, fun _ _ h => Vz_fit h k2⟩, (List.forall_mem_cons.2 ⟨⟨_, (.tail _ (.tail _ (.head _))), rfl, rfl, rfl, rfl, rfl, rfl, rfl, fun _ _ h => Vz_fit h k3⟩, (List.forall_mem_cons.2 ⟨⟨_, (.tail _ (.tail _ (.tail _ (.head _)))), rfl, rfl, rfl, rfl, rfl, rfl, rfl, fun _ _ h => Vz_fit h k4⟩, (fun _ h => absurd h (by simp))⟩)⟩)⟩)⟩)⟩
end Go.Proofs.YtleijkgdpmfabaaGreatDoor
