/- Take of the reference; numbers of any digits; a list of six. -/
import Derived.Test.YtleijkgdpmfabaaGreatDoorQX1
import Derived.Test.YtleijkgdpmfabaaGreatDoorM38
set_option linter.unusedVariables false
namespace Go.Proofs.YtleijkgdpmfabaaGreatDoor
open Go.RowKit

/-- integers that came in, with their room -/
def VIc (l : List Int) : VP := fun v w => (v = .slice none 0 0 ∧ l = []) ∨ (∃ x, v = .slice (some x) 0 0 ∧ l = []) ∨ ∃ b o c, v = .slice (some ⟨b, o, none⟩) l.length c ∧ l.length ≤ c ∧ 0 < c ∧ c ≤ 9223372036854775807 ∧ Rdi w (some ⟨b, o, none⟩) l
/-- integers that are read -/
def VSr (l : List Int) : VP := fun v w => (v = .slice none 0 0 ∧ l = []) ∨ ∃ x c, v = .slice (some x) l.length c ∧ Rdi w (some x) l
/-- integers in a row -/
def VLn (N : Nat) (l : List Int) : VP := fun v w => ∃ p n c, v = .slice p n c ∧ Rdi w p l ∧ n = l.length ∧ n ≤ c ∧ c ≤ 9223372036854775807 ∧ n ≤ N
theorem Stab_VLn {BT : List (TypeId × Nat × Nat)} (N : Nat) (l : List Int) : Stab BT (VLn N l) := fun _ _ _ ⟨p, n, c, h1, h2, h3⟩ hr => ⟨p, n, c, h1, Rdi_RI hr h2, h3⟩
instance {BT : List (TypeId × Nat × Nat)} (N : Nat) (l : List Int) : Sb BT (VLn N l) := ⟨Stab_VLn N l⟩
theorem Stab_VIc {BT : List (TypeId × Nat × Nat)} (l : List Int) : Stab BT (VIc l) := fun _ _ _ h hr => h.imp id (.imp id fun ⟨b, o, c, h1, h2, h3, h4, h5⟩ => ⟨b, o, c, h1, h2, h3, h4, Rdi_RI hr h5⟩)
instance {BT : List (TypeId × Nat × Nat)} (l : List Int) : Sb BT (VIc l) := ⟨Stab_VIc l⟩
theorem Stab_VSr {BT : List (TypeId × Nat × Nat)} (l : List Int) : Stab BT (VSr l) := fun _ _ _ h hr => h.imp id fun ⟨x, c, h1, h2⟩ => ⟨x, c, h1, Rdi_RI hr h2⟩
instance {BT : List (TypeId × Nat × Nat)} (l : List Int) : Sb BT (VSr l) := ⟨Stab_VSr l⟩
section
variable {ρ : Operand → Value} {o : Oper} {W : World} {x y : Operand} {va vb : Value} {l : List Int}
theorem len_VIc (ho : o.op = .call { callee := .builtin .len, args := #[x], argTypes := #[22] }) (hty : o.type = 3) (hx : ρ x = va) (h : VIc l va W) : ∃ v, (execOp ρ o).run Tryz.prog W = .ok (.value v) W ∧ Vi (l.length : Int) v W := by
  obtain ⟨p, c, rfl⟩ : ∃ p c, va = .slice p l.length c := by
    rcases h with ⟨rfl, rfl⟩ | ⟨z, rfl, rfl⟩ | ⟨b, o, c, rfl, -⟩
    · exact ⟨_, _, rfl⟩
    · exact ⟨_, _, rfl⟩
    · exact ⟨_, _, rfl⟩
  refine ⟨.int .i64 (l.length : Int), ?_, rfl⟩
  clear h
  generalize l.length = m at *
  obtain ⟨dd, op, ty, ps, af, gd⟩ := o
  subst ho
  simp only at hty
  subst hty
  go_simp
theorem min_iv {n k m : Nat} (hm : m = min n k) (ho : o.op = .call { callee := .builtin .min, args := #[x, y], argTypes := #[3, 3] }) (_hty : o.type = 3) (hx : ρ x = va) (hy : ρ y = vb) (h1 : Vi (n : Int) va W) (h2 : Vi (k : Int) vb W) : ∃ v, (execOp ρ o).run Tryz.prog W = .ok (.value v) W ∧ Vi (m : Int) v W := by
  obtain rfl : va = _ := h1
  obtain rfl : vb = _ := h2
  refine ⟨.int .i64 (m : Int), ?_, rfl⟩
  have e : (if (k : Int) < (n : Int) then (k : Int) else (n : Int)) = (m : Int) := by split <;> omega
  unfold execOp
  simp only [ho, resolve, invoke, builtin, Sem.run_bind, Sem.run_pure, Result.andThen_ok, List.map_toArray, List.map_cons, List.map_nil, hx, hy, run_min_int2, e]
theorem take_VIc {m : Nat} (ho : o.op = .slice 22 x none (some y) none) (hx : ρ x = va) (h : VIc l va W) (hy : ρ y = vb) (hn : Vi (m : Int) vb W) (hm : m ≤ l.length) : ∃ v, (execOp ρ o).run Tryz.prog W = .ok (.value v) W ∧ VSr (l.take m) v W := by
  obtain rfl : vb = _ := hn
  rcases h with ⟨rfl, rfl⟩ | ⟨z, rfl, rfl⟩ | ⟨b, off, c, rfl, h1, h2, h3, h4⟩
  · obtain rfl : m = 0 := by simpa using hm
    refine ⟨.slice none 0 0, ?_, .inl ⟨rfl, rfl⟩⟩
    obtain ⟨dd, op, ty, ps, af, gd⟩ := o
    subst ho
    go_simp
  · obtain rfl : m = 0 := by simpa using hm
    refine ⟨.slice (some z) 0 0, ?_, .inr ⟨z, 0, rfl, .inl rfl⟩⟩
    obtain ⟨dd, op, ty, ps, af, gd⟩ := o
    subst ho
    go_simp
  · have hl : (l.take m).length = m := by rw [List.length_take]; omega
    refine ⟨.slice (some ⟨b, off, none⟩) m c, ?_, .inr ⟨_, c, by rw [hl], Rdi_take h4 m⟩⟩
    have q2 : (m : Int) ≤ (c : Int) := by omega
    have q4 : ¬ c = 0 := by omega
    have q3 : (l.length : Int) ≤ (c : Int) := by omega
    have q1 : (m : Int) ≤ (l.length : Int) := by omega
    clear hl h4 h1 h2 h3 hm
    generalize l.length = n at *
    obtain ⟨dd, op, ty, ps, af, gd⟩ := o
    subst ho
    go_simp
/-- integers laid into new memory -/
theorem app_nilI (ho : o.op = .call { callee := .builtin .append, args := #[x, y], argTypes := #[22, 22] }) (hx : ρ x = va) (h1 : VEq (.slice none 0 0) va W) (hy : ρ y = vb) (h2 : VSr l vb W) (hl : l.length ≤ 1000000) : ∃ v w', (execOp ρ o).run Tryz.prog W = .ok (.value v) w' ∧ Below W.heap.size W w' ∧ VLn l.length l v w' := by
  obtain rfl : va = _ := h1
  rcases h2 with ⟨rfl, rfl⟩ | ⟨z, c, rfl, hR⟩
  · refine ⟨.slice none 0 0, W, ?_, Below.refl _ _, ⟨none, 0, 0, rfl, .inl rfl, rfl, Nat.le_refl _, by omega, Nat.le_refl _⟩⟩
    obtain ⟨dd, op, ty, ps, af, gd⟩ := o
    subst ho
    go_simp
  · obtain ⟨i0, hi, hz0, hz1, hz2⟩ := info_parts info_i64
    obtain ⟨v', w', hrun, ho', hg, -⟩ := run_append_own (P := Tryz.prog) W W.heap.size 22 o.type 3 i0 (.int .i64 0) 1 8 Tryz.underlying22 hi hz0 hz1 hz2 rfl (by decide) (.slice none 0 0) 0 [] (World.ownsRow_nil _ _ _ _) z l.length c (zvs l) (by simp [zvs]) (fun j u hj => by
      have hj' : j < l.length := by
        rcases Nat.lt_or_ge j l.length with h | h
        · exact h
        · rw [List.getElem?_eq_none (by simpa [zvs] using h)] at hj; cases hj
      obtain ⟨b, off, e, hc⟩ := Rdi_at hR j hj'
      cases e
      rw [add_lit0, hc]
      simpa [zvs, iat, List.getD_eq_getElem?_getD, hj'] using hj) (by intro u hu; simp [zvs] at hu; obtain ⟨b, -, rfl⟩ := hu; rfl) (by unfold maxLen; omega) (by omega) (Nat.le_refl _)
    have hrow : w'.ownsRow W.heap.size 3 1 v' l.length (zvs l) := by simpa using ho'
    obtain ⟨p, n, c', rfl, hR', hn, hc, hm, -⟩ := own_sl hrow
    refine ⟨_, w', ?_, ?_, ⟨p, n, c', rfl, hR', hn.symm, hc, hm, by omega⟩⟩
    · unfold execOp
      simp only [ho, resolve, invoke, builtin, Sem.run_bind, Sem.run_pure, Result.andThen_ok, List.map_toArray, List.map_cons, List.map_nil, hx, hy, hrun]
    · exact (Below.refl _ _).grown hg (Nat.le_refl _) fun k hk => by cases hk
end
theorem VZr_val {N : Nat} {nb : Bool} {l : List Int} {v : Value} {w : World} (h : VZr N nb l v w) (hv : vld nb l = true) : Vz N (sg nb (val l)) v w := by
  obtain ⟨p, n, c, rfl, hR, hn, hc, hm, hN⟩ := h
  unfold vld at hv
  rw [Bool.and_eq_true, List.all_eq_true] at hv
  obtain ⟨h1, h2⟩ := hv
  have hd : Dg l := fun i hi => by
    have := h1 (iat l i) (by rw [iat_mem hi]; exact List.getElem_mem hi)
    simpa using this
  by_cases hl : l = []
  · subst hl
    rw [if_pos rfl] at h2
    obtain rfl : nb = false := by simpa using h2
    obtain rfl : n = 0 := hn
    show Vz N 0 _ _
    exact ⟨false, p, 0, c, rfl, ⟨rfl, by rw [show (0 : Int).natAbs = 0 from rfl, digs_zero]; rfl, by rw [show (0 : Int).natAbs = 0 from rfl, digs_zero]; exact .inl rfl, by omega, hm⟩, by omega⟩
  · rw [if_neg hl] at h2
    have hpos := List.length_pos_iff.2 hl
    have ht : tlen l = l.length := tlen_of l l.length (Nat.le_refl _) (fun i h1 h2 => by omega) (.inr (by simpa using h2))
    have hI := made_is (neg := nb) hR hd (by omega) (by omega : l.length ≤ c) hm
    rw [ht, ← hn] at hI
    exact ⟨nb, p, n, c, rfl, hI, hN⟩
/-- a numerator and a denominator, or what is no denominator -/
def VNm (N : Nat) : (Int × Int) ⊕ (Int × Bool × List Int) → VP
  | .inl (x, y) => VP2 2 2 (Vz N x) (Vz N y)
  | .inr (x, nb, l) => fun v w => VP2 2 2 (Vz N x) (VZr N nb l) v w ∧ vld nb l = false
/-- .. whether it is a number -/
def nmv : (Int × Int) ⊕ (Int × Bool × List Int) → Bool
  | .inl (x, y) => decide (y = 0 ∨ (1 < y ∧ Int.gcd x y = 1))
  | .inr _ => false
theorem Stab_VNm {BT : List (TypeId × Nat × Nat)} (N : Nat) (z : (Int × Int) ⊕ (Int × Bool × List Int)) : Stab BT (VNm N z) := by
  match z with
  | .inl (x, y) => exact Stab_VP2 (Stab_Vz _ _) (Stab_Vz _ _)
  | .inr (x, nb, l) => exact fun v w w' h hr => ⟨Stab_VP2 (Stab_Vz _ _) (Stab_VZr _ _ _) _ _ _ h.1 hr, h.2⟩
theorem AggV_VNm (N : Nat) (z : (Int × Int) ⊕ (Int × Bool × List Int)) : AggV 4 (VNm N z) := by
  match z with
  | .inl (x, y) => exact AggV_VP2 (AggV_Vz _ _) (AggV_Vz _ _)
  | .inr (x, nb, l) => exact fun v w h => AggV_VP2 (AggV_Vz _ _) (AggV_VZr _ _ _) v w h.1
instance {BT : List (TypeId × Nat × Nat)} (N : Nat) (z : (Int × Int) ⊕ (Int × Bool × List Int)) : Sb BT (VNm N z) := ⟨Stab_VNm N z⟩
instance (N : Nat) (z : (Int × Int) ⊕ (Int × Bool × List Int)) : Ag (VNm N z) 4 := ⟨AggV_VNm N z⟩
theorem cQValidN {W : World} {N : Nat} {z : (Int × Int) ⊕ (Int × Bool × List Int)} {v : Value} (h : VNm N z v W) (h3 : 3 ≤ N) (hN : N ≤ 100000) : Calls Tryz.prog 16 #[v] W (RV (Vb (nmv z)) W) := by
  match z, h with
  | .inl (x, y), h => exact cQValidZ h h3 hN
  | .inr (x, nb, l), h => exact cQValidR h.1 h3 hN h.2
theorem cR4ValidN {W : World} {N : Nat} {z : (Int × Int) ⊕ (Int × Bool × List Int)} {v : Value} (h : VNm N z v W) (h3 : 3 ≤ N) (hN : N ≤ 100000) : Calls Tryz.prog 17 #[v] W (RV (Vb (nmv z)) W) := by
  match z, h with
  | .inl (x, y), h => exact cR4ValidZ h h3 hN
  | .inr (x, nb, l), h => exact cR4ValidR h.1 h3 hN h.2
theorem Stab_VSlQ {BT : List (TypeId × Nat × Nat)} {N : Nat} {xs : List ((Int × Int) ⊕ (Int × Bool × List Int))} (hn : ∀ e ∈ BT, e.1 ≠ 27) : Stab BT (VSl 27 4 (VNm N) xs) := fun _ _ _ ⟨h, o, c, cs, e1, e2, e3, e4, e5, e6⟩ hr => ⟨h, o, c, cs, e1, e2, e3, (hr.row h cs _ e4 (.inl fun e he q => absurd q (hn e he))).trans e4, e5, fun i x hx => Stab_VNm _ _ _ _ _ (e6 i x hx) hr⟩
theorem Stab_VEpQ {BT : List (TypeId × Nat × Nat)} {N : Nat} {z : (Int × Int) ⊕ (Int × Bool × List Int)} (hn : ∀ e ∈ BT, e.1 ≠ 27) : Stab BT (VEp 27 4 (VNm N z)) := fun _ _ _ ⟨h, o, cs, e1, e2, e3, e4⟩ hr => ⟨h, o, cs, e1, (hr.row h cs _ e2 (.inl fun e he q => absurd q (hn e he))).trans e2, e3, Stab_VNm _ _ _ _ _ e4 hr⟩
section
variable {ρ : Operand → Value} {o : Oper} {W : World} {x y : Operand} {va vb : Value} {α : Type} {E : α → VP} {xs : List α}
theorem len_SlQ (ho : o.op = .call { callee := .builtin .len, args := #[x], argTypes := #[33] }) (_hty : o.type = 3) (hx : ρ x = va) (h : VSl 27 4 E xs va W) : ∃ v, (execOp ρ o).run Tryz.prog W = .ok (.value v) W ∧ Vi (xs.length : Int) v W := by
  obtain ⟨hh, oo, c, cs, rfl, -⟩ := h
  refine ⟨.int .i64 (xs.length : Int), ?_, rfl⟩
  obtain ⟨dd, op, ty, ps, af, gd⟩ := o
  subst ho
  simp only at _hty
  subst _hty
  go_simp
theorem index_SlQ {z : α} {j : Nat} (ho : o.op = .indexAddr 33 x y) (hx : ρ x = va) (h : VSl 27 4 E xs va W) (hy : ρ y = vb) (hb : Vi (j : Int) vb W) (hz : xs[j]? = some z) : ∃ v, (execOp ρ o).run Tryz.prog W = .ok (.value v) W ∧ VEp 27 4 (E z) v W := by
  obtain ⟨b, off, c, rfl, h2⟩ := VSl_el h hz
  obtain rfl : vb = _ := hb
  refine ⟨.pointer (some ⟨b, off + 4 * j, none⟩), ?_, h2⟩
  have hj : j < xs.length := by
    rcases Nat.lt_or_ge j xs.length with h' | h'
    · exact h'
    · rw [List.getElem?_eq_none h'] at hz; cases hz
  have hj2 : (j : Int) < (xs.length : Int) := by omega
  have hm : j * 4 = 4 * j := Nat.mul_comm _ _
  clear h h2 hz
  generalize xs.length = n at *
  obtain ⟨dd, op, ty, ps, af, gd⟩ := o
  subst ho
  go_simp
theorem load_EpQ {A : VP} (ho : o.op = .load 27 x) (hx : ρ x = va) (h : VEp 27 4 A va W) (hA : Stab [] A) : ∃ v, (execOp ρ o).run Tryz.prog W = .ok (.value v) W ∧ A v W :=
  load_Ep (w := W) (T := 27) (k := 4) ho hx h (Below.refl _ _) hA Tryz.underlying27 rfl size_Rat
theorem arr_part {cs c : Array Value} {W : World} {N : Nat} {z : (Int × Int) ⊕ (Int × Bool × List Int)} {w' : World} (hb : Below W.heap.size W w') (h : VNm N z (.agg c) W) (e : cs = c) : VNm N z (.agg cs) w' := by
  subst e; exact Stab_VNm (BT := []) _ _ _ _ _ h (RI.of_below hb)
theorem bslice_Q6 {N : Nat} {x0 x1 x2 x3 x4 x5 : Operand} {v0 v1 v2 v3 v4 v5 : Value} {z0 z1 z2 z3 z4 z5 : (Int × Int) ⊕ (Int × Bool × List Int)} (ho : o.op = .buildSlice 33 6 #[(0, x0), (1, x1), (2, x2), (3, x3), (4, x4), (5, x5)]) (e0 : ρ x0 = v0) (e1 : ρ x1 = v1) (e2 : ρ x2 = v2) (e3 : ρ x3 = v3) (e4 : ρ x4 = v4) (e5 : ρ x5 = v5)
    (h0 : VNm N z0 v0 W) (h1 : VNm N z1 v1 W) (h2 : VNm N z2 v2 W) (h3 : VNm N z3 v3 W) (h4 : VNm N z4 v4 W) (h5 : VNm N z5 v5 W) :
    ∃ v w', (execOp ρ o).run Tryz.prog W = .ok (.value v) w' ∧ Below W.heap.size W w' ∧ VSl 27 4 (VNm N) [z0, z1, z2, z3, z4, z5] v w' := by
  obtain ⟨c0, rfl, s0, -⟩ := AggV_VNm _ _ _ _ h0
  obtain ⟨c1, rfl, s1, -⟩ := AggV_VNm _ _ _ _ h1
  obtain ⟨c2, rfl, s2, -⟩ := AggV_VNm _ _ _ _ h2
  obtain ⟨c3, rfl, s3, -⟩ := AggV_VNm _ _ _ _ h3
  obtain ⟨c4, rfl, s4, -⟩ := AggV_VNm _ _ _ _ h4
  obtain ⟨c5, rfl, s5, -⟩ := AggV_VNm _ _ _ _ h5
  obtain ⟨a0, b0, c0, d0, rfl⟩ := arr4 s0
  obtain ⟨a1, b1, c1, d1, rfl⟩ := arr4 s1
  obtain ⟨a2, b2, c2, d2, rfl⟩ := arr4 s2
  obtain ⟨a3, b3, c3, d3, rfl⟩ := arr4 s3
  obtain ⟨a4, b4, c4, d4, rfl⟩ := arr4 s4
  obtain ⟨a5, b5, c5, d5, rfl⟩ := arr4 s5
  have hb := below_new W (.cells #[a0, b0, c0, d0, a1, b1, c1, d1, a2, b2, c2, d2, a3, b3, c3, d3, a4, b4, c4, d4, a5, b5, c5, d5] 27)
  refine ⟨.slice (some ⟨W.heap.size, 0, none⟩) 6 6, _, ?_, hb, ⟨_, 0, 6, _, rfl, Nat.le_refl _, by omega, heap_alloc_new _ _, Nat.le_refl _, fun i z hz => ?_⟩⟩
  · clear h0 h1 h2 h3 h4 h5 hb
    obtain ⟨dd, op, ty, ps, af, gd⟩ := o
    subst ho
    go_simp
  · match i, hz with
    | 0, hz => cases hz; exact arr_part hb h0 rfl
    | 1, hz => cases hz; exact arr_part hb h1 rfl
    | 2, hz => cases hz; exact arr_part hb h2 rfl
    | 3, hz => cases hz; exact arr_part hb h3 rfl
    | 4, hz => cases hz; exact arr_part hb h4 rfl
    | 5, hz => cases hz; exact arr_part hb h5 rfl
    | i + 6, hz => cases hz
end
theorem VLn_le {N M : Nat} {l : List Int} {v : Value} {w : World} (h : VLn N l v w) (hM : N ≤ M) : VLn M l v w := by
  obtain ⟨p, n, c, h1, h2, h3, h4, h5, h6⟩ := h
  exact ⟨p, n, c, h1, h2, h3, h4, h5, Nat.le_trans h6 hM⟩

set_option maxRecDepth 100000 in
set_option maxHeartbeats 1600000 in
theorem cTake5 {w : World} {l : List Int} {v0 v1 : Value} (h0 : VIc l v0 w) (h1 : Vi (5) v1 w)  : Calls Tryz.prog 12 #[v0, v1] w (RV (VLn 5 (l.take (min l.length 5))) w) := by
  go_enter Tryz.func12, Tryz.ntmps12
  have st0 : St w.heap.size w 14 [] [(0, VIc l), (1, Vi (5))] _ w := St.begin (a := ⟨#[v0, v1, undef, undef, undef, undef, undef, undef, undef, undef, undef, undef, undef, undef], []⟩) rfl rfl (List.forall_mem_cons.2 ⟨⟨_, rfl, h0⟩, (List.forall_mem_cons.2 ⟨⟨_, rfl, h1⟩, (fun _ h => absurd h (by simp))⟩)⟩)
  generalize (⟨#[v0, v1, undef, undef, undef, undef, undef, undef, undef, undef, undef, undef, undef, undef], []⟩ : Act) = a0 at st0 ⊢
  have hlt : (l.take (min l.length 5)).length ≤ 5 := by rw [List.length_take]; omega
  repeat first | refine wp_seq ?_ | refine wp_block ?_ | refine wp_skip ?_ | refine wp_exit ?_
  refine rg (BT := []) (Vl := [VEq (.slice none 0 0)]) (B := []) (SL' := [(0, VIc l), (1, Vi (5)), (4, VEq (.slice none 0 0))]) st0 ⟨ks, trivial⟩ ?_
  intro a1 w1 st1
  clear st0
  repeat first | refine wp_seq ?_ | refine wp_block ?_ | refine wp_skip ?_ | refine wp_exit ?_
  refine rg (BT := []) (Vl := [VEq (.slice none 0 0)]) (B := []) (SL' := [(0, VIc l), (1, Vi (5)), (4, VEq (.slice none 0 0)), (5, VEq (.slice none 0 0))]) st1 ⟨ks, trivial⟩ ?_
  intro a2 w2 st2
  clear st1
  repeat first | refine wp_seq ?_ | refine wp_block ?_ | refine wp_skip ?_ | refine wp_exit ?_
  refine rg (BT := []) (Vl := [VEq (.slice none 0 0), VIc l, VIc l, Vi ((l.length : Int)), Vi (5), Vi (((min l.length 5 : Nat) : Int)), VSr (l.take (min l.length 5)), VLn (l.take (min l.length 5)).length (l.take (min l.length 5)), VLn (l.take (min l.length 5)).length (l.take (min l.length 5))]) (B := []) (SL' := [(0, VIc l), (1, Vi (5)), (4, VLn (l.take (min l.length 5)).length (l.take (min l.length 5)))]) st2 ⟨ks, ks, ks, ?s3, ks, ?s5, ?s6, ?s7, ks, trivial⟩ ?_
  case s3 => refine kr fun _ ac Wd h hd => ?_; obtain ⟨v0, hv0, hV0⟩ := h.dp hd 8; exact len_VIc rfl rfl hv0 hV0
  case s5 => refine kr fun _ ac Wd h hd => ?_; obtain ⟨v0, hv0, hV0⟩ := h.dp hd 9; obtain ⟨v1, hv1, hV1⟩ := h.dp hd 10; exact min_iv rfl rfl rfl hv0 hv1 hV0 hV1
  case s6 => refine kr fun _ ac Wd h hd => ?_; obtain ⟨v0, hv0, hV0⟩ := h.dp hd 7; obtain ⟨v1, hv1, hV1⟩ := h.dp hd 11; exact take_VIc rfl hv0 hV0 hv1 hV1 (Nat.min_le_left _ _)
  case s7 => refine km fun _ ac Wd h hd => ?_; obtain ⟨v0, hv0, hV0⟩ := h.dp hd 6; obtain ⟨v1, hv1, hV1⟩ := h.dp hd 12; exact app_nilI rfl hv0 hV0 hv1 hV1 (by omega)
  intro a3 w3 st3
  clear st2
  repeat first | refine wp_seq ?_ | refine wp_block ?_ | refine wp_skip ?_ | refine wp_exit ?_
  obtain ⟨vr, r1, r4⟩ := st3.slot (4, VLn (l.take (min l.length 5)).length (l.take (min l.length 5))) (.tail _ (.tail _ (.head _)))
  exact wp_ret (bodyPost_ret (results_tmp rfl _ _ _) st3.defers ⟨_, congrArg Ending.returned (show _ = vr from r1), (VLn_le r4 hlt), st3.k.below⟩)
end Go.Proofs.YtleijkgdpmfabaaGreatDoor
