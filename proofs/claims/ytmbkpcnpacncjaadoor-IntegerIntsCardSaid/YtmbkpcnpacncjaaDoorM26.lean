/- Contracts of the package integer and its reference: The operations of that region. -/
import Derived.Test.YtmbkpcnpacncjaaDoorM25
import Derived.Test.YtmbkpcnpacncjaaDoorM22
set_option linter.unusedVariables false
namespace Go.Proofs.YtmbkpcnpacncjaaDoor
open Go Go.RowKit

section
variable {ρ : Operand → Value} {o : Oper} {W : World} {x y : Operand} {va vb : Value}
theorem j_field (f g : Nat) (hf : f = 0 ∨ f = 1) (ho : o.op = .fieldAddr 24 x f) (hx : ρ x = .pointer (some ⟨g, 0, none⟩)) : (execOp ρ o).run Tryd.prog W = .ok (.value (.pointer (some ⟨g, f, none⟩))) W := by
  obtain ⟨dd, op, ty, ps, af, gd⟩ := o
  subst ho
  rcases hf with rfl | rfl <;> go_simp
theorem j_load {T : TypeId} {d : TypeDesc} {p : Addr} {u : Value} (ho : o.op = .load T x) (hu : Tryd.prog.underlying T = some d) (hd : aggT d = false) (hx : ρ x = .pointer (some p)) (hc : W.cell? p = some u) : (execOp ρ o).run Tryd.prog W = .ok (.value u) W := by
  have hagg : (isAgg T).run Tryd.prog W = .ok false W := by
    unfold isAgg
    rw [Sem.run_bind, run_underlying hu W]
    cases d <;> first | rfl | cases hd
  unfold execOp
  simp only [ho, hx, Instr.loadAt, Instr.sureAddr, Sem.run_bind, Sem.run_pure, Result.andThen_ok, loadVar, hagg]
  simp only [Bool.false_eq_true, if_false, run_load, hc, Result.andThen_ok]
theorem j_bs0 (ho : o.op = .buildSlice 22 0 #[]) : (execOp ρ o).run Tryd.prog W = .ok (.value (.slice (some ⟨W.heap.size, 0, none⟩) 0 0)) (W.alloc (.cells #[] 3)) := by
  obtain ⟨dd, op, ty, ps, af, gd⟩ := o
  subst ho
  go_simp
theorem j_bs5 (ho : o.op = .buildSlice 22 5 #[(0, .const (.int .i64 0)), (1, .const (.int .i64 1)), (2, .const (.int .i64 (-1))), (3, .const (.int .i64 999999999)), (4, .const (.int .i64 1000000000))]) (hρ : ∀ n, ρ (.const (.int .i64 n)) = .int .i64 n) : (execOp ρ o).run Tryd.prog W = .ok (.value (.slice (some ⟨W.heap.size, 0, none⟩) 5 5)) (W.alloc (.cells #[.int .i64 0, .int .i64 1, .int .i64 (-1), .int .i64 999999999, .int .i64 1000000000] 3)) := by
  obtain ⟨dd, op, ty, ps, af, gd⟩ := o
  subst ho
  go_simp
theorem j_bs1 {k : Int} (ho : o.op = .buildSlice 22 1 #[(0, x)]) (hx : ρ x = .int .i64 k) : (execOp ρ o).run Tryd.prog W = .ok (.value (.slice (some ⟨W.heap.size, 0, none⟩) 1 1)) (W.alloc (.cells #[.int .i64 k] 3)) := by
  obtain ⟨dd, op, ty, ps, af, gd⟩ := o
  subst ho
  go_simp
theorem j_index {g j : Nat} (ho : o.op = .indexAddr 22 x y) (hx : ρ x = .slice (some ⟨g, 0, none⟩) 5 5) (hy : ρ y = .int .i64 (j : Int)) (hj : j < 5) : (execOp ρ o).run Tryd.prog W = .ok (.value (.pointer (some ⟨g, j, none⟩))) W := by
  have hj2 : (j : Int) < 5 := by omega
  obtain ⟨dd, op, ty, ps, af, gd⟩ := o
  subst ho
  go_simp
theorem j_app1 {B g : Nat} {ds : List Int} {px : Option Addr} {cx : Nat} (ho : o.op = .call { callee := .builtin .append, args := #[x, y], argTypes := #[22, 22] }) (hx : ρ x = .slice (some ⟨g, 0, none⟩) 0 0) (hy : ρ y = .slice px ds.length cx) (h4 : W.ownsRow B 3 1 (.slice (some ⟨g, 0, none⟩) 0 0) 0 []) (hR : Rdi W px ds) (hl : ds.length ≤ 1000000) (hB : B ≤ W.heap.size) :
    ∃ v w', (execOp ρ o).run Tryd.prog W = .ok (.value v) w' ∧ Below W.heap.size W w' ∧ w'.ownsRow B 3 1 v ds.length (zvs ds) := by
  by_cases hd : ds = []
  · subst hd
    refine ⟨.slice (some ⟨g, 0, none⟩) 0 0, W, ?_, Below.refl _ _, h4⟩
    have e : (execOp ρ o).run Tryd.prog W = .ok (.value (.slice (some ⟨g, 0, none⟩) 0 0)) W := by
      cases px <;> (obtain ⟨dd, op, ty, ps, af, gd⟩ := o; subst ho; simp only [List.length_nil] at hy; go_simp)
    exact e
  · have hpos : 0 < ds.length := List.length_pos_iff.2 hd
    obtain ⟨i0, hi, hz0, hz1, hz2⟩ := info_parts info_i64
    rcases hR with h | ⟨b, off, rfl, hc⟩
    · exact absurd h hd
    · have hr := run_append_grow (P := Tryd.prog) W 22 o.type 3 i0 (.int .i64 0) Tryd.underlying22 hi hz0 ⟨g, 0, none⟩ 0 0 [] (by simp) (fun j u hj => by simp at hj) ⟨b, off, none⟩ ds.length cx (zvs ds) (by rw [zvs_length, hz1]; omega) (Rdi_news hc) (by omega) (by omega) (by rw [hz2]; have := nextslicecap_le (show 0 < 0 + ds.length by omega); omega)
      have hge := grownCap_ge W (0 + ds.length) 0 3
      have hcm : grownCap W (0 + ds.length) 0 3 ≤ maxLen := grownCap_le_maxLen W (0 + ds.length) 0 3 (by unfold maxLen; omega)
      rw [Nat.zero_add] at hr hge hcm
      obtain ⟨X, hX⟩ : ∃ X, #[] ++ (zvs ds).toArray ++ Builtin.zeroCells (Value.int .i64 0).cells (grownCap W (ds.length) 0 3 - (ds.length)) = X := ⟨_, rfl⟩
      have hr2 : (Builtin.append_ #[22, 22] o.type #[.slice (some ⟨g, 0, none⟩) 0 0, .slice (some ⟨b, off, none⟩) ds.length cx]).run Tryd.prog W = .ok (.slice (some ⟨W.heap.size, 0, none⟩) (ds.length) (grownCap W (ds.length) 0 3)) (W.drew.alloc (.cells X 3)) := by rw [← hX]; exact hr
      refine ⟨.slice (some ⟨W.heap.size, 0, none⟩) (ds.length) (grownCap W (ds.length) 0 3), W.drew.alloc (.cells X 3), ?_, (below_drewN (Below.refl _ W) 1).alloc (Nat.le_refl _) _, ?_⟩
      · unfold execOp
        simp only [ho, resolve, invoke, builtin, Sem.run_bind, Sem.run_pure, Result.andThen_ok, List.map_toArray, List.map_cons, List.map_nil, hx, hy, hr2]
      · refine ⟨by rw [zvs_length]; omega, .inr ⟨W.heap.size, grownCap W (ds.length) 0 3, _, rfl, hB, heap_alloc_new W.drew _, by omega, hcm, ?_, ?_⟩⟩
        · rw [← hX]; simp [zvs_length, Value.cells, size_zeroCells]; omega
        · rw [← hX]; simp; rw [List.take_append_of_le_length (by rw [zvs_length]; omega), List.take_of_length_le (by rw [zvs_length]; omega)]
theorem j_app2 {B g : Nat} {ds : List Int} {v7 : Value} {k : Int} (ho : o.op = .call { callee := .builtin .append, args := #[x, y], argTypes := #[22, 22] }) (hx : ρ x = v7) (hy : ρ y = .slice (some ⟨g, 0, none⟩) 1 1) (h7 : W.ownsRow B 3 1 v7 ds.length (zvs ds)) (hc : W.cell? ⟨g, 0, none⟩ = some (.int .i64 k)) (hl : ds.length ≤ 6) (hB : B ≤ W.heap.size) :
    ∃ v w', (execOp ρ o).run Tryd.prog W = .ok (.value v) w' ∧ W.grownBy w' v7.ownBlock ∧ VLn 7 (ds ++ [k]) v w' := by
  obtain ⟨i0, hi, hz0, hz1, hz2⟩ := info_parts info_i64
  obtain ⟨v', w', hrun, ho', hg, -⟩ := run_append_own (P := Tryd.prog) W B 22 o.type 3 i0 (.int .i64 0) 1 8 Tryd.underlying22 hi hz0 hz1 hz2 rfl (by decide) v7 ds.length (zvs ds) h7 ⟨g, 0, none⟩ 1 1 [.int .i64 k] rfl (fun j u hj => by
    match j, hj with
    | 0, hj => rw [show (⟨g, 0, none⟩ : Addr).add 0 = ⟨g, 0, none⟩ from rfl, hc]; exact hj
    | j + 1, hj => simp at hj) (by intro u hu; simp at hu; subst hu; rfl) (by unfold maxLen; omega) (by omega) hB
  have hrow : w'.ownsRow B 3 1 v' (ds ++ [k]).length (zvs (ds ++ [k])) := by
    have e : zvs (ds ++ [k]) = zvs ds ++ [.int .i64 k] := by simp [zvs]
    rw [e, List.length_append]; exact ho'
  obtain ⟨p, n, c', rfl, hR', hn, hc, hm, -⟩ := own_sl hrow
  refine ⟨_, w', ?_, hg, ⟨p, n, c', rfl, hR', hn.symm, hc, hm, by rw [← hn, List.length_append, List.length_singleton]; omega⟩⟩
  unfold execOp
  simp only [ho, resolve, invoke, builtin, Sem.run_bind, Sem.run_pure, Result.andThen_ok, List.map_toArray, List.map_cons, List.map_nil, hx, hy, hrun]
end
theorem cell_bs5 (W : World) (j : Nat) (hj : j < 5) : (W.alloc (.cells #[.int .i64 0, .int .i64 1, .int .i64 (-1), .int .i64 999999999, .int .i64 1000000000] 3)).cell? ⟨W.heap.size, j, none⟩ = some (.int .i64 (five j)) := by
  unfold World.cell?
  rw [show (⟨W.heap.size, j, none⟩ : Addr).block = W.heap.size from rfl, heap_alloc_new]
  match j, hj with
  | 0, _ => rfl
  | 1, _ => rfl
  | 2, _ => rfl
  | 3, _ => rfl
  | 4, _ => rfl
theorem cell_bs1 (W : World) (k : Int) : (W.alloc (.cells #[.int .i64 k] 3)).cell? ⟨W.heap.size, 0, none⟩ = some (.int .i64 k) := by
  unfold World.cell?
  rw [show (⟨W.heap.size, 0, none⟩ : Addr).block = W.heap.size from rfl, heap_alloc_new]
  rfl
theorem tm3 (k : Int) : -2 ≤ Int.tmod k 3 ∧ Int.tmod k 3 ≤ 2 := by
  have h1 := Int.tmod_lt_of_pos k (show (0 : Int) < 3 by decide)
  have h2 := Int.lt_tmod_of_pos k (show (0 : Int) < 3 by decide)
  omega
theorem j_app1_k {ρ : Operand → Value} {o : Oper} {W : World} {x y : Operand} {B g : Nat} {ds : List Int} {px : Option Addr} {cx : Nat} {M : Value → World → Prop} (ho : o.op = .call { callee := .builtin .append, args := #[x, y], argTypes := #[22, 22] }) (hx : ρ x = .slice (some ⟨g, 0, none⟩) 0 0) (hy : ρ y = .slice px ds.length cx) (h4 : W.ownsRow B 3 1 (.slice (some ⟨g, 0, none⟩) 0 0) 0 []) (hR : Rdi W px ds) (hl : ds.length ≤ 1000000) (hB : B ≤ W.heap.size)
    (K : ∀ v w', Below W.heap.size W w' → w'.ownsRow B 3 1 v ds.length (zvs ds) → M v w') : ∃ v w', (execOp ρ o).run Tryd.prog W = .ok (.value v) w' ∧ M v w' := by
  obtain ⟨v, w', h1, h2, h3⟩ := j_app1 ho hx hy h4 hR hl hB
  exact ⟨v, w', h1, K v w' h2 h3⟩
theorem j_app2_k {ρ : Operand → Value} {o : Oper} {W : World} {x y : Operand} {B g : Nat} {ds : List Int} {v7 : Value} {k : Int} {M : Value → World → Prop} (ho : o.op = .call { callee := .builtin .append, args := #[x, y], argTypes := #[22, 22] }) (hx : ρ x = v7) (hy : ρ y = .slice (some ⟨g, 0, none⟩) 1 1) (h7 : W.ownsRow B 3 1 v7 ds.length (zvs ds)) (hc : W.cell? ⟨g, 0, none⟩ = some (.int .i64 k)) (hl : ds.length ≤ 6) (hB : B ≤ W.heap.size)
    (K : ∀ v w', W.grownBy w' v7.ownBlock → VLn 7 (ds ++ [k]) v w' → M v w') : ∃ v w', (execOp ρ o).run Tryd.prog W = .ok (.value v) w' ∧ M v w' := by
  obtain ⟨v, w', h1, h2, h3⟩ := j_app2 ho hx hy h7 hc hl hB
  exact ⟨v, w', h1, K v w' h2 h3⟩
theorem j_build_k {ρ : Operand → Value} {o : Oper} {W : World} {x y : Operand} {va vb : Value} {N : Nat} {nb : Bool} {l : List Int} {M : Value → World → Prop} (ho : o.op = .build 24 #[(0, x), (1, y)]) (hx : ρ x = va) (h1 : Vb nb va W) (hy : ρ y = vb) (h2 : VLn N l vb W) (K : ∀ v, VZr N nb l v W → M v W) : ∃ v w', (execOp ρ o).run Tryd.prog W = .ok (.value v) w' ∧ M v w' := by
  obtain ⟨v, z1, z2⟩ := build_IntDN ho hx h1 hy h2
  exact ⟨v, W, z1, K v z2⟩
section
variable {ρ : Operand → Value} {o : Oper} {W : World} {x y : Operand} {a b : Int}
theorem run_remt (ho : o.op = .binOp .rem 3 x y 3) (hx : ρ x = .int .i64 a) (hy : ρ y = .int .i64 b) (hb : 1 < b) (hb2 : b < 1000) : (execOp ρ o).run Tryd.prog W = .ok (.value (.int .i64 (Int.tmod a b))) W := by
  have hb0 : ¬ b = 0 := by omega
  have hb1 : ¬ b = -1 := by omega
  generalize hq : Int.tmod a b = q
  clear hb hb2
  obtain ⟨d, op, ty, ps, af, gd⟩ := o
  subst ho
  go_simp
end
theorem five_nat {k : Int} (h0 : 0 ≤ arn k 5) (h1 : arn k 5 < 5) : ∃ j : Nat, j < 5 ∧ arn k 5 = (j : Int) := ⟨(arn k 5).toNat, by omega, by omega⟩
theorem cRSmall {W : World} {N : Nat} {x : Int} {v : Value} (h : Vz N x v W) (hN : N ≤ 1000000) : Calls Tryd.prog 13 #[v] W (RV (VTup (Vi (smv x)) (Vb (smb x))) W) := by
  obtain ⟨nb, p, n, c, rfl, hI, hn⟩ := h
  exact (rSmall_any nb p n c x W hI (by omega)).mono fun e w' h => ⟨_, h.1, ⟨_, _, rfl, rfl, rfl⟩, h.2⟩
theorem cSmallT {W : World} {N : Nat} {x : Int} {v : Value} (h : Vz N x v W) (hN : N ≤ 1000000) : Calls Tryd.prog 12 #[v] W (RV (VTup (Vi (smv x)) (Vb (smb x))) W) :=
  (cSmall h hN).mono fun e w' ⟨v1, v2, h1, h2, h3, h4⟩ => ⟨_, h1, ⟨_, _, rfl, h2, h3⟩, h4⟩
end Go.Proofs.YtmbkpcnpacncjaaDoor
