/- Contracts of the package integer and its reference: Values that IntegerInts lays into a list. The region of IntegerInts that appends twice: what is known of a slot hangs on what has run. -/
import Derived.Test.YtmbkpcnpacncjaaDoorM24
import Derived.Test.YtmbkpcnpacncjaaDoorM15
import Derived.Test.YtmbkpcnpacncjaaDoorM20
import Derived.Test.YtmbkpcnpacncjaaDoorM22
set_option linter.unusedVariables false
namespace Go.Proofs.YtmbkpcnpacncjaaDoor
open Go Go.RowKit

section
variable {BT : List (TypeId × Nat × Nat)}
/-- an integer of any digits -/
def VZr (N : Nat) (nb : Bool) (l : List Int) : VP := fun v w => ∃ p n c, v = .agg #[.bool nb, .slice p n c] ∧ Rdi w p l ∧ n = l.length ∧ n ≤ c ∧ c ≤ 9223372036854775807 ∧ n ≤ N
theorem Stab_VZr (N : Nat) (nb : Bool) (l : List Int) : Stab BT (VZr N nb l) := fun _ _ _ ⟨p, n, c, h1, h2, h3⟩ hr => ⟨p, n, c, h1, Rdi_RI hr h2, h3⟩
instance (N : Nat) (nb : Bool) (l : List Int) : Sb BT (VZr N nb l) := ⟨Stab_VZr N nb l⟩
theorem AggV_VZr (N : Nat) (nb : Bool) (l : List Int) : AggV 2 (VZr N nb l) := by
  rintro v w ⟨p, n, c, rfl, -⟩
  refine ⟨_, rfl, rfl, fun i x h => ?_, by simp [Value.oneCell']⟩
  match i with
  | 0 => simp at h
  | 1 => simp at h
  | i + 2 => simp at h
instance (N : Nat) (nb : Bool) (l : List Int) : Ag (VZr N nb l) 2 := ⟨AggV_VZr N nb l⟩
theorem cR3ValidR {W : World} {N : Nat} {nb : Bool} {l : List Int} {v : Value} (h : VZr N nb l v W) (hbad : vld nb l = false) (hN : N ≤ 1000000) : Calls Tryd.prog 11 #[v] W (RV (Vb false) W) := by
  obtain ⟨p, n, c, rfl, hR, hn, -, -, hnN⟩ := h
  have := rValid_any nb p n c l W hR hn (by omega)
  rw [hbad] at this
  exact this.mono fun e w' h => ⟨_, h.1, rfl, h.2⟩
theorem cZValidR {W : World} {N : Nat} {nb : Bool} {l : List Int} {v : Value} (h : VZr N nb l v W) (hbad : vld nb l = false) (hN : N ≤ 1000000) : Calls Tryd.prog 10 #[v] W (RV (Vb false) W) := by
  obtain ⟨p, n, c, rfl, hR, hn, -, -, hnN⟩ := h
  have := Valid_any nb p n c l W hR hn (by omega)
  rw [hbad] at this
  exact this.mono fun e w' h => ⟨_, h.1, rfl, h.2⟩

end
/-- a slice that is only read -/
def VSl {α : Type} (T : TypeId) (k : Nat) (E : α → VP) (xs : List α) : VP := fun v w => ∃ h o c cs, v = .slice (some ⟨h, o, none⟩) xs.length c ∧ xs.length ≤ c ∧ c ≤ 9223372036854775807 ∧ w.heap[h]? = some (.cells cs T (0, 0)) ∧ o + k * xs.length ≤ cs.size ∧ ∀ i x, xs[i]? = some x → E x (.agg (cs.extract (o + k * i) (o + k * i + k))) w
/-- an element's address -/
def VEp (T : TypeId) (k : Nat) (A : VP) : VP := fun v w => ∃ h off cs, v = .pointer (some ⟨h, off, none⟩) ∧ w.heap[h]? = some (.cells cs T (0, 0)) ∧ off + k ≤ cs.size ∧ A (.agg (cs.extract off (off + k))) w
theorem add_lit0 (b o j : Nat) : (⟨b, o, none⟩ : Addr).add j = ⟨b, o + j, none⟩ := by unfold Addr.add; split <;> simp_all
section
variable {BT : List (TypeId × Nat × Nat)} {α : Type} {T : TypeId} {k : Nat} {E : α → VP} {xs : List α} {w W : World} {v : Value} {A : VP}
theorem VSl_el (h : VSl T k E xs v w) {i : Nat} {x : α} (hx : xs[i]? = some x) : ∃ b o c, v = .slice (some ⟨b, o, none⟩) xs.length c ∧ VEp T k (E x) (.pointer (some ⟨b, o + k * i, none⟩)) w := by
  obtain ⟨hh, o, c, cs, e1, e2, e3, e4, e5, e6⟩ := h
  have hi : i < xs.length := by
    rcases Nat.lt_or_ge i xs.length with h' | h'
    · exact h'
    · rw [List.getElem?_eq_none h'] at hx; cases hx
  have hle : k * i + k ≤ k * xs.length := by rw [← Nat.mul_succ]; exact Nat.mul_le_mul_left k hi
  exact ⟨hh, o, c, e1, hh, _, cs, rfl, e4, by omega, e6 i x hx⟩
theorem load_Ep {ρ : Operand → Value} {o : Oper} {x : Operand} {va : Value} {d : TypeDesc} (ho : o.op = .load T x) (hx : ρ x = va) (h : VAt w (VEp T k A) va W) (hb : Below w.heap.size w W) (hA : Stab [] A) (hu : Tryd.prog.underlying T = some d) (hd : aggT d = true) (hi : (Tryd.prog.info? T).map (·.size) = some k) : ∃ v, (execOp ρ o).run Tryd.prog W = .ok (.value v) W ∧ A v W := by
  obtain ⟨g, off, cs, rfl, e2, e3, e4⟩ := h
  refine ⟨_, ?_, hA _ _ _ e4 (RI.of_below hb)⟩
  have e5 := (hb.block _ (lt_blk e2)).trans e2
  unfold execOp
  simp only [ho, hx, Instr.loadAt, Instr.sureAddr, Sem.run_bind, Sem.run_pure, Result.andThen_ok, run_loadVar_part W g off k T T cs (0, 0) d e5 e3 hu hd hi]
end
/-- integers that came in, with their room -/
def VIc (l : List Int) : VP := fun v w => (v = .slice none 0 0 ∧ l = []) ∨ (∃ x, v = .slice (some x) 0 0 ∧ l = []) ∨ ∃ b o c, v = .slice (some ⟨b, o, none⟩) l.length c ∧ l.length ≤ c ∧ 0 < c ∧ c ≤ 9223372036854775807 ∧ Rdi w (some ⟨b, o, none⟩) l
/-- integers that are read -/
def VSr (l : List Int) : VP := fun v w => (v = .slice none 0 0 ∧ l = []) ∨ ∃ x c, v = .slice (some x) l.length c ∧ Rdi w (some x) l
/-- integers in a row -/
def VLn (N : Nat) (l : List Int) : VP := fun v w => ∃ p n c, v = .slice p n c ∧ Rdi w p l ∧ n = l.length ∧ n ≤ c ∧ c ≤ 9223372036854775807 ∧ n ≤ N
theorem Stab_VLn {BT : List (TypeId × Nat × Nat)} (N : Nat) (l : List Int) : Stab BT (VLn N l) := fun _ _ _ ⟨p, n, c, h1, h2, h3⟩ hr => ⟨p, n, c, h1, Rdi_RI hr h2, h3⟩
instance {BT : List (TypeId × Nat × Nat)} (N : Nat) (l : List Int) : Sb BT (VLn N l) := ⟨Stab_VLn N l⟩
theorem Stab_VIc {BT : List (TypeId × Nat × Nat)} (l : List Int) : Stab BT (VIc l) := fun _ _ _ h hr => h.imp id (.imp id fun ⟨b, o, c, h1, h2, h3, h4, h5⟩ => ⟨b, o, c, h1, h2, h3, h4, Rdi_RI hr h5⟩)
instance {BT : List (TypeId × Nat × Nat)} (l : List Int) : Sb BT (VIc l) := ⟨Stab_VIc l⟩
theorem Stab_VSr {BT : List (TypeId × Nat × Nat)} (l : List Int) : Stab BT (VSr l) := fun _ _ _ h hr => h.imp id fun ⟨x, c, h1, h2⟩ => ⟨x, c, h1, Rdi_RI hr h2⟩
instance {BT : List (TypeId × Nat × Nat)} (l : List Int) : Sb BT (VSr l) := ⟨Stab_VSr l⟩
section
variable {ρ : Operand → Value} {o : Oper} {W : World} {x y : Operand} {va vb : Value} {l : List Int}
theorem len_VIc (ho : o.op = .call { callee := .builtin .len, args := #[x], argTypes := #[22] }) (hty : o.type = 3) (hx : ρ x = va) (h : VIc l va W) : ∃ v, (execOp ρ o).run Tryd.prog W = .ok (.value v) W ∧ Vi (l.length : Int) v W := by
  obtain ⟨p, c, rfl⟩ : ∃ p c, va = .slice p l.length c := by
    rcases h with ⟨rfl, rfl⟩ | ⟨z, rfl, rfl⟩ | ⟨b, o, c, rfl, -⟩
    · exact ⟨_, _, rfl⟩
    · exact ⟨_, _, rfl⟩
    · exact ⟨_, _, rfl⟩
  refine ⟨.int .i64 (l.length : Int), ?_, rfl⟩
  clear h
  generalize l.length = m at *
  obtain ⟨dd, op, ty, ps, af, gd⟩ := o
  subst ho
  simp only at hty
  subst hty
  go_simp
theorem min_iv {n k m : Nat} (hm : m = min n k) (ho : o.op = .call { callee := .builtin .min, args := #[x, y], argTypes := #[3, 3] }) (_hty : o.type = 3) (hx : ρ x = va) (hy : ρ y = vb) (h1 : Vi (n : Int) va W) (h2 : Vi (k : Int) vb W) : ∃ v, (execOp ρ o).run Tryd.prog W = .ok (.value v) W ∧ Vi (m : Int) v W := by
  obtain rfl : va = _ := h1
  obtain rfl : vb = _ := h2
  refine ⟨.int .i64 (m : Int), ?_, rfl⟩
  have e : (if (k : Int) < (n : Int) then (k : Int) else (n : Int)) = (m : Int) := by split <;> omega
  unfold execOp
  simp only [ho, resolve, invoke, builtin, Sem.run_bind, Sem.run_pure, Result.andThen_ok, List.map_toArray, List.map_cons, List.map_nil, hx, hy, run_min_int2, e]
theorem take_VIc {m : Nat} (ho : o.op = .slice 22 x none (some y) none) (hx : ρ x = va) (h : VIc l va W) (hy : ρ y = vb) (hn : Vi (m : Int) vb W) (hm : m ≤ l.length) : ∃ v, (execOp ρ o).run Tryd.prog W = .ok (.value v) W ∧ VSr (l.take m) v W := by
  obtain rfl : vb = _ := hn
  rcases h with ⟨rfl, rfl⟩ | ⟨z, rfl, rfl⟩ | ⟨b, off, c, rfl, h1, h2, h3, h4⟩
  · obtain rfl : m = 0 := by simpa using hm
    refine ⟨.slice none 0 0, ?_, .inl ⟨rfl, rfl⟩⟩
    obtain ⟨dd, op, ty, ps, af, gd⟩ := o
    subst ho
    go_simp
  · obtain rfl : m = 0 := by simpa using hm
    refine ⟨.slice (some z) 0 0, ?_, .inr ⟨z, 0, rfl, .inl rfl⟩⟩
    obtain ⟨dd, op, ty, ps, af, gd⟩ := o
    subst ho
    go_simp
  · have hl : (l.take m).length = m := by rw [List.length_take]; omega
    refine ⟨.slice (some ⟨b, off, none⟩) m c, ?_, .inr ⟨_, c, by rw [hl], Rdi_take h4 m⟩⟩
    have q2 : (m : Int) ≤ (c : Int) := by omega
    have q4 : ¬ c = 0 := by omega
    have q3 : (l.length : Int) ≤ (c : Int) := by omega
    have q1 : (m : Int) ≤ (l.length : Int) := by omega
    clear hl h4 h1 h2 h3 hm
    generalize l.length = n at *
    obtain ⟨dd, op, ty, ps, af, gd⟩ := o
    subst ho
    go_simp
/-- integers laid into new memory -/
theorem app_nilI (ho : o.op = .call { callee := .builtin .append, args := #[x, y], argTypes := #[22, 22] }) (hx : ρ x = va) (h1 : VEq (.slice none 0 0) va W) (hy : ρ y = vb) (h2 : VSr l vb W) (hl : l.length ≤ 1000000) : ∃ v w', (execOp ρ o).run Tryd.prog W = .ok (.value v) w' ∧ Below W.heap.size W w' ∧ VLn l.length l v w' := by
  obtain rfl : va = _ := h1
  rcases h2 with ⟨rfl, rfl⟩ | ⟨z, c, rfl, hR⟩
  · refine ⟨.slice none 0 0, W, ?_, Below.refl _ _, ⟨none, 0, 0, rfl, .inl rfl, rfl, Nat.le_refl _, by omega, Nat.le_refl _⟩⟩
    obtain ⟨dd, op, ty, ps, af, gd⟩ := o
    subst ho
    go_simp
  · obtain ⟨i0, hi, hz0, hz1, hz2⟩ := info_parts info_i64
    obtain ⟨v', w', hrun, ho', hg, -⟩ := run_append_own (P := Tryd.prog) W W.heap.size 22 o.type 3 i0 (.int .i64 0) 1 8 Tryd.underlying22 hi hz0 hz1 hz2 rfl (by decide) (.slice none 0 0) 0 [] (World.ownsRow_nil _ _ _ _) z l.length c (zvs l) (by simp [zvs]) (fun j u hj => by
      have hj' : j < l.length := by
        rcases Nat.lt_or_ge j l.length with h | h
        · exact h
        · rw [List.getElem?_eq_none (by simpa [zvs] using h)] at hj; cases hj
      obtain ⟨b, off, e, hc⟩ := Rdi_at hR j hj'
      cases e
      rw [add_lit0, hc]
      simpa [zvs, iat, List.getD_eq_getElem?_getD, hj'] using hj) (by intro u hu; simp [zvs] at hu; obtain ⟨b, -, rfl⟩ := hu; rfl) (by unfold maxLen; omega) (by omega) (Nat.le_refl _)
    have hrow : w'.ownsRow W.heap.size 3 1 v' l.length (zvs l) := by simpa using ho'
    obtain ⟨p, n, c', rfl, hR', hn, hc, hm, -⟩ := own_sl hrow
    refine ⟨_, w', ?_, ?_, ⟨p, n, c', rfl, hR', hn.symm, hc, hm, by omega⟩⟩
    · unfold execOp
      simp only [ho, resolve, invoke, builtin, Sem.run_bind, Sem.run_pure, Result.andThen_ok, List.map_toArray, List.map_cons, List.map_nil, hx, hy, hrun]
    · exact (Below.refl _ _).grown hg (Nat.le_refl _) fun k hk => by cases hk
end
theorem VZr_val {N : Nat} {nb : Bool} {l : List Int} {v : Value} {w : World} (h : VZr N nb l v w) (hv : vld nb l = true) : Vz N (sg nb (val l)) v w := by
  obtain ⟨p, n, c, rfl, hR, hn, hc, hm, hN⟩ := h
  unfold vld at hv
  rw [Bool.and_eq_true, List.all_eq_true] at hv
  obtain ⟨h1, h2⟩ := hv
  have hd : Dg l := fun i hi => by
    have := h1 (iat l i) (by rw [iat_mem hi]; exact List.getElem_mem hi)
    simpa using this
  by_cases hl : l = []
  · subst hl
    rw [if_pos rfl] at h2
    obtain rfl : nb = false := by simpa using h2
    obtain rfl : n = 0 := hn
    show Vz N 0 _ _
    exact ⟨false, p, 0, c, rfl, ⟨rfl, by rw [show (0 : Int).natAbs = 0 from rfl, digs_zero]; rfl, by rw [show (0 : Int).natAbs = 0 from rfl, digs_zero]; exact .inl rfl, by omega, hm⟩, by omega⟩
  · rw [if_neg hl] at h2
    have hpos := List.length_pos_iff.2 hl
    have ht : tlen l = l.length := tlen_of l l.length (Nat.le_refl _) (fun i h1 h2 => by omega) (.inr (by simpa using h2))
    have hI := made_is (neg := nb) hR hd (by omega) (by omega : l.length ≤ c) hm
    rw [ht, ← hn] at hI
    exact ⟨nb, p, n, c, rfl, hI, hN⟩
theorem VLn_le {N M : Nat} {l : List Int} {v : Value} {w : World} (h : VLn N l v w) (hM : N ≤ M) : VLn M l v w := by
  obtain ⟨p, n, c, h1, h2, h3, h4, h5, h6⟩ := h
  exact ⟨p, n, c, h1, h2, h3, h4, h5, Nat.le_trans h6 hM⟩

theorem build_IntDN {ρ : Operand → Value} {o : Oper} {W : World} {x y : Operand} {va vb : Value} {N : Nat} {nb : Bool} {l : List Int} (ho : o.op = .build 24 #[(0, x), (1, y)]) (hx : ρ x = va) (h1 : Vb nb va W) (hy : ρ y = vb) (h2 : VLn N l vb W) : ∃ v, (execOp ρ o).run Tryd.prog W = .ok (.value v) W ∧ VZr N nb l v W := by
  obtain ⟨p, n, c, rfl, h3⟩ := h2
  obtain rfl : va = _ := h1
  refine ⟨.agg #[.bool nb, .slice p n c], ?_, ⟨p, n, c, rfl, h3⟩⟩
  obtain ⟨dd, op, ty, ps, af, gd⟩ := o
  subst ho
  go_simp
section
variable {n0 N : Nat} {w0 : World} {L : List Bd} {SL : List (Nat × VP)} {a : Act} {w : World}
/-- what is below from here on stays -/
theorem St.base (h : St n0 w0 N L SL a w) (SL' : List (Nat × VP)) (hs : ∀ p ∈ SL', ∃ v, a.tmps[p.1]? = some v ∧ p.2 v w) : Below n0 w0 w ∧ St w.heap.size w N [] SL' a w :=
  ⟨h.k.below, ⟨⟨Below.refl _ _, fun b hb => absurd hb (by simp), fun b hb => absurd hb (by simp), fun b hb => absurd hb (by simp)⟩, Nat.le_refl _, h.size, h.defers, hs⟩⟩
/-- a box is an address -/
theorem St.boxAt (h : St n0 w0 N L SL a w) {b : Bd} (hb : b ∈ L) (hia : b.ia = none) (hik : b.ik = none) : ∃ g, a.tmps[b.t]? = some (.pointer (some ⟨g, 0, none⟩)) ∧ n0 ≤ g ∧ g < w.heap.size ∧ ∃ cs, w.heap[g]? = some (.cells cs b.T (0, 0)) ∧ cs.size = b.m ∧ NoInt cs ∧ b.P (.agg cs) w := by
  obtain ⟨g, cs, e1, e2, e3, e4, e5, e6, -⟩ := h.k.ok b hb (by rw [hia]; rfl)
  exact ⟨g, e1, e2, lt_blk e3, cs, e3, e4, e5, e6 (by rw [hik]; rfl)⟩
theorem VEp_box {T : TypeId} {k g : Nat} {A : VP} {cs : Array Value} (h1 : w.heap[g]? = some (.cells cs T (0, 0))) (h2 : cs.size = k) (h3 : A (.agg cs) w) : VEp T k A (.pointer (some ⟨g, 0, none⟩)) w :=
  ⟨g, 0, cs, rfl, h1, by omega, by rw [Nat.zero_add, ← h2, Array.extract_size]; exact h3⟩
end
/-- an integer, or what is none -/
def VNi (N : Nat) : Int ⊕ (Bool × List Int) → VP
  | .inl x => Vz N x
  | .inr (nb, l) => fun v w => VZr N nb l v w ∧ vld nb l = false
/-- .. whether it is one -/
def nvi : Int ⊕ (Bool × List Int) → Bool
  | .inl _ => true
  | .inr _ => false
theorem Stab_VNi {BT : List (TypeId × Nat × Nat)} (N : Nat) (z : Int ⊕ (Bool × List Int)) : Stab BT (VNi N z) := by
  match z with
  | .inl x => exact Stab_Vz _ _
  | .inr (nb, l) => exact fun v w w' h hr => ⟨Stab_VZr _ _ _ _ _ _ h.1 hr, h.2⟩
theorem AggV_VNi (N : Nat) (z : Int ⊕ (Bool × List Int)) : AggV 2 (VNi N z) := by
  match z with
  | .inl x => exact AggV_Vz _ _
  | .inr (nb, l) => exact fun v w h => AggV_VZr _ _ _ v w h.1
instance {BT : List (TypeId × Nat × Nat)} (N : Nat) (z : Int ⊕ (Bool × List Int)) : Sb BT (VNi N z) := ⟨Stab_VNi N z⟩
instance (N : Nat) (z : Int ⊕ (Bool × List Int)) : Ag (VNi N z) 2 := ⟨AggV_VNi N z⟩
theorem raw_ni {N : Nat} (nb : Bool) (l : List Int) : ∃ z, ∀ (v : Value) (w : World), VZr N nb l v w → VNi N z v w := by
  by_cases hv : vld nb l = true
  · exact ⟨.inl (sg nb (val l)), fun v w h => VZr_val h hv⟩
  · exact ⟨.inr (nb, l), fun v w h => ⟨h, by simpa using hv⟩⟩
theorem VZr_le {N M : Nat} {nb : Bool} {l : List Int} {v : Value} {w : World} (h : VZr N nb l v w) (hM : N ≤ M) : VZr M nb l v w := by
  obtain ⟨p, n, c, h1, h2, h3, h4, h5, h6⟩ := h
  exact ⟨p, n, c, h1, h2, h3, h4, h5, by omega⟩
theorem cR3ValidZ {W : World} {N : Nat} {z : Int} {v : Value} (h : Vz N z v W) (hN : N ≤ 1000000) : Calls Tryd.prog 11 #[v] W (RV (Vb true) W) := by
  obtain ⟨nb, p, n, c, rfl, hI, hn⟩ := h
  have := rValid_any nb p n c _ W hI.2.2.1 hI.2.1 (by omega)
  rw [vld_int hI.1] at this
  exact this.mono fun e w' h => ⟨_, h.1, rfl, h.2⟩
theorem cZValidN {W : World} {N : Nat} {z : Int ⊕ (Bool × List Int)} {v : Value} (h : VNi N z v W) (hN : N ≤ 1000000) : Calls Tryd.prog 10 #[v] W (RV (Vb (nvi z)) W) := by
  match z, h with
  | .inl x, h => exact cZValid h hN
  | .inr (nb, l), h => exact cZValidR h.1 h.2 hN
theorem cR3ValidN {W : World} {N : Nat} {z : Int ⊕ (Bool × List Int)} {v : Value} (h : VNi N z v W) (hN : N ≤ 1000000) : Calls Tryd.prog 11 #[v] W (RV (Vb (nvi z)) W) := by
  match z, h with
  | .inl x, h => exact cR3ValidZ h hN
  | .inr (nb, l), h => exact cR3ValidR h.1 h.2 hN
theorem Stab_VSlI {BT : List (TypeId × Nat × Nat)} {N : Nat} {xs : List (Int ⊕ (Bool × List Int))} (hn : ∀ e ∈ BT, e.1 ≠ 24) : Stab BT (VSl 24 2 (VNi N) xs) := fun _ _ _ ⟨h, o, c, cs, e1, e2, e3, e4, e5, e6⟩ hr => ⟨h, o, c, cs, e1, e2, e3, (hr.row h cs _ e4 (.inl fun e he q => absurd q (hn e he))).trans e4, e5, fun i x hx => Stab_VNi _ _ _ _ _ (e6 i x hx) hr⟩
theorem Stab_VEpI {BT : List (TypeId × Nat × Nat)} {N : Nat} {z : Int ⊕ (Bool × List Int)} (hn : ∀ e ∈ BT, e.1 ≠ 24) : Stab BT (VEp 24 2 (VNi N z)) := fun _ _ _ ⟨h, o, cs, e1, e2, e3, e4⟩ hr => ⟨h, o, cs, e1, (hr.row h cs _ e2 (.inl fun e he q => absurd q (hn e he))).trans e2, e3, Stab_VNi _ _ _ _ _ e4 hr⟩
section
variable {ρ : Operand → Value} {o : Oper} {W : World} {x y : Operand} {va vb : Value} {α : Type} {E : α → VP} {xs : List α}
theorem len_SlI (ho : o.op = .call { callee := .builtin .len, args := #[x], argTypes := #[30] }) (_hty : o.type = 3) (hx : ρ x = va) (h : VSl 24 2 E xs va W) : ∃ v, (execOp ρ o).run Tryd.prog W = .ok (.value v) W ∧ Vi (xs.length : Int) v W := by
  obtain ⟨hh, oo, c, cs, rfl, -⟩ := h
  refine ⟨.int .i64 (xs.length : Int), ?_, rfl⟩
  obtain ⟨dd, op, ty, ps, af, gd⟩ := o
  subst ho
  simp only at _hty
  subst _hty
  go_simp
theorem index_SlI {z : α} {j : Nat} (ho : o.op = .indexAddr 30 x y) (hx : ρ x = va) (h : VSl 24 2 E xs va W) (hy : ρ y = vb) (hb : Vi (j : Int) vb W) (hz : xs[j]? = some z) : ∃ v, (execOp ρ o).run Tryd.prog W = .ok (.value v) W ∧ VEp 24 2 (E z) v W := by
  obtain ⟨b, off, c, rfl, h2⟩ := VSl_el h hz
  obtain rfl : vb = _ := hb
  refine ⟨.pointer (some ⟨b, off + 2 * j, none⟩), ?_, h2⟩
  have hj : j < xs.length := by
    rcases Nat.lt_or_ge j xs.length with h' | h'
    · exact h'
    · rw [List.getElem?_eq_none h'] at hz; cases hz
  have hj2 : (j : Int) < (xs.length : Int) := by omega
  have hm : j * 2 = 2 * j := Nat.mul_comm _ _
  clear h h2 hz
  generalize xs.length = n at *
  obtain ⟨dd, op, ty, ps, af, gd⟩ := o
  subst ho
  go_simp
theorem load_EpI {A : VP} (ho : o.op = .load 24 x) (hx : ρ x = va) (h : VEp 24 2 A va W) (hA : Stab [] A) : ∃ v, (execOp ρ o).run Tryd.prog W = .ok (.value v) W ∧ A v W :=
  load_Ep (w := W) (T := 24) (k := 2) ho hx h (Below.refl _ _) hA Tryd.underlying24 rfl size_Int
theorem load_EpA {w : World} {A : VP} (ho : o.op = .load 24 x) (hx : ρ x = va) (h : VAt w (VEp 24 2 A) va W) (hb : Below w.heap.size w W) (hA : Stab [] A) : ∃ v, (execOp ρ o).run Tryd.prog W = .ok (.value v) W ∧ A v W :=
  load_Ep (w := w) (T := 24) (k := 2) ho hx h hb hA Tryd.underlying24 rfl size_Int
theorem arr_partI {cs c : Array Value} {W : World} {N : Nat} {z : Int ⊕ (Bool × List Int)} {w' : World} (hb : Below W.heap.size W w') (h : VNi N z (.agg c) W) (e : cs = c) : VNi N z (.agg cs) w' := by
  subst e; exact Stab_VNi (BT := []) _ _ _ _ _ h (RI.of_below hb)
theorem bslice_I7 {N : Nat} {x0 x1 x2 x3 x4 x5 x6 : Operand} {v0 v1 v2 v3 v4 v5 v6 : Value} {z0 z1 z2 z3 z4 z5 z6 : Int ⊕ (Bool × List Int)} (ho : o.op = .buildSlice 30 7 #[(0, x0), (1, x1), (2, x2), (3, x3), (4, x4), (5, x5), (6, x6)]) (e0 : ρ x0 = v0) (e1 : ρ x1 = v1) (e2 : ρ x2 = v2) (e3 : ρ x3 = v3) (e4 : ρ x4 = v4) (e5 : ρ x5 = v5) (e6 : ρ x6 = v6)
    (h0 : VNi N z0 v0 W) (h1 : VNi N z1 v1 W) (h2 : VNi N z2 v2 W) (h3 : VNi N z3 v3 W) (h4 : VNi N z4 v4 W) (h5 : VNi N z5 v5 W) (h6 : VNi N z6 v6 W) :
    ∃ v w', (execOp ρ o).run Tryd.prog W = .ok (.value v) w' ∧ Below W.heap.size W w' ∧ VSl 24 2 (VNi N) [z0, z1, z2, z3, z4, z5, z6] v w' := by
  obtain ⟨c0, rfl, s0, -⟩ := AggV_VNi _ _ _ _ h0
  obtain ⟨c1, rfl, s1, -⟩ := AggV_VNi _ _ _ _ h1
  obtain ⟨c2, rfl, s2, -⟩ := AggV_VNi _ _ _ _ h2
  obtain ⟨c3, rfl, s3, -⟩ := AggV_VNi _ _ _ _ h3
  obtain ⟨c4, rfl, s4, -⟩ := AggV_VNi _ _ _ _ h4
  obtain ⟨c5, rfl, s5, -⟩ := AggV_VNi _ _ _ _ h5
  obtain ⟨c6, rfl, s6, -⟩ := AggV_VNi _ _ _ _ h6
  obtain ⟨a0, b0, rfl⟩ := arr2 s0
  obtain ⟨a1, b1, rfl⟩ := arr2 s1
  obtain ⟨a2, b2, rfl⟩ := arr2 s2
  obtain ⟨a3, b3, rfl⟩ := arr2 s3
  obtain ⟨a4, b4, rfl⟩ := arr2 s4
  obtain ⟨a5, b5, rfl⟩ := arr2 s5
  obtain ⟨a6, b6, rfl⟩ := arr2 s6
  have hb := below_new W (.cells #[a0, b0, a1, b1, a2, b2, a3, b3, a4, b4, a5, b5, a6, b6] 24)
  refine ⟨.slice (some ⟨W.heap.size, 0, none⟩) 7 7, _, ?_, hb, ⟨_, 0, 7, _, rfl, Nat.le_refl _, by omega, heap_alloc_new _ _, Nat.le_refl _, fun i z hz => ?_⟩⟩
  · clear h0 h1 h2 h3 h4 h5 h6 hb
    obtain ⟨dd, op, ty, ps, af, gd⟩ := o
    subst ho
    go_simp
  · match i, hz with
    | 0, hz => cases hz; exact arr_partI hb h0 rfl
    | 1, hz => cases hz; exact arr_partI hb h1 rfl
    | 2, hz => cases hz; exact arr_partI hb h2 rfl
    | 3, hz => cases hz; exact arr_partI hb h3 rfl
    | 4, hz => cases hz; exact arr_partI hb h4 rfl
    | 5, hz => cases hz; exact arr_partI hb h5 rfl
    | 6, hz => cases hz; exact arr_partI hb h6 rfl
    | i + 7, hz => cases hz
end
end Go.Proofs.YtmbkpcnpacncjaaDoor

namespace Go.Proofs.YtmbkpcnpacncjaaDoor
open Go Go.RowKit

section
variable {P : Program} {md : Region.Mode} {ops : Array Oper} {Q : Exit → Act → World → Prop} {a0 : Act} {V : Array Bool → Nat → Value → World → Prop} {S : Array Bool → World → Prop}
/-- one operation waits for another -/
def waits (md : Region.Mode) (ops : Array Oper) (k j : Nat) : Bool := match ops[k]? with | some o => o.after.any (fun e => e.on == j && Region.binds md e) | none => false
/-- what an operation waits for has run -/
def Cl (md : Region.Mode) (ops : Array Oper) (listed : Array Bool) : Prop := ∀ k o, ops[k]? = some o → listed.getD k false = true → ∀ e ∈ o.after, Region.binds md e = true → listed.getD e.on false = true
theorem Cl.none (n : Nat) : Cl md ops (Array.replicate n false) := fun k o _ hl => by
  simp only [Array.getD_eq_getD_getElem?, Array.getElem?_replicate] at hl
  split at hl <;> simp at hl
theorem Cl.set {listed : Array Bool} {i : Nat} {o : Oper} (h : Cl md ops listed) (hi : i < listed.size) (ho : ops[i]? = some o) (hd : ∀ e ∈ o.after, Region.binds md e = true → listed.getD e.on false = true) : Cl md ops (listed.setIfInBounds i true) := fun k u hu hl e he hb => by
  rw [getD_set _ _ _ hi]
  split
  · rfl
  · by_cases hij : k = i
    · subst hij
      rw [ho] at hu
      cases hu
      exact hd e he hb
    · rw [getD_set _ _ _ hi, if_neg (fun e => hij e.symm)] at hl
      exact h k u hu hl e he hb
theorem Cl.get {listed : Array Bool} (h : Cl md ops listed) (k j : Nat) (hk : listed.getD k false = true) (hb : waits md ops k j = true) : listed.getD j false = true := by
  unfold waits at hb
  cases ho : ops[k]? with
  | none => rw [ho] at hb; cases hb
  | some o =>
    rw [ho] at hb
    obtain ⟨e, he, h1⟩ : ∃ e, e ∈ o.after ∧ (e.on == j && Region.binds md e) = true := by
      simp only [Array.any_eq_true] at hb
      obtain ⟨i, hi, h1⟩ := hb
      exact ⟨o.after[i], Array.getElem_mem hi, h1⟩
    simp only [Bool.and_eq_true, beq_iff_eq] at h1
    rw [← h1.1]
    exact h k o ho hk e he h1.2
/-- closed, and nothing that there was has changed -/
def SJ (md : Region.Mode) (ops : Array Oper) (W3 : World) (listed : Array Bool) (w : World) : Prop := Cl md ops listed ∧ Below W3.heap.size W3 w ∧ W3.heap.size ≤ w.heap.size
theorem jrun {W3 : World} {i : Nat} {o : Oper} (ho : ops[i]? = some o) (hg : o.guard = none)
    (H : ∀ listed a w, FlowJ ops a0 V (SJ md ops W3) listed a w → (∀ e ∈ o.after, Region.binds md e = true → listed.getD e.on false = true) → i < listed.size → listed.getD i false = false → ∃ v w', (execOp a.eval o).run P w = .ok (.value v) w' ∧ Below W3.heap.size w w' ∧ Lasts V ops a i listed w w' ∧ V (listed.setIfInBounds i true) i v w') : FlowStepJ P md ops Q a0 V (SJ md ops W3) i o :=
  flow_runJ fun listed a w h hd hl => by
    have hi : i < listed.size := by
      rcases Nat.lt_or_ge i listed.size with h' | h'
      · exact h'
      · simp [Array.getD, Nat.not_lt.2 h'] at hl
    obtain ⟨v, w', h1, h2, h3, h4⟩ := H listed a w h hd hi (by have h5 := hl; simp only [Array.getD, hi, dif_pos] at h5 ⊢; exact h5)
    refine ⟨by rw [hg]; trivial, v, w', h1, ⟨h.s.1.set hi ho hd, h.s.2.1.trans h2, Nat.le_trans h.s.2.2 h2.size⟩, h3, h4⟩
theorem jcall {W3 : World} {i : Nat} {dst : Option Tmp} {f : FuncId} {xs : Array Operand} {ats : Array TypeId} {ty : TypeId} {pos : String} {after : Array Edge} (ho : ops[i]? = some { dst, op := .call { callee := .value (.func f), args := xs, argTypes := ats }, type := ty, pos, after, guard := none }) (hcall : ∀ args w, (callFunc f args).run P w = .ok (.enter f args) w)
    (H : ∀ listed a w, FlowJ ops a0 V (SJ md ops W3) listed a w → (∀ e ∈ after, Region.binds md e = true → listed.getD e.on false = true) → i < listed.size → listed.getD i false = false → ∃ args, #[] ++ xs.map a.eval ++ #[] = args ∧ Calls P f args w fun e w' => ∃ v, e = .returned v ∧ Below W3.heap.size w w' ∧ Lasts V ops a i listed w w' ∧ V (listed.setIfInBounds i true) i v w') : FlowStepJ P md ops Q a0 V (SJ md ops W3) i { dst, op := .call { callee := .value (.func f), args := xs, argTypes := ats }, type := ty, pos, after, guard := none } :=
  flow_callJ hcall fun listed a w h hd hl => by
    have hi : i < listed.size := by
      rcases Nat.lt_or_ge i listed.size with h' | h'
      · exact h'
      · simp [Array.getD, Nat.not_lt.2 h'] at hl
    obtain ⟨args, h1, h2⟩ := H listed a w h hd hi (by have h5 := hl; simp only [Array.getD, hi, dif_pos] at h5 ⊢; exact h5)
    exact ⟨trivial, args, h1, h2.mono fun e w' ⟨v, e1, e2, e3, e4⟩ => ⟨v, e1, ⟨h.s.1.set hi ho hd, h.s.2.1.trans e2, Nat.le_trans h.s.2.2 e2.size⟩, e3, e4⟩⟩
theorem region_J {W3 : World} {id : Nat} {l : List Oper} {w : World} (hm : P.follows .mixedOrders = true) (hfore : flowFore l.toArray = true) (hown : flowOwn l.toArray = true) (hin : l.all (fun o => match o.dst with | some d => decide (d < a0.tmps.size) | none => true) = true)
    (hW : W3 = w) (hstep : AllFlowJ P .any l.toArray Q a0 V (SJ .any l.toArray W3) 0 l)
    (hdone : ∀ a w', FlowJ l.toArray a0 V (SJ .any l.toArray W3) (Array.replicate l.toArray.size true) a w' → Q .normal a w') : (Code.region id l.toArray true).wp P Q a0 w := by
  subst hW
  refine region_flowJ (V := V) hm hfore hown (fun i o d ho hd => ?_) (by exact ⟨Cl.none _, ⟨rfl, rfl, rfl, Nat.le_refl _, fun _ _ => rfl⟩, Nat.le_refl _⟩) (fun i o ho => ?_) hdone
  · rw [List.all_eq_true] at hin
    have ho' : l[i]? = some o := by simpa using ho
    have := hin o (List.mem_of_getElem? ho')
    rw [hd] at this
    exact of_decide_eq_true this
  · have := AllFlowJ.get l 0 hstep i o (by simpa using ho)
    rw [Nat.zero_add] at this
    exact this
end
theorem FlowJ.oth {ops : Array Oper} {a0 : Act} {V : Array Bool → Nat → Value → World → Prop} {S : Array Bool → World → Prop} {listed : Array Bool} {a : Act} {w : World} (h : FlowJ ops a0 V S listed a w) (t : Nat) (ht : ops.all (fun o => o.dst != some t) = true) : a.tmps[t]? = a0.tmps[t]? :=
  h.other t fun i o ho => by
    rw [Array.all_eq_true'] at ht
    have := ht o (Array.mem_of_getElem? ho)
    simpa using this
/-- the five digits that may be added -/
def five (j : Int) : Int := [0, 1, -1, 999999999, 1000000000].getD j.toNat 0
/-- what the region's slots hold -/
def J3 (W3 : World) (g : Nat) (neg nb : Bool) (k : Int) (ds : List Int) (px : Option Addr) (cx : Nat) (listed : Array Bool) : Nat → Value → World → Prop
  | 0, v, _ => v = .bool neg
  | 1, v, _ => v = .pointer (some ⟨g, 0, none⟩)
  | 2, v, _ => v = .bool nb
  | 3, v, _ => v = .bool (neg != nb)
  | 4, v, w => listed.getD 14 false = false → ∃ h, v = .slice (some ⟨h, 0, none⟩) 0 0 ∧ w.ownsRow W3.heap.size 3 1 v 0 []
  | 5, v, _ => v = .pointer (some ⟨g, 1, none⟩)
  | 6, v, _ => v = .slice px ds.length cx
  | 7, v, w => listed.getD 14 false = false → w.ownsRow W3.heap.size 3 1 v ds.length (zvs ds)
  | 8, v, w => listed.getD 14 false = false → ∃ h, v = .slice (some ⟨h, 0, none⟩) 5 5 ∧ ∀ j : Nat, j < 5 → w.cell? ⟨h, j, none⟩ = some (.int .i64 (five j))
  | 9, v, _ => v = .int .i64 k
  | 10, v, _ => v = .int .i64 (arn k 5)
  | 11, v, w => listed.getD 14 false = false → ∃ p, v = .pointer (some p) ∧ w.cell? p = some (.int .i64 (five (arn k 5)))
  | 12, v, _ => v = .int .i64 (five (arn k 5))
  | 13, v, w => listed.getD 14 false = false → ∃ h, v = .slice (some ⟨h, 0, none⟩) 1 1 ∧ w.cell? ⟨h, 0, none⟩ = some (.int .i64 (five (arn k 5)))
  | 14, v, w => VLn 7 (ds ++ [five (arn k 5)]) v w
  | 15, v, w => VZr 7 (neg != nb) (ds ++ [five (arn k 5)]) v w
  | 16, v, w => ∃ h cs, v = .pointer (some ⟨h, 0, none⟩) ∧ W3.heap.size ≤ h ∧ w.heap[h]? = some (.cells cs 24 (0, 0)) ∧ cs.size = 2 ∧ NoInt cs ∧ (listed.getD 17 false = true → VZr 7 (neg != nb) (ds ++ [five (arn k 5)]) (.agg cs) w)
  | _, _, _ => True
section
variable {W3 : World} {g : Nat} {neg nb : Bool} {k : Int} {ds : List Int} {px : Option Addr} {cx : Nat} {listed : Array Bool} {w w' : World}
theorem ownsRow_later {base : Nat} {e : TypeId} {size : Nat} {v : Value} {n : Nat} {xs : List Value} (h : w.ownsRow base e size v n xs) (hb : Below w.heap.size w w') : w'.ownsRow base e size v n xs := by
  refine ⟨h.1, h.2.imp id ?_⟩
  rintro ⟨g, cap, cur, e1, e2, e3, e4⟩
  exact ⟨g, cap, cur, e1, e2, (hb.block _ (lt_blk e3)).trans e3, e4⟩
/-- what makes memory, or nothing -/
theorem J3_keep {i : Nat} (hi : i < listed.size) (h14 : i ≠ 14) (h17 : i ≠ 17) (hb : Below w.heap.size w w') {ops : Array Oper} {a : Act} : Lasts (J3 W3 g neg nb k ds px cx) ops a i listed w w' := by
  intro j _ _ u _ _ _ _ h
  have e14 : (listed.setIfInBounds i true).getD 14 false = listed.getD 14 false := by rw [getD_set _ _ _ hi, if_neg h14]
  have e17 : (listed.setIfInBounds i true).getD 17 false = listed.getD 17 false := by rw [getD_set _ _ _ hi, if_neg h17]
  match j, h with
  | 0, h => exact h
  | 1, h => exact h
  | 2, h => exact h
  | 3, h => exact h
  | 4, h => intro q; rw [e14] at q; obtain ⟨x, h1, h2⟩ := h q; exact ⟨x, h1, ownsRow_later h2 hb⟩
  | 5, h => exact h
  | 6, h => exact h
  | 7, h => intro q; rw [e14] at q; exact ownsRow_later (h q) hb
  | 8, h => intro q; rw [e14] at q; obtain ⟨x, h1, h2⟩ := h q; exact ⟨x, h1, fun j hj => Below.cell_of' hb (h2 j hj)⟩
  | 9, h => exact h
  | 10, h => exact h
  | 11, h => intro q; rw [e14] at q; obtain ⟨x, h1, h2⟩ := h q; exact ⟨x, h1, Below.cell_of' hb h2⟩
  | 12, h => exact h
  | 13, h => intro q; rw [e14] at q; obtain ⟨x, h1, h2⟩ := h q; exact ⟨x, h1, Below.cell_of' hb h2⟩
  | 14, h => exact Stab_VLn (BT := []) _ _ _ _ _ h (RI.of_below hb)
  | 15, h => exact Stab_VZr (BT := []) _ _ _ _ _ _ h (RI.of_below hb)
  | 16, h =>
    obtain ⟨x, cs, h1, h2, h3, h4, h5, h6⟩ := h
    exact ⟨x, cs, h1, h2, (hb.block _ (lt_blk h3)).trans h3, h4, h5, fun q => by rw [e17] at q; exact Stab_VZr (BT := []) _ _ _ _ _ _ (h6 q) (RI.of_below hb)⟩
  | j + 17, _ => trivial
/-- the second append -/
theorem J3_app {md : Region.Mode} {ops : Array Oper} {v7 : Value} {n : Nat} {xs : List Value} (hcl : Cl md ops listed) (hi : 14 < listed.size) (hl : listed.getD 14 false = false) (c15 : waits md ops 15 14 = true) (c17 : waits md ops 17 14 = true)
    (hg : w.grownBy w' v7.ownBlock) (h7 : w.ownsRow W3.heap.size 3 1 v7 n xs) {a : Act} : Lasts (J3 W3 g neg nb k ds px cx) ops a 14 listed w w' := by
  intro j _ _ u _ _ _ hj h
  have e14 : (listed.setIfInBounds 14 true).getD 14 false = true := by rw [getD_set _ _ _ hi, if_pos rfl]
  have e17 : (listed.setIfInBounds 14 true).getD 17 false = listed.getD 17 false := by rw [getD_set _ _ _ hi, if_neg (by omega)]
  match j, h with
  | 0, h => exact h
  | 1, h => exact h
  | 2, h => exact h
  | 3, h => exact h
  | 4, h => intro q; rw [e14] at q; cases q
  | 5, h => exact h
  | 6, h => exact h
  | 7, h => intro q; rw [e14] at q; cases q
  | 8, h => intro q; rw [e14] at q; cases q
  | 9, h => exact h
  | 10, h => exact h
  | 11, h => intro q; rw [e14] at q; cases q
  | 12, h => exact h
  | 13, h => intro q; rw [e14] at q; cases q
  | 14, h => rw [hl] at hj; cases hj
  | 15, h => rw [hcl.get 15 14 hj c15] at hl; cases hl
  | 16, h =>
    obtain ⟨x, cs, h1, h2, h3, h4, h5, h6⟩ := h
    refine ⟨x, cs, h1, h2, (hg.block x (lt_blk h3) fun e => ?_).trans h3, h4, h5, fun q => by rw [e17] at q; rw [hcl.get 17 14 q c17] at hl; cases hl⟩
    rcases h7.2 with ⟨rfl, -⟩ | ⟨y, cap, cur, rfl, -, q3, -⟩
    · cases e
    · have : x = y := Option.some.inj e
      subst this
      rw [h3] at q3
      cases q3
  | j + 17, _ => trivial
/-- the store -/
theorem J3_store {h : Nat} {old cs : Array Value} (hi : 17 < listed.size) (h14 : listed.getD 14 false = true) (hh : w.heap[h]? = some (.cells old 24 (0, 0))) (hno : NoInt old) (ho2 : old.size = 2) (hc2 : cs.size = 2) (hni : NoInt cs) (hP : VZr 7 (neg != nb) (ds ++ [five (arn k 5)]) (.agg cs) w) {ops : Array Oper} {a : Act} (h16 : (ops[16]?).bind (·.dst) = some 13) (h13 : a.tmps[13]? = some (.pointer (some ⟨h, 0, none⟩))) : Lasts (J3 W3 g neg nb k ds px cx) ops a 17 listed w (w.setRow h cs) := by
  intro j o d u hj1 hj2 hj3 hj hV
  have hr : RI [(24, 2, 0)] w (w.setRow h cs) := RI_setRow hh hno ⟨⟨_, List.mem_cons_self, rfl, ho2.symm, .inl rfl⟩, fun e he e1 e2 => by
    simp only [List.mem_cons, List.not_mem_nil, or_false] at he
    subst he
    cases e2⟩
  have e14 : (listed.setIfInBounds 17 true).getD 14 false = true := by rw [getD_set _ _ _ hi, if_neg (by omega)]; exact h14
  match j, hV with
  | 0, h => exact h
  | 1, h => exact h
  | 2, h => exact h
  | 3, h => exact h
  | 4, h => intro q; rw [e14] at q; cases q
  | 5, h => exact h
  | 6, h => exact h
  | 7, h => intro q; rw [e14] at q; cases q
  | 8, h => intro q; rw [e14] at q; cases q
  | 9, h => exact h
  | 10, h => exact h
  | 11, h => intro q; rw [e14] at q; cases q
  | 12, h => exact h
  | 13, h => intro q; rw [e14] at q; cases q
  | 14, h => exact Stab_VLn _ _ _ _ _ h hr
  | 15, h => exact Stab_VZr _ _ _ _ _ _ h hr
  | 16, hV =>
    rw [hj1] at h16
    have hd : d = 13 := Option.some.inj (hj2.symm.trans h16)
    rw [hd, h13] at hj3
    obtain rfl := Option.some.inj hj3
    obtain ⟨x, cs0, h1, h2, h3, h4, h5, h6⟩ := hV
    cases h1
    exact ⟨h, cs, rfl, h2, setRow_heap w h cs0 cs _ _ h3, hc2, hni, fun _ => Stab_VZr _ _ _ _ _ _ hP hr⟩
  | j + 17, _ => trivial
end
end Go.Proofs.YtmbkpcnpacncjaaDoor
