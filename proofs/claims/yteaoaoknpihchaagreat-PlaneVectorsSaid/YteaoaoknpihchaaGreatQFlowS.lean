/- Stores into rows; rows of rational numbers. -/
import Derived.Test.YteaoaoknpihchaaGreatQFlowP
import Derived.Test.YteaoaoknpihchaaGreatQFlowO
import Derived.Test.YteaoaoknpihchaaGreatM20
set_option linter.unusedVariables false
namespace Go.Proofs.YteaoaoknpihchaaGreat
open Go Go.RowKit
/-- just this value -/
def VEq (x : Value) : VP := fun v _ => v = x
section
variable {md : Region.Mode} {ops : Array Oper} {Q : Exit → Act → World → Prop} {a0 : Act} {Vl : List VP} {n0 : Nat} {w0 : World} {B : List Bd} {SL : List (Nat × VP)} {BT BT2 : List (TypeId × Nat × Nat)} {r : Rw}
instance (x : Value) : Sb BT (VEq x) := ⟨fun _ _ _ h _ => h⟩
theorem KS.rowset {listed : Array Bool} {a : Act} {w : World} {v : Value} {i g : Nat} {T : TypeId} {m : Nat} {old cs : Array Value} (h : KS n0 w0 B listed a w) (hg : w.heap[g]? = some (.cells old T (0, 0))) (ho : old.size = m) (hn0 : n0 ≤ g) (hni : NoInt old) (hne : B.all (fun b => b.T != T || b.m != m) = true) (hq : quietB B i none = true) (hB : SbB ((T, m, 0) :: BT) B) :
    RI ((T, m, 0) :: BT) w (w.setRow g cs) ∧ KS n0 w0 B (listed.setIfInBounds i true) (a.put none v) (w.setRow g cs) := by
  have hr : RI ((T, m, 0) :: BT) w (w.setRow g cs) := RI_setRow hg hni ⟨_, List.mem_cons_self, rfl, ho.symm, .inl rfl⟩
  have hgg : ∀ b ∈ B, ∀ g' cs', w.heap[g']? = some (.cells cs' b.T (0, 0)) → cs'.size = b.m → g' ≠ g := fun b hb g' cs' h1 h2 e => by
    subst e
    rw [hg] at h1
    cases h1
    rw [List.all_eq_true] at hne
    have := hne b hb
    simp [ho.symm.trans h2 |>.symm] at this
  refine ⟨hr, ⟨⟨h.below.os, h.below.tape, h.below.output, Nat.le_trans h.below.size hr.size, fun k hk => (setRow_other w g k cs (by omega)).trans (h.below.block k hk)⟩, fun b hb hon => ?_, fun b hb c hc hne' h1 h2 => ?_, fun b hb hn1 hk => ?_⟩⟩
  · obtain ⟨q1, q2, q3⟩ := quietB_get hq hb
    rw [onb_set q1] at hon
    obtain ⟨g', cs', e1, e2, e3, e4, e5, e6, e7⟩ := h.ok b hb hon
    refine ⟨g', cs', by rw [put_get_ne q3]; exact e1, e2, (setRow_other w g g' cs (hgg b hb g' cs' e3 e4)).trans e3, e4, e5, fun hk => ?_, fun h0 hk => ?_⟩
    · rw [onb_set q2] at hk
      exact (hB.out b hb).1 _ _ _ (e6 hk) hr
    · rw [onb_set q2] at hk
      exact (hB.out b hb).2 _ _ _ (e7 h0 hk) hr
  · obtain ⟨q1, q2, q3⟩ := quietB_get hq hb
    obtain ⟨p1, p2, p3⟩ := quietB_get hq hc
    rw [onb_set q1] at h1
    rw [onb_set p1] at h2
    rw [put_get_ne q3, put_get_ne p3]
    exact h.ne b hb c hc hne' h1 h2
  · obtain ⟨q1, q2, -⟩ := quietB_get hq hb
    rw [onb_set q2] at hk
    rw [onb_set q1]
    exact h.fa b hb hn1 hk
/-- the store into the row -/
theorem k_row {s u k off : Nat} {o : Oper} {T : TypeId} {A : VP} [hB : SbB ((r.T, r.m, 0) :: BT) B] (ho : o.op = .store T (.tmp s) (.tmp u)) (hds : o.dst = none) (hVj : gV Vl (jL ops.toList s) = some (VEq (.pointer (some ⟨r.g, off, none⟩)))) [ha : Ag A k] [hs : SzT T k] (hV : GV Vl r.k = VT) (hn0 : n0 ≤ r.g)
    (hne : B.all (fun b => b.T != r.T || b.m != r.m) = true) (hq : quietB B r.k none = true) (hj : o.after.any (fun e => e.on == jL ops.toList s && Region.binds md e) = true) (hdst : (ops[jL ops.toList s]?).bind (·.dst) = some s) (hx : KnS md ops Vl SL o u A) (hk : off + k ≤ r.m)
    (hupd : ∀ cs z w, cs.size = r.m → z.size = k → r.P0 (.agg cs) w → A (.agg z) w → r.P (.agg (updR cs off z.toList)) w) (hP : Stab ((r.T, r.m, 0) :: BT) r.P) (hg : GOk md ops Vl o) : KStepR ((r.T, r.m, 0) :: BT) Tryz.prog md ops Q a0 (GV Vl) n0 w0 B SL r o := by
  intro listed a w h hrow hd _ hil hnl K hK
  rw [if_pos (wanted_of (hg.get h hd))]
  obtain ⟨old, e1, e2, e3, -, e5⟩ := hrow
  have hP0 := e5 hnl
  obtain ⟨v, hv, hVv⟩ := hx.get h hd
  obtain ⟨z, hz, hzs, hzn, hz1, hzV⟩ := agg_store ha.out hv hVv
  obtain ⟨vp, hvp, -, hVp⟩ := h.dep hd _ s hj hdst
  rw [show GV Vl (jL ops.toList s) = _ from gV_get hVj] at hVp
  obtain rfl : vp = _ := hVp
  have hPn := hupd old z w e2 hzs hP0 hzV
  have hzl : off + z.toList.length ≤ old.size := by simp; omega
  have hni : NoInt (updR old off z.toList) := fun i x hi => by
    rw [updR_get _ _ _ _ hzl] at hi
    split at hi
    · exact hzn _ _ (by simpa using hi)
    · exact e3 _ _ hi
  obtain ⟨hr, hks⟩ := h.k.rowset (BT := BT) (i := r.k) (v := undef) (cs := updR old off z.toList) e1 e2 hn0 e3 hne hq hB
  refine wp_store_mid T (.tmp s) (.tmp u) ho r.g off z hvp hz (fun j hj => ⟨?_, ?_⟩) (by rw [hs.size, hzs]) hz1 ?_
  · have : off + j < old.size := by omega
    simp [World.cell?, e1, this]
  · simp [World.frozen?, e1]
  · rw [setCells_upd _ _ _ _ e1]
    rw [hds] at hK ⊢
    have hlk : (listed.setIfInBounds r.k true).getD r.k false = true := by rw [getD_set _ _ _ hil, if_pos rfl]
    exact hK _ _ hks hr ⟨_, setRow_heap w r.g old _ _ _ e1, by rw [updR_size]; exact e2, hni, fun _ => hP _ _ _ hPn hr, fun hl => by rw [hlk] at hl; cases hl⟩ (by rw [hV]; trivial)
/-- more is known of a slot -/
theorem St.reS {N : Nat} {L : List Bd} {a : Act} {w : World} (h : St n0 w0 N L SL a w) (t : Nat) {A : VP} (V' : VP) (hc : ∀ v, A v w → V' v w) (hm : lS SL t = some A := by rfl) : St n0 w0 N L ((t, V') :: SL) a w :=
  ⟨h.k, h.n, h.size, h.defers, List.forall_mem_cons.2 ⟨by
    obtain ⟨v, e1, e2⟩ := h.sl _ (lS_mem hm)
    exact ⟨v, e1, hc v e2⟩, h.sl⟩⟩
end
theorem St.reT {n0 N : Nat} {w0 : World} {L : List Bd} {SL : List (Nat × VP)} {a : Act} {w : World} (h : St n0 w0 N L SL a w) (t : Nat) (V' : VP) {v : Value} (he : a.tmps[t]? = some v) (hv : V' v w) : St n0 w0 N L ((t, V') :: SL) a w :=
  ⟨h.k, h.n, h.size, h.defers, List.forall_mem_cons.2 ⟨⟨v, he, hv⟩, h.sl⟩⟩
theorem VAt_now {V : VP} {v : Value} {w : World} (h : V v w) : VAt w V v w := h
/-- a slice of two that the function made, and what its row holds -/
def VRs (g : Nat) (A : VP) : VP := fun v w => v = .slice (some ⟨g, 0, none⟩) 2 2 ∧ RowAt g 26 8 A w
theorem Stab_VRs {BT : List (TypeId × Nat × Nat)} {g : Nat} {A : VP} (hA : Stab BT A) (hn : BT.any (fun e => e.1 == 26 && e.2.1 == 8) = false) : Stab BT (VRs g A) := fun _ _ _ ⟨e0, ⟨cs, e2, e3, e4, e5⟩⟩ hr => ⟨e0, ⟨cs, (hr.row _ _ _ e2 (BT_not hn e3)).trans e2, e3, e4, hA _ _ _ e5 hr⟩⟩
/-- the slot's value is named -/
theorem St.nameS {n0 N : Nat} {w0 : World} {L : List Bd} {SL : List (Nat × VP)} {a : Act} {w : World} (h : St n0 w0 N L SL a w) (t : Nat) {A : VP} (hm : lS SL t = some A := by rfl) : ∃ v, A v w ∧ St n0 w0 N L ((t, VEq v) :: SL) a w := by
  obtain ⟨v, e1, e2⟩ := h.sl _ (lS_mem hm)
  exact ⟨v, e2, ⟨h.k, h.n, h.size, h.defers, List.forall_mem_cons.2 ⟨⟨v, e1, rfl⟩, h.sl⟩⟩⟩
/-- a slice of two rational numbers -/
def VQ2 (N : Nat) (X : Nat → Rat) : VP := fun v w => ∃ h cs, v = .slice (some ⟨h, 0, none⟩) 2 2 ∧ w.heap[h]? = some (.cells cs 26 (0, 0)) ∧ cs.size = 8 ∧ ∀ j, j < 2 → Vq N (X j) (.agg (cs.extract (4 * j) (4 * j + 4))) w
/-- the address of one of them -/
def VQp (N : Nat) (x : Rat) : VP := fun v w => ∃ h off cs, v = .pointer (some ⟨h, off, none⟩) ∧ w.heap[h]? = some (.cells cs 26 (0, 0)) ∧ cs.size = 8 ∧ off + 4 ≤ 8 ∧ Vq N x (.agg (cs.extract off (off + 4))) w
/-- the first so many are known -/
def VQr (N : Nat) (X : Nat → Rat) (j : Nat) : VP := fun v w => ∃ cs, v = .agg cs ∧ ∀ i, i < j → Vq N (X i) (.agg (cs.extract (4 * i) (4 * i + 4))) w
section
variable {ρ : Operand → Value} {o : Oper} {W w : World} {x y : Operand} {va vb : Value} {N : Nat} {X : Nat → Rat} {q : Rat} {BT : List (TypeId × Nat × Nat)}
instance (j : Nat) : Sb BT (VQr N X j) := ⟨fun _ _ _ ⟨cs, e1, e2⟩ hr => ⟨cs, e1, fun i hi => Stab_Vq _ _ _ _ _ (e2 i hi) hr⟩⟩
theorem Stab_VQ2 (hn : BT.any (fun e => e.1 == 26 && e.2.1 == 8) = false) : Stab BT (VQ2 N X) := fun _ _ _ ⟨h, cs, e1, e2, e3, e4⟩ hr => ⟨h, cs, e1, (hr.row h cs _ e2 (BT_not hn e3)).trans e2, e3, fun j hj => Stab_Vq _ _ _ _ _ (e4 j hj) hr⟩
theorem upd_row {cs z : Array Value} {j : Nat} (h1 : cs.size = 8) (h2 : z.size = 4) (hj : j < 2) (h3 : VQr N X j (.agg cs) w) (h4 : Vq N (X j) (.agg z) w) : VQr N X (j + 1) (.agg (updR cs (4 * j) z.toList)) w := by
  obtain ⟨_, e, h5⟩ := h3
  cases e
  refine ⟨_, rfl, fun i hi => ?_⟩
  have hl : 4 * j + z.toList.length ≤ cs.size := by simp; omega
  by_cases hij : i = j
  · subst hij
    have : (updR cs (4 * i) z.toList).extract (4 * i) (4 * i + 4) = z := by
      apply Array.ext_getElem?
      intro k
      rw [Array.getElem?_extract, updR_get _ _ _ _ hl, updR_size]
      by_cases hk : k < 4
      · rw [if_pos (by omega), if_pos (by simp; omega), show 4 * i + k - 4 * i = k by omega]; simp
      · rw [if_neg (by omega), Array.getElem?_eq_none (by omega)]
    rw [this]; exact h4
  · have : (updR cs (4 * j) z.toList).extract (4 * i) (4 * i + 4) = cs.extract (4 * i) (4 * i + 4) := by
      apply Array.ext_getElem?
      intro k
      rw [Array.getElem?_extract, Array.getElem?_extract, updR_size]
      by_cases hk : k < min (4 * i + 4) cs.size - 4 * i
      · rw [if_pos hk, if_pos hk, updR_get _ _ _ _ hl, if_neg (by simp; omega)]
      · rw [if_neg hk, if_neg hk]
    rw [this]; exact h5 i (by omega)
theorem len_Q2 (ho : o.op = .call { callee := .builtin .len, args := #[x], argTypes := #[37] }) (hty : o.type = 3) (hx : ρ x = va) (h : VAt w (VQ2 N X) va W) : ∃ v, (execOp ρ o).run Tryz.prog W = .ok (.value v) W ∧ Vi 2 v W := by
  obtain ⟨h, cs, rfl, -⟩ := h
  refine ⟨.int .i64 2, ?_, rfl⟩
  obtain ⟨dd, op, ty, ps, af, gd⟩ := o
  subst ho
  simp only at hty
  subst hty
  go_simp
theorem min_22 (ho : o.op = .call { callee := .builtin .min, args := #[x, y], argTypes := #[3, 3] }) (hty : o.type = 3) (hx : ρ x = va) (hy : ρ y = vb) (h1 : Vi 2 va W) (h2 : Vi 2 vb W) : ∃ v, (execOp ρ o).run Tryz.prog W = .ok (.value v) W ∧ Vi 2 v W := by
  obtain rfl := h1
  obtain rfl := h2
  refine ⟨.int .i64 2, ?_, rfl⟩
  obtain ⟨dd, op, ty, ps, af, gd⟩ := o
  subst ho
  simp only at hty
  subst hty
  go_simp
theorem index_Q2 {j : Nat} (ho : o.op = .indexAddr 37 x y) (hx : ρ x = va) (h : VAt w (VQ2 N X) va W) (hy : ρ y = vb) (hb : Vi (j : Int) vb W) (hj : j < 2) : ∃ v, (execOp ρ o).run Tryz.prog W = .ok (.value v) W ∧ VAt w (VQp N (X j)) v W := by
  obtain ⟨h, cs, rfl, e2, e3, e4⟩ := h
  obtain rfl := hb
  refine ⟨.pointer (some ⟨h, 4 * j, none⟩), ?_, ⟨h, 4 * j, cs, rfl, e2, e3, by omega, e4 j hj⟩⟩
  have hj2 : (j : Int) < 2 := by omega
  have hm : j * 4 = 4 * j := Nat.mul_comm _ _
  clear e2 e3 e4
  obtain ⟨dd, op, ty, ps, af, gd⟩ := o
  subst ho
  go_simp
theorem index_own {j g : Nat} (ho : o.op = .indexAddr 37 x y) (hx : ρ x = va) (h : VEq (.slice (some ⟨g, 0, none⟩) 2 2) va W) (hy : ρ y = vb) (hb : Vi (j : Int) vb W) (hj : j < 2) : ∃ v, (execOp ρ o).run Tryz.prog W = .ok (.value v) W ∧ VEq (.pointer (some ⟨g, 4 * j, none⟩)) v W := by
  obtain rfl : va = _ := h
  obtain rfl := hb
  refine ⟨.pointer (some ⟨g, 4 * j, none⟩), ?_, rfl⟩
  have hj2 : (j : Int) < 2 := by omega
  have hm : j * 4 = 4 * j := Nat.mul_comm _ _
  obtain ⟨dd, op, ty, ps, af, gd⟩ := o
  subst ho
  go_simp
theorem load_Qp (ho : o.op = .load 26 x) (hx : ρ x = va) (h : VAt w (VQp N q) va W) (hb : Below w.heap.size w W) : ∃ v, (execOp ρ o).run Tryz.prog W = .ok (.value v) W ∧ Vq N q v W := by
  obtain ⟨h, off, cs, rfl, e2, e3, e4, e5⟩ := h
  refine ⟨_, ?_, Stab_Vq (BT := []) _ _ _ _ _ e5 (RI.of_below hb)⟩
  have e6 := (hb.block _ (lt_blk e2)).trans e2
  unfold execOp
  simp only [ho, hx, Instr.loadAt, Instr.sureAddr, Sem.run_bind, Sem.run_pure, Result.andThen_ok, run_loadVar_part W h off 4 26 26 cs (0, 0) _ e6 (by omega) Tryz.underlying26 rfl size_Rat]
/-- a new row of two -/
def VMk2 (lo : Nat) : VP := fun v w => ∃ g, lo ≤ g ∧ v = .slice (some ⟨g, 0, none⟩) 2 2 ∧ RowAt g 26 8 VT w
theorem Stab_VMk2 {lo : Nat} (hn : BT.any (fun e => e.1 == 26 && e.2.1 == 8) = false) : Stab BT (VMk2 lo) := fun _ _ _ ⟨g, e0, e1, ⟨cs, e2, e3, e4, e5⟩⟩ hr => ⟨g, e0, e1, ⟨cs, (hr.row _ _ _ e2 (BT_not hn e3)).trans e2, e3, e4, e5⟩⟩
theorem mk_Q2 {lo : Nat} (ho : o.op = .makeSlice 37 x x) (hx : ρ x = va) (h : Vi 2 va W) (hlo : lo ≤ W.heap.size) : ∃ v w', (execOp ρ o).run Tryz.prog W = .ok (.value v) w' ∧ Below W.heap.size W w' ∧ VMk2 lo v w' := by
  obtain rfl := h
  have hmk : (Instr.makeSlice 37 (.int .i64 2) (.int .i64 2)).run Tryz.prog W = .ok (.slice (some ⟨W.heap.size, 0, none⟩) 2 2) (W.alloc (.cells #[.bool false, .slice none 0 0, .bool false, .slice none 0 0, .bool false, .slice none 0 0, .bool false, .slice none 0 0] 26)) := by kernel_rfl
  refine ⟨.slice (some ⟨W.heap.size, 0, none⟩) 2 2, W.alloc (.cells #[.bool false, .slice none 0 0, .bool false, .slice none 0 0, .bool false, .slice none 0 0, .bool false, .slice none 0 0] 26), ?_, below_new _ _, ⟨_, hlo, rfl, ⟨_, heap_alloc_new _ _, rfl, noint_of (by simp), trivial⟩⟩⟩
  unfold execOp
  simp only [ho, hx, Sem.run_bind, hmk, Sem.run_pure, Result.andThen_ok]
theorem bslice_Q2 {N : Nat} {X : Nat → Rat} (ho : o.op = .buildSlice 37 2 #[(0, x), (1, y)]) (hx : ρ x = va) (hy : ρ y = vb) (h1 : Vq N (X 0) va W) (h2 : Vq N (X 1) vb W) : ∃ v w', (execOp ρ o).run Tryz.prog W = .ok (.value v) w' ∧ Below W.heap.size W w' ∧ VQ2 N X v w' := by
  obtain ⟨cx, rfl, e1, -⟩ := AggV_Vq _ _ _ _ h1
  obtain ⟨cy, rfl, e2, -⟩ := AggV_Vq _ _ _ _ h2
  obtain ⟨a, b, c, d, rfl⟩ := arr4 e1
  obtain ⟨a', b', c', d', rfl⟩ := arr4 e2
  have hb := below_new W (.cells #[a, b, c, d, a', b', c', d'] 26)
  refine ⟨.slice (some ⟨W.heap.size, 0, none⟩) 2 2, _, ?_, hb, ⟨_, _, rfl, heap_alloc_new _ _, rfl, fun j hj => ?_⟩⟩
  · obtain ⟨dd, op, ty, ps, af, gd⟩ := o
    subst ho
    go_simp
  · match j, hj with
    | 0, _ => exact Stab_Vq (BT := []) _ _ _ _ _ h1 (RI.of_below hb)
    | 1, _ => exact Stab_Vq (BT := []) _ _ _ _ _ h2 (RI.of_below hb)
end
end Go.Proofs.YteaoaoknpihchaaGreat
