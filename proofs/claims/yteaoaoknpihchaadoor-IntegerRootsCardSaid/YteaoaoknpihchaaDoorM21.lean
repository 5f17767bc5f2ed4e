/- Contracts of the package integer and its reference: Whole functions: the operations, and what is known between regions. Fractions in lowest terms: plain mathematics. -/
import Derived.Test.YteaoaoknpihchaaDoorM20
set_option linter.unusedVariables false
namespace Go.Proofs.YteaoaoknpihchaaDoor
open Go Go.RowKit
section
variable {P : Program} {md : Region.Mode} {ops : Array Oper} {Q : Exit → Act → World → Prop} {a0 : Act} {V : Nat → VP} {n0 : Nat} {w0 : World} {B : List Bd} {SL : List (Nat × VP)} {BT : List (TypeId × Nat × Nat)}
/-- a type of several cells -/
def aggT (d : TypeDesc) : Bool := match d with | .struct _ | .array _ _ => true | _ => false
/-- its guard lets it run -/
def Guards (ops : Array Oper) (guard : Option (Nat × Bool)) (a : Act) : Prop := match guard with | none => True | some (j, b) => yielded ops a.tmps j = some b
theorem wanted_of {o : Oper} {a : Act} (h : Guards ops o.guard a) : Region.wanted o (yielded ops a.tmps) = true := by
  unfold Region.wanted
  unfold Guards at h
  cases hg : o.guard with
  | none => rfl
  | some g => obtain ⟨j, b⟩ := g; rw [hg] at h; simp only [] at h ⊢; rw [h]; simp
/-- what is asked of an operation's state -/
def Ask (md : Region.Mode) (ops : Array Oper) (a0 : Act) (V : Nat → VP) (n0 : Nat) (w0 : World) (B : List Bd) (SL : List (Nat × VP)) (o : Oper) (X : Array Bool → Act → World → Prop) : Prop :=
  ∀ listed a w, KI md ops a0 V n0 w0 B SL listed a w → (∀ e ∈ o.after, Region.binds md e = true → listed.getD e.on false = true) → Guards ops o.guard a ∧ X listed a w

theorem k_call {i : Nat} {dst : Option Tmp} {f : FuncId} {xs : Array Operand} {ats : Array TypeId} {ty : TypeId} {pos : String} {after : Array Edge} {guard : Option (Nat × Bool)} (hBP : ∀ b ∈ B, b.stab BT) (hq : quietB B i dst = true) (hcall : ∀ args w, (callFunc f args).run P w = .ok (.enter f args) w)
    (H : Ask md ops a0 V n0 w0 B SL { dst, op := .call { callee := .value (.func f), args := xs, argTypes := ats }, type := ty, pos, after, guard } fun _ a w => ∃ args, #[] ++ xs.map a.eval ++ #[] = args ∧ Calls P f args w (RV (V i) w)) :
    KStep BT P md ops Q a0 V n0 w0 B SL i { dst, op := .call { callee := .value (.func f), args := xs, argTypes := ats }, type := ty, pos, after, guard } := by
  intro listed a w h hd _ _ _ K hK
  obtain ⟨hg, args, hargs, hc⟩ := H listed a w h hd
  rw [if_pos (wanted_of hg)]
  unfold Oper.wp
  have he : execOp a.eval { dst, op := .call { callee := .value (.func f), args := xs, argTypes := ats }, type := ty, pos, after, guard } = callFunc f (#[] ++ xs.map a.eval ++ #[]) := rfl
  rw [he, hargs, hcall]
  refine Calls.mono hc fun e w' hp => ?_
  obtain ⟨v, rfl, h1, h2⟩ := hp
  exact hK v w' (h.k.quiet hq hBP h.n h2) (RI.of_below h2) h1
theorem k_run {i : Nat} {o : Oper} (hBP : ∀ b ∈ B, b.stab BT) (hq : quietB B i o.dst = true) (H : Ask md ops a0 V n0 w0 B SL o fun _ a w => ∃ v, (execOp a.eval o).run P w = .ok (.value v) w ∧ V i v w) : KStep BT P md ops Q a0 V n0 w0 B SL i o := by
  intro listed a w h hd _ _ _ K hK
  obtain ⟨hg, v, hr, h1⟩ := H listed a w h hd
  rw [if_pos (wanted_of hg)]
  unfold Oper.wp
  rw [hr]
  exact hK v w (h.k.quiet hq hBP h.n (Below.refl _ _)) (RI.refl w) h1
/-- a call of what a slot holds -/
theorem k_enter {i : Nat} {o : Oper} (hBP : ∀ b ∈ B, b.stab BT) (hq : quietB B i o.dst = true) (H : Ask md ops a0 V n0 w0 B SL o fun _ a w => ∃ f args, (execOp a.eval o).run P w = .ok (.enter f args) w ∧ Calls P f args w (RV (V i) w)) : KStep BT P md ops Q a0 V n0 w0 B SL i o := by
  intro listed a w h hd _ _ _ K hK
  obtain ⟨hg, f, args, hr, hc⟩ := H listed a w h hd
  rw [if_pos (wanted_of hg)]
  unfold Oper.wp
  rw [hr]
  refine Calls.mono hc fun e w' hp => ?_
  obtain ⟨v, rfl, h1, h2⟩ := hp
  exact hK v w' (h.k.quiet hq hBP h.n h2) (RI.of_below h2) h1
/-- an operation that makes memory -/
theorem k_mem {i : Nat} {o : Oper} (hBP : ∀ b ∈ B, b.stab BT) (hq : quietB B i o.dst = true) (H : Ask md ops a0 V n0 w0 B SL o fun _ a w => ∃ v w', (execOp a.eval o).run P w = .ok (.value v) w' ∧ Below w.heap.size w w' ∧ V i v w') : KStep BT P md ops Q a0 V n0 w0 B SL i o := by
  intro listed a w h hd _ _ _ K hK
  obtain ⟨hg, v, w', hr, hb, h1⟩ := H listed a w h hd
  rw [if_pos (wanted_of hg)]
  unfold Oper.wp
  rw [hr]
  exact hK v w' (h.k.quiet hq hBP h.n hb) (RI.of_below hb) h1
/-- a whole box -/
theorem k_load {i : Nat} {o : Oper} {b : Bd} {d : TypeDesc} (hBP : ∀ b ∈ B, b.stab BT) (hq : quietB B i o.dst = true) (hb : b ∈ B) (ho : o.op = .load b.T (.tmp b.t)) (hon : b.ia = none) (hok : b.ik = none) (hV : V i = b.P)
    (hu : P.underlying b.T = some d) (hdd : aggT d = true) (hi : (P.info? b.T).map (·.size) = some b.m) (H : Ask md ops a0 V n0 w0 B SL o fun _ _ _ => True) : KStep BT P md ops Q a0 V n0 w0 B SL i o := by
  intro listed a w h hd _ _ _ K hK
  obtain ⟨hg, -⟩ := H listed a w h hd
  rw [if_pos (wanted_of hg)]
  obtain ⟨g, cs, e1, e2, e3, e4, e5, e6, -⟩ := h.k.ok b hb (by rw [hon]; rfl)
  have hP := e6 (by rw [hok]; rfl)
  refine wp_load_row b.T (.tmp b.t) ho g (by simp [Act.eval, Array.getD_eq_getD_getElem?, e1]) b.T cs (0, 0) d e3 hu (by revert hdd; cases d <;> intro hdd <;> first | rfl | cases hdd) (by rw [hi, e4]) ?_
  exact hK _ w (h.k.quiet hq hBP h.n (Below.refl _ _)) (RI.refl w) (by rw [hV]; exact hP)
/-- a whole box, ahead of the store into it -/
theorem KI.not_yet {listed : Array Bool} {a : Act} {w : World} {i k : Nat} (h : KI md ops a0 V n0 w0 B SL listed a w) (hnl : listed.getD i false = false) (hk : (match ops[k]? with | some o => o.after.any (fun e => e.on == i && Region.binds md e) | none => false) = true) : listed.getD k false = false := by
  cases hl : listed.getD k false with
  | false => rfl
  | true =>
    cases ho : ops[k]? with
    | none => rw [ho] at hk; cases hk
    | some o =>
      rw [ho] at hk
      obtain ⟨e, he, hb⟩ : ∃ e, e ∈ o.after ∧ (e.on == i && Region.binds md e) = true := by
        simp only at hk
        rw [Array.any_eq_true] at hk
        obtain ⟨j, hj, h1⟩ := hk
        exact ⟨o.after[j], Array.getElem_mem hj, h1⟩
      simp only [Bool.and_eq_true, beq_iff_eq] at hb
      obtain ⟨hb1, hb2⟩ := hb
      have := h.closed k o ho hl e he hb2
      rw [hb1, hnl] at this
      cases this
/-- a slot from ahead of the region, that operation k writes later -/
theorem KI.out0 {listed : Array Bool} {a : Act} {w : World} {i : Nat} (h : KI md ops a0 V n0 w0 B SL listed a w) (hnl : listed.getD i false = false) (p : Nat × VP) (hp : p ∈ SL) (k : Nat) (ht : (List.range ops.size).all (fun j => j == k || (match ops[j]? with | some o => o.dst != some p.1 | none => true)) = true)
    (hk : k = i ∨ (match ops[k]? with | some o => o.after.any (fun e => e.on == i && Region.binds md e) | none => false) = true) : ∃ v, a.eval (.tmp p.1) = v ∧ p.2 v w := by
  have hkl : listed.getD k false = false := by
    rcases hk with rfl | hk
    · exact hnl
    · exact h.not_yet hnl hk
  have := h.same p.1 fun j o ho hd => by
    rw [List.all_eq_true] at ht
    have hj : j < ops.size := by
      rcases Nat.lt_or_ge j ops.size with h' | h'
      · exact h'
      · rw [Array.getElem?_eq_none h'] at ho; cases ho
    have h1 := ht j (by simpa using hj)
    rw [ho] at h1
    simp only [Bool.or_eq_true, beq_iff_eq, bne_iff_ne, ne_eq] at h1
    rcases h1 with rfl | h1
    · exact hkl
    · exact absurd hd h1
  obtain ⟨v, h1, h2⟩ := h.sl p hp
  exact ⟨v, by simp [Act.eval, Array.getD_eq_getD_getElem?, this, h1], h2⟩
/-- .. in an operation that only reads -/
theorem k_run0 {i : Nat} {o : Oper} (hBP : ∀ b ∈ B, b.stab BT) (hq : quietB B i o.dst = true) (H : ∀ listed a w, KI md ops a0 V n0 w0 B SL listed a w → (∀ e ∈ o.after, Region.binds md e = true → listed.getD e.on false = true) → listed.getD i false = false → Guards ops o.guard a ∧ ∃ v, (execOp a.eval o).run P w = .ok (.value v) w ∧ V i v w) : KStep BT P md ops Q a0 V n0 w0 B SL i o := by
  intro listed a w h hd _ _ hnl K hK
  obtain ⟨hg, v, hr, h1⟩ := H listed a w h hd hnl
  rw [if_pos (wanted_of hg)]
  unfold Oper.wp
  rw [hr]
  exact hK v w (h.k.quiet hq hBP h.n (Below.refl _ _)) (RI.refl w) h1
theorem k_load0 {i k : Nat} {o : Oper} {b : Bd} {d : TypeDesc} (hBP : ∀ b ∈ B, b.stab BT) (hq : quietB B i o.dst = true) (hb : b ∈ B) (ho : o.op = .load b.T (.tmp b.t)) (hon : b.ia = none) (hok : b.ik = some k) (hV : V i = b.P0)
    (hk : (match ops[k]? with | some o => o.after.any (fun e => e.on == i && Region.binds md e) | none => false) = true)
    (hu : P.underlying b.T = some d) (hdd : aggT d = true) (hi : (P.info? b.T).map (·.size) = some b.m) (H : Ask md ops a0 V n0 w0 B SL o fun _ _ _ => True) : KStep BT P md ops Q a0 V n0 w0 B SL i o := by
  intro listed a w h hd _ _ hnl K hK
  obtain ⟨hg, -⟩ := H listed a w h hd
  rw [if_pos (wanted_of hg)]
  obtain ⟨g, cs, e1, e2, e3, e4, e5, -, e7⟩ := h.k.ok b hb (by rw [hon]; rfl)
  have hP := e7 hon (by rw [hok]; exact h.not_yet hnl hk)
  refine wp_load_row b.T (.tmp b.t) ho g (by simp [Act.eval, Array.getD_eq_getD_getElem?, e1]) b.T cs (0, 0) d e3 hu (by revert hdd; cases d <;> intro hdd <;> first | rfl | cases hdd) (by rw [hi, e4]) ?_
  exact hK _ w (h.k.quiet hq hBP h.n (Below.refl _ _)) (RI.refl w) (by rw [hV]; exact hP)
/-- an address inside a box of which slot t holds the address -/
def Vpt (a0 : Act) (t off : Nat) : VP := fun v _ => ∃ g, a0.tmps[t]? = some (.pointer (some ⟨g, 0, none⟩)) ∧ v = .pointer (some ⟨g, off, none⟩)
theorem Stab_Vpt (a0 : Act) (t off : Nat) : Stab BT (Vpt a0 t off) := fun _ _ _ h _ => h
theorem run_loadCells_at (w : World) (g off : Nat) (T : TypeId) (cs : Array Value) (fr : Nat × Nat) (hg : w.heap[g]? = some (.cells cs T fr)) (k : Nat) : ∀ j v, (cs.extract off (off + k)).toList[j]? = some v → w.cell? ((⟨g, off, none⟩ : Addr).add j) = some v := by
  intro j v hj
  have hj' : (cs.extract off (off + k))[j]? = some v := by rw [← hj, Array.getElem?_toList]
  rw [Array.getElem?_extract] at hj'
  split at hj'
  · have : (⟨g, off, none⟩ : Addr).add j = ⟨g, off + j, none⟩ := by unfold Addr.add; split <;> simp_all
    rw [this]
    simp [World.cell?, hg, hj']
  · cases hj'
theorem run_loadVar_part (w : World) (g off k : Nat) (t ty : TypeId) (cs : Array Value) (fr : Nat × Nat) (d : TypeDesc) (hg : w.heap[g]? = some (.cells cs t fr)) (hk : off + k ≤ cs.size)
    (hu : P.underlying ty = some d) (hd : aggT d = true) (hi : (P.info? ty).map (·.size) = some k) :
    (loadVar ty ⟨g, off, none⟩).run P w = .ok (.agg (cs.extract off (off + k))) w := by
  have hl : (loadCells ⟨g, off, none⟩ k).run P w = .ok (cs.extract off (off + k)) w := by
    have := run_loadCells_list (P := P) w ⟨g, off, none⟩ (cs.extract off (off + k)).toList (run_loadCells_at w g off t cs fr hg k)
    have e : (cs.extract off (off + k)).toList.length = k := by simp; omega
    rw [e, Array.toArray_toList] at this
    exact this
  cases hq : P.info? ty with
  | none => simp [hq] at hi
  | some i =>
    have hs : i.size = k := by simpa [hq] using hi
    have hagg : (isAgg ty).run P w = .ok true w := by
      unfold isAgg
      rw [Sem.run_bind, run_underlying hu w]
      cases d <;> simp_all [aggT]
    simp [loadVar, Sem.run_bind, hagg, sizeOf, typeInfo, hq, hs, hl]
/-- a part of a box -/
theorem k_part {i : Nat} {o : Oper} {b : Bd} {d : TypeDesc} {T : TypeId} {s j off k : Nat} (hBP : ∀ b ∈ B, b.stab BT) (hq : quietB B i o.dst = true) (hb : b ∈ B) (ho : o.op = .load T (.tmp s)) (hon : b.ia = none) (hok : b.ik = none) (hj : o.after.any (fun e => e.on == j && Region.binds md e) = true) (hdst : (ops[j]?).bind (·.dst) = some s) (hVj : V j = Vpt a0 b.t off)
    (hbt : ops.all (fun o => o.dst != some b.t) = true) (hk : off + k ≤ b.m) (hV : ∀ cs w, b.P (.agg cs) w → V i (.agg (cs.extract off (off + k))) w)
    (hu : P.underlying T = some d) (hdd : aggT d = true) (hi : (P.info? T).map (·.size) = some k) (H : Ask md ops a0 V n0 w0 B SL o fun _ _ _ => True) : KStep BT P md ops Q a0 V n0 w0 B SL i o := by
  intro listed a w h hd _ _ _ K hK
  obtain ⟨hg, -⟩ := H listed a w h hd
  rw [if_pos (wanted_of hg)]
  obtain ⟨g, cs, e1, e2, e3, e4, e5, e6, -⟩ := h.k.ok b hb (by rw [hon]; rfl)
  have hP := e6 (by rw [hok]; rfl)
  obtain ⟨v, hv, -, hVv⟩ := h.dep hd j s hj hdst
  rw [hVj] at hVv
  obtain ⟨g', f1, rfl⟩ := hVv
  have ho1 := h.other b.t fun i o ho => by
    rw [Array.all_eq_true'] at hbt
    have := hbt o (Array.mem_of_getElem? ho)
    simpa using this
  rw [e1, f1] at ho1
  simp at ho1
  subst ho1
  unfold Oper.wp execOp
  simp only [ho, hv, Instr.loadAt, Instr.sureAddr, Sem.run_bind, Sem.run_pure, Result.andThen_ok, run_loadVar_part w g off k b.T T cs (0, 0) d e3 (by omega) hu hdd hi]
  exact hK _ w (h.k.quiet hq hBP h.n (Below.refl _ _)) (RI.refl w) (hV _ _ hP)
/-- one cell of a box -/
theorem k_cell {i : Nat} {o : Oper} {b : Bd} {d : TypeDesc} {T : TypeId} {s j off : Nat} (hBP : ∀ b ∈ B, b.stab BT) (hq : quietB B i o.dst = true) (hb : b ∈ B) (ho : o.op = .load T (.tmp s)) (hon : b.ia = none) (hok : b.ik = none) (hj : o.after.any (fun e => e.on == j && Region.binds md e) = true) (hdst : (ops[j]?).bind (·.dst) = some s) (hVj : V j = Vpt a0 b.t off)
    (hbt : ops.all (fun o => o.dst != some b.t) = true) (hV : ∀ cs w, b.P (.agg cs) w → ∃ v, cs[off]? = some v ∧ V i v w)
    (hu : P.underlying T = some d) (hdd : aggT d = false) (H : Ask md ops a0 V n0 w0 B SL o fun _ _ _ => True) : KStep BT P md ops Q a0 V n0 w0 B SL i o := by
  intro listed a w h hd _ _ _ K hK
  obtain ⟨hg, -⟩ := H listed a w h hd
  rw [if_pos (wanted_of hg)]
  obtain ⟨g, cs, e1, e2, e3, e4, e5, e6, -⟩ := h.k.ok b hb (by rw [hon]; rfl)
  have hP := e6 (by rw [hok]; rfl)
  obtain ⟨v, hv, -, hVv⟩ := h.dep hd j s hj hdst
  rw [hVj] at hVv
  obtain ⟨g', f1, rfl⟩ := hVv
  have ho1 := h.other b.t fun i o ho => by
    rw [Array.all_eq_true'] at hbt
    have := hbt o (Array.mem_of_getElem? ho)
    simpa using this
  rw [e1, f1] at ho1
  simp at ho1
  subst ho1
  obtain ⟨x, hx, hVx⟩ := hV _ _ hP
  have hc : w.cell? ⟨g, off, none⟩ = some x := by simp [World.cell?, e3, hx]
  have hagg : (isAgg T).run P w = .ok false w := by
    unfold isAgg
    rw [Sem.run_bind, run_underlying hu w]
    cases d <;> simp_all [aggT]
  unfold Oper.wp execOp
  simp only [ho, hv, Instr.loadAt, Instr.sureAddr, Sem.run_bind, Sem.run_pure, Result.andThen_ok, loadVar, hagg]
  simp only [Bool.false_eq_true, if_false, run_load, hc, Result.andThen_ok]
  exact hK _ w (h.k.quiet hq hBP h.n (Below.refl _ _)) (RI.refl w) hVx
/-- .. ahead of the store into it -/
theorem k_cell0 {i : Nat} {o : Oper} {b : Bd} {d : TypeDesc} {T : TypeId} {s j off kk : Nat} (hBP : ∀ b ∈ B, b.stab BT) (hq : quietB B i o.dst = true) (hb : b ∈ B) (ho : o.op = .load T (.tmp s)) (hon : b.ia = none) (hok : b.ik = some kk) (hkk : (match ops[kk]? with | some o => o.after.any (fun e => e.on == i && Region.binds md e) | none => false) = true) (hj : o.after.any (fun e => e.on == j && Region.binds md e) = true) (hdst : (ops[j]?).bind (·.dst) = some s) (hVj : V j = Vpt a0 b.t off)
    (hbt : ops.all (fun o => o.dst != some b.t) = true) (hV : ∀ cs w, b.P0 (.agg cs) w → ∃ v, cs[off]? = some v ∧ V i v w)
    (hu : P.underlying T = some d) (hdd : aggT d = false) (H : Ask md ops a0 V n0 w0 B SL o fun _ _ _ => True) : KStep BT P md ops Q a0 V n0 w0 B SL i o := by
  intro listed a w h hd _ _ hnl K hK
  obtain ⟨hg, -⟩ := H listed a w h hd
  rw [if_pos (wanted_of hg)]
  obtain ⟨g, cs, e1, e2, e3, e4, e5, -, e7⟩ := h.k.ok b hb (by rw [hon]; rfl)
  have hP := e7 hon (by rw [hok]; exact h.not_yet hnl hkk)
  obtain ⟨v, hv, -, hVv⟩ := h.dep hd j s hj hdst
  rw [hVj] at hVv
  obtain ⟨g', f1, rfl⟩ := hVv
  have ho1 := h.other b.t fun i o ho => by
    rw [Array.all_eq_true'] at hbt
    have := hbt o (Array.mem_of_getElem? ho)
    simpa using this
  rw [e1, f1] at ho1
  simp at ho1
  subst ho1
  obtain ⟨x, hx, hVx⟩ := hV _ _ hP
  have hc : w.cell? ⟨g, off, none⟩ = some x := by simp [World.cell?, e3, hx]
  have hagg : (isAgg T).run P w = .ok false w := by
    unfold isAgg
    rw [Sem.run_bind, run_underlying hu w]
    cases d <;> simp_all [aggT]
  unfold Oper.wp execOp
  simp only [ho, hv, Instr.loadAt, Instr.sureAddr, Sem.run_bind, Sem.run_pure, Result.andThen_ok, loadVar, hagg]
  simp only [Bool.false_eq_true, if_false, run_load, hc, Result.andThen_ok]
  exact hK _ w (h.k.quiet hq hBP h.n (Below.refl _ _)) (RI.refl w) hVx
/-- the address of a field -/
theorem k_field {i : Nat} {o : Oper} {b : Bd} {T : TypeId} {f off : Nat} (hBP : ∀ b ∈ B, b.stab BT) (hq : quietB B i o.dst = true) (hb : b ∈ B) (ho : o.op = .fieldAddr T (.tmp b.t) f) (hon : b.ia = none) (hbt : ops.all (fun o => o.dst != some b.t) = true) (hV : V i = Vpt a0 b.t off)
    (hrun : ∀ g W, (Instr.fieldAt T (.pointer (some ⟨g, 0, none⟩)) f).run P W = .ok (.pointer (some ⟨g, off, none⟩)) W) (H : Ask md ops a0 V n0 w0 B SL o fun _ _ _ => True) : KStep BT P md ops Q a0 V n0 w0 B SL i o := by
  refine k_run hBP hq fun listed a w h hd => ⟨(H listed a w h hd).1, ?_⟩
  obtain ⟨g, cs, e1, -⟩ := h.k.ok b hb (by rw [hon]; rfl)
  have ho1 := h.other b.t fun i o ho => by
    rw [Array.all_eq_true'] at hbt
    have := hbt o (Array.mem_of_getElem? ho)
    simpa using this
  refine ⟨.pointer (some ⟨g, off, none⟩), ?_, by rw [hV]; exact ⟨g, by rw [← ho1, e1], rfl⟩⟩
  unfold execOp
  have hx : a.eval (.tmp b.t) = .pointer (some ⟨g, 0, none⟩) := by simp [Act.eval, Array.getD_eq_getD_getElem?, e1]
  simp only [ho, hx, Sem.run_bind, hrun, Sem.run_pure, Result.andThen_ok]
theorem k_field2 {i : Nat} {o : Oper} {t j s : Nat} {T : TypeId} {f off off' : Nat} (hBP : ∀ b ∈ B, b.stab BT) (hq : quietB B i o.dst = true) (ho : o.op = .fieldAddr T (.tmp s) f) (hj : o.after.any (fun e => e.on == j && Region.binds md e) = true) (hdst : (ops[j]?).bind (·.dst) = some s) (hVj : V j = Vpt a0 t off) (hV : V i = Vpt a0 t off')
    (hrun : ∀ g W, (Instr.fieldAt T (.pointer (some ⟨g, off, none⟩)) f).run P W = .ok (.pointer (some ⟨g, off', none⟩)) W) (H : Ask md ops a0 V n0 w0 B SL o fun _ _ _ => True) : KStep BT P md ops Q a0 V n0 w0 B SL i o := by
  refine k_run hBP hq fun listed a w h hd => ⟨(H listed a w h hd).1, ?_⟩
  obtain ⟨v, hv, -, hVv⟩ := h.dep hd j s hj hdst
  rw [hVj] at hVv
  obtain ⟨g, f1, rfl⟩ := hVv
  refine ⟨.pointer (some ⟨g, off', none⟩), ?_, by rw [hV]; exact ⟨g, f1, rfl⟩⟩
  unfold execOp
  simp only [ho, hv, Sem.run_bind, hrun, Sem.run_pure, Result.andThen_ok]
/-- a new variable -/
theorem k_alloc {i : Nat} {o : Oper} {B1 B2 : List Bd} {b : Bd} {z : Array Value} (hBP : ∀ b ∈ B, b.stab BT) (hB : B = B1 ++ b :: B2) (hq : quietB (B1 ++ B2) i (some b.t) = true) (ho : o.op = .alloc b.T) (hds : o.dst = some b.t) (hia : b.ia = some i) (hz : ∀ W, (Instr.alloc b.T true (.tuple #[])).run P W = .ok (.pointer (some ⟨W.heap.size, 0, none⟩)) (W.alloc (.cells z b.T))) (hzs : z.size = b.m) (hni : NoInt z)
    (hik : (b.ik = none ∧ ∀ v w, b.P v w) ∨ ∃ k, b.ik = some k ∧ k ≠ i) (hV : V i = VT) (H : Ask md ops a0 V n0 w0 B SL o fun _ _ _ => True) : KStep BT P md ops Q a0 V n0 w0 B SL i o := by
  intro listed a w h hd hin hil hnl K hK
  obtain ⟨hg, -⟩ := H listed a w h hd
  rw [if_pos (wanted_of hg)]
  have ht : b.t < a.tmps.size := by
    rw [hds] at hin
    rw [h.size]
    simpa using hin
  have hks := h.k.alloc hB hq hia hil ht hBP h.n z hzs hni (fun hk => by
    rcases hik with ⟨-, h1⟩ | ⟨k, h1, h2⟩
    · exact h1 _ _
    · exfalso
      rw [onb_set (x := b.ik) (by intro e; rw [h1] at e; cases e; exact h2 rfl)] at hk
      have h3 := h.k.fa b (by rw [hB]; simp) (by rw [h1]; intro e; cases e) hk
      rw [hia] at h3
      simp only [onb] at h3
      rw [hnl] at h3; cases h3)
  unfold Oper.wp execOp
  simp only [ho, Sem.run_bind, hz, Sem.run_pure, Result.andThen_ok]
  rw [← hds] at hks
  exact hK _ _ hks (RI.of_below (below_new _ _)) (by rw [hV]; trivial)
theorem k_box {i : Nat} {o : Oper} {B1 B2 : List Bd} {b : Bd} {x : Operand} (hBP : ∀ b ∈ B, b.stab BT) (hB : B = B1 ++ b :: B2) (hq : quietB (B1 ++ B2) i (some b.t) = true) (ho : o.op = .box b.T x) (hds : o.dst = some b.t) (hia : b.ia = some i) (hV : V i = VT)
    (H : Ask md ops a0 V n0 w0 B SL o fun _ a w => ∃ z, a.eval x = .agg z ∧ z.size = b.m ∧ NoInt z ∧ b.P (.agg z) w) : KStep BT P md ops Q a0 V n0 w0 B SL i o := by
  intro listed a w h hd hin hil hnl K hK
  obtain ⟨hg, z, hx, hzs, hni, hP⟩ := H listed a w h hd
  rw [if_pos (wanted_of hg)]
  have ht : b.t < a.tmps.size := by
    rw [hds] at hin
    rw [h.size]
    simpa using hin
  have hks := h.k.alloc hB hq hia hil ht hBP h.n z hzs hni (fun _ => hP)
  unfold Oper.wp execOp
  simp only [ho, hx, Sem.run_bind, Instr.box, newVar, newRow, run_newObj_alloc, Sem.run_pure, Result.andThen_ok, Value.cells]
  rw [← hds] at hks
  exact hK _ _ hks (RI.of_below (below_new _ _)) (by rw [hV]; trivial)
/-- a variable gets a value -/
theorem k_store {i : Nat} {o : Oper} {B1 B2 : List Bd} {b : Bd} {y : Operand} (hBP : ∀ b ∈ B, b.stab BT) (hB : B = B1 ++ b :: B2) (hq : quietB (B1 ++ B2) i none = true) (hts : (B1 ++ B2).all (fun c => c.t != b.t) = true) (ho : o.op = .store b.T (.tmp b.t) y) (hds : o.dst = none) (hia : (b.ia != some i) = true) (hik : b.ik = some i) (hBT : BT.any (fun e => e.1 == b.T && e.2.1 == b.m && e.2.2 == 0) = true) (hV : V i = VT) (hi : (P.info? b.T).map (·.size) = some b.m)
    (H : Ask md ops a0 V n0 w0 B SL o fun listed a w => onb listed b.ia = true ∧ ∃ z, a.eval y = .agg z ∧ z.size = b.m ∧ NoInt z ∧ z.all (·.oneCell') = true ∧ b.P (.agg z) w) : KStep BT P md ops Q a0 V n0 w0 B SL i o := by
  intro listed a w h hd _ hil _ K hK
  obtain ⟨hg, hon, z, hy, hzs, hni, h1, hP⟩ := H listed a w h hd
  rw [if_pos (wanted_of hg)]
  obtain ⟨g, old, e1, e2, e3, hr, hks⟩ := h.k.store (v := undef) hB hq hon (by simpa using hia) hik hil (fun g _ => by
    rw [List.any_eq_true] at hBT
    obtain ⟨e, he, h1⟩ := hBT
    simp only [Bool.and_eq_true, beq_iff_eq] at h1
    exact ⟨e, he, h1.1.1, h1.1.2, .inl h1.2⟩) hBP z hzs hni hP (fun c hc => by
    rw [List.all_eq_true] at hts
    simpa using hts c hc)
  refine wp_store_row b.T (.tmp b.t) y ho g z (by simp [Act.eval, Array.getD_eq_getD_getElem?, e1]) hy b.T old e2 (by rw [hi, hzs]) e3 h1 ?_
  rw [hds] at hK ⊢
  exact hK _ _ hks hr (by rw [hV]; trivial)
/-- .. a variable from ahead of the region, whose block lies low -/
theorem k_storeG {i : Nat} {o : Oper} {B1 B2 : List Bd} {b : Bd} {y : Operand} (hBP : ∀ b ∈ B, b.stab BT) (hB : B = B1 ++ b :: B2) (hq : quietB (B1 ++ B2) i none = true) (hts : (B1 ++ B2).all (fun c => c.t != b.t) = true) (ho : o.op = .store b.T (.tmp b.t) y) (hds : o.dst = none) (hia : (b.ia != some i) = true) (hik : b.ik = some i) (hBT : ∀ (a : Act) (g : Nat), a.tmps[b.t]? = a0.tmps[b.t]? → a.tmps[b.t]? = some (.pointer (some ⟨g, 0, none⟩)) → ∃ e ∈ BT, e.1 = b.T ∧ e.2.1 = b.m ∧ (e.2.2 = 0 ∨ g < e.2.2)) (hbt : b.ia = none → ops.all (fun o => o.dst != some b.t) = true) (hbt' : b.ia ≠ none → ∃ e ∈ BT, e.1 = b.T ∧ e.2.1 = b.m ∧ e.2.2 = 0) (hV : V i = VT) (hi : (P.info? b.T).map (·.size) = some b.m)
    (H : Ask md ops a0 V n0 w0 B SL o fun listed a w => onb listed b.ia = true ∧ ∃ z, a.eval y = .agg z ∧ z.size = b.m ∧ NoInt z ∧ z.all (·.oneCell') = true ∧ b.P (.agg z) w) : KStep BT P md ops Q a0 V n0 w0 B SL i o := by
  intro listed a w h hd _ hil _ K hK
  obtain ⟨hg, hon, z, hy, hzs, hni, h1, hP⟩ := H listed a w h hd
  rw [if_pos (wanted_of hg)]
  obtain ⟨g, old, e1, e2, e3, hr, hks⟩ := h.k.store (v := undef) hB hq hon (by simpa using hia) hik hil (fun g hg => by
    cases hia0 : b.ia with
    | none => exact hBT a g (h.other b.t fun i o ho => by
        have hbt0 := hbt hia0
        rw [Array.all_eq_true'] at hbt0
        have := hbt0 o (Array.mem_of_getElem? ho)
        simpa using this) hg
    | some _ =>
      obtain ⟨e, h1, h2, h3, h4⟩ := hbt' (by rw [hia0]; intro e; cases e)
      exact ⟨e, h1, h2, h3, .inl h4⟩) hBP z hzs hni hP (fun c hc => by
    rw [List.all_eq_true] at hts
    simpa using hts c hc)
  refine wp_store_row b.T (.tmp b.t) y ho g z (by simp [Act.eval, Array.getD_eq_getD_getElem?, e1]) hy b.T old e2 (by rw [hi, hzs]) e3 h1 ?_
  rw [hds] at hK ⊢
  exact hK _ _ hks hr (by rw [hV]; trivial)
/-- an operation that its guard holds back -/
theorem k_skip {i : Nat} {o : Oper} (hBP : ∀ b ∈ B, b.stab BT) (hq : quietB B i o.dst = true) (H : ∀ listed a w, KI md ops a0 V n0 w0 B SL listed a w → (∀ e ∈ o.after, Region.binds md e = true → listed.getD e.on false = true) → (∃ j b c, o.guard = some (j, b) ∧ yielded ops a.tmps j = some c ∧ c ≠ b) ∧ V i undef w) : KStep BT P md ops Q a0 V n0 w0 B SL i o := by
  intro listed a w h hd _ _ _ K hK
  obtain ⟨⟨j, b, c, hg, hy, hne⟩, h3⟩ := H listed a w h hd
  have hw : Region.wanted o (yielded ops a.tmps) = false := by
    unfold Region.wanted
    rw [hg]; simp only []
    rw [hy]; simpa using hne
  rw [hw]
  exact hK undef w (h.k.quiet hq hBP h.n (Below.refl _ _)) (RI.refl w) h3

def StabL (BT : List (TypeId × Nat × Nat)) : List VP → Prop
  | [] => True
  | V :: l => Stab BT V ∧ StabL BT l
theorem StabL.get : ∀ {l : List VP}, StabL BT l → ∀ j, Stab BT (l.getD j VT)
  | [], _, j => by simpa using Stab_VT
  | V :: l, h, 0 => h.1
  | V :: l, h, j + 1 => by have := StabL.get h.2 j; simpa using this
theorem stab_of {l : List VP} (h : StabL BT l) : ∀ j, Stab BT ((fun i => l.getD i VT) j) := fun j => h.get j
/-- what is known between regions -/
structure St (n0 : Nat) (w0 : World) (N : Nat) (L : List Bd) (SL : List (Nat × VP)) (a : Act) (w : World) : Prop where
  k : KS n0 w0 L #[] a w
  n : n0 ≤ w.heap.size
  size : a.tmps.size = N
  defers : a.defers = []
  sl : ∀ p ∈ SL, ∃ v, a.tmps[p.1]? = some v ∧ p.2 v w
def StartsFrom (L : List Bd) : List Bd → Prop
  | [] => True
  | b :: l => ((∃ i, b.ia = some i) ∨ ∃ c, c ∈ L ∧ c.t = b.t ∧ c.T = b.T ∧ c.m = b.m ∧ b.ia = none ∧ c.ia = none ∧ ((∃ k, b.ik = some k ∧ c.ik = none ∧ c.P = b.P0) ∨ (c.ik = none ∧ c.P = b.P ∧ b.ik = none))) ∧ StartsFrom L l
theorem StartsFrom.get {L : List Bd} : ∀ {l : List Bd}, StartsFrom L l → ∀ b ∈ l, (∃ i, b.ia = some i) ∨ ∃ c, c ∈ L ∧ c.t = b.t ∧ c.T = b.T ∧ c.m = b.m ∧ b.ia = none ∧ c.ia = none ∧ ((∃ k, b.ik = some k ∧ c.ik = none ∧ c.P = b.P0) ∨ (c.ik = none ∧ c.P = b.P ∧ b.ik = none))
  | _ :: _, h, _, .head _ => h.1
  | _ :: _, h, b, .tail _ hb => StartsFrom.get h.2 b hb
theorem onb_start {k i : Nat} : onb (Array.replicate k false) (some i) = false := by
  simp only [onb, Array.getD_eq_getD_getElem?, Array.getElem?_replicate]
  split <;> rfl
theorem St.start {N : Nat} {L : List Bd} {a : Act} {w : World} (h : St n0 w0 N L SL a w) (hB : StartsFrom L B) (k : Nat) : KS n0 w0 B (Array.replicate k false) a w := by
  refine ⟨h.k.below, fun b hb hon => ?_, fun b hb c hc hne h1 h2 => ?_, fun b hb hn1 hk => by
    cases hik : b.ik with
    | none => exact absurd hik hn1
    | some i => rw [hik, onb_start] at hk; cases hk⟩
  · rcases hB.get b hb with ⟨i, hi⟩ | ⟨c, hc, e1, e2, e3, e4, e5, e6⟩
    · rw [hi, onb_start] at hon; cases hon
    · obtain ⟨g, cs, f1, f2, f3, f4, f5, f6, -⟩ := h.k.ok c hc (by rw [e5]; rfl)
      refine ⟨g, cs, by rw [← e1]; exact f1, f2, by rw [← e2]; exact f3, by rw [← e3]; exact f4, f5, fun hk => ?_, fun _ hk => ?_⟩
      · rcases e6 with ⟨k', hk', -⟩ | ⟨e6, e7, -⟩
        · rw [hk', onb_start] at hk; cases hk
        · rw [← e7]; exact f6 (by rw [e6]; rfl)
      · rcases e6 with ⟨k', hk', e8, e9⟩ | ⟨e6, e7, e8⟩
        · rw [← e9]; exact f6 (by rw [e8]; rfl)
        · rw [e8] at hk; cases hk
  · rcases hB.get b hb with ⟨i, hi⟩ | ⟨b', hb', e1, -, -, -, e5, -⟩
    · rw [hi, onb_start] at h1; cases h1
    · rcases hB.get c hc with ⟨i, hi⟩ | ⟨c', hc', f1, -, -, -, f5, -⟩
      · rw [hi, onb_start] at h2; cases h2
      · rw [← e1, ← f1]
        exact h.k.ne b' hb' c' hc' (by rw [e1, f1]; exact hne) (by rw [e5]; rfl) (by rw [f5]; rfl)
def Bd.fin (b : Bd) : Bd := { b with ia := none, ik := none, P0 := VT }
def Gets (ops : Array Oper) (V : Nat → VP) (SL : List (Nat × VP)) : List (Nat × VP) → Prop
  | [] => True
  | p :: l => ((p ∈ SL ∧ ops.all (fun o => o.dst != some p.1) = true) ∨ ∃ i, (ops[i]?).bind (·.dst) = some p.1 ∧ V i = p.2) ∧ Gets ops V SL l
theorem Gets.get : ∀ {l : List (Nat × VP)}, Gets ops V SL l → ∀ p ∈ l, (p ∈ SL ∧ ops.all (fun o => o.dst != some p.1) = true) ∨ ∃ i, (ops[i]?).bind (·.dst) = some p.1 ∧ V i = p.2
  | _ :: _, h, _, .head _ => h.1
  | _ :: _, h, p, .tail _ hp => Gets.get h.2 p hp
theorem KI.st {N : Nat} {listed : Array Bool} {a : Act} {w : World} (h : KI md ops a0 V n0 w0 B SL listed a w) (hall : ∀ i, i < ops.size → listed.getD i false = true) (hN : a0.tmps.size = N) (hd0 : a0.defers = []) (hlt : B.all (fun b => (match b.ia with | some i => decide (i < ops.size) | none => true) && (match b.ik with | some i => decide (i < ops.size) | none => true)) = true) (SL' : List (Nat × VP)) (hg : Gets ops V SL SL') :
    St n0 w0 N (B.map Bd.fin) SL' a w := by
  have hon : ∀ b ∈ B, onb listed b.ia = true ∧ onb listed b.ik = true := fun b hb => by
    rw [List.all_eq_true] at hlt
    have := hlt b hb
    rw [Bool.and_eq_true] at this
    refine ⟨?_, ?_⟩
    · cases hi : b.ia with
      | none => rfl
      | some i => rw [hi] at this; exact hall i (of_decide_eq_true this.1)
    · cases hi : b.ik with
      | none => rfl
      | some i => rw [hi] at this; exact hall i (of_decide_eq_true this.2)
  refine ⟨⟨h.k.below, fun b hb _ => ?_, fun b hb c hc hne _ _ => ?_, fun b hb hn1 _ => by
    obtain ⟨c, hc, rfl⟩ := List.mem_map.1 hb
    exact absurd rfl hn1⟩, h.n, by rw [h.size, hN], by rw [h.defers, hd0], fun p hp => ?_⟩
  · obtain ⟨c, hc, rfl⟩ := List.mem_map.1 hb
    obtain ⟨g, cs, f1, f2, f3, f4, f5, f6, -⟩ := h.k.ok c hc (hon c hc).1
    exact ⟨g, cs, f1, f2, f3, f4, f5, fun _ => f6 (hon c hc).2, fun _ hk => by cases hk⟩
  · obtain ⟨b', hb', rfl⟩ := List.mem_map.1 hb
    obtain ⟨c', hc', rfl⟩ := List.mem_map.1 hc
    exact h.k.ne b' hb' c' hc' hne (hon b' hb').1 (hon c' hc').1
  · rcases hg.get p hp with ⟨h1, h2⟩ | ⟨i, hi, hv⟩
    · have := h.other p.1 fun i o ho => by
        rw [Array.all_eq_true'] at h2
        have := h2 o (Array.mem_of_getElem? ho)
        simpa using this
      obtain ⟨v, e1, e2⟩ := h.sl p h1
      exact ⟨v, by rw [this]; exact e1, e2⟩
    · cases ho : ops[i]? with
      | none => rw [ho] at hi; cases hi
      | some o =>
        rw [ho] at hi
        have hlt' : i < ops.size := by
          rcases Nat.lt_or_ge i ops.size with h' | h'
          · exact h'
          · rw [Array.getElem?_eq_none h'] at ho; cases ho
        obtain ⟨v, e1, e2⟩ := h.own i o p.1 ho (hall i hlt') hi
        exact ⟨v, e1, by rw [← hv]; exact e2⟩
theorem St.begin {N : Nat} {a : Act} {w : World} (hN : a.tmps.size = N) (hd : a.defers = []) (hsl : ∀ p ∈ SL, ∃ v, a.tmps[p.1]? = some v ∧ p.2 v w) : St w.heap.size w N [] SL a w :=
  ⟨{ below := Below.refl _ _, ok := fun _ h => absurd h (by simp), ne := fun _ h => absurd h (by simp), fa := fun _ h => absurd h (by simp) }, Nat.le_refl _, hN, hd, hsl⟩
/-- the value of a slot -/
theorem St.slot {N : Nat} {L : List Bd} {a : Act} {w : World} (h : St n0 w0 N L SL a w) (p : Nat × VP) (hp : p ∈ SL) : ∃ v, a.eval (.tmp p.1) = v ∧ p.2 v w := by
  obtain ⟨v, e1, e2⟩ := h.sl p hp
  exact ⟨v, by simp [Act.eval, Array.getD_eq_getD_getElem?, e1], e2⟩
/-- the result's box -/
theorem St.res {N : Nat} {L : List Bd} {a : Act} {w : World} (h : St n0 w0 N L SL a w) (b : Bd) (hb : b ∈ L) (hia : b.ia = none) (hik : b.ik = none) : ∃ g cs, a.tmps.getD b.t undef = .pointer (some ⟨g, 0, none⟩) ∧ w.heap[g]? = some (.cells cs b.T (0, 0)) ∧ cs.size = b.m ∧ b.P (.agg cs) w ∧ Below n0 w0 w := by
  obtain ⟨g, cs, f1, f2, f3, f4, f5, f6, -⟩ := h.k.ok b hb (by rw [hia]; rfl)
  exact ⟨g, cs, by simp [Array.getD_eq_getD_getElem?, f1], f3, f4, f6 (by rw [hik]; rfl), h.k.below⟩
theorem St.sub {N : Nat} {L L' : List Bd} {SL' : List (Nat × VP)} {a : Act} {w : World} (h : St n0 w0 N L SL a w) (hL : ∀ b ∈ L', b ∈ L) (hS : ∀ p ∈ SL', p ∈ SL) : St n0 w0 N L' SL' a w :=
  ⟨⟨h.k.below, fun b hb => h.k.ok b (hL b hb), fun b hb c hc => h.k.ne b (hL b hb) c (hL c hc), fun b hb => h.k.fa b (hL b hb)⟩, h.n, h.size, h.defers, fun p hp => h.sl p (hS p hp)⟩
/-- there is that much memory at least -/
def VLo (lo : Nat) : VP := fun _ w => lo ≤ w.heap.size
theorem Stab_VLo (lo : Nat) : Stab BT (VLo lo) := fun _ _ _ h hr => Nat.le_trans h hr.size
theorem St.lo {N : Nat} {L : List Bd} {SL : List (Nat × VP)} {a : Act} {w : World} (h : St n0 w0 N L SL a w) (t : Nat) (ht : t < N) : St n0 w0 N L ((t, VLo w.heap.size) :: SL) a w :=
  ⟨h.k, h.n, h.size, h.defers, List.forall_mem_cons.2 ⟨⟨a.tmps[t]'(by rw [h.size]; exact ht), by simp, Nat.le_refl _⟩, h.sl⟩⟩
theorem St.low {N : Nat} {L : List Bd} {SL : List (Nat × VP)} {a : Act} {w : World} (h : St n0 w0 N L SL a w) (b : Bd) (hb : b ∈ L) (hia : b.ia = none) (a' : Act) (g : Nat) (h1 : a'.tmps[b.t]? = a.tmps[b.t]?) (h2 : a'.tmps[b.t]? = some (.pointer (some ⟨g, 0, none⟩))) : g < w.heap.size := by
  obtain ⟨g', cs, f1, f2, f3, -⟩ := h.k.ok b hb (by rw [hia]; rfl)
  rw [h1, f1] at h2
  cases h2
  exact lt_blk f3
end
end Go.Proofs.YteaoaoknpihchaaDoor

namespace Go.Proofs.YteaoaoknpihchaaDoor
/-- a fraction in lowest terms is the only one -/
theorem rat_uniq {r : Rat} {n d : Int} (hd : 0 < d) (hc : Int.gcd n d = 1) (h : n * (r.den : Int) = r.num * d) : r.num = n ∧ (r.den : Int) = d := by
  have hc' : n.natAbs.Coprime d.toNat := by
    have : d.natAbs = d.toNat := by omega
    rw [← this]; exact hc
  have e : (⟨n, d.toNat, by omega, hc'⟩ : Rat) = r := by
    rw [Rat.eq_iff_mul_eq_mul]
    show n * (r.den : Int) = r.num * (d.toNat : Int)
    rw [h, Int.toNat_of_nonneg (by omega)]
  exact ⟨(congrArg Rat.num e).symm, by rw [← congrArg Rat.den e]; show ((d.toNat : Nat) : Int) = d; omega⟩
theorem den_pos' (r : Rat) : 0 < (r.den : Int) := by have := r.den_pos; omega
theorem rat_cop (r : Rat) : Int.gcd r.num (r.den : Int) = 1 := r.reduced
/-- p / q as a number, 0 if q is 0 -/
theorem divInt_low {p q : Int} (hq : q ≠ 0) : (Rat.divInt p q).num * q = p * ((Rat.divInt p q).den : Int) := by
  have h := Rat.num_divInt_den (Rat.divInt p q)
  have h2 := (Rat.divInt_eq_divInt_iff (by have := den_pos' (Rat.divInt p q); omega) hq).1 h
  exact h2
theorem divInt_of {p q n d : Int} (hq : q ≠ 0) (hd : 0 < d) (hc : Int.gcd n d = 1) (h : n * q = p * d) : (Rat.divInt p q).num = n ∧ ((Rat.divInt p q).den : Int) = d := by
  apply rat_uniq hd hc
  have h1 := divInt_low (p := p) hq
  generalize (Rat.divInt p q).num = N at *
  generalize ((Rat.divInt p q).den : Int) = D at *
  -- n D q = p d D = N q d
  have : (n * D) * q = (N * d) * q := by grind
  exact Int.eq_of_mul_eq_mul_right hq this
/-- Make: with a positive divisor -/
theorem make_low {p q : Int} (hq : 0 < q) : (Rat.divInt p q).num = p / (Int.gcd p q : Int) ∧ ((Rat.divInt p q).den : Int) = q / (Int.gcd p q : Int) := by
  have hg : (0 : Int) < Int.gcd p q := by have := Int.gcd_pos_of_ne_zero_right p (b := q) (by omega); omega
  have d1 : (Int.gcd p q : Int) ∣ p := Int.gcd_dvd_left ..
  have d2 : (Int.gcd p q : Int) ∣ q := Int.gcd_dvd_right ..
  refine divInt_of (by omega) ?_ (Int.gcd_ediv_gcd_ediv_gcd (Int.gcd_pos_of_ne_zero_right p (by omega))) ?_
  · exact Int.ediv_pos_of_pos_of_dvd hq (by omega) d2
  · generalize (Int.gcd p q : Int) = g at *
    obtain ⟨a, rfl⟩ := d1
    obtain ⟨b, rfl⟩ := d2
    rw [Int.mul_ediv_cancel_left _ (by omega), Int.mul_ediv_cancel_left _ (by omega)]
    grind
theorem add_low (a b : Rat) (l r p m : Int) (hl : l = (a.den : Int) / (Int.gcd a.den b.den : Int)) (hr : r = (b.den : Int) / (Int.gcd a.den b.den : Int)) (hp : p = a.num * r + b.num * l) (hm : m = (Int.gcd p (Int.gcd a.den b.den : Int) : Int)) :
    (a + b).num = p / m ∧ ((a + b).den : Int) = l * ((b.den : Int) / m) := by
  have ha := den_pos' a
  have hb := den_pos' b
  have hg : (0 : Int) < Int.gcd a.den b.den := by have := Int.gcd_pos_of_ne_zero_right (a.den : Int) (b := b.den) (by omega); omega
  have d1 : (Int.gcd a.den b.den : Int) ∣ (a.den : Int) := Int.gcd_dvd_left ..
  have d2 : (Int.gcd a.den b.den : Int) ∣ (b.den : Int) := Int.gcd_dvd_right ..
  have hlr : Int.gcd l r = 1 := by rw [hl, hr]; exact Int.gcd_ediv_gcd_ediv_gcd (by omega)
  have hac := rat_cop a
  have hbc := rat_cop b
  have hA := Rat.num_divInt_den a
  have hab : ∀ n d : Int, 0 < d → Int.gcd n d = 1 → n * ((a.den : Int) * b.den) = (a.num * b.den + b.num * a.den) * d → (a + b).num = n ∧ ((a + b).den : Int) = d := by
    intro n d hd hc h
    have e : a + b = Rat.divInt (a.num * b.den + b.num * a.den) ((a.den : Int) * b.den) := by
      conv => lhs; rw [← Rat.num_divInt_den a, ← Rat.num_divInt_den b]
      exact Rat.divInt_add_divInt _ _ (by omega) (by omega)
    rw [e]
    exact divInt_of (Int.ne_of_gt (Int.mul_pos ha hb)) hd hc h
  generalize (Int.gcd a.den b.den : Int) = g at *
  obtain ⟨x, hx⟩ := d1
  obtain ⟨y, hy⟩ := d2
  rw [hx] at hl hac ha
  rw [hy] at hr hbc hb
  rw [Int.mul_ediv_cancel_left _ (by omega)] at hl hr
  subst hl hr
  have hxp : 0 < l := by
    rcases Int.lt_or_le 0 l with h | h
    · exact h
    · have := Int.mul_nonpos_of_nonneg_of_nonpos (show 0 ≤ g by omega) h; omega
  have hyp : 0 < r := by
    rcases Int.lt_or_le 0 r with h | h
    · exact h
    · have := Int.mul_nonpos_of_nonneg_of_nonpos (show 0 ≤ g by omega) h; omega
  have hm0 : 0 < m := by rw [hm]; have := Int.gcd_pos_of_ne_zero_right p (b := g) (by omega); omega
  have hmg : m ∣ g := by rw [hm]; exact Int.gcd_dvd_right ..
  have hmp : m ∣ p := by rw [hm]; exact Int.gcd_dvd_left ..
  have hcop : Int.gcd (p / m) (g / m) = 1 := by rw [hm]; exact Int.gcd_ediv_gcd_ediv_gcd (by rw [hm] at hm0; omega)
  have hcl : Int.gcd p l = 1 := by
    rw [hp, Int.gcd_add_mul_right_left]
    rw [Int.gcd_mul_left_left_of_gcd_eq_one (by rw [Int.gcd_comm]; exact hlr)]
    rw [Int.gcd_comm] at hac ⊢
    exact Nat.Coprime.coprime_dvd_left (by rw [Int.natAbs_mul]; exact Nat.dvd_mul_left ..) hac
  have hcr : Int.gcd p r = 1 := by
    rw [hp, Int.add_comm, Int.gcd_add_mul_right_left]
    rw [Int.gcd_mul_left_left_of_gcd_eq_one hlr]
    rw [Int.gcd_comm] at hbc ⊢
    exact Nat.Coprime.coprime_dvd_left (by rw [Int.natAbs_mul]; exact Nat.dvd_mul_left ..) hbc
  obtain ⟨k, hk⟩ := hmg
  obtain ⟨t, ht⟩ := hmp
  rw [hy]
  have e1 : p / m = t := by rw [ht]; exact Int.mul_ediv_cancel_left _ (by omega)
  have e2 : g * r / m = k * r := by rw [hk, Int.mul_assoc]; exact Int.mul_ediv_cancel_left _ (by omega)
  have e3 : g / m = k := by rw [hk]; exact Int.mul_ediv_cancel_left _ (by omega)
  rw [e1, e2]
  rw [e1, e3] at hcop
  have hkp : 0 < k := by
    rcases Int.lt_or_le 0 k with h | h
    · exact h
    · have := Int.mul_nonpos_of_nonneg_of_nonpos (show 0 ≤ m by omega) h; omega
  have htp : t.natAbs ∣ p.natAbs := by rw [ht, Int.natAbs_mul]; exact Nat.dvd_mul_left ..
  refine hab _ _ (Int.mul_pos hxp (Int.mul_pos hkp hyp)) ?_ ?_
  · have c1 : Nat.Coprime t.natAbs l.natAbs := Nat.Coprime.coprime_dvd_left htp hcl
    have c2 : Nat.Coprime t.natAbs r.natAbs := Nat.Coprime.coprime_dvd_left htp hcr
    have c3 : Nat.Coprime t.natAbs k.natAbs := hcop
    show Nat.gcd t.natAbs (l * (k * r)).natAbs = 1
    rw [Int.natAbs_mul, Int.natAbs_mul]
    exact Nat.Coprime.mul_right c1 (Nat.Coprime.mul_right c3 c2)
  · rw [hx, hy]
    have : p = m * t := ht
    have : g = m * k := hk
    grind
theorem mul_low (a b : Rat) (f s : Int) (hf : f = (Int.gcd a.num b.den : Int)) (hs : s = (Int.gcd b.num a.den : Int)) :
    (a * b).num = (a.num / f) * (b.num / s) ∧ ((a * b).den : Int) = ((a.den : Int) / s) * ((b.den : Int) / f) := by
  have ha := den_pos' a
  have hb := den_pos' b
  have hac := rat_cop a
  have hbc := rat_cop b
  have hab : ∀ n d : Int, 0 < d → Int.gcd n d = 1 → n * ((a.den : Int) * b.den) = (a.num * b.num) * d → (a * b).num = n ∧ ((a * b).den : Int) = d := by
    intro n d hd hc h
    have e : a * b = Rat.divInt (a.num * b.num) ((a.den : Int) * b.den) := by
      conv => lhs; rw [← Rat.num_divInt_den a, ← Rat.num_divInt_den b]
      exact Rat.divInt_mul_divInt _ _
    rw [e]
    exact divInt_of (Int.ne_of_gt (Int.mul_pos ha hb)) hd hc h
  have hf0 : 0 < f := by rw [hf]; have := Int.gcd_pos_of_ne_zero_right a.num (b := b.den) (by omega); omega
  have hs0 : 0 < s := by rw [hs]; have := Int.gcd_pos_of_ne_zero_right b.num (b := a.den) (by omega); omega
  have f1 : f ∣ a.num := by rw [hf]; exact Int.gcd_dvd_left ..
  have f2 : f ∣ (b.den : Int) := by rw [hf]; exact Int.gcd_dvd_right ..
  have s1 : s ∣ b.num := by rw [hs]; exact Int.gcd_dvd_left ..
  have s2 : s ∣ (a.den : Int) := by rw [hs]; exact Int.gcd_dvd_right ..
  have c1 : Int.gcd (a.num / f) (b.den / f) = 1 := by rw [hf]; exact Int.gcd_ediv_gcd_ediv_gcd (by rw [hf] at hf0; omega)
  have c2 : Int.gcd (b.num / s) (a.den / s) = 1 := by rw [hs]; exact Int.gcd_ediv_gcd_ediv_gcd (by rw [hs] at hs0; omega)
  obtain ⟨u, hu⟩ := f1
  obtain ⟨v, hv⟩ := f2
  obtain ⟨x, hx⟩ := s1
  obtain ⟨y, hy⟩ := s2
  have e1 : a.num / f = u := by rw [hu]; exact Int.mul_ediv_cancel_left _ (by omega)
  have e2 : (b.den : Int) / f = v := by rw [hv]; exact Int.mul_ediv_cancel_left _ (by omega)
  have e3 : b.num / s = x := by rw [hx]; exact Int.mul_ediv_cancel_left _ (by omega)
  have e4 : (a.den : Int) / s = y := by rw [hy]; exact Int.mul_ediv_cancel_left _ (by omega)
  rw [e1, e2] at c1
  rw [e3, e4] at c2
  rw [e1, e2, e3, e4]
  have hvp : 0 < v := by
    rcases Int.lt_or_le 0 v with h | h
    · exact h
    · have := Int.mul_nonpos_of_nonneg_of_nonpos (show 0 ≤ f by omega) h; omega
  have hyp : 0 < y := by
    rcases Int.lt_or_le 0 y with h | h
    · exact h
    · have := Int.mul_nonpos_of_nonneg_of_nonpos (show 0 ≤ s by omega) h; omega
  refine hab _ _ (Int.mul_pos hyp hvp) ?_ (by rw [hu, hv, hx, hy]; grind)
  have hacN : Nat.Coprime a.num.natAbs (a.den : Int).natAbs := hac
  have hbcN : Nat.Coprime b.num.natAbs (b.den : Int).natAbs := hbc
  rw [hu, hy, Int.natAbs_mul, Int.natAbs_mul] at hacN
  rw [hx, hv, Int.natAbs_mul, Int.natAbs_mul] at hbcN
  show Nat.gcd (u * x).natAbs (y * v).natAbs = 1
  rw [Int.natAbs_mul, Int.natAbs_mul]
  refine Nat.Coprime.mul_left (Nat.Coprime.mul_right ?_ c1) (Nat.Coprime.mul_right c2 ?_)
  · exact hacN.coprime_mul_left.coprime_mul_left_right
  · exact hbcN.coprime_mul_left.coprime_mul_left_right
theorem inv_low {q : Rat} (h : 0 < q.num) : (q⁻¹).num = (q.den : Int) ∧ ((q⁻¹).den : Int) = q.num := by
  have hs : q.num.sign = 1 := Int.sign_eq_one_of_pos h
  rw [Rat.num_inv, Rat.den_inv, if_neg (by omega), hs]
  omega
theorem gcd_den_ne (x : Int) (q : Rat) : (Int.gcd x (q.den : Int) : Int) ≠ 0 := by
  have := Int.gcd_pos_of_ne_zero_right x (b := (q.den : Int)) (by have := q.den_pos; omega)
  omega
theorem gcd_den_ne' (q : Rat) (x : Int) : (Int.gcd (q.den : Int) x : Int) ≠ 0 := by
  rw [Int.gcd_comm]; exact gcd_den_ne x q
theorem gcd_gcd_ne (x : Int) (q : Rat) (y : Int) : (Int.gcd x (Int.gcd (q.den : Int) y : Int) : Int) ≠ 0 := by
  have := Int.gcd_pos_of_ne_zero_right x (b := (Int.gcd (q.den : Int) y : Int)) (gcd_den_ne' q y)
  omega
theorem gcd_ne_r {x y : Int} (h : y ≠ 0) : (Int.gcd x y : Int) ≠ 0 := by
  have := Int.gcd_pos_of_ne_zero_right x h
  omega
theorem div_neg_neg (a b : Rat) : a / b = -a * (-b)⁻¹ := by
  by_cases hb : b = 0
  · subst hb; rw [Rat.div_def, Rat.neg_zero, Rat.inv_zero, Rat.mul_zero, Rat.mul_zero]
  · have : (-b)⁻¹ = -b⁻¹ := by
      apply Rat.inv_eq_of_mul_eq_one
      rw [Rat.neg_mul, Rat.mul_neg, Rat.neg_neg, Rat.mul_inv_cancel b hb]
    rw [this, Rat.neg_mul, Rat.mul_neg, Rat.neg_neg, Rat.div_def]
end Go.Proofs.YteaoaoknpihchaaDoor
