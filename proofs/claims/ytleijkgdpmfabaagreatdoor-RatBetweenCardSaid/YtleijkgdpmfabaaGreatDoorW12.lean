/- Contracts of the package integer and its reference: Whole functions: the operations, and what is known between regions. sherdref01.Same (as in the texts of stage 1). -/
import Derived.Test.YtleijkgdpmfabaaGreatDoorW11
import Derived.Test.YtleijkgdpmfabaaGreatDoorW7
import Derived.ChangeKeysEq
set_option linter.unusedVariables false
namespace Go.Proofs.YtleijkgdpmfabaaGreatDoor
open Go Go.RowKit
section
variable {P : Program} {md : Region.Mode} {ops : Array Oper} {Q : Exit → Act → World → Prop} {a0 : Act} {V : Nat → VP} {n0 : Nat} {w0 : World} {B : List Bd} {SL : List (Nat × VP)} {BT : List (TypeId × Nat × Nat)}
def aggT (d : TypeDesc) : Bool := match d with | .struct _ | .array _ _ => true | _ => false
def Guards (ops : Array Oper) (guard : Option (Nat × Bool)) (a : Act) : Prop := match guard with | none => True | some (j, b) => yielded ops a.tmps j = some b
theorem wanted_of {o : Oper} {a : Act} (h : Guards ops o.guard a) : Region.wanted o (yielded ops a.tmps) = true := by
  unfold Region.wanted
  unfold Guards at h
  cases hg : o.guard with
  | none => rfl
  | some g => obtain ⟨j, b⟩ := g; rw [hg] at h; simp only [] at h ⊢; rw [h]; simp
def Ask (md : Region.Mode) (ops : Array Oper) (a0 : Act) (V : Nat → VP) (n0 : Nat) (w0 : World) (B : List Bd) (SL : List (Nat × VP)) (o : Oper) (X : Array Bool → Act → World → Prop) : Prop :=
  ∀ listed a w, KI md ops a0 V n0 w0 B SL listed a w → (∀ e ∈ o.after, Region.binds md e = true → listed.getD e.on false = true) → Guards ops o.guard a ∧ X listed a w
theorem k_call {i : Nat} {dst : Option Tmp} {f : FuncId} {xs : Array Operand} {ats : Array TypeId} {ty : TypeId} {pos : String} {after : Array Edge} {guard : Option (Nat × Bool)} (hBP : ∀ b ∈ B, b.stab BT) (hq : quietB B i dst = true) (hcall : ∀ args w, (callFunc f args).run P w = .ok (.enter f args) w)
    (H : Ask md ops a0 V n0 w0 B SL { dst, op := .call { callee := .value (.func f), args := xs, argTypes := ats }, type := ty, pos, after, guard } fun _ a w => ∃ args, #[] ++ xs.map a.eval ++ #[] = args ∧ Calls P f args w (RV (V i) w)) :
    KStep BT P md ops Q a0 V n0 w0 B SL i { dst, op := .call { callee := .value (.func f), args := xs, argTypes := ats }, type := ty, pos, after, guard } := by
  intro listed a w h hd _ _ _ K hK
  obtain ⟨hg, args, hargs, hc⟩ := H listed a w h hd
  rw [if_pos (wanted_of hg)]
  unfold Oper.wp
  have he : execOp a.eval { dst, op := .call { callee := .value (.func f), args := xs, argTypes := ats }, type := ty, pos, after, guard } = callFunc f (#[] ++ xs.map a.eval ++ #[]) := rfl
  rw [he, hargs, hcall]
  refine Calls.mono hc fun e w' hp => ?_
  obtain ⟨v, rfl, h1, h2⟩ := hp
  exact hK v w' (h.k.quiet hq hBP h.n h2) (RI.of_below h2) h1
theorem k_run {i : Nat} {o : Oper} (hBP : ∀ b ∈ B, b.stab BT) (hq : quietB B i o.dst = true) (H : Ask md ops a0 V n0 w0 B SL o fun _ a w => ∃ v, (execOp a.eval o).run P w = .ok (.value v) w ∧ V i v w) : KStep BT P md ops Q a0 V n0 w0 B SL i o := by
  intro listed a w h hd _ _ _ K hK
  obtain ⟨hg, v, hr, h1⟩ := H listed a w h hd
  rw [if_pos (wanted_of hg)]
  unfold Oper.wp
  rw [hr]
  exact hK v w (h.k.quiet hq hBP h.n (Below.refl _ _)) (RI.refl w) h1
theorem k_enter {i : Nat} {o : Oper} (hBP : ∀ b ∈ B, b.stab BT) (hq : quietB B i o.dst = true) (H : Ask md ops a0 V n0 w0 B SL o fun _ a w => ∃ f args, (execOp a.eval o).run P w = .ok (.enter f args) w ∧ Calls P f args w (RV (V i) w)) : KStep BT P md ops Q a0 V n0 w0 B SL i o := by
  intro listed a w h hd _ _ _ K hK
  obtain ⟨hg, f, args, hr, hc⟩ := H listed a w h hd
  rw [if_pos (wanted_of hg)]
  unfold Oper.wp
  rw [hr]
  refine Calls.mono hc fun e w' hp => ?_
  obtain ⟨v, rfl, h1, h2⟩ := hp
  exact hK v w' (h.k.quiet hq hBP h.n h2) (RI.of_below h2) h1
theorem k_mem {i : Nat} {o : Oper} (hBP : ∀ b ∈ B, b.stab BT) (hq : quietB B i o.dst = true) (H : Ask md ops a0 V n0 w0 B SL o fun _ a w => ∃ v w', (execOp a.eval o).run P w = .ok (.value v) w' ∧ Below w.heap.size w w' ∧ V i v w') : KStep BT P md ops Q a0 V n0 w0 B SL i o := by
  intro listed a w h hd _ _ _ K hK
  obtain ⟨hg, v, w', hr, hb, h1⟩ := H listed a w h hd
  rw [if_pos (wanted_of hg)]
  unfold Oper.wp
  rw [hr]
  exact hK v w' (h.k.quiet hq hBP h.n hb) (RI.of_below hb) h1
theorem k_load {i : Nat} {o : Oper} {b : Bd} {d : TypeDesc} (hBP : ∀ b ∈ B, b.stab BT) (hq : quietB B i o.dst = true) (hb : b ∈ B) (ho : o.op = .load b.T (.tmp b.t)) (hon : b.ia = none) (hok : b.ik = none) (hV : V i = b.P)
    (hu : P.underlying b.T = some d) (hdd : aggT d = true) (hi : (P.info? b.T).map (·.size) = some b.m) (H : Ask md ops a0 V n0 w0 B SL o fun _ _ _ => True) : KStep BT P md ops Q a0 V n0 w0 B SL i o := by
  intro listed a w h hd _ _ _ K hK
  obtain ⟨hg, -⟩ := H listed a w h hd
  rw [if_pos (wanted_of hg)]
  obtain ⟨g, cs, e1, e2, e3, e4, e5, e6, -⟩ := h.k.ok b hb (by rw [hon]; rfl)
  have hP := e6 (by rw [hok]; rfl)
  refine wp_load_row b.T (.tmp b.t) ho g (by simp [Act.eval, Array.getD_eq_getD_getElem?, e1]) b.T cs (0, 0) d e3 hu (by revert hdd; cases d <;> intro hdd <;> first | rfl | cases hdd) (by rw [hi, e4]) ?_
  exact hK _ w (h.k.quiet hq hBP h.n (Below.refl _ _)) (RI.refl w) (by rw [hV]; exact hP)
theorem KI.not_yet {listed : Array Bool} {a : Act} {w : World} {i k : Nat} (h : KI md ops a0 V n0 w0 B SL listed a w) (hnl : listed.getD i false = false) (hk : (match ops[k]? with | some o => o.after.any (fun e => e.on == i && Region.binds md e) | none => false) = true) : listed.getD k false = false := by
  cases hl : listed.getD k false with
  | false => rfl
  | true =>
    cases ho : ops[k]? with
    | none => rw [ho] at hk; cases hk
    | some o =>
      rw [ho] at hk
      obtain ⟨e, he, hb⟩ : ∃ e, e ∈ o.after ∧ (e.on == i && Region.binds md e) = true := by
        simp only at hk
        rw [Array.any_eq_true] at hk
        obtain ⟨j, hj, h1⟩ := hk
        exact ⟨o.after[j], Array.getElem_mem hj, h1⟩
      simp only [Bool.and_eq_true, beq_iff_eq] at hb
      obtain ⟨hb1, hb2⟩ := hb
      have := h.closed k o ho hl e he hb2
      rw [hb1, hnl] at this
      cases this
theorem KI.out0 {listed : Array Bool} {a : Act} {w : World} {i : Nat} (h : KI md ops a0 V n0 w0 B SL listed a w) (hnl : listed.getD i false = false) (p : Nat × VP) (hp : p ∈ SL) (k : Nat) (ht : (List.range ops.size).all (fun j => j == k || (match ops[j]? with | some o => o.dst != some p.1 | none => true)) = true)
    (hk : k = i ∨ (match ops[k]? with | some o => o.after.any (fun e => e.on == i && Region.binds md e) | none => false) = true) : ∃ v, a.eval (.tmp p.1) = v ∧ p.2 v w := by
  have hkl : listed.getD k false = false := by
    rcases hk with rfl | hk
    · exact hnl
    · exact h.not_yet hnl hk
  have := h.same p.1 fun j o ho hd => by
    rw [List.all_eq_true] at ht
    have hj : j < ops.size := by
      rcases Nat.lt_or_ge j ops.size with h' | h'
      · exact h'
      · rw [Array.getElem?_eq_none h'] at ho; cases ho
    have h1 := ht j (by simpa using hj)
    rw [ho] at h1
    simp only [Bool.or_eq_true, beq_iff_eq, bne_iff_ne, ne_eq] at h1
    rcases h1 with rfl | h1
    · exact hkl
    · exact absurd hd h1
  obtain ⟨v, h1, h2⟩ := h.sl p hp
  exact ⟨v, by simp [Act.eval, Array.getD_eq_getD_getElem?, this, h1], h2⟩
theorem k_run0 {i : Nat} {o : Oper} (hBP : ∀ b ∈ B, b.stab BT) (hq : quietB B i o.dst = true) (H : ∀ listed a w, KI md ops a0 V n0 w0 B SL listed a w → (∀ e ∈ o.after, Region.binds md e = true → listed.getD e.on false = true) → listed.getD i false = false → Guards ops o.guard a ∧ ∃ v, (execOp a.eval o).run P w = .ok (.value v) w ∧ V i v w) : KStep BT P md ops Q a0 V n0 w0 B SL i o := by
  intro listed a w h hd _ _ hnl K hK
  obtain ⟨hg, v, hr, h1⟩ := H listed a w h hd hnl
  rw [if_pos (wanted_of hg)]
  unfold Oper.wp
  rw [hr]
  exact hK v w (h.k.quiet hq hBP h.n (Below.refl _ _)) (RI.refl w) h1
theorem k_load0 {i k : Nat} {o : Oper} {b : Bd} {d : TypeDesc} (hBP : ∀ b ∈ B, b.stab BT) (hq : quietB B i o.dst = true) (hb : b ∈ B) (ho : o.op = .load b.T (.tmp b.t)) (hon : b.ia = none) (hok : b.ik = some k) (hV : V i = b.P0)
    (hk : (match ops[k]? with | some o => o.after.any (fun e => e.on == i && Region.binds md e) | none => false) = true)
    (hu : P.underlying b.T = some d) (hdd : aggT d = true) (hi : (P.info? b.T).map (·.size) = some b.m) (H : Ask md ops a0 V n0 w0 B SL o fun _ _ _ => True) : KStep BT P md ops Q a0 V n0 w0 B SL i o := by
  intro listed a w h hd _ _ hnl K hK
  obtain ⟨hg, -⟩ := H listed a w h hd
  rw [if_pos (wanted_of hg)]
  obtain ⟨g, cs, e1, e2, e3, e4, e5, -, e7⟩ := h.k.ok b hb (by rw [hon]; rfl)
  have hP := e7 hon (by rw [hok]; exact h.not_yet hnl hk)
  refine wp_load_row b.T (.tmp b.t) ho g (by simp [Act.eval, Array.getD_eq_getD_getElem?, e1]) b.T cs (0, 0) d e3 hu (by revert hdd; cases d <;> intro hdd <;> first | rfl | cases hdd) (by rw [hi, e4]) ?_
  exact hK _ w (h.k.quiet hq hBP h.n (Below.refl _ _)) (RI.refl w) (by rw [hV]; exact hP)
def Vpt (a0 : Act) (t off : Nat) : VP := fun v _ => ∃ g, a0.tmps[t]? = some (.pointer (some ⟨g, 0, none⟩)) ∧ v = .pointer (some ⟨g, off, none⟩)
theorem Stab_Vpt (a0 : Act) (t off : Nat) : Stab BT (Vpt a0 t off) := fun _ _ _ h _ => h
theorem run_loadCells_at (w : World) (g off : Nat) (T : TypeId) (cs : Array Value) (fr : Nat × Nat) (hg : w.heap[g]? = some (.cells cs T fr)) (k : Nat) : ∀ j v, (cs.extract off (off + k)).toList[j]? = some v → w.cell? ((⟨g, off, none⟩ : Addr).add j) = some v := by
  intro j v hj
  have hj' : (cs.extract off (off + k))[j]? = some v := by rw [← hj, Array.getElem?_toList]
  rw [Array.getElem?_extract] at hj'
  split at hj'
  · have : (⟨g, off, none⟩ : Addr).add j = ⟨g, off + j, none⟩ := by unfold Addr.add; split <;> simp_all
    rw [this]
    simp [World.cell?, hg, hj']
  · cases hj'
theorem run_loadVar_part (w : World) (g off k : Nat) (t ty : TypeId) (cs : Array Value) (fr : Nat × Nat) (d : TypeDesc) (hg : w.heap[g]? = some (.cells cs t fr)) (hk : off + k ≤ cs.size)
    (hu : P.underlying ty = some d) (hd : aggT d = true) (hi : (P.info? ty).map (·.size) = some k) :
    (loadVar ty ⟨g, off, none⟩).run P w = .ok (.agg (cs.extract off (off + k))) w := by
  have hl : (loadCells ⟨g, off, none⟩ k).run P w = .ok (cs.extract off (off + k)) w := by
    have := run_loadCells_list (P := P) w ⟨g, off, none⟩ (cs.extract off (off + k)).toList (run_loadCells_at w g off t cs fr hg k)
    have e : (cs.extract off (off + k)).toList.length = k := by simp; omega
    rw [e, Array.toArray_toList] at this
    exact this
  cases hq : P.info? ty with
  | none => simp [hq] at hi
  | some i =>
    have hs : i.size = k := by simpa [hq] using hi
    have hagg : (isAgg ty).run P w = .ok true w := by
      unfold isAgg
      rw [Sem.run_bind, run_underlying hu w]
      cases d <;> simp_all [aggT]
    simp [loadVar, Sem.run_bind, hagg, sizeOf, typeInfo, hq, hs, hl]
theorem k_part {i : Nat} {o : Oper} {b : Bd} {d : TypeDesc} {T : TypeId} {s j off k : Nat} (hBP : ∀ b ∈ B, b.stab BT) (hq : quietB B i o.dst = true) (hb : b ∈ B) (ho : o.op = .load T (.tmp s)) (hon : b.ia = none) (hok : b.ik = none) (hj : o.after.any (fun e => e.on == j && Region.binds md e) = true) (hdst : (ops[j]?).bind (·.dst) = some s) (hVj : V j = Vpt a0 b.t off)
    (hbt : ops.all (fun o => o.dst != some b.t) = true) (hk : off + k ≤ b.m) (hV : ∀ cs w, b.P (.agg cs) w → V i (.agg (cs.extract off (off + k))) w)
    (hu : P.underlying T = some d) (hdd : aggT d = true) (hi : (P.info? T).map (·.size) = some k) (H : Ask md ops a0 V n0 w0 B SL o fun _ _ _ => True) : KStep BT P md ops Q a0 V n0 w0 B SL i o := by
  intro listed a w h hd _ _ _ K hK
  obtain ⟨hg, -⟩ := H listed a w h hd
  rw [if_pos (wanted_of hg)]
  obtain ⟨g, cs, e1, e2, e3, e4, e5, e6, -⟩ := h.k.ok b hb (by rw [hon]; rfl)
  have hP := e6 (by rw [hok]; rfl)
  obtain ⟨v, hv, -, hVv⟩ := h.dep hd j s hj hdst
  rw [hVj] at hVv
  obtain ⟨g', f1, rfl⟩ := hVv
  have ho1 := h.other b.t fun i o ho => by
    rw [Array.all_eq_true'] at hbt
    have := hbt o (Array.mem_of_getElem? ho)
    simpa using this
  rw [e1, f1] at ho1
  simp at ho1
  subst ho1
  unfold Oper.wp execOp
  simp only [ho, hv, Instr.loadAt, Instr.sureAddr, Sem.run_bind, Sem.run_pure, Result.andThen_ok, run_loadVar_part w g off k b.T T cs (0, 0) d e3 (by omega) hu hdd hi]
  exact hK _ w (h.k.quiet hq hBP h.n (Below.refl _ _)) (RI.refl w) (hV _ _ hP)
theorem k_cell {i : Nat} {o : Oper} {b : Bd} {d : TypeDesc} {T : TypeId} {s j off : Nat} (hBP : ∀ b ∈ B, b.stab BT) (hq : quietB B i o.dst = true) (hb : b ∈ B) (ho : o.op = .load T (.tmp s)) (hon : b.ia = none) (hok : b.ik = none) (hj : o.after.any (fun e => e.on == j && Region.binds md e) = true) (hdst : (ops[j]?).bind (·.dst) = some s) (hVj : V j = Vpt a0 b.t off)
    (hbt : ops.all (fun o => o.dst != some b.t) = true) (hV : ∀ cs w, b.P (.agg cs) w → ∃ v, cs[off]? = some v ∧ V i v w)
    (hu : P.underlying T = some d) (hdd : aggT d = false) (H : Ask md ops a0 V n0 w0 B SL o fun _ _ _ => True) : KStep BT P md ops Q a0 V n0 w0 B SL i o := by
  intro listed a w h hd _ _ _ K hK
  obtain ⟨hg, -⟩ := H listed a w h hd
  rw [if_pos (wanted_of hg)]
  obtain ⟨g, cs, e1, e2, e3, e4, e5, e6, -⟩ := h.k.ok b hb (by rw [hon]; rfl)
  have hP := e6 (by rw [hok]; rfl)
  obtain ⟨v, hv, -, hVv⟩ := h.dep hd j s hj hdst
  rw [hVj] at hVv
  obtain ⟨g', f1, rfl⟩ := hVv
  have ho1 := h.other b.t fun i o ho => by
    rw [Array.all_eq_true'] at hbt
    have := hbt o (Array.mem_of_getElem? ho)
    simpa using this
  rw [e1, f1] at ho1
  simp at ho1
  subst ho1
  obtain ⟨x, hx, hVx⟩ := hV _ _ hP
  have hc : w.cell? ⟨g, off, none⟩ = some x := by simp [World.cell?, e3, hx]
  have hagg : (isAgg T).run P w = .ok false w := by
    unfold isAgg
    rw [Sem.run_bind, run_underlying hu w]
    cases d <;> simp_all [aggT]
  unfold Oper.wp execOp
  simp only [ho, hv, Instr.loadAt, Instr.sureAddr, Sem.run_bind, Sem.run_pure, Result.andThen_ok, loadVar, hagg]
  simp only [Bool.false_eq_true, if_false, run_load, hc, Result.andThen_ok]
  exact hK _ w (h.k.quiet hq hBP h.n (Below.refl _ _)) (RI.refl w) hVx
theorem k_cell0 {i : Nat} {o : Oper} {b : Bd} {d : TypeDesc} {T : TypeId} {s j off kk : Nat} (hBP : ∀ b ∈ B, b.stab BT) (hq : quietB B i o.dst = true) (hb : b ∈ B) (ho : o.op = .load T (.tmp s)) (hon : b.ia = none) (hok : b.ik = some kk) (hkk : (match ops[kk]? with | some o => o.after.any (fun e => e.on == i && Region.binds md e) | none => false) = true) (hj : o.after.any (fun e => e.on == j && Region.binds md e) = true) (hdst : (ops[j]?).bind (·.dst) = some s) (hVj : V j = Vpt a0 b.t off)
    (hbt : ops.all (fun o => o.dst != some b.t) = true) (hV : ∀ cs w, b.P0 (.agg cs) w → ∃ v, cs[off]? = some v ∧ V i v w)
    (hu : P.underlying T = some d) (hdd : aggT d = false) (H : Ask md ops a0 V n0 w0 B SL o fun _ _ _ => True) : KStep BT P md ops Q a0 V n0 w0 B SL i o := by
  intro listed a w h hd _ _ hnl K hK
  obtain ⟨hg, -⟩ := H listed a w h hd
  rw [if_pos (wanted_of hg)]
  obtain ⟨g, cs, e1, e2, e3, e4, e5, -, e7⟩ := h.k.ok b hb (by rw [hon]; rfl)
  have hP := e7 hon (by rw [hok]; exact h.not_yet hnl hkk)
  obtain ⟨v, hv, -, hVv⟩ := h.dep hd j s hj hdst
  rw [hVj] at hVv
  obtain ⟨g', f1, rfl⟩ := hVv
  have ho1 := h.other b.t fun i o ho => by
    rw [Array.all_eq_true'] at hbt
    have := hbt o (Array.mem_of_getElem? ho)
    simpa using this
  rw [e1, f1] at ho1
  simp at ho1
  subst ho1
  obtain ⟨x, hx, hVx⟩ := hV _ _ hP
  have hc : w.cell? ⟨g, off, none⟩ = some x := by simp [World.cell?, e3, hx]
  have hagg : (isAgg T).run P w = .ok false w := by
    unfold isAgg
    rw [Sem.run_bind, run_underlying hu w]
    cases d <;> simp_all [aggT]
  unfold Oper.wp execOp
  simp only [ho, hv, Instr.loadAt, Instr.sureAddr, Sem.run_bind, Sem.run_pure, Result.andThen_ok, loadVar, hagg]
  simp only [Bool.false_eq_true, if_false, run_load, hc, Result.andThen_ok]
  exact hK _ w (h.k.quiet hq hBP h.n (Below.refl _ _)) (RI.refl w) hVx
theorem k_field {i : Nat} {o : Oper} {b : Bd} {T : TypeId} {f off : Nat} (hBP : ∀ b ∈ B, b.stab BT) (hq : quietB B i o.dst = true) (hb : b ∈ B) (ho : o.op = .fieldAddr T (.tmp b.t) f) (hon : b.ia = none) (hbt : ops.all (fun o => o.dst != some b.t) = true) (hV : V i = Vpt a0 b.t off)
    (hrun : ∀ g W, (Instr.fieldAt T (.pointer (some ⟨g, 0, none⟩)) f).run P W = .ok (.pointer (some ⟨g, off, none⟩)) W) (H : Ask md ops a0 V n0 w0 B SL o fun _ _ _ => True) : KStep BT P md ops Q a0 V n0 w0 B SL i o := by
  refine k_run hBP hq fun listed a w h hd => ⟨(H listed a w h hd).1, ?_⟩
  obtain ⟨g, cs, e1, -⟩ := h.k.ok b hb (by rw [hon]; rfl)
  have ho1 := h.other b.t fun i o ho => by
    rw [Array.all_eq_true'] at hbt
    have := hbt o (Array.mem_of_getElem? ho)
    simpa using this
  refine ⟨.pointer (some ⟨g, off, none⟩), ?_, by rw [hV]; exact ⟨g, by rw [← ho1, e1], rfl⟩⟩
  unfold execOp
  have hx : a.eval (.tmp b.t) = .pointer (some ⟨g, 0, none⟩) := by simp [Act.eval, Array.getD_eq_getD_getElem?, e1]
  simp only [ho, hx, Sem.run_bind, hrun, Sem.run_pure, Result.andThen_ok]
theorem k_field2 {i : Nat} {o : Oper} {t j s : Nat} {T : TypeId} {f off off' : Nat} (hBP : ∀ b ∈ B, b.stab BT) (hq : quietB B i o.dst = true) (ho : o.op = .fieldAddr T (.tmp s) f) (hj : o.after.any (fun e => e.on == j && Region.binds md e) = true) (hdst : (ops[j]?).bind (·.dst) = some s) (hVj : V j = Vpt a0 t off) (hV : V i = Vpt a0 t off')
    (hrun : ∀ g W, (Instr.fieldAt T (.pointer (some ⟨g, off, none⟩)) f).run P W = .ok (.pointer (some ⟨g, off', none⟩)) W) (H : Ask md ops a0 V n0 w0 B SL o fun _ _ _ => True) : KStep BT P md ops Q a0 V n0 w0 B SL i o := by
  refine k_run hBP hq fun listed a w h hd => ⟨(H listed a w h hd).1, ?_⟩
  obtain ⟨v, hv, -, hVv⟩ := h.dep hd j s hj hdst
  rw [hVj] at hVv
  obtain ⟨g, f1, rfl⟩ := hVv
  refine ⟨.pointer (some ⟨g, off', none⟩), ?_, by rw [hV]; exact ⟨g, f1, rfl⟩⟩
  unfold execOp
  simp only [ho, hv, Sem.run_bind, hrun, Sem.run_pure, Result.andThen_ok]
theorem k_alloc {i : Nat} {o : Oper} {B1 B2 : List Bd} {b : Bd} {z : Array Value} (hBP : ∀ b ∈ B, b.stab BT) (hB : B = B1 ++ b :: B2) (hq : quietB (B1 ++ B2) i (some b.t) = true) (ho : o.op = .alloc b.T) (hds : o.dst = some b.t) (hia : b.ia = some i) (hz : ∀ W, (Instr.alloc b.T true (.tuple #[])).run P W = .ok (.pointer (some ⟨W.heap.size, 0, none⟩)) (W.alloc (.cells z b.T))) (hzs : z.size = b.m) (hni : NoInt z)
    (hik : (b.ik = none ∧ ∀ v w, b.P v w) ∨ ∃ k, b.ik = some k ∧ k ≠ i) (hV : V i = VT) (H : Ask md ops a0 V n0 w0 B SL o fun _ _ _ => True) : KStep BT P md ops Q a0 V n0 w0 B SL i o := by
  intro listed a w h hd hin hil hnl K hK
  obtain ⟨hg, -⟩ := H listed a w h hd
  rw [if_pos (wanted_of hg)]
  have ht : b.t < a.tmps.size := by
    rw [hds] at hin
    rw [h.size]
    simpa using hin
  have hks := h.k.alloc hB hq hia hil ht hBP h.n z hzs hni (fun hk => by
    rcases hik with ⟨-, h1⟩ | ⟨k, h1, h2⟩
    · exact h1 _ _
    · exfalso
      rw [onb_set (x := b.ik) (by intro e; rw [h1] at e; cases e; exact h2 rfl)] at hk
      have h3 := h.k.fa b (by rw [hB]; simp) (by rw [h1]; intro e; cases e) hk
      rw [hia] at h3
      simp only [onb] at h3
      rw [hnl] at h3; cases h3)
  unfold Oper.wp execOp
  simp only [ho, Sem.run_bind, hz, Sem.run_pure, Result.andThen_ok]
  rw [← hds] at hks
  exact hK _ _ hks (RI.of_below (below_new _ _)) (by rw [hV]; trivial)
theorem k_box {i : Nat} {o : Oper} {B1 B2 : List Bd} {b : Bd} {x : Operand} (hBP : ∀ b ∈ B, b.stab BT) (hB : B = B1 ++ b :: B2) (hq : quietB (B1 ++ B2) i (some b.t) = true) (ho : o.op = .box b.T x) (hds : o.dst = some b.t) (hia : b.ia = some i) (hV : V i = VT)
    (H : Ask md ops a0 V n0 w0 B SL o fun _ a w => ∃ z, a.eval x = .agg z ∧ z.size = b.m ∧ NoInt z ∧ b.P (.agg z) w) : KStep BT P md ops Q a0 V n0 w0 B SL i o := by
  intro listed a w h hd hin hil hnl K hK
  obtain ⟨hg, z, hx, hzs, hni, hP⟩ := H listed a w h hd
  rw [if_pos (wanted_of hg)]
  have ht : b.t < a.tmps.size := by
    rw [hds] at hin
    rw [h.size]
    simpa using hin
  have hks := h.k.alloc hB hq hia hil ht hBP h.n z hzs hni (fun _ => hP)
  unfold Oper.wp execOp
  simp only [ho, hx, Sem.run_bind, Instr.box, newVar, newRow, run_newObj_alloc, Sem.run_pure, Result.andThen_ok, Value.cells]
  rw [← hds] at hks
  exact hK _ _ hks (RI.of_below (below_new _ _)) (by rw [hV]; trivial)
theorem k_store {i : Nat} {o : Oper} {B1 B2 : List Bd} {b : Bd} {y : Operand} (hBP : ∀ b ∈ B, b.stab BT) (hB : B = B1 ++ b :: B2) (hq : quietB (B1 ++ B2) i none = true) (hts : (B1 ++ B2).all (fun c => c.t != b.t) = true) (ho : o.op = .store b.T (.tmp b.t) y) (hds : o.dst = none) (hia : (b.ia != some i) = true) (hik : b.ik = some i) (hBT : BT.any (fun e => e.1 == b.T && e.2.1 == b.m && e.2.2 == 0) = true) (hNP : BT.all (fun e => e.1 != b.T || e.2.1 != 0) = true) (hV : V i = VT) (hi : (P.info? b.T).map (·.size) = some b.m)
    (H : Ask md ops a0 V n0 w0 B SL o fun listed a w => onb listed b.ia = true ∧ ∃ z, a.eval y = .agg z ∧ z.size = b.m ∧ NoInt z ∧ z.all (·.oneCell') = true ∧ b.P (.agg z) w) : KStep BT P md ops Q a0 V n0 w0 B SL i o := by
  intro listed a w h hd _ hil _ K hK
  obtain ⟨hg, hon, z, hy, hzs, hni, h1, hP⟩ := H listed a w h hd
  rw [if_pos (wanted_of hg)]
  obtain ⟨g, old, e1, e2, e3, hr, hks⟩ := h.k.store (v := undef) hB hq hon (by simpa using hia) hik hil (fun g _ => Mw_of hBT hNP) hBP z hzs hni hP (fun c hc => by
    rw [List.all_eq_true] at hts
    simpa using hts c hc)
  refine wp_store_row b.T (.tmp b.t) y ho g z (by simp [Act.eval, Array.getD_eq_getD_getElem?, e1]) hy b.T old e2 (by rw [hi, hzs]) e3 h1 ?_
  rw [hds] at hK ⊢
  exact hK _ _ hks hr (by rw [hV]; trivial)
theorem k_skip {i : Nat} {o : Oper} (hBP : ∀ b ∈ B, b.stab BT) (hq : quietB B i o.dst = true) (H : ∀ listed a w, KI md ops a0 V n0 w0 B SL listed a w → (∀ e ∈ o.after, Region.binds md e = true → listed.getD e.on false = true) → (∃ j b c, o.guard = some (j, b) ∧ yielded ops a.tmps j = some c ∧ c ≠ b) ∧ V i undef w) : KStep BT P md ops Q a0 V n0 w0 B SL i o := by
  intro listed a w h hd _ _ _ K hK
  obtain ⟨⟨j, b, c, hg, hy, hne⟩, h3⟩ := H listed a w h hd
  have hw : Region.wanted o (yielded ops a.tmps) = false := by
    unfold Region.wanted
    rw [hg]; simp only []
    rw [hy]; simpa using hne
  rw [hw]
  exact hK undef w (h.k.quiet hq hBP h.n (Below.refl _ _)) (RI.refl w) h3
def StabL (BT : List (TypeId × Nat × Nat)) : List VP → Prop
  | [] => True
  | V :: l => Stab BT V ∧ StabL BT l
theorem StabL.get : ∀ {l : List VP}, StabL BT l → ∀ j, Stab BT (l.getD j VT)
  | [], _, j => by simpa using Stab_VT
  | V :: l, h, 0 => h.1
  | V :: l, h, j + 1 => by have := StabL.get h.2 j; simpa using this
theorem stab_of {l : List VP} (h : StabL BT l) : ∀ j, Stab BT ((fun i => l.getD i VT) j) := fun j => h.get j
structure St (n0 : Nat) (w0 : World) (N : Nat) (L : List Bd) (SL : List (Nat × VP)) (a : Act) (w : World) : Prop where
  k : KS n0 w0 L #[] a w
  n : n0 ≤ w.heap.size
  size : a.tmps.size = N
  defers : a.defers = []
  sl : ∀ p ∈ SL, ∃ v, a.tmps[p.1]? = some v ∧ p.2 v w
def StartsFrom (L : List Bd) : List Bd → Prop
  | [] => True
  | b :: l => ((∃ i, b.ia = some i) ∨ ∃ c, c ∈ L ∧ c.t = b.t ∧ c.T = b.T ∧ c.m = b.m ∧ b.ia = none ∧ c.ia = none ∧ ((∃ k, b.ik = some k ∧ c.ik = none ∧ c.P = b.P0) ∨ (c.ik = none ∧ c.P = b.P ∧ b.ik = none))) ∧ StartsFrom L l
theorem StartsFrom.get {L : List Bd} : ∀ {l : List Bd}, StartsFrom L l → ∀ b ∈ l, (∃ i, b.ia = some i) ∨ ∃ c, c ∈ L ∧ c.t = b.t ∧ c.T = b.T ∧ c.m = b.m ∧ b.ia = none ∧ c.ia = none ∧ ((∃ k, b.ik = some k ∧ c.ik = none ∧ c.P = b.P0) ∨ (c.ik = none ∧ c.P = b.P ∧ b.ik = none))
  | _ :: _, h, _, .head _ => h.1
  | _ :: _, h, b, .tail _ hb => StartsFrom.get h.2 b hb
theorem onb_start {k i : Nat} : onb (Array.replicate k false) (some i) = false := by
  simp only [onb, Array.getD_eq_getD_getElem?, Array.getElem?_replicate]
  split <;> rfl
theorem St.start {N : Nat} {L : List Bd} {a : Act} {w : World} (h : St n0 w0 N L SL a w) (hB : StartsFrom L B) (k : Nat) : KS n0 w0 B (Array.replicate k false) a w := by
  refine ⟨h.k.below, fun b hb hon => ?_, fun b hb c hc hne h1 h2 => ?_, fun b hb hn1 hk => by
    cases hik : b.ik with
    | none => exact absurd hik hn1
    | some i => rw [hik, onb_start] at hk; cases hk⟩
  · rcases hB.get b hb with ⟨i, hi⟩ | ⟨c, hc, e1, e2, e3, e4, e5, e6⟩
    · rw [hi, onb_start] at hon; cases hon
    · obtain ⟨g, cs, f1, f2, f3, f4, f5, f6, -⟩ := h.k.ok c hc (by rw [e5]; rfl)
      refine ⟨g, cs, by rw [← e1]; exact f1, f2, by rw [← e2]; exact f3, by rw [← e3]; exact f4, f5, fun hk => ?_, fun _ hk => ?_⟩
      · rcases e6 with ⟨k', hk', -⟩ | ⟨e6, e7, -⟩
        · rw [hk', onb_start] at hk; cases hk
        · rw [← e7]; exact f6 (by rw [e6]; rfl)
      · rcases e6 with ⟨k', hk', e8, e9⟩ | ⟨e6, e7, e8⟩
        · rw [← e9]; exact f6 (by rw [e8]; rfl)
        · rw [e8] at hk; cases hk
  · rcases hB.get b hb with ⟨i, hi⟩ | ⟨b', hb', e1, -, -, -, e5, -⟩
    · rw [hi, onb_start] at h1; cases h1
    · rcases hB.get c hc with ⟨i, hi⟩ | ⟨c', hc', f1, -, -, -, f5, -⟩
      · rw [hi, onb_start] at h2; cases h2
      · rw [← e1, ← f1]
        exact h.k.ne b' hb' c' hc' (by rw [e1, f1]; exact hne) (by rw [e5]; rfl) (by rw [f5]; rfl)
def Bd.fin (b : Bd) : Bd := { b with ia := none, ik := none, P0 := VT }
def Gets (ops : Array Oper) (V : Nat → VP) (SL : List (Nat × VP)) : List (Nat × VP) → Prop
  | [] => True
  | p :: l => ((p ∈ SL ∧ ops.all (fun o => o.dst != some p.1) = true) ∨ ∃ i, (ops[i]?).bind (·.dst) = some p.1 ∧ V i = p.2) ∧ Gets ops V SL l
theorem Gets.get : ∀ {l : List (Nat × VP)}, Gets ops V SL l → ∀ p ∈ l, (p ∈ SL ∧ ops.all (fun o => o.dst != some p.1) = true) ∨ ∃ i, (ops[i]?).bind (·.dst) = some p.1 ∧ V i = p.2
  | _ :: _, h, _, .head _ => h.1
  | _ :: _, h, p, .tail _ hp => Gets.get h.2 p hp
theorem KI.st {N : Nat} {listed : Array Bool} {a : Act} {w : World} (h : KI md ops a0 V n0 w0 B SL listed a w) (hall : ∀ i, i < ops.size → listed.getD i false = true) (hN : a0.tmps.size = N) (hd0 : a0.defers = []) (hlt : B.all (fun b => (match b.ia with | some i => decide (i < ops.size) | none => true) && (match b.ik with | some i => decide (i < ops.size) | none => true)) = true) (SL' : List (Nat × VP)) (hg : Gets ops V SL SL') :
    St n0 w0 N (B.map Bd.fin) SL' a w := by
  have hon : ∀ b ∈ B, onb listed b.ia = true ∧ onb listed b.ik = true := fun b hb => by
    rw [List.all_eq_true] at hlt
    have := hlt b hb
    rw [Bool.and_eq_true] at this
    refine ⟨?_, ?_⟩
    · cases hi : b.ia with
      | none => rfl
      | some i => rw [hi] at this; exact hall i (of_decide_eq_true this.1)
    · cases hi : b.ik with
      | none => rfl
      | some i => rw [hi] at this; exact hall i (of_decide_eq_true this.2)
  refine ⟨⟨h.k.below, fun b hb _ => ?_, fun b hb c hc hne _ _ => ?_, fun b hb hn1 _ => by
    obtain ⟨c, hc, rfl⟩ := List.mem_map.1 hb
    exact absurd rfl hn1⟩, h.n, by rw [h.size, hN], by rw [h.defers, hd0], fun p hp => ?_⟩
  · obtain ⟨c, hc, rfl⟩ := List.mem_map.1 hb
    obtain ⟨g, cs, f1, f2, f3, f4, f5, f6, -⟩ := h.k.ok c hc (hon c hc).1
    exact ⟨g, cs, f1, f2, f3, f4, f5, fun _ => f6 (hon c hc).2, fun _ hk => by cases hk⟩
  · obtain ⟨b', hb', rfl⟩ := List.mem_map.1 hb
    obtain ⟨c', hc', rfl⟩ := List.mem_map.1 hc
    exact h.k.ne b' hb' c' hc' hne (hon b' hb').1 (hon c' hc').1
  · rcases hg.get p hp with ⟨h1, h2⟩ | ⟨i, hi, hv⟩
    · have := h.other p.1 fun i o ho => by
        rw [Array.all_eq_true'] at h2
        have := h2 o (Array.mem_of_getElem? ho)
        simpa using this
      obtain ⟨v, e1, e2⟩ := h.sl p h1
      exact ⟨v, by rw [this]; exact e1, e2⟩
    · cases ho : ops[i]? with
      | none => rw [ho] at hi; cases hi
      | some o =>
        rw [ho] at hi
        have hlt' : i < ops.size := by
          rcases Nat.lt_or_ge i ops.size with h' | h'
          · exact h'
          · rw [Array.getElem?_eq_none h'] at ho; cases ho
        obtain ⟨v, e1, e2⟩ := h.own i o p.1 ho (hall i hlt') hi
        exact ⟨v, e1, by rw [← hv]; exact e2⟩
theorem St.begin {N : Nat} {a : Act} {w : World} (hN : a.tmps.size = N) (hd : a.defers = []) (hsl : ∀ p ∈ SL, ∃ v, a.tmps[p.1]? = some v ∧ p.2 v w) : St w.heap.size w N [] SL a w :=
  ⟨{ below := Below.refl _ _, ok := fun _ h => absurd h (by simp), ne := fun _ h => absurd h (by simp), fa := fun _ h => absurd h (by simp) }, Nat.le_refl _, hN, hd, hsl⟩
theorem St.slot {N : Nat} {L : List Bd} {a : Act} {w : World} (h : St n0 w0 N L SL a w) (p : Nat × VP) (hp : p ∈ SL) : ∃ v, a.eval (.tmp p.1) = v ∧ p.2 v w := by
  obtain ⟨v, e1, e2⟩ := h.sl p hp
  exact ⟨v, by simp [Act.eval, Array.getD_eq_getD_getElem?, e1], e2⟩
theorem St.res {N : Nat} {L : List Bd} {a : Act} {w : World} (h : St n0 w0 N L SL a w) (b : Bd) (hb : b ∈ L) (hia : b.ia = none) (hik : b.ik = none) : ∃ g cs, a.tmps.getD b.t undef = .pointer (some ⟨g, 0, none⟩) ∧ w.heap[g]? = some (.cells cs b.T (0, 0)) ∧ cs.size = b.m ∧ b.P (.agg cs) w ∧ Below n0 w0 w := by
  obtain ⟨g, cs, f1, f2, f3, f4, f5, f6, -⟩ := h.k.ok b hb (by rw [hia]; rfl)
  exact ⟨g, cs, by simp [Array.getD_eq_getD_getElem?, f1], f3, f4, f6 (by rw [hik]; rfl), h.k.below⟩
theorem St.sub {N : Nat} {L L' : List Bd} {SL' : List (Nat × VP)} {a : Act} {w : World} (h : St n0 w0 N L SL a w) (hL : ∀ b ∈ L', b ∈ L) (hS : ∀ p ∈ SL', p ∈ SL) : St n0 w0 N L' SL' a w :=
  ⟨⟨h.k.below, fun b hb => h.k.ok b (hL b hb), fun b hb c hc => h.k.ne b (hL b hb) c (hL c hc), fun b hb => h.k.fa b (hL b hb)⟩, h.n, h.size, h.defers, fun p hp => h.sl p (hS p hp)⟩
def VLo (lo : Nat) : VP := fun _ w => lo ≤ w.heap.size
theorem Stab_VLo (lo : Nat) : Stab BT (VLo lo) := fun _ _ _ h hr => Nat.le_trans h hr.size
theorem St.lo {N : Nat} {L : List Bd} {SL : List (Nat × VP)} {a : Act} {w : World} (h : St n0 w0 N L SL a w) (t : Nat) (ht : t < N) : St n0 w0 N L ((t, VLo w.heap.size) :: SL) a w :=
  ⟨h.k, h.n, h.size, h.defers, List.forall_mem_cons.2 ⟨⟨a.tmps[t]'(by rw [h.size]; exact ht), by simp, Nat.le_refl _⟩, h.sl⟩⟩
end
open Go.RowKit
theorem eq_of_take {α : Type} {l r : List α} {k : Nat} (h : l.take k = r.take k) (hk : k < l.length) (hk2 : k < r.length) (d : α) (he : l.getD k d = r.getD k d) : l.take (k + 1) = r.take (k + 1) := by
  rw [List.take_succ_eq_append_getElem hk, List.take_succ_eq_append_getElem hk2, h]
  simp [hk, hk2] at he
  rw [he]
theorem byt_inj {l r : List UInt8} {k : Nat} (h : byt l k = byt r k) : l.getD k 0 = r.getD k 0 := by
  unfold byt at h
  exact UInt8.toNat_inj.1 (by omega)
theorem Rd_at {w : World} {a : Option Addr} {l : List UInt8} (h : Rd w a l) (k : Nat) (hk : k < l.length) : ∃ b off, a = some ⟨b, off, none⟩ ∧ w.cell? ⟨b, off + k, none⟩ = some (.int .u8 (byt l k)) := by
  rcases h with rfl | ⟨b, off, rfl, hc⟩
  · simp at hk
  · exact ⟨b, off, rfl, hc k hk⟩
def QPost (w : World) (v : Value) (e : Ending) (w' : World) : Prop := e = .returned v ∧ ∃ q, w' = w.drewN q
set_option maxRecDepth 100000 in
set_option maxHeartbeats 400000 in
theorem SameB_len (a1 a2 : Option Addr) (n1 n2 c1 c2 : Nat) (w : World) (hne : (((n1 : Nat) : Int) != ((n2 : Nat) : Int)) = true) :
    Calls Tryz.prog 60 #[.slice a1 n1 c1, .slice a2 n2 c2] w (QPost w (.bool false)) := by
  go_enter Tryz.func60, Tryz.ntmps60
  go_wp2
  go_ret
  exact ⟨rfl, 0, rfl⟩
set_option maxRecDepth 100000 in
set_option maxHeartbeats 800000 in
theorem SameB_eq (a1 a2 : Option Addr) (n c1 c2 : Nat) (l r : List UInt8) (w : World) (hR1 : Rd w a1 l) (hR2 : Rd w a2 r) (hn1 : Hid (n = l.length)) (hn2 : Hid (n = r.length)) (hmax : n ≤ 4611686018427387904) (ok : Bool) (hok : Hid (decide (l = r) = ok)) :
    Calls Tryz.prog 60 #[.slice a1 n c1, .slice a2 n c2] w (QPost w (.bool ok)) := by
  have hR1' := Lib.hid hR1
  have hR2' := Lib.hid hR2
  clear hR1 hR2
  have h0 : (((n : Nat) : Int) != ((n : Nat) : Int)) = false := by simp
  go_enter Tryz.func60, Tryz.ntmps60
  go_wp2
  go_loopw [5] (fun i wr => ∃ k q : Nat, k ≤ n ∧ i = .int .i64 k ∧ wr = w.drewN q ∧ Hid (l.take k = r.take k)) (fun i _ => n - (intOf i).toNat)
  case atStart => exact ⟨0, 0, Nat.zero_le _, rfl, rfl, rfl⟩
  case round =>
    obtain ⟨k, q, hk, rfl, rfl, heq⟩ := hrel
    by_cases hlt : k < n
    · have hkl : k < l.length := by rw [← hn1.out]; exact hlt
      have hkr : k < r.length := by rw [← hn2.out]; exact hlt
      obtain ⟨b1, o1, rfl, cc1⟩ := Rd_at hR1'.out k hkl
      obtain ⟨b2, o2, rfl, cc2⟩ := Rd_at hR2'.out k hkr
      have hlt' : (k : Int) < (n : Int) := by omega
      have hk0 : 0 ≤ (k : Int) := by omega
      by_cases hb : byt l k = byt r k
      · have hb1 : (byt l k != byt r k) = false := by simp [hb]
        have hb' := Lib.hid hb
        clear hb
        go_wp2
        go_quiet (fail)
        go_wp2
        refine ⟨⟨k + 1, q + nq, by omega, by simp, by first | rfl | (rw [World.drewN_drewN]), ?_⟩, by simp [intOf]; omega⟩
        exact eq_of_take heq.out hkl hkr 0 (byt_inj hb'.out)
      · have hb1 : (byt l k != byt r k) = true := by simp [hb]
        have hF : ok = false := by
          rw [← hok.out]
          simp only [decide_eq_false_iff_not]
          intro e
          exact hb (by rw [e])
        subst hF
        clear hb
        go_wp2
        go_quiet (fail)
        go_wp2
        go_ret
        exact ⟨rfl, q + nq, by first | rfl | (rw [World.drewN_drewN])⟩
    · have hk' : k = n := by omega
      have hT : ok = true := by
        rw [← hok.out]
        simp only [decide_eq_true_eq]
        have := heq.out
        rwa [hk', List.take_of_length_le (by rw [hn1.out]; exact Nat.le_refl _), List.take_of_length_le (by rw [hn2.out]; exact Nat.le_refl _)] at this
      subst hT
      subst hk'
      go_wp2
      go_ret
      exact ⟨rfl, _, rfl⟩
theorem SameB_any (a1 a2 : Option Addr) (n1 n2 c1 c2 : Nat) (l r : List UInt8) (w : World) (hR1 : Rd w a1 l) (hR2 : Rd w a2 r) (hn1 : n1 = l.length) (hn2 : n2 = r.length) (hmax : n1 ≤ 4611686018427387904) :
    Calls Tryz.prog 60 #[.slice a1 n1 c1, .slice a2 n2 c2] w (QPost w (.bool (decide (l = r)))) := by
  by_cases h : n1 = n2
  · subst h
    exact SameB_eq a1 a2 n1 c1 c2 l r w hR1 hR2 hn1 hn2 hmax _ rfl
  · have : decide (l = r) = false := by
      simp only [decide_eq_false_iff_not]
      intro e
      exact h (by rw [hn1, hn2, e])
    rw [this]
    exact SameB_len a1 a2 n1 n2 c1 c2 w (by rw [bne_iff_ne]; omega)
end Go.Proofs.YtleijkgdpmfabaaGreatDoor
