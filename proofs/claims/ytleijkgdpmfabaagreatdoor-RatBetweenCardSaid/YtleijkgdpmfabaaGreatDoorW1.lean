/- Contracts of the package integer and its reference: A region whose order is drawn, by what is known of each operation's slot: linear in its operations. Words shared by the walks: byte slices and strings as lists of bytes. Plain mathematics: digits of integers of any size. -/
import Derived.Orders
import Derived.Test.YtleijkgdpmfabaaGreatDoorProg
import Derived.WalkKit
import Derived.WalkSpells
import Derived.WalkLawsBesides
import Derived.BigQuiet
import Derived.Deep.QuietTactic
import Derived.Lib.Hide
import Derived.IntWalk
set_option linter.unusedVariables false
namespace Go.Proofs.YtleijkgdpmfabaaGreatDoor
open Go
section
variable {P : Program} {md : Region.Mode} {ops : Array Oper} {Q : Exit → Act → World → Prop} {a0 : Act} {V : Nat → Value → World → Prop} {S : World → Prop} {R : World → World → Prop}
structure FlowI (ops : Array Oper) (a0 : Act) (V : Nat → Value → World → Prop) (S : World → Prop) (listed : Array Bool) (a : Act) (w : World) : Prop where
  s : S w
  len : listed.size = ops.size
  defers : a.defers = a0.defers
  size : a.tmps.size = a0.tmps.size
  other : ∀ t, (∀ (i : Nat) (o : Oper), ops[i]? = some o → o.dst ≠ some t) → a.tmps[t]? = a0.tmps[t]?
  own : ∀ (i : Nat) (o : Oper) (d : Tmp), ops[i]? = some o → listed.getD i false = true → o.dst = some d → ∃ v, a.tmps[d]? = some v ∧ V i v w
def FlowStep (P : Program) (md : Region.Mode) (ops : Array Oper) (Q : Exit → Act → World → Prop) (a0 : Act) (V : Nat → Value → World → Prop) (S : World → Prop) (R : World → World → Prop) (i : Nat) (o : Oper) : Prop :=
  ∀ listed a w, FlowI ops a0 V S listed a w → (∀ e ∈ o.after, Region.binds md e = true → listed.getD e.on false = true) →
    ∀ K : Act → World → Prop, (∀ v w', S w' → R w w' → V i v w' → K (a.put o.dst v) w') → (if Region.wanted o (yielded ops a.tmps) then o.wp P a w K Q else K (a.put o.dst undef) w)
def flowFore (ops : Array Oper) : Bool := (List.range ops.size).all fun i => ((ops[i]?).map fun o => o.after.all fun e => decide (e.on < i)).getD true
theorem flowFore_spec (h : flowFore ops = true) {i : Nat} {o : Oper} (ho : ops[i]? = some o) : ∀ e ∈ o.after, e.on < i := by
  intro e he
  have hi : i < ops.size := by
    rcases Nat.lt_or_ge i ops.size with h' | h'
    · exact h'
    · rw [Array.getElem?_eq_none h'] at ho; cases ho
  unfold flowFore at h
  rw [List.all_eq_true] at h
  have h1 := h i (by simpa using hi)
  rw [ho] at h1
  simp only [Option.map_some, Option.getD_some, Array.all_eq_true'] at h1
  exact of_decide_eq_true (h1 e he)
def flowOwn (ops : Array Oper) : Bool := (List.range ops.size).all fun i => (List.range i).all fun j => match (ops[i]?).bind (·.dst), (ops[j]?).bind (·.dst) with
  | some x, some y => x != y
  | _, _ => true
theorem flowOwn_lt (h : flowOwn ops = true) {i j : Nat} {o u : Oper} {d : Nat} (ho : ops[i]? = some o) (hu : ops[j]? = some u) (hd : o.dst = some d) (hij : j < i) : u.dst ≠ some d := by
  intro hd'
  have hi : i < ops.size := by
    rcases Nat.lt_or_ge i ops.size with h' | h'
    · exact h'
    · rw [Array.getElem?_eq_none h'] at ho; cases ho
  unfold flowOwn at h
  rw [List.all_eq_true] at h
  have h1 := h i (by simpa using hi)
  rw [List.all_eq_true] at h1
  have h2 := h1 j (by simpa using hij)
  rw [ho, hu] at h2
  simp [hd, hd'] at h2
theorem flowOwn_ne (h : flowOwn ops = true) {i j : Nat} {o u : Oper} {d : Nat} (ho : ops[i]? = some o) (hu : ops[j]? = some u) (hd : o.dst = some d) (hij : j ≠ i) : u.dst ≠ some d := by
  rcases Nat.lt_or_gt_of_ne hij with h1 | h1
  · exact flowOwn_lt h ho hu hd h1
  · intro h2; exact flowOwn_lt h hu ho h2 h1 hd
theorem put_get_self {a : Act} {d : Nat} {v : Value} (h : d < a.tmps.size) : (a.put (some d) v).tmps[d]? = some v := by simp [Act.put, h]
theorem put_get_ne {a : Act} {x : Option Nat} {t : Nat} {v : Value} (h : x ≠ some t) : (a.put x v).tmps[t]? = a.tmps[t]? := by
  cases x with
  | none => rfl
  | some d => simp only [Act.put]; rw [Array.getElem?_setIfInBounds_ne (fun e => h (by rw [e]))]
theorem put_size {a : Act} {x : Option Nat} {v : Value} : (a.put x v).tmps.size = a.tmps.size := by cases x <;> simp [Act.put]
theorem put_defers' {a : Act} {x : Option Nat} {v : Value} : (a.put x v).defers = a.defers := by cases x <;> rfl
theorem getD_set (l : Array Bool) (i j : Nat) (hi : i < l.size) : (l.setIfInBounds i true).getD j false = if i = j then true else l.getD j false := by
  simp only [Array.getD_eq_getD_getElem?, Array.getElem?_setIfInBounds]
  by_cases h : i = j
  · subst h; simp [hi]
  · simp [h]
theorem FlowI.step {listed : Array Bool} {a : Act} {w w' : World} {i : Nat} {o : Oper} {v : Value} (hown : flowOwn ops = true) (hin : ∀ (i : Nat) (o : Oper) (d : Tmp), ops[i]? = some o → o.dst = some d → d < a0.tmps.size)
    (hmono : ∀ j u w w', V j u w → R w w' → V j u w') (h : FlowI ops a0 V S listed a w) (ho : ops[i]? = some o) (hS : S w') (hR : R w w') (hv : V i v w') : FlowI ops a0 V S (listed.setIfInBounds i true) (a.put o.dst v) w' := by
  have hi : i < listed.size := by
    rw [h.len]
    rcases Nat.lt_or_ge i ops.size with h' | h'
    · exact h'
    · rw [Array.getElem?_eq_none h'] at ho; cases ho
  refine ⟨hS, by simpa using h.len, by rw [put_defers', h.defers], by rw [put_size, h.size], fun t ht => by rw [put_get_ne (ht i o ho), h.other t ht], fun j u d hu hl hd => ?_⟩
  by_cases hij : j = i
  · subst hij
    rw [ho] at hu
    cases hu
    rw [hd]
    exact ⟨v, put_get_self (by rw [h.size]; exact hin _ _ _ ho hd), hv⟩
  · rw [getD_set _ _ _ hi, if_neg (fun e => hij e.symm)] at hl
    obtain ⟨x, hx, hV⟩ := h.own j u d hu hl hd
    exact ⟨x, by rw [put_get_ne (flowOwn_ne hown hu ho hd (fun e => hij e.symm))]; exact hx, hmono _ _ _ _ hV hR⟩
theorem count_set (l : Array Bool) (i : Nat) (hi : i < l.size) (h : l.getD i true = false) : (l.setIfInBounds i true).toList.count false + 1 = l.toList.count false := by
  have hi' : i < l.toList.length := by simpa using hi
  have h1 : l.toList[i] = false := by simpa [Array.getD, hi] using h
  have h2 : 0 < l.toList.count false := List.count_pos_iff.2 (by rw [← h1]; exact List.getElem_mem hi')
  rw [Array.toList_setIfInBounds, List.count_set hi', h1]
  show (l.toList.count false - 1) + 0 + 1 = _
  omega
theorem count_zero (l : Array Bool) (h : l.toList.count false = 0) (i : Nat) (hi : i < l.size) : l.getD i false = true := by
  have hi' : i < l.toList.length := by simpa using hi
  have h1 := List.count_eq_zero.1 h
  have h2 : l.toList[i] ∈ l.toList := List.getElem_mem hi'
  have h3 : l[i] = true := by
    cases h4 : l[i] with
    | true => rfl
    | false => exact absurd (by simpa [h4] using h2) h1
  simp [Array.getD, hi, h3]
theorem ready_none (hfore : flowFore ops = true) {listed : Array Bool} (hl : listed.size = ops.size) (h : Region.ready md ops listed = []) : ∀ i, i < ops.size → listed.getD i false = true := by
  intro i
  induction i using Nat.strongRecOn with
  | _ i ih =>
    intro hi
    cases hlt : listed.getD i false with
    | true => rfl
    | false =>
      exfalso
      obtain ⟨o, ho⟩ : ∃ o, ops[i]? = some o := ⟨ops[i], by simp [hi]⟩
      have hm : i ∈ Region.ready md ops listed := mem_ready.2 ⟨by
        have h' : i < listed.size := by omega
        simpa [Array.getD, h'] using hlt, o, ho, fun e he _ => ih e.on (flowFore_spec hfore ho e he) (by have := flowFore_spec hfore ho e he; omega)⟩
      rw [h] at hm
      cases hm
theorem wpAny_flow (hfore : flowFore ops = true) (hown : flowOwn ops = true) (hin : ∀ (i : Nat) (o : Oper) (d : Tmp), ops[i]? = some o → o.dst = some d → d < a0.tmps.size) (hmono : ∀ j u w w', V j u w → R w w' → V j u w')
    (hstep : ∀ (i : Nat) (o : Oper), ops[i]? = some o → FlowStep P md ops Q a0 V S R i o)
    (hdone : ∀ (listed : Array Bool) (a : Act) (w : World), (∀ i, i < ops.size → listed.getD i false = true) → FlowI ops a0 V S listed a w → Q .normal a w) :
    ∀ (fuel : Nat) (listed : Array Bool) (a : Act) (w : World), FlowI ops a0 V S listed a w → listed.toList.count false ≤ fuel → wpAny P md ops Q fuel listed a w := by
  intro fuel
  induction fuel with
  | zero =>
    intro listed a w h hc
    have hall : ∀ i, i < ops.size → listed.getD i false = true := fun i hi => count_zero listed (by omega) i (by rw [h.len]; exact hi)
    refine ⟨?_, hdone _ _ _ hall h⟩
    cases hr : Region.ready md ops listed with
    | nil => rfl
    | cons i l =>
      have hi : i ∈ Region.ready md ops listed := by rw [hr]; exact List.mem_cons_self
      obtain ⟨h1, o, ho, _⟩ := mem_ready.1 hi
      have hlt : i < ops.size := by
        rcases Nat.lt_or_ge i ops.size with h' | h'
        · exact h'
        · rw [Array.getElem?_eq_none h'] at ho; cases ho
      have h2 := hall i hlt
      have h3 : i < listed.size := by rw [h.len]; exact hlt
      simp [Array.getD, h3] at h1 h2
      rw [h2] at h1
      cases h1
  | succ fuel ih =>
    intro listed a w h hc
    refine ⟨fun hr => hdone _ _ _ (ready_none hfore h.len hr) h, fun i hi => ?_⟩
    obtain ⟨h1, o, ho, hdep⟩ := mem_ready.1 hi
    have hlt : i < listed.size := by
      rw [h.len]
      rcases Nat.lt_or_ge i ops.size with h' | h'
      · exact h'
      · rw [Array.getElem?_eq_none h'] at ho; cases ho
    have hcnt := count_set listed i hlt h1
    have := hstep i o ho listed a w h hdep (wpAny P md ops Q fuel (listed.setIfInBounds i true)) fun v w' hS hR hV => ih _ _ _ (h.step hown hin hmono ho hS hR hV) (by omega)
    unfold wpOp
    rw [ho]
    by_cases hw : Region.wanted o (yielded ops a.tmps) = true
    · simp only [hw, if_true] at this ⊢; exact .inl this
    · simp only [hw] at this ⊢; exact this
theorem region_flow {id : Nat} {w : World} (hm : P.follows .mixedOrders = true) (hfore : flowFore ops = true) (hown : flowOwn ops = true) (hin : ∀ (i : Nat) (o : Oper) (d : Tmp), ops[i]? = some o → o.dst = some d → d < a0.tmps.size)
    (hmono : ∀ j u w w', V j u w → R w w' → V j u w') (hS : S { w with drawn := w.drawn + 1 })
    (hstep : ∀ (i : Nat) (o : Oper), ops[i]? = some o → FlowStep P .any ops Q a0 V S R i o)
    (hdone : ∀ a w, FlowI ops a0 V S (Array.replicate ops.size true) a w → Q .normal a w) : (Code.region id ops true).wp P Q a0 w := by
  refine wp_region_any hm (wpAny_flow hfore hown hin hmono hstep (fun listed a w' hall h => hdone a w' ⟨h.s, by simp, h.defers, h.size, h.other, fun i o d ho _ hd => ?_⟩) _ _ _ _ ⟨hS, by simp, rfl, rfl, fun _ _ => rfl, fun i o d ho hl _ => ?_⟩ ?_)
  · refine h.own i o d ho (hall i ?_) hd
    rcases Nat.lt_or_ge i ops.size with h' | h'
    · exact h'
    · rw [Array.getElem?_eq_none h'] at ho; cases ho
  · exfalso
    simp only [Array.getD_eq_getD_getElem?, Array.getElem?_replicate] at hl
    split at hl <;> simp at hl
  · simp
theorem FlowI.dep {listed : Array Bool} {a : Act} {w : World} {after : Array Edge} (h : FlowI ops a0 V S listed a w) (hd : ∀ e ∈ after, Region.binds md e = true → listed.getD e.on false = true) (j d : Nat)
    (hj : after.any (fun e => e.on == j && Region.binds md e) = true) (hdst : (ops[j]?).bind (·.dst) = some d) : ∃ v, a.eval (.tmp d) = v ∧ yielded ops a.tmps j = (match v with | .bool b => some b | _ => none) ∧ V j v w := by
  obtain ⟨e, he, hb⟩ : ∃ e, e ∈ after ∧ (e.on == j && Region.binds md e) = true := by
    rw [Array.any_eq_true] at hj
    obtain ⟨i, hi, h1⟩ := hj
    exact ⟨after[i], Array.getElem_mem hi, h1⟩
  simp only [Bool.and_eq_true, beq_iff_eq] at hb
  obtain ⟨rfl, hb⟩ := hb
  have hl := hd e he hb
  cases ho : ops[e.on]? with
  | none => rw [ho] at hdst; cases hdst
  | some o =>
    rw [ho] at hdst
    have hdst' : o.dst = some d := hdst
    obtain ⟨v, hv, hV⟩ := h.own _ o d ho hl hdst'
    refine ⟨v, by simp [Act.eval, hv, Array.getD_eq_getD_getElem?], ?_, hV⟩
    unfold yielded
    rw [ho]
    simp only [Option.bind_some, hdst', hv]
    cases v <;> rfl
theorem FlowI.out {listed : Array Bool} {a : Act} {w : World} (h : FlowI ops a0 V S listed a w) (t : Nat) (ht : ops.all (fun o => o.dst != some t) = true) : a.eval (.tmp t) = a0.eval (.tmp t) := by
  have := h.other t fun i o ho => by
    rw [Array.all_eq_true'] at ht
    have := ht o (Array.mem_of_getElem? ho)
    simpa using this
  simp [Act.eval, Array.getD_eq_getD_getElem?, this]
theorem flow_call {i : Nat} {dst : Option Tmp} {f : FuncId} {xs : Array Operand} {ats : Array TypeId} {ty : TypeId} {pos : String} {after : Array Edge} {guard : Option (Nat × Bool)} (hcall : ∀ args w, (callFunc f args).run P w = .ok (.enter f args) w)
    (H : ∀ listed a w, FlowI ops a0 V S listed a w → (∀ e ∈ after, Region.binds md e = true → listed.getD e.on false = true) →
      (match guard with | none => True | some (j, b) => yielded ops a.tmps j = some b) ∧ ∃ args, #[] ++ xs.map a.eval ++ #[] = args ∧ Calls P f args w fun e w' => ∃ v, e = .returned v ∧ S w' ∧ R w w' ∧ V i v w') :
    FlowStep P md ops Q a0 V S R i { dst, op := .call { callee := .value (.func f), args := xs, argTypes := ats }, type := ty, pos, after, guard } := by
  intro listed a w h hd K hK
  obtain ⟨hg, args, hargs, hc⟩ := H listed a w h hd
  have hw : Region.wanted { dst, op := .call { callee := .value (.func f), args := xs, argTypes := ats }, type := ty, pos, after, guard } (yielded ops a.tmps) = true := by
    unfold Region.wanted
    cases guard with
    | none => rfl
    | some g => obtain ⟨j, b⟩ := g; simp only [] at hg ⊢; rw [hg]; simp
  rw [if_pos hw]
  unfold Oper.wp
  have he : execOp a.eval { dst, op := .call { callee := .value (.func f), args := xs, argTypes := ats }, type := ty, pos, after, guard } = callFunc f (#[] ++ xs.map a.eval ++ #[]) := rfl
  rw [he, hargs, hcall]
  refine Calls.mono hc fun e w' hp => ?_
  obtain ⟨v, rfl, h1, h2, h3⟩ := hp
  exact hK v w' h1 h2 h3
theorem flow_run {i : Nat} {o : Oper}
    (H : ∀ listed a w, FlowI ops a0 V S listed a w → (∀ e ∈ o.after, Region.binds md e = true → listed.getD e.on false = true) →
      (match o.guard with | none => True | some (j, b) => yielded ops a.tmps j = some b) ∧ ∃ v w', (execOp a.eval o).run P w = .ok (.value v) w' ∧ S w' ∧ R w w' ∧ V i v w') :
    FlowStep P md ops Q a0 V S R i o := by
  intro listed a w h hd K hK
  obtain ⟨hg, v, w', hr, h1, h2, h3⟩ := H listed a w h hd
  have hw : Region.wanted o (yielded ops a.tmps) = true := by
    unfold Region.wanted
    cases hgu : o.guard with
    | none => rfl
    | some g => obtain ⟨j, b⟩ := g; rw [hgu] at hg; simp only [] at hg ⊢; rw [hg]; simp
  rw [if_pos hw]
  unfold Oper.wp
  rw [hr]
  exact hK v w' h1 h2 h3
theorem flow_wp {i : Nat} {o : Oper}
    (H : ∀ listed a w, FlowI ops a0 V S listed a w → (∀ e ∈ o.after, Region.binds md e = true → listed.getD e.on false = true) →
      (match o.guard with | none => True | some (j, b) => yielded ops a.tmps j = some b) ∧ ∀ K : Act → World → Prop, (∀ v w', S w' → R w w' → V i v w' → K (a.put o.dst v) w') → o.wp P a w K Q) :
    FlowStep P md ops Q a0 V S R i o := by
  intro listed a w h hd K hK
  obtain ⟨hg, hc⟩ := H listed a w h hd
  have hw : Region.wanted o (yielded ops a.tmps) = true := by
    unfold Region.wanted
    cases hgu : o.guard with
    | none => rfl
    | some g => obtain ⟨j, b⟩ := g; rw [hgu] at hg; simp only [] at hg ⊢; rw [hg]; simp
  rw [if_pos hw]
  exact hc K hK
theorem flow_skip {i : Nat} {o : Oper}
    (H : ∀ listed a w, FlowI ops a0 V S listed a w → (∀ e ∈ o.after, Region.binds md e = true → listed.getD e.on false = true) →
      (∃ j b c, o.guard = some (j, b) ∧ yielded ops a.tmps j = some c ∧ c ≠ b) ∧ R w w ∧ V i undef w) :
    FlowStep P md ops Q a0 V S R i o := by
  intro listed a w h hd K hK
  obtain ⟨⟨j, b, c, hg, hy, hne⟩, h2, h3⟩ := H listed a w h hd
  have hw : Region.wanted o (yielded ops a.tmps) = false := by
    unfold Region.wanted
    rw [hg]; simp only []
    rw [hy]; simpa using hne
  rw [hw]
  exact hK undef w h.s h2 h3
def AllFlow (P : Program) (md : Region.Mode) (ops : Array Oper) (Q : Exit → Act → World → Prop) (a0 : Act) (V : Nat → Value → World → Prop) (S : World → Prop) (R : World → World → Prop) : Nat → List Oper → Prop
  | _, [] => True
  | i, o :: l => FlowStep P md ops Q a0 V S R i o ∧ AllFlow P md ops Q a0 V S R (i + 1) l
theorem AllFlow.get : ∀ (l : List Oper) (i : Nat), AllFlow P md ops Q a0 V S R i l → ∀ (j : Nat) (o : Oper), l[j]? = some o → FlowStep P md ops Q a0 V S R (i + j) o
  | [], _, _, j, o, ho => by simp at ho
  | x :: l, i, h, 0, o, ho => by
    have : x = o := by simpa using ho
    subst this; exact h.1
  | x :: l, i, h, j + 1, o, ho => by
    have := AllFlow.get l (i + 1) h.2 j o (by simpa using ho)
    rw [show i + (j + 1) = i + 1 + j by omega]; exact this
def slots (f : Nat → Value) : List Nat → Act → Act
  | [], a => a
  | d :: l, a => slots f l (a.put (some d) (f d))
theorem slots_all (a : Act) : ∀ (l : List Nat) (b : Act), b.tmps.size = a.tmps.size → b.defers = a.defers → (∀ t, t ∉ l → b.tmps[t]? = a.tmps[t]?) → slots (fun d => a.tmps.getD d undef) l b = a
  | [], b, _, hd, h => by
    cases a; cases b
    simp only [slots, Act.mk.injEq]
    exact ⟨Array.ext_getElem? fun t => h t (by simp), hd⟩
  | d :: l, b, hs, hd, h => by
    refine slots_all a l _ (by rw [put_size, hs]) (by rw [put_defers', hd]) fun t ht => ?_
    by_cases e : d = t
    · subst e
      rcases Nat.lt_or_ge d b.tmps.size with hlt | hge
      · rw [put_get_self hlt]
        have hlt' : d < a.tmps.size := by omega
        simp [Array.getD, hlt']
      · rw [Array.getElem?_eq_none (by rw [put_size]; exact hge), Array.getElem?_eq_none (by omega)]
    · rw [put_get_ne (fun h' => e (by cases h'; rfl))]
      exact h t (by simp only [List.mem_cons, not_or]; exact ⟨fun h' => e h'.symm, ht⟩)
theorem FlowI.whole {a : Act} {w : World} (h : FlowI ops a0 V S (Array.replicate ops.size true) a w) (ds : List Nat) (hds : ops.toList.filterMap (·.dst) = ds) :
    ∃ f : Nat → Value, a = slots f ds a0 ∧ ∀ (i d : Nat), (ops[i]?).bind (·.dst) = some d → V i (f d) w := by
  refine ⟨fun d => a.tmps.getD d undef, (slots_all a ds a0 h.size.symm h.defers.symm fun t ht => (h.other t fun i o ho hd => ht ?_).symm).symm, fun i d hd => ?_⟩
  · rw [← hds, List.mem_filterMap]
    exact ⟨o, Array.mem_def.1 (Array.mem_of_getElem? ho), hd⟩
  · cases ho : ops[i]? with
    | none => rw [ho] at hd; cases hd
    | some o =>
      rw [ho] at hd
      have hi : i < ops.size := by
        rcases Nat.lt_or_ge i ops.size with h' | h'
        · exact h'
        · rw [Array.getElem?_eq_none h'] at ho; cases ho
      obtain ⟨v, hv, hV⟩ := h.own i o d ho (by simp [Array.getD, hi]) hd
      have : a.tmps.getD d undef = v := by simp [Array.getD_eq_getD_getElem?, hv]
      simp only [this]
      exact hV
theorem region_flows {id : Nat} {l : List Oper} {w : World} (hm : P.follows .mixedOrders = true) (hfore : flowFore l.toArray = true) (hown : flowOwn l.toArray = true) (hin : l.all (fun o => match o.dst with | some d => decide (d < a0.tmps.size) | none => true) = true)
    (hmono : ∀ j u w w', V j u w → R w w' → V j u w') (hS : S { w with drawn := w.drawn + 1 })
    (hstep : AllFlow P .any l.toArray Q a0 V S R 0 l)
    (ds : List Nat) (hds : l.filterMap (·.dst) = ds)
    (hdone : ∀ (f : Nat → Value) w, S w → (∀ (i d : Nat), (l[i]?).bind (·.dst) = some d → V i (f d) w) → Q .normal (slots f ds a0) w) : (Code.region id l.toArray true).wp P Q a0 w := by
  refine region_flow hm hfore hown (fun i o d ho hd => ?_) hmono hS (fun i o ho => ?_) fun a w' h => ?_
  · rw [List.all_eq_true] at hin
    have ho' : l[i]? = some o := by simpa using ho
    have := hin o (List.mem_of_getElem? ho')
    rw [hd] at this
    exact of_decide_eq_true this
  · have := AllFlow.get l 0 hstep i o (by simpa using ho)
    rw [Nat.zero_add] at this
    exact this
  · obtain ⟨f, rfl, hf⟩ := h.whole ds (by simpa using hds)
    exact hdone f w' h.s fun i d hd => hf i d (by simpa using hd)
end
open Go.RowKit
def byt (l : List UInt8) (i : Nat) : Int := ((l.getD i 0).toNat : Int)
theorem byt_lo (l : List UInt8) (i : Nat) : 0 ≤ byt l i := by unfold byt; omega
theorem byt_hi (l : List UInt8) (i : Nat) : byt l i < 256 := by unfold byt; have := (l.getD i 0).toNat_lt; omega
def Rd (w : World) (a : Option Addr) (l : List UInt8) : Prop :=
  l = [] ∨ ∃ b off, a = some ⟨b, off, none⟩ ∧ ∀ i, i < l.length → w.cell? ⟨b, off + i, none⟩ = some (.int .u8 (byt l i))
def iat (l : List Int) (i : Nat) : Int := l.getD i 0
def pw : Nat → Int
  | 0 => 1
  | k + 1 => 1000000000 * pw k
theorem pw_pos : ∀ k, 0 < pw k
  | 0 => by decide
  | k + 1 => by have := pw_pos k; show 0 < 1000000000 * pw k; omega
theorem pw_add : ∀ a b, pw (a + b) = pw a * pw b
  | 0, b => by rw [Nat.zero_add]; show _ = 1 * pw b; omega
  | a + 1, b => by
    rw [show a + 1 + b = (a + b) + 1 by omega]
    show 1000000000 * pw (a + b) = 1000000000 * pw a * pw b
    rw [pw_add a b, Int.mul_assoc]
theorem pw_mono {a b : Nat} (h : a ≤ b) : pw a ≤ pw b := by
  obtain ⟨c, rfl⟩ : ∃ c, b = a + c := ⟨b - a, by omega⟩
  rw [pw_add]
  have h1 := pw_pos a
  have h2 := pw_pos c
  have : pw a * 1 ≤ pw a * pw c := Int.mul_le_mul_of_nonneg_left (by omega) (by omega)
  omega
def val : List Int → Int
  | [] => 0
  | d :: t => d + 1000000000 * val t
theorem val_append : ∀ a b : List Int, val (a ++ b) = val a + pw a.length * val b
  | [], b => by show val b = 0 + 1 * val b; omega
  | d :: t, b => by
    show d + 1000000000 * val (t ++ b) = d + 1000000000 * val t + 1000000000 * pw t.length * val b
    rw [val_append t b]
    grind
theorem val_zeros : ∀ k, val (List.replicate k 0) = 0
  | 0 => rfl
  | k + 1 => by rw [List.replicate_succ]; show 0 + 1000000000 * val (List.replicate k 0) = 0; rw [val_zeros k]; rfl
theorem iat_cons_zero (d : Int) (t : List Int) : iat (d :: t) 0 = d := rfl
theorem iat_cons_succ (d : Int) (t : List Int) (i : Nat) : iat (d :: t) (i + 1) = iat t i := rfl
theorem iat_ge {l : List Int} {i : Nat} (h : l.length ≤ i) : iat l i = 0 := by simp [iat, List.getD_eq_getElem?_getD, List.getElem?_eq_none h]
theorem iat_set (l : List Int) (i j : Nat) (v : Int) (h : i < l.length) : iat (l.set i v) j = if i = j then v else iat l j := by
  unfold iat
  simp only [List.getD_eq_getElem?_getD, List.getElem?_set]
  by_cases e : i = j
  · subst e; simp [h]
  · simp [e]
theorem iat_take (l : List Int) (k j : Nat) : iat (l.take k) j = if j < k then iat l j else 0 := by
  unfold iat
  simp only [List.getD_eq_getElem?_getD, List.getElem?_take]
  by_cases h : j < k <;> simp [h]
theorem iat_drop (l : List Int) (k j : Nat) : iat (l.drop k) j = iat l (k + j) := by
  unfold iat
  simp [List.getD_eq_getElem?_getD]
theorem iat_append (a b : List Int) (j : Nat) : iat (a ++ b) j = if j < a.length then iat a j else iat b (j - a.length) := by
  unfold iat
  simp only [List.getD_eq_getElem?_getD, List.getElem?_append]
  by_cases h : j < a.length <;> simp [h]
theorem iat_zeros (k j : Nat) : iat (List.replicate k 0) j = 0 := by
  unfold iat
  simp only [List.getD_eq_getElem?_getD, List.getElem?_replicate]
  by_cases h : j < k <;> simp [h]
theorem val_set : ∀ (l : List Int) (i : Nat) (v : Int), i < l.length → val (l.set i v) = val l + pw i * (v - iat l i)
  | [], _, _, h => by simp at h
  | d :: t, 0, v, _ => by
    show v + 1000000000 * val t = d + 1000000000 * val t + 1 * (v - d); omega
  | d :: t, i + 1, v, h => by
    show d + 1000000000 * val (t.set i v) = d + 1000000000 * val t + 1000000000 * pw i * (v - iat t i)
    rw [val_set t i v (by simpa using h)]
    grind
theorem take_succ (l : List Int) (k : Nat) (h : k < l.length) : l.take (k + 1) = l.take k ++ [iat l k] := by
  rw [List.take_succ_eq_append_getElem h]; simp [iat, h]
theorem val_take (l : List Int) (k : Nat) (h : k < l.length) : val (l.take (k + 1)) = val (l.take k) + pw k * iat l k := by
  rw [take_succ l k h, val_append, List.length_take, Nat.min_eq_left (by omega)]
  show _ + pw k * (iat l k + 1000000000 * 0) = _
  simp
theorem val_drop (l : List Int) (k : Nat) (h : k < l.length) : val (l.drop k) = iat l k + 1000000000 * val (l.drop (k + 1)) := by
  rw [List.drop_eq_getElem_cons h]; simp [val, iat, h]
theorem val_split (l : List Int) (k : Nat) (h : k ≤ l.length) : val l = val (l.take k) + pw k * val (l.drop k) := by
  have := val_append (l.take k) (l.drop k)
  rw [List.take_append_drop, List.length_take, Nat.min_eq_left h] at this
  exact this
def Dg (l : List Int) : Prop := ∀ i, i < l.length → 0 ≤ iat l i ∧ iat l i < 1000000000
theorem Dg_nil : Dg [] := fun i h => by simp at h
theorem Dg.tail {d : Int} {t : List Int} (h : Dg (d :: t)) : Dg t := fun i hi => by
  have := h (i + 1) (by simpa using hi)
  exact this
theorem Dg.head {d : Int} {t : List Int} (h : Dg (d :: t)) : 0 ≤ d ∧ d < 1000000000 := h 0 (by simp)
theorem Dg_cons {d : Int} {t : List Int} (h0 : 0 ≤ d) (h1 : d < 1000000000) (h : Dg t) : Dg (d :: t)
  | 0, _ => ⟨h0, h1⟩
  | i + 1, hi => h i (by simpa using hi)
theorem Dg.all {l : List Int} (h : Dg l) (i : Nat) : 0 ≤ iat l i ∧ iat l i < 1000000000 := by
  rcases Nat.lt_or_ge i l.length with hi | hi
  · exact h i hi
  · rw [iat_ge hi]; omega
theorem Dg.take {l : List Int} (h : Dg l) (k : Nat) : Dg (l.take k) := fun i hi => by
  rw [List.length_take] at hi
  rw [iat_take, if_pos (by omega)]
  exact h i (by omega)
theorem Dg.drop {l : List Int} (h : Dg l) (k : Nat) : Dg (l.drop k) := fun i hi => by
  rw [List.length_drop] at hi
  rw [iat_drop]
  exact h _ (by omega)
theorem Dg_append {a b : List Int} (ha : Dg a) (hb : Dg b) : Dg (a ++ b) := fun i hi => by
  rw [iat_append]
  split
  · exact ha i ‹_›
  · exact hb.all _
theorem Dg_zeros (k : Nat) : Dg (List.replicate k 0) := fun i _ => by rw [iat_zeros]; omega
theorem Dg.set {l : List Int} (h : Dg l) (i : Nat) (v : Int) (hi : i < l.length) (h0 : 0 ≤ v) (h1 : v < 1000000000) : Dg (l.set i v) := fun j hj => by
  rw [iat_set l i j v hi]
  split
  · omega
  · exact h.all j
theorem Dg.lo : ∀ {l : List Int}, Dg l → 0 ≤ val l
  | [], _ => by decide
  | d :: t, h => by have := h.head; have := h.tail.lo; show 0 ≤ d + 1000000000 * val t; omega
theorem Dg.hi : ∀ {l : List Int}, Dg l → val l < pw l.length
  | [], _ => by decide
  | d :: t, h => by have := h.head; have := h.tail.hi; show d + 1000000000 * val t < 1000000000 * pw t.length; omega
def digs (n : Nat) : List Int := if h : n = 0 then [] else ((n % 1000000000 : Nat) : Int) :: digs (n / 1000000000)
  termination_by n
  decreasing_by omega
theorem digs_zero : digs 0 = [] := by unfold digs; rfl
theorem digs_pos {n : Nat} (h : n ≠ 0) : digs n = ((n % 1000000000 : Nat) : Int) :: digs (n / 1000000000) := by
  rw [digs]; simp [h]
theorem val_digs (n : Nat) : val (digs n) = n := by
  induction n using Nat.strongRecOn with
  | _ n ih =>
    by_cases h : n = 0
    · subst h; rw [digs_zero]; rfl
    · rw [digs_pos h]
      show ((n % 1000000000 : Nat) : Int) + 1000000000 * val (digs (n / 1000000000)) = n
      rw [ih _ (by omega)]
      omega
theorem Dg_digs (n : Nat) : Dg (digs n) := by
  induction n using Nat.strongRecOn with
  | _ n ih =>
    by_cases h : n = 0
    · subst h; rw [digs_zero]; exact Dg_nil
    · rw [digs_pos h]
      exact Dg_cons (by omega) (by omega) (ih _ (by omega))
theorem digs_inj {a b : Nat} (h : digs a = digs b) : a = b := by
  have h1 := val_digs a
  have h2 := val_digs b
  rw [h] at h1; omega
def tlen : List Int → Nat
  | [] => 0
  | d :: t => if tlen t = 0 then (if d = 0 then 0 else 1) else tlen t + 1
theorem tlen_le : ∀ l, tlen l ≤ l.length
  | [] => Nat.le_refl _
  | d :: t => by
    have := tlen_le t
    unfold tlen
    rw [List.length_cons]
    split
    · split <;> omega
    · omega
theorem digs_nil {n : Nat} : digs n = [] ↔ n = 0 := by
  constructor
  · intro h
    by_cases e : n = 0
    · exact e
    · rw [digs_pos e] at h; cases h
  · rintro rfl; exact digs_zero
theorem take_tlen : ∀ {l : List Int}, Dg l → l.take (tlen l) = digs (val l).toNat
  | [], _ => by show [] = digs (0 : Int).toNat; exact digs_zero.symm
  | d :: t, h => by
    have ih := take_tlen h.tail
    have hd := h.head
    have hv := h.tail.lo
    by_cases h0 : tlen t = 0
    · rw [h0, List.take_zero] at ih
      have hz : val t = 0 := by have := digs_nil.1 ih.symm; omega
      by_cases hd0 : d = 0
      · subst hd0
        have e : tlen (0 :: t) = 0 := by simp [tlen, h0]
        rw [e]
        show [] = digs (0 + 1000000000 * val t).toNat
        rw [hz]; exact digs_zero.symm
      · have e : tlen (d :: t) = 1 := by simp [tlen, h0, hd0]
        rw [e]
        show [d] = digs (d + 1000000000 * val t).toNat
        rw [hz, digs_pos (by omega), show (d + 1000000000 * 0).toNat / 1000000000 = 0 by omega, digs_zero]
        congr 1
        omega
    · have e : tlen (d :: t) = tlen t + 1 := by simp [tlen, h0]
      rw [e, List.take_succ_cons, ih]
      have hnz : (val t).toNat ≠ 0 := by
        intro hz
        rw [hz, digs_zero] at ih
        have := congrArg List.length ih
        rw [List.length_take, List.length_nil] at this
        have := tlen_le t
        omega
      show d :: _ = digs (d + 1000000000 * val t).toNat
      rw [digs_pos (n := (d + 1000000000 * val t).toNat) (by omega), show (d + 1000000000 * val t).toNat / 1000000000 = (val t).toNat by omega]
      congr 1
      omega
theorem tlen_of : ∀ (l : List Int) (n : Nat), n ≤ l.length → (∀ i, n ≤ i → i < l.length → iat l i = 0) → (n = 0 ∨ iat l (n - 1) ≠ 0) → tlen l = n
  | [], n, h, _, _ => by simp at h; subst h; rfl
  | d :: t, n, h, hz, hn => by
    cases n with
    | zero =>
      have h1 := tlen_of t 0 (Nat.zero_le _) (fun i _ hi => hz (i + 1) (Nat.zero_le _) (by simpa using hi)) (.inl rfl)
      have h2 : d = 0 := hz 0 (Nat.le_refl _) (by simp)
      simp [tlen, h1, h2]
    | succ m =>
      have hm := tlen_of t m (by simpa using h) (fun i hi hl => hz (i + 1) (by omega) (by simpa using hl)) (by
        rcases hn with hn | hn
        · omega
        · cases m with
          | zero => exact .inl rfl
          | succ k => exact .inr hn)
      rcases hn with hn | hn
      · omega
      · cases m with
        | zero =>
          have : d ≠ 0 := hn
          simp [tlen, hm, this]
        | succ k => simp [tlen, hm]
theorem digs_top {n : Nat} (h : n ≠ 0) : iat (digs n) ((digs n).length - 1) ≠ 0 := by
  induction n using Nat.strongRecOn with
  | _ n ih =>
    rw [digs_pos h]
    by_cases h2 : n / 1000000000 = 0
    · rw [h2, digs_zero]
      show ((n % 1000000000 : Nat) : Int) ≠ 0
      omega
    · have := ih _ (by omega) h2
      have hp : (digs (n / 1000000000)).length ≠ 0 := fun e => h2 (digs_nil.1 (List.eq_nil_of_length_eq_zero e))
      rw [List.length_cons, show (digs (n / 1000000000)).length + 1 - 1 = ((digs (n / 1000000000)).length - 1) + 1 by omega, iat_cons_succ]
      exact this
theorem tlen_digs (n : Nat) : tlen (digs n) = (digs n).length :=
  tlen_of _ _ (Nat.le_refl _) (fun i h1 h2 => by omega) (by
    by_cases h : n = 0
    · subst h; left; rw [digs_zero]; rfl
    · right; exact digs_top h)
theorem val_top {x y : List Int} (hx : Dg x) (hy : Dg y) (hl : x.length = y.length) (k : Nat) (hk : k < x.length) (hd : val (x.drop (k + 1)) = val (y.drop (k + 1))) (hlt : iat x k < iat y k) : val x < val y := by
  rw [val_split x k (by omega), val_split y k (by omega), val_drop x k hk, val_drop y k (by omega), hd]
  have h1 := (hx.take k).hi
  have h2 := (hy.take k).lo
  rw [List.length_take, Nat.min_eq_left (by omega)] at h1
  have hp := pw_pos k
  generalize val (y.drop (k + 1)) = T at *
  generalize val (x.take k) = X at *
  generalize val (y.take k) = Y at *
  generalize iat x k = a at *
  generalize iat y k = b at *
  have : pw k * (a + 1 + 1000000000 * T) ≤ pw k * (b + 1000000000 * T) := Int.mul_le_mul_of_nonneg_left (by omega) (by omega)
  have e : pw k * (a + 1 + 1000000000 * T) = pw k * (a + 1000000000 * T) + pw k := by grind
  omega
theorem digs_len_lt {a b : Nat} (h : (digs a).length < (digs b).length) : a < b := by
  have h1 := (Dg_digs a).hi
  have hb : b ≠ 0 := by rintro rfl; rw [digs_zero] at h; simp at h
  have h2 := digs_top hb
  have h3 := (Dg_digs b).all ((digs b).length - 1)
  have h4 := val_split (digs b) ((digs b).length - 1) (by omega)
  have h5 := ((Dg_digs b).take ((digs b).length - 1)).lo
  have h6 := val_drop (digs b) ((digs b).length - 1) (by omega)
  rw [show (digs b).length - 1 + 1 = (digs b).length by omega, List.drop_length] at h6
  rw [h6] at h4
  simp only [val, Int.mul_zero, Int.add_zero] at h4
  have h7 := pw_mono (show (digs a).length ≤ (digs b).length - 1 by omega)
  have h8 := pw_pos ((digs b).length - 1)
  rw [val_digs] at h1 h4
  have : pw ((digs b).length - 1) * 1 ≤ pw ((digs b).length - 1) * iat (digs b) ((digs b).length - 1) := Int.mul_le_mul_of_nonneg_left (by omega) (by omega)
  omega
theorem digs_len_mono {a b : Nat} (h : a ≤ b) : (digs a).length ≤ (digs b).length := by
  rcases Nat.lt_or_ge (digs b).length (digs a).length with h1 | h1
  · have := digs_len_lt h1; omega
  · exact h1
theorem digs_len_le {n k : Nat} (h : (n : Int) < pw k) : (digs n).length ≤ k := by
  induction k generalizing n with
  | zero => have : n = 0 := by have : (n : Int) < 1 := h; omega
            subst this; rw [digs_zero]; exact Nat.le_refl _
  | succ k ih =>
    by_cases e : n = 0
    · subst e; rw [digs_zero]; exact Nat.zero_le _
    · rw [digs_pos e, List.length_cons]
      have : (n : Int) < 1000000000 * pw k := h
      have := ih (n := n / 1000000000) (by omega)
      omega
theorem lt_pw (n : Nat) : (n : Int) < pw (digs n).length := by have := (Dg_digs n).hi; rwa [val_digs] at this
theorem digs_val {l : List Int} (h : Dg l) (ht : tlen l = l.length) : digs (val l).toNat = l := by
  rw [← take_tlen h, ht, List.take_length]
end Go.Proofs.YtleijkgdpmfabaaGreatDoor
