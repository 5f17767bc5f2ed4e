/- Contracts of the package integer and its reference: A region whose order is drawn, by what is known of each operation's slot: linear in its operations. Words for walks of laws over integers: what a slot is known to hold. sherdref01.Same (as in the texts of stage 1). -/
import Derived.Orders
import Derived.Test.YtmbkpcnpacncjaaDoorM8
import Derived.Test.YtmbkpcnpacncjaaDoorM7
import Derived.Test.YtmbkpcnpacncjaaDoorM9
import Derived.Test.YtmbkpcnpacncjaaDoorM10
import Derived.ChangeKeysEq
set_option linter.unusedVariables false
namespace Go.Proofs.YtmbkpcnpacncjaaDoor
open Go
section
variable {P : Program} {md : Region.Mode} {ops : Array Oper} {Q : Exit → Act → World → Prop} {a0 : Act} {V : Nat → Value → World → Prop} {S : World → Prop} {R : World → World → Prop}

/-- what is known while a region runs -/
structure FlowI (ops : Array Oper) (a0 : Act) (V : Nat → Value → World → Prop) (S : World → Prop) (listed : Array Bool) (a : Act) (w : World) : Prop where
  s : S w
  len : listed.size = ops.size
  defers : a.defers = a0.defers
  size : a.tmps.size = a0.tmps.size
  other : ∀ t, (∀ (i : Nat) (o : Oper), ops[i]? = some o → o.dst ≠ some t) → a.tmps[t]? = a0.tmps[t]?
  own : ∀ (i : Nat) (o : Oper) (d : Tmp), ops[i]? = some o → listed.getD i false = true → o.dst = some d → ∃ v, a.tmps[d]? = some v ∧ V i v w

/-- one operation -/
def FlowStep (P : Program) (md : Region.Mode) (ops : Array Oper) (Q : Exit → Act → World → Prop) (a0 : Act) (V : Nat → Value → World → Prop) (S : World → Prop) (R : World → World → Prop) (i : Nat) (o : Oper) : Prop :=
  ∀ listed a w, FlowI ops a0 V S listed a w → (∀ e ∈ o.after, Region.binds md e = true → listed.getD e.on false = true) →
    ∀ K : Act → World → Prop, (∀ v w', S w' → R w w' → V i v w' → K (a.put o.dst v) w') → (if Region.wanted o (yielded ops a.tmps) then o.wp P a w K Q else K (a.put o.dst undef) w)

/-- operations wait for earlier ones alone -/
def flowFore (ops : Array Oper) : Bool := (List.range ops.size).all fun i => ((ops[i]?).map fun o => o.after.all fun e => decide (e.on < i)).getD true
theorem flowFore_spec (h : flowFore ops = true) {i : Nat} {o : Oper} (ho : ops[i]? = some o) : ∀ e ∈ o.after, e.on < i := by
  intro e he
  have hi : i < ops.size := by
    rcases Nat.lt_or_ge i ops.size with h' | h'
    · exact h'
    · rw [Array.getElem?_eq_none h'] at ho; cases ho
  unfold flowFore at h
  rw [List.all_eq_true] at h
  have h1 := h i (by simpa using hi)
  rw [ho] at h1
  simp only [Option.map_some, Option.getD_some, Array.all_eq_true'] at h1
  exact of_decide_eq_true (h1 e he)

/-- no two operations have one slot -/
def flowOwn (ops : Array Oper) : Bool := (List.range ops.size).all fun i => (List.range i).all fun j => match (ops[i]?).bind (·.dst), (ops[j]?).bind (·.dst) with
  | some x, some y => x != y
  | _, _ => true
theorem flowOwn_lt (h : flowOwn ops = true) {i j : Nat} {o u : Oper} {d : Nat} (ho : ops[i]? = some o) (hu : ops[j]? = some u) (hd : o.dst = some d) (hij : j < i) : u.dst ≠ some d := by
  intro hd'
  have hi : i < ops.size := by
    rcases Nat.lt_or_ge i ops.size with h' | h'
    · exact h'
    · rw [Array.getElem?_eq_none h'] at ho; cases ho
  unfold flowOwn at h
  rw [List.all_eq_true] at h
  have h1 := h i (by simpa using hi)
  rw [List.all_eq_true] at h1
  have h2 := h1 j (by simpa using hij)
  rw [ho, hu] at h2
  simp [hd, hd'] at h2
theorem flowOwn_ne (h : flowOwn ops = true) {i j : Nat} {o u : Oper} {d : Nat} (ho : ops[i]? = some o) (hu : ops[j]? = some u) (hd : o.dst = some d) (hij : j ≠ i) : u.dst ≠ some d := by
  rcases Nat.lt_or_gt_of_ne hij with h1 | h1
  · exact flowOwn_lt h ho hu hd h1
  · intro h2; exact flowOwn_lt h hu ho h2 h1 hd

theorem put_get_self {a : Act} {d : Nat} {v : Value} (h : d < a.tmps.size) : (a.put (some d) v).tmps[d]? = some v := by simp [Act.put, h]
theorem put_get_ne {a : Act} {x : Option Nat} {t : Nat} {v : Value} (h : x ≠ some t) : (a.put x v).tmps[t]? = a.tmps[t]? := by
  cases x with
  | none => rfl
  | some d => simp only [Act.put]; rw [Array.getElem?_setIfInBounds_ne (fun e => h (by rw [e]))]
theorem put_size {a : Act} {x : Option Nat} {v : Value} : (a.put x v).tmps.size = a.tmps.size := by cases x <;> simp [Act.put]
theorem put_defers' {a : Act} {x : Option Nat} {v : Value} : (a.put x v).defers = a.defers := by cases x <;> rfl
theorem getD_set (l : Array Bool) (i j : Nat) (hi : i < l.size) : (l.setIfInBounds i true).getD j false = if i = j then true else l.getD j false := by
  simp only [Array.getD_eq_getD_getElem?, Array.getElem?_setIfInBounds]
  by_cases h : i = j
  · subst h; simp [hi]
  · simp [h]

theorem FlowI.step {listed : Array Bool} {a : Act} {w w' : World} {i : Nat} {o : Oper} {v : Value} (hown : flowOwn ops = true) (hin : ∀ (i : Nat) (o : Oper) (d : Tmp), ops[i]? = some o → o.dst = some d → d < a0.tmps.size)
    (hmono : ∀ j u w w', V j u w → R w w' → V j u w') (h : FlowI ops a0 V S listed a w) (ho : ops[i]? = some o) (hS : S w') (hR : R w w') (hv : V i v w') : FlowI ops a0 V S (listed.setIfInBounds i true) (a.put o.dst v) w' := by
  have hi : i < listed.size := by
    rw [h.len]
    rcases Nat.lt_or_ge i ops.size with h' | h'
    · exact h'
    · rw [Array.getElem?_eq_none h'] at ho; cases ho
  refine ⟨hS, by simpa using h.len, by rw [put_defers', h.defers], by rw [put_size, h.size], fun t ht => by rw [put_get_ne (ht i o ho), h.other t ht], fun j u d hu hl hd => ?_⟩
  by_cases hij : j = i
  · subst hij
    rw [ho] at hu
    cases hu
    rw [hd]
    exact ⟨v, put_get_self (by rw [h.size]; exact hin _ _ _ ho hd), hv⟩
  · rw [getD_set _ _ _ hi, if_neg (fun e => hij e.symm)] at hl
    obtain ⟨x, hx, hV⟩ := h.own j u d hu hl hd
    exact ⟨x, by rw [put_get_ne (flowOwn_ne hown hu ho hd (fun e => hij e.symm))]; exact hx, hmono _ _ _ _ hV hR⟩

theorem count_set (l : Array Bool) (i : Nat) (hi : i < l.size) (h : l.getD i true = false) : (l.setIfInBounds i true).toList.count false + 1 = l.toList.count false := by
  have hi' : i < l.toList.length := by simpa using hi
  have h1 : l.toList[i] = false := by simpa [Array.getD, hi] using h
  have h2 : 0 < l.toList.count false := List.count_pos_iff.2 (by rw [← h1]; exact List.getElem_mem hi')
  rw [Array.toList_setIfInBounds, List.count_set hi', h1]
  show (l.toList.count false - 1) + 0 + 1 = _
  omega
theorem count_zero (l : Array Bool) (h : l.toList.count false = 0) (i : Nat) (hi : i < l.size) : l.getD i false = true := by
  have hi' : i < l.toList.length := by simpa using hi
  have h1 := List.count_eq_zero.1 h
  have h2 : l.toList[i] ∈ l.toList := List.getElem_mem hi'
  have h3 : l[i] = true := by
    cases h4 : l[i] with
    | true => rfl
    | false => exact absurd (by simpa [h4] using h2) h1
  simp [Array.getD, hi, h3]
theorem ready_none (hfore : flowFore ops = true) {listed : Array Bool} (hl : listed.size = ops.size) (h : Region.ready md ops listed = []) : ∀ i, i < ops.size → listed.getD i false = true := by
  intro i
  induction i using Nat.strongRecOn with
  | _ i ih =>
    intro hi
    cases hlt : listed.getD i false with
    | true => rfl
    | false =>
      exfalso
      obtain ⟨o, ho⟩ : ∃ o, ops[i]? = some o := ⟨ops[i], by simp [hi]⟩
      have hm : i ∈ Region.ready md ops listed := mem_ready.2 ⟨by
        have h' : i < listed.size := by omega
        simpa [Array.getD, h'] using hlt, o, ho, fun e he _ => ih e.on (flowFore_spec hfore ho e he) (by have := flowFore_spec hfore ho e he; omega)⟩
      rw [h] at hm
      cases hm

theorem wpAny_flow (hfore : flowFore ops = true) (hown : flowOwn ops = true) (hin : ∀ (i : Nat) (o : Oper) (d : Tmp), ops[i]? = some o → o.dst = some d → d < a0.tmps.size) (hmono : ∀ j u w w', V j u w → R w w' → V j u w')
    (hstep : ∀ (i : Nat) (o : Oper), ops[i]? = some o → FlowStep P md ops Q a0 V S R i o)
    (hdone : ∀ (listed : Array Bool) (a : Act) (w : World), (∀ i, i < ops.size → listed.getD i false = true) → FlowI ops a0 V S listed a w → Q .normal a w) :
    ∀ (fuel : Nat) (listed : Array Bool) (a : Act) (w : World), FlowI ops a0 V S listed a w → listed.toList.count false ≤ fuel → wpAny P md ops Q fuel listed a w := by
  intro fuel
  induction fuel with
  | zero =>
    intro listed a w h hc
    have hall : ∀ i, i < ops.size → listed.getD i false = true := fun i hi => count_zero listed (by omega) i (by rw [h.len]; exact hi)
    refine ⟨?_, hdone _ _ _ hall h⟩
    cases hr : Region.ready md ops listed with
    | nil => rfl
    | cons i l =>
      have hi : i ∈ Region.ready md ops listed := by rw [hr]; exact List.mem_cons_self
      obtain ⟨h1, o, ho, _⟩ := mem_ready.1 hi
      have hlt : i < ops.size := by
        rcases Nat.lt_or_ge i ops.size with h' | h'
        · exact h'
        · rw [Array.getElem?_eq_none h'] at ho; cases ho
      have h2 := hall i hlt
      have h3 : i < listed.size := by rw [h.len]; exact hlt
      simp [Array.getD, h3] at h1 h2
      rw [h2] at h1
      cases h1
  | succ fuel ih =>
    intro listed a w h hc
    refine ⟨fun hr => hdone _ _ _ (ready_none hfore h.len hr) h, fun i hi => ?_⟩
    obtain ⟨h1, o, ho, hdep⟩ := mem_ready.1 hi
    have hlt : i < listed.size := by
      rw [h.len]
      rcases Nat.lt_or_ge i ops.size with h' | h'
      · exact h'
      · rw [Array.getElem?_eq_none h'] at ho; cases ho
    have hcnt := count_set listed i hlt h1
    have := hstep i o ho listed a w h hdep (wpAny P md ops Q fuel (listed.setIfInBounds i true)) fun v w' hS hR hV => ih _ _ _ (h.step hown hin hmono ho hS hR hV) (by omega)
    unfold wpOp
    rw [ho]
    by_cases hw : Region.wanted o (yielded ops a.tmps) = true
    · simp only [hw, if_true] at this ⊢; exact .inl this
    · simp only [hw] at this ⊢; exact this

theorem region_flow {id : Nat} {w : World} (hm : P.follows .mixedOrders = true) (hfore : flowFore ops = true) (hown : flowOwn ops = true) (hin : ∀ (i : Nat) (o : Oper) (d : Tmp), ops[i]? = some o → o.dst = some d → d < a0.tmps.size)
    (hmono : ∀ j u w w', V j u w → R w w' → V j u w') (hS : S { w with drawn := w.drawn + 1 })
    (hstep : ∀ (i : Nat) (o : Oper), ops[i]? = some o → FlowStep P .any ops Q a0 V S R i o)
    (hdone : ∀ a w, FlowI ops a0 V S (Array.replicate ops.size true) a w → Q .normal a w) : (Code.region id ops true).wp P Q a0 w := by
  refine wp_region_any hm (wpAny_flow hfore hown hin hmono hstep (fun listed a w' hall h => hdone a w' ⟨h.s, by simp, h.defers, h.size, h.other, fun i o d ho _ hd => ?_⟩) _ _ _ _ ⟨hS, by simp, rfl, rfl, fun _ _ => rfl, fun i o d ho hl _ => ?_⟩ ?_)
  · refine h.own i o d ho (hall i ?_) hd
    rcases Nat.lt_or_ge i ops.size with h' | h'
    · exact h'
    · rw [Array.getElem?_eq_none h'] at ho; cases ho
  · exfalso
    simp only [Array.getD_eq_getD_getElem?, Array.getElem?_replicate] at hl
    split at hl <;> simp at hl
  · simp

theorem FlowI.dep {listed : Array Bool} {a : Act} {w : World} {after : Array Edge} (h : FlowI ops a0 V S listed a w) (hd : ∀ e ∈ after, Region.binds md e = true → listed.getD e.on false = true) (j d : Nat)
    (hj : after.any (fun e => e.on == j && Region.binds md e) = true) (hdst : (ops[j]?).bind (·.dst) = some d) : ∃ v, a.eval (.tmp d) = v ∧ yielded ops a.tmps j = (match v with | .bool b => some b | _ => none) ∧ V j v w := by
  obtain ⟨e, he, hb⟩ : ∃ e, e ∈ after ∧ (e.on == j && Region.binds md e) = true := by
    rw [Array.any_eq_true] at hj
    obtain ⟨i, hi, h1⟩ := hj
    exact ⟨after[i], Array.getElem_mem hi, h1⟩
  simp only [Bool.and_eq_true, beq_iff_eq] at hb
  obtain ⟨rfl, hb⟩ := hb
  have hl := hd e he hb
  cases ho : ops[e.on]? with
  | none => rw [ho] at hdst; cases hdst
  | some o =>
    rw [ho] at hdst
    have hdst' : o.dst = some d := hdst
    obtain ⟨v, hv, hV⟩ := h.own _ o d ho hl hdst'
    refine ⟨v, by simp [Act.eval, hv, Array.getD_eq_getD_getElem?], ?_, hV⟩
    unfold yielded
    rw [ho]
    simp only [Option.bind_some, hdst', hv]
    cases v <;> rfl
theorem FlowI.out {listed : Array Bool} {a : Act} {w : World} (h : FlowI ops a0 V S listed a w) (t : Nat) (ht : ops.all (fun o => o.dst != some t) = true) : a.eval (.tmp t) = a0.eval (.tmp t) := by
  have := h.other t fun i o ho => by
    rw [Array.all_eq_true'] at ht
    have := ht o (Array.mem_of_getElem? ho)
    simpa using this
  simp [Act.eval, Array.getD_eq_getD_getElem?, this]

/-- a call -/
theorem flow_call {i : Nat} {dst : Option Tmp} {f : FuncId} {xs : Array Operand} {ats : Array TypeId} {ty : TypeId} {pos : String} {after : Array Edge} {guard : Option (Nat × Bool)} (hcall : ∀ args w, (callFunc f args).run P w = .ok (.enter f args) w)
    (H : ∀ listed a w, FlowI ops a0 V S listed a w → (∀ e ∈ after, Region.binds md e = true → listed.getD e.on false = true) →
      (match guard with | none => True | some (j, b) => yielded ops a.tmps j = some b) ∧ ∃ args, #[] ++ xs.map a.eval ++ #[] = args ∧ Calls P f args w fun e w' => ∃ v, e = .returned v ∧ S w' ∧ R w w' ∧ V i v w') :
    FlowStep P md ops Q a0 V S R i { dst, op := .call { callee := .value (.func f), args := xs, argTypes := ats }, type := ty, pos, after, guard } := by
  intro listed a w h hd K hK
  obtain ⟨hg, args, hargs, hc⟩ := H listed a w h hd
  have hw : Region.wanted { dst, op := .call { callee := .value (.func f), args := xs, argTypes := ats }, type := ty, pos, after, guard } (yielded ops a.tmps) = true := by
    unfold Region.wanted
    cases guard with
    | none => rfl
    | some g => obtain ⟨j, b⟩ := g; simp only [] at hg ⊢; rw [hg]; simp
  rw [if_pos hw]
  unfold Oper.wp
  have he : execOp a.eval { dst, op := .call { callee := .value (.func f), args := xs, argTypes := ats }, type := ty, pos, after, guard } = callFunc f (#[] ++ xs.map a.eval ++ #[]) := rfl
  rw [he, hargs, hcall]
  refine Calls.mono hc fun e w' hp => ?_
  obtain ⟨v, rfl, h1, h2, h3⟩ := hp
  exact hK v w' h1 h2 h3
/-- an operation of the model's own -/
theorem flow_run {i : Nat} {o : Oper}
    (H : ∀ listed a w, FlowI ops a0 V S listed a w → (∀ e ∈ o.after, Region.binds md e = true → listed.getD e.on false = true) →
      (match o.guard with | none => True | some (j, b) => yielded ops a.tmps j = some b) ∧ ∃ v w', (execOp a.eval o).run P w = .ok (.value v) w' ∧ S w' ∧ R w w' ∧ V i v w') :
    FlowStep P md ops Q a0 V S R i o := by
  intro listed a w h hd K hK
  obtain ⟨hg, v, w', hr, h1, h2, h3⟩ := H listed a w h hd
  have hw : Region.wanted o (yielded ops a.tmps) = true := by
    unfold Region.wanted
    cases hgu : o.guard with
    | none => rfl
    | some g => obtain ⟨j, b⟩ := g; rw [hgu] at hg; simp only [] at hg ⊢; rw [hg]; simp
  rw [if_pos hw]
  unfold Oper.wp
  rw [hr]
  exact hK v w' h1 h2 h3
/-- an operation by any law of its own -/
theorem flow_wp {i : Nat} {o : Oper}
    (H : ∀ listed a w, FlowI ops a0 V S listed a w → (∀ e ∈ o.after, Region.binds md e = true → listed.getD e.on false = true) →
      (match o.guard with | none => True | some (j, b) => yielded ops a.tmps j = some b) ∧ ∀ K : Act → World → Prop, (∀ v w', S w' → R w w' → V i v w' → K (a.put o.dst v) w') → o.wp P a w K Q) :
    FlowStep P md ops Q a0 V S R i o := by
  intro listed a w h hd K hK
  obtain ⟨hg, hc⟩ := H listed a w h hd
  have hw : Region.wanted o (yielded ops a.tmps) = true := by
    unfold Region.wanted
    cases hgu : o.guard with
    | none => rfl
    | some g => obtain ⟨j, b⟩ := g; rw [hgu] at hg; simp only [] at hg ⊢; rw [hg]; simp
  rw [if_pos hw]
  exact hc K hK
/-- an operation that is not wanted -/
theorem flow_skip {i : Nat} {o : Oper}
    (H : ∀ listed a w, FlowI ops a0 V S listed a w → (∀ e ∈ o.after, Region.binds md e = true → listed.getD e.on false = true) →
      (∃ j b c, o.guard = some (j, b) ∧ yielded ops a.tmps j = some c ∧ c ≠ b) ∧ R w w ∧ V i undef w) :
    FlowStep P md ops Q a0 V S R i o := by
  intro listed a w h hd K hK
  obtain ⟨⟨j, b, c, hg, hy, hne⟩, h2, h3⟩ := H listed a w h hd
  have hw : Region.wanted o (yielded ops a.tmps) = false := by
    unfold Region.wanted
    rw [hg]; simp only []
    rw [hy]; simpa using hne
  rw [hw]
  exact hK undef w h.s h2 h3

/-- operation by operation -/
def AllFlow (P : Program) (md : Region.Mode) (ops : Array Oper) (Q : Exit → Act → World → Prop) (a0 : Act) (V : Nat → Value → World → Prop) (S : World → Prop) (R : World → World → Prop) : Nat → List Oper → Prop
  | _, [] => True
  | i, o :: l => FlowStep P md ops Q a0 V S R i o ∧ AllFlow P md ops Q a0 V S R (i + 1) l
theorem AllFlow.get : ∀ (l : List Oper) (i : Nat), AllFlow P md ops Q a0 V S R i l → ∀ (j : Nat) (o : Oper), l[j]? = some o → FlowStep P md ops Q a0 V S R (i + j) o
  | [], _, _, j, o, ho => by simp at ho
  | x :: l, i, h, 0, o, ho => by
    have : x = o := by simpa using ho
    subst this; exact h.1
  | x :: l, i, h, j + 1, o, ho => by
    have := AllFlow.get l (i + 1) h.2 j o (by simpa using ho)
    rw [show i + (j + 1) = i + 1 + j by omega]; exact this

/-- the slots behind it -/
def slots (f : Nat → Value) : List Nat → Act → Act
  | [], a => a
  | d :: l, a => slots f l (a.put (some d) (f d))
theorem slots_all (a : Act) : ∀ (l : List Nat) (b : Act), b.tmps.size = a.tmps.size → b.defers = a.defers → (∀ t, t ∉ l → b.tmps[t]? = a.tmps[t]?) → slots (fun d => a.tmps.getD d undef) l b = a
  | [], b, _, hd, h => by
    cases a; cases b
    simp only [slots, Act.mk.injEq]
    exact ⟨Array.ext_getElem? fun t => h t (by simp), hd⟩
  | d :: l, b, hs, hd, h => by
    refine slots_all a l _ (by rw [put_size, hs]) (by rw [put_defers', hd]) fun t ht => ?_
    by_cases e : d = t
    · subst e
      rcases Nat.lt_or_ge d b.tmps.size with hlt | hge
      · rw [put_get_self hlt]
        have hlt' : d < a.tmps.size := by omega
        simp [Array.getD, hlt']
      · rw [Array.getElem?_eq_none (by rw [put_size]; exact hge), Array.getElem?_eq_none (by omega)]
    · rw [put_get_ne (fun h' => e (by cases h'; rfl))]
      exact h t (by simp only [List.mem_cons, not_or]; exact ⟨fun h' => e h'.symm, ht⟩)
theorem FlowI.whole {a : Act} {w : World} (h : FlowI ops a0 V S (Array.replicate ops.size true) a w) (ds : List Nat) (hds : ops.toList.filterMap (·.dst) = ds) :
    ∃ f : Nat → Value, a = slots f ds a0 ∧ ∀ (i d : Nat), (ops[i]?).bind (·.dst) = some d → V i (f d) w := by
  refine ⟨fun d => a.tmps.getD d undef, (slots_all a ds a0 h.size.symm h.defers.symm fun t ht => (h.other t fun i o ho hd => ht ?_).symm).symm, fun i d hd => ?_⟩
  · rw [← hds, List.mem_filterMap]
    exact ⟨o, Array.mem_def.1 (Array.mem_of_getElem? ho), hd⟩
  · cases ho : ops[i]? with
    | none => rw [ho] at hd; cases hd
    | some o =>
      rw [ho] at hd
      have hi : i < ops.size := by
        rcases Nat.lt_or_ge i ops.size with h' | h'
        · exact h'
        · rw [Array.getElem?_eq_none h'] at ho; cases ho
      obtain ⟨v, hv, hV⟩ := h.own i o d ho (by simp [Array.getD, hi]) hd
      have : a.tmps.getD d undef = v := by simp [Array.getD_eq_getD_getElem?, hv]
      simp only [this]
      exact hV
theorem region_flows {id : Nat} {l : List Oper} {w : World} (hm : P.follows .mixedOrders = true) (hfore : flowFore l.toArray = true) (hown : flowOwn l.toArray = true) (hin : l.all (fun o => match o.dst with | some d => decide (d < a0.tmps.size) | none => true) = true)
    (hmono : ∀ j u w w', V j u w → R w w' → V j u w') (hS : S { w with drawn := w.drawn + 1 })
    (hstep : AllFlow P .any l.toArray Q a0 V S R 0 l)
    (ds : List Nat) (hds : l.filterMap (·.dst) = ds)
    (hdone : ∀ (f : Nat → Value) w, S w → (∀ (i d : Nat), (l[i]?).bind (·.dst) = some d → V i (f d) w) → Q .normal (slots f ds a0) w) : (Code.region id l.toArray true).wp P Q a0 w := by
  refine region_flow hm hfore hown (fun i o d ho hd => ?_) hmono hS (fun i o ho => ?_) fun a w' h => ?_
  · rw [List.all_eq_true] at hin
    have ho' : l[i]? = some o := by simpa using ho
    have := hin o (List.mem_of_getElem? ho')
    rw [hd] at this
    exact of_decide_eq_true this
  · have := AllFlow.get l 0 hstep i o (by simpa using ho)
    rw [Nat.zero_add] at this
    exact this
  · obtain ⟨f, rfl, hf⟩ := h.whole ds (by simpa using hds)
    exact hdone f w' h.s fun i d hd => hf i d (by simpa using hd)

end
end Go.Proofs.YtmbkpcnpacncjaaDoor

namespace Go.Proofs.YtmbkpcnpacncjaaDoor
open Go.RowKit

abbrev VP := Value → World → Prop
/-- an integer of at most N digits -/
def Vz (N : Nat) (z : Int) : VP := fun v W => ∃ nb p n c, v = .agg #[.bool nb, .slice p n c] ∧ IntAt W nb p n c z ∧ n ≤ N
def Vb (b : Bool) : VP := fun v _ => v = .bool b
def Vi (i : Int) : VP := fun v _ => v = .int .i64 i
def VT : VP := fun _ _ => True
/-- a box that holds an integer -/
def Bz (N : Nat) (g : Nat) (z : Int) (W : World) : Prop := ∃ nb p n c, W.heap[g]? = some (.cells #[.bool nb, .slice p n c] 24 (0, 0)) ∧ IntAt W nb p n c z ∧ n ≤ N
theorem Bz.later {N g : Nat} {z : Int} {W W' : World} (h : Bz N g z W) (hb : Below W.heap.size W W') : Bz N g z W' := by
  obtain ⟨nb, p, n, c, h1, h2, h3⟩ := h
  exact ⟨nb, p, n, c, (hb.block _ (lt_blk h1)).trans h1, h2.later hb, h3⟩
def Mono (V : VP) : Prop := ∀ v W W', V v W → Below W.heap.size W W' → V v W'
theorem Vz_mono (N : Nat) (z : Int) : Mono (Vz N z) := fun _ _ _ ⟨nb, p, n, c, h1, h2, h3⟩ hb => ⟨nb, p, n, c, h1, h2.later hb, h3⟩
theorem Vb_mono (b : Bool) : Mono (Vb b) := fun _ _ _ h _ => h
theorem Vi_mono (i : Int) : Mono (Vi i) := fun _ _ _ h _ => h
theorem VT_mono : Mono VT := fun _ _ _ _ _ => trivial
def MonoL : List VP → Prop
  | [] => True
  | V :: l => Mono V ∧ MonoL l
theorem MonoL.get : ∀ {l : List VP}, MonoL l → ∀ j, Mono (l.getD j VT)
  | [], _, j => by simpa using VT_mono
  | V :: l, h, 0 => h.1
  | V :: l, h, j + 1 => by have := MonoL.get h.2 j; simpa using this
theorem mono_of {l : List VP} (h : MonoL l) : ∀ j u (w w' : World), (fun i => l.getD i VT) j u w → Below w.heap.size w w' → (fun i => l.getD i VT) j u w' := fun j u w w' hV hb => h.get j u w w' hV hb
/-- a value that is returned -/
def RV (V : VP) (W : World) (e : Ending) (w' : World) : Prop := ∃ v, e = .returned v ∧ V v w' ∧ Below W.heap.size W w'

theorem run_pick_t {P : Program} {ρ : Operand → Value} {o : Oper} {W : World} {c x y : Operand} (ho : o.op = .pick c x y) (hc : ρ c = .bool true) : (execOp ρ o).run P W = .ok (.value (ρ x)) W := by
  simp [execOp, ho, hc, asBool]
theorem run_pick_f {P : Program} {ρ : Operand → Value} {o : Oper} {W : World} {c x y : Operand} (ho : o.op = .pick c x y) (hc : ρ c = .bool false) : (execOp ρ o).run P W = .ok (.value (ρ y)) W := by
  simp [execOp, ho, hc, asBool]
theorem run_not {ρ : Operand → Value} {o : Oper} {W : World} {t : TypeId} {x : Operand} {b : Bool} (ho : o.op = .unOp .not t x) (hx : ρ x = .bool b) : (execOp ρ o).run Tryd.prog W = .ok (.value (.bool (!b))) W := by
  obtain ⟨d, op, ty, ps, af, gd⟩ := o
  subst ho
  cases b <;> go_simp
theorem run_move {P : Program} {ρ : Operand → Value} {o : Oper} {W : World} {x : Operand} (ho : o.op = .move x) : (execOp ρ o).run P W = .ok (.value (ρ x)) W := by
  obtain ⟨d, op, ty, ps, af, gd⟩ := o
  subst ho
  rfl
theorem run_assign {P : Program} {ρ : Operand → Value} {o : Oper} {W : World} {x : Operand} (ho : o.op = .assign x) : (execOp ρ o).run P W = .ok (.value (ρ x)) W := by
  obtain ⟨d, op, ty, ps, af, gd⟩ := o
  subst ho
  rfl
theorem run_eqi {ρ : Operand → Value} {o : Oper} {W : World} {x y : Operand} {a b : Int} (ho : o.op = .binOp .eql 3 x y 3) (hx : ρ x = .int .i64 a) (hy : ρ y = .int .i64 b) : (execOp ρ o).run Tryd.prog W = .ok (.value (.bool (a == b))) W := by
  obtain ⟨d, op, ty, ps, af, gd⟩ := o
  subst ho
  go_simp
theorem wp_load_box {o : Oper} {a : Act} {W : World} {K : Act → World → Prop} {Q : Exit → Act → World → Prop} {X : Nat} {g N : Nat} {z : Int} (ho : o.op = .load 24 (.tmp X)) (hx : a.eval (.tmp X) = .pointer (some ⟨g, 0, none⟩)) (hB : Bz N g z W) (hK : ∀ v, Vz N z v W → K (a.put o.dst v) W) : o.wp Tryd.prog a W K Q := by
  obtain ⟨nb, p, n, c, h1, h2, h3⟩ := hB
  exact wp_load_row 24 (.tmp X) ho g hx 24 #[.bool nb, .slice p n c] (0, 0) _ h1 Tryd.underlying24 rfl size_Int (hK _ ⟨nb, p, n, c, rfl, h2, h3⟩)

theorem dl_add (a b : Int) (Na Nb : Nat) (ha : (digs a.natAbs).length ≤ Na) (hb : (digs b.natAbs).length ≤ Nb) : (digs (a + b).natAbs).length ≤ max Na Nb + 1 := by
  apply digs_len_le
  have h1 := lt_pw a.natAbs
  have h2 := lt_pw b.natAbs
  have h3 := pw_mono (show (digs a.natAbs).length ≤ max Na Nb by omega)
  have h4 := pw_mono (show (digs b.natAbs).length ≤ max Na Nb by omega)
  show _ < 1000000000 * pw (max Na Nb)
  omega
theorem dl_mul (a b : Int) (Na Nb : Nat) (ha : (digs a.natAbs).length ≤ Na) (hb : (digs b.natAbs).length ≤ Nb) : (digs (a * b).natAbs).length ≤ Na + Nb := by
  apply digs_len_le
  have h1 := lt_pw a.natAbs
  have h2 := lt_pw b.natAbs
  have h3 := pw_mono ha
  have h4 := pw_mono hb
  have h5 := pw_pos Na
  rw [Int.natAbs_mul, pw_add]
  have h6 : (a.natAbs : Int) * (b.natAbs : Int) ≤ (a.natAbs : Int) * pw Nb := Int.mul_le_mul_of_nonneg_left (by omega) (by omega)
  have h7 : (a.natAbs : Int) * pw Nb < pw Na * pw Nb := Int.mul_lt_mul_of_pos_right (by omega) (by have := pw_pos Nb; omega)
  simp only [Int.natCast_mul]
  omega
theorem retI_vz {w w' : World} {z : Int} {N : Nat} {e : Ending} (h : RetI w z e w') (hN : (digs z.natAbs).length ≤ N) : RV (Vz N z) w e w' := by
  obtain ⟨nb, p, n, c, rfl, hI, hb, _⟩ := h
  exact ⟨_, rfl, ⟨nb, p, n, c, rfl, hI, by rw [hI.2.1]; exact hN⟩, hb⟩
section
variable {W : World} {Na Nb : Nat} {a b : Int} {v1 v2 : Value}
theorem cMul (h1 : Vz Na a v1 W) (h2 : Vz Nb b v2 W) (hN1 : Na ≤ 1000000) (hN2 : Nb ≤ 1000000) : Calls Tryd.prog 30 #[v1, v2] W (RV (Vz (Na + Nb) (a * b)) W) := by
  obtain ⟨nb, p, n, c, rfl, hI, hn⟩ := h1
  obtain ⟨nb2, p2, n2, c2, rfl, hI2, hn2⟩ := h2
  exact (Mul_any _ _ _ _ _ _ _ _ a b W hI hI2 (by omega) (by omega)).mono fun e w' h => retI_vz h (dl_mul a b Na Nb (by rw [← hI.2.1]; exact hn) (by rw [← hI2.2.1]; exact hn2))
theorem cSame (h1 : Vz Na a v1 W) (h2 : Vz Nb b v2 W) (hN1 : Na ≤ 1000000) (hN2 : Nb ≤ 1000000) (hab : a = b) : Calls Tryd.prog 15 #[v1, v2] W (RV (Vb true) W) := by
  obtain ⟨nb, p, n, c, rfl, hI, hn⟩ := h1
  obtain ⟨nb2, p2, n2, c2, rfl, hI2, hn2⟩ := h2
  exact (same_any _ _ _ _ _ _ _ _ a b W hI hI2 (by omega) (by omega) true (decide_eq_true hab)).mono fun e w' h => ⟨_, h.1, rfl, h.2⟩
theorem cOf (n : Int) (h1 : -9223372036854775808 ≤ n) (h2 : n ≤ 9223372036854775807) : Calls Tryd.prog 14 #[.int .i64 n] W (RV (Vz 3 n) W) :=
  (Of_any n h1 h2 W).mono fun e w' h => retI_vz h (digs_len_le (by rw [pw3]; omega))
theorem cROf (n : Int) (h1 : -9223372036854775808 ≤ n) (h2 : n ≤ 9223372036854775807) : Calls Tryd.prog 7 #[.int .i64 n] W (RV (Vz 3 n) W) :=
  (rOf_any n h1 h2 W).mono fun e w' h => by
    refine retI_vz ?_ (digs_len_le (by rw [pw3]; omega))
    exact h
end
end Go.Proofs.YtmbkpcnpacncjaaDoor

namespace Go.Proofs.YtmbkpcnpacncjaaDoor
open Go.RowKit


theorem eq_of_take {α : Type} {l r : List α} {k : Nat} (h : l.take k = r.take k) (hk : k < l.length) (hk2 : k < r.length) (d : α) (he : l.getD k d = r.getD k d) : l.take (k + 1) = r.take (k + 1) := by
  rw [List.take_succ_eq_append_getElem hk, List.take_succ_eq_append_getElem hk2, h]
  simp [hk, hk2] at he
  rw [he]

theorem byt_inj {l r : List UInt8} {k : Nat} (h : byt l k = byt r k) : l.getD k 0 = r.getD k 0 := by
  unfold byt at h
  exact UInt8.toNat_inj.1 (by omega)

theorem Rd_at {w : World} {a : Option Addr} {l : List UInt8} (h : Rd w a l) (k : Nat) (hk : k < l.length) : ∃ b off, a = some ⟨b, off, none⟩ ∧ w.cell? ⟨b, off + k, none⟩ = some (.int .u8 (byt l k)) := by
  rcases h with rfl | ⟨b, off, rfl, hc⟩
  · simp at hk
  · exact ⟨b, off, rfl, hc k hk⟩

/-- a callee that only reads: its value, and some draws -/
def QPost (w : World) (v : Value) (e : Ending) (w' : World) : Prop := e = .returned v ∧ ∃ q, w' = w.drewN q

set_option maxRecDepth 100000 in
set_option maxHeartbeats 400000 in
theorem SameB_len (a1 a2 : Option Addr) (n1 n2 c1 c2 : Nat) (w : World) (hne : (((n1 : Nat) : Int) != ((n2 : Nat) : Int)) = true) :
    Calls Tryd.prog 34 #[.slice a1 n1 c1, .slice a2 n2 c2] w (QPost w (.bool false)) := by
  go_enter Tryd.func34, Tryd.ntmps34
  go_wp2
  go_ret
  exact ⟨rfl, 0, rfl⟩

set_option maxRecDepth 100000 in
set_option maxHeartbeats 800000 in
theorem SameB_eq (a1 a2 : Option Addr) (n c1 c2 : Nat) (l r : List UInt8) (w : World) (hR1 : Rd w a1 l) (hR2 : Rd w a2 r) (hn1 : Hid (n = l.length)) (hn2 : Hid (n = r.length)) (hmax : n ≤ 4611686018427387904) (ok : Bool) (hok : Hid (decide (l = r) = ok)) :
    Calls Tryd.prog 34 #[.slice a1 n c1, .slice a2 n c2] w (QPost w (.bool ok)) := by
  have hR1' := Lib.hid hR1
  have hR2' := Lib.hid hR2
  clear hR1 hR2
  have h0 : (((n : Nat) : Int) != ((n : Nat) : Int)) = false := by simp
  go_enter Tryd.func34, Tryd.ntmps34
  go_wp2
  go_loopw [5] (fun i wr => ∃ k q : Nat, k ≤ n ∧ i = .int .i64 k ∧ wr = w.drewN q ∧ Hid (l.take k = r.take k)) (fun i _ => n - (intOf i).toNat)
  case atStart => exact ⟨0, 0, Nat.zero_le _, rfl, rfl, rfl⟩
  case round =>
    obtain ⟨k, q, hk, rfl, rfl, heq⟩ := hrel
    by_cases hlt : k < n
    · have hkl : k < l.length := by rw [← hn1.out]; exact hlt
      have hkr : k < r.length := by rw [← hn2.out]; exact hlt
      obtain ⟨b1, o1, rfl, cc1⟩ := Rd_at hR1'.out k hkl
      obtain ⟨b2, o2, rfl, cc2⟩ := Rd_at hR2'.out k hkr
      have hlt' : (k : Int) < (n : Int) := by omega
      have hk0 : 0 ≤ (k : Int) := by omega
      by_cases hb : byt l k = byt r k
      · have hb1 : (byt l k != byt r k) = false := by simp [hb]
        have hb' := Lib.hid hb
        clear hb
        go_wp2
        go_quiet (fail)
        go_wp2
        refine ⟨⟨k + 1, q + nq, by omega, by simp, by first | rfl | (rw [World.drewN_drewN]), ?_⟩, by simp [intOf]; omega⟩
        exact eq_of_take heq.out hkl hkr 0 (byt_inj hb'.out)
      · have hb1 : (byt l k != byt r k) = true := by simp [hb]
        have hF : ok = false := by
          rw [← hok.out]
          simp only [decide_eq_false_iff_not]
          intro e
          exact hb (by rw [e])
        subst hF
        clear hb
        go_wp2
        go_quiet (fail)
        go_wp2
        go_ret
        exact ⟨rfl, q + nq, by first | rfl | (rw [World.drewN_drewN])⟩
    · have hk' : k = n := by omega
      have hT : ok = true := by
        rw [← hok.out]
        simp only [decide_eq_true_eq]
        have := heq.out
        rwa [hk', List.take_of_length_le (by rw [hn1.out]; exact Nat.le_refl _), List.take_of_length_le (by rw [hn2.out]; exact Nat.le_refl _)] at this
      subst hT
      subst hk'
      go_wp2
      go_ret
      exact ⟨rfl, _, rfl⟩

theorem SameB_any (a1 a2 : Option Addr) (n1 n2 c1 c2 : Nat) (l r : List UInt8) (w : World) (hR1 : Rd w a1 l) (hR2 : Rd w a2 r) (hn1 : n1 = l.length) (hn2 : n2 = r.length) (hmax : n1 ≤ 4611686018427387904) :
    Calls Tryd.prog 34 #[.slice a1 n1 c1, .slice a2 n2 c2] w (QPost w (.bool (decide (l = r)))) := by
  by_cases h : n1 = n2
  · subst h
    exact SameB_eq a1 a2 n1 c1 c2 l r w hR1 hR2 hn1 hn2 hmax _ rfl
  · have : decide (l = r) = false := by
      simp only [decide_eq_false_iff_not]
      intro e
      exact h (by rw [hn1, hn2, e])
    rw [this]
    exact SameB_len a1 a2 n1 n2 c1 c2 w (by rw [bne_iff_ne]; omega)

end Go.Proofs.YtmbkpcnpacncjaaDoor
