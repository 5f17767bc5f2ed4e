/- Contracts of the package integer and its reference: A region that fills a part of a row that the function made. Between regions: less is known of boxes. Package plane: words for its structs and for the rows of pairs. Stores into rows; rows of rational numbers. A region whose order is drawn, by what is known of each operation's slot, which may hang on what has run: for a region that stores into what it loads. The reference's Small. -/
import Derived.Deep.MidRow
import Derived.Test.YtmbkpcnpacncjaaDoorM21
import Derived.Test.YtmbkpcnpacncjaaDoorM23
import Derived.Test.YtmbkpcnpacncjaaDoorM11
import Derived.Test.YtmbkpcnpacncjaaDoorM17
import Derived.Test.YtmbkpcnpacncjaaDoorM10
set_option linter.unusedVariables false
namespace Go.Proofs.YtmbkpcnpacncjaaDoor
open Go Go.RowKit
/-- a row of known place, and the operation that changes it -/
structure Rw where
  g : Nat
  k : Nat
  T : TypeId
  m : Nat
  P : VP
  P0 : VP
def RowI (r : Rw) (listed : Array Bool) (w : World) : Prop := ∃ cs, w.heap[r.g]? = some (.cells cs r.T (0, 0)) ∧ cs.size = r.m ∧ NoInt cs ∧ (listed.getD r.k false = true → r.P (.agg cs) w) ∧ (listed.getD r.k false = false → r.P0 (.agg cs) w)
section
variable {P : Program} {md : Region.Mode} {ops : Array Oper} {Q : Exit → Act → World → Prop} {a0 : Act} {V : Nat → VP} {n0 : Nat} {w0 : World} {B : List Bd} {SL : List (Nat × VP)} {BT BT2 : List (TypeId × Nat × Nat)} {r : Rw}
theorem RI.mono {w w' : World} (h : RI BT w w') (hs : ∀ e ∈ BT, e ∈ BT2) (hs2 : ∀ e ∈ BT2, e.2.1 = 0 → e ∈ BT) : RI BT2 w w' := ⟨h.size, h.int, fun k cs T hk hn => h.row k cs T hk (hn.imp (fun hn e he => hn e (hs e he)) fun ⟨h0, e, he, e1, e2, e3⟩ => ⟨h0, e, hs2 e he e2, e1, e2, e3⟩), fun hb => h.oth fun e he => hb e (hs e he)⟩
theorem RowI.keep {listed : Array Bool} {w w' : World} {i : Nat} (h : RowI r listed w) (hr : RI BT w w') (hn : BT.any (fun e => e.1 == r.T && e.2.1 == r.m) = false) (hP : Stab BT r.P) (hP0 : Stab BT r.P0) (hi : i ≠ r.k) : RowI r (listed.setIfInBounds i true) w' := by
  obtain ⟨cs, h1, h2, h3, h4, h5⟩ := h
  have e : (listed.setIfInBounds i true).getD r.k false = listed.getD r.k false := by
    simp only [Array.getD_eq_getD_getElem?, Array.getElem?_setIfInBounds_ne hi]
  exact ⟨cs, (hr.row _ _ _ h1 (BT_not hn h2)).trans h1, h2, h3, fun hl => hP _ _ _ (h4 (by rw [← e]; exact hl)) hr, fun hl => hP0 _ _ _ (h5 (by rw [← e]; exact hl)) hr⟩
def AllR (k : Nat) (BT : List (TypeId × Nat × Nat)) (P : Program) (md : Region.Mode) (ops : Array Oper) (Q : Exit → Act → World → Prop) (a0 : Act) (V : Nat → VP) (n0 : Nat) (w0 : World) (B : List Bd) (SL : List (Nat × VP)) : Nat → List Oper → Prop
  | _, [] => True
  | i, o :: l => (i ≠ k → KStep BT P md ops Q a0 V n0 w0 B SL i o) ∧ AllR k BT P md ops Q a0 V n0 w0 B SL (i + 1) l
theorem AllR.get {k : Nat} : ∀ (l : List Oper) (i : Nat), AllR k BT P md ops Q a0 V n0 w0 B SL i l → ∀ (j : Nat) (o : Oper), l[j]? = some o → i + j ≠ k → KStep BT P md ops Q a0 V n0 w0 B SL (i + j) o
  | [], _, _, j, o, ho, _ => by simp at ho
  | x :: l, i, h, 0, o, ho, hne => by
    have : x = o := by simpa using ho
    subst this; exact h.1 hne
  | x :: l, i, h, j + 1, o, ho, hne => by
    have := AllR.get l (i + 1) h.2 j o (by simpa using ho) (by omega)
    rw [show i + (j + 1) = i + 1 + j by omega]; exact this
end
section
variable {Q : Exit → Act → World → Prop} {Vl : List VP} {n0 : Nat} {w0 : World} {B : List Bd} {SL : List (Nat × VP)} {BT : List (TypeId × Nat × Nat)}
end
end Go.Proofs.YtmbkpcnpacncjaaDoor

namespace Go.Proofs.YtmbkpcnpacncjaaDoor
open Go Go.RowKit
end Go.Proofs.YtmbkpcnpacncjaaDoor

namespace Go.Proofs.YtmbkpcnpacncjaaDoor
open Go.RowKit
variable {BT : List (TypeId × Nat × Nat)}

def Vv (N : Nat) (x y : Rat) : VP := VP2 4 4 (Vq N x) (Vq N y)
theorem Stab_Vv (N : Nat) (x y : Rat) : Stab BT (Vv N x y) := Stab_VP2 (Stab_Vq _ _) (Stab_Vq _ _)
theorem AggV_Vv (N : Nat) (x y : Rat) : AggV 8 (Vv N x y) := AggV_VP2 (AggV_Vq _ _) (AggV_Vq _ _)
def Vp (N : Nat) (c s x y : Rat) : VP := VP2 8 8 (Vv N c s) (Vv N x y)
theorem Stab_Vp (N : Nat) (c s x y : Rat) : Stab BT (Vp N c s x y) := Stab_VP2 (Stab_Vv _ _ _) (Stab_Vv _ _ _)
theorem AggV_Vp (N : Nat) (c s x y : Rat) : AggV 16 (Vp N c s x y) := AggV_VP2 (AggV_Vv _ _ _) (AggV_Vv _ _ _)
instance (N : Nat) (x y : Rat) : Sb BT (Vv N x y) := ⟨Stab_Vv N x y⟩
instance (N : Nat) (c s x y : Rat) : Sb BT (Vp N c s x y) := ⟨Stab_Vp N c s x y⟩
instance (N : Nat) (x y : Rat) : Ag (Vv N x y) 8 := ⟨AggV_Vv N x y⟩
instance (N : Nat) (c s x y : Rat) : Ag (Vp N c s x y) 16 := ⟨AggV_Vp N c s x y⟩
theorem ext_ext {cs : Array Value} {o1 k1 o2 k2 : Nat} (h : o2 + k2 ≤ k1) : (cs.extract o1 (o1 + k1)).extract o2 (o2 + k2) = cs.extract (o1 + o2) (o1 + o2 + k2) := by
  rw [Array.extract_extract, show min (o1 + (o2 + k2)) (o1 + k1) = o1 + o2 + k2 by omega]
theorem PtC.comp {V A C : VP} {o1 k1 o2 k2 : Nat} (h1 : PtC V o1 k1 A) (h2 : PtC A o2 k2 C) (h : o2 + k2 ≤ k1) : PtC V (o1 + o2) k2 C := ⟨fun cs w hv => by
  have := h2.out _ _ (h1.out cs w hv)
  rwa [ext_ext h] at this⟩
instance (N : Nat) (x y : Rat) : PtC (Vv N x y) 0 4 (Vq N x) := ⟨fun _ _ h => VP2_fst h⟩
instance (N : Nat) (x y : Rat) : PtC (Vv N x y) 4 4 (Vq N y) := ⟨fun _ _ h => VP2_snd h⟩
instance (N : Nat) (x y : Rat) : PtC (Vv N x y) 0 2 (Vz N x.num) := PtC.comp (o1 := 0) (k1 := 4) (A := Vq N x) inferInstance (o2 := 0) inferInstance (by omega)
instance (N : Nat) (x y : Rat) : PtC (Vv N x y) 2 2 (Vz N (qd x)) := PtC.comp (o1 := 0) (k1 := 4) (A := Vq N x) inferInstance (o2 := 2) inferInstance (by omega)
instance (N : Nat) (x y : Rat) : PtC (Vv N x y) 4 2 (Vz N y.num) := PtC.comp (o1 := 4) (k1 := 4) (A := Vq N y) inferInstance (o2 := 0) inferInstance (by omega)
instance (N : Nat) (x y : Rat) : PtC (Vv N x y) 6 2 (Vz N (qd y)) := PtC.comp (o1 := 4) (k1 := 4) (A := Vq N y) inferInstance (o2 := 2) inferInstance (by omega)
instance (N : Nat) (c s x y : Rat) : PtC (Vp N c s x y) 0 8 (Vv N c s) := ⟨fun _ _ h => VP2_fst h⟩
instance (N : Nat) (c s x y : Rat) : PtC (Vp N c s x y) 8 8 (Vv N x y) := ⟨fun _ _ h => VP2_snd h⟩
instance (N : Nat) (c s x y : Rat) : PtC (Vp N c s x y) 0 4 (Vq N c) := PtC.comp (o1 := 0) (k1 := 8) (A := Vv N c s) inferInstance (o2 := 0) inferInstance (by omega)
instance (N : Nat) (c s x y : Rat) : PtC (Vp N c s x y) 4 4 (Vq N s) := PtC.comp (o1 := 0) (k1 := 8) (A := Vv N c s) inferInstance (o2 := 4) inferInstance (by omega)
instance (N : Nat) (c s x y : Rat) : PtC (Vp N c s x y) 8 4 (Vq N x) := PtC.comp (o1 := 8) (k1 := 8) (A := Vv N x y) inferInstance (o2 := 0) inferInstance (by omega)
instance (N : Nat) (c s x y : Rat) : PtC (Vp N c s x y) 12 4 (Vq N y) := PtC.comp (o1 := 8) (k1 := 8) (A := Vv N x y) inferInstance (o2 := 4) inferInstance (by omega)
section
variable {ρ : Operand → Value} {o : Oper} {W : World} {x y : Operand} {va vb : Value} {A B : VP}
end
/-- what was so in a world -/
def VAt (w : World) (V : VP) : VP := fun v _ => V v w
theorem Stab_VAt (w : World) (V : VP) : Stab BT (VAt w V) := fun _ _ _ h _ => h
instance (w : World) (V : VP) : Sb BT (VAt w V) := ⟨Stab_VAt w V⟩
section
variable {ρ : Operand → Value} {o : Oper} {W w : World} {x y : Operand} {va vb : Value} {A : VP}
end
end Go.Proofs.YtmbkpcnpacncjaaDoor

namespace Go.Proofs.YtmbkpcnpacncjaaDoor
open Go Go.RowKit
/-- just this value -/
def VEq (x : Value) : VP := fun v _ => v = x
section
variable {md : Region.Mode} {ops : Array Oper} {Q : Exit → Act → World → Prop} {a0 : Act} {Vl : List VP} {n0 : Nat} {w0 : World} {B : List Bd} {SL : List (Nat × VP)} {BT BT2 : List (TypeId × Nat × Nat)} {r : Rw}
instance (x : Value) : Sb BT (VEq x) := ⟨fun _ _ _ h _ => h⟩
end
/-- the first so many are known -/
def VQr (N : Nat) (X : Nat → Rat) (j : Nat) : VP := fun v w => ∃ cs, v = .agg cs ∧ ∀ i, i < j → Vq N (X i) (.agg (cs.extract (4 * i) (4 * i + 4))) w
section
variable {ρ : Operand → Value} {o : Oper} {W w : World} {x y : Operand} {va vb : Value} {N : Nat} {X : Nat → Rat} {q : Rat} {BT : List (TypeId × Nat × Nat)}
instance (j : Nat) : Sb BT (VQr N X j) := ⟨fun _ _ _ ⟨cs, e1, e2⟩ hr => ⟨cs, e1, fun i hi => Stab_Vq _ _ _ _ _ (e2 i hi) hr⟩⟩
end
end Go.Proofs.YtmbkpcnpacncjaaDoor

namespace Go.Proofs.YtmbkpcnpacncjaaDoor
open Go
section
variable {P : Program} {md : Region.Mode} {ops : Array Oper} {Q : Exit → Act → World → Prop} {a0 : Act} {V : Array Bool → Nat → Value → World → Prop} {S : Array Bool → World → Prop}

/-- what is known while a region runs -/
structure FlowJ (ops : Array Oper) (a0 : Act) (V : Array Bool → Nat → Value → World → Prop) (S : Array Bool → World → Prop) (listed : Array Bool) (a : Act) (w : World) : Prop where
  s : S listed w
  len : listed.size = ops.size
  defers : a.defers = a0.defers
  size : a.tmps.size = a0.tmps.size
  other : ∀ t, (∀ (i : Nat) (o : Oper), ops[i]? = some o → o.dst ≠ some t) → a.tmps[t]? = a0.tmps[t]?
  own : ∀ (i : Nat) (o : Oper) (d : Tmp), ops[i]? = some o → listed.getD i false = true → o.dst = some d → ∃ v, a.tmps[d]? = some v ∧ V listed i v w

/-- what an operation leaves as it was -/
def Lasts (V : Array Bool → Nat → Value → World → Prop) (ops : Array Oper) (a : Act) (i : Nat) (listed : Array Bool) (w w' : World) : Prop := ∀ j o d u, ops[j]? = some o → o.dst = some d → a.tmps[d]? = some u → listed.getD j false = true → V listed j u w → V (listed.setIfInBounds i true) j u w'
/-- one operation -/
def FlowStepJ (P : Program) (md : Region.Mode) (ops : Array Oper) (Q : Exit → Act → World → Prop) (a0 : Act) (V : Array Bool → Nat → Value → World → Prop) (S : Array Bool → World → Prop) (i : Nat) (o : Oper) : Prop :=
  ∀ listed a w, FlowJ ops a0 V S listed a w → (∀ e ∈ o.after, Region.binds md e = true → listed.getD e.on false = true) → listed.getD i true = false →
    ∀ K : Act → World → Prop, (∀ v w', S (listed.setIfInBounds i true) w' → Lasts V ops a i listed w w' → V (listed.setIfInBounds i true) i v w' → K (a.put o.dst v) w') → (if Region.wanted o (yielded ops a.tmps) then o.wp P a w K Q else K (a.put o.dst undef) w)

theorem FlowJ.step {listed : Array Bool} {a : Act} {w w' : World} {i : Nat} {o : Oper} {v : Value} (hown : flowOwn ops = true) (hin : ∀ (i : Nat) (o : Oper) (d : Tmp), ops[i]? = some o → o.dst = some d → d < a0.tmps.size)
    (h : FlowJ ops a0 V S listed a w) (ho : ops[i]? = some o) (hS : S (listed.setIfInBounds i true) w') (hR : Lasts V ops a i listed w w') (hv : V (listed.setIfInBounds i true) i v w') : FlowJ ops a0 V S (listed.setIfInBounds i true) (a.put o.dst v) w' := by
  have hi : i < listed.size := by
    rw [h.len]
    rcases Nat.lt_or_ge i ops.size with h' | h'
    · exact h'
    · rw [Array.getElem?_eq_none h'] at ho; cases ho
  refine ⟨hS, by simpa using h.len, by rw [put_defers', h.defers], by rw [put_size, h.size], fun t ht => by rw [put_get_ne (ht i o ho), h.other t ht], fun j u d hu hl hd => ?_⟩
  by_cases hij : j = i
  · subst hij
    rw [ho] at hu
    cases hu
    rw [hd]
    exact ⟨v, put_get_self (by rw [h.size]; exact hin _ _ _ ho hd), hv⟩
  · rw [getD_set _ _ _ hi, if_neg (fun e => hij e.symm)] at hl
    obtain ⟨x, hx, hV⟩ := h.own j u d hu hl hd
    exact ⟨x, by rw [put_get_ne (flowOwn_ne hown hu ho hd (fun e => hij e.symm))]; exact hx, hR _ _ _ _ hu hd hx (by assumption) hV⟩

theorem all_true {l : Array Bool} {n : Nat} (hl : l.size = n) (h : ∀ i, i < n → l.getD i false = true) : l = Array.replicate n true := by
  apply Array.ext
  · simp [hl]
  · intro i h1 h2
    have := h i (by omega)
    simp [Array.getD, h1] at this
    simp [this]
theorem wpAny_flowJ (hfore : flowFore ops = true) (hown : flowOwn ops = true) (hin : ∀ (i : Nat) (o : Oper) (d : Tmp), ops[i]? = some o → o.dst = some d → d < a0.tmps.size) 
    (hstep : ∀ (i : Nat) (o : Oper), ops[i]? = some o → FlowStepJ P md ops Q a0 V S i o)
    (hdone : ∀ (listed : Array Bool) (a : Act) (w : World), (∀ i, i < ops.size → listed.getD i false = true) → FlowJ ops a0 V S listed a w → Q .normal a w) :
    ∀ (fuel : Nat) (listed : Array Bool) (a : Act) (w : World), FlowJ ops a0 V S listed a w → listed.toList.count false ≤ fuel → wpAny P md ops Q fuel listed a w := by
  intro fuel
  induction fuel with
  | zero =>
    intro listed a w h hc
    have hall : ∀ i, i < ops.size → listed.getD i false = true := fun i hi => count_zero listed (by omega) i (by rw [h.len]; exact hi)
    refine ⟨?_, hdone _ _ _ hall h⟩
    cases hr : Region.ready md ops listed with
    | nil => rfl
    | cons i l =>
      have hi : i ∈ Region.ready md ops listed := by rw [hr]; exact List.mem_cons_self
      obtain ⟨h1, o, ho, _⟩ := mem_ready.1 hi
      have hlt : i < ops.size := by
        rcases Nat.lt_or_ge i ops.size with h' | h'
        · exact h'
        · rw [Array.getElem?_eq_none h'] at ho; cases ho
      have h2 := hall i hlt
      have h3 : i < listed.size := by rw [h.len]; exact hlt
      simp [Array.getD, h3] at h1 h2
      rw [h2] at h1
      cases h1
  | succ fuel ih =>
    intro listed a w h hc
    refine ⟨fun hr => hdone _ _ _ (ready_none hfore h.len hr) h, fun i hi => ?_⟩
    obtain ⟨h1, o, ho, hdep⟩ := mem_ready.1 hi
    have h1' : listed.getD i true = false := h1
    have hlt : i < listed.size := by
      rw [h.len]
      rcases Nat.lt_or_ge i ops.size with h' | h'
      · exact h'
      · rw [Array.getElem?_eq_none h'] at ho; cases ho
    have hcnt := count_set listed i hlt h1
    have := hstep i o ho listed a w h hdep h1' (wpAny P md ops Q fuel (listed.setIfInBounds i true)) fun v w' hS hR hV => ih _ _ _ (h.step hown hin ho hS hR hV) (by omega)
    unfold wpOp
    rw [ho]
    by_cases hw : Region.wanted o (yielded ops a.tmps) = true
    · simp only [hw, if_true] at this ⊢; exact .inl this
    · simp only [hw] at this ⊢; exact this

theorem region_flowJ {id : Nat} {w : World} (hm : P.follows .mixedOrders = true) (hfore : flowFore ops = true) (hown : flowOwn ops = true) (hin : ∀ (i : Nat) (o : Oper) (d : Tmp), ops[i]? = some o → o.dst = some d → d < a0.tmps.size)
     (hS : S (Array.replicate ops.size false) { w with drawn := w.drawn + 1 })
    (hstep : ∀ (i : Nat) (o : Oper), ops[i]? = some o → FlowStepJ P .any ops Q a0 V S i o)
    (hdone : ∀ a w, FlowJ ops a0 V S (Array.replicate ops.size true) a w → Q .normal a w) : (Code.region id ops true).wp P Q a0 w := by
  refine wp_region_any hm (wpAny_flowJ hfore hown hin hstep (fun listed a w' hall h => hdone a w' ((all_true h.len hall) ▸ h)) _ _ _ _ ⟨hS, by simp, rfl, rfl, fun _ _ => rfl, fun i o d ho hl _ => ?_⟩ ?_)
  · exfalso
    simp only [Array.getD_eq_getD_getElem?, Array.getElem?_replicate] at hl
    split at hl <;> simp at hl
  · simp

theorem FlowJ.dep {listed : Array Bool} {a : Act} {w : World} {after : Array Edge} (h : FlowJ ops a0 V S listed a w) (hd : ∀ e ∈ after, Region.binds md e = true → listed.getD e.on false = true) (j d : Nat)
    (hj : after.any (fun e => e.on == j && Region.binds md e) = true) (hdst : (ops[j]?).bind (·.dst) = some d) : ∃ v, a.eval (.tmp d) = v ∧ yielded ops a.tmps j = (match v with | .bool b => some b | _ => none) ∧ V listed j v w := by
  obtain ⟨e, he, hb⟩ : ∃ e, e ∈ after ∧ (e.on == j && Region.binds md e) = true := by
    rw [Array.any_eq_true] at hj
    obtain ⟨i, hi, h1⟩ := hj
    exact ⟨after[i], Array.getElem_mem hi, h1⟩
  simp only [Bool.and_eq_true, beq_iff_eq] at hb
  obtain ⟨rfl, hb⟩ := hb
  have hl := hd e he hb
  cases ho : ops[e.on]? with
  | none => rw [ho] at hdst; cases hdst
  | some o =>
    rw [ho] at hdst
    have hdst' : o.dst = some d := hdst
    obtain ⟨v, hv, hV⟩ := h.own _ o d ho hl hdst'
    refine ⟨v, by simp [Act.eval, hv, Array.getD_eq_getD_getElem?], ?_, hV⟩
    unfold yielded
    rw [ho]
    simp only [Option.bind_some, hdst', hv]
    cases v <;> rfl
theorem FlowJ.out {listed : Array Bool} {a : Act} {w : World} (h : FlowJ ops a0 V S listed a w) (t : Nat) (ht : ops.all (fun o => o.dst != some t) = true) : a.eval (.tmp t) = a0.eval (.tmp t) := by
  have := h.other t fun i o ho => by
    rw [Array.all_eq_true'] at ht
    have := ht o (Array.mem_of_getElem? ho)
    simpa using this
  simp [Act.eval, Array.getD_eq_getD_getElem?, this]

/-- a call -/
theorem flow_callJ {i : Nat} {dst : Option Tmp} {f : FuncId} {xs : Array Operand} {ats : Array TypeId} {ty : TypeId} {pos : String} {after : Array Edge} {guard : Option (Nat × Bool)} (hcall : ∀ args w, (callFunc f args).run P w = .ok (.enter f args) w)
    (H : ∀ listed a w, FlowJ ops a0 V S listed a w → (∀ e ∈ after, Region.binds md e = true → listed.getD e.on false = true) → listed.getD i true = false →
      (match guard with | none => True | some (j, b) => yielded ops a.tmps j = some b) ∧ ∃ args, #[] ++ xs.map a.eval ++ #[] = args ∧ Calls P f args w fun e w' => ∃ v, e = .returned v ∧ S (listed.setIfInBounds i true) w' ∧ Lasts V ops a i listed w w' ∧ V (listed.setIfInBounds i true) i v w') :
    FlowStepJ P md ops Q a0 V S i { dst, op := .call { callee := .value (.func f), args := xs, argTypes := ats }, type := ty, pos, after, guard } := by
  intro listed a w h hd hl K hK
  obtain ⟨hg, args, hargs, hc⟩ := H listed a w h hd hl
  have hw : Region.wanted { dst, op := .call { callee := .value (.func f), args := xs, argTypes := ats }, type := ty, pos, after, guard } (yielded ops a.tmps) = true := by
    unfold Region.wanted
    cases guard with
    | none => rfl
    | some g => obtain ⟨j, b⟩ := g; simp only [] at hg ⊢; rw [hg]; simp
  rw [if_pos hw]
  unfold Oper.wp
  have he : execOp a.eval { dst, op := .call { callee := .value (.func f), args := xs, argTypes := ats }, type := ty, pos, after, guard } = callFunc f (#[] ++ xs.map a.eval ++ #[]) := rfl
  rw [he, hargs, hcall]
  refine Calls.mono hc fun e w' hp => ?_
  obtain ⟨v, rfl, h1, h2, h3⟩ := hp
  exact hK v w' h1 h2 h3
/-- an operation of the model's own -/
theorem flow_runJ {i : Nat} {o : Oper}
    (H : ∀ listed a w, FlowJ ops a0 V S listed a w → (∀ e ∈ o.after, Region.binds md e = true → listed.getD e.on false = true) → listed.getD i true = false →
      (match o.guard with | none => True | some (j, b) => yielded ops a.tmps j = some b) ∧ ∃ v w', (execOp a.eval o).run P w = .ok (.value v) w' ∧ S (listed.setIfInBounds i true) w' ∧ Lasts V ops a i listed w w' ∧ V (listed.setIfInBounds i true) i v w') :
    FlowStepJ P md ops Q a0 V S i o := by
  intro listed a w h hd hl K hK
  obtain ⟨hg, v, w', hr, h1, h2, h3⟩ := H listed a w h hd hl
  have hw : Region.wanted o (yielded ops a.tmps) = true := by
    unfold Region.wanted
    cases hgu : o.guard with
    | none => rfl
    | some g => obtain ⟨j, b⟩ := g; rw [hgu] at hg; simp only [] at hg ⊢; rw [hg]; simp
  rw [if_pos hw]
  unfold Oper.wp
  rw [hr]
  exact hK v w' h1 h2 h3
/-- an operation by any law of its own -/
theorem flow_wpJ {i : Nat} {o : Oper}
    (H : ∀ listed a w, FlowJ ops a0 V S listed a w → (∀ e ∈ o.after, Region.binds md e = true → listed.getD e.on false = true) → listed.getD i true = false →
      (match o.guard with | none => True | some (j, b) => yielded ops a.tmps j = some b) ∧ ∀ K : Act → World → Prop, (∀ v w', S (listed.setIfInBounds i true) w' → Lasts V ops a i listed w w' → V (listed.setIfInBounds i true) i v w' → K (a.put o.dst v) w') → o.wp P a w K Q) :
    FlowStepJ P md ops Q a0 V S i o := by
  intro listed a w h hd hl K hK
  obtain ⟨hg, hc⟩ := H listed a w h hd hl
  have hw : Region.wanted o (yielded ops a.tmps) = true := by
    unfold Region.wanted
    cases hgu : o.guard with
    | none => rfl
    | some g => obtain ⟨j, b⟩ := g; rw [hgu] at hg; simp only [] at hg ⊢; rw [hg]; simp
  rw [if_pos hw]
  exact hc K hK
/-- operation by operation -/
def AllFlowJ (P : Program) (md : Region.Mode) (ops : Array Oper) (Q : Exit → Act → World → Prop) (a0 : Act) (V : Array Bool → Nat → Value → World → Prop) (S : Array Bool → World → Prop) : Nat → List Oper → Prop
  | _, [] => True
  | i, o :: l => FlowStepJ P md ops Q a0 V S i o ∧ AllFlowJ P md ops Q a0 V S (i + 1) l
theorem AllFlowJ.get : ∀ (l : List Oper) (i : Nat), AllFlowJ P md ops Q a0 V S i l → ∀ (j : Nat) (o : Oper), l[j]? = some o → FlowStepJ P md ops Q a0 V S (i + j) o
  | [], _, _, j, o, ho => by simp at ho
  | x :: l, i, h, 0, o, ho => by
    have : x = o := by simpa using ho
    subst this; exact h.1
  | x :: l, i, h, j + 1, o, ho => by
    have := AllFlowJ.get l (i + 1) h.2 j o (by simpa using ho)
    rw [show i + (j + 1) = i + 1 + j by omega]; exact this
theorem FlowJ.whole {a : Act} {w : World} (h : FlowJ ops a0 V S (Array.replicate ops.size true) a w) (ds : List Nat) (hds : ops.toList.filterMap (·.dst) = ds) :
    ∃ f : Nat → Value, a = slots f ds a0 ∧ ∀ (i d : Nat), (ops[i]?).bind (·.dst) = some d → V (Array.replicate ops.size true) i (f d) w := by
  refine ⟨fun d => a.tmps.getD d undef, (slots_all a ds a0 h.size.symm h.defers.symm fun t ht => (h.other t fun i o ho hd => ht ?_).symm).symm, fun i d hd => ?_⟩
  · rw [← hds, List.mem_filterMap]
    exact ⟨o, Array.mem_def.1 (Array.mem_of_getElem? ho), hd⟩
  · cases ho : ops[i]? with
    | none => rw [ho] at hd; cases hd
    | some o =>
      rw [ho] at hd
      have hi : i < ops.size := by
        rcases Nat.lt_or_ge i ops.size with h' | h'
        · exact h'
        · rw [Array.getElem?_eq_none h'] at ho; cases ho
      obtain ⟨v, hv, hV⟩ := h.own i o d ho (by simp [Array.getD, hi]) hd
      have : a.tmps.getD d undef = v := by simp [Array.getD_eq_getD_getElem?, hv]
      simp only [this]
      exact hV
end
end Go.Proofs.YtmbkpcnpacncjaaDoor

namespace Go.Proofs.YtmbkpcnpacncjaaDoor
open Go.RowKit

theorem run_gti {ρ : Operand → Value} {o : Oper} {W : World} {x y : Operand} {a b : Int} (ho : o.op = .binOp .gtr 3 x y 3) (hx : ρ x = .int .i64 a) (hy : ρ y = .int .i64 b) : (execOp ρ o).run Tryd.prog W = .ok (.value (.bool (decide (b < a)))) W := by
  obtain ⟨d, op, ty, ps, af, gd⟩ := o
  subst ho
  go_simp
theorem run_lti {ρ : Operand → Value} {o : Oper} {W : World} {x y : Operand} {a b : Int} (ho : o.op = .binOp .lss 3 x y 3) (hx : ρ x = .int .i64 a) (hy : ρ y = .int .i64 b) : (execOp ρ o).run Tryd.prog W = .ok (.value (.bool (decide (a < b)))) W := by
  obtain ⟨d, op, ty, ps, af, gd⟩ := o
  subst ho
  go_simp
theorem val_drop_le {l : List Int} (h : Dg l) (k : Nat) (hk : k ≤ l.length) : 0 ≤ val (l.drop k) ∧ val (l.drop k) ≤ val l := by
  have h1 := val_split l k hk
  have h2 := (h.take k).lo
  have h3 := (h.drop k).lo
  have h4 := pw_pos k
  have h5 : 1 * val (l.drop k) ≤ pw k * val (l.drop k) := Int.mul_le_mul_of_nonneg_right (by omega) h3
  omega
theorem Bz_of_bx {w W : World} {nx : Bool} {px : Option Addr} {n c : Nat} {x : Int} (h : Bx w nx px n c W) (hx : IntAt w nx px n c x) : Bz n w.heap.size x W := ⟨nx, px, n, c, h.1, hx.later h.2, Nat.le_refl _⟩

set_option maxRecDepth 100000 in
set_option maxHeartbeats 1600000 in
theorem rSmall_gt (nx : Bool) (px : Option Addr) (n cx : Nat) (x : Int) (w : World) (hx0 : IntAt w nx px n cx x) (hlx : n ≤ 1000000) (hc : 9223372036854775807 < x) (hgt : decide (0 < cmpI x 9223372036854775807) = true) :
    Calls Tryd.prog 13 #[.agg #[.bool nx, .slice px n cx]] w (SmP w x) := by
  have hS0 := Lib.hid (@Bx.start nx px n cx w)
  have hx := Lib.hid hx0
  clear hx0
  go_enter Tryd.func13, Tryd.ntmps13
  go_upto_region 1 with fail
  generalize w.alloc (.cells #[.bool nx, .slice px n cx] 24) = W0 at hS0 ⊢
  have hB0 := Bz_of_bx hS0.out hx.out
  refine region_flows (V := fun i => ([Vz n (x), Vz 3 (9223372036854775807), Vi (cmpI (x) (9223372036854775807)), Vb true, Vb true, VT, VT, VT, VT, Vb true] : List VP).getD i VT) (S := fun W => Below W0.heap.size W0 W) (R := fun a b => Below a.heap.size a b) (by kernel_rfl) (by kernel_rfl) (by kernel_rfl) (by rfl) (mono_of ⟨Vz_mono _ _, Vz_mono _ _, Vi_mono _, Vb_mono _, Vb_mono _, VT_mono, VT_mono, VT_mono, VT_mono, Vb_mono _, trivial⟩) ((Below.refl _ _).drew) ⟨?s0, ?s1, ?s2, ?s3, ?s4, ?s5, ?s6, ?s7, ?s8, ?s9, trivial⟩ [6, 7, 8, 9, 10, 11, 12, 13, 14, 15] rfl ?hdone
  case s0 =>
    refine flow_wp fun listed a W h hd => ⟨trivial, fun K hK => ?_⟩
    exact wp_load_box rfl (h.out 1 (by kernel_rfl)) (hB0.later h.s) fun v hv => hK v W h.s (Below.refl _ _) hv
  case s1 =>
    refine flow_call (fun _ _ => rfl) fun listed a W h hd => ⟨trivial, ?_⟩
    refine ⟨#[.int .i64 (9223372036854775807)], by simp [Act.eval], (cROf (9223372036854775807) (by omega) (by omega)).mono fun e w' ⟨v, he, hV, hb⟩ => ⟨v, he, below_tr h.s hb, hb, hV⟩⟩
  case s2 =>
    refine flow_call (fun _ _ => rfl) fun listed a W h hd => ⟨trivial, ?_⟩
    obtain ⟨v0, hv0, -, hV0⟩ := h.dep hd 0 6 (by kernel_rfl) (by kernel_rfl)
    obtain ⟨v1, hv1, -, hV1⟩ := h.dep hd 1 7 (by kernel_rfl) (by kernel_rfl)
    refine ⟨#[v0, v1], by simp [hv0, hv1], (cRCompare (show Vz n (x) v0 W from hV0) (show Vz 3 (9223372036854775807) v1 W from hV1) (by omega) (by omega)).mono fun e w' ⟨v, he, hV, hb⟩ => ⟨v, he, below_tr h.s hb, hb, hV⟩⟩
  case s3 =>
    refine flow_run fun listed a W h hd => ⟨trivial, ?_⟩
    obtain ⟨v0, hv0, -, hV0⟩ := h.dep hd 2 8 (by kernel_rfl) (by kernel_rfl)
    have hV0' : v0 = .int .i64 (cmpI (x) (9223372036854775807)) := hV0
    exact ⟨_, _, run_gti rfl (hv0.trans hV0') rfl, h.s, Below.refl _ _, congrArg Value.bool hgt⟩
  case s4 =>
    refine flow_run fun listed a W h hd => ⟨trivial, ?_⟩
    obtain ⟨v0, hv0, -, hV0⟩ := h.dep hd 3 9 (by kernel_rfl) (by kernel_rfl)
    exact ⟨_, W, run_move rfl, h.s, Below.refl _ _, by rw [hv0]; exact hV0⟩
  case s5 =>
    refine flow_skip fun listed a W h hd => ⟨?_, Below.refl _ _, trivial⟩
    obtain ⟨u, hu, hy, hU⟩ := h.dep hd 4 10 (by kernel_rfl) (by kernel_rfl)
    obtain rfl : u = .bool true := hU
    exact ⟨4, false, true, rfl, hy, by decide⟩
  case s6 =>
    refine flow_skip fun listed a W h hd => ⟨?_, Below.refl _ _, trivial⟩
    obtain ⟨u, hu, hy, hU⟩ := h.dep hd 4 10 (by kernel_rfl) (by kernel_rfl)
    obtain rfl : u = .bool true := hU
    exact ⟨4, false, true, rfl, hy, by decide⟩
  case s7 =>
    refine flow_skip fun listed a W h hd => ⟨?_, Below.refl _ _, trivial⟩
    obtain ⟨u, hu, hy, hU⟩ := h.dep hd 4 10 (by kernel_rfl) (by kernel_rfl)
    obtain rfl : u = .bool true := hU
    exact ⟨4, false, true, rfl, hy, by decide⟩
  case s8 =>
    refine flow_skip fun listed a W h hd => ⟨?_, Below.refl _ _, trivial⟩
    obtain ⟨u, hu, hy, hU⟩ := h.dep hd 4 10 (by kernel_rfl) (by kernel_rfl)
    obtain rfl : u = .bool true := hU
    exact ⟨4, false, true, rfl, hy, by decide⟩
  case s9 =>
    refine flow_run fun listed a W h hd => ⟨trivial, ?_⟩
    obtain ⟨v0, hv0, -, hV0⟩ := h.dep hd 4 10 (by kernel_rfl) (by kernel_rfl)
    exact ⟨_, W, run_pick_t rfl (hv0.trans hV0), h.s, Below.refl _ _, rfl⟩
  case hdone =>
    intro f W hS hf
    have hlast : f 15 = _ := hf 9 15 (by kernel_rfl)
    simp only [slots, Act.put, List.setIfInBounds_toArray, List.set_cons_zero, List.set_cons_succ]
    rw [hlast]
    have hfin : Hid (SmP w x (.returned (.tuple #[.int .i64 0, .bool false])) W) := Lib.hid (smP_no (by omega) (below_tr hS0.out.2 hS))
    clear hf hS
    go_wp2_with fail
    go_ret2
    exact hfin.out

set_option maxRecDepth 100000 in
set_option maxHeartbeats 1600000 in
theorem rSmall_lt (nx : Bool) (px : Option Addr) (n cx : Nat) (x : Int) (w : World) (hx0 : IntAt w nx px n cx x) (hlx : n ≤ 1000000) (hc : x < -9223372036854775808) (hgt : decide (0 < cmpI x 9223372036854775807) = false) (hlt : decide (cmpI x (-9223372036854775808) < 0) = true) :
    Calls Tryd.prog 13 #[.agg #[.bool nx, .slice px n cx]] w (SmP w x) := by
  have hS0 := Lib.hid (@Bx.start nx px n cx w)
  have hx := Lib.hid hx0
  clear hx0
  go_enter Tryd.func13, Tryd.ntmps13
  go_upto_region 1 with fail
  generalize w.alloc (.cells #[.bool nx, .slice px n cx] 24) = W0 at hS0 ⊢
  have hB0 := Bz_of_bx hS0.out hx.out
  refine region_flows (V := fun i => ([Vz n (x), Vz 3 (9223372036854775807), Vi (cmpI (x) (9223372036854775807)), Vb false, Vb false, Vz n (x), Vz 3 (-9223372036854775808), Vi (cmpI (x) (-9223372036854775808)), Vb true, Vb true] : List VP).getD i VT) (S := fun W => Below W0.heap.size W0 W) (R := fun a b => Below a.heap.size a b) (by kernel_rfl) (by kernel_rfl) (by kernel_rfl) (by rfl) (mono_of ⟨Vz_mono _ _, Vz_mono _ _, Vi_mono _, Vb_mono _, Vb_mono _, Vz_mono _ _, Vz_mono _ _, Vi_mono _, Vb_mono _, Vb_mono _, trivial⟩) ((Below.refl _ _).drew) ⟨?s0, ?s1, ?s2, ?s3, ?s4, ?s5, ?s6, ?s7, ?s8, ?s9, trivial⟩ [6, 7, 8, 9, 10, 11, 12, 13, 14, 15] rfl ?hdone
  case s0 =>
    refine flow_wp fun listed a W h hd => ⟨trivial, fun K hK => ?_⟩
    exact wp_load_box rfl (h.out 1 (by kernel_rfl)) (hB0.later h.s) fun v hv => hK v W h.s (Below.refl _ _) hv
  case s1 =>
    refine flow_call (fun _ _ => rfl) fun listed a W h hd => ⟨trivial, ?_⟩
    refine ⟨#[.int .i64 (9223372036854775807)], by simp [Act.eval], (cROf (9223372036854775807) (by omega) (by omega)).mono fun e w' ⟨v, he, hV, hb⟩ => ⟨v, he, below_tr h.s hb, hb, hV⟩⟩
  case s2 =>
    refine flow_call (fun _ _ => rfl) fun listed a W h hd => ⟨trivial, ?_⟩
    obtain ⟨v0, hv0, -, hV0⟩ := h.dep hd 0 6 (by kernel_rfl) (by kernel_rfl)
    obtain ⟨v1, hv1, -, hV1⟩ := h.dep hd 1 7 (by kernel_rfl) (by kernel_rfl)
    refine ⟨#[v0, v1], by simp [hv0, hv1], (cRCompare (show Vz n (x) v0 W from hV0) (show Vz 3 (9223372036854775807) v1 W from hV1) (by omega) (by omega)).mono fun e w' ⟨v, he, hV, hb⟩ => ⟨v, he, below_tr h.s hb, hb, hV⟩⟩
  case s3 =>
    refine flow_run fun listed a W h hd => ⟨trivial, ?_⟩
    obtain ⟨v0, hv0, -, hV0⟩ := h.dep hd 2 8 (by kernel_rfl) (by kernel_rfl)
    have hV0' : v0 = .int .i64 (cmpI (x) (9223372036854775807)) := hV0
    exact ⟨_, _, run_gti rfl (hv0.trans hV0') rfl, h.s, Below.refl _ _, congrArg Value.bool hgt⟩
  case s4 =>
    refine flow_run fun listed a W h hd => ⟨trivial, ?_⟩
    obtain ⟨v0, hv0, -, hV0⟩ := h.dep hd 3 9 (by kernel_rfl) (by kernel_rfl)
    exact ⟨_, W, run_move rfl, h.s, Below.refl _ _, by rw [hv0]; exact hV0⟩
  case s5 =>
    refine flow_wp fun listed a W h hd => ⟨(by obtain ⟨u, hu, hy, hU⟩ := h.dep hd 4 10 (by kernel_rfl) (by kernel_rfl); obtain rfl : u = .bool false := hU; exact hy), fun K hK => ?_⟩
    exact wp_load_box rfl (h.out 1 (by kernel_rfl)) (hB0.later h.s) fun v hv => hK v W h.s (Below.refl _ _) hv
  case s6 =>
    refine flow_call (fun _ _ => rfl) fun listed a W h hd => ⟨(by obtain ⟨u, hu, hy, hU⟩ := h.dep hd 4 10 (by kernel_rfl) (by kernel_rfl); obtain rfl : u = .bool false := hU; exact hy), ?_⟩
    refine ⟨#[.int .i64 (-9223372036854775808)], by simp [Act.eval], (cROf (-9223372036854775808) (by omega) (by omega)).mono fun e w' ⟨v, he, hV, hb⟩ => ⟨v, he, below_tr h.s hb, hb, hV⟩⟩
  case s7 =>
    refine flow_call (fun _ _ => rfl) fun listed a W h hd => ⟨(by obtain ⟨u, hu, hy, hU⟩ := h.dep hd 4 10 (by kernel_rfl) (by kernel_rfl); obtain rfl : u = .bool false := hU; exact hy), ?_⟩
    obtain ⟨v0, hv0, -, hV0⟩ := h.dep hd 5 11 (by kernel_rfl) (by kernel_rfl)
    obtain ⟨v1, hv1, -, hV1⟩ := h.dep hd 6 12 (by kernel_rfl) (by kernel_rfl)
    refine ⟨#[v0, v1], by simp [hv0, hv1], (cRCompare (show Vz n (x) v0 W from hV0) (show Vz 3 (-9223372036854775808) v1 W from hV1) (by omega) (by omega)).mono fun e w' ⟨v, he, hV, hb⟩ => ⟨v, he, below_tr h.s hb, hb, hV⟩⟩
  case s8 =>
    refine flow_run fun listed a W h hd => ⟨(by obtain ⟨u, hu, hy, hU⟩ := h.dep hd 4 10 (by kernel_rfl) (by kernel_rfl); obtain rfl : u = .bool false := hU; exact hy), ?_⟩
    obtain ⟨v0, hv0, -, hV0⟩ := h.dep hd 7 13 (by kernel_rfl) (by kernel_rfl)
    have hV0' : v0 = .int .i64 (cmpI (x) (-9223372036854775808)) := hV0
    exact ⟨_, _, run_lti rfl (hv0.trans hV0') rfl, h.s, Below.refl _ _, congrArg Value.bool hlt⟩
  case s9 =>
    refine flow_run fun listed a W h hd => ⟨trivial, ?_⟩
    obtain ⟨v0, hv0, -, hV0⟩ := h.dep hd 4 10 (by kernel_rfl) (by kernel_rfl)
    obtain ⟨v1, hv1, -, hV1⟩ := h.dep hd 8 14 (by kernel_rfl) (by kernel_rfl)
    exact ⟨_, W, run_pick_f rfl (hv0.trans hV0), h.s, Below.refl _ _, by rw [hv1]; exact hV1⟩
  case hdone =>
    intro f W hS hf
    have hlast : f 15 = _ := hf 9 15 (by kernel_rfl)
    simp only [slots, Act.put, List.setIfInBounds_toArray, List.set_cons_zero, List.set_cons_succ]
    rw [hlast]
    have hfin : Hid (SmP w x (.returned (.tuple #[.int .i64 0, .bool false])) W) := Lib.hid (smP_no (by omega) (below_tr hS0.out.2 hS))
    clear hf hS
    go_wp2_with fail
    go_ret2
    exact hfin.out

set_option maxRecDepth 100000 in
set_option maxHeartbeats 1600000 in
theorem rSmall_in (nx : Bool) (px : Option Addr) (n cx : Nat) (x : Int) (w : World) (hx0 : IntAt w nx px n cx x) (hlx : n ≤ 1000000) (hlo : -9223372036854775808 ≤ x) (hhi : x ≤ 9223372036854775807) (hgt : decide (0 < cmpI x 9223372036854775807) = false) (hlt : decide (cmpI x (-9223372036854775808) < 0) = false) :
    Calls Tryd.prog 13 #[.agg #[.bool nx, .slice px n cx]] w (SmP w x) := by
  have hS0 := Lib.hid (@Bx.start nx px n cx w)
  have hx := Lib.hid hx0
  clear hx0
  go_enter Tryd.func13, Tryd.ntmps13
  go_upto_region 1 with fail
  generalize w.alloc (.cells #[.bool nx, .slice px n cx] 24) = W0 at hS0 ⊢
  have hB0 := Bz_of_bx hS0.out hx.out
  refine region_flows (V := fun i => ([Vz n (x), Vz 3 (9223372036854775807), Vi (cmpI (x) (9223372036854775807)), Vb false, Vb false, Vz n (x), Vz 3 (-9223372036854775808), Vi (cmpI (x) (-9223372036854775808)), Vb false, Vb false] : List VP).getD i VT) (S := fun W => Below W0.heap.size W0 W) (R := fun a b => Below a.heap.size a b) (by kernel_rfl) (by kernel_rfl) (by kernel_rfl) (by rfl) (mono_of ⟨Vz_mono _ _, Vz_mono _ _, Vi_mono _, Vb_mono _, Vb_mono _, Vz_mono _ _, Vz_mono _ _, Vi_mono _, Vb_mono _, Vb_mono _, trivial⟩) ((Below.refl _ _).drew) ⟨?s0, ?s1, ?s2, ?s3, ?s4, ?s5, ?s6, ?s7, ?s8, ?s9, trivial⟩ [6, 7, 8, 9, 10, 11, 12, 13, 14, 15] rfl ?hdone
  case s0 =>
    refine flow_wp fun listed a W h hd => ⟨trivial, fun K hK => ?_⟩
    exact wp_load_box rfl (h.out 1 (by kernel_rfl)) (hB0.later h.s) fun v hv => hK v W h.s (Below.refl _ _) hv
  case s1 =>
    refine flow_call (fun _ _ => rfl) fun listed a W h hd => ⟨trivial, ?_⟩
    refine ⟨#[.int .i64 (9223372036854775807)], by simp [Act.eval], (cROf (9223372036854775807) (by omega) (by omega)).mono fun e w' ⟨v, he, hV, hb⟩ => ⟨v, he, below_tr h.s hb, hb, hV⟩⟩
  case s2 =>
    refine flow_call (fun _ _ => rfl) fun listed a W h hd => ⟨trivial, ?_⟩
    obtain ⟨v0, hv0, -, hV0⟩ := h.dep hd 0 6 (by kernel_rfl) (by kernel_rfl)
    obtain ⟨v1, hv1, -, hV1⟩ := h.dep hd 1 7 (by kernel_rfl) (by kernel_rfl)
    refine ⟨#[v0, v1], by simp [hv0, hv1], (cRCompare (show Vz n (x) v0 W from hV0) (show Vz 3 (9223372036854775807) v1 W from hV1) (by omega) (by omega)).mono fun e w' ⟨v, he, hV, hb⟩ => ⟨v, he, below_tr h.s hb, hb, hV⟩⟩
  case s3 =>
    refine flow_run fun listed a W h hd => ⟨trivial, ?_⟩
    obtain ⟨v0, hv0, -, hV0⟩ := h.dep hd 2 8 (by kernel_rfl) (by kernel_rfl)
    have hV0' : v0 = .int .i64 (cmpI (x) (9223372036854775807)) := hV0
    exact ⟨_, _, run_gti rfl (hv0.trans hV0') rfl, h.s, Below.refl _ _, congrArg Value.bool hgt⟩
  case s4 =>
    refine flow_run fun listed a W h hd => ⟨trivial, ?_⟩
    obtain ⟨v0, hv0, -, hV0⟩ := h.dep hd 3 9 (by kernel_rfl) (by kernel_rfl)
    exact ⟨_, W, run_move rfl, h.s, Below.refl _ _, by rw [hv0]; exact hV0⟩
  case s5 =>
    refine flow_wp fun listed a W h hd => ⟨(by obtain ⟨u, hu, hy, hU⟩ := h.dep hd 4 10 (by kernel_rfl) (by kernel_rfl); obtain rfl : u = .bool false := hU; exact hy), fun K hK => ?_⟩
    exact wp_load_box rfl (h.out 1 (by kernel_rfl)) (hB0.later h.s) fun v hv => hK v W h.s (Below.refl _ _) hv
  case s6 =>
    refine flow_call (fun _ _ => rfl) fun listed a W h hd => ⟨(by obtain ⟨u, hu, hy, hU⟩ := h.dep hd 4 10 (by kernel_rfl) (by kernel_rfl); obtain rfl : u = .bool false := hU; exact hy), ?_⟩
    refine ⟨#[.int .i64 (-9223372036854775808)], by simp [Act.eval], (cROf (-9223372036854775808) (by omega) (by omega)).mono fun e w' ⟨v, he, hV, hb⟩ => ⟨v, he, below_tr h.s hb, hb, hV⟩⟩
  case s7 =>
    refine flow_call (fun _ _ => rfl) fun listed a W h hd => ⟨(by obtain ⟨u, hu, hy, hU⟩ := h.dep hd 4 10 (by kernel_rfl) (by kernel_rfl); obtain rfl : u = .bool false := hU; exact hy), ?_⟩
    obtain ⟨v0, hv0, -, hV0⟩ := h.dep hd 5 11 (by kernel_rfl) (by kernel_rfl)
    obtain ⟨v1, hv1, -, hV1⟩ := h.dep hd 6 12 (by kernel_rfl) (by kernel_rfl)
    refine ⟨#[v0, v1], by simp [hv0, hv1], (cRCompare (show Vz n (x) v0 W from hV0) (show Vz 3 (-9223372036854775808) v1 W from hV1) (by omega) (by omega)).mono fun e w' ⟨v, he, hV, hb⟩ => ⟨v, he, below_tr h.s hb, hb, hV⟩⟩
  case s8 =>
    refine flow_run fun listed a W h hd => ⟨(by obtain ⟨u, hu, hy, hU⟩ := h.dep hd 4 10 (by kernel_rfl) (by kernel_rfl); obtain rfl : u = .bool false := hU; exact hy), ?_⟩
    obtain ⟨v0, hv0, -, hV0⟩ := h.dep hd 7 13 (by kernel_rfl) (by kernel_rfl)
    have hV0' : v0 = .int .i64 (cmpI (x) (-9223372036854775808)) := hV0
    exact ⟨_, _, run_lti rfl (hv0.trans hV0') rfl, h.s, Below.refl _ _, congrArg Value.bool hlt⟩
  case s9 =>
    refine flow_run fun listed a W h hd => ⟨trivial, ?_⟩
    obtain ⟨v0, hv0, -, hV0⟩ := h.dep hd 4 10 (by kernel_rfl) (by kernel_rfl)
    obtain ⟨v1, hv1, -, hV1⟩ := h.dep hd 8 14 (by kernel_rfl) (by kernel_rfl)
    exact ⟨_, W, run_pick_f rfl (hv0.trans hV0), h.s, Below.refl _ _, by rw [hv1]; exact hV1⟩
  case hdone =>
    intro f W hS hf
    have hlast : f 15 = _ := hf 9 15 (by kernel_rfl)
    simp only [slots, Act.put, List.setIfInBounds_toArray, List.set_cons_zero, List.set_cons_succ]
    rw [hlast]
    have hBx := Lib.hid (hS0.out.later hS)
    have hf' := hBx.out.facts
    have hf1 := hf'.1
    have hf2 := hf'.2
    clear hf hS hB0
    obtain ⟨l, hl⟩ : ∃ l, digs x.natAbs = l := ⟨_, rfl⟩
    have hR : Hid (Rdi W px l) := Lib.hid (by rw [← hl]; exact Rdi_below hBx.out.2 hx.out.2.2.1)
    have hn : Hid (n = l.length) := Lib.hid (by rw [← hl]; exact hx.out.2.1)
    have hD : Hid (Dg l) := Lib.hid (by rw [← hl]; exact Dg_digs _)
    have hv : Hid (val l = (x.natAbs : Int)) := Lib.hid (by rw [← hl]; exact val_digs _)
    have hs : Hid (sg nx (val l) = x) := Lib.hid (by rw [hv.out]; have := hx.out.1; unfold sg; cases nx <;> simp at this ⊢ <;> omega)
    have hm : Hid (nx = false → val l ≤ 9223372036854775807) := Lib.hid (fun h => by rw [hv.out]; have := hx.out.1; rw [h] at this; simp at this; omega)
    have hm2 : Hid (val l ≤ 9223372036854775808) := Lib.hid (by rw [hv.out]; omega)
    clear hl
    go_wp2_with fail
    go_loop [4, 5] (fun s i => ∃ k : Nat, k ≤ n ∧ s = .int .i64 (sg nx (val (l.drop k))) ∧ i = .int .i64 ((k : Int) - 1)) (fun _ i => (intOf i + 1).toNat)
    case atStart => exact ⟨n, Nat.le_refl _, by rw [hn.out, List.drop_length]; cases nx <;> rfl, rfl⟩
    case round =>
      obtain ⟨k, hk, rfl, rfl⟩ := hrel
      cases k with
      | zero =>
        have e1 : Hid (sg nx (val (l.drop 0)) = x) := Lib.hid (by rw [List.drop_zero]; exact hs.out)
        rw [e1.out]
        have hfin : Hid (SmP w x (.returned (.tuple #[.int .i64 x, .bool true])) W) := Lib.hid (smP_yes ⟨hlo, hhi⟩ rfl hBx.out.2)
        go_wp2_with fail
        go_ret2
        exact hfin.out
      | succ j =>
        have hjl : j < l.length := by rw [← hn.out]; exact hk
        obtain ⟨b, o, rfl, hc0⟩ := Rdi_at hR.out j hjl
        have h1 := val_drop l j hjl
        have h2 := val_drop_le hD.out j (by omega)
        have h3 := val_drop_le hD.out (j + 1) (by omega)
        have h4 := hD.out.all j
        have hm' := hm.out
        have hm2' := hm2.out
        have hnew : Hid (sg nx (val (l.drop j)) = if nx then sg nx (val (l.drop (j + 1))) * 1000000000 - iat l j else sg nx (val (l.drop (j + 1))) * 1000000000 + iat l j) := Lib.hid (by unfold sg; cases nx <;> simp <;> omega)
        have hb1 : -9223372036854775808 ≤ sg nx (val (l.drop (j + 1))) * 1000000000 ∧ sg nx (val (l.drop (j + 1))) * 1000000000 ≤ 9223372036854775807 := by unfold sg; cases nx <;> simp at hm' ⊢ <;> omega
        have hb2 : -9223372036854775808 ≤ sg nx (val (l.drop j)) ∧ sg nx (val (l.drop j)) ≤ 9223372036854775807 := by unfold sg; cases nx <;> simp at hm' ⊢ <;> omega
        rw [hnew.out] at hb2
        obtain ⟨A, hA⟩ : ∃ A, sg nx (val (l.drop (j + 1))) = A := ⟨_, rfl⟩
        obtain ⟨d, hd⟩ : ∃ d, iat l j = d := ⟨_, rfl⟩
        rw [hA] at hb1 hb2 hnew ⊢
        rw [hd] at hc0 hb2 hnew
        have e0 : ((j + 1 : Nat) : Int) - 1 = (j : Int) := by omega
        rw [e0]
        have hb3 := hb1.1
        have hb4 := hb1.2
        clear h1 h2 h3 h4 hm' hm2' hA hd hb1 hjl
        cases nx
        · simp only [Bool.false_eq_true, if_false] at hb2 hnew
          have hb5 := hb2.1
          have hb6 := hb2.2
          go_wp2_with fail
          exact ⟨⟨j, by omega, by rw [hnew.out], rfl⟩, by simp [intOf]⟩
        · simp only [if_true] at hb2 hnew
          have hb5 := hb2.1
          have hb6 := hb2.2
          go_wp2_with fail
          exact ⟨⟨j, by omega, by rw [hnew.out], rfl⟩, by simp [intOf]⟩

theorem rSmall_any (nx : Bool) (px : Option Addr) (n cx : Nat) (x : Int) (w : World) (hx0 : IntAt w nx px n cx x) (hlx : n ≤ 1000000) :
    Calls Tryd.prog 13 #[.agg #[.bool nx, .slice px n cx]] w (SmP w x) := by
  by_cases h1 : 9223372036854775807 < x
  · exact rSmall_gt nx px n cx x w hx0 hlx h1 (by rw [cmp_gt h1]; rfl)
  · have g1 : decide (0 < cmpI x 9223372036854775807) = false := by
      rcases Int.lt_or_le x 9223372036854775807 with h | h
      · rw [cmp_lt h]; rfl
      · rw [show x = 9223372036854775807 by omega, cmp_eq]; rfl
    by_cases h2 : x < -9223372036854775808
    · exact rSmall_lt nx px n cx x w hx0 hlx h2 g1 (by rw [cmp_lt h2]; rfl)
    · have g2 : decide (cmpI x (-9223372036854775808) < 0) = false := by
        rcases Int.lt_or_le (-9223372036854775808) x with h | h
        · rw [cmp_gt h]; rfl
        · rw [show x = -9223372036854775808 by omega, cmp_eq]; rfl
      exact rSmall_in nx px n cx x w hx0 hlx (by omega) (by omega) g1 g2
end Go.Proofs.YtmbkpcnpacncjaaDoor
