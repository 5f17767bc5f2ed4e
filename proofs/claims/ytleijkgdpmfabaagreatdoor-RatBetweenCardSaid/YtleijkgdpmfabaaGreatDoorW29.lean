/- Contracts of the package integer and its reference: A region that fills a part of a row that the function made. Between regions: less is known of boxes. Stores into rows; rows of rational numbers. strings.Cut at a separator of one byte that is there. integer.Parse, of a text of at most nine digits. -/
import Derived.Deep.MidRow
import Derived.Test.YtleijkgdpmfabaaGreatDoorW18
import Derived.Test.YtleijkgdpmfabaaGreatDoorW28
import Derived.Test.YtleijkgdpmfabaaGreatDoorW8
import Derived.Test.YtleijkgdpmfabaaGreatDoorW14
import Derived.Lib.AtoiErrMem
set_option linter.unusedVariables false
namespace Go.Proofs.YtleijkgdpmfabaaGreatDoor
open Go Go.RowKit
theorem World_heap_eq {w : World} {h : Array Obj} (e : h = w.heap) : { w with heap := h } = w := by subst e; rfl
theorem setRow_same {w : World} {g : Nat} {cs : Array Value} {T : TypeId} {fr : Nat × Nat} (hg : w.heap[g]? = some (.cells cs T fr)) : w.setRow g cs = w := by
  unfold World.setRow
  refine World_heap_eq (Array.ext_getElem? fun j => ?_)
  rw [Array.getElem?_modify]
  by_cases e : g = j
  · subst e
    rw [if_pos rfl, hg]; rfl
  · rw [if_neg e]
theorem setRow_two (w : World) (g : Nat) (x y : Array Value) : (w.setRow g x).setRow g y = w.setRow g y := by
  unfold World.setRow
  congr 1
  apply Array.ext_getElem?
  intro j
  simp only [Array.getElem?_modify]
  by_cases e : g = j
  · subst e
    simp only [if_true]
    cases w.heap[g]? with
    | none => rfl
    | some o => cases o <;> rfl
  · simp [e]
def updR (cs : Array Value) : Nat → List Value → Array Value
  | _, [] => cs
  | o, v :: r => updR (cs.setIfInBounds o v) (o + 1) r
theorem updR_size : ∀ (l : List Value) (o : Nat) (cs : Array Value), (updR cs o l).size = cs.size
  | [], _, _ => rfl
  | _ :: r, o, cs => by unfold updR; rw [updR_size r]; simp
theorem updR_get : ∀ (l : List Value) (o : Nat) (cs : Array Value) (j : Nat), o + l.length ≤ cs.size → (updR cs o l)[j]? = if o ≤ j ∧ j < o + l.length then l[j - o]? else cs[j]?
  | [], o, cs, j, _ => by
    unfold updR
    rw [if_neg (by simp)]
  | v :: r, o, cs, j, h => by
    unfold updR
    have h' : o + 1 + r.length ≤ cs.size := by simp at h; omega
    rw [updR_get r (o + 1) _ j (by simpa using h')]
    by_cases h1 : o + 1 ≤ j ∧ j < o + 1 + r.length
    · rw [if_pos h1, if_pos (by simp; omega), show j - o = j - (o + 1) + 1 by omega, List.getElem?_cons_succ]
    · rw [if_neg h1]
      by_cases h2 : j = o
      · subst h2
        rw [if_pos (by simp), Nat.sub_self, List.getElem?_cons_zero, Array.getElem?_setIfInBounds_self_of_lt (by omega)]
      · rw [if_neg (by simp; omega), Array.getElem?_setIfInBounds_ne (fun e => h2 e.symm)]
theorem setCells_upd {g : Nat} {T : TypeId} {fr : Nat × Nat} : ∀ (l : List Value) (o : Nat) (w : World) (cs : Array Value), w.heap[g]? = some (.cells cs T fr) → w.setCells g o l = w.setRow g (updR cs o l)
  | [], _, w, cs, hg => (setRow_same hg).symm
  | v :: r, o, w, cs, hg => by
    have e1 : w.setCell ⟨g, o, none⟩ v = w.setRow g (cs.setIfInBounds o v) := by
      unfold World.setCell World.setRow
      congr 1
      apply Array.ext_getElem?
      intro j
      simp only [Array.getElem?_modify]
      by_cases e : g = j
      · subst e
        simp [hg]
      · simp [e]
    unfold World.setCells updR
    rw [e1, setCells_upd r (o + 1) _ _ (setRow_heap w g cs _ T fr hg), setRow_two]
structure Rw where
  g : Nat
  k : Nat
  T : TypeId
  m : Nat
  P : VP
  P0 : VP
def RowI (r : Rw) (listed : Array Bool) (w : World) : Prop := ∃ cs, w.heap[r.g]? = some (.cells cs r.T (0, 0)) ∧ cs.size = r.m ∧ NoInt cs ∧ (listed.getD r.k false = true → r.P (.agg cs) w) ∧ (listed.getD r.k false = false → r.P0 (.agg cs) w)
section
variable {P : Program} {md : Region.Mode} {ops : Array Oper} {Q : Exit → Act → World → Prop} {a0 : Act} {V : Nat → VP} {n0 : Nat} {w0 : World} {B : List Bd} {SL : List (Nat × VP)} {BT BT2 : List (TypeId × Nat × Nat)} {r : Rw}
theorem RI.mono {w w' : World} (h : RI BT w w') (hs : ∀ e ∈ BT, e ∈ BT2) (hs2 : ∀ e ∈ BT2, e.2.1 = 0 → e ∈ BT) : RI BT2 w w' := ⟨h.size, h.int, fun k cs T hk hn => h.row k cs T hk (hn.imp (fun hn e he => hn e (hs e he)) fun ⟨h0, e, he, e1, e2, e3⟩ => ⟨h0, e, hs2 e he e2, e1, e2, e3⟩)⟩
theorem RowI.keep {listed : Array Bool} {w w' : World} {i : Nat} (h : RowI r listed w) (hr : RI BT w w') (hn : BT.any (fun e => e.1 == r.T && e.2.1 == r.m) = false) (hP : Stab BT r.P) (hP0 : Stab BT r.P0) (hi : i ≠ r.k) : RowI r (listed.setIfInBounds i true) w' := by
  obtain ⟨cs, h1, h2, h3, h4, h5⟩ := h
  have e : (listed.setIfInBounds i true).getD r.k false = listed.getD r.k false := by
    simp only [Array.getD_eq_getD_getElem?, Array.getElem?_setIfInBounds_ne hi]
  exact ⟨cs, (hr.row _ _ _ h1 (BT_not hn h2)).trans h1, h2, h3, fun hl => hP _ _ _ (h4 (by rw [← e]; exact hl)) hr, fun hl => hP0 _ _ _ (h5 (by rw [← e]; exact hl)) hr⟩
def KStepR (BT2 : List (TypeId × Nat × Nat)) (P : Program) (md : Region.Mode) (ops : Array Oper) (Q : Exit → Act → World → Prop) (a0 : Act) (V : Nat → VP) (n0 : Nat) (w0 : World) (B : List Bd) (SL : List (Nat × VP)) (r : Rw) (o : Oper) : Prop :=
  ∀ listed a w, KI md ops a0 V n0 w0 B SL listed a w → RowI r listed w → (∀ e ∈ o.after, Region.binds md e = true → listed.getD e.on false = true) → o.dst.all (fun d => decide (d < a0.tmps.size)) = true → r.k < listed.size → listed.getD r.k false = false →
    ∀ K : Act → World → Prop, (∀ v w', KS n0 w0 B (listed.setIfInBounds r.k true) (a.put o.dst v) w' → RI BT2 w w' → RowI r (listed.setIfInBounds r.k true) w' → V r.k v w' → K (a.put o.dst v) w') → (if Region.wanted o (yielded ops a.tmps) then o.wp P a w K Q else K (a.put o.dst undef) w)
theorem wpAny_r (hfore : kFore md ops = true) (hown : flowOwn ops = true) (hin : ∀ (i : Nat) (o : Oper) (d : Tmp), ops[i]? = some o → o.dst = some d → d < a0.tmps.size) (hV : ∀ i, Stab BT2 (V i)) (hSL : ∀ p ∈ SL, Stab BT2 p.2) (hsub : ∀ e ∈ BT, e ∈ BT2) (hsub2 : ∀ e ∈ BT2, e.2.1 = 0 → e ∈ BT)
    (hn : BT.any (fun e => e.1 == r.T && e.2.1 == r.m) = false) (hP : Stab BT r.P) (hP0 : Stab BT r.P0)
    (hstep : ∀ (i : Nat) (o : Oper), ops[i]? = some o → i ≠ r.k → KStep BT P md ops Q a0 V n0 w0 B SL i o) (hstepR : ∀ o, ops[r.k]? = some o → KStepR BT2 P md ops Q a0 V n0 w0 B SL r o)
    (hdone : ∀ (listed : Array Bool) (a : Act) (w : World), (∀ i, i < ops.size → listed.getD i false = true) → KI md ops a0 V n0 w0 B SL listed a w → RowI r listed w → Q .normal a w) :
    ∀ (fuel : Nat) (listed : Array Bool) (a : Act) (w : World), KI md ops a0 V n0 w0 B SL listed a w → RowI r listed w → listed.toList.count false ≤ fuel → wpAny P md ops Q fuel listed a w := by
  intro fuel
  induction fuel with
  | zero =>
    intro listed a w h hr hc
    have hall : ∀ i, i < ops.size → listed.getD i false = true := fun i hi => count_zero listed (by omega) i (by rw [h.len]; exact hi)
    refine ⟨?_, hdone _ _ _ hall h hr⟩
    cases hr' : Region.ready md ops listed with
    | nil => rfl
    | cons i l =>
      have hi : i ∈ Region.ready md ops listed := by rw [hr']; exact List.mem_cons_self
      obtain ⟨h1, o, ho, _⟩ := mem_ready.1 hi
      have hlt : i < ops.size := by
        rcases Nat.lt_or_ge i ops.size with h' | h'
        · exact h'
        · rw [Array.getElem?_eq_none h'] at ho; cases ho
      have h2 := hall i hlt
      have h3 : i < listed.size := by rw [h.len]; exact hlt
      simp [Array.getD, h3] at h1 h2
      rw [h2] at h1
      cases h1
  | succ fuel ih =>
    intro listed a w h hr hc
    refine ⟨fun hr' => hdone _ _ _ (kready_none hfore h.len hr') h hr, fun i hi => ?_⟩
    obtain ⟨h1, o, ho, hdep⟩ := mem_ready.1 hi
    have hlt : i < listed.size := by
      rw [h.len]
      rcases Nat.lt_or_ge i ops.size with h' | h'
      · exact h'
      · rw [Array.getElem?_eq_none h'] at ho; cases ho
    have hcnt := count_set listed i hlt h1
    have hnl : listed.getD i false = false := by have h5 := h1; simp only [Array.getD, hlt, dif_pos] at h5 ⊢; exact h5
    have key : if Region.wanted o (yielded ops a.tmps) then o.wp P a w (wpAny P md ops Q fuel (listed.setIfInBounds i true)) Q else wpAny P md ops Q fuel (listed.setIfInBounds i true) (a.put o.dst undef) w := by
      by_cases hik : i = r.k
      · subst hik
        exact hstepR o ho listed a w h hr hdep (dst_ok hin ho) hlt hnl _ fun v w' hS hR hrow hv => ih _ _ _ (h.step hown hin hV hSL ho hdep hS hR hv) hrow (by omega)
      · exact hstep i o ho hik listed a w h hdep (dst_ok hin ho) hlt hnl _ fun v w' hS hR hv => ih _ _ _ (h.step hown hin hV hSL ho hdep hS (hR.mono hsub hsub2) hv) (hr.keep hR hn hP hP0 hik) (by omega)
    unfold wpOp
    rw [ho]
    by_cases hw : Region.wanted o (yielded ops a.tmps) = true
    · simp only [hw, if_true] at key ⊢; exact .inl key
    · simp only [hw] at key ⊢; exact key
theorem wpList_r (hfore : kFore md ops = true) (hown : flowOwn ops = true) (hin : ∀ (i : Nat) (o : Oper) (d : Tmp), ops[i]? = some o → o.dst = some d → d < a0.tmps.size) (hV : ∀ i, Stab BT2 (V i)) (hSL : ∀ p ∈ SL, Stab BT2 p.2) (hsub : ∀ e ∈ BT, e ∈ BT2) (hsub2 : ∀ e ∈ BT2, e.2.1 = 0 → e ∈ BT)
    (hn : BT.any (fun e => e.1 == r.T && e.2.1 == r.m) = false) (hP : Stab BT r.P) (hP0 : Stab BT r.P0)
    (hstep : ∀ (i : Nat) (o : Oper), ops[i]? = some o → i ≠ r.k → KStep BT P md ops Q a0 V n0 w0 B SL i o) (hstepR : ∀ o, ops[r.k]? = some o → KStepR BT2 P md ops Q a0 V n0 w0 B SL r o)
    (hdone : ∀ (listed : Array Bool) (a : Act) (w : World), (∀ i, i < ops.size → listed.getD i false = true) → KI md ops a0 V n0 w0 B SL listed a w → RowI r listed w → Q .normal a w) :
    ∀ (rest : List Oper) (k : Nat) (listed : Array Bool) (a : Act) (w : World), ops.toList.drop k = rest → (∀ i, i < k → i < ops.size → listed.getD i false = true) → (∀ i, k ≤ i → listed.getD i false = false) → KI md ops a0 V n0 w0 B SL listed a w → RowI r listed w → wpList P ops Q rest a w := by
  intro rest
  induction rest with
  | nil =>
    intro k listed a w hk hl _ h hr
    have : ops.size ≤ k := by
      have := List.drop_eq_nil_iff.1 hk
      simpa using this
    exact hdone listed a w (fun i hi => hl i (by omega) hi) h hr
  | cons o rest ih =>
    intro k listed a w hk hl hnl h hr
    have hlt : k < ops.toList.length := by
      rcases Nat.lt_or_ge k ops.toList.length with h' | h'
      · exact h'
      · rw [List.drop_eq_nil_iff.2 h'] at hk; cases hk
    rw [List.drop_eq_getElem_cons hlt] at hk
    have ho' : ops.toList[k] = o := (List.cons.inj hk).1
    have ho : ops[k]? = some o := by
      have h1 : k < ops.size := by simpa using hlt
      rw [Array.getElem?_eq_getElem h1]
      simpa using ho'
    have hlk : k < listed.size := by rw [h.len]; simpa using hlt
    have hdep : ∀ e ∈ o.after, Region.binds md e = true → listed.getD e.on false = true := fun e he hb => by
      have h1 := kFore_spec hfore ho e he hb
      exact hl e.on h1 (by have : k < ops.size := by simpa using hlt
                           omega)
    have next : ∀ (v : Value) (w' : World), KI md ops a0 V n0 w0 B SL (listed.setIfInBounds k true) (a.put o.dst v) w' → RowI r (listed.setIfInBounds k true) w' → wpList P ops Q rest (a.put o.dst v) w' := fun v w' hK hrow => ih (k + 1) _ _ _ (List.cons.inj hk).2 (fun i hi hi' => by
        rw [getD_set _ _ _ hlk]
        split
        · rfl
        · exact hl i (by omega) hi') (fun i hi => by
        rw [getD_set _ _ _ hlk, if_neg (by omega)]
        exact hnl i (by omega)) hK hrow
    have key : if Region.wanted o (yielded ops a.tmps) then o.wp P a w (wpList P ops Q rest) Q else wpList P ops Q rest (a.put o.dst undef) w := by
      by_cases hik : k = r.k
      · subst hik
        exact hstepR o ho listed a w h hr hdep (dst_ok hin ho) hlk (hnl _ (Nat.le_refl _)) _ fun v w' hS hR hrow hv => next v w' (h.step hown hin hV hSL ho hdep hS hR hv) hrow
      · exact hstep k o ho hik listed a w h hdep (dst_ok hin ho) hlk (hnl _ (Nat.le_refl _)) _ fun v w' hS hR hv => next v w' (h.step hown hin hV hSL ho hdep hS (hR.mono hsub hsub2) hv) (hr.keep hR hn hP hP0 hik)
    unfold wpList
    by_cases hw : Region.wanted o (yielded ops a.tmps) = true
    · simp only [hw, if_true] at key ⊢; exact .inl key
    · simp only [hw] at key ⊢; exact key
def AllR (k : Nat) (BT : List (TypeId × Nat × Nat)) (P : Program) (md : Region.Mode) (ops : Array Oper) (Q : Exit → Act → World → Prop) (a0 : Act) (V : Nat → VP) (n0 : Nat) (w0 : World) (B : List Bd) (SL : List (Nat × VP)) : Nat → List Oper → Prop
  | _, [] => True
  | i, o :: l => (i ≠ k → KStep BT P md ops Q a0 V n0 w0 B SL i o) ∧ AllR k BT P md ops Q a0 V n0 w0 B SL (i + 1) l
theorem AllR.get {k : Nat} : ∀ (l : List Oper) (i : Nat), AllR k BT P md ops Q a0 V n0 w0 B SL i l → ∀ (j : Nat) (o : Oper), l[j]? = some o → i + j ≠ k → KStep BT P md ops Q a0 V n0 w0 B SL (i + j) o
  | [], _, _, j, o, ho, _ => by simp at ho
  | x :: l, i, h, 0, o, ho, hne => by
    have : x = o := by simpa using ho
    subst this; exact h.1 hne
  | x :: l, i, h, j + 1, o, ho, hne => by
    have := AllR.get l (i + 1) h.2 j o (by simpa using ho) (by omega)
    rw [show i + (j + 1) = i + 1 + j by omega]; exact this
def RowAt (g : Nat) (T : TypeId) (m : Nat) (A : VP) (w : World) : Prop := ∃ cs, w.heap[g]? = some (.cells cs T (0, 0)) ∧ cs.size = m ∧ NoInt cs ∧ A (.agg cs) w
end
section
variable {Q : Exit → Act → World → Prop} {Vl : List VP} {n0 : Nat} {w0 : World} {B : List Bd} {SL : List (Nat × VP)} {BT : List (TypeId × Nat × Nat)}
theorem rgR {id N : Nat} {l : List Oper} {ord : Bool} {L : List Bd} {SL' : List (Nat × VP)} {a : Act} {w : World} (r : Rw) (st : St n0 w0 N L SL a w) (hrow : RowAt r.g r.T r.m r.P0 w) (hstep : AllR r.k BT Tryz.prog .any l.toArray Q a (GV Vl) n0 w0 B SL 0 l)
    (hstepR : ∀ o, l.toArray[r.k]? = some o → KStepR ((r.T, r.m, 0) :: BT) Tryz.prog .any l.toArray Q a (GV Vl) n0 w0 B SL r o) (hdone : ∀ a' w', St n0 w0 N (B.map Bd.fin) SL' a' w' → RowAt r.g r.T r.m r.P w' → Q .normal a' w')
    [hB : SbB ((r.T, r.m, 0) :: BT) B] [hS : SbS ((r.T, r.m, 0) :: BT) SL] [hL : SbL ((r.T, r.m, 0) :: BT) Vl] [hP : Sb BT r.P] [hP0 : Sb BT r.P0]
    (hn : BT.any (fun e => e.1 == r.T && e.2.1 == r.m) = false) (hk : r.k < l.length)
    (hst : StartsF L B := by repeat (first | exact trivial | refine ⟨.inl ⟨_, rfl⟩, ?_⟩ | refine ⟨.inr ⟨_, rfl, rfl, rfl, rfl, rfl, rfl, .inr ⟨rfl, rfl, rfl⟩⟩, ?_⟩ | refine ⟨.inr ⟨_, rfl, rfl, rfl, rfl, rfl, rfl, .inl ⟨_, rfl, rfl, rfl⟩⟩, ?_⟩))
    (hg : GetsF l.toArray (GV Vl) SL SL' := by repeat (first | exact trivial | refine ⟨.inl ⟨rfl, rfl⟩, ?_⟩ | refine ⟨.inr ⟨rfl, by kernel_rfl⟩, ?_⟩))
    (hm : Tryz.prog.follows .mixedOrders = true := by kernel_rfl) (hfore : kFore .any l.toArray = true := by kernel_rfl) (hown : flowOwn l.toArray = true := by kernel_rfl) (hin : l.all (fun o => match o.dst with | some d => decide (d < N) | none => true) = true := by kernel_rfl)
    (hlt : B.all (fun b => (match b.ia with | some i => decide (i < l.toArray.size) | none => true) && (match b.ik with | some i => decide (i < l.toArray.size) | none => true)) = true := by kernel_rfl) (hm0 : r.m ≠ 0 := by decide) : (Code.region id l.toArray ord).wp Tryz.prog Q a w := by
  have hin' : ∀ (i : Nat) (o : Oper) (d : Tmp), l.toArray[i]? = some o → o.dst = some d → d < a.tmps.size := fun i o d ho hd => by
    rw [st.size]
    rw [List.all_eq_true] at hin
    have ho' : l[i]? = some o := by simpa using ho
    have := hin o (List.mem_of_getElem? ho')
    rw [hd] at this
    exact of_decide_eq_true this
  have hs' : ∀ (i : Nat) (o : Oper), l.toArray[i]? = some o → i ≠ r.k → KStep BT Tryz.prog .any l.toArray Q a (GV Vl) n0 w0 B SL i o := fun i o ho hne => by
    have := AllR.get l 0 hstep i o (by simpa using ho) (by omega)
    rw [Nat.zero_add] at this
    exact this
  have hsub : ∀ e ∈ BT, e ∈ (r.T, r.m, 0) :: BT := fun e he => List.mem_cons_of_mem _ he
  have hsub2 : ∀ e ∈ (r.T, r.m, 0) :: BT, e.2.1 = 0 → e ∈ BT := fun e he h0 => (List.mem_cons.1 he).resolve_left fun e1 => hm0 (by rw [e1] at h0; exact h0)
  have hno : ∀ i, (Array.replicate l.length false).getD i false = true → False := fun i hl => by
    simp only [Array.getD_eq_getD_getElem?, Array.getElem?_replicate] at hl
    split at hl <;> simp at hl
  have hno' : ∀ i, (Array.replicate l.length false).getD i false = false := fun i => by
    cases h : (Array.replicate l.length false).getD i false with
    | false => rfl
    | true => exact (hno i h).elim
  obtain ⟨cs, c1, c2, c3, c4⟩ := hrow
  have hst' := st.start hst.to l.length
  have fin : ∀ (listed : Array Bool) (a' : Act) (w' : World), (∀ i, i < l.toArray.size → listed.getD i false = true) → KI .any l.toArray a (GV Vl) n0 w0 B SL listed a' w' → RowI r listed w' → Q .normal a' w' := fun listed a' w' hall kd hr => by
    obtain ⟨cs, d1, d2, d3, d4, -⟩ := hr
    exact hdone a' w' (kd.st hall st.size st.defers hlt SL' hg.to) ⟨cs, d1, d2, d3, d4 (hall _ (by simpa using hk))⟩
  cases ord with
  | true =>
    refine wp_region_any hm (wpAny_r hfore hown hin' (stab_of hL.out) hS.out hsub hsub2 hn hP.out hP0.out hs' hstepR fin _ _ _ _ ⟨?_, st.n, by simp, rfl, rfl, fun _ _ => rfl, fun i o d ho hl _ => (hno i (by simpa using hl)).elim, fun p hp => ?_, fun k o _ hl => (hno k (by simpa using hl)).elim⟩ ⟨cs, c1, c2, c3, fun hl => (hno _ (by simpa using hl)).elim, fun _ => hP0.out _ _ _ c4 (RI.drew w)⟩ ?_)
    · have := hst'.drew hB.out
      simpa using this
    · obtain ⟨v, h1, h2⟩ := st.sl p hp
      exact ⟨v, h1, hS.out p hp _ _ _ h2 (RI.drew w)⟩
    · simp
  | false =>
    exact wp_region_lit (wpList_r hfore hown hin' (stab_of hL.out) hS.out hsub hsub2 hn hP.out hP0.out hs' hstepR fin l 0 (Array.replicate l.length false) a w (by simp) (fun i hi => by omega) (fun i _ => hno' i) ⟨hst', st.n, by simp, rfl, rfl, fun _ _ => rfl, fun i o d ho hl _ => (hno i hl).elim, st.sl, fun k o _ hl => (hno k hl).elim⟩ ⟨cs, c1, c2, c3, fun hl => (hno _ hl).elim, fun _ => c4⟩)
end
open Go Go.RowKit
theorem St.weak {n0 N : Nat} {w0 : World} {L : List Bd} {SL : List (Nat × VP)} {a : Act} {w : World} (h : St n0 w0 N L SL a w) (L' : List Bd) (hm : ∀ c ∈ L', ∃ b, b ∈ L ∧ b.t = c.t ∧ b.T = c.T ∧ b.m = c.m ∧ b.ia = none ∧ c.ia = none ∧ b.ik = none ∧ c.ik = none ∧ ∀ v w, b.P v w → c.P v w) : St n0 w0 N L' SL a w := by
  refine ⟨⟨h.k.below, fun c hc hon => ?_, fun c hc d hd hne h1 h2 => ?_, fun c hc hn hk => ?_⟩, h.n, h.size, h.defers, h.sl⟩
  · obtain ⟨b, hb, e1, e2, e3, e4, e5, e6, e7, e8⟩ := hm c hc
    obtain ⟨g, cs, f1, f2, f3, f4, f5, f6, -⟩ := h.k.ok b hb (by rw [e4]; rfl)
    exact ⟨g, cs, by rw [← e1]; exact f1, f2, by rw [← e2]; exact f3, by rw [← e3]; exact f4, f5, fun _ => e8 _ _ (f6 (by rw [e6]; rfl)), fun _ hk => by rw [e7] at hk; cases hk⟩
  · obtain ⟨b, hb, e1, -, -, e4, -⟩ := hm c hc
    obtain ⟨b2, hb2, q1, -, -, q4, -⟩ := hm d hd
    rw [← e1, ← q1]
    exact h.k.ne b hb b2 hb2 (by rw [e1, q1]; exact hne) (by rw [e4]; rfl) (by rw [q4]; rfl)
  · obtain ⟨b, hb, -, -, -, -, -, -, e7, -⟩ := hm c hc
    exact absurd e7 hn
open Go Go.RowKit
def VEq (x : Value) : VP := fun v _ => v = x
section
variable {md : Region.Mode} {ops : Array Oper} {Q : Exit → Act → World → Prop} {a0 : Act} {Vl : List VP} {n0 : Nat} {w0 : World} {B : List Bd} {SL : List (Nat × VP)} {BT BT2 : List (TypeId × Nat × Nat)} {r : Rw}
instance (x : Value) : Sb BT (VEq x) := ⟨fun _ _ _ h _ => h⟩
theorem KS.rowset {listed : Array Bool} {a : Act} {w : World} {v : Value} {i g : Nat} {T : TypeId} {m : Nat} {old cs : Array Value} (h : KS n0 w0 B listed a w) (hg : w.heap[g]? = some (.cells old T (0, 0))) (ho : old.size = m) (hn0 : n0 ≤ g) (hni : NoInt old) (hne : B.all (fun b => b.T != T || b.m != m) = true) (hq : quietB B i none = true) (hB : SbB ((T, m, 0) :: BT) B) (hm0 : m ≠ 0) (hNP : ∀ e ∈ BT, e.1 = T → e.2.1 = 0 → e.2.2 ≠ g) :
    RI ((T, m, 0) :: BT) w (w.setRow g cs) ∧ KS n0 w0 B (listed.setIfInBounds i true) (a.put none v) (w.setRow g cs) := by
  have hr : RI ((T, m, 0) :: BT) w (w.setRow g cs) := RI_setRow hg hni ⟨⟨_, List.mem_cons_self, rfl, ho.symm, .inl rfl⟩, fun e he e1 e2 => by
    rcases List.mem_cons.1 he with rfl | he
    · exact absurd e2 hm0
    · exact hNP e he e1 e2⟩
  have hgg : ∀ b ∈ B, ∀ g' cs', w.heap[g']? = some (.cells cs' b.T (0, 0)) → cs'.size = b.m → g' ≠ g := fun b hb g' cs' h1 h2 e => by
    subst e
    rw [hg] at h1
    cases h1
    rw [List.all_eq_true] at hne
    have := hne b hb
    simp [ho.symm.trans h2 |>.symm] at this
  refine ⟨hr, ⟨⟨h.below.os, h.below.tape, h.below.output, Nat.le_trans h.below.size hr.size, fun k hk => (setRow_other w g k cs (by omega)).trans (h.below.block k hk)⟩, fun b hb hon => ?_, fun b hb c hc hne' h1 h2 => ?_, fun b hb hn1 hk => ?_⟩⟩
  · obtain ⟨q1, q2, q3⟩ := quietB_get hq hb
    rw [onb_set q1] at hon
    obtain ⟨g', cs', e1, e2, e3, e4, e5, e6, e7⟩ := h.ok b hb hon
    refine ⟨g', cs', by rw [put_get_ne q3]; exact e1, e2, (setRow_other w g g' cs (hgg b hb g' cs' e3 e4)).trans e3, e4, e5, fun hk => ?_, fun h0 hk => ?_⟩
    · rw [onb_set q2] at hk
      exact (hB.out b hb).1 _ _ _ (e6 hk) hr
    · rw [onb_set q2] at hk
      exact (hB.out b hb).2 _ _ _ (e7 h0 hk) hr
  · obtain ⟨q1, q2, q3⟩ := quietB_get hq hb
    obtain ⟨p1, p2, p3⟩ := quietB_get hq hc
    rw [onb_set q1] at h1
    rw [onb_set p1] at h2
    rw [put_get_ne q3, put_get_ne p3]
    exact h.ne b hb c hc hne' h1 h2
  · obtain ⟨q1, q2, -⟩ := quietB_get hq hb
    rw [onb_set q2] at hk
    rw [onb_set q1]
    exact h.fa b hb hn1 hk
theorem k_row {s u k off : Nat} {o : Oper} {T : TypeId} {A : VP} [hB : SbB ((r.T, r.m, 0) :: BT) B] (ho : o.op = .store T (.tmp s) (.tmp u)) (hds : o.dst = none) (hVj : gV Vl (jL ops.toList s) = some (VEq (.pointer (some ⟨r.g, off, none⟩)))) [ha : Ag A k] [hs : SzT T k] (hV : GV Vl r.k = VT) (hn0 : n0 ≤ r.g)
    (hne : B.all (fun b => b.T != r.T || b.m != r.m) = true) (hq : quietB B r.k none = true) (hj : o.after.any (fun e => e.on == jL ops.toList s && Region.binds md e) = true) (hdst : (ops[jL ops.toList s]?).bind (·.dst) = some s) (hx : KnS md ops Vl SL o u A) (hk : off + k ≤ r.m)
    (hupd : ∀ cs z w, cs.size = r.m → z.size = k → r.P0 (.agg cs) w → A (.agg z) w → r.P (.agg (updR cs off z.toList)) w) (hP : Stab ((r.T, r.m, 0) :: BT) r.P) (hg : GOk md ops Vl o) (hm0 : r.m ≠ 0 := by decide) (hNP : ∀ e ∈ BT, e.1 = r.T → e.2.1 = 0 → e.2.2 ≠ r.g := by simp) : KStepR ((r.T, r.m, 0) :: BT) Tryz.prog md ops Q a0 (GV Vl) n0 w0 B SL r o := by
  intro listed a w h hrow hd _ hil hnl K hK
  rw [if_pos (wanted_of (hg.get h hd))]
  obtain ⟨old, e1, e2, e3, -, e5⟩ := hrow
  have hP0 := e5 hnl
  obtain ⟨v, hv, hVv⟩ := hx.get h hd
  obtain ⟨z, hz, hzs, hzn, hz1, hzV⟩ := agg_store ha.out hv hVv
  obtain ⟨vp, hvp, -, hVp⟩ := h.dep hd _ s hj hdst
  rw [show GV Vl (jL ops.toList s) = _ from gV_get hVj] at hVp
  obtain rfl : vp = _ := hVp
  have hPn := hupd old z w e2 hzs hP0 hzV
  have hzl : off + z.toList.length ≤ old.size := by simp; omega
  have hni : NoInt (updR old off z.toList) := fun i x hi => by
    rw [updR_get _ _ _ _ hzl] at hi
    split at hi
    · exact hzn _ _ (by simpa using hi)
    · exact e3 _ _ hi
  obtain ⟨hr, hks⟩ := h.k.rowset (BT := BT) (i := r.k) (v := undef) (cs := updR old off z.toList) e1 e2 hn0 e3 hne hq hB hm0 hNP
  refine wp_store_mid T (.tmp s) (.tmp u) ho r.g off z hvp hz (fun j hj => ⟨?_, ?_⟩) (by rw [hs.size, hzs]) hz1 ?_
  · have : off + j < old.size := by omega
    simp [World.cell?, e1, this]
  · simp [World.frozen?, e1]
  · rw [setCells_upd _ _ _ _ e1]
    rw [hds] at hK ⊢
    have hlk : (listed.setIfInBounds r.k true).getD r.k false = true := by rw [getD_set _ _ _ hil, if_pos rfl]
    exact hK _ _ hks hr ⟨_, setRow_heap w r.g old _ _ _ e1, by rw [updR_size]; exact e2, hni, fun _ => hP _ _ _ hPn hr, fun hl => by rw [hlk] at hl; cases hl⟩ (by rw [hV]; trivial)
end
theorem St.reT {n0 N : Nat} {w0 : World} {L : List Bd} {SL : List (Nat × VP)} {a : Act} {w : World} (h : St n0 w0 N L SL a w) (t : Nat) (V' : VP) {v : Value} (he : a.tmps[t]? = some v) (hv : V' v w) : St n0 w0 N L ((t, V') :: SL) a w :=
  ⟨h.k, h.n, h.size, h.defers, List.forall_mem_cons.2 ⟨⟨v, he, hv⟩, h.sl⟩⟩
theorem VAt_now {V : VP} {v : Value} {w : World} (h : V v w) : VAt w V v w := h
def VQr (N : Nat) (X : Nat → Rat) (j : Nat) : VP := fun v w => ∃ cs, v = .agg cs ∧ ∀ i, i < j → Vq N (X i) (.agg (cs.extract (4 * i) (4 * i + 4))) w
section
variable {ρ : Operand → Value} {o : Oper} {W w : World} {x y : Operand} {va vb : Value} {N : Nat} {X : Nat → Rat} {q : Rat} {BT : List (TypeId × Nat × Nat)}
instance (j : Nat) : Sb BT (VQr N X j) := ⟨fun _ _ _ ⟨cs, e1, e2⟩ hr => ⟨cs, e1, fun i hi => Stab_Vq _ _ _ _ _ (e2 i hi) hr⟩⟩
end
open Go.RowKit
set_option maxRecDepth 100000 in
set_option maxHeartbeats 800000 in
theorem scut_hit (s : ByteArray) (c : UInt8) (i : Nat) (hs : s.size ≤ 65536) (h : Lib.indexByte s.data.toList c = (i : Int)) (hi : i + 1 ≤ s.size) (w : World) :
    Calls Tryz.prog 129 #[.string s, .string ⟨#[c]⟩] w fun e w' => e = .returned (.tuple #[.string (s.extract 0 i), .string (s.extract (i + 1) s.size), .bool true]) ∧ Below w.heap.size w w' := by
  have hix : Hid (∀ W, Calls Tryz.prog 146 #[.string s, .string ⟨#[c]⟩] W fun e w' => e = .returned (.int .i64 (i : Int)) ∧ W = w') :=
    Lib.hid fun W => (Tryz.stringslite_Index_one s c W).mono fun e w' ⟨he, hw⟩ => ⟨by rw [he, h], hw.symm⟩
  have c1 : (0 : Int) ≤ (i : Int) := by omega
  have c2 : (i : Int) ≤ (s.size : Int) := by omega
  have c3 : (0 : Int) ≤ (i : Int) + 1 := by omega
  have c4 : (i : Int) + 1 ≤ (s.size : Int) := by omega
  have c5 : (⟨#[c]⟩ : ByteArray).size = 1 := rfl
  have c6 : ((i : Int) + 1).toNat = i + 1 := by omega
  have c7 : (i : Int) + 1 ≤ 9223372036854775807 := by omega
  clear h
  go_enter Tryz.func129, Tryz.ntmps129
  go_wp2_with (go_at_call 146; refine (hix.out _).mono ?_; rintro e w' ⟨rfl, rfl⟩)
  go_region
  go_wp2
  go_ret3
  exact ⟨rfl, (Below.refl _ _).drew⟩
set_option maxRecDepth 100000 in
set_option maxHeartbeats 800000 in
theorem cut_hit (s : ByteArray) (c : UInt8) (i : Nat) (hs : s.size ≤ 65536) (h : Lib.indexByte s.data.toList c = (i : Int)) (hi : i + 1 ≤ s.size) (w : World) :
    Calls Tryz.prog 100 #[.string s, .string ⟨#[c]⟩] w fun e w' => e = .returned (.tuple #[.string (s.extract 0 i), .string (s.extract (i + 1) s.size), .bool true]) ∧ Below w.heap.size w w' := by
  have hix := Lib.hid (scut_hit s c i hs h hi w)
  clear h
  generalize s.extract 0 i = u at hix ⊢
  generalize s.extract (i + 1) s.size = v at hix ⊢
  go_enter Tryz.func100, Tryz.ntmps100
  go_wp2_with (go_at_call 129; refine hix.out.mono ?_; rintro e w' ⟨rfl, hb⟩)
  go_ret3
  exact ⟨rfl, hb⟩
open Go.RowKit
theorem bs_all (t : List UInt8) : (bs t).extract 0 (bs t).size = bs t := by
  apply ByteArray.ext
  simp [bs, ByteArray.size]
theorem bs_none (t : List UInt8) : (bs t).extract 0 0 = bs [] := by
  apply ByteArray.ext
  simp [bs]
theorem val_one {m : Int} : val [m] = m := by simp [val]
set_option maxRecDepth 100000 in
set_option maxHeartbeats 1600000 in
theorem parse_short (s : ByteArray) (t : List UInt8) (ng : Bool) (m : Int) (w : World) (hlen : s.size ≤ 65536) (ht : Lib.trimPrefix s.data.toList [45] = t) (hng : Lib.hasPrefix s.data.toList [45] = ng) (hl1 : 1 ≤ t.length) (hl : t.length ≤ 9) (hdec : decB t = true) (hz : ng = true → (t == [48]) = false) (hat : Lib.atoi t = some m) (hm0 : 0 ≤ m) (hm1 : m < 1000000000) :
    Calls Tryz.prog 101 #[.string s] w fun e w' => ∃ nb p n c, e = .returned (.tuple #[.agg #[.bool nb, .slice p n c], .int .i64 0]) ∧ IntAt w' nb p n c (sg ng m) ∧ Below w.heap.size w w' := by
  obtain ⟨i0, hi, hz0, hz1, hz2⟩ := info_parts info_i64
  have hcut : Hid (∀ W, Calls Tryz.prog 130 #[.string s, .string ⟨#[45]⟩] W fun e w' => e = .returned (.tuple #[.string (bs t), .bool ng]) ∧ W = w') :=
    Lib.hid fun W => (Tryz.strings_CutPrefix s ⟨#[45]⟩ W).mono fun e w' ⟨he, hw⟩ => ⟨by rw [he, ← ht, ← hng]; rfl, hw.symm⟩
  have hdc : Hid (∀ W, Calls Tryz.prog 131 #[.string (bs t)] W fun e w' => e = .returned (.bool true) ∧ W = w') :=
    Lib.hid fun W => (decimal_any (bs t) W (by rw [bs_size]; unfold maxLen; omega)).mono fun e w' ⟨he, hw⟩ => ⟨by rw [he, show (bs t).data.toList = t by simp [bs], hdec], hw⟩
  have hatoi : Hid (∀ W, Calls Tryz.prog 132 #[.string (bs t)] W fun e w' => e = .returned (.tuple #[.int .i64 m, .nilIface]) ∧ Below W.heap.size W w') :=
    Lib.hid fun W => (Tryz.strconv_Atoi (bs t) m (by rw [bs_size]; omega) (by rw [show (bs t).data.toList = t by simp [bs]]; exact hat) W).mono fun e w' ⟨he, x, hw⟩ => ⟨he, by rw [hw]; exact Lib.bytesWorld_below _ _ _⟩
  have hS0 := Lib.hid (Ar0.start w)
  have hl' : ¬ (65536 : Int) < (s.size : Int) := by omega
  have hsz : (bs t).size = t.length := bs_size t
  have heq : Hid (ng = true → ((bs t).toList == [48]) = false) := Lib.hid (fun h => by rw [ByteArray.toList_eq, show (bs t).data.toList = t by simp [bs]]; exact hz h)
  have he1 : (bs t).extract 0 t.length = bs t := by rw [← hsz]; exact bs_all t
  have he2 : (bs t).extract 0 0 = bs [] := bs_none t
  obtain ⟨L, hL⟩ : ∃ L, t.length = L := ⟨_, rfl⟩
  rw [hL] at hsz he1 hl1 hl
  generalize bs t = T at *
  have q1 : ((L : Int) + 9 - 1) / 9 = 1 := by omega
  have q2 : max 0 ((L : Int) - 9) = 0 := by omega
  have q3 : 0 < (L : Int) := by omega
  have hsz0 : (bs []).size = 0 := rfl
  have hmd : Hid (∀ W p c, Rdi W p [m] → 1 ≤ c → c ≤ 9223372036854775807 → Calls Tryz.prog 108 #[.bool ng, .slice p 1 c] W (RetF (fun q => p = some q) W (sg ng m))) := Lib.hid fun W p c h1 h2 h3 => by
    have := made_any ng p 1 c [m] W h1 rfl h2 h3 (by intro i; cases i <;> simp [iat] <;> omega)
    rw [val_one] at this
    exact this
  clear ht hng hdec hz hat hL hlen
  go_enter Tryz.func101, Tryz.ntmps101
  go_upto_if 12 with fail
  generalize w.alloc (.cells #[.bool false, .slice none 0 0] 24) = W0 at hS0 ⊢
  have hS1 := hS0.out
  have hf := hS1.facts
  clear hS0
  cases ng
  · go_wp2_with (first | (go_at_call 130; refine (hcut.out _).mono ?_; rintro e w' ⟨rfl, rfl⟩) | (go_at_call 131; refine (hdc.out _).mono ?_; rintro e w' ⟨rfl, rfl⟩))
    obtain ⟨w2, hrun, ho, hg⟩ := run_make_own (P := Tryz.prog) W0 W0.heap.size 22 3 i0 (.int .i64 0) 1 Tryz.underlying22 hi hz0 hz1 .i64 .i64 1 (by rw [hz2]; omega) (by unfold maxLen; omega) (Nat.le_refl _)
    rw [show ((1 : Nat) : Int) = 1 from rfl] at hrun
    rw [hrun]
    simp only [Result.andThen]
    rw [Oper.upon_value]
    have hb2 : Below W0.heap.size W0 w2 := (Below.refl _ _).grown hg (Nat.le_refl _) (fun k hk => by cases hk)
    have ho' := Lib.hid ho
    have hbw := Lib.hid hb2
    clear hrun ho hg hf
    generalize Value.slice (some ⟨W0.heap.size, 0, none⟩) 0 1 = v2 at ho' ⊢
    go_wp2_with fail
    go_loopw [4, 6] (fun s4 s6 wr => ((s4 = .string T ∧ wr.ownsRow W0.heap.size 3 1 s6 0 []) ∨ (s4 = .string (bs []) ∧ wr.ownsRow W0.heap.size 3 1 s6 1 [.int .i64 m])) ∧ Below W0.heap.size W0 wr) (fun s4 _ _ => match s4 with | .string b => b.size | _ => 0)
    case atStart => exact ⟨.inl ⟨rfl, ho'.out⟩, hbw.out⟩
    case round =>
      obtain ⟨⟨rfl, hr0⟩ | ⟨rfl, hr0⟩, hb0⟩ := hrel
      · have hr := Lib.hid hr0
        have hb := Lib.hid hb0
        clear hr0 hb0 ho' hbw
        go_wp2_with (first
          | (go_at_call 132; refine (hatoi.out _).mono ?_; rintro e w5 ⟨rfl, hb5⟩; have hr5 := Lib.hid (ownsRow_below hb5 hr.out); have hbb := Lib.hid (hb.out.trans (hb5.mono hb.out.size)); clear hb5)
          | (at_builtin; refine wpList_append_own _ rfl _ _ 22 rfl W0.heap.size 3 i0 (.int .i64 0) 1 8 Tryz.underlying22 hi hz0 hz1 hz2 rfl (by decide) _ _ _ rfl (hr5.out.alloc _) ⟨w5.heap.size, 0, none⟩ 1 1 [.int .i64 m] rfl rfl (fun j u hj => by match j, hj with | 0, hj => simp at hj; subst hj; simp [Addr.add]) (by intro u hu; simp at hu; subst hu; rfl) (by unfold maxLen; simp) (by simp) (by have := hbb.out.size; simp; omega) ?_; intro v7 w7 ho7 hg7 _; have hr7 : Hid (w7.ownsRow W0.heap.size 3 1 v7 1 [.int .i64 m] ∧ Below W0.heap.size W0 w7) := Lib.hid ⟨ho7, (hbb.out.alloc hbb.out.size _).grown hg7 (by have := hbb.out.size; simp; omega) (fun k hk => (hr5.out.lt k hk).1)⟩; clear ho7 hg7))
        exact ⟨⟨.inr ⟨rfl, hr7.out.1⟩, hr7.out.2⟩, by have e0 : ByteArray.empty.size = 0 := rfl; simp only []; omega⟩
      · obtain ⟨p, n, c, rfl, hRd, hn, hlc, hcm, hpb⟩ := own_sl (l := [m]) (by simpa [zvs] using hr0)
        obtain rfl : n = 1 := hn.symm
        have hmm := Lib.hid (hmd.out wr p c hRd hlc hcm)
        have hS4 := hS1.later hb0
        have hf4 := hS4.facts
        have hpb' := Lib.hid hpb
        have htop := Lib.hid hS1.top
        clear hmd hRd hpb hr0 ho' hbw
        go_wp2_with (go_at_call 108; refine hmm.out.mono ?_; rintro e w9 ⟨nb9, p9, n9, c9, rfl, hI9, hb9, hfr⟩; have hS9 := hS4.later hb9; have hI9' := Lib.hid hI9; have hfr' := Lib.hid hfr; have hf9 := hS9.facts; clear hI9 hfr hf4)
        refine bodyPost_ret (v := .tuple #[.agg #[.bool nb9, .slice p9 n9 c9], .int .i64 0]) (results_cell1 rfl _ _ w.heap.size 24 _ (0, 0) _ _ rfl rfl (hS9.res _ _) Tryz.underlying24 rfl size_Int) rfl ⟨nb9, p9, n9, c9, rfl, (hI9'.out.store (fun q hq => ?_)).store (fun q hq => ?_), (hS9.store _ _).2⟩
        · have := hpb'.out q (hfr'.out q hq); have := htop.out; omega
        · have := hpb'.out q (hfr'.out q hq); have := htop.out; omega
  · have hq := heq.out rfl
    go_wp2_with (first | (go_at_call 130; refine (hcut.out _).mono ?_; rintro e w' ⟨rfl, rfl⟩) | (go_at_call 131; refine (hdc.out _).mono ?_; rintro e w' ⟨rfl, rfl⟩))
    obtain ⟨w2, hrun, ho, hg⟩ := run_make_own (P := Tryz.prog) W0 W0.heap.size 22 3 i0 (.int .i64 0) 1 Tryz.underlying22 hi hz0 hz1 .i64 .i64 1 (by rw [hz2]; omega) (by unfold maxLen; omega) (Nat.le_refl _)
    rw [show ((1 : Nat) : Int) = 1 from rfl] at hrun
    rw [hrun]
    simp only [Result.andThen]
    rw [Oper.upon_value]
    have hb2 : Below W0.heap.size W0 w2 := (Below.refl _ _).grown hg (Nat.le_refl _) (fun k hk => by cases hk)
    have ho' := Lib.hid ho
    have hbw := Lib.hid hb2
    clear hrun ho hg hf
    generalize Value.slice (some ⟨W0.heap.size, 0, none⟩) 0 1 = v2 at ho' ⊢
    go_wp2_with fail
    go_loopw [4, 6] (fun s4 s6 wr => ((s4 = .string T ∧ wr.ownsRow W0.heap.size 3 1 s6 0 []) ∨ (s4 = .string (bs []) ∧ wr.ownsRow W0.heap.size 3 1 s6 1 [.int .i64 m])) ∧ Below W0.heap.size W0 wr) (fun s4 _ _ => match s4 with | .string b => b.size | _ => 0)
    case atStart => exact ⟨.inl ⟨rfl, ho'.out⟩, hbw.out⟩
    case round =>
      obtain ⟨⟨rfl, hr0⟩ | ⟨rfl, hr0⟩, hb0⟩ := hrel
      · have hr := Lib.hid hr0
        have hb := Lib.hid hb0
        clear hr0 hb0 ho' hbw
        go_wp2_with (first
          | (go_at_call 132; refine (hatoi.out _).mono ?_; rintro e w5 ⟨rfl, hb5⟩; have hr5 := Lib.hid (ownsRow_below hb5 hr.out); have hbb := Lib.hid (hb.out.trans (hb5.mono hb.out.size)); clear hb5)
          | (at_builtin; refine wpList_append_own _ rfl _ _ 22 rfl W0.heap.size 3 i0 (.int .i64 0) 1 8 Tryz.underlying22 hi hz0 hz1 hz2 rfl (by decide) _ _ _ rfl (hr5.out.alloc _) ⟨w5.heap.size, 0, none⟩ 1 1 [.int .i64 m] rfl rfl (fun j u hj => by match j, hj with | 0, hj => simp at hj; subst hj; simp [Addr.add]) (by intro u hu; simp at hu; subst hu; rfl) (by unfold maxLen; simp) (by simp) (by have := hbb.out.size; simp; omega) ?_; intro v7 w7 ho7 hg7 _; have hr7 : Hid (w7.ownsRow W0.heap.size 3 1 v7 1 [.int .i64 m] ∧ Below W0.heap.size W0 w7) := Lib.hid ⟨ho7, (hbb.out.alloc hbb.out.size _).grown hg7 (by have := hbb.out.size; simp; omega) (fun k hk => (hr5.out.lt k hk).1)⟩; clear ho7 hg7))
        exact ⟨⟨.inr ⟨rfl, hr7.out.1⟩, hr7.out.2⟩, by have e0 : ByteArray.empty.size = 0 := rfl; simp only []; omega⟩
      · obtain ⟨p, n, c, rfl, hRd, hn, hlc, hcm, hpb⟩ := own_sl (l := [m]) (by simpa [zvs] using hr0)
        obtain rfl : n = 1 := hn.symm
        have hmm := Lib.hid (hmd.out wr p c hRd hlc hcm)
        have hS4 := hS1.later hb0
        have hf4 := hS4.facts
        have hpb' := Lib.hid hpb
        have htop := Lib.hid hS1.top
        clear hmd hRd hpb hr0 ho' hbw
        go_wp2_with (go_at_call 108; refine hmm.out.mono ?_; rintro e w9 ⟨nb9, p9, n9, c9, rfl, hI9, hb9, hfr⟩; have hS9 := hS4.later hb9; have hI9' := Lib.hid hI9; have hfr' := Lib.hid hfr; have hf9 := hS9.facts; clear hI9 hfr hf4)
        refine bodyPost_ret (v := .tuple #[.agg #[.bool nb9, .slice p9 n9 c9], .int .i64 0]) (results_cell1 rfl _ _ w.heap.size 24 _ (0, 0) _ _ rfl rfl (hS9.res _ _) Tryz.underlying24 rfl size_Int) rfl ⟨nb9, p9, n9, c9, rfl, (hI9'.out.store (fun q hq => ?_)).store (fun q hq => ?_), (hS9.store _ _).2⟩
        · have := hpb'.out q (hfr'.out q hq); have := htop.out; omega
        · have := hpb'.out q (hfr'.out q hq); have := htop.out; omega
end Go.Proofs.YtleijkgdpmfabaaGreatDoor
