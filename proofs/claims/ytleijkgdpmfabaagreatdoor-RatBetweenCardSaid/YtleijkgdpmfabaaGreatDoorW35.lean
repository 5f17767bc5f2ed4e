/- Contracts of the package integer and its reference: A region whose last two operations append to a row that it has made, and assign. rat.Encode. -/
import Derived.Test.YtleijkgdpmfabaaGreatDoorW33
import Derived.Test.YtleijkgdpmfabaaGreatDoorW34
import Derived.Test.YtleijkgdpmfabaaGreatDoorW24
set_option linter.unusedVariables false
namespace Go.Proofs.YtleijkgdpmfabaaGreatDoor
open Go Go.RowKit
section
variable {md : Region.Mode} {ops : Array Oper} {Q : Exit → Act → World → Prop} {a0 : Act} {Vl : List VP} {n0 : Nat} {w0 : World} {B : List Bd} {SL : List (Nat × VP)} {BT : List (TypeId × Nat × Nat)} 
structure Gr (n0 : Nat) (w w2 : World) (row : Option Nat) : Prop where
  g : w.grownBy w2 row
  r : ∀ g, row = some g → n0 ≤ g
class Pu (V : VP) : Prop where
  out : ∀ v w w', V v w → V v w'
instance (b : Bool) : Pu (Vb b) := ⟨fun _ _ _ h => h⟩
instance (i : Int) : Pu (Vi i) := ⟨fun _ _ _ h => h⟩
instance (l : List UInt8) : Pu (Vs l) := ⟨fun _ _ _ h => h⟩
instance (x : Value) : Pu (VEq x) := ⟨fun _ _ _ h => h⟩
class PuS (l : List (Nat × VP)) : Prop where
  out : ∀ p ∈ l, ∀ v w w', p.2 v w → p.2 v w'
instance : PuS [] := ⟨fun _ h => absurd h (by simp)⟩
instance (t : Nat) (V : VP) (l : List (Nat × VP)) [h : Pu V] [hl : PuS l] : PuS ((t, V) :: l) := ⟨List.forall_mem_cons.2 ⟨h.out, hl.out⟩⟩
theorem wpAny_last {P : Program} {k d1 d2 : Nat} {o2 : Oper} (hfore : kFore md ops = true) (hk : ops[k]? = some o2) (hsz : ops.size = k + 1) (hg2 : o2.guard = none) (ho2 : o2.op = .assign (.tmp d1)) (hd2 : o2.dst = some d2) :
    ∀ (fuel : Nat) (listed : Array Bool) (a : Act) (w : World), listed.size = ops.size → (∀ j, j < k → listed.getD j false = true) → listed.getD k true = false → listed.toList.count false ≤ fuel → Q .normal (a.put (some d2) (a.eval (.tmp d1))) w → wpAny P md ops Q fuel listed a w := by
  intro fuel listed a w hl hall hnl hc hQ
  have hkl : k < listed.size := by omega
  have hcnt := count_set listed k hkl hnl
  obtain ⟨fuel, rfl⟩ : ∃ f, fuel = f + 1 := ⟨fuel - 1, by omega⟩
  refine ⟨fun hr => ?_, fun i hi => ?_⟩
  · have := kready_none hfore hl hr k (by omega)
    simp only [Array.getD, hkl, dif_pos] at this hnl
    rw [this] at hnl; cases hnl
  · obtain ⟨h1, o, ho, hdep⟩ := mem_ready.1 hi
    have hil : i < listed.size := by
      rw [hl]
      rcases Nat.lt_or_ge i ops.size with h' | h'
      · exact h'
      · rw [Array.getElem?_eq_none h'] at ho; cases ho
    have hik : i = k := by
      rcases Nat.lt_or_ge i k with h' | h'
      · have := hall i h'
        simp only [Array.getD, hil, dif_pos] at this h1
        rw [this] at h1; cases h1
      · omega
    subst hik
    rw [hk] at ho
    cases ho
    have hall2 : ∀ j, j < ops.size → (listed.setIfInBounds i true).getD j false = true := fun j hj => by
      rw [getD_set _ _ _ hkl]
      split
      · rfl
      · exact hall j (by omega)
    have hdone : ∀ f, wpAny P md ops Q f (listed.setIfInBounds i true) (a.put (some d2) (a.eval (.tmp d1))) w := by
      have hno : ∀ j, j ∈ Region.ready md ops (listed.setIfInBounds i true) → False := fun j hj => by
        obtain ⟨h1, o, ho, -⟩ := mem_ready.1 hj
        have hj' : j < ops.size := by
          rcases Nat.lt_or_ge j ops.size with h' | h'
          · exact h'
          · rw [Array.getElem?_eq_none h'] at ho; cases ho
        have := hall2 j hj'
        have hj2 : j < (listed.setIfInBounds i true).size := by simp; omega
        simp only [Array.getD, hj2, dif_pos] at this h1
        rw [this] at h1; cases h1
      intro f
      cases f with
      | zero => exact ⟨List.eq_nil_iff_forall_not_mem.2 (fun j hj => hno j hj), hQ⟩
      | succ f => exact ⟨fun _ => hQ, fun j hj => (hno j hj).elim⟩
    have hw : Region.wanted o2 (yielded ops a.tmps) = true := wanted_of (by unfold Guards; rw [hg2]; trivial)
    unfold wpOp
    rw [hk]
    simp only [hw, if_true]
    refine .inl ?_
    unfold Oper.wp
    rw [run_assign ho2]
    show wpAny P md ops Q fuel _ (a.put o2.dst _) w
    rw [hd2]
    exact hdone _
def waits (md : Region.Mode) (ops : Array Oper) (k : Nat) (o1 : Oper) : Bool := (List.range k).all fun j => o1.after.any (fun e => e.on == j && Region.binds md e) || (List.range k).any (fun i => Nat.blt j i && (match ops[i]? with | some o => o.after.any (fun e => e.on == j && Region.binds md e) | none => false))
theorem after_any {md : Region.Mode} {after : Array Edge} {j : Nat} (h : after.any (fun e => e.on == j && Region.binds md e) = true) : ∃ e ∈ after, Region.binds md e = true ∧ e.on = j := by
  rw [Array.any_eq_true] at h
  obtain ⟨i, hi, h1⟩ := h
  simp only [Bool.and_eq_true, beq_iff_eq] at h1
  exact ⟨_, Array.getElem_mem hi, h1.2, h1.1⟩
theorem waits_all {V : Nat → VP} {k : Nat} {o1 : Oper} {listed : Array Bool} {a : Act} {w : World} (hw : waits md ops k o1 = true) (h : KI md ops a0 V n0 w0 B SL listed a w) (hdep : ∀ e ∈ o1.after, Region.binds md e = true → listed.getD e.on false = true) : ∀ (m j : Nat), j < k → k - j ≤ m → listed.getD j false = true := by
  intro m
  induction m with
  | zero => intro j h1 h2; omega
  | succ m ih =>
    intro j h1 h2
    unfold waits at hw
    rw [List.all_eq_true] at hw
    have := hw j (by simpa using h1)
    rw [Bool.or_eq_true] at this
    rcases this with h3 | h3
    · obtain ⟨e, he, hb, hon⟩ := after_any h3
      rw [← hon]; exact hdep e he hb
    · rw [List.any_eq_true] at h3
      obtain ⟨i, hi, h4⟩ := h3
      rw [Bool.and_eq_true] at h4
      have hi' : i < k := by simpa using hi
      have hji : j < i := by simpa [Nat.blt_eq] using h4.1
      have hil := ih i hi' (by omega)
      cases ho : ops[i]? with
      | none => rw [ho] at h4; cases h4.2
      | some o =>
        rw [ho] at h4
        obtain ⟨e, he, hb, hon⟩ := after_any h4.2
        rw [← hon]; exact h.closed i o ho hil e he hb
theorem wpAny_t {P : Program} {V : Nat → VP} {k d1 d2 : Nat} {o1 o2 : Oper} (hfore : kFore md ops = true) (hown : flowOwn ops = true) (hin : ∀ (i : Nat) (o : Oper) (d : Tmp), ops[i]? = some o → o.dst = some d → d < a0.tmps.size) (hV : ∀ i, Stab BT (V i)) (hSL : ∀ p ∈ SL, Stab BT p.2)
    (hk1 : ops[k]? = some o1) (hk2 : ops[k + 1]? = some o2) (hsz : ops.size = k + 2) (hg1 : o1.guard = none) (hd1 : o1.dst = some d1) (hg2 : o2.guard = none) (ho2 : o2.op = .assign (.tmp d1)) (hd2 : o2.dst = some d2)
    (hdep1 : waits md ops k o1 = true) (hdep2 : ∃ e ∈ o2.after, Region.binds md e = true ∧ e.on = k)
    (hstep : ∀ (i : Nat) (o : Oper), i < k → ops[i]? = some o → KStep BT P md ops Q a0 V n0 w0 B SL i o)
    (htail : ∀ (listed : Array Bool) (a : Act) (w : World), KI md ops a0 V n0 w0 B SL listed a w → (∀ e ∈ o1.after, Region.binds md e = true → listed.getD e.on false = true) → ∃ v w2, (execOp a.eval o1).run P w = .ok (.value v) w2 ∧ Q .normal ((a.put (some d1) v).put (some d2) v) w2) :
    ∀ (fuel : Nat) (listed : Array Bool) (a : Act) (w : World), KI md ops a0 V n0 w0 B SL listed a w → listed.getD k true = false → listed.getD (k + 1) true = false → listed.toList.count false ≤ fuel → wpAny P md ops Q fuel listed a w := by
  intro fuel
  induction fuel with
  | zero =>
    intro listed a w h hn1 hn2 hc
    exfalso
    have := count_zero listed (by omega) k (by rw [h.len]; omega)
    have hkl : k < listed.size := by rw [h.len]; omega
    simp only [Array.getD, hkl, dif_pos] at this hn1
    rw [this] at hn1; cases hn1
  | succ fuel ih =>
    intro listed a w h hn1 hn2 hc
    have hkl : k < listed.size := by rw [h.len]; omega
    have hkl2 : k + 1 < listed.size := by rw [h.len]; omega
    refine ⟨fun hr => ?_, fun i hi => ?_⟩
    · exfalso
      have := kready_none hfore h.len hr k (by omega)
      simp only [Array.getD, hkl, dif_pos] at this hn1
      rw [this] at hn1; cases hn1
    obtain ⟨h1, o, ho, hdep⟩ := mem_ready.1 hi
    have hlt : i < listed.size := by
      rw [h.len]
      rcases Nat.lt_or_ge i ops.size with h' | h'
      · exact h'
      · rw [Array.getElem?_eq_none h'] at ho; cases ho
    have hcnt := count_set listed i hlt h1
    rcases Nat.lt_trichotomy i k with hik | rfl | hik
    · have := hstep i o hik ho listed a w h hdep (dst_ok hin ho) hlt (by have h5 := h1; simp only [Array.getD, hlt, dif_pos] at h5 ⊢; exact h5) (wpAny P md ops Q fuel (listed.setIfInBounds i true)) fun v w' hS hR hv => ih _ _ _ (h.step hown hin hV hSL ho hdep hS hR hv) (by
        have : (listed.setIfInBounds i true).getD k true = listed.getD k true := by simp only [Array.getD_eq_getD_getElem?, Array.getElem?_setIfInBounds_ne (show i ≠ k by omega)]
        rw [this]; exact hn1) (by
        have : (listed.setIfInBounds i true).getD (k + 1) true = listed.getD (k + 1) true := by simp only [Array.getD_eq_getD_getElem?, Array.getElem?_setIfInBounds_ne (show i ≠ k + 1 by omega)]
        rw [this]; exact hn2) (by omega)
      unfold wpOp
      rw [ho]
      by_cases hw : Region.wanted o (yielded ops a.tmps) = true
      · simp only [hw, if_true] at this ⊢; exact .inl this
      · simp only [hw] at this ⊢; exact this
    · rw [hk1] at ho
      cases ho
      obtain ⟨v, w2, hrun, hQ⟩ := htail listed a w h hdep
      have hw : Region.wanted o1 (yielded ops a.tmps) = true := wanted_of (by unfold Guards; rw [hg1]; trivial)
      unfold wpOp
      rw [hk1]
      simp only [hw, if_true]
      refine .inl ?_
      unfold Oper.wp
      rw [hrun]
      show wpAny P md ops Q fuel _ (a.put o1.dst v) w2
      rw [hd1]
      have hev : (a.put (some d1) v).eval (.tmp d1) = v := by
        have := put_get_self (a := a) (v := v) (d := d1) (by rw [h.size]; exact hin _ _ _ hk1 hd1)
        simp [Act.eval, Array.getD_eq_getD_getElem?, this]
      refine wpAny_last (k := i + 1) hfore hk2 (by omega) hg2 ho2 hd2 fuel _ _ _ (by simpa using h.len) (fun j hj => ?_) ?_ (by omega) (by rw [hev]; exact hQ)
      · rw [getD_set _ _ _ hkl]
        split
        · rfl
        · exact waits_all hdep1 h hdep i j (by omega) (by omega)
      · have : (listed.setIfInBounds i true).getD (i + 1) true = listed.getD (i + 1) true := by simp only [Array.getD_eq_getD_getElem?, Array.getElem?_setIfInBounds_ne (show i ≠ i + 1 by omega)]
        rw [this]; exact hn2
    · exfalso
      have hik2 : i = k + 1 := by have := h.len; omega
      subst hik2
      rw [hk2] at ho
      cases ho
      obtain ⟨e, he, hb, hon⟩ := hdep2
      have := hdep e he hb
      rw [hon] at this
      simp only [Array.getD, hkl, dif_pos] at this hn1
      rw [this] at hn1; cases hn1
theorem wpList_t {P : Program} {V : Nat → VP} {k d1 d2 : Nat} {o1 o2 : Oper} (hfore : kFore md ops = true) (hown : flowOwn ops = true) (hin : ∀ (i : Nat) (o : Oper) (d : Tmp), ops[i]? = some o → o.dst = some d → d < a0.tmps.size) (hV : ∀ i, Stab BT (V i)) (hSL : ∀ p ∈ SL, Stab BT p.2)
    (hk1 : ops[k]? = some o1) (hk2 : ops[k + 1]? = some o2) (hsz : ops.size = k + 2) (hg1 : o1.guard = none) (hd1 : o1.dst = some d1) (hg2 : o2.guard = none) (ho2 : o2.op = .assign (.tmp d1)) (hd2 : o2.dst = some d2)
    (hstep : ∀ (i : Nat) (o : Oper), i < k → ops[i]? = some o → KStep BT P md ops Q a0 V n0 w0 B SL i o)
    (htail : ∀ (listed : Array Bool) (a : Act) (w : World), KI md ops a0 V n0 w0 B SL listed a w → (∀ e ∈ o1.after, Region.binds md e = true → listed.getD e.on false = true) → ∃ v w2, (execOp a.eval o1).run P w = .ok (.value v) w2 ∧ Q .normal ((a.put (some d1) v).put (some d2) v) w2) :
    ∀ (rest : List Oper) (i : Nat) (listed : Array Bool) (a : Act) (w : World), i ≤ k → ops.toList.drop i = rest → (∀ j, j < i → j < ops.size → listed.getD j false = true) → (∀ j, i ≤ j → listed.getD j false = false) → KI md ops a0 V n0 w0 B SL listed a w → wpList P ops Q rest a w := by
  intro rest
  induction rest with
  | nil =>
    intro i listed a w hik hk hl _ h
    have : ops.toList.length ≤ i := List.drop_eq_nil_iff.1 hk
    have : ops.size ≤ i := this
    omega
  | cons o rest ih =>
    intro i listed a w hik hk hl hnl h
    have hlt : i < ops.toList.length := by
      show i < ops.size
      omega
    rw [List.drop_eq_getElem_cons hlt] at hk
    have ho' : ops.toList[i] = o := (List.cons.inj hk).1
    have ho : ops[i]? = some o := by
      have h1 : i < ops.size := hlt
      rw [Array.getElem?_eq_getElem h1]
      simpa using ho'
    have hli : i < listed.size := by rw [h.len]; exact hlt
    have hdep : ∀ e ∈ o.after, Region.binds md e = true → listed.getD e.on false = true := fun e he hb => by
      have h1 := kFore_spec hfore ho e he hb
      exact hl e.on h1 (by omega)
    rcases Nat.lt_or_ge i k with hlk | hlk
    · have := hstep i o hlk ho listed a w h hdep (dst_ok hin ho) hli (hnl i (Nat.le_refl _)) (wpList P ops Q rest) fun v w' hS hR hv => ih (i + 1) _ _ _ (by omega) (List.cons.inj hk).2 (fun j hj hj' => by
          rw [getD_set _ _ _ hli]
          split
          · rfl
          · exact hl j (by omega) hj') (fun j hj => by
          rw [getD_set _ _ _ hli, if_neg (by omega)]
          exact hnl j (by omega)) (h.step hown hin hV hSL ho hdep hS hR hv)
      unfold wpList
      by_cases hw : Region.wanted o (yielded ops a.tmps) = true
      · simp only [hw, if_true] at this ⊢; exact .inl this
      · simp only [hw] at this ⊢; exact this
    · have hik2 : i = k := by omega
      subst hik2
      rw [hk1] at ho
      cases ho
      obtain ⟨v, w2, hrun, hQ⟩ := htail listed a w h hdep
      have hw : Region.wanted o1 (yielded ops a.tmps) = true := wanted_of (by unfold Guards; rw [hg1]; trivial)
      have hrest : rest = [o2] := by
        rw [← (List.cons.inj hk).2]
        have hlt2 : i + 1 < ops.toList.length := by show i + 1 < ops.size; omega
        rw [List.drop_eq_getElem_cons hlt2, List.drop_eq_nil_iff.2 (by show ops.size ≤ _; omega)]
        have h1 : i + 1 < ops.size := hlt2
        rw [Array.getElem?_eq_getElem h1] at hk2
        have : ops.toList[i + 1] = ops[i + 1] := by simp
        rw [this, Option.some.inj hk2]
      subst hrest
      unfold wpList
      simp only [hw, if_true]
      refine .inl ?_
      unfold Oper.wp
      rw [hrun]
      show wpList P ops Q [o2] (a.put o1.dst v) w2
      rw [hd1]
      have hev : (a.put (some d1) v).eval (.tmp d1) = v := by
        have := put_get_self (a := a) (v := v) (d := d1) (by rw [h.size]; exact hin _ _ _ hk1 hd1)
        simp [Act.eval, Array.getD_eq_getD_getElem?, this]
      have hw2 : Region.wanted o2 (yielded ops (a.put (some d1) v).tmps) = true := wanted_of (by unfold Guards; rw [hg2]; trivial)
      unfold wpList
      simp only [hw2, if_true]
      refine .inl ?_
      unfold Oper.wp
      rw [run_assign ho2, hev]
      show wpList P ops Q [] ((a.put (some d1) v).put o2.dst v) w2
      rw [hd2]
      unfold wpList
      exact hQ
end
theorem rgT {Q : Exit → Act → World → Prop} {Vl : List VP} {n0 : Nat} {w0 : World} {B : List Bd} {SL : List (Nat × VP)} {id N k d1 d2 : Nat} {l : List Oper} {ord : Bool} {SL' : List (Nat × VP)} {a : Act} {w : World} {o1 o2 : Oper} {A : VP} (st : St n0 w0 N B SL a w)
    (hstep : AllK [] Tryz.prog .any l.toArray Q a (GV Vl) n0 w0 B SL 0 (l.take k))
    (hk1 : l[k]? = some o1) (hk2 : l[k + 1]? = some o2) (hsz : l.length = k + 2) (hg1 : o1.guard = none) (hd1 : o1.dst = some d1) (hg2 : o2.guard = none) (ho2 : o2.op = .assign (.tmp d1)) (hd2 : o2.dst = some d2)
    (hdep1 : waits .any l.toArray k o1 = true) (hdep2 : o2.after.any (fun e => e.on == k && Region.binds .any e) = true)
    (htail : ∀ (listed : Array Bool) (a' : Act) (w' : World), KI .any l.toArray a (GV Vl) n0 w0 B SL listed a' w' → (∀ e ∈ o1.after, Region.binds .any e = true → listed.getD e.on false = true) → ∃ v w2 row, (execOp a'.eval o1).run Tryz.prog w' = .ok (.value v) w2 ∧ Gr n0 w' w2 row ∧ A v w2)
    (hdone : ∀ a' w', St n0 w0 N [] ((d2, A) :: SL') a' w' → Q .normal a' w')
    (hB0 : B.all (fun b => b.ia == none && b.ik == none) = true) [hB : SbB [] B] [hS : SbS [] SL] [hSs : PuS SL'] [hL : SbL [] Vl]
    (hsub : SubS SL SL' := by repeat (first | exact trivial | refine ⟨rfl, ?_⟩)) (hfr : (SL'.map (·.1) ++ B.map (·.t)).all (fun t => l.all (fun o => o.dst != some t)) = true := by kernel_rfl)
    (hm : Tryz.prog.follows .mixedOrders = true := by kernel_rfl) (hfore : kFore .any l.toArray = true := by kernel_rfl) (hown : flowOwn l.toArray = true := by kernel_rfl) (hin : l.all (fun o => match o.dst with | some d => decide (d < N) | none => true) = true := by kernel_rfl) : (Code.region id l.toArray ord).wp Tryz.prog Q a w := by
  have hin' : ∀ (i : Nat) (o : Oper) (d : Tmp), l.toArray[i]? = some o → o.dst = some d → d < a.tmps.size := fun i o d ho hd => by
    rw [st.size]
    rw [List.all_eq_true] at hin
    have ho' : l[i]? = some o := by simpa using ho
    have := hin o (List.mem_of_getElem? ho')
    rw [hd] at this
    exact of_decide_eq_true this
  have hB0' : ∀ b ∈ B, b.ia = none ∧ b.ik = none := fun b hb => by
    rw [List.all_eq_true] at hB0
    have := hB0 b hb
    simp only [Bool.and_eq_true, beq_iff_eq] at this
    exact this
  have hfr' : ∀ t, t ∈ SL'.map (·.1) ++ B.map (·.t) → ∀ (i : Nat) (o : Oper), l.toArray[i]? = some o → o.dst ≠ some t := fun t ht i o ho => by
    rw [List.all_eq_true] at hfr
    have h1 := hfr t ht
    rw [List.all_eq_true] at h1
    have := h1 o (List.mem_of_getElem? (show l[i]? = some o by simpa using ho))
    simpa using this
  have hs' : ∀ (i : Nat) (o : Oper), i < k → l.toArray[i]? = some o → KStep [] Tryz.prog .any l.toArray Q a (GV Vl) n0 w0 B SL i o := fun i o hi ho => by
    have := AllK.get (l.take k) 0 hstep i o (by rw [List.getElem?_take, if_pos hi]; simpa using ho)
    rw [Nat.zero_add] at this
    exact this
  have htl : ∀ (listed : Array Bool) (a' : Act) (w' : World), KI .any l.toArray a (GV Vl) n0 w0 B SL listed a' w' → (∀ e ∈ o1.after, Region.binds .any e = true → listed.getD e.on false = true) → ∃ v w2, (execOp a'.eval o1).run Tryz.prog w' = .ok (.value v) w2 ∧ Q .normal ((a'.put (some d1) v).put (some d2) v) w2 := fun listed a' w' h hd => by
    obtain ⟨v, w2, row, hrun, hgr, hA⟩ := htail listed a' w' h hd
    refine ⟨v, w2, hrun, hdone _ _ ?_⟩
    have hne : ∀ t, t ∈ SL'.map (·.1) ++ B.map (·.t) → ((a'.put (some d1) v).put (some d2) v).tmps[t]? = a.tmps[t]? := fun t ht => by
      rw [put_get_ne (by rw [← hd2]; exact hfr' t ht (k + 1) o2 (by simpa using hk2)), put_get_ne (by rw [← hd1]; exact hfr' t ht k o1 (by simpa using hk1))]
      exact h.other t (hfr' t ht)
    refine ⟨⟨h.k.below.grown hgr.g h.n hgr.r, fun _ h => absurd h (by simp), fun _ h => absurd h (by simp), fun _ h => absurd h (by simp)⟩, Nat.le_trans h.n hgr.g.size, by rw [put_size, put_size, h.size, st.size], by rw [put_defers', put_defers', h.defers, st.defers], List.forall_mem_cons.2 ⟨⟨v, put_get_self (by rw [put_size, h.size]; exact hin' _ _ _ (by simpa using hk2) hd2), hA⟩, fun p hp => ?_⟩⟩
    obtain ⟨u, e1, e2⟩ := h.sl p (SubS.to hsub p hp)
    exact ⟨u, by rw [hne _ (List.mem_append_left _ (List.mem_map_of_mem hp))]; exact e1, hSs.out p hp _ _ _ e2⟩
  have hno : ∀ i, (Array.replicate l.length false).getD i false = true → False := fun i hl => by
    simp only [Array.getD_eq_getD_getElem?, Array.getElem?_replicate] at hl
    split at hl <;> simp at hl
  have hst : KS n0 w0 B (Array.replicate l.length false) a w := ⟨st.k.below, fun b hb _ => by
    obtain ⟨g, cs, e1, e2, e3, e4, e5, e6, e7⟩ := st.k.ok b hb (by rw [(hB0' b hb).1]; rfl)
    exact ⟨g, cs, e1, e2, e3, e4, e5, fun _ => e6 (by rw [(hB0' b hb).2]; rfl), fun _ hk => by rw [(hB0' b hb).2] at hk; cases hk⟩, fun b hb c hc hne _ _ => st.k.ne b hb c hc hne (by rw [(hB0' b hb).1]; rfl) (by rw [(hB0' c hc).1]; rfl), fun b hb h1 _ => absurd (hB0' b hb).2 h1⟩
  have hks : l.toArray.size = k + 2 := by simpa using hsz
  cases ord with
  | true =>
    refine wp_region_any hm (wpAny_t hfore hown hin' (stab_of hL.out) hS.out (by simpa using hk1) (by simpa using hk2) hks hg1 hd1 hg2 ho2 hd2 hdep1 ?_ hs' htl _ _ _ _ ⟨?_, st.n, by simp, rfl, rfl, fun _ _ => rfl, fun i o d ho hl _ => (hno i (by simpa using hl)).elim, fun p hp => ?_, fun k o _ hl => (hno k (by simpa using hl)).elim⟩ ?_ ?_ ?_)
    · rw [Array.any_eq_true] at hdep2
      obtain ⟨i, hi, h1⟩ := hdep2
      simp only [Bool.and_eq_true, beq_iff_eq] at h1
      exact ⟨_, Array.getElem_mem hi, h1.2, h1.1⟩
    · have := hst.drew hB.out
      simpa using this
    · obtain ⟨v, h1, h2⟩ := st.sl p hp
      exact ⟨v, h1, hS.out p hp _ _ _ h2 (RI.drew w)⟩
    · simp [Array.getD, hsz]
    · simp [Array.getD, hsz]
    · simp
  | false =>
    exact wp_region_lit (wpList_t hfore hown hin' (stab_of hL.out) hS.out (by simpa using hk1) (by simpa using hk2) hks hg1 hd1 hg2 ho2 hd2 hs' htl l 0 (Array.replicate l.length false) a w (by omega) (by simp) (fun i hi => by omega) (fun i _ => by
      cases hl : (Array.replicate l.length false).getD i false with
      | false => rfl
      | true => exact (hno i hl).elim) ⟨hst, st.n, by simp, rfl, rfl, fun _ _ => rfl, fun i o d ho hl _ => (hno i hl).elim, st.sl, fun k o _ hl => (hno k hl).elim⟩)
open Go.RowKit
def VEo (B : Nat) (nx : Bool) (px : Option Addr) (n c : Nat) (s : Int) (D : List Int) (E : List UInt8) : Nat → Value → World → Prop
  | 0, v, _ => v = .agg #[.bool nx, .slice px n c]
  | 1, v, _ => v = .int .i64 s
  | 2, v, W => ∃ g, v = .slice (some ⟨g, 0, none⟩) 1 1 ∧ Blk W g [s]
  | 3, v, _ => v = .pointer (some ⟨B, 1, none⟩)
  | 4, v, _ => v = .slice px n c
  | 5, v, W => ∃ p cc, v = .slice p (n + 1) cc ∧ Rdi W p (s :: D)
  | 6, v, W => W.ownsRow B 5 1 v E.length (bvs E)
  | 7, v, W => W.ownsRow B 5 1 v E.length (bvs E)
  | _, _, _ => True
theorem VEo.mono {B : Nat} {nx : Bool} {px : Option Addr} {n c : Nat} {s : Int} {D : List Int} {E : List UInt8} : ∀ j u (w w' : World), VEo B nx px n c s D E j u w → Below w.heap.size w w' → VEo B nx px n c s D E j u w' := by
  intro j u w w' h hb
  match j, h with
  | 0, h => exact h
  | 1, h => exact h
  | 2, ⟨g, h1, h2⟩ => exact ⟨g, h1, h2.later hb⟩
  | 3, h => exact h
  | 4, h => exact h
  | 5, ⟨p, cc, h1, h2⟩ => exact ⟨p, cc, h1, Rdi_below hb h2⟩
  | 6, h => exact ownsRow_below hb h
  | 7, h => exact ownsRow_below hb h
  | _ + 8, _ => trivial
set_option maxRecDepth 100000 in
set_option maxHeartbeats 1600000 in
theorem Encode_own (nx : Bool) (px : Option Addr) (n cx : Nat) (x : Int) (w : World) (hx0 : IntAt w nx px n cx x) (hlx : n ≤ 549755813887) :
    Calls Tryz.prog 102 #[.agg #[.bool nx, .slice px n cx]] w (EncPost w (encIs (codeL x))) := by
  have hS0 := Lib.hid (@Bx.start nx px n cx w)
  have hx := Lib.hid hx0
  have hcl : Hid ((encIs (codeL x)).length ≤ 70368744177664) := Lib.hid (code_len x (by rw [← hx0.2.1]; omega))
  clear hx0
  go_enter Tryz.func102, Tryz.ntmps102
  go_upto_region 1 with fail
  generalize w.alloc (.cells #[.bool nx, .slice px n cx] 24) = W1 at hS0 ⊢
  have hS1 := hS0.out
  refine region_flows (V := VEo w.heap.size nx px n cx (cmpI x 0) (digs x.natAbs) (encIs (codeL x))) (S := fun W => Bx w nx px n cx W) (R := fun a b => Below a.heap.size a b) (by kernel_rfl) (by kernel_rfl) (by kernel_rfl) (by rfl) VEo.mono (hS1.later ((Below.refl _ _).drew)) ⟨?s0, ?s1, ?s2, ?s3, ?s4, ?s5, ?s6, ?s7, trivial⟩ [3, 4, 5, 6, 7, 8, 9, 2] rfl ?hdone
  case s0 =>
    refine flow_wp fun listed a W h hd => ⟨trivial, fun K hK => ?_⟩
    exact wp_load_row 24 (.tmp 1) rfl w.heap.size (h.out 1 (by kernel_rfl)) 24 #[.bool nx, .slice px n cx] (0, 0) _ h.s.1 Tryz.underlying24 rfl size_Int (hK _ _ h.s (Below.refl _ _) rfl)
  case s1 =>
    refine flow_call (fun _ _ => rfl) fun listed a W h hd => ⟨trivial, ?_⟩
    obtain ⟨v, hv, -, hV⟩ := h.dep hd 0 3 (by kernel_rfl) (by kernel_rfl)
    refine ⟨#[.agg #[.bool nx, .slice px n cx]], by simp [hv, show v = _ from hV], ?_⟩
    exact (Sign_any nx px n cx x W (hx.out.later h.s.2) hlx).mono fun e w' ⟨he, hb⟩ => ⟨_, he, h.s.later hb, hb, rfl⟩
  case s2 =>
    refine flow_run fun listed a W h hd => ⟨trivial, ?_⟩
    obtain ⟨v, hv, -, hV⟩ := h.dep hd 1 4 (by kernel_rfl) (by kernel_rfl)
    obtain rfl : v = .int .i64 (cmpI x 0) := hV
    refine ⟨_, _, ?_, h.s.later (below_new W (.cells #[.int .i64 (cmpI x 0)] 3)), below_new W (.cells #[.int .i64 (cmpI x 0)] 3), ⟨_, rfl, Blk_new W [cmpI x 0]⟩⟩
    clear h hd
    generalize a.eval = ρ at hv ⊢
    go_simp
  case s3 =>
    refine flow_run fun listed a W h hd => ⟨trivial, ?_⟩
    have hv := h.out 1 (by kernel_rfl)
    refine ⟨_, _, ?_, h.s, Below.refl _ _, rfl⟩
    clear h hd
    generalize a.eval = ρ at hv ⊢
    go_simp
  case s4 =>
    refine flow_run fun listed a W h hd => ⟨trivial, ?_⟩
    obtain ⟨v, hv, -, hV⟩ := h.dep hd 3 6 (by kernel_rfl) (by kernel_rfl)
    obtain rfl : v = .pointer (some ⟨w.heap.size, 1, none⟩) := hV
    have hc := h.s.facts.2
    refine ⟨_, _, ?_, h.s, Below.refl _ _, rfl⟩
    clear h hd
    generalize a.eval = ρ at hv ⊢
    go_simp
  case s5 =>
    refine flow_run fun listed a W h hd => ⟨trivial, ?_⟩
    obtain ⟨v, hv, -, hV⟩ := h.dep hd 2 5 (by kernel_rfl) (by kernel_rfl)
    obtain ⟨u, hu, -, hU⟩ := h.dep hd 4 7 (by kernel_rfl) (by kernel_rfl)
    obtain ⟨g, rfl, hB⟩ := hV
    obtain rfl : u = .slice px n cx := hU
    obtain ⟨pp, cc, W', hr, hR, h1, h2, hb⟩ := append_one g (cmpI x 0) px n cx (digs x.natAbs) W hB (Rdi_below h.s.2 hx.out.2.2.1) hx.out.2.1 (by omega)
    refine ⟨_, _, ?_, h.s.later hb, hb, ⟨pp, cc, rfl, hR⟩⟩
    have e : execOp a.eval { dst := some 8, op := Op.call { callee := Callee.builtin Builtin.append, args := #[Operand.tmp 5, Operand.tmp 7], argTypes := #[22, 22] }, type := 22, pos := "text.go:62", after := #[{ on := 2, ground := Ground.data }, { on := 4, ground := Ground.data }, { on := 1, ground := Ground.chain }], guard := none } = (do let r ← Builtin.append_ #[22, 22] 22 #[a.eval (.tmp 5), a.eval (.tmp 7)]; pure (Next.value r)) := by
      simp [execOp, resolve, invoke, builtin]
    rw [e, hv, hu]
    simp [hr, Result.andThen]
  case s6 =>
    refine flow_call (fun _ _ => rfl) fun listed a W h hd => ⟨trivial, ?_⟩
    obtain ⟨v, hv, -, hV⟩ := h.dep hd 5 8 (by kernel_rfl) (by kernel_rfl)
    obtain ⟨p, cc, rfl, hR⟩ := hV
    refine ⟨#[.slice p (n + 1) cc], by simp [hv], ?_⟩
    have hl : n + 1 = (codeL x).length := by have := hx.out.2.1; show n + 1 = (digs x.natAbs).length + 1; omega
    exact (Ints_any p (n + 1) cc (codeL x) W hR hl (by omega) (code_i64 x) hcl.out).mono fun e w' hp => by
      obtain ⟨u, rfl, ho, hb⟩ := hp
      exact ⟨u, rfl, h.s.later hb, hb, ownsRow_base ho h.s.2.size⟩
  case s7 =>
    refine flow_run fun listed a W h hd => ⟨trivial, ?_⟩
    obtain ⟨v, hv, -, hV⟩ := h.dep hd 6 9 (by kernel_rfl) (by kernel_rfl)
    refine ⟨v, W, ?_, h.s, Below.refl _ _, hV⟩
    clear h hd
    generalize a.eval = ρ at hv ⊢
    go_simp
  case hdone =>
    intro f W hS hf
    have hv := hf 7 2 (by kernel_rfl)
    simp only [slots, Act.put, List.setIfInBounds_toArray, List.set_cons_zero, List.set_cons_succ]
    generalize f 2 = u at hv ⊢
    have hb := Lib.hid hS.2
    have hv' := Lib.hid hv
    clear hv
    go_wp2_with fail
    go_ret
    exact ⟨_, rfl, hv'.out, hb.out⟩
def VBy (lo : Nat) (l : List UInt8) : VP := fun v w => w.ownsRow lo 5 1 v l.length (bvs l)
theorem Stab_VBy {BT : List (TypeId × Nat × Nat)} {lo : Nat} {l : List UInt8} (hn : ∀ e ∈ BT, e.1 ≠ 5) : Stab BT (VBy lo l) := fun v w w' h hr => by
  refine ⟨h.1, ?_⟩
  rcases h.2 with h | ⟨g, cap, cur, hv, hg, hh, r⟩
  · exact .inl h
  · exact .inr ⟨g, cap, cur, hv, hg, (hr.row g cur _ hh (.inl fun e he q => absurd q (hn e he))).trans hh, r⟩
theorem VBy_low {lo lo' : Nat} {l : List UInt8} {v : Value} {w : World} (h : VBy lo l v w) (hl : lo' ≤ lo) : VBy lo' l v w := ownsRow_base h hl
theorem VBy_t {lo : Nat} {l : List UInt8} {v : Value} {w : World} (h : VBy lo l v w) : Vbt l v w := by
  obtain ⟨p, c, rfl, hR, hn, hc, hm, -⟩ := own_Rd h
  exact ⟨p, c, rfl, hR, hc, hm⟩
theorem cEncodeO {W : World} {N : Nat} {a : Int} {v : Value} {lo : Nat} (h : Vz N a v W) (hN : N ≤ 1000000) (hlo : lo ≤ W.heap.size) : Calls Tryz.prog 102 #[v] W (RV (VBy lo (encIs (codeL a))) W) := by
  obtain ⟨nb, p, n, c, rfl, hI, hn⟩ := h
  exact (Encode_own _ _ _ _ a W hI (by omega)).mono fun e w' ⟨v, he, ho, hb⟩ => ⟨v, he, ownsRow_base ho hlo, hb⟩
section
variable {ρ : Operand → Value} {o : Oper} {W : World} {x y : Operand} {va vb : Value} {lo : Nat} {l r : List UInt8}
theorem app_By (ho : o.op = .call { callee := .builtin .append, args := #[x, y], argTypes := #[55, 55] }) (hx : ρ x = va) (h1 : VBy lo l va W) (hy : ρ y = vb) (h2 : VBy lo r vb W) (hr : 0 < r.length) (hl : l.length + r.length ≤ 100000000000000) (hlo : lo ≤ W.heap.size) :
    ∃ v w2 row, (execOp ρ o).run Tryz.prog W = .ok (.value v) w2 ∧ Gr lo W w2 row ∧ VBy lo (l ++ r) v w2 := by
  obtain ⟨i0, hi, hz0, hz1, hz2⟩ := info_parts info_u8
  have h1' : W.ownsRow lo 5 1 va l.length (bvs l) := h1
  have h2' : W.ownsRow lo 5 1 vb r.length (bvs r) := h2
  rcases own_cells h2' with ⟨hn, -, -⟩ | ⟨g, c, rfl, q1, q2, q3, q4⟩
  · have : (bvs r).length = 0 := by rw [hn]; rfl
    rw [h2'.1] at this
    omega
  · obtain ⟨v', w', hrun, ho', hg, -⟩ := run_append_own (P := Tryz.prog) W lo 55 o.type 5 i0 (.int .u8 0) 1 1 Tryz.underlying55 hi hz0 hz1 hz2 rfl (by decide) va l.length (bvs l) h1' ⟨g, 0, none⟩ r.length c (bvs r) (by rw [h2'.1]) (fun j u hj => by rw [add_lit0, Nat.zero_add]; exact q4 j u hj) (by intro u hu; simp [bvs] at hu; obtain ⟨b, -, rfl⟩ := hu; rfl) (by unfold maxLen; omega) (by omega) hlo
    refine ⟨v', w', va.ownBlock, ?_, ⟨hg, fun g' e => (h1'.lt g' e).1⟩, ?_⟩
    · unfold execOp
      simp only [ho, resolve, invoke, builtin, Sem.run_bind, Sem.run_pure, Result.andThen_ok, List.map_toArray, List.map_cons, List.map_nil, hx, hy, hrun]
    · show w'.ownsRow lo 5 1 v' (l ++ r).length (bvs (l ++ r))
      rw [List.length_append, bvs_append]; exact ho'
end
theorem Vq_len {N : Nat} {q : Rat} {v : Value} {w : World} (h : Vq N q v w) : (digs q.num.natAbs).length ≤ N ∧ (digs (qd q).natAbs).length ≤ N := by
  obtain ⟨⟨u, hu⟩, ⟨u2, hu2⟩⟩ := Vq_parts h
  exact ⟨Vz_len hu, Vz_len hu2⟩
theorem code_len1 {z : Int} {N : Nat} (h : (digs z.natAbs).length ≤ N) : (encIs (codeL z)).length ≤ 9 + 9 * (N + 1) := by
  unfold encIs
  rw [List.length_append]
  have h1 := enc_le ((codeL z).length : Int)
  have h2 : ((codeL z).flatMap enc).length ≤ 9 * (codeL z).length := by
    generalize codeL z = l
    induction l with
    | nil => simp
    | cons d t ih =>
      rw [List.flatMap_cons, List.length_append, List.length_cons]
      have := enc_le d
      omega
  have h3 : (codeL z).length = (digs z.natAbs).length + 1 := rfl
  omega
theorem enc_pos (n : Int) : 1 ≤ (enc n).length := by rw [enc_length]; omega
set_option maxRecDepth 100000 in
set_option maxHeartbeats 1600000 in
theorem cQEncode {w : World} {N : Nat} {q : Rat} {v0 : Value} (h0 : Vq N (q) v0 w) (hN : N ≤ 100000) : Calls Tryz.prog 56 #[v0] w (RV (VBy w.heap.size (encIs (codeL q.num) ++ encIs (codeL (qd q)))) w) := by
  go_enter Tryz.func56, Tryz.ntmps56
  have st0 : St w.heap.size w 10 [] [(0, Vq N (q))] _ w := St.begin (a := ⟨#[v0, undef, undef, undef, undef, undef, undef, undef, undef, undef], []⟩) rfl rfl (List.forall_mem_cons.2 ⟨⟨_, rfl, h0⟩, (fun _ h => absurd h (by simp))⟩)
  generalize (⟨#[v0, undef, undef, undef, undef, undef, undef, undef, undef, undef], []⟩ : Act) = a0 at st0 ⊢
  have l1 := code_len1 (Vq_len h0).1
  have l2 := code_len1 (Vq_len h0).2
  repeat first|refine wp_seq ?_|refine wp_block ?_|refine wp_skip ?_|refine wp_exit ?_
  refine rg (BT := []) (Vl := [VT, VEq (.slice none 0 0)]) (B := [⟨1, some 0, some 0, 27, 4, Vq N (q), VT⟩]) (SL' := [(2, VEq (.slice none 0 0))]) st0 ⟨ks, ks, trivial⟩ ?_
  intro a1 w1 st1
  clear st0
  repeat first|refine wp_seq ?_|refine wp_block ?_|refine wp_skip ?_|refine wp_exit ?_
  have : Sb [] (VBy w.heap.size (encIs (codeL ((q).num)))) := ⟨Stab_VBy (by simp)⟩
  have : Sb [] (VBy w.heap.size (encIs (codeL (qd (q))))) := ⟨Stab_VBy (by simp)⟩
  replace st1 : St w.heap.size w 10 [⟨1, none, none, 27, 4, Vq N (q), VT⟩] [(2, VEq (.slice none 0 0))] a1 w1 := st1
  refine rgT (Vl := [Vpt a1 1 0, Vz N ((q).num), VBy w.heap.size (encIs (codeL ((q).num))), Vpt a1 1 2, Vz N (qd (q)), VBy w.heap.size (encIs (codeL (qd (q))))]) (k := 6) (A := VBy w.heap.size (encIs (codeL q.num) ++ encIs (codeL (qd q)))) (SL' := []) st1 ⟨ks, ks, ?s2, ks, ks, ?s5, trivial⟩ rfl rfl rfl rfl rfl rfl rfl rfl (by kernel_rfl) (by kernel_rfl) ?tail ?_ (by kernel_rfl)
  case s2 => refine kc fun _ ac Wd h hd => ?_; obtain ⟨v0, hv0, hV0⟩ := h.dp hd 4; exact ⟨#[v0], by simp [hv0], cEncodeO (show Vz N ((q).num) v0 Wd from hV0) (by omega) h.n⟩
  case s5 => refine kc fun _ ac Wd h hd => ?_; obtain ⟨v0, hv0, hV0⟩ := h.dp hd 7; exact ⟨#[v0], by simp [hv0], cEncodeO (show Vz N (qd (q)) v0 Wd from hV0) (by omega) h.n⟩
  case tail =>
    intro _ ac Wd h hd
    obtain ⟨v0, hv0, hV0⟩ := h.dp hd 5
    obtain ⟨v1, hv1, hV1⟩ := h.dp hd 8
    exact app_By rfl hv0 hV0 hv1 hV1 (by unfold encIs; rw [List.length_append]; have := enc_pos ((codeL (qd q)).length : Int); omega) (by omega) h.n
  intro a2 w2 st2
  clear st1
  repeat first|refine wp_seq ?_|refine wp_block ?_|refine wp_skip ?_|refine wp_exit ?_
  obtain ⟨vr, r1, r4⟩ := st2.slot (2, VBy w.heap.size (encIs (codeL q.num) ++ encIs (codeL (qd q)))) (.head _)
  exact wp_ret (bodyPost_ret (results_tmp rfl _ _ _) st2.defers ⟨_, congrArg Ending.returned (show _ = vr from r1), r4, st2.k.below⟩)
end Go.Proofs.YtleijkgdpmfabaaGreatDoor
