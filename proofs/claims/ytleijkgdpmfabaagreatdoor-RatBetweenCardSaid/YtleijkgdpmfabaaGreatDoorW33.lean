/- Contracts of the package integer and its reference: Slices that are read: their parts and elements. Boxes of one cell; closures. The closure of rat.least. -/
import Derived.Test.YtleijkgdpmfabaaGreatDoorW32
import Derived.Great.BuildSlice
set_option linter.unusedVariables false
namespace Go.Proofs.YtleijkgdpmfabaaGreatDoor
open Go Go.RowKit
def VSl {α : Type} (T : TypeId) (k : Nat) (E : α → VP) (xs : List α) : VP := fun v w => ∃ h o c cs, v = .slice (some ⟨h, o, none⟩) xs.length c ∧ xs.length ≤ c ∧ c ≤ 9223372036854775807 ∧ w.heap[h]? = some (.cells cs T (0, 0)) ∧ o + k * xs.length ≤ cs.size ∧ ∀ i x, xs[i]? = some x → E x (.agg (cs.extract (o + k * i) (o + k * i + k))) w
def VEp (T : TypeId) (k : Nat) (A : VP) : VP := fun v w => ∃ h off cs, v = .pointer (some ⟨h, off, none⟩) ∧ w.heap[h]? = some (.cells cs T (0, 0)) ∧ off + k ≤ cs.size ∧ A (.agg (cs.extract off (off + k))) w
theorem add_lit0 (b o j : Nat) : (⟨b, o, none⟩ : Addr).add j = ⟨b, o + j, none⟩ := by unfold Addr.add; split <;> simp_all
section
variable {BT : List (TypeId × Nat × Nat)} {α : Type} {T : TypeId} {k : Nat} {E : α → VP} {xs : List α} {w W : World} {v : Value} {A : VP}
theorem VSl_later (hE : ∀ x, Stab [] (E x)) (h : VSl T k E xs v w) (hb : Below w.heap.size w W) : VSl T k E xs v W := by
  obtain ⟨hh, o, c, cs, e1, e2, e3, e4, e5, e6⟩ := h
  exact ⟨hh, o, c, cs, e1, e2, e3, (hb.block _ (lt_blk e4)).trans e4, e5, fun i x hx => hE x _ _ _ (e6 i x hx) (RI.of_below hb)⟩
theorem VRx_sl (hxs : xs ≠ []) {lo : Nat} (h : VRx T k E lo xs v w) : VSl T k E xs v w := by
  obtain ⟨g, c, h1, h2, h3, h4, h5, (⟨h6, -⟩ | ⟨h6, rfl, cs, q1, q2, q3, _, q4, q5⟩)⟩ := h
  · omega
  · cases q4
    refine ⟨g, 0, c, cs, rfl, h3, h4, q1, ?_, fun i x hx => by rw [Nat.zero_add]; exact q5 i x hx⟩
    rw [Nat.zero_add, q2]; exact Nat.mul_le_mul_left k h3
theorem VSl_el (h : VSl T k E xs v w) {i : Nat} {x : α} (hx : xs[i]? = some x) : ∃ b o c, v = .slice (some ⟨b, o, none⟩) xs.length c ∧ VEp T k (E x) (.pointer (some ⟨b, o + k * i, none⟩)) w := by
  obtain ⟨hh, o, c, cs, e1, e2, e3, e4, e5, e6⟩ := h
  have hi : i < xs.length := by
    rcases Nat.lt_or_ge i xs.length with h' | h'
    · exact h'
    · rw [List.getElem?_eq_none h'] at hx; cases hx
  have hle : k * i + k ≤ k * xs.length := by rw [← Nat.mul_succ]; exact Nat.mul_le_mul_left k hi
  exact ⟨hh, o, c, e1, hh, _, cs, rfl, e4, by omega, e6 i x hx⟩
theorem load_Ep {ρ : Operand → Value} {o : Oper} {x : Operand} {va : Value} {d : TypeDesc} (ho : o.op = .load T x) (hx : ρ x = va) (h : VAt w (VEp T k A) va W) (hb : Below w.heap.size w W) (hA : Stab [] A) (hu : Tryz.prog.underlying T = some d) (hd : aggT d = true) (hi : (Tryz.prog.info? T).map (·.size) = some k) : ∃ v, (execOp ρ o).run Tryz.prog W = .ok (.value v) W ∧ A v W := by
  obtain ⟨g, off, cs, rfl, e2, e3, e4⟩ := h
  refine ⟨_, ?_, hA _ _ _ e4 (RI.of_below hb)⟩
  have e5 := (hb.block _ (lt_blk e2)).trans e2
  unfold execOp
  simp only [ho, hx, Instr.loadAt, Instr.sureAddr, Sem.run_bind, Sem.run_pure, Result.andThen_ok, run_loadVar_part W g off k T T cs (0, 0) d e5 e3 hu hd hi]
end
section
variable {ρ : Operand → Value} {o : Oper} {W w : World} {x y : Operand} {va vb : Value} {α : Type} {E : α → VP} {xs : List α}
theorem len_SlInt (ho : o.op = .call { callee := .builtin .len, args := #[x], argTypes := #[101] }) (hty : o.type = 3) (hx : ρ x = va) (h : VAt w (VSl 24 2 E xs) va W) : ∃ v, (execOp ρ o).run Tryz.prog W = .ok (.value v) W ∧ Vi (xs.length : Int) v W := by
  obtain ⟨hh, oo, c, cs, rfl, -⟩ := h
  refine ⟨.int .i64 (xs.length : Int), ?_, rfl⟩
  obtain ⟨dd, op, ty, ps, af, gd⟩ := o
  subst ho
  simp only at hty
  subst hty
  go_simp
theorem index0_SlInt {z : α} (ho : o.op = .indexAddr 101 x (.const (.int .i64 0))) (hc : ρ (.const (.int .i64 0)) = .int .i64 0) (hx : ρ x = va) (h : VAt w (VSl 24 2 E [z]) va W) : ∃ v, (execOp ρ o).run Tryz.prog W = .ok (.value v) W ∧ VAt w (VEp 24 2 (E z)) v W := by
  obtain ⟨b, off, c, rfl, h2⟩ := VSl_el h (i := 0) (x := z) rfl
  refine ⟨.pointer (some ⟨b, off + 2 * 0, none⟩), ?_, h2⟩
  obtain ⟨dd, op, ty, ps, af, gd⟩ := o
  subst ho
  clear h h2
  go_simp
theorem drop_SlInt {n : Nat} (ho : o.op = .slice 101 x (some y) none none) (hx : ρ x = va) (h : VAt w (VSl 24 2 E xs) va W) (hy : ρ y = vb) (hn : Vi (n : Int) vb W) (hlt : n < xs.length) : ∃ v, (execOp ρ o).run Tryz.prog W = .ok (.value v) W ∧ VAt w (VSl 24 2 E (xs.drop n)) v W := by
  obtain ⟨hh, oo, c, cs, rfl, e2, e3, e4, e5, e6⟩ := h
  obtain rfl : vb = _ := hn
  have hl : (xs.drop n).length = xs.length - n := List.length_drop
  refine ⟨.slice (some ⟨hh, oo + 2 * n, none⟩) (xs.drop n).length (c - n), ?_, ⟨hh, oo + 2 * n, c - n, cs, rfl, by omega, by omega, e4, by omega, fun i z hz => ?_⟩⟩
  · rw [hl]
    have q1 : (n : Int) ≤ (xs.length : Int) := by omega
    have q2 : (n : Int) ≤ (c : Int) := by omega
    have q3 : (xs.length : Int) ≤ (c : Int) := by omega
    have q4 : ¬ c = n := by omega
    have q5 : n * 2 = 2 * n := Nat.mul_comm _ _
    clear hl e6 e5 e4 e2 e3 hlt
    generalize xs.length = m at *
    obtain ⟨dd, op, ty, ps, af, gd⟩ := o
    subst ho
    go_simp
  · rw [List.getElem?_drop] at hz
    have := e6 _ _ hz
    rw [show oo + 2 * n + 2 * i = oo + 2 * (n + i) by omega]
    exact this
theorem take_SlInt {n : Nat} (ho : o.op = .slice 101 x none (some y) none) (hx : ρ x = va) (h : VAt w (VSl 24 2 E xs) va W) (hy : ρ y = vb) (hn : Vi (n : Int) vb W) (hlt : n < xs.length) : ∃ v, (execOp ρ o).run Tryz.prog W = .ok (.value v) W ∧ VAt w (VSl 24 2 E (xs.take n)) v W := by
  obtain ⟨hh, oo, c, cs, rfl, e2, e3, e4, e5, e6⟩ := h
  obtain rfl : vb = _ := hn
  have hl : (xs.take n).length = n := by rw [List.length_take]; omega
  refine ⟨.slice (some ⟨hh, oo, none⟩) (xs.take n).length c, ?_, ⟨hh, oo, c, cs, rfl, by omega, by omega, e4, by omega, fun i z hz => ?_⟩⟩
  · rw [hl]
    have q1 : (n : Int) ≤ (xs.length : Int) := by omega
    have q2 : (n : Int) ≤ (c : Int) := by omega
    have q3 : (xs.length : Int) ≤ (c : Int) := by omega
    have q4 : ¬ c = 0 := by omega
    clear hl e6 e5 e4 e2 e3 hlt
    generalize xs.length = m at *
    obtain ⟨dd, op, ty, ps, af, gd⟩ := o
    subst ho
    go_simp
  · rw [List.getElem?_take] at hz
    split at hz
    · exact e6 _ _ hz
    · cases hz
end
open Go Go.RowKit
def VC1 (A : VP) : VP := fun v w => ∃ x, v = .agg #[x] ∧ A x w
class O1 (A : VP) : Prop where
  out : ∀ v w, A v w → v.oneCell' = true ∧ (∀ x, v ≠ .int .i64 x) ∧ v.cells = #[v]
section
variable {md : Region.Mode} {ops : Array Oper} {Q : Exit → Act → World → Prop} {a0 : Act} {Vl : List VP} {n0 : Nat} {w0 : World} {B : List Bd} {SL : List (Nat × VP)} {BT : List (TypeId × Nat × Nat)} {A : VP}
instance [hA : Sb BT A] : Sb BT (VC1 A) := ⟨fun _ _ _ ⟨x, h1, h2⟩ hr => ⟨x, h1, hA.out _ _ _ h2 hr⟩⟩
theorem noInt1 {v : Value} (h : ∀ x, v ≠ .int .i64 x) : NoInt #[v] := fun i x hi => by
  match i with
  | 0 => simp at hi; exact h x hi
  | i + 1 => simp at hi
theorem k_store1_ {i t s : Nat} {o : Oper} {T : TypeId} {b : Bd} [hB : SbB BT B] (ho : o.op = .store T (.tmp t) (.tmp s)) (hds : o.dst = none) (hb : gB B (iB B t) = some b) (hbt : b.t = t) (hT : b.T = T) (hik : b.ik = some i) (hm : b.m = 1) (hP : b.P = VC1 A) [h1 : O1 A] (hsz : (Tryz.prog.info? T).map (·.size) = some 1) (hV : GV Vl i = VT)
    (hq : quietB (B.take (iB B t) ++ B.drop (iB B t + 1)) i none = true) (hts : (B.take (iB B t) ++ B.drop (iB B t + 1)).all (fun c => c.t != t) = true) (hia : (b.ia != some i) = true) (hBT : BT.any (fun e => e.1 == T && e.2.1 == b.m && e.2.2 == 0) = true) (hNP : BT.all (fun e => e.1 != T || e.2.1 != 0) = true) (hon : b.ia = none ∨ ∃ j, b.ia = some j ∧ o.after.any (fun e => e.on == j && Region.binds md e) = true) (hx : KnS md ops Vl SL o s A) (hg : GOk md ops Vl o) : KStep BT Tryz.prog md ops Q a0 (GV Vl) n0 w0 B SL i o := by
  subst hbt hT
  intro listed a w h hd _ hil _ K hK
  rw [if_pos (wanted_of (hg.get h hd))]
  obtain ⟨v, hv, hVv⟩ := hx.get h hd
  obtain ⟨o1, o2, o3⟩ := h1.out _ _ hVv
  have hon' : onb listed b.ia = true := by
    rcases hon with h1 | ⟨j, h1, h2⟩
    · rw [h1]; rfl
    · rw [h1]; exact listed_dep hd j h2
  obtain ⟨g, old, e1, e2, e3, hr, hks⟩ := h.k.store (v := undef) (gB_split hb) hq hon' (by simpa using hia) hik hil (fun g' _ => Mw_of hBT hNP) hB.out #[v] (by rw [hm]; rfl) (noInt1 o2) (by rw [hP]; exact ⟨v, rfl, hVv⟩) (fun c hc => by
    rw [List.all_eq_true] at hts
    simpa using hts c hc)
  obtain ⟨u, rfl⟩ : ∃ u, old = #[u] := by
    obtain ⟨l⟩ := old
    match l, e3 with
    | [u], _ => exact ⟨u, rfl⟩
  have hvp : a.eval (.tmp b.t) = .pointer (some ⟨g, 0, none⟩) := by simp [Act.eval, Array.getD_eq_getD_getElem?, e1]
  unfold Oper.wp execOp
  simp only [ho, hvp, hv, Instr.storeAt, Instr.sureAddr, Sem.run_bind, Sem.run_pure, Result.andThen_ok, run_storeVar_one w g b.T b.T u _ e2 hsz o1]
  rw [hds] at hK
  show K (a.put o.dst undef) _
  rw [hds]
  exact hK _ _ hks hr (by rw [hV]; trivial)
theorem St.ptrB {N : Nat} {L : List Bd} {a : Act} {w : World} (h : St n0 w0 N L SL a w) (t : Nat) {b : Bd} (hb : gB L (iB L t) = some b) (hbt : b.t = t) (hia : b.ia = none) : ∃ g, n0 ≤ g ∧ St n0 w0 N L ((t, VEq (.pointer (some ⟨g, 0, none⟩))) :: SL) a w := by
  subst hbt
  obtain ⟨g, cs, f1, f2, f3, -⟩ := h.k.ok b (gB_mem hb) (by rw [hia]; rfl)
  exact ⟨g, f2, h.k, h.n, h.size, h.defers, List.forall_mem_cons.2 ⟨⟨_, f1, rfl⟩, h.sl⟩⟩
end
instance (f : FuncId) (x y : Array Value) : O1 (VEq (.func (.func f) x y)) := ⟨fun v w h => by obtain rfl : v = _ := h; exact ⟨rfl, (fun _ e => by cases e), rfl⟩⟩
section
variable {ρ : Operand → Value} {o : Oper} {W : World} {x y1 y2 y3 : Operand} {va vb vc vd : Value} {f : FuncId}
theorem run_mkfn1 (ho : o.op = .makeFunc (.func f) #[] #[x]) (hx : ρ x = va) : (execOp ρ o).run Tryz.prog W = .ok (.value (.func (.func f) #[] #[va])) W := by
  obtain ⟨dd, op, ty, ps, af, gd⟩ := o
  subst ho
  unfold execOp
  simp only [Sem.run_bind]
  rw [show (Instr.makeFunc (.func f) (#[].map ρ) (#[x].map ρ)).run Tryz.prog W = .ok (.func (.func f) (#[].map ρ) (#[x].map ρ)) W from rfl]
  simp [Result.andThen, hx]
end
open Go.RowKit
instance iAlFn : AlT 100 1 := ⟨#[.nilFunc], fun W => by kernel_rfl, rfl, noint_of (by simp)⟩
instance iCeFn : CeT 100 := ⟨_, Tryz.underlying100, rfl⟩
def VFp : VP := fun v w => ∃ g, v = .pointer (some ⟨g, 0, none⟩) ∧ w.heap[g]? = some (.cells #[.func (.func 126) #[] #[.pointer (some ⟨g, 0, none⟩)]] 100 (0, 0))
def VFn2 : VP := fun v w => ∃ u, v = .func (.func 126) #[] #[u] ∧ VFp u w
theorem Stab_VFp {BT : List (TypeId × Nat × Nat)} (hn : ∀ e ∈ BT, e.1 ≠ 100) : Stab BT VFp := fun _ _ _ ⟨g, h1, h2⟩ hr => ⟨g, h1, (hr.row g _ _ h2 (.inl fun e he q => absurd q (hn e he))).trans h2⟩
theorem Stab_VFn2 {BT : List (TypeId × Nat × Nat)} (hn : ∀ e ∈ BT, e.1 ≠ 100) : Stab BT VFn2 := fun _ _ _ ⟨u, h1, h2⟩ hr => ⟨u, h1, Stab_VFp hn _ _ _ h2 hr⟩
def fld (xs : List Int) (P Q : Int) : Int × Int := xs.foldr (fun x r => (x * r.1 + r.2, r.1)) (P, Q)
theorem fld_split (xs : List Int) (n : Nat) (P Q : Int) : fld (xs.take n) (fld (xs.drop n) P Q).1 (fld (xs.drop n) P Q).2 = fld xs P Q := by
  unfold fld
  rw [← List.foldr_append, List.take_append_drop]
section
variable {ρ : Operand → Value} {o : Oper} {W w : World} {x y1 y2 y3 : Operand} {va vb vc vd : Value} {ats : Array TypeId}
theorem run_clos3 (ho : o.op = .call { callee := .value x, args := #[y1, y2, y3], argTypes := ats }) (hx : ρ x = .func (.func 126) #[] #[va]) (h1 : ρ y1 = vb) (h2 : ρ y2 = vc) (h3 : ρ y3 = vd) : (execOp ρ o).run Tryz.prog W = .ok (.enter 126 #[vb, vc, vd, va]) W := by
  obtain ⟨dd, op, ty, ps, af, gd⟩ := o
  subst ho
  go_simp
theorem load_Fp (ho : o.op = .load 100 x) (hx : ρ x = va) (h : VAt w VFp va W) (hb : Below w.heap.size w W) : ∃ v, (execOp ρ o).run Tryz.prog W = .ok (.value v) W ∧ VAt w VFn2 v W := by
  obtain ⟨g, rfl, h2⟩ := h
  have h3 := (hb.block _ (lt_blk h2)).trans h2
  have hcell : W.cell? ⟨g, 0, none⟩ = some (.func (.func 126) #[] #[.pointer (some ⟨g, 0, none⟩)]) := by simp [World.cell?, h3]
  refine ⟨_, ?_, ⟨_, rfl, g, rfl, h2⟩⟩
  obtain ⟨dd, op, ty, ps, af, gd⟩ := o
  subst ho
  go_simp
end
set_option maxRecDepth 100000 in
set_option maxHeartbeats 1600000 in
theorem cBefore1 {w : World} {xs : List Int} {Ne K M : Nat} {P Q : Int} {v0 v1 v2 v3 : Value} (h0 : VAt w (VSl 24 2 (Vz Ne) (xs)) v0 w) (h1 : Vz K (P) v1 w) (h2 : Vz K (Q) v2 w) (h3 : VAt w (VFp) v3 w) (hx0 : 0 < xs.length) (hxl : xs.length ≤ 1000000) (hM : K + (Ne + 2) * xs.length ≤ M) (hMM : M ≤ 1000000) (ih : ∀ (ys : List Int), 0 < ys.length → ys.length < xs.length → ∀ (W : World) (K M : Nat) (P Q : Int) (va vb vc vd : Value), VSl 24 2 (Vz Ne) ys va W → Vz K P vb W → Vz K Q vc W → VFp vd W → K + (Ne + 2) * ys.length ≤ M → M ≤ 1000000 → Calls Tryz.prog 126 #[va, vb, vc, vd] W (RV (VTup (Vz M (fld ys P Q).1) (Vz M (fld ys P Q).2)) W)) : Calls Tryz.prog 126 #[v0, v1, v2, v3] w (RV (VTup (Vz M (fld xs P Q).1) (Vz M (fld xs P Q).2)) w) := by
  go_enter Tryz.func126, Tryz.ntmps126
  have st0 : St w.heap.size w 43 [] [(0, VAt w (VSl 24 2 (Vz Ne) (xs))), (1, Vz K (P)), (2, Vz K (Q)), (3, VAt w (VFp))] _ w := St.begin (a := ⟨#[v0, v1, v2, v3, undef, undef, undef, undef, undef, undef, undef, undef, undef, undef, undef, undef, undef, undef, undef, undef, undef, undef, undef, undef, undef, undef, undef, undef, undef, undef, undef, undef, undef, undef, undef, undef, undef, undef, undef, undef, undef, undef, undef], []⟩) rfl rfl (List.forall_mem_cons.2 ⟨⟨_, rfl, h0⟩, (List.forall_mem_cons.2 ⟨⟨_, rfl, h1⟩, (List.forall_mem_cons.2 ⟨⟨_, rfl, h2⟩, (List.forall_mem_cons.2 ⟨⟨_, rfl, h3⟩, (fun _ h => absurd h (by simp))⟩)⟩)⟩)⟩)
  generalize (⟨#[v0, v1, v2, v3, undef, undef, undef, undef, undef, undef, undef, undef, undef, undef, undef, undef, undef, undef, undef, undef, undef, undef, undef, undef, undef, undef, undef, undef, undef, undef, undef, undef, undef, undef, undef, undef, undef, undef, undef, undef, undef, undef, undef], []⟩ : Act) = a0 at st0 ⊢
  have hM0 : K ≤ M := by omega
  repeat first|refine wp_seq ?_|refine wp_block ?_|refine wp_skip ?_|refine wp_exit ?_
  refine rg (BT := [(24, 2, 0)]) (Vl := [VT, VT, VT, VT]) (B := [⟨5, some 0, some 0, 24, 2, Vz K (P), VT⟩, ⟨6, some 1, some 1, 24, 2, Vz K (Q), VT⟩, ⟨7, some 2, none, 24, 2, VT, VT⟩, ⟨8, some 3, none, 24, 2, VT, VT⟩]) (SL' := [(0, VAt w (VSl 24 2 (Vz Ne) (xs))), (3, VAt w (VFp))]) st0 ⟨ks, ks, ks, ks, trivial⟩ ?_
  intro a1 w1 st1
  clear st0
  by_cases h1 : xs.length = 1
  ·
    repeat first|refine wp_seq ?_|refine wp_block ?_|refine wp_skip ?_|refine wp_exit ?_
    refine rg (BT := [(24, 2, 0)]) (Vl := [VAt w (VSl 24 2 (Vz Ne) (xs)), Vi ((xs.length : Int)), Vb (true)]) (B := [⟨5, none, none, 24, 2, Vz K (P), VT⟩, ⟨6, none, none, 24, 2, Vz K (Q), VT⟩, ⟨7, none, none, 24, 2, VT, VT⟩, ⟨8, none, none, 24, 2, VT, VT⟩]) (SL' := [(0, VAt w (VSl 24 2 (Vz Ne) (xs))), (3, VAt w (VFp)), (12, Vb (true))]) st1 ⟨ks, ?s1, ?s2, trivial⟩ ?_
    case s1 => refine kr fun _ ac Wd h hd => ?_; obtain ⟨v0, hv0, hV0⟩ := h.dp hd 10; exact len_SlInt rfl rfl hv0 hV0
    case s2 =>
      refine kr fun _ ac Wd h hd => ?_
      obtain ⟨v0, hv0, hV0⟩ := h.dp hd 11
      have hV0' : v0 = .int .i64 ((xs.length : Int)) := hV0
      exact ⟨_, run_eqi rfl (hv0.trans hV0') rfl, congrArg Value.bool (by rw [h1]; rfl)⟩
    intro a2 w2 st2
    clear st1
    repeat first|refine wp_seq ?_|refine wp_block ?_|refine wp_skip ?_|refine wp_exit ?_
    obtain ⟨vc, hc1, hc2⟩ := st2.slot (12, Vb (true)) (.tail _ (.tail _ (.head _)))
    refine wp_cond_true (hc1.trans hc2) ?_
    clear hc1 hc2
    obtain ⟨zz, rfl⟩ : ∃ zz, xs = [zz] := List.length_eq_one_iff.1 h1
    replace st2 : St w.heap.size w 43 [⟨5, none, none, 24, 2, Vz K (P), VT⟩, ⟨6, none, none, 24, 2, Vz K (Q), VT⟩, ⟨7, none, none, 24, 2, VT, VT⟩, ⟨8, none, none, 24, 2, VT, VT⟩] [(0, VAt w (VSl 24 2 (Vz Ne) ([zz]))), (3, VAt w (VFp)), (12, Vb (true))] a2 w2 := st2
    replace hM : K + (Ne + 2) * 1 ≤ M := hM
    repeat first|refine wp_seq ?_|refine wp_block ?_|refine wp_skip ?_|refine wp_exit ?_
    refine rg (BT := [(24, 2, 0)]) (Vl := [VAt w (VSl 24 2 (Vz Ne) ([zz])), VAt w (VEp 24 2 (Vz Ne (zz))), Vz Ne (zz), Vz K (P), Vz (Ne + K) ((zz) * (P)), Vz K (Q), Vz (max (Ne + K) K + 1) (((zz) * (P)) + (Q)), Vz K (P), VT, VT]) (B := [⟨5, none, none, 24, 2, Vz K (P), VT⟩, ⟨6, none, none, 24, 2, Vz K (Q), VT⟩, ⟨7, none, some 8, 24, 2, Vz (max (Ne + K) K + 1) (((zz) * (P)) + (Q)), VT⟩, ⟨8, none, some 9, 24, 2, Vz K (P), VT⟩]) (SL' := [(0, VAt w (VSl 24 2 (Vz Ne) ([zz]))), (3, VAt w (VFp)), (12, Vb (true))]) st2 ⟨ks, ?s1, ?s2, ks, ?s4, ks, ?s6, ks, ks, ks, trivial⟩ ?_
    case s1 => refine kr fun _ ac Wd h hd => ?_; obtain ⟨v0, hv0, hV0⟩ := h.dp hd 13; exact index0_SlInt (E := Vz Ne) (z := zz) rfl (by simp [eval_const]) hv0 hV0
    case s2 => refine kr fun _ ac Wd h hd => ?_; obtain ⟨v0, hv0, hV0⟩ := h.dp hd 14; exact load_Ep rfl hv0 hV0 h.k.below (Stab_Vz _ _) Tryz.underlying24 rfl size_Int
    case s4 =>
      refine kc fun _ ac Wd h hd => ?_
      obtain ⟨v0, hv0, hV0⟩ := h.dp hd 15
      obtain ⟨v1, hv1, hV1⟩ := h.dp hd 16
      exact ⟨#[v0, v1], by simp [hv0, hv1], (cMul (show Vz Ne (zz) v0 Wd from hV0) (show Vz K (P) v1 Wd from hV1) (by omega) (by omega))⟩
    case s6 =>
      refine kc fun _ ac Wd h hd => ?_
      obtain ⟨v0, hv0, hV0⟩ := h.dp hd 17
      obtain ⟨v1, hv1, hV1⟩ := h.dp hd 18
      exact ⟨#[v0, v1], by simp [hv0, hv1], (cAdd (show Vz (Ne + K) ((zz) * (P)) v0 Wd from hV0) (show Vz K (Q) v1 Wd from hV1) (by omega) (by omega))⟩
    intro a3 w3 st3
    clear st2
    repeat first|refine wp_seq ?_|refine wp_block ?_|refine wp_skip ?_|refine wp_exit ?_
    obtain ⟨g, cs, r1, r2, r3, r4, r5⟩ := st3.res ⟨7, none, none, 24, 2, Vz (max (Ne + K) K + 1) (((zz) * (P)) + (Q)), VT⟩ (.tail _ (.tail _ (.head _))) rfl rfl
    obtain ⟨g2, cs2, p1, p2, p3, p4, p5⟩ := st3.res ⟨8, none, none, 24, 2, Vz K (P), VT⟩ (.tail _ (.tail _ (.tail _ (.head _)))) rfl rfl
    exact wp_ret (bodyPost_ret (results_cell2 rfl _ _ g g2 24 cs cs2 (0, 0) (0, 0) _ r1 p1 r2 p2 Tryz.underlying24 rfl (by rw [r3]; exact size_Int) (by rw [p3]; exact size_Int)) st3.defers ⟨_, rfl, ⟨_, _, rfl, Vz_le r4 (by omega), Vz_le p4 hM0⟩, r5⟩)
  ·
    repeat first|refine wp_seq ?_|refine wp_block ?_|refine wp_skip ?_|refine wp_exit ?_
    refine rg (BT := [(24, 2, 0)]) (Vl := [VAt w (VSl 24 2 (Vz Ne) (xs)), Vi ((xs.length : Int)), Vb (false)]) (B := [⟨5, none, none, 24, 2, Vz K (P), VT⟩, ⟨6, none, none, 24, 2, Vz K (Q), VT⟩, ⟨7, none, none, 24, 2, VT, VT⟩, ⟨8, none, none, 24, 2, VT, VT⟩]) (SL' := [(0, VAt w (VSl 24 2 (Vz Ne) (xs))), (3, VAt w (VFp)), (12, Vb (false))]) st1 ⟨ks, ?s1, ?s2, trivial⟩ ?_
    case s1 => refine kr fun _ ac Wd h hd => ?_; obtain ⟨v0, hv0, hV0⟩ := h.dp hd 10; exact len_SlInt rfl rfl hv0 hV0
    case s2 =>
      refine kr fun _ ac Wd h hd => ?_
      obtain ⟨v0, hv0, hV0⟩ := h.dp hd 11
      have hV0' : v0 = .int .i64 ((xs.length : Int)) := hV0
      exact ⟨_, run_eqi rfl (hv0.trans hV0') rfl, congrArg Value.bool (by rw [beq_eq_false_iff_ne]; omega)⟩
    intro a2 w2 st2
    clear st1
    repeat first|refine wp_seq ?_|refine wp_block ?_|refine wp_skip ?_|refine wp_exit ?_
    obtain ⟨vc, hc1, hc2⟩ := st2.slot (12, Vb (false)) (.tail _ (.tail _ (.head _)))
    refine wp_cond_false (hc1.trans hc2) ?_
    clear hc1 hc2
    repeat first|refine wp_seq ?_|refine wp_block ?_|refine wp_skip ?_|refine wp_exit ?_
    refine rg (BT := [(24, 2, 0)]) (Vl := [VAt w (VSl 24 2 (Vz Ne) (xs)), Vi ((xs.length : Int)), Vi (((xs.length / 2 : Nat) : Int)), Vi (((xs.length / 2 : Nat) : Int))]) (B := [⟨5, none, none, 24, 2, Vz K (P), VT⟩, ⟨6, none, none, 24, 2, Vz K (Q), VT⟩, ⟨7, none, none, 24, 2, VT, VT⟩, ⟨8, none, none, 24, 2, VT, VT⟩]) (SL' := [(0, VAt w (VSl 24 2 (Vz Ne) (xs))), (3, VAt w (VFp)), (12, Vb (false)), (9, Vi (((xs.length / 2 : Nat) : Int)))]) st2 ⟨ks, ?s1, ?s2, ks, trivial⟩ ?_
    case s1 => refine kr fun _ ac Wd h hd => ?_; obtain ⟨v0, hv0, hV0⟩ := h.dp hd 21; exact len_SlInt rfl rfl hv0 hV0
    case s2 =>
      refine kr fun _ ac Wd h hd => ?_
      obtain ⟨v0, hv0, hV0⟩ := h.dp hd 22
      have hV0' : v0 = .int .i64 ((xs.length : Int)) := hV0
      exact ⟨_, run_quoi rfl (hv0.trans hV0') rfl ⟨by omega, by omega⟩ (by omega), congrArg (Value.int .i64) (by omega)⟩
    intro a3 w3 st3
    clear st2
    obtain ⟨M1, hM1⟩ : ∃ M1, K + (Ne + 2) * (xs.drop (xs.length / 2)).length = M1 := ⟨_, rfl⟩
    have hM2 : M1 + (Ne + 2) * (xs.take (xs.length / 2)).length ≤ M := by
      rw [← hM1, Nat.add_assoc, ← Nat.mul_add, ← List.length_append]
      have : (xs.drop (xs.length / 2) ++ xs.take (xs.length / 2)).length = xs.length := by simp; omega
      rw [this]; exact hM
    repeat first|refine wp_seq ?_|refine wp_block ?_|refine wp_skip ?_|refine wp_exit ?_
    refine rg (BT := [(24, 2, 0)]) (Vl := [VAt w (VFn2), VAt w (VSl 24 2 (Vz Ne) (xs)), Vi (((xs.length / 2 : Nat) : Int)), VAt w (VSl 24 2 (Vz Ne) (xs.drop (xs.length / 2))), Vz K (P), Vz K (Q), VTup (Vz M1 ((fld (xs.drop (xs.length / 2)) (P) (Q)).1)) (Vz M1 ((fld (xs.drop (xs.length / 2)) (P) (Q)).2)), VTup (Vz M1 ((fld (xs.drop (xs.length / 2)) (P) (Q)).1)) (Vz M1 ((fld (xs.drop (xs.length / 2)) (P) (Q)).2)), Vz M1 ((fld (xs.drop (xs.length / 2)) (P) (Q)).1), Vz M1 ((fld (xs.drop (xs.length / 2)) (P) (Q)).2), VT, VT]) (B := [⟨5, none, some 10, 24, 2, Vz M1 ((fld (xs.drop (xs.length / 2)) (P) (Q)).1), Vz K (P)⟩, ⟨6, none, some 11, 24, 2, Vz M1 ((fld (xs.drop (xs.length / 2)) (P) (Q)).2), Vz K (Q)⟩, ⟨7, none, none, 24, 2, VT, VT⟩, ⟨8, none, none, 24, 2, VT, VT⟩]) (SL' := [(0, VAt w (VSl 24 2 (Vz Ne) (xs))), (3, VAt w (VFp)), (12, Vb (false)), (9, Vi (((xs.length / 2 : Nat) : Int)))]) st3 ⟨?s0, ks, ks, ?s3, ks, ks, ?s6, ks, ks, ks, ks, ks, trivial⟩ ?_
    case s0 => refine kr fun _ ac Wd h hd => ?_; obtain ⟨v0, hv0, hV0⟩ := h.ot 3; exact load_Fp rfl hv0 hV0 h.k.below
    case s3 => refine kr fun _ ac Wd h hd => ?_; obtain ⟨v0, hv0, hV0⟩ := h.dp hd 26; obtain ⟨v1, hv1, hV1⟩ := h.dp hd 27; exact drop_SlInt (n := xs.length / 2) rfl hv0 hV0 hv1 hV1 (by omega)
    case s6 =>
      refine ke fun _ ac Wd h hd => ?_
      obtain ⟨v0, hv0, hV0⟩ := h.dp hd 25
      obtain ⟨v1, hv1, hV1⟩ := h.dp hd 28
      obtain ⟨v2, hv2, hV2⟩ := h.dp hd 29
      obtain ⟨v3, hv3, hV3⟩ := h.dp hd 30
      obtain ⟨uu, rfl, hu⟩ := hV0
      exact ⟨_, _, run_clos3 rfl hv0 hv1 hv2 hv3, ih (xs.drop (xs.length / 2)) (by simp; omega) (by simp; omega) Wd K M1 _ _ _ _ _ _ (VSl_later (fun x => Stab_Vz _ _) hV1 h.k.below) hV2 hV3 (Stab_VFp (BT := []) (by simp) _ _ _ hu (RI.of_below h.k.below)) (by omega) (by omega)⟩
    intro a4 w4 st4
    clear st3
    repeat first|refine wp_seq ?_|refine wp_block ?_|refine wp_skip ?_|refine wp_exit ?_
    refine rg (BT := [(24, 2, 0)]) (Vl := [VAt w (VFn2), VAt w (VSl 24 2 (Vz Ne) (xs)), Vi (((xs.length / 2 : Nat) : Int)), VAt w (VSl 24 2 (Vz Ne) (xs.take (xs.length / 2))), Vz M1 ((fld (xs.drop (xs.length / 2)) (P) (Q)).1), Vz M1 ((fld (xs.drop (xs.length / 2)) (P) (Q)).2), VTup (Vz M ((fld (xs.take (xs.length / 2)) ((fld (xs.drop (xs.length / 2)) (P) (Q)).1) ((fld (xs.drop (xs.length / 2)) (P) (Q)).2)).1)) (Vz M ((fld (xs.take (xs.length / 2)) ((fld (xs.drop (xs.length / 2)) (P) (Q)).1) ((fld (xs.drop (xs.length / 2)) (P) (Q)).2)).2)), Vz M ((fld (xs.take (xs.length / 2)) ((fld (xs.drop (xs.length / 2)) (P) (Q)).1) ((fld (xs.drop (xs.length / 2)) (P) (Q)).2)).1), Vz M ((fld (xs.take (xs.length / 2)) ((fld (xs.drop (xs.length / 2)) (P) (Q)).1) ((fld (xs.drop (xs.length / 2)) (P) (Q)).2)).2), VT, VT]) (B := [⟨5, none, none, 24, 2, Vz M1 ((fld (xs.drop (xs.length / 2)) (P) (Q)).1), VT⟩, ⟨6, none, none, 24, 2, Vz M1 ((fld (xs.drop (xs.length / 2)) (P) (Q)).2), VT⟩, ⟨7, none, some 9, 24, 2, Vz M ((fld (xs.take (xs.length / 2)) ((fld (xs.drop (xs.length / 2)) (P) (Q)).1) ((fld (xs.drop (xs.length / 2)) (P) (Q)).2)).1), VT⟩, ⟨8, none, some 10, 24, 2, Vz M ((fld (xs.take (xs.length / 2)) ((fld (xs.drop (xs.length / 2)) (P) (Q)).1) ((fld (xs.drop (xs.length / 2)) (P) (Q)).2)).2), VT⟩]) (SL' := [(0, VAt w (VSl 24 2 (Vz Ne) (xs))), (3, VAt w (VFp)), (12, Vb (false)), (9, Vi (((xs.length / 2 : Nat) : Int)))]) st4 ⟨?s0, ks, ks, ?s3, ks, ks, ?s6, ks, ks, ks, ks, trivial⟩ ?_
    case s0 => refine kr fun _ ac Wd h hd => ?_; obtain ⟨v0, hv0, hV0⟩ := h.ot 3; exact load_Fp rfl hv0 hV0 h.k.below
    case s3 => refine kr fun _ ac Wd h hd => ?_; obtain ⟨v0, hv0, hV0⟩ := h.dp hd 35; obtain ⟨v1, hv1, hV1⟩ := h.dp hd 36; exact take_SlInt (n := xs.length / 2) rfl hv0 hV0 hv1 hV1 (by omega)
    case s6 =>
      refine ke fun _ ac Wd h hd => ?_
      obtain ⟨v0, hv0, hV0⟩ := h.dp hd 34
      obtain ⟨v1, hv1, hV1⟩ := h.dp hd 37
      obtain ⟨v2, hv2, hV2⟩ := h.dp hd 38
      obtain ⟨v3, hv3, hV3⟩ := h.dp hd 39
      obtain ⟨uu, rfl, hu⟩ := hV0
      exact ⟨_, _, run_clos3 rfl hv0 hv1 hv2 hv3, ih (xs.take (xs.length / 2)) (by simp; omega) (by simp; omega) Wd M1 M _ _ _ _ _ _ (VSl_later (fun x => Stab_Vz _ _) hV1 h.k.below) hV2 hV3 (Stab_VFp (BT := []) (by simp) _ _ _ hu (RI.of_below h.k.below)) hM2 (by omega)⟩
    intro a5 w5 st5
    clear st4
    have hsp := fld_split xs (xs.length / 2) P Q
    repeat first|refine wp_seq ?_|refine wp_block ?_|refine wp_skip ?_|refine wp_exit ?_
    obtain ⟨g, cs, r1, r2, r3, r4, r5⟩ := st5.res ⟨7, none, none, 24, 2, Vz M ((fld (xs.take (xs.length / 2)) ((fld (xs.drop (xs.length / 2)) (P) (Q)).1) ((fld (xs.drop (xs.length / 2)) (P) (Q)).2)).1), VT⟩ (.tail _ (.tail _ (.head _))) rfl rfl
    obtain ⟨g2, cs2, p1, p2, p3, p4, p5⟩ := st5.res ⟨8, none, none, 24, 2, Vz M ((fld (xs.take (xs.length / 2)) ((fld (xs.drop (xs.length / 2)) (P) (Q)).1) ((fld (xs.drop (xs.length / 2)) (P) (Q)).2)).2), VT⟩ (.tail _ (.tail _ (.tail _ (.head _)))) rfl rfl
    exact wp_ret (bodyPost_ret (results_cell2 rfl _ _ g g2 24 cs cs2 (0, 0) (0, 0) _ r1 p1 r2 p2 Tryz.underlying24 rfl (by rw [r3]; exact size_Int) (by rw [p3]; exact size_Int)) st5.defers ⟨_, rfl, ⟨_, _, rfl, (by rw [← hsp]; exact r4), (by rw [← hsp]; exact p4)⟩, r5⟩)
theorem cBefore (Ne : Nat) : ∀ (n : Nat) (xs : List Int), xs.length ≤ n → 0 < xs.length → xs.length ≤ 1000000 → ∀ (W : World) (K M : Nat) (P Q : Int) (va vb vc vd : Value), VSl 24 2 (Vz Ne) xs va W → Vz K P vb W → Vz K Q vc W → VFp vd W → K + (Ne + 2) * xs.length ≤ M → M ≤ 1000000 → Calls Tryz.prog 126 #[va, vb, vc, vd] W (RV (VTup (Vz M (fld xs P Q).1) (Vz M (fld xs P Q).2)) W)
  | 0, xs, h, h0, _ => by omega
  | n + 1, xs, h, h0, hl => fun W K M P Q va vb vc vd h1 h2 h3 h4 h5 h6 =>
    cBefore1 h1 h2 h3 h4 h0 hl h5 h6 fun ys hy0 hy => cBefore Ne n ys (by omega) hy0 (by omega)
end Go.Proofs.YtleijkgdpmfabaaGreatDoor
