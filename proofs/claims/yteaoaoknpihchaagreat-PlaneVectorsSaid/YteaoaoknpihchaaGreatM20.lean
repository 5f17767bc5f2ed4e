/- Contracts of the package integer and its reference: Package plane: words for its structs and for the rows of pairs. plane.sum. -/
import Derived.Test.YteaoaoknpihchaaGreatM18
set_option linter.unusedVariables false
namespace Go.Proofs.YteaoaoknpihchaaGreat
open Go.RowKit
variable {BT : List (TypeId × Nat × Nat)}

def Vv (N : Nat) (x y : Rat) : VP := VP2 4 4 (Vq N x) (Vq N y)
theorem Stab_Vv (N : Nat) (x y : Rat) : Stab BT (Vv N x y) := Stab_VP2 (Stab_Vq _ _) (Stab_Vq _ _)
theorem AggV_Vv (N : Nat) (x y : Rat) : AggV 8 (Vv N x y) := AggV_VP2 (AggV_Vq _ _) (AggV_Vq _ _)
def Vp (N : Nat) (c s x y : Rat) : VP := VP2 8 8 (Vv N c s) (Vv N x y)
theorem Stab_Vp (N : Nat) (c s x y : Rat) : Stab BT (Vp N c s x y) := Stab_VP2 (Stab_Vv _ _ _) (Stab_Vv _ _ _)
theorem AggV_Vp (N : Nat) (c s x y : Rat) : AggV 16 (Vp N c s x y) := AggV_VP2 (AggV_Vv _ _ _) (AggV_Vv _ _ _)
theorem VP2_le {k1 k2 : Nat} {A B A' B' : VP} {v : Value} {w : World} (h : VP2 k1 k2 A B v w) (hA : ∀ v, A v w → A' v w) (hB : ∀ v, B v w → B' v w) : VP2 k1 k2 A' B' v w := by
  obtain ⟨x, y, h1, h2, h3, h4, h5⟩ := h
  exact ⟨x, y, h1, h2, h3, hA _ h4, hB _ h5⟩
theorem Vv_le {N M : Nat} {x y : Rat} {v : Value} {w : World} (h : Vv N x y v w) (hM : N ≤ M) : Vv M x y v w := VP2_le h (fun _ h => Vq_le h hM) (fun _ h => Vq_le h hM)
theorem Vp_le {N M : Nat} {c s x y : Rat} {v : Value} {w : World} (h : Vp N c s x y v w) (hM : N ≤ M) : Vp M c s x y v w := VP2_le h (fun _ h => Vv_le h hM) (fun _ h => Vv_le h hM)
theorem size_Vec : (Tryz.prog.info? 28).map (·.size) = some 8 := by kernel_rfl
theorem size_Turn : (Tryz.prog.info? 47).map (·.size) = some 8 := by kernel_rfl
theorem size_Place : (Tryz.prog.info? 60).map (·.size) = some 16 := by kernel_rfl
theorem size_pair : (Tryz.prog.info? 72).map (·.size) = some 8 := by kernel_rfl
theorem field_Vec0 (g off : Nat) (W : World) : (Instr.fieldAt 28 (.pointer (some ⟨g, off, none⟩)) 0).run Tryz.prog W = .ok (.pointer (some ⟨g, off + 0, none⟩)) W := by go_simp
theorem field_Vec1 (g off : Nat) (W : World) : (Instr.fieldAt 28 (.pointer (some ⟨g, off, none⟩)) 1).run Tryz.prog W = .ok (.pointer (some ⟨g, off + 4, none⟩)) W := by go_simp
theorem field_Turn0 (g off : Nat) (W : World) : (Instr.fieldAt 47 (.pointer (some ⟨g, off, none⟩)) 0).run Tryz.prog W = .ok (.pointer (some ⟨g, off + 0, none⟩)) W := by go_simp
theorem field_Turn1 (g off : Nat) (W : World) : (Instr.fieldAt 47 (.pointer (some ⟨g, off, none⟩)) 1).run Tryz.prog W = .ok (.pointer (some ⟨g, off + 4, none⟩)) W := by go_simp
theorem field_pair0 (g off : Nat) (W : World) : (Instr.fieldAt 72 (.pointer (some ⟨g, off, none⟩)) 0).run Tryz.prog W = .ok (.pointer (some ⟨g, off + 0, none⟩)) W := by go_simp
theorem field_pair1 (g off : Nat) (W : World) : (Instr.fieldAt 72 (.pointer (some ⟨g, off, none⟩)) 1).run Tryz.prog W = .ok (.pointer (some ⟨g, off + 4, none⟩)) W := by go_simp
theorem field_Place0 (g off : Nat) (W : World) : (Instr.fieldAt 60 (.pointer (some ⟨g, off, none⟩)) 0).run Tryz.prog W = .ok (.pointer (some ⟨g, off + 0, none⟩)) W := by go_simp
theorem field_Place1 (g off : Nat) (W : World) : (Instr.fieldAt 60 (.pointer (some ⟨g, off, none⟩)) 1).run Tryz.prog W = .ok (.pointer (some ⟨g, off + 8, none⟩)) W := by go_simp
def zq4 : Array Value := #[.bool false, .slice none 0 0, .bool false, .slice none 0 0]
theorem alloc_Vec (W : World) : (Instr.alloc 28 true (.tuple #[])).run Tryz.prog W = .ok (.pointer (some ⟨W.heap.size, 0, none⟩)) (W.alloc (.cells #[.bool false, .slice none 0 0, .bool false, .slice none 0 0, .bool false, .slice none 0 0, .bool false, .slice none 0 0] 28)) := by go_simp
theorem alloc_Turn (W : World) : (Instr.alloc 47 true (.tuple #[])).run Tryz.prog W = .ok (.pointer (some ⟨W.heap.size, 0, none⟩)) (W.alloc (.cells #[.bool false, .slice none 0 0, .bool false, .slice none 0 0, .bool false, .slice none 0 0, .bool false, .slice none 0 0] 47)) := by go_simp
theorem alloc_pair (W : World) : (Instr.alloc 72 true (.tuple #[])).run Tryz.prog W = .ok (.pointer (some ⟨W.heap.size, 0, none⟩)) (W.alloc (.cells #[.bool false, .slice none 0 0, .bool false, .slice none 0 0, .bool false, .slice none 0 0, .bool false, .slice none 0 0] 72)) := by go_simp
theorem alloc_Place (W : World) : (Instr.alloc 60 true (.tuple #[])).run Tryz.prog W = .ok (.pointer (some ⟨W.heap.size, 0, none⟩)) (W.alloc (.cells #[.bool false, .slice none 0 0, .bool false, .slice none 0 0, .bool false, .slice none 0 0, .bool false, .slice none 0 0, .bool false, .slice none 0 0, .bool false, .slice none 0 0, .bool false, .slice none 0 0, .bool false, .slice none 0 0] 60)) := by go_simp
theorem noint_Vec : NoInt #[Value.bool false, .slice none 0 0, .bool false, .slice none 0 0, .bool false, .slice none 0 0, .bool false, .slice none 0 0] := noint_of (by simp)
theorem noint_Turn : NoInt #[Value.bool false, .slice none 0 0, .bool false, .slice none 0 0, .bool false, .slice none 0 0, .bool false, .slice none 0 0] := noint_of (by simp)
theorem noint_pair : NoInt #[Value.bool false, .slice none 0 0, .bool false, .slice none 0 0, .bool false, .slice none 0 0, .bool false, .slice none 0 0] := noint_of (by simp)
theorem noint_Place : NoInt #[Value.bool false, .slice none 0 0, .bool false, .slice none 0 0, .bool false, .slice none 0 0, .bool false, .slice none 0 0, .bool false, .slice none 0 0, .bool false, .slice none 0 0, .bool false, .slice none 0 0, .bool false, .slice none 0 0] := noint_of (by simp)
instance (N : Nat) (x y : Rat) : Sb BT (Vv N x y) := ⟨Stab_Vv N x y⟩
instance (N : Nat) (c s x y : Rat) : Sb BT (Vp N c s x y) := ⟨Stab_Vp N c s x y⟩
instance (N : Nat) (x y : Rat) : Ag (Vv N x y) 8 := ⟨AggV_Vv N x y⟩
instance (N : Nat) (c s x y : Rat) : Ag (Vp N c s x y) 16 := ⟨AggV_Vp N c s x y⟩
instance iSzVec : SzT 28 8 := ⟨⟨_, Tryz.underlying28, rfl⟩, size_Vec⟩
instance iFdVec0 : FdT 28 0 0 := ⟨field_Vec0⟩
instance iFdVec1 : FdT 28 1 4 := ⟨field_Vec1⟩
instance iAlVec : AlT 28 8 := ⟨_, alloc_Vec, rfl, noint_Vec⟩
instance iSzTurn : SzT 47 8 := ⟨⟨_, Tryz.underlying47, rfl⟩, size_Turn⟩
instance iFdTurn0 : FdT 47 0 0 := ⟨field_Turn0⟩
instance iFdTurn1 : FdT 47 1 4 := ⟨field_Turn1⟩
instance iAlTurn : AlT 47 8 := ⟨_, alloc_Turn, rfl, noint_Turn⟩
instance iSzPlace : SzT 60 16 := ⟨⟨_, Tryz.underlying60, rfl⟩, size_Place⟩
instance iFdPlace0 : FdT 60 0 0 := ⟨field_Place0⟩
instance iFdPlace1 : FdT 60 1 8 := ⟨field_Place1⟩
instance iAlPlace : AlT 60 16 := ⟨_, alloc_Place, rfl, noint_Place⟩
instance iSzpair : SzT 72 8 := ⟨⟨_, Tryz.underlying72, rfl⟩, size_pair⟩
instance iFdpair0 : FdT 72 0 0 := ⟨field_pair0⟩
instance iFdpair1 : FdT 72 1 4 := ⟨field_pair1⟩
instance iAlpair : AlT 72 8 := ⟨_, alloc_pair, rfl, noint_pair⟩
theorem ext_ext {cs : Array Value} {o1 k1 o2 k2 : Nat} (h : o2 + k2 ≤ k1) : (cs.extract o1 (o1 + k1)).extract o2 (o2 + k2) = cs.extract (o1 + o2) (o1 + o2 + k2) := by
  rw [Array.extract_extract, show min (o1 + (o2 + k2)) (o1 + k1) = o1 + o2 + k2 by omega]
theorem PtC.comp {V A C : VP} {o1 k1 o2 k2 : Nat} (h1 : PtC V o1 k1 A) (h2 : PtC A o2 k2 C) (h : o2 + k2 ≤ k1) : PtC V (o1 + o2) k2 C := ⟨fun cs w hv => by
  have := h2.out _ _ (h1.out cs w hv)
  rwa [ext_ext h] at this⟩
instance (N : Nat) (x y : Rat) : PtC (Vv N x y) 0 4 (Vq N x) := ⟨fun _ _ h => VP2_fst h⟩
instance (N : Nat) (x y : Rat) : PtC (Vv N x y) 4 4 (Vq N y) := ⟨fun _ _ h => VP2_snd h⟩
instance (N : Nat) (x y : Rat) : PtC (Vv N x y) 0 2 (Vz N x.num) := PtC.comp (o1 := 0) (k1 := 4) (A := Vq N x) inferInstance (o2 := 0) inferInstance (by omega)
instance (N : Nat) (x y : Rat) : PtC (Vv N x y) 2 2 (Vz N (qd x)) := PtC.comp (o1 := 0) (k1 := 4) (A := Vq N x) inferInstance (o2 := 2) inferInstance (by omega)
instance (N : Nat) (x y : Rat) : PtC (Vv N x y) 4 2 (Vz N y.num) := PtC.comp (o1 := 4) (k1 := 4) (A := Vq N y) inferInstance (o2 := 0) inferInstance (by omega)
instance (N : Nat) (x y : Rat) : PtC (Vv N x y) 6 2 (Vz N (qd y)) := PtC.comp (o1 := 4) (k1 := 4) (A := Vq N y) inferInstance (o2 := 2) inferInstance (by omega)
instance (N : Nat) (c s x y : Rat) : PtC (Vp N c s x y) 0 8 (Vv N c s) := ⟨fun _ _ h => VP2_fst h⟩
instance (N : Nat) (c s x y : Rat) : PtC (Vp N c s x y) 8 8 (Vv N x y) := ⟨fun _ _ h => VP2_snd h⟩
instance (N : Nat) (c s x y : Rat) : PtC (Vp N c s x y) 0 4 (Vq N c) := PtC.comp (o1 := 0) (k1 := 8) (A := Vv N c s) inferInstance (o2 := 0) inferInstance (by omega)
instance (N : Nat) (c s x y : Rat) : PtC (Vp N c s x y) 4 4 (Vq N s) := PtC.comp (o1 := 0) (k1 := 8) (A := Vv N c s) inferInstance (o2 := 4) inferInstance (by omega)
instance (N : Nat) (c s x y : Rat) : PtC (Vp N c s x y) 8 4 (Vq N x) := PtC.comp (o1 := 8) (k1 := 8) (A := Vv N x y) inferInstance (o2 := 0) inferInstance (by omega)
instance (N : Nat) (c s x y : Rat) : PtC (Vp N c s x y) 12 4 (Vq N y) := PtC.comp (o1 := 8) (k1 := 8) (A := Vv N x y) inferInstance (o2 := 4) inferInstance (by omega)
section
variable {ρ : Operand → Value} {o : Oper} {W : World} {x y : Operand} {va vb : Value} {A B : VP}
theorem build_Vec (ho : o.op = .build 28 #[(0, x), (1, y)]) (hx : ρ x = va) (hy : ρ y = vb) (hA : AggV 4 A) (hB : AggV 4 B) (h1 : A va W) (h2 : B vb W) : ∃ v, (execOp ρ o).run Tryz.prog W = .ok (.value v) W ∧ VP2 4 4 A B v W := by
  obtain ⟨cx, rfl, e1, -⟩ := hA _ _ h1
  obtain ⟨cy, rfl, e2, -⟩ := hB _ _ h2
  obtain ⟨a, b, c, d, rfl⟩ := arr4 e1
  obtain ⟨a', b', c', d', rfl⟩ := arr4 e2
  refine ⟨.agg (#[a, b, c, d] ++ #[a', b', c', d']), ?_, ⟨_, _, rfl, rfl, rfl, h1, h2⟩⟩
  obtain ⟨dd, op, ty, ps, af, gd⟩ := o
  subst ho
  go_simp
theorem build_Turn (ho : o.op = .build 47 #[(0, x), (1, y)]) (hx : ρ x = va) (hy : ρ y = vb) (hA : AggV 4 A) (hB : AggV 4 B) (h1 : A va W) (h2 : B vb W) : ∃ v, (execOp ρ o).run Tryz.prog W = .ok (.value v) W ∧ VP2 4 4 A B v W := by
  obtain ⟨cx, rfl, e1, -⟩ := hA _ _ h1
  obtain ⟨cy, rfl, e2, -⟩ := hB _ _ h2
  obtain ⟨a, b, c, d, rfl⟩ := arr4 e1
  obtain ⟨a', b', c', d', rfl⟩ := arr4 e2
  refine ⟨.agg (#[a, b, c, d] ++ #[a', b', c', d']), ?_, ⟨_, _, rfl, rfl, rfl, h1, h2⟩⟩
  obtain ⟨dd, op, ty, ps, af, gd⟩ := o
  subst ho
  go_simp
theorem build_pair (ho : o.op = .build 72 #[(0, x), (1, y)]) (hx : ρ x = va) (hy : ρ y = vb) (hA : AggV 4 A) (hB : AggV 4 B) (h1 : A va W) (h2 : B vb W) : ∃ v, (execOp ρ o).run Tryz.prog W = .ok (.value v) W ∧ VP2 4 4 A B v W := by
  obtain ⟨cx, rfl, e1, -⟩ := hA _ _ h1
  obtain ⟨cy, rfl, e2, -⟩ := hB _ _ h2
  obtain ⟨a, b, c, d, rfl⟩ := arr4 e1
  obtain ⟨a', b', c', d', rfl⟩ := arr4 e2
  refine ⟨.agg (#[a, b, c, d] ++ #[a', b', c', d']), ?_, ⟨_, _, rfl, rfl, rfl, h1, h2⟩⟩
  obtain ⟨dd, op, ty, ps, af, gd⟩ := o
  subst ho
  go_simp
/-- a row of one pair -/
def VR1 (V : VP) : VP := fun v w => ∃ h cs, v = .slice (some ⟨h, 0, none⟩) 1 1 ∧ w.heap[h]? = some (.cells cs 72 (0, 0)) ∧ cs.size = 8 ∧ V (.agg cs) w
theorem Stab_VR1 {V : VP} (hV : Stab BT V) (hn : BT.any (fun e => e.1 == 72 && e.2.1 == 8) = false) : Stab BT (VR1 V) := fun _ _ _ ⟨h, cs, e1, e2, e3, e4⟩ hr =>
  ⟨h, cs, e1, (hr.row h cs _ e2 (BT_not hn e3)).trans e2, e3, hV _ _ _ e4 hr⟩
theorem VR1_le {A B : VP} {v : Value} {w : World} (hAB : ∀ v, A v w → B v w) (h : VR1 A v w) : VR1 B v w := by
  obtain ⟨k, cs, e1, e2, e3, e4⟩ := h
  exact ⟨k, cs, e1, e2, e3, hAB _ e4⟩
theorem bslice_pair (ho : o.op = .buildSlice 87 1 #[(0, x)]) (hx : ρ x = va) (hA : AggV 8 A) (hS : Stab [] A) (h1 : A va W) : ∃ v w', (execOp ρ o).run Tryz.prog W = .ok (.value v) w' ∧ Below W.heap.size W w' ∧ VR1 A v w' := by
  obtain ⟨cx, rfl, e1, -⟩ := hA _ _ h1
  match cx, e1 with
  | ⟨[a, b, c, d, a', b', c', d']⟩, _ =>
    refine ⟨.slice (some ⟨W.heap.size, 0, none⟩) 1 1, W.alloc (.cells #[a, b, c, d, a', b', c', d'] 72), ?_, below_new _ _, ⟨_, _, rfl, heap_alloc_new _ _, rfl, hS _ _ _ h1 (RI.of_below (below_new _ _))⟩⟩
    obtain ⟨dd, op, ty, ps, af, gd⟩ := o
    subst ho
    go_simp
end
/-- what was so in a world -/
def VAt (w : World) (V : VP) : VP := fun v _ => V v w
theorem Stab_VAt (w : World) (V : VP) : Stab BT (VAt w V) := fun _ _ _ h _ => h
instance (w : World) (V : VP) : Sb BT (VAt w V) := ⟨Stab_VAt w V⟩
/-- the address of a pair -/
def VPtr (V : VP) : VP := fun v w => ∃ h cs, v = .pointer (some ⟨h, 0, none⟩) ∧ w.heap[h]? = some (.cells cs 72 (0, 0)) ∧ cs.size = 8 ∧ V (.agg cs) w
section
variable {ρ : Operand → Value} {o : Oper} {W w : World} {x y : Operand} {va vb : Value} {A : VP}
theorem run_len1 (ho : o.op = .call { callee := .builtin .len, args := #[x], argTypes := #[87] }) (hty : o.type = 3) (hx : ρ x = va) (h : VAt w (VR1 A) va W) : ∃ v, (execOp ρ o).run Tryz.prog W = .ok (.value v) W ∧ Vi 1 v W := by
  obtain ⟨h, cs, rfl, -⟩ := h
  refine ⟨.int .i64 1, ?_, rfl⟩
  obtain ⟨dd, op, ty, ps, af, gd⟩ := o
  subst ho
  simp only at hty
  subst hty
  go_simp
theorem index_pair (ho : o.op = .indexAddr 87 x y) (hx : ρ x = va) (h : VAt w (VR1 A) va W) (hy : ρ y = vb) (hb : Vi 0 vb W) : ∃ v, (execOp ρ o).run Tryz.prog W = .ok (.value v) W ∧ VAt w (VPtr A) v W := by
  obtain ⟨h, cs, rfl, e2, e3, e4⟩ := h
  obtain rfl := hb
  refine ⟨.pointer (some ⟨h, 0, none⟩), ?_, ⟨h, cs, rfl, e2, e3, e4⟩⟩
  obtain ⟨dd, op, ty, ps, af, gd⟩ := o
  subst ho
  go_simp
theorem load_pair (ho : o.op = .load 72 x) (hx : ρ x = va) (h : VAt w (VPtr A) va W) (hb : Below w.heap.size w W) (hA : Stab [] A) : ∃ v, (execOp ρ o).run Tryz.prog W = .ok (.value v) W ∧ A v W := by
  obtain ⟨h, cs, rfl, e2, e3, e4⟩ := h
  refine ⟨.agg cs, ?_, hA _ _ _ e4 (RI.of_below hb)⟩
  have e5 := (hb.block _ (lt_blk e2)).trans e2
  unfold execOp
  simp only [ho, hx, Instr.loadAt, Instr.sureAddr, Sem.run_bind, Sem.run_pure, Result.andThen_ok, run_loadVar_row W h 72 72 cs (0, 0) _ e5 Tryz.underlying72 rfl (by rw [e3]; exact size_pair)]
end
end Go.Proofs.YteaoaoknpihchaaGreat

namespace Go.Proofs.YteaoaoknpihchaaGreat
open Go.RowKit

set_option maxRecDepth 100000 in
set_option maxHeartbeats 1600000 in
theorem cSumA {w : World} {N : Nat} {a b c d : Rat} {v0 v1 : Value} (h0 : Vv N (a) (b) v0 w) (h1 : VAt w (VR1 (Vv N c d)) v1 w) (hN1 : 1 ≤ N) (hN : N ≤ 20000) : Calls Tryz.prog 65 #[v0, v1] w (RV (Vq (4 * N + 1) (a * b + c * d)) w) := by
  go_enter Tryz.func65, Tryz.ntmps65
  have st0 : St w.heap.size w 28 [] [(0, Vv N (a) (b)), (1, VAt w (VR1 (Vv N c d)))] _ w := St.begin (a := ⟨#[v0, v1, undef, undef, undef, undef, undef, undef, undef, undef, undef, undef, undef, undef, undef, undef, undef, undef, undef, undef, undef, undef, undef, undef, undef, undef, undef, undef], []⟩) rfl rfl (List.forall_mem_cons.2 ⟨⟨_, rfl, h0⟩, (List.forall_mem_cons.2 ⟨⟨_, rfl, h1⟩, (fun _ h => absurd h (by simp))⟩)⟩)
  generalize (⟨#[v0, v1, undef, undef, undef, undef, undef, undef, undef, undef, undef, undef, undef, undef, undef, undef, undef, undef, undef, undef, undef, undef, undef, undef, undef, undef, undef, undef], []⟩ : Act) = a0 at st0 ⊢
  repeat first | refine wp_seq ?_ | refine wp_block ?_ | refine wp_skip ?_ | refine wp_exit ?_
  refine rg (BT := [(26, 4, 0), (72, 8, 0)]) (Vl := [VT, VT]) (B := [⟨2, some 0, some 0, 72, 8, Vv N (a) (b), VT⟩, ⟨4, some 1, none, 26, 4, VT, VT⟩]) (SL' := [(1, VAt w (VR1 (Vv N c d)))]) st0 ⟨ks, ks, trivial⟩ ?_
  intro a1 w1 st1
  clear st0
  repeat first | refine wp_seq ?_ | refine wp_block ?_ | refine wp_skip ?_ | refine wp_exit ?_
  refine rg (BT := [(26, 4, 0), (72, 8, 0)]) (Vl := [Vpt a1 2 0, Vq N (a), Vpt a1 2 4, Vq N (b), Vq (N + N) ((a) * (b)), VT, VT]) (B := [⟨2, none, none, 72, 8, Vv N (a) (b), VT⟩, ⟨4, none, none, 26, 4, VT, VT⟩, ⟨5, some 5, some 6, 26, 4, Vq (N + N) ((a) * (b)), VT⟩]) (SL' := [(1, VAt w (VR1 (Vv N c d)))]) st1 ⟨ks, ks, ks, ks, ?s4, ks, ks, trivial⟩ ?_
  case s4 =>
    refine kc fun _ ac Wd h hd => ?_
    obtain ⟨v0, hv0, hV0⟩ := h.dp hd 9
    obtain ⟨v1, hv1, hV1⟩ := h.dp hd 11
    exact ⟨#[v0, v1], by simp [hv0, hv1], cQMul (show Vq N (a) v0 Wd from hV0) (show Vq N (b) v1 Wd from hV1) (by omega) (by omega) (by omega) (by omega)⟩
  intro a2 w2 st2
  clear st1
  repeat first | refine wp_seq ?_ | refine wp_block ?_ | refine wp_skip ?_ | refine wp_exit ?_
  refine rg (BT := [(26, 4, 0), (72, 8, 0)]) (Vl := [VAt w (VR1 (Vv N c d)), Vi (1), Vi (0)]) (B := [⟨2, none, none, 72, 8, Vv N (a) (b), VT⟩, ⟨4, none, none, 26, 4, VT, VT⟩, ⟨5, none, none, 26, 4, Vq (N + N) ((a) * (b)), VT⟩]) (SL' := [(13, VAt w (VR1 (Vv N c d))), (14, Vi (1)), (15, Vi (0))]) st2 ⟨ks, ?s1, ks, trivial⟩ ?_
  case s1 => refine kr fun _ ac Wd h hd => ?_; obtain ⟨v0, hv0, hV0⟩ := h.dp hd 13; exact run_len1 rfl rfl hv0 hV0
  intro a3 w3 st3
  clear st2
  replace st3 : St w.heap.size w 28 [⟨2, none, none, 72, 8, Vv N (a) (b), VT⟩, ⟨4, none, none, 26, 4, VT, VT⟩, ⟨5, none, none, 26, 4, Vq (N + N) ((a) * (b)), VT⟩] [(13, VAt w (VR1 (Vv N c d))), (14, Vi (1)), (15, Vi (0))] a3 w3 := st3
  repeat first | refine wp_seq ?_ | refine wp_block ?_ | refine wp_skip ?_ | refine wp_exit ?_
  refine wp_loop (fun aX wX => St w.heap.size w 28 [⟨2, none, none, 72, 8, Vv N (a) (b), VT⟩, ⟨4, none, none, 26, 4, VT, VT⟩, ⟨5, none, none, 26, 4, Vq (N + N) ((a) * (b)), VT⟩] [(13, VAt w (VR1 (Vv N c d))), (14, Vi (1)), (15, Vi (0))] aX wX ∨ St w.heap.size w 28 [⟨2, none, none, 72, 8, Vv N (a) (b), VT⟩, ⟨4, none, none, 26, 4, VT, VT⟩, ⟨5, none, none, 26, 4, Vq ((N + N) + (N + N) + 1) ((a) * (b) + ((c) * (d))), VT⟩, ⟨7, none, none, 72, 8, Vv N (c) (d), VT⟩] [(13, VAt w (VR1 (Vv N c d))), (14, Vi (1)), (15, Vi (1))] aX wX) (fun aX _ => 1 - (intOf (aX.eval (.tmp 15))).toNat) (.inl st3) ?_
  clear st3
  intro aL wL hI
  rcases hI with st3 | st3
  ·
    have hm0 : (intOf (aL.eval (.tmp 15))).toNat = 0 := by obtain ⟨vv, e1, e2⟩ := st3.slot (15, Vi (0)) (.tail _ (.tail _ (.head _))); rw [e1, e2]; rfl
    repeat first | refine wp_seq ?_ | refine wp_block ?_ | refine wp_skip ?_ | refine wp_exit ?_
    refine rg (BT := [(26, 4, 0), (72, 8, 0)]) (Vl := [Vb (true)]) (B := [⟨2, none, none, 72, 8, Vv N (a) (b), VT⟩, ⟨4, none, none, 26, 4, VT, VT⟩, ⟨5, none, none, 26, 4, Vq (N + N) ((a) * (b)), VT⟩]) (SL' := [(13, VAt w (VR1 (Vv N c d))), (14, Vi (1)), (15, Vi (0)), (16, Vb (true))]) st3 ⟨?s0, trivial⟩ ?_
    case s0 =>
      refine kr fun _ ac Wd h hd => ?_
      obtain ⟨v0, hv0, hV0⟩ := h.ot 15
      have hV0' : v0 = .int .i64 (0) := hV0
      obtain ⟨v1, hv1, hV1⟩ := h.ot 14
      have hV1' : v1 = .int .i64 (1) := hV1
      exact ⟨_, run_lssi rfl (hv0.trans hV0') (hv1.trans hV1'), congrArg Value.bool (by decide)⟩
    intro a4 w4 st4
    clear st3
    repeat first | refine wp_seq ?_ | refine wp_block ?_ | refine wp_skip ?_ | refine wp_exit ?_
    obtain ⟨vc, hc1, hc2⟩ := st4.slot (16, Vb (true)) (.tail _ (.tail _ (.tail _ (.head _))))
    refine wp_cond_true (hc1.trans hc2) ?_
    clear hc1 hc2
    repeat first | refine wp_seq ?_ | refine wp_block ?_ | refine wp_skip ?_ | refine wp_exit ?_
    refine rg (BT := [(26, 4, 0), (72, 8, 0)]) (Vl := [VAt w (VPtr (Vv N c d)), Vv N (c) (d), VT, VT]) (B := [⟨2, none, none, 72, 8, Vv N (a) (b), VT⟩, ⟨4, none, none, 26, 4, VT, VT⟩, ⟨5, none, none, 26, 4, Vq (N + N) ((a) * (b)), VT⟩, ⟨7, some 2, some 3, 72, 8, Vv N (c) (d), VT⟩]) (SL' := [(13, VAt w (VR1 (Vv N c d))), (14, Vi (1)), (15, Vi (0)), (16, Vb (true))]) st4 ⟨?s0, ?s1, ks, ks, trivial⟩ ?_
    case s0 => refine kr fun _ ac Wd h hd => ?_; obtain ⟨v0, hv0, hV0⟩ := h.ot 13; obtain ⟨v1, hv1, hV1⟩ := h.ot 15; exact index_pair rfl hv0 hV0 hv1 hV1
    case s1 => refine kr fun _ ac Wd h hd => ?_; obtain ⟨v0, hv0, hV0⟩ := h.dp hd 17; exact load_pair rfl hv0 hV0 h.k.below (Stab_Vv _ _ _)
    intro a5 w5 st5
    clear st4
    repeat first | refine wp_seq ?_ | refine wp_block ?_ | refine wp_skip ?_ | refine wp_exit ?_
    refine rg (BT := [(26, 4, 0), (72, 8, 0)]) (Vl := [Vq (N + N) ((a) * (b)), Vpt a5 7 0, Vq N (c), Vpt a5 7 4, Vq N (d), Vq (N + N) ((c) * (d)), Vq ((N + N) + (N + N) + 1) (((a) * (b)) + ((c) * (d))), VT]) (B := [⟨2, none, none, 72, 8, Vv N (a) (b), VT⟩, ⟨4, none, none, 26, 4, VT, VT⟩, ⟨5, none, some 7, 26, 4, Vq ((N + N) + (N + N) + 1) (((a) * (b)) + ((c) * (d))), Vq (N + N) ((a) * (b))⟩, ⟨7, none, none, 72, 8, Vv N (c) (d), VT⟩]) (SL' := [(13, VAt w (VR1 (Vv N c d))), (14, Vi (1)), (15, Vi (0)), (16, Vb (true))]) st5 ⟨ks, ks, ks, ks, ks, ?s5, ?s6, ks, trivial⟩ ?_
    case s5 =>
      refine kc fun _ ac Wd h hd => ?_
      obtain ⟨v0, hv0, hV0⟩ := h.dp hd 21
      obtain ⟨v1, hv1, hV1⟩ := h.dp hd 23
      exact ⟨#[v0, v1], by simp [hv0, hv1], cQMul (show Vq N (c) v0 Wd from hV0) (show Vq N (d) v1 Wd from hV1) (by omega) (by omega) (by omega) (by omega)⟩
    case s6 =>
      refine kc fun _ ac Wd h hd => ?_
      obtain ⟨v0, hv0, hV0⟩ := h.dp hd 19
      obtain ⟨v1, hv1, hV1⟩ := h.dp hd 24
      exact ⟨#[v0, v1], by simp [hv0, hv1], cQAdd (show Vq (N + N) ((a) * (b)) v0 Wd from hV0) (show Vq (N + N) ((c) * (d)) v1 Wd from hV1) (by omega) (by omega) (by omega) (by omega)⟩
    intro a6 w6 st6
    clear st5
    repeat first | refine wp_seq ?_ | refine wp_block ?_ | refine wp_skip ?_ | refine wp_exit ?_
    refine rg (BT := [(26, 4, 0), (72, 8, 0)]) (Vl := [Vi (1), Vi (1)]) (B := [⟨2, none, none, 72, 8, Vv N (a) (b), VT⟩, ⟨4, none, none, 26, 4, VT, VT⟩, ⟨5, none, none, 26, 4, Vq ((N + N) + (N + N) + 1) (((a) * (b)) + ((c) * (d))), VT⟩, ⟨7, none, none, 72, 8, Vv N (c) (d), VT⟩]) (SL' := [(13, VAt w (VR1 (Vv N c d))), (14, Vi (1)), (16, Vb (true)), (15, Vi (1))]) st6 ⟨?s0, ks, trivial⟩ ?_
    case s0 =>
      refine k_run0 SbB.out (by kernel_rfl) fun listed ac Wd h hd hnl => ⟨trivial, ?_⟩
      obtain ⟨v0, hv0, hV0⟩ := h.out0 hnl (15, Vi (0)) (.tail _ (.tail _ (.head _))) 1 (by kernel_rfl) (.inr (by kernel_rfl))
      obtain rfl : v0 = .int .i64 0 := hV0
      exact ⟨.int .i64 1, run_addi rfl hv0 rfl rfl, rfl⟩
    intro a7 w7 st7
    clear st6
    refine ⟨.inr ?_, ?_⟩
    · exact st7.cut
    · have hm1 : (intOf (a7.eval (.tmp 15))).toNat = 1 := (by obtain ⟨vv, e1, e2⟩ := st7.slot (15, Vi (1)) (.tail _ (.tail _ (.tail _ (.head _)))); rw [e1, e2]; rfl)
      show 1 - _ < 1 - _
      rw [hm0, hm1]; omega
  ·
    repeat first | refine wp_seq ?_ | refine wp_block ?_ | refine wp_skip ?_ | refine wp_exit ?_
    refine rg (BT := [(26, 4, 0), (72, 8, 0)]) (Vl := [Vb (false)]) (B := [⟨2, none, none, 72, 8, Vv N (a) (b), VT⟩, ⟨4, none, none, 26, 4, VT, VT⟩, ⟨5, none, none, 26, 4, Vq ((N + N) + (N + N) + 1) ((a) * (b) + ((c) * (d))), VT⟩, ⟨7, none, none, 72, 8, Vv N (c) (d), VT⟩]) (SL' := [(13, VAt w (VR1 (Vv N c d))), (14, Vi (1)), (15, Vi (1)), (16, Vb (false))]) st3 ⟨?s0, trivial⟩ ?_
    case s0 =>
      refine kr fun _ ac Wd h hd => ?_
      obtain ⟨v0, hv0, hV0⟩ := h.ot 15
      have hV0' : v0 = .int .i64 (1) := hV0
      obtain ⟨v1, hv1, hV1⟩ := h.ot 14
      have hV1' : v1 = .int .i64 (1) := hV1
      exact ⟨_, run_lssi rfl (hv0.trans hV0') (hv1.trans hV1'), congrArg Value.bool (by decide)⟩
    intro a4 w4 st4
    clear st3
    repeat first | refine wp_seq ?_ | refine wp_block ?_ | refine wp_skip ?_ | refine wp_exit ?_
    obtain ⟨vc, hc1, hc2⟩ := st4.slot (16, Vb (false)) (.tail _ (.tail _ (.tail _ (.head _))))
    refine wp_cond_false (hc1.trans hc2) ?_
    clear hc1 hc2
    repeat first | refine wp_seq ?_ | refine wp_block ?_ | refine wp_skip ?_ | refine wp_exit ?_
    refine rg (BT := [(26, 4, 0), (72, 8, 0)]) (Vl := [Vq ((N + N) + (N + N) + 1) ((a) * (b) + ((c) * (d))), VT]) (B := [⟨2, none, none, 72, 8, Vv N (a) (b), VT⟩, ⟨4, none, some 1, 26, 4, Vq ((N + N) + (N + N) + 1) ((a) * (b) + ((c) * (d))), VT⟩, ⟨5, none, none, 26, 4, Vq ((N + N) + (N + N) + 1) ((a) * (b) + ((c) * (d))), VT⟩, ⟨7, none, none, 72, 8, Vv N (c) (d), VT⟩]) (SL' := [(13, VAt w (VR1 (Vv N c d))), (14, Vi (1)), (15, Vi (1)), (16, Vb (false))]) st4 ⟨ks, ks, trivial⟩ ?_
    intro a5 w5 st5
    clear st4
    repeat first | refine wp_seq ?_ | refine wp_block ?_ | refine wp_skip ?_ | refine wp_exit ?_
    obtain ⟨g, cs, r1, r2, r3, r4, r5⟩ := st5.res ⟨4, none, none, 26, 4, Vq ((N + N) + (N + N) + 1) ((a) * (b) + ((c) * (d))), VT⟩ (.tail _ (.head _)) rfl rfl
    exact wp_ret (bodyPost_ret (results_cell_row rfl _ _ g 26 cs (0, 0) _ r1 r2 Tryz.underlying26 rfl (by rw [r3]; exact size_Rat)) st5.defers ⟨_, rfl, (Vq_le r4 (by omega)), r5⟩)
end Go.Proofs.YteaoaoknpihchaaGreat
