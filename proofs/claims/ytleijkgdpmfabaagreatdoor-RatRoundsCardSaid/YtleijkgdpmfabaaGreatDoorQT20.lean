/- Rows of rational numbers that are read, made, filled; a walk that goes on from a new base. -/
import Derived.Test.YtleijkgdpmfabaaGreatDoorQT17
set_option linter.unusedVariables false
namespace Go.Proofs.YtleijkgdpmfabaaGreatDoor
open Go.RowKit
instance iAlSlQ : SlT 33 27 4 := ⟨Tryz.underlying33, by
  have h : (Tryz.prog.info? 27).map (fun i => (i.zero, i.size, i.bytes)) = some (some (.agg #[.bool false, .slice none 0 0, .bool false, .slice none 0 0]), 4, 64) := by kernel_rfl
  cases hq : Tryz.prog.info? 27 with
  | none => rw [hq] at h; cases h
  | some i =>
    rw [hq] at h
    simp only [Option.map_some, Option.some.injEq, Prod.mk.injEq] at h
    exact ⟨i, _, rfl, h.1, h.2.1, by rw [h.2.2]; omega, rfl, noint_of (by simp [Value.cells])⟩, by decide⟩
def VSn (N : Nat) (xs : List Rat) : VP := fun v w => (v = .slice none 0 0 ∧ xs = []) ∨ VSl 27 4 (Vq N) xs v w
section
variable {n0 N : Nat} {w0 : World} {L : List Bd} {SL : List (Nat × VP)} {a : Act} {w : World}
theorem St.base (h : St n0 w0 N L SL a w) (SL' : List (Nat × VP)) (hs : ∀ p ∈ SL', ∃ v, a.tmps[p.1]? = some v ∧ p.2 v w) : Below n0 w0 w ∧ St w.heap.size w N [] SL' a w :=
  ⟨h.k.below, ⟨⟨Below.refl _ _, fun b hb => absurd hb (by simp), fun b hb => absurd hb (by simp), fun b hb => absurd hb (by simp)⟩, Nat.le_refl _, h.size, h.defers, hs⟩⟩
theorem St.boxAt (h : St n0 w0 N L SL a w) {b : Bd} (hb : b ∈ L) (hia : b.ia = none) (hik : b.ik = none) : ∃ g, a.tmps[b.t]? = some (.pointer (some ⟨g, 0, none⟩)) ∧ n0 ≤ g ∧ g < w.heap.size ∧ ∃ cs, w.heap[g]? = some (.cells cs b.T (0, 0)) ∧ cs.size = b.m ∧ NoInt cs ∧ b.P (.agg cs) w := by
  obtain ⟨g, cs, e1, e2, e3, e4, e5, e6, -⟩ := h.k.ok b hb (by rw [hia]; rfl)
  exact ⟨g, e1, e2, lt_blk e3, cs, e3, e4, e5, e6 (by rw [hik]; rfl)⟩
theorem VEp_box {T : TypeId} {k g : Nat} {A : VP} {cs : Array Value} (h1 : w.heap[g]? = some (.cells cs T (0, 0))) (h2 : cs.size = k) (h3 : A (.agg cs) w) : VEp T k A (.pointer (some ⟨g, 0, none⟩)) w :=
  ⟨g, 0, cs, rfl, h1, by omega, by rw [Nat.zero_add, ← h2, Array.extract_size]; exact h3⟩
theorem St.unbase {n1 : Nat} {w1 : World} {b : Bd} {g : Nat} {cs : Array Value} (h : St n1 w1 N [] SL a w) (hb : Below n0 w0 w1) (hn : n0 ≤ n1) (hn1 : n1 ≤ w1.heap.size) (ht : a.tmps[b.t]? = some (.pointer (some ⟨g, 0, none⟩))) (hg : n0 ≤ g) (hg1 : g < n1) (h1 : w1.heap[g]? = some (.cells cs b.T (0, 0))) (h2 : cs.size = b.m) (h3 : NoInt cs) (hP : b.P (.agg cs) w) (hP0 : b.P0 (.agg cs) w) : St n0 w0 N [b] SL a w := by
  have hbw := h.k.below
  refine ⟨⟨⟨hbw.os.trans hb.os, hbw.tape.trans hb.tape, hbw.output.trans hb.output, Nat.le_trans hb.size hbw.size, fun k hk => (hbw.block k (by omega)).trans (hb.block k hk)⟩, fun c hc _ => ?_, fun c hc d hd hne => ?_, fun c hc hk hk2 => ?_⟩, ?_, h.size, h.defers, h.sl⟩
  · obtain rfl : c = b := by simpa using hc
    exact ⟨g, cs, ht, hg, (hbw.block g hg1).trans h1, h2, h3, fun _ => hP, fun _ _ => hP0⟩
  · obtain rfl : c = b := by simpa using hc
    obtain rfl : d = c := by simpa using hd
    exact absurd rfl hne
  · cases hk0 : c.ik with
    | none => exact absurd hk0 hk
    | some i => rw [hk0] at hk2; simp [onb] at hk2
  · have := hbw.size
    omega
theorem VSl_choose {T : TypeId} {k : Nat} {F : Rat → VP} {us : List Unit} {v : Value} (h : VSl T k (fun _ : Unit => VexQ F) us v w) : ∃ xs : List Rat, xs.length = us.length ∧ VSl T k F xs v w := by
  obtain ⟨hh, o, c, cs, rfl, e2, e3, e4, e5, e6⟩ := h
  have key : ∀ i, i < us.length → ∃ q, F q (.agg (cs.extract (o + k * i) (o + k * i + k))) w := fun i hi => e6 i () (by rw [List.getElem?_eq_getElem hi])
  refine ⟨List.ofFn fun i : Fin us.length => (key i.1 i.2).choose, by simp, hh, o, c, cs, by simp, by simpa using e2, e3, e4, by simpa using e5, fun i x hx => ?_⟩
  have hi : i < us.length := by
    rcases Nat.lt_or_ge i us.length with h' | h'
    · exact h'
    · rw [List.getElem?_eq_none (by simpa using h')] at hx; cases hx
  rw [List.getElem?_ofFn, dif_pos hi] at hx
  cases hx
  exact (key i hi).choose_spec
end
def VRn (n g : Nat) (A : VP) : VP := fun v w => v = .slice (some ⟨g, 0, none⟩) n n ∧ RowAt g 27 (4 * n) A w
def VMkn (n lo : Nat) : VP := fun v w => ∃ g, lo ≤ g ∧ v = .slice (some ⟨g, 0, none⟩) n n ∧ RowAt g 27 (4 * n) VT w
section
variable {BT : List (TypeId × Nat × Nat)} {n g lo N : Nat} {A : VP} {xs : List Rat}
theorem Stab_VRn0 (hA : Stab [] A) : Stab [] (VRn n g A) := fun _ _ _ ⟨e0, ⟨cs, e2, e3, e4, e5⟩⟩ hr => ⟨e0, ⟨cs, (hr.row _ _ _ e2 (.inl (by simp))).trans e2, e3, e4, hA _ _ _ e5 hr⟩⟩
theorem Stab_VMkn0 : Stab [] (VMkn n lo) := fun _ _ _ ⟨g, e0, e1, ⟨cs, e2, e3, e4, e5⟩⟩ hr => ⟨g, e0, e1, ⟨cs, (hr.row _ _ _ e2 (.inl (by simp))).trans e2, e3, e4, e5⟩⟩
instance : Sb [] (VMkn n lo) := ⟨Stab_VMkn0⟩
end
section
variable {ρ : Operand → Value} {o : Oper} {W w : World} {x y : Operand} {va vb : Value} {N : Nat} {X : Nat → Rat} {xs : List Rat}
theorem upd_rown {n : Nat} {cs z : Array Value} {j : Nat} (h1 : cs.size = 4 * n) (h2 : z.size = 4) (hj : j < n) (h3 : VQr N X j (.agg cs) w) (h4 : Vq N (X j) (.agg z) w) : VQr N X (j + 1) (.agg (updR cs (4 * j) z.toList)) w := by
  obtain ⟨_, e, h5⟩ := h3
  cases e
  refine ⟨_, rfl, fun i hi => ?_⟩
  have hl : 4 * j + z.toList.length ≤ cs.size := by simp; omega
  by_cases hij : i = j
  · subst hij
    have : (updR cs (4 * i) z.toList).extract (4 * i) (4 * i + 4) = z := by
      apply Array.ext_getElem?
      intro k
      rw [Array.getElem?_extract, updR_get _ _ _ _ hl, updR_size]
      by_cases hk : k < 4
      · rw [if_pos (by omega), if_pos (by simp; omega), show 4 * i + k - 4 * i = k by omega]; simp
      · rw [if_neg (by omega), Array.getElem?_eq_none (by omega)]
    rw [this]; exact h4
  · have : (updR cs (4 * j) z.toList).extract (4 * i) (4 * i + 4) = cs.extract (4 * i) (4 * i + 4) := by
      apply Array.ext_getElem?
      intro k
      rw [Array.getElem?_extract, Array.getElem?_extract, updR_size]
      by_cases hk : k < min (4 * i + 4) cs.size - 4 * i
      · rw [if_pos hk, if_pos hk, updR_get _ _ _ _ hl, if_neg (by simp; omega)]
      · rw [if_neg hk, if_neg hk]
    rw [this]; exact h5 i (by omega)
theorem len_Sn (ho : o.op = .call { callee := .builtin .len, args := #[x], argTypes := #[33] }) (_hty : o.type = 3) (hx : ρ x = va) (h : VAt w (VSn N xs) va W) : ∃ v, (execOp ρ o).run Tryz.prog W = .ok (.value v) W ∧ Vi (xs.length : Int) v W := by
  rcases h with ⟨rfl, rfl⟩ | h
  · refine ⟨.int .i64 0, ?_, rfl⟩
    obtain ⟨dd, op, ty, ps, af, gd⟩ := o
    subst ho
    simp only at _hty
    subst _hty
    go_simp
  · obtain ⟨hh, oo, c, cs, rfl, -⟩ := h
    refine ⟨.int .i64 (xs.length : Int), ?_, rfl⟩
    obtain ⟨dd, op, ty, ps, af, gd⟩ := o
    subst ho
    simp only at _hty
    subst _hty
    go_simp
theorem index_Sn {z : Rat} {j : Nat} (ho : o.op = .indexAddr 33 x y) (hx : ρ x = va) (h : VAt w (VSn N xs) va W) (hy : ρ y = vb) (hb : Vi (j : Int) vb W) (hz : xs[j]? = some z) : ∃ v, (execOp ρ o).run Tryz.prog W = .ok (.value v) W ∧ VAt w (VEp 27 4 (Vq N z)) v W := by
  rcases h with ⟨rfl, rfl⟩ | h
  · cases hz
  obtain ⟨b, off, c, rfl, h2⟩ := VSl_el h hz
  obtain rfl : vb = _ := hb
  refine ⟨.pointer (some ⟨b, off + 4 * j, none⟩), ?_, h2⟩
  have hj : j < xs.length := by
    rcases Nat.lt_or_ge j xs.length with h' | h'
    · exact h'
    · rw [List.getElem?_eq_none h'] at hz; cases hz
  have hj2 : (j : Int) < (xs.length : Int) := by omega
  have hm : j * 4 = 4 * j := Nat.mul_comm _ _
  clear h h2 hz
  generalize xs.length = n at *
  obtain ⟨dd, op, ty, ps, af, gd⟩ := o
  subst ho
  go_simp
theorem load_Sn {z : Rat} (ho : o.op = .load 27 x) (hx : ρ x = va) (h : VAt w (VEp 27 4 (Vq N z)) va W) (hb : Below w.heap.size w W) : ∃ v, (execOp ρ o).run Tryz.prog W = .ok (.value v) W ∧ Vq N z v W :=
  load_Ep ho hx h hb (Stab_Vq _ _) Tryz.underlying27 rfl size_Rat
theorem index_rn {n j g : Nat} (ho : o.op = .indexAddr 33 x y) (hx : ρ x = va) (h : VEq (.slice (some ⟨g, 0, none⟩) n n) va W) (hy : ρ y = vb) (hb : Vi (j : Int) vb W) (hj : j < n) : ∃ v, (execOp ρ o).run Tryz.prog W = .ok (.value v) W ∧ VEq (.pointer (some ⟨g, 4 * j, none⟩)) v W := by
  obtain rfl : va = _ := h
  obtain rfl : vb = _ := hb
  refine ⟨.pointer (some ⟨g, 4 * j, none⟩), ?_, rfl⟩
  have hj2 : (j : Int) < (n : Int) := by omega
  have hm : j * 4 = 4 * j := Nat.mul_comm _ _
  obtain ⟨dd, op, ty, ps, af, gd⟩ := o
  subst ho
  go_simp
theorem noint_zero4 (n : Nat) (cs : Array Value) (h : cs.toList = (List.replicate n [Value.bool false, .slice none 0 0, .bool false, .slice none 0 0]).flatten) : NoInt cs ∧ cs.size = 4 * n := by
  refine ⟨fun i x hi => ?_, ?_⟩
  · have hm : Value.int .i64 x ∈ cs.toList := by rw [Array.mem_toList_iff]; exact Array.mem_of_getElem? hi
    rw [h] at hm
    simp only [List.mem_flatten, List.mem_replicate] at hm
    obtain ⟨l, ⟨-, rfl⟩, hx⟩ := hm
    simp at hx
  · rw [← Array.length_toList, h]
    simp [List.length_flatten]
    omega
theorem mk_Qn {n lo : Nat} (hn : n ≤ 5) (ho : o.op = .makeSlice 33 x x) (hx : ρ x = va) (h : Vi (n : Int) va W) (hlo : lo ≤ W.heap.size) : ∃ v w', (execOp ρ o).run Tryz.prog W = .ok (.value v) w' ∧ Below W.heap.size W w' ∧ VMkn n lo v w' := by
  obtain rfl : va = _ := h
  have key : ∃ cs : Array Value, (Instr.makeSlice 33 (.int .i64 (n : Int)) (.int .i64 (n : Int))).run Tryz.prog W = .ok (.slice (some ⟨W.heap.size, 0, none⟩) n n) (W.alloc (.cells cs 27)) ∧ cs.toList = (List.replicate n [Value.bool false, .slice none 0 0, .bool false, .slice none 0 0]).flatten := by
    match n, hn with
    | 0, _ => exact ⟨#[], by kernel_rfl, rfl⟩
    | 1, _ => exact ⟨#[.bool false, .slice none 0 0, .bool false, .slice none 0 0], by kernel_rfl, rfl⟩
    | 2, _ => exact ⟨#[.bool false, .slice none 0 0, .bool false, .slice none 0 0, .bool false, .slice none 0 0, .bool false, .slice none 0 0], by kernel_rfl, rfl⟩
    | 3, _ => exact ⟨#[.bool false, .slice none 0 0, .bool false, .slice none 0 0, .bool false, .slice none 0 0, .bool false, .slice none 0 0, .bool false, .slice none 0 0, .bool false, .slice none 0 0], by kernel_rfl, rfl⟩
    | 4, _ => exact ⟨#[.bool false, .slice none 0 0, .bool false, .slice none 0 0, .bool false, .slice none 0 0, .bool false, .slice none 0 0, .bool false, .slice none 0 0, .bool false, .slice none 0 0, .bool false, .slice none 0 0, .bool false, .slice none 0 0], by kernel_rfl, rfl⟩
    | 5, _ => exact ⟨#[.bool false, .slice none 0 0, .bool false, .slice none 0 0, .bool false, .slice none 0 0, .bool false, .slice none 0 0, .bool false, .slice none 0 0, .bool false, .slice none 0 0, .bool false, .slice none 0 0, .bool false, .slice none 0 0, .bool false, .slice none 0 0, .bool false, .slice none 0 0], by kernel_rfl, rfl⟩
  obtain ⟨cs, hmk, hcs⟩ := key
  obtain ⟨q1, q2⟩ := noint_zero4 n cs hcs
  refine ⟨.slice (some ⟨W.heap.size, 0, none⟩) n n, W.alloc (.cells cs 27), ?_, below_new _ _, ⟨_, hlo, rfl, ⟨_, heap_alloc_new _ _, q2, q1, trivial⟩⟩⟩
  unfold execOp
  simp only [ho, hx, Sem.run_bind, hmk, Sem.run_pure, Result.andThen_ok]
theorem bslice_Q1 {N : Nat} (ho : o.op = .buildSlice 33 1 #[(0, x)]) (hx : ρ x = va) (h1 : VexQ (fun q => Vq N q) va W) : ∃ v w', (execOp ρ o).run Tryz.prog W = .ok (.value v) w' ∧ Below W.heap.size W w' ∧ VOn 27 4 (VexQ fun q => Vq N q) v w' := by
  obtain ⟨q, hq⟩ := h1
  obtain ⟨cx, rfl, e1, e2, e3⟩ := AggV_Vq _ _ _ _ hq
  obtain ⟨a, b, c, d, rfl⟩ := arr4 e1
  have hb := below_new W (.cells #[a, b, c, d] 27)
  refine ⟨.slice (some ⟨W.heap.size, 0, none⟩) 1 1, _, ?_, hb, ⟨_, _, rfl, heap_alloc_new _ _, rfl, e2, e3, q, Stab_Vq (BT := []) _ _ _ _ _ hq (RI.of_below hb)⟩⟩
  obtain ⟨dd, op, ty, ps, af, gd⟩ := o
  subst ho
  go_simp
theorem quot_bd {a b : Int} (hb : 1 < b) (ha : -9223372036854775808 ≤ a) (ha2 : a ≤ 9223372036854775807) : -9223372036854775808 ≤ Int.tdiv a b ∧ Int.tdiv a b ≤ 9223372036854775807 := by
  have h1 : (Int.tdiv a b).natAbs ≤ a.natAbs / 2 := by
    rw [Int.natAbs_tdiv]
    exact Nat.div_le_div_left (by omega) (by omega)
  omega
theorem run_quot {a b : Int} (ho : o.op = .binOp .quo 3 x y 3) (hx : ρ x = .int .i64 a) (hy : ρ y = .int .i64 b) (hb : 1 < b) (hb2 : b < 1000) (ha : -9223372036854775808 ≤ a) (ha2 : a ≤ 9223372036854775807) : (execOp ρ o).run Tryz.prog W = .ok (.value (.int .i64 (Int.tdiv a b))) W := by
  have hqb := quot_bd hb ha ha2
  have hb0 : ¬ b = 0 := by omega
  have hb1 : ¬ b = -1 := by omega
  generalize hq : Int.tdiv a b = q at hqb ⊢
  have hw := wrap_id hqb.1 hqb.2
  clear hb hb2 hqb ha ha2
  obtain ⟨d, op, ty, ps, af, gd⟩ := o
  subst ho
  go_simp
end
end Go.Proofs.YtleijkgdpmfabaaGreatDoor
