/- hash.Begin, Stream.next. -/
import Derived.Test.YtfgkaiaapofepaaDoorH3
import Derived.Deep.RegionHeld3
namespace Go.Proofs.YtfgkaiaapofepaaDoor
open Go.RowKit

/-- a stream's cells: the value, the block, the length -/
def strC (v : St) (b : List UInt8) (n : Nat) : List Value := wvs (stl v) ++ (bvs b ++ [.int .u64 (n : Int)])
theorem strC_length (v : St) (b : List UInt8) (n : Nat) (hb : b.length = 64) : (strC v b n).length = 73 := by
  simp [strC, wvs, stl, bvs, hb]
theorem strC_one (v : St) (b : List UInt8) (n : Nat) : ∀ u ∈ strC v b n, u.oneCell' = true := by
  intro u hu
  simp only [strC, List.mem_append, List.mem_singleton] at hu
  rcases hu with h | h | rfl
  · exact wvs_one _ u h
  · exact bvs_one _ u h
  · rfl
theorem strC_val {v : St} {b : List UInt8} {n i : Nat} {u : Value} (h : (wvs (stl v))[i]? = some u) : (strC v b n)[i]? = some u := by
  have hi : i < (wvs (stl v)).length := (List.getElem?_eq_some_iff.1 h).1
  unfold strC
  rw [List.getElem?_append_left hi, h]
theorem strC_blk {v : St} {b : List UInt8} {n i : Nat} {u : Value} (h : (bvs b)[i]? = some u) : (strC v b n)[8 + i]? = some u := by
  have hi : i < (bvs b).length := (List.getElem?_eq_some_iff.1 h).1
  have h8 : (wvs (stl v)).length = 8 := rfl
  unfold strC
  rw [List.getElem?_append_right (by omega), h8, show 8 + i - 8 = i by omega, List.getElem?_append_left hi, h]
theorem strC_len {v : St} {b : List UInt8} {n : Nat} (hb : b.length = 64) : (strC v b n)[72]? = some (.int .u64 (n : Int)) := by
  have h8 : (wvs (stl v)).length = 8 := rfl
  have h64 : (bvs b).length = 64 := by rw [bvs_length, hb]
  unfold strC
  rw [List.getElem?_append_right (by omega), h8, List.getElem?_append_right (by omega), h64]
  rfl
def z73 : Array Value := (strC ⟨0, 0, 0, 0, 0, 0, 0, 0⟩ (List.replicate 64 0) 0).toArray
theorem zero_73 : (Tryd.prog.info? 34).map (·.zero) = some (some (.agg z73)) := by kernel_rfl
theorem size_73 (v : St) (b : List UInt8) (n : Nat) (hb : b.length = 64) : (Tryd.prog.info? 34).map (·.size) = some (strC v b n).toArray.size := by
  rw [List.size_toArray, strC_length v b n hb]; kernel_rfl
theorem z73_size (v : St) (b : List UInt8) (n : Nat) (hb : b.length = 64) : z73.size = (strC v b n).toArray.size := by
  have : z73.size = 73 := by kernel_rfl
  rw [this, List.size_toArray, strC_length v b n hb]

section
variable {P : Program}
theorem wpList_build_as {ops : Array Oper} {rest : List Oper} {o : Oper} {a : Act} {w : World} {Q : Exit → Act → World → Prop} (hg : o.guard = none) (t : TypeId) (parts : List (Nat × Operand)) (ho : o.op = .build t parts.toArray)
    (cells : Array Value) (hb : P.built t (parts.map fun p => (p.1, a.eval p.2)) = some cells) (h : wpList P ops Q rest (a.put o.dst (.agg cells)) w) : wpList P ops Q (o :: rest) a w :=
  have e : (parts.toArray.map fun (i, x) => (i, a.eval x)).toList = parts.map fun p => (p.1, a.eval p.2) := by simp
  wpList_build hg t parts.toArray ho (by rw [e, hb]; rfl) (by rw [e, hb]; exact h)
end
theorem built_begin : Tryd.prog.built 34 [(0, .agg #[.int .u32 1779033703, .int .u32 3144134277, .int .u32 1013904242, .int .u32 2773480762, .int .u32 1359893119, .int .u32 2600822924, .int .u32 528734635, .int .u32 1541459225])] = some (strC st0 (List.replicate 64 0) 0).toArray := by kernel_rfl
theorem built_next (v : St) (n : Nat) : Tryd.prog.built 34 [(0, .agg (stv v)), (2, .int .u64 (n : Int))] = some (strC v (List.replicate 64 0) n).toArray := by kernel_rfl
theorem run_zero_73 (W : World) : (zeroValue 34).run Tryd.prog W = .ok (.agg z73) W := by
  have h := zero_73
  cases hq : Tryd.prog.info? 34 with
  | none => simp [hq] at h
  | some i =>
    have h' : i.zero = some (.agg z73) := by simpa [hq] using h
    simp [zeroValue, typeInfo, hq, h', Sem.run_bind]

set_option maxRecDepth 100000 in
set_option maxHeartbeats 800000 in
theorem begin_any (w : World) : Calls Tryd.prog 14 #[] w fun e w' => e = .returned (.agg (strC st0 (List.replicate 64 0) 0).toArray) ∧ Below w.heap.size w w' := by
  have hsz := Lib.hid (size_73 st0 (List.replicate 64 0) 0 rfl)
  have hz := Lib.hid (z73_size st0 (List.replicate 64 0) 0 rfl)
  have h1 := Lib.hid (all_oneCell_toArray (strC_one st0 (List.replicate 64 0) 0))
  have hbu := Lib.hid built_begin
  generalize (strC st0 (List.replicate 64 0) 0).toArray = S at *
  go_enter Tryd.func14, Tryd.ntmps14
  go_wp2_with (first | (refine wpList_alloc_as rfl 34 rfl z73 zero_73 ?_) | (refine wpList_build_as rfl 34 _ rfl S (by exact hbu.out) ?_) | (refine wpList_store_last rfl 34 _ _ rfl S rfl rfl 34 z73 hsz.out hz.out h1.out ?_))
  refine bodyPost_ret (v := .agg S) (results_cell_row rfl _ _ w.heap.size 34 _ (0, 0) _ rfl (heap_alloc_new _ _) Tryd.underlying34 rfl hsz.out) rfl ⟨rfl, (Below.refl _ _).alloc (Nat.le_refl _) _⟩

section
variable {P : Program}
theorem yieldsIf_build0 {ops : Array Oper} {S : World → Prop} {o : Oper} {a : Act} (hw : Region.wanted o (yielded ops a.tmps) = true) (t : TypeId) (parts : Array (Nat × Operand)) (ho : o.op = .build t parts)
    (cells : Array Value) (hb : P.built t (parts.map fun (i, x) => (i, a.eval x)).toList = some cells) : YieldsIf P ops S o (.agg cells) a :=
  .inl ⟨hw, fun w _ => by
    unfold execOp
    simp only [ho, Sem.run_bind, run_build w t _ cells hb, Result.andThen_ok]
    rfl⟩
theorem yieldsIf_build {ops : Array Oper} {S : World → Prop} {o : Oper} {a : Act} (hw : Region.wanted o (yielded ops a.tmps) = true) (t : TypeId) (parts : List (Nat × Operand)) (ho : o.op = .build t parts.toArray)
    (cells : Array Value) (hb : P.built t (parts.map fun p => (p.1, a.eval p.2)) = some cells) : YieldsIf P ops S o (.agg cells) a :=
  have e : (parts.toArray.map fun (i, x) => (i, a.eval x)).toList = parts.map fun p => (p.1, a.eval p.2) := by simp
  yieldsIf_build0 hw t parts.toArray ho cells (by rw [e]; exact hb)
end

/-- the first block of next: the stream -/
def NxI (w : World) (v : St) (b : List UInt8) (n : Nat) (W : World) : Prop :=
  W.heap[w.heap.size]? = some (.cells (strC v b n).toArray 34 (0, 0)) ∧ Tab W ∧ Below w.heap.size w W ∧ b.length = 64
theorem NxI.start {w : World} {v : St} {b : List UInt8} {n : Nat} (hT : Tab w) (hb : b.length = 64) : NxI w v b n ((w.alloc (.cells (strC v b n).toArray 34)).alloc (.cells z73 34)) := by
  have hbl : Below w.heap.size w ((w.alloc (.cells (strC v b n).toArray 34)).alloc (.cells z73 34)) := ((Below.refl _ _).alloc (Nat.le_refl _) _).alloc (by simp) _
  exact ⟨heap_alloc2_old w _ _, hT.below hbl hT.lt, hbl, hb⟩
theorem below_drew {B : Nat} {w W : World} (h : Below B w W) : Below B w W.drew := ⟨h.os, h.tape, h.output, h.size, h.block⟩
theorem NxI.drew {w W : World} {v : St} {b : List UInt8} {n : Nat} (h : NxI w v b n W) : NxI w v b n W.drew :=
  ⟨h.1, h.2.1, below_drew h.2.2.1, h.2.2.2⟩
theorem NxI.later {w W W' : World} {v : St} {b : List UInt8} {n : Nat} (h : NxI w v b n W) (hb : Below W.heap.size W W') : NxI w v b n W' := by
  obtain ⟨h1, h3, h4, h5⟩ := h
  have l1 := lt_of_block h1
  exact ⟨(hb.block _ l1).trans h1, h3.below hb h3.lt, h4.trans (hb.mono h4.size), h5⟩
theorem NxI.setRow {w W : World} {v : St} {b : List UInt8} {n g : Nat} (h : NxI w v b n W) (hT : Tab w) (hg : w.heap.size < g) (cs : Array Value) : NxI w v b n (W.setRow g cs) := by
  obtain ⟨h1, h3, h4, h5⟩ := h
  have hb := below_setRow h4 (Nat.le_of_lt hg) cs
  exact ⟨(setRow_other _ _ _ _ (by omega)).trans h1, hT.below hb hT.lt, hb, h5⟩
theorem NxI.val {w W : World} {v : St} {b : List UInt8} {n : Nat} (h : NxI w v b n W) : W.rangeAt w.heap.size 0 (wvs (stl v)) := fun j u hu => cell_row h.1 (by rw [Nat.zero_add]; simpa using strC_val hu)
theorem NxI.blk {w W : World} {v : St} {b : List UInt8} {n : Nat} (h : NxI w v b n W) : W.rangeAt w.heap.size 8 (bvs b) := fun j u hu => cell_row h.1 (by simpa using strC_blk hu)
theorem NxI.len {w W : World} {v : St} {b : List UInt8} {n : Nat} (h : NxI w v b n W) : W.cell? ⟨w.heap.size, 72, none⟩ = some (.int .u64 (n : Int)) := cell_row h.1 (by simpa using strC_len h.2.2.2)

set_option maxRecDepth 100000 in
set_option maxHeartbeats 1600000 in
theorem next_any (v : St) (b : List UInt8) (n : Nat) (hb : Hid (b.length = 64)) (w : World) (hT : Tab w) :
    Calls Tryd.prog 30 #[.agg (strC v b n).toArray] w fun e w' => e = .returned (.agg (strC (blk1 v b) (List.replicate 64 0) n).toArray) ∧ Below w.heap.size w w' := by
  have hT' := Lib.hid hT
  have h30 := Tryd.underlying30
  have h31 := Tryd.underlying31
  have i30 : (Tryd.prog.info? 30).map (·.size) = some (wvs (stl v)).length := stv_size v
  have i31 : (Tryd.prog.info? 31).map (·.size) = some (bvs b).length := by rw [bvs_length, hb.out]; kernel_rfl
  have hst := (NxI.start (n := n) (v := v) hT'.out hb.out).drew
  clear hT
  go_enter Tryd.func30, Tryd.ntmps30
  go_upto_region 1 with (first | (refine wpList_alloc_as rfl 34 rfl z73 zero_73 ?_))
  refine wp_region_held_drew (S := NxI w v b n) (by kernel_rfl) hst (fun hHeld => ?_)
  refine wpAnyH_take (i := 0) (v := .pointer (some ⟨w.heap.size, 0, none⟩)) rfl (by kernel_rfl) (by kernel_rfl) (by kernel_rfl) (fun _ _ _ h => h) (Or.inl ⟨by rfl, fun W _ => by go_simp⟩) hHeld ?_
  simp only [Act.put, List.getElem_toArray, List.getElem_cons_zero, List.setIfInBounds_toArray, List.set_cons_zero, List.set_cons_succ]
  refine wpAnyH_take (i := 1) rfl (by kernel_rfl) (by kernel_rfl) (by kernel_rfl) (fun _ _ _ h => h) (yieldsIf_load_mid (by rfl) 30 _ rfl w.heap.size 0 rfl (wvs (stl v)) _ (fun W h => h.val) h30 rfl i30) hHeld ?_
  simp only [Act.put, List.getElem_toArray, List.getElem_cons_zero, List.getElem_cons_succ, List.setIfInBounds_toArray, List.set_cons_zero, List.set_cons_succ]
  refine wpAnyH_take (i := 2) (v := .pointer (some ⟨w.heap.size, 8, none⟩)) rfl (by kernel_rfl) (by kernel_rfl) (by kernel_rfl) (fun _ _ _ h => h) (Or.inl ⟨by rfl, fun W _ => by go_simp⟩) hHeld ?_
  simp only [Act.put, List.getElem_toArray, List.getElem_cons_zero, List.getElem_cons_succ, List.setIfInBounds_toArray, List.set_cons_zero, List.set_cons_succ]
  refine wpAnyH_take (i := 3) rfl (by kernel_rfl) (by kernel_rfl) (by kernel_rfl) (fun _ _ _ h => h) (yieldsIf_load_mid (by rfl) 31 _ rfl w.heap.size 8 rfl (bvs b) _ (fun W h => h.blk) h31 rfl i31) hHeld ?_
  simp only [Act.put, List.getElem_toArray, List.getElem_cons_zero, List.getElem_cons_succ, List.setIfInBounds_toArray, List.set_cons_zero, List.set_cons_succ]
  refine wpAnyH_take (i := 5) (v := .pointer (some ⟨w.heap.size, 72, none⟩)) rfl (by kernel_rfl) (by kernel_rfl) (by kernel_rfl) (fun _ _ _ h => h) (Or.inl ⟨by rfl, fun W _ => by go_simp⟩) hHeld ?_
  simp only [Act.put, List.getElem_toArray, List.getElem_cons_zero, List.getElem_cons_succ, List.setIfInBounds_toArray, List.set_cons_zero, List.set_cons_succ]
  refine wpAnyH_take (i := 6) (v := .int .u64 (n : Int)) rfl (by kernel_rfl) (by kernel_rfl) (by kernel_rfl) (fun _ _ _ h => h) (Or.inl ⟨by rfl, fun W h => by have := h.len; go_simp⟩) hHeld ?_
  simp only [Act.put, List.getElem_toArray, List.getElem_cons_zero, List.getElem_cons_succ, List.setIfInBounds_toArray, List.set_cons_zero, List.set_cons_succ]
  refine wpAnyH_ready (rs := [4]) (by kernel_rfl) (by simp) ?_
  refine AllReadyH.cons rfl (fun K hK => ?_) AllReadyH.nil
  simp only [List.getElem_toArray, List.getElem_cons_zero, List.getElem_cons_succ]
  go_simp
  refine (compress_any v b hb _ hHeld.2.1).mono ?_
  rintro e w1 ⟨rfl, hb1⟩
  refine hK.out _ _ (hHeld.later hb1) (fun hHeld1 => ?_)
  clear hK K
  have hz1 : w1.heap[w.heap.size + 1]? = some (.cells z73 34 (0, 0)) := (hb1.block _ (by simp)).trans (heap_alloc2_new w _ _)
  refine wpAnyH_take (i := 7) rfl (by kernel_rfl) (by kernel_rfl) (by kernel_rfl) (fun _ _ _ h => h) (yieldsIf_build (by rfl) 34 _ rfl (strC (blk1 v b) (List.replicate 64 0) n).toArray (by exact built_next (blk1 v b) n)) hHeld1 ?_
  simp only [Act.put, List.getElem_toArray, List.getElem_cons_zero, List.getElem_cons_succ, List.setIfInBounds_toArray, List.set_cons_zero, List.set_cons_succ]
  refine wpAnyH_ready (rs := [8]) (by kernel_rfl) (by simp) ?_
  refine AllReadyH.cons rfl (fun K hK => ?_) AllReadyH.nil
  simp only [List.getElem_toArray, List.getElem_cons_zero, List.getElem_cons_succ]
  rw [if_pos (by rfl)]
  refine wp_store_row 34 _ _ rfl (w.heap.size + 1) (strC (blk1 v b) (List.replicate 64 0) n).toArray rfl rfl 34 z73 hz1 (size_73 _ _ _ rfl) (z73_size _ _ _ rfl) (all_oneCell_toArray (strC_one _ _ _)) ?_
  refine hK.out _ _ (hHeld1.setRow hT'.out (by omega) _) (fun hHeld2 => ?_)
  clear hK K
  refine wpAnyH_done (by kernel_rfl) ?_ _
  have hg := setRow_heap _ _ _ (strC (blk1 v b) (List.replicate 64 0) n).toArray _ _ hz1
  have hsz := Lib.hid (size_73 (blk1 v b) (List.replicate 64 0) n rfl)
  obtain ⟨S, hS⟩ : ∃ S, (strC (blk1 v b) (List.replicate 64 0) n).toArray = S := ⟨_, rfl⟩
  have hbl := hHeld2.2.2.1
  rw [hS] at hg hsz hbl ⊢
  have hS' := Lib.hid hS
  clear hS
  go_wp2_with fail
  refine bodyPost_ret (v := .agg S) (results_cell_row rfl _ _ (w.heap.size + 1) 34 _ (0, 0) _ rfl hg Tryd.underlying34 rfl hsz.out) rfl ⟨by rw [hS'.out], hbl⟩
end Go.Proofs.YtfgkaiaapofepaaDoor
