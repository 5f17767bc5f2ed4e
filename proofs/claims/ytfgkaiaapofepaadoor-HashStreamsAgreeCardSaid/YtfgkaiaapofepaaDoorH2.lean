/- hash.schedule. -/
import Derived.Test.YtfgkaiaapofepaaDoorH1
import Derived.Test.YtfgkaiaapofepaaDoorW3
import Derived.Deep.MidRow
import Derived.Deep.WholeRow
import Derived.Deep.RegionWith
import Derived.Deep.DeepCutAuto
import Derived.Deep.QuietTactic
import Derived.BigQuiet
import Derived.StillTailTactics
namespace Go.Proofs.YtfgkaiaapofepaaDoor
set_option linter.unusedVariables false
open Go.RowKit

/-- words as values -/
def wvs (l : List Wd) : List Value := l.map fun x => .int .u32 (wn x)
theorem wvs_one (l : List Wd) : ∀ u ∈ wvs l, u.oneCell' = true := by
  intro u hu
  simp only [wvs, List.mem_map] at hu
  obtain ⟨b, _, rfl⟩ := hu
  rfl
theorem wvs_length (l : List Wd) : (wvs l).length = l.length := by simp [wvs]
theorem wvs_size (l : List Wd) : (wvs l).toArray.size = l.length := by simp [wvs]
theorem wvs_get {l : List Wd} {i : Nat} {x : Wd} (h : l[i]? = some x) : (wvs l).toArray[i]? = some (.int .u32 (wn x)) := by
  simp [wvs, h]
theorem wvs_set (l : List Wd) (i : Nat) (x : Wd) : (wvs l).toArray.setIfInBounds i (.int .u32 (wn x)) = (wvs (l.set i x)).toArray := by
  apply Array.toList_inj.1
  simp [wvs]
theorem bvs_get {l : List UInt8} {i : Nat} (h : i < l.length) : (bvs l).toArray[i]? = some (.int .u8 (byt l i)) := by
  simp [bvs, byt, h]

section
variable {P : Program}
/-- 'var x T': a block of T's zeros, by name -/
theorem wpList_alloc_as {ops : Array Oper} {rest : List Oper} {o : Oper} {a : Act} {w : World} {Q : Exit → Act → World → Prop} (hgd : o.guard = none) (ty : TypeId) (ho : o.op = .alloc ty)
    (c : Array Value) (hz : (P.info? ty).map (·.zero) = some (some (.agg c))) (h : wpList P ops Q rest (a.put o.dst (.pointer (some ⟨w.heap.size, 0, none⟩))) (w.alloc (.cells c ty))) : wpList P ops Q (o :: rest) a w :=
  wpList_plain hgd fun K hK => by
    cases hq : P.info? ty with
    | none => simp [hq] at hz
    | some i =>
      have hz' : i.zero = some (.agg c) := by simpa [hq] using hz
      unfold Oper.wp execOp
      simp [ho, Instr.alloc, newVar, newRow, zeroValue, typeInfo, hq, hz', Sem.run_bind, Value.cells]
      exact hK _ _ h
/-- element k of an array of one-cell elements, by value -/
theorem run_index_cell (t e : TypeId) (n k : Nat) (cs : Array Value) (v : Value) (d : TypeDesc) (hu : P.underlying t = some (.array n e)) (he : P.underlying e = some d) (hd : d.isRow = false)
    (hs : (P.info? e).map (·.size) = some 1) (hk : k < n) (hv : cs[k]? = some v) (w : World) : (Instr.index t (.agg cs) (.int .i64 (k : Int))).run P w = .ok v w := by
  have hagg : (isAgg e).run P w = .ok false w := by
    unfold isAgg
    rw [Sem.run_bind, run_underlying he w]
    cases d <;> simp_all [TypeDesc.isRow]
  cases hq : P.info? e with
  | none => simp [hq] at hs
  | some i =>
    have hs' : i.size = 1 := by simpa [hq] using hs
    have h0 : (0 : Int) ≤ (k : Int) ∧ (k : Int) < (n : Int) := by omega
    simp [Instr.index, asIntOf, Sem.run_bind, run_underlying hu w, h0, sizeOf, typeInfo, hq, hs', part, hagg, hv]
    intro h; omega

theorem q_left {f : FuncId} {args : Array Value} {w : World} {n : Nat} {v : Value} (h : Calls P f args (w.drewN n) fun e w' => e = .returned v ∧ w.drewN n = w') :
    Calls P f args (w.drewN n) fun e w'' => e = .returned v ∧ ∃ m, w'' = w.drewN m := h.mono fun _ _ x => ⟨x.1, n, x.2.symm⟩
theorem q_more {f : FuncId} {args : Array Value} {w : World} {a n : Nat} {v : Value} (h : Calls P f args (w.drewN (a + n)) fun e w' => e = .returned v ∧ w.drewN (a + n) = w') :
    Calls P f args (w.drewN (a + n)) fun e w'' => e = .returned v ∧ ∃ m, w'' = w.drewN (a + m) := h.mono fun _ _ x => ⟨x.1, n, x.2.symm⟩
end

def z64w : Array Value := (wvs (List.replicate 64 0)).toArray
theorem zero_64w : (Tryd.prog.info? 54).map (·.zero) = some (some (.agg z64w)) := by kernel_rfl
theorem size_64w (l : List Wd) (h : l.length = 64) : (Tryd.prog.info? 54).map (·.size) = some (wvs l).toArray.size := by
  rw [List.size_toArray, wvs_length, h]; kernel_rfl
theorem size_64b (l : List UInt8) (h : l.length = 64) : (Tryd.prog.info? 31).map (·.size) = some (bvs l).toArray.size := by
  rw [List.size_toArray, bvs_length, h]; kernel_rfl

theorem heap_old {w : World} {o : Obj} {i : Nat} {b : Option Obj} (h : i < w.heap.size) (e : w.heap[i]? = b) : (w.alloc o).heap[i]? = b := by
  rw [← e]
  show (w.heap.push o)[i]? = _
  rw [Array.getElem?_push, if_neg (by omega)]
theorem heap3_0 (w : World) (A B C : Obj) : (((w.alloc A).alloc B).alloc C).heap[w.heap.size]? = some A :=
  heap_old (by simp; omega) (heap_old (by simp) (heap_alloc_new _ _))
theorem heap3_1 (w : World) (A B C : Obj) : (((w.alloc A).alloc B).alloc C).heap[w.heap.size + 1]? = some B :=
  heap_old (by simp) (heap_alloc2_new w A B)
theorem heap3_2 (w : World) (A B C : Obj) : (((w.alloc A).alloc B).alloc C).heap[w.heap.size + 1 + 1]? = some C := by
  have := heap_alloc_new ((w.alloc A).alloc B) C
  simpa using this
theorem below3 (w : World) (A B C : Obj) : Below w.heap.size w (((w.alloc A).alloc B).alloc C) :=
  (((Below.refl _ _).alloc (Nat.le_refl _) _).alloc (by simp) _).alloc (by simp; omega) _

theorem cell_row {w : World} {g i : Nat} {cs : Array Value} {t : TypeId} {f : Nat × Nat} {v : Value} (h : w.heap[g]? = some (.cells cs t f)) (hv : cs[i]? = some v) : w.cell? ⟨g, i, none⟩ = some v := by simp [World.cell?, h, hv]
theorem free_row {w : World} {g i : Nat} {cs : Array Value} {t : TypeId} (h : w.heap[g]? = some (.cells cs t (0, 0))) : w.frozen? ⟨g, i, none⟩ = false := by simp [World.frozen?, h]
theorem set_other {w : World} {g k i : Nat} {v : Value} {b : Option Obj} (hk : k ≠ g) (h : w.heap[k]? = b) : (w.setCell ⟨g, i, none⟩ v).heap[k]? = b := by
  rw [← h]; exact heap_setCell_other w _ k v hk

theorem sg0_go (x : Wd) : bits .xor .u32 (bits .xor .u32 (wn (rotw x 7)) (wn (rotw x 18))) (wn x / 8) = wn (sg0 x) := by
  rw [show (8 : Int) = 2 ^ 3 from rfl, wn_shr, wn_xor, wn_xor]; rfl
theorem sg1_go (x : Wd) : bits .xor .u32 (bits .xor .u32 (wn (rotw x 17)) (wn (rotw x 19))) (wn x / 1024) = wn (sg1 x) := by
  rw [show (1024 : Int) = 2 ^ 10 from rfl, wn_shr, wn_xor, wn_xor]; rfl
theorem byt_wn (l : List UInt8) (k : Nat) : byt l k = wn (BitVec.ofNat 32 (l.getD k 0).toNat) := by
  have := (l.getD k 0).toNat_lt
  unfold byt wn
  rw [BitVec.toNat_ofNat, Nat.mod_eq_of_lt (by omega)]
theorem shl8_or (p : Wd) (l : List UInt8) (k : Nat) : bits .or .u32 (wn p * 256 % 4294967296) (byt l k) = wn ((p <<< 8) ||| BitVec.ofNat 32 (l.getD k 0).toNat) := by
  rw [byt_wn, show (256 : Int) = 2 ^ 8 from rfl, wn_shl, wn_or]

/-- the three blocks of schedule: the words so far in the third, zeros in the second -/
def SchI (w : World) (ws : List Wd) (wr : World) : Prop :=
  wr.heap[w.heap.size + 1 + 1]? = some (.cells (wvs ws).toArray 54 (0, 0)) ∧ wr.heap[w.heap.size + 1]? = some (.cells z64w 54 (0, 0)) ∧ Below w.heap.size w wr

theorem SchI_get {w wr : World} {ws : List Wd} (h : wr.heap[w.heap.size + 1 + 1]? = some (.cells (wvs ws).toArray 54 (0, 0))) {i : Nat} {x : Wd} (hx : ws[i]? = some x) : wr.cell? ⟨w.heap.size + 1 + 1, i, none⟩ = some (.int .u32 (wn x)) := cell_row h (wvs_get hx)
theorem SchI.set {w wr : World} {ws : List Wd} (h : SchI w ws wr) (i : Nat) (x : Wd) : SchI w (ws.set i x) (wr.setCell ⟨w.heap.size + 1 + 1, i, none⟩ (.int .u32 (wn x))) := by
  obtain ⟨h1, h2, h3⟩ := h
  refine ⟨?_, set_other (by omega) h2, h3.setCell (by simp; omega) _⟩
  rw [heap_setCell_self _ _ _ _ _ _ h1, wvs_set]

theorem SchI.drew {w wr : World} {ws : List Wd} (h : SchI w ws wr) : SchI w ws wr.drew :=
  ⟨h.1, h.2.1, ⟨h.2.2.os, h.2.2.tape, h.2.2.output, h.2.2.size, h.2.2.block⟩⟩
theorem SchI.drewN {w wr : World} {ws : List Wd} (h : SchI w ws wr) (q : Nat) : SchI w ws (wr.drewN q) :=
  ⟨h.1, h.2.1, ⟨h.2.2.os, h.2.2.tape, h.2.2.output, h.2.2.size, h.2.2.block⟩⟩

/-- what a round of the second loop needs to know -/
def SchF (w : World) (l : List UInt8) (ws ws' : List Wd) (t : Nat) (x15 x2 x16 x7 : Wd) : Prop :=
  ∀ wr, SchI w ws wr → wr.cell? ⟨w.heap.size + 1 + 1, t - 15, none⟩ = some (.int .u32 (wn x15)) ∧ wr.cell? ⟨w.heap.size + 1 + 1, t - 2, none⟩ = some (.int .u32 (wn x2)) ∧ wr.cell? ⟨w.heap.size + 1 + 1, t - 16, none⟩ = some (.int .u32 (wn x16)) ∧
    wr.cell? ⟨w.heap.size + 1 + 1, t - 7, none⟩ = some (.int .u32 (wn x7)) ∧ wr.cell? ⟨w.heap.size + 1 + 1, t, none⟩ = some (.int .u32 (wn 0)) ∧ wr.frozen? ⟨w.heap.size + 1 + 1, t, none⟩ = false ∧
    SchI w ws' (wr.setCell ⟨w.heap.size + 1 + 1, t, none⟩ (.int .u32 (wn (x16 + sg0 x15 + x7 + sg1 x2))))
theorem schF (w : World) (l : List UInt8) (t : Nat) (ht : 16 ≤ t) (hlt : t < 64) : ∃ x15 x2 x16 x7, SchF w l (wat l t) (wat l (t + 1)) t x15 x2 x16 x7 := by
  refine ⟨wrd l (t - 15), wrd l (t - 2), wrd l (t - 16), wrd l (t - 7), fun wr h => ⟨SchI_get h.1 (wat_word l t (t - 15) ht (by omega) (by omega)), SchI_get h.1 (wat_word l t (t - 2) ht (by omega) (by omega)),
    SchI_get h.1 (wat_word l t (t - 16) ht (by omega) (by omega)), SchI_get h.1 (wat_word l t (t - 7) ht (by omega) (by omega)), SchI_get h.1 (wat_zero l t ht hlt), free_row h.1, ?_⟩⟩
  rw [← wrd_next l t ht hlt, ← wat_step l t ht hlt]
  exact h.set _ _

theorem wt_go (x16 s0 x7 s1 : Wd) : (((wn x16 + wn s0) % 4294967296 + wn x7) % 4294967296 + wn s1) % 4294967296 = wn (x16 + s0 + x7 + s1) := by
  rw [wn_add', wn_add', wn_add']

set_option maxRecDepth 100000 in
set_option maxHeartbeats 1600000 in
theorem schedule_any (l : List UInt8) (hl : Hid (l.length = 64)) (w : World) :
    Calls Tryd.prog 40 #[.agg (bvs l).toArray] w fun e w' => e = .returned (.agg (wvs (words l)).toArray) ∧ Below w.heap.size w w' := by
  have hs := Lib.hid (size_64b l hl.out)
  go_enter Tryd.func40, Tryd.ntmps40
  go_wp2_with (first | (refine wpList_alloc_as rfl 54 rfl z64w zero_64w ?_) | ((refine wpList_load_row rfl 31 _ rfl w.heap.size rfl 31 (bvs l).toArray (0, 0) _ (heap3_0 w _ _ _) Tryd.underlying31 rfl hs.out ?_)))
  go_loopw [10] (fun i wr => ∃ k : Nat, k ≤ 64 ∧ i = .int .i64 k ∧ SchI w (fillw l k) wr) (fun i _ => 64 - (intOf i).toNat)
  case atStart => exact ⟨0, by omega, rfl, by rw [fillw_zero]; exact ⟨heap3_2 _ _ _ _, heap3_1 _ _ _ _, below3 _ _ _ _⟩⟩
  case round =>
    obtain ⟨k, hk, rfl, hI⟩ := hrel
    by_cases hlt : k < 64
    · have hx : (bvs l).toArray[k]? = some (.int .u8 (byt l k)) := bvs_get (by rw [hl.out]; exact hlt)
      have hix := run_index_cell (P := Tryd.prog) 31 5 64 k (bvs l).toArray _ _ Tryd.underlying31 Tryd.underlying5 rfl (by kernel_rfl) hlt hx
      have hI' := Lib.hid hI
      have hlt' : (k : Int) < 64 := by omega
      have hfa := fillw_at l k hlt
      have hfs := fillw_step l k hlt
      generalize pwd l (k / 4) (k % 4) = p at hfa hfs
      have hst := hI.set (k / 4) ((p <<< 8) ||| BitVec.ofNat 32 (l.getD k 0).toNat)
      rw [hfs] at hst
      have hst' := Lib.hid hst
      have hc := SchI_get hI.1 hfa
      have hf := free_row (i := k / 4) hI.1
      have hp0 := wn_lo p
      have hp1 := wn_hi p
      have hb0 := byt_lo l k
      have hb1 := byt_hi l k
      have hor := Lib.hid (shl8_or p l k)
      clear hI hx hfa hfs hst
      go_wp2
      refine ⟨⟨k + 1, by omega, by simp, ?_⟩, by simp [intOf]; omega⟩
      rw [hor.out]
      exact hst'.out
    · have hk' : k = 64 := by omega
      subst hk'
      rw [wat_16] at hI
      rw [show ((64 : Nat) : Int) = 64 from rfl]
      have hI1 := Lib.hid hI
      clear hI hlt
      go_wp2
      go_loopw [6] (fun i wr => ∃ t : Nat, 16 ≤ t ∧ t ≤ 64 ∧ i = .int .i64 t ∧ SchI w (wat l t) wr) (fun i _ => 64 - (intOf i).toNat)
      case atStart => exact ⟨16, by omega, by omega, rfl, hI1.out⟩
      case round =>
        obtain ⟨t, ht, ht2, rfl, hI0⟩ := hrel
        clear hI1
        by_cases hlt : t < 64
        · obtain ⟨x15, x2, x16, x7, hF⟩ := schF w l t ht hlt
          generalize wat l t = ws at *
          obtain ⟨ws', hws⟩ : ∃ ws', wat l (t + 1) = ws' := ⟨_, rfl⟩
          rw [hws] at hF
          have hF' := Lib.hid hF
          have hws' := Lib.hid hws
          have hI := Lib.hid hI0
          have c15 := (hF wr hI0).1
          have hlt' : (t : Int) < 64 := by omega
          have ht' : (16 : Int) ≤ (t : Int) := by omega
          have e15 : ((t : Int) - 15).toNat = t - 15 := by omega
          clear hF hws hI0
          go_upto_region 1 with fail
          go_cut [7] (fun s wx => s = .int .u32 (wn (sg0 x15)) ∧ SchI w ws wx)
          case first =>
            go_quiet ((go_at_call 43; first | exact q_left (rotr_lit x15 7 (by decide) _ rfl _) | exact q_left (rotr_lit x15 18 (by decide) _ rfl _)))
            go_wp2_with fail
            go_meet
            exact ⟨by rw [sg0_go], hI.out.drewN _⟩
          case rest =>
            obtain ⟨rfl, hI1⟩ := hcut
            have c2 := (hF'.out _ hI1).2.1
            have e2 : ((t : Int) - 2).toNat = t - 2 := by omega
            have hI2 := Lib.hid hI1
            clear hI1 hI c15 e15
            go_upto_region 1 with fail
            go_cut [8] (fun s wx => s = .int .u32 (wn (sg1 x2)) ∧ SchI w ws wx)
            case first =>
              go_quiet ((go_at_call 43; first | exact q_left (rotr_lit x2 17 (by decide) _ rfl _) | exact q_left (rotr_lit x2 19 (by decide) _ rfl _)))
              go_wp2_with fail
              go_meet
              exact ⟨by rw [sg1_go], hI2.out.drewN _⟩
            case rest =>
              obtain ⟨rfl, hI1⟩ := hcut
              obtain ⟨_, _, c16, c7, ct, hf, _⟩ := hF'.out _ hI1
              have e16 : ((t : Int) - 16).toNat = t - 16 := by omega
              have e7 : ((t : Int) - 7).toNat = t - 7 := by omega
              have hst := Lib.hid (hF'.out _ hI1).2.2.2.2.2.2
              have i16 : IntKind.i64.wrap ((t : Int) - 16) = (t : Int) - 16 := IntWalk.i64_in _ (by omega)
              have i7 : IntKind.i64.wrap ((t : Int) - 7) = (t : Int) - 7 := IntWalk.i64_in _ (by omega)
              have p16 : 0 ≤ (t : Int) - 16 := by omega
              have p7 : 0 ≤ (t : Int) - 7 := by omega
              have r16 : (t : Int) - 16 < 64 := by omega
              have r7 : (t : Int) - 7 < 64 := by omega
              have t0 : 0 ≤ (t : Int) := by omega
              clear hI1 hI2 e2 c2
              generalize sg0 x15 = s0 at *
              generalize sg1 x2 = s1 at *
              go_upto_region 1 with fail
              go_region_with fail
              all_goals
                go_wp2
                refine ⟨⟨t + 1, by omega, by omega, by simp, ?_⟩, by simp [intOf]; omega⟩
                rw [hws'.out]
                first | rw [wt_go] | rw [wn_add, wn_add, wn_add]
                exact hst.out.drew
        · have hk' : t = 64 := by omega
          subst hk'
          obtain ⟨W, hW⟩ : ∃ W, W = words l := ⟨_, rfl⟩
          have hWl : W.length = 64 := by rw [hW, words_length]
          rw [wat_64, ← hW] at hI0
          rw [show ((64 : Nat) : Int) = 64 from rfl]
          have hW' := Lib.hid hW
          have hz := Lib.hid (size_64w W hWl)
          have hz2 : Hid (z64w.size = (wvs W).toArray.size) := Lib.hid (by rw [wvs_size, hWl]; exact wvs_size _)
          have h1c := Lib.hid (all_oneCell_toArray (wvs_one W))
          have hg2 := Lib.hid hI0.1
          have hg1 := Lib.hid hI0.2.1
          have hb := Lib.hid hI0.2.2
          clear hI0 hlt hW hWl
          go_wp2_with (first | (refine wpList_load_row rfl 54 _ rfl (w.heap.size + 1 + 1) rfl 54 (wvs W).toArray (0, 0) _ hg2.out Tryd.underlying54 rfl hz.out ?_) | (refine wpList_store_row rfl 54 _ _ rfl (w.heap.size + 1) (wvs W).toArray rfl rfl 54 z64w hg1.out hz.out hz2.out h1c.out ?_))
          refine bodyPost_ret (v := .agg (wvs W).toArray) (results_cell_row rfl _ _ (w.heap.size + 1) 54 _ (0, 0) _ rfl (setRow_heap _ _ _ _ _ _ hg1.out) Tryd.underlying54 rfl hz.out) rfl ⟨by rw [hW'.out], below_setRow hb.out (by omega) _⟩
end Go.Proofs.YtfgkaiaapofepaaDoor
