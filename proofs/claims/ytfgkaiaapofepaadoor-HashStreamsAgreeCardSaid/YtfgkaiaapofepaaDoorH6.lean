/- Stream.Add. -/
import Derived.Test.YtfgkaiaapofepaaDoorH5
namespace Go.Proofs.YtfgkaiaapofepaaDoor
open Go.RowKit

/-- 'copy(dst, s)', s a string: as many bytes as there is room for -/
theorem run_copy_str {P : Program} (w : World) (dT sT ty elem : TypeId) (g o dLen dCap : Nat) (s : ByteArray) (cur : List Value) (t : TypeId) (l : List UInt8) (hl : l = s.data.toList.take dLen)
    (hu : P.underlying dT = some (.slice elem)) (hs : (P.info? elem).map (·.size) = some 1) (hg : w.heap[g]? = some (.cells cur.toArray t (0, 0))) (hfit : o + l.length ≤ cur.length) :
    (Builtin.copy_ #[dT, sT] ty #[.slice (some ⟨g, o, none⟩) dLen dCap, .string s]).run P w = .ok (goInt l.length) (w.setRow g (ovr cur o l)) := by
  have hst := run_storeCells_at P g o t (bvs l) 0 cur.toArray w hg (by rw [bvs_length]; simpa using hfit) (bvs_one _)
  have hlen : l.length = Nat.min s.size dLen := by
    rw [hl, List.length_take, Array.length_toList]; exact Nat.min_comm _ _
  have htk : List.take (Nat.min s.size dLen) (List.map (fun b : UInt8 => Value.int IntKind.u8 (b.toNat : Int)) s.data.toList) = bvs l := by
    rw [hl]; unfold bvs
    rw [← List.map_take]
    congr 1
    have h1 : s.data.toList.length = s.size := Array.length_toList
    rcases Nat.le_total s.size dLen with h | h
    · rw [show Nat.min s.size dLen = s.size from Nat.min_eq_left h, List.take_of_length_le (by omega), List.take_of_length_le (by omega)]
    · rw [show Nat.min s.size dLen = dLen from Nat.min_eq_right h]
  rw [bvs_length] at hst
  simp only [Nat.add_zero] at hst
  cases hq : P.info? elem with
  | none => simp [hq] at hs
  | some i =>
    simp [Builtin.copy_, run_underlying hu, Builtin.lenOf, Builtin.firstCells, sizeOf, typeInfo, hq]
    rw [htk, hst, ← hlen]
    simp [Result.andThen, ovr, splice, bvs_length]

theorem wpList_copy_str {P : Program} {ops : Array Oper} {rest : List Oper} {o : Oper} {a : Act} {w : World} {Q : Exit → Act → World → Prop} (hgd : o.guard = none) (d s : Operand) (dT sT : TypeId)
    (ho : o.op = .call { callee := .builtin .copy, args := #[d, s], argTypes := #[dT, sT] }) (elem : TypeId) (hu : P.underlying dT = some (.slice elem)) (hsz : (P.info? elem).map (·.size) = some 1)
    (g off dLen dCap : Nat) (hd : a.eval d = .slice (some ⟨g, off, none⟩) dLen dCap) (S : ByteArray) (hs : a.eval s = .string S) (cur : List Value) (t : TypeId) (l : List UInt8) (hl : l = S.data.toList.take dLen)
    (hg : w.heap[g]? = some (.cells cur.toArray t (0, 0))) (hfit : off + l.length ≤ cur.length)
    (h : wpList P ops Q rest (a.put o.dst (goInt l.length)) (w.setRow g (ovr cur off l))) : wpList P ops Q (o :: rest) a w :=
  wpList_plain hgd fun K hK => by
    have hrun := run_copy_str (P := P) w dT sT o.type elem g off dLen dCap S cur t l hl hu hsz hg hfit
    unfold Oper.wp
    simp [execOp, ho, resolve, invoke, builtin, hd, hs, hrun, Result.andThen]
    exact hK _ _ h

/-- the rest of a block of an array of 64 bytes, from place i on, as a slice -/
theorem slice64 (g o : Nat) (i : Nat) (hi : i < 64) (kl : IntKind) (W : World) : (Instr.sliceAt 31 (.pointer (some ⟨g, o, none⟩)) (some (.int kl (i : Int))) none none).run Tryd.prog W = .ok (.slice (some ⟨g, o + i, none⟩) (64 - i) (64 - i)) W := by
  have hu : Tryd.prog.underlying 31 = some (.array 64 5) := Tryd.underlying31
  have hs : ∀ W, (sizeOf 5).run Tryd.prog W = .ok 1 W := fun W => by kernel_rfl
  have h1 : ((i : Int) ≤ 64) := by omega
  have h2 : (64 : Nat) ≠ i := by omega
  have ha : Tryd.prog.arrayLen 31 = 64 := by kernel_rfl
  have he : Tryd.prog.elem 31 = 5 := by kernel_rfl
  rw [run_sliceAt_array_l (P := Tryd.prog) W 31 ⟨g, o, none⟩ (by rw [ha, he]; exact hu) kl (i : Int) (by omega) (by rw [ha]; exact h1), he, ha, hs]
  simp [slicedAt, h2, Addr.add]

/-- a message that is being added to -/
def AddI (Z : Array Value) (T : TypeId) (w : World) (v : St) (b : List UInt8) (n : Nat) (W : World) : Prop := NxI w v b n W ∧ W.heap[w.heap.size + 1]? = some (.cells Z T (0, 0))
theorem AddI.row {Z : Array Value} {T : TypeId} {w W : World} {v : St} {b : List UInt8} {n : Nat} (h : AddI Z T w v b n W) : W.heap[w.heap.size]? = some (.cells (strC v b n).toArray 34 (0, 0)) := h.1.1
theorem AddI.start {Z : Array Value} {T : TypeId} {w : World} {v : St} {b : List UInt8} {n : Nat} (hT : Tab w) (hb : b.length = 64) : AddI Z T w v b n ((w.alloc (.cells (strC v b n).toArray 34)).alloc (.cells Z T)) :=
  by
  have hbl : Below w.heap.size w ((w.alloc (.cells (strC v b n).toArray 34)).alloc (.cells Z T)) := ((Below.refl _ _).alloc (Nat.le_refl _) _).alloc (by simp) _
  exact ⟨⟨heap_alloc2_old w _ _, hT.below hbl hT.lt, hbl, hb⟩, heap_alloc2_new w _ _⟩
theorem strC_splice (v : St) (b l : List UInt8) (n i : Nat) (hb : b.length = 64) (h : i + l.length ≤ 64) : ovr (strC v b n) (8 + i) l = (strC v (splice b i l) n).toArray := by
  have h8 : (wvs (stl v)).length = 8 := rfl
  have h64 : (bvs b).length = 64 := by rw [bvs_length, hb]
  unfold ovr splice strC
  congr 1
  rw [List.take_append, List.take_of_length_le (by omega), h8, show 8 + i - 8 = i by omega, List.take_append_of_le_length (by omega), List.drop_append, List.drop_eq_nil_of_le (by omega), h8, bvs_length, show 8 + i + l.length - 8 = i + l.length by omega, List.nil_append,
    List.drop_append_of_le_length (by omega)]
  simp [bvs, List.map_take, List.map_drop]
theorem strC_setlen (v : St) (b : List UInt8) (n m : Nat) (hb : b.length = 64) : (strC v b n).toArray.setIfInBounds 72 (.int .u64 (m : Int)) = (strC v b m).toArray := by
  have h8 : (wvs (stl v)).length = 8 := rfl
  have h64 : (bvs b).length = 64 := by rw [bvs_length, hb]
  unfold strC
  rw [List.setIfInBounds_toArray]
  congr 1
  rw [List.set_append_right _ _ (by omega), List.set_append_right _ _ (by omega), h8, h64]
  rfl
theorem AddI.copy {Z : Array Value} {T : TypeId} {w W : World} {v : St} {b : List UInt8} {n : Nat} (h : AddI Z T w v b n W) (hT : Hid (Tab w)) (l : List UInt8) (i : Nat) (hi : i + l.length ≤ 64) : AddI Z T w v (splice b i l) n (W.setRow w.heap.size (ovr (strC v b n) (8 + i) l)) := by
  obtain ⟨⟨h1, h3, h4, h5⟩, h2⟩ := h
  have hb := below_setRow h4 (Nat.le_refl _) (ovr (strC v b n) (8 + i) l)
  refine ⟨⟨?_, hT.out.below hb hT.out.lt, hb, by rw [length_splice _ _ _ (by omega)]; exact h5⟩, (setRow_other _ _ _ _ (by omega)).trans h2⟩
  rw [setRow_heap _ _ _ _ _ _ h1, strC_splice v b l n i h5 hi]
theorem AddI.grow {Z : Array Value} {T : TypeId} {w W : World} {v : St} {b : List UInt8} {n : Nat} (h : AddI Z T w v b n W) (hT : Hid (Tab w)) (m : Nat) : AddI Z T w v b m (W.setCell ⟨w.heap.size, 72, none⟩ (.int .u64 (m : Int))) := by
  obtain ⟨⟨h1, h3, h4, h5⟩, h2⟩ := h
  have hb := h4.setCell (p := ⟨w.heap.size, 72, none⟩) (Nat.le_refl _) (.int .u64 (m : Int))
  refine ⟨⟨?_, hT.out.below hb hT.out.lt, hb, h5⟩, set_other (by omega) h2⟩
  rw [heap_setCell_self _ _ _ _ _ _ h1, strC_setlen v b n m h5]
theorem AddI.next {Z : Array Value} {T : TypeId} {w W w' : World} {v u : St} {b c : List UInt8} {n m : Nat} (h : AddI Z T w v b n W) (hT : Hid (Tab w)) (hb : Below W.heap.size W w') (hc : c.length = 64) : AddI Z T w u c m (w'.setRow w.heap.size (strC u c m).toArray) := by
  obtain ⟨⟨h1, h3, h4, h5⟩, h2⟩ := h
  have l1 := lt_of_block h1
  have l2 := lt_of_block h2
  have hb1 := h4.trans (hb.mono h4.size)
  have hb2 := below_setRow hb1 (Nat.le_refl _) (strC u c m).toArray
  refine ⟨⟨setRow_heap _ _ _ _ _ _ ((hb.block _ l1).trans h1), hT.out.below hb2 hT.out.lt, hb2, hc⟩, (setRow_other _ _ _ _ (by omega)).trans ((hb.block _ l2).trans h2)⟩
theorem AddI.grow' {Z : Array Value} {T : TypeId} {w W : World} {v : St} {b : List UInt8} {n : Nat} (h : AddI Z T w v b n W) (hT : Hid (Tab w)) (m : Nat) (x : Int) (hx : x = (m : Int)) : AddI Z T w v b m (W.setCell ⟨w.heap.size, 72, none⟩ (.int .u64 x)) := by
  subst hx; exact h.grow hT m

theorem AddI.later {Z : Array Value} {T : TypeId} {w W w' : World} {v : St} {b : List UInt8} {n : Nat} (h : AddI Z T w v b n W) (hb : Below W.heap.size W w') : AddI Z T w v b n w' :=
  ⟨h.1.later hb, (hb.block _ (lt_of_block h.2)).trans h.2⟩
theorem alloc_size (w : World) (o : Obj) : (w.alloc o).heap.size = w.heap.size + 1 := by simp
def StrS (m : List UInt8) : Array Value := (strC (strv m) (strb m) m.length).toArray
theorem StrS_size (m : List UInt8) : (Tryd.prog.info? 34).map (·.size) = some (StrS m).size := size_73 _ _ _ (strb_length m)
theorem StrS_one (m : List UInt8) : (StrS m).all (·.oneCell') = true := all_oneCell_toArray (strC_one _ _ _)
theorem StrS_z73 (m : List UInt8) : z73.size = (StrS m).size := z73_size _ _ _ (strb_length m)
def szOf : Value → Nat
  | .string s => s.size
  | _ => 0
theorem bytes_extract (S : ByteArray) (k : Nat) : (S.extract k S.size).data.toList = S.data.toList.drop k := by
  rw [ByteArray.data_extract, Array.toList_extract, List.extract_eq_take_drop]
  rw [List.take_of_length_le]
  rw [List.length_drop, Array.length_toList]
  exact Nat.le_refl _

/-- what an addition has come to: a text that is left, a message -/
def AddR (w : World) (full : List UInt8) (x : Value) (wr : World) : Prop := ∃ (S : ByteArray) (M : List UInt8), x = .string S ∧ M ++ S.data.toList = full ∧ AddI z73 34 w (strv M) (strb M) M.length wr

set_option maxRecDepth 100000 in
set_option maxHeartbeats 1600000 in
theorem add_any (m : List UInt8) (T : ByteArray) (hlen : m.length + T.size ≤ 4611686018427387904) (w : World) (hT0 : Tab w) :
    Calls Tryd.prog 15 #[.agg (StrS m), .string T] w fun e w' => e = .returned (.agg (StrS (m ++ T.data.toList))) ∧ Below w.heap.size w w' := by
  have hT := Lib.hid hT0
  obtain ⟨full, hf0⟩ : ∃ full, m ++ T.data.toList = full := ⟨_, rfl⟩
  have hfl : full.length ≤ 4611686018427387904 := by
    rw [← hf0, List.length_append, Array.length_toList]; exact hlen
  rw [hf0]
  have hst : AddR w full (.string T) ((w.alloc (.cells (StrS m) 34)).alloc (.cells z73 34)) := ⟨T, m, rfl, hf0, AddI.start hT0 (strb_length m)⟩
  have hst' := Lib.hid hst
  clear hf0 hT0 hst hlen
  go_enter Tryd.func15, Tryd.ntmps15
  go_wp2_with (refine wpList_alloc_as rfl 34 rfl z73 zero_73 ?_)
  simp only [Act.put, List.setIfInBounds_toArray, List.set_cons_zero, List.set_cons_succ, alloc_size]
  go_loopw [1] (fun x wr => AddR w full x wr) (fun x _ => szOf x)
  case atStart => exact hst'.out
  case round =>
    obtain ⟨S, M, rfl, hM, hI⟩ := hrel
    clear hst'
    by_cases hS : S.size = 0
    · have hMf : M = full := by
        rw [← hM]
        have : S.data.toList = [] := List.eq_nil_of_length_eq_zero (by rw [Array.length_toList]; exact hS)
        rw [this, List.append_nil]
      subst hMf
      have hrow := Lib.hid hI.row
      have h2 := Lib.hid hI.2
      have hbl := Lib.hid hI.1.2.2.1
      have hsz := Lib.hid (StrS_size M)
      have hz := Lib.hid (StrS_z73 M)
      have h1 := Lib.hid (StrS_one M)
      obtain ⟨X, hX⟩ : ∃ X, StrS M = X := ⟨_, rfl⟩
      have hX' := Lib.hid hX
      rw [show (strC (strv M) (strb M) M.length).toArray = X from hX] at hrow
      rw [hX] at hsz hz h1
      clear hI hM hX
      go_wp2_with (first | (refine wpList_load_row rfl 34 _ rfl w.heap.size rfl 34 X (0, 0) _ hrow.out Tryd.underlying34 rfl hsz.out ?_) | (refine wpList_store_row rfl 34 _ _ rfl (w.heap.size + 1) X rfl rfl 34 z73 h2.out hsz.out hz.out h1.out ?_))
      refine bodyPost_ret (v := .agg X) (results_cell_row rfl _ _ (w.heap.size + 1) 34 _ (0, 0) _ rfl (setRow_heap _ _ _ _ _ _ h2.out) Tryd.underlying34 rfl hsz.out) rfl ⟨by rw [hX'.out], below_setRow hbl.out (by omega) _⟩
    · obtain ⟨N, hN⟩ : ∃ N, M.length = N := ⟨_, rfl⟩
      obtain ⟨l, hl⟩ : ∃ l, l = S.data.toList.take (64 - N % 64) := ⟨_, rfl⟩
      obtain ⟨r, hr⟩ : ∃ r, r = N % 64 := ⟨_, rfl⟩
      have hSl : S.data.toList.length = S.size := Array.length_toList
      have hll : l.length = min (64 - N % 64) S.size := by rw [hl, List.length_take, hSl]
      have hNl : N + S.size ≤ 4611686018427387904 := by
        rw [← hN, ← hSl, ← List.length_append, hM]; exact hfl
      have hl0 : 0 < l.length := by omega
      have hlS : l.length ≤ S.size := by omega
      have hr64 : r < 64 := by omega
      have hrl : r + l.length ≤ 64 := by omega
      have hS0 : 0 < S.size := by omega
      rw [hN] at hI
      have hc := hI.1.len
      have hrow := Lib.hid hI.row
      have hI' := Lib.hid hI
      have hb64 := Lib.hid (strb_length M)
      have hsl := slice64 w.heap.size 8 r hr64 .u64
      rw [show ((r : Nat) : Int) = (N : Int) % 64 by omega] at hsl
      have hl' : Hid (l = S.data.toList.take (64 - r)) := Lib.hid (by rw [hr]; exact hl)
      have hfit : Hid (8 + r + l.length ≤ (strC (strv M) (strb M) N).length) := Lib.hid (by rw [strC_length _ _ _ hb64.out]; omega)
      have hM' : Hid ((M ++ l) ++ (S.extract l.length S.size).data.toList = full) := Lib.hid (by
        rw [bytes_extract, ← hM, List.append_assoc]
        congr 1
        rw [hl, List.length_take, hSl]
        rcases Nat.le_total (64 - N % 64) S.size with h | h
        · rw [Nat.min_eq_left h, List.take_append_drop]
        · rw [Nat.min_eq_right h, List.take_of_length_le (by omega), List.drop_eq_nil_of_le (by omega), List.append_nil])
      have hML : Hid ((M ++ l).length = N + l.length) := Lib.hid (by rw [List.length_append, hN])
      have hMr : Hid (M.length % 64 = r) := Lib.hid (by rw [hN, hr])
      have hsE : (S.extract l.length S.size).size < S.size := by simp; omega
      have hrN : (r : Int) = (N : Int) % 64 := by omega
      clear hI hM hN hl hS hSl hll
      have hcp : ∀ W1, AddI z73 34 w (strv M) (splice (strb M) r l) N W1 → AddI z73 34 w (strv M) (splice (strb M) r l) (N + l.length) (W1.setCell ⟨w.heap.size, 72, none⟩ (.int .u64 ((N : Int) + (l.length : Int)))) := fun W1 h => h.grow' hT (N + l.length) _ (by omega)
      have hcp' := Lib.hid hcp
      clear hcp
      by_cases hfull : r + l.length = 64
      · have hdec : (((N : Int) + (l.length : Int)) % 64 == 0) = true := by
          simp; omega
        have hb3 := Lib.hid (show (splice (strb M) r l).length = 64 by rw [length_splice _ _ _ (by rw [hb64.out]; omega)]; exact hb64.out)
        have hv : Hid (strv (M ++ l) = blk1 (strv M) (splice (strb M) r l)) := Lib.hid (by rw [strv_full M l (by rw [hMr.out]; exact hfull), hMr.out])
        have hb4 : Hid (strb (M ++ l) = List.replicate 64 0) := Lib.hid (strb_full M l (by rw [hMr.out]; exact hfull))
        have hszA := Lib.hid (size_73 (strv M) (splice (strb M) r l) (N + l.length) hb3.out)
        have hszB := Lib.hid (size_73 (blk1 (strv M) (splice (strb M) r l)) (List.replicate 64 0) (N + l.length) rfl)
        have hAB : Hid ((strC (strv M) (splice (strb M) r l) (N + l.length)).toArray.size = (strC (blk1 (strv M) (splice (strb M) r l)) (List.replicate 64 0) (N + l.length)).toArray.size) := Lib.hid (by rw [List.size_toArray, List.size_toArray, strC_length _ _ _ hb3.out, strC_length _ _ _ rfl])
        have h1B := Lib.hid (all_oneCell_toArray (strC_one (blk1 (strv M) (splice (strb M) r l)) (List.replicate 64 0) (N + l.length)))
        clear hr hrN hfull
        go_wp2_with (first | (refine wpList_copy_str rfl (.tmp 13) (.tmp 14) 22 9 rfl 5 Tryd.underlying22 (by kernel_rfl) w.heap.size (8 + r) (64 - r) (64 - r) rfl S rfl (strC (strv M) (strb M) N) 34 l hl'.out hrow.out hfit.out ?_; have hI1 := hI'.out.copy hT l r hrl; generalize (wr.setRow w.heap.size (ovr (strC (strv M) (strb M) N) (8 + r) l)) = W1 at hI1 ⊢; have hc1 := hI1.1.len; have hf1 := free_row (i := 72) hI1.row; have hI2 := Lib.hid (hcp'.out _ hI1); clear hI1 hc) | (refine wpList_load_row rfl 34 _ rfl w.heap.size rfl 34 (strC (strv M) (splice (strb M) r l) (N + l.length)).toArray (0, 0) _ hI2.out.row Tryd.underlying34 rfl hszA.out ?_) | (go_at_call 30; refine (next_any _ _ _ hb3 _ hI2.out.1.2.1).mono ?_; rintro e w2 ⟨rfl, hb2⟩; have hI3 := Lib.hid (hI2.out.later hb2); have hb2' := Lib.hid hb2; clear hb2) | (refine wpList_store_row rfl 34 _ _ rfl w.heap.size (strC (blk1 (strv M) (splice (strb M) r l)) (List.replicate 64 0) (N + l.length)).toArray rfl rfl 34 _ hI3.out.row hszB.out hAB.out h1B.out ?_))
        simp only [Act.put]
        go_roundw
        case rel =>
          refine ⟨_, M ++ l, rfl, hM'.out, ?_⟩
          rw [hML.out, hv.out, hb4.out]
          exact hI2.out.next hT hb2'.out rfl
        case measure => exact hsE
      · have hdec : (((N : Int) + (l.length : Int)) % 64 == 0) = false := by
          simp; omega
        have hv : Hid (strv (M ++ l) = strv M) := Lib.hid (strv_fill M l (by rw [hMr.out]; omega))
        have hb4 : Hid (strb (M ++ l) = splice (strb M) r l) := Lib.hid (by rw [strb_fill M l (by rw [hMr.out]; omega), hMr.out])
        clear hr hrN
        go_wp2_with (refine wpList_copy_str rfl (.tmp 13) (.tmp 14) 22 9 rfl 5 Tryd.underlying22 (by kernel_rfl) w.heap.size (8 + r) (64 - r) (64 - r) rfl S rfl (strC (strv M) (strb M) N) 34 l hl'.out hrow.out hfit.out ?_; have hI1 := hI'.out.copy hT l r hrl; generalize (wr.setRow w.heap.size (ovr (strC (strv M) (strb M) N) (8 + r) l)) = W1 at hI1 ⊢; have hc1 := hI1.1.len; have hf1 := free_row (i := 72) hI1.row; have hI2 := Lib.hid (hcp'.out _ hI1); clear hI1 hc)
        refine ⟨⟨_, M ++ l, rfl, hM'.out, ?_⟩, hsE⟩
        rw [hML.out, hv.out, hb4.out]
        exact hI2.out
end Go.Proofs.YtfgkaiaapofepaaDoor
