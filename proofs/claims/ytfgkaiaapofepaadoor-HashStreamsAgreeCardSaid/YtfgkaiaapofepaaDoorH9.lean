/- masked. -/
import Derived.Test.YtfgkaiaapofepaaDoorH8
namespace Go.Proofs.YtfgkaiaapofepaaDoor
open Go.RowKit

/-- a key of which i bytes are combined with c -/
def mskK (k : List UInt8) (c : UInt8) (i : Nat) : List UInt8 := (k.take i).map (· ^^^ c) ++ k.drop i
theorem mskK_0 (k : List UInt8) (c : UInt8) : mskK k c 0 = k := by simp [mskK]
theorem mskK_all (k : List UInt8) (c : UInt8) (i : Nat) (h : k.length ≤ i) : mskK k c i = k.map (· ^^^ c) := by
  unfold mskK; rw [List.take_of_length_le h, List.drop_eq_nil_of_le h, List.append_nil]
theorem mskK_length (k : List UInt8) (c : UInt8) (i : Nat) : (mskK k c i).length = k.length := by simp [mskK]; omega
theorem mskK_get (k : List UInt8) (c : UInt8) (i : Nat) (h : i < k.length) : byt (mskK k c i) i = byt k i := by
  have hl : ((k.take i).map (· ^^^ c)).length = i := by simp; omega
  unfold byt mskK
  rw [List.getD_eq_getElem?_getD, List.getElem?_append_right (by omega), hl, Nat.sub_self, List.getElem?_drop, Nat.add_zero, ← List.getD_eq_getElem?_getD]
theorem mskK_step (k : List UInt8) (c : UInt8) (i : Nat) (h : i < k.length) : (bvs (mskK k c i)).toArray.setIfInBounds i (.int .u8 (bits .xor .u8 (byt k i) (c.toNat : Int))) = (bvs (mskK k c (i + 1))).toArray := by
  have hx : bits .xor .u8 (byt k i) (c.toNat : Int) = ((k.getD i 0 ^^^ c).toNat : Int) := by
    unfold byt
    rw [u8_xor_nat _ _ (k.getD i 0).toNat_lt c.toNat_lt, UInt8.toNat_xor]
  have hl : ((k.take i).map (· ^^^ c)).length = i := by simp; omega
  have hs : (mskK k c i).set i (k.getD i 0 ^^^ c) = mskK k c (i + 1) := by
    unfold mskK
    rw [List.set_append_right _ _ (by omega), hl, Nat.sub_self, List.drop_eq_getElem_cons h, List.set_cons_zero, List.take_succ_eq_append_getElem h, List.map_append, List.append_assoc]
    simp [List.getD_eq_getElem?_getD, h]
  rw [hx, ← hs, List.setIfInBounds_toArray]
  congr 1
  simp [bvs]

theorem Rd_row {w : World} {g : Nat} {l : List UInt8} {t : TypeId} (h : w.heap[g]? = some (.cells (bvs l).toArray t (0, 0))) : Rd w (some ⟨g, 0, none⟩) l :=
  .inr ⟨g, 0, rfl, fun i hi => cell_row h (by rw [Nat.zero_add]; exact bvs_get hi)⟩

/-- the two blocks of masked -/
def MskI (w : World) (l : List UInt8) (wr : World) : Prop :=
  wr.heap[w.heap.size]? = some (.cells (bvs l).toArray 31 (0, 0)) ∧ wr.heap[w.heap.size + 1]? = some (.cells z73 34 (0, 0)) ∧ Tab wr ∧ Below w.heap.size w wr
theorem MskI.start {w : World} {l : List UInt8} (hT : Tab w) : MskI w l ((w.alloc (.cells (bvs l).toArray 31)).alloc (.cells z73 34)) := by
  have hb : Below w.heap.size w ((w.alloc (.cells (bvs l).toArray 31)).alloc (.cells z73 34)) := ((Below.refl _ _).alloc (Nat.le_refl _) _).alloc (by simp) _
  exact ⟨heap_alloc2_old w _ _, heap_alloc2_new w _ _, hT.later hb, hb⟩
theorem MskI.set {w wr : World} {l l' : List UInt8} (h : MskI w l wr) (hT : Hid (Tab w)) (i : Nat) (v : Value) (hs : (bvs l).toArray.setIfInBounds i v = (bvs l').toArray) : MskI w l' (wr.setCell ⟨w.heap.size, i, none⟩ v) := by
  obtain ⟨h1, h2, h3, h4⟩ := h
  have hb := h4.setCell (p := ⟨w.heap.size, i, none⟩) (Nat.le_refl _) v
  exact ⟨by rw [heap_setCell_self _ _ _ _ _ _ h1, hs], set_other (by omega) h2, hT.out.below hb hT.out.lt, hb⟩
theorem MskI.later {w wr w' : World} {l : List UInt8} (h : MskI w l wr) (hb : Below wr.heap.size wr w') : MskI w l w' :=
  ⟨(hb.block _ (lt_of_block h.1)).trans h.1, (hb.block _ (lt_of_block h.2.1)).trans h.2.1, h.2.2.1.later hb, h.2.2.2.trans (hb.mono h.2.2.2.size)⟩
theorem MskI.drew {w wr : World} {l : List UInt8} (h : MskI w l wr) : MskI w l wr.drew := h.later (below_drew (Below.refl _ _))

/-- the stream of a combined key -/
def StrM (k : List UInt8) (c : UInt8) : Array Value := StrS (k.map (· ^^^ c))
theorem slice64a (g : Nat) (W : World) : (Instr.sliceAt 31 (.pointer (some ⟨g, 0, none⟩)) none none none).run Tryd.prog W = .ok (.slice (some ⟨g, 0, none⟩) 64 64) W := by
  have hu : Tryd.prog.underlying 31 = some (.array 64 5) := Tryd.underlying31
  have hs : ∀ W, (sizeOf 5).run Tryd.prog W = .ok 1 W := fun W => by kernel_rfl
  have ha : Tryd.prog.arrayLen 31 = 64 := by kernel_rfl
  have he : Tryd.prog.elem 31 = 5 := by kernel_rfl
  rw [run_sliceAt_array_all (P := Tryd.prog) W 31 ⟨g, 0, none⟩ (by rw [ha, he]; exact hu), he, ha, hs]
  simp [slicedAt, Addr.add]

set_option maxRecDepth 100000 in
set_option maxHeartbeats 1600000 in
theorem masked_any (k : List UInt8) (hk : k.length = 64) (c : UInt8) (w : World) (hT0 : Tab w) :
    Calls Tryd.prog 32 #[.agg (bvs k).toArray, .int .u8 (c.toNat : Int)] w fun e w' => e = .returned (.agg (StrM k c)) ∧ Below w.heap.size w w' := by
  have hT := Lib.hid hT0
  have hst := Lib.hid (MskI.start (l := k) hT0)
  obtain ⟨K, hK⟩ : ∃ K, k.map (· ^^^ c) = K := ⟨_, rfl⟩
  obtain ⟨X0, hX0⟩ : ∃ X0, StrS [] = X0 := ⟨_, rfl⟩
  obtain ⟨X1, hX1⟩ : ∃ X1, StrM k c = X1 := ⟨_, rfl⟩
  have hKl : K.length = 64 := by rw [← hK]; simp [hk]
  have hbg : Hid (∀ W : World, Calls Tryd.prog 14 #[] W fun e w' => e = .returned (.agg X0) ∧ Below W.heap.size W w') := Lib.hid (by rw [← hX0]; exact begin_str)
  have had : Hid (∀ W : World, Tab W → Calls Tryd.prog 15 #[.agg X0, .string (bs K)] W fun e w' => e = .returned (.agg X1) ∧ Below W.heap.size W w') := Lib.hid (by
    rw [← hX0, ← hX1]
    unfold StrM
    rw [hK]
    exact fun W h => add_any [] (bs K) (by rw [bs_size, hKl]; simp) W h)
  have hx1 : Hid (∀ v ∈ X1.toList, v.oneCell' = true) := Lib.hid (by rw [← hX1]; exact strC_one _ _ _)
  have hxs : Hid (X1.size = 73) := Lib.hid (by rw [← hX1]; exact strC_length _ _ _ (strb_length _))
  have hxi : Hid ((Tryd.prog.info? 34).map (·.size) = some X1.size) := Lib.hid (by rw [← hX1]; exact StrS_size _)
  have hkl := Lib.hid hk
  have hK' := Lib.hid hK
  have hKl' := Lib.hid hKl
  have hc0 : 0 ≤ (c.toNat : Int) := by omega
  rw [hX1]
  clear hT0 hk hK hKl hX0 hX1
  go_enter Tryd.func32, Tryd.ntmps32
  go_wp2_with (refine wpList_alloc_as rfl 34 rfl z73 zero_73 ?_)
  go_loopw [6] (fun i wr => ∃ j : Nat, j ≤ 64 ∧ i = .int .i64 j ∧ MskI w (mskK k c j) wr) (fun i _ => 64 - (intOf i).toNat)
  case atStart => exact ⟨0, by omega, rfl, by rw [mskK_0]; exact hst.out⟩
  case round =>
    obtain ⟨j, hj, rfl, hI⟩ := hrel
    by_cases hlt : j < 64
    · have hjl : j < k.length := by rw [hkl.out]; exact hlt
      have hcell := cell_row hI.1 (bvs_get (l := mskK k c j) (i := j) (by rw [mskK_length]; exact hjl))
      rw [mskK_get k c j hjl] at hcell
      have hfr := free_row (i := j) hI.1
      have hnx := Lib.hid (hI.set hT j _ (mskK_step k c j hjl))
      have hlt' : (j : Int) < 64 := by omega
      have hlo := byt_lo k j
      have hhi := byt_hi k j
      clear hI hst hjl
      go_wp2
      exact ⟨⟨j + 1, by omega, by simp, hnx.out⟩, by simp [intOf]; omega⟩
    · have hj' : j = 64 := by omega
      subst hj'
      rw [mskK_all k c 64 (by rw [hkl.out]; omega), hK'.out] at hI
      rw [show ((64 : Nat) : Int) = 64 from rfl]
      have hsl := slice64a w.heap.size
      have hI0 := Lib.hid hI.drew
      have hcv0 := conv_str (c := 64) (Rd_row hI0.out.1) hKl'.out.symm
      clear hI hst hlt
      go_upto_region 1 with fail
      go_region_with (first | (go_at_call 14; refine (hbg.out _).mono ?_; rintro e w1 ⟨rfl, hb1⟩; have hI1 := Lib.hid (hI0.out.later hb1); have hcv1 := conv_str (c := 64) (Rd_row hI1.out.1) hKl'.out.symm; clear hb1) | (go_at_call 15; refine (had.out _ hI1.out.2.2.1).mono ?_; rintro e w2 ⟨rfl, hb2⟩; have hI2 := Lib.hid (hI1.out.later hb2); have hst2 := store_cells (P := Tryd.prog) (w.heap.size + 1) w2 z73 _ X1.toList hI2.out.2.1 (by rw [Array.length_toList, hxs.out]; kernel_rfl) hx1.out; clear hb2))
      all_goals
        have hrow := setRow_heap w2 (w.heap.size + 1) z73 X1 34 (0, 0) hI2.out.2.1
        have hbe := hI2.out.2.2.2
        go_wp2_with fail
        exact bodyPost_ret (v := .agg X1) (results_cell_row rfl _ _ (w.heap.size + 1) 34 _ (0, 0) _ rfl hrow Tryd.underlying34 rfl hxi.out) rfl ⟨rfl, below_setRow hbe (by omega) _⟩
end Go.Proofs.YtfgkaiaapofepaaDoor
