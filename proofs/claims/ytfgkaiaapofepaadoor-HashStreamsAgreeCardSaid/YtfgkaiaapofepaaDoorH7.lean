/- Stream.Sum. -/
import Derived.Test.YtfgkaiaapofepaaDoorH6
namespace Go.Proofs.YtfgkaiaapofepaaDoor
open Go.RowKit

def z32 : Array Value := (bvs (List.replicate 32 0)).toArray
theorem zero_32b : (Tryd.prog.info? 24).map (·.zero) = some (some (.agg z32)) := by kernel_rfl
theorem size_32b (l : List UInt8) (h : l.length = 32) : (Tryd.prog.info? 24).map (·.size) = some (bvs l).toArray.size := by
  rw [List.size_toArray, bvs_length, h]; kernel_rfl
theorem z32_size (l : List UInt8) (h : l.length = 32) : z32.size = (bvs l).toArray.size := by
  have : z32.size = 32 := by kernel_rfl
  rw [this, List.size_toArray, bvs_length, h]
theorem outS_length (v : St) : (outS v).length = 32 := rfl
theorem sha_length (m : List UInt8) : (sha m).length = 32 := rfl

theorem strC_mark (v : St) (b : List UInt8) (n r : Nat) (x : UInt8) (hb : b.length = 64) (hr : r < 64) : (strC v b n).toArray.setIfInBounds (8 + r) (.int .u8 (x.toNat : Int)) = (strC v (b.set r x) n).toArray := by
  have h8 : (wvs (stl v)).length = 8 := rfl
  have h64 : (bvs b).length = 64 := by rw [bvs_length, hb]
  unfold strC
  rw [List.setIfInBounds_toArray]
  congr 1
  rw [List.set_append_right _ _ (by omega), h8, show 8 + r - 8 = r by omega, List.set_append_left _ _ (by omega)]
  simp [bvs]
theorem AddI.mark {Z : Array Value} {T : TypeId} {w W : World} {v : St} {b : List UInt8} {n : Nat} (h : AddI Z T w v b n W) (hT : Hid (Tab w)) (r : Nat) (x : UInt8) (hr : r < 64) : AddI Z T w v (b.set r x) n (W.setCell ⟨w.heap.size, 8 + r, none⟩ (.int .u8 (x.toNat : Int))) := by
  obtain ⟨⟨h1, h3, h4, h5⟩, h2⟩ := h
  have hb := h4.setCell (p := ⟨w.heap.size, 8 + r, none⟩) (Nat.le_refl _) (.int .u8 (x.toNat : Int))
  refine ⟨⟨?_, hT.out.below hb hT.out.lt, hb, by rw [List.length_set]; exact h5⟩, set_other (by omega) h2⟩
  rw [heap_setCell_self _ _ _ _ _ _ h1, strC_mark v b n r x h5 hr]
theorem AddI.blkcell {Z : Array Value} {T : TypeId} {w W : World} {v : St} {b : List UInt8} {n : Nat} (h : AddI Z T w v b n W) (r : Nat) (hr : r < 64) : W.cell? ⟨w.heap.size, 8 + r, none⟩ = some (.int .u8 (byt b r)) :=
  cell_row h.row (by simpa using strC_blk (n := n) (v := v) (by simpa using bvs_get (l := b) (by rw [h.1.2.2.2]; exact hr)))
theorem AddI.drewN {Z : Array Value} {T : TypeId} {w W : World} {v : St} {b : List UInt8} {n : Nat} (h : AddI Z T w v b n W) (q : Nat) : AddI Z T w v b n (W.drewN q) :=
  ⟨⟨h.1.1, h.1.2.1, ⟨h.1.2.2.1.os, h.1.2.2.1.tape, h.1.2.2.1.output, h.1.2.2.1.size, h.1.2.2.1.block⟩, h.1.2.2.2⟩, h.2⟩
theorem AddI.drew {Z : Array Value} {T : TypeId} {w W : World} {v : St} {b : List UInt8} {n : Nat} (h : AddI Z T w v b n W) : AddI Z T w v b n W.drew := h.drewN 1
theorem AddI.put {Z : Array Value} {T : TypeId} {w W W' : World} {v : St} {b : List UInt8} {n : Nat} (h : AddI Z T w v b n W) (hT : Hid (Tab w)) (l : List UInt8) (i : Nat) (hi : i + l.length ≤ 64) (hW : RowW W w.heap.size (ovr (strC v b n) (8 + i) l) W') : AddI Z T w v (splice b i l) n W' := by
  rw [← hW]; exact h.copy hT l i hi

/-- what stands ahead of the length -/
def SumJ (Z : Array Value) (T : TypeId) (w : World) (m : List UInt8) (W : World) : Prop := ∃ v b, AddI Z T w v b m.length W ∧ outS (blk1 v (splice b 56 (be8 (8 * m.length)))) = sha m
def SumK (Z : Array Value) (T : TypeId) (w : World) (m : List UInt8) (W : World) : Prop := ∃ v b, AddI Z T w v b m.length W ∧ outS (blk1 v b) = sha m
theorem splice_end (b l : List UInt8) (h : b.length = 56 + l.length) : splice b 56 l = b.take 56 ++ l := by
  unfold splice
  rw [List.drop_eq_nil_of_le (by omega), List.append_nil]
theorem SumJ.short {Z : Array Value} {T : TypeId} {w W : World} {m : List UInt8} {r : Nat} (hr : m.length % 64 = r) (h56 : r < 56) (h : AddI Z T w (strv m) ((strb m).set r 128) m.length W) : SumJ Z T w m W := by
  refine ⟨_, _, h, ?_⟩
  rw [splice_end _ _ (by rw [List.length_set, strb_length, be8_length]), sha_short m (by omega), hr]
theorem SumJ.long {Z : Array Value} {T : TypeId} {w W : World} {m : List UInt8} {r : Nat} (hr : m.length % 64 = r) (h56 : 56 ≤ r) (h : AddI Z T w (blk1 (strv m) ((strb m).set r 128)) (List.replicate 64 0) m.length W) : SumJ Z T w m W := by
  refine ⟨_, _, h, ?_⟩
  rw [splice_end _ _ (by rw [List.length_replicate, be8_length]), sha_long m (by omega), hr]
  rfl
theorem SumJ.put {Z : Array Value} {T : TypeId} {w W W' : World} {m : List UInt8} {v : St} {b : List UInt8} (h : AddI Z T w v b m.length W) (ho : outS (blk1 v (splice b 56 (be8 (8 * m.length)))) = sha m) (hT : Hid (Tab w)) (hW : RowW W w.heap.size (ovr (strC v b m.length) 64 (beN 8 (8 * m.length))) W') : SumK Z T w m W' := by
  rw [beN_8] at hW
  exact ⟨_, _, h.put hT (be8 (8 * m.length)) 56 (by rw [be8_length]; omega) hW, ho⟩

/-- a hash of which k words are written -/
def outK (v : St) (k : Nat) : List UInt8 := ((stl v).take k).flatMap outw ++ List.replicate (32 - 4 * k) 0
theorem outK_0 (v : St) : outK v 0 = List.replicate 32 0 := by simp [outK]
theorem outK_8 (v : St) : outK v 8 = outS v := by simp [outK, stl, outS, List.append_assoc]
theorem outw_length (x : Wd) : (outw x).length = 4 := rfl
theorem flat_length (l : List Wd) : (l.flatMap outw).length = 4 * l.length := by
  induction l with
  | nil => rfl
  | cons x r ih => rw [List.flatMap_cons, List.length_append, outw_length, ih, List.length_cons]; omega
theorem outK_length (v : St) (k : Nat) (h : k ≤ 8) : (outK v k).length = 32 := by
  have h8 : (stl v).length = 8 := rfl
  unfold outK
  rw [List.length_append, flat_length, List.length_take, List.length_replicate, h8]; omega
theorem outK_step (v : St) (k : Nat) (x : Wd) (h : (stl v)[k]? = some x) : ovr (bvs (outK v k)) (4 * k) (beN 4 x.toNat) = (bvs (outK v (k + 1))).toArray := by
  have h8 : (stl v).length = 8 := rfl
  have hk : k < (stl v).length := (List.getElem?_eq_some_iff.1 h).1
  have hx : (stl v)[k] = x := (List.getElem?_eq_some_iff.1 h).2
  have hf : (((stl v).take k).flatMap outw).length = 4 * k := by rw [flat_length, List.length_take]; omega
  have hs : splice (bvs (outK v k)) (4 * k) (bvs (outw x)) = bvs (splice (outK v k) (4 * k) (outw x)) := by
    unfold splice; simp [bvs, List.map_take, List.map_drop]
  rw [beN_4]
  unfold ovr
  rw [hs]
  congr 2
  unfold splice outK
  rw [List.take_append_of_le_length (by omega), List.take_of_length_le (by omega), List.drop_append, List.drop_eq_nil_of_le (by omega), hf, outw_length, show 4 * k + 4 - 4 * k = 4 by omega, List.nil_append, List.drop_replicate,
    List.take_succ_eq_append_getElem hk, hx, List.flatMap_append, List.flatMap_singleton, List.append_assoc, show 32 - 4 * k - 4 = 32 - 4 * (k + 1) by omega]

/-- the loop that writes the hash -/
def OutI (w : World) (v : St) (g k : Nat) (wr : World) : Prop :=
  wr.heap[g]? = some (.cells (bvs (outK v k)).toArray 24 (0, 0)) ∧ wr.heap[w.heap.size + 1]? = some (.cells z32 24 (0, 0)) ∧ Below w.heap.size w wr ∧ w.heap.size + 1 < g
theorem OutI.step {w wr wr' : World} {v : St} {g k : Nat} (h : OutI w v g k wr) (x : Wd) (hx : (stl v)[k]? = some x) (hW : RowW wr g (ovr (bvs (outK v k)) (4 * k) (beN 4 x.toNat)) wr') : OutI w v g (k + 1) wr' := by
  obtain ⟨h1, h2, h3, h4⟩ := h
  have hh := hW.heap h1
  rw [outK_step v k x hx] at hh
  refine ⟨hh, ?_, ?_, h4⟩
  · rw [← hW, setRow_other _ _ _ _ (by omega)]; exact h2
  · rw [← hW]; exact below_setRow h3 (by omega) _
theorem OutI.drewN {w wr : World} {v : St} {g k : Nat} (h : OutI w v g k wr) (q : Nat) : OutI w v g k (wr.drewN q) :=
  ⟨h.1, h.2.1, ⟨h.2.2.1.os, h.2.2.1.tape, h.2.2.1.output, h.2.2.1.size, h.2.2.1.block⟩, h.2.2.2⟩
theorem OutI.start {w W : World} {v : St} {b : List UInt8} {n : Nat} (h : AddI z32 24 w v b n W) : OutI w v W.heap.size 0 (W.alloc (.cells z32 24)) := by
  have l2 := lt_of_block h.2
  refine ⟨by rw [outK_0]; exact heap_alloc_new _ _, heap_old l2 h.2, h.1.2.2.1.alloc h.1.2.2.1.size _, l2⟩

theorem slice32 (g i j : Nat) (hij : i ≤ j) (hj : j ≤ 32) (hi : i < 32) (W : World) : (Instr.sliceAt 24 (.pointer (some ⟨g, 0, none⟩)) (some (.int .i64 (i : Int))) (some (.int .i64 (j : Int))) none).run Tryd.prog W = .ok (.slice (some ⟨g, i, none⟩) (j - i) (32 - i)) W := by
  have hu : Tryd.prog.underlying 24 = some (.array 32 5) := Tryd.underlying24
  have hs : ∀ W, (sizeOf 5).run Tryd.prog W = .ok 1 W := fun W => by kernel_rfl
  have h2 : (32 : Nat) ≠ i := by omega
  have ha : Tryd.prog.arrayLen 24 = 32 := by kernel_rfl
  have he : Tryd.prog.elem 24 = 5 := by kernel_rfl
  rw [run_sliceAt_array_lh (P := Tryd.prog) W 24 ⟨g, 0, none⟩ (by rw [ha, he]; exact hu) .i64 .i64 (i : Int) (j : Int) (by omega) (by omega) (by rw [ha]; omega), he, ha, hs]
  simp [slicedAt, h2, Addr.add]
  omega

set_option maxRecDepth 100000 in
set_option maxHeartbeats 1600000 in
theorem ssum_any (m : List UInt8) (hlen : m.length ≤ 1152921504606846976) (w : World) (hT0 : Tab w) :
    Calls Tryd.prog 17 #[.agg (StrS m)] w fun e w' => e = .returned (.agg (bvs (sha m)).toArray) ∧ Below w.heap.size w w' := by
  have hT := Lib.hid hT0
  obtain ⟨r, hr⟩ : ∃ r, m.length % 64 = r := ⟨_, rfl⟩
  obtain ⟨N, hN⟩ : ∃ N, m.length = N := ⟨_, rfl⟩
  have hr64 : r < 64 := by omega
  have hrN : (N : Int) % 64 = (r : Int) := by omega
  have hNl : N ≤ 1152921504606846976 := by omega
  have hst : AddI z32 24 w (strv m) (strb m) N ((w.alloc (.cells (StrS m) 34)).alloc (.cells z32 24)) := by
    have := AddI.start (Z := z32) (T := 24) (n := m.length) (v := strv m) hT0 (strb_length m)
    rw [hN] at this
    unfold StrS
    rw [hN]; exact this
  have hc := hst.1.len
  have hcb := hst.blkcell r hr64
  have hfb := free_row (i := 8 + r) hst.row
  have hb64 := Lib.hid (show ((strb m).set r 128).length = 64 by rw [List.length_set, strb_length])
  have hmk : Hid (AddI z32 24 w (strv m) ((strb m).set r 128) N ((w.alloc (.cells ((StrS m).setIfInBounds (8 + r) (.int .u8 128)) 34)).alloc (.cells z32 24))) := Lib.hid (by
    unfold StrS
    rw [show (Value.int .u8 128) = .int .u8 ((128 : UInt8).toNat : Int) from rfl, strC_mark _ _ _ _ _ (strb_length m) hr64, hN]
    exact AddI.start hT0 hb64.out)
  have hszA := Lib.hid (size_73 (strv m) ((strb m).set r 128) N hb64.out)
  have hszB := Lib.hid (size_73 (blk1 (strv m) ((strb m).set r 128)) (List.replicate 64 0) N rfl)
  have hAB : Hid ((strC (strv m) ((strb m).set r 128) N).toArray.size = (strC (blk1 (strv m) ((strb m).set r 128)) (List.replicate 64 0) N).toArray.size) := Lib.hid (by rw [List.size_toArray, List.size_toArray, strC_length _ _ _ hb64.out, strC_length _ _ _ rfl])
  have h1B := Lib.hid (all_oneCell_toArray (strC_one (blk1 (strv m) ((strb m).set r 128)) (List.replicate 64 0) N))
  have hr' := Lib.hid hr
  have hN' := Lib.hid hN
  have hrN' := Lib.hid hrN
  clear hst hT0 hr hN
  go_enter Tryd.func17, Tryd.ntmps17
  go_upto_if 14 with (refine wpList_alloc_as rfl 24 rfl z32 zero_32b ?_)
  go_cut [15] (fun _ wx => SumJ z32 24 w m wx)
  case first =>
    clear hc hcb hfb hrN
    generalize ((w.alloc (.cells ((StrS m).setIfInBounds (8 + r) (.int .u8 128)) 34)).alloc (.cells z32 24)) = W1 at hmk ⊢
    by_cases h56 : r < 56
    · have h56' : (r : Int) < 56 := by omega
      go_wp2_with fail
      go_meet
      exact SumJ.short hr'.out h56 (by rw [hN'.out]; exact hmk.out)
    · have h56' : ¬ (r : Int) < 56 := by omega
      go_wp2_with (first | (refine wpList_load_row rfl 34 _ rfl w.heap.size rfl 34 (strC (strv m) ((strb m).set r 128) N).toArray (0, 0) _ hmk.out.row Tryd.underlying34 rfl hszA.out ?_) | (go_at_call 30; refine (next_any _ _ _ hb64 _ hmk.out.1.2.1).mono ?_; rintro e w2 ⟨rfl, hb2⟩; have hI3 := Lib.hid (hmk.out.later hb2); have hb2' := Lib.hid hb2; clear hb2) | (refine wpList_store_row rfl 34 _ _ rfl w.heap.size (strC (blk1 (strv m) ((strb m).set r 128)) (List.replicate 64 0) N).toArray rfl rfl 34 _ hI3.out.row hszB.out hAB.out h1B.out ?_))
      simp only [Act.put]
      go_meet
      exact SumJ.long hr'.out (by omega) (by rw [hN'.out]; exact hmk.out.next hT hb2'.out rfl)
  case rest =>
    clear hc hcb hfb hmk hb64 hszA hszB hAB h1B
    obtain ⟨v, b, hI, ho⟩ := hcut
    have hb64 := Lib.hid hI.1.2.2.2
    have hc := hI.1.len
    rw [hN'.out] at hc
    have hI' := Lib.hid hI
    have ho' := Lib.hid ho
    have hrow := Lib.hid hI.row
    rw [hN'.out] at hrow
    have hsl := slice64 w.heap.size 8 56 (by omega) .i64
    simp only [show ((56 : Nat) : Int) = 56 from rfl, show 8 + 56 = 64 from rfl, show 64 - 56 = 8 from rfl] at hsl
    have hfit : Hid (64 + 8 ≤ (strC v b N).length) := Lib.hid (by rw [strC_length _ _ _ hb64.out]; omega)
    clear hI ho hrN
    go_upto_region 1 with fail
    go_cut [22] (fun _ wx => SumK z32 24 w m wx)
    case first =>
      go_region_with (go_at_call 31; refine (putNumber_lit w.heap.size 64 8 8 (strC v b N) 34 (8 * N) _ (by rw [IntKind.wrap_u64]; omega) (by omega) _ (by exact hrow) (by exact hfit.out)).mono ?_; rintro e w' ⟨rfl, hR⟩)
      go_wp2_with fail
      go_meet
      rw [← hN'.out] at hR
      exact SumJ.put hI'.out.drew ho'.out hT hR
    case rest =>
      clear hI' ho' hb64 hc hrow hfit
      clear v b
      obtain ⟨v, b, hI, ho⟩ := hcut
      have hb64 := Lib.hid hI.1.2.2.2
      rw [hN'.out] at hI
      have hI' := Lib.hid hI
      obtain ⟨V, hV⟩ : ∃ V, V = blk1 v b := ⟨_, rfl⟩
      have ho' : Hid (outS V = sha m) := Lib.hid (by rw [hV]; exact ho)
      have hszA := Lib.hid (size_73 v b N hb64.out)
      have hszB := Lib.hid (size_73 V (List.replicate 64 0) N rfl)
      have hAB : Hid ((strC v b N).toArray.size = (strC V (List.replicate 64 0) N).toArray.size) := Lib.hid (by rw [List.size_toArray, List.size_toArray, strC_length _ _ _ hb64.out, strC_length _ _ _ rfl])
      have h1B := Lib.hid (all_oneCell_toArray (strC_one V (List.replicate 64 0) N))
      have i30 := Lib.hid (stv_size V)
      have hV' := Lib.hid hV
      clear hI ho hV hlen hr' hr64
      go_wp2_with (first | (refine wpList_load_row rfl 34 _ rfl w.heap.size rfl 34 (strC v b N).toArray (0, 0) _ hI'.out.row Tryd.underlying34 rfl hszA.out ?_) | (go_at_call 30; refine (next_any _ _ _ hb64 _ hI'.out.1.2.1).mono ?_; rintro e w2 ⟨rfl, hb2⟩; rw [← hV'.out]; have hI3 := Lib.hid (hI'.out.later hb2); have hI4 := Lib.hid (hI'.out.next (u := V) (c := List.replicate 64 0) (m := N) hT hb2 rfl); clear hb2) | (refine wpList_store_row rfl 34 _ _ rfl w.heap.size (strC V (List.replicate 64 0) N).toArray rfl rfl 34 _ hI3.out.row hszB.out hAB.out h1B.out ?_; generalize (w2.setRow w.heap.size (strC V (List.replicate 64 0) N).toArray) = W4 at hI4 ⊢) | (refine wpList_alloc_as rfl 24 rfl z32 zero_32b ?_; have hO := Lib.hid (OutI.start hI4.out); have hI5 := Lib.hid (hI4.out.later (Below.refl _ _ |>.alloc (Nat.le_refl _) (.cells z32 24))); generalize W4.alloc (.cells z32 24) = W5 at hO hI5 ⊢; generalize W4.heap.size = g2 at hO ⊢) | (refine wpList_load_mid rfl 30 _ rfl w.heap.size 0 rfl (wvs (stl V)) _ hI5.out.1.val Tryd.underlying30 rfl i30.out ?_))
      go_loopw [27] (fun i wr => ∃ k : Nat, k ≤ 8 ∧ i = .int .i64 k ∧ OutI w V g2 k wr) (fun i _ => 8 - (intOf i).toNat)
      case atStart => exact ⟨0, by omega, rfl, hO.out⟩
      case round =>
        obtain ⟨k, hk, rfl, hE⟩ := hrel
        by_cases hk8 : k < 8
        · obtain ⟨x, hx⟩ : ∃ x, (stl V)[k]? = some x := ⟨(stl V)[k]'hk8, List.getElem?_eq_getElem _⟩
          have hix := run_index_cell (P := Tryd.prog) 30 29 8 k (wvs (stl V)).toArray _ _ Tryd.underlying30 Tryd.underlying29 rfl (by kernel_rfl) hk8 (wvs_get hx)
          have hsl2 := slice32 g2 (4 * k) (4 * (k + 1)) (by omega) (by omega) (by omega)
          have hkk : (k : Int) < 8 := by omega
          have hrow := Lib.hid hE.1
          have hlo := wn_lo x
          have hhi := wn_hi x
          have hE' := Lib.hid hE
          have hx' := Lib.hid hx
          have e4 : 4 * (k + 1) - 4 * k = 4 := by omega
          have hfit : Hid (4 * k + 4 ≤ (bvs (outK V k)).length) := Lib.hid (by rw [bvs_length, outK_length V k hk]; omega)
          rw [e4, show ((4 * k : Nat) : Int) = 4 * (k : Int) by omega, show ((4 * (k + 1) : Nat) : Int) = 4 * ((k : Int) + 1) by omega] at hsl2
          clear hE hx hO hI5 hI' hI4 hI3 e4
          go_wp2_with (go_at_call 31; refine (putNumber_lit g2 (4 * k) 4 (32 - 4 * k) (bvs (outK V k)) 24 x.toNat _ rfl (by omega) _ hrow hfit.out).mono ?_; rintro e w' ⟨rfl, hR⟩)
          refine ⟨⟨k + 1, by omega, by simp, hE'.out.step x hx'.out hR⟩, by simp [intOf]; omega⟩
        · have hk' : k = 8 := by omega
          subst hk'
          rw [show ((8 : Nat) : Int) = 8 from rfl]
          obtain ⟨E1, E2, E3, E4⟩ := hE
          rw [outK_8, ho'.out] at E1
          have g1 := Lib.hid E1
          have g2' := Lib.hid E2
          have g3 := Lib.hid E3
          have hsz := Lib.hid (size_32b (sha m) (sha_length m))
          have hz := Lib.hid (z32_size (sha m) (sha_length m))
          have hon := Lib.hid (all_oneCell_toArray (bvs_one (sha m)))
          clear E1 E2 E3 hO hI5 hI' hI4 hI3 hk8
          go_wp2_with (first | (refine wpList_load_row rfl 24 _ rfl g2 rfl 24 (bvs (sha m)).toArray (0, 0) _ g1.out Tryd.underlying24 rfl hsz.out ?_) | (refine wpList_store_row rfl 24 _ _ rfl (w.heap.size + 1) (bvs (sha m)).toArray rfl rfl 24 z32 g2'.out hsz.out hz.out hon.out ?_))
          exact bodyPost_ret (v := .agg (bvs (sha m)).toArray) (results_cell_row rfl _ _ (w.heap.size + 1) 24 _ (0, 0) _ rfl (setRow_heap _ _ _ _ _ _ g2'.out) Tryd.underlying24 rfl hsz.out) rfl ⟨rfl, below_setRow g3.out (by omega) _⟩
end Go.Proofs.YtfgkaiaapofepaaDoor
