/- The reference: Sum. -/
import Derived.Test.YtfgkaiaapofepaaDoorG6
import Derived.Test.YtfgkaiaapofepaaDoorG5
namespace Go.Proofs.YtfgkaiaapofepaaDoor
open Go.RowKit

/-- the reference's table lies where the program has it -/
def Tabc (w : World) : Prop := ∀ i, i < 64 → w.cell? ⟨0, i, none⟩ = some (.int .u32 (wn (KK.getD i 0)))
theorem Tabc.lt {w : World} (h : Tabc w) : 0 < w.heap.size := World.block_lt_of_cell? w _ (h 0 (by omega))
theorem Tabc.later {w w' : World} (h : Tabc w) (hb : Below w.heap.size w w') : Tabc w' := fun i hi => (hb.cell (p := ⟨0, i, none⟩) h.lt).trans (h i hi)
theorem Tabc.below {B : Nat} {w w' : World} (h : Tabc w) (hb : Below B w w') (hB : 0 < B) : Tabc w' := fun i hi => (hb.cell (p := ⟨0, i, none⟩) hB).trans (h i hi)

/-- the blocks of the reference's Sum: the result's zeros, the state; the padded message reads as M -/
def RsI (w : World) (v : St) (M : List UInt8) (p : Option Addr) (W : World) : Prop :=
  W.heap[w.heap.size]? = some (.cells z32 24 (0, 0)) ∧ W.heap[w.heap.size + 1]? = some (.cells (stv v) 30 (0, 0)) ∧ Rd W p M ∧ Tabc W ∧ Below w.heap.size w W ∧ (∀ q, p = some q → w.heap.size + 1 < q.block)
theorem RsI.later {w W W1 : World} {v : St} {M : List UInt8} {p : Option Addr} (h : RsI w v M p W) (hb : Below W.heap.size W W1) : RsI w v M p W1 :=
  ⟨row_later' h.1 hb, row_later' h.2.1 hb, Rd_later h.2.2.1 hb, h.2.2.2.1.later hb, below_tr h.2.2.2.2.1 hb, h.2.2.2.2.2⟩
theorem RsI.drewN {w W : World} {v : St} {M : List UInt8} {p : Option Addr} (h : RsI w v M p W) (q : Nat) : RsI w v M p (W.drewN q) := h.later (below_drewN (Below.refl _ _) q)
theorem RsI.word {w W : World} {v : St} {M : List UInt8} {p : Option Addr} (h : RsI w v M p W) (i : Nat) {x : Wd} (hx : (stl v)[i]? = some x) : W.cell? ⟨w.heap.size + 1, i, none⟩ = some (.int .u32 (wn x)) := cell_row h.2.1 (wvs_get hx)
theorem RsI.set {w W : World} {v : St} {M : List UInt8} {p : Option Addr} (h : RsI w v M p W) (hT : Hid (Tabc w)) (u : St) : RsI w u M p (W.setRow (w.heap.size + 1) (stv u)) := by
  obtain ⟨h1, h2, h3, h4, h5, h6⟩ := h
  have hb := below_setRow h5 (show w.heap.size ≤ w.heap.size + 1 by omega) (stv u)
  refine ⟨(setRow_other _ _ _ _ (by omega)).trans h1, setRow_heap _ _ _ _ _ _ h2, ?_, hT.out.below hb hT.out.lt, hb, h6⟩
  rcases h3 with rfl | ⟨b, off, rfl, hc⟩
  · exact .inl rfl
  · refine .inr ⟨b, off, rfl, fun i hi => ?_⟩
    have hne : b ≠ w.heap.size + 1 := by have := h6 _ rfl; simp at this; omega
    rw [← hc i hi]; unfold World.cell?; rw [setRow_other _ _ _ _ hne]

theorem pad_blocks (l : List UInt8) : ∃ nb, (l.length + 72) / 64 = nb ∧ (pad l).length = 64 * nb ∧ 0 < nb ∧ sha l = outS (blks st0 (pad l) nb) := ⟨_, rfl, pad_length l, by omega, rfl⟩
/-- one block more -/
def blkK (M : List UInt8) (k : Nat) : List UInt8 := (M.drop (64 * k)).take 64
theorem blks_step (v : St) (M : List UInt8) (k : Nat) : blks v M (k + 1) = addS (blks v M k) (comp (blks v M k) (words (blkK M k)) 64) := rfl
theorem blkK_length (M : List UInt8) (k nb : Nat) (h : M.length = 64 * nb) (hk : k < nb) : (blkK M k).length = 64 := by
  unfold blkK; rw [List.length_take, List.length_drop]; omega
theorem Rd_blk {w : World} {b off : Nat} {M : List UInt8} (h : Rd w (some ⟨b, off, none⟩) M) (k : Nat) : ∀ i, i < (blkK M k).length → w.cell? ⟨b, off + 64 * k + i, none⟩ = some (.int .u8 (byt (blkK M k) i)) := by
  intro i hi
  have hl : i < 64 ∧ i < M.length - 64 * k := by unfold blkK at hi; rw [List.length_take, List.length_drop] at hi; omega
  rcases h with rfl | ⟨b', off', e, hc⟩
  · simp [blkK] at hi
  · cases e
    unfold blkK
    rw [byt_sub M (64 * k) 64 i hl.1, show off + 64 * k + i = off + (64 * k + i) by omega]
    exact hc _ (by omega)
theorem slice_blk (b off L c k : Nat) (h1 : 64 * k + 64 ≤ L) (h2 : L ≤ c) (W : World) : (Instr.sliceAt 22 (.slice (some ⟨b, off, none⟩) L c) (some (.int .i64 (64 * (k : Int)))) (some (.int .i64 (64 * (k : Int) + 64))) none).run Tryd.prog W = .ok (.slice (some ⟨b, off + 64 * k, none⟩) 64 (c - 64 * k)) W := by
  have hu : Tryd.prog.underlying 22 = some (.slice (Tryd.prog.elem 22)) := rfl
  rw [run_sliceAt_slice (h := hu), run_slice_lh (ht := hu) (h0 := by omega) (h1 := by omega) (h2 := by omega)]
  have e1 : (64 * (k : Int)).toNat = 64 * k := by omega
  have e2 : (64 * (k : Int) + 64).toNat = 64 * k + 64 := by omega
  rw [e1, e2]
  have hs : (sizeOf (Tryd.prog.elem 22)).run Tryd.prog W = .ok 1 W := rfl
  rw [hs]
  simp [sliced, Addr.add, Result.andThen]
  rw [if_neg (by omega)]
  split
  · rename_i h
    rw [h]; rfl
  · rfl
theorem rx_ref (s : St) (k x : Wd) : (((wn s.h + bits .xor .u32 (bits .xor .u32 (wn (rotw s.e 6)) (wn (rotw s.e 11))) (wn (rotw s.e 25)) + bits .xor .u32 (bits .and .u32 (wn s.e) (wn s.f)) (bits .and .u32 (bits .xor .u32 (wn s.e) 4294967295) (wn s.g)) + wn k) % 4294967296 + wn x) % 4294967296) = wn (rx s k x) := by
  simp only [wn_not, wn_xor, wn_and]
  unfold rx tmix
  rw [← wn_add', ← wn_add', ← wn_add', ← wn_add']
  omega
theorem ry_ref (s : St) (X : Wd) : ((wn X + (bits .xor .u32 (bits .xor .u32 (wn (rotw s.a 2)) (wn (rotw s.a 13))) (wn (rotw s.a 22)) + bits .xor .u32 (bits .xor .u32 (bits .and .u32 (wn s.a) (wn s.b)) (bits .and .u32 (wn s.a) (wn s.c))) (bits .and .u32 (wn s.b) (wn s.c))) % 4294967296) % 4294967296) = wn (X + ry s) := by
  simp only [wn_xor, wn_and]
  rw [wn_add', wn_add']
  rfl
theorem built_8 (u : St) : Tryd.prog.built 30 [(0, .int .u32 (wn u.a)), (1, .int .u32 (wn u.b)), (2, .int .u32 (wn u.c)), (3, .int .u32 (wn u.d)), (4, .int .u32 (wn u.e)), (5, .int .u32 (wn u.f)), (6, .int .u32 (wn u.g)), (7, .int .u32 (wn u.h))] = some (stv u) := by kernel_rfl
/-- byte i of a hash -/
theorem outS_get (v : St) (i : Nat) (hi : i < 32) : ∃ x, (stl v)[i / 4]? = some x ∧ (outS v)[i]? = some (UInt8.ofNat (x.toNat / 2 ^ (24 - 8 * (i % 4)))) := by
  have h4 : i / 4 < 8 := by omega
  obtain ⟨q, r, hq, hr, rfl⟩ : ∃ q r, q < 8 ∧ r < 4 ∧ i = 4 * q + r := ⟨i / 4, i % 4, h4, by omega, by omega⟩
  have e1 : (4 * q + r) / 4 = q := by omega
  have e2 : (4 * q + r) % 4 = r := by omega
  rw [e1, e2]
  have h8 : q = 0 ∨ q = 1 ∨ q = 2 ∨ q = 3 ∨ q = 4 ∨ q = 5 ∨ q = 6 ∨ q = 7 := by omega
  have hr4 : r = 0 ∨ r = 1 ∨ r = 2 ∨ r = 3 := by omega
  rcases h8 with rfl | rfl | rfl | rfl | rfl | rfl | rfl | rfl <;> rcases hr4 with rfl | rfl | rfl | rfl <;> exact ⟨_, rfl, by simp [outS, outw]⟩
/-- a hash of which i bytes are written -/
def outI (v : St) (i : Nat) : List UInt8 := (outS v).take i ++ List.replicate (32 - i) 0
theorem outI_length (v : St) (i : Nat) (h : i ≤ 32) : (outI v i).length = 32 := by unfold outI; rw [List.length_append, List.length_take, outS_length, List.length_replicate]; omega
theorem outI_step (v : St) (i : Nat) (x : UInt8) (hi : i < 32) (hx : (outS v)[i]? = some x) : (bvs (outI v i)).toArray.setIfInBounds i (.int .u8 (x.toNat : Int)) = (bvs (outI v (i + 1))).toArray := by
  have hl : i < (outS v).length := by rw [outS_length]; exact hi
  have hg : (outS v)[i] = x := (List.getElem?_eq_some_iff.1 hx).2
  have hs : (outI v i).set i x = outI v (i + 1) := by
    unfold outI
    rw [List.set_append_right _ _ (by rw [List.length_take, outS_length]; omega), List.length_take, outS_length, Nat.min_eq_left (by omega), Nat.sub_self, show 32 - i = (32 - (i + 1)) + 1 by omega, List.replicate_succ, List.set_cons_zero, List.take_succ_eq_append_getElem hl, hg, List.append_assoc]
    rfl
  rw [← hs, List.setIfInBounds_toArray]
  congr 1
  simp [bvs]
def RoI (w : World) (v : St) (g i : Nat) (W : World) : Prop :=
  W.heap[g]? = some (.cells (bvs (outI v i)).toArray 24 (0, 0)) ∧ W.heap[w.heap.size]? = some (.cells z32 24 (0, 0)) ∧ W.heap[w.heap.size + 1]? = some (.cells (stv v) 30 (0, 0)) ∧ Below w.heap.size w W ∧ w.heap.size + 1 < g
theorem RoI.start {w W : World} {v : St} {M : List UInt8} {p : Option Addr} (h : RsI w v M p W) : RoI w v W.heap.size 0 (W.alloc (.cells z32 24)) :=
  ⟨heap_alloc_new _ _, row_later' h.1 alloc_row, row_later' h.2.1 alloc_row, below_al h.2.2.2.2.1 _, lt_of_block h.2.1⟩
theorem RoI.step {w W : World} {v : St} {g i : Nat} (h : RoI w v g i W) (x : UInt8) (hi : i < 32) (hx : (outS v)[i]? = some x) : RoI w v g (i + 1) (W.setCell ⟨g, i, none⟩ (.int .u8 (x.toNat : Int))) := by
  obtain ⟨h1, h2, h3, h4, h5⟩ := h
  refine ⟨?_, set_other (by omega) h2, set_other (by omega) h3, h4.setCell (by simp; omega) _, h5⟩
  rw [heap_setCell_self _ _ _ _ _ _ h1, outI_step v i x hi hx]
/-- the same, and the words of a block -/
def RsJ (w : World) (v : St) (M : List UInt8) (p : Option Addr) (Ws : List Wd) (g : Nat) (W : World) : Prop := RsI w v M p W ∧ W.heap[g]? = some (.cells (wvs Ws).toArray 54 (0, 0))
theorem RsJ.later {w W W1 : World} {v : St} {M : List UInt8} {p : Option Addr} {Ws : List Wd} {g : Nat} (h : RsJ w v M p Ws g W) (hb : Below W.heap.size W W1) : RsJ w v M p Ws g W1 := ⟨h.1.later hb, row_later' h.2 hb⟩
theorem RsJ.drewN {w W : World} {v : St} {M : List UInt8} {p : Option Addr} {Ws : List Wd} {g : Nat} (h : RsJ w v M p Ws g W) (q : Nat) : RsJ w v M p Ws g (W.drewN q) := h.later (below_drewN (Below.refl _ _) q)

set_option maxRecDepth 100000 in
set_option maxHeartbeats 3200000 in
theorem rsum_any (a : Option Addr) (n c : Nat) (l : List UInt8) (w : World) (hR : Rd w a l) (hn : n = l.length) (hlen : l.length ≤ 1099511627776) (hT0 : Tabc w) :
    Calls Tryd.prog 12 #[.slice a n c] w fun e w' => e = .returned (.agg (bvs (sha l)).toArray) ∧ Below w.heap.size w w' := by
  have hT := Lib.hid hT0
  have hR' := Lib.hid hR
  have hn' := Lib.hid hn
  have hbu : Hid (Tryd.prog.built 30 [(0, .int .u32 1779033703), (1, .int .u32 3144134277), (2, .int .u32 1013904242), (3, .int .u32 2773480762), (4, .int .u32 1359893119), (5, .int .u32 2600822924), (6, .int .u32 528734635), (7, .int .u32 1541459225)] = some (stv st0)) := Lib.hid (by kernel_rfl)
  have hsz := Lib.hid (stv_size st0)
  have hon := Lib.hid (stv_one st0)
  clear hT0 hR hn
  go_enter Tryd.func12, Tryd.ntmps12
  go_wp2_with (first | (refine wpList_alloc_as rfl 24 rfl z32 zero_32b ?_) | (refine wpList_build_as rfl 30 _ rfl (stv st0) (by exact hbu.out) ?_) | (refine wpList_alloc_as rfl 30 rfl z8w zero_8w ?_) | ((refine wpList_store_last rfl 30 (.tmp 3) (.tmp 20) rfl (stv st0) rfl rfl 30 z8w hsz.out rfl hon.out ?_)))
  have hR2 := Rd_later hR'.out (((Below.refl _ w).alloc (Nat.le_refl _) (.cells z32 24)).alloc (by simp) (.cells (stv st0) 30))
  refine (padded_any a n c l _ hR2 hn'.out hlen).mono ?_
  rintro e w1 ⟨v1, rfl, ho1, hb1⟩
  obtain ⟨nb, hnb, hML, hn0, hsha⟩ := pad_blocks l
  obtain ⟨M, hM⟩ : ∃ M, pad l = M := ⟨_, rfl⟩
  rw [hM] at ho1 hML hsha
  have hMle : nb ≤ 17179869200 := by omega
  obtain ⟨p, c1, rfl, hRd, _, hLc, hcm, hpb⟩ := own_Rd ho1
  have hI0 : RsI w st0 M p w1 := by
    have hbl : Below w.heap.size w ((w.alloc (.cells z32 24)).alloc (.cells (stv st0) 30)) := ((Below.refl _ w).alloc (Nat.le_refl _) _).alloc (by simp) _
    exact ⟨row_later' (heap_alloc2_old _ _ _) hb1, row_later' (heap_alloc2_new _ _ _) hb1, hRd, hT.out.later (below_tr hbl hb1), below_tr hbl hb1, fun q hq => by have := hpb q hq; simp at this; omega⟩
  obtain ⟨b, off, rfl⟩ : ∃ b off, p = some ⟨b, off, none⟩ := by
    rcases hRd with h | ⟨b, off, h, _⟩
    · have := congrArg List.length h; rw [hML] at this; simp at this; omega
    · exact ⟨b, off, h⟩
  rw [hML] at hLc ⊢
  have hI1 := Lib.hid hI0
  have hML' := Lib.hid hML
  have hsha' := Lib.hid hsha
  clear hI0 hpb hRd ho1 hb1 hM hML hsha hR2 hR' hbu hsz hon hlen
  go_wp2_with fail
  go_loopw [5] (fun i wr => ∃ k : Nat, k ≤ nb ∧ i = .int .i64 (64 * (k : Int)) ∧ RsI w (blks st0 M k) M (some ⟨b, off, none⟩) wr) (fun i _ => 64 * nb - (intOf i).toNat)
  case atStart => exact ⟨0, by omega, rfl, hI1.out⟩
  case round =>
    obtain ⟨k, hk, rfl, hI⟩ := hrel
    clear hI1
    by_cases hlt : k < nb
    · obtain ⟨v, hv⟩ : ∃ v, blks st0 M k = v := ⟨_, rfl⟩
      rw [hv] at hI
      have hv' := Lib.hid hv
      have hlt' : 64 * (k : Int) < (64 * nb : Nat) := by omega
      have hlt2 : 64 * (k : Int) < 64 * (nb : Int) := by omega
      have hsl := slice_blk b off (64 * nb) c1 k (by omega) hLc
      have hRb := Lib.hid (Rd_blk hI.2.2.1 k)
      obtain ⟨B, hB⟩ : ∃ B, blkK M k = B := ⟨_, rfl⟩
      have hBl : Hid (B.length = 64) := Lib.hid (by rw [← hB]; exact blkK_length M k nb hML'.out hlt)
      rw [hB] at hRb
      obtain ⟨Ws, hWs⟩ : ∃ Ws, words B = Ws := ⟨_, rfl⟩
      have hWl : Ws.length = 64 := by rw [← hWs, words_length]
      have hz := Lib.hid (size_64w Ws hWl)
      have hz2 : Hid (z64w.size = (wvs Ws).toArray.size) := Lib.hid (by rw [wvs_size, hWl]; exact wvs_size _)
      have h1c := Lib.hid (all_oneCell_toArray (wvs_one Ws))
      have hI2 := Lib.hid hI
      have hB' := Lib.hid hB
      have hWs' := Lib.hid hWs
      have hWl' := Lib.hid hWl
      clear hI hv hB hWs hWl
      go_wp2_with fail
      refine (rwords_any b (off + 64 * k) (c1 - 64 * k) B hBl _ (by omega) hRb).mono ?_
      rw [hWs'.out]
      rintro e w2 ⟨rfl, hb2⟩
      have hI3 := Lib.hid (hI2.out.later hb2)
      clear hb2
      go_upto_region 1 with (first | (refine wpList_alloc_as rfl 54 rfl z64w zero_64w ?_) | (refine wpList_store_last rfl 54 (.tmp 6) (.tmp 34) rfl (wvs Ws).toArray rfl rfl 54 z64w hz.out hz2.out h1c.out ?_))
      have hJ : RsJ w v M (some ⟨b, off, none⟩) Ws w2.heap.size (w2.alloc (.cells (wvs Ws).toArray 54)) := ⟨hI3.out.later alloc_row, heap_alloc_new _ _⟩
      have hJ' := Lib.hid hJ
      clear hI3 hI2 hz hz2 h1c hRb hBl
      generalize w2.alloc (.cells (wvs Ws).toArray 54) = W3 at hJ hJ' ⊢
      generalize w2.heap.size = g at hJ hJ' ⊢
      have a0 := hJ.1.word 0 (x := v.a) rfl
      have a1 := hJ.1.word 1 (x := v.b) rfl
      have a2 := hJ.1.word 2 (x := v.c) rfl
      have a3 := hJ.1.word 3 (x := v.d) rfl
      have a4 := hJ.1.word 4 (x := v.e) rfl
      have a5 := hJ.1.word 5 (x := v.f) rfl
      have a6 := hJ.1.word 6 (x := v.g) rfl
      have a7 := hJ.1.word 7 (x := v.h) rfl
      clear hJ hsl
      go_quiet (fail)
      go_wp2_with fail
      clear a0 a1 a2 a3 a4 a5 a6 a7
      go_loopw [7, 8, 9, 10, 11, 12, 13, 14, 15] (fun a b' c d e f g' h i wr => ∃ (t : Nat) (s : St), t ≤ 64 ∧ Hid (s = comp v Ws t) ∧ i = .int .i64 t ∧ a = .int .u32 (wn s.a) ∧ b' = .int .u32 (wn s.b) ∧ c = .int .u32 (wn s.c) ∧ d = .int .u32 (wn s.d) ∧ e = .int .u32 (wn s.e) ∧ f = .int .u32 (wn s.f) ∧ g' = .int .u32 (wn s.g) ∧ h = .int .u32 (wn s.h) ∧ RsJ w v M (some ⟨b, off, none⟩) Ws g wr) (fun _ _ _ _ _ _ _ _ i _ => 64 - (intOf i).toNat)
      case atStart => exact ⟨0, v, by omega, Lib.hid rfl, rfl, rfl, rfl, rfl, rfl, rfl, rfl, rfl, rfl, hJ'.out.drewN _⟩
      case round =>
        obtain ⟨t, s, ht, hs, rfl, rfl, rfl, rfl, rfl, rfl, rfl, rfl, rfl, hC⟩ := hrel
        clear hJ'
        by_cases hlt64 : t < 64
        · have ck := hC.1.2.2.2.1 t hlt64
          obtain ⟨x, hx⟩ : ∃ x, Ws[t]? = some x := ⟨Ws[t]'(by rw [hWl'.out]; exact hlt64), List.getElem?_eq_getElem _⟩
          have cw := cell_row hC.2 (wvs_get hx)
          have hnx : Hid (comp v Ws (t + 1) = rnd s (KK.getD t 0) x) := Lib.hid (by rw [hs.out]; show rnd (comp v Ws t) (KK.getD t 0) (Ws.getD t 0) = _; rw [show Ws.getD t 0 = x by rw [List.getD_eq_getElem?_getD, hx]; rfl])
          generalize KK.getD t 0 = kk at ck hnx
          have hC0 := Lib.hid hC
          have ht64 : (t : Int) < 64 := by omega
          have ht0 : 0 ≤ (t : Int) := by omega
          obtain ⟨sa, sb, sc, sd, se, sf, sg, sh⟩ := s
          clear hC hx
          go_upto_region 1 with fail
          go_cut [16] (fun y wx => y = .int .u32 (wn (rx ⟨sa, sb, sc, sd, se, sf, sg, sh⟩ kk x)) ∧ RsJ w v M (some ⟨b, off, none⟩) Ws g wx)
          case first =>
            go_quiet ((go_at_call 29; first | (with_reducible exact rrq6 _ _ _) | (with_reducible exact rrq11 _ _ _) | (with_reducible exact rrq25 _ _ _)))
            go_wp2_with fail
            go_meet
            exact ⟨by rw [← rx_ref], hC0.out.drewN _⟩
          case rest =>
            obtain ⟨rfl, hC1⟩ := hcut
            have hC2 := Lib.hid hC1
            clear hC1 ck cw hC0
            obtain ⟨X, hX⟩ : ∃ X, rx ⟨sa, sb, sc, sd, se, sf, sg, sh⟩ kk x = X := ⟨_, rfl⟩
            rw [hX]
            have hX' := Lib.hid hX
            clear hX
            go_wp2_with (go_at_call 29; first | ((with_reducible refine (rrw2 _ _).mono ?_); rintro e w' ⟨rfl, q1, rfl⟩) | ((with_reducible refine (rrw13 _ _).mono ?_); rintro e w' ⟨rfl, q2, rfl⟩) | ((with_reducible refine (rrw22 _ _).mono ?_); rintro e w' ⟨rfl, q3, rfl⟩))
            have hy := ry_ref ⟨sa, sb, sc, sd, se, sf, sg, sh⟩ X
            dsimp only at hy
            refine ⟨⟨t + 1, rnd ⟨sa, sb, sc, sd, se, sf, sg, sh⟩ kk x, by omega, Lib.hid hnx.out.symm, by simp, ?_, rfl, rfl, rfl, ?_, rfl, rfl, rfl, hC2.out.drewN _⟩, by simp [intOf]; omega⟩
            · rw [hy, ← hX'.out]; rfl
            · rw [wn_add', ← hX'.out]; rfl
        · have ht' : t = 64 := by omega
          subst ht'
          rw [show ((64 : Nat) : Int) = 64 from rfl]
          obtain ⟨u, hu⟩ : ∃ u, addS v s = u := ⟨_, rfl⟩
          have hub : Hid (blks st0 M (k + 1) = u) := Lib.hid (by rw [blks_step, hv'.out, hB'.out, hWs'.out, ← hs.out]; exact hu)
          have ea : (wn v.a + wn s.a) % 4294967296 = wn u.a := by rw [wn_add', ← hu]; rfl
          have eb : (wn v.b + wn s.b) % 4294967296 = wn u.b := by rw [wn_add', ← hu]; rfl
          have ec : (wn v.c + wn s.c) % 4294967296 = wn u.c := by rw [wn_add', ← hu]; rfl
          have ed : (wn v.d + wn s.d) % 4294967296 = wn u.d := by rw [wn_add', ← hu]; rfl
          have ee : (wn v.e + wn s.e) % 4294967296 = wn u.e := by rw [wn_add', ← hu]; rfl
          have ef : (wn v.f + wn s.f) % 4294967296 = wn u.f := by rw [wn_add', ← hu]; rfl
          have eg : (wn v.g + wn s.g) % 4294967296 = wn u.g := by rw [wn_add', ← hu]; rfl
          have eh : (wn v.h + wn s.h) % 4294967296 = wn u.h := by rw [wn_add', ← hu]; rfl
          have a0 := hC.1.word 0 (x := v.a) rfl
          have a1 := hC.1.word 1 (x := v.b) rfl
          have a2 := hC.1.word 2 (x := v.c) rfl
          have a3 := hC.1.word 3 (x := v.d) rfl
          have a4 := hC.1.word 4 (x := v.e) rfl
          have a5 := hC.1.word 5 (x := v.f) rfl
          have a6 := hC.1.word 6 (x := v.g) rfl
          have a7 := hC.1.word 7 (x := v.h) rfl
          have hC' := Lib.hid hC
          have hszu := Lib.hid (stv_size u)
          have honu := Lib.hid (stv_one u)
          have hvu : Hid ((stv v).size = (stv u).size) := Lib.hid rfl
          clear hC hu hlt64 hs
          obtain ⟨sa, sb, sc, sd, se, sf, sg, sh⟩ := s
          obtain ⟨va, vb, vc, vd, ve, vf, vg, vh⟩ := v
          dsimp only at *
          go_wp2_with (first | (refine wpList_build_as rfl 30 [(0, .tmp 117), (1, .tmp 121), (2, .tmp 125), (3, .tmp 129), (4, .tmp 133), (5, .tmp 137), (6, .tmp 141), (7, .tmp 145)] rfl (stv u) (by simp only [List.map_cons, List.map_nil, Act.eval]; go_simp; with_reducible exact built_8 u) ?_) | (refine wpList_store_row rfl 30 _ _ rfl (w.heap.size + 1) (stv u) rfl rfl 30 _ hC'.out.1.2.1 hszu.out hvu.out honu.out ?_))
          refine ⟨⟨k + 1, by omega, by rw [show 64 * (k : Int) + 64 = 64 * ((k + 1 : Nat) : Int) by omega], by rw [hub.out]; exact hC'.out.1.set hT u⟩, ?_⟩
          simp only [intOf]; omega
    · have hk' : k = nb := by omega
      subst hk'
      obtain ⟨v, hv⟩ : ∃ v, blks st0 M k = v := ⟨_, rfl⟩
      rw [hv] at hI hsha'
      have hge : ¬ 64 * (k : Int) < ((64 * k : Nat) : Int) := by omega
      have hst : RoI w v wr.heap.size 0 (wr.alloc (.cells z32 24)) := RoI.start hI
      have hst' := Lib.hid hst
      have hsr := Lib.hid hI.2.2.2.2.1.size
      clear hI hst hlt hv
      go_wp2_with (refine wpList_alloc_as rfl 24 rfl z32 zero_32b ?_)
      generalize wr.alloc (.cells z32 24) = W2 at hst' ⊢
      generalize wr.heap.size = g at hst' hsr ⊢
      go_loopw [19] (fun i wr2 => ∃ j : Nat, j ≤ 32 ∧ i = .int .i64 (j : Int) ∧ RoI w v g j wr2) (fun i _ => 32 - (intOf i).toNat)
      case atStart => exact ⟨0, by omega, rfl, hst'.out⟩
      case round =>
        obtain ⟨j, hj, rfl, hO⟩ := hrel
        clear hst'
        by_cases hl32 : j < 32
        · obtain ⟨x, hx, hy⟩ := outS_get v j hl32
          have cx := cell_row hO.2.2.1 (wvs_get hx)
          obtain ⟨cv, hcv⟩ : ∃ cv, (bvs (outI v j)).toArray[j]? = some cv := ⟨_, Array.getElem?_eq_getElem (by rw [List.size_toArray, bvs_length, outI_length v j hj]; exact hl32)⟩
          have cd := cell_row hO.1 hcv
          have cf := free_row (i := j) hO.1
          have hO' := Lib.hid hO
          have hy' := Lib.hid hy
          have hj32 : (j : Int) < 32 := by omega
          have hj0 : 0 ≤ (j : Int) := by omega
          have q0 : 0 ≤ (j : Int) / 4 := by omega
          have q1 : (j : Int) / 4 < 8 := by omega
          have q2 : ((j : Int) / 4).toNat = j / 4 := by omega
          have q3 : 0 ≤ (j : Int) % 4 := by omega
          have q4 : (j : Int) % 4 < 4 := by omega
          have q5 : ¬ 24 - 8 * ((j : Int) % 4) < 0 := by omega
          have q6 : (24 - 8 * ((j : Int) % 4)).toNat = 24 - 8 * (j % 4) := by omega
          have q7 : ((j : Int)).toNat = j := by omega
          have hval : Hid (((UInt8.ofNat (x.toNat / 2 ^ (24 - 8 * (j % 4)))).toNat : Int) = wn x / 2 ^ (24 - 8 * (j % 4)) % 256) := Lib.hid (by
            rw [UInt8.toNat_ofNat']; unfold wn; push_cast; rfl)
          clear hO hy hx hcv
          go_wp2_with fail
          refine ⟨⟨j + 1, by omega, by simp, ?_⟩, by simp only [intOf]; omega⟩
          rw [← hval.out]
          exact hO'.out.step _ hl32 hy'.out
        · have hj' : j = 32 := by omega
          subst hj'
          rw [show ((32 : Nat) : Int) = 32 from rfl]
          obtain ⟨E1, E2, E3, E4, E5⟩ := hO
          obtain ⟨d, hd, hD⟩ := sha_dig l
          have h32 : outI v 32 = d := by rw [← hd, hsha'.out]; unfold outI; rw [List.take_of_length_le (by rw [outS_length]; omega), Nat.sub_self, List.replicate_zero, List.append_nil]
          rw [h32] at E1
          have g1 := Lib.hid E1
          have g2 := Lib.hid E2
          have g3 := Lib.hid E4
          have hd' := Lib.hid hd
          have hsz := Lib.hid hD.row
          have hz := Lib.hid hD.z
          have hon := Lib.hid hD.one
          clear E1 E2 E3 E4 hd h32 hD hl32
          go_wp2_with (first | (refine wpList_load_row rfl 24 _ rfl g rfl 24 (bvs d).toArray (0, 0) _ g1.out Tryd.underlying24 rfl hsz.out ?_) | (refine wpList_store_row rfl 24 _ _ rfl w.heap.size (bvs d).toArray rfl rfl 24 z32 g2.out hsz.out hz.out hon.out ?_))
          exact bodyPost_ret (v := .agg (bvs d).toArray) (results_cell_row rfl _ _ w.heap.size 24 _ (0, 0) _ rfl (setRow_heap _ _ _ _ _ _ g2.out) Tryd.underlying24 rfl hsz.out) rfl ⟨by rw [hd'.out], below_setRow g3.out (Nat.le_refl _) _⟩
end Go.Proofs.YtfgkaiaapofepaaDoor
