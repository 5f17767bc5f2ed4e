/- The reference: rotr. -/
import Derived.Test.YtfgkaiaapofepaaDoorH2
namespace Go.Proofs.YtfgkaiaapofepaaDoor
set_option linter.unusedVariables false
open Go.RowKit

set_option maxRecDepth 100000 in
set_option maxHeartbeats 400000 in
theorem rrotr_any (x : Wd) (n : Nat) (h : 1 ≤ n) (h2 : n ≤ 31) (w : World) :
    Calls Tryd.prog 29 #[.int .u32 (wn x), .int .i64 (n : Int)] w fun e w' => e = .returned (.int .u32 (wn (rotw x n))) ∧ ∃ q, w' = w.drewN q := by
  have hx0 := wn_lo x
  have hx1 := wn_hi x
  obtain ⟨k, hk⟩ : ∃ k : Nat, k = 32 - n := ⟨_, rfl⟩
  have hkI : (32 : Int) - (n : Int) = (k : Int) := by omega
  have hw : IntKind.i64.wrap ((32 : Int) - (n : Int)) = (k : Int) := by rw [hkI]; exact IntWalk.i64_in _ (by omega)
  have hk0 : 0 ≤ (k : Int) := by omega
  have hk1 : (k : Int) < 32 := by omega
  have hn0 : 0 ≤ (n : Int) := by omega
  have hn1 : (n : Int) < 32 := by omega
  go_enter Tryd.func29, Tryd.ntmps29
  go_wp2
  go_quiet (fail)
  go_wp2
  go_ret
  exact ⟨ret_u32 (by rw [wn_shr, wn_shl, wn_or]; rfl), nq, rfl⟩
theorem rrotr_lit (x : Wd) (n : Nat) (h : 1 ≤ n ∧ n ≤ 31) (i : Int) (hi : i = (n : Int)) (w : World) :
    Calls Tryd.prog 29 #[.int .u32 (wn x), .int .i64 i] w fun e w' => e = .returned (.int .u32 (wn (rotw x n))) ∧ ∃ q, w' = w.drewN q := by
  subst hi; exact rrotr_any x n h.1 h.2 w

theorem q_any {P : Program} {f : FuncId} {args : Array Value} {w : World} {n : Nat} {v : Value} (h : Calls P f args (w.drewN n) fun e w' => e = .returned v ∧ ∃ q, w' = (w.drewN n).drewN q) :
    Calls P f args (w.drewN n) fun e w'' => e = .returned v ∧ ∃ m, w'' = w.drewN m :=
  h.mono fun _ _ ⟨he, q, hq⟩ => ⟨he, n + q, by rw [hq, World.drewN_drewN]⟩
theorem rrq7 (x : Wd) (w : World) (m : Nat) : Calls Tryd.prog 29 #[.int .u32 (wn x), .int .i64 7] (w.drewN m) fun e w' => e = .returned (.int .u32 (wn (rotw x 7))) ∧ ∃ q, w' = w.drewN q :=
  q_any (rrotr_lit x 7 (by decide) _ rfl _)
theorem rrw7 (x : Wd) (w : World) : Calls Tryd.prog 29 #[.int .u32 (wn x), .int .i64 7] w fun e w' => e = .returned (.int .u32 (wn (rotw x 7))) ∧ ∃ q, w' = w.drewN q :=
  rrotr_lit x 7 (by decide) _ rfl _
theorem rrq18 (x : Wd) (w : World) (m : Nat) : Calls Tryd.prog 29 #[.int .u32 (wn x), .int .i64 18] (w.drewN m) fun e w' => e = .returned (.int .u32 (wn (rotw x 18))) ∧ ∃ q, w' = w.drewN q :=
  q_any (rrotr_lit x 18 (by decide) _ rfl _)
theorem rrw18 (x : Wd) (w : World) : Calls Tryd.prog 29 #[.int .u32 (wn x), .int .i64 18] w fun e w' => e = .returned (.int .u32 (wn (rotw x 18))) ∧ ∃ q, w' = w.drewN q :=
  rrotr_lit x 18 (by decide) _ rfl _
theorem rrq17 (x : Wd) (w : World) (m : Nat) : Calls Tryd.prog 29 #[.int .u32 (wn x), .int .i64 17] (w.drewN m) fun e w' => e = .returned (.int .u32 (wn (rotw x 17))) ∧ ∃ q, w' = w.drewN q :=
  q_any (rrotr_lit x 17 (by decide) _ rfl _)
theorem rrw17 (x : Wd) (w : World) : Calls Tryd.prog 29 #[.int .u32 (wn x), .int .i64 17] w fun e w' => e = .returned (.int .u32 (wn (rotw x 17))) ∧ ∃ q, w' = w.drewN q :=
  rrotr_lit x 17 (by decide) _ rfl _
theorem rrq19 (x : Wd) (w : World) (m : Nat) : Calls Tryd.prog 29 #[.int .u32 (wn x), .int .i64 19] (w.drewN m) fun e w' => e = .returned (.int .u32 (wn (rotw x 19))) ∧ ∃ q, w' = w.drewN q :=
  q_any (rrotr_lit x 19 (by decide) _ rfl _)
theorem rrw19 (x : Wd) (w : World) : Calls Tryd.prog 29 #[.int .u32 (wn x), .int .i64 19] w fun e w' => e = .returned (.int .u32 (wn (rotw x 19))) ∧ ∃ q, w' = w.drewN q :=
  rrotr_lit x 19 (by decide) _ rfl _
theorem rrq6 (x : Wd) (w : World) (m : Nat) : Calls Tryd.prog 29 #[.int .u32 (wn x), .int .i64 6] (w.drewN m) fun e w' => e = .returned (.int .u32 (wn (rotw x 6))) ∧ ∃ q, w' = w.drewN q :=
  q_any (rrotr_lit x 6 (by decide) _ rfl _)
theorem rrw6 (x : Wd) (w : World) : Calls Tryd.prog 29 #[.int .u32 (wn x), .int .i64 6] w fun e w' => e = .returned (.int .u32 (wn (rotw x 6))) ∧ ∃ q, w' = w.drewN q :=
  rrotr_lit x 6 (by decide) _ rfl _
theorem rrq11 (x : Wd) (w : World) (m : Nat) : Calls Tryd.prog 29 #[.int .u32 (wn x), .int .i64 11] (w.drewN m) fun e w' => e = .returned (.int .u32 (wn (rotw x 11))) ∧ ∃ q, w' = w.drewN q :=
  q_any (rrotr_lit x 11 (by decide) _ rfl _)
theorem rrw11 (x : Wd) (w : World) : Calls Tryd.prog 29 #[.int .u32 (wn x), .int .i64 11] w fun e w' => e = .returned (.int .u32 (wn (rotw x 11))) ∧ ∃ q, w' = w.drewN q :=
  rrotr_lit x 11 (by decide) _ rfl _
theorem rrq25 (x : Wd) (w : World) (m : Nat) : Calls Tryd.prog 29 #[.int .u32 (wn x), .int .i64 25] (w.drewN m) fun e w' => e = .returned (.int .u32 (wn (rotw x 25))) ∧ ∃ q, w' = w.drewN q :=
  q_any (rrotr_lit x 25 (by decide) _ rfl _)
theorem rrw25 (x : Wd) (w : World) : Calls Tryd.prog 29 #[.int .u32 (wn x), .int .i64 25] w fun e w' => e = .returned (.int .u32 (wn (rotw x 25))) ∧ ∃ q, w' = w.drewN q :=
  rrotr_lit x 25 (by decide) _ rfl _
theorem rrq2 (x : Wd) (w : World) (m : Nat) : Calls Tryd.prog 29 #[.int .u32 (wn x), .int .i64 2] (w.drewN m) fun e w' => e = .returned (.int .u32 (wn (rotw x 2))) ∧ ∃ q, w' = w.drewN q :=
  q_any (rrotr_lit x 2 (by decide) _ rfl _)
theorem rrw2 (x : Wd) (w : World) : Calls Tryd.prog 29 #[.int .u32 (wn x), .int .i64 2] w fun e w' => e = .returned (.int .u32 (wn (rotw x 2))) ∧ ∃ q, w' = w.drewN q :=
  rrotr_lit x 2 (by decide) _ rfl _
theorem rrq13 (x : Wd) (w : World) (m : Nat) : Calls Tryd.prog 29 #[.int .u32 (wn x), .int .i64 13] (w.drewN m) fun e w' => e = .returned (.int .u32 (wn (rotw x 13))) ∧ ∃ q, w' = w.drewN q :=
  q_any (rrotr_lit x 13 (by decide) _ rfl _)
theorem rrw13 (x : Wd) (w : World) : Calls Tryd.prog 29 #[.int .u32 (wn x), .int .i64 13] w fun e w' => e = .returned (.int .u32 (wn (rotw x 13))) ∧ ∃ q, w' = w.drewN q :=
  rrotr_lit x 13 (by decide) _ rfl _
theorem rrq22 (x : Wd) (w : World) (m : Nat) : Calls Tryd.prog 29 #[.int .u32 (wn x), .int .i64 22] (w.drewN m) fun e w' => e = .returned (.int .u32 (wn (rotw x 22))) ∧ ∃ q, w' = w.drewN q :=
  q_any (rrotr_lit x 22 (by decide) _ rfl _)
theorem rrw22 (x : Wd) (w : World) : Calls Tryd.prog 29 #[.int .u32 (wn x), .int .i64 22] w fun e w' => e = .returned (.int .u32 (wn (rotw x 22))) ∧ ∃ q, w' = w.drewN q :=
  rrotr_lit x 22 (by decide) _ rfl _
theorem be4_or (l : List UInt8) (t : Nat) : be4 l t = (BitVec.ofNat 32 (l.getD (4 * t) 0).toNat <<< 24) ||| (BitVec.ofNat 32 (l.getD (4 * t + 1) 0).toNat <<< 16) ||| (BitVec.ofNat 32 (l.getD (4 * t + 2) 0).toNat <<< 8) ||| BitVec.ofNat 32 (l.getD (4 * t + 3) 0).toNat := by
  show (((((0 : Wd) <<< 8 ||| _) <<< 8 ||| _) <<< 8) ||| _) <<< 8 ||| _ = _
  simp only [BitVec.shiftLeft_or_distrib, ← BitVec.shiftLeft_add, Nat.add_zero, Nat.reduceAdd]
  rw [show ((0 : Wd) <<< 32) = 0#32 from rfl, BitVec.zero_or]
theorem be4_go (l : List UInt8) (t : Nat) : bits .or .u32 (bits .or .u32 (bits .or .u32 (IntKind.u32.wrap (byt l (4 * t) * 16777216)) (IntKind.u32.wrap (byt l (4 * t + 1) * 65536))) (IntKind.u32.wrap (byt l (4 * t + 2) * 256))) (byt l (4 * t + 3)) = wn (be4 l t) := by
  rw [IntKind.wrap_u32', IntKind.wrap_u32', IntKind.wrap_u32', byt_wn, byt_wn, byt_wn, byt_wn, show (16777216 : Int) = 2 ^ 24 from rfl, show (65536 : Int) = 2 ^ 16 from rfl, show (256 : Int) = 2 ^ 8 from rfl, wn_shl, wn_shl, wn_shl, wn_or, wn_or, wn_or, be4_or]

theorem be4_bare (l : List UInt8) (t : Nat) : bits .or .u32 (bits .or .u32 (bits .or .u32 (byt l (4 * t) * 16777216) (byt l (4 * t + 1) * 65536)) (byt l (4 * t + 2) * 256)) (byt l (4 * t + 3)) = wn (be4 l t) := by
  have b0 := byt_lo l (4 * t)
  have b1 := byt_lo l (4 * t + 1)
  have b2 := byt_lo l (4 * t + 2)
  have d0 := byt_hi l (4 * t)
  have d1 := byt_hi l (4 * t + 1)
  have d2 := byt_hi l (4 * t + 2)
  have e0 : IntKind.u32.wrap (byt l (4 * t) * 16777216) = byt l (4 * t) * 16777216 := by rw [IntKind.wrap_u32']; omega
  have e1 : IntKind.u32.wrap (byt l (4 * t + 1) * 65536) = byt l (4 * t + 1) * 65536 := by rw [IntKind.wrap_u32']; omega
  have e2 : IntKind.u32.wrap (byt l (4 * t + 2) * 256) = byt l (4 * t + 2) * 256 := by rw [IntKind.wrap_u32']; omega
  rw [← be4_go, e0, e1, e2]
/-- the words of a block, of which t are read -/
def rfil (l : List UInt8) (t : Nat) : List Wd := (List.range t).map (be4 l) ++ List.replicate (64 - t) 0
theorem rfil_0 (l : List UInt8) : rfil l 0 = List.replicate 64 0 := rfl
theorem rfil_16 (l : List UInt8) : rfil l 16 = wat l 16 := rfl
theorem rfil_step (l : List UInt8) (t : Nat) (h : t < 64) : (rfil l t).set t (be4 l t) = rfil l (t + 1) := by
  unfold rfil
  rw [List.set_append_right _ _ (by simp), List.range_succ, List.map_append, List.length_map, List.length_range, Nat.sub_self, show 64 - t = (64 - (t + 1)) + 1 by omega, List.replicate_succ, List.set_cons_zero, List.append_assoc]
  rfl
theorem rfil_get (l : List UInt8) (t : Nat) (h : t < 64) : (rfil l t)[t]? = some 0 := by
  unfold rfil
  rw [List.getElem?_append_right (by simp), List.getElem?_replicate, if_pos (by simp; omega)]

/-- the blocks of words: the words so far, the result's zeros -/
def RwI (w : World) (ws : List Wd) (wr : World) : Prop :=
  wr.heap[w.heap.size + 1]? = some (.cells (wvs ws).toArray 54 (0, 0)) ∧ wr.heap[w.heap.size]? = some (.cells z64w 54 (0, 0)) ∧ Below w.heap.size w wr
theorem RwI.start (w : World) : RwI w (List.replicate 64 0) ((w.alloc (.cells z64w 54)).alloc (.cells z64w 54)) :=
  ⟨heap_alloc2_new _ _ _, heap_alloc2_old _ _ _, ((Below.refl _ _).alloc (Nat.le_refl _) _).alloc (by simp) _⟩
theorem RwI.set {w wr : World} {ws ws' : List Wd} (h : RwI w ws wr) (i : Nat) (x : Wd) (hs : ws.set i x = ws') : RwI w ws' (wr.setCell ⟨w.heap.size + 1, i, none⟩ (.int .u32 (wn x))) := by
  obtain ⟨h1, h2, h3⟩ := h
  subst hs
  refine ⟨?_, set_other (by omega) h2, h3.setCell (by simp) _⟩
  rw [heap_setCell_self _ _ _ _ _ _ h1, wvs_set]
theorem RwI.drewN {w wr : World} {ws : List Wd} (h : RwI w ws wr) (q : Nat) : RwI w ws (wr.drewN q) :=
  ⟨h.1, h.2.1, ⟨h.2.2.os, h.2.2.tape, h.2.2.output, h.2.2.size, h.2.2.block⟩⟩
theorem RwI.drew {w wr : World} {ws : List Wd} (h : RwI w ws wr) : RwI w ws wr.drew := h.drewN 1
theorem RwI.cell {w wr : World} {ws : List Wd} (h : RwI w ws wr) {i : Nat} {x : Wd} (hx : ws[i]? = some x) : wr.cell? ⟨w.heap.size + 1, i, none⟩ = some (.int .u32 (wn x)) := cell_row h.1 (wvs_get hx)

/-- what a round of the second loop needs to know -/
def RwF (w : World) (ws ws' : List Wd) (t : Nat) (x15 x2 x16 x7 : Wd) : Prop :=
  ∀ wr, RwI w ws wr → wr.cell? ⟨w.heap.size + 1, t - 15, none⟩ = some (.int .u32 (wn x15)) ∧ wr.cell? ⟨w.heap.size + 1, t - 2, none⟩ = some (.int .u32 (wn x2)) ∧ wr.cell? ⟨w.heap.size + 1, t - 16, none⟩ = some (.int .u32 (wn x16)) ∧
    wr.cell? ⟨w.heap.size + 1, t - 7, none⟩ = some (.int .u32 (wn x7)) ∧ wr.cell? ⟨w.heap.size + 1, t, none⟩ = some (.int .u32 (wn 0)) ∧ wr.frozen? ⟨w.heap.size + 1, t, none⟩ = false ∧
    RwI w ws' (wr.setCell ⟨w.heap.size + 1, t, none⟩ (.int .u32 (wn (x16 + sg0 x15 + x7 + sg1 x2))))
theorem rwF (w : World) (l : List UInt8) (t : Nat) (ht : 16 ≤ t) (hlt : t < 64) : ∃ x15 x2 x16 x7, RwF w (wat l t) (wat l (t + 1)) t x15 x2 x16 x7 := by
  refine ⟨wrd l (t - 15), wrd l (t - 2), wrd l (t - 16), wrd l (t - 7), fun wr h => ⟨h.cell (wat_word l t (t - 15) ht (by omega) (by omega)), h.cell (wat_word l t (t - 2) ht (by omega) (by omega)),
    h.cell (wat_word l t (t - 16) ht (by omega) (by omega)), h.cell (wat_word l t (t - 7) ht (by omega) (by omega)), h.cell (wat_zero l t ht hlt), free_row h.1, ?_⟩⟩
  rw [← wrd_next l t ht hlt]
  exact h.set _ _ (wat_step l t ht hlt)

set_option maxRecDepth 100000 in
set_option maxHeartbeats 3200000 in
theorem rwords_any (b off c : Nat) (l : List UInt8) (hl : Hid (l.length = 64)) (w : World) (hc : 64 ≤ c) (hR : Hid (∀ i, i < l.length → w.cell? ⟨b, off + i, none⟩ = some (.int .u8 (byt l i)))) :
    Calls Tryd.prog 28 #[.slice (some ⟨b, off, none⟩) 64 c] w fun e w' => e = .returned (.agg (wvs (words l)).toArray) ∧ Below w.heap.size w w' := by
  have hst := Lib.hid (RwI.start w)
  go_enter Tryd.func28, Tryd.ntmps28
  go_wp2_with (refine wpList_alloc_as rfl 54 rfl z64w zero_64w ?_)
  go_loopw [4] (fun i wr => ∃ t : Nat, t ≤ 16 ∧ i = .int .i64 t ∧ RwI w (rfil l t) wr) (fun i _ => 16 - (intOf i).toNat)
  case atStart => exact ⟨0, by omega, rfl, by rw [rfil_0]; exact hst.out⟩
  case round =>
    obtain ⟨t, ht, rfl, hI⟩ := hrel
    clear hst
    by_cases hlt : t < 16
    · have hlt' : (t : Int) < 16 := by omega
      have hlt6 : (t : Int) < 64 := by omega
      have ht0 : 0 ≤ (t : Int) := by omega
      have hcl : ∀ j, j < 4 → wr.cell? ⟨b, off + (4 * t + j), none⟩ = some (.int .u8 (byt l (4 * t + j))) := fun j hj => (hI.2.2.cell (World.block_lt_of_cell? w _ (hR.out _ (by rw [hl.out]; omega)))).trans (hR.out _ (by rw [hl.out]; omega))
      have c0 := hcl 0 (by omega)
      have c1 := hcl 1 (by omega)
      have c2 := hcl 2 (by omega)
      have c3 := hcl 3 (by omega)
      simp only [Nat.add_zero] at c0
      have e0 : (4 * (t : Int)).toNat = 4 * t := by omega
      have e1 : (4 * (t : Int) + 1).toNat = 4 * t + 1 := by omega
      have e2 : (4 * (t : Int) + 2).toNat = 4 * t + 2 := by omega
      have e3 : (4 * (t : Int) + 3).toNat = 4 * t + 3 := by omega
      have w0 : IntKind.i64.wrap (4 * (t : Int)) = 4 * (t : Int) := IntWalk.i64_in _ (by omega)
      have w1 : IntKind.i64.wrap (4 * (t : Int) + 1) = 4 * (t : Int) + 1 := IntWalk.i64_in _ (by omega)
      have w2 : IntKind.i64.wrap (4 * (t : Int) + 2) = 4 * (t : Int) + 2 := IntWalk.i64_in _ (by omega)
      have w3 : IntKind.i64.wrap (4 * (t : Int) + 3) = 4 * (t : Int) + 3 := IntWalk.i64_in _ (by omega)
      have p0 : 0 ≤ 4 * (t : Int) := by omega
      have p1 : 0 ≤ 4 * (t : Int) + 1 := by omega
      have p2 : 0 ≤ 4 * (t : Int) + 2 := by omega
      have p3 : 0 ≤ 4 * (t : Int) + 3 := by omega
      have r0 : 4 * (t : Int) < 64 := by omega
      have r1 : 4 * (t : Int) + 1 < 64 := by omega
      have r2 : 4 * (t : Int) + 2 < 64 := by omega
      have r3 : 4 * (t : Int) + 3 < 64 := by omega
      have b0 := byt_lo l (4 * t)
      have b1 := byt_lo l (4 * t + 1)
      have b2 := byt_lo l (4 * t + 2)
      have b3 := byt_lo l (4 * t + 3)
      have d0 := byt_hi l (4 * t)
      have d1 := byt_hi l (4 * t + 1)
      have d2 := byt_hi l (4 * t + 2)
      have d3 := byt_hi l (4 * t + 3)
      have u0 : IntKind.u32.wrap (byt l (4 * t)) = byt l (4 * t) := by rw [IntKind.wrap_u32']; omega
      have u1 : IntKind.u32.wrap (byt l (4 * t + 1)) = byt l (4 * t + 1) := by rw [IntKind.wrap_u32']; omega
      have u2 : IntKind.u32.wrap (byt l (4 * t + 2)) = byt l (4 * t + 2) := by rw [IntKind.wrap_u32']; omega
      have u3 : IntKind.u32.wrap (byt l (4 * t + 3)) = byt l (4 * t + 3) := by rw [IntKind.wrap_u32']; omega
      have hct := hI.cell (rfil_get l t (by omega))
      have hft := free_row (i := t) hI.1
      have hnx := Lib.hid ((hI.set t (be4 l t) (rfil_step l t (by omega))).drew)
      have hgo := Lib.hid (be4_bare l t)
      clear hI hcl
      go_upto_region 1 with fail
      go_still_tail 35, (by kernel_rfl)
      change wpList _ _ _ _ _ wr.drew
      go_wp2
      refine ⟨⟨t + 1, by omega, by simp, ?_⟩, by simp [intOf]; omega⟩
      rw [hgo.out]
      exact hnx.out
    · have ht16 : t = 16 := by omega
      subst ht16
      rw [rfil_16] at hI
      rw [show ((16 : Nat) : Int) = 16 from rfl]
      have hI1 := Lib.hid hI
      clear hI hlt
      go_wp2
      go_loopw [5] (fun i wr => ∃ t : Nat, 16 ≤ t ∧ t ≤ 64 ∧ i = .int .i64 t ∧ RwI w (wat l t) wr) (fun i _ => 64 - (intOf i).toNat)
      case atStart => exact ⟨16, by omega, by omega, rfl, hI1.out⟩
      case round =>
        obtain ⟨t, ht, ht2, rfl, hI0⟩ := hrel
        clear hI1
        by_cases hlt : t < 64
        · obtain ⟨x15, x2, x16, x7, hF⟩ := rwF w l t ht hlt
          generalize wat l t = ws at *
          obtain ⟨ws', hws⟩ : ∃ ws', wat l (t + 1) = ws' := ⟨_, rfl⟩
          rw [hws] at hF
          have hF' := Lib.hid hF
          have hws' := Lib.hid hws
          have hI := Lib.hid hI0
          have c15 := (hF wr hI0).1
          have hlt' : (t : Int) < 64 := by omega
          have ht' : (16 : Int) ≤ (t : Int) := by omega
          have e15 : ((t : Int) - 15).toNat = t - 15 := by omega
          clear hF hws hI0
          go_upto_region 1 with fail
          go_cut [6] (fun s wx => s = .int .u32 (wn (sg0 x15)) ∧ RwI w ws wx)
          case first =>
            go_quiet ((go_at_call 29; first | (with_reducible exact rrq7 _ _ _) | (with_reducible exact rrq18 _ _ _)))
            go_wp2_with fail
            go_meet
            exact ⟨by rw [sg0_go], hI.out.drewN _⟩
          case rest =>
            obtain ⟨rfl, hI1⟩ := hcut
            have c2 := (hF'.out _ hI1).2.1
            have e2 : ((t : Int) - 2).toNat = t - 2 := by omega
            have hI2 := Lib.hid hI1
            clear hI1 hI c15 e15
            go_upto_region 1 with fail
            go_cut [7] (fun s wx => s = .int .u32 (wn (sg1 x2)) ∧ RwI w ws wx)
            case first =>
              go_quiet ((go_at_call 29; first | (with_reducible exact rrq17 _ _ _) | (with_reducible exact rrq19 _ _ _)))
              go_wp2_with fail
              go_meet
              exact ⟨by rw [sg1_go], hI2.out.drewN _⟩
            case rest =>
              obtain ⟨rfl, hI1⟩ := hcut
              obtain ⟨_, _, c16, c7, ct, hf, _⟩ := hF'.out _ hI1
              have e16 : ((t : Int) - 16).toNat = t - 16 := by omega
              have e7 : ((t : Int) - 7).toNat = t - 7 := by omega
              have hst := Lib.hid (hF'.out _ hI1).2.2.2.2.2.2
              have i16 : IntKind.i64.wrap ((t : Int) - 16) = (t : Int) - 16 := IntWalk.i64_in _ (by omega)
              have i7 : IntKind.i64.wrap ((t : Int) - 7) = (t : Int) - 7 := IntWalk.i64_in _ (by omega)
              have p16 : 0 ≤ (t : Int) - 16 := by omega
              have p7 : 0 ≤ (t : Int) - 7 := by omega
              have r16 : (t : Int) - 16 < 64 := by omega
              have r7 : (t : Int) - 7 < 64 := by omega
              have t0 : 0 ≤ (t : Int) := by omega
              clear hI1 hI2 e2 c2
              generalize sg0 x15 = s0 at *
              generalize sg1 x2 = s1 at *
              go_upto_region 1 with fail
              go_region_with fail
              all_goals
                go_wp2
                refine ⟨⟨t + 1, by omega, by omega, by simp, ?_⟩, by simp [intOf]; omega⟩
                rw [hws'.out]
                first | rw [wt_go] | rw [wn_add, wn_add, wn_add]
                exact hst.out.drew
        · have hk' : t = 64 := by omega
          subst hk'
          obtain ⟨W, hW⟩ : ∃ W, W = words l := ⟨_, rfl⟩
          have hWl : W.length = 64 := by rw [hW, words_length]
          rw [wat_64, ← hW] at hI0
          rw [show ((64 : Nat) : Int) = 64 from rfl]
          have hW' := Lib.hid hW
          have hz := Lib.hid (size_64w W hWl)
          have hz2 : Hid (z64w.size = (wvs W).toArray.size) := Lib.hid (by rw [wvs_size, hWl]; exact wvs_size _)
          have h1c := Lib.hid (all_oneCell_toArray (wvs_one W))
          obtain ⟨g1, g2, g3⟩ := hI0
          have hg1 := Lib.hid g1
          have hg2 := Lib.hid g2
          have hb := Lib.hid g3
          clear g1 g2 g3 hW hWl hlt
          go_wp2_with (first | (refine wpList_load_row rfl 54 _ rfl (w.heap.size + 1) rfl 54 (wvs W).toArray (0, 0) _ hg1.out Tryd.underlying54 rfl hz.out ?_) | (refine wpList_store_row rfl 54 _ _ rfl w.heap.size (wvs W).toArray rfl rfl 54 z64w hg2.out hz.out hz2.out h1c.out ?_))
          refine bodyPost_ret (v := .agg (wvs W).toArray) (results_cell_row rfl _ _ w.heap.size 54 _ (0, 0) _ rfl (setRow_heap _ _ _ _ _ _ hg2.out) Tryd.underlying54 rfl hz.out) rfl ⟨by rw [hW'.out], below_setRow hb.out (Nat.le_refl _) _⟩
end Go.Proofs.YtfgkaiaapofepaaDoor
