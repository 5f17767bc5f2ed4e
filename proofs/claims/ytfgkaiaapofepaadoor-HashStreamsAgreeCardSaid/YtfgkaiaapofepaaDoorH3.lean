/- hash.compress. -/
import Derived.Test.YtfgkaiaapofepaaDoorH2
import Derived.Lib.LaidTab
namespace Go.Proofs.YtfgkaiaapofepaaDoor
set_option linter.unusedVariables false
open Go.RowKit

/-- the table of the rounds' constants lies where the program has it -/
def Tab (w : World) : Prop := ∀ i, i < 64 → w.cell? ⟨1, i, none⟩ = some (.int .u32 (wn (KK.getD i 0)))
theorem Tab.lt {w : World} (h : Tab w) : 1 < w.heap.size := by
  have := World.block_lt_of_cell? w _ (h 0 (by omega))
  exact this
theorem Tab.below {B : Nat} {w w' : World} (h : Tab w) (hb : Below B w w') (hB : 1 < B) : Tab w' := fun i hi => (hb.cell (p := ⟨1, i, none⟩) hB).trans (h i hi)

/-- the eight words of a hash value -/
def stl (v : St) : List Wd := [v.a, v.b, v.c, v.d, v.e, v.f, v.g, v.h]
def stv (v : St) : Array Value := (wvs (stl v)).toArray
theorem stv_size (v : St) : (Tryd.prog.info? 30).map (·.size) = some (stv v).size := by
  have h : (Tryd.prog.info? 30).map (·.size) = some 8 := by kernel_rfl
  exact h
theorem stv_one (v : St) : (stv v).all (·.oneCell') = true := all_oneCell_toArray (wvs_one _)
def z8w : Array Value := (wvs (List.replicate 8 0)).toArray
theorem zero_8w : (Tryd.prog.info? 30).map (·.zero) = some (some (.agg z8w)) := by kernel_rfl
/-- of a, the first k elements with those of b added -/
def addk (a b : List Wd) (k : Nat) : List Wd := (List.zipWith (· + ·) a b).take k ++ a.drop k
theorem addk_0 (a b : List Wd) : addk a b 0 = a := by simp [addk]
theorem addk_8 (v s : St) : addk (stl v) (stl s) 8 = stl (addS v s) := rfl
theorem addk_get (a b : List Wd) (k : Nat) (x y : Wd) (ha : a[k]? = some x) (hl : a.length = b.length) : (addk a b k)[k]? = some x := by
  have hk : k < a.length := (List.getElem?_eq_some_iff.1 ha).1
  unfold addk
  rw [List.getElem?_append_right (by simp; omega)]
  have : k - ((List.zipWith (· + ·) a b).take k).length = 0 := by simp; omega
  rw [this, List.getElem?_drop, Nat.add_zero, ha]
theorem addk_set (a b : List Wd) (k : Nat) (x y : Wd) (ha : a[k]? = some x) (hb : b[k]? = some y) (hl : a.length = b.length) : (addk a b k).set k (x + y) = addk a b (k + 1) := by
  have hk : k < a.length := (List.getElem?_eq_some_iff.1 ha).1
  have hz : (List.zipWith (· + ·) a b)[k]? = some (x + y) := by rw [List.getElem?_zipWith, ha, hb]
  have hkz : k < (List.zipWith (· + ·) a b).length := by simp; omega
  unfold addk
  rw [List.set_append_right _ _ (by simp; omega)]
  have : k - ((List.zipWith (· + ·) a b).take k).length = 0 := by simp; omega
  rw [this, List.drop_eq_getElem_cons hk, List.set_cons_zero, List.take_succ_eq_append_getElem hkz]
  have : (List.zipWith (· + ·) a b)[k] = x + y := by
    rw [List.getElem?_eq_getElem hkz] at hz; exact Option.some.inj hz
  rw [this, List.append_assoc]; rfl

section
variable {P : Program}
/-- a whole array is stored into the block that was made last -/
theorem wpList_store_last {ops : Array Oper} {rest : List Oper} {o : Oper} {a : Act} {w : World} {Q : Exit → Act → World → Prop} (hgd : o.guard = none) (ty : TypeId) (x y : Operand) (ho : o.op = .store ty x y)
    (cells : Array Value) (hx : a.eval x = .pointer (some ⟨w.heap.size, 0, none⟩)) (hy : a.eval y = .agg cells) (t : TypeId) (old : Array Value) (hi : (P.info? ty).map (·.size) = some cells.size)
    (hold : old.size = cells.size) (h1 : cells.all (·.oneCell') = true) (h : wpList P ops Q rest (a.put o.dst undef) (w.alloc (.cells cells t))) : wpList P ops Q (o :: rest) a (w.alloc (.cells old t)) :=
  wpList_store_row hgd ty x y ho w.heap.size cells hx hy t old (heap_alloc_new w _) hi hold h1 (by rw [World.setRow_alloc_new]; exact h)
end

theorem rx_go (s : St) (k x : Wd) : (wn s.h + wn (tmix s.e 6 11 25) + bits .xor .u32 (bits .and .u32 (wn s.e) (wn s.f)) (bits .and .u32 (bits .xor .u32 IntKind.u32.max (wn s.e)) (wn s.g)) + wn k + wn x) % 4294967296 = wn (rx s k x) := by
  have hm : IntKind.u32.max = 4294967295 := by decide
  rw [hm, wn_not', wn_and, wn_and, wn_xor]
  unfold rx
  rw [← wn_add', ← wn_add', ← wn_add', ← wn_add']
  omega
theorem ry_go (s : St) : (wn (tmix s.a 2 13 22) + bits .xor .u32 (bits .xor .u32 (bits .and .u32 (wn s.a) (wn s.b)) (bits .and .u32 (wn s.a) (wn s.c))) (bits .and .u32 (wn s.b) (wn s.c))) % 4294967296 = wn (ry s) := by
  rw [wn_and, wn_and, wn_and, wn_xor, wn_xor, wn_add']
  rfl

/-- what the rounds need to know of the memory -/
def CompI (w : World) (v : St) (W : List Wd) (g : Nat) (wr : World) : Prop :=
  wr.heap[w.heap.size]? = some (.cells (stv v) 30 (0, 0)) ∧ wr.heap[w.heap.size + 1 + 1]? = some (.cells z8w 30 (0, 0)) ∧ wr.heap[g]? = some (.cells (wvs W).toArray 54 (0, 0)) ∧ Tab wr ∧ w.heap.size + 1 + 1 < g ∧ Below w.heap.size w wr
theorem CompI.drewN {w wr : World} {v : St} {W : List Wd} {g : Nat} (h : CompI w v W g wr) (q : Nat) : CompI w v W g (wr.drewN q) :=
  ⟨h.1, h.2.1, h.2.2.1, h.2.2.2.1, h.2.2.2.2.1, ⟨h.2.2.2.2.2.os, h.2.2.2.2.2.tape, h.2.2.2.2.2.output, h.2.2.2.2.2.size, h.2.2.2.2.2.block⟩⟩

theorem CompI.start {w w1 : World} {v : St} {l : List UInt8} {W : List Wd} (hT : Tab w)
    (h : Below (((w.alloc (.cells (stv v) 30)).alloc (.cells (bvs l).toArray 31)).alloc (.cells z8w 30)).heap.size (((w.alloc (.cells (stv v) 30)).alloc (.cells (bvs l).toArray 31)).alloc (.cells z8w 30)) w1) :
    CompI w v W w1.heap.size (w1.alloc (.cells (wvs W).toArray 54)) := by
  have hz : w.heap.size + 3 ≤ w1.heap.size := by have := h.size; simpa using this
  have hb : Below w.heap.size w w1 := (below3 w _ _ _).trans (h.mono (by simp; omega))
  refine ⟨heap_old (by omega) ((h.block _ (by simp; omega)).trans (heap3_0 _ _ _ _)), heap_old (by omega) ((h.block _ (by simp)).trans (heap3_2 _ _ _ _)), heap_alloc_new _ _, ?_, by omega, hb.alloc hb.size _⟩
  exact hT.below (hb.alloc hb.size _) hT.lt
theorem CompI.words {w wr : World} {v : St} {W : List Wd} {g : Nat} (h : CompI w v W g wr) (i : Nat) {x : Wd} (hx : (stl v)[i]? = some x) : wr.cell? ⟨w.heap.size, i, none⟩ = some (.int .u32 (wn x)) :=
  cell_row h.1 (wvs_get hx)

/-- the words of the value while those of s are being added -/
def CompE (w : World) (v s : St) (k : Nat) (wr : World) : Prop :=
  wr.heap[w.heap.size]? = some (.cells (wvs (addk (stl v) (stl s) k)).toArray 30 (0, 0)) ∧ wr.heap[w.heap.size + 1 + 1]? = some (.cells z8w 30 (0, 0)) ∧ Below w.heap.size w wr
theorem CompE.start {w wr : World} {v s : St} {W : List Wd} {g : Nat} (h : CompI w v W g wr) : CompE w v s 0 wr :=
  ⟨by rw [addk_0]; exact h.1, h.2.1, h.2.2.2.2.2⟩
theorem CompE.cell {w wr : World} {v s : St} {k : Nat} (h : CompE w v s k wr) {y : Wd} (hy : (stl v)[k]? = some y) : wr.cell? ⟨w.heap.size, k, none⟩ = some (.int .u32 (wn y)) :=
  cell_row h.1 (wvs_get (addk_get _ _ _ _ y hy rfl))
theorem CompE.step {w wr : World} {v s : St} {k : Nat} (h : CompE w v s k wr) (hk : k < 8) {x y : Wd} (hy : (stl v)[k]? = some y) (hx : (stl s)[k]? = some x) : CompE w v s (k + 1) (wr.setCell ⟨w.heap.size, k, none⟩ (.int .u32 (wn (y + x)))) := by
  refine ⟨?_, set_other (by omega) h.2.1, h.2.2.setCell (Nat.le_refl _) _⟩
  rw [heap_setCell_self _ _ _ _ _ _ h.1, wvs_set, addk_set _ _ _ _ _ hy hx rfl]

set_option maxRecDepth 100000 in
set_option maxHeartbeats 1600000 in
theorem compress_any (v : St) (l : List UInt8) (hl : Hid (l.length = 64)) (w : World) (hT : Tab w) :
    Calls Tryd.prog 37 #[.agg (stv v), .agg (bvs l).toArray] w fun e w' => e = .returned (.agg (stv (blk1 v l))) ∧ Below w.heap.size w w' := by
  have hs := Lib.hid (size_64b l hl.out)
  have hlt := hT.lt
  have hT' := Lib.hid hT
  obtain ⟨W, hW⟩ : ∃ W, W = words l := ⟨_, rfl⟩
  have hWl : W.length = 64 := by rw [hW, words_length]
  have hz := Lib.hid (size_64w W hWl)
  have hz2 : Hid (z64w.size = (wvs W).toArray.size) := Lib.hid (by rw [wvs_size, hWl]; exact wvs_size _)
  have h1c := Lib.hid (all_oneCell_toArray (wvs_one W))
  have hW' := Lib.hid hW
  have hWl' := Lib.hid hWl
  clear hT hW hWl
  go_enter Tryd.func37, Tryd.ntmps37
  go_upto_region 2 with (first | (refine wpList_alloc_as rfl 30 rfl z8w zero_8w ?_) | (refine wpList_alloc_as rfl 54 rfl z64w zero_64w ?_) | (refine wpList_load_row rfl 31 _ rfl (w.heap.size + 1) rfl 31 (bvs l).toArray (0, 0) _ (heap3_1 w _ _ _) Tryd.underlying31 rfl hs.out ?_) | (go_at_call 40; refine (schedule_any l hl _).mono ?_; rintro e w1 ⟨rfl, hb1⟩; rw [← hW'.out]; have hb1' := Lib.hid hb1; clear hb1) | (refine wpList_store_last rfl 54 _ _ rfl (wvs W).toArray rfl rfl 54 z64w hz.out hz2.out h1c.out ?_))
  have hC : CompI w v W w1.heap.size (w1.alloc (.cells (wvs W).toArray 54)) := CompI.start hT'.out hb1'.out
  generalize w1.alloc (.cells (wvs W).toArray 54) = wx at hC ⊢
  generalize w1.heap.size = g at hC ⊢
  have hC' := Lib.hid hC
  have a0 := hC.words 0 (x := v.a) rfl
  have a1 := hC.words 1 (x := v.b) rfl
  have a2 := hC.words 2 (x := v.c) rfl
  have a3 := hC.words 3 (x := v.d) rfl
  have a4 := hC.words 4 (x := v.e) rfl
  have a5 := hC.words 5 (x := v.f) rfl
  have a6 := hC.words 6 (x := v.g) rfl
  have a7 := hC.words 7 (x := v.h) rfl
  clear hC
  go_quiet (fail)
  go_wp2_with fail
  go_quiet (fail)
  go_wp2_with fail
  clear a0 a1 a2 a3 a4 a5 a6 a7
  go_loopw [6, 7, 8, 9, 10, 11, 12, 13, 37] (fun a b c d e f g' h i wr => ∃ (t : Nat) (s : St), t ≤ 64 ∧ Hid (s = comp v W t) ∧ i = .int .i64 t ∧ a = .int .u32 (wn s.a) ∧ b = .int .u32 (wn s.b) ∧ c = .int .u32 (wn s.c) ∧ d = .int .u32 (wn s.d) ∧ e = .int .u32 (wn s.e) ∧ f = .int .u32 (wn s.f) ∧ g' = .int .u32 (wn s.g) ∧ h = .int .u32 (wn s.h) ∧ CompI w v W g wr) (fun _ _ _ _ _ _ _ _ i _ => 64 - (intOf i).toNat)
  case atStart => exact ⟨0, v, by omega, Lib.hid rfl, rfl, rfl, rfl, rfl, rfl, rfl, rfl, rfl, rfl, (hC'.out.drewN _).drewN _⟩
  case round =>
    obtain ⟨t, s, ht, hs, rfl, rfl, rfl, rfl, rfl, rfl, rfl, rfl, rfl, hC⟩ := hrel
    by_cases hlt64 : t < 64
    · have ck := hC.2.2.2.1 t hlt64
      obtain ⟨x, hx⟩ : ∃ x, W[t]? = some x := ⟨W[t]'(by rw [hWl'.out]; exact hlt64), List.getElem?_eq_getElem _⟩
      have cw := cell_row hC.2.2.1 (wvs_get hx)
      have hnx : Hid (comp v W (t + 1) = rnd s (KK.getD t 0) x) := Lib.hid (by rw [hs.out]; show rnd (comp v W t) (KK.getD t 0) (W.getD t 0) = _; rw [show W.getD t 0 = x by rw [List.getD_eq_getElem?_getD, hx]; rfl])
      generalize KK.getD t 0 = k at ck hnx
      have hC0 := Lib.hid hC
      have ht64 : (t : Int) < 64 := by omega
      have hx' := Lib.hid hx
      obtain ⟨sa, sb, sc, sd, se, sf, sg, sh⟩ := s
      clear hC hx
      go_upto_region 1 with fail
      go_cut [15] (fun y wx => y = .int .u32 (wn (rx ⟨sa, sb, sc, sd, se, sf, sg, sh⟩ k x)) ∧ CompI w v W g wx)
      case first =>
        go_quiet ((go_at_call 41; exact q_left (mix_6 _ _)))
        go_wp2_with fail
        go_meet
        exact ⟨by rw [← rx_go], hC0.out.drewN _⟩
      case rest =>
        obtain ⟨rfl, hC1⟩ := hcut
        have hC2 := Lib.hid hC1
        have hxx := Lib.hid (show rx ⟨sa, sb, sc, sd, se, sf, sg, sh⟩ k x = rx ⟨sa, sb, sc, sd, se, sf, sg, sh⟩ k x from rfl)
        clear hC1 ck cw
        generalize hX : rx ⟨sa, sb, sc, sd, se, sf, sg, sh⟩ k x = X at *
        have hX' := Lib.hid hX
        clear hX hxx
        go_wp2_with (go_at_call 41; refine (mix_2 _ _).mono ?_; rintro e w' ⟨rfl, rfl⟩)
        have hy := ry_go ⟨sa, sb, sc, sd, se, sf, sg, sh⟩
        dsimp only at hy
        refine ⟨⟨t + 1, rnd ⟨sa, sb, sc, sd, se, sf, sg, sh⟩ k x, by omega, Lib.hid hnx.out.symm, by simp, ?_, rfl, rfl, rfl, ?_, rfl, rfl, rfl, hC2.out⟩, by simp [intOf]; omega⟩
        · rw [hy, wn_add', ← hX'.out]; rfl
        · rw [wn_add', ← hX'.out]; rfl
    · have ht' : t = 64 := by omega
      subst ht'
      have hs0 : Hid (addS v s = blk1 v l) := Lib.hid (by rw [hs.out, hW'.out]; rfl)
      rw [show ((64 : Nat) : Int) = 64 from rfl]
      have hP : CompE w v s 0 wr := CompE.start hC
      have hP' := Lib.hid hP
      clear hC hP hlt64
      go_wp2
      go_loopw [97] (fun i wr => ∃ k : Nat, k ≤ 8 ∧ i = .int .i64 k ∧ CompE w v s k wr) (fun i _ => 8 - (intOf i).toNat)
      case atStart => exact ⟨0, by omega, rfl, hP'.out⟩
      case round =>
        obtain ⟨k, hk, rfl, hE⟩ := hrel
        by_cases hk8 : k < 8
        · obtain ⟨x, hx⟩ : ∃ x, (stl s)[k]? = some x := ⟨(stl s)[k]'hk8, List.getElem?_eq_getElem _⟩
          obtain ⟨y, hy⟩ : ∃ y, (stl v)[k]? = some y := ⟨(stl v)[k]'hk8, List.getElem?_eq_getElem _⟩
          have hix := run_index_cell (P := Tryd.prog) 30 29 8 k (stv s) _ _ Tryd.underlying30 Tryd.underlying29 rfl (by kernel_rfl) hk8 (wvs_get hx)
          have hc := hE.cell hy
          have hf := free_row (i := k) hE.1
          have hst := Lib.hid (hE.step hk8 hy hx)
          have hkk : (k : Int) < 8 := by omega
          have hlo := wn_lo x
          have hlo2 := wn_lo y
          clear hE hx hy
          simp only [stv, stl, wvs, List.map_cons, List.map_nil] at hix
          go_wp2
          refine ⟨⟨k + 1, by omega, by simp, by rw [wn_add']; exact hst.out⟩, by simp [intOf]; omega⟩
        · have hk' : k = 8 := by omega
          subst hk'
          rw [show ((8 : Nat) : Int) = 8 from rfl]
          obtain ⟨E1, E2, E3⟩ := hE
          rw [addk_8, hs0.out] at E1
          have g1 := Lib.hid E1
          have g2 := Lib.hid E2
          have g3 := Lib.hid E3
          obtain ⟨V, hV⟩ : ∃ V, V = blk1 v l := ⟨_, rfl⟩
          rw [← hV] at g1
          have hV' := Lib.hid hV
          clear E1 E2 E3 hV hk8
          have hsz := Lib.hid (stv_size V)
          have hon := Lib.hid (stv_one V)
          go_wp2_with (first | (refine wpList_load_row rfl 30 _ rfl w.heap.size rfl 30 (stv V) (0, 0) _ g1.out Tryd.underlying30 rfl hsz.out ?_) | (refine wpList_store_row rfl 30 _ _ rfl (w.heap.size + 1 + 1) (stv V) rfl rfl 30 z8w g2.out hsz.out rfl hon.out ?_))
          exact bodyPost_ret (v := .agg (stv V)) (results_cell_row rfl _ _ (w.heap.size + 1 + 1) 30 _ (0, 0) _ rfl (setRow_heap _ _ _ _ _ _ g2.out) Tryd.underlying30 rfl hsz.out) rfl ⟨by rw [hV'.out], below_setRow g3.out (by omega) _⟩
end Go.Proofs.YtfgkaiaapofepaaDoor
