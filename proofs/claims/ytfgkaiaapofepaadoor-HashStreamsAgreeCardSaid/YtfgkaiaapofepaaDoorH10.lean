/- hash.Mac. -/
import Derived.Test.YtfgkaiaapofepaaDoorH9
import Derived.Test.YtfgkaiaapofepaaDoorR8
namespace Go.Proofs.YtfgkaiaapofepaaDoor
open Go.RowKit

def z64b : Array Value := (bvs (List.replicate 64 0)).toArray
theorem zero_64b : (Tryd.prog.info? 31).map (·.zero) = some (some (.agg z64b)) := by kernel_rfl
theorem slice32a (g : Nat) (W : World) : (Instr.sliceAt 24 (.pointer (some ⟨g, 0, none⟩)) none none none).run Tryd.prog W = .ok (.slice (some ⟨g, 0, none⟩) 32 32) W := by
  have hu : Tryd.prog.underlying 24 = some (.array 32 5) := Tryd.underlying24
  have hs : ∀ W, (sizeOf 5).run Tryd.prog W = .ok 1 W := fun W => by kernel_rfl
  have ha : Tryd.prog.arrayLen 24 = 32 := by kernel_rfl
  have he : Tryd.prog.elem 24 = 5 := by kernel_rfl
  rw [run_sliceAt_array_all (P := Tryd.prog) W 24 ⟨g, 0, none⟩ (by rw [ha, he]; exact hu), he, ha, hs]
  simp [slicedAt, Addr.add]

/-- the key as it is used -/
def MacJ (w : World) (key : ByteArray) (x : Value) (W : World) : Prop := ∃ S : ByteArray, x = .string S ∧ S.data.toList = keyOf (sl key) ∧ Tab W ∧ Below w.heap.size w W
theorem keyOf_le (k : List UInt8) : (keyOf k).length ≤ 64 := by
  unfold keyOf; split
  · rw [sha_length]; omega
  · omega

theorem Rd_conv {W : World} {g : Nat} {l : List UInt8} (h : ∀ j u, (bvs l)[j]? = some u → W.cell? ((⟨g, 0, none⟩ : Addr).add j) = some u) : Rd W (some ⟨g, 0, none⟩) l :=
  .inr ⟨g, 0, rfl, fun i hi => by
    have := h i _ (by simpa using bvs_get hi)
    rwa [add_plain] at this⟩
theorem alloc_row {w : World} {o : Obj} : Below w.heap.size w (w.alloc o) := (Below.refl _ _).alloc (Nat.le_refl _) _

/-- the key, followed by zeros -/
def padK (k : List UInt8) : List UInt8 := keyOf k ++ List.replicate (64 - (keyOf k).length) 0
theorem padK_length (k : List UInt8) : (padK k).length = 64 := by
  have := keyOf_le k
  unfold padK
  rw [List.length_append, List.length_replicate]; omega
theorem padK_copy (k : List UInt8) : ovr (bvs (List.replicate 64 0)) 0 (keyOf k) = (bvs (padK k)).toArray := by
  unfold ovr splice padK
  congr 1
  simp only [bvs, List.map_append, List.map_replicate, List.length_map, List.take_zero, List.nil_append, Nat.zero_add, List.drop_replicate]

/-- the blocks of the second half -/
def MacI (w : World) (P h1 : List UInt8) (g6 g7 : Nat) (W : World) : Prop :=
  W.heap[g6]? = some (.cells (bvs P).toArray 31 (0, 0)) ∧ W.heap[g7]? = some (.cells (bvs h1).toArray 24 (0, 0)) ∧ Tab W ∧ Below w.heap.size w W
theorem MacI.later {w W w' : World} {P h1 : List UInt8} {g6 g7 : Nat} (h : MacI w P h1 g6 g7 W) (hb : Below W.heap.size W w') : MacI w P h1 g6 g7 w' :=
  ⟨(hb.block _ (lt_of_block h.1)).trans h.1, (hb.block _ (lt_of_block h.2.1)).trans h.2.1, h.2.2.1.later hb, h.2.2.2.trans (hb.mono h.2.2.2.size)⟩
theorem MacI.drew {w W : World} {P h1 : List UInt8} {g6 g7 : Nat} (h : MacI w P h1 g6 g7 W) : MacI w P h1 g6 g7 W.drew := h.later (below_drew (Below.refl _ _))
theorem MacI.alloc {w W : World} {P h1 : List UInt8} {g6 g7 : Nat} (h : MacI w P h1 g6 g7 W) (o : Obj) : MacI w P h1 g6 g7 (W.alloc o) := h.later alloc_row
theorem MacI.setRow {w W : World} {P h1 : List UInt8} {g6 g7 g : Nat} (h : MacI w P h1 g6 g7 W) (hT : Hid (Tab w)) (h6 : g6 < g) (h7 : g7 < g) (hg : w.heap.size ≤ g) (cs : Array Value) : MacI w P h1 g6 g7 (W.setRow g cs) :=
  ⟨(setRow_other _ _ _ _ (by omega)).trans h.1, (setRow_other _ _ _ _ (by omega)).trans h.2.1, hT.out.below (below_setRow h.2.2.2 hg cs) hT.out.lt, below_setRow h.2.2.2 hg cs⟩
theorem wp_alloc_as {P : Program} {o : Oper} {a : Act} {w : World} {K : Act → World → Prop} {Q : Exit → Act → World → Prop} (ty : TypeId) (ho : o.op = .alloc ty)
    (c : Array Value) (hz : (P.info? ty).map (·.zero) = some (some (.agg c))) (h : K (a.put o.dst (.pointer (some ⟨w.heap.size, 0, none⟩))) (w.alloc (.cells c ty))) : o.wp P a w K Q := by
  cases hq : P.info? ty with
  | none => simp [hq] at hz
  | some i =>
    have hz' : i.zero = some (.agg c) := by simpa [hq] using hz
    unfold Oper.wp execOp
    simp [ho, Instr.alloc, newVar, newRow, zeroValue, typeInfo, hq, hz', Sem.run_bind, Value.cells]
    exact h
/-- what Mac has come to: the hash lies in a block of its own -/
def MacE (w : World) (h2 : List UInt8) (x : Value) (W : World) : Prop := ∃ g, x = .pointer (some ⟨g, 0, none⟩) ∧ W.heap[g]? = some (.cells (bvs h2).toArray 24 (0, 0)) ∧ Below w.heap.size w W
theorem store_last {w : World} {d : List UInt8} (h : Dig d) : (storeCells ⟨w.heap.size, 0, none⟩ (bvs d)).run Tryd.prog (w.alloc (.cells z32 24)) = .ok () (w.alloc (.cells (bvs d).toArray 24)) := by
  rw [store_cells w.heap.size _ z32 24 (bvs d) (heap_alloc_new _ _) (by rw [h.z, List.size_toArray]) (bvs_one _), World.setRow_alloc_new]

set_option maxRecDepth 100000 in
set_option maxHeartbeats 1600000 in
theorem mac_any (key text : ByteArray) (hk : key.size ≤ 1152921504606846976) (ht : text.size ≤ 1152921504606846000) (w : World) (hT0 : Tab w) :
    Calls Tryd.prog 18 #[.string key, .string text] w fun e w' => e = .returned (.string (bs (mac (sl key) (sl text)))) ∧ Below w.heap.size w w' := by
  have hT := Lib.hid hT0
  have hsl : (sl key).length = key.size := Array.length_toList
  obtain ⟨d, hd0, hD⟩ := sha_dig (sl key)
  go_enter Tryd.func18, Tryd.ntmps18
  go_upto_if 11 with fail
  go_cut [0] (fun s wx => MacJ w key s wx)
  case first =>
    by_cases h64 : key.size ≤ 64
    · have h64' : (key.size : Int) ≤ 64 := by omega
      go_wp2_with fail
      go_meet
      exact ⟨key, rfl, by unfold keyOf; rw [if_neg (by omega)]; rfl, hT0, Below.refl _ _⟩
    · have h64' : ¬ (key.size : Int) ≤ 64 := by omega
      obtain ⟨cp, W2, hcv, hN2, hB2⟩ := conv_bytes key w
      have hRd := Lib.hid (Rd_conv hN2)
      have hT2 := Lib.hid (hT.out.later hB2)
      have hB2' := Lib.hid hB2
      have hsu : Hid (Calls Tryd.prog 11 #[.slice (some ⟨w.heap.size, 0, none⟩) key.size cp] W2 fun e w' => e = .returned (.agg (bvs d).toArray) ∧ Below W2.heap.size W2 w') := Lib.hid (by
        rw [← hd0]; exact hsum_any _ _ _ (sl key) W2 hRd.out hsl.symm (by omega) hT2.out)
      have hko : Hid (keyOf (sl key) = d) := Lib.hid (by unfold keyOf; rw [if_pos (by omega)]; exact hd0)
      have hD' := Lib.hid hD
      have hdl := Lib.hid hD.len
      have hbl : (bvs d).length = 32 := by rw [bvs_length, hD.len]
      have hsli := fun g => slice32a g
      clear hN2 hB2 hD hd0 hT0
      go_wp2_with (first | (go_at_call 11; refine hsu.out.mono ?_; rintro e w3 ⟨rfl, hb3⟩; have hb3' := Lib.hid (hB2'.out.trans (hb3.mono hB2'.out.size)); have hT3 := Lib.hid (hT2.out.later hb3); have hst := store_last (w := w3) hD'.out; have hcv3 := conv_str (c := 32) (n := 32) (Rd_row (l := d) (heap_alloc_new w3 (.cells (bvs d).toArray 24))) hdl.out.symm; clear hb3) | (refine wpList_alloc_as rfl 24 rfl z32 zero_32b ?_))
      go_meet
      have hB4 := hb3'.out.alloc hb3'.out.size (.cells (bvs d).toArray 24)
      exact ⟨bs d, rfl, hko.out.symm, hT.out.later hB4, hB4⟩
  case rest =>
    obtain ⟨S, rfl, hS, hTc, hBc⟩ := hcut
    obtain ⟨P, hP⟩ : ∃ P, padK (sl key) = P := ⟨_, rfl⟩
    have hPl : P.length = 64 := by rw [← hP]; exact padK_length _
    have htl : (sl text).length = text.size := Array.length_toList
    obtain ⟨h1, hh1, hD1⟩ := sha_dig (P.map (· ^^^ 54) ++ sl text)
    obtain ⟨h2, hh2, hD2⟩ := sha_dig (P.map (· ^^^ 92) ++ h1)
    have hmac : mac (sl key) (sl text) = h2 := by
      rw [← hh2, ← hh1, ← hP]; rfl
    obtain ⟨X2, hX2⟩ : ∃ X2, StrM P 54 = X2 := ⟨_, rfl⟩
    obtain ⟨X3, hX3⟩ : ∃ X3, StrS (P.map (· ^^^ 54) ++ sl text) = X3 := ⟨_, rfl⟩
    obtain ⟨Y2, hY2⟩ : ∃ Y2, StrM P 92 = Y2 := ⟨_, rfl⟩
    obtain ⟨Y3, hY3⟩ : ∃ Y3, StrS (P.map (· ^^^ 92) ++ h1) = Y3 := ⟨_, rfl⟩
    have hm1 : Hid (∀ W : World, Tab W → Calls Tryd.prog 32 #[.agg (bvs P).toArray, .int .u8 54] W fun e w' => e = .returned (.agg X2) ∧ Below W.heap.size W w') := Lib.hid (by rw [← hX2]; exact fun W h => masked_any P hPl 54 W h)
    have hm2 : Hid (∀ W : World, Tab W → Calls Tryd.prog 32 #[.agg (bvs P).toArray, .int .u8 92] W fun e w' => e = .returned (.agg Y2) ∧ Below W.heap.size W w') := Lib.hid (by rw [← hY2]; exact fun W h => masked_any P hPl 92 W h)
    have ha1 : Hid (∀ W : World, Tab W → Calls Tryd.prog 15 #[.agg X2, .string text] W fun e w' => e = .returned (.agg X3) ∧ Below W.heap.size W w') := Lib.hid (by
      rw [← hX2, ← hX3]; exact fun W h => add_any (P.map (· ^^^ 54)) text (by rw [List.length_map, hPl]; omega) W h)
    have ha2 : Hid (∀ W : World, Tab W → Calls Tryd.prog 15 #[.agg Y2, .string (bs h1)] W fun e w' => e = .returned (.agg Y3) ∧ Below W.heap.size W w') := Lib.hid (by
      rw [← hY2, ← hY3]; exact fun W h => add_any (P.map (· ^^^ 92)) (bs h1) (by rw [List.length_map, hPl, bs_size, hD1.len]; omega) W h)
    have hs1 : Hid (∀ W : World, Tab W → Calls Tryd.prog 17 #[.agg X3] W fun e w' => e = .returned (.agg (bvs h1).toArray) ∧ Below W.heap.size W w') := Lib.hid (by
      rw [← hX3, ← hh1]; exact fun W h => ssum_any _ (by rw [List.length_append, List.length_map, hPl, htl]; omega) W h)
    have hs2 : Hid (∀ W : World, Tab W → Calls Tryd.prog 17 #[.agg Y3] W fun e w' => e = .returned (.agg (bvs h2).toArray) ∧ Below W.heap.size W w') := Lib.hid (by
      rw [← hY3, ← hh2]; exact fun W h => ssum_any _ (by rw [List.length_append, List.length_map, hPl, hD1.len]; omega) W h)
    have hS64 : Hid (S.data.toList.length ≤ 64) := Lib.hid (by rw [hS]; exact keyOf_le _)
    have hcp : Hid (S.data.toList = S.data.toList.take 64) := Lib.hid (by rw [List.take_of_length_le hS64.out])
    have hov : Hid (ovr (bvs (List.replicate 64 0)) 0 S.data.toList = (bvs P).toArray) := Lib.hid (by rw [hS, ← hP]; exact padK_copy _)
    have hPsz := Lib.hid (size_64b P hPl)
    have hDa := Lib.hid hD1
    have hDb := Lib.hid hD2
    have hbl1 : (bvs h1).length = 32 := by rw [bvs_length, hD1.len]
    have hbl2 : (bvs h2).length = 32 := by rw [bvs_length, hD2.len]
    have hTc' := Lib.hid hTc
    have hBc' := Lib.hid hBc
    have hmac' := Lib.hid hmac
    have hsl64 := fun g => slice64a g
    clear hTc hBc hS hP hPl htl hh1 hh2 hD1 hD2 hX2 hX3 hY2 hY3 hmac hT0 hd0 hD
    clear d
    go_upto_region 1 with (first | (refine wpList_alloc_as rfl 31 rfl z64b zero_64b ?_) | (refine wpList_copy_str rfl (.tmp 17) (.tmp 18) 22 9 rfl 5 Tryd.underlying22 (by kernel_rfl) _ 0 64 64 rfl S rfl (bvs (List.replicate 64 0)) 31 S.data.toList hcp.out (heap_alloc_new _ _) (by rw [bvs_length, List.length_replicate, Nat.zero_add]; exact hS64.out) ?_; rw [hov.out, World.setRow_alloc_new]; have hT6 := Lib.hid (hTc'.out.later (alloc_row (o := .cells (bvs P).toArray 31))); have hr6 := Lib.hid (heap_alloc_new wc (.cells (bvs P).toArray 31)); have hB6 := Lib.hid (hBc'.out.trans (alloc_row.mono hBc'.out.size) : Below w.heap.size w (wc.alloc (.cells (bvs P).toArray 31))); generalize wc.alloc (.cells (bvs P).toArray 31) = W6 at hT6 hr6 hB6 ⊢; generalize wc.heap.size = g6 at hr6 ⊢) | (refine wpList_load_row rfl 31 _ rfl g6 rfl 31 (bvs P).toArray (0, 0) _ hr6.out Tryd.underlying31 rfl hPsz.out ?_) | (go_at_call 32; refine (hm1.out _ hT6.out).mono ?_; rintro e w1 ⟨rfl, hb1⟩; have hT1 := Lib.hid (hT6.out.later hb1); have hb1' := Lib.hid hb1; clear hb1) | (go_at_call 15; refine (ha1.out _ hT1.out).mono ?_; rintro e w2 ⟨rfl, hb2⟩; have hT2 := Lib.hid (hT1.out.later hb2); have hb2' := Lib.hid (hb1'.out.trans (hb2.mono hb1'.out.size)); clear hb2) | (go_at_call 17; refine (hs1.out _ hT2.out).mono ?_; rintro e w3 ⟨rfl, hb3⟩; have hT3 := Lib.hid (hT2.out.later hb3); have hb3' := Lib.hid (hb2'.out.trans (hb3.mono hb2'.out.size)); have hst := store_last (w := w3) hDa.out; clear hb3) | (refine wpList_alloc_as rfl 24 rfl z32 zero_32b ?_))
    have hI : MacI w P h1 g6 w3.heap.size (w3.alloc (.cells (bvs h1).toArray 24)) := by
      have hB := hb3'.out.alloc hb3'.out.size (.cells (bvs h1).toArray 24)
      exact ⟨(hB.block _ (lt_of_block hr6.out)).trans hr6.out, heap_alloc_new _ _, hT3.out.later alloc_row, hB6.out.trans (hB.mono hB6.out.size)⟩
    have hI' := Lib.hid hI
    clear hI hst hT1 hT2 hT3 hb1' hb2' hb3' hr6 hT6 hB6 hTc' hBc' hov hcp hS64 hm1 ha1 hs1 hDa
    generalize w3.alloc (.cells (bvs h1).toArray 24) = W7 at hI' ⊢
    generalize w3.heap.size = g7 at hI' ⊢
    go_cut [8] (fun x wx => MacE w h2 x wx)
    case first =>
      have hsli := slice32a g7
      have hl1 : Hid (32 = h1.length) := Lib.hid (by rw [← bvs_length, hbl1])
      clear hbl1 hbl2
      refine wp_region_held_drew (S := MacI w P h1 g6 g7) (by kernel_rfl) hI'.out.drew (fun hHeld => ?_)
      refine wpAnyH_take (i := 0) rfl (by kernel_rfl) (by kernel_rfl) (by kernel_rfl) (fun _ _ _ h => h) (yieldsIf_load_mid (by rfl) 31 _ rfl g6 0 rfl (bvs P) _ (fun W h => fun j u hu => cell_row h.1 (by rw [Nat.zero_add]; simpa using hu)) Tryd.underlying31 rfl (by have := hPsz.out; simpa using this)) hHeld ?_
      simp only [Act.put, List.getElem_toArray, List.getElem_cons_zero, List.setIfInBounds_toArray, List.set_cons_zero, List.set_cons_succ]
      refine wpAnyH_take (i := 2) (v := .slice (some ⟨g7, 0, none⟩) 32 32) rfl (by kernel_rfl) (by kernel_rfl) (by kernel_rfl) (fun _ _ _ h => h) (Or.inl ⟨by rfl, fun W _ => by have := hsli W; go_simp⟩) hHeld ?_
      simp only [Act.put, List.getElem_toArray, List.getElem_cons_zero, List.getElem_cons_succ, List.setIfInBounds_toArray, List.set_cons_zero, List.set_cons_succ]
      refine wpAnyH_take (i := 3) (v := .string (bs h1)) rfl (by kernel_rfl) (by kernel_rfl) (by kernel_rfl) (fun _ _ _ h => h) (Or.inl ⟨by rfl, fun W h => by have := conv_str (c := 32) (n := 32) (Rd_row (l := h1) h.2.1) hl1.out; go_simp⟩) hHeld ?_
      simp only [Act.put, List.getElem_toArray, List.getElem_cons_zero, List.getElem_cons_succ, List.setIfInBounds_toArray, List.set_cons_zero, List.set_cons_succ]
      refine wpAnyH_ready (rs := [1, 6]) (by kernel_rfl) (by simp) ?_
      refine AllReadyH.cons rfl (fun K hK => ?_) (AllReadyH.cons rfl (fun K hK => ?_) AllReadyH.nil)
      · try simp only [List.getElem_toArray, List.getElem_cons_zero, List.getElem_cons_succ]
        go_simp
        refine (hm2.out _ hHeld.2.2.1).mono ?_
        rintro e w1' ⟨rfl, hb1⟩
        refine hK.out _ _ (hHeld.later hb1) (fun hHeld1 => ?_)
        clear hK K
        try simp only [Act.put, List.getElem_toArray, List.getElem_cons_zero, List.getElem_cons_succ, List.setIfInBounds_toArray, List.set_cons_zero, List.set_cons_succ]
        refine wpAnyH_ready (rs := [4, 6]) (by kernel_rfl) (by simp) ?_
        refine AllReadyH.cons rfl (fun K hK => ?_) (AllReadyH.cons rfl (fun K hK => ?_) AllReadyH.nil)
        · try simp only [List.getElem_toArray, List.getElem_cons_zero, List.getElem_cons_succ]
          go_simp
          refine (ha2.out _ hHeld1.2.2.1).mono ?_
          rintro e w2' ⟨rfl, hb2⟩
          refine hK.out _ _ (hHeld1.later hb2) (fun hHeld2 => ?_)
          clear hK K
          try simp only [Act.put, List.getElem_toArray, List.getElem_cons_zero, List.getElem_cons_succ, List.setIfInBounds_toArray, List.set_cons_zero, List.set_cons_succ]
          refine wpAnyH_ready (rs := [5, 6]) (by kernel_rfl) (by simp) ?_
          refine AllReadyH.cons rfl (fun K hK => ?_) (AllReadyH.cons rfl (fun K hK => ?_) AllReadyH.nil)
          · try simp only [List.getElem_toArray, List.getElem_cons_zero, List.getElem_cons_succ]
            go_simp
            refine (hs2.out _ hHeld2.2.2.1).mono ?_
            rintro e w3' ⟨rfl, hb3⟩
            refine hK.out _ _ (hHeld2.later hb3) (fun hHeld3 => ?_)
            clear hK K
            try simp only [Act.put, List.getElem_toArray, List.getElem_cons_zero, List.getElem_cons_succ, List.setIfInBounds_toArray, List.set_cons_zero, List.set_cons_succ]
            refine wpAnyH_ready (rs := [6]) (by kernel_rfl) (by simp) ?_
            refine AllReadyH.cons rfl (fun K hK => ?_) AllReadyH.nil
            try simp only [List.getElem_toArray, List.getElem_cons_zero, List.getElem_cons_succ]
            rw [if_pos (by rfl)]
            refine wp_alloc_as 24 rfl z32 zero_32b ?_
            have hz4 := heap_alloc_new w3' (.cells z32 24)
            have hg6 := lt_of_block hHeld3.1
            have hg7 := lt_of_block hHeld3.2.1
            have hgw := hHeld3.2.2.2.size
            refine hK.out _ _ (hHeld3.alloc _) (fun hHeld4 => ?_)
            clear hK K
            try simp only [Act.put, List.setIfInBounds_toArray, List.set_cons_zero, List.set_cons_succ]
            refine wpAnyH_ready (rs := [7]) (by kernel_rfl) (by simp) ?_
            refine AllReadyH.cons rfl (fun K hK => ?_) AllReadyH.nil
            simp only [List.getElem_toArray, List.getElem_cons_zero, List.getElem_cons_succ]
            rw [if_pos (by rfl)]
            refine wp_store_row 24 _ _ rfl w3'.heap.size (bvs h2).toArray rfl rfl 24 z32 hz4 hDb.out.row hDb.out.z hDb.out.one ?_
            refine hK.out _ _ (hHeld4.setRow hT hg6 hg7 hgw _) (fun hFin => ?_)
            clear hK K
            refine wpAnyH_done (by kernel_rfl) ?_ _
            have hrow := setRow_heap _ w3'.heap.size _ (bvs h2).toArray _ _ hz4
            go_wp2_with fail
            simp only [Act.put]
            go_meet
            exact ⟨_, rfl, hrow, hFin.2.2.2⟩
          · try simp only [List.getElem_toArray, List.getElem_cons_zero, List.getElem_cons_succ]
            rw [if_pos (by rfl)]
            refine wp_alloc_as 24 rfl z32 zero_32b ?_
            have hz3 := heap_alloc_new w2' (.cells z32 24)
            have hg6 := lt_of_block hHeld2.1
            have hg7 := lt_of_block hHeld2.2.1
            have hgw := hHeld2.2.2.2.size
            refine hK.out _ _ (hHeld2.alloc _) (fun hHeld3 => ?_)
            clear hK K
            try simp only [Act.put, List.setIfInBounds_toArray, List.set_cons_zero, List.set_cons_succ]
            refine wpAnyH_ready (rs := [5]) (by kernel_rfl) (by simp) ?_
            refine AllReadyH.cons rfl (fun K hK => ?_) AllReadyH.nil
            try simp only [List.getElem_toArray, List.getElem_cons_zero, List.getElem_cons_succ]
            go_simp
            refine (hs2.out _ hHeld3.2.2.1).mono ?_
            rintro e w4' ⟨rfl, hb4⟩
            have hz4 := (hb4.block _ (lt_of_block hz3)).trans hz3
            refine hK.out _ _ (hHeld3.later hb4) (fun hHeld4 => ?_)
            clear hK K
            try simp only [Act.put, List.getElem_toArray, List.getElem_cons_zero, List.getElem_cons_succ, List.setIfInBounds_toArray, List.set_cons_zero, List.set_cons_succ]
            refine wpAnyH_ready (rs := [7]) (by kernel_rfl) (by simp) ?_
            refine AllReadyH.cons rfl (fun K hK => ?_) AllReadyH.nil
            simp only [List.getElem_toArray, List.getElem_cons_zero, List.getElem_cons_succ]
            rw [if_pos (by rfl)]
            refine wp_store_row 24 _ _ rfl w2'.heap.size (bvs h2).toArray rfl rfl 24 z32 hz4 hDb.out.row hDb.out.z hDb.out.one ?_
            refine hK.out _ _ (hHeld4.setRow hT hg6 hg7 hgw _) (fun hFin => ?_)
            clear hK K
            refine wpAnyH_done (by kernel_rfl) ?_ _
            have hrow := setRow_heap _ w2'.heap.size _ (bvs h2).toArray _ _ hz4
            go_wp2_with fail
            simp only [Act.put]
            go_meet
            exact ⟨_, rfl, hrow, hFin.2.2.2⟩
        · try simp only [List.getElem_toArray, List.getElem_cons_zero, List.getElem_cons_succ]
          rw [if_pos (by rfl)]
          refine wp_alloc_as 24 rfl z32 zero_32b ?_
          have hz2 := heap_alloc_new w1' (.cells z32 24)
          have hg6 := lt_of_block hHeld1.1
          have hg7 := lt_of_block hHeld1.2.1
          have hgw := hHeld1.2.2.2.size
          refine hK.out _ _ (hHeld1.alloc _) (fun hHeld2 => ?_)
          clear hK K
          try simp only [Act.put, List.setIfInBounds_toArray, List.set_cons_zero, List.set_cons_succ]
          refine wpAnyH_ready (rs := [4]) (by kernel_rfl) (by simp) ?_
          refine AllReadyH.cons rfl (fun K hK => ?_) AllReadyH.nil
          try simp only [List.getElem_toArray, List.getElem_cons_zero, List.getElem_cons_succ]
          go_simp
          refine (ha2.out _ hHeld2.2.2.1).mono ?_
          rintro e w3' ⟨rfl, hb3⟩
          have hz3 := (hb3.block _ (lt_of_block hz2)).trans hz2
          refine hK.out _ _ (hHeld2.later hb3) (fun hHeld3 => ?_)
          clear hK K
          try simp only [Act.put, List.getElem_toArray, List.getElem_cons_zero, List.getElem_cons_succ, List.setIfInBounds_toArray, List.set_cons_zero, List.set_cons_succ]
          refine wpAnyH_ready (rs := [5]) (by kernel_rfl) (by simp) ?_
          refine AllReadyH.cons rfl (fun K hK => ?_) AllReadyH.nil
          try simp only [List.getElem_toArray, List.getElem_cons_zero, List.getElem_cons_succ]
          go_simp
          refine (hs2.out _ hHeld3.2.2.1).mono ?_
          rintro e w4' ⟨rfl, hb4⟩
          have hz4 := (hb4.block _ (lt_of_block hz3)).trans hz3
          refine hK.out _ _ (hHeld3.later hb4) (fun hHeld4 => ?_)
          clear hK K
          try simp only [Act.put, List.getElem_toArray, List.getElem_cons_zero, List.getElem_cons_succ, List.setIfInBounds_toArray, List.set_cons_zero, List.set_cons_succ]
          refine wpAnyH_ready (rs := [7]) (by kernel_rfl) (by simp) ?_
          refine AllReadyH.cons rfl (fun K hK => ?_) AllReadyH.nil
          simp only [List.getElem_toArray, List.getElem_cons_zero, List.getElem_cons_succ]
          rw [if_pos (by rfl)]
          refine wp_store_row 24 _ _ rfl w1'.heap.size (bvs h2).toArray rfl rfl 24 z32 hz4 hDb.out.row hDb.out.z hDb.out.one ?_
          refine hK.out _ _ (hHeld4.setRow hT hg6 hg7 hgw _) (fun hFin => ?_)
          clear hK K
          refine wpAnyH_done (by kernel_rfl) ?_ _
          have hrow := setRow_heap _ w1'.heap.size _ (bvs h2).toArray _ _ hz4
          go_wp2_with fail
          simp only [Act.put]
          go_meet
          exact ⟨_, rfl, hrow, hFin.2.2.2⟩
      · try simp only [List.getElem_toArray, List.getElem_cons_zero, List.getElem_cons_succ]
        rw [if_pos (by rfl)]
        refine wp_alloc_as 24 rfl z32 zero_32b ?_
        have hz1 := heap_alloc_new W7.drew (.cells z32 24)
        have hg6 := lt_of_block hHeld.1
        have hg7 := lt_of_block hHeld.2.1
        have hgw := hHeld.2.2.2.size
        refine hK.out _ _ (hHeld.alloc _) (fun hHeld1 => ?_)
        clear hK K
        try simp only [Act.put, List.setIfInBounds_toArray, List.set_cons_zero, List.set_cons_succ]
        refine wpAnyH_ready (rs := [1]) (by kernel_rfl) (by simp) ?_
        refine AllReadyH.cons rfl (fun K hK => ?_) AllReadyH.nil
        try simp only [List.getElem_toArray, List.getElem_cons_zero, List.getElem_cons_succ]
        go_simp
        refine (hm2.out _ hHeld1.2.2.1).mono ?_
        rintro e w2' ⟨rfl, hb2⟩
        have hz2 := (hb2.block _ (lt_of_block hz1)).trans hz1
        refine hK.out _ _ (hHeld1.later hb2) (fun hHeld2 => ?_)
        clear hK K
        try simp only [Act.put, List.getElem_toArray, List.getElem_cons_zero, List.getElem_cons_succ, List.setIfInBounds_toArray, List.set_cons_zero, List.set_cons_succ]
        refine wpAnyH_ready (rs := [4]) (by kernel_rfl) (by simp) ?_
        refine AllReadyH.cons rfl (fun K hK => ?_) AllReadyH.nil
        try simp only [List.getElem_toArray, List.getElem_cons_zero, List.getElem_cons_succ]
        go_simp
        refine (ha2.out _ hHeld2.2.2.1).mono ?_
        rintro e w3' ⟨rfl, hb3⟩
        have hz3 := (hb3.block _ (lt_of_block hz2)).trans hz2
        refine hK.out _ _ (hHeld2.later hb3) (fun hHeld3 => ?_)
        clear hK K
        try simp only [Act.put, List.getElem_toArray, List.getElem_cons_zero, List.getElem_cons_succ, List.setIfInBounds_toArray, List.set_cons_zero, List.set_cons_succ]
        refine wpAnyH_ready (rs := [5]) (by kernel_rfl) (by simp) ?_
        refine AllReadyH.cons rfl (fun K hK => ?_) AllReadyH.nil
        try simp only [List.getElem_toArray, List.getElem_cons_zero, List.getElem_cons_succ]
        go_simp
        refine (hs2.out _ hHeld3.2.2.1).mono ?_
        rintro e w4' ⟨rfl, hb4⟩
        have hz4 := (hb4.block _ (lt_of_block hz3)).trans hz3
        refine hK.out _ _ (hHeld3.later hb4) (fun hHeld4 => ?_)
        clear hK K
        try simp only [Act.put, List.getElem_toArray, List.getElem_cons_zero, List.getElem_cons_succ, List.setIfInBounds_toArray, List.set_cons_zero, List.set_cons_succ]
        refine wpAnyH_ready (rs := [7]) (by kernel_rfl) (by simp) ?_
        refine AllReadyH.cons rfl (fun K hK => ?_) AllReadyH.nil
        simp only [List.getElem_toArray, List.getElem_cons_zero, List.getElem_cons_succ]
        rw [if_pos (by rfl)]
        refine wp_store_row 24 _ _ rfl W7.drew.heap.size (bvs h2).toArray rfl rfl 24 z32 hz4 hDb.out.row hDb.out.z hDb.out.one ?_
        refine hK.out _ _ (hHeld4.setRow hT hg6 hg7 hgw _) (fun hFin => ?_)
        clear hK K
        refine wpAnyH_done (by kernel_rfl) ?_ _
        have hrow := setRow_heap _ W7.drew.heap.size _ (bvs h2).toArray _ _ hz4
        go_wp2_with fail
        simp only [Act.put]
        go_meet
        exact ⟨_, rfl, hrow, hFin.2.2.2⟩
    case rest =>
      obtain ⟨g8, rfl, hg8, hBe⟩ := hcut
      have hsli := slice32a g8
      have hc8 := conv_str (c := 32) (n := 32) (Rd_row (l := h2) hg8) (by rw [← bvs_length, hbl2])
      have hBe' := Lib.hid hBe
      clear hg8 hBe hbl1 hbl2
      go_wp2
      go_ret
      exact ⟨by rw [hmac'.out]; rfl, hBe'.out⟩
end Go.Proofs.YtfgkaiaapofepaaDoor
