/- The walk of HashSumMatchesSpec. -/
import Derived.Test.YtfgkaiaapofepaaDoorHV6
import Derived.Test.YtfgkaiaapofepaaDoorG7
namespace Go.Proofs.YtfgkaiaapofepaaDoor
open Go.RowKit

/-- what the law holds after Sum: the hash's row, the argument, the reference's table -/
def SmI (w : World) (a : Option Addr) (l d : List UInt8) (g : Nat) (W : World) : Prop :=
  W.heap[g]? = some (.cells (bvs d).toArray 24 (0, 0)) ∧ Rd W a l ∧ Tabc W ∧ Below w.heap.size w W
theorem SmI.later {w W W1 : World} {a : Option Addr} {l d : List UInt8} {g : Nat} (h : SmI w a l d g W) (hb : Below W.heap.size W W1) : SmI w a l d g W1 :=
  ⟨row_later' h.1 hb, Rd_later h.2.1 hb, h.2.2.1.later hb, below_tr h.2.2.2 hb⟩
theorem SmI.drew {w W : World} {a : Option Addr} {l d : List UInt8} {g : Nat} (h : SmI w a l d g W) : SmI w a l d g W.drew := h.later (below_drew (Below.refl _ _))

/-- []byte(s), as a function of the world -/
noncomputable def cvC (s : ByteArray) (w : World) : Nat := Classical.choose (conv_bytes s w)
noncomputable def cvW (s : ByteArray) (w : World) : World := Classical.choose (Classical.choose_spec (conv_bytes s w))
theorem cv_spec (s : ByteArray) (w : World) : (convert 9 22 (.string s)).run Tryd.prog w = .ok (.slice (some ⟨w.heap.size, 0, none⟩) s.size (cvC s w)) (cvW s w) ∧ (∀ j u, (bvs (sl s))[j]? = some u → (cvW s w).cell? ((⟨w.heap.size, 0, none⟩ : Addr).add j) = some u) ∧ Below w.heap.size w (cvW s w) :=
  Classical.choose_spec (Classical.choose_spec (conv_bytes s w))
theorem SmI.load {w W : World} {a : Option Addr} {l d : List UInt8} {g : Nat} (h : SmI w a l d g W) (hz : (Tryd.prog.info? 24).map (·.size) = some (bvs d).toArray.size) : (loadVar 24 ⟨g, 0, none⟩).run Tryd.prog W = .ok (.agg (bvs d).toArray) W :=
  run_loadVar_row W g 24 24 (bvs d).toArray (0, 0) _ h.1 Tryd.underlying24 rfl hz
set_option maxRecDepth 100000 in
set_option maxHeartbeats 1600000 in
theorem walk_sum (a : Option Addr) (n c : Nat) (l : List UInt8) (w : World) (hR0 : Rd w a l) (hn0 : n = l.length) (hT0 : Tab w) (hTc0 : Tabc w) : Calls Tryd.prog 3 #[.slice a n c] w (TruePost w) := by
  have hT := Lib.hid hT0
  have hTc := Lib.hid hTc0
  have hR := Lib.hid hR0
  have hn := Lib.hid hn0
  clear hT0 hTc0 hR0 hn0
  by_cases h0 : 1000 < n
  · have h0' : (1000 : Int) < (n : Int) := by omega
    go_enter Tryd.func3, Tryd.ntmps3
    go_wp2_with fail
    refine (sanity_ok _ hT.out).mono ?_
    rintro e w1 ⟨rfl, hb1⟩
    have hb := Lib.hid hb1
    clear hb1
    go_wp2_with fail
    go_ret
    exact ⟨rfl, hb.out⟩
  · have h0' : ¬ (1000 : Int) < (n : Int) := by omega
    have hle : Hid (l.length ≤ 1000) := Lib.hid (by rw [← hn.out]; omega)
    obtain ⟨d, hd0, hD⟩ := sha_dig l
    have hd' := Lib.hid hd0
    have hdl := Lib.hid hD.len
    have hsz := Lib.hid hD.row
    have hz := Lib.hid hD.z
    have hon := Lib.hid hD.one
    have heq := fun W => eql_32 d d hD.len hD.len W
    rw [eqB_self] at heq
    have hrs : Hid (∀ (W : World) (p : Option Addr) (k : Nat), Rd W p l → Tabc W → Calls Tryd.prog 12 #[.slice p (bs l).size k] W fun e w' => e = .returned (.agg (bvs d).toArray) ∧ Below W.heap.size W w') :=
      Lib.hid fun W p k h1 h2 => by rw [← hd'.out]; exact rsum_any p _ k l W h1 (bs_size l) (by have := hle.out; omega) h2
    have hcv := fun W => (cv_spec (bs l) W).1
    have hN' := Lib.hid fun W => (cv_spec (bs l) W).2.1
    have hbf' := Lib.hid fun W => (cv_spec (bs l) W).2.2
    clear hD hd0
    go_enter Tryd.func3, Tryd.ntmps3
    go_wp2_with fail
    refine (sanity_ok _ hT.out).mono ?_
    rintro e w1 ⟨rfl, hb1⟩
    have hB1 := Lib.hid hb1
    have hcv1 := conv_str (c := c) (Rd_later hR.out hb1) hn.out
    clear hb1
    go_wp2_with fail
    refine (hsum_any _ _ _ l _ (Rd_later hR.out hB1.out) hn.out (by have := hle.out; omega) (hT.out.later hB1.out)).mono ?_
    rw [hd'.out]
    rintro e w2 ⟨rfl, hb2⟩
    have hB2 := Lib.hid (below_tr hB1.out hb2)
    clear hb2 hcv1
    go_upto_region 1 with (first | (refine wpList_alloc_as rfl 24 rfl z32 zero_32b ?_) | (refine wpList_store_last rfl 24 (.tmp 5) (.tmp 14) rfl (bvs d).toArray rfl rfl 24 z32 hsz.out hz.out hon.out ?_))
    have hJ0 : SmI w a l d w2.heap.size (w2.alloc (.cells (bvs d).toArray 24)) := ⟨heap_alloc_new _ _, Rd_later (Rd_later hR.out hB2.out) alloc_row, (hTc.out.later hB2.out).later alloc_row, below_al hB2.out _⟩
    generalize w2.alloc (.cells (bvs d).toArray 24) = W3 at hJ0 ⊢
    generalize w2.heap.size = g at hJ0 ⊢
    have hJ := Lib.hid hJ0
    have hJq := Lib.hid hJ0.drew
    clear hJ0 hB2 hB1
    simp only [Act.put, List.setIfInBounds_toArray, List.set_cons_zero, List.set_cons_succ]
    clear hT hR hTc hdl hz hon hle
    refine wp_region_held_drew (S := SmI w a l d g) (by kernel_rfl) hJq.out (fun hHeld => ?_)
    refine wpAnyH_take (i := 0) (v := .bool true) rfl (by kernel_rfl) (by kernel_rfl) (by kernel_rfl) (fun _ _ _ h => h) (Or.inl ⟨by rfl, fun W _ => by go_simp⟩) hHeld ?_
    simp only [Act.put, List.getElem_toArray, List.getElem_cons_zero, List.setIfInBounds_toArray, List.set_cons_zero, List.set_cons_succ]
    refine wpAnyH_take (i := 1) (v := .bool true) rfl (by kernel_rfl) (by kernel_rfl) (by kernel_rfl) (fun _ _ _ h => h) (Or.inl ⟨by rfl, fun W _ => by go_simp⟩) hHeld ?_
    simp only [Act.put, List.getElem_toArray, List.getElem_cons_zero, List.getElem_cons_succ, List.setIfInBounds_toArray, List.set_cons_zero, List.set_cons_succ]
    refine wpAnyH_take (i := 2) rfl (by kernel_rfl) (by kernel_rfl) (by kernel_rfl) (fun _ _ _ h => h) (yieldsIf_load_mid (by rfl) 24 _ rfl g 0 rfl (bvs d) _ (fun W h => fun j u hu => cell_row h.1 (by rw [Nat.zero_add]; simpa using hu)) Tryd.underlying24 rfl (by have := hsz.out; simpa using this)) hHeld ?_
    simp only [Act.put, List.getElem_toArray, List.getElem_cons_zero, List.getElem_cons_succ, List.setIfInBounds_toArray, List.set_cons_zero, List.set_cons_succ]
    refine wpAnyH_take (i := 3) (v := .string (bs l)) rfl (by kernel_rfl) (by kernel_rfl) (by kernel_rfl) (fun _ _ _ h => h) (Or.inl ⟨by rfl, fun W _ => by go_simp⟩) hHeld ?_
    simp only [Act.put, List.getElem_toArray, List.getElem_cons_zero, List.getElem_cons_succ, List.setIfInBounds_toArray, List.set_cons_zero, List.set_cons_succ]
    refine wpAnyH_ready (rs := [4]) (by kernel_rfl) (by simp) ?_
    refine AllReadyH.cons rfl (fun K hK => ?_) AllReadyH.nil
    go_simp
    have hH2 := hHeld.later (hbf'.out W3.drew)
    refine hK.out _ _ hH2 (fun hHeld2 => ?_)
    clear hK K hH2
    try simp only [Act.put, List.getElem_toArray, List.getElem_cons_zero, List.getElem_cons_succ, List.setIfInBounds_toArray, List.set_cons_zero, List.set_cons_succ]
    refine wpAnyH_ready (rs := [5]) (by kernel_rfl) (by simp) ?_
    refine AllReadyH.cons rfl (fun K hK => ?_) AllReadyH.nil
    go_simp
    refine (hrs.out _ _ _ (by rw [← sl_bs l]; exact Rd_conv (hN'.out _)) hHeld2.2.2.1).mono ?_
    rintro e w5 ⟨rfl, hb5⟩
    refine hK.out _ _ (hHeld2.later hb5) (fun hHeld3 => ?_)
    clear hK K hb5
    try simp only [Act.put, List.getElem_toArray, List.getElem_cons_zero, List.getElem_cons_succ, List.setIfInBounds_toArray, List.set_cons_zero, List.set_cons_succ]
    refine wpAnyH_take (i := 6) (v := .bool true) rfl (by kernel_rfl) (by kernel_rfl) (by kernel_rfl) (fun _ _ _ h => h) (Or.inl ⟨by rfl, fun W _ => by go_simp⟩) hHeld3 ?_
    simp only [Act.put, List.getElem_toArray, List.getElem_cons_zero, List.getElem_cons_succ, List.setIfInBounds_toArray, List.set_cons_zero, List.set_cons_succ]
    refine wpAnyH_take (i := 7) (v := .bool true) rfl (by kernel_rfl) (by kernel_rfl) (by kernel_rfl) (fun _ _ _ h => h) (Or.inl ⟨by rfl, fun W _ => by go_simp⟩) hHeld3 ?_
    simp only [Act.put, List.getElem_toArray, List.getElem_cons_zero, List.getElem_cons_succ, List.setIfInBounds_toArray, List.set_cons_zero, List.set_cons_succ]
    refine wpAnyH_take (i := 8) (v := .bool true) rfl (by kernel_rfl) (by kernel_rfl) (by kernel_rfl) (fun _ _ _ h => h) (Or.inl ⟨by rfl, fun W _ => by go_simp⟩) hHeld3 ?_
    simp only [Act.put, List.getElem_toArray, List.getElem_cons_zero, List.getElem_cons_succ, List.setIfInBounds_toArray, List.set_cons_zero, List.set_cons_succ]
    refine wpAnyH_take (i := 9) (v := .slice a n c) rfl (by kernel_rfl) (by kernel_rfl) (by kernel_rfl) (fun _ _ _ h => h) (Or.inl ⟨by rfl, fun W _ => by go_simp⟩) hHeld3 ?_
    simp only [Act.put, List.getElem_toArray, List.getElem_cons_zero, List.getElem_cons_succ, List.setIfInBounds_toArray, List.set_cons_zero, List.set_cons_succ]
    refine wpAnyH_take (i := 10) (v := .string (bs l)) rfl (by kernel_rfl) (by kernel_rfl) (by kernel_rfl) (fun _ _ _ h => h) (Or.inl ⟨by rfl, fun W h => by have := conv_str (c := c) h.2.1 hn.out; go_simp⟩) hHeld3 ?_
    simp only [Act.put, List.getElem_toArray, List.getElem_cons_zero, List.getElem_cons_succ, List.setIfInBounds_toArray, List.set_cons_zero, List.set_cons_succ]
    refine wpAnyH_take (i := 11) (v := .string (bs l)) rfl (by kernel_rfl) (by kernel_rfl) (by kernel_rfl) (fun _ _ _ h => h) (Or.inl ⟨by rfl, fun W _ => by go_simp⟩) hHeld3 ?_
    simp only [Act.put, List.getElem_toArray, List.getElem_cons_zero, List.getElem_cons_succ, List.setIfInBounds_toArray, List.set_cons_zero, List.set_cons_succ]
    refine wpAnyH_take (i := 12) (v := .bool true) rfl (by kernel_rfl) (by kernel_rfl) (by kernel_rfl) (fun _ _ _ h => h) (Or.inl ⟨by rfl, fun W _ => by go_simp⟩) hHeld3 ?_
    simp only [Act.put, List.getElem_toArray, List.getElem_cons_zero, List.getElem_cons_succ, List.setIfInBounds_toArray, List.set_cons_zero, List.set_cons_succ]
    refine wpAnyH_take (i := 13) (v := .bool true) rfl (by kernel_rfl) (by kernel_rfl) (by kernel_rfl) (fun _ _ _ h => h) (Or.inl ⟨by rfl, fun W _ => by go_simp⟩) hHeld3 ?_
    simp only [Act.put, List.getElem_toArray, List.getElem_cons_zero, List.getElem_cons_succ, List.setIfInBounds_toArray, List.set_cons_zero, List.set_cons_succ]
    refine wpAnyH_ready (rs := [14]) (by kernel_rfl) (by simp) ?_
    refine AllReadyH.cons rfl (fun K hK => ?_) AllReadyH.nil
    go_simp
    refine hK.out _ _ hHeld3 (fun hFin => ?_)
    clear hK K
    refine wpAnyH_done (by kernel_rfl) ?_ _
    go_wp2_with fail
    go_ret
    exact ⟨rfl, hFin.2.2.2⟩
end Go.Proofs.YtfgkaiaapofepaaDoor
