/- The walk of HashOfMatchesSpec. -/
import Derived.Test.YtfgkaiaapofepaaDoorG13
import Derived.Test.YtfgkaiaapofepaaDoorHV3
namespace Go.Proofs.YtfgkaiaapofepaaDoor
open Go.RowKit

theorem and255 (t : Int) : bits .and .i64 t 255 % 256 = t % 256 := by
  have h255 : (BitVec.ofInt 64 255).toNat = 2 ^ 8 - 1 := by decide
  have key : (BitVec.ofInt 64 t &&& BitVec.ofInt 64 255).toNat = (t % ((2 ^ 64 : Nat) : Int)).toNat % 2 ^ 8 := by
    rw [BitVec.toNat_and, BitVec.toNat_ofInt, h255, Nat.and_two_pow_sub_one_eq_mod]
  have e : bits .and .i64 t 255 = t % 256 := by
    show IntKind.i64.wrap ((BitVec.ofInt 64 t &&& BitVec.ofInt 64 255).toNat : Nat) = t % 256
    rw [key, IntKind.wrap_i64]
    omega
  rw [e]; omega
theorem inpK_255 (t : Int) (l : List ByteArray) (k : Nat) : inpK (bits .and .i64 t 255) l k = inpK t l k := by
  unfold inpK tagB
  rw [and255]

def SmO (w : World) (a : Option Addr) (l : List ByteArray) (d : List UInt8) (g : Nat) (W : World) : Prop :=
  W.heap[g]? = some (.cells (bvs d).toArray 44 (0, 0)) ∧ Rds W a l ∧ Tab W ∧ Tabc W ∧ Below w.heap.size w W
theorem SmO.later {w W W1 : World} {a : Option Addr} {l : List ByteArray} {d : List UInt8} {g : Nat} (h : SmO w a l d g W) (hb : Below W.heap.size W W1) : SmO w a l d g W1 :=
  ⟨row_later' h.1 hb, Rds_below hb h.2.1, h.2.2.1.later hb, h.2.2.2.1.later hb, below_tr h.2.2.2.2 hb⟩
theorem SmO.drew {w W : World} {a : Option Addr} {l : List ByteArray} {d : List UInt8} {g : Nat} (h : SmO w a l d g W) : SmO w a l d g W.drew := h.later (below_drew (Below.refl _ _))

set_option maxRecDepth 100000 in
set_option maxHeartbeats 1600000 in
theorem walk_of (t : Int) (a : Option Addr) (n c : Nat) (l : List ByteArray) (w : World) (hR0 : Rds w a l) (hn0 : n = l.length) (hTT : Tab w ∧ Tabc w) : Calls Tryd.prog 7 #[.int .i64 t, .slice a n c] w (TruePost w) := by
  have hT := Lib.hid hTT.1
  have hTc := Lib.hid hTT.2
  have hR := Lib.hid hR0
  have hn := Lib.hid hn0
  have hfe : Hid (∀ W, Rds W a l → Calls Tryd.prog 13 #[.slice a n c] W fun e w' => e = .returned (.bool (decide (fewP l))) ∧ Below W.heap.size W w') := Lib.hid fun W h => few_any a n c l W h hn0
  by_cases hf : fewP l
  · rw [decide_eq_true hf] at hfe
    have hle := inpK_few t l hf n (by omega)
    have h12 := hf.1
    obtain ⟨d, hd⟩ : ∃ d, (sha (inpK t l n)).take 16 = d := ⟨_, rfl⟩
    have hdl : d.length = 16 := by rw [← hd, List.length_take, sha_length]; rfl
    have hof : Hid (∀ W, Rds W a l → Tab W → Calls Tryd.prog 21 #[.int .i64 t, .slice a n c] W fun e w' => e = .returned (.agg (bvs d).toArray) ∧ Below W.heap.size W w') :=
      Lib.hid fun W h1 h2 => by rw [← hd]; exact of_any t a n c l W h1 hn0 (by omega) (by omega) h2
    have hof2 : Hid (∀ W, Rds W a l → Tab W → Calls Tryd.prog 21 #[.int .i64 (bits .and .i64 t 255), .slice a n c] W fun e w' => e = .returned (.agg (bvs d).toArray) ∧ Below W.heap.size W w') :=
      Lib.hid fun W h1 h2 => by rw [← hd, ← inpK_255]; exact of_any _ a n c l W h1 hn0 (by omega) (by rw [inpK_255]; omega) h2
    have hrof : Hid (∀ W, Rds W a l → Tabc W → Calls Tryd.prog 22 #[.int .i64 t, .slice a n c] W fun e w' => e = .returned (.agg (bvs d).toArray) ∧ Below W.heap.size W w') :=
      Lib.hid fun W h1 h2 => by rw [← hd]; exact rof_any t a n c l W h1 hn0 hf h2
    have heq := fun W => eql_16 d d hdl hdl W
    rw [eqB_self] at heq
    have hsz : Hid ((Tryd.prog.info? 44).map (·.size) = some (bvs d).toArray.size) := Lib.hid (by rw [List.size_toArray, bvs_length, hdl]; kernel_rfl)
    have hz : Hid (zero16.size = (bvs d).toArray.size) := Lib.hid (z16_size _ hdl)
    have hon := Lib.hid (all_oneCell_toArray (bvs_one d))
    clear hR0 hn0 hTT hf hle h12 hd hdl
    go_enter Tryd.func7, Tryd.ntmps7
    go_wp2_with fail
    refine (sanity_ok _ hT.out).mono ?_
    rintro e w1 ⟨rfl, hb1⟩
    have hB1 := Lib.hid hb1
    clear hb1
    go_wp2_with fail
    refine (hfe.out _ (Rds_below hB1.out hR.out)).mono ?_
    rintro e w2 ⟨rfl, hb2⟩
    have hB2 := Lib.hid (below_tr hB1.out hb2)
    clear hb2 hfe
    go_wp2_with fail
    refine (hof.out _ (Rds_below hB2.out hR.out) (hT.out.later hB2.out)).mono ?_
    rintro e w3 ⟨rfl, hb3⟩
    have hB3 := Lib.hid (below_tr hB2.out hb3)
    clear hb3 hof
    go_upto_region 1 with (first | (refine wpList_alloc_as rfl 44 rfl zero16 zero_16 ?_) | (refine wpList_store_last rfl 44 (.tmp 6) (.tmp 14) rfl (bvs d).toArray rfl rfl 44 zero16 hsz.out hz.out hon.out ?_))
    have hJ0 : SmO w a l d w3.heap.size (w3.alloc (.cells (bvs d).toArray 44)) := ⟨heap_alloc_new _ _, Rds_below alloc_row (Rds_below hB3.out hR.out), (hT.out.later hB3.out).later alloc_row, (hTc.out.later hB3.out).later alloc_row, below_al hB3.out _⟩
    generalize w3.alloc (.cells (bvs d).toArray 44) = W3 at hJ0 ⊢
    generalize w3.heap.size = g at hJ0 ⊢
    have hJq := Lib.hid hJ0.drew
    clear hJ0 hB3 hB2 hB1
    try simp only [Act.put, List.setIfInBounds_toArray, List.set_cons_zero, List.set_cons_succ]
    clear hT hR hTc hz hon
    refine wp_region_held_drew (S := SmO w a l d g) (by kernel_rfl) hJq.out (fun hHeld => ?_)
    refine wpAnyH_take (i := 0) (v := .bool true) rfl (by kernel_rfl) (by kernel_rfl) (by kernel_rfl) (fun _ _ _ h => h) (Or.inl ⟨by rfl, fun W _ => by go_simp⟩) hHeld ?_
    simp only [Act.put, List.getElem_toArray, List.getElem_cons_zero, List.setIfInBounds_toArray, List.set_cons_zero, List.set_cons_succ]
    refine wpAnyH_take (i := 1) (v := .bool true) rfl (by kernel_rfl) (by kernel_rfl) (by kernel_rfl) (fun _ _ _ h => h) (Or.inl ⟨by rfl, fun W _ => by go_simp⟩) hHeld ?_
    simp only [Act.put, List.getElem_toArray, List.getElem_cons_zero, List.getElem_cons_succ, List.setIfInBounds_toArray, List.set_cons_zero, List.set_cons_succ]
    refine wpAnyH_take (i := 2) rfl (by kernel_rfl) (by kernel_rfl) (by kernel_rfl) (fun _ _ _ h => h) (yieldsIf_load_mid (by rfl) 44 _ rfl g 0 rfl (bvs d) _ (fun W h => fun j u hu => cell_row h.1 (by rw [Nat.zero_add]; simpa using hu)) Tryd.underlying44 rfl (by have := hsz.out; simpa using this)) hHeld ?_
    simp only [Act.put, List.getElem_toArray, List.getElem_cons_zero, List.getElem_cons_succ, List.setIfInBounds_toArray, List.set_cons_zero, List.set_cons_succ]
    refine wpAnyH_take (i := 3) (v := .int .i64 t) rfl (by kernel_rfl) (by kernel_rfl) (by kernel_rfl) (fun _ _ _ h => h) (Or.inl ⟨by rfl, fun W _ => by go_simp⟩) hHeld ?_
    simp only [Act.put, List.getElem_toArray, List.getElem_cons_zero, List.getElem_cons_succ, List.setIfInBounds_toArray, List.set_cons_zero, List.set_cons_succ]
    refine wpAnyH_take (i := 4) (v := .slice a n c) rfl (by kernel_rfl) (by kernel_rfl) (by kernel_rfl) (fun _ _ _ h => h) (Or.inl ⟨by rfl, fun W _ => by go_simp⟩) hHeld ?_
    simp only [Act.put, List.getElem_toArray, List.getElem_cons_zero, List.getElem_cons_succ, List.setIfInBounds_toArray, List.set_cons_zero, List.set_cons_succ]
    refine wpAnyH_ready (rs := [5]) (by kernel_rfl) (by simp) ?_
    refine AllReadyH.cons rfl (fun K hK => ?_) AllReadyH.nil
    go_simp
    refine (hrof.out _ hHeld.2.1 hHeld.2.2.2.1).mono ?_
    rintro e w5 ⟨rfl, hb5⟩
    refine hK.out _ _ (hHeld.later hb5) (fun hHeldx => ?_)
    clear hK K
    try simp only [Act.put, List.getElem_toArray, List.getElem_cons_zero, List.getElem_cons_succ, List.setIfInBounds_toArray, List.set_cons_zero, List.set_cons_succ]
    refine wpAnyH_take (i := 6) (v := .bool true) rfl (by kernel_rfl) (by kernel_rfl) (by kernel_rfl) (fun _ _ _ h => h) (Or.inl ⟨by rfl, fun W _ => by go_simp⟩) hHeldx ?_
    simp only [Act.put, List.getElem_toArray, List.getElem_cons_zero, List.getElem_cons_succ, List.setIfInBounds_toArray, List.set_cons_zero, List.set_cons_succ]
    refine wpAnyH_take (i := 7) (v := .bool true) rfl (by kernel_rfl) (by kernel_rfl) (by kernel_rfl) (fun _ _ _ h => h) (Or.inl ⟨by rfl, fun W _ => by go_simp⟩) hHeldx ?_
    simp only [Act.put, List.getElem_toArray, List.getElem_cons_zero, List.getElem_cons_succ, List.setIfInBounds_toArray, List.set_cons_zero, List.set_cons_succ]
    refine wpAnyH_take (i := 8) (v := .bool true) rfl (by kernel_rfl) (by kernel_rfl) (by kernel_rfl) (fun _ _ _ h => h) (Or.inl ⟨by rfl, fun W _ => by go_simp⟩) hHeldx ?_
    simp only [Act.put, List.getElem_toArray, List.getElem_cons_zero, List.getElem_cons_succ, List.setIfInBounds_toArray, List.set_cons_zero, List.set_cons_succ]
    refine wpAnyH_take (i := 9) rfl (by kernel_rfl) (by kernel_rfl) (by kernel_rfl) (fun _ _ _ h => h) (yieldsIf_load_mid (by rfl) 44 _ rfl g 0 rfl (bvs d) _ (fun W h => fun j u hu => cell_row h.1 (by rw [Nat.zero_add]; simpa using hu)) Tryd.underlying44 rfl (by have := hsz.out; simpa using this)) hHeldx ?_
    simp only [Act.put, List.getElem_toArray, List.getElem_cons_zero, List.getElem_cons_succ, List.setIfInBounds_toArray, List.set_cons_zero, List.set_cons_succ]
    refine wpAnyH_take (i := 10) (v := .int .i64 t) rfl (by kernel_rfl) (by kernel_rfl) (by kernel_rfl) (fun _ _ _ h => h) (Or.inl ⟨by rfl, fun W _ => by go_simp⟩) hHeldx ?_
    simp only [Act.put, List.getElem_toArray, List.getElem_cons_zero, List.getElem_cons_succ, List.setIfInBounds_toArray, List.set_cons_zero, List.set_cons_succ]
    refine wpAnyH_take (i := 11) (v := .int .i64 (bits .and .i64 t 255)) rfl (by kernel_rfl) (by kernel_rfl) (by kernel_rfl) (fun _ _ _ h => h) (Or.inl ⟨by rfl, fun W _ => by go_simp⟩) hHeldx ?_
    simp only [Act.put, List.getElem_toArray, List.getElem_cons_zero, List.getElem_cons_succ, List.setIfInBounds_toArray, List.set_cons_zero, List.set_cons_succ]
    refine wpAnyH_take (i := 12) (v := .slice a n c) rfl (by kernel_rfl) (by kernel_rfl) (by kernel_rfl) (fun _ _ _ h => h) (Or.inl ⟨by rfl, fun W _ => by go_simp⟩) hHeldx ?_
    simp only [Act.put, List.getElem_toArray, List.getElem_cons_zero, List.getElem_cons_succ, List.setIfInBounds_toArray, List.set_cons_zero, List.set_cons_succ]
    refine wpAnyH_ready (rs := [13]) (by kernel_rfl) (by simp) ?_
    refine AllReadyH.cons rfl (fun K hK => ?_) AllReadyH.nil
    go_simp
    refine (hof2.out _ hHeldx.2.1 hHeldx.2.2.1).mono ?_
    rintro e w6 ⟨rfl, hb6⟩
    refine hK.out _ _ (hHeldx.later hb6) (fun hHeldxx => ?_)
    clear hK K
    try simp only [Act.put, List.getElem_toArray, List.getElem_cons_zero, List.getElem_cons_succ, List.setIfInBounds_toArray, List.set_cons_zero, List.set_cons_succ]
    refine wpAnyH_take (i := 14) (v := .bool true) rfl (by kernel_rfl) (by kernel_rfl) (by kernel_rfl) (fun _ _ _ h => h) (Or.inl ⟨by rfl, fun W _ => by go_simp⟩) hHeldxx ?_
    simp only [Act.put, List.getElem_toArray, List.getElem_cons_zero, List.getElem_cons_succ, List.setIfInBounds_toArray, List.set_cons_zero, List.set_cons_succ]
    refine wpAnyH_take (i := 15) (v := .bool true) rfl (by kernel_rfl) (by kernel_rfl) (by kernel_rfl) (fun _ _ _ h => h) (Or.inl ⟨by rfl, fun W _ => by go_simp⟩) hHeldxx ?_
    simp only [Act.put, List.getElem_toArray, List.getElem_cons_zero, List.getElem_cons_succ, List.setIfInBounds_toArray, List.set_cons_zero, List.set_cons_succ]
    refine wpAnyH_ready (rs := [16]) (by kernel_rfl) (by simp) ?_
    refine AllReadyH.cons rfl (fun K hK => ?_) AllReadyH.nil
    go_simp
    refine hK.out _ _ (hHeldxx) (fun hHeldxxx => ?_)
    clear hK K
    try simp only [Act.put, List.getElem_toArray, List.getElem_cons_zero, List.getElem_cons_succ, List.setIfInBounds_toArray, List.set_cons_zero, List.set_cons_succ]
    refine wpAnyH_done (by kernel_rfl) ?_ _
    go_wp2_with fail
    go_ret
    exact ⟨rfl, hHeldxxx.2.2.2.2⟩
  · rw [decide_eq_false hf] at hfe
    clear hR0 hn0 hTT hf
    go_enter Tryd.func7, Tryd.ntmps7
    go_wp2_with fail
    refine (sanity_ok _ hT.out).mono ?_
    rintro e w1 ⟨rfl, hb1⟩
    have hB1 := Lib.hid hb1
    clear hb1
    go_wp2_with fail
    refine (hfe.out _ (Rds_below hB1.out hR.out)).mono ?_
    rintro e w2 ⟨rfl, hb2⟩
    have hB2 := Lib.hid (below_tr hB1.out hb2)
    clear hb2 hfe
    go_wp2_with fail
    go_ret
    exact ⟨rfl, hB2.out⟩
end Go.Proofs.YtfgkaiaapofepaaDoor
