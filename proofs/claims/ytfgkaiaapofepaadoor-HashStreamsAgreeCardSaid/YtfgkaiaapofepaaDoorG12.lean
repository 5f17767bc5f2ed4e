/- The reference: Short, Of. -/
import Derived.Test.YtfgkaiaapofepaaDoorG11
import Derived.Test.YtfgkaiaapofepaaDoorG7
namespace Go.Proofs.YtfgkaiaapofepaaDoor
open Go.RowKit

/-- a digest, while bytes are copied -/
def cpz (d : List UInt8) (j : Nat) : List UInt8 := d.take j ++ List.replicate (16 - j) 0
theorem cpz_length (d : List UInt8) (h : d.length = 32) (j : Nat) (hj : j ≤ 16) : (cpz d j).length = 16 := by
  unfold cpz
  rw [List.length_append, List.length_take, List.length_replicate]; omega
theorem cpz_16 (d : List UInt8) : cpz d 16 = d.take 16 := by simp [cpz]
theorem cpz_0 (d : List UInt8) : (bvs (cpz d 0)).toArray = zero16 := rfl
theorem cpz_step (d : List UInt8) (h : d.length = 32) (j : Nat) (hj : j < 16) : (bvs (cpz d j)).toArray.setIfInBounds j (.int .u8 (byt d j)) = (bvs (cpz d (j + 1))).toArray := by
  apply Array.toList_inj.1
  have e : d.take (j + 1) = d.take j ++ [d[j]] := List.take_succ_eq_append_getElem (by omega)
  have hl : (bvs (d.take j)).length = j := by rw [bvs_length, List.length_take]; omega
  have hb : byt d j = (d[j].toNat : Int) := by simp [byt, show j < d.length by omega]
  have hr : List.replicate (16 - j) (0 : UInt8) = 0 :: List.replicate (16 - (j + 1)) 0 := by rw [show 16 - j = (16 - (j + 1)) + 1 by omega, List.replicate_succ]
  unfold cpz
  rw [e, hr, hb]
  simp only [bvs_append, List.setIfInBounds_toArray]
  rw [List.set_append_right _ _ (by omega), hl, Nat.sub_self, List.append_assoc]
  rfl
def ShI (w : World) (d : List UInt8) (g1 g2 j : Nat) (W : World) : Prop :=
  W.heap[g1]? = some (.cells (bvs d).toArray 24 (0, 0)) ∧ W.heap[g2]? = some (.cells (bvs (cpz d j)).toArray 44 (0, 0)) ∧ W.heap[w.heap.size]? = some (.cells zero16 44 (0, 0)) ∧ w.heap.size < g1 ∧ g1 < g2 ∧ Below w.heap.size w W
theorem ShI.step {w W : World} {d : List UInt8} {g1 g2 j : Nat} (h : ShI w d g1 g2 j W) (hd : d.length = 32) (hj : j < 16) : ShI w d g1 g2 (j + 1) (W.setCell ⟨g2, j, none⟩ (.int .u8 (byt d j))) := by
  obtain ⟨h1, h2, h3, h4, h5, h6⟩ := h
  refine ⟨set_other (by omega) h1, ?_, set_other (by omega) h3, h4, h5, h6.setCell (by simp; omega) _⟩
  rw [heap_setCell_self _ _ _ _ _ _ h2, cpz_step d hd j hj]
theorem ShI.start {w w1 : World} {d : List UInt8} (h1 : w1.heap[w.heap.size]? = some (.cells zero16 44 (0, 0))) (hb : Below w.heap.size w w1) : ShI w d w1.heap.size (w1.heap.size + 1) 0 ((w1.alloc (.cells (bvs d).toArray 24)).alloc (.cells zero16 44)) := by
  have hl : w.heap.size < w1.heap.size := lt_of_block h1
  refine ⟨heap_old (by simp) (heap_alloc_new _ _), ?_, heap_old (by simp; omega) (heap_old hl h1), hl, by omega, below_al (below_al hb _) _⟩
  rw [cpz_0]; exact heap_alloc2_new _ _ _

set_option maxRecDepth 100000 in
set_option maxHeartbeats 1600000 in
theorem short_any (a : Option Addr) (n c : Nat) (l : List UInt8) (w : World) (hR0 : Rd w a l) (hn0 : n = l.length) (hlen0 : l.length ≤ 1099511627776) (hT0 : Tabc w) :
    Calls Tryd.prog 35 #[.slice a n c] w fun e w' => e = .returned (.agg (bvs ((sha l).take 16)).toArray) ∧ Below w.heap.size w w' := by
  obtain ⟨d, hd0, hD⟩ := sha_dig l
  rw [hd0]
  have hb0 : Below w.heap.size w (w.alloc (.cells zero16 44)) := alloc_row
  have hsum : Hid (Calls Tryd.prog 12 #[.slice a n c] (w.alloc (.cells zero16 44)) fun e w' => e = .returned (.agg (bvs d).toArray) ∧ Below (w.alloc (.cells zero16 44)).heap.size (w.alloc (.cells zero16 44)) w') :=
    Lib.hid (by rw [← hd0]; exact rsum_any a n c l _ (Rd_later hR0 hb0) hn0 hlen0 (hT0.later hb0))
  have hz0 := Lib.hid (heap_alloc_new w (.cells zero16 44))
  have hb0' := Lib.hid hb0
  have hdl := Lib.hid hD.len
  have hsz := Lib.hid hD.row
  have hz := Lib.hid hD.z
  have hon := Lib.hid hD.one
  have hbu : Hid (Tryd.prog.built 44 [] = some zero16) := Lib.hid (by kernel_rfl)
  have hzo : Hid (zero16.all (·.oneCell') = true) := Lib.hid (by kernel_rfl)
  have hzs : Hid ((Tryd.prog.info? 44).map (·.size) = some zero16.size) := Lib.hid (by kernel_rfl)
  have hzt : Hid ((Tryd.prog.info? 44).map (·.size) = some (bvs (cpz d 16)).toArray.size) := Lib.hid (by rw [List.size_toArray, bvs_length, cpz_length d hD.len 16 (by omega)]; kernel_rfl)
  have hze : Hid (zero16.size = (bvs (cpz d 16)).toArray.size) := Lib.hid (z16_size _ (cpz_length d hD.len 16 (by omega)))
  clear hR0 hT0 hn0 hlen0 hb0 hD hd0
  go_enter Tryd.func35, Tryd.ntmps35
  go_wp2_with (refine wpList_alloc_as rfl 44 rfl zero16 zero_16 ?_)
  refine (hsum.out).mono ?_
  rintro e w1 ⟨rfl, hb1⟩
  have hI0 : ShI w d w1.heap.size (w1.heap.size + 1) 0 ((w1.alloc (.cells (bvs d).toArray 24)).alloc (.cells zero16 44)) := ShI.start ((hb1.block _ (lt_of_block hz0.out)).trans hz0.out) (below_tr hb0'.out hb1)
  have hI := Lib.hid hI0
  clear hI0 hb1 hsum hz0 hb0'
  go_wp2_with (first | (refine wpList_alloc_as rfl 24 rfl z32 zero_32b ?_) | (refine wpList_store_last rfl 24 (.tmp 3) (.tmp 7) rfl (bvs d).toArray rfl rfl 24 z32 hsz.out hz.out hon.out ?_) | (refine wpList_build_as rfl 44 _ rfl zero16 (by exact hbu.out) ?_) | (refine wpList_alloc_as rfl 44 rfl zero16 zero_16 ?_) | (refine wpList_store_last rfl 44 (.tmp 4) (.tmp 8) rfl zero16 rfl rfl 44 zero16 hzs.out rfl hzo.out ?_))
  generalize (w1.alloc (.cells (bvs d).toArray 24)).alloc (.cells zero16 44) = W2 at hI ⊢
  obtain ⟨g1, hg1⟩ : ∃ g1, w1.heap.size = g1 := ⟨_, rfl⟩
  rw [hg1] at hI ⊢
  clear hg1
  go_loopw [5] (fun i wr => ∃ j : Nat, j ≤ 16 ∧ i = .int .i64 (j : Int) ∧ ShI w d g1 (g1 + 1) j wr) (fun i _ => 16 - (intOf i).toNat)
  case atStart => exact ⟨0, by omega, rfl, hI.out⟩
  case round =>
    obtain ⟨j, hj, rfl, hO⟩ := hrel
    clear hI
    by_cases hlt : j < 16
    · have cx : wr.cell? ⟨g1, j, none⟩ = some (.int .u8 (byt d j)) := cell_row hO.1 (bvs_get (by rw [hdl.out]; omega))
      obtain ⟨cv, hcv⟩ : ∃ cv, (bvs (cpz d j)).toArray[j]? = some cv := ⟨_, Array.getElem?_eq_getElem (by rw [List.size_toArray, bvs_length, cpz_length d hdl.out j (by omega)]; exact hlt)⟩
      have cd := cell_row hO.2.1 hcv
      have cf := free_row (i := j) hO.2.1
      have hst := Lib.hid (hO.step hdl.out hlt)
      have hj16 : (j : Int) < 16 := by omega
      have hj0 : 0 ≤ (j : Int) := by omega
      clear hO hcv
      go_wp2_with fail
      exact ⟨⟨j + 1, by omega, by simp, hst.out⟩, by simp [intOf]; omega⟩
    · have hj' : j = 16 := by omega
      subst hj'
      rw [show ((16 : Nat) : Int) = 16 from rfl]
      have g1' := Lib.hid hO.2.1
      have g2' := Lib.hid hO.2.2.1
      have g3' := Lib.hid hO.2.2.2.2.2
      clear hO hlt
      go_wp2_with (first | (refine wpList_load_row rfl 44 _ rfl (g1 + 1) rfl 44 (bvs (cpz d 16)).toArray (0, 0) _ g1'.out Tryd.underlying44 rfl hzt.out ?_) | (refine wpList_store_row rfl 44 _ _ rfl w.heap.size (bvs (cpz d 16)).toArray rfl rfl 44 zero16 g2'.out hzt.out hze.out (all_oneCell_toArray (bvs_one _)) ?_))
      exact bodyPost_ret (v := .agg (bvs (cpz d 16)).toArray) (results_cell_row rfl _ _ w.heap.size 44 _ (0, 0) _ rfl (setRow_heap _ _ _ _ _ _ g2'.out) Tryd.underlying44 rfl hzt.out) rfl ⟨by rw [cpz_16], below_setRow g3'.out (Nat.le_refl _) _⟩
end Go.Proofs.YtfgkaiaapofepaaDoor
