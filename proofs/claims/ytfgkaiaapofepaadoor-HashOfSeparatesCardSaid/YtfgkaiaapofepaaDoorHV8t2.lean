/- The walk of HashOfSeparates, with equal tags. -/
import Derived.Test.YtfgkaiaapofepaaDoorHV8
namespace Go.Proofs.YtfgkaiaapofepaaDoor
open Go.RowKit

set_option maxRecDepth 100000 in
set_option maxHeartbeats 3200000 in
theorem walk_sepT2 (t0 t1 : Int) (ht0 : 0 ≤ t0) (ht0' : t0 < 256) (ht1 : 0 ≤ t1) (ht1' : t1 < 256) (a1 a2 : Option Addr) (n1 c1 n2 c2 : Nat) (l1 l2 : List ByteArray) (w : World) (hR1 : Rds w a1 l1) (hR2 : Rds w a2 l2) (hn1 : n1 = l1.length) (hn2 : n2 = l2.length) (hT0 : Tab w) (hF1 : fewP l1) (hF2 : fewP l2) (hq1 : (t0 == t1) = true) (hP0 : ¬ ∃ k, k < n1 ∧ DiffAt l1 l2 n1 n2 k) :
    Calls Tryd.prog 8 #[.agg #[.int .u8 t0, .int .u8 t1], .slice a1 n1 c1, .slice a2 n2 c2] w (TruePost w) := by
  have hT := Lib.hid hT0
  have R1 := Lib.hid hR1
  have R2 := Lib.hid hR2
  have N1 := Lib.hid hn1
  have N2 := Lib.hid hn2
  have hf1 : Hid (∀ W, Rds W a1 l1 → Calls Tryd.prog 13 #[.slice a1 n1 c1] W fun e w' => e = .returned (.bool (decide (fewP l1))) ∧ Below W.heap.size W w') := Lib.hid fun W h => few_any a1 n1 c1 l1 W h hn1
  have hf2 : Hid (∀ W, Rds W a2 l2 → Calls Tryd.prog 13 #[.slice a2 n2 c2] W fun e w' => e = .returned (.bool (decide (fewP l2))) ∧ Below W.heap.size W w') := Lib.hid fun W h => few_any a2 n2 c2 l2 W h hn2
  have hS0 : Hid (SepL w t0 t1 (w.alloc (.cells #[.int .u8 t0, .int .u8 t1] 48))) := Lib.hid ⟨by rw [cell_new]; rfl, by rw [cell_new]; rfl, alloc_row, by simp⟩
  clear hR1 hR2 hn1 hn2 hT0
  rw [decide_eq_true hF1] at hf1
  rw [decide_eq_true hF2] at hf2
  have hqq := Lib.hid hq1
  have hP := Lib.hid hP0
  clear hq1 hP0
  go_enter Tryd.func8, Tryd.ntmps8
  go_wp2_with fail
  generalize w.alloc (.cells #[.int .u8 t0, .int .u8 t1] 48) = w0 at hS0 ⊢
  refine (sanity_ok _ (hT.out.later hS0.out.2.2.1)).mono ?_
  rintro e w1 ⟨rfl, hb1⟩
  have hS1 := Lib.hid (hS0.out.later hb1)
  clear hb1 hS0
  go_wp2_with fail
  refine (hf1.out _ (Rds_below hS1.out.2.2.1 R1.out)).mono ?_
  rintro e w2 ⟨rfl, hb2⟩
  have hS2 := Lib.hid (hS1.out.later hb2)
  clear hb2 hS1 hf1
  go_wp2_with fail
  refine (hf2.out _ (Rds_below hS2.out.2.2.1 R2.out)).mono ?_
  rintro e w3 ⟨rfl, hb3⟩
  have hS3 := hS2.out.later hb3
  have cA := hS3.1
  have cB := hS3.2.1
  clear hb3 hS2 hf2
  have hq1 := hqq.out
  obtain ⟨q2, hq2⟩ : ∃ q, ((n1 : Int) == (n2 : Int)) = q := ⟨_, rfl⟩
  have hq1' : Hid (true = true ↔ t0 = t1) := Lib.hid ⟨fun _ => by simpa using hq1, fun _ => rfl⟩
  have hq2' : Hid (q2 = true ↔ n1 = n2) := Lib.hid (by rw [← hq2, beq_iff_eq]; omega)
  have h12a := Lib.hid hF1
  have h12b := Lib.hid hF2
  have hm1 : n1 ≤ 12 := by rw [N1.out]; exact hF1.1
  have hm2 : n2 ≤ 12 := by rw [N2.out]; exact hF2.1
  clear hF1 hF2
  go_wp2_with fail
  have hS3' := Lib.hid hS3
  clear hS3 cA cB
  go_loopw [8, 9] (fun sv iv wr => ∃ (k : Nat) (sm : Bool), k ≤ n1 ∧ iv = .int .i64 (k : Int) ∧ sv = .bool sm ∧ Hid (sm = true → t0 = t1 ∧ n1 = n2 ∧ ∀ j, j < k → sat l1 j = sat l2 j) ∧ Hid (sm = false → ¬ (t0 = t1 ∧ l1 = l2)) ∧ Hid (sm = false → DiffAt l1 l2 n1 n2 k) ∧ SepL w t0 t1 wr) (fun _ iv _ => n1 - (intOf iv).toNat)
  case atStart =>
    first
      | exact ⟨0, q2, Nat.zero_le _, rfl, rfl, Lib.hid (fun h => ⟨hq1'.out.1 (by first | rfl | trivial), hq2'.out.1 h, fun j hj => by omega⟩), Lib.hid (fun h h2 => by have h3 := hq2'.out.2 (by rw [N1.out, N2.out, h2.2]); rw [h] at h3; cases h3), Lib.hid (fun h => .inl ⟨rfl, fun h2 => by have h3 := hq2'.out.2 h2; rw [h] at h3; cases h3⟩), hS3'.out⟩
  case round =>
    obtain ⟨k, sm, hk, rfl, rfl, hT1, hT2, hDf, hS4⟩ := hrel
    clear hS3' hq1 hq2 hq1' hq2'
    by_cases hgo : k < n1 ∧ sm = true
    · obtain ⟨hlt, rfl⟩ := hgo
      obtain ⟨b1, o1, h1, hc1⟩ := Rds_at R1.out k (by rw [← N1.out]; exact hlt)
      have hkn2 : k < n2 := by have := (hT1.out rfl).2.1; omega
      obtain ⟨b2, o2, h2, hc2⟩ := Rds_at R2.out k (by rw [← N2.out]; exact hkn2)
      have C1 := Below.cell_of' hS4.2.2.1 hc1
      have C2 := Below.cell_of' hS4.2.2.1 hc2
      have hS4' := Lib.hid hS4
      obtain ⟨X, hX⟩ : ∃ X, sat l1 k = X := ⟨_, rfl⟩
      obtain ⟨Y, hY⟩ : ∃ Y, sat l2 k = Y := ⟨_, rfl⟩
      rw [hX] at C1
      rw [hY] at C2
      have hX' := Lib.hid hX
      have hY' := Lib.hid hY
      have k0 : 0 ≤ (k : Int) := by omega
      have k1 : (k : Int) < (n1 : Int) := by omega
      have k2 : (k : Int) < (n2 : Int) := by omega
      have k3 : ((k : Int)).toNat = k := by omega
      have hT1' := Lib.hid (hT1.out rfl)
      subst h1 h2
      clear hc1 hc2 hX hY hS4 hT1 hT2 hDf hP
      obtain ⟨r, hr⟩ : ∃ r, (X.toList == Y.toList) = r := ⟨_, rfl⟩
      have hr1 : Hid (r = true → X = Y) := Lib.hid (fun h => by
        rw [← hr, eqB_cmp] at h
        have h5 : sl X = sl Y := by simpa [eqB] using h
        rw [← bs_sl X, ← bs_sl Y, h5])
      have hr2 : Hid (r = false → X ≠ Y) := Lib.hid (fun h he => by
        rw [← hr, eqB_cmp, he, eqB_self] at h
        cases h)
      go_wp2_with fail
      go_quiet (fail)
      go_wp2_with fail
      refine ⟨⟨k + 1, r, by omega, by simp, rfl, Lib.hid (fun h => ⟨hT1'.out.1, hT1'.out.2.1, fun j hj => ?_⟩), Lib.hid (fun h h2 => hr2.out h (by rw [← hX'.out, ← hY'.out, h2.2])), Lib.hid (fun h => .inr ⟨by omega, hT1'.out.2.1, by rw [Nat.add_sub_cancel, hX'.out, hY'.out]; exact hr2.out h, fun j hj => hT1'.out.2.2 j (by omega)⟩), hS4'.out.drewN nq⟩, by simp [intOf]; omega⟩
      rcases Nat.lt_or_ge j k with h3 | h3
      · exact hT1'.out.2.2 j h3
      · rw [show j = k by omega, hX'.out, hY'.out]; exact hr1.out h
    · have hin : Hid (sm = true → inpK t0 l1 n1 = inpK t1 l2 n2) := Lib.hid (fun h => by
        have h2 := hT1.out h
        have h3 : k = n1 := by
          rcases Nat.lt_or_ge k n1 with h4 | h4
          · exact absurd ⟨h4, h⟩ hgo
          · omega
        have h4 : l1 = l2 := sat_ext (by rw [← N1.out, ← N2.out, h2.2.1]) (fun i hi => h2.2.2 i (by rw [h3, N1.out]; exact hi))
        rw [h2.1, h4, h2.2.1])
      have hout : Hid (sm = false → inpK t0 l1 n1 ≠ inpK t1 l2 n2) := Lib.hid (fun h he => hT2.out h (inp_inj ht0 ht0' ht1 ht1' h12a.out h12b.out (by rw [← N1.out, ← N2.out]; exact he)))
      have hx : Hid (∀ W, Rds W a1 l1 → Calls Tryd.prog 23 #[.int .i64 t0, .slice a1 n1 c1] W (EncPost W (inpK t0 l1 n1))) := Lib.hid fun W h => input_any t0 a1 n1 c1 l1 W h N1.out hm1 (by have := inpK_few t0 l1 h12a.out n1 (by rw [N1.out]; exact Nat.le_refl _); omega)
      have hy : Hid (∀ W, Rds W a2 l2 → Calls Tryd.prog 23 #[.int .i64 t1, .slice a2 n2 c2] W (EncPost W (inpK t1 l2 n2))) := Lib.hid fun W h => input_any t1 a2 n2 c2 l2 W h N2.out hm2 (by have := inpK_few t1 l2 h12b.out n2 (by rw [N2.out]; exact Nat.le_refl _); omega)
      have hlx : Hid ((inpK t0 l1 n1).length ≤ 5000) := Lib.hid (by have := inpK_few t0 l1 h12a.out n1 (by rw [N1.out]; exact Nat.le_refl _); omega)
      have hly : Hid ((inpK t1 l2 n2).length ≤ 5000) := Lib.hid (by have := inpK_few t1 l2 h12b.out n2 (by rw [N2.out]; exact Nat.le_refl _); omega)
      have hox : Hid (∀ W, Rds W a1 l1 → Tab W → Calls Tryd.prog 21 #[.int .i64 t0, .slice a1 n1 c1] W fun e w' => e = .returned (.agg (bvs ((sha (inpK t0 l1 n1)).take 16)).toArray) ∧ Below W.heap.size W w') := Lib.hid fun W h1 h2 => of_any t0 a1 n1 c1 l1 W h1 N1.out (by omega) (by have := hlx.out; omega) h2
      have hoy : Hid (∀ W, Rds W a2 l2 → Tab W → Calls Tryd.prog 21 #[.int .i64 t1, .slice a2 n2 c2] W fun e w' => e = .returned (.agg (bvs ((sha (inpK t1 l2 n2)).take 16)).toArray) ∧ Below W.heap.size W w') := Lib.hid fun W h1 h2 => of_any t1 a2 n2 c2 l2 W h1 N2.out (by omega) (by have := hly.out; omega) h2
      generalize inpK t0 l1 n1 = X at hin hout hx hlx hox
      generalize inpK t1 l2 n2 = Y at hin hout hy hly hoy
      have hS5 := Lib.hid hS4
      have k0 : 0 ≤ (k : Int) := by omega
      have hcase : (¬ (k : Int) < (n1 : Int) ∧ sm = false) ∨ (¬ (k : Int) < (n1 : Int) ∧ sm = true) := by
        by_cases h : k < n1
        · cases sm
          · exact absurd ⟨k, h, hDf.out rfl⟩ hP.out
          · exact absurd ⟨h, rfl⟩ hgo
        · cases sm
          · exact .inl ⟨by omega, rfl⟩
          · exact .inr ⟨by omega, rfl⟩
      clear hS4 hT1 hT2 hgo hm1 hm2 hDf hP
      rcases hcase with ⟨t1k, rfl⟩ | ⟨t1k, rfl⟩
      all_goals
        have cA := hS5.out.1
        have cB := hS5.out.2.1
        go_wp2_with fail
        refine (hx.out _ (Rds_below hS5.out.2.2.1 R1.out)).mono ?_
        rintro e w5 ⟨v5, rfl, ho5, hb5⟩
        obtain ⟨p1, d1, rfl, hRx, hnx, _, _, _⟩ := own_Rd ho5
        have hS6 := hS5.out.later hb5
        have cB6 := hS6.2.1
        have hRx' := Lib.hid hRx
        clear ho5 hb5 cA cB hRx
        generalize hnX : X.length = nX at hnx ⊢
        have hnX' := Lib.hid hnX
        clear hnx hnX
        go_wp2_with fail
        refine (hy.out _ (Rds_below hS6.2.2.1 R2.out)).mono ?_
        rintro e w6 ⟨v6, rfl, ho6, hb6⟩
        obtain ⟨p2, d2, rfl, hRy, hny, _, _, _⟩ := own_Rd ho6
        have hS7 := hS6.later hb6
        have hRx7 := Lib.hid (Rd_later hRx'.out hb6)
        have hRy7 := Lib.hid hRy
        clear ho6 hb6 cB6 hRy hRx' hS5 hS6
        generalize hnY : Y.length = nY at hny ⊢
        have hnY' := Lib.hid hnY
        clear hny hnY hx hy
      · have hne := hout.out (by first | trivial | rfl)
        obtain ⟨G1, hG1, hE1⟩ := sha_dig X
        obtain ⟨G2, hG2, hE2⟩ := sha_dig Y
        have hsx : Hid (∀ W p c, Rd W p X → Tab W → Calls Tryd.prog 11 #[.slice p nX c] W fun e w' => e = .returned (.agg (bvs G1).toArray) ∧ Below W.heap.size W w') := Lib.hid fun W p c h1 h2 => by rw [← hG1]; exact hsum_any p nX c X W h1 hnX'.out.symm (by have := hlx.out; omega) h2
        have hsy : Hid (∀ W p c, Rd W p Y → Tab W → Calls Tryd.prog 11 #[.slice p nY c] W fun e w' => e = .returned (.agg (bvs G2).toArray) ∧ Below W.heap.size W w') := Lib.hid fun W p c h1 h2 => by rw [← hG2]; exact hsum_any p nY c Y W h1 hnY'.out.symm (by have := hly.out; omega) h2
        rw [hG1] at hox
        rw [hG2] at hoy
        have ht16 := Lib.hid (take16 hE1.len hE2.len)
        have l1' : (G1.take 16).length = 16 := by rw [List.length_take, hE1.len]; rfl
        have l2' : (G2.take 16).length = 16 := by rw [List.length_take, hE2.len]; rfl
        obtain ⟨D1, hD1⟩ : ∃ D, G1.take 16 = D := ⟨_, rfl⟩
        obtain ⟨D2, hD2⟩ : ∃ D, G2.take 16 = D := ⟨_, rfl⟩
        rw [hD1] at hox ht16 l1'
        rw [hD2] at hoy ht16 l2'
        have sz1 : Hid ((Tryd.prog.info? 44).map (·.size) = some (bvs D1).toArray.size) := Lib.hid (by rw [List.size_toArray, bvs_length, l1']; kernel_rfl)
        have sz2 : Hid ((Tryd.prog.info? 44).map (·.size) = some (bvs D2).toArray.size) := Lib.hid (by rw [List.size_toArray, bvs_length, l2']; kernel_rfl)
        have hz1 : Hid (zero16.size = (bvs D1).toArray.size) := Lib.hid (z16_size _ l1')
        have hz2 : Hid (zero16.size = (bvs D2).toArray.size) := Lib.hid (z16_size _ l2')
        have on1 := Lib.hid (all_oneCell_toArray (bvs_one D1))
        have on2 := Lib.hid (all_oneCell_toArray (bvs_one D2))
        have sz3 := Lib.hid hE1.row
        have sz4 := Lib.hid hE2.row
        have hz3 := Lib.hid hE1.z
        have hz4 := Lib.hid hE2.z
        have on3 := Lib.hid hE1.one
        have on4 := Lib.hid hE2.one
        have hg1l := Lib.hid hE1.len
        have hg2l := Lib.hid hE2.len
        have hl16 := Lib.hid l1'
        have hl16' := Lib.hid l2'
        have cA7 := hS7.1
        clear hE1 hE2 hG1 hG2 hD1 hD2 l1' l2' hin hout
        go_wp2_with fail
        refine (hox.out _ (Rds_below hS7.2.2.1 R1.out) (hT.out.later hS7.2.2.1)).mono ?_
        rintro e w8 ⟨rfl, hS7b⟩
        have qaw8 := (hS7.later hS7b).1
        have qbw8 := (hS7.later hS7b).2.1
        have qcw8 := (hS7.later hS7b).2.2.2
        have hS8 := (hS7.later hS7b).later (alloc_row (o := .cells (bvs D1).toArray 44))
        have hg12 := Lib.hid (heap_alloc_new w8 (.cells (bvs D1).toArray 44))
        have bg12 := Lib.hid (below_tr hS7b (alloc_row (o := .cells (bvs D1).toArray 44)))
        go_wp2_with (first | (refine wpList_alloc_as rfl 44 rfl zero16 zero_16 ?_) | (refine wpList_store_last rfl 44 (.tmp 12) (.tmp 81) rfl (bvs D1).toArray rfl rfl 44 zero16 sz1.out hz1.out on1.out ?_))
        generalize w8.alloc (.cells (bvs D1).toArray 44) = W8 at hS8 hg12 bg12 ⊢
        generalize w8.heap.size = g12 at hg12 ⊢
        clear hS7b qaw8 qbw8 qcw8
        have cB8 := hS8.2.1
        clear cA7 hS7 hox
        refine (hoy.out _ (Rds_below hS8.2.2.1 R2.out) (hT.out.later hS8.2.2.1)).mono ?_
        rintro e w9 ⟨rfl, hS8b⟩
        have qaw9 := (hS8.later hS8b).1
        have qbw9 := (hS8.later hS8b).2.1
        have qcw9 := (hS8.later hS8b).2.2.2
        have hS9 := (hS8.later hS8b).later (alloc_row (o := .cells (bvs D2).toArray 44))
        have hg13 := Lib.hid (heap_alloc_new w9 (.cells (bvs D2).toArray 44))
        have bg13 := Lib.hid (below_tr hS8b (alloc_row (o := .cells (bvs D2).toArray 44)))
        go_wp2_with (first | (refine wpList_alloc_as rfl 44 rfl zero16 zero_16 ?_) | (refine wpList_store_last rfl 44 (.tmp 13) (.tmp 86) rfl (bvs D2).toArray rfl rfl 44 zero16 sz2.out hz2.out on2.out ?_))
        generalize w9.alloc (.cells (bvs D2).toArray 44) = W9 at hS9 hg13 bg13 ⊢
        generalize w9.heap.size = g13 at hg13 ⊢
        clear hS8b qaw9 qbw9 qcw9
        have hg12b := Lib.hid (row_later' hg12.out bg13.out)
        have rx9 := Lib.hid (Rd_later (Rd_later hRx7.out bg12.out) bg13.out)
        have ry9 := Lib.hid (Rd_later (Rd_later hRy7.out bg12.out) bg13.out)
        clear cB8 hS8 hoy hg12 bg12 bg13 hRx7 hRy7
        refine (hsx.out _ _ _ rx9.out (hT.out.later hS9.2.2.1)).mono ?_
        rintro e w10 ⟨rfl, hS9b⟩
        have qaw10 := (hS9.later hS9b).1
        have qbw10 := (hS9.later hS9b).2.1
        have qcw10 := (hS9.later hS9b).2.2.2
        have hS10 := (hS9.later hS9b).later (alloc_row (o := .cells (bvs G1).toArray 24))
        have hg14 := Lib.hid (heap_alloc_new w10 (.cells (bvs G1).toArray 24))
        have bg14 := Lib.hid (below_tr hS9b (alloc_row (o := .cells (bvs G1).toArray 24)))
        go_wp2_with (first | (refine wpList_alloc_as rfl 24 rfl z32 zero_32b ?_) | (refine wpList_store_last rfl 24 (.tmp 14) (.tmp 88) rfl (bvs G1).toArray rfl rfl 24 z32 sz3.out hz3.out on3.out ?_))
        generalize w10.alloc (.cells (bvs G1).toArray 24) = W10 at hS10 hg14 bg14 ⊢
        generalize w10.heap.size = g14 at hg14 ⊢
        clear hS9b qaw10 qbw10 qcw10
        have hg12c := Lib.hid (row_later' hg12b.out bg14.out)
        have hg13c := Lib.hid (row_later' hg13.out bg14.out)
        have rx10 := Lib.hid (Rd_later rx9.out bg14.out)
        have ry10 := Lib.hid (Rd_later ry9.out bg14.out)
        clear hS9 hsx hg12b hg13 bg14 rx9 ry9
        refine (hsy.out _ _ _ ry10.out (hT.out.later hS10.2.2.1)).mono ?_
        rintro e w11 ⟨rfl, hS10b⟩
        have qaw11 := (hS10.later hS10b).1
        have qbw11 := (hS10.later hS10b).2.1
        have qcw11 := (hS10.later hS10b).2.2.2
        have hS11 := (hS10.later hS10b).later (alloc_row (o := .cells (bvs G2).toArray 24))
        have hg15 := Lib.hid (heap_alloc_new w11 (.cells (bvs G2).toArray 24))
        have bg15 := Lib.hid (below_tr hS10b (alloc_row (o := .cells (bvs G2).toArray 24)))
        go_wp2_with (first | (refine wpList_alloc_as rfl 24 rfl z32 zero_32b ?_) | (refine wpList_store_last rfl 24 (.tmp 15) (.tmp 90) rfl (bvs G2).toArray rfl rfl 24 z32 sz4.out hz4.out on4.out ?_))
        generalize w11.alloc (.cells (bvs G2).toArray 24) = W11 at hS11 hg15 bg15 ⊢
        generalize w11.heap.size = g15 at hg15 ⊢
        clear hS10b qaw11 qbw11 qcw11
        have hC : Hid (ClI w p1 p2 X Y D1 D2 G1 G2 g12 g13 g14 g15 W11) := Lib.hid ⟨row_later' hg12c.out bg15.out, row_later' hg13c.out bg15.out, row_later' hg14.out bg15.out, hg15.out, Rd_later rx10.out bg15.out, Rd_later ry10.out bg15.out, hS11.2.2.1⟩
        clear hS10 hsy hg12c hg13c hg14 hg15 bg15 rx10 ry10 hS11
        go_loopw [16, 17] (fun cv iv wr => ∃ (k : Nat) (cl : Bool), k ≤ 16 ∧ iv = .int .i64 (k : Int) ∧ cv = .bool cl ∧ Hid (cl = true ↔ ∀ j, j < k → byt G1 j = byt G2 j) ∧ ClI w p1 p2 X Y D1 D2 G1 G2 g12 g13 g14 g15 wr) (fun _ iv _ => 16 - (intOf iv).toNat)
        case atStart => exact ⟨0, true, by omega, rfl, rfl, Lib.hid ⟨fun _ j hj => by omega, fun _ => rfl⟩, hC.out⟩
        case round =>
          obtain ⟨j, cl, hj, rfl, rfl, hcl, hCl⟩ := hrel
          clear hC
          by_cases hlt : j < 16
          · have j0 : 0 ≤ (j : Int) := by omega
            have j1 : (j : Int) < 16 := by omega
            have j2 : ((j : Int)).toNat = j := by omega
            have c14 : wr.cell? ⟨g14, j, none⟩ = some (.int .u8 (byt G1 j)) := cell_row hCl.e1 (bvs_get (by rw [hg1l.out]; omega))
            have c15 : wr.cell? ⟨g15, j, none⟩ = some (.int .u8 (byt G2 j)) := cell_row hCl.e2 (bvs_get (by rw [hg2l.out]; omega))
            have hCl' := Lib.hid hCl
            obtain ⟨x, hxx⟩ : ∃ x, byt G1 j = x := ⟨_, rfl⟩
            obtain ⟨y, hyy⟩ : ∃ y, byt G2 j = y := ⟨_, rfl⟩
            rw [hxx] at c14
            rw [hyy] at c15
            have hxx' := Lib.hid hxx
            have hyy' := Lib.hid hyy
            obtain ⟨r, hr⟩ : ∃ r, (x == y) = r := ⟨_, rfl⟩
            have hst : Hid ((cl && r) = true ↔ ∀ i, i < j + 1 → byt G1 i = byt G2 i) := Lib.hid (by
              rw [Bool.and_eq_true, hcl.out, ← hr, beq_iff_eq, ← hxx'.out, ← hyy'.out]
              constructor
              · rintro ⟨h1, h2⟩ i hi
                rcases Nat.lt_or_ge i j with h3 | h3
                · exact h1 i h3
                · rw [show i = j by omega]; exact h2
              · intro h
                exact ⟨fun i hi => h i (by omega), h j (by omega)⟩)
            clear hCl hxx hyy hlt hcl
            cases cl
            · have hst2 : Hid (false = true ↔ ∀ i, i < j + 1 → byt G1 i = byt G2 i) := Lib.hid (by simpa using hst.out)
              clear hst
              go_wp2_with fail
              go_quiet (fail)
              go_wp2_with fail
              exact ⟨⟨j + 1, false, by omega, by simp, rfl, hst2, hCl'.out.drewN nq⟩, by simp [intOf]; omega⟩
            · have hst2 : Hid (r = true ↔ ∀ i, i < j + 1 → byt G1 i = byt G2 i) := Lib.hid (by simpa using hst.out)
              clear hst
              go_wp2_with fail
              go_quiet (fail)
              go_wp2_with fail
              exact ⟨⟨j + 1, r, by omega, by simp, rfl, hst2, hCl'.out.drewN nq⟩, by simp [intOf]; omega⟩
          · have hj' : j = 16 := by omega
            subst hj'
            rw [show ((16 : Nat) : Int) = 16 from rfl]
            have hCl' := Lib.hid hCl
            have hcx := conv_str (c := d1) hCl.x hnX'.out.symm
            have hcy := conv_str (c := d2) hCl.y hnY'.out.symm
            have heq := eqin_16 D1 D2 hl16.out hl16'.out wr
            have hec : eqB D1 D2 = cl := by
              unfold eqB
              rw [Bool.eq_iff_iff, decide_eq_true_iff, ht16.out, hcl.out]
            rw [hec] at heq
            have hst1 : ((bs X).toList == (bs Y).toList) = false := by
              rw [eqB_cmp, sl_bs, sl_bs]
              unfold eqB
              exact decide_eq_false hne
            rw [bvs16 D1 hl16.out, bvs16 D2 hl16'.out] at heq
            have x0 := cell_row (i := 0) hCl.d1 (bvs_get (by rw [hl16.out]; omega))
            have y0 := cell_row (i := 0) hCl.d2 (bvs_get (by rw [hl16'.out]; omega))
            have x1 := cell_row (i := 1) hCl.d1 (bvs_get (by rw [hl16.out]; omega))
            have y1 := cell_row (i := 1) hCl.d2 (bvs_get (by rw [hl16'.out]; omega))
            have x2 := cell_row (i := 2) hCl.d1 (bvs_get (by rw [hl16.out]; omega))
            have y2 := cell_row (i := 2) hCl.d2 (bvs_get (by rw [hl16'.out]; omega))
            have x3 := cell_row (i := 3) hCl.d1 (bvs_get (by rw [hl16.out]; omega))
            have y3 := cell_row (i := 3) hCl.d2 (bvs_get (by rw [hl16'.out]; omega))
            have x4 := cell_row (i := 4) hCl.d1 (bvs_get (by rw [hl16.out]; omega))
            have y4 := cell_row (i := 4) hCl.d2 (bvs_get (by rw [hl16'.out]; omega))
            have x5 := cell_row (i := 5) hCl.d1 (bvs_get (by rw [hl16.out]; omega))
            have y5 := cell_row (i := 5) hCl.d2 (bvs_get (by rw [hl16'.out]; omega))
            have x6 := cell_row (i := 6) hCl.d1 (bvs_get (by rw [hl16.out]; omega))
            have y6 := cell_row (i := 6) hCl.d2 (bvs_get (by rw [hl16'.out]; omega))
            have x7 := cell_row (i := 7) hCl.d1 (bvs_get (by rw [hl16.out]; omega))
            have y7 := cell_row (i := 7) hCl.d2 (bvs_get (by rw [hl16'.out]; omega))
            have x8 := cell_row (i := 8) hCl.d1 (bvs_get (by rw [hl16.out]; omega))
            have y8 := cell_row (i := 8) hCl.d2 (bvs_get (by rw [hl16'.out]; omega))
            have x9 := cell_row (i := 9) hCl.d1 (bvs_get (by rw [hl16.out]; omega))
            have y9 := cell_row (i := 9) hCl.d2 (bvs_get (by rw [hl16'.out]; omega))
            have x10 := cell_row (i := 10) hCl.d1 (bvs_get (by rw [hl16.out]; omega))
            have y10 := cell_row (i := 10) hCl.d2 (bvs_get (by rw [hl16'.out]; omega))
            have x11 := cell_row (i := 11) hCl.d1 (bvs_get (by rw [hl16.out]; omega))
            have y11 := cell_row (i := 11) hCl.d2 (bvs_get (by rw [hl16'.out]; omega))
            have x12 := cell_row (i := 12) hCl.d1 (bvs_get (by rw [hl16.out]; omega))
            have y12 := cell_row (i := 12) hCl.d2 (bvs_get (by rw [hl16'.out]; omega))
            have x13 := cell_row (i := 13) hCl.d1 (bvs_get (by rw [hl16.out]; omega))
            have y13 := cell_row (i := 13) hCl.d2 (bvs_get (by rw [hl16'.out]; omega))
            have x14 := cell_row (i := 14) hCl.d1 (bvs_get (by rw [hl16.out]; omega))
            have y14 := cell_row (i := 14) hCl.d2 (bvs_get (by rw [hl16'.out]; omega))
            have x15 := cell_row (i := 15) hCl.d1 (bvs_get (by rw [hl16.out]; omega))
            have y15 := cell_row (i := 15) hCl.d2 (bvs_get (by rw [hl16'.out]; omega))
            generalize byt D1 0 = z10 at heq x0
            generalize byt D1 1 = z11 at heq x1
            generalize byt D1 2 = z12 at heq x2
            generalize byt D1 3 = z13 at heq x3
            generalize byt D1 4 = z14 at heq x4
            generalize byt D1 5 = z15 at heq x5
            generalize byt D1 6 = z16 at heq x6
            generalize byt D1 7 = z17 at heq x7
            generalize byt D1 8 = z18 at heq x8
            generalize byt D1 9 = z19 at heq x9
            generalize byt D1 10 = z110 at heq x10
            generalize byt D1 11 = z111 at heq x11
            generalize byt D1 12 = z112 at heq x12
            generalize byt D1 13 = z113 at heq x13
            generalize byt D1 14 = z114 at heq x14
            generalize byt D1 15 = z115 at heq x15
            generalize byt D2 0 = z20 at heq y0
            generalize byt D2 1 = z21 at heq y1
            generalize byt D2 2 = z22 at heq y2
            generalize byt D2 3 = z23 at heq y3
            generalize byt D2 4 = z24 at heq y4
            generalize byt D2 5 = z25 at heq y5
            generalize byt D2 6 = z26 at heq y6
            generalize byt D2 7 = z27 at heq y7
            generalize byt D2 8 = z28 at heq y8
            generalize byt D2 9 = z29 at heq y9
            generalize byt D2 10 = z210 at heq y10
            generalize byt D2 11 = z211 at heq y11
            generalize byt D2 12 = z212 at heq y12
            generalize byt D2 13 = z213 at heq y13
            generalize byt D2 14 = z214 at heq y14
            generalize byt D2 15 = z215 at heq y15
            clear hCl hlt hcl hec hne
            go_wp2_with fail
            go_ret
            exact ⟨rfl, hCl'.out.b⟩
      · have hXY := hin.out (by first | trivial | rfl)
        subst hXY
        have hcx := conv_str (c := d1) hRx7.out hnX'.out.symm
        have hcy := conv_str (c := d2) hRy7.out hnY'.out.symm
        clear hin hout
        go_wp2_with fail
        go_ret
        exact ⟨rfl, hS7.2.2.1⟩
end Go.Proofs.YtfgkaiaapofepaaDoor
