/- The walk of HashStreamsAgree. -/
import Derived.Test.YtfgkaiaapofepaaDoorG14
import Derived.Test.YtfgkaiaapofepaaDoorHV7
namespace Go.Proofs.YtfgkaiaapofepaaDoor
open Go.RowKit

theorem sat_take (l : List ByteArray) {i k : Nat} (h : i < k) : sat (l.take k) i = sat l i := by
  unfold sat
  simp only [List.getD_eq_getElem?_getD, List.getElem?_take, h, if_true]
theorem Rds_take {W : World} {a : Option Addr} {l : List ByteArray} (h : Rds W a l) (k : Nat) : Rds W a (l.take k) := by
  rcases h with rfl | ⟨b, off, rfl, hc⟩
  · exact .inl (by simp)
  · refine .inr ⟨b, off, rfl, fun i hi => ?_⟩
    rw [List.length_take] at hi
    rw [sat_take l (by omega)]
    exact hc i (by omega)
theorem few_take {l : List ByteArray} (h : fewP l) (k : Nat) : fewP (l.take k) := by
  refine ⟨by rw [List.length_take]; have := h.1; omega, fun j hj => ?_⟩
  rw [List.length_take] at hj
  rw [sat_take l (by omega)]
  exact h.2 j (by omega)
/-- a stream's row -/
def Rw (g : Nat) (X : Array Value) (W : World) : Prop := W.heap[g]? = some (.cells X 34 (0, 0))
theorem Rw.later {g : Nat} {X : Array Value} {W W1 : World} (h : Rw g X W) (hb : Below W.heap.size W W1) : Rw g X W1 := row_later' h hb
/-- what the loops keep -/
def Stm (w : World) (g : Nat) (m : List UInt8) (W : World) : Prop := Rw g (StrS m) W ∧ w.heap.size ≤ g ∧ Below w.heap.size w W
theorem Stm.later {w W W1 : World} {g : Nat} {m : List UInt8} (h : Stm w g m W) (hb : Below W.heap.size W W1) : Stm w g m W1 := ⟨h.1.later hb, h.2.1, below_tr h.2.2 hb⟩
theorem Stm.set {w W : World} {g : Nat} {m : List UInt8} (h : Stm w g m W) (m' : List UInt8) : Stm w g m' (W.setRow g (StrS m')) :=
  ⟨setRow_heap _ _ _ _ _ _ h.1, h.2.1, below_setRow h.2.2 h.2.1 _⟩
theorem Rw.set {W : World} {g g2 : Nat} {X Y : Array Value} (h : Rw g2 X W) (hne : g2 ≠ g) : Rw g2 X (W.setRow g Y) := (setRow_other _ _ _ _ hne).trans h
/-- what the last statement holds -/
def Fin3 (w : World) (g1 g2 g3 : Nat) (X1 X2 X3 : Array Value) (W : World) : Prop := Rw g1 X1 W ∧ Rw g2 X2 W ∧ Rw g3 X3 W ∧ Tab W ∧ Tabc W ∧ Below w.heap.size w W
theorem Fin3.later {w W W1 : World} {g1 g2 g3 : Nat} {X1 X2 X3 : Array Value} (h : Fin3 w g1 g2 g3 X1 X2 X3 W) (hb : Below W.heap.size W W1) : Fin3 w g1 g2 g3 X1 X2 X3 W1 :=
  ⟨h.1.later hb, h.2.1.later hb, h.2.2.1.later hb, h.2.2.2.1.later hb, h.2.2.2.2.1.later hb, below_tr h.2.2.2.2.2 hb⟩

set_option maxRecDepth 100000 in
set_option maxHeartbeats 3200000 in
theorem walk_streams (a : Option Addr) (n c : Nat) (l : List ByteArray) (o : ByteArray) (t : Int) (ht0 : 0 ≤ t) (ht1 : t < 256) (w : World) (hR0 : Rds w a l) (hn0 : n = l.length) (hc0 : n ≤ c) (ho : o.size ≤ maxLen) (hTT : Tab w ∧ Tabc w) :
    Calls Tryd.prog 4 #[.slice a n c, .string o, .int .u8 t] w (TruePost w) := by
  unfold maxLen at ho
  have hT := Lib.hid hTT.1
  have hTc := Lib.hid hTT.2
  have hR := Lib.hid hR0
  have hn := Lib.hid hn0
  have hfe : Hid (∀ W, Rds W a l → Calls Tryd.prog 13 #[.slice a n c] W fun e w' => e = .returned (.bool (decide (fewP l))) ∧ Below W.heap.size W w') := Lib.hid fun W h => few_any a n c l W h hn0
  clear hR0 hn0 hTT
  by_cases hf : fewP l
  · rw [decide_eq_true hf] at hfe
    by_cases h4 : 400 < o.size
    · have h4' : (400 : Int) < (o.size : Int) := by omega
      clear hf
      go_enter Tryd.func4, Tryd.ntmps4
      go_wp2_with fail
      refine (sanity_ok _ hT.out).mono ?_
      rintro e w1 ⟨rfl, hb1⟩
      have hB1 := Lib.hid hb1
      clear hb1
      go_wp2_with fail
      refine (hfe.out _ (Rds_below hB1.out hR.out)).mono ?_
      rintro e w2 ⟨rfl, hb2⟩
      have hB2 := Lib.hid (below_tr hB1.out hb2)
      clear hb2 hfe hB1
      go_wp2_with fail
      go_ret
      exact ⟨rfl, hB2.out⟩
    · have h4' : ¬ (400 : Int) < (o.size : Int) := by omega
      have hf' := Lib.hid hf
      have h12 : n ≤ 12 := by rw [hn.out]; exact hf.1
      have hnz : ¬ ((n : Int) + 1 = 0) := by omega
      obtain ⟨kk, hkk, hrem⟩ : ∃ kk : Nat, kk ≤ n ∧ t.tmod ((n : Int) + 1) = (kk : Int) := by
        have h0 := Int.emod_nonneg t (b := (n : Int) + 1) (by omega)
        have h1 := Int.emod_lt_of_pos t (b := (n : Int) + 1) (by omega)
        exact ⟨(t % ((n : Int) + 1)).toNat, by omega, by rw [Int.tmod_eq_emod_of_nonneg ht0]; omega⟩
      have had : Hid (∀ (m : List UInt8) (s : ByteArray) (W : World), m.length ≤ 5000 → s.size ≤ 400 → Tab W → Calls Tryd.prog 15 #[.agg (StrS m), .string s] W fun e w' => e = .returned (.agg (StrS (m ++ sl s))) ∧ Below W.heap.size W w') :=
        Lib.hid fun m s W h1 h2 h3 => add_any m s (by omega) W h3
      have hjl : Hid (∀ k, k ≤ n → (jn l k).length ≤ 4800) := Lib.hid fun k hk => by have := jn_few l hf k (by rw [← hn.out]; exact hk); omega
      have ho' : Hid (o.size ≤ 400) := Lib.hid (by omega)
      clear hf h4
      go_enter Tryd.func4, Tryd.ntmps4
      go_wp2_with fail
      refine (sanity_ok _ hT.out).mono ?_
      rintro e w1 ⟨rfl, hb1⟩
      have hB1 := Lib.hid hb1
      clear hb1
      go_wp2_with fail
      refine (hfe.out _ (Rds_below hB1.out hR.out)).mono ?_
      rintro e w2 ⟨rfl, hb2⟩
      have hB2 := Lib.hid (below_tr hB1.out hb2)
      clear hb2 hfe hB1
      go_wp2_with fail
      refine (begin_str _).mono ?_
      rintro e w3 ⟨rfl, hb3⟩
      have hS0 : Hid (Stm w w3.heap.size (jn l 0) (w3.alloc (.cells (StrS []) 34))) := Lib.hid ⟨heap_alloc_new _ _, (below_tr hB2.out hb3).size, below_al (below_tr hB2.out hb3) _⟩
      clear hb3 hB2
      have hsz0 := Lib.hid (StrS_size [])
      have hz0 := Lib.hid (StrS_z73 [])
      have hon0 := Lib.hid (StrS_one [])
      generalize StrS [] = X0 at hS0 hsz0 hz0 hon0 ⊢
      go_wp2_with (first | (refine wpList_alloc_as rfl 34 rfl z73 zero_73 ?_) | (refine wpList_store_last rfl 34 (.tmp 9) (.tmp 32) rfl X0 rfl rfl 34 z73 hsz0.out hz0.out hon0.out ?_))
      generalize w3.alloc (.cells X0 34) = W3 at hS0 ⊢
      generalize w3.heap.size = g at hS0 ⊢
      clear hsz0 hz0 hon0
      go_loopw [10] (fun iv wr => ∃ j : Nat, j ≤ kk ∧ iv = .int .i64 (j : Int) ∧ Stm w g (jn l j) wr) (fun iv _ => kk - (intOf iv).toNat)
      case atStart => exact ⟨0, Nat.zero_le _, rfl, hS0.out⟩
      case round =>
        obtain ⟨j, hj, rfl, hS⟩ := hrel
        clear hS0
        by_cases hlt : j < kk
        · have hjn : j < l.length := by rw [← hn.out]; omega
          obtain ⟨b0, off, rfl, hcl⟩ := Rds_at hR.out j hjn
          have hst := Lib.hid (jn_step l j hjn)
          have hml := Lib.hid (hjl.out j (by omega))
          have hsl : Hid ((sat l j).size ≤ 400) := Lib.hid (hf'.out.2 j hjn)
          have j0 : 0 ≤ (j : Int) := by omega
          have j1 : (j : Int) < (kk : Int) := by omega
          have j2 : (j : Int) < (n : Int) := by omega
          have j3 : ((j : Int)).toNat = j := by omega
          obtain ⟨M, hM⟩ : ∃ M, jn l j = M := ⟨_, rfl⟩
          obtain ⟨s, hs⟩ : ∃ s, sat l j = s := ⟨_, rfl⟩
          rw [hM] at hS hst hml
          rw [hs] at hcl hst hsl
          have hI := Lib.hid hS
          have hcl' := Lib.hid hcl
          clear hS hcl hM hs hjn
          go_upto_region 1 with fail
          refine wp_region_held_drew (S := fun W => Below w.heap.size w W) (by kernel_rfl) (hI.out.later (below_drew (Below.refl _ _))).2.2 (fun hHeld => ?_)
          refine wpAnyH_take (i := 1) (v := .slice (some ⟨b0, off, none⟩) n c) rfl (by kernel_rfl) (by kernel_rfl) (by kernel_rfl) (fun _ _ _ h => h) (Or.inl ⟨by rfl, fun W _ => by go_simp⟩) hHeld ?_
          simp only [Act.put, List.getElem_toArray, List.getElem_cons_zero, List.getElem_cons_succ, List.setIfInBounds_toArray, List.set_cons_zero, List.set_cons_succ]
          refine wpAnyH_take (i := 2) (v := .int .i64 (j : Int)) rfl (by kernel_rfl) (by kernel_rfl) (by kernel_rfl) (fun _ _ _ h => h) (Or.inl ⟨by rfl, fun W _ => by go_simp⟩) hHeld ?_
          simp only [Act.put, List.getElem_toArray, List.getElem_cons_zero, List.getElem_cons_succ, List.setIfInBounds_toArray, List.set_cons_zero, List.set_cons_succ]
          refine wpAnyH_take (i := 3) (v := .pointer (some ⟨b0, off + j, none⟩)) rfl (by kernel_rfl) (by kernel_rfl) (by kernel_rfl) (fun _ _ _ h => h) (Or.inl ⟨by rfl, fun W _ => by go_simp⟩) hHeld ?_
          simp only [Act.put, List.getElem_toArray, List.getElem_cons_zero, List.getElem_cons_succ, List.setIfInBounds_toArray, List.set_cons_zero, List.set_cons_succ]
          refine wpAnyH_take (i := 4) (v := .string s) rfl (by kernel_rfl) (by kernel_rfl) (by kernel_rfl) (fun _ _ _ h => h) (Or.inl ⟨by rfl, fun W h => by have := Below.cell_of' h hcl'.out; go_simp⟩) hHeld ?_
          simp only [Act.put, List.getElem_toArray, List.getElem_cons_zero, List.getElem_cons_succ, List.setIfInBounds_toArray, List.set_cons_zero, List.set_cons_succ]
          refine wpAnyH_ready (rs := [0]) (by kernel_rfl) (by simp) ?_
          refine AllReadyH.cons rfl (fun K hK => ?_) AllReadyH.nil
          try simp only [List.getElem_toArray, List.getElem_cons_zero]
          rw [if_pos (by rfl)]
          have hI1 := hI.out.later (below_drew (Below.refl _ _))
          refine wp_load_row 34 _ rfl g rfl 34 (StrS M) (0, 0) _ hI1.1 Tryd.underlying34 rfl (StrS_size M) ?_
          refine hK.out _ _ hI1.2.2 (fun hHeld => ?_)
          clear hK K
          try simp only [Act.put, List.setIfInBounds_toArray, List.set_cons_zero, List.set_cons_succ]
          refine wpAnyH_ready (rs := [5]) (by kernel_rfl) (by simp) ?_
          refine AllReadyH.cons rfl (fun K hK => ?_) AllReadyH.nil
          try simp only [List.getElem_toArray, List.getElem_cons_zero, List.getElem_cons_succ]
          go_simp
          refine (had.out M s _ (by have := hml.out; omega) hsl.out (hT.out.later hI1.2.2)).mono ?_
          rintro e w2 ⟨rfl, hb2⟩
          have hI2 := Lib.hid (hI1.later hb2)
          refine hK.out _ _ hI2.out.2.2 (fun hHeld => ?_)
          clear hK K
          try simp only [Act.put, List.getElem_toArray, List.getElem_cons_zero, List.getElem_cons_succ, List.setIfInBounds_toArray, List.set_cons_zero, List.set_cons_succ]
          refine wpAnyH_ready (rs := [6]) (by kernel_rfl) (by simp) ?_
          refine AllReadyH.cons rfl (fun K hK => ?_) AllReadyH.nil
          try simp only [List.getElem_toArray, List.getElem_cons_zero, List.getElem_cons_succ]
          rw [if_pos (by rfl)]
          refine wp_store_row 34 _ _ rfl g (StrS (M ++ sl s)) rfl rfl 34 _ hI2.out.1 (StrS_size _) (by rw [← StrS_z73 M, StrS_z73 (M ++ sl s)]) (StrS_one _) ?_
          refine hK.out _ _ (hI2.out.set (M ++ sl s)).2.2 (fun hHeld => ?_)
          clear hK K hI1
          refine wpAnyH_done (by kernel_rfl) ?_ _
          have hI3 := Lib.hid (hI2.out.set (M ++ sl s))
          clear hI2 hI hcl'
          go_wp2_with fail
          exact ⟨⟨j + 1, by omega, by simp, by rw [hst.out]; exact hI3.out⟩, by simp [intOf]; omega⟩
        · have hjk : j = kk := by omega
          subst hjk
          obtain ⟨M2, hM2⟩ : ∃ M, jn l j = M := ⟨_, rfl⟩
          rw [hM2] at hS
          have hM2' := Lib.hid hM2
          have hI := Lib.hid hS
          have hrow := Lib.hid hS.1
          have hszM := Lib.hid (StrS_size M2)
          have hzM := Lib.hid (StrS_z73 M2)
          have honM := Lib.hid (StrS_one M2)
          have hj0 : 0 ≤ (j : Int) := by omega
          have hjj : ¬ (j : Int) < (j : Int) := by omega
          have hJ0 : Hid (Stm w g (jn l j) (wr.alloc (.cells (StrS M2) 34)) ∧ Rw wr.heap.size (StrS M2) (wr.alloc (.cells (StrS M2) 34)) ∧ wr.heap.size ≠ g) :=
            Lib.hid (by rw [hM2]; exact ⟨hS.later alloc_row, heap_alloc_new _ _, by have := lt_of_block hS.1; omega⟩)
          clear hS hM2
          obtain ⟨X2, hX2⟩ : ∃ X, StrS M2 = X := ⟨_, rfl⟩
          rw [hX2] at hrow hszM hzM honM hJ0
          have hX2' := Lib.hid hX2
          clear hX2
          go_wp2_with (first | (refine wpList_load_row rfl 34 _ rfl g rfl 34 X2 (0, 0) _ hrow.out Tryd.underlying34 rfl hszM.out ?_) | (refine wpList_alloc_as rfl 34 rfl z73 zero_73 ?_) | (refine wpList_store_last rfl 34 (.tmp 11) (.tmp 44) rfl X2 rfl rfl 34 z73 hszM.out hzM.out honM.out ?_))
          generalize wr.alloc (.cells X2 34) = W4 at hJ0 ⊢
          generalize wr.heap.size = g2 at hJ0 ⊢
          clear hrow hI
          go_loopw [12] (fun iv wr => ∃ i : Nat, j ≤ i ∧ i ≤ n ∧ iv = .int .i64 (i : Int) ∧ Stm w g (jn l i) wr ∧ Rw g2 X2 wr ∧ g2 ≠ g) (fun iv _ => n - (intOf iv).toNat)
          case atStart => exact ⟨j, Nat.le_refl _, hkk, rfl, hJ0.out⟩
          case round =>
            obtain ⟨i, hji, hin, rfl, hS, hR2, hne⟩ := hrel
            clear hJ0
            by_cases hlt2 : i < n
            · have hin2 : i < l.length := by rw [← hn.out]; omega
              obtain ⟨b0, off, rfl, hcl⟩ := Rds_at hR.out i hin2
              have hst := Lib.hid (jn_step l i hin2)
              have hml := Lib.hid (hjl.out i (by omega))
              have hsl : Hid ((sat l i).size ≤ 400) := Lib.hid (hf'.out.2 i hin2)
              have i0 : 0 ≤ (i : Int) := by omega
              have i2 : (i : Int) < (n : Int) := by omega
              have i3 : ((i : Int)).toNat = i := by omega
              obtain ⟨M, hM⟩ : ∃ M, jn l i = M := ⟨_, rfl⟩
              obtain ⟨s, hs⟩ : ∃ s, sat l i = s := ⟨_, rfl⟩
              rw [hM] at hS hst hml
              rw [hs] at hcl hst hsl
              have hI := Lib.hid hS
              have hQ := Lib.hid hR2
              have hcl' := Lib.hid hcl
              clear hS hcl hM hs hin2 hR2
              go_upto_region 1 with fail
              refine wp_region_held_drew (S := fun W => Below w.heap.size w W) (by kernel_rfl) (hI.out.later (below_drew (Below.refl _ _))).2.2 (fun hHeld => ?_)
              refine wpAnyH_take (i := 1) (v := .slice (some ⟨b0, off, none⟩) n c) rfl (by kernel_rfl) (by kernel_rfl) (by kernel_rfl) (fun _ _ _ h => h) (Or.inl ⟨by rfl, fun W _ => by go_simp⟩) hHeld ?_
              simp only [Act.put, List.getElem_toArray, List.getElem_cons_zero, List.getElem_cons_succ, List.setIfInBounds_toArray, List.set_cons_zero, List.set_cons_succ]
              refine wpAnyH_take (i := 2) (v := .int .i64 (i : Int)) rfl (by kernel_rfl) (by kernel_rfl) (by kernel_rfl) (fun _ _ _ h => h) (Or.inl ⟨by rfl, fun W _ => by go_simp⟩) hHeld ?_
              simp only [Act.put, List.getElem_toArray, List.getElem_cons_zero, List.getElem_cons_succ, List.setIfInBounds_toArray, List.set_cons_zero, List.set_cons_succ]
              refine wpAnyH_take (i := 3) (v := .pointer (some ⟨b0, off + i, none⟩)) rfl (by kernel_rfl) (by kernel_rfl) (by kernel_rfl) (fun _ _ _ h => h) (Or.inl ⟨by rfl, fun W _ => by go_simp⟩) hHeld ?_
              simp only [Act.put, List.getElem_toArray, List.getElem_cons_zero, List.getElem_cons_succ, List.setIfInBounds_toArray, List.set_cons_zero, List.set_cons_succ]
              refine wpAnyH_take (i := 4) (v := .string s) rfl (by kernel_rfl) (by kernel_rfl) (by kernel_rfl) (fun _ _ _ h => h) (Or.inl ⟨by rfl, fun W h => by have := Below.cell_of' h hcl'.out; go_simp⟩) hHeld ?_
              simp only [Act.put, List.getElem_toArray, List.getElem_cons_zero, List.getElem_cons_succ, List.setIfInBounds_toArray, List.set_cons_zero, List.set_cons_succ]
              refine wpAnyH_ready (rs := [0]) (by kernel_rfl) (by simp) ?_
              refine AllReadyH.cons rfl (fun K hK => ?_) AllReadyH.nil
              try simp only [List.getElem_toArray, List.getElem_cons_zero]
              rw [if_pos (by rfl)]
              have hI1 := hI.out.later (below_drew (Below.refl _ _))
              refine wp_load_row 34 _ rfl g rfl 34 (StrS M) (0, 0) _ hI1.1 Tryd.underlying34 rfl (StrS_size M) ?_
              refine hK.out _ _ hI1.2.2 (fun hHeld => ?_)
              clear hK K
              try simp only [Act.put, List.setIfInBounds_toArray, List.set_cons_zero, List.set_cons_succ]
              refine wpAnyH_ready (rs := [5]) (by kernel_rfl) (by simp) ?_
              refine AllReadyH.cons rfl (fun K hK => ?_) AllReadyH.nil
              try simp only [List.getElem_toArray, List.getElem_cons_zero, List.getElem_cons_succ]
              go_simp
              refine (had.out M s _ (by have := hml.out; omega) hsl.out (hT.out.later hI1.2.2)).mono ?_
              rintro e w2 ⟨rfl, hb2⟩
              have hI2 := Lib.hid (hI1.later hb2)
              have hQ2 := Lib.hid ((hQ.out.later (below_drew (Below.refl _ _))).later hb2)
              refine hK.out _ _ hI2.out.2.2 (fun hHeld => ?_)
              clear hK K
              try simp only [Act.put, List.getElem_toArray, List.getElem_cons_zero, List.getElem_cons_succ, List.setIfInBounds_toArray, List.set_cons_zero, List.set_cons_succ]
              refine wpAnyH_ready (rs := [6]) (by kernel_rfl) (by simp) ?_
              refine AllReadyH.cons rfl (fun K hK => ?_) AllReadyH.nil
              try simp only [List.getElem_toArray, List.getElem_cons_zero, List.getElem_cons_succ]
              rw [if_pos (by rfl)]
              refine wp_store_row 34 _ _ rfl g (StrS (M ++ sl s)) rfl rfl 34 _ hI2.out.1 (StrS_size _) (by rw [← StrS_z73 M, StrS_z73 (M ++ sl s)]) (StrS_one _) ?_
              refine hK.out _ _ (hI2.out.set (M ++ sl s)).2.2 (fun hHeld => ?_)
              clear hK K hI1
              refine wpAnyH_done (by kernel_rfl) ?_ _
              have hI3 := Lib.hid (hI2.out.set (M ++ sl s))
              have hQ3 := Lib.hid (hQ2.out.set (Y := StrS (M ++ sl s)) hne)
              clear hI2 hI hcl' hQ hQ2
              go_wp2_with fail
              exact ⟨⟨i + 1, by omega, by omega, by simp, by rw [hst.out]; exact hI3.out, hQ3.out, hne⟩, by simp [intOf]; omega⟩
            · have hin' : i = n := by omega
              subst hin'
              have hI := Lib.hid hS
              have hQ := Lib.hid hR2
              have i0 : 0 ≤ (i : Int) := by omega
              have ii : ¬ (i : Int) < (i : Int) := by omega
              have hMl := hjl.out j hji
              have hWl := hjl.out i (Nat.le_refl _)
              rw [hM2'.out] at hMl
              obtain ⟨M1, hM1⟩ : ∃ M, jn l i = M := ⟨_, rfl⟩
              rw [hM1] at hWl
              have hj1 : Hid (∀ W, Rds W a l → Calls Tryd.prog 16 #[.slice a i c] W fun e w' => e = .returned (.string (bs M1)) ∧ Below W.heap.size W w') := Lib.hid fun W h => by rw [← hM1]; exact joined_any a i c l W h hn.out hf'.out
              have hj2 : Hid (∀ W, Rds W a l → Calls Tryd.prog 16 #[.slice a j c] W fun e w' => e = .returned (.string (bs M2)) ∧ Below W.heap.size W w') := Lib.hid fun W h => by
                rw [← hM2'.out, ← jn_take l j j (Nat.le_refl _)]
                exact joined_any a j c (l.take j) W (Rds_take h j) (by rw [List.length_take, ← hn.out]; omega) (few_take hf'.out j)
              unfold Stm at hI
              rw [hM1] at hI
              have hX3s := StrS_size (M2 ++ sl o)
              have hX3z := StrS_z73 (M2 ++ sl o)
              have hX3o := StrS_one (M2 ++ sl o)
              have hX1s := StrS_size M1
              have hadE : Hid (∀ W : World, Tab W → Calls Tryd.prog 15 #[.agg X2, .string o] W fun e w' => e = .returned (.agg (StrS (M2 ++ sl o))) ∧ Below W.heap.size W w') := Lib.hid fun W h => by rw [← hX2'.out]; exact had.out M2 o W (by omega) ho'.out h
              obtain ⟨d1, hd1, hD1⟩ := sha_dig M1
              obtain ⟨d2, hd2, hD2⟩ := sha_dig M2
              obtain ⟨d3, hd3, hD3⟩ := sha_dig (M2 ++ sl o)
              have hol := sl_length o
              have hoo := ho'.out
              have hs1 : Hid (∀ W : World, Tab W → Calls Tryd.prog 17 #[.agg (StrS M1)] W fun e w' => e = .returned (.agg (bvs d1).toArray) ∧ Below W.heap.size W w') := Lib.hid fun W h => by rw [← hd1]; exact ssum_any M1 (by omega) W h
              have hs2 : Hid (∀ W : World, Tab W → Calls Tryd.prog 17 #[.agg X2] W fun e w' => e = .returned (.agg (bvs d2).toArray) ∧ Below W.heap.size W w') := Lib.hid fun W h => by rw [← hd2, ← hX2'.out]; exact ssum_any M2 (by omega) W h
              have hs3 : Hid (∀ W : World, Tab W → Calls Tryd.prog 17 #[.agg (StrS (M2 ++ sl o))] W fun e w' => e = .returned (.agg (bvs d3).toArray) ∧ Below W.heap.size W w') := Lib.hid fun W h => by rw [← hd3]; exact ssum_any _ (by rw [List.length_append]; omega) W h
              have hr1 : Hid (∀ (W W0 : World) (k : Nat), W = cvW (bs M1) W0 → Tabc W → Calls Tryd.prog 12 #[.slice (some ⟨W0.heap.size, 0, none⟩) (bs M1).size k] W fun e w' => e = .returned (.agg (bvs d1).toArray) ∧ Below W.heap.size W w') :=
                Lib.hid fun W W0 k h1 h2 => by
                  subst h1
                  rw [← hd1]
                  have := Rd_conv (cv_spec (bs M1) W0).2.1
                  rw [sl_bs] at this
                  exact rsum_any _ _ k M1 _ this (bs_size M1) (by omega) h2
              have hp1 : Hid (∀ (W W0 : World) (k : Nat), W = cvW (bs M1) W0 → Tab W → Calls Tryd.prog 11 #[.slice (some ⟨W0.heap.size, 0, none⟩) (bs M1).size k] W fun e w' => e = .returned (.agg (bvs d1).toArray) ∧ Below W.heap.size W w') :=
                Lib.hid fun W W0 k h1 h2 => by
                  subst h1
                  rw [← hd1]
                  have := Rd_conv (cv_spec (bs M1) W0).2.1
                  rw [sl_bs] at this
                  exact hsum_any _ _ k M1 _ this (bs_size M1) (by omega) h2
              have hr2 : Hid (∀ (W W0 : World) (k : Nat), W = cvW (bs M2) W0 → Tabc W → Calls Tryd.prog 12 #[.slice (some ⟨W0.heap.size, 0, none⟩) (bs M2).size k] W fun e w' => e = .returned (.agg (bvs d2).toArray) ∧ Below W.heap.size W w') :=
                Lib.hid fun W W0 k h1 h2 => by
                  subst h1
                  rw [← hd2]
                  have := Rd_conv (cv_spec (bs M2) W0).2.1
                  rw [sl_bs] at this
                  exact rsum_any _ _ k M2 _ this (bs_size M2) (by omega) h2
              have hr3 : Hid (∀ (W W0 : World) (k m : Nat), m = (bs M2 ++ o).size → W = cvW (bs M2 ++ o) W0 → Tabc W → Calls Tryd.prog 12 #[.slice (some ⟨W0.heap.size, 0, none⟩) m k] W fun e w' => e = .returned (.agg (bvs d3).toArray) ∧ Below W.heap.size W w') :=
                Lib.hid fun W W0 k m h0 h1 h2 => by
                  subst h1
                  rw [← hd3]
                  have := Rd_conv (cv_spec (bs M2 ++ o) W0).2.1
                  rw [sl_cat, sl_bs] at this
                  exact rsum_any _ _ k _ _ this (by rw [h0, ← sl_length, sl_cat, sl_bs]) (by rw [List.length_append]; omega) h2
              have hcv1 := fun W => (cv_spec (bs M1) W).1
              have hcv2 := fun W => (cv_spec (bs M2) W).1
              have hcv3 := fun W => (cv_spec (bs M2 ++ o) W).1
              have hb1' := Lib.hid fun W => (cv_spec (bs M1) W).2.2
              have hb2' := Lib.hid fun W => (cv_spec (bs M2) W).2.2
              have hb3' := Lib.hid fun W => (cv_spec (bs M2 ++ o) W).2.2
              have hss : ¬ 9223372036854775807 < (bs M2).size + o.size := by rw [bs_size]; omega
              have heq1 := fun W => eql_32 d1 d1 hD1.len hD1.len W
              have heq2 := fun W => eql_32 d2 d2 hD2.len hD2.len W
              have heq3 := fun W => eql_32 d3 d3 hD3.len hD3.len W
              rw [eqB_self] at heq1 heq2 heq3
              have h1s := Lib.hid hX1s
              have h3s := Lib.hid hX3s
              have h3z := Lib.hid hX3z
              have h3o := Lib.hid hX3o
              generalize bs M1 = S1 at hj1 hr1 hp1 hcv1 hb1'
              generalize bs M2 = S2 at hj2 hr2 hr3 hcv2 hcv3 hb2' hb3' hss
              generalize StrS M1 = X1 at hs1 h1s hI
              generalize StrS (M2 ++ sl o) = X3 at hs3 h3s h3z h3o hadE
              clear hX1s hX3s hX3z hX3o hd1 hd2 hd3 hD1 hD2 hD3 hol hoo hWl hMl hS hR2 hM1 had hjl hzM honM hX2' hM2' ho'
              go_wp2_with (first | (refine wpList_load_row rfl 34 _ rfl g2 rfl 34 X2 (0, 0) _ hQ.out Tryd.underlying34 rfl hszM.out ?_))
              refine (hadE.out _ (hT.out.later hI.out.2.2)).mono ?_
              rintro e w4 ⟨rfl, hb4⟩
              have hF0 : Hid (Fin3 w g g2 w4.heap.size X1 X2 X3 (w4.alloc (.cells X3 34))) :=
                Lib.hid ⟨(hI.out.1.later hb4).later alloc_row, (hQ.out.later hb4).later alloc_row, heap_alloc_new _ _, (hT.out.later (below_tr hI.out.2.2 hb4)).later alloc_row, (hTc.out.later (below_tr hI.out.2.2 hb4)).later alloc_row, below_tr (below_tr hI.out.2.2 hb4) alloc_row⟩
              clear hb4 hI hQ hadE
              go_wp2_with (first | (refine wpList_alloc_as rfl 34 rfl z73 zero_73 ?_) | (refine wpList_store_last rfl 34 (.tmp 13) (.tmp 60) rfl X3 rfl rfl 34 z73 h3s.out h3z.out h3o.out ?_))
              generalize w4.alloc (.cells X3 34) = W5 at hF0 ⊢
              generalize w4.heap.size = g3 at hF0 ⊢
              refine (hj1.out _ (Rds_below hF0.out.2.2.2.2.2 hR.out)).mono ?_
              rintro e w6 ⟨rfl, hb6⟩
              have hF1 := Lib.hid (hF0.out.later hb6)
              clear hb6 hF0 hj1
              go_wp2_with fail
              refine (hj2.out _ (Rds_below hF1.out.2.2.2.2.2 hR.out)).mono ?_
              rintro e w7 ⟨rfl, hb7⟩
              have hF2 := Lib.hid (hF1.out.later hb7)
              clear hb7 hF1 hj2
              go_wp2_with (first | (refine wpList_load_row_w (by first | rfl | kernel_rfl) 34 _ rfl g rfl 34 X1 (0, 0) _ hF2.out.1 Tryd.underlying34 rfl h1s.out ?_))
              refine (hs1.out _ hF2.out.2.2.2.1).mono ?_
              rintro e w8 ⟨rfl, hb8⟩
              have hF3 := Lib.hid (hF2.out.later hb8)
              clear hb8 hF2
              go_wp2_with fail
              refine (hr1.out _ w8 _ rfl (hF3.out.later (hb1'.out _)).2.2.2.2.1).mono ?_
              rintro e w9 ⟨rfl, hb9⟩
              have hF4 := Lib.hid ((hF3.out.later (hb1'.out _)).later hb9)
              clear hb9 hF3
              go_wp2_with (first | (refine wpList_load_row_w (by first | rfl | kernel_rfl) 34 _ rfl g2 rfl 34 X2 (0, 0) _ hF4.out.2.1 Tryd.underlying34 rfl hszM.out ?_))
              refine (hs2.out _ hF4.out.2.2.2.1).mono ?_
              rintro e w10 ⟨rfl, hb10⟩
              have hF5 := Lib.hid (hF4.out.later hb10)
              clear hb10 hF4
              go_wp2_with fail
              refine (hr2.out _ w10 _ rfl (hF5.out.later (hb2'.out _)).2.2.2.2.1).mono ?_
              rintro e w11 ⟨rfl, hb11⟩
              have hF6 := Lib.hid ((hF5.out.later (hb2'.out _)).later hb11)
              clear hb11 hF5
              go_wp2_with (first | (refine wpList_load_row_w (by first | rfl | kernel_rfl) 34 _ rfl g3 rfl 34 X3 (0, 0) _ hF6.out.2.2.1 Tryd.underlying34 rfl h3s.out ?_))
              refine (hs3.out _ hF6.out.2.2.2.1).mono ?_
              rintro e w12 ⟨rfl, hb12⟩
              have hF7 := Lib.hid (hF6.out.later hb12)
              clear hb12 hF6
              go_wp2_with fail
              refine (hr3.out _ w12 _ _ (by simp) rfl (hF7.out.later (hb3'.out _)).2.2.2.2.1).mono ?_
              rintro e w13 ⟨rfl, hb13⟩
              have hF8 := Lib.hid ((hF7.out.later (hb3'.out _)).later hb13)
              clear hb13 hF7
              go_wp2_with (first | (refine wpList_load_row_w (by first | rfl | kernel_rfl) 34 _ rfl g rfl 34 X1 (0, 0) _ hF8.out.1 Tryd.underlying34 rfl h1s.out ?_))
              refine (hs1.out _ hF8.out.2.2.2.1).mono ?_
              rintro e w14 ⟨rfl, hb14⟩
              have hF9 := Lib.hid (hF8.out.later hb14)
              clear hb14 hF8
              go_wp2_with fail
              refine (hp1.out _ w14 _ rfl (hF9.out.later (hb1'.out _)).2.2.2.1).mono ?_
              rintro e w15 ⟨rfl, hb15⟩
              have hF10 := Lib.hid ((hF9.out.later (hb1'.out _)).later hb15)
              clear hb15 hF9
              go_wp2_with fail
              go_ret
              exact ⟨rfl, hF10.out.2.2.2.2.2⟩
  · rw [decide_eq_false hf] at hfe
    clear hf
    go_enter Tryd.func4, Tryd.ntmps4
    go_wp2_with fail
    refine (sanity_ok _ hT.out).mono ?_
    rintro e w1 ⟨rfl, hb1⟩
    have hB1 := Lib.hid hb1
    clear hb1
    go_wp2_with fail
    refine (hfe.out _ (Rds_below hB1.out hR.out)).mono ?_
    rintro e w2 ⟨rfl, hb2⟩
    have hB2 := Lib.hid (below_tr hB1.out hb2)
    clear hb2 hfe hB1
    go_wp2_with fail
    go_ret
    exact ⟨rfl, hB2.out⟩
end Go.Proofs.YtfgkaiaapofepaaDoor
