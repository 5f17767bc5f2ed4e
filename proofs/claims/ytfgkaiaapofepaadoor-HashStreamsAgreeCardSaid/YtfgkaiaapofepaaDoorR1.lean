/- sherdref01.Int: the reference's encoding of an integer. -/
import Derived.Test.YtfgkaiaapofepaaDoorW23
import Derived.Test.YtfgkaiaapofepaaDoorMath
namespace Go.Proofs.YtfgkaiaapofepaaDoor
open Go.RowKit

/-- the j lowest digits, least significant first -/
def dle (m : Nat) : Nat → List UInt8
  | 0 => []
  | j + 1 => dle m j ++ [UInt8.ofNat (m / 256 ^ j % 256)]
theorem dle_length (m j : Nat) : (dle m j).length = j := by
  induction j with
  | zero => rfl
  | succ j ih => simp [dle, ih]
theorem dle_getD (m : Nat) : ∀ (j i : Nat), i < j → (dle m j).getD i 0 = UInt8.ofNat (m / 256 ^ i % 256)
  | 0, i, h => by omega
  | j + 1, i, h => by
    simp only [dle]
    rcases Nat.lt_or_ge i j with h1 | h1
    · rw [List.getD_eq_getElem?_getD, List.getElem?_append_left (by rw [dle_length]; exact h1), ← List.getD_eq_getElem?_getD, dle_getD m j i h1]
    · have : i = j := by omega
      subst this
      rw [List.getD_eq_getElem?_getD, List.getElem?_append_right (by rw [dle_length]; exact Nat.le_refl _), dle_length]
      simp
theorem dle_byt (m j i : Nat) (h : i < j) : byt (dle m j) i = ((UInt8.ofNat (m / 256 ^ i % 256)).toNat : Int) := by unfold byt; rw [dle_getD m j i h]

theorem rowInv_alloc {w wr : World} {v : Value} {l : List UInt8} (h : RowInv w v l wr) {o : Obj} : RowInv w v l (wr.alloc o) := h.alloc o
theorem rowInv_grow {w wr w1 : World} {v v1 : Value} {l r : List UInt8} {o : Obj} (h : RowInv w v l wr) (_h : RowInv w v l (wr.alloc o)) (ho : w1.ownsRow w.heap.size 5 1 v1 (l.length + 1) (bvs l ++ bvs r)) (hg : (wr.alloc o).grownBy w1 v.ownBlock) (hr : r.length = 1 := by rfl) : RowInv w v1 (l ++ r) w1 :=
  ⟨by rw [List.length_append, bvs_append, hr]; exact ho, (h.2.alloc h.2.size o).grown hg (by have := h.2.size; simp; omega) (fun k hk => (h.1.lt k hk).1)⟩
theorem rowInv_first {wr w1 : World} {v1 : Value} {b : UInt8} {o : Obj} (ho : w1.ownsRow wr.heap.size 5 1 v1 (0 + 1) ([] ++ bvs [b])) (hg : (wr.alloc o).grownBy w1 (Value.slice none 0 0).ownBlock) : RowInv wr v1 [b] w1 :=
  ⟨ho, ((Below.refl _ wr).alloc (Nat.le_refl _) o).grown hg (by simp) (fun k hk => by cases hk)⟩

set_option maxRecDepth 100000 in
set_option maxHeartbeats 1600000 in
theorem refInt_pos (n : Int) (m : Nat) (w : World) (hn : Hid (n = (m : Int))) (hm : m < 9223372036854775808) :
    Calls Tryd.prog 39 #[.int .i64 n] w (EncPost w (hd false (nd m) :: (lows (nd m) m).map (fx false))) := by
  rw [hn.out]
  clear hn
  have h0 : (0 : Int) ≤ (m : Int) := by omega
  have h0' : (0 : Int) ≤ (m : Int) := by omega
  have h1 : (m : Int) ≤ 9223372036854775807 := by omega
  obtain ⟨i0, hi, hz0, hz1, hz2⟩ := info_parts info_u8
  have hm' := Lib.hid hm
  clear hm
  go_enter Tryd.func39, Tryd.ntmps39
  go_wp2
  go_loopw [3, 4] (fun q v wr => ∃ j : Nat, j ≤ nd m ∧ q = .int .i64 (m / 256 ^ j : Nat) ∧ RowInv w v (dle m j) wr) (fun q _ _ => (intOf q).toNat)
  case atStart => exact ⟨0, Nat.zero_le _, by simp, World.ownsRow_nil _ _ _ _, Below.refl _ _⟩
  case round =>
    obtain ⟨j, hj, rfl, hinv⟩ := hrel
    have h8 := nd_le m
    have hlj : (dle m j).length = j := dle_length m j
    by_cases hq : j < nd m
    · have hq1 : 0 < m / 256 ^ j := Nat.pos_of_ne_zero fun e => by have := (nd_zero m j hm'.out (by omega)).1 e; omega
      have hq2 : m / 256 ^ j < 9223372036854775808 := Nat.lt_of_le_of_lt (Nat.div_le_self _ _) hm'.out
      have hnx := Lib.hid (show m / 256 ^ (j + 1) = m / 256 ^ j / 256 from by rw [Nat.div_div_eq_div_mul, Nat.pow_succ])
      have hsn := Lib.hid (show dle m (j + 1) = dle m j ++ [UInt8.ofNat (m / 256 ^ j % 256)] from rfl)
      have hlj' := Lib.hid hlj
      have hinv' := Lib.hid hinv
      have hz := hinv.2.size
      generalize m / 256 ^ j = q at *
      have hq3 : (0 : Int) < (q : Int) := by omega
      have hbv : Hid ([Value.int .u8 ((q : Int) % 256)] = bvs [UInt8.ofNat (q % 256)]) := Lib.hid (by simp only [bvs, List.map_cons, List.map_nil]; rw [UInt8.toNat_ofNat_of_lt' (by have := Nat.mod_lt q (show 0 < 256 by omega); simpa using this)]; rfl)
      clear hinv hlj
      go_wp2_with (at_builtin; refine wpList_append_own _ rfl _ _ 22 rfl w.heap.size 5 i0 (.int .u8 0) 1 1 Tryd.underlying22 hi hz0 hz1 hz2 rfl (by decide) _ _ _ rfl (hinv'.out.1.alloc _) ⟨wr.heap.size, 0, none⟩ 1 1 [.int .u8 ((q : Int) % 256)] rfl rfl (cell_one_new _ _ _) (by intro u hu; simp at hu; subst hu; rfl) (by rw [hlj'.out]; unfold maxLen; omega) (by rw [hlj'.out]; omega) (by simp; omega) ?_; intro v1 w1 ho1 hg1 _; rw [hbv.out] at ho1; have hI1 := Lib.hid (rowInv_grow hinv'.out (rowInv_alloc hinv'.out) ho1 hg1); clear ho1 hg1)
      refine ⟨⟨j + 1, by omega, by rw [hnx.out]; rfl, by rw [hsn.out]; exact hI1.out⟩, by simp [intOf]; omega⟩
    · have hj' : j = nd m := by omega
      subst hj'
      have hq0 : m / 256 ^ nd m = 0 := (nd_zero m _ hm'.out h8).2 (Nat.le_refl _)
      rw [hq0]
      obtain ⟨pd, cd, rfl, hRd, hnd, hcd, hmd, -⟩ := own_Rd hinv.1
      have hRd' := Lib.hid hRd
      have hb0 := Lib.hid hinv.2
      rw [hlj] at hnd ⊢
      have hz := hinv.2.size
      have hdig := Lib.hid (fun i (hi : i < nd m) => dle_byt m (nd m) i hi)
      have hlows := Lib.hid (fun t (ht : t < nd m) => lows_getD (nd m) m t ht)
      have hll := Lib.hid (lows_length (nd m) m)
      generalize hk : nd m = k at *
      have hk' := Lib.hid hk
      have hdl := Lib.hid hlj
      clear hk hinv hq hj hq0 hRd hnd hlj hcd
      have hq9 : (k : Int) ≤ 8 := by omega
      have hbv : Hid ([Value.int .u8 (128 + (k : Int))] = bvs [hd false k]) := Lib.hid (by simp only [bvs, List.map_cons, List.map_nil]; rw [hd_nat _ _ h8]; first | (simp; done) | (simp; omega))
      go_wp2_with (at_builtin; refine wpList_append_own _ rfl _ _ 22 rfl wr.heap.size 5 i0 (.int .u8 0) 1 1 Tryd.underlying22 hi hz0 hz1 hz2 rfl (by decide) _ _ _ rfl (World.ownsRow_nil _ _ _ _) ⟨wr.heap.size, 0, none⟩ 1 1 [.int .u8 (128 + (k : Int))] rfl rfl (cell_one_new _ _ _) (by intro u hu; simp at hu; subst hu; rfl) (by unfold maxLen; omega) (by omega) (by simp) ?_; intro v1 w1 ho1 hg1 _; rw [hbv.out] at ho1; have hI1 : Hid (RowInv wr v1 [hd false k] w1) := Lib.hid (rowInv_first ho1 hg1); clear ho1 hg1)
      obtain ⟨wo, rfl⟩ : ∃ wo : World, wo = wr := ⟨_, rfl⟩
      go_loopw [6, 7, 8] (fun v i _ wr => ∃ c : Nat, c ≤ k ∧ i = .int .i64 ((c : Int) - 1) ∧ RowInv wo v (hd false k :: ((lows k m).map (fx false)).take (k - c)) wr) (fun _ i _ _ => (intOf i + 1).toNat)
      case atStart => exact ⟨k, Nat.le_refl _, rfl, by rw [Nat.sub_self, List.take_zero]; exact hI1.out⟩
      case round =>
        obtain ⟨c, hc, rfl, hJ⟩ := hrel
        rcases Nat.eq_zero_or_pos c with hc0 | hc0
        · subst hc0
          have hJ' := Lib.hid hJ
          rw [show ((0 : Nat) : Int) - 1 = -1 from rfl]
          clear hJ hI1
          go_wp2
          go_ret
          have hfin := hJ'.out
          rw [Nat.sub_zero, List.take_of_length_le (by rw [List.length_map, hll.out]; exact Nat.le_refl _)] at hfin
          exact ⟨_, rfl, ownsRow_base hfin.1 hz, hb0.out.trans (hfin.2.mono hz)⟩
        · obtain ⟨j, rfl⟩ : ∃ j, c = j + 1 := ⟨c - 1, by omega⟩
          rw [show ((j + 1 : Nat) : Int) - 1 = (j : Int) from by omega]
          have hjk : j < k := by omega
          obtain ⟨b0, off, rfl, hcell0⟩ := Rd_at hRd'.out j (by rw [hdl.out]; exact hjk)
          have hcell := Below.cell_of' hJ.2 hcell0
          have hlo := byt_lo (dle m k) j
          have hhi := byt_hi (dle m k) j
          have hzz := hJ.2.size
          have hv := Lib.hid (hdig.out j hjk)
          have hj0 : 0 ≤ (j : Int) := by omega
          have hj1 : (j : Int) < (k : Int) := by omega
          have hlen : Hid ((hd false k :: ((lows k m).map (fx false)).take (k - (j + 1))).length = k - j) := Lib.hid (by simp [hll.out]; omega)
          have hstep : Hid ([Value.int .u8 (byt (dle m k) j)] = bvs [fx false ((lows k m).getD (k - (j + 1)) 0)]) := Lib.hid (by
            rw [hlows.out (k - (j + 1)) (by omega), show k - 1 - (k - (j + 1)) = j from by omega]
            simp only [bvs, List.map_cons, List.map_nil]
            rw [fx_nat, hv.out]
            first | rfl | (have := (UInt8.ofNat (m / 256 ^ j % 256)).toNat_lt; simp only [if_true]; congr 2; omega))
          have htake : Hid (((lows k m).map (fx false)).take (k - j) = ((lows k m).map (fx false)).take (k - (j + 1)) ++ [fx false ((lows k m).getD (k - (j + 1)) 0)]) := Lib.hid (by
            rw [show k - j = (k - (j + 1)) + 1 from by omega, List.take_succ_eq_append_getElem (by rw [List.length_map, hll.out]; omega)]
            have hlt : k - (j + 1) < (lows k m).length := by rw [hll.out]; omega
            simp [hlt])
          have hJ' := Lib.hid hJ
          clear hJ hI1 hcell0
          go_wp2_with (at_builtin; refine wpList_append_own _ rfl _ _ 22 rfl wo.heap.size 5 i0 (.int .u8 0) 1 1 Tryd.underlying22 hi hz0 hz1 hz2 rfl (by decide) _ _ _ rfl (hJ'.out.1.alloc _) ⟨wr.heap.size, 0, none⟩ 1 1 [.int .u8 (byt (dle m k) j)] rfl rfl (cell_one_new _ _ _) (by intro u hu; simp at hu; subst hu; rfl) (by rw [hlen.out]; unfold maxLen; omega) (by rw [hlen.out]; omega) (by simp; omega) ?_; intro v2 w2 ho2 hg2 _; rw [hstep.out] at ho2; have hI2 := Lib.hid (rowInv_grow hJ'.out (rowInv_alloc hJ'.out) ho2 hg2); clear ho2 hg2)
          refine ⟨⟨j, by omega, rfl, by rw [htake.out]; exact hI2.out⟩, by simp [intOf]⟩

set_option maxRecDepth 100000 in
set_option maxHeartbeats 1600000 in
theorem refInt_neg (n : Int) (m : Nat) (w : World) (hn : Hid (n = -1 - (m : Int))) (hm : m < 9223372036854775808) :
    Calls Tryd.prog 39 #[.int .i64 n] w (EncPost w (hd true (nd m) :: (lows (nd m) m).map (fx true))) := by
  rw [hn.out]
  clear hn
  have h0 : (-1 - (m : Int)) < 0 := by omega
  have h0' : (0 : Int) ≤ (m : Int) := by omega
  have h1 : (m : Int) ≤ 9223372036854775807 := by omega
  obtain ⟨i0, hi, hz0, hz1, hz2⟩ := info_parts info_u8
  have hm' := Lib.hid hm
  clear hm
  go_enter Tryd.func39, Tryd.ntmps39
  go_wp2
  go_loopw [3, 4] (fun q v wr => ∃ j : Nat, j ≤ nd m ∧ q = .int .i64 (m / 256 ^ j : Nat) ∧ RowInv w v (dle m j) wr) (fun q _ _ => (intOf q).toNat)
  case atStart => exact ⟨0, Nat.zero_le _, by simp; omega, World.ownsRow_nil _ _ _ _, Below.refl _ _⟩
  case round =>
    obtain ⟨j, hj, rfl, hinv⟩ := hrel
    have h8 := nd_le m
    have hlj : (dle m j).length = j := dle_length m j
    by_cases hq : j < nd m
    · have hq1 : 0 < m / 256 ^ j := Nat.pos_of_ne_zero fun e => by have := (nd_zero m j hm'.out (by omega)).1 e; omega
      have hq2 : m / 256 ^ j < 9223372036854775808 := Nat.lt_of_le_of_lt (Nat.div_le_self _ _) hm'.out
      have hnx := Lib.hid (show m / 256 ^ (j + 1) = m / 256 ^ j / 256 from by rw [Nat.div_div_eq_div_mul, Nat.pow_succ])
      have hsn := Lib.hid (show dle m (j + 1) = dle m j ++ [UInt8.ofNat (m / 256 ^ j % 256)] from rfl)
      have hlj' := Lib.hid hlj
      have hinv' := Lib.hid hinv
      have hz := hinv.2.size
      generalize m / 256 ^ j = q at *
      have hq3 : (0 : Int) < (q : Int) := by omega
      have hbv : Hid ([Value.int .u8 ((q : Int) % 256)] = bvs [UInt8.ofNat (q % 256)]) := Lib.hid (by simp only [bvs, List.map_cons, List.map_nil]; rw [UInt8.toNat_ofNat_of_lt' (by have := Nat.mod_lt q (show 0 < 256 by omega); simpa using this)]; rfl)
      clear hinv hlj
      go_wp2_with (at_builtin; refine wpList_append_own _ rfl _ _ 22 rfl w.heap.size 5 i0 (.int .u8 0) 1 1 Tryd.underlying22 hi hz0 hz1 hz2 rfl (by decide) _ _ _ rfl (hinv'.out.1.alloc _) ⟨wr.heap.size, 0, none⟩ 1 1 [.int .u8 ((q : Int) % 256)] rfl rfl (cell_one_new _ _ _) (by intro u hu; simp at hu; subst hu; rfl) (by rw [hlj'.out]; unfold maxLen; omega) (by rw [hlj'.out]; omega) (by simp; omega) ?_; intro v1 w1 ho1 hg1 _; rw [hbv.out] at ho1; have hI1 := Lib.hid (rowInv_grow hinv'.out (rowInv_alloc hinv'.out) ho1 hg1); clear ho1 hg1)
      refine ⟨⟨j + 1, by omega, by rw [hnx.out]; rfl, by rw [hsn.out]; exact hI1.out⟩, by simp [intOf]; omega⟩
    · have hj' : j = nd m := by omega
      subst hj'
      have hq0 : m / 256 ^ nd m = 0 := (nd_zero m _ hm'.out h8).2 (Nat.le_refl _)
      rw [hq0]
      obtain ⟨pd, cd, rfl, hRd, hnd, hcd, hmd, -⟩ := own_Rd hinv.1
      have hRd' := Lib.hid hRd
      have hb0 := Lib.hid hinv.2
      rw [hlj] at hnd ⊢
      have hz := hinv.2.size
      have hdig := Lib.hid (fun i (hi : i < nd m) => dle_byt m (nd m) i hi)
      have hlows := Lib.hid (fun t (ht : t < nd m) => lows_getD (nd m) m t ht)
      have hll := Lib.hid (lows_length (nd m) m)
      generalize hk : nd m = k at *
      have hk' := Lib.hid hk
      have hdl := Lib.hid hlj
      clear hk hinv hq hj hq0 hRd hnd hlj hcd
      have hq9 : (k : Int) ≤ 8 := by omega
      have hbv : Hid ([Value.int .u8 (127 - (k : Int))] = bvs [hd true k]) := Lib.hid (by simp only [bvs, List.map_cons, List.map_nil]; rw [hd_nat _ _ h8]; first | (simp; done) | (simp; omega))
      go_wp2_with (at_builtin; refine wpList_append_own _ rfl _ _ 22 rfl wr.heap.size 5 i0 (.int .u8 0) 1 1 Tryd.underlying22 hi hz0 hz1 hz2 rfl (by decide) _ _ _ rfl (World.ownsRow_nil _ _ _ _) ⟨wr.heap.size, 0, none⟩ 1 1 [.int .u8 (127 - (k : Int))] rfl rfl (cell_one_new _ _ _) (by intro u hu; simp at hu; subst hu; rfl) (by unfold maxLen; omega) (by omega) (by simp) ?_; intro v1 w1 ho1 hg1 _; rw [hbv.out] at ho1; have hI1 : Hid (RowInv wr v1 [hd true k] w1) := Lib.hid (rowInv_first ho1 hg1); clear ho1 hg1)
      obtain ⟨wo, rfl⟩ : ∃ wo : World, wo = wr := ⟨_, rfl⟩
      go_loopw [6, 7, 8] (fun v i _ wr => ∃ c : Nat, c ≤ k ∧ i = .int .i64 ((c : Int) - 1) ∧ RowInv wo v (hd true k :: ((lows k m).map (fx true)).take (k - c)) wr) (fun _ i _ _ => (intOf i + 1).toNat)
      case atStart => exact ⟨k, Nat.le_refl _, rfl, by rw [Nat.sub_self, List.take_zero]; exact hI1.out⟩
      case round =>
        obtain ⟨c, hc, rfl, hJ⟩ := hrel
        rcases Nat.eq_zero_or_pos c with hc0 | hc0
        · subst hc0
          have hJ' := Lib.hid hJ
          rw [show ((0 : Nat) : Int) - 1 = -1 from rfl]
          clear hJ hI1
          go_wp2
          go_ret
          have hfin := hJ'.out
          rw [Nat.sub_zero, List.take_of_length_le (by rw [List.length_map, hll.out]; exact Nat.le_refl _)] at hfin
          exact ⟨_, rfl, ownsRow_base hfin.1 hz, hb0.out.trans (hfin.2.mono hz)⟩
        · obtain ⟨j, rfl⟩ : ∃ j, c = j + 1 := ⟨c - 1, by omega⟩
          rw [show ((j + 1 : Nat) : Int) - 1 = (j : Int) from by omega]
          have hjk : j < k := by omega
          obtain ⟨b0, off, rfl, hcell0⟩ := Rd_at hRd'.out j (by rw [hdl.out]; exact hjk)
          have hcell := Below.cell_of' hJ.2 hcell0
          have hlo := byt_lo (dle m k) j
          have hhi := byt_hi (dle m k) j
          have hzz := hJ.2.size
          have hv := Lib.hid (hdig.out j hjk)
          have hj0 : 0 ≤ (j : Int) := by omega
          have hj1 : (j : Int) < (k : Int) := by omega
          have hlen : Hid ((hd true k :: ((lows k m).map (fx true)).take (k - (j + 1))).length = k - j) := Lib.hid (by simp [hll.out]; omega)
          have hstep : Hid ([Value.int .u8 (255 - byt (dle m k) j)] = bvs [fx true ((lows k m).getD (k - (j + 1)) 0)]) := Lib.hid (by
            rw [hlows.out (k - (j + 1)) (by omega), show k - 1 - (k - (j + 1)) = j from by omega]
            simp only [bvs, List.map_cons, List.map_nil]
            rw [fx_nat, hv.out]
            first | rfl | (have := (UInt8.ofNat (m / 256 ^ j % 256)).toNat_lt; simp only [if_true]; congr 2; omega))
          have htake : Hid (((lows k m).map (fx true)).take (k - j) = ((lows k m).map (fx true)).take (k - (j + 1)) ++ [fx true ((lows k m).getD (k - (j + 1)) 0)]) := Lib.hid (by
            rw [show k - j = (k - (j + 1)) + 1 from by omega, List.take_succ_eq_append_getElem (by rw [List.length_map, hll.out]; omega)]
            have hlt : k - (j + 1) < (lows k m).length := by rw [hll.out]; omega
            simp [hlt])
          have hJ' := Lib.hid hJ
          clear hJ hI1 hcell0
          go_wp2_with (at_builtin; refine wpList_append_own _ rfl _ _ 22 rfl wo.heap.size 5 i0 (.int .u8 0) 1 1 Tryd.underlying22 hi hz0 hz1 hz2 rfl (by decide) _ _ _ rfl (hJ'.out.1.alloc _) ⟨wr.heap.size, 0, none⟩ 1 1 [.int .u8 (255 - byt (dle m k) j)] rfl rfl (cell_one_new _ _ _) (by intro u hu; simp at hu; subst hu; rfl) (by rw [hlen.out]; unfold maxLen; omega) (by rw [hlen.out]; omega) (by simp; omega) ?_; intro v2 w2 ho2 hg2 _; rw [hstep.out] at ho2; have hI2 := Lib.hid (rowInv_grow hJ'.out (rowInv_alloc hJ'.out) ho2 hg2); clear ho2 hg2)
          refine ⟨⟨j, by omega, rfl, by rw [htake.out]; exact hI2.out⟩, by simp [intOf]⟩

theorem refInt_any (n : Int) (w : World) (h1 : -9223372036854775808 ≤ n) (h2 : n ≤ 9223372036854775807) :
    Calls Tryd.prog 39 #[.int .i64 n] w (EncPost w (enc n)) := by
  have hm := mgn_lt n h1 h2
  unfold enc
  by_cases c : n < 0
  · have e : neg n = true := by simp [neg, c]
    rw [e]
    exact refInt_neg n (mgn n) w (show n = _ by unfold mgn; rw [if_pos c]; omega) hm
  · have e : neg n = false := by simp [neg, c]
    rw [e]
    exact refInt_pos n (mgn n) w (show n = _ by unfold mgn; rw [if_neg c]; omega) hm

end Go.Proofs.YtfgkaiaapofepaaDoor
