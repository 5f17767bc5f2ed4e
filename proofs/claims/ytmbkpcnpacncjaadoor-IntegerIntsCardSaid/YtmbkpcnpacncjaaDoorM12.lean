/- Contracts of the package integer and its reference: sherdref01.Int (as in the texts of stage 1). sherdref01.Ints (as in the texts of stage 1). Appending a list to a row of one; the bytes of a code. integer.Text. integer.Encode. -/
import Derived.Test.YtmbkpcnpacncjaaDoorM11
import Derived.Test.YtmbkpcnpacncjaaDoorM5
import Derived.Test.YtmbkpcnpacncjaaDoorM6
import Derived.Lib.AppendIntMem
import Derived.Lib.ItoaLen
import Derived.OwnWalk
import Derived.BigCall
import Derived.Test.YtmbkpcnpacncjaaDoorM8
set_option linter.unusedVariables false
namespace Go.Proofs.YtmbkpcnpacncjaaDoor
open Go.RowKit
theorem RowInv.alloc {w wr : World} {v : Value} {l : List UInt8} (h : RowInv w v l wr) (o : Obj) : RowInv w v l (wr.alloc o) :=
  ⟨h.1.alloc o, h.2.alloc h.2.size o⟩

section
variable {w : World} {base n : Nat} {v : Value}
theorem own_cells {e : TypeId} {size : Nat} {xs : List Value} (h : w.ownsRow base e size v n xs) : xs = [] ∧ v = .slice none 0 0 ∧ n = 0 ∨ ∃ g c, v = .slice (some ⟨g, 0, none⟩) n c ∧ n ≤ c ∧ c ≤ maxLen ∧ base ≤ g ∧ ∀ i u, xs[i]? = some u → w.cell? ⟨g, i, none⟩ = some u := by
  rcases h.2 with ⟨rfl, rfl⟩ | ⟨g, cap, cur, rfl, hg, hh, hc, hm, hs, ht⟩
  · left
    refine ⟨List.eq_nil_of_length_eq_zero (by rw [h.1]; simp), rfl, rfl⟩
  · right
    refine ⟨g, cap, rfl, hc, hm, hg, fun i u hu => ?_⟩
    have := h.cells (g := g) rfl i u hu
    have ha : (⟨g, 0, none⟩ : Addr).add i = ⟨g, i, none⟩ := by unfold Addr.add; split <;> simp_all
    rwa [ha] at this

/-- an owned row of bytes, as a slice that reads as the bytes -/
theorem own_Rd {l : List UInt8} (h : w.ownsRow base 5 1 v n (bvs l)) : ∃ p c, v = .slice p n c ∧ Rd w p l ∧ n = l.length ∧ n ≤ c ∧ c ≤ 9223372036854775807 ∧ ∀ q, p = some q → base ≤ q.block := by
  have hn : n = l.length := by have := h.1; rw [bvs_length] at this; omega
  rcases own_cells h with ⟨h1, rfl, rfl⟩ | ⟨g, c, rfl, hc, hm, hg, hcell⟩
  · exact ⟨none, 0, rfl, .inl (by simpa [bvs] using h1), hn, Nat.le_refl _, by omega, fun q hq => by cases hq⟩
  · refine ⟨_, c, rfl, .inr ⟨g, 0, rfl, fun i hi => ?_⟩, hn, hc, by unfold maxLen at hm; omega, fun q hq => by cases hq; exact hg⟩
    rw [Nat.zero_add]
    apply hcell
    simp [bvs, byt, hi]

end

theorem hd_nat (g : Bool) (k : Nat) (h : k ≤ 8) : (hd g k).toNat = if g then 127 - k else 128 + k := by
  unfold hd
  cases g
  · simp only [Bool.false_eq_true, if_false]
    rw [UInt8.toNat_ofNat_of_lt' (by show _ < 256; omega)]
  · simp only [if_true]
    rw [UInt8.toNat_ofNat_of_lt' (by show _ < 256; omega)]
theorem ownsRow_base {w : World} {base base' : Nat} {e : TypeId} {size : Nat} {v : Value} {n : Nat} {xs : List Value} (h : w.ownsRow base e size v n xs) (hb : base' ≤ base) : w.ownsRow base' e size v n xs := by
  refine ⟨h.1, ?_⟩
  rcases h.2 with h | ⟨g, cap, cur, hv, hg, r⟩
  · exact .inl h
  · exact .inr ⟨g, cap, cur, hv, by omega, r⟩
def Grow (w : World) (v : Value) (l : List UInt8) (wr : World) : Prop := wr.ownsRow w.heap.size 5 1 v l.length (bvs l) ∧ Below w.heap.size w wr
theorem Grow.later {w wr w' : World} {v : Value} {l : List UInt8} (h : Grow w v l wr) (hb : Below wr.heap.size wr w') : Grow w v l w' :=
  ⟨h.1.kept (below_grown hb none) (by cases v.ownBlock <;> simp), h.2.trans (hb.mono h.2.size)⟩
theorem Grow.append {w wr w' : World} {v v' : Value} {l r : List UInt8} (h : Grow w v l wr) (ho : w'.ownsRow w.heap.size 5 1 v' (l.length + r.length) (bvs l ++ bvs r)) (hg : wr.grownBy w' v.ownBlock) : Grow w v' (l ++ r) w' :=
  ⟨by rw [List.length_append, bvs_append]; exact ho, h.2.grown hg h.2.size (fun k hk => (h.1.lt k hk).1)⟩



/-- the j lowest digits, least significant first -/
def dle (m : Nat) : Nat → List UInt8
  | 0 => []
  | j + 1 => dle m j ++ [UInt8.ofNat (m / 256 ^ j % 256)]
theorem dle_length (m j : Nat) : (dle m j).length = j := by
  induction j with
  | zero => rfl
  | succ j ih => simp [dle, ih]
theorem dle_getD (m : Nat) : ∀ (j i : Nat), i < j → (dle m j).getD i 0 = UInt8.ofNat (m / 256 ^ i % 256)
  | 0, i, h => by omega
  | j + 1, i, h => by
    simp only [dle]
    rcases Nat.lt_or_ge i j with h1 | h1
    · rw [List.getD_eq_getElem?_getD, List.getElem?_append_left (by rw [dle_length]; exact h1), ← List.getD_eq_getElem?_getD, dle_getD m j i h1]
    · have : i = j := by omega
      subst this
      rw [List.getD_eq_getElem?_getD, List.getElem?_append_right (by rw [dle_length]; exact Nat.le_refl _), dle_length]
      simp
theorem dle_byt (m j i : Nat) (h : i < j) : byt (dle m j) i = ((UInt8.ofNat (m / 256 ^ i % 256)).toNat : Int) := by unfold byt; rw [dle_getD m j i h]

theorem rowInv_alloc {w wr : World} {v : Value} {l : List UInt8} (h : RowInv w v l wr) {o : Obj} : RowInv w v l (wr.alloc o) := h.alloc o
theorem rowInv_grow {w wr w1 : World} {v v1 : Value} {l r : List UInt8} {o : Obj} (h : RowInv w v l wr) (_h : RowInv w v l (wr.alloc o)) (ho : w1.ownsRow w.heap.size 5 1 v1 (l.length + 1) (bvs l ++ bvs r)) (hg : (wr.alloc o).grownBy w1 v.ownBlock) (hr : r.length = 1 := by rfl) : RowInv w v1 (l ++ r) w1 :=
  ⟨by rw [List.length_append, bvs_append, hr]; exact ho, (h.2.alloc h.2.size o).grown hg (by have := h.2.size; simp; omega) (fun k hk => (h.1.lt k hk).1)⟩
theorem rowInv_first {wr w1 : World} {v1 : Value} {b : UInt8} {o : Obj} (ho : w1.ownsRow wr.heap.size 5 1 v1 (0 + 1) ([] ++ bvs [b])) (hg : (wr.alloc o).grownBy w1 (Value.slice none 0 0).ownBlock) : RowInv wr v1 [b] w1 :=
  ⟨ho, ((Below.refl _ wr).alloc (Nat.le_refl _) o).grown hg (by simp) (fun k hk => by cases hk)⟩

set_option maxRecDepth 100000 in
set_option maxHeartbeats 1600000 in
theorem refInt_pos (n : Int) (m : Nat) (w : World) (hn : Hid (n = (m : Int))) (hm : m < 9223372036854775808) :
    Calls Tryd.prog 54 #[.int .i64 n] w (EncPost w (hd false (nd m) :: (lows (nd m) m).map (fx false))) := by
  rw [hn.out]
  clear hn
  have h0 : (0 : Int) ≤ (m : Int) := by omega
  have h0' : (0 : Int) ≤ (m : Int) := by omega
  have h1 : (m : Int) ≤ 9223372036854775807 := by omega
  obtain ⟨i0, hi, hz0, hz1, hz2⟩ := info_parts info_u8
  have hm' := Lib.hid hm
  clear hm
  go_enter Tryd.func54, Tryd.ntmps54
  go_wp2
  go_loopw [3, 4] (fun q v wr => ∃ j : Nat, j ≤ nd m ∧ q = .int .i64 (m / 256 ^ j : Nat) ∧ RowInv w v (dle m j) wr) (fun q _ _ => (intOf q).toNat)
  case atStart => exact ⟨0, Nat.zero_le _, by simp, World.ownsRow_nil _ _ _ _, Below.refl _ _⟩
  case round =>
    obtain ⟨j, hj, rfl, hinv⟩ := hrel
    have h8 := nd_le m
    have hlj : (dle m j).length = j := dle_length m j
    by_cases hq : j < nd m
    · have hq1 : 0 < m / 256 ^ j := Nat.pos_of_ne_zero fun e => by have := (nd_zero m j hm'.out (by omega)).1 e; omega
      have hq2 : m / 256 ^ j < 9223372036854775808 := Nat.lt_of_le_of_lt (Nat.div_le_self _ _) hm'.out
      have hnx := Lib.hid (show m / 256 ^ (j + 1) = m / 256 ^ j / 256 from by rw [Nat.div_div_eq_div_mul, Nat.pow_succ])
      have hsn := Lib.hid (show dle m (j + 1) = dle m j ++ [UInt8.ofNat (m / 256 ^ j % 256)] from rfl)
      have hlj' := Lib.hid hlj
      have hinv' := Lib.hid hinv
      have hz := hinv.2.size
      generalize m / 256 ^ j = q at *
      have hq3 : (0 : Int) < (q : Int) := by omega
      have hbv : Hid ([Value.int .u8 ((q : Int) % 256)] = bvs [UInt8.ofNat (q % 256)]) := Lib.hid (by simp only [bvs, List.map_cons, List.map_nil]; rw [UInt8.toNat_ofNat_of_lt' (by have := Nat.mod_lt q (show 0 < 256 by omega); simpa using this)]; rfl)
      clear hinv hlj
      go_wp2_with (at_builtin; refine wpList_append_own _ rfl _ _ 55 rfl w.heap.size 5 i0 (.int .u8 0) 1 1 Tryd.underlying55 hi hz0 hz1 hz2 rfl (by decide) _ _ _ rfl (hinv'.out.1.alloc _) ⟨wr.heap.size, 0, none⟩ 1 1 [.int .u8 ((q : Int) % 256)] rfl rfl (cell_one_new _ _ _) (by intro u hu; simp at hu; subst hu; rfl) (by rw [hlj'.out]; unfold maxLen; omega) (by rw [hlj'.out]; omega) (by simp; omega) ?_; intro v1 w1 ho1 hg1 _; rw [hbv.out] at ho1; have hI1 := Lib.hid (rowInv_grow hinv'.out (rowInv_alloc hinv'.out) ho1 hg1); clear ho1 hg1)
      refine ⟨⟨j + 1, by omega, by rw [hnx.out]; rfl, by rw [hsn.out]; exact hI1.out⟩, by simp [intOf]; omega⟩
    · have hj' : j = nd m := by omega
      subst hj'
      have hq0 : m / 256 ^ nd m = 0 := (nd_zero m _ hm'.out h8).2 (Nat.le_refl _)
      rw [hq0]
      obtain ⟨pd, cd, rfl, hRd, hnd, hcd, hmd, -⟩ := own_Rd hinv.1
      have hRd' := Lib.hid hRd
      have hb0 := Lib.hid hinv.2
      rw [hlj] at hnd ⊢
      have hz := hinv.2.size
      have hdig := Lib.hid (fun i (hi : i < nd m) => dle_byt m (nd m) i hi)
      have hlows := Lib.hid (fun t (ht : t < nd m) => lows_getD (nd m) m t ht)
      have hll := Lib.hid (lows_length (nd m) m)
      generalize hk : nd m = k at *
      have hk' := Lib.hid hk
      have hdl := Lib.hid hlj
      clear hk hinv hq hj hq0 hRd hnd hlj hcd
      have hq9 : (k : Int) ≤ 8 := by omega
      have hbv : Hid ([Value.int .u8 (128 + (k : Int))] = bvs [hd false k]) := Lib.hid (by simp only [bvs, List.map_cons, List.map_nil]; rw [hd_nat _ _ h8]; first | (simp; done) | (simp; omega))
      go_wp2_with (at_builtin; refine wpList_append_own _ rfl _ _ 55 rfl wr.heap.size 5 i0 (.int .u8 0) 1 1 Tryd.underlying55 hi hz0 hz1 hz2 rfl (by decide) _ _ _ rfl (World.ownsRow_nil _ _ _ _) ⟨wr.heap.size, 0, none⟩ 1 1 [.int .u8 (128 + (k : Int))] rfl rfl (cell_one_new _ _ _) (by intro u hu; simp at hu; subst hu; rfl) (by unfold maxLen; omega) (by omega) (by simp) ?_; intro v1 w1 ho1 hg1 _; rw [hbv.out] at ho1; have hI1 : Hid (RowInv wr v1 [hd false k] w1) := Lib.hid (rowInv_first ho1 hg1); clear ho1 hg1)
      obtain ⟨wo, rfl⟩ : ∃ wo : World, wo = wr := ⟨_, rfl⟩
      go_loopw [6, 7, 8] (fun v i _ wr => ∃ c : Nat, c ≤ k ∧ i = .int .i64 ((c : Int) - 1) ∧ RowInv wo v (hd false k :: ((lows k m).map (fx false)).take (k - c)) wr) (fun _ i _ _ => (intOf i + 1).toNat)
      case atStart => exact ⟨k, Nat.le_refl _, rfl, by rw [Nat.sub_self, List.take_zero]; exact hI1.out⟩
      case round =>
        obtain ⟨c, hc, rfl, hJ⟩ := hrel
        rcases Nat.eq_zero_or_pos c with hc0 | hc0
        · subst hc0
          have hJ' := Lib.hid hJ
          rw [show ((0 : Nat) : Int) - 1 = -1 from rfl]
          clear hJ hI1
          go_wp2
          go_ret
          have hfin := hJ'.out
          rw [Nat.sub_zero, List.take_of_length_le (by rw [List.length_map, hll.out]; exact Nat.le_refl _)] at hfin
          exact ⟨_, rfl, ownsRow_base hfin.1 hz, hb0.out.trans (hfin.2.mono hz)⟩
        · obtain ⟨j, rfl⟩ : ∃ j, c = j + 1 := ⟨c - 1, by omega⟩
          rw [show ((j + 1 : Nat) : Int) - 1 = (j : Int) from by omega]
          have hjk : j < k := by omega
          obtain ⟨b0, off, rfl, hcell0⟩ := Rd_at hRd'.out j (by rw [hdl.out]; exact hjk)
          have hcell := Below.cell_of' hJ.2 hcell0
          have hlo := byt_lo (dle m k) j
          have hhi := byt_hi (dle m k) j
          have hzz := hJ.2.size
          have hv := Lib.hid (hdig.out j hjk)
          have hj0 : 0 ≤ (j : Int) := by omega
          have hj1 : (j : Int) < (k : Int) := by omega
          have hlen : Hid ((hd false k :: ((lows k m).map (fx false)).take (k - (j + 1))).length = k - j) := Lib.hid (by simp [hll.out]; omega)
          have hstep : Hid ([Value.int .u8 (byt (dle m k) j)] = bvs [fx false ((lows k m).getD (k - (j + 1)) 0)]) := Lib.hid (by
            rw [hlows.out (k - (j + 1)) (by omega), show k - 1 - (k - (j + 1)) = j from by omega]
            simp only [bvs, List.map_cons, List.map_nil]
            rw [fx_nat, hv.out]
            first | rfl | (have := (UInt8.ofNat (m / 256 ^ j % 256)).toNat_lt; simp only [if_true]; congr 2; omega))
          have htake : Hid (((lows k m).map (fx false)).take (k - j) = ((lows k m).map (fx false)).take (k - (j + 1)) ++ [fx false ((lows k m).getD (k - (j + 1)) 0)]) := Lib.hid (by
            rw [show k - j = (k - (j + 1)) + 1 from by omega, List.take_succ_eq_append_getElem (by rw [List.length_map, hll.out]; omega)]
            have hlt : k - (j + 1) < (lows k m).length := by rw [hll.out]; omega
            simp [hlt])
          have hJ' := Lib.hid hJ
          clear hJ hI1 hcell0
          go_wp2_with (at_builtin; refine wpList_append_own _ rfl _ _ 55 rfl wo.heap.size 5 i0 (.int .u8 0) 1 1 Tryd.underlying55 hi hz0 hz1 hz2 rfl (by decide) _ _ _ rfl (hJ'.out.1.alloc _) ⟨wr.heap.size, 0, none⟩ 1 1 [.int .u8 (byt (dle m k) j)] rfl rfl (cell_one_new _ _ _) (by intro u hu; simp at hu; subst hu; rfl) (by rw [hlen.out]; unfold maxLen; omega) (by rw [hlen.out]; omega) (by simp; omega) ?_; intro v2 w2 ho2 hg2 _; rw [hstep.out] at ho2; have hI2 := Lib.hid (rowInv_grow hJ'.out (rowInv_alloc hJ'.out) ho2 hg2); clear ho2 hg2)
          refine ⟨⟨j, by omega, rfl, by rw [htake.out]; exact hI2.out⟩, by simp [intOf]⟩

set_option maxRecDepth 100000 in
set_option maxHeartbeats 1600000 in
theorem refInt_neg (n : Int) (m : Nat) (w : World) (hn : Hid (n = -1 - (m : Int))) (hm : m < 9223372036854775808) :
    Calls Tryd.prog 54 #[.int .i64 n] w (EncPost w (hd true (nd m) :: (lows (nd m) m).map (fx true))) := by
  rw [hn.out]
  clear hn
  have h0 : (-1 - (m : Int)) < 0 := by omega
  have h0' : (0 : Int) ≤ (m : Int) := by omega
  have h1 : (m : Int) ≤ 9223372036854775807 := by omega
  obtain ⟨i0, hi, hz0, hz1, hz2⟩ := info_parts info_u8
  have hm' := Lib.hid hm
  clear hm
  go_enter Tryd.func54, Tryd.ntmps54
  go_wp2
  go_loopw [3, 4] (fun q v wr => ∃ j : Nat, j ≤ nd m ∧ q = .int .i64 (m / 256 ^ j : Nat) ∧ RowInv w v (dle m j) wr) (fun q _ _ => (intOf q).toNat)
  case atStart => exact ⟨0, Nat.zero_le _, by simp; omega, World.ownsRow_nil _ _ _ _, Below.refl _ _⟩
  case round =>
    obtain ⟨j, hj, rfl, hinv⟩ := hrel
    have h8 := nd_le m
    have hlj : (dle m j).length = j := dle_length m j
    by_cases hq : j < nd m
    · have hq1 : 0 < m / 256 ^ j := Nat.pos_of_ne_zero fun e => by have := (nd_zero m j hm'.out (by omega)).1 e; omega
      have hq2 : m / 256 ^ j < 9223372036854775808 := Nat.lt_of_le_of_lt (Nat.div_le_self _ _) hm'.out
      have hnx := Lib.hid (show m / 256 ^ (j + 1) = m / 256 ^ j / 256 from by rw [Nat.div_div_eq_div_mul, Nat.pow_succ])
      have hsn := Lib.hid (show dle m (j + 1) = dle m j ++ [UInt8.ofNat (m / 256 ^ j % 256)] from rfl)
      have hlj' := Lib.hid hlj
      have hinv' := Lib.hid hinv
      have hz := hinv.2.size
      generalize m / 256 ^ j = q at *
      have hq3 : (0 : Int) < (q : Int) := by omega
      have hbv : Hid ([Value.int .u8 ((q : Int) % 256)] = bvs [UInt8.ofNat (q % 256)]) := Lib.hid (by simp only [bvs, List.map_cons, List.map_nil]; rw [UInt8.toNat_ofNat_of_lt' (by have := Nat.mod_lt q (show 0 < 256 by omega); simpa using this)]; rfl)
      clear hinv hlj
      go_wp2_with (at_builtin; refine wpList_append_own _ rfl _ _ 55 rfl w.heap.size 5 i0 (.int .u8 0) 1 1 Tryd.underlying55 hi hz0 hz1 hz2 rfl (by decide) _ _ _ rfl (hinv'.out.1.alloc _) ⟨wr.heap.size, 0, none⟩ 1 1 [.int .u8 ((q : Int) % 256)] rfl rfl (cell_one_new _ _ _) (by intro u hu; simp at hu; subst hu; rfl) (by rw [hlj'.out]; unfold maxLen; omega) (by rw [hlj'.out]; omega) (by simp; omega) ?_; intro v1 w1 ho1 hg1 _; rw [hbv.out] at ho1; have hI1 := Lib.hid (rowInv_grow hinv'.out (rowInv_alloc hinv'.out) ho1 hg1); clear ho1 hg1)
      refine ⟨⟨j + 1, by omega, by rw [hnx.out]; rfl, by rw [hsn.out]; exact hI1.out⟩, by simp [intOf]; omega⟩
    · have hj' : j = nd m := by omega
      subst hj'
      have hq0 : m / 256 ^ nd m = 0 := (nd_zero m _ hm'.out h8).2 (Nat.le_refl _)
      rw [hq0]
      obtain ⟨pd, cd, rfl, hRd, hnd, hcd, hmd, -⟩ := own_Rd hinv.1
      have hRd' := Lib.hid hRd
      have hb0 := Lib.hid hinv.2
      rw [hlj] at hnd ⊢
      have hz := hinv.2.size
      have hdig := Lib.hid (fun i (hi : i < nd m) => dle_byt m (nd m) i hi)
      have hlows := Lib.hid (fun t (ht : t < nd m) => lows_getD (nd m) m t ht)
      have hll := Lib.hid (lows_length (nd m) m)
      generalize hk : nd m = k at *
      have hk' := Lib.hid hk
      have hdl := Lib.hid hlj
      clear hk hinv hq hj hq0 hRd hnd hlj hcd
      have hq9 : (k : Int) ≤ 8 := by omega
      have hbv : Hid ([Value.int .u8 (127 - (k : Int))] = bvs [hd true k]) := Lib.hid (by simp only [bvs, List.map_cons, List.map_nil]; rw [hd_nat _ _ h8]; first | (simp; done) | (simp; omega))
      go_wp2_with (at_builtin; refine wpList_append_own _ rfl _ _ 55 rfl wr.heap.size 5 i0 (.int .u8 0) 1 1 Tryd.underlying55 hi hz0 hz1 hz2 rfl (by decide) _ _ _ rfl (World.ownsRow_nil _ _ _ _) ⟨wr.heap.size, 0, none⟩ 1 1 [.int .u8 (127 - (k : Int))] rfl rfl (cell_one_new _ _ _) (by intro u hu; simp at hu; subst hu; rfl) (by unfold maxLen; omega) (by omega) (by simp) ?_; intro v1 w1 ho1 hg1 _; rw [hbv.out] at ho1; have hI1 : Hid (RowInv wr v1 [hd true k] w1) := Lib.hid (rowInv_first ho1 hg1); clear ho1 hg1)
      obtain ⟨wo, rfl⟩ : ∃ wo : World, wo = wr := ⟨_, rfl⟩
      go_loopw [6, 7, 8] (fun v i _ wr => ∃ c : Nat, c ≤ k ∧ i = .int .i64 ((c : Int) - 1) ∧ RowInv wo v (hd true k :: ((lows k m).map (fx true)).take (k - c)) wr) (fun _ i _ _ => (intOf i + 1).toNat)
      case atStart => exact ⟨k, Nat.le_refl _, rfl, by rw [Nat.sub_self, List.take_zero]; exact hI1.out⟩
      case round =>
        obtain ⟨c, hc, rfl, hJ⟩ := hrel
        rcases Nat.eq_zero_or_pos c with hc0 | hc0
        · subst hc0
          have hJ' := Lib.hid hJ
          rw [show ((0 : Nat) : Int) - 1 = -1 from rfl]
          clear hJ hI1
          go_wp2
          go_ret
          have hfin := hJ'.out
          rw [Nat.sub_zero, List.take_of_length_le (by rw [List.length_map, hll.out]; exact Nat.le_refl _)] at hfin
          exact ⟨_, rfl, ownsRow_base hfin.1 hz, hb0.out.trans (hfin.2.mono hz)⟩
        · obtain ⟨j, rfl⟩ : ∃ j, c = j + 1 := ⟨c - 1, by omega⟩
          rw [show ((j + 1 : Nat) : Int) - 1 = (j : Int) from by omega]
          have hjk : j < k := by omega
          obtain ⟨b0, off, rfl, hcell0⟩ := Rd_at hRd'.out j (by rw [hdl.out]; exact hjk)
          have hcell := Below.cell_of' hJ.2 hcell0
          have hlo := byt_lo (dle m k) j
          have hhi := byt_hi (dle m k) j
          have hzz := hJ.2.size
          have hv := Lib.hid (hdig.out j hjk)
          have hj0 : 0 ≤ (j : Int) := by omega
          have hj1 : (j : Int) < (k : Int) := by omega
          have hlen : Hid ((hd true k :: ((lows k m).map (fx true)).take (k - (j + 1))).length = k - j) := Lib.hid (by simp [hll.out]; omega)
          have hstep : Hid ([Value.int .u8 (255 - byt (dle m k) j)] = bvs [fx true ((lows k m).getD (k - (j + 1)) 0)]) := Lib.hid (by
            rw [hlows.out (k - (j + 1)) (by omega), show k - 1 - (k - (j + 1)) = j from by omega]
            simp only [bvs, List.map_cons, List.map_nil]
            rw [fx_nat, hv.out]
            first | rfl | (have := (UInt8.ofNat (m / 256 ^ j % 256)).toNat_lt; simp only [if_true]; congr 2; omega))
          have htake : Hid (((lows k m).map (fx true)).take (k - j) = ((lows k m).map (fx true)).take (k - (j + 1)) ++ [fx true ((lows k m).getD (k - (j + 1)) 0)]) := Lib.hid (by
            rw [show k - j = (k - (j + 1)) + 1 from by omega, List.take_succ_eq_append_getElem (by rw [List.length_map, hll.out]; omega)]
            have hlt : k - (j + 1) < (lows k m).length := by rw [hll.out]; omega
            simp [hlt])
          have hJ' := Lib.hid hJ
          clear hJ hI1 hcell0
          go_wp2_with (at_builtin; refine wpList_append_own _ rfl _ _ 55 rfl wo.heap.size 5 i0 (.int .u8 0) 1 1 Tryd.underlying55 hi hz0 hz1 hz2 rfl (by decide) _ _ _ rfl (hJ'.out.1.alloc _) ⟨wr.heap.size, 0, none⟩ 1 1 [.int .u8 (255 - byt (dle m k) j)] rfl rfl (cell_one_new _ _ _) (by intro u hu; simp at hu; subst hu; rfl) (by rw [hlen.out]; unfold maxLen; omega) (by rw [hlen.out]; omega) (by simp; omega) ?_; intro v2 w2 ho2 hg2 _; rw [hstep.out] at ho2; have hI2 := Lib.hid (rowInv_grow hJ'.out (rowInv_alloc hJ'.out) ho2 hg2); clear ho2 hg2)
          refine ⟨⟨j, by omega, rfl, by rw [htake.out]; exact hI2.out⟩, by simp [intOf]⟩

theorem refInt_any (n : Int) (w : World) (h1 : -9223372036854775808 ≤ n) (h2 : n ≤ 9223372036854775807) :
    Calls Tryd.prog 54 #[.int .i64 n] w (EncPost w (enc n)) := by
  have hm := mgn_lt n h1 h2
  unfold enc
  by_cases c : n < 0
  · have e : neg n = true := by simp [neg, c]
    rw [e]
    exact refInt_neg n (mgn n) w (show n = _ by unfold mgn; rw [if_pos c]; omega) hm
  · have e : neg n = false := by simp [neg, c]
    rw [e]
    exact refInt_pos n (mgn n) w (show n = _ by unfold mgn; rw [if_neg c]; omega) hm


end Go.Proofs.YtmbkpcnpacncjaaDoor

namespace Go.Proofs.YtmbkpcnpacncjaaDoor
open Go.RowKit


theorem enc_Rd {w w' : World} {l : List UInt8} {e : Ending} (h : EncPost w l e w') : ∃ p c, e = .returned (.slice p l.length c) ∧ Rd w' p l ∧ l.length ≤ c ∧ c ≤ 9223372036854775807 ∧ Below w.heap.size w w' := by
  obtain ⟨v, rfl, ho, hb⟩ := h
  obtain ⟨p, c, rfl, hR, hn, hc, hm, _⟩ := own_Rd ho
  exact ⟨p, c, rfl, hR, hc, hm, hb⟩
theorem Rd_news {w : World} {b off : Nat} {l : List UInt8} (h : ∀ i, i < l.length → w.cell? ⟨b, off + i, none⟩ = some (.int .u8 (byt l i))) : ∀ j u, (bvs l)[j]? = some u → w.cell? ((⟨b, off, none⟩ : Addr).add j) = some u := by
  intro j u hu
  have ha : (⟨b, off, none⟩ : Addr).add j = ⟨b, off + j, none⟩ := by unfold Addr.add; split <;> simp_all
  have hj : j < l.length := by
    rcases Nat.lt_or_ge j l.length with h1 | h1
    · exact h1
    · rw [List.getElem?_eq_none (by simpa [bvs] using h1)] at hu; cases hu
  rw [ha, h j hj, ← hu]
  simp [bvs, byt, hj]

theorem enc_news {w w' : World} {l : List UInt8} {e : Ending} (hl : 0 < l.length) (h : EncPost w l e w') : ∃ b o c, e = .returned (.slice (some ⟨b, o, none⟩) l.length c) ∧ (∀ j u, (bvs l)[j]? = some u → w'.cell? ((⟨b, o, none⟩ : Addr).add j) = some u) ∧ l.length ≤ c ∧ c ≤ 9223372036854775807 ∧ Below w.heap.size w w' := by
  obtain ⟨p, c, rfl, hR, hc, hm, hb⟩ := enc_Rd h
  rcases hR with rfl | ⟨b, o, rfl, hcc⟩
  · simp at hl
  · exact ⟨b, o, c, rfl, Rd_news hcc, hc, hm, hb⟩



set_option maxRecDepth 100000 in
set_option maxHeartbeats 800000 in
theorem refInts_any (a : Option Addr) (n c : Nat) (l : List Int) (w : World) (hR : Rdi w a l) (hn : Hid (n = l.length)) (hmax : n ≤ 70368744177664) (hw : Hid (i64s l)) (hlen : (encIs l).length ≤ 70368744177664) :
    Calls Tryd.prog 36 #[.slice a n c] w (EncPost w (encIs l)) := by
  have hR' := Lib.hid hR
  have hlen' := Lib.hid hlen
  clear hR hlen
  obtain ⟨i0, hi, hz0, hz1, hz2⟩ := info_parts info_u8
  go_enter Tryd.func36, Tryd.ntmps36
  go_wp2_with (go_at_call 54; refine (refInt_any _ _ (by omega) (by omega)).mono ?_; intro e w1 hp; obtain ⟨v0, rfl, h0, h0'⟩ := hp; have hI : Hid (Grow w v0 (enc (n : Int)) w1) := Lib.hid ⟨h0, h0'⟩; clear h0 h0')
  go_loopw [3, 4] (fun b i wr => ∃ k : Nat, k ≤ n ∧ i = .int .i64 k ∧ Grow w b (enc (n : Int) ++ (l.take k).flatMap enc) wr) (fun _ i _ => n - (intOf i).toNat)
  case atStart => exact ⟨0, Nat.zero_le _, rfl, by rw [List.take_zero, List.flatMap_nil, List.append_nil]; exact hI.out⟩
  case round =>
    obtain ⟨k, hk, rfl, hinv⟩ := hrel
    by_cases hlt : k < n
    · have hkl : k < l.length := by rw [← hn.out]; exact hlt
      obtain ⟨b0, off, rfl, hc⟩ := Rdi_at hR'.out k hkl
      have hcell := Below.cell_of' hinv.2 hc
      have hx := hw.out k hkl
      have hx1 := hx.1
      have hx2 := hx.2
      have hz := hinv.2.size
      have hl2 := Lib.hid (flat_take_le enc l (k + 1))
      have hl3 := hlen'.out
      have hinv' := Lib.hid hinv
      clear hinv hx hI
      have hll : (enc (n : Int) ++ (l.take k).flatMap enc).length + (enc (iat l k)).length ≤ 70368744177664 := by
        have := hl2.out
        rw [flat_take enc l k hkl 0, List.length_append, show enc (l.getD k 0) = enc (iat l k) from rfl] at this
        unfold encIs at hl3
        rw [List.length_append] at hl3 ⊢
        rw [hn.out]
        omega
      clear hl3
      have hk1 : Hid ((enc (iat l k)).length ≤ 9) := Lib.hid (enc_le _)
      have hk0 : Hid (0 < (enc (iat l k)).length) := Lib.hid (by rw [enc_length]; omega)
      have hki0 : 0 ≤ (k : Int) := by omega
      have hki : (k : Int) < (n : Int) := by omega
      go_wp2_with (first | (go_at_call 54; refine (refInt_any _ _ hx1 hx2).mono ?_; intro e w1 hp; obtain ⟨b1, o1, c1, rfl, hn1, hc1, hm1, hb1⟩ := enc_news hk0.out hp; have hn1' := Lib.hid hn1; have hG1 := Lib.hid (hinv'.out.later hb1); clear hp hn1 hb1 hc1 hm1) | (at_builtin; refine wpList_append_own _ rfl _ _ 55 rfl w.heap.size 5 i0 (.int .u8 0) 1 1 Tryd.underlying55 hi hz0 hz1 hz2 rfl (by decide) _ _ _ rfl hG1.out.1 ⟨b1, o1, none⟩ (enc (iat l k)).length c1 (bvs (enc (iat l k))) rfl (by rw [bvs_length, Nat.mul_one]) hn1'.out (bvs_one _) (by unfold maxLen; omega) (by omega) hG1.out.2.size ?_; intro v2 w2 ho2 hg2 _; have hG2 := Lib.hid (hG1.out.append (r := enc (iat l k)) ho2 hg2); clear ho2 hg2))
      refine ⟨⟨k + 1, by omega, by simp, ?_⟩, by simp [intOf]; omega⟩
      rw [flat_take enc l k hkl 0, ← List.append_assoc]
      exact hG2.out
    · have hk' : k = n := by omega
      subst hk'
      rw [hn.out, List.take_length] at hinv
      have hJ := Lib.hid hinv
      clear hinv hI
      go_wp2
      go_ret
      exact ⟨_, rfl, hJ.out.1, hJ.out.2⟩


end Go.Proofs.YtmbkpcnpacncjaaDoor

namespace Go.Proofs.YtmbkpcnpacncjaaDoor
open Go.RowKit

theorem zvs_append (a b : List Int) : zvs (a ++ b) = zvs a ++ zvs b := by simp [zvs]
theorem append_one (g : Nat) (s : Int) (p : Option Addr) (n c : Nat) (D : List Int) (W : World) (hB : Blk W g [s]) (hR : Rdi W p D) (hn : n = D.length) (hlim : n ≤ 1099511627776) :
    ∃ pp cc W', (Builtin.append_ #[22, 22] 22 #[.slice (some ⟨g, 0, none⟩) 1 1, .slice p n c]).run Tryd.prog W = .ok (.slice pp (n + 1) cc) W' ∧ Rdi W' pp (s :: D) ∧ n + 1 ≤ cc ∧ cc ≤ 9223372036854775807 ∧ Below W.heap.size W W' := by
  obtain ⟨i0, hi, hz0, hz1, hz2⟩ := info_parts info_i64
  by_cases h0 : D = []
  · subst h0
    obtain rfl : n = 0 := hn
    cases p with
    | none =>
      refine ⟨some ⟨g, 0, none⟩, 1, W, ?_, hB.rdi, Nat.le_refl _, by omega, Below.refl _ _⟩
      simp [Builtin.append_, run_underlying Tryd.underlying22, sizeOf, typeInfo, hi, Builtin.lenOf, Builtin.firstCells, loadCells, storeCells]
    | some a =>
      have hr := run_append_room (P := Tryd.prog) W 22 22 3 i0 Tryd.underlying22 hi g 1 1 (zvs [s]).toArray hB a 0 c [] (by simp) (by simp) (by simp) (by omega) (by simp [hz1, zvs])
      refine ⟨some ⟨g, 0, none⟩, 1, _, hr, ?_, Nat.le_refl _, by omega, ?_⟩
      · have : W.setRow g ((zvs [s]).toArray.toList.take (1 * i0.size) ++ [] ++ (zvs [s]).toArray.toList.drop (1 * i0.size + 0)).toArray = W := by
          have h := setRow_self W g (zvs [s]).toArray 3 (0, 0) hB
          simpa [zvs, hz1] using h
        rw [show ([] : List Value).length = 0 from rfl, this]
        exact hB.rdi
      · have : W.setRow g ((zvs [s]).toArray.toList.take (1 * i0.size) ++ [] ++ (zvs [s]).toArray.toList.drop (1 * i0.size + 0)).toArray = W := by
          have h := setRow_self W g (zvs [s]).toArray 3 (0, 0) hB
          simpa [zvs, hz1] using h
        rw [show ([] : List Value).length = 0 from rfl, this]
        exact Below.refl _ _
  · rcases hR with h | ⟨b, off, rfl, hc⟩
    · exact absurd h h0
    · have hpos : 0 < n := by
        rcases Nat.eq_zero_or_pos n with h | h
        · rw [h] at hn; exact absurd (List.eq_nil_of_length_eq_zero hn.symm) h0
        · exact h
      have hown : ∀ j u, (zvs [s])[j]? = some u → W.cell? ((⟨g, 0, none⟩ : Addr).add j) = some u := Rdi_news (fun i hi => by
        obtain rfl : i = 0 := by simpa using hi
        exact hB.cell (by simp))
      have hr := run_append_grow (P := Tryd.prog) W 22 22 3 i0 (.int .i64 0) Tryd.underlying22 hi hz0 ⟨g, 0, none⟩ 1 1 (zvs [s]) (by simp [zvs, hz1]) hown ⟨b, off, none⟩ n c (zvs D) (by rw [zvs_length, hz1, hn]; omega) (Rdi_news hc) (by omega) (by omega) (growslice_fits (by omega) (by rw [hz2]; omega))
      have hge := grownCap_ge W (1 + n) 1 3
      have hcm : grownCap W (1 + n) 1 3 ≤ maxLen := grownCap_le_maxLen W (1 + n) 1 3 (by unfold maxLen; omega)
      unfold maxLen at hcm
      rw [show 1 + n = n + 1 by omega] at hr hge hcm
      refine ⟨_, _, _, hr, ?_, hge, hcm, ?_⟩
      · refine .inr ⟨W.heap.size, 0, rfl, fun j hj => ?_⟩
        have hn1 := heap_alloc_new W.drew (.cells ((zvs [s]).toArray ++ (zvs D).toArray ++ Builtin.zeroCells (Value.int .i64 0).cells (grownCap W (n + 1) 1 3 - (n + 1))) 3)
        have hl : j < (zvs (s :: D)).length := by rw [zvs_length]; exact hj
        have e1 : ((zvs [s]).toArray ++ (zvs D).toArray) = (zvs (s :: D)).toArray := by
          rw [show s :: D = [s] ++ D from rfl, zvs_append]; simp
        rw [e1] at hn1 ⊢
        show (W.drew.alloc _).cell? ⟨W.heap.size, 0 + j, none⟩ = _
        unfold World.cell?
        rw [show (⟨W.heap.size, 0 + j, none⟩ : Addr).block = W.drew.heap.size from rfl, hn1]
        rw [Nat.zero_add]
        show ((zvs (s :: D)).toArray ++ _)[j]? = _
        rw [Array.getElem?_append_left (by simpa using hl)]
        exact zvs_get hj
      · exact (below_drewN (Below.refl _ W) 1).alloc (Nat.le_refl _) _
end Go.Proofs.YtmbkpcnpacncjaaDoor

namespace Go.Proofs.YtmbkpcnpacncjaaDoor
open Go.RowKit

/-- the table of the powers of ten -/
def Tb (w : World) : Prop := Lib.TabBelow Tryd.prog w.heap.size w "internal/strconv.uint64pow10" .u64 Lib.pow10Tab
theorem Tb.later {w w' : World} (h : Tb w) (hb : Below w.heap.size w w') : Tb w' := fun w2 h2 => h w2 (below_tr hb h2)
theorem Tb.is {w w' : World} (h : Tb w) (hb : Below w.heap.size w w') : Lib.TabIs Tryd.prog w' "internal/strconv.uint64pow10" .u64 Lib.pow10Tab := h w' hb
theorem Tb.at_ {w w' : World} (h : Tb w) (hb : Below w.heap.size w w') : Lib.TabBelow Tryd.prog w.heap.size w' "internal/strconv.uint64pow10" .u64 Lib.pow10Tab := fun w2 h2 => h w2 (hb.trans h2)

/-- a digit's nine places -/
def plc (d : Int) : List UInt8 := (Lib.itoa (1000000000 + d)).drop 1
/-- the digits below index m, the highest first, of which k are written -/
def txtK (l : List Int) (m k : Nat) : List UInt8 := (List.range k).flatMap fun i => plc (iat l (m - 1 - i))
theorem txtK_succ (l : List Int) (m k : Nat) : txtK l m (k + 1) = txtK l m k ++ plc (iat l (m - 1 - k)) := by
  unfold txtK
  rw [List.range_succ, List.flatMap_append, List.flatMap_singleton]
/-- the text of digits -/
def txtD (neg : Bool) (l : List Int) : List UInt8 := (if neg then [45] else []) ++ Lib.itoa (iat l (l.length - 1)) ++ txtK l (l.length - 1) (l.length - 1)
/-- the text of an integer -/
def txt (x : Int) : List UInt8 := if x = 0 then [48] else txtD (decide (x < 0)) (digs x.natAbs)
theorem itoa_len (n : Int) (h0 : 0 ≤ n) (h1 : n ≤ 9223372036854775807) : 1 ≤ (Lib.itoa n).length ∧ (Lib.itoa n).length ≤ 21 := by
  refine ⟨?_, Lib.itoa_length_le n (by omega) h1⟩
  unfold Lib.itoa
  rw [if_neg (by omega), Lib.decDigits_length]
  exact Lib.nDigits_pos _
theorem plc_len (d : Int) (h0 : 0 ≤ d) (h1 : d < 1000000000) : (plc d).length ≤ 20 := by
  unfold plc
  rw [List.length_drop]
  have := (itoa_len (1000000000 + d) (by omega) (by omega)).2
  omega
theorem txtK_len (l : List Int) (hd : Dg l) (m k : Nat) : (txtK l m k).length ≤ 20 * k := by
  induction k with
  | zero => simp [txtK]
  | succ k ih =>
    rw [txtK_succ, List.length_append]
    have := plc_len (iat l (m - 1 - k)) (hd.all _).1 (hd.all _).2
    omega
/-- a string's rest -/
theorem bs_drop (l : List UInt8) : (bs l).extract 1 (bs l).size = bs (l.drop 1) := by
  apply ByteArray.ext
  simp [bs, ByteArray.size]
  rw [List.take_of_length_le (by simp)]
theorem bs_drop' (l : List UInt8) : (bs l).extract 1 l.length = bs (l.drop 1) := by
  rw [← bs_drop]; simp [bs, ByteArray.size]
theorem bs_size (l : List UInt8) : (bs l).size = l.length := by simp [bs, ByteArray.size]
theorem strCells_bs (l : List UInt8) : Lib.strCells (bs l) = bvs l := by simp [Lib.strCells, bvs, bs]
theorem below_itoa {w w' : World} (h : ∃ k os, w' = Go.Sort.grow (w.drewN k) os) : Below w.heap.size w w' := by
  obtain ⟨k, os, rfl⟩ := h
  refine ⟨rfl, rfl, rfl, ?_, fun i hi => ?_⟩
  · show w.heap.size ≤ (w.heap ++ os).size
    simp
  · show (w.heap ++ os)[i]? = w.heap[i]?
    rw [Array.getElem?_append_left (by exact hi)]

/-- an integer in a box -/
def Bx (w : World) (nx : Bool) (px : Option Addr) (n c : Nat) (W : World) : Prop := W.heap[w.heap.size]? = some (.cells #[.bool nx, .slice px n c] 24 (0, 0)) ∧ Below w.heap.size w W
section
variable {w W w' : World} {nx : Bool} {px : Option Addr} {n c : Nat}
theorem Bx.facts (h : Bx w nx px n c W) : W.cell? ⟨w.heap.size, 0, none⟩ = some (.bool nx) ∧ W.cell? ⟨w.heap.size, 1, none⟩ = some (.slice px n c) := by
  obtain ⟨h1, _⟩ := h
  exact ⟨by simp [World.cell?, h1], by simp [World.cell?, h1]⟩
theorem Bx.later (h : Bx w nx px n c W) (hb : Below W.heap.size W w') : Bx w nx px n c w' := ⟨(hb.block _ (lt_blk h.1)).trans h.1, below_tr h.2 hb⟩
theorem Bx.start (w : World) : Bx w nx px n c (w.alloc (.cells #[.bool nx, .slice px n c] 24)) := ⟨heap_alloc_new _ _, below_new _ _⟩
end
theorem grow_row {w wr w' : World} {v v' : Value} {l r : List UInt8} (h : Grow w v l wr) (ho : w'.ownsRow w.heap.size 5 1 v' (l.length + r.length) (bvs l ++ Lib.byteCells r)) (hb : Below w.heap.size wr w') : Grow w v' (l ++ r) w' :=
  ⟨by rw [List.length_append, bvs_append]; exact ho, h.2.trans hb⟩
/-- what Text answers -/
def TxP (w : World) (x : Int) (e : Ending) (w' : World) : Prop := e = .returned (.string (bs (txt x))) ∧ Below w.heap.size w w'
end Go.Proofs.YtmbkpcnpacncjaaDoor

namespace Go.Proofs.YtmbkpcnpacncjaaDoor
open Go.RowKit

theorem Rd_below {w wr : World} {a : Option Addr} {l : List UInt8} (h : Below w.heap.size w wr) (hR : Rd w a l) : Rd wr a l := by
  rcases hR with rfl | ⟨b, off, rfl, hc⟩
  · exact .inl rfl
  · exact .inr ⟨b, off, rfl, fun i hi => Below.cell_of' h (hc i hi)⟩
/-- a code's list -/
def codeL (x : Int) : List Int := cmpI x 0 :: digs x.natAbs
/-- bytes that are returned -/
def BtP (w : World) (l : List UInt8) (e : Ending) (w' : World) : Prop := ∃ p c, e = .returned (.slice p l.length c) ∧ Rd w' p l ∧ l.length ≤ c ∧ c ≤ 9223372036854775807 ∧ Below w.heap.size w w'
theorem cmp0_bd (x : Int) : -1 ≤ cmpI x 0 ∧ cmpI x 0 ≤ 1 := by 
  unfold cmpI; split
  · omega
  · split <;> omega
theorem code_i64 (x : Int) : i64s (codeL x) := fun i hi => by
  cases i with
  | zero => have := cmp0_bd x; show -9223372036854775808 ≤ cmpI x 0 ∧ cmpI x 0 ≤ _; omega
  | succ i => have := (Dg_digs x.natAbs).all i; show -9223372036854775808 ≤ iat (digs x.natAbs) i ∧ iat (digs x.natAbs) i ≤ _; omega
theorem code_len (x : Int) (h : (digs x.natAbs).length ≤ 1000000000000) : (encIs (codeL x)).length ≤ 70368744177664 := by
  unfold encIs
  rw [List.length_append]
  have h1 := enc_le ((codeL x).length : Int)
  have h2 : ((codeL x).flatMap enc).length ≤ 9 * (codeL x).length := by
    generalize codeL x = l
    induction l with
    | nil => simp
    | cons d t ih =>
      rw [List.flatMap_cons, List.length_append, List.length_cons]
      have := enc_le d
      omega
  have h3 : (codeL x).length = (digs x.natAbs).length + 1 := rfl
  omega
/-- what is known of the slots -/
def VEn (B : Nat) (nx : Bool) (px : Option Addr) (n c : Nat) (s : Int) (D : List Int) (E : List UInt8) : Nat → Value → World → Prop
  | 0, v, _ => v = .agg #[.bool nx, .slice px n c]
  | 1, v, _ => v = .int .i64 s
  | 2, v, W => ∃ g, v = .slice (some ⟨g, 0, none⟩) 1 1 ∧ Blk W g [s]
  | 3, v, _ => v = .pointer (some ⟨B, 1, none⟩)
  | 4, v, _ => v = .slice px n c
  | 5, v, W => ∃ p cc, v = .slice p (n + 1) cc ∧ Rdi W p (s :: D)
  | 6, v, W => ∃ p cc, v = .slice p E.length cc ∧ Rd W p E ∧ E.length ≤ cc ∧ cc ≤ 9223372036854775807
  | 7, v, W => ∃ p cc, v = .slice p E.length cc ∧ Rd W p E ∧ E.length ≤ cc ∧ cc ≤ 9223372036854775807
  | _, _, _ => True
theorem VEn.mono {B : Nat} {nx : Bool} {px : Option Addr} {n c : Nat} {s : Int} {D : List Int} {E : List UInt8} : ∀ j u (w w' : World), VEn B nx px n c s D E j u w → Below w.heap.size w w' → VEn B nx px n c s D E j u w' := by
  intro j u w w' h hb
  match j, h with
  | 0, h => exact h
  | 1, h => exact h
  | 2, ⟨g, h1, h2⟩ => exact ⟨g, h1, h2.later hb⟩
  | 3, h => exact h
  | 4, h => exact h
  | 5, ⟨p, cc, h1, h2⟩ => exact ⟨p, cc, h1, Rdi_below hb h2⟩
  | 6, ⟨p, cc, h1, h2, h3⟩ => exact ⟨p, cc, h1, Rd_below hb h2, h3⟩
  | 7, ⟨p, cc, h1, h2, h3⟩ => exact ⟨p, cc, h1, Rd_below hb h2, h3⟩
  | _ + 8, _ => trivial

set_option maxRecDepth 100000 in
set_option maxHeartbeats 1600000 in
theorem Encode_any (nx : Bool) (px : Option Addr) (n cx : Nat) (x : Int) (w : World) (hx0 : IntAt w nx px n cx x) (hlx : n ≤ 549755813887) :
    Calls Tryd.prog 35 #[.agg #[.bool nx, .slice px n cx]] w (BtP w (encIs (codeL x))) := by
  have hS0 := Lib.hid (@Bx.start nx px n cx w)
  have hx := Lib.hid hx0
  have hcl : Hid ((encIs (codeL x)).length ≤ 70368744177664) := Lib.hid (code_len x (by rw [← hx0.2.1]; omega))
  clear hx0
  go_enter Tryd.func35, Tryd.ntmps35
  go_upto_region 1 with fail
  generalize w.alloc (.cells #[.bool nx, .slice px n cx] 24) = W1 at hS0 ⊢
  have hS1 := hS0.out
  refine region_flows (V := VEn w.heap.size nx px n cx (cmpI x 0) (digs x.natAbs) (encIs (codeL x))) (S := fun W => Bx w nx px n cx W) (R := fun a b => Below a.heap.size a b) (by kernel_rfl) (by kernel_rfl) (by kernel_rfl) (by rfl) VEn.mono (hS1.later ((Below.refl _ _).drew)) ⟨?s0, ?s1, ?s2, ?s3, ?s4, ?s5, ?s6, ?s7, trivial⟩ [3, 4, 5, 6, 7, 8, 9, 2] rfl ?hdone
  case s0 =>
    refine flow_wp fun listed a W h hd => ⟨trivial, fun K hK => ?_⟩
    exact wp_load_row 24 (.tmp 1) rfl w.heap.size (h.out 1 (by kernel_rfl)) 24 #[.bool nx, .slice px n cx] (0, 0) _ h.s.1 Tryd.underlying24 rfl size_Int (hK _ _ h.s (Below.refl _ _) rfl)
  case s1 =>
    refine flow_call (fun _ _ => rfl) fun listed a W h hd => ⟨trivial, ?_⟩
    obtain ⟨v, hv, -, hV⟩ := h.dep hd 0 3 (by kernel_rfl) (by kernel_rfl)
    refine ⟨#[.agg #[.bool nx, .slice px n cx]], by simp [hv, show v = _ from hV], ?_⟩
    exact (Sign_any nx px n cx x W (hx.out.later h.s.2) hlx).mono fun e w' ⟨he, hb⟩ => ⟨_, he, h.s.later hb, hb, rfl⟩
  case s2 =>
    refine flow_run fun listed a W h hd => ⟨trivial, ?_⟩
    obtain ⟨v, hv, -, hV⟩ := h.dep hd 1 4 (by kernel_rfl) (by kernel_rfl)
    obtain rfl : v = .int .i64 (cmpI x 0) := hV
    refine ⟨_, _, ?_, h.s.later (below_new W (.cells #[.int .i64 (cmpI x 0)] 3)), below_new W (.cells #[.int .i64 (cmpI x 0)] 3), ⟨_, rfl, Blk_new W [cmpI x 0]⟩⟩
    clear h hd
    generalize a.eval = ρ at hv ⊢
    go_simp
  case s3 =>
    refine flow_run fun listed a W h hd => ⟨trivial, ?_⟩
    have hv := h.out 1 (by kernel_rfl)
    refine ⟨_, _, ?_, h.s, Below.refl _ _, rfl⟩
    clear h hd
    generalize a.eval = ρ at hv ⊢
    go_simp
  case s4 =>
    refine flow_run fun listed a W h hd => ⟨trivial, ?_⟩
    obtain ⟨v, hv, -, hV⟩ := h.dep hd 3 6 (by kernel_rfl) (by kernel_rfl)
    obtain rfl : v = .pointer (some ⟨w.heap.size, 1, none⟩) := hV
    have hc := h.s.facts.2
    refine ⟨_, _, ?_, h.s, Below.refl _ _, rfl⟩
    clear h hd
    generalize a.eval = ρ at hv ⊢
    go_simp
  case s5 =>
    refine flow_run fun listed a W h hd => ⟨trivial, ?_⟩
    obtain ⟨v, hv, -, hV⟩ := h.dep hd 2 5 (by kernel_rfl) (by kernel_rfl)
    obtain ⟨u, hu, -, hU⟩ := h.dep hd 4 7 (by kernel_rfl) (by kernel_rfl)
    obtain ⟨g, rfl, hB⟩ := hV
    obtain rfl : u = .slice px n cx := hU
    obtain ⟨pp, cc, W', hr, hR, h1, h2, hb⟩ := append_one g (cmpI x 0) px n cx (digs x.natAbs) W hB (Rdi_below h.s.2 hx.out.2.2.1) hx.out.2.1 (by omega)
    refine ⟨_, _, ?_, h.s.later hb, hb, ⟨pp, cc, rfl, hR⟩⟩
    have e : execOp a.eval { dst := some 8, op := Op.call { callee := Callee.builtin Builtin.append, args := #[Operand.tmp 5, Operand.tmp 7], argTypes := #[22, 22] }, type := 22, pos := "text.go:62", after := #[{ on := 2, ground := Ground.data }, { on := 4, ground := Ground.data }, { on := 1, ground := Ground.chain }], guard := none } = (do let r ← Builtin.append_ #[22, 22] 22 #[a.eval (.tmp 5), a.eval (.tmp 7)]; pure (Next.value r)) := by
      simp [execOp, resolve, invoke, builtin]
    rw [e, hv, hu]
    simp [hr, Result.andThen]
  case s6 =>
    refine flow_call (fun _ _ => rfl) fun listed a W h hd => ⟨trivial, ?_⟩
    obtain ⟨v, hv, -, hV⟩ := h.dep hd 5 8 (by kernel_rfl) (by kernel_rfl)
    obtain ⟨p, cc, rfl, hR⟩ := hV
    refine ⟨#[.slice p (n + 1) cc], by simp [hv], ?_⟩
    have hl : n + 1 = (codeL x).length := by have := hx.out.2.1; show n + 1 = (digs x.natAbs).length + 1; omega
    exact (Ints_any p (n + 1) cc (codeL x) W hR hl (by omega) (code_i64 x) hcl.out).mono fun e w' hp => by
      obtain ⟨q, c2, rfl, hR2, h1, h2, hb⟩ := enc_Rd hp
      exact ⟨_, rfl, h.s.later hb, hb, ⟨q, c2, rfl, hR2, h1, h2⟩⟩
  case s7 =>
    refine flow_run fun listed a W h hd => ⟨trivial, ?_⟩
    obtain ⟨v, hv, -, hV⟩ := h.dep hd 6 9 (by kernel_rfl) (by kernel_rfl)
    refine ⟨v, W, ?_, h.s, Below.refl _ _, hV⟩
    clear h hd
    generalize a.eval = ρ at hv ⊢
    go_simp
  case hdone =>
    intro f W hS hf
    obtain ⟨p, cc, hv, hR, h1, h2⟩ := hf 7 2 (by kernel_rfl)
    simp only [slots, Act.put, List.setIfInBounds_toArray, List.set_cons_zero, List.set_cons_succ]
    rw [hv]
    go_wp2_with fail
    go_ret
    exact ⟨p, cc, rfl, hR, h1, h2, hS.2⟩
end Go.Proofs.YtmbkpcnpacncjaaDoor
