/- Contracts of the package integer and its reference: Plain mathematics: sums, differences, products and quotients digit by digit. Integers of any size: words for memory. integer.copied, trimmed; cmp.Compare of ints. integer.trimmed, made, compare. integer.made, compare. -/
import Derived.Test.YtleijkgdpmfabaaGreatDoorW1
import Derived.Deep.OwnRows
import Derived.Laws.CopyOwn
import Derived.Deep.DeepCutAuto
set_option linter.unusedVariables false
namespace Go.Proofs.YtleijkgdpmfabaaGreatDoor
def cpy (l : List Int) (n : Nat) : List Int := l.take n ++ List.replicate (n - l.length) 0
theorem cpy_length (l : List Int) (n : Nat) : (cpy l n).length = n := by simp [cpy]; omega
theorem iat_cpy (l : List Int) (n j : Nat) (h : j < n ∨ l.length ≤ n) : iat (cpy l n) j = iat l j := by
  unfold cpy
  rw [iat_append, List.length_take]
  split
  · rw [iat_take, if_pos (by omega)]
  · rw [iat_zeros, iat_ge (by omega)]
theorem val_cpy (l : List Int) (n : Nat) (h : l.length ≤ n) : val (cpy l n) = val l := by
  unfold cpy
  rw [List.take_of_length_le h, val_append, val_zeros]; omega
theorem cpy_self (l : List Int) : cpy l l.length = l := by simp [cpy]
structure SumA (l m : List Int) (k : Nat) (z : List Int) : Prop where
  len : z.length = l.length + 1
  sum : val z = val l + val (m.take k)
  at_ : ∀ j, iat z j = iat l j + if j < k then iat m j else 0
theorem SumA.start (l m : List Int) : SumA l m 0 (cpy l (l.length + 1)) :=
  ⟨cpy_length _ _, by rw [val_cpy _ _ (by omega), List.take_zero]; show val l = val l + 0; omega, fun j => by rw [iat_cpy _ _ _ (by omega)]; simp⟩
theorem SumA.next {l m z : List Int} {k : Nat} (h : SumA l m k z) (hk : k < m.length) (hm : m.length ≤ l.length) : SumA l m (k + 1) (z.set k (iat z k + iat m k)) := by
  have hl : k < z.length := by rw [h.len]; omega
  refine ⟨by rw [List.length_set]; exact h.len, ?_, fun j => ?_⟩
  · rw [val_set _ _ _ hl, h.sum, val_take _ _ hk, show iat z k + iat m k - iat z k = iat m k by omega]; omega
  · rw [iat_set _ _ _ _ hl]
    by_cases e : k = j
    · subst e
      rw [if_pos rfl, h.at_ k, if_neg (by omega), if_pos (by omega)]; omega
    · rw [if_neg e, h.at_ j]
      by_cases e2 : j < k
      · rw [if_pos e2, if_pos (by omega)]
      · rw [if_neg e2, if_neg (by omega)]
structure SumB (n : Nat) (s : Int) (k : Nat) (z : List Int) : Prop where
  len : z.length = n + 1
  sum : val z = s
  lo : ∀ j, 0 ≤ iat z j
  hi : ∀ j, j < k → iat z j < 1000000000
  up : ∀ j, k ≤ j → iat z j ≤ (if j < n then 1999999998 else 0) + if j = k then 1 else 0
theorem SumA.done {l m z : List Int} (h : SumA l m m.length z) (hl : Dg l) (hm : Dg m) (hle : m.length ≤ l.length) : SumB l.length (val l + val m) 0 z := by
  refine ⟨h.len, by rw [h.sum, List.take_length], fun j => ?_, fun j hj => by omega, fun j _ => ?_⟩
  · have h1 := hl.all j
    have h2 := hm.all j
    rw [h.at_ j]; split <;> omega
  · have h1 := hl.all j
    have h2 := hm.all j
    rw [h.at_ j]
    by_cases e : j < l.length
    · rw [if_pos e]; repeat (first | split | omega)
    · rw [if_neg e, iat_ge (l := l) (by omega), if_neg (by omega)]; split <;> omega
theorem SumB.keep {n k : Nat} {s : Int} {z : List Int} (h : SumB n s k z) (hz : iat z k < 1000000000) : SumB n s (k + 1) z :=
  ⟨h.len, h.sum, h.lo, fun j hj => by
    rcases Nat.lt_or_ge j k with e | e
    · exact h.hi j e
    · rw [show j = k by omega]; exact hz, fun j hj => by
    have := h.up j (by omega)
    rw [if_neg (show ¬ j = k by omega)] at this
    split <;> omega⟩
theorem SumB.carry {n k : Nat} {s : Int} {z : List Int} (h : SumB n s k z) (hk : k < n) (hz : 1000000000 ≤ iat z k) : SumB n s (k + 1) ((z.set k (iat z k - 1000000000)).set (k + 1) (iat z (k + 1) + 1)) := by
  have hl : k < z.length := by rw [h.len]; omega
  have hl2 : k + 1 < (z.set k (iat z k - 1000000000)).length := by rw [List.length_set, h.len]; omega
  have hz2 := h.up k (Nat.le_refl _)
  rw [if_pos hk, if_pos rfl] at hz2
  have e1 : iat (z.set k (iat z k - 1000000000)) (k + 1) = iat z (k + 1) := by rw [iat_set _ _ _ _ hl, if_neg (by omega)]
  refine ⟨by rw [List.length_set, List.length_set]; exact h.len, ?_, fun j => ?_, fun j hj => ?_, fun j hj => ?_⟩
  · rw [val_set _ _ _ hl2, val_set _ _ _ hl, e1, h.sum]
    show s + pw k * _ + 1000000000 * pw k * _ = s
    grind
  · rw [iat_set _ _ _ _ hl2]
    split
    · have := h.lo (k + 1); omega
    · rw [iat_set _ _ _ _ hl]; split
      · omega
      · exact h.lo j
  · rw [iat_set _ _ _ _ hl2, if_neg (by omega), iat_set _ _ _ _ hl]
    split
    · omega
    · exact h.hi j (by omega)
  · have h3 := h.up j (by omega)
    rw [if_neg (show ¬ j = k by omega)] at h3
    rw [iat_set _ _ _ _ hl2]
    by_cases e : k + 1 = j
    · subst e; rw [if_pos rfl, if_pos rfl]; omega
    · rw [if_neg e, iat_set _ _ _ _ hl, if_neg (by omega), if_neg (show ¬ j = k + 1 by omega)]; omega
theorem SumB.done {n : Nat} {s : Int} {z : List Int} (h : SumB n s n z) : Dg z := fun j hj => by
  refine ⟨h.lo j, ?_⟩
  rcases Nat.lt_or_ge j n with e | e
  · exact h.hi j e
  · have := h.up j e
    rw [if_neg (by omega)] at this
    split at this <;> omega
theorem SumB.top {n k : Nat} {s : Int} {z : List Int} (h : SumB n s k z) (j : Nat) : -1999999999 ≤ iat z j ∧ iat z j ≤ 1999999999 := by
  have h1 := h.lo j
  rcases Nat.lt_or_ge j k with e | e
  · have := h.hi j e; omega
  · have := h.up j e
    repeat (first | split at this | omega)
structure DifA (l m : List Int) (k : Nat) (z : List Int) : Prop where
  len : z.length = l.length
  sum : val z = val l - val (m.take k)
  at_ : ∀ j, iat z j = iat l j - if j < k then iat m j else 0
theorem DifA.start (l m : List Int) : DifA l m 0 l :=
  ⟨rfl, by rw [List.take_zero]; show val l = val l - 0; omega, fun j => by simp⟩
theorem DifA.next {l m z : List Int} {k : Nat} (h : DifA l m k z) (hk : k < m.length) (hm : m.length ≤ l.length) : DifA l m (k + 1) (z.set k (iat z k - iat m k)) := by
  have hl : k < z.length := by rw [h.len]; omega
  refine ⟨by rw [List.length_set]; exact h.len, ?_, fun j => ?_⟩
  · rw [val_set _ _ _ hl, h.sum, val_take _ _ hk, show iat z k - iat m k - iat z k = - iat m k by omega, Int.mul_neg]; omega
  · rw [iat_set _ _ _ _ hl]
    by_cases e : k = j
    · subst e
      rw [if_pos rfl, h.at_ k, if_neg (by omega), if_pos (by omega)]; omega
    · rw [if_neg e, h.at_ j]
      by_cases e2 : j < k
      · rw [if_pos e2, if_pos (by omega)]
      · rw [if_neg e2, if_neg (by omega)]
structure DifB (n : Nat) (s : Int) (k : Nat) (z : List Int) : Prop where
  len : z.length = n
  sum : val z = s
  lo : ∀ j, j < k → 0 ≤ iat z j
  hi : ∀ j, iat z j < 1000000000
  up : ∀ j, k ≤ j → -999999999 - (if j = k then 1 else 0) ≤ iat z j
theorem DifA.done {l m z : List Int} (h : DifA l m m.length z) (hl : Dg l) (hm : Dg m) : DifB l.length (val l - val m) 0 z := by
  refine ⟨h.len, by rw [h.sum, List.take_length], fun j hj => by omega, fun j => ?_, fun j _ => ?_⟩
  · have h1 := hl.all j
    have h2 := hm.all j
    rw [h.at_ j]; split <;> omega
  · have h1 := hl.all j
    have h2 := hm.all j
    rw [h.at_ j]; repeat (first | split | omega)
theorem DifB.keep {n k : Nat} {s : Int} {z : List Int} (h : DifB n s k z) (hz : 0 ≤ iat z k) : DifB n s (k + 1) z :=
  ⟨h.len, h.sum, fun j hj => by
    rcases Nat.lt_or_ge j k with e | e
    · exact h.lo j e
    · rw [show j = k by omega]; exact hz, h.hi, fun j hj => by
    have := h.up j (by omega)
    rw [if_neg (show ¬ j = k by omega)] at this
    split <;> omega⟩
theorem DifB.last {n k : Nat} {s : Int} {z : List Int} (h : DifB n s k z) (hs : 0 ≤ s) (hk : k < n) (hz : iat z k < 0) : k + 1 < n := by
  rcases Nat.lt_or_ge (k + 1) n with e | e
  · exact e
  · have e1 := val_split z k (by rw [h.len]; omega)
    rw [val_drop z k (by rw [h.len]; omega), List.drop_of_length_le (by rw [h.len]; omega), h.sum] at e1
    have hd : Dg (z.take k) := fun j hj => by
      rw [List.length_take] at hj
      rw [iat_take, if_pos (by omega)]
      exact ⟨h.lo j (by omega), h.hi j⟩
    have h2 := hd.hi
    rw [List.length_take, Nat.min_eq_left (by rw [h.len]; omega)] at h2
    have hp := pw_pos k
    simp only [val] at e1
    have : pw k * iat z k ≤ pw k * (-1) := Int.mul_le_mul_of_nonneg_left (by omega) (by omega)
    have : iat z k + 1000000000 * 0 = iat z k := by omega
    rw [this] at e1
    omega
theorem DifB.carry {n k : Nat} {s : Int} {z : List Int} (h : DifB n s k z) (hk : k + 1 < n) (hz : iat z k < 0) : DifB n s (k + 1) ((z.set k (iat z k + 1000000000)).set (k + 1) (iat z (k + 1) - 1)) := by
  have hl : k < z.length := by rw [h.len]; omega
  have hl2 : k + 1 < (z.set k (iat z k + 1000000000)).length := by rw [List.length_set, h.len]; omega
  have hz2 := h.up k (Nat.le_refl _)
  rw [if_pos rfl] at hz2
  have e1 : iat (z.set k (iat z k + 1000000000)) (k + 1) = iat z (k + 1) := by rw [iat_set _ _ _ _ hl, if_neg (by omega)]
  refine ⟨by rw [List.length_set, List.length_set]; exact h.len, ?_, fun j hj => ?_, fun j => ?_, fun j hj => ?_⟩
  · rw [val_set _ _ _ hl2, val_set _ _ _ hl, e1, h.sum]
    show s + pw k * _ + 1000000000 * pw k * _ = s
    grind
  · rw [iat_set _ _ _ _ hl2, if_neg (by omega), iat_set _ _ _ _ hl]
    split
    · omega
    · exact h.lo j (by omega)
  · rw [iat_set _ _ _ _ hl2]
    split
    · have := h.hi (k + 1); omega
    · rw [iat_set _ _ _ _ hl]; split
      · omega
      · exact h.hi j
  · have h3 := h.up j (by omega)
    rw [if_neg (show ¬ j = k by omega)] at h3
    rw [iat_set _ _ _ _ hl2]
    by_cases e : k + 1 = j
    · subst e; rw [if_pos rfl, if_pos rfl]; omega
    · rw [if_neg e, iat_set _ _ _ _ hl, if_neg (show ¬ k = j by omega), if_neg (show ¬ j = k + 1 by omega)]; omega
theorem DifB.done {n : Nat} {s : Int} {z : List Int} (h : DifB n s n z) : Dg z := fun j hj => ⟨h.lo j (by rw [← h.len]; exact hj), h.hi j⟩
theorem DifB.top {n k : Nat} {s : Int} {z : List Int} (h : DifB n s k z) (j : Nat) : -1000000000 ≤ iat z j ∧ iat z j ≤ 999999999 := by
  have h1 := h.hi j
  rcases Nat.lt_or_ge j k with e | e
  · have := h.lo j e; omega
  · have := h.up j e
    repeat (first | split at this | omega)
structure MulA (l m : List Int) (i : Nat) (z : List Int) : Prop where
  len : z.length = l.length + m.length
  dg : Dg z
  sum : val z = val (l.take i) * val m
  zero : ∀ j, i + m.length ≤ j → iat z j = 0
theorem MulA.start (l m : List Int) : MulA l m 0 (List.replicate (l.length + m.length) 0) :=
  ⟨by simp, Dg_zeros _, by rw [val_zeros, List.take_zero]; show 0 = 0 * _; omega, fun j _ => iat_zeros _ _⟩
structure MulB (l m : List Int) (i j : Nat) (over : Int) (z : List Int) : Prop where
  len : z.length = l.length + m.length
  dg : Dg z
  sum : val z + pw (i + j) * over = val (l.take i) * val m + pw i * (iat l i * val (m.take j))
  zero : ∀ k, i + m.length ≤ k → iat z k = 0
  lo : 0 ≤ over
  hi : over < 1000000000
theorem MulA.row {l m z : List Int} {i : Nat} (h : MulA l m i z) : MulB l m i 0 0 z :=
  ⟨h.len, h.dg, by rw [h.sum, List.take_zero]; simp [val], h.zero, by omega, by omega⟩
theorem mul_digit {a b c d : Int} (ha : 0 ≤ a) (ha2 : a < 1000000000) (hb : 0 ≤ b) (hb2 : b < 1000000000) (hc : 0 ≤ c) (hc2 : c < 1000000000) (hd : 0 ≤ d) (hd2 : d < 1000000000) : 0 ≤ a * b ∧ a * b ≤ 999999998000000001 ∧ 0 ≤ a * b + c + d ∧ a * b + c + d < 1000000000000000000 := by
  have h1 : 0 ≤ a * b := Int.mul_nonneg ha hb
  have h2 : a * b ≤ 999999999 * b := Int.mul_le_mul_of_nonneg_right (by omega) hb
  omega
theorem MulB.next {l m z : List Int} {i j : Nat} {over : Int} (h : MulB l m i j over z) (hi : i < l.length) (hj : j < m.length) (ha : 0 ≤ iat l i) (ha2 : iat l i < 1000000000) (hm : Dg m) :
    MulB l m i (j + 1) ((iat l i * iat m j + iat z (i + j) + over) / 1000000000) (z.set (i + j) ((iat l i * iat m j + iat z (i + j) + over) % 1000000000)) := by
  have hl : i + j < z.length := by rw [h.len]; omega
  have hb := hm.all j
  have hc := h.dg.all (i + j)
  have ht := mul_digit ha ha2 hb.1 hb.2 hc.1 hc.2 h.lo h.hi
  have hs := h.sum
  generalize ht' : iat l i * iat m j + iat z (i + j) + over = t at *
  refine ⟨by rw [List.length_set]; exact h.len, h.dg.set _ _ hl (by omega) (by omega), ?_, fun k hk => ?_, by omega, by omega⟩
  · rw [val_set _ _ _ hl, val_take _ _ hj]
    have e := Int.mul_ediv_add_emod t 1000000000
    show _ + 1000000000 * pw (i + j) * _ = _
    rw [pw_add] at *
    grind
  · rw [iat_set _ _ _ _ hl, if_neg (by omega)]
    exact h.zero k hk
theorem MulB.done {l m z : List Int} {i : Nat} {over : Int} (h : MulB l m i m.length over z) (hi : i < l.length) : MulA l m (i + 1) (z.set (i + m.length) over) := by
  have hl : i + m.length < z.length := by rw [h.len]; omega
  refine ⟨by rw [List.length_set]; exact h.len, h.dg.set _ _ hl h.lo h.hi, ?_, fun j hj => ?_⟩
  · have hs := h.sum
    rw [List.take_length] at hs
    rw [val_set _ _ _ hl, h.zero _ (Nat.le_refl _), val_take _ _ hi, Int.sub_zero, hs]
    grind
  · rw [iat_set _ _ _ _ hl, if_neg (by omega)]
    exact h.zero j (by omega)
structure DivA (l : List Int) (y : Int) (k : Nat) (r : Int) (q : List Int) : Prop where
  len : q.length = l.length
  dg : Dg q
  sum : val (l.drop k) = y * val (q.drop k) + r
  lo : 0 ≤ r
  hi : r < y
theorem DivA.start (l : List Int) (y : Int) (hy : 0 < y) : DivA l y l.length 0 (List.replicate l.length 0) :=
  ⟨by simp, Dg_zeros _, by rw [List.drop_length, List.drop_of_length_le (by simp)]; simp [val], by omega, hy⟩
theorem drop_set (q : List Int) (k j : Nat) (v : Int) (h : k < j) : (q.set k v).drop j = q.drop j := by
  apply List.ext_getElem?
  intro i
  simp only [List.getElem?_drop, List.getElem?_set]
  rw [if_neg (by omega)]
theorem DivA.next {l q : List Int} {y r : Int} {k : Nat} (h : DivA l y (k + 1) r q) (hk : k < l.length) (hl : Dg l) (hy : y ≤ 1000000000) : DivA l y k ((r * 1000000000 + iat l k) % y) (q.set k ((r * 1000000000 + iat l k) / y)) := by
  have hq : k < q.length := by rw [h.len]; exact hk
  have hd := hl.all k
  have h1 := h.lo
  have h2 := h.hi
  have ht : 0 ≤ r * 1000000000 + iat l k := by omega
  have hlt : r * 1000000000 + iat l k < 1000000000 * y := by omega
  have hs := h.sum
  generalize ht' : r * 1000000000 + iat l k = t at *
  refine ⟨by rw [List.length_set]; exact h.len, h.dg.set _ _ hq (Int.ediv_nonneg ht (by omega)) (Int.ediv_lt_of_lt_mul (by omega) hlt), ?_, Int.emod_nonneg _ (by omega), Int.emod_lt_of_pos _ (by omega)⟩
  rw [val_drop l k hk, val_drop _ k (by rw [List.length_set]; exact hq), drop_set _ _ _ _ (by omega), iat_set _ _ _ _ hq, if_pos rfl, hs]
  have e := Int.mul_ediv_add_emod t y
  have e2 : y * (t / y + 1000000000 * val (q.drop (k + 1))) + t % y = (y * (t / y) + t % y) + 1000000000 * (y * val (q.drop (k + 1))) := by grind
  rw [e2, e, ← ht']
  omega
theorem DivA.done {l q : List Int} {y r : Int} (h : DivA l y 0 r q) : val l = y * val q + r := h.sum
def cmpI (a b : Int) : Int := if a < b then -1 else if b < a then 1 else 0
open Go.RowKit
theorem heap_setCell_self (w : World) (B i : Nat) (c : Array Value) (T : TypeId) (u : Value) (h : w.heap[B]? = some (.cells c T (0, 0))) : (w.setCell ⟨B, i, none⟩ u).heap[B]? = some (.cells (c.setIfInBounds i u) T (0, 0)) := by
  simp [World.setCell, Array.getElem?_modify, h]
def zvs (l : List Int) : List Value := l.map (Value.int .i64)
theorem zvs_length (l : List Int) : (zvs l).length = l.length := by simp [zvs]
theorem zvs_get {l : List Int} {i : Nat} (h : i < l.length) : (zvs l).toArray[i]? = some (.int .i64 (iat l i)) := by simp [zvs, iat, h]
theorem zvs_set (l : List Int) (i : Nat) (x : Int) : (zvs l).toArray.setIfInBounds i (.int .i64 x) = (zvs (l.set i x)).toArray := by
  apply Array.toList_inj.1
  simp [zvs]
theorem zvs_one (l : List Int) : ∀ u ∈ zvs l, u.oneCell' = true := by
  intro u hu
  simp only [zvs, List.mem_map] at hu
  obtain ⟨b, _, rfl⟩ := hu
  rfl
theorem zvs_zeros (n : Nat) : madeCells #[Value.int .i64 0] n = (zvs (List.replicate n 0)).toArray := by
  apply Array.ext_getElem?
  intro i
  by_cases h : i < n <;> simp [zvs, madeCells, h, Nat.mod_one]
def Rdi (w : World) (a : Option Addr) (l : List Int) : Prop :=
  l = [] ∨ ∃ b off, a = some ⟨b, off, none⟩ ∧ ∀ i, i < l.length → w.cell? ⟨b, off + i, none⟩ = some (.int .i64 (iat l i))
theorem Rdi_at {w : World} {a : Option Addr} {l : List Int} (h : Rdi w a l) (k : Nat) (hk : k < l.length) : ∃ b off, a = some ⟨b, off, none⟩ ∧ w.cell? ⟨b, off + k, none⟩ = some (.int .i64 (iat l k)) := by
  rcases h with rfl | ⟨b, off, rfl, hc⟩
  · simp at hk
  · exact ⟨b, off, rfl, hc k hk⟩
theorem Below.cell_of' {w w' : World} {p : Addr} {v : Value} (h : Below w.heap.size w w') (hc : w.cell? p = some v) : w'.cell? p = some v :=
  (h.cell (World.block_lt_of_cell? w p hc)).trans hc
theorem Rdi_below {w wr : World} {a : Option Addr} {l : List Int} (h : Below w.heap.size w wr) (hR : Rdi w a l) : Rdi wr a l := by
  rcases hR with rfl | ⟨b, off, rfl, hc⟩
  · exact .inl rfl
  · exact .inr ⟨b, off, rfl, fun i hi => Below.cell_of' h (hc i hi)⟩
theorem Rdi_take {w : World} {a : Option Addr} {l : List Int} (h : Rdi w a l) (k : Nat) : Rdi w a (l.take k) := by
  rcases h with rfl | ⟨b, off, rfl, hc⟩
  · exact .inl (by simp)
  · refine .inr ⟨b, off, rfl, fun i hi => ?_⟩
    rw [List.length_take] at hi
    rw [iat_take, if_pos (by omega)]
    exact hc i (by omega)
theorem Rdi_news {w : World} {b off : Nat} {l : List Int} (hc : ∀ i, i < l.length → w.cell? ⟨b, off + i, none⟩ = some (.int .i64 (iat l i))) : ∀ j u, (zvs l)[j]? = some u → w.cell? ((⟨b, off, none⟩ : Addr).add j) = some u := by
  intro j u hu
  have ha : (⟨b, off, none⟩ : Addr).add j = ⟨b, off + j, none⟩ := by unfold Addr.add; split <;> simp_all
  have hj : j < l.length := by
    rcases Nat.lt_or_ge j l.length with h | h
    · exact h
    · rw [List.getElem?_eq_none (by simpa [zvs] using h)] at hu; cases hu
  rw [ha, hc j hj, ← hu]
  simp [zvs, iat, hj]
def Blk (w : World) (g : Nat) (l : List Int) : Prop := w.heap[g]? = some (.cells (zvs l).toArray 3 (0, 0))
theorem Blk.cell {w : World} {g i : Nat} {l : List Int} (h : Blk w g l) (hi : i < l.length) : w.cell? ⟨g, i, none⟩ = some (.int .i64 (iat l i)) := by
  unfold Blk at h
  simp [World.cell?, h, ← zvs_get hi]
theorem Blk.free {w : World} {g : Nat} {l : List Int} (h : Blk w g l) (i : Nat) : w.frozen? ⟨g, i, none⟩ = false := by
  unfold Blk at h
  simp [World.frozen?, h]
theorem Blk.set {w : World} {g : Nat} {l : List Int} (h : Blk w g l) (i : Nat) (v : Int) : Blk (w.setCell ⟨g, i, none⟩ (.int .i64 v)) g (l.set i v) := by
  unfold Blk at *
  rw [heap_setCell_self _ _ _ _ _ _ h, zvs_set]
theorem Blk.other {w : World} {g k i : Nat} {l : List Int} {v : Value} (h : Blk w g l) (hk : g ≠ k) : Blk (w.setCell ⟨k, i, none⟩ v) g l := by
  unfold Blk at *
  rw [← h]; exact heap_setCell_other w _ g v hk
theorem Blk.lt {w : World} {g : Nat} {l : List Int} (h : Blk w g l) : g < w.heap.size := by
  rcases Nat.lt_or_ge g w.heap.size with h1 | h1
  · exact h1
  · unfold Blk at h; rw [Array.getElem?_eq_none h1] at h; cases h
theorem Blk.below {B : Nat} {w w' : World} {g : Nat} {l : List Int} (h : Blk w g l) (hb : Below B w w') (hg : g < B) : Blk w' g l := (hb.block g hg).trans h
theorem Blk.later {w w' : World} {g : Nat} {l : List Int} (h : Blk w g l) (hb : Below w.heap.size w w') : Blk w' g l := h.below hb h.lt
theorem Blk.rdi {w : World} {g : Nat} {l : List Int} (h : Blk w g l) : Rdi w (some ⟨g, 0, none⟩) l :=
  .inr ⟨g, 0, rfl, fun i hi => by rw [Nat.zero_add]; exact h.cell hi⟩
theorem Blk.drewN {w : World} {g : Nat} {l : List Int} (h : Blk w g l) (q : Nat) : Blk (w.drewN q) g l := h
theorem Blk_new (w : World) (l : List Int) : Blk (w.alloc (.cells (zvs l).toArray 3)) w.heap.size l := heap_alloc_new _ _
theorem below_tr {a b c : World} (h1 : Below a.heap.size a b) (h2 : Below b.heap.size b c) : Below a.heap.size a c := h1.trans (h2.mono h1.size)
theorem below_drewN {B : Nat} {w wr : World} (h : Below B w wr) (q : Nat) : Below B w (wr.drewN q) := ⟨h.os, h.tape, h.output, h.size, h.block⟩
theorem below_new (w : World) (o : Obj) : Below w.heap.size w (w.alloc o) := (Below.refl _ _).alloc (Nat.le_refl _) _
def NewN (w : World) (n : Nat) (P : List Int → Prop) (e : Ending) (w' : World) : Prop :=
  ∃ g l, e = .returned (.slice (some ⟨g, 0, none⟩) n n) ∧ w.heap.size ≤ g ∧ Blk w' g l ∧ Below w.heap.size w w' ∧ l.length = n ∧ P l
def NewI (w : World) (P : List Int → Prop) (e : Ending) (w' : World) : Prop :=
  ∃ g n l, e = .returned (.slice (some ⟨g, 0, none⟩) n n) ∧ w.heap.size ≤ g ∧ Blk w' g l ∧ Below w.heap.size w w' ∧ l.length = n ∧ P l
theorem info_i64 : (Tryz.prog.info? 3).map (fun i => (i.zero, i.size, i.bytes)) = some (some (.int .i64 0), 1, 8) := by kernel_rfl
theorem size_i64 : (Tryz.prog.info? 3).map (·.size) = some 1 := by kernel_rfl
def Sl (w : World) (v : Value) (l : List Int) : Prop := ∃ p c, v = .slice p l.length c ∧ Rdi w p l ∧ l.length ≤ c ∧ c ≤ 9223372036854775807
theorem Sl.later {w w' : World} {v : Value} {l : List Int} (h : Sl w v l) (hb : Below w.heap.size w w') : Sl w' v l := by
  obtain ⟨p, c, h1, h2, h3⟩ := h
  exact ⟨p, c, h1, Rdi_below hb h2, h3⟩
theorem Blk.sl {w : World} {g : Nat} {l : List Int} (h : Blk w g l) (hl : l.length ≤ 9223372036854775807) : Sl w (.slice (some ⟨g, 0, none⟩) l.length l.length) l := ⟨_, _, rfl, h.rdi, Nat.le_refl _, hl⟩
def IntAt (w : World) (nb : Bool) (p : Option Addr) (n c : Nat) (z : Int) : Prop := nb = decide (z < 0) ∧ n = (digs z.natAbs).length ∧ Rdi w p (digs z.natAbs) ∧ n ≤ c ∧ c ≤ 9223372036854775807
theorem IntAt.later {w w' : World} {nb : Bool} {p : Option Addr} {n c : Nat} {z : Int} (h : IntAt w nb p n c z) (hb : Below w.heap.size w w') : IntAt w' nb p n c z :=
  ⟨h.1, h.2.1, Rdi_below hb h.2.2.1, h.2.2.2⟩
theorem IntAt.drewN {w : World} {nb : Bool} {p : Option Addr} {n c : Nat} {z : Int} (h : IntAt w nb p n c z) (q : Nat) : IntAt (w.drewN q) nb p n c z := h
theorem IntAt_zero (w : World) (p : Option Addr) (c : Nat) (hc : c ≤ 9223372036854775807) : IntAt w false p 0 c 0 := by
  have h : digs (0 : Int).natAbs = [] := digs_zero
  exact ⟨rfl, by rw [h]; rfl, by rw [h]; exact .inl rfl, Nat.zero_le _, hc⟩
def IntZ (w : World) (nb : Bool) (p : Option Addr) (n c : Nat) (z : Int) : Prop := (z ≠ 0 → nb = decide (z < 0)) ∧ n = (digs z.natAbs).length ∧ Rdi w p (digs z.natAbs) ∧ n ≤ c ∧ c ≤ 9223372036854775807
theorem IntAt.z {w : World} {nb : Bool} {p : Option Addr} {n c : Nat} {z : Int} (h : IntAt w nb p n c z) : IntZ w nb p n c z := ⟨fun _ => h.1, h.2⟩
theorem IntZ.later {w w' : World} {nb : Bool} {p : Option Addr} {n c : Nat} {z : Int} (h : IntZ w nb p n c z) (hb : Below w.heap.size w w') : IntZ w' nb p n c z :=
  ⟨h.1, h.2.1, Rdi_below hb h.2.2.1, h.2.2.2⟩
theorem IntZ.neg {w : World} {nb : Bool} {p : Option Addr} {n c : Nat} {z : Int} (h : IntZ w nb p n c z) : IntZ w (!nb) p n c (-z) := by
  refine ⟨fun hz => ?_, by rw [Int.natAbs_neg]; exact h.2.1, by rw [Int.natAbs_neg]; exact h.2.2⟩
  rw [h.1 (by omega)]
  rcases Int.lt_or_le z 0 with h4 | h4
  · rw [decide_eq_true h4, decide_eq_false (show ¬ -z < 0 by omega)]; rfl
  · rw [decide_eq_false (show ¬ z < 0 by omega), decide_eq_true (show -z < 0 by omega)]; rfl
def RetF (fr : Addr → Prop) (w : World) (z : Int) (e : Ending) (w' : World) : Prop := ∃ nb p n c, e = .returned (.agg #[.bool nb, .slice p n c]) ∧ IntAt w' nb p n c z ∧ Below w.heap.size w w' ∧ ∀ q, p = some q → fr q
def RetI (w : World) (z : Int) (e : Ending) (w' : World) : Prop := RetF (fun q => w.heap.size ≤ q.block) w z e w'
theorem Rdi_store {w : World} {a : Option Addr} {l : List Int} {B i : Nat} {v : Value} (h : Rdi w a l) (hB : ∀ q, a = some q → q.block ≠ B) : Rdi (w.setCell ⟨B, i, none⟩ v) a l := by
  rcases h with rfl | ⟨b, off, rfl, hc⟩
  · exact .inl rfl
  · refine .inr ⟨b, off, rfl, fun j hj => ?_⟩
    have hb := hB _ rfl
    have := World.cell?_of_block (w := w) (w' := w.setCell ⟨B, i, none⟩ v) (a := ⟨b, off + j, none⟩) (Below.heap_setCell _ _ _ _ hb)
    rw [this]; exact hc j hj
theorem IntAt.store {w : World} {nb : Bool} {p : Option Addr} {n c : Nat} {z : Int} {B i : Nat} {v : Value} (h : IntAt w nb p n c z) (hB : ∀ q, p = some q → q.block ≠ B) : IntAt (w.setCell ⟨B, i, none⟩ v) nb p n c z :=
  ⟨h.1, h.2.1, Rdi_store h.2.2.1 hB, h.2.2.2⟩
def sg (neg : Bool) (n : Int) : Int := if neg then -n else n
open Go.RowKit
set_option maxRecDepth 100000 in
set_option maxHeartbeats 400000 in
theorem isNaN_any (a : Int) (w : World) : Calls Tryz.prog 123 #[.int .i64 a] w fun e w' => e = .returned (.bool false) ∧ w = w' := by
  go_enter Tryz.func123, Tryz.ntmps123
  go_wp2
  go_ret
  exact ⟨rfl, rfl⟩
set_option maxRecDepth 100000 in
set_option maxHeartbeats 400000 in
theorem cmp_any (a b : Int) (w : World) : Calls Tryz.prog 91 #[.int .i64 a, .int .i64 b] w fun e w' => e = .returned (.int .i64 (cmpI a b)) ∧ w = w' := by
  by_cases h1 : a < b
  · have hr : Hid (cmpI a b = -1) := Lib.hid (by unfold cmpI; rw [if_pos h1])
    go_enter Tryz.func91, Tryz.ntmps91
    go_wp2_with (go_at_call 123; refine (isNaN_any _ _).mono ?_; rintro e w' ⟨rfl, rfl⟩)
    go_ret
    exact ⟨by rw [hr.out]; rfl, rfl⟩
  · by_cases h2 : b < a
    · have hr : Hid (cmpI a b = 1) := Lib.hid (by unfold cmpI; rw [if_neg h1, if_pos h2])
      go_enter Tryz.func91, Tryz.ntmps91
      go_wp2_with (go_at_call 123; refine (isNaN_any _ _).mono ?_; rintro e w' ⟨rfl, rfl⟩)
      go_ret
      exact ⟨by rw [hr.out]; rfl, rfl⟩
    · have hr : Hid (cmpI a b = 0) := Lib.hid (by unfold cmpI; rw [if_neg h1, if_neg h2])
      go_enter Tryz.func91, Tryz.ntmps91
      go_wp2_with (go_at_call 123; refine (isNaN_any _ _).mono ?_; rintro e w' ⟨rfl, rfl⟩)
      go_ret
      exact ⟨by rw [hr.out]; rfl, rfl⟩
theorem splice_cpy (l : List Int) (n : Nat) : splice (zvs (List.replicate n 0)) 0 (zvs (l.take n)) = zvs (cpy l n) := by
  have h : n - (l.take n).length = n - l.length := by rw [List.length_take]; omega
  unfold splice cpy
  simp only [zvs, List.take_zero, List.nil_append, Nat.zero_add, List.length_map, List.map_append, List.map_replicate, List.drop_replicate, h]
set_option maxRecDepth 100000 in
set_option maxHeartbeats 400000 in
theorem copied_any (a : Option Addr) (m c : Nat) (l : List Int) (n : Nat) (w : World) (hR0 : Rdi w a l) (hm0 : m = l.length) (hn : n ≤ 1099511627776) :
    Calls Tryz.prog 116 #[.slice a m c, .int .i64 (n : Int)] w (NewN w n fun z => z = cpy l n) := by
  have hR := Lib.hid hR0
  have hm := Lib.hid hm0
  clear hR0 hm0
  have hmk := run_make_row' (P := Tryz.prog) 22 3 (.int .i64 0) 8 Tryz.underlying22 info_i64 rfl .i64 .i64 n (by omega) (by omega)
  have hz := zvs_zeros n
  have hn0 : (0 : Int) ≤ (n : Int) := by omega
  obtain ⟨Z, hZ⟩ : ∃ Z, zvs (List.replicate n 0) = Z := ⟨_, rfl⟩
  rw [hz, hZ] at hmk
  obtain ⟨cs, hcs⟩ : ∃ cs, cs = zvs (l.take n) := ⟨_, rfl⟩
  have hZ' := Lib.hid hZ
  have hcs' := Lib.hid hcs
  clear hZ hcs hz
  have c1 : Hid (cs.length = Nat.min m n) := Lib.hid (by rw [hcs'.out, zvs_length, List.length_take, hm.out]; exact Nat.min_comm _ _)
  have c2 : Hid (0 < cs.length → some (⟨w.heap.size, 0, none⟩ : Addr) = some ⟨w.heap.size, 0, none⟩ ∧ ∃ ad, a = some ad ∧ ∀ j v, cs[j]? = some v → (w.alloc (.cells Z.toArray 3)).cell? (ad.add j) = some v) := Lib.hid (by
    intro hpos
    refine ⟨rfl, ?_⟩
    rcases hR.out with rfl | ⟨b, off, rfl, hc⟩
    · rw [hcs'.out] at hpos; simp [zvs] at hpos
    · refine ⟨_, rfl, fun j v hj => ?_⟩
      rw [hcs'.out] at hj
      exact Below.cell_of' (below_new w _) (Rdi_news (l := l.take n) (fun i hi => by
        rw [List.length_take] at hi
        rw [iat_take, if_pos (by omega)]
        exact hc i (by omega)) j v hj))
  have c3 : Hid (0 + cs.length ≤ Z.length) := Lib.hid (by rw [hcs'.out, ← hZ'.out, zvs_length, zvs_length, List.length_take, List.length_replicate]; omega)
  have c4 : Hid (∀ v ∈ cs, v.oneCell' = true) := Lib.hid (by rw [hcs'.out]; exact zvs_one _)
  go_enter Tryz.func116, Tryz.ntmps116
  go_wp2_with (refine wpList_copy_splice rfl (.tmp 8) (.tmp 9) 22 22 rfl 3 Tryz.underlying22 size_i64 (some ⟨w.heap.size, 0, none⟩) a n n m c rfl rfl w.heap.size 0 Z 3 (heap_alloc_new _ _) cs c1.out c2.out c3.out c4.out w.heap.size w (below_new w _) (Nat.le_refl _) ?_; intro w2 hG2 hB2; have hB2' := Lib.hid hB2; clear hB2)
  go_ret
  refine ⟨_, cpy l n, rfl, Nat.le_refl _, ?_, hB2'.out, cpy_length _ _, rfl⟩
  have := hG2.out
  unfold Blk
  rw [this, hcs'.out, ← hZ'.out, splice_cpy]
theorem copied_at (a : Option Addr) (m c : Nat) (l : List Int) (k : Int) (n : Nat) (w : World) (hk : k = (n : Int)) (hR0 : Rdi w a l) (hm0 : m = l.length) (hn : n ≤ 1099511627776) :
    Calls Tryz.prog 116 #[.slice a m c, .int .i64 k] w (NewN w n fun z => z = cpy l n) := by
  subst hk; exact copied_any a m c l n w hR0 hm0 hn
open Go.RowKit
set_option maxRecDepth 100000 in
set_option maxHeartbeats 400000 in
theorem trimmed_any (a : Option Addr) (m c : Nat) (l : List Int) (w : World) (hR0 : Rdi w a l) (hm0 : m = l.length) (hmc : m ≤ c) (hm : m ≤ 9223372036854775807) :
    Calls Tryz.prog 125 #[.slice a m c] w fun e w' => e = .returned (.slice a (tlen l) c) ∧ w = w' := by
  have hR := Lib.hid hR0
  have hml := Lib.hid hm0
  clear hR0 hm0
  go_enter Tryz.func125, Tryz.ntmps125
  go_wp2
  go_loop [3] (fun n => ∃ k : Nat, k ≤ m ∧ n = .int .i64 (k : Int) ∧ Hid (∀ i, k ≤ i → i < l.length → iat l i = 0)) (fun n => (intOf n).toNat)
  case atStart => exact ⟨m, Nat.le_refl _, rfl, Lib.hid (fun i h1 h2 => by have := hml.out; omega)⟩
  case round =>
    obtain ⟨k, hk, rfl, hz⟩ := hrel
    by_cases h0 : k = 0
    · subst h0
      have ht : Hid (tlen l = 0) := Lib.hid (tlen_of l 0 (Nat.zero_le _) hz.out (.inl rfl))
      rw [show ((0 : Nat) : Int) = 0 from rfl]
      go_wp2_with fail
      go_ret
      exact ⟨by rw [ht.out]; rfl, rfl⟩
    · obtain ⟨q, rfl⟩ : ∃ q, k = q + 1 := ⟨k - 1, by omega⟩
      obtain ⟨b, off, rfl, hc⟩ := Rdi_at hR.out q (by rw [← hml.out]; omega)
      obtain ⟨x, hx⟩ : ∃ x, iat l q = x := ⟨_, rfl⟩
      rw [hx] at hc
      have hx' := Lib.hid hx
      clear hx h0
      have e1 : (((q + 1 : Nat) : Int)) = (q : Int) + 1 := by omega
      have e2 : (q : Int) + 1 - 1 = (q : Int) := by omega
      have h1 : (0 : Int) < (q : Int) + 1 := by omega
      rw [e1]
      by_cases hx0 : x = 0
      · subst hx0
        have hz2 : Hid (∀ i, q ≤ i → i < l.length → iat l i = 0) := Lib.hid (fun i h1 h2 => by
          rcases Nat.lt_or_ge q i with h | h
          · exact hz.out i (by omega) h2
          · rw [show i = q by omega]; exact hx'.out)
        go_wp2_with fail
        refine ⟨⟨q, by omega, rfl, hz2⟩, by simp [intOf]⟩
      · have hxb : (x == 0) = false := by simpa using hx0
        have ht : Hid (tlen l = q + 1) := Lib.hid (tlen_of l (q + 1) (by rw [← hml.out]; exact hk) hz.out (.inr (by rw [Nat.add_sub_cancel, hx'.out]; exact hx0)))
        clear hx0
        go_wp2_with fail
        go_ret
        exact ⟨by rw [ht.out]; rfl, rfl⟩
open Go.RowKit
theorem tlen_zero {l : List Int} (h : Dg l) (h0 : tlen l = 0) : val l = 0 := by
  have h1 := take_tlen h
  rw [h0, List.take_zero] at h1
  have h2 := digs_nil.1 h1.symm
  have h3 := h.lo
  omega
theorem tlen_len {l : List Int} (h : Dg l) : (digs (val l).toNat).length = tlen l := by
  rw [← take_tlen h, List.length_take]
  have := tlen_le l
  omega
theorem tlen_pos {l : List Int} (h : Dg l) (h0 : tlen l ≠ 0) : 0 < val l := by
  have h1 := tlen_len h
  have h2 := h.lo
  rcases Int.lt_or_le 0 (val l) with h3 | h3
  · exact h3
  · rw [show val l = 0 by omega] at h1
    have h4 : digs (0 : Int).toNat = [] := digs_zero
    rw [h4] at h1
    simp at h1
    omega
theorem sg_abs (neg : Bool) (n : Int) (h : 0 ≤ n) : (sg neg n).natAbs = n.toNat := by unfold sg; cases neg <;> simp <;> omega
theorem sg_neg (neg : Bool) (n : Int) (h : 0 < n) : decide (sg neg n < 0) = neg := by unfold sg; cases neg <;> simp <;> omega
theorem made_is {w : World} {neg : Bool} {a : Option Addr} {c : Nat} {l : List Int} (hR : Rdi w a l) (hd : Dg l) (h0 : tlen l ≠ 0) (hc : l.length ≤ c) (hm : c ≤ 9223372036854775807) : IntAt w neg a (tlen l) c (sg neg (val l)) := by
  have hp := tlen_pos hd h0
  have ht := tlen_le l
  refine ⟨(sg_neg _ _ hp).symm, ?_, ?_, by omega, hm⟩
  · rw [sg_abs _ _ (by omega), tlen_len hd]
  · rw [sg_abs _ _ (by omega), ← take_tlen hd]; exact Rdi_take hR _
set_option maxRecDepth 100000 in
set_option maxHeartbeats 400000 in
theorem made_any (neg : Bool) (a : Option Addr) (m c : Nat) (l : List Int) (w : World) (hR0 : Rdi w a l) (hm0 : m = l.length) (hmc : m ≤ c) (hm : c ≤ 9223372036854775807) (hd0 : Dg l) :
    Calls Tryz.prog 108 #[.bool neg, .slice a m c] w (RetF (fun q => a = some q) w (sg neg (val l))) := by
  have hR := Lib.hid hR0
  have hml := Lib.hid hm0
  have hd := Lib.hid hd0
  clear hR0 hm0 hd0
  have htr : Hid (∀ W, Below w.heap.size w W → Calls Tryz.prog 125 #[.slice a m c] W fun e w' => e = .returned (.slice a (tlen l) c) ∧ W = w') :=
    Lib.hid (fun W hb => trimmed_any a m c l W (Rdi_below hb hR.out) hml.out hmc (by omega))
  obtain ⟨t, ht⟩ : ∃ t, tlen l = t := ⟨_, rfl⟩
  rw [ht] at htr
  have ht' := Lib.hid ht
  clear ht
  by_cases h0 : t = 0
  · subst h0
    have hv : Hid (sg neg (val l) = 0) := Lib.hid (by rw [tlen_zero hd.out ht'.out]; unfold sg; cases neg <;> rfl)
    rw [hv.out]
    go_enter Tryz.func108, Tryz.ntmps108
    go_wp2_with (go_at_call 125; refine (htr.out _ (below_new w _)).mono ?_; rintro e w' ⟨rfl, rfl⟩)
    exact bodyPost_ret (v := .agg #[.bool false, .slice none 0 0]) (by simp [results, Tryz.results108, go_sem]) rfl ⟨_, _, _, _, rfl, IntAt_zero _ _ _ (by omega), below_new _ _, fun q hq => by cases hq⟩
  · have h0b : ((t : Int) == 0) = false := by simpa using h0
    have hI : Hid (∀ W, Below w.heap.size w W → IntAt W neg a t c (sg neg (val l))) := Lib.hid (fun W hb => by rw [← ht'.out]; exact made_is (Rdi_below hb hR.out) hd.out (by rw [ht'.out]; exact h0) (by rw [← hml.out]; exact hmc) hm)
    clear h0
    go_enter Tryz.func108, Tryz.ntmps108
    go_wp2_with (go_at_call 125; refine (htr.out _ (below_new w _)).mono ?_; rintro e w' ⟨rfl, rfl⟩)
    exact bodyPost_ret (v := .agg #[.bool neg, .slice a t c]) (by simp [results, Tryz.results108, go_sem]) rfl ⟨_, _, _, _, rfl, hI.out _ (below_new _ _), below_new _ _, fun q hq => hq⟩
theorem cmp_lt {a b : Int} (h : a < b) : cmpI a b = -1 := by unfold cmpI; rw [if_pos h]
theorem cmp_gt {a b : Int} (h : b < a) : cmpI a b = 1 := by unfold cmpI; rw [if_neg (by omega), if_pos h]
theorem cmp_eq (a : Int) : cmpI a a = 0 := by unfold cmpI; simp
theorem cmp_len {a b : Nat} (h : (digs a).length ≠ (digs b).length) : cmpI ((digs a).length : Int) ((digs b).length : Int) = cmpI a b := by
  rcases Nat.lt_or_gt_of_ne h with h1 | h1
  · have := digs_len_lt h1
    rw [cmp_lt (by omega), cmp_lt (by omega)]
  · have := digs_len_lt h1
    rw [cmp_gt (by omega), cmp_gt (by omega)]
theorem cmp_top {a b : Nat} (hl : (digs a).length = (digs b).length) (k : Nat) (hk : k < (digs a).length) (hd : (digs a).drop (k + 1) = (digs b).drop (k + 1)) (hne : iat (digs a) k ≠ iat (digs b) k) : cmpI (iat (digs a) k) (iat (digs b) k) = cmpI a b := by
  rcases Int.lt_or_gt_of_ne hne with h1 | h1
  · have := val_top (Dg_digs a) (Dg_digs b) hl k hk (by rw [hd]) h1
    rw [val_digs, val_digs] at this
    rw [cmp_lt h1, cmp_lt this]
  · have := val_top (Dg_digs b) (Dg_digs a) hl.symm k (by omega) (by rw [hd]) h1
    rw [val_digs, val_digs] at this
    rw [cmp_gt h1, cmp_gt this]
theorem drop_same {x y : List Int} (hl : x.length = y.length) (k : Nat) (hk : k < x.length) (hd : x.drop (k + 1) = y.drop (k + 1)) (he : iat x k = iat y k) : x.drop k = y.drop k := by
  rw [List.drop_eq_getElem_cons hk, List.drop_eq_getElem_cons (l := y) (by omega), hd]
  congr 1
  simpa [iat, hk, show k < y.length by omega] using he
theorem q_left {P : Program} {f : FuncId} {args : Array Value} {w : World} {a : Nat} {v : Value} (h : Calls P f args (w.drewN a) fun e w' => e = .returned v ∧ w.drewN a = w') :
    Calls P f args (w.drewN a) fun e w'' => e = .returned v ∧ ∃ m, w'' = w.drewN m := h.mono fun _ _ x => ⟨x.1, a, x.2.symm⟩
set_option maxRecDepth 100000 in
set_option maxHeartbeats 800000 in
theorem compare_any (a1 a2 : Option Addr) (n1 c1 n2 c2 : Nat) (x y : Nat) (w : World) (hR1 : Rdi w a1 (digs x)) (hR2 : Rdi w a2 (digs y)) (hn1 : n1 = (digs x).length) (hn2 : n2 = (digs y).length) (hm1 : n1 ≤ 9223372036854775807) (hm2 : n2 ≤ 9223372036854775807) :
    Calls Tryz.prog 114 #[.slice a1 n1 c1, .slice a2 n2 c2] w fun e w' => e = .returned (.int .i64 (cmpI x y)) ∧ Below w.heap.size w w' := by
  have H1 := Lib.hid hR1
  have H2 := Lib.hid hR2
  have N1 := Lib.hid hn1
  have N2 := Lib.hid hn2
  clear hR1 hR2 hn1 hn2
  by_cases hne : n1 = n2
  · subst hne
    have htst : ((n1 : Int) != (n1 : Int)) = false := by simp
    have HL : Hid ((digs x).length = (digs y).length) := Lib.hid (by rw [← N1.out, ← N2.out])
    go_enter Tryz.func114, Tryz.ntmps114
    go_wp2_with fail
    go_loopw [19] (fun i wr => ∃ k : Nat, k ≤ n1 ∧ i = .int .i64 (k : Int) ∧ Hid ((digs x).drop (n1 - k) = (digs y).drop (n1 - k)) ∧ Below w.heap.size w wr) (fun i _ => n1 - (intOf i).toNat)
    case atStart => exact ⟨0, Nat.zero_le _, rfl, Lib.hid (by rw [Nat.sub_zero, List.drop_of_length_le (by rw [← N1.out]; exact Nat.le_refl _), List.drop_of_length_le (by rw [← N2.out]; exact Nat.le_refl _)]), Below.refl _ _⟩
    case round =>
      obtain ⟨k, hk, rfl, hd, hB⟩ := hrel
      by_cases hlt : k < n1
      · obtain ⟨j, rfl⟩ : ∃ j, n1 = j + 1 + k := ⟨n1 - 1 - k, by omega⟩
        obtain ⟨b1, o1, rfl, hc1⟩ := Rdi_at H1.out j (by rw [← N1.out]; omega)
        obtain ⟨b2, o2, rfl, hc2⟩ := Rdi_at H2.out j (by rw [← N2.out]; omega)
        have C1 := Below.cell_of' hB hc1
        have C2 := Below.cell_of' hB hc2
        have hB' := Lib.hid hB
        have hd' : Hid ((digs x).drop (j + 1) = (digs y).drop (j + 1)) := Lib.hid (by have := hd.out; rw [show j + 1 + k - k = j + 1 by omega] at this; exact this)
        obtain ⟨X, hX⟩ : ∃ X, iat (digs x) j = X := ⟨_, rfl⟩
        obtain ⟨Y, hY⟩ : ∃ Y, iat (digs y) j = Y := ⟨_, rfl⟩
        rw [hX] at C1
        rw [hY] at C2
        have hX' := Lib.hid hX
        have hY' := Lib.hid hY
        have hj1 : j < (digs x).length := by rw [← N1.out]; omega
        have e0 : (((j + 1 + k : Nat) : Int)) = (j : Int) + 1 + (k : Int) := by omega
        have e1 : (j : Int) + 1 + (k : Int) - 1 - (k : Int) = (j : Int) := by omega
        have e2 : (k : Int) < (j : Int) + 1 + (k : Int) := by omega
        have e3 : (j : Int) < (j : Int) + 1 + (k : Int) := by omega
        have e4 : 0 ≤ (j : Int) := by omega
        have e5 : ((j : Int)).toNat = j := by omega
        clear hB hc1 hc2 hd hX hY
        rw [e0]
        by_cases hXY : X = Y
        · subst hXY
          have hn : (X != X) = false := by simp
          have hs : Hid ((digs x).drop j = (digs y).drop j) := Lib.hid (drop_same HL.out j hj1 hd'.out (by rw [hX'.out, hY'.out]))
          clear e0
          go_wp2_with fail
          go_quiet (fail)
          go_wp2_with fail
          refine ⟨⟨k + 1, by omega, by simp, ?_, below_drewN hB'.out _⟩, by simp [intOf]; omega⟩
          exact Lib.hid (by rw [show j + 1 + k - (k + 1) = j by omega]; exact hs.out)
        · have hn : (X != Y) = true := by simpa using hXY
          have hr : Hid (cmpI X Y = cmpI x y) := Lib.hid (by rw [← hX'.out, ← hY'.out]; exact cmp_top HL.out j hj1 hd'.out (by rw [hX'.out, hY'.out]; exact hXY))
          clear hXY e0
          go_wp2_with fail
          go_quiet (fail)
          go_wp2_with fail
          have hBq := Lib.hid (below_drewN hB'.out nq)
          have C1q : (wr.drewN nq).cell? ⟨b1, o1 + j, none⟩ = some (.int .i64 X) := C1
          have C2q : (wr.drewN nq).cell? ⟨b2, o2 + j, none⟩ = some (.int .i64 Y) := C2
          generalize wr.drewN nq = wq at hBq C1q C2q ⊢
          clear C1 C2
          go_quiet ((go_at_call 91; exact q_left (cmp_any _ _ _)))
          go_wp2_with fail
          go_ret
          exact ⟨by rw [← hr.out]; rfl, below_drewN hBq.out _⟩
      · have hk' : k = n1 := by omega
        subst hk'
        have hr : Hid (cmpI x y = 0) := Lib.hid (by
          have := hd.out
          rw [Nat.sub_self, List.drop_zero, List.drop_zero] at this
          rw [digs_inj this]; exact cmp_eq _)
        have hB' := Lib.hid hB
        clear hB
        go_wp2_with fail
        go_ret
        exact ⟨by rw [hr.out]; rfl, hB'.out⟩
  · have htst : ((n1 : Int) != (n2 : Int)) = true := by simp; omega
    have hr : Hid (cmpI (n1 : Int) (n2 : Int) = cmpI x y) := Lib.hid (by rw [N1.out, N2.out]; exact cmp_len (by rw [← N1.out, ← N2.out]; exact hne))
    go_enter Tryz.func114, Tryz.ntmps114
    go_wp2_with (go_at_call 91; refine (cmp_any _ _ _).mono ?_; rintro e w' ⟨rfl, rfl⟩)
    go_ret
    exact ⟨by rw [← hr.out]; rfl, Below.refl _ _⟩
end Go.Proofs.YtleijkgdpmfabaaGreatDoor
