/- Streams of SHA-256 as mathematics: the value behind the full blocks, the block that is being filled, the padding. -/
import Derived.Test.YtfgkaiaapofepaaDoorHSpec
import Derived.Laws.CopyOwn
namespace Go.Proofs.YtfgkaiaapofepaaDoor

theorem blks_append (v : St) (l r : List UInt8) : ∀ n, 64 * n ≤ l.length → blks v (l ++ r) n = blks v l n
  | 0, _ => rfl
  | n + 1, h => by
    have e : ((l ++ r).drop (64 * n)).take 64 = (l.drop (64 * n)).take 64 := by
      rw [List.drop_append_of_le_length (by omega), List.take_append_of_le_length (by simp; omega)]
    show blk1 (blks v (l ++ r) n) (((l ++ r).drop (64 * n)).take 64) = blk1 (blks v l n) ((l.drop (64 * n)).take 64)
    rw [e, blks_append v l r n (by omega)]

theorem be8_length (n : Nat) : (be8 n).length = 8 := by simp [be8]
theorem pad_length (m : List UInt8) : (pad m).length = 64 * ((m.length + 72) / 64) := by
  unfold pad padz
  simp only [List.length_append, List.length_cons, List.length_replicate, be8_length]
  omega

/-- the value behind the full blocks of a message -/
def strv (m : List UInt8) : St := blks st0 m (m.length / 64)
/-- what is behind them, followed by zeros -/
def strb (m : List UInt8) : List UInt8 := m.drop (64 * (m.length / 64)) ++ List.replicate (64 - m.length % 64) 0
theorem strb_length (m : List UInt8) : (strb m).length = 64 := by
  unfold strb; simp only [List.length_append, List.length_drop, List.length_replicate]; omega



theorem strb_take (m : List UInt8) : (strb m).take (m.length % 64) = m.drop (64 * (m.length / 64)) := by
  unfold strb
  rw [List.take_append_of_le_length (by simp; omega), List.take_of_length_le (by simp; omega)]
theorem strb_drop (m : List UInt8) (n : Nat) : (strb m).drop (m.length % 64 + n) = List.replicate (64 - m.length % 64 - n) 0 := by
  unfold strb
  rw [List.drop_append, List.drop_eq_nil_of_le (by simp; omega), List.nil_append, List.drop_replicate]
  congr 1
  simp; omega

theorem str_splice (m t : List UInt8) : splice (strb m) (m.length % 64) t = (m ++ t).drop (64 * (m.length / 64)) ++ List.replicate (64 - m.length % 64 - t.length) 0 := by
  unfold splice
  rw [strb_take, strb_drop, List.drop_append_of_le_length (by omega), List.append_assoc]

theorem strb_fill (m t : List UInt8) (h : m.length % 64 + t.length < 64) : strb (m ++ t) = splice (strb m) (m.length % 64) t := by
  rw [str_splice]
  unfold strb
  have e : (m ++ t).length / 64 = m.length / 64 := by simp only [List.length_append]; omega
  have e2 : 64 - (m ++ t).length % 64 = 64 - m.length % 64 - t.length := by simp only [List.length_append]; omega
  rw [e, e2]
theorem strv_fill (m t : List UInt8) (h : m.length % 64 + t.length < 64) : strv (m ++ t) = strv m := by
  unfold strv
  have e : (m ++ t).length / 64 = m.length / 64 := by simp only [List.length_append]; omega
  rw [e, blks_append _ _ _ _ (by omega)]
theorem strb_full (m t : List UInt8) (h : m.length % 64 + t.length = 64) : strb (m ++ t) = List.replicate 64 0 := by
  unfold strb
  have e2 : (m ++ t).length % 64 = 0 := by simp only [List.length_append]; omega
  rw [e2, List.drop_eq_nil_of_le (by simp only [List.length_append]; omega)]
  rfl
theorem strv_full (m t : List UInt8) (h : m.length % 64 + t.length = 64) : strv (m ++ t) = blk1 (strv m) (splice (strb m) (m.length % 64) t) := by
  have e : (m ++ t).length / 64 = m.length / 64 + 1 := by simp only [List.length_append]; omega
  rw [str_splice]
  unfold strv
  rw [e]
  show blk1 (blks st0 (m ++ t) (m.length / 64)) (((m ++ t).drop (64 * (m.length / 64))).take 64) = _
  rw [blks_append _ _ _ _ (by omega), show 64 - m.length % 64 - t.length = 0 by omega, List.replicate_zero, List.append_nil, List.take_of_length_le (by simp only [List.length_append, List.length_drop]; omega)]

theorem sha_blocks (m : List UInt8) : sha m = outS (blks st0 (pad m) ((pad m).length / 64)) := by
  unfold sha
  rw [pad_length, Nat.mul_div_cancel_left _ (by omega)]

theorem strb_mark (m : List UInt8) : (strb m).set (m.length % 64) 128 = m.drop (64 * (m.length / 64)) ++ 128 :: List.replicate (63 - m.length % 64) 0 := by
  unfold strb
  have hl : (m.drop (64 * (m.length / 64))).length = m.length % 64 := by simp; omega
  rw [List.set_append_right _ _ (by omega), hl, Nat.sub_self, show 64 - m.length % 64 = (63 - m.length % 64) + 1 by omega, List.replicate_succ, List.set_cons_zero]

theorem sha_short (m : List UInt8) (h : m.length % 64 < 56) : sha m = outS (blk1 (strv m) (((strb m).set (m.length % 64) 128).take 56 ++ be8 (8 * m.length))) := by
  have e : (m.length + 72) / 64 = m.length / 64 + 1 := by omega
  unfold sha
  rw [e]
  show outS (blk1 (blks st0 (pad m) (m.length / 64)) (((pad m).drop (64 * (m.length / 64))).take 64)) = _
  have e1 : blks st0 (pad m) (m.length / 64) = strv m := by
    unfold pad strv
    rw [blks_append _ _ _ _ (by omega)]
  have hz : padz m.length = 55 - m.length % 64 := by unfold padz; omega
  have e2 : ((pad m).drop (64 * (m.length / 64))).take 64 = ((strb m).set (m.length % 64) 128).take 56 ++ be8 (8 * m.length) := by
    rw [strb_mark]
    unfold pad
    rw [hz, List.drop_append_of_le_length (by omega), List.take_of_length_le (by simp [be8_length]; omega)]
    have hl : (m.drop (64 * (m.length / 64))).length = m.length % 64 := by simp; omega
    rw [List.take_append, List.take_of_length_le (by omega), hl, show 56 - m.length % 64 = (55 - m.length % 64) + 1 by omega, List.take_succ_cons, List.take_replicate, show min (55 - m.length % 64) (63 - m.length % 64) = 55 - m.length % 64 by omega]
    simp
  rw [e1, e2]

theorem sha_long (m : List UInt8) (h : 56 ≤ m.length % 64) : sha m = outS (blk1 (blk1 (strv m) ((strb m).set (m.length % 64) 128)) (List.replicate 56 0 ++ be8 (8 * m.length))) := by
  have e : (m.length + 72) / 64 = m.length / 64 + 1 + 1 := by omega
  unfold sha
  rw [e]
  show outS (blk1 (blk1 (blks st0 (pad m) (m.length / 64)) (((pad m).drop (64 * (m.length / 64))).take 64)) (((pad m).drop (64 * (m.length / 64 + 1))).take 64)) = _
  have e1 : blks st0 (pad m) (m.length / 64) = strv m := by
    unfold pad strv
    rw [blks_append _ _ _ _ (by omega)]
  have hz : padz m.length = (63 - m.length % 64) + 56 := by unfold padz; omega
  have hl : (m.drop (64 * (m.length / 64))).length = m.length % 64 := by simp; omega
  have hp : (pad m).drop (64 * (m.length / 64)) = (m.drop (64 * (m.length / 64)) ++ 128 :: List.replicate (63 - m.length % 64) 0) ++ (List.replicate 56 0 ++ be8 (8 * m.length)) := by
    unfold pad
    rw [hz, List.drop_append_of_le_length (by omega), ← List.replicate_append_replicate]
    simp only [List.append_assoc, List.cons_append]
  have hl2 : (m.drop (64 * (m.length / 64)) ++ 128 :: List.replicate (63 - m.length % 64) 0).length = 64 := by
    rw [List.length_append, hl]; simp; omega
  have e2 : ((pad m).drop (64 * (m.length / 64))).take 64 = (strb m).set (m.length % 64) 128 := by
    rw [strb_mark, hp, List.take_append_of_le_length (by omega), List.take_of_length_le (by omega)]
  have e3 : ((pad m).drop (64 * (m.length / 64 + 1))).take 64 = List.replicate 56 0 ++ be8 (8 * m.length) := by
    rw [show 64 * (m.length / 64 + 1) = 64 * (m.length / 64) + 64 by omega, ← List.drop_drop, hp, List.drop_append_of_le_length (by omega), List.drop_eq_nil_of_le (by omega), List.nil_append, List.take_of_length_le (by simp [be8_length])]
  rw [e1, e2, e3]

/-! the words of a block, filled byte by byte -/
/-- the sixty-four words behind i bytes of a block -/
def fillw (l : List UInt8) (i : Nat) : List Wd := (List.range 64).map fun t => pwd l t (min 4 (i - 4 * t))
theorem fillw_length (l : List UInt8) (i : Nat) : (fillw l i).length = 64 := by simp [fillw]
theorem fillw_get (l : List UInt8) (i t : Nat) (h : t < 64) : (fillw l i)[t]? = some (pwd l t (min 4 (i - 4 * t))) := by
  unfold fillw; simp [h]
theorem fillw_zero (l : List UInt8) : fillw l 0 = List.replicate 64 0 := by
  apply List.ext_getElem?; intro t
  rw [List.getElem?_replicate]
  by_cases h : t < 64
  · rw [fillw_get l _ t h, if_pos h, show min 4 (0 - 4 * t) = 0 by omega]; rfl
  · rw [if_neg h, List.getElem?_eq_none (by rw [fillw_length]; omega)]
theorem fillw_step (l : List UInt8) (i : Nat) (h : i < 64) : (fillw l i).set (i / 4) (((pwd l (i / 4) (i % 4)) <<< 8) ||| BitVec.ofNat 32 (l.getD i 0).toNat) = fillw l (i + 1) := by
  apply List.ext_getElem?; intro t
  rw [List.getElem?_set, fillw_length]
  by_cases ht : t < 64
  · rw [fillw_get l _ t ht, fillw_get l _ t ht]
    by_cases hti : i / 4 = t
    · rw [if_pos hti, if_pos (by omega)]
      subst hti
      have h1 : min 4 (i + 1 - 4 * (i / 4)) = i % 4 + 1 := by omega
      rw [h1]
      show some ((pwd l (i / 4) (i % 4) <<< 8) ||| BitVec.ofNat 32 (l.getD i 0).toNat) = some ((pwd l (i / 4) (i % 4) <<< 8) ||| BitVec.ofNat 32 (l.getD (4 * (i / 4) + i % 4) 0).toNat)
      rw [show 4 * (i / 4) + i % 4 = i by omega]
    · rw [if_neg hti]
      congr 2; omega
  · rw [if_neg (by omega), List.getElem?_eq_none (by rw [fillw_length]; omega), List.getElem?_eq_none (by rw [fillw_length]; omega)]
theorem fillw_at (l : List UInt8) (i : Nat) (h : i < 64) : (fillw l i)[i / 4]? = some (pwd l (i / 4) (i % 4)) := by
  rw [fillw_get _ _ _ (by omega)]; congr 2; omega

theorem sch_length (l : List Wd) : ∀ n, (sch l n).length = l.length + n
  | 0 => rfl
  | n + 1 => by simp [sch, sch_length l n]; omega
theorem sch_pre (l : List Wd) (n k : Nat) (t : Nat) (h : t < l.length + n) : (sch l (n + k)).getD t 0 = (sch l n).getD t 0 := by
  induction k with
  | zero => rfl
  | succ k ih =>
    show (sch l (n + k) ++ [wnext (sch l (n + k))]).getD t 0 = _
    rw [List.getD_eq_getElem?_getD, List.getElem?_append_left (by rw [sch_length]; omega), ← List.getD_eq_getElem?_getD, ih]

/-- the sixty-four words when those ahead of t are made -/
def wat (l : List UInt8) (t : Nat) : List Wd := sch ((List.range 16).map (be4 l)) (t - 16) ++ List.replicate (64 - t) 0
theorem wat_length (l : List UInt8) (t : Nat) (h : 16 ≤ t) (h2 : t ≤ 64) : (wat l t).length = 64 := by
  unfold wat; rw [List.length_append, sch_length]; simp; omega
theorem wat_16 (l : List UInt8) : fillw l 64 = wat l 16 := by
  apply List.ext_getElem?; intro t
  by_cases ht : t < 64
  · rw [fillw_get l _ t ht]
    unfold wat
    show _ = (((List.range 16).map (be4 l)) ++ List.replicate 48 0)[t]?
    by_cases h16 : t < 16
    · rw [List.getElem?_append_left (by simpa using h16)]
      simp [h16, be4]
      congr 1; omega
    · rw [List.getElem?_append_right (by simpa using h16)]
      rw [show min 4 (64 - 4 * t) = 0 by omega, List.getElem?_replicate, if_pos (by simp; omega)]; rfl
  · rw [List.getElem?_eq_none (by rw [fillw_length]; omega), List.getElem?_eq_none (by rw [wat_length _ _ (by omega) (by omega)]; omega)]
theorem wat_64 (l : List UInt8) : wat l 64 = words l := by unfold wat words; simp
theorem wat_get (l : List UInt8) (t j : Nat) (h : 16 ≤ t) (ht : t ≤ 64) (hj : j < t) : (wat l t)[j]? = some ((sch ((List.range 16).map (be4 l)) (t - 16)).getD j 0) := by
  unfold wat
  have hl : (sch ((List.range 16).map (be4 l)) (t - 16)).length = t := by rw [sch_length]; simp; omega
  rw [List.getElem?_append_left (by omega), List.getD_eq_getElem?_getD, List.getElem?_eq_getElem (by omega)]; rfl
/-- word j, once it is made -/
def wrd (l : List UInt8) (j : Nat) : Wd := (words l).getD j 0
theorem wat_word (l : List UInt8) (t j : Nat) (h : 16 ≤ t) (ht : t ≤ 64) (hj : j < t) : (wat l t)[j]? = some (wrd l j) := by
  rw [wat_get l t j h ht hj]
  unfold wrd words
  have := sch_pre ((List.range 16).map (be4 l)) (t - 16) (64 - t) j (by simp; omega)
  rw [← this]
  congr 3; omega
theorem wrd_next (l : List UInt8) (t : Nat) (h : 16 ≤ t) (ht : t < 64) : wrd l t = wrd l (t - 16) + sg0 (wrd l (t - 15)) + wrd l (t - 7) + sg1 (wrd l (t - 2)) := by
  have g : ∀ j, j < t → (sch ((List.range 16).map (be4 l)) (t - 16)).getD j 0 = wrd l j := by
    intro j hj
    have h1 := wat_get l t j h (by omega) hj
    rw [wat_word l t j h (by omega) hj] at h1
    exact (Option.some.inj h1).symm
  have hl : (sch ((List.range 16).map (be4 l)) (t - 16)).length = t := by rw [sch_length]; simp; omega
  have h2 := wat_get l (t + 1) t (by omega) (by omega) (by omega)
  rw [wat_word l (t + 1) t (by omega) (by omega) (by omega)] at h2
  have h3 := Option.some.inj h2
  rw [h3, show t + 1 - 16 = (t - 16) + 1 by omega]
  show (sch _ (t - 16) ++ [wnext (sch _ (t - 16))]).getD t 0 = _
  rw [List.getD_eq_getElem?_getD, List.getElem?_append_right (by omega), hl, Nat.sub_self]
  show wnext _ = _
  unfold wnext
  rw [hl, g _ (by omega), g _ (by omega), g _ (by omega), g _ (by omega)]
theorem wat_step (l : List UInt8) (t : Nat) (h : 16 ≤ t) (ht : t < 64) : (wat l t).set t (wrd l t) = wat l (t + 1) := by
  have hl : (sch ((List.range 16).map (be4 l)) (t - 16)).length = t := by rw [sch_length]; simp; omega
  apply List.ext_getElem?; intro j
  rw [List.getElem?_set, wat_length l t h (by omega)]
  by_cases hj : t = j
  · subst hj
    rw [if_pos rfl, if_pos ht, wat_word l (t + 1) t (by omega) (by omega) (by omega)]
  · rw [if_neg hj]
    by_cases hjt : j < t
    · rw [wat_word l t j h (by omega) hjt, wat_word l (t + 1) j (by omega) (by omega) (by omega)]
    · unfold wat
      have hl' : (sch ((List.range 16).map (be4 l)) (t + 1 - 16)).length = t + 1 := by rw [sch_length]; simp; omega
      rw [List.getElem?_append_right (by omega), List.getElem?_append_right (by omega), hl, hl']
      simp only [List.getElem?_replicate]
      by_cases h64 : j < 64
      · rw [if_pos (by omega), if_pos (by omega)]
      · rw [if_neg (by omega), if_neg (by omega)]
theorem wat_zero (l : List UInt8) (t : Nat) (h : 16 ≤ t) (ht : t < 64) : (wat l t)[t]? = some 0 := by
  unfold wat
  have hl : (sch ((List.range 16).map (be4 l)) (t - 16)).length = t := by rw [sch_length]; simp; omega
  rw [List.getElem?_append_right (by omega), hl, Nat.sub_self, List.getElem?_replicate, if_pos (by omega)]
theorem words_get (l : List UInt8) (t : Nat) (h : t < 64) : (words l)[t]? = some (wrd l t) := by
  rw [← wat_64]; exact wat_word l 64 t (by omega) (by omega) h
theorem words_length (l : List UInt8) : (words l).length = 64 := by rw [← wat_64, wat_length _ _ (by omega) (by omega)]
end Go.Proofs.YtfgkaiaapofepaaDoor
