/- Contracts of the package integer and its reference: The plain mathematics of layer 1 (as in the texts of stage 1). -/
import Derived.Test.YteaoaoknpihchaaDoorM1
namespace Go.Proofs.YteaoaoknpihchaaDoor
open Go.RowKit


/-- the j lowest digits of m in base 256, most significant first -/
def lows : Nat → Nat → List UInt8
  | 0, _ => []
  | j + 1, m => lows j (m / 256) ++ [UInt8.ofNat (m % 256)]

theorem lows_length (j m : Nat) : (lows j m).length = j := by
  induction j generalizing m with
  | zero => rfl
  | succ j ih => simp [lows, ih]

/-- how many digits m has -/
def nd (m : Nat) : Nat :=
  if m < 1 then 0 else if m < 256 then 1 else if m < 65536 then 2 else if m < 16777216 then 3 else if m < 4294967296 then 4
  else if m < 1099511627776 then 5 else if m < 281474976710656 then 6 else if m < 72057594037927936 then 7 else 8

theorem nd_le (m : Nat) : nd m ≤ 8 := by
  unfold nd
  (repeat' split) <;> omega

/-- after j digits nothing is left exactly if m has at most j digits -/
theorem nd_zero (m j : Nat) (h : m < 9223372036854775808) (hj : j ≤ 8) : m / 256 ^ j = 0 ↔ nd m ≤ j := by
  have h9 : j = 0 ∨ j = 1 ∨ j = 2 ∨ j = 3 ∨ j = 4 ∨ j = 5 ∨ j = 6 ∨ j = 7 ∨ j = 8 := by omega
  unfold nd
  rcases h9 with rfl | rfl | rfl | rfl | rfl | rfl | rfl | rfl | rfl <;> simp only [Nat.reducePow] <;> (repeat' split) <;> omega

theorem pow_le_64 (k : Nat) (h : k ≤ 8) : 256 ^ k ≤ 18446744073709551616 := by
  have h9 : k = 0 ∨ k = 1 ∨ k = 2 ∨ k = 3 ∨ k = 4 ∨ k = 5 ∨ k = 6 ∨ k = 7 ∨ k = 8 := by omega
  rcases h9 with rfl | rfl | rfl | rfl | rfl | rfl | rfl | rfl | rfl <;> simp

theorem nd_lt (m : Nat) (h : m < 9223372036854775808) : m < 256 ^ nd m := by
  have := (nd_zero m (nd m) h (nd_le m)).2 (Nat.le_refl _)
  have hp : 0 < 256 ^ nd m := Nat.pow_pos (by omega)
  rcases Nat.lt_or_ge m (256 ^ nd m) with h1 | h1
  · exact h1
  · have := Nat.div_pos h1 hp; omega

theorem lows_getD (k m i : Nat) (h : i < k) : (lows k m).getD i 0 = UInt8.ofNat (m / 256 ^ (k - 1 - i) % 256) := by
  induction k generalizing m with
  | zero => omega
  | succ k ih =>
    simp only [lows]
    rcases Nat.lt_or_ge i k with h1 | h1
    · rw [List.getD_eq_getElem?_getD, List.getElem?_append_left (by rw [lows_length]; exact h1), ← List.getD_eq_getElem?_getD, ih _ h1, Nat.div_div_eq_div_mul]
      have : k + 1 - 1 - i = (k - 1 - i) + 1 := by omega
      rw [this, Nat.pow_succ, Nat.mul_comm]
    · have e : i = k := by omega
      subst e
      rw [List.getD_eq_getElem?_getD, List.getElem?_append_right (by rw [lows_length]; exact Nat.le_refl _), lows_length]
      simp

/-- a digit as it stands in the encoding of a negative number (g), or of another one -/
def fx (g : Bool) (d : UInt8) : UInt8 := if g then 255 - d else d
theorem fx_fx (g : Bool) (d : UInt8) : fx g (fx g d) = d := by
  cases g
  · rfl
  · show 255 - (255 - d) = d
    apply UInt8.toNat_inj.1
    have := d.toNat_lt
    have h1 : (255 : UInt8).toNat = 255 := rfl
    rw [UInt8.toNat_sub_of_le _ _ (by rw [UInt8.le_iff_toNat_le, UInt8.toNat_sub_of_le _ _ (by rw [UInt8.le_iff_toNat_le]; omega)]; omega), UInt8.toNat_sub_of_le _ _ (by rw [UInt8.le_iff_toNat_le]; omega)]
    omega
theorem fx_nat (g : Bool) (d : UInt8) : (fx g d).toNat = if g then 255 - d.toNat else d.toNat := by
  cases g
  · rfl
  · show (255 - d : UInt8).toNat = _
    have := d.toNat_lt
    rw [UInt8.toNat_sub_of_le _ _ (by rw [UInt8.le_iff_toNat_le]; show d.toNat ≤ 255; omega)]
    rfl

/-- the number that digits stand for -/
def mag (g : Bool) (l : List UInt8) : Nat := l.foldl (fun m d => 256 * m + (fx g d).toNat) 0
theorem mag_from (g : Bool) (l : List UInt8) (a : Nat) : l.foldl (fun m d => 256 * m + (fx g d).toNat) a = a * 256 ^ l.length + mag g l := by
  induction l generalizing a with
  | nil => simp [mag]
  | cons d t ih =>
    unfold mag
    simp only [List.foldl_cons, List.length_cons]
    rw [ih, ih]
    rw [Nat.pow_succ, Nat.mul_zero, Nat.zero_add, Nat.add_mul, Nat.mul_comm (256 ^ t.length) 256, ← Nat.mul_assoc, Nat.mul_comm a 256]
    omega
theorem mag_cons (g : Bool) (d : UInt8) (t : List UInt8) : mag g (d :: t) = (fx g d).toNat * 256 ^ t.length + mag g t := by
  have := mag_from g t (256 * 0 + (fx g d).toNat)
  unfold mag at *
  simp only [List.foldl_cons]
  rw [this]
  simp
theorem mag_snoc (g : Bool) (d : UInt8) (t : List UInt8) : mag g (t ++ [d]) = 256 * mag g t + (fx g d).toNat := by
  simp [mag, List.foldl_append]
theorem mag_lt (g : Bool) (l : List UInt8) : mag g l < 256 ^ l.length := by
  induction l with
  | nil => simp [mag]
  | cons d t ih =>
    rw [mag_cons, List.length_cons, Nat.pow_succ]
    have h1 := (fx g d).toNat_lt
    have h2 : (fx g d).toNat * 256 ^ t.length ≤ 255 * 256 ^ t.length := Nat.mul_le_mul_right _ (by omega)
    omega

theorem mag_lows (g : Bool) (k m : Nat) : mag g ((lows k m).map (fx g)) = m % 256 ^ k := by
  induction k generalizing m with
  | zero => simp [lows, mag, Nat.mod_one]
  | succ k ih =>
    simp only [lows, List.map_append, List.map_cons, List.map_nil]
    rw [mag_snoc, ih, fx_fx, UInt8.toNat_ofNat_of_lt' (by have := Nat.mod_lt m (show 0 < 256 by omega); simpa using this), Nat.pow_succ, Nat.mul_comm (256 ^ k) 256, Nat.mod_mul]
    omega

theorem snoc_of_ne {α : Type} (l : List α) (h : l ≠ []) : ∃ t d, l = t ++ [d] := ⟨l.dropLast, l.getLast h, (List.dropLast_concat_getLast h).symm⟩

theorem lows_mag (g : Bool) (k : Nat) (l : List UInt8) (h : l.length = k) : lows k (mag g l) = l.map (fx g) := by
  induction k generalizing l with
  | zero => have := List.eq_nil_of_length_eq_zero h; subst this; rfl
  | succ k ih =>
    obtain ⟨t, d, rfl⟩ := snoc_of_ne l (by intro e; subst e; simp at h)
    have ht : t.length = k := by simpa using h
    have hd := (fx g d).toNat_lt
    simp only [lows, mag_snoc, List.map_append, List.map_cons, List.map_nil]
    rw [show (256 * mag g t + (fx g d).toNat) / 256 = mag g t from by omega, show (256 * mag g t + (fx g d).toNat) % 256 = (fx g d).toNat from by omega, ih t ht, UInt8.ofNat_toNat]

theorem nd_of (m k : Nat) (h : m < 9223372036854775808) (hk : k ≤ 8) (h1 : m < 256 ^ k) (h2 : k = 0 ∨ 256 ^ (k - 1) ≤ m) : nd m = k := by
  have a : nd m ≤ k := (nd_zero m k h hk).1 (Nat.div_eq_of_lt h1)
  by_cases k0 : k = 0
  · omega
  rcases h2 with rfl | h2
  · omega
  · have b : ¬ nd m ≤ k - 1 := fun hc => by
      have := (nd_zero m (k - 1) h (by omega)).2 hc
      have := Nat.div_pos h2 (Nat.pow_pos (n := k - 1) (show 0 < 256 by omega)); omega
    omega

/-- the encoding of an integer -/
def neg (n : Int) : Bool := decide (n < 0)
def mgn (n : Int) : Nat := if n < 0 then (-1 - n).toNat else n.toNat
def hd (g : Bool) (k : Nat) : UInt8 := UInt8.ofNat (if g then 127 - k else 128 + k)
def enc (n : Int) : List UInt8 := hd (neg n) (nd (mgn n)) :: (lows (nd (mgn n)) (mgn n)).map (fx (neg n))
theorem enc_length (n : Int) : (enc n).length = 1 + nd (mgn n) := by simp [enc, lows_length, Nat.add_comm]

/-- the head of an encoding -/
def hk (h : UInt8) : Nat := if h.toNat < 128 then 127 - h.toNat else h.toNat - 128
def hg (h : UInt8) : Bool := decide (h.toNat < 128)
theorem hk_hd (g : Bool) (k : Nat) (h : k ≤ 8) : hk (hd g k) = k := by
  cases g
  · have : (hd false k).toNat = 128 + k := by
      show (UInt8.ofNat (128 + k)).toNat = _
      rw [UInt8.toNat_ofNat_of_lt' (by show _ < 256; omega)]
    unfold hk; rw [this, if_neg (by omega)]; omega
  · have : (hd true k).toNat = 127 - k := by
      show (UInt8.ofNat (127 - k)).toNat = _
      rw [UInt8.toNat_ofNat_of_lt' (by show _ < 256; omega)]
    unfold hk; rw [this, if_pos (by omega)]; omega
theorem hg_hd (g : Bool) (k : Nat) (h : k ≤ 8) : hg (hd g k) = g := by
  cases g
  · have : (hd false k).toNat = 128 + k := by
      show (UInt8.ofNat (128 + k)).toNat = _
      rw [UInt8.toNat_ofNat_of_lt' (by show _ < 256; omega)]
    unfold hg; rw [this]; simp
  · have : (hd true k).toNat = 127 - k := by
      show (UInt8.ofNat (127 - k)).toNat = _
      rw [UInt8.toNat_ofNat_of_lt' (by show _ < 256; omega)]
    unfold hg; rw [this]; simp; omega
theorem hd_hk (h : UInt8) : hd (hg h) (hk h) = h := by
  have hl := h.toNat_lt
  unfold hd hg hk
  by_cases c : h.toNat < 128
  · simp only [c, decide_true, if_true]
    rw [show 127 - (127 - h.toNat) = h.toNat from by omega, UInt8.ofNat_toNat]
  · simp only [c, decide_false, if_false]
    rw [show (if false = true then 127 - (h.toNat - 128) else 128 + (h.toNat - 128)) = h.toNat from by simp; omega, UInt8.ofNat_toNat]

/-- does a number begin with a digit 0? -/
def lead0 (g : Bool) (l : List UInt8) : Bool := match l with
  | [] => false
  | d :: _ => fx g d == 0

def sgn (g : Bool) (m : Nat) : Int := if g then -1 - (m : Int) else (m : Int)

/-- decoding an integer: the integer, the bytes used, the error -/
def gi : List UInt8 → Int × Nat × Int
  | [] => (0, 0, 3)
  | h :: t =>
    if 8 < hk h then (0, 0, 2)
    else if t.length < hk h then (0, 0, 3)
    else if lead0 (hg h) (t.take (hk h)) then (0, 0, 2)
    else if 9223372036854775807 < mag (hg h) (t.take (hk h)) then (0, 0, 2)
    else (sgn (hg h) (mag (hg h) (t.take (hk h))), 1 + hk h, 0)

theorem sgn_mgn (n : Int) : sgn (neg n) (mgn n) = n := by
  unfold sgn neg mgn
  by_cases h : n < 0
  · simp [h]; omega
  · simp [h]; omega
theorem mgn_lt (n : Int) (h1 : -9223372036854775808 ≤ n) (h2 : n ≤ 9223372036854775807) : mgn n < 9223372036854775808 := by
  unfold mgn; split <;> omega

theorem lead0_lows (g : Bool) (m : Nat) (h : m < 9223372036854775808) : lead0 g ((lows (nd m) m).map (fx g)) = false := by
  rcases Nat.eq_zero_or_pos (nd m) with h0 | h0
  · rw [h0]; rfl
  · have h1 : 256 ^ (nd m - 1) ≤ m := by
      have b : ¬ nd m ≤ nd m - 1 := by omega
      have := mt (nd_zero m (nd m - 1) h (by have := nd_le m; omega)).1 b
      rcases Nat.lt_or_ge m (256 ^ (nd m - 1)) with c | c
      · exact absurd (Nat.div_eq_of_lt c) this
      · exact c
    have e := mag_lows g (nd m) m
    rw [Nat.mod_eq_of_lt (nd_lt m h)] at e
    have hl : ((lows (nd m) m).map (fx g)).length = nd m := by simp [lows_length]
    cases hL : (lows (nd m) m).map (fx g) with
    | nil => rfl
    | cons d t =>
      rw [hL] at e hl
      simp only [List.length_cons] at hl
      show (fx g d == 0) = false
      rw [mag_cons] at e
      have h4 := mag_lt g t
      rw [beq_eq_false_iff_ne]
      intro hz
      rw [hz, show (0 : UInt8).toNat = 0 from rfl, Nat.zero_mul, Nat.zero_add] at e
      have h5 : t.length = nd m - 1 := by omega
      rw [h5] at h4
      omega

/-- P1.6: decoding an encoding, whatever follows it -/
theorem gi_enc (n : Int) (t : List UInt8) (h1 : -9223372036854775808 ≤ n) (h2 : n ≤ 9223372036854775807) : gi (enc n ++ t) = (n, (enc n).length, 0) := by
  have hm := mgn_lt n h1 h2
  have hn := nd_le (mgn n)
  have hl : ((lows (nd (mgn n)) (mgn n)).map (fx (neg n))).length = nd (mgn n) := by simp [lows_length]
  rw [enc_length]
  show gi (hd (neg n) (nd (mgn n)) :: ((lows (nd (mgn n)) (mgn n)).map (fx (neg n)) ++ t)) = _
  have ht : ((lows (nd (mgn n)) (mgn n)).map (fx (neg n)) ++ t).take (nd (mgn n)) = (lows (nd (mgn n)) (mgn n)).map (fx (neg n)) := by
    rw [List.take_append_of_le_length (by omega), List.take_of_length_le (by omega)]
  unfold gi
  simp only [hk_hd _ _ hn, hg_hd _ _ hn, ht, lead0_lows _ _ hm, mag_lows, Nat.mod_eq_of_lt (nd_lt _ hm), sgn_mgn]
  rw [if_neg (by omega), if_neg (by rw [List.length_append, hl]; omega), if_neg (by simp), if_neg (by omega)]

theorem gi_pre (n : Int) (i : Nat) (_h1 : -9223372036854775808 ≤ n) (_h2 : n ≤ 9223372036854775807) (hi : i < (enc n).length) : gi ((enc n).take i) = (0, 0, 3) := by
  have hn := nd_le (mgn n)
  rw [enc_length] at hi
  match i, hi with
  | 0, _ => rfl
  | i + 1, hi =>
    show gi (hd (neg n) (nd (mgn n)) :: ((lows (nd (mgn n)) (mgn n)).map (fx (neg n))).take i) = _
    unfold gi
    simp only [hk_hd _ _ hn]
    rw [if_neg (by omega), if_pos (by simp [lows_length]; omega)]

theorem gi_range (l : List UInt8) (n : Int) (u : Nat) (h : gi l = (n, u, 0)) : -9223372036854775808 ≤ n ∧ n ≤ 9223372036854775807 ∧ u ≤ l.length ∧ l.take u = enc n ∧ u = (enc n).length := by
  match l, h with
  | [], h => simp [gi] at h
  | a :: t, h =>
    simp only [gi] at h
    split at h
    · simp at h
    · split at h
      · simp at h
      · split at h
        · simp at h
        · split at h
          · simp at h
          · rename_i c1 c2 c3 c4
            simp only [Prod.mk.injEq, and_true] at h
            obtain ⟨hn, hu⟩ := h
            have htl : (t.take (hk a)).length = hk a := by simp; omega
            have hlt := mag_lt (hg a) (t.take (hk a))
            rw [htl] at hlt
            have hmg : mgn n = mag (hg a) (t.take (hk a)) ∧ neg n = hg a := by
              rw [← hn]
              generalize mag (hg a) (t.take (hk a)) = z
              generalize hg a = g
              unfold sgn mgn neg
              cases g
              · simp
                omega
              · have : (-1 - (z : Int)) < 0 := by omega
                simp only [if_true, if_pos this]
                exact ⟨by omega, by simp; omega⟩
            have hnd : nd (mgn n) = hk a := by
              rw [hmg.1]
              apply nd_of _ _ (by omega) (by omega) hlt
              cases hT : t.take (hk a) with
              | nil => left; rw [hT] at htl; simpa using htl.symm
              | cons d r =>
                right
                rw [hT] at c3 htl
                simp only [List.length_cons] at htl
                have : ¬ fx (hg a) d = 0 := by simpa [lead0] using c3
                have hp : 0 < (fx (hg a) d).toNat := by
                  rcases Nat.eq_zero_or_pos (fx (hg a) d).toNat with z | z
                  · exact absurd (UInt8.toNat_inj.1 z) this
                  · exact z
                rw [mag_cons, show hk a - 1 = r.length from by omega]
                have := Nat.le_mul_of_pos_left (256 ^ r.length) hp
                omega
            have henc : enc n = a :: t.take (hk a) := by
              unfold enc
              rw [hnd, hmg.1, hmg.2, hd_hk, lows_mag _ _ _ htl]
              simp [fx_fx, Function.comp_def]
            refine ⟨?_, ?_, ?_, ?_, ?_⟩
            · rw [← hn]; unfold sgn; split <;> omega
            · rw [← hn]; unfold sgn; split <;> omega
            · simp; omega
            · rw [henc, ← hu, Nat.add_comm]; rfl
            · rw [henc, ← hu]; simp; omega


end Go.Proofs.YteaoaoknpihchaaDoor
