/- The consequences P1.6: round trips, truncated encodings, canonical encodings, as facts on lists of bytes. -/
import Derived.Test.YtfgkaiaapofepaaDoorW8
namespace Go.Proofs.YtfgkaiaapofepaaDoor

theorem gl_enc (z n : Nat) (hz : 1 ≤ z) (t : List UInt8) (hn : n * z ≤ t.length) (hb : n ≤ 9223372036854775807) : gl z (enc (n : Int) ++ t) = ((n : Int), (enc (n : Int)).length, 0) := by
  unfold gl
  rw [gi_enc _ _ (by omega) (by omega)]
  have h1 : n ≤ t.length / z := (Nat.le_div_iff_mul_le (by omega)).2 hn
  have h2 : (enc (n : Int) ++ t).length - (enc (n : Int)).length = t.length := by rw [List.length_append]; omega
  simp only [h2]
  rw [if_neg (by simp), if_neg (by omega), if_neg (by omega)]

theorem gb_enc (s : ByteArray) (t : List UInt8) (hs : s.size ≤ 9223372036854775807) : gb (encS s ++ t) = (sl s, (encS s).length, 0) := by
  unfold gb encS
  rw [List.append_assoc, gl_enc 1 s.size (by omega) _ (by rw [List.length_append, sl_length]; omega) hs]
  simp only [ne_eq, not_true, if_false, Int.toNat_natCast]
  rw [List.drop_left, List.take_append_of_le_length (by rw [sl_length]; exact Nat.le_refl _), List.take_of_length_le (by rw [sl_length]; exact Nat.le_refl _), List.length_append, sl_length]

section
variable {α β : Type} (g : List UInt8 → β × Nat × Int) (f : α → List UInt8) (v : α → β) (P : α → Prop)
end

section
variable {β : Type} (g : List UInt8 → β × Nat × Int) (f : β → List UInt8)
end

theorem flat_ge {α : Type} (f : α → List UInt8) (l : List α) (h : ∀ x, 1 ≤ (f x).length) : l.length ≤ (l.flatMap f).length := by
  induction l with
  | nil => simp
  | cons x l ih =>
    have := h x
    rw [List.flatMap_cons, List.length_append, List.length_cons]
    omega

theorem enc_pos (n : Int) : 1 ≤ (enc n).length := by rw [enc_length]; omega
theorem encS_pos (s : ByteArray) : 1 ≤ (encS s).length := by unfold encS; rw [List.length_append]; have := enc_pos (s.size : Int); omega

theorem i64s_mem {l : List Int} (h : i64s l) : ∀ x ∈ l, -9223372036854775808 ≤ x ∧ x ≤ 9223372036854775807 := by
  intro x hx
  obtain ⟨i, hi, rfl⟩ := List.mem_iff_getElem.1 hx
  have := h i hi
  simpa [iat, hi] using this

theorem flat16 (l : List (List UInt8)) (h : ∀ d ∈ l, d.length = 16) : (l.flatMap id).length = l.length * 16 := by
  induction l with
  | nil => simp
  | cons d l ih =>
    have h1 := h d (by simp)
    rw [List.flatMap_cons, List.length_append, ih (fun d hd => h d (by simp [hd])), List.length_cons, id, h1]
    omega

/-! truncated -/
theorem gl_pre (z n : Nat) (hz : 1 ≤ z) (body : List UInt8) (i : Nat) (hb : n ≤ 9223372036854775807) :
    (gl z ((enc (n : Int) ++ body).take i)).2.2 = 3 ∨ ((enc (n : Int)).length ≤ i ∧ n ≤ (body.take (i - (enc (n : Int)).length)).length / z ∧ gl z ((enc (n : Int) ++ body).take i) = ((n : Int), (enc (n : Int)).length, 0)) := by
  rcases Nat.lt_or_ge i (enc (n : Int)).length with h | h
  · left
    rw [List.take_append_of_le_length (by omega)]
    unfold gl
    rw [gi_pre _ i (by omega) (by omega) h]
    rfl
  · have h0 : (enc (n : Int) ++ body).take i = enc (n : Int) ++ body.take (i - (enc (n : Int)).length) := by
      rw [List.take_append, List.take_of_length_le h]
    rw [h0]
    by_cases hn : n ≤ (body.take (i - (enc (n : Int)).length)).length / z
    · right
      exact ⟨h, hn, gl_enc z n hz _ ((Nat.le_div_iff_mul_le (by omega)).1 hn) hb⟩
    · left
      unfold gl
      rw [gi_enc _ _ (by omega) (by omega)]
      have h2 : (enc (n : Int) ++ body.take (i - (enc (n : Int)).length)).length - (enc (n : Int)).length = (body.take (i - (enc (n : Int)).length)).length := by rw [List.length_append]; omega
      simp only [h2]
      rw [if_neg (by simp), if_neg (by omega), if_pos (by omega)]

theorem gb_pre (s : ByteArray) (i : Nat) (hs : s.size ≤ 9223372036854775807) (hi : i < (encS s).length) : (gb ((encS s).take i)).2.2 = 3 := by
  unfold encS at hi ⊢
  rcases gl_pre 1 s.size (by omega) (sl s) i hs with h | ⟨h1, h2, h3⟩
  · unfold gb
    simp only [h]
    rfl
  · rw [Nat.div_one, List.length_take, sl_length] at h2
    rw [List.length_append, sl_length] at hi
    omega

/-! canonical -/
theorem gb_can (L s : List UInt8) (k : Nat) (h : gb L = (s, k, 0)) : L.take k = encS (bs s) ∧ k ≤ L.length := by
  obtain ⟨x0, u0, e0, h0⟩ : ∃ x0 u0 e0, gl 1 L = (x0, u0, e0) := ⟨_, _, _, rfl⟩
  simp only [gb, h0] at h
  by_cases c1 : e0 ≠ 0
  · rw [if_pos c1] at h
    simp only [Prod.mk.injEq] at h
    exact absurd h.2.2 c1
  · rw [if_neg c1] at h
    have c1' : e0 = 0 := by omega
    subst c1'
    obtain ⟨g1, g2, g3, g4, g5, g6⟩ := gl_ok 1 (by omega) L x0 u0 h0
    obtain ⟨_, _, _, e1, e2⟩ := gi_range L x0 u0 g1
    obtain ⟨N, rfl⟩ := Int.eq_ofNat_of_zero_le g2
    simp only [Prod.mk.injEq, Int.toNat_natCast, and_true] at h
    obtain ⟨rfl, rfl⟩ := h
    have hl : ((L.drop u0).take N).length = N := by simp; omega
    refine ⟨?_, by omega⟩
    unfold encS
    rw [sl_bs, show (bs ((L.drop u0).take N)).size = N from by rw [← sl_length, sl_bs, hl], ← e1, List.take_add]

open Go.RowKit
theorem hd_nat (g : Bool) (k : Nat) (h : k ≤ 8) : (hd g k).toNat = if g then 127 - k else 128 + k := by
  unfold hd
  cases g
  · simp only [Bool.false_eq_true, if_false]
    rw [UInt8.toNat_ofNat_of_lt' (by show _ < 256; omega)]
  · simp only [if_true]
    rw [UInt8.toNat_ofNat_of_lt' (by show _ < 256; omega)]
theorem ownsRow_base {w : World} {base base' : Nat} {e : TypeId} {size : Nat} {v : Value} {n : Nat} {xs : List Value} (h : w.ownsRow base e size v n xs) (hb : base' ≤ base) : w.ownsRow base' e size v n xs := by
  refine ⟨h.1, ?_⟩
  rcases h.2 with h | ⟨g, cap, cur, hv, hg, r⟩
  · exact .inl h
  · exact .inr ⟨g, cap, cur, hv, by omega, r⟩
def Grow (w : World) (v : Value) (l : List UInt8) (wr : World) : Prop := wr.ownsRow w.heap.size 5 1 v l.length (bvs l) ∧ Below w.heap.size w wr
theorem Grow.later {w wr w' : World} {v : Value} {l : List UInt8} (h : Grow w v l wr) (hb : Below wr.heap.size wr w') : Grow w v l w' :=
  ⟨h.1.kept (below_grown hb none) (by cases v.ownBlock <;> simp), h.2.trans (hb.mono h.2.size)⟩
theorem Grow.append {w wr w' : World} {v v' : Value} {l r : List UInt8} (h : Grow w v l wr) (ho : w'.ownsRow w.heap.size 5 1 v' (l.length + r.length) (bvs l ++ bvs r)) (hg : wr.grownBy w' v.ownBlock) : Grow w v' (l ++ r) w' :=
  ⟨by rw [List.length_append, bvs_append]; exact ho, h.2.grown hg h.2.size (fun k hk => (h.1.lt k hk).1)⟩
end Go.Proofs.YtfgkaiaapofepaaDoor
