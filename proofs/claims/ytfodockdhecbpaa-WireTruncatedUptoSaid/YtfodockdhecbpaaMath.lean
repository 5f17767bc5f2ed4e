/- The consequences P1.6: round trips, truncated encodings, canonical encodings, as facts on lists of bytes. -/
import Derived.Test.YtfodockdhecbpaaW10
import Derived.Test.YtfodockdhecbpaaW13
namespace Go.Proofs.Ytfodockdhecbpaa

theorem gl_enc (z n : Nat) (hz : 1 ≤ z) (t : List UInt8) (hn : n * z ≤ t.length) (hb : n ≤ 9223372036854775807) : gl z (enc (n : Int) ++ t) = ((n : Int), (enc (n : Int)).length, 0) := by
  unfold gl
  rw [gi_enc _ _ (by omega) (by omega)]
  have h1 : n ≤ t.length / z := (Nat.le_div_iff_mul_le (by omega)).2 hn
  have h2 : (enc (n : Int) ++ t).length - (enc (n : Int)).length = t.length := by rw [List.length_append]; omega
  simp only [h2]
  rw [if_neg (by simp), if_neg (by omega), if_neg (by omega)]

theorem gb_enc (s : ByteArray) (t : List UInt8) (hs : s.size ≤ 9223372036854775807) : gb (encS s ++ t) = (sl s, (encS s).length, 0) := by
  unfold gb encS
  rw [List.append_assoc, gl_enc 1 s.size (by omega) _ (by rw [List.length_append, sl_length]; omega) hs]
  simp only [ne_eq, not_true, if_false, Int.toNat_natCast]
  rw [List.drop_left, List.take_append_of_le_length (by rw [sl_length]; exact Nat.le_refl _), List.take_of_length_le (by rw [sl_length]; exact Nat.le_refl _), List.length_append, sl_length]

section
variable {α β : Type} (g : List UInt8 → β × Nat × Int) (f : α → List UInt8) (v : α → β) (P : α → Prop)
theorem dlo_enc (hg : ∀ x t, P x → g (f x ++ t) = (v x, (f x).length, 0)) (L t : List UInt8) : ∀ (l : List α) (u : Nat) (acc : List β), (∀ x ∈ l, P x) → L.drop u = l.flatMap f ++ t →
    dlo g L l.length u acc = (acc ++ l.map v, u + (l.flatMap f).length, 0)
  | [], u, acc, _, _ => by simp [dlo]
  | x :: l, u, acc, hP, hd => by
    have h1 : g (L.drop u) = (v x, (f x).length, 0) := by
      rw [hd, List.flatMap_cons, List.append_assoc]
      exact hg x _ (hP x (by simp))
    have h2 : L.drop (u + (f x).length) = l.flatMap f ++ t := by
      rw [← List.drop_drop, hd, List.flatMap_cons, List.append_assoc, List.drop_left]
    simp only [List.length_cons, dlo, h1]
    rw [if_neg (by simp), dlo_enc hg L t l (u + (f x).length) (acc ++ [v x]) (fun y hy => hP y (by simp [hy])) h2]
    simp [List.flatMap_cons, Nat.add_assoc]

theorem dlo_pre (hg : ∀ x t, P x → g (f x ++ t) = (v x, (f x).length, 0)) (hpre : ∀ x i, P x → i < (f x).length → (g ((f x).take i)).2.2 = 3) (L : List UInt8) : ∀ (l : List α) (i u : Nat) (acc : List β), (∀ x ∈ l, P x) → i < (l.flatMap f).length → L.drop u = (l.flatMap f).take i →
    (dlo g L l.length u acc).2.2 = 3
  | [], i, u, acc, _, hi, _ => by simp at hi
  | x :: l, i, u, acc, hP, hi, hd => by
    rw [List.flatMap_cons] at hi hd
    simp only [List.length_cons, dlo]
    rcases Nat.lt_or_ge i (f x).length with h | h
    · rw [List.take_append_of_le_length (by omega)] at hd
      have h1 := hpre x i (hP x (by simp)) h
      rw [hd, h1, if_pos (by decide)]
    · have h0 : (f x ++ l.flatMap f).take i = f x ++ (l.flatMap f).take (i - (f x).length) := by
        rw [List.take_append, List.take_of_length_le h]
      rw [h0] at hd
      have h1 : g (L.drop u) = (v x, (f x).length, 0) := by rw [hd]; exact hg x _ (hP x (by simp))
      have h2 : L.drop (u + (f x).length) = (l.flatMap f).take (i - (f x).length) := by
        rw [← List.drop_drop, hd, List.drop_left]
      rw [h1, if_neg (by simp)]
      rw [List.length_append] at hi
      exact dlo_pre hg hpre L l (i - (f x).length) (u + (f x).length) _ (fun y hy => hP y (by simp [hy])) (by omega) h2
end

section
variable {β : Type} (g : List UInt8 → β × Nat × Int) (f : β → List UInt8)
theorem dlo_can (hg : ∀ L x k, g L = (x, k, 0) → L.take k = f x ∧ k ≤ L.length) (L : List UInt8) : ∀ (N u : Nat) (acc xs : List β) (u1 : Nat), u ≤ L.length → dlo g L N u acc = (xs, u1, 0) →
    ∃ ys, xs = acc ++ ys ∧ ys.length = N ∧ u ≤ u1 ∧ u1 ≤ L.length ∧ (L.drop u).take (u1 - u) = ys.flatMap f
  | 0, u, acc, xs, u1, hu, h => by
    simp only [dlo, Prod.mk.injEq, and_true] at h
    obtain ⟨rfl, rfl⟩ := h
    exact ⟨[], by simp, rfl, Nat.le_refl _, hu, by simp⟩
  | N + 1, u, acc, xs, u1, hu, h => by
    obtain ⟨x, k, e, h0⟩ : ∃ x k e, g (L.drop u) = (x, k, e) := ⟨_, _, _, rfl⟩
    simp only [dlo, h0] at h
    by_cases he : e = 0
    · subst he
      rw [if_neg (by simp)] at h
      obtain ⟨h1, h2⟩ := hg _ _ _ h0
      rw [List.length_drop] at h2
      obtain ⟨ys, rfl, hy, hu1, hu2, hd⟩ := dlo_can hg L N (u + k) (acc ++ [x]) xs u1 (by omega) h
      refine ⟨x :: ys, by simp, by simp [hy], by omega, hu2, ?_⟩
      rw [List.flatMap_cons, ← h1, ← hd, ← List.drop_drop]
      have : u1 - u = k + (u1 - (u + k)) := by omega
      rw [this, List.take_add]
    · rw [if_pos he] at h
      simp only [Prod.mk.injEq] at h
      exact absurd h.2.2 he
end

theorem flat_ge {α : Type} (f : α → List UInt8) (l : List α) (h : ∀ x, 1 ≤ (f x).length) : l.length ≤ (l.flatMap f).length := by
  induction l with
  | nil => simp
  | cons x l ih =>
    have := h x
    rw [List.flatMap_cons, List.length_append, List.length_cons]
    omega

theorem enc_pos (n : Int) : 1 ≤ (enc n).length := by rw [enc_length]; omega
theorem encS_pos (s : ByteArray) : 1 ≤ (encS s).length := by unfold encS; rw [List.length_append]; have := enc_pos (s.size : Int); omega

theorem i64s_mem {l : List Int} (h : i64s l) : ∀ x ∈ l, -9223372036854775808 ≤ x ∧ x ≤ 9223372036854775807 := by
  intro x hx
  obtain ⟨i, hi, rfl⟩ := List.mem_iff_getElem.1 hx
  have := h i hi
  simpa [iat, hi] using this

/-- the length of a list, and what follows it -/
theorem dls_enc {α β : Type} (g : List UInt8 → β × Nat × Int) (f : α → List UInt8) (v : α → β) (P : α → Prop) (hg : ∀ x t, P x → g (f x ++ t) = (v x, (f x).length, 0)) (hf : ∀ x, 1 ≤ (f x).length) (l : List α) (hP : ∀ x ∈ l, P x) (t : List UInt8) (hb : l.length ≤ 9223372036854775807) :
    dls 1 g (enc (l.length : Int) ++ l.flatMap f ++ t) = (l.map v, (enc (l.length : Int) ++ l.flatMap f).length, 0) := by
  have h1 := gl_enc 1 l.length (by omega) (l.flatMap f ++ t) (by have := flat_ge f l hf; rw [List.length_append]; omega) hb
  unfold dls
  rw [List.append_assoc, h1]
  simp only [ne_eq, not_true, if_false, Int.toNat_natCast]
  rw [dlo_enc g f v P hg _ t l _ [] hP (by rw [List.drop_left])]
  simp

theorem ints_enc (l : List Int) (hw : i64s l) (t : List UInt8) (hb : l.length ≤ 9223372036854775807) : dls 1 gi (encIs l ++ t) = (l, (encIs l).length, 0) := by
  have := dls_enc gi enc id (fun x => -9223372036854775808 ≤ x ∧ x ≤ 9223372036854775807) (fun x t h => gi_enc x t h.1 h.2) enc_pos l (i64s_mem hw) t hb
  simpa [encIs] using this

theorem strs_enc (l : List ByteArray) (hs : ∀ s ∈ l, s.size ≤ 9223372036854775807) (t : List UInt8) (hb : l.length ≤ 9223372036854775807) : dls 1 gb (encSs l ++ t) = (l.map sl, (encSs l).length, 0) :=
  dls_enc gb encS sl (fun s => s.size ≤ 9223372036854775807) (fun s t h => gb_enc s t h) encS_pos l hs t hb

theorem flat16 (l : List (List UInt8)) (h : ∀ d ∈ l, d.length = 16) : (l.flatMap id).length = l.length * 16 := by
  induction l with
  | nil => simp
  | cons d l ih =>
    have h1 := h d (by simp)
    rw [List.flatMap_cons, List.length_append, ih (fun d hd => h d (by simp [hd])), List.length_cons, id, h1]
    omega

theorem digs_enc (L t : List UInt8) : ∀ (l pre : List (List UInt8)) (u : Nat), (∀ d ∈ l, d.length = 16) → (∀ d ∈ pre, d.length = 16) → L.drop u = pre.flatMap id ++ l.flatMap id ++ t → digs L u (pre.length + l.length) = digs L u pre.length ++ l
  | [], pre, u, _, _, _ => by simp
  | d :: l, pre, u, hl, hp, hd => by
    have h16 := hl d (by simp)
    have h1 : (L.drop (u + 16 * pre.length)).take 16 = d := by
      rw [← List.drop_drop, hd, List.append_assoc, show 16 * pre.length = (pre.flatMap id).length from by rw [flat16 pre hp]; omega, List.drop_left, List.flatMap_cons, List.append_assoc, List.take_append_of_le_length (by rw [id, h16]; exact Nat.le_refl _), id, List.take_of_length_le (by omega)]
    have ih := digs_enc L t l (pre ++ [d]) u (fun x hx => hl x (by simp [hx])) (fun x hx => by simp at hx; rcases hx with hx | rfl; exact hp x hx; exact h16) (by rw [hd]; simp)
    rw [List.length_append, List.length_singleton] at ih
    rw [List.length_cons, show pre.length + (l.length + 1) = pre.length + 1 + l.length from by omega, ih]
    show digs L u pre.length ++ [(L.drop (u + 16 * pre.length)).take 16] ++ l = _
    rw [h1, List.append_assoc]
    rfl

theorem digests_enc (l : List (List UInt8)) (hl : ∀ d ∈ l, d.length = 16) (t : List UInt8) (hb : l.length ≤ 9223372036854775807) : dds (encDs l ++ t) = (l, (encDs l).length, 0) := by
  have h1 := gl_enc 16 l.length (by omega) (l.flatMap id ++ t) (by rw [List.length_append, flat16 l hl]; omega) hb
  unfold dds encDs
  rw [List.append_assoc, h1]
  simp only [ne_eq, not_true, if_false, Int.toNat_natCast]
  have h2 := digs_enc (enc (l.length : Int) ++ (l.flatMap id ++ t)) t l [] (enc (l.length : Int)).length hl (fun d hd => by cases hd) (by rw [List.drop_left]; simp)
  simp only [List.length_nil, Nat.zero_add] at h2
  rw [h2, List.length_append, flat16 l hl]
  show (([] : List (List UInt8)) ++ l, _, _) = _
  rw [List.nil_append, Nat.mul_comm]

/-! truncated -/
theorem gl_pre (z n : Nat) (hz : 1 ≤ z) (body : List UInt8) (i : Nat) (hb : n ≤ 9223372036854775807) :
    (gl z ((enc (n : Int) ++ body).take i)).2.2 = 3 ∨ ((enc (n : Int)).length ≤ i ∧ n ≤ (body.take (i - (enc (n : Int)).length)).length / z ∧ gl z ((enc (n : Int) ++ body).take i) = ((n : Int), (enc (n : Int)).length, 0)) := by
  rcases Nat.lt_or_ge i (enc (n : Int)).length with h | h
  · left
    rw [List.take_append_of_le_length (by omega)]
    unfold gl
    rw [gi_pre _ i (by omega) (by omega) h]
    rfl
  · have h0 : (enc (n : Int) ++ body).take i = enc (n : Int) ++ body.take (i - (enc (n : Int)).length) := by
      rw [List.take_append, List.take_of_length_le h]
    rw [h0]
    by_cases hn : n ≤ (body.take (i - (enc (n : Int)).length)).length / z
    · right
      exact ⟨h, hn, gl_enc z n hz _ ((Nat.le_div_iff_mul_le (by omega)).1 hn) hb⟩
    · left
      unfold gl
      rw [gi_enc _ _ (by omega) (by omega)]
      have h2 : (enc (n : Int) ++ body.take (i - (enc (n : Int)).length)).length - (enc (n : Int)).length = (body.take (i - (enc (n : Int)).length)).length := by rw [List.length_append]; omega
      simp only [h2]
      rw [if_neg (by simp), if_neg (by omega), if_pos (by omega)]

theorem gb_pre (s : ByteArray) (i : Nat) (hs : s.size ≤ 9223372036854775807) (hi : i < (encS s).length) : (gb ((encS s).take i)).2.2 = 3 := by
  unfold encS at hi ⊢
  rcases gl_pre 1 s.size (by omega) (sl s) i hs with h | ⟨h1, h2, h3⟩
  · unfold gb
    simp only [h]
    rfl
  · rw [Nat.div_one, List.length_take, sl_length] at h2
    rw [List.length_append, sl_length] at hi
    omega

theorem dls_pre {α β : Type} (g : List UInt8 → β × Nat × Int) (f : α → List UInt8) (v : α → β) (P : α → Prop) (hg : ∀ x t, P x → g (f x ++ t) = (v x, (f x).length, 0)) (hpre : ∀ x i, P x → i < (f x).length → (g ((f x).take i)).2.2 = 3) (l : List α) (hP : ∀ x ∈ l, P x) (i : Nat) (hb : l.length ≤ 9223372036854775807) (hi : i < (enc (l.length : Int) ++ l.flatMap f).length) :
    (dls 1 g ((enc (l.length : Int) ++ l.flatMap f).take i)).2.2 = 3 := by
  rcases gl_pre 1 l.length (by omega) (l.flatMap f) i hb with h | ⟨h1, h2, h3⟩
  · unfold dls
    simp only [h]
    rfl
  · unfold dls
    rw [h3]
    simp only [ne_eq, not_true, if_false, Int.toNat_natCast]
    have h0 : (enc (l.length : Int) ++ l.flatMap f).take i = enc (l.length : Int) ++ (l.flatMap f).take (i - (enc (l.length : Int)).length) := by
      rw [List.take_append, List.take_of_length_le h1]
    rw [List.length_append] at hi
    exact dlo_pre g f v P hg hpre _ l (i - (enc (l.length : Int)).length) _ [] hP (by omega) (by rw [h0, List.drop_left])

theorem ints_pre (l : List Int) (hw : i64s l) (i : Nat) (hb : l.length ≤ 9223372036854775807) (hi : i < (encIs l).length) : (dls 1 gi ((encIs l).take i)).2.2 = 3 :=
  dls_pre gi enc id (fun x => -9223372036854775808 ≤ x ∧ x ≤ 9223372036854775807) (fun x t h => gi_enc x t h.1 h.2) (fun x i h hi => by rw [gi_pre x i h.1 h.2 hi]) l (i64s_mem hw) i hb hi
theorem strs_pre (l : List ByteArray) (hs : ∀ s ∈ l, s.size ≤ 9223372036854775807) (i : Nat) (hb : l.length ≤ 9223372036854775807) (hi : i < (encSs l).length) : (dls 1 gb ((encSs l).take i)).2.2 = 3 :=
  dls_pre gb encS sl (fun s => s.size ≤ 9223372036854775807) (fun s t h => gb_enc s t h) (fun s i h hi => gb_pre s i h hi) l hs i hb hi
theorem digests_pre (l : List (List UInt8)) (hl : ∀ d ∈ l, d.length = 16) (i : Nat) (hb : l.length ≤ 9223372036854775807) (hi : i < (encDs l).length) : (dds ((encDs l).take i)).2.2 = 3 := by
  unfold encDs at hi ⊢
  rcases gl_pre 16 l.length (by omega) (l.flatMap id) i hb with h | ⟨h1, h2, h3⟩
  · unfold dds
    simp only [h]
    rfl
  · rw [List.length_append, flat16 l hl] at hi
    have h4 : l.length * 16 ≤ (List.take (i - (enc (l.length : Int)).length) (l.flatMap id)).length := (Nat.le_div_iff_mul_le (by omega)).1 h2
    rw [List.length_take, flat16 l hl] at h4
    omega

/-! canonical -/
theorem gb_can (L s : List UInt8) (k : Nat) (h : gb L = (s, k, 0)) : L.take k = encS (bs s) ∧ k ≤ L.length := by
  obtain ⟨x0, u0, e0, h0⟩ : ∃ x0 u0 e0, gl 1 L = (x0, u0, e0) := ⟨_, _, _, rfl⟩
  simp only [gb, h0] at h
  by_cases c1 : e0 ≠ 0
  · rw [if_pos c1] at h
    simp only [Prod.mk.injEq] at h
    exact absurd h.2.2 c1
  · rw [if_neg c1] at h
    have c1' : e0 = 0 := by omega
    subst c1'
    obtain ⟨g1, g2, g3, g4, g5, g6⟩ := gl_ok 1 (by omega) L x0 u0 h0
    obtain ⟨_, _, _, e1, e2⟩ := gi_range L x0 u0 g1
    obtain ⟨N, rfl⟩ := Int.eq_ofNat_of_zero_le g2
    simp only [Prod.mk.injEq, Int.toNat_natCast, and_true] at h
    obtain ⟨rfl, rfl⟩ := h
    have hl : ((L.drop u0).take N).length = N := by simp; omega
    refine ⟨?_, by omega⟩
    unfold encS
    rw [sl_bs, show (bs ((L.drop u0).take N)).size = N from by rw [← sl_length, sl_bs, hl], ← e1, List.take_add]

theorem dls_can {β : Type} (g : List UInt8 → β × Nat × Int) (f : β → List UInt8) (hg : ∀ L x k, g L = (x, k, 0) → L.take k = f x ∧ k ≤ L.length) (L : List UInt8) (xs : List β) (u : Nat) (h : dls 1 g L = (xs, u, 0)) :
    u ≤ L.length ∧ L.take u = enc (xs.length : Int) ++ xs.flatMap f := by
  obtain ⟨x0, u0, e0, h0⟩ : ∃ x0 u0 e0, gl 1 L = (x0, u0, e0) := ⟨_, _, _, rfl⟩
  simp only [dls, h0] at h
  by_cases c1 : e0 ≠ 0
  · rw [if_pos c1] at h
    simp only [Prod.mk.injEq] at h
    exact absurd h.2.2 c1
  · rw [if_neg c1] at h
    have c1' : e0 = 0 := by omega
    subst c1'
    obtain ⟨g1, g2, g3, g4, g5, g6⟩ := gl_ok 1 (by omega) L x0 u0 h0
    obtain ⟨_, _, _, e1, e2⟩ := gi_range L x0 u0 g1
    obtain ⟨N, rfl⟩ := Int.eq_ofNat_of_zero_le g2
    rw [Int.toNat_natCast] at h
    obtain ⟨ys, rfl, hy, hu1, hu2, hd⟩ := dlo_can g f hg L N u0 [] xs u g3 h
    refine ⟨hu2, ?_⟩
    rw [hy, ← e1, ← hd, ← List.take_add]
    congr 1
    omega

theorem ints_can (L : List UInt8) (xs : List Int) (u : Nat) (h : dls 1 gi L = (xs, u, 0)) : u ≤ L.length ∧ L.take u = encIs xs :=
  dls_can gi enc (fun L x k h => by obtain ⟨_, _, h3, h4, _⟩ := gi_range L x k h; exact ⟨h4, h3⟩) L xs u h
theorem strs_can (L : List UInt8) (xs : List (List UInt8)) (u : Nat) (h : dls 1 gb L = (xs, u, 0)) : u ≤ L.length ∧ L.take u = encSs (xs.map bs) := by
  have := dls_can gb (fun s => encS (bs s)) gb_can L xs u h
  refine ⟨this.1, ?_⟩
  rw [this.2]
  simp [encSs, List.flatMap_map]
theorem digs_flat (L : List UInt8) (u : Nat) : ∀ k, u + 16 * k ≤ L.length → (digs L u k).flatMap id = (L.drop u).take (16 * k) ∧ ∀ d ∈ digs L u k, d.length = 16
  | 0, _ => by simp [digs]
  | k + 1, h => by
    obtain ⟨h1, h2⟩ := digs_flat L u k (by omega)
    refine ⟨?_, fun d hd => ?_⟩
    · simp only [digs, List.flatMap_append, List.flatMap_singleton, id, h1]
      rw [show 16 * (k + 1) = 16 * k + 16 from by omega, List.take_add, List.drop_drop]
    · simp only [digs, List.mem_append, List.mem_singleton] at hd
      rcases hd with hd | rfl
      · exact h2 d hd
      · simp; omega
theorem digests_can (L : List UInt8) (xs : List (List UInt8)) (u : Nat) (h : dds L = (xs, u, 0)) : u ≤ L.length ∧ L.take u = encDs xs ∧ ∀ d ∈ xs, d.length = 16 := by
  obtain ⟨x0, u0, e0, h0⟩ : ∃ x0 u0 e0, gl 16 L = (x0, u0, e0) := ⟨_, _, _, rfl⟩
  simp only [dds, h0] at h
  by_cases c1 : e0 ≠ 0
  · rw [if_pos c1] at h
    simp only [Prod.mk.injEq] at h
    exact absurd h.2.2 c1
  · rw [if_neg c1] at h
    have c1' : e0 = 0 := by omega
    subst c1'
    obtain ⟨g1, g2, g3, g4, g5, g6⟩ := gl_ok 16 (by omega) L x0 u0 h0
    obtain ⟨_, _, _, e1, e2⟩ := gi_range L x0 u0 g1
    obtain ⟨N, rfl⟩ := Int.eq_ofNat_of_zero_le g2
    simp only [Prod.mk.injEq, Int.toNat_natCast, and_true] at h
    obtain ⟨rfl, rfl⟩ := h
    obtain ⟨d1, d2⟩ := digs_flat L u0 N (by omega)
    refine ⟨by omega, ?_, d2⟩
    unfold encDs
    rw [digs_length, d1, ← e1, ← List.take_add]

end Go.Proofs.Ytfodockdhecbpaa
