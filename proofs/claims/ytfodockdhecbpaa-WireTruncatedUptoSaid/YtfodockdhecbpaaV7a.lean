/- What the walk of WireCanonical needs: the closure, and the cases of each decoding. -/
import Derived.Test.YtfodockdhecbpaaW23
import Derived.Test.YtfodockdhecbpaaMath
namespace Go.Proofs.Ytfodockdhecbpaa
open Go.RowKit

theorem Bytes_enc (s : ByteArray) (w : World) (hs : (enc (s.size : Int)).length + s.size ≤ 70368744177664) : Calls Try.prog 16 #[.string s] w (EncPost w (encS s)) := Bytes_any s w hs

theorem Rd_take {w : World} {a : Option Addr} {l : List UInt8} (h : Rd w a l) (k : Nat) : Rd w a (l.take k) := by
  rcases h with rfl | ⟨b, off, rfl, hc⟩
  · exact .inl (by simp)
  · refine .inr ⟨b, off, rfl, fun i hi => ?_⟩
    simp only [List.length_take] at hi
    rw [hc i (by omega)]
    have : i < k := by omega
    simp [byt, List.getD_eq_getElem?_getD, List.getElem?_take, this]

set_option maxRecDepth 100000 in
set_option maxHeartbeats 400000 in
theorem isC_err (v : Value) (u er : Int) (B : Nat) (w : World) (he : (er != 0) = true) :
    Calls Try.prog 37 #[v, .int .i64 u, .int .i64 er, .pointer (some ⟨B, 0, none⟩)] w (TruePost w) := by
  go_enter Try.func37, Try.ntmps37
  go_wp2
  go_ret
  exact ⟨rfl, Below.refl _ _⟩

set_option maxRecDepth 100000 in
set_option maxHeartbeats 800000 in
theorem isC_ok (p : Option Addr) (u c1 B : Nat) (a : Option Addr) (n cap : Nat) (L : List UInt8) (w : World) (hb : w.cell? ⟨B, 0, none⟩ = some (.slice a n cap)) (hR : Rd w a L) (hn : Hid (n = L.length)) (hnc : n ≤ cap) (hmax : n ≤ 2000) (hu : u ≤ n) (hP : Rd w p (L.take u)) :
    Calls Try.prog 37 #[.slice p u c1, .int .i64 u, .int .i64 0, .pointer (some ⟨B, 0, none⟩)] w (TruePost w) := by
  have hR' := Lib.hid (Rd_take hR u)
  have hP' := Lib.hid hP
  clear hR hP
  have h1 : (0 : Int) ≤ (u : Int) := by omega
  have h2 : (u : Int) ≤ (n : Int) := by omega
  have h3 : (n : Int) ≤ 2000 := by omega
  have h4 : min (u : Int) (n : Int) = (u : Int) := by omega
  have h5 : max (0 : Int) (u : Int) = (u : Int) := by omega
  have h6 : (n : Int) ≤ (cap : Int) := by omega
  go_enter Try.func37, Try.ntmps37
  go_wp2_with (go_at_call 13; refine (Same_true _ _ _ _ _ _ (L.take u) _ hP'.out hR'.out (by rw [List.length_take, ← hn.out]; omega) (by rw [List.length_take, ← hn.out]; omega) (by omega)).mono ?_; rintro e w' ⟨rfl, hb⟩)
  all_goals (go_ret; exact ⟨rfl, hb⟩)

theorem isC_any (p : Option Addr) (k u c1 B : Nat) (er : Int) (a : Option Addr) (n cap : Nat) (L E : List UInt8) (w : World) (hb : w.cell? ⟨B, 0, none⟩ = some (.slice a n cap)) (hR : Rd w a L) (hn : n = L.length) (hnc : n ≤ cap) (hmax : n ≤ 2000) (hP : Rd w p E) (hk : k = E.length) (hc : er ≠ 0 ∨ (er = 0 ∧ u ≤ L.length ∧ L.take u = E)) :
    Calls Try.prog 37 #[.slice p k c1, .int .i64 u, .int .i64 er, .pointer (some ⟨B, 0, none⟩)] w (TruePost w) := by
  rcases hc with he | ⟨rfl, hu, hE⟩
  · exact isC_err _ u er B w (by simpa using he)
  · have : k = u := by rw [hk, ← hE]; simp; omega
    subst this
    exact isC_ok p k c1 B a n cap L w hb hR hn hnc hmax (by omega) (by rw [hE]; exact hP)

/-! a decoding is an error with zeros, or an encoding was there -/
theorem gi_case (L : List UInt8) (x : Int) (u : Nat) (e : Int) (h : gi L = (x, u, e)) : (e ≠ 0 ∨ (e = 0 ∧ u ≤ L.length ∧ L.take u = enc x)) ∧ -9223372036854775808 ≤ x ∧ x ≤ 9223372036854775807 := by
  by_cases he : e = 0
  · subst he
    obtain ⟨h1, h2, h3, h4, _⟩ := gi_range L x u h
    exact ⟨.inr ⟨rfl, h3, h4⟩, h1, h2⟩
  · refine ⟨.inl he, ?_⟩
    cases L with
    | nil => simp only [gi, Prod.mk.injEq] at h; omega
    | cons a t =>
      simp only [gi] at h
      repeat' split at h
      all_goals (simp only [Prod.mk.injEq] at h; omega)

theorem gb_case (L s : List UInt8) (u : Nat) (e : Int) (h : gb L = (s, u, e)) : (e ≠ 0 ∨ (e = 0 ∧ u ≤ L.length ∧ L.take u = encS (bs s))) ∧ s.length ≤ L.length := by
  by_cases he : e = 0
  · subst he
    obtain ⟨h1, h2⟩ := gb_can L s u h
    refine ⟨.inr ⟨rfl, h2, h1⟩, ?_⟩
    have := congrArg List.length h1
    unfold encS at this
    rw [List.length_append, sl_bs, List.length_take] at this
    omega
  · refine ⟨.inl he, ?_⟩
    obtain ⟨x0, u0, e0, h0⟩ : ∃ x0 u0 e0, gl 1 L = (x0, u0, e0) := ⟨_, _, _, rfl⟩
    simp only [gb, h0] at h
    by_cases c1 : e0 ≠ 0
    · rw [if_pos c1] at h
      simp only [Prod.mk.injEq] at h
      rw [← h.1]; simp
    · rw [if_neg c1] at h
      simp only [Prod.mk.injEq] at h
      exact absurd h.2.2.symm he

theorem dlo_zero {β : Type} (g : List UInt8 → β × Nat × Int) (L : List UInt8) : ∀ (N u : Nat) (acc xs : List β) (u1 : Nat) (e : Int), dlo g L N u acc = (xs, u1, e) → e ≠ 0 → xs = []
  | 0, u, acc, xs, u1, e, h, he => by simp only [dlo, Prod.mk.injEq] at h; exact absurd h.2.2.symm he
  | N + 1, u, acc, xs, u1, e, h, he => by
    simp only [dlo] at h
    split at h
    · simp only [Prod.mk.injEq] at h; exact h.1.symm
    · exact dlo_zero g L N _ _ xs u1 e h he
theorem dls_zero {β : Type} (g : List UInt8 → β × Nat × Int) (L : List UInt8) (xs : List β) (u1 : Nat) (e : Int) (h : dls 1 g L = (xs, u1, e)) (he : e ≠ 0) : xs = [] := by
  unfold dls at h
  split at h
  · simp only [Prod.mk.injEq] at h; exact h.1.symm
  · exact dlo_zero g L _ _ _ xs u1 e h he

theorem ints_case (L : List UInt8) (xs : List Int) (u : Nat) (e : Int) (h : dls 1 gi L = (xs, u, e)) : (e ≠ 0 ∨ (e = 0 ∧ u ≤ L.length ∧ L.take u = encIs xs)) ∧ (encIs xs).length ≤ L.length + 1 ∧ xs.length ≤ L.length := by
  by_cases he : e = 0
  · subst he
    obtain ⟨h1, h2⟩ := ints_can L xs u h
    have h3 := congrArg List.length h2
    rw [List.length_take] at h3
    have h4 := flat_ge enc xs enc_pos
    have h5 : (encIs xs).length = (enc (xs.length : Int)).length + (xs.flatMap enc).length := by unfold encIs; rw [List.length_append]
    exact ⟨.inr ⟨rfl, h1, h2⟩, by omega, by omega⟩
  · have := dls_zero gi L xs u e h he
    subst this
    exact ⟨.inl he, by show 1 ≤ _; omega, by simp⟩
theorem strs_case (L : List UInt8) (xs : List (List UInt8)) (u : Nat) (e : Int) (h : dls 1 gb L = (xs, u, e)) : (e ≠ 0 ∨ (e = 0 ∧ u ≤ L.length ∧ L.take u = encSs (xs.map bs))) ∧ (encSs (xs.map bs)).length ≤ L.length + 1 ∧ xs.length ≤ L.length := by
  by_cases he : e = 0
  · subst he
    obtain ⟨h1, h2⟩ := strs_can L xs u h
    have h3 := congrArg List.length h2
    rw [List.length_take] at h3
    have h4 := flat_ge encS (xs.map bs) encS_pos
    have h5 : (encSs (xs.map bs)).length = (enc ((xs.map bs).length : Int)).length + ((xs.map bs).flatMap encS).length := by unfold encSs; rw [List.length_append]
    rw [List.length_map] at h4
    exact ⟨.inr ⟨rfl, h1, h2⟩, by omega, by omega⟩
  · have := dls_zero gb L xs u e h he
    subst this
    exact ⟨.inl he, by show 1 ≤ _; omega, by simp⟩
theorem digests_case (L : List UInt8) (xs : List (List UInt8)) (u : Nat) (e : Int) (h : dds L = (xs, u, e)) : (e ≠ 0 ∨ (e = 0 ∧ u ≤ L.length ∧ L.take u = encDs xs)) ∧ (encDs xs).length ≤ L.length + 1 ∧ (∀ d ∈ xs, d.length = 16) ∧ xs.length ≤ L.length := by
  by_cases he : e = 0
  · subst he
    obtain ⟨h1, h2, h6⟩ := digests_can L xs u h
    have h3 := congrArg List.length h2
    rw [List.length_take] at h3
    have h5 : (encDs xs).length = (enc (xs.length : Int)).length + (xs.flatMap id).length := by unfold encDs; rw [List.length_append]
    have h4 := flat16 xs h6
    exact ⟨.inr ⟨rfl, h1, h2⟩, by omega, h6, by omega⟩
  · have hx : xs = [] := by
      unfold dds at h
      split at h
      · simp only [Prod.mk.injEq] at h; exact h.1.symm
      · simp only [Prod.mk.injEq] at h; exact absurd h.2.2.symm he
    subst hx
    exact ⟨.inl he, by show 1 ≤ _; omega, (fun d hd => by cases hd), by simp⟩

theorem ints_range (L : List UInt8) (xs : List Int) (u : Nat) (e : Int) (h : dls 1 gi L = (xs, u, e)) : i64s xs := by
  by_cases he : e = 0
  · subst he
    unfold dls at h
    split at h
    · simp only [Prod.mk.injEq] at h; rename_i c; exact absurd h.2.2 c
    · have hg : ∀ (N u : Nat) (acc xs : List Int) (u1 : Nat), (∀ x ∈ acc, -9223372036854775808 ≤ x ∧ x ≤ 9223372036854775807) → dlo gi L N u acc = (xs, u1, 0) → ∀ x ∈ xs, -9223372036854775808 ≤ x ∧ x ≤ 9223372036854775807 := by
        intro N
        induction N with
        | zero =>
          intro u acc xs u1 ha h
          simp only [dlo, Prod.mk.injEq] at h
          rw [← h.1]; exact ha
        | succ N ih =>
          intro u acc xs u1 ha h
          simp only [dlo] at h
          split at h
          · simp only [Prod.mk.injEq] at h; rename_i c; exact absurd h.2.2 c
          · refine ih _ _ xs u1 ?_ h
            intro x hx
            simp only [List.mem_append, List.mem_singleton] at hx
            rcases hx with hx | rfl
            · exact ha x hx
            · exact (gi_case (L.drop u) _ _ _ rfl).2
      have := hg _ _ _ _ _ (fun x hx => by cases hx) h
      intro i hi
      have hm : iat xs i ∈ xs := by
        unfold iat
        rw [List.getD_eq_getElem?_getD, List.getElem?_eq_getElem hi]
        exact List.getElem_mem hi
      exact this _ hm
  · have := dls_zero gi L xs u e h he
    subst this
    intro i hi
    simp at hi

/-- what the walk still needs -/
structure CanLive (w : World) (a : Option Addr) (n cap : Nat) (L : List UInt8) (p1 p2 p3 : Option Addr) (xs : List Int) (ys : List ByteArray) (ds : List (List UInt8)) (W : World) : Prop where
  below : Below w.heap.size w W
  box : W.cell? ⟨w.heap.size, 0, none⟩ = some (.slice a n cap)
  rd : Rd W a L
  ints : Rdi W p1 xs
  strs : Rds W p2 ys
  digs : Rdd W p3 ds
theorem CanLive.later {w : World} {a : Option Addr} {n cap : Nat} {L : List UInt8} {p1 p2 p3 : Option Addr} {xs : List Int} {ys : List ByteArray} {ds : List (List UInt8)} {W W' : World} (h : CanLive w a n cap L p1 p2 p3 xs ys ds W) (hb : Below W.heap.size W W') : CanLive w a n cap L p1 p2 p3 xs ys ds W' :=
  ⟨h.below.trans (hb.mono h.below.size), Below.cell_of' hb h.box, Rd_below hb h.rd, Rdi_below hb h.ints, Rds_below hb h.strs, Rdd_below hb h.digs⟩

end Go.Proofs.Ytfodockdhecbpaa
