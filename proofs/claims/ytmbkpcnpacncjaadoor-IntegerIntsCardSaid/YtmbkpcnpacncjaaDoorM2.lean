/- Contracts of the package integer and its reference: integer.copied, trimmed; cmp.Compare of ints. integer.trimmed, made, compare. integer.made, compare. integer.product. integer.shortDivided, number. -/
import Derived.Test.YtmbkpcnpacncjaaDoorM1
set_option linter.unusedVariables false
namespace Go.Proofs.YtmbkpcnpacncjaaDoor
open Go.RowKit

set_option maxRecDepth 100000 in
set_option maxHeartbeats 400000 in
theorem isNaN_any (a : Int) (w : World) : Calls Tryd.prog 78 #[.int .i64 a] w fun e w' => e = .returned (.bool false) ∧ w = w' := by
  go_enter Tryd.func78, Tryd.ntmps78
  go_wp2
  go_ret
  exact ⟨rfl, rfl⟩

set_option maxRecDepth 100000 in
set_option maxHeartbeats 400000 in
theorem cmp_any (a b : Int) (w : World) : Calls Tryd.prog 69 #[.int .i64 a, .int .i64 b] w fun e w' => e = .returned (.int .i64 (cmpI a b)) ∧ w = w' := by
  by_cases h1 : a < b
  · have hr : Hid (cmpI a b = -1) := Lib.hid (by unfold cmpI; rw [if_pos h1])
    go_enter Tryd.func69, Tryd.ntmps69
    go_wp2_with (go_at_call 78; refine (isNaN_any _ _).mono ?_; rintro e w' ⟨rfl, rfl⟩)
    go_ret
    exact ⟨by rw [hr.out]; rfl, rfl⟩
  · by_cases h2 : b < a
    · have hr : Hid (cmpI a b = 1) := Lib.hid (by unfold cmpI; rw [if_neg h1, if_pos h2])
      go_enter Tryd.func69, Tryd.ntmps69
      go_wp2_with (go_at_call 78; refine (isNaN_any _ _).mono ?_; rintro e w' ⟨rfl, rfl⟩)
      go_ret
      exact ⟨by rw [hr.out]; rfl, rfl⟩
    · have hr : Hid (cmpI a b = 0) := Lib.hid (by unfold cmpI; rw [if_neg h1, if_neg h2])
      go_enter Tryd.func69, Tryd.ntmps69
      go_wp2_with (go_at_call 78; refine (isNaN_any _ _).mono ?_; rintro e w' ⟨rfl, rfl⟩)
      go_ret
      exact ⟨by rw [hr.out]; rfl, rfl⟩

theorem splice_cpy (l : List Int) (n : Nat) : splice (zvs (List.replicate n 0)) 0 (zvs (l.take n)) = zvs (cpy l n) := by
  have h : n - (l.take n).length = n - l.length := by rw [List.length_take]; omega
  unfold splice cpy
  simp only [zvs, List.take_zero, List.nil_append, Nat.zero_add, List.length_map, List.map_append, List.map_replicate, List.drop_replicate, h]

set_option maxRecDepth 100000 in
set_option maxHeartbeats 400000 in
theorem copied_any (a : Option Addr) (m c : Nat) (l : List Int) (n : Nat) (w : World) (hR0 : Rdi w a l) (hm0 : m = l.length) (hn : n ≤ 1099511627776) :
    Calls Tryd.prog 40 #[.slice a m c, .int .i64 (n : Int)] w (NewN w n fun z => z = cpy l n) := by
  have hR := Lib.hid hR0
  have hm := Lib.hid hm0
  clear hR0 hm0
  have hmk := run_make_row' (P := Tryd.prog) 22 3 (.int .i64 0) 8 Tryd.underlying22 info_i64 rfl .i64 .i64 n (by omega) (by omega)
  have hz := zvs_zeros n
  have hn0 : (0 : Int) ≤ (n : Int) := by omega
  obtain ⟨Z, hZ⟩ : ∃ Z, zvs (List.replicate n 0) = Z := ⟨_, rfl⟩
  rw [hz, hZ] at hmk
  obtain ⟨cs, hcs⟩ : ∃ cs, cs = zvs (l.take n) := ⟨_, rfl⟩
  have hZ' := Lib.hid hZ
  have hcs' := Lib.hid hcs
  clear hZ hcs hz
  have c1 : Hid (cs.length = Nat.min m n) := Lib.hid (by rw [hcs'.out, zvs_length, List.length_take, hm.out]; exact Nat.min_comm _ _)
  have c2 : Hid (0 < cs.length → some (⟨w.heap.size, 0, none⟩ : Addr) = some ⟨w.heap.size, 0, none⟩ ∧ ∃ ad, a = some ad ∧ ∀ j v, cs[j]? = some v → (w.alloc (.cells Z.toArray 3)).cell? (ad.add j) = some v) := Lib.hid (by
    intro hpos
    refine ⟨rfl, ?_⟩
    rcases hR.out with rfl | ⟨b, off, rfl, hc⟩
    · rw [hcs'.out] at hpos; simp [zvs] at hpos
    · refine ⟨_, rfl, fun j v hj => ?_⟩
      rw [hcs'.out] at hj
      exact Below.cell_of' (below_new w _) (Rdi_news (l := l.take n) (fun i hi => by
        rw [List.length_take] at hi
        rw [iat_take, if_pos (by omega)]
        exact hc i (by omega)) j v hj))
  have c3 : Hid (0 + cs.length ≤ Z.length) := Lib.hid (by rw [hcs'.out, ← hZ'.out, zvs_length, zvs_length, List.length_take, List.length_replicate]; omega)
  have c4 : Hid (∀ v ∈ cs, v.oneCell' = true) := Lib.hid (by rw [hcs'.out]; exact zvs_one _)
  go_enter Tryd.func40, Tryd.ntmps40
  go_wp2_with (refine wpList_copy_splice rfl (.tmp 8) (.tmp 9) 22 22 rfl 3 Tryd.underlying22 size_i64 (some ⟨w.heap.size, 0, none⟩) a n n m c rfl rfl w.heap.size 0 Z 3 (heap_alloc_new _ _) cs c1.out c2.out c3.out c4.out w.heap.size w (below_new w _) (Nat.le_refl _) ?_; intro w2 hG2 hB2; have hB2' := Lib.hid hB2; clear hB2)
  go_ret
  refine ⟨_, cpy l n, rfl, Nat.le_refl _, ?_, hB2'.out, cpy_length _ _, rfl⟩
  have := hG2.out
  unfold Blk
  rw [this, hcs'.out, ← hZ'.out, splice_cpy]

theorem copied_at (a : Option Addr) (m c : Nat) (l : List Int) (k : Int) (n : Nat) (w : World) (hk : k = (n : Int)) (hR0 : Rdi w a l) (hm0 : m = l.length) (hn : n ≤ 1099511627776) :
    Calls Tryd.prog 40 #[.slice a m c, .int .i64 k] w (NewN w n fun z => z = cpy l n) := by
  subst hk; exact copied_any a m c l n w hR0 hm0 hn

end Go.Proofs.YtmbkpcnpacncjaaDoor

namespace Go.Proofs.YtmbkpcnpacncjaaDoor
open Go.RowKit

set_option maxRecDepth 100000 in
set_option maxHeartbeats 400000 in
theorem trimmed_any (a : Option Addr) (m c : Nat) (l : List Int) (w : World) (hR0 : Rdi w a l) (hm0 : m = l.length) (hmc : m ≤ c) (hm : m ≤ 9223372036854775807) :
    Calls Tryd.prog 39 #[.slice a m c] w fun e w' => e = .returned (.slice a (tlen l) c) ∧ w = w' := by
  have hR := Lib.hid hR0
  have hml := Lib.hid hm0
  clear hR0 hm0
  go_enter Tryd.func39, Tryd.ntmps39
  go_wp2
  go_loop [3] (fun n => ∃ k : Nat, k ≤ m ∧ n = .int .i64 (k : Int) ∧ Hid (∀ i, k ≤ i → i < l.length → iat l i = 0)) (fun n => (intOf n).toNat)
  case atStart => exact ⟨m, Nat.le_refl _, rfl, Lib.hid (fun i h1 h2 => by have := hml.out; omega)⟩
  case round =>
    obtain ⟨k, hk, rfl, hz⟩ := hrel
    by_cases h0 : k = 0
    · subst h0
      have ht : Hid (tlen l = 0) := Lib.hid (tlen_of l 0 (Nat.zero_le _) hz.out (.inl rfl))
      rw [show ((0 : Nat) : Int) = 0 from rfl]
      go_wp2_with fail
      go_ret
      exact ⟨by rw [ht.out]; rfl, rfl⟩
    · obtain ⟨q, rfl⟩ : ∃ q, k = q + 1 := ⟨k - 1, by omega⟩
      obtain ⟨b, off, rfl, hc⟩ := Rdi_at hR.out q (by rw [← hml.out]; omega)
      obtain ⟨x, hx⟩ : ∃ x, iat l q = x := ⟨_, rfl⟩
      rw [hx] at hc
      have hx' := Lib.hid hx
      clear hx h0
      have e1 : (((q + 1 : Nat) : Int)) = (q : Int) + 1 := by omega
      have e2 : (q : Int) + 1 - 1 = (q : Int) := by omega
      have h1 : (0 : Int) < (q : Int) + 1 := by omega
      rw [e1]
      by_cases hx0 : x = 0
      · subst hx0
        have hz2 : Hid (∀ i, q ≤ i → i < l.length → iat l i = 0) := Lib.hid (fun i h1 h2 => by
          rcases Nat.lt_or_ge q i with h | h
          · exact hz.out i (by omega) h2
          · rw [show i = q by omega]; exact hx'.out)
        go_wp2_with fail
        refine ⟨⟨q, by omega, rfl, hz2⟩, by simp [intOf]⟩
      · have hxb : (x == 0) = false := by simpa using hx0
        have ht : Hid (tlen l = q + 1) := Lib.hid (tlen_of l (q + 1) (by rw [← hml.out]; exact hk) hz.out (.inr (by rw [Nat.add_sub_cancel, hx'.out]; exact hx0)))
        clear hx0
        go_wp2_with fail
        go_ret
        exact ⟨by rw [ht.out]; rfl, rfl⟩

end Go.Proofs.YtmbkpcnpacncjaaDoor

namespace Go.Proofs.YtmbkpcnpacncjaaDoor
open Go.RowKit

theorem tlen_zero {l : List Int} (h : Dg l) (h0 : tlen l = 0) : val l = 0 := by
  have h1 := take_tlen h
  rw [h0, List.take_zero] at h1
  have h2 := digs_nil.1 h1.symm
  have h3 := h.lo
  omega
theorem tlen_len {l : List Int} (h : Dg l) : (digs (val l).toNat).length = tlen l := by
  rw [← take_tlen h, List.length_take]
  have := tlen_le l
  omega
theorem tlen_pos {l : List Int} (h : Dg l) (h0 : tlen l ≠ 0) : 0 < val l := by
  have h1 := tlen_len h
  have h2 := h.lo
  rcases Int.lt_or_le 0 (val l) with h3 | h3
  · exact h3
  · rw [show val l = 0 by omega] at h1
    have h4 : digs (0 : Int).toNat = [] := digs_zero
    rw [h4] at h1
    simp at h1
    omega
theorem sg_abs (neg : Bool) (n : Int) (h : 0 ≤ n) : (sg neg n).natAbs = n.toNat := by unfold sg; cases neg <;> simp <;> omega
theorem sg_neg (neg : Bool) (n : Int) (h : 0 < n) : decide (sg neg n < 0) = neg := by unfold sg; cases neg <;> simp <;> omega
theorem made_is {w : World} {neg : Bool} {a : Option Addr} {c : Nat} {l : List Int} (hR : Rdi w a l) (hd : Dg l) (h0 : tlen l ≠ 0) (hc : l.length ≤ c) (hm : c ≤ 9223372036854775807) : IntAt w neg a (tlen l) c (sg neg (val l)) := by
  have hp := tlen_pos hd h0
  have ht := tlen_le l
  refine ⟨(sg_neg _ _ hp).symm, ?_, ?_, by omega, hm⟩
  · rw [sg_abs _ _ (by omega), tlen_len hd]
  · rw [sg_abs _ _ (by omega), ← take_tlen hd]; exact Rdi_take hR _

set_option maxRecDepth 100000 in
set_option maxHeartbeats 400000 in
theorem made_any (neg : Bool) (a : Option Addr) (m c : Nat) (l : List Int) (w : World) (hR0 : Rdi w a l) (hm0 : m = l.length) (hmc : m ≤ c) (hm : c ≤ 9223372036854775807) (hd0 : Dg l) :
    Calls Tryd.prog 26 #[.bool neg, .slice a m c] w (RetF (fun q => a = some q) w (sg neg (val l))) := by
  have hR := Lib.hid hR0
  have hml := Lib.hid hm0
  have hd := Lib.hid hd0
  clear hR0 hm0 hd0
  have htr : Hid (∀ W, Below w.heap.size w W → Calls Tryd.prog 39 #[.slice a m c] W fun e w' => e = .returned (.slice a (tlen l) c) ∧ W = w') :=
    Lib.hid (fun W hb => trimmed_any a m c l W (Rdi_below hb hR.out) hml.out hmc (by omega))
  obtain ⟨t, ht⟩ : ∃ t, tlen l = t := ⟨_, rfl⟩
  rw [ht] at htr
  have ht' := Lib.hid ht
  clear ht
  by_cases h0 : t = 0
  · subst h0
    have hv : Hid (sg neg (val l) = 0) := Lib.hid (by rw [tlen_zero hd.out ht'.out]; unfold sg; cases neg <;> rfl)
    rw [hv.out]
    go_enter Tryd.func26, Tryd.ntmps26
    go_wp2_with (go_at_call 39; refine (htr.out _ (below_new w _)).mono ?_; rintro e w' ⟨rfl, rfl⟩)
    exact bodyPost_ret (v := .agg #[.bool false, .slice none 0 0]) (by simp [results, Tryd.results26, go_sem]) rfl ⟨_, _, _, _, rfl, IntAt_zero _ _ _ (by omega), below_new _ _, fun q hq => by cases hq⟩
  · have h0b : ((t : Int) == 0) = false := by simpa using h0
    have hI : Hid (∀ W, Below w.heap.size w W → IntAt W neg a t c (sg neg (val l))) := Lib.hid (fun W hb => by rw [← ht'.out]; exact made_is (Rdi_below hb hR.out) hd.out (by rw [ht'.out]; exact h0) (by rw [← hml.out]; exact hmc) hm)
    clear h0
    go_enter Tryd.func26, Tryd.ntmps26
    go_wp2_with (go_at_call 39; refine (htr.out _ (below_new w _)).mono ?_; rintro e w' ⟨rfl, rfl⟩)
    exact bodyPost_ret (v := .agg #[.bool neg, .slice a t c]) (by simp [results, Tryd.results26, go_sem]) rfl ⟨_, _, _, _, rfl, hI.out _ (below_new _ _), below_new _ _, fun q hq => hq⟩

theorem cmp_lt {a b : Int} (h : a < b) : cmpI a b = -1 := by unfold cmpI; rw [if_pos h]
theorem cmp_gt {a b : Int} (h : b < a) : cmpI a b = 1 := by unfold cmpI; rw [if_neg (by omega), if_pos h]
theorem cmp_eq (a : Int) : cmpI a a = 0 := by unfold cmpI; simp
theorem cmp_len {a b : Nat} (h : (digs a).length ≠ (digs b).length) : cmpI ((digs a).length : Int) ((digs b).length : Int) = cmpI a b := by
  rcases Nat.lt_or_gt_of_ne h with h1 | h1
  · have := digs_len_lt h1
    rw [cmp_lt (by omega), cmp_lt (by omega)]
  · have := digs_len_lt h1
    rw [cmp_gt (by omega), cmp_gt (by omega)]
theorem cmp_top {a b : Nat} (hl : (digs a).length = (digs b).length) (k : Nat) (hk : k < (digs a).length) (hd : (digs a).drop (k + 1) = (digs b).drop (k + 1)) (hne : iat (digs a) k ≠ iat (digs b) k) : cmpI (iat (digs a) k) (iat (digs b) k) = cmpI a b := by
  rcases Int.lt_or_gt_of_ne hne with h1 | h1
  · have := val_top (Dg_digs a) (Dg_digs b) hl k hk (by rw [hd]) h1
    rw [val_digs, val_digs] at this
    rw [cmp_lt h1, cmp_lt this]
  · have := val_top (Dg_digs b) (Dg_digs a) hl.symm k (by omega) (by rw [hd]) h1
    rw [val_digs, val_digs] at this
    rw [cmp_gt h1, cmp_gt this]
theorem drop_same {x y : List Int} (hl : x.length = y.length) (k : Nat) (hk : k < x.length) (hd : x.drop (k + 1) = y.drop (k + 1)) (he : iat x k = iat y k) : x.drop k = y.drop k := by
  rw [List.drop_eq_getElem_cons hk, List.drop_eq_getElem_cons (l := y) (by omega), hd]
  congr 1
  simpa [iat, hk, show k < y.length by omega] using he

theorem q_left {P : Program} {f : FuncId} {args : Array Value} {w : World} {a : Nat} {v : Value} (h : Calls P f args (w.drewN a) fun e w' => e = .returned v ∧ w.drewN a = w') :
    Calls P f args (w.drewN a) fun e w'' => e = .returned v ∧ ∃ m, w'' = w.drewN m := h.mono fun _ _ x => ⟨x.1, a, x.2.symm⟩

set_option maxRecDepth 100000 in
set_option maxHeartbeats 800000 in
theorem compare_any (a1 a2 : Option Addr) (n1 c1 n2 c2 : Nat) (x y : Nat) (w : World) (hR1 : Rdi w a1 (digs x)) (hR2 : Rdi w a2 (digs y)) (hn1 : n1 = (digs x).length) (hn2 : n2 = (digs y).length) (hm1 : n1 ≤ 9223372036854775807) (hm2 : n2 ≤ 9223372036854775807) :
    Calls Tryd.prog 58 #[.slice a1 n1 c1, .slice a2 n2 c2] w fun e w' => e = .returned (.int .i64 (cmpI x y)) ∧ Below w.heap.size w w' := by
  have H1 := Lib.hid hR1
  have H2 := Lib.hid hR2
  have N1 := Lib.hid hn1
  have N2 := Lib.hid hn2
  clear hR1 hR2 hn1 hn2
  by_cases hne : n1 = n2
  · subst hne
    have htst : ((n1 : Int) != (n1 : Int)) = false := by simp
    have HL : Hid ((digs x).length = (digs y).length) := Lib.hid (by rw [← N1.out, ← N2.out])
    go_enter Tryd.func58, Tryd.ntmps58
    go_wp2_with fail
    go_loopw [19] (fun i wr => ∃ k : Nat, k ≤ n1 ∧ i = .int .i64 (k : Int) ∧ Hid ((digs x).drop (n1 - k) = (digs y).drop (n1 - k)) ∧ Below w.heap.size w wr) (fun i _ => n1 - (intOf i).toNat)
    case atStart => exact ⟨0, Nat.zero_le _, rfl, Lib.hid (by rw [Nat.sub_zero, List.drop_of_length_le (by rw [← N1.out]; exact Nat.le_refl _), List.drop_of_length_le (by rw [← N2.out]; exact Nat.le_refl _)]), Below.refl _ _⟩
    case round =>
      obtain ⟨k, hk, rfl, hd, hB⟩ := hrel
      by_cases hlt : k < n1
      · obtain ⟨j, rfl⟩ : ∃ j, n1 = j + 1 + k := ⟨n1 - 1 - k, by omega⟩
        obtain ⟨b1, o1, rfl, hc1⟩ := Rdi_at H1.out j (by rw [← N1.out]; omega)
        obtain ⟨b2, o2, rfl, hc2⟩ := Rdi_at H2.out j (by rw [← N2.out]; omega)
        have C1 := Below.cell_of' hB hc1
        have C2 := Below.cell_of' hB hc2
        have hB' := Lib.hid hB
        have hd' : Hid ((digs x).drop (j + 1) = (digs y).drop (j + 1)) := Lib.hid (by have := hd.out; rw [show j + 1 + k - k = j + 1 by omega] at this; exact this)
        obtain ⟨X, hX⟩ : ∃ X, iat (digs x) j = X := ⟨_, rfl⟩
        obtain ⟨Y, hY⟩ : ∃ Y, iat (digs y) j = Y := ⟨_, rfl⟩
        rw [hX] at C1
        rw [hY] at C2
        have hX' := Lib.hid hX
        have hY' := Lib.hid hY
        have hj1 : j < (digs x).length := by rw [← N1.out]; omega
        have e0 : (((j + 1 + k : Nat) : Int)) = (j : Int) + 1 + (k : Int) := by omega
        have e1 : (j : Int) + 1 + (k : Int) - 1 - (k : Int) = (j : Int) := by omega
        have e2 : (k : Int) < (j : Int) + 1 + (k : Int) := by omega
        have e3 : (j : Int) < (j : Int) + 1 + (k : Int) := by omega
        have e4 : 0 ≤ (j : Int) := by omega
        have e5 : ((j : Int)).toNat = j := by omega
        clear hB hc1 hc2 hd hX hY
        rw [e0]
        by_cases hXY : X = Y
        · subst hXY
          have hn : (X != X) = false := by simp
          have hs : Hid ((digs x).drop j = (digs y).drop j) := Lib.hid (drop_same HL.out j hj1 hd'.out (by rw [hX'.out, hY'.out]))
          clear e0
          go_wp2_with fail
          go_quiet (fail)
          go_wp2_with fail
          refine ⟨⟨k + 1, by omega, by simp, ?_, below_drewN hB'.out _⟩, by simp [intOf]; omega⟩
          exact Lib.hid (by rw [show j + 1 + k - (k + 1) = j by omega]; exact hs.out)
        · have hn : (X != Y) = true := by simpa using hXY
          have hr : Hid (cmpI X Y = cmpI x y) := Lib.hid (by rw [← hX'.out, ← hY'.out]; exact cmp_top HL.out j hj1 hd'.out (by rw [hX'.out, hY'.out]; exact hXY))
          clear hXY e0
          go_wp2_with fail
          go_quiet (fail)
          go_wp2_with fail
          have hBq := Lib.hid (below_drewN hB'.out nq)
          have C1q : (wr.drewN nq).cell? ⟨b1, o1 + j, none⟩ = some (.int .i64 X) := C1
          have C2q : (wr.drewN nq).cell? ⟨b2, o2 + j, none⟩ = some (.int .i64 Y) := C2
          generalize wr.drewN nq = wq at hBq C1q C2q ⊢
          clear C1 C2
          go_quiet ((go_at_call 69; exact q_left (cmp_any _ _ _)))
          go_wp2_with fail
          go_ret
          exact ⟨by rw [← hr.out]; rfl, below_drewN hBq.out _⟩
      · have hk' : k = n1 := by omega
        subst hk'
        have hr : Hid (cmpI x y = 0) := Lib.hid (by
          have := hd.out
          rw [Nat.sub_self, List.drop_zero, List.drop_zero] at this
          rw [digs_inj this]; exact cmp_eq _)
        have hB' := Lib.hid hB
        clear hB
        go_wp2_with fail
        go_ret
        exact ⟨by rw [hr.out]; rfl, hB'.out⟩
  · have htst : ((n1 : Int) != (n2 : Int)) = true := by simp; omega
    have hr : Hid (cmpI (n1 : Int) (n2 : Int) = cmpI x y) := Lib.hid (by rw [N1.out, N2.out]; exact cmp_len (by rw [← N1.out, ← N2.out]; exact hne))
    go_enter Tryd.func58, Tryd.ntmps58
    go_wp2_with (go_at_call 69; refine (cmp_any _ _ _).mono ?_; rintro e w' ⟨rfl, rfl⟩)
    go_ret
    exact ⟨by rw [← hr.out]; rfl, Below.refl _ _⟩

end Go.Proofs.YtmbkpcnpacncjaaDoor

namespace Go.Proofs.YtmbkpcnpacncjaaDoor
open Go.RowKit

/-- rows are added in block g -/
def MulL (w : World) (g : Nat) (l m : List Int) (i : Nat) (wr : World) : Prop := ∃ z, MulA l m i z ∧ Blk wr g z ∧ Below w.heap.size w wr
def MulM (w : World) (g : Nat) (l m : List Int) (i j : Nat) (over : Int) (wr : World) : Prop := ∃ z, MulB l m i j over z ∧ Blk wr g z ∧ Below w.heap.size w wr
def MulP (l m : List Int) (z : List Int) : Prop := Dg z ∧ val z = val l * val m ∧ z.length = l.length + m.length

set_option maxRecDepth 100000 in
set_option maxHeartbeats 1600000 in
theorem product_any (a1 a2 : Option Addr) (n1 c1 n2 c2 : Nat) (l m : List Int) (w : World) (hR1 : Rdi w a1 l) (hR2 : Rdi w a2 m) (hn1 : n1 = l.length) (hn2 : n2 = m.length) (hd1 : Dg l) (hd2 : Dg m) (hm1 : n1 ≤ 1099511627775) (hm2 : n2 ≤ 1099511627775) :
    Calls Tryd.prog 44 #[.slice a1 n1 c1, .slice a2 n2 c2] w (NewI w (MulP l m)) := by
  have H1 := Lib.hid hR1
  have H2 := Lib.hid hR2
  have N1 := Lib.hid hn1
  have N2 := Lib.hid hn2
  have D1 := Lib.hid hd1
  have D2 := Lib.hid hd2
  clear hR1 hR2 hn1 hn2 hd1 hd2
  have hmk := run_make_row' (P := Tryd.prog) 22 3 (.int .i64 0) 8 Tryd.underlying22 info_i64 rfl .i64 .i64 (n1 + n2) (by omega) (by omega)
  rw [zvs_zeros, show ((n1 + n2 : Nat) : Int) = (n1 : Int) + (n2 : Int) by omega] at hmk
  have hI : Hid (MulL w w.heap.size l m 0 (w.alloc (.cells (zvs (List.replicate (n1 + n2) 0)).toArray 3))) := Lib.hid ⟨_, MulA.start l m, by rw [← N1.out, ← N2.out]; exact Blk_new _ _, below_new _ _⟩
  generalize zvs (List.replicate (n1 + n2) 0) = Z at hmk hI
  go_enter Tryd.func44, Tryd.ntmps44
  go_wp2_with fail
  generalize w.alloc (.cells Z.toArray 3) = w1 at hI ⊢
  obtain ⟨g, hg⟩ : ∃ g, w.heap.size = g := ⟨_, rfl⟩
  rw [hg] at hI ⊢
  have hgg : Hid (w.heap.size ≤ g) := Lib.hid (Nat.le_of_eq hg)
  clear hg hmk
  go_loopw [21] (fun i wr => ∃ k : Nat, k ≤ n1 ∧ i = .int .i64 (k : Int) ∧ MulL w g l m k wr) (fun i _ => n1 - (intOf i).toNat)
  case atStart => exact ⟨0, Nat.zero_le _, rfl, hI.out⟩
  case round =>
    obtain ⟨i, hi, rfl, hL⟩ := hrel
    clear hI
    by_cases hlt : i < n1
    · obtain ⟨b, o, hoX, hcx0⟩ := Rdi_at H1.out i (by rw [← N1.out]; exact hlt)
      subst hoX
      have hcx : wr.cell? ⟨b, o + i, none⟩ = some (.int .i64 (iat l i)) := by
        obtain ⟨z, hA, hz, hB⟩ := hL
        exact Below.cell_of' hB hcx0
      have hM : Hid (MulM w g l m i 0 0 wr) := Lib.hid (by
        obtain ⟨z, hA, hz, hB⟩ := hL
        exact ⟨z, hA.row, hz, hB⟩)
      have hx1 := D1.out.all i
      obtain ⟨x, hxx⟩ : ∃ x, iat l i = x := ⟨_, rfl⟩
      rw [hxx] at hcx hx1
      have hxx' := Lib.hid hxx
      obtain ⟨hx3, hx4⟩ := hx1
      have i0 : 0 ≤ (i : Int) := by omega
      have i1 : (i : Int) < (n1 : Int) := by omega
      have i2 : (i : Int) ≤ (n1 : Int) + (n2 : Int) := by omega
      have i3 : ¬ (n1 : Int) + (n2 : Int) < (i : Int) := by omega
      have i4 : ((n1 + n2 : Nat) : Int) = (n1 : Int) + (n2 : Int) := by omega
      clear hL hcx0 hxx
      go_wp2_with fail
      obtain ⟨r, hr⟩ : ∃ r, n1 + n2 - i = r := ⟨_, rfl⟩
      rw [hr]
      have r1 : (n2 : Int) < (r : Int) := by omega
      have hr' := Lib.hid hr
      clear hr i1 i2 i3 i4 hlt
      obtain ⟨wo, rfl⟩ : ∃ wo : World, wo = wr := ⟨_, rfl⟩
      go_loopw [9, 31] (fun ov jv wr2 => ∃ (j : Nat) (over : Int), j ≤ n2 ∧ jv = .int .i64 (j : Int) ∧ ov = .int .i64 over ∧ MulM w g l m i j over wr2) (fun _ jv _ => n2 - (intOf jv).toNat)
      case atStart => exact ⟨0, 0, Nat.zero_le _, rfl, rfl, hM.out⟩
      case round =>
        obtain ⟨j, over, hj, rfl, rfl, hL⟩ := hrel
        clear hM hcx
        by_cases hlt : j < n2
        · obtain ⟨z, hB, hz, hW⟩ := hL
          obtain ⟨b2, o2, hoY, hcy0⟩ := Rdi_at H2.out j (by rw [← N2.out]; exact hlt)
          subst hoY
          have cy := Below.cell_of' hW hcy0
          have hkz : i + j < z.length := by rw [hB.len, ← N1.out, ← N2.out]; have := hr'.out; omega
          have cz := hz.cell hkz
          have cf := hz.free (i + j)
          have hil : i < l.length := by rw [← N1.out]; have := hr'.out; omega
          have hnx := hB.next hil (by rw [← N2.out]; exact hlt) (by rw [hxx'.out]; exact hx3) (by rw [hxx'.out]; exact hx4) D2.out
          have hst : Hid (MulM w g l m i (j + 1) ((iat l i * iat m j + iat z (i + j) + over) / 1000000000) (wr.setCell ⟨g, i + j, none⟩ (.int .i64 ((iat l i * iat m j + iat z (i + j) + over) % 1000000000)))) := Lib.hid ⟨_, hnx, hz.set _ _, hW.setCell hgg.out _⟩
          have hy1 := D2.out.all j
          have hz1 := hB.dg.all (i + j)
          have ho1 := hB.lo
          have ho2 := hB.hi
          have hmd := mul_digit hx3 hx4 hy1.1 hy1.2 hz1.1 hz1.2 ho1 ho2
          rw [hxx'.out] at hst
          obtain ⟨y, hyy⟩ : ∃ y, iat m j = y := ⟨_, rfl⟩
          obtain ⟨v, hvv⟩ : ∃ v, iat z (i + j) = v := ⟨_, rfl⟩
          rw [hyy] at cy hst hy1 hmd
          rw [hvv] at cz hst hz1 hmd
          obtain ⟨q1, q2, q3, q4⟩ := hmd
          obtain ⟨hy3, hy4⟩ := hy1
          obtain ⟨hz3, hz4⟩ := hz1
          have j0 : 0 ≤ (j : Int) := by omega
          have j1 : (j : Int) < (n2 : Int) := by omega
          have j2 : (j : Int) < (r : Int) := by omega
          clear hB hz hW hcy0 hkz hil hnx hyy hvv
          go_wp2_with fail
          exact ⟨⟨j + 1, _, by omega, by simp, rfl, hst.out⟩, by simp [intOf]; omega⟩
        · have hj' : j = n2 := by omega
          subst hj'
          obtain ⟨z, hB, hz, hW⟩ := hL
          have hil : i < l.length := by rw [← N1.out]; have := hr'.out; omega
          have hkz : i + j < z.length := by rw [hB.len, ← N1.out, ← N2.out]; have := hr'.out; omega
          have cz := hz.cell hkz
          have cf := hz.free (i + j)
          rw [N2.out] at hB
          have hdn := hB.done hil
          rw [← N2.out] at hdn
          have hst : Hid (MulL w g l m (i + 1) (wr.setCell ⟨g, i + j, none⟩ (.int .i64 over))) := Lib.hid ⟨_, hdn, hz.set _ _, hW.setCell hgg.out _⟩
          have hii : Hid (i + 1 ≤ n1) := Lib.hid (by rw [N1.out]; exact hil)
          have hii2 : Hid (n1 - (i + 1) < n1 - i) := Lib.hid (by have := hii.out; omega)
          have j0 : 0 ≤ (j : Int) := by omega
          generalize iat z (i + j) = v at cz
          clear hB hz hW hil hkz hdn hlt
          go_wp2_with fail
          exact ⟨⟨i + 1, hii.out, by simp, hst.out⟩, by simp [intOf]; exact hii2.out⟩
    · have hk' : i = n1 := by omega
      subst hk'
      obtain ⟨z, hA, hz, hB⟩ := hL
      have hz' := Lib.hid hz
      have hB' := Lib.hid hB
      have hA' := Lib.hid hA
      clear hz hB hA
      go_wp2_with fail
      go_ret
      exact ⟨g, _, z, rfl, hgg.out, hz'.out, hB'.out, by rw [hA'.out.len, N1.out, N2.out], hA'.out.dg, by rw [hA'.out.sum, N1.out, List.take_length], hA'.out.len⟩
end Go.Proofs.YtmbkpcnpacncjaaDoor

namespace Go.Proofs.YtmbkpcnpacncjaaDoor
open Go.RowKit

/-- a quotient by a digit in block g -/
def DivL (w : World) (g : Nat) (l : List Int) (y : Int) (k : Nat) (r : Int) (wr : World) : Prop := ∃ q, DivA l y k r q ∧ Blk wr g q ∧ Below w.heap.size w wr
/-- a quotient and a rest, each in a block of its own -/
def DivS (w : World) (l : List Int) (y : Int) (e : Ending) (w' : World) : Prop :=
  ∃ g h n q r, e = .returned (.tuple #[.slice (some ⟨g, 0, none⟩) n n, .slice (some ⟨h, 0, none⟩) 1 1]) ∧ w.heap.size ≤ g ∧ w.heap.size ≤ h ∧ Blk w' g q ∧ Blk w' h [r] ∧ Below w.heap.size w w' ∧ n = l.length ∧ DivA l y 0 r q

set_option maxRecDepth 100000 in
set_option maxHeartbeats 800000 in
theorem shortDivided_any (a : Option Addr) (n c : Nat) (l : List Int) (y : Int) (w : World) (hR0 : Rdi w a l) (hn0 : n = l.length) (hd0 : Dg l) (hy0 : 0 < y) (hy1 : y ≤ 1000000000) (hm : n ≤ 1099511627776) :
    Calls Tryd.prog 55 #[.slice a n c, .int .i64 y] w (DivS w l y) := by
  have H := Lib.hid hR0
  have N := Lib.hid hn0
  have D := Lib.hid hd0
  clear hR0 hn0 hd0
  have hmk := run_make_row' (P := Tryd.prog) 22 3 (.int .i64 0) 8 Tryd.underlying22 info_i64 rfl .i64 .i64 n (by omega) (by omega)
  rw [zvs_zeros] at hmk
  have hI : Hid (DivL w w.heap.size l y n 0 (w.alloc (.cells (zvs (List.replicate n 0)).toArray 3))) := Lib.hid ⟨_, by rw [N.out]; exact DivA.start l y hy0, by rw [← N.out]; exact Blk_new _ _, below_new _ _⟩
  generalize zvs (List.replicate n 0) = Z at hmk hI
  have y0 : (y == 0) = false := by simp; omega
  go_enter Tryd.func55, Tryd.ntmps55
  go_wp2_with fail
  generalize w.alloc (.cells Z.toArray 3) = w1 at hI ⊢
  obtain ⟨g, hg⟩ : ∃ g, w.heap.size = g := ⟨_, rfl⟩
  rw [hg] at hI ⊢
  have hgg : Hid (w.heap.size ≤ g) := Lib.hid (Nat.le_of_eq hg)
  clear hg hmk
  go_loopw [7, 16] (fun rv i wr => ∃ (k j : Nat) (r : Int), j + k = n ∧ i = .int .i64 (k : Int) ∧ rv = .int .u64 r ∧ DivL w g l y j r wr) (fun _ i _ => n - (intOf i).toNat)
  case atStart => exact ⟨0, n, 0, rfl, rfl, rfl, hI.out⟩
  case round =>
    obtain ⟨k, j0, r, hjk, rfl, rfl, hL⟩ := hrel
    clear hI
    by_cases hlt : k < n
    · obtain ⟨j, rfl⟩ : ∃ j, j0 = j + 1 := ⟨j0 - 1, by omega⟩
      subst hjk
      obtain ⟨q, hA, hq, hB⟩ := hL
      have hjl : j < l.length := by rw [← N.out]; omega
      obtain ⟨b, o, rfl, hcx⟩ := Rdi_at H.out j hjl
      have cx := Below.cell_of' hB hcx
      have hjq : j < q.length := by rw [hA.len]; exact hjl
      have cq := hq.cell hjq
      have cf := hq.free j
      have hst : Hid (DivL w g l y j ((r * 1000000000 + iat l j) % y) (wr.setCell ⟨g, j, none⟩ (.int .i64 ((r * 1000000000 + iat l j) / y)))) := Lib.hid ⟨_, hA.next hjl D.out hy1, hq.set _ _, hB.setCell hgg.out _⟩
      have hr1 := hA.lo
      have hr2 := hA.hi
      have hx := D.out.all j
      have hq1 : 0 ≤ (r * 1000000000 + iat l j) / y := Int.ediv_nonneg (by omega) (by omega)
      have hq2 : (r * 1000000000 + iat l j) / y < 1000000000 := Int.ediv_lt_of_lt_mul (by omega) (by omega)
      have hq3 : 0 ≤ (r * 1000000000 + iat l j) % y := Int.emod_nonneg _ (by omega)
      have hq4 : (r * 1000000000 + iat l j) % y < y := Int.emod_lt_of_pos _ hy0
      obtain ⟨x, hxx⟩ : ∃ x, iat l j = x := ⟨_, rfl⟩
      obtain ⟨v, hvv⟩ : ∃ v, iat q j = v := ⟨_, rfl⟩
      rw [hxx] at cx hst hx hq1 hq2 hq3 hq4
      rw [hvv] at cq
      obtain ⟨hx3, hx4⟩ := hx
      have e0 : (((j + 1 + k : Nat) : Int)) = (j : Int) + 1 + (k : Int) := by omega
      have e1 : (j : Int) + 1 + (k : Int) - 1 - (k : Int) = (j : Int) := by omega
      have e2 : (k : Int) < (j : Int) + 1 + (k : Int) := by omega
      have e3 : (j : Int) < (j : Int) + 1 + (k : Int) := by omega
      have e4 : 0 ≤ (j : Int) := by omega
      have e5 : ((j : Int)).toNat = j := by omega
      clear hA hq hB hcx hjl hjq hxx hvv hlt
      go_wp2_with fail
      exact ⟨⟨k + 1, j, _, by omega, by simp, rfl, hst.out⟩, by simp [intOf]; omega⟩
    · have hk' : k = n := by omega
      obtain rfl : j0 = 0 := by omega
      subst hk'
      obtain ⟨q, hA, hq, hB⟩ := hL
      have hA' := Lib.hid hA
      have hq' := Lib.hid hq
      have hB' := Lib.hid hB
      have hr1 := hA.lo
      have hr2 := hA.hi
      clear hA hq hB hjk
      go_wp2_with fail
      go_ret2
      exact ⟨g, wr.heap.size, _, q, r, rfl, hgg.out, hB'.out.size, hq'.out.later (below_new _ _), Blk_new wr [r], below_tr hB'.out (below_new _ _), N.out, hA'.out⟩

/-- a number of 64 bits, while k digits are left -/
def NumI (l : List Int) (k : Nat) : Int := val (l.drop k) % 18446744073709551616
theorem NumI_next {l : List Int} {k : Nat} (hk : k < l.length) : (NumI l (k + 1) * 1000000000 + iat l k) % 18446744073709551616 = NumI l k := by
  unfold NumI
  rw [val_drop l k hk]
  omega
theorem u64_two (a x : Int) : IntKind.u64.wrap (IntKind.u64.wrap a + x) = (a + x) % 18446744073709551616 := by
  simp [IntKind.wrap, IntKind.bits, IntKind.signed]
theorem NumI_lo (l : List Int) (k : Nat) : 0 ≤ NumI l k ∧ NumI l k < 18446744073709551616 := by unfold NumI; omega

set_option maxRecDepth 100000 in
set_option maxHeartbeats 800000 in
theorem number_any (a : Option Addr) (n c : Nat) (l : List Int) (w : World) (hR0 : Rdi w a l) (hn0 : n = l.length) (hd0 : Dg l) (hm : n ≤ 1099511627776) :
    Calls Tryd.prog 24 #[.slice a n c] w fun e w' => e = .returned (.int .u64 (NumI l 0)) ∧ w = w' := by
  have H := Lib.hid hR0
  have N := Lib.hid hn0
  have D := Lib.hid hd0
  clear hR0 hn0 hd0
  go_enter Tryd.func24, Tryd.ntmps24
  go_wp2_with fail
  go_loop [3, 7] (fun mv i => ∃ (k j : Nat), j + k = n ∧ i = .int .i64 (k : Int) ∧ mv = .int .u64 (NumI l j)) (fun _ i => n - (intOf i).toNat)
  case atStart => exact ⟨0, n, rfl, rfl, by unfold NumI; rw [N.out, List.drop_length]; rfl⟩
  case round =>
    obtain ⟨k, j0, hjk, rfl, rfl⟩ := hrel
    by_cases hlt : k < n
    · obtain ⟨j, rfl⟩ : ∃ j, j0 = j + 1 := ⟨j0 - 1, by omega⟩
      subst hjk
      have hjl : j < l.length := by rw [← N.out]; omega
      obtain ⟨b, o, rfl, cx⟩ := Rdi_at H.out j hjl
      have hst := Lib.hid (NumI_next hjl)
      have hr := NumI_lo l (j + 1)
      have hx := D.out.all j
      obtain ⟨x, hxx⟩ : ∃ x, iat l j = x := ⟨_, rfl⟩
      obtain ⟨M, hM⟩ : ∃ M, NumI l (j + 1) = M := ⟨_, rfl⟩
      rw [hxx] at cx hst hx
      rw [hM] at hst hr ⊢
      obtain ⟨hx3, hx4⟩ := hx
      obtain ⟨hr3, hr4⟩ := hr
      have e0 : (((j + 1 + k : Nat) : Int)) = (j : Int) + 1 + (k : Int) := by omega
      have e1 : (j : Int) + 1 + (k : Int) - 1 - (k : Int) = (j : Int) := by omega
      have e2 : (k : Int) < (j : Int) + 1 + (k : Int) := by omega
      have e3 : (j : Int) < (j : Int) + 1 + (k : Int) := by omega
      have e4 : 0 ≤ (j : Int) := by omega
      have e5 : ((j : Int)).toNat = j := by omega
      clear hjl hxx hM hlt
      go_wp2_with fail
      exact ⟨⟨k + 1, j, by omega, by simp, by rw [u64_two, hst.out]⟩, by simp [intOf]; omega⟩
    · have hk' : k = n := by omega
      obtain rfl : j0 = 0 := by omega
      subst hk'
      go_wp2_with fail
      go_ret
      exact ⟨rfl, rfl⟩
end Go.Proofs.YtmbkpcnpacncjaaDoor
