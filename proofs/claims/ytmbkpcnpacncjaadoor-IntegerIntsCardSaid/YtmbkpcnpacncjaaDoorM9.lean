/- Contracts of the package integer and its reference: The reference: plus, minus. The reference: Of. integer.Div. -/
import Derived.Test.YtmbkpcnpacncjaaDoorM7
import Derived.Test.YtmbkpcnpacncjaaDoorM4
import Derived.Test.YtmbkpcnpacncjaaDoorM5
set_option linter.unusedVariables false
namespace Go.Proofs.YtmbkpcnpacncjaaDoor
open Go.RowKit

/-- a row of the call's own that grows -/
def GrowI (w : World) (v : Value) (l : List Int) (wr : World) : Prop := wr.ownsRow w.heap.size 3 1 v l.length (zvs l) ∧ Below w.heap.size w wr
theorem GrowI.push {w wr w' : World} {v v' : Value} {l : List Int} {x : Int} {o : Obj} (h : GrowI w v l wr) (ho : w'.ownsRow w.heap.size 3 1 v' (l.length + 1) (zvs l ++ [.int .i64 x])) (hg : (wr.alloc o).grownBy w' v.ownBlock) : GrowI w v' (l ++ [x]) w' := by
  refine ⟨?_, ((h.2.alloc h.2.size _).grown hg (Nat.le_trans h.2.size (by simp)) fun k hk => (h.1.lt k hk).1)⟩
  rw [List.length_append]
  have : zvs (l ++ [x]) = zvs l ++ [.int .i64 x] := by simp [zvs]
  rw [this]; exact ho
theorem GrowI.start (w : World) : GrowI w (.slice none 0 0) [] w := ⟨World.ownsRow_nil _ _ _ _, Below.refl _ _⟩
theorem GrowI.drewN {w wr : World} {v : Value} {l : List Int} (h : GrowI w v l wr) (q : Nat) : GrowI w v l (wr.drewN q) := ⟨h.1, below_drewN h.2 q⟩

/-- a list that is returned, in new memory -/
def NewS (w : World) (P : List Int → Prop) (e : Ending) (w' : World) : Prop :=
  ∃ p n c z, e = .returned (.slice p n c) ∧ Rdi w' p z ∧ z.length = n ∧ n ≤ c ∧ c ≤ 9223372036854775807 ∧ (∀ q, p = some q → w.heap.size ≤ q.block) ∧ Below w.heap.size w w' ∧ P z
theorem own_cellsI {w : World} {base : Nat} {v : Value} {n : Nat} {xs : List Value} (h : w.ownsRow base 3 1 v n xs) : xs = [] ∧ v = .slice none 0 0 ∧ n = 0 ∨ ∃ g c, v = .slice (some ⟨g, 0, none⟩) n c ∧ n ≤ c ∧ c ≤ maxLen ∧ base ≤ g ∧ ∀ i u, xs[i]? = some u → w.cell? ⟨g, i, none⟩ = some u := by
  rcases h.2 with ⟨rfl, rfl⟩ | ⟨g, cap, cur, rfl, hg, hh, hc, hm, hs, ht⟩
  · left
    exact ⟨List.eq_nil_of_length_eq_zero (by rw [h.1]), rfl, rfl⟩
  · right
    refine ⟨g, cap, rfl, hc, hm, hg, fun i u hu => ?_⟩
    have := h.cells (g := g) rfl i u hu
    have ha : (⟨g, 0, none⟩ : Addr).add i = ⟨g, i, none⟩ := by unfold Addr.add; split <;> simp_all
    rwa [ha] at this
theorem GrowI.done {w wr : World} {v : Value} {l : List Int} {P : List Int → Prop} (h : GrowI w v l wr) (hP : P l) : NewS w P (.returned v) wr := by
  rcases own_cellsI h.1 with ⟨h1, rfl, h3⟩ | ⟨g, c, rfl, hc, hm, hg, hcell⟩
  · have : l = [] := List.eq_nil_of_length_eq_zero h3
    subst this
    exact ⟨none, 0, 0, [], rfl, .inl rfl, rfl, Nat.le_refl _, by omega, (fun q hq => by cases hq), h.2, hP⟩
  · refine ⟨_, _, c, l, rfl, .inr ⟨g, 0, rfl, fun i hi => ?_⟩, rfl, hc, by unfold maxLen at hm; omega, (fun q hq => by cases hq; exact hg), h.2, hP⟩
    rw [Nat.zero_add]
    apply hcell
    simp [zvs, iat, hi]

theorem val_take' (l : List Int) (k : Nat) : val (l.take (k + 1)) = val (l.take k) + pw k * iat l k := by
  rcases Nat.lt_or_ge k l.length with h | h
  · exact val_take l k h
  · rw [List.take_of_length_le (by omega), List.take_of_length_le h, iat_ge h]; simp

/-- a sum, from the lowest digit on -/
structure PlusI (l m : List Int) (k : Nat) (carry : Int) (z : List Int) : Prop where
  len : z.length = k
  dg : Dg z
  sum : val z + pw k * carry = val (l.take k) + val (m.take k)
  lo : 0 ≤ carry
  hi : carry ≤ 1
  top : k ≤ max l.length m.length + 1
  end_ : k = max l.length m.length + 1 → carry = 0
theorem PlusI.start (l m : List Int) : PlusI l m 0 0 [] := ⟨rfl, Dg_nil, by simp [val], by omega, by omega, by omega, fun _ => rfl⟩
theorem PlusI.next {l m z : List Int} {k : Nat} {c : Int} (h : PlusI l m k c z) (hl : Dg l) (hm : Dg m) (hk : k < l.length ∨ k < m.length ∨ 0 < c) : PlusI l m (k + 1) ((iat l k + iat m k + c) / 1000000000) (z ++ [(iat l k + iat m k + c) % 1000000000]) := by
  have h1 := hl.all k
  have h2 := hm.all k
  have h3 := h.lo
  have h4 := h.hi
  have hs := h.sum
  have hlen := h.len
  refine ⟨by rw [List.length_append, hlen]; rfl, Dg_append h.dg (Dg_cons (by omega) (by omega) Dg_nil), ?_, by omega, by omega, ?_, fun he => ?_⟩
  · rw [val_append, hlen, val_take', val_take']
    show val z + pw k * ((iat l k + iat m k + c) % 1000000000 + 1000000000 * 0) + 1000000000 * pw k * ((iat l k + iat m k + c) / 1000000000) = _
    have e := Int.mul_ediv_add_emod (iat l k + iat m k + c) 1000000000
    grind
  · rcases hk with h5 | h5 | h5
    · omega
    · omega
    · have := h.top
      rcases Nat.lt_or_ge k (max l.length m.length + 1) with h6 | h6
      · omega
      · have := h.end_ (by omega); omega
  · have e1 : iat l k = 0 := iat_ge (by omega)
    have e2 : iat m k = 0 := iat_ge (by omega)
    rw [e1, e2]; omega
theorem PlusI.done {l m z : List Int} {k : Nat} (h : PlusI l m k 0 z) (h1 : l.length ≤ k) (h2 : m.length ≤ k) : SumP l m z := by
  have hs := h.sum
  rw [List.take_of_length_le h1, List.take_of_length_le h2] at hs
  exact ⟨h.dg, by simpa using hs, by rw [h.len]; exact h.top⟩
def PlusL (w : World) (l m : List Int) (k : Nat) (c : Int) (v : Value) (wr : World) : Prop := ∃ z, PlusI l m k c z ∧ GrowI w v z wr

set_option maxRecDepth 100000 in
set_option maxHeartbeats 1600000 in
theorem plus_any (a1 a2 : Option Addr) (n1 c1 n2 c2 : Nat) (l m : List Int) (w : World) (hR1 : Rdi w a1 l) (hR2 : Rdi w a2 m) (hn1 : n1 = l.length) (hn2 : n2 = m.length) (hd1 : Dg l) (hd2 : Dg m) (hm1 : n1 ≤ 1099511627775) (hm2 : n2 ≤ 1099511627775) :
    Calls Tryd.prog 20 #[.slice a1 n1 c1, .slice a2 n2 c2] w (NewS w (SumP l m)) := by
  obtain ⟨i0, hi, hz0, hz1, hz2⟩ := info_parts info_i64
  have H1 := Lib.hid hR1
  have H2 := Lib.hid hR2
  have N1 := Lib.hid hn1
  have N2 := Lib.hid hn2
  have D1 := Lib.hid hd1
  have D2 := Lib.hid hd2
  have hI : Hid (PlusL w l m 0 0 (.slice none 0 0) w) := Lib.hid ⟨[], PlusI.start l m, GrowI.start w⟩
  clear hR1 hR2 hn1 hn2 hd1 hd2
  go_enter Tryd.func20, Tryd.ntmps20
  go_wp2_with fail
  go_loopw [5, 6, 7] (fun v cv iv wr => ∃ (k : Nat) (c : Int), k ≤ max n1 n2 + 1 ∧ iv = .int .i64 (k : Int) ∧ cv = .int .i64 c ∧ PlusL w l m k c v wr) (fun _ _ iv _ => max n1 n2 + 2 - (intOf iv).toNat)
  case atStart => exact ⟨0, 0, by omega, rfl, rfl, hI.out⟩
  case round =>
    obtain ⟨k, c, hk, rfl, rfl, z, hP, hG⟩ := hrel
    clear hI
    have hB := hG.2
    have g1 : Hid (Calls Tryd.prog 38 #[.slice a1 n1 c1, .int .i64 (k : Int)] wr fun e w' => e = .returned (.int .i64 (iat l k)) ∧ wr = w') := Lib.hid (digit_any _ _ _ _ _ wr (Rdi_below hB H1.out) N1.out)
    have g2 : Hid (Calls Tryd.prog 38 #[.slice a2 n2 c2, .int .i64 (k : Int)] wr fun e w' => e = .returned (.int .i64 (iat m k)) ∧ wr = w') := Lib.hid (digit_any _ _ _ _ _ wr (Rdi_below hB H2.out) N2.out)
    have hx := D1.out.all k
    have hy := D2.out.all k
    have hc0 := hP.lo
    have hc1 := hP.hi
    have hzl : Hid (z.length = k) := Lib.hid hP.len
    have hnx := Lib.hid (fun h => hP.next D1.out D2.out h)
    have hfin : Hid (n1 ≤ k → n2 ≤ k → c = 0 → SumP l m z) := Lib.hid fun h1 h2 h3 => by subst h3; exact hP.done (by rw [← N1.out]; exact h1) (by rw [← N2.out]; exact h2)
    obtain ⟨x, hxx⟩ : ∃ x, iat l k = x := ⟨_, rfl⟩
    obtain ⟨y, hyy⟩ : ∃ y, iat m k = y := ⟨_, rfl⟩
    rw [hxx] at g1 hx hnx
    rw [hyy] at g2 hy hnx
    have hG' := Lib.hid hG
    have hnext : Hid ((k < n1 ∨ k < n2 ∨ 0 < c) → k + 1 ≤ max n1 n2 + 1 ∧ ∀ v w', GrowI w v (z ++ [(x + y + c) % 1000000000]) w' → PlusL w l m (k + 1) ((x + y + c) / 1000000000) v w') := Lib.hid fun h => by
      have h' := hnx.out (by rw [← N1.out, ← N2.out]; exact h)
      exact ⟨by have := h'.top; rw [N1.out, N2.out]; exact this, fun v w' h2 => ⟨_, h', h2⟩⟩
    obtain ⟨hx1, hx2⟩ := hx
    obtain ⟨hy1, hy2⟩ := hy
    have hs0 : 0 ≤ x + y := by omega
    have hs1 : 0 ≤ x + y + c := by omega
    have hs2 : x + y + c < 2000000000 := by omega
    have hsz := hB.size
    have k0 : 0 ≤ (k : Int) := by omega
    clear hP hG hB hnx hxx hyy
    by_cases hgo : k < n1 ∨ k < n2 ∨ 0 < c
    · obtain ⟨hn1', hn2'⟩ := hnext.out hgo
      have hn2'' := Lib.hid hn2'
      have hn1'' := Lib.hid hn1'
      clear hn1' hn2' hnext hfin
      have hcond : k < n1 ∨ (¬ k < n1 ∧ k < n2) ∨ (¬ k < n1 ∧ ¬ k < n2 ∧ 0 < c) := by omega
      rcases hcond with h | ⟨h, h'⟩ | ⟨h, h', h''⟩
      · have t1 : (k : Int) < (n1 : Int) := by omega
        clear hgo h
        go_wp2_with (first | (go_at_call 38; ((with_reducible refine g1.out.mono ?_); rintro e w' ⟨rfl, rfl⟩)) | (go_at_call 38; ((with_reducible refine g2.out.mono ?_); rintro e w' ⟨rfl, rfl⟩)) | (at_builtin; refine wpList_append_own _ rfl _ _ 22 rfl w.heap.size 3 i0 (.int .i64 0) 1 8 Tryd.underlying22 hi hz0 hz1 hz2 rfl (by decide) _ _ _ rfl (hG'.out.1.alloc _) ⟨wr.heap.size, 0, none⟩ 1 1 [.int .i64 ((x + y + c) % 1000000000)] rfl rfl (cell_one_new _ _ _) (by intro u hu; simp at hu; subst hu; rfl) (by rw [hzl.out]; unfold maxLen; omega) (by rw [hzl.out]; omega) (by simp; omega) ?_; intro v2 w2 ho2 hg2 _; have hG2 := Lib.hid (hG'.out.push ho2 hg2); clear ho2 hg2))
        exact ⟨⟨k + 1, _, hn1''.out, by simp, rfl, hn2''.out _ _ hG2.out⟩, by have := hn1''.out; simp only [intOf]; omega⟩
      · have t1 : ¬ (k : Int) < (n1 : Int) := by omega
        have t2 : (k : Int) < (n2 : Int) := by omega
        clear hgo h h'
        go_wp2_with (first | (go_at_call 38; ((with_reducible refine g1.out.mono ?_); rintro e w' ⟨rfl, rfl⟩)) | (go_at_call 38; ((with_reducible refine g2.out.mono ?_); rintro e w' ⟨rfl, rfl⟩)) | (at_builtin; refine wpList_append_own _ rfl _ _ 22 rfl w.heap.size 3 i0 (.int .i64 0) 1 8 Tryd.underlying22 hi hz0 hz1 hz2 rfl (by decide) _ _ _ rfl (hG'.out.1.alloc _) ⟨wr.heap.size, 0, none⟩ 1 1 [.int .i64 ((x + y + c) % 1000000000)] rfl rfl (cell_one_new _ _ _) (by intro u hu; simp at hu; subst hu; rfl) (by rw [hzl.out]; unfold maxLen; omega) (by rw [hzl.out]; omega) (by simp; omega) ?_; intro v2 w2 ho2 hg2 _; have hG2 := Lib.hid (hG'.out.push ho2 hg2); clear ho2 hg2))
        exact ⟨⟨k + 1, _, hn1''.out, by simp, rfl, hn2''.out _ _ hG2.out⟩, by have := hn1''.out; simp only [intOf]; omega⟩
      · have t1 : ¬ (k : Int) < (n1 : Int) := by omega
        have t2 : ¬ (k : Int) < (n2 : Int) := by omega
        clear hgo h h'
        go_wp2_with (first | (go_at_call 38; ((with_reducible refine g1.out.mono ?_); rintro e w' ⟨rfl, rfl⟩)) | (go_at_call 38; ((with_reducible refine g2.out.mono ?_); rintro e w' ⟨rfl, rfl⟩)) | (at_builtin; refine wpList_append_own _ rfl _ _ 22 rfl w.heap.size 3 i0 (.int .i64 0) 1 8 Tryd.underlying22 hi hz0 hz1 hz2 rfl (by decide) _ _ _ rfl (hG'.out.1.alloc _) ⟨wr.heap.size, 0, none⟩ 1 1 [.int .i64 ((x + y + c) % 1000000000)] rfl rfl (cell_one_new _ _ _) (by intro u hu; simp at hu; subst hu; rfl) (by rw [hzl.out]; unfold maxLen; omega) (by rw [hzl.out]; omega) (by simp; omega) ?_; intro v2 w2 ho2 hg2 _; have hG2 := Lib.hid (hG'.out.push ho2 hg2); clear ho2 hg2))
        exact ⟨⟨k + 1, _, hn1''.out, by simp, rfl, hn2''.out _ _ hG2.out⟩, by have := hn1''.out; simp only [intOf]; omega⟩
    · have t1 : ¬ (k : Int) < (n1 : Int) := by omega
      have t2 : ¬ (k : Int) < (n2 : Int) := by omega
      obtain rfl : c = 0 := by omega
      have hf := Lib.hid (hG'.out.done (hfin.out (by omega) (by omega) rfl))
      clear hnext hfin hgo
      go_wp2_with fail
      go_ret
      exact hf.out
end Go.Proofs.YtmbkpcnpacncjaaDoor

namespace Go.Proofs.YtmbkpcnpacncjaaDoor
open Go.RowKit

theorem tmod_abs (v : Int) : (v.tmod 1000000000).natAbs = v.natAbs % 1000000000 := Int.natAbs_tmod v 1000000000
theorem tdiv_abs (v : Int) : (v.tdiv 1000000000).natAbs = v.natAbs / 1000000000 := Int.natAbs_tdiv v 1000000000
theorem own_sl {w : World} {base : Nat} {v : Value} {l : List Int} (h : w.ownsRow base 3 1 v l.length (zvs l)) : ∃ p n c, v = .slice p n c ∧ Rdi w p l ∧ l.length = n ∧ n ≤ c ∧ c ≤ 9223372036854775807 ∧ ∀ q, p = some q → base ≤ q.block := by
  rcases own_cellsI h with ⟨h1, rfl, h3⟩ | ⟨g, c, rfl, hc, hm, hg, hcell⟩
  · have : l = [] := List.eq_nil_of_length_eq_zero h3
    subst this
    exact ⟨none, 0, 0, rfl, .inl rfl, rfl, Nat.le_refl _, by omega, (fun q hq => by cases hq)⟩
  · refine ⟨_, _, c, rfl, .inr ⟨g, 0, rfl, fun i hi => ?_⟩, rfl, hc, by unfold maxLen at hm; omega, (fun q hq => by cases hq; exact hg)⟩
    rw [Nat.zero_add]
    apply hcell
    simp [zvs, iat, hi]
/-- the digits that are collected lie behind the result's box -/
def OfG (w : World) (m M : Nat) (v : Value) (wr : World) : Prop := ∃ z, z ++ digs M = digs m ∧ wr.ownsRow (w.heap.size + 1) 3 1 v z.length (zvs z) ∧ Ar0 w wr
theorem OfG.push {w wr w' : World} {m M : Nat} {v v' : Value} {o : Obj} {z : List Int} (hM : M ≠ 0) (hz : z ++ digs M = digs m) (ho0 : wr.ownsRow (w.heap.size + 1) 3 1 v z.length (zvs z)) (hA : Ar0 w wr)
    (ho : w'.ownsRow (w.heap.size + 1) 3 1 v' (z.length + 1) (zvs z ++ [.int .i64 ((M % 1000000000 : Nat) : Int)])) (hg : (wr.alloc o).grownBy w' v.ownBlock) : OfG w m (M / 1000000000) v' w' := by
  refine ⟨z ++ [((M % 1000000000 : Nat) : Int)], by rw [List.append_assoc, ← hz, digs_pos hM]; rfl, ?_, ?_⟩
  · rw [List.length_append]
    have : zvs (z ++ [((M % 1000000000 : Nat) : Int)]) = zvs z ++ [.int .i64 ((M % 1000000000 : Nat) : Int)] := by simp [zvs]
    rw [this]; exact ho
  · obtain ⟨⟨u, x, h3⟩, h6⟩ := hA
    have h3' : (wr.alloc o).heap[w.heap.size]? = some (.cells #[u, x] 24 (0, 0)) := by rw [Below.heap_alloc _ _ _ (lt_blk h3)]; exact h3
    have hlt := lt_blk h3'
    have hbk := hg.block w.heap.size (by omega) (fun e => by have := (ho0.lt _ e.symm).1; omega)
    exact ⟨⟨u, x, hbk.trans h3'⟩, (h6.alloc h6.size _).grown hg (Nat.le_trans h6.size (by simp)) fun k hk => by have := (ho0.lt k hk).1; omega⟩

set_option maxRecDepth 100000 in
set_option maxHeartbeats 1600000 in
theorem rOf_any (n : Int) (h1 : -9223372036854775808 ≤ n) (h2 : n ≤ 9223372036854775807) (w : World) :
    Calls Tryd.prog 7 #[.int .i64 n] w (RetI w n) := by
  obtain ⟨i0, hi, hz0, hz1, hz2⟩ := info_parts info_i64
  have hS0 : Hid (OfG w n.natAbs n.natAbs (.slice none 0 0) (w.alloc (.cells #[.bool false, .slice none 0 0] 24))) := Lib.hid ⟨[], rfl, World.ownsRow_nil _ _ _ _, Ar0.start w⟩
  have hlen : Hid ((digs n.natAbs).length ≤ 3) := Lib.hid (digs_len_le (by
    have : pw 3 = 1000000000000000000000000000 := by decide
    omega))
  have hsg : Hid (sg (decide (n < 0)) (val (digs n.natAbs)) = n) := Lib.hid (by
    rw [val_digs]
    by_cases h : n < 0
    · rw [decide_eq_true h]; show -(n.natAbs : Int) = n; omega
    · rw [decide_eq_false h]; show (n.natAbs : Int) = n; omega)
  obtain ⟨nb0, hnb⟩ : ∃ b, decide (n < 0) = b := ⟨_, rfl⟩
  rw [hnb] at hsg
  generalize hm : n.natAbs = m at hS0 hlen hsg
  have hm' := Lib.hid hm
  clear hm
  go_enter Tryd.func7, Tryd.ntmps7
  go_wp2_with fail
  generalize w.alloc (.cells #[.bool false, .slice none 0 0] 24) = w1 at hS0 ⊢
  go_loopw [0, 3] (fun nv u3 wr => ∃ (v : Int) (M : Nat), nv = .int .i64 v ∧ -9223372036854775808 ≤ v ∧ v ≤ 9223372036854775807 ∧ Hid (v.natAbs = M) ∧ OfG w m M u3 wr) (fun nv _ _ => (intOf nv).natAbs)
  case atStart => exact ⟨n, m, rfl, h1, h2, hm', hS0.out⟩
  case round =>
    obtain ⟨v, M, rfl, hv1, hv2, hvM, z, hzd, hown0, hA⟩ := hrel
    clear hS0
    have hown := Lib.hid hown0
    have hsz : Hid (w.heap.size < wr.heap.size) := Lib.hid hA.top
    have hzl : Hid (z.length ≤ 3) := Lib.hid (by have := congrArg List.length hzd; rw [List.length_append] at this; have := hlen.out; omega)
    clear hown0
    by_cases h0 : v = 0
    · subst h0
      obtain rfl : M = 0 := by have := hvM.out; omega
      rw [digs_zero, List.append_nil] at hzd
      subst hzd
      obtain ⟨p, k, c, rfl, hR, hk, hkc, hcm, hp⟩ := own_sl hown.out
      have hno : Hid (Calls Tryd.prog 19 #[.bool nb0, .slice p k c] wr (RetF (fun q => p = some q) wr (sg nb0 (val (digs m))))) := Lib.hid (normal_any _ _ _ _ _ wr hR hk.symm hkc hcm (Dg_digs _))
      have hp' := Lib.hid hp
      clear hR hk hp hown hzl hlen hvM
      go_wp2_with fail
      refine hno.out.mono ?_
      rintro e w2 ⟨nb, p2, n2, c2, rfl, hI0, hb2, hp0⟩
      have hS3 := hA.later hb2
      have hf3 := hS3.facts
      have hfin : Hid (RetI w n (.returned (.agg #[.bool nb, .slice p2 n2 c2])) ((w2.setCell ⟨w.heap.size, 0, none⟩ (.bool nb)).setCell ⟨w.heap.size, 1, none⟩ (.slice p2 n2 c2))) := Lib.hid (hS3.ret hI0 (fun q hq => by
        have := hp'.out q (hp0 q hq)
        exact ⟨by omega, by omega⟩) hsg.out)
      clear hI0 hb2 hp0
      go_wp2_with fail
      exact bodyPost_ret (v := .agg #[.bool nb, .slice p2 n2 c2]) (results_cell_row rfl _ _ w.heap.size 24 _ (0, 0) _ rfl (hS3.res _ _) Tryd.underlying24 rfl size_Int) rfl hfin.out
    · have hvb : (v != 0) = true := by simpa using h0
      have hM : M ≠ 0 := by have := hvM.out; omega
      have hT := tmod_abs v
      have hT2 := tdiv_abs v
      rw [hvM.out] at hT hT2
      have hQ := Lib.hid hT2
      have hlt := Lib.hid (show M / 1000000000 < M from Nat.div_lt_self (by omega) (by omega))
      have hm9 : M % 1000000000 < 1000000000 := Nat.mod_lt _ (by omega)
      have hr1 : -1000000000 < v.tmod 1000000000 := by omega
      have hr2 : v.tmod 1000000000 < 1000000000 := by omega
      have hq1 : -9223372036854775808 ≤ v.tdiv 1000000000 := by have := hvM.out; have := hlt.out; omega
      have hq2 : v.tdiv 1000000000 ≤ 9223372036854775807 := by have := hvM.out; have := hlt.out; omega
      clear h0 hm9
      by_cases hneg : v.tmod 1000000000 < 0
      · have t1 : v.tmod 1000000000 < 0 := by assumption
        have hpush : Hid (∀ v' w', w'.ownsRow (w.heap.size + 1) 3 1 v' (z.length + 1) (zvs z ++ [.int .i64 (-v.tmod 1000000000)]) → (wr.alloc (.cells #[.int .i64 (-v.tmod 1000000000)] 3)).grownBy w' u3.ownBlock → OfG w m (M / 1000000000) v' w') := Lib.hid fun v' w' h3 h4 => OfG.push hM hzd hown.out hA (by rw [show ((M % 1000000000 : Nat) : Int) = -v.tmod 1000000000 by omega]; exact h3) h4
        clear hM hzd hA hT hT2
        go_wp2_with (at_builtin; refine wpList_append_own _ rfl _ _ 22 rfl (w.heap.size + 1) 3 i0 (.int .i64 0) 1 8 Tryd.underlying22 hi hz0 hz1 hz2 rfl (by decide) _ _ _ rfl (hown.out.alloc _) ⟨wr.heap.size, 0, none⟩ 1 1 [.int .i64 (-v.tmod 1000000000)] rfl rfl (cell_one_new _ _ _) (by intro u hu; simp at hu; subst hu; rfl) (by have := hzl.out; unfold maxLen; omega) (by have := hzl.out; omega) (by have := hsz.out; simp; omega) ?_; intro v2 w2 ho2 hg2 _; have hG2 := Lib.hid (hpush.out _ _ ho2 hg2); clear ho2 hg2)
        exact ⟨⟨v.tdiv 1000000000, M / 1000000000, rfl, hq1, hq2, hQ, hG2.out⟩, by have := hQ.out; have := hvM.out; have := hlt.out; simp only [intOf]; omega⟩
      · have t1 : ¬ v.tmod 1000000000 < 0 := by assumption
        have hpush : Hid (∀ v' w', w'.ownsRow (w.heap.size + 1) 3 1 v' (z.length + 1) (zvs z ++ [.int .i64 (v.tmod 1000000000)]) → (wr.alloc (.cells #[.int .i64 (v.tmod 1000000000)] 3)).grownBy w' u3.ownBlock → OfG w m (M / 1000000000) v' w') := Lib.hid fun v' w' h3 h4 => OfG.push hM hzd hown.out hA (by rw [show ((M % 1000000000 : Nat) : Int) = v.tmod 1000000000 by omega]; exact h3) h4
        clear hM hzd hA hT hT2
        go_wp2_with (at_builtin; refine wpList_append_own _ rfl _ _ 22 rfl (w.heap.size + 1) 3 i0 (.int .i64 0) 1 8 Tryd.underlying22 hi hz0 hz1 hz2 rfl (by decide) _ _ _ rfl (hown.out.alloc _) ⟨wr.heap.size, 0, none⟩ 1 1 [.int .i64 (v.tmod 1000000000)] rfl rfl (cell_one_new _ _ _) (by intro u hu; simp at hu; subst hu; rfl) (by have := hzl.out; unfold maxLen; omega) (by have := hzl.out; omega) (by have := hsz.out; simp; omega) ?_; intro v2 w2 ho2 hg2 _; have hG2 := Lib.hid (hpush.out _ _ ho2 hg2); clear ho2 hg2)
        exact ⟨⟨v.tdiv 1000000000, M / 1000000000, rfl, hq1, hq2, hQ, hG2.out⟩, by have := hQ.out; have := hvM.out; have := hlt.out; simp only [intOf]; omega⟩
end Go.Proofs.YtmbkpcnpacncjaaDoor

namespace Go.Proofs.YtmbkpcnpacncjaaDoor
open Go.RowKit

theorem results_cell2 {P : Program} {fn : Func} {p q : Tmp} {ty : TypeId} (h : fn.results = #[.cell p ty, .cell q ty]) (tmps : Array Value) (w : World) (g k : Nat) (t : TypeId) (cs ds : Array Value) (fr fr' : Nat × Nat) (d : TypeDesc)
    (hp : tmps.getD p undef = .pointer (some ⟨g, 0, none⟩)) (hq : tmps.getD q undef = .pointer (some ⟨k, 0, none⟩)) (hg : w.heap[g]? = some (.cells cs t fr)) (hk : w.heap[k]? = some (.cells ds t fr'))
    (hu : P.underlying ty = some d) (hd : (match d with | .struct _ | .array _ _ => true | _ => false) = true) (hi : (P.info? ty).map (·.size) = some cs.size) (hi' : (P.info? ty).map (·.size) = some ds.size) :
    (results fn tmps).run P w = .ok (.tuple #[.agg cs, .agg ds]) w := by
  have hp' : tmps[p]?.getD undef = .pointer (some ⟨g, 0, none⟩) := by simpa using hp
  have hq' : tmps[q]?.getD undef = .pointer (some ⟨k, 0, none⟩) := by simpa using hq
  simp [results, h, hp', hq', asAddr, run_loadVar_row w g t ty cs fr d hg hu hd hi, run_loadVar_row w k t ty ds fr' d hk hu hd hi', Sem.run_bind, Result.andThen]

/-- the quotient and the rest -/
def dq (x y : Int) : Int := if y = 0 then 0 else x / y
def dr (x y : Int) : Int := if y = 0 then 0 else x % y
theorem div_math {x y : Int} {q r : Int} (hy : y ≠ 0) (h : (x.natAbs : Int) = (y.natAbs : Int) * q + r) (h0 : 0 ≤ r) (h1 : r < (y.natAbs : Int)) :
    (x < 0 → 0 < r → dq x y = sg (decide (x < 0) != decide (y < 0)) (q + 1) ∧ dr x y = (y.natAbs : Int) - r) ∧ (¬ (x < 0 ∧ 0 < r) → dq x y = sg (decide (x < 0) != decide (y < 0)) q ∧ dr x y = r) := by
  unfold dq dr
  rw [if_neg hy, if_neg hy]
  rcases Int.lt_or_le y 0 with hy1 | hy1
  · have ey : (y.natAbs : Int) = -y := by omega
    rw [ey] at h h1 ⊢
    rw [decide_eq_true hy1]
    refine ⟨fun hx hr => (Int.ediv_emod_unique' hy1).2 ?_, fun hn => (Int.ediv_emod_unique' hy1).2 ?_⟩
    · rw [decide_eq_true hx]
      have ex : (x.natAbs : Int) = -x := by omega
      rw [ex] at h
      refine ⟨?_, by omega, by omega⟩
      show -y - r + y * (q + 1) = x
      grind
    · refine ⟨?_, h0, h1⟩
      rcases Int.lt_or_le x 0 with hx | hx
      · rw [decide_eq_true hx]
        have ex : (x.natAbs : Int) = -x := by omega
        have hr0 : r = 0 := by omega
        rw [ex, hr0] at h
        rw [hr0]
        show 0 + y * q = x
        grind
      · rw [decide_eq_false (show ¬ x < 0 by omega)]
        have ex : (x.natAbs : Int) = x := by omega
        rw [ex] at h
        show r + y * -q = x
        grind
  · have ey : (y.natAbs : Int) = y := by omega
    rw [ey] at h h1 ⊢
    rw [decide_eq_false (show ¬ y < 0 by omega)]
    refine ⟨fun hx hr => (Int.ediv_emod_unique (by omega)).2 ?_, fun hn => (Int.ediv_emod_unique (by omega)).2 ?_⟩
    · rw [decide_eq_true hx]
      have ex : (x.natAbs : Int) = -x := by omega
      rw [ex] at h
      refine ⟨?_, by omega, by omega⟩
      show y - r + y * -(q + 1) = x
      grind
    · refine ⟨?_, h0, h1⟩
      rcases Int.lt_or_le x 0 with hx | hx
      · rw [decide_eq_true hx]
        have ex : (x.natAbs : Int) = -x := by omega
        have hr0 : r = 0 := by omega
        rw [ex, hr0] at h
        rw [hr0]
        show 0 + y * -q = x
        grind
      · rw [decide_eq_false (show ¬ x < 0 by omega)]
        have ex : (x.natAbs : Int) = x := by omega
        rw [ex] at h
        show r + y * q = x
        grind

/-- two integers that are returned, in new memory -/
def RetD (w : World) (z1 z2 : Int) (e : Ending) (w' : World) : Prop :=
  ∃ nb p n c nb2 p2 n2 c2, e = .returned (.tuple #[.agg #[.bool nb, .slice p n c], .agg #[.bool nb2, .slice p2 n2 c2]]) ∧ IntAt w' nb p n c z1 ∧ IntAt w' nb2 p2 n2 c2 z2 ∧ Below w.heap.size w w' ∧ (∀ q, p = some q → w.heap.size ≤ q.block) ∧ ∀ q, p2 = some q → w.heap.size ≤ q.block

/-- two integers in boxes, and two more boxes -/
def Ar4 (w : World) (nx : Bool) (px : Option Addr) (lx cx : Nat) (ny : Bool) (py : Option Addr) (ly cy : Nat) (W : World) : Prop :=
  W.heap[w.heap.size]? = some (.cells #[.bool nx, .slice px lx cx] 24 (0, 0)) ∧ W.heap[w.heap.size + 1]? = some (.cells #[.bool ny, .slice py ly cy] 24 (0, 0)) ∧
  (∃ u v, W.heap[w.heap.size + 1 + 1]? = some (.cells #[u, v] 24 (0, 0))) ∧ (∃ u v, W.heap[w.heap.size + 1 + 1 + 1]? = some (.cells #[u, v] 24 (0, 0))) ∧ Below w.heap.size w W
section
variable {w W w' : World} {nx : Bool} {px : Option Addr} {lx cx : Nat} {ny : Bool} {py : Option Addr} {ly cy : Nat}
theorem Ar4.in_ (h : Ar4 w nx px lx cx ny py ly cy W) : W.cell? ⟨w.heap.size, 0, none⟩ = some (.bool nx) ∧ W.cell? ⟨w.heap.size, 1, none⟩ = some (.slice px lx cx) ∧ W.cell? ⟨w.heap.size + 1, 0, none⟩ = some (.bool ny) ∧ W.cell? ⟨w.heap.size + 1, 1, none⟩ = some (.slice py ly cy) := by
  obtain ⟨h1, h2, _⟩ := h
  refine ⟨by simp [World.cell?, h1], by simp [World.cell?, h1], by simp [World.cell?, h2], by simp [World.cell?, h2]⟩
theorem Ar4.out (h : Ar4 w nx px lx cx ny py ly cy W) : 
    W.cell? ⟨w.heap.size + 1 + 1, 0, none⟩ = some (oldv W (w.heap.size + 1 + 1) 0) ∧ W.cell? ⟨w.heap.size + 1 + 1, 1, none⟩ = some (oldv W (w.heap.size + 1 + 1) 1) ∧ W.frozen? ⟨w.heap.size + 1 + 1, 0, none⟩ = false ∧ W.frozen? ⟨w.heap.size + 1 + 1, 1, none⟩ = false ∧
    W.cell? ⟨w.heap.size + 1 + 1 + 1, 0, none⟩ = some (oldv W (w.heap.size + 1 + 1 + 1) 0) ∧ W.cell? ⟨w.heap.size + 1 + 1 + 1, 1, none⟩ = some (oldv W (w.heap.size + 1 + 1 + 1) 1) ∧ W.frozen? ⟨w.heap.size + 1 + 1 + 1, 0, none⟩ = false ∧ W.frozen? ⟨w.heap.size + 1 + 1 + 1, 1, none⟩ = false := by
  obtain ⟨_, _, ⟨u, v, h3⟩, ⟨u', v', h4⟩, _⟩ := h
  refine ⟨by simp [oldv, World.cell?, h3], by simp [oldv, World.cell?, h3], by simp [World.frozen?, h3], by simp [World.frozen?, h3], by simp [oldv, World.cell?, h4], by simp [oldv, World.cell?, h4], by simp [World.frozen?, h4], by simp [World.frozen?, h4]⟩
theorem Ar4.later (h : Ar4 w nx px lx cx ny py ly cy W) (hb : Below W.heap.size W w') : Ar4 w nx px lx cx ny py ly cy w' := by
  obtain ⟨h1, h2, ⟨u, v, h3⟩, ⟨u', v', h4⟩, h6⟩ := h
  exact ⟨(hb.block _ (lt_blk h1)).trans h1, (hb.block _ (lt_blk h2)).trans h2, ⟨u, v, (hb.block _ (lt_blk h3)).trans h3⟩, ⟨u', v', (hb.block _ (lt_blk h4)).trans h4⟩, below_tr h6 hb⟩
theorem Ar4.start (w : World) : Ar4 w nx px lx cx ny py ly cy ((((w.alloc (.cells #[.bool nx, .slice px lx cx] 24)).alloc (.cells #[.bool ny, .slice py ly cy] 24)).alloc (.cells #[.bool false, .slice none 0 0] 24)).alloc (.cells #[.bool false, .slice none 0 0] 24)) := by
  obtain ⟨h1, h2, ⟨u, v, h3⟩, h4⟩ := @Ar2.start nx px lx cx ny py ly cy w
  refine ⟨?_, ?_, ⟨u, v, ?_⟩, ⟨.bool false, .slice none 0 0, ?_⟩, below_tr h4 (below_new _ _)⟩
  · rw [Below.heap_alloc _ _ _ (lt_blk h1)]; exact h1
  · rw [Below.heap_alloc _ _ _ (lt_blk h2)]; exact h2
  · rw [Below.heap_alloc _ _ _ (lt_blk h3)]; exact h3
  · have := heap_alloc_new (((w.alloc (.cells #[.bool nx, .slice px lx cx] 24)).alloc (.cells #[.bool ny, .slice py ly cy] 24)).alloc (.cells #[.bool false, .slice none 0 0] 24)) (.cells #[.bool false, .slice none 0 0] 24)
    simpa using this
theorem Ar4.top (h : Ar4 w nx px lx cx ny py ly cy W) : w.heap.size + 1 + 1 + 1 < W.heap.size := by
  obtain ⟨u, v, h3⟩ := h.2.2.2.1
  exact lt_blk h3
theorem Ar4.res (h : Ar4 w nx px lx cx ny py ly cy W) (p q p2 q2 : Value) :
    ((((W.setCell ⟨w.heap.size + 1 + 1, 0, none⟩ p).setCell ⟨w.heap.size + 1 + 1, 1, none⟩ q).setCell ⟨w.heap.size + 1 + 1 + 1, 0, none⟩ p2).setCell ⟨w.heap.size + 1 + 1 + 1, 1, none⟩ q2).heap[w.heap.size + 1 + 1]? = some (.cells #[p, q] 24 (0, 0)) ∧
    ((((W.setCell ⟨w.heap.size + 1 + 1, 0, none⟩ p).setCell ⟨w.heap.size + 1 + 1, 1, none⟩ q).setCell ⟨w.heap.size + 1 + 1 + 1, 0, none⟩ p2).setCell ⟨w.heap.size + 1 + 1 + 1, 1, none⟩ q2).heap[w.heap.size + 1 + 1 + 1]? = some (.cells #[p2, q2] 24 (0, 0)) := by
  obtain ⟨h1, h2, ⟨u, v, h3⟩, ⟨u', v', h4⟩, h6⟩ := h
  constructor
  · rw [heap_setCell_other _ _ _ _ (by simp), heap_setCell_other _ _ _ _ (by simp)]
    rw [heap_setCell_self _ _ _ _ _ _ (heap_setCell_self _ _ _ _ _ _ h3)]; rfl
  · have h5 : ((W.setCell ⟨w.heap.size + 1 + 1, 0, none⟩ p).setCell ⟨w.heap.size + 1 + 1, 1, none⟩ q).heap[w.heap.size + 1 + 1 + 1]? = some (.cells #[u', v'] 24 (0, 0)) := by
      rw [heap_setCell_other _ _ _ _ (by simp), heap_setCell_other _ _ _ _ (by simp)]; exact h4
    rw [heap_setCell_self _ _ _ _ _ _ (heap_setCell_self _ _ _ _ _ _ h5)]; rfl
theorem Ar4.ret {nb nb2 : Bool} {p p2 : Option Addr} {n c n2 c2 : Nat} {z1 z2 z1' z2' : Int} (h : Ar4 w nx px lx cx ny py ly cy W) (hI : IntAt W nb p n c z1) (hI2 : IntAt W nb2 p2 n2 c2 z2) (hp : ∀ q, p = some q → w.heap.size + 1 + 1 + 1 < q.block) (hp2 : ∀ q, p2 = some q → w.heap.size + 1 + 1 + 1 < q.block) (hz : z1 = z1') (hz2 : z2 = z2') :
    RetD w z1' z2' (.returned (.tuple #[.agg #[.bool nb, .slice p n c], .agg #[.bool nb2, .slice p2 n2 c2]]))
      ((((W.setCell ⟨w.heap.size + 1 + 1, 0, none⟩ (.bool nb)).setCell ⟨w.heap.size + 1 + 1, 1, none⟩ (.slice p n c)).setCell ⟨w.heap.size + 1 + 1 + 1, 0, none⟩ (.bool nb2)).setCell ⟨w.heap.size + 1 + 1 + 1, 1, none⟩ (.slice p2 n2 c2)) := by
  subst hz hz2
  have a1 : ∀ q, p = some q → q.block ≠ w.heap.size + 1 + 1 := fun q hq => by have := hp q hq; omega
  have a2 : ∀ q, p = some q → q.block ≠ w.heap.size + 1 + 1 + 1 := fun q hq => by have := hp q hq; omega
  have b1 : ∀ q, p2 = some q → q.block ≠ w.heap.size + 1 + 1 := fun q hq => by have := hp2 q hq; omega
  have b2 : ∀ q, p2 = some q → q.block ≠ w.heap.size + 1 + 1 + 1 := fun q hq => by have := hp2 q hq; omega
  exact ⟨_, _, _, _, _, _, _, _, rfl, (((hI.store a1).store a1).store a2).store a2, (((hI2.store b1).store b1).store b2).store b2, (((h.2.2.2.2.setCell (by simp; omega) _).setCell (by simp; omega) _).setCell (by simp; omega) _).setCell (by simp; omega) _, fun q hq => by have := hp q hq; omega, fun q hq => by have := hp2 q hq; omega⟩
end
end Go.Proofs.YtmbkpcnpacncjaaDoor
