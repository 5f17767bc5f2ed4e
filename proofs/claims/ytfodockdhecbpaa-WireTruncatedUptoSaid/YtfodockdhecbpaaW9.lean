/- wire.GetInts: the closure and the loop. -/
import Derived.Test.YtfodockdhecbpaaW7
import Derived.OneCell
import Derived.Deep.DeepMust
namespace Go.Proofs.Ytfodockdhecbpaa
open Go.RowKit

theorem info_int : (Try.prog.info? 3).map (fun i => (i.zero, i.size, i.bytes)) = some (some (.int .i64 0), 1, 8) := by kernel_rfl

/-- the memory of a list that is being decoded: blocks S (the bytes), S + 1 (the function), S + 2 (what is used), L (the list) -/
structure GInv (S L : Nat) (w wr : World) (bv fv : Value) (tf tl te : TypeId) (z : Nat) (u m : Nat) (xs : List Value) : Prop where
  below : Below S w wr
  size : L < wr.heap.size
  hL : S + 3 ≤ L
  b : wr.heap[S]? = some (.cells #[bv] 28 (0, 0))
  f : wr.heap[S + 1]? = some (.cells #[fv] tf (0, 0))
  u : wr.heap[S + 2]? = some (.cells #[.int .i64 u] 3 (0, 0))
  l : ∃ v, wr.heap[L]? = some (.cells #[v] tl (0, 0)) ∧ wr.ownsRow (S + 3) te z v m xs

theorem drewN_heap' (w : World) (n : Nat) : (w.drewN n).heap = w.heap := rfl

/-- the list's own block is not the list's variable -/
theorem GInv.ne {S L : Nat} {w wr : World} {bv fv : Value} {tf tl te : TypeId} {z u m : Nat} {xs : List Value} (_h : GInv S L w wr bv fv tf tl te z u m xs) (hne : te ≠ tl) {v : Value} (hv : wr.heap[L]? = some (.cells #[v] tl (0, 0))) (ho : wr.ownsRow (S + 3) te z v m xs) : v.ownBlock ≠ some L := by
  rcases ho.2 with ⟨rfl, _⟩ | ⟨g, cap, cur, rfl, hg, hh, r⟩
  · simp [Value.ownBlock]
  · intro e
    simp only [Value.ownBlock, Option.some.injEq] at e
    subst e
    rw [hv] at hh
    simp only [Option.some.injEq, Obj.cells.injEq] at hh
    exact hne hh.2.1.symm

theorem GInv.step {S L : Nat} {w wr w1 : World} {bv fv : Value} {tf tl te : TypeId} {z u m : Nat} {xs : List Value} (h : GInv S L w wr bv fv tf tl te z u m xs) (hne : te ≠ tl) {v v1 : Value} (hv : wr.heap[L]? = some (.cells #[v] tl (0, 0))) (ho : wr.ownsRow (S + 3) te z v m xs)
    (hg : wr.grownBy w1 v.ownBlock) {m1 : Nat} {xs1 : List Value} (ho1 : w1.ownsRow (S + 3) te z v1 m1 xs1) :
    (w1.heap[L]? = some (.cells #[v] tl (0, 0)) ∧ w1.heap[S + 2]? = some (.cells #[.int .i64 u] 3 (0, 0))) ∧
    (v1.ownBlock ≠ some L → ∀ u1 : Nat, GInv S L w ((w1.setCell ⟨L, 0, none⟩ v1).setCell ⟨S + 2, 0, none⟩ (.int .i64 u1)) bv fv tf tl te z u1 m1 xs1) := by
  have hlt := ho.lt
  have hk : ∀ k, k < S + 3 → w1.heap[k]? = wr.heap[k]? := fun k hk => hg.block k (by have := h.size; have := h.hL; omega) (fun e => by have := (hlt k e.symm).1; omega)
  have h4 : w1.heap[L]? = some (.cells #[v] tl (0, 0)) := (hg.block L h.size (Ne.symm (h.ne hne hv ho))).trans hv
  have h2 := (hk (S + 2) (by omega)).trans h.u
  have hL := h.hL
  refine ⟨⟨h4, h2⟩, fun hne1 u1 => ⟨?_, ?_, hL, ?_, ?_, ?_, v1, ?_, ?_⟩⟩
  · exact (((h.below.grown hg (by have := h.size; omega) (fun k e => by have := (hlt k e).1; omega)).setCell (by show S ≤ L; omega) _).setCell (by simp) _)
  · have := h.size; have := hg.size; simp [World.setCell]; omega
  · rw [Below.heap_setCell _ _ _ _ (by show _ ≠ _; simp only []; omega), Below.heap_setCell _ _ _ _ (by show _ ≠ _; simp only []; omega), hk S (by omega)]; exact h.b
  · rw [Below.heap_setCell _ _ _ _ (by show _ ≠ _; simp only []; omega), Below.heap_setCell _ _ _ _ (by show _ ≠ _; simp only []; omega), hk (S + 1) (by omega)]; exact h.f
  · exact one_setCell (by rw [Below.heap_setCell _ _ _ _ (by show _ ≠ _; simp only []; omega)]; exact h2)
  · rw [Below.heap_setCell _ _ _ _ (by show _ ≠ _; simp only []; omega)]; exact one_setCell h4
  · refine ownsRow_setCell_below (ownsRow_setCell_other ho1 hne1 _) (by simp) _

/-- the list's own block, behind an append: another one than the variable's -/
theorem own_ne {w1 : World} {base : Nat} {te tl : TypeId} {z m : Nat} {xs : List Value} {v v1 : Value} {B : Nat} (hne : te ≠ tl) (hv : w1.heap[B]? = some (.cells #[v] tl (0, 0))) (ho : w1.ownsRow base te z v1 m xs) : v1.ownBlock ≠ some B := by
  rcases ho.2 with ⟨rfl, _⟩ | ⟨g, cap, cur, rfl, hg, hh, r⟩
  · simp [Value.ownBlock]
  · intro e
    simp only [Value.ownBlock, Option.some.injEq] at e
    subst e
    rw [hv] at hh
    simp only [Option.some.injEq, Obj.cells.injEq] at hh
    exact hne hh.2.1.symm

theorem grown_alloc {w w1 : World} {o : Obj} {n : Nat} {row : Option Nat} (h : ((w.drewN n).alloc o).grownBy w1 row) : w.grownBy w1 row := by
  refine ⟨h.os, h.tape, h.output, ?_, fun k hk hne => ?_⟩
  · have := h.size; simp [drewN_heap'] at this; omega
  · have hk' : k < (w.drewN n).heap.size := hk
    have := h.block k (by simp [drewN_heap']; omega) hne
    rw [this]
    exact Below.heap_alloc (w.drewN n) o k hk'

theorem own_slice {w : World} {base : Nat} {e : TypeId} {size : Nat} {v : Value} {n : Nat} {xs : List Value} (h : w.ownsRow base e size v n xs) : ∃ p n c, v = .slice p n c := by
  rcases h.2 with ⟨rfl, _⟩ | ⟨g, cap, cur, rfl, _⟩
  · exact ⟨_, _, _, rfl⟩
  · exact ⟨_, _, _, rfl⟩

theorem ownsRow_base {w : World} {base base' : Nat} {e : TypeId} {size : Nat} {v : Value} {n : Nat} {xs : List Value} (h : w.ownsRow base e size v n xs) (hb : base' ≤ base) : w.ownsRow base' e size v n xs := by
  refine ⟨h.1, ?_⟩
  rcases h.2 with h | ⟨g, cap, cur, hv, hg, r⟩
  · exact .inl h
  · exact .inr ⟨g, cap, cur, hv, by omega, r⟩

theorem ownsRow_drewN {w : World} {base : Nat} {e : TypeId} {size : Nat} {v : Value} {n : Nat} {xs : List Value} (h : w.ownsRow base e size v n xs) (k : Nat) : (w.drewN k).ownsRow base e size v n xs := h

theorem drewN_heap (w : World) (n : Nat) : (w.drewN n).heap = w.heap := rfl
theorem Rd_drewN {w : World} {a : Option Addr} {l : List UInt8} (h : Rd w a l) (n : Nat) : Rd (w.drewN n) a l := h

theorem quiet_left' {P : Program} {f : FuncId} {args : Array Value} {w : World} {n : Nat} {v : Value}
    (h : Calls P f args (w.drewN n) fun e w' => e = .returned v ∧ w.drewN n = w') : Calls P f args (w.drewN n) fun e w'' => e = .returned v ∧ ∃ m, w'' = w.drewN m :=
  h.mono fun _ _ ⟨he, hm⟩ => ⟨he, n, hm.symm⟩

set_option maxRecDepth 100000 in
set_option maxHeartbeats 400000 in
theorem cloInt_ok (S L : Nat) (w wr : World) (b off n c u m k : Nat) (l : List UInt8) (x : Int) (xs : List Value) (tf : TypeId)
    (hI : GInv S L w wr (.slice (some ⟨b, off, none⟩) n c) (.func (.func 24) #[] #[]) tf 22 3 1 u m xs)
    (hR : Rd wr (some ⟨b, off + u, none⟩) (l.drop u)) (hn : Hid (n = l.length)) (hnc : n ≤ c) (hmax : c ≤ 9223372036854775807 ∧ n ≤ 4611686018427387904) (hu : u < n) (hm : m ≤ 4398046511104) (hk : k ≤ n) (hg : Hid (gi (l.drop u) = (x, k, 0))) :
    Calls Try.prog 52 #[.pointer (some ⟨S + 1, 0, none⟩), .pointer (some ⟨S, 0, none⟩), .pointer (some ⟨S + 2, 0, none⟩), .pointer (some ⟨L, 0, none⟩)] wr fun e w' => e = .returned (.int .i64 0) ∧
      GInv S L w w' (.slice (some ⟨b, off, none⟩) n c) (.func (.func 24) #[] #[]) tf 22 3 1 (u + k) (m + 1) (xs ++ [.int .i64 x]) := by
  have cb := cell_of_one hI.b
  have cf := cell_of_one hI.f
  have cu := cell_of_one hI.u
  have fu := free_of_one hI.u
  obtain ⟨v, hv, hown⟩ := hI.l
  have cl := cell_of_one hv
  have fl := free_of_one hv
  have hcu : ¬ c = u := by omega
  have hI' := Lib.hid hI
  have hown' := Lib.hid hown
  obtain ⟨i0, hi, hz0, hz1, hz2⟩ := info_parts info_int
  have hR' := Lib.hid hR
  have hv' := Lib.hid hv
  clear hI hown hR hv
  have h1 : 0 ≤ (u : Int) := by omega
  have h3 : (u : Int) + (k : Int) ≤ 9223372036854775807 := by omega
  have h4 := hI'.out.size
  have h5 := hI'.out.hL
  have h6 : ¬ L = S + 2 := by omega
  have h7 : ¬ S + 2 = L := by omega
  have h2 : (u : Int) ≤ (n : Int) := by omega
  go_enter Try.func52, Try.ntmps52
  go_wp2
  go_quiet ((go_at_call 24; exact quiet_left' (GetInt_any _ _ _ (l.drop u) _ (Rd_drewN hR'.out _) (by rw [List.length_drop, ← hn.out]) (by omega) (by omega) x k 0 hg.out)))
  go_wp2_with (at_builtin; refine wpList_append_own _ rfl _ _ 22 rfl (S + 3) 3 i0 (.int .i64 0) 1 8 Try.underlying22 hi hz0 hz1 hz2 rfl (by decide) _ _ _ rfl ((ownsRow_drewN hown'.out nq).alloc _) ⟨wr.heap.size, 0, none⟩ 1 1 [.int .i64 x] rfl rfl (cell_one_new _ _ _) (by intro u hu; simp at hu; subst hu; rfl) (by unfold maxLen; omega) (by omega) (by simp [drewN_heap']; omega) ?_; intro v1 w1 hown1 hgrow1 _; obtain ⟨pA, pB, pC, rfl⟩ := own_slice hown1; obtain ⟨⟨hv1, hu1⟩, hst⟩ := hI'.out.step (by decide) hv'.out hown'.out (grown_alloc hgrow1) hown1; have hfin := Lib.hid (hst (own_ne (by decide) hv1 hown1) (u + k)); have cl1 := cell_of_one hv1; have fl1 := free_of_one hv1; have cu1 := cell_of_one hu1; have fu1 := free_of_one hu1; clear hv1 hu1 hst hown1 hgrow1)
  go_ret
  exact ⟨rfl, by simpa using hfin.out⟩

set_option maxRecDepth 100000 in
set_option maxHeartbeats 400000 in
theorem cloInt_err (S L : Nat) (w wr : World) (b off n c u m k : Nat) (l : List UInt8) (x er : Int) (xs : List Value) (tf : TypeId)
    (hI : GInv S L w wr (.slice (some ⟨b, off, none⟩) n c) (.func (.func 24) #[] #[]) tf 22 3 1 u m xs)
    (hR : Rd wr (some ⟨b, off + u, none⟩) (l.drop u)) (hn : Hid (n = l.length)) (hnc : n ≤ c) (hmax : c ≤ 9223372036854775807 ∧ n ≤ 4611686018427387904) (hu : u ≤ n) (hcu : ¬ c = u) (he : (er == 0) = false) (hg : Hid (gi (l.drop u) = (x, k, er))) :
    Calls Try.prog 52 #[.pointer (some ⟨S + 1, 0, none⟩), .pointer (some ⟨S, 0, none⟩), .pointer (some ⟨S + 2, 0, none⟩), .pointer (some ⟨L, 0, none⟩)] wr fun e w' => e = .returned (.int .i64 er) ∧ Below S w w' := by
  have cb := cell_of_one hI.b
  have cf := cell_of_one hI.f
  have cu := cell_of_one hI.u
  have hI' := Lib.hid hI
  have hR' := Lib.hid hR
  clear hI hR
  have h1 : 0 ≤ (u : Int) := by omega
  have h2 : (u : Int) ≤ (n : Int) := by omega
  go_enter Try.func52, Try.ntmps52
  go_wp2
  go_quiet ((go_at_call 24; exact quiet_left' (GetInt_any _ _ _ (l.drop u) _ (Rd_drewN hR'.out _) (by rw [List.length_drop, ← hn.out]) (by omega) (by omega) x k er hg.out)))
  go_wp2
  go_ret
  exact ⟨rfl, below_drewN hI'.out.below _⟩

set_option maxRecDepth 100000 in
set_option maxHeartbeats 400000 in
theorem cloInt_err0 (S L : Nat) (w wr : World) (b off n c u m k : Nat) (l : List UInt8) (x er : Int) (xs : List Value) (tf : TypeId)
    (hI : GInv S L w wr (.slice (some ⟨b, off, none⟩) n c) (.func (.func 24) #[] #[]) tf 22 3 1 u m xs)
    (hR : Rd wr (some ⟨b, off, none⟩) (l.drop u)) (hn : Hid (n = l.length)) (hnc : n ≤ c) (hmax : c ≤ 9223372036854775807 ∧ n ≤ 4611686018427387904) (hu : u ≤ n) (hcu : c = u) (he : (er == 0) = false) (hg : Hid (gi (l.drop u) = (x, k, er))) :
    Calls Try.prog 52 #[.pointer (some ⟨S + 1, 0, none⟩), .pointer (some ⟨S, 0, none⟩), .pointer (some ⟨S + 2, 0, none⟩), .pointer (some ⟨L, 0, none⟩)] wr fun e w' => e = .returned (.int .i64 er) ∧ Below S w w' := by
  have cb := cell_of_one hI.b
  have cf := cell_of_one hI.f
  have cu := cell_of_one hI.u
  have hI' := Lib.hid hI
  have hR' := Lib.hid hR
  clear hI hR
  have h1 : 0 ≤ (u : Int) := by omega
  have h2 : (u : Int) ≤ (n : Int) := by omega
  go_enter Try.func52, Try.ntmps52
  go_wp2
  go_quiet ((go_at_call 24; exact quiet_left' (GetInt_any _ _ _ (l.drop u) _ (Rd_drewN hR'.out _) (by rw [List.length_drop, ← hn.out]) (by omega) (by omega) x k er hg.out)))
  go_wp2
  go_ret
  exact ⟨rfl, below_drewN hI'.out.below _⟩

theorem Rd_below {w wr : World} {a : Option Addr} {l : List UInt8} (h : Below w.heap.size w wr) (hR : Rd w a l) : Rd wr a l := by
  rcases hR with rfl | ⟨b, off, rfl, hc⟩
  · exact .inl rfl
  · exact .inr ⟨b, off, rfl, fun i hi => Below.cell_of' h (hc i hi)⟩

/-- decoding k elements from place u on -/
def dlo {α : Type} (g : List UInt8 → α × Nat × Int) (l : List UInt8) : Nat → Nat → List α → List α × Nat × Int
  | 0, u, acc => (acc, u, 0)
  | k + 1, u, acc => if (g (l.drop u)).2.2 ≠ 0 then ([], 0, (g (l.drop u)).2.2) else dlo g l k (u + (g (l.drop u)).2.1) (acc ++ [(g (l.drop u)).1])

/-- decoding a list -/
def dls {α : Type} (z : Nat) (g : List UInt8 → α × Nat × Int) (l : List UInt8) : List α × Nat × Int :=
  if (gl z l).2.2 ≠ 0 then ([], 0, (gl z l).2.2) else dlo g l (gl z l).1.toNat (gl z l).2.1 []

/-- a decoded list in new memory, what was used, the error -/
def DecPost (S : Nat) (w : World) (te : TypeId) (z : Nat) (xs : List Value) (m : Nat) (u : Nat) (er : Int) (e : Ending) (w' : World) : Prop :=
  ∃ v, e = .returned (.tuple #[v, .int .i64 u, .int .i64 er]) ∧ w'.ownsRow S te z v m xs ∧ Below S w w'

theorem decPost_err {S : Nat} {w w' : World} {te : TypeId} {z : Nat} {er : Int} (h : Below S w w') : DecPost S w te z [] 0 0 er (.returned (.tuple #[.slice none 0 0, .int .i64 0, .int .i64 er])) w' :=
  ⟨_, rfl, World.ownsRow_nil _ _ _ _, h⟩

theorem cells_below {w wr : World} {b off : Nat} {l : List UInt8} (h : Below w.heap.size w wr) (hc : ∀ i, i < l.length → w.cell? ⟨b, off + i, none⟩ = some (.int .u8 (byt l i))) : ∀ i, i < l.length → wr.cell? ⟨b, off + i, none⟩ = some (.int .u8 (byt l i)) :=
  fun i hi => Below.cell_of' h (hc i hi)

theorem Rd_drop (w : World) (b off : Nat) (l : List UInt8) (hc : ∀ i, i < l.length → w.cell? ⟨b, off + i, none⟩ = some (.int .u8 (byt l i))) (u : Nat) : Rd w (some ⟨b, off + u, none⟩) (l.drop u) := by
  have := Rd_sub w b off l hc u (l.length - u)
  rwa [List.take_of_length_le (by simp)] at this

/-- integers as values -/
def ivs (l : List Int) : List Value := l.map (.int .i64)

theorem cloInt_any (L : Nat) (w wr : World) (b off n c u m k : Nat) (l : List UInt8) (x er : Int) (xs : List Value) (tf : TypeId)
    (hI : GInv w.heap.size L w wr (.slice (some ⟨b, off, none⟩) n c) (.func (.func 24) #[] #[]) tf 22 3 1 u m xs)
    (hc : ∀ i, i < l.length → w.cell? ⟨b, off + i, none⟩ = some (.int .u8 (byt l i))) (hn : n = l.length) (hnc : n ≤ c) (hmax : c ≤ 9223372036854775807 ∧ n ≤ 4611686018427387904) (hu : u ≤ n) (hm : m ≤ 4398046511104) (hg : gi (l.drop u) = (x, k, er)) :
    Calls Try.prog 52 #[.pointer (some ⟨w.heap.size + 1, 0, none⟩), .pointer (some ⟨w.heap.size, 0, none⟩), .pointer (some ⟨w.heap.size + 2, 0, none⟩), .pointer (some ⟨L, 0, none⟩)] wr fun e w' => e = .returned (.int .i64 er) ∧ Below w.heap.size w w' ∧
      (er = 0 → GInv w.heap.size L w w' (.slice (some ⟨b, off, none⟩) n c) (.func (.func 24) #[] #[]) tf 22 3 1 (u + k) (m + 1) (xs ++ [.int .i64 x])) := by
  have hc' := cells_below hI.below hc
  by_cases he : er = 0
  · subst he
    obtain ⟨_, _, g3, _, g5⟩ := gi_range _ _ _ hg
    have hk0 : 1 ≤ k := by rw [g5, enc_length]; omega
    rw [List.length_drop] at g3
    refine (cloInt_ok w.heap.size L w wr b off n c u m k l x xs tf hI (Rd_drop wr b off l hc' u) hn hnc hmax (by omega) hm (by omega) hg).mono ?_
    rintro e w' ⟨rfl, h⟩
    exact ⟨rfl, h.below, fun _ => h⟩
  · have he' : (er == 0) = false := by simpa using he
    by_cases hcu : c = u
    · have hd : l.drop u = [] := List.drop_eq_nil_of_le (by omega)
      refine (cloInt_err0 w.heap.size L w wr b off n c u m k l x er xs tf hI (by rw [hd]; exact .inl rfl) hn hnc hmax hu hcu he' hg).mono ?_
      rintro e w' ⟨rfl, h⟩
      exact ⟨rfl, h, fun h0 => absurd h0 he⟩
    · refine (cloInt_err w.heap.size L w wr b off n c u m k l x er xs tf hI (Rd_drop wr b off l hc' u) hn hnc hmax hu hcu he' hg).mono ?_
      rintro e w' ⟨rfl, h⟩
      exact ⟨rfl, h, fun h0 => absurd h0 he⟩

theorem ginv_start {w w1 : World} {bv fv : Value} {tf tl te : TypeId} {u N X : Nat} {z : Nat} (ho : w1.ownsRow (w.heap.size + 3) te z (.slice (some ⟨X, 0, none⟩) 0 N) 0 [])
    (hX : X = w.heap.size + 1 + 1 + 1)
    (hg : (((w.alloc (.cells #[bv] 28)).alloc (.cells #[fv] tf)).alloc (.cells #[.int .i64 (u : Int)] 3)).grownBy w1 none) :
    GInv w.heap.size w1.heap.size w (w1.alloc (.cells #[.slice (some ⟨w.heap.size + 1 + 1 + 1, 0, none⟩) 0 N] tl)) bv fv tf tl te z u 0 [] := by
  subst hX
  have hz := hg.size
  simp at hz
  have hlt := (ho.lt _ rfl).2
  have hk : ∀ k, k < w.heap.size + 3 → (w1.alloc (.cells #[.slice (some ⟨w.heap.size + 1 + 1 + 1, 0, none⟩) 0 N] tl)).heap[k]? = (((w.alloc (.cells #[bv] 28)).alloc (.cells #[fv] tf)).alloc (.cells #[.int .i64 (u : Int)] 3)).heap[k]? := fun k hk => by
    rw [Below.heap_alloc _ _ _ (by omega)]
    exact hg.block k (by simp; omega) (by simp)
  refine ⟨?_, by simp, by omega, ?_, ?_, ?_, _, heap_alloc_new _ _, ho.alloc _⟩
  · exact ((((((Below.refl _ _).alloc (Nat.le_refl _) _).alloc (by simp) _).alloc (by simp; omega) _).grown hg (by simp; omega) (fun k h => by cases h)).alloc (by omega) _)
  · rw [hk _ (by omega), Below.heap_alloc _ _ _ (by simp; omega), Below.heap_alloc _ _ _ (by simp)]; exact heap_alloc_new _ _
  · rw [hk _ (by omega), Below.heap_alloc _ _ _ (by simp)]
    have := heap_alloc_new (w.alloc (.cells #[bv] 28)) (.cells #[fv] tf)
    simpa using this
  · rw [hk _ (by omega)]
    have := heap_alloc_new ((w.alloc (.cells #[bv] 28)).alloc (.cells #[fv] tf)) (.cells #[.int .i64 (u : Int)] 3)
    simpa using this

/-- the two boxes that are made first -/
def Boxed2 (w : World) (bv fv : Value) (tf : TypeId) : World := (w.alloc (.cells #[bv] 28)).alloc (.cells #[fv] tf)
theorem boxed2_below (w : World) (bv fv : Value) (tf : TypeId) : Below w.heap.size w ((w.alloc (.cells #[bv] 28)).alloc (.cells #[fv] tf)) := ((Below.refl _ _).alloc (Nat.le_refl _) _).alloc (by simp) _

set_option maxRecDepth 100000 in
set_option maxHeartbeats 400000 in
theorem getListInt_err (a : Option Addr) (n c : Nat) (l : List UInt8) (w : World) (hR : Rd w a l) (hn : Hid (n = l.length)) (hnc : n ≤ c) (hmax : c ≤ 9223372036854775807 ∧ n ≤ 4611686018427387904) (x : Int) (u : Nat) (er : Int) (hr : Hid (gl 1 l = (x, u, er))) (he : (er != 0) = true) :
    Calls Try.prog 48 #[.slice a n c, .int .i64 1, .func (.func 24) #[] #[]] w (DecPost w.heap.size w 3 1 [] 0 0 er) := by
  have hb := Lib.hid (boxed2_below w (.slice a n c) (.func (.func 24) #[] #[]) 37)
  have hR' := Lib.hid (Rd_below hb.out hR)
  clear hR
  go_enter Try.func48, Try.ntmps48
  go_wp2_with (go_at_call 46; refine (getLen_any _ _ _ 1 l _ hR'.out hn.out hnc (by omega) (by omega) (by omega) x u er hr.out).mono ?_; rintro e w' ⟨rfl, rfl⟩)
  go_ret3
  exact decPost_err (hb.out.alloc (by simp; omega) _)

set_option maxRecDepth 100000 in
set_option maxHeartbeats 800000 in
theorem getListInt_ok (b off n c : Nat) (l : List UInt8) (w : World) (hc : ∀ i, i < l.length → w.cell? ⟨b, off + i, none⟩ = some (.int .u8 (byt l i))) (hn : Hid (n = l.length)) (hnc : n ≤ c) (hmax : c ≤ 9223372036854775807 ∧ n ≤ 4611686018427387904) (N : Nat) (u : Nat) (hr : Hid (gl 1 l = ((N : Int), u, 0))) (hN : N ≤ 4398046511104) (hu : u ≤ n)
    (xs : List Int) (u1 : Nat) (er : Int) (hd : Hid (dlo gi l N u [] = (xs, u1, er))) :
    Calls Try.prog 48 #[.slice (some ⟨b, off, none⟩) n c, .int .i64 1, .func (.func 24) #[] #[]] w (DecPost w.heap.size w 3 1 (ivs xs) xs.length u1 er) := by
  have hb := Lib.hid (boxed2_below w (.slice (some ⟨b, off, none⟩) n c) (.func (.func 24) #[] #[]) 37)
  have hR' := Lib.hid (Rd_below hb.out (.inr ⟨b, off, rfl, hc⟩ : Rd w (some ⟨b, off, none⟩) l))
  have hc' := Lib.hid hc
  clear hc
  obtain ⟨i0, hi, hz0, hz1, hz2⟩ := info_parts info_int
  go_enter Try.func48, Try.ntmps48
  have hsz := Lib.hid hb.out.size
  go_wp2_with (first | (go_at_call 46; refine (getLen_any _ _ _ 1 l _ hR'.out hn.out hnc (by omega) (by omega) (by omega) _ _ _ hr.out).mono ?_; rintro e w' ⟨rfl, rfl⟩) | (at_make; refine wpList_make_own _ rfl _ _ 22 rfl (w.heap.size + 3) 3 i0 (.int .i64 0) 1 Try.underlying22 hi hz0 hz1 .i64 .i64 (N : Int) N rfl rfl rfl (by rw [hz2]; omega) (by unfold maxLen; omega) (by simp) ?_; intro w1 hown hgrow; have hG := Lib.hid (ginv_start (tl := 22) hown (by simp) hgrow); clear hown hgrow))
  go_loopw [29] (fun i wr => ∃ k v : Nat, ∃ acc : List Int, k ≤ N ∧ i = .int .i64 k ∧ v ≤ n ∧ acc.length = k ∧ dlo gi l (N - k) v acc = (xs, u1, er) ∧
      GInv w.heap.size w1.heap.size w wr (.slice (some ⟨b, off, none⟩) n c) (.func (.func 24) #[] #[]) 37 22 3 1 v acc.length (ivs acc)) (fun i _ => N - (intOf i).toNat)
  case atStart => exact ⟨0, u, [], Nat.zero_le _, rfl, hu, rfl, hd.out, hG.out⟩
  case round =>
    obtain ⟨k, v, acc, hk, rfl, hv, hacc, hdl, hI⟩ := hrel
    by_cases hlt : k < N
    · obtain ⟨x, k1, e1, hg⟩ : ∃ x k1 e1, gi (l.drop v) = (x, k1, e1) := ⟨_, _, _, rfl⟩
      have hg' := Lib.hid hg
      have hI' := Lib.hid hI
      have hdl' : Hid ((if e1 ≠ 0 then ([], 0, e1) else dlo gi l (N - k - 1) (v + k1) (acc ++ [x])) = (xs, u1, er)) := by
        rw [show N - k = (N - k - 1) + 1 from by omega] at hdl
        simp only [dlo, hg] at hdl
        exact hdl
      have hacc' := Lib.hid hacc
      clear hg hI hdl hacc
      by_cases he : e1 = 0
      · subst he
        have hr1 := (gi_range _ _ _ hg'.out).2.2.1
        rw [List.length_drop, ← hn.out] at hr1
        go_wp2_with (go_at_call 52; refine (cloInt_any w1.heap.size w wr b off n c v _ k1 l x 0 _ _ hI'.out hc'.out hn.out hnc hmax hv (by rw [hacc'.out]; omega) hg'.out).mono ?_; rintro e w2 ⟨rfl, _, hst⟩; have hI2 := Lib.hid (hst rfl); clear hst)
        refine ⟨⟨k + 1, v + k1, acc ++ [x], by omega, by simp, by omega, by simp [hacc'.out], ?_, ?_⟩, by simp [intOf]; omega⟩
        · have := hdl'.out
          rw [if_neg (by simp)] at this
          rw [show N - (k + 1) = N - k - 1 from by omega]
          exact this
        · rw [show ivs (acc ++ [x]) = ivs acc ++ [.int .i64 x] from by simp [ivs], List.length_append]
          exact hI2.out
      · have he' : (e1 != 0) = true := by simpa using he
        have hfin := hdl'.out
        rw [if_pos he] at hfin
        simp only [Prod.mk.injEq] at hfin
        obtain ⟨rfl, rfl, rfl⟩ := hfin
        go_wp2_with (go_at_call 52; refine (cloInt_any w1.heap.size w wr b off n c v _ k1 l x e1 _ _ hI'.out hc'.out hn.out hnc hmax hv (by rw [hacc'.out]; omega) hg'.out).mono ?_; rintro e w2 ⟨rfl, hb2, _⟩; have hb2' := Lib.hid hb2; clear hb2)
        go_ret3
        exact decPost_err hb2'.out
    · have hk' : k = N := by omega
      subst hk'
      rw [Nat.sub_self] at hdl
      simp only [dlo, Prod.mk.injEq] at hdl
      obtain ⟨rfl, rfl, rfl⟩ := hdl
      have cu := cell_of_one hI.u
      obtain ⟨lv, hlv, hown⟩ := hI.l
      have cl := cell_of_one hlv
      have hI' := Lib.hid hI
      have hown' := Lib.hid hown
      clear hI hown hlv hacc
      go_wp2
      go_quiet (fail)
      go_wp2
      go_ret3
      exact ⟨lv, rfl, ownsRow_base (ownsRow_drewN hown'.out _) (by omega), below_drewN hI'.out.below _⟩

theorem gl_small (z : Nat) (hz : 1 ≤ z) (l : List UInt8) (N : Int) (u : Nat) (h : gl z l = (N, u, 0)) : 0 ≤ N ∧ N.toNat + u ≤ l.length ∧ 1 ≤ u := by
  obtain ⟨g1, g2, g3, g4, g5, g6⟩ := gl_ok z hz l N u h
  exact ⟨g2, by omega, g4⟩

theorem getListInt_any (a : Option Addr) (n c : Nat) (l : List UInt8) (w : World) (hR : Rd w a l) (hn : n = l.length) (hnc : n ≤ c) (hmax : c ≤ 9223372036854775807 ∧ n ≤ 4611686018427387904) (hsm : n ≤ 4398046511104) (xs : List Int) (u : Nat) (er : Int) (hd : dls 1 gi l = (xs, u, er)) :
    Calls Try.prog 48 #[.slice a n c, .int .i64 1, .func (.func 24) #[] #[]] w (DecPost w.heap.size w 3 1 (ivs xs) xs.length u er) := by
  obtain ⟨x0, u0, e0, h0⟩ : ∃ x0 u0 e0, gl 1 l = (x0, u0, e0) := ⟨_, _, _, rfl⟩
  simp only [dls, h0] at hd
  by_cases c1 : e0 ≠ 0
  · rw [if_pos c1] at hd
    simp only [Prod.mk.injEq] at hd
    obtain ⟨rfl, rfl, rfl⟩ := hd
    exact getListInt_err a n c l w hR hn hnc hmax _ _ _ h0 (by simpa using c1)
  · rw [if_neg c1] at hd
    have c1' : e0 = 0 := by omega
    subst c1'
    obtain ⟨g1, g2, g3⟩ := gl_small 1 (by omega) l x0 u0 h0
    obtain ⟨N, rfl⟩ := Int.eq_ofNat_of_zero_le g1
    simp only [Int.toNat_natCast] at hd g2
    rcases hR with rfl | ⟨b, off, rfl, hc⟩
    · simp at g2; omega
    · exact getListInt_ok b off n c l w hc hn hnc hmax N u0 h0 (by omega) (by omega) xs u er hd

set_option maxRecDepth 100000 in
set_option maxHeartbeats 400000 in
theorem GetInts_any (a : Option Addr) (n c : Nat) (l : List UInt8) (w : World) (hR : Rd w a l) (hn : n = l.length) (hnc : n ≤ c) (hmax : c ≤ 9223372036854775807 ∧ n ≤ 4611686018427387904) (hsm : n ≤ 4398046511104) (xs : List Int) (u : Nat) (er : Int) (hd : dls 1 gi l = (xs, u, er)) :
    Calls Try.prog 28 #[.slice a n c] w (DecPost w.heap.size w 3 1 (ivs xs) xs.length u er) := by
  have hR' := Lib.hid hR
  have hn' := Lib.hid hn
  have hd' := Lib.hid hd
  clear hR hn hd
  go_enter Try.func28, Try.ntmps28
  go_wp2_with (go_at_call 48; refine (getListInt_any _ _ _ l _ hR'.out hn'.out hnc hmax hsm _ _ _ hd'.out).mono ?_; rintro e w' ⟨v, rfl, ho, hb⟩; have ho' := Lib.hid ho; have hb' := Lib.hid hb; clear ho hb)
  go_ret3
  exact ⟨v, rfl, ho'.out, hb'.out⟩

end Go.Proofs.Ytfodockdhecbpaa
