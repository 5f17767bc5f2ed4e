/- wire.GetStrings: the closure and the loop. -/
import Derived.Test.YtfodockdhecbpaaW9
namespace Go.Proofs.Ytfodockdhecbpaa
open Go.RowKit

theorem info_str : (Try.prog.info? 9).map (fun i => (i.zero, i.size, i.bytes)) = some (some (.string ByteArray.empty), 1, 16) := by kernel_rfl

theorem gb_range (l : List UInt8) (s : List UInt8) (u : Nat) (h : gb l = (s, u, 0)) : u ≤ l.length ∧ 1 ≤ u := by
  obtain ⟨x0, u0, e0, h0⟩ : ∃ x0 u0 e0, gl 1 l = (x0, u0, e0) := ⟨_, _, _, rfl⟩
  simp only [gb, h0] at h
  by_cases c1 : e0 ≠ 0
  · rw [if_pos c1] at h
    simp only [Prod.mk.injEq] at h
    exact absurd h.2.2 c1
  · rw [if_neg c1] at h
    simp only [Prod.mk.injEq] at h
    have c1' : e0 = 0 := by omega
    subst c1'
    obtain ⟨g1, g2, g3, g4, g5, g6⟩ := gl_ok 1 (by omega) l x0 u0 h0
    omega

set_option maxRecDepth 100000 in
set_option maxHeartbeats 400000 in
theorem cloStr_ok (S L : Nat) (w wr : World) (b off n c u m k : Nat) (l : List UInt8) (x : List UInt8) (xs : List Value) (tf : TypeId)
    (hI : GInv S L w wr (.slice (some ⟨b, off, none⟩) n c) (.func (.func 26) #[] #[]) tf 23 9 1 u m xs)
    (hR : Rd wr (some ⟨b, off + u, none⟩) (l.drop u)) (hn : Hid (n = l.length)) (hnc : n ≤ c) (hmax : c ≤ 9223372036854775807 ∧ n ≤ 4611686018427387904) (hu : u < n) (hm : m ≤ 4398046511104) (hk : k ≤ n) (hg : Hid (gb (l.drop u) = (x, k, 0))) :
    Calls Try.prog 53 #[.pointer (some ⟨S + 1, 0, none⟩), .pointer (some ⟨S, 0, none⟩), .pointer (some ⟨S + 2, 0, none⟩), .pointer (some ⟨L, 0, none⟩)] wr fun e w' => e = .returned (.int .i64 0) ∧
      GInv S L w w' (.slice (some ⟨b, off, none⟩) n c) (.func (.func 26) #[] #[]) tf 23 9 1 (u + k) (m + 1) (xs ++ [.string (bs x)]) := by
  have cb := cell_of_one hI.b
  have cf := cell_of_one hI.f
  have cu := cell_of_one hI.u
  have fu := free_of_one hI.u
  obtain ⟨v, hv, hown⟩ := hI.l
  have cl := cell_of_one hv
  have fl := free_of_one hv
  have hcu : ¬ c = u := by omega
  have hI' := Lib.hid hI
  have hown' := Lib.hid hown
  obtain ⟨i0, hi, hz0, hz1, hz2⟩ := info_parts info_str
  have hR' := Lib.hid hR
  have hv' := Lib.hid hv
  clear hI hown hR hv
  have h1 : 0 ≤ (u : Int) := by omega
  have h3 : (u : Int) + (k : Int) ≤ 9223372036854775807 := by omega
  have h4 := hI'.out.size
  have h5 := hI'.out.hL
  have h6 : ¬ L = S + 2 := by omega
  have h7 : ¬ S + 2 = L := by omega
  have h2 : (u : Int) ≤ (n : Int) := by omega
  go_enter Try.func53, Try.ntmps53
  go_wp2
  go_quiet ((go_at_call 26; exact quiet_left' (GetBytes_any _ _ _ (l.drop u) _ (Rd_drewN hR'.out _) (by rw [List.length_drop, ← hn.out]) (by omega) (by omega) x k 0 hg.out)))
  go_wp2_with (at_builtin; refine wpList_append_own _ rfl _ _ 23 rfl (S + 3) 9 i0 (.string ByteArray.empty) 1 16 Try.underlying23 hi hz0 hz1 hz2 rfl (by decide) _ _ _ rfl ((ownsRow_drewN hown'.out nq).alloc _) ⟨wr.heap.size, 0, none⟩ 1 1 [.string (bs x)] rfl rfl (cell_one_new _ _ _) (by intro u hu; simp at hu; subst hu; rfl) (by unfold maxLen; omega) (by omega) (by simp [drewN_heap']; omega) ?_; intro v1 w1 hown1 hgrow1 _; obtain ⟨pA, pB, pC, rfl⟩ := own_slice hown1; obtain ⟨⟨hv1, hu1⟩, hst⟩ := hI'.out.step (by decide) hv'.out hown'.out (grown_alloc hgrow1) hown1; have hfin := Lib.hid (hst (own_ne (by decide) hv1 hown1) (u + k)); have cl1 := cell_of_one hv1; have fl1 := free_of_one hv1; have cu1 := cell_of_one hu1; have fu1 := free_of_one hu1; clear hv1 hu1 hst hown1 hgrow1)
  go_ret
  exact ⟨rfl, by simpa using hfin.out⟩

set_option maxRecDepth 100000 in
set_option maxHeartbeats 400000 in
theorem cloStr_err (S L : Nat) (w wr : World) (b off n c u m k : Nat) (l : List UInt8) (x : List UInt8) (er : Int) (xs : List Value) (tf : TypeId)
    (hI : GInv S L w wr (.slice (some ⟨b, off, none⟩) n c) (.func (.func 26) #[] #[]) tf 23 9 1 u m xs)
    (hR : Rd wr (some ⟨b, off + u, none⟩) (l.drop u)) (hn : Hid (n = l.length)) (hnc : n ≤ c) (hmax : c ≤ 9223372036854775807 ∧ n ≤ 4611686018427387904) (hu : u ≤ n) (hcu : ¬ c = u) (he : (er == 0) = false) (hg : Hid (gb (l.drop u) = (x, k, er))) :
    Calls Try.prog 53 #[.pointer (some ⟨S + 1, 0, none⟩), .pointer (some ⟨S, 0, none⟩), .pointer (some ⟨S + 2, 0, none⟩), .pointer (some ⟨L, 0, none⟩)] wr fun e w' => e = .returned (.int .i64 er) ∧ Below S w w' := by
  have cb := cell_of_one hI.b
  have cf := cell_of_one hI.f
  have cu := cell_of_one hI.u
  have hI' := Lib.hid hI
  have hR' := Lib.hid hR
  clear hI hR
  have h1 : 0 ≤ (u : Int) := by omega
  have h2 : (u : Int) ≤ (n : Int) := by omega
  go_enter Try.func53, Try.ntmps53
  go_wp2
  go_quiet ((go_at_call 26; exact quiet_left' (GetBytes_any _ _ _ (l.drop u) _ (Rd_drewN hR'.out _) (by rw [List.length_drop, ← hn.out]) (by omega) (by omega) x k er hg.out)))
  go_wp2
  go_ret
  exact ⟨rfl, below_drewN hI'.out.below _⟩

set_option maxRecDepth 100000 in
set_option maxHeartbeats 400000 in
theorem cloStr_err0 (S L : Nat) (w wr : World) (b off n c u m k : Nat) (l : List UInt8) (x : List UInt8) (er : Int) (xs : List Value) (tf : TypeId)
    (hI : GInv S L w wr (.slice (some ⟨b, off, none⟩) n c) (.func (.func 26) #[] #[]) tf 23 9 1 u m xs)
    (hR : Rd wr (some ⟨b, off, none⟩) (l.drop u)) (hn : Hid (n = l.length)) (hnc : n ≤ c) (hmax : c ≤ 9223372036854775807 ∧ n ≤ 4611686018427387904) (hu : u ≤ n) (hcu : c = u) (he : (er == 0) = false) (hg : Hid (gb (l.drop u) = (x, k, er))) :
    Calls Try.prog 53 #[.pointer (some ⟨S + 1, 0, none⟩), .pointer (some ⟨S, 0, none⟩), .pointer (some ⟨S + 2, 0, none⟩), .pointer (some ⟨L, 0, none⟩)] wr fun e w' => e = .returned (.int .i64 er) ∧ Below S w w' := by
  have cb := cell_of_one hI.b
  have cf := cell_of_one hI.f
  have cu := cell_of_one hI.u
  have hI' := Lib.hid hI
  have hR' := Lib.hid hR
  clear hI hR
  have h1 : 0 ≤ (u : Int) := by omega
  have h2 : (u : Int) ≤ (n : Int) := by omega
  go_enter Try.func53, Try.ntmps53
  go_wp2
  go_quiet ((go_at_call 26; exact quiet_left' (GetBytes_any _ _ _ (l.drop u) _ (Rd_drewN hR'.out _) (by rw [List.length_drop, ← hn.out]) (by omega) (by omega) x k er hg.out)))
  go_wp2
  go_ret
  exact ⟨rfl, below_drewN hI'.out.below _⟩

/-- strings as values -/
def svs (l : List (List UInt8)) : List Value := l.map fun s => .string (bs s)

theorem cloStr_any (L : Nat) (w wr : World) (b off n c u m k : Nat) (l : List UInt8) (x : List UInt8) (er : Int) (xs : List Value) (tf : TypeId)
    (hI : GInv w.heap.size L w wr (.slice (some ⟨b, off, none⟩) n c) (.func (.func 26) #[] #[]) tf 23 9 1 u m xs)
    (hc : ∀ i, i < l.length → w.cell? ⟨b, off + i, none⟩ = some (.int .u8 (byt l i))) (hn : n = l.length) (hnc : n ≤ c) (hmax : c ≤ 9223372036854775807 ∧ n ≤ 4611686018427387904) (hu : u ≤ n) (hm : m ≤ 4398046511104) (hg : gb (l.drop u) = (x, k, er)) :
    Calls Try.prog 53 #[.pointer (some ⟨w.heap.size + 1, 0, none⟩), .pointer (some ⟨w.heap.size, 0, none⟩), .pointer (some ⟨w.heap.size + 2, 0, none⟩), .pointer (some ⟨L, 0, none⟩)] wr fun e w' => e = .returned (.int .i64 er) ∧ Below w.heap.size w w' ∧
      (er = 0 → GInv w.heap.size L w w' (.slice (some ⟨b, off, none⟩) n c) (.func (.func 26) #[] #[]) tf 23 9 1 (u + k) (m + 1) (xs ++ [.string (bs x)])) := by
  have hc' := cells_below hI.below hc
  by_cases he : er = 0
  · subst he
    obtain ⟨g3, hk0⟩ := gb_range _ _ _ hg
    rw [List.length_drop] at g3
    refine (cloStr_ok w.heap.size L w wr b off n c u m k l x xs tf hI (Rd_drop wr b off l hc' u) hn hnc hmax (by omega) hm (by omega) hg).mono ?_
    rintro e w' ⟨rfl, h⟩
    exact ⟨rfl, h.below, fun _ => h⟩
  · have he' : (er == 0) = false := by simpa using he
    by_cases hcu : c = u
    · have hd : l.drop u = [] := List.drop_eq_nil_of_le (by omega)
      refine (cloStr_err0 w.heap.size L w wr b off n c u m k l x er xs tf hI (by rw [hd]; exact .inl rfl) hn hnc hmax hu hcu he' hg).mono ?_
      rintro e w' ⟨rfl, h⟩
      exact ⟨rfl, h, fun h0 => absurd h0 he⟩
    · refine (cloStr_err w.heap.size L w wr b off n c u m k l x er xs tf hI (Rd_drop wr b off l hc' u) hn hnc hmax hu hcu he' hg).mono ?_
      rintro e w' ⟨rfl, h⟩
      exact ⟨rfl, h, fun h0 => absurd h0 he⟩

set_option maxRecDepth 100000 in
set_option maxHeartbeats 400000 in
theorem getListStr_err (a : Option Addr) (n c : Nat) (l : List UInt8) (w : World) (hR : Rd w a l) (hn : Hid (n = l.length)) (hnc : n ≤ c) (hmax : c ≤ 9223372036854775807 ∧ n ≤ 4611686018427387904) (x : Int) (u : Nat) (er : Int) (hr : Hid (gl 1 l = (x, u, er))) (he : (er != 0) = true) :
    Calls Try.prog 49 #[.slice a n c, .int .i64 1, .func (.func 26) #[] #[]] w (DecPost w.heap.size w 9 1 [] 0 0 er) := by
  have hb := Lib.hid (boxed2_below w (.slice a n c) (.func (.func 26) #[] #[]) 39)
  have hR' := Lib.hid (Rd_below hb.out hR)
  clear hR
  go_enter Try.func49, Try.ntmps49
  go_wp2_with (go_at_call 46; refine (getLen_any _ _ _ 1 l _ hR'.out hn.out hnc (by omega) (by omega) (by omega) x u er hr.out).mono ?_; rintro e w' ⟨rfl, rfl⟩)
  go_ret3
  exact decPost_err (hb.out.alloc (by simp; omega) _)

set_option maxRecDepth 100000 in
set_option maxHeartbeats 800000 in
theorem getListStr_ok (b off n c : Nat) (l : List UInt8) (w : World) (hc : ∀ i, i < l.length → w.cell? ⟨b, off + i, none⟩ = some (.int .u8 (byt l i))) (hn : Hid (n = l.length)) (hnc : n ≤ c) (hmax : c ≤ 9223372036854775807 ∧ n ≤ 4611686018427387904) (N : Nat) (u : Nat) (hr : Hid (gl 1 l = ((N : Int), u, 0))) (hN : N ≤ 4398046511104) (hu : u ≤ n)
    (xs : List (List UInt8)) (u1 : Nat) (er : Int) (hd : Hid (dlo gb l N u [] = (xs, u1, er))) :
    Calls Try.prog 49 #[.slice (some ⟨b, off, none⟩) n c, .int .i64 1, .func (.func 26) #[] #[]] w (DecPost w.heap.size w 9 1 (svs xs) xs.length u1 er) := by
  have hb := Lib.hid (boxed2_below w (.slice (some ⟨b, off, none⟩) n c) (.func (.func 26) #[] #[]) 39)
  have hR' := Lib.hid (Rd_below hb.out (.inr ⟨b, off, rfl, hc⟩ : Rd w (some ⟨b, off, none⟩) l))
  have hc' := Lib.hid hc
  clear hc
  obtain ⟨i0, hi, hz0, hz1, hz2⟩ := info_parts info_str
  go_enter Try.func49, Try.ntmps49
  have hsz := Lib.hid hb.out.size
  go_wp2_with (first | (go_at_call 46; refine (getLen_any _ _ _ 1 l _ hR'.out hn.out hnc (by omega) (by omega) (by omega) _ _ _ hr.out).mono ?_; rintro e w' ⟨rfl, rfl⟩) | (at_make; refine wpList_make_own _ rfl _ _ 23 rfl (w.heap.size + 3) 9 i0 (.string ByteArray.empty) 1 Try.underlying23 hi hz0 hz1 .i64 .i64 (N : Int) N rfl rfl rfl (by rw [hz2]; omega) (by unfold maxLen; omega) (by simp) ?_; intro w1 hown hgrow; have hG := Lib.hid (ginv_start (tl := 23) hown (by simp) hgrow); clear hown hgrow))
  go_loopw [29] (fun i wr => ∃ k v : Nat, ∃ acc : List (List UInt8), k ≤ N ∧ i = .int .i64 k ∧ v ≤ n ∧ acc.length = k ∧ dlo gb l (N - k) v acc = (xs, u1, er) ∧
      GInv w.heap.size w1.heap.size w wr (.slice (some ⟨b, off, none⟩) n c) (.func (.func 26) #[] #[]) 39 23 9 1 v acc.length (svs acc)) (fun i _ => N - (intOf i).toNat)
  case atStart => exact ⟨0, u, [], Nat.zero_le _, rfl, hu, rfl, hd.out, hG.out⟩
  case round =>
    obtain ⟨k, v, acc, hk, rfl, hv, hacc, hdl, hI⟩ := hrel
    by_cases hlt : k < N
    · obtain ⟨x, k1, e1, hg⟩ : ∃ x k1 e1, gb (l.drop v) = (x, k1, e1) := ⟨_, _, _, rfl⟩
      have hg' := Lib.hid hg
      have hI' := Lib.hid hI
      have hdl' : Hid ((if e1 ≠ 0 then ([], 0, e1) else dlo gb l (N - k - 1) (v + k1) (acc ++ [x])) = (xs, u1, er)) := by
        rw [show N - k = (N - k - 1) + 1 from by omega] at hdl
        simp only [dlo, hg] at hdl
        exact hdl
      have hacc' := Lib.hid hacc
      clear hg hI hdl hacc
      by_cases he : e1 = 0
      · subst he
        have hr1 := (gb_range _ _ _ hg'.out).1
        rw [List.length_drop, ← hn.out] at hr1
        go_wp2_with (go_at_call 53; refine (cloStr_any w1.heap.size w wr b off n c v _ k1 l x 0 _ _ hI'.out hc'.out hn.out hnc hmax hv (by rw [hacc'.out]; omega) hg'.out).mono ?_; rintro e w2 ⟨rfl, _, hst⟩; have hI2 := Lib.hid (hst rfl); clear hst)
        refine ⟨⟨k + 1, v + k1, acc ++ [x], by omega, by simp, by omega, by simp [hacc'.out], ?_, ?_⟩, by simp [intOf]; omega⟩
        · have := hdl'.out
          rw [if_neg (by simp)] at this
          rw [show N - (k + 1) = N - k - 1 from by omega]
          exact this
        · rw [show svs (acc ++ [x]) = svs acc ++ [.string (bs x)] from by simp [svs], List.length_append]
          exact hI2.out
      · have he' : (e1 != 0) = true := by simpa using he
        have hfin := hdl'.out
        rw [if_pos he] at hfin
        simp only [Prod.mk.injEq] at hfin
        obtain ⟨rfl, rfl, rfl⟩ := hfin
        go_wp2_with (go_at_call 53; refine (cloStr_any w1.heap.size w wr b off n c v _ k1 l x e1 _ _ hI'.out hc'.out hn.out hnc hmax hv (by rw [hacc'.out]; omega) hg'.out).mono ?_; rintro e w2 ⟨rfl, hb2, _⟩; have hb2' := Lib.hid hb2; clear hb2)
        go_ret3
        exact decPost_err hb2'.out
    · have hk' : k = N := by omega
      subst hk'
      rw [Nat.sub_self] at hdl
      simp only [dlo, Prod.mk.injEq] at hdl
      obtain ⟨rfl, rfl, rfl⟩ := hdl
      have cu := cell_of_one hI.u
      obtain ⟨lv, hlv, hown⟩ := hI.l
      have cl := cell_of_one hlv
      have hI' := Lib.hid hI
      have hown' := Lib.hid hown
      clear hI hown hlv hacc
      go_wp2
      go_quiet (fail)
      go_wp2
      go_ret3
      exact ⟨lv, rfl, ownsRow_base (ownsRow_drewN hown'.out _) (by omega), below_drewN hI'.out.below _⟩

theorem getListStr_any (a : Option Addr) (n c : Nat) (l : List UInt8) (w : World) (hR : Rd w a l) (hn : n = l.length) (hnc : n ≤ c) (hmax : c ≤ 9223372036854775807 ∧ n ≤ 4611686018427387904) (hsm : n ≤ 4398046511104) (xs : List (List UInt8)) (u : Nat) (er : Int) (hd : dls 1 gb l = (xs, u, er)) :
    Calls Try.prog 49 #[.slice a n c, .int .i64 1, .func (.func 26) #[] #[]] w (DecPost w.heap.size w 9 1 (svs xs) xs.length u er) := by
  obtain ⟨x0, u0, e0, h0⟩ : ∃ x0 u0 e0, gl 1 l = (x0, u0, e0) := ⟨_, _, _, rfl⟩
  simp only [dls, h0] at hd
  by_cases c1 : e0 ≠ 0
  · rw [if_pos c1] at hd
    simp only [Prod.mk.injEq] at hd
    obtain ⟨rfl, rfl, rfl⟩ := hd
    exact getListStr_err a n c l w hR hn hnc hmax _ _ _ h0 (by simpa using c1)
  · rw [if_neg c1] at hd
    have c1' : e0 = 0 := by omega
    subst c1'
    obtain ⟨g1, g2, g3⟩ := gl_small 1 (by omega) l x0 u0 h0
    obtain ⟨N, rfl⟩ := Int.eq_ofNat_of_zero_le g1
    simp only [Int.toNat_natCast] at hd g2
    rcases hR with rfl | ⟨b, off, rfl, hc⟩
    · simp at g2; omega
    · exact getListStr_ok b off n c l w hc hn hnc hmax N u0 h0 (by omega) (by omega) xs u er hd

set_option maxRecDepth 100000 in
set_option maxHeartbeats 400000 in
theorem GetStrings_any (a : Option Addr) (n c : Nat) (l : List UInt8) (w : World) (hR : Rd w a l) (hn : n = l.length) (hnc : n ≤ c) (hmax : c ≤ 9223372036854775807 ∧ n ≤ 4611686018427387904) (hsm : n ≤ 4398046511104) (xs : List (List UInt8)) (u : Nat) (er : Int) (hd : dls 1 gb l = (xs, u, er)) :
    Calls Try.prog 31 #[.slice a n c] w (DecPost w.heap.size w 9 1 (svs xs) xs.length u er) := by
  have hR' := Lib.hid hR
  have hn' := Lib.hid hn
  have hd' := Lib.hid hd
  clear hR hn hd
  go_enter Try.func31, Try.ntmps31
  go_wp2_with (go_at_call 49; refine (getListStr_any _ _ _ l _ hR'.out hn'.out hnc hmax hsm _ _ _ hd'.out).mono ?_; rintro e w' ⟨v, rfl, ho, hb⟩; have ho' := Lib.hid ho; have hb' := Lib.hid hb; clear ho hb)
  go_ret3
  exact ⟨v, rfl, ho'.out, hb'.out⟩

end Go.Proofs.Ytfodockdhecbpaa
