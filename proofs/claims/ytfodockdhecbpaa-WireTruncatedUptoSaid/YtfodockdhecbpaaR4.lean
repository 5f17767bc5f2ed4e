/- sherdref01.GetInts: the reference's decoding of lists of integers. -/
import Derived.Test.YtfodockdhecbpaaR3
namespace Go.Proofs.Ytfodockdhecbpaa
open Go.RowKit

/-- a list that is being made, in memory that was not there -/
def RInv (w : World) (te : TypeId) (z : Nat) (v : Value) (xs : List Value) (wr : World) : Prop := wr.ownsRow w.heap.size te z v xs.length xs ∧ Below w.heap.size w wr

theorem rInv_grow {w wr w1 : World} {te : TypeId} {z : Nat} {v v1 : Value} {xs ys : List Value} {o : Obj} (h : RInv w te z v xs wr) (ho : w1.ownsRow w.heap.size te z v1 (xs.length + 1) (xs ++ ys)) (hg : (wr.alloc o).grownBy w1 v.ownBlock) (hr : ys.length = 1) : RInv w te z v1 (xs ++ ys) w1 :=
  ⟨by rw [List.length_append, hr]; exact ho, (h.2.alloc h.2.size o).grown hg (by have := h.2.size; simp; omega) (fun k hk => (h.1.lt k hk).1)⟩
theorem ownsRow_below {w w1 : World} {base : Nat} {te : TypeId} {z n : Nat} {v : Value} {xs : List Value} (hb : Below w.heap.size w w1) (h : w.ownsRow base te z v n xs) : w1.ownsRow base te z v n xs := by
  refine ⟨h.1, ?_⟩
  rcases h.2 with h | ⟨g, cap, cur, hv, hg, hh, r⟩
  · exact .inl h
  · refine .inr ⟨g, cap, cur, hv, hg, ?_, r⟩
    rw [hb.block g (by have := (Array.getElem?_eq_some_iff.1 hh).1; exact this)]
    exact hh
theorem rInv_later {w wr w1 : World} {te : TypeId} {z : Nat} {v : Value} {xs : List Value} (h : RInv w te z v xs wr) (hb : Below wr.heap.size wr w1) : RInv w te z v xs w1 :=
  ⟨ownsRow_below hb h.1, h.2.trans (hb.mono h.2.size)⟩

set_option maxRecDepth 100000 in
set_option maxHeartbeats 400000 in
theorem refGetInts_err (a : Option Addr) (n c : Nat) (l : List UInt8) (w : World) (hR : Rd w a l) (hn : Hid (n = l.length)) (hnc : n ≤ c) (hmax : c ≤ 9223372036854775807 ∧ n ≤ 4398046511104) (x : Int) (u : Nat) (er : Int) (hr : Hid (gl 1 l = (x, u, er))) (he : (er != 0) = true) :
    Calls Try.prog 29 #[.slice a n c] w (DecPost w.heap.size w 3 1 [] 0 0 er) := by
  have hR' := Lib.hid hR
  clear hR
  go_enter Try.func29, Try.ntmps29
  go_wp2_with (go_at_call 47; refine (refCount1_any _ _ _ _ _ hR'.out hn.out hnc hmax _ _ _ hr.out).mono ?_; rintro e w' ⟨rfl, hb⟩; have hb' := Lib.hid hb; clear hb)
  go_ret3
  exact decPost_err hb'.out

set_option maxRecDepth 100000 in
set_option maxHeartbeats 800000 in
theorem refGetInts_ok (b off n c : Nat) (l : List UInt8) (w : World) (hc : Hid (∀ i, i < l.length → w.cell? ⟨b, off + i, none⟩ = some (.int .u8 (byt l i)))) (hn : Hid (n = l.length)) (hnc : n ≤ c) (hmax : Hid (c ≤ 9223372036854775807 ∧ n ≤ 4398046511104)) (N u : Nat) (hr : Hid (gl 1 l = ((N : Int), u, 0))) (hN : N ≤ n) (hu : u ≤ n)
    (xs : List Int) (u1 : Nat) (er : Int) (hd : Hid (dlo gi l N u [] = (xs, u1, er))) :
    Calls Try.prog 29 #[.slice (some ⟨b, off, none⟩) n c] w (DecPost w.heap.size w 3 1 (ivs xs) xs.length u1 er) := by
  have hm1 := hmax.out.1
  have hm2 := hmax.out.2
  have hR' : Hid (Rd w (some ⟨b, off, none⟩) l) := Lib.hid (.inr ⟨b, off, rfl, hc.out⟩)
  obtain ⟨i0, hi, hz0, hz1, hz2⟩ := info_parts info_int
  go_enter Try.func29, Try.ntmps29
  go_wp2_with (go_at_call 47; refine (refCount1_any _ _ _ _ _ hR'.out hn.out hnc hmax.out _ _ _ hr.out).mono ?_; rintro e w' ⟨rfl, hb⟩; have hb' := Lib.hid hb; clear hb)
  go_loopw [6, 8, 9, 10, 11, 12] (fun t v i _ _ _ wr => ∃ k p : Nat, ∃ acc : List Int, k ≤ N ∧ i = .int .i64 k ∧ t = .int .i64 p ∧ p ≤ n ∧ acc.length = k ∧ dlo gi l (N - k) p acc = (xs, u1, er) ∧ RInv w 3 1 v (ivs acc) wr) (fun _ _ i _ _ _ _ => N - (intOf i).toNat)
  case atStart => exact ⟨0, u, [], Nat.zero_le _, rfl, rfl, hu, rfl, hd.out, World.ownsRow_nil _ _ _ _, hb'.out⟩
  case round =>
    obtain ⟨k, p, acc, hk, rfl, rfl, hp, hacc, hdl, hI⟩ := hrel
    have hbw := Lib.hid hI.2
    by_cases hlt : k < N
    · obtain ⟨x, k1, e1, hg⟩ : ∃ x k1 e1, gi (l.drop p) = (x, k1, e1) := ⟨_, _, _, rfl⟩
      have hg' := Lib.hid hg
      have hI' := Lib.hid hI
      have hdl' : Hid ((if e1 ≠ 0 then ([], 0, e1) else dlo gi l (N - k - 1) (p + k1) (acc ++ [x])) = (xs, u1, er)) := by
        rw [show N - k = (N - k - 1) + 1 from by omega] at hdl
        simp only [dlo, hg] at hdl
        exact hdl
      have hal : Hid ((ivs acc).length = k) := Lib.hid (by simp [ivs, hacc])
      have hacc' := Lib.hid hacc
      have hp0 : 0 ≤ (p : Int) := by omega
      have hp1 : (p : Int) ≤ (n : Int) := by omega
      have hp2 : (p : Int) ≤ (c : Int) := by omega
      have hk0 : (k : Int) < (N : Int) := by omega
      have hlen : Hid (n - p = (l.drop p).length) := Lib.hid (by rw [List.length_drop, ← hn.out])
      clear hg hI hdl hacc
      by_cases he : e1 = 0
      · subst he
        have hr1 := (gi_range _ _ _ hg'.out).2.2.1
        have hr2 := (gi_range _ _ _ hg'.out).2.2.2.2
        rw [enc_length] at hr2
        rw [List.length_drop, ← hn.out] at hr1
        have hcu : ¬ c = p := by omega
        have hz := hbw.out.size
        have hq1 : (p : Int) + (k1 : Int) ≤ (n : Int) := by omega
        have hRp : Hid (Rd wr (some ⟨b, off + p, none⟩) (l.drop p)) := Lib.hid (Rd_drop wr b off l (cells_below hbw.out hc.out) p)
        clear hr2
        go_wp2_with (first | (go_at_call 25; refine (refGetInt_any _ _ _ (l.drop p) _ hRp.out hlen.out (by omega) (by omega) x k1 0 hg'.out).mono ?_; rintro e w2 ⟨rfl, hb2⟩; have hI2 := Lib.hid (rInv_later hI'.out hb2); have hz2' := hb2.size; clear hb2) | (at_builtin; refine wpList_append_own _ rfl _ _ 22 rfl w.heap.size 3 i0 (.int .i64 0) 1 8 Try.underlying22 hi hz0 hz1 hz2 rfl (by decide) _ _ _ rfl (hI2.out.1.alloc _) ⟨w2.heap.size, 0, none⟩ 1 1 [.int .i64 x] rfl rfl (cell_one_new _ _ _) (by intro u hu; simp at hu; subst hu; rfl) (by rw [hal.out]; unfold maxLen; omega) (by rw [hal.out]; omega) (by simp; omega) ?_; intro v1 w1 ho1 hg1 _; have hI3 := Lib.hid (rInv_grow hI2.out ho1 hg1 rfl); clear ho1 hg1))
        refine ⟨⟨k + 1, p + k1, acc ++ [x], by omega, by simp, by simp, by omega, by simp [hacc'.out], ?_, ?_⟩, by simp [intOf]; omega⟩
        · have := hdl'.out
          rw [if_neg (by simp)] at this
          rw [show N - (k + 1) = N - k - 1 from by omega]
          exact this
        · rw [show ivs (acc ++ [x]) = ivs acc ++ [.int .i64 x] from by simp [ivs]]
          exact hI3.out
      · have he' : (e1 != 0) = true := by simpa using he
        have hfin := hdl'.out
        rw [if_pos he] at hfin
        simp only [Prod.mk.injEq] at hfin
        obtain ⟨rfl, rfl, rfl⟩ := hfin
        by_cases hcu : c = p
        · have hRp : Hid (Rd wr (some ⟨b, off, none⟩) (l.drop p)) := Lib.hid (by rw [List.drop_eq_nil_of_le (by rw [← hn.out]; omega)]; exact .inl rfl)
          go_wp2_with (go_at_call 25; refine (refGetInt_any _ _ _ (l.drop p) _ hRp.out hlen.out (by omega) (by omega) x k1 e1 hg'.out).mono ?_; rintro e w2 ⟨rfl, hb2⟩; have hI2 := Lib.hid (rInv_later hI'.out hb2); clear hb2)
          go_ret3
          exact decPost_err hI2.out.2
        · have hRp : Hid (Rd wr (some ⟨b, off + p, none⟩) (l.drop p)) := Lib.hid (Rd_drop wr b off l (cells_below hbw.out hc.out) p)
          go_wp2_with (go_at_call 25; refine (refGetInt_any _ _ _ (l.drop p) _ hRp.out hlen.out (by omega) (by omega) x k1 e1 hg'.out).mono ?_; rintro e w2 ⟨rfl, hb2⟩; have hI2 := Lib.hid (rInv_later hI'.out hb2); clear hb2)
          go_ret3
          exact decPost_err hI2.out.2
    · have hk' : k = N := by omega
      subst hk'
      rw [Nat.sub_self] at hdl
      simp only [dlo, Prod.mk.injEq] at hdl
      obtain ⟨rfl, rfl, rfl⟩ := hdl
      have hI' := Lib.hid hI
      have hal : Hid ((ivs acc).length = acc.length) := Lib.hid (by simp [ivs])
      clear hI
      go_wp2
      go_ret3
      exact ⟨_, rfl, by have := hI'.out.1; rwa [hal.out] at this, hI'.out.2⟩

theorem refGetInts_any (a : Option Addr) (n c : Nat) (l : List UInt8) (w : World) (hR : Rd w a l) (hn : n = l.length) (hnc : n ≤ c) (hmax : c ≤ 9223372036854775807 ∧ n ≤ 4398046511104) (xs : List Int) (u : Nat) (er : Int) (hd : dls 1 gi l = (xs, u, er)) :
    Calls Try.prog 29 #[.slice a n c] w (DecPost w.heap.size w 3 1 (ivs xs) xs.length u er) := by
  obtain ⟨x0, u0, e0, h0⟩ : ∃ x0 u0 e0, gl 1 l = (x0, u0, e0) := ⟨_, _, _, rfl⟩
  simp only [dls, h0] at hd
  by_cases c1 : e0 ≠ 0
  · rw [if_pos c1] at hd
    simp only [Prod.mk.injEq] at hd
    obtain ⟨rfl, rfl, rfl⟩ := hd
    exact refGetInts_err a n c l w hR hn hnc hmax _ _ _ h0 (by simpa using c1)
  · rw [if_neg c1] at hd
    have c1' : e0 = 0 := by omega
    subst c1'
    obtain ⟨g1, g2, g3⟩ := gl_small 1 (by omega) l x0 u0 h0
    obtain ⟨N, rfl⟩ := Int.eq_ofNat_of_zero_le g1
    simp only [Int.toNat_natCast] at hd g2
    rcases hR with rfl | ⟨b, off, rfl, hc⟩
    · simp at g2; omega
    · exact refGetInts_ok b off n c l w hc hn hnc hmax N u0 h0 (by omega) (by omega) xs u er hd

end Go.Proofs.Ytfodockdhecbpaa
