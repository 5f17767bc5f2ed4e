/- sherdref01.GetStrings: the reference's decoding of lists of byte strings. -/
import Derived.Test.YtfodockdhecbpaaR4
namespace Go.Proofs.Ytfodockdhecbpaa
open Go.RowKit

theorem gb_used (l s : List UInt8) (k : Nat) (h : gb l = (s, k, 0)) : k ≤ l.length ∧ 1 ≤ k := by
  obtain ⟨x0, u0, e0, h0⟩ : ∃ x0 u0 e0, gl 1 l = (x0, u0, e0) := ⟨_, _, _, rfl⟩
  simp only [gb, h0] at h
  by_cases c1 : e0 ≠ 0
  · rw [if_pos c1] at h
    simp only [Prod.mk.injEq] at h
    omega
  · rw [if_neg c1] at h
    have c1' : e0 = 0 := by omega
    subst c1'
    obtain ⟨g1, g2, g3⟩ := gl_small 1 (by omega) l x0 u0 h0
    simp only [Prod.mk.injEq] at h
    omega

set_option maxRecDepth 100000 in
set_option maxHeartbeats 400000 in
theorem refGetStrings_err (a : Option Addr) (n c : Nat) (l : List UInt8) (w : World) (hR : Rd w a l) (hn : Hid (n = l.length)) (hnc : n ≤ c) (hmax : c ≤ 9223372036854775807 ∧ n ≤ 4398046511104) (x : Int) (u : Nat) (er : Int) (hr : Hid (gl 1 l = (x, u, er))) (he : (er != 0) = true) :
    Calls Try.prog 32 #[.slice a n c] w (DecPost w.heap.size w 9 1 [] 0 0 er) := by
  have hR' := Lib.hid hR
  clear hR
  go_enter Try.func32, Try.ntmps32
  go_wp2_with (go_at_call 47; refine (refCount1_any _ _ _ _ _ hR'.out hn.out hnc hmax _ _ _ hr.out).mono ?_; rintro e w' ⟨rfl, hb⟩; have hb' := Lib.hid hb; clear hb)
  go_ret3
  exact decPost_err hb'.out

set_option maxRecDepth 100000 in
set_option maxHeartbeats 800000 in
theorem refGetStrings_ok (b off n c : Nat) (l : List UInt8) (w : World) (hc : Hid (∀ i, i < l.length → w.cell? ⟨b, off + i, none⟩ = some (.int .u8 (byt l i)))) (hn : Hid (n = l.length)) (hnc : n ≤ c) (hmax : Hid (c ≤ 9223372036854775807 ∧ n ≤ 4398046511104)) (N u : Nat) (hr : Hid (gl 1 l = ((N : Int), u, 0))) (hN : N ≤ n) (hu : u ≤ n)
    (xs : List (List UInt8)) (u1 : Nat) (er : Int) (hd : Hid (dlo gb l N u [] = (xs, u1, er))) :
    Calls Try.prog 32 #[.slice (some ⟨b, off, none⟩) n c] w (DecPost w.heap.size w 9 1 (svs xs) xs.length u1 er) := by
  have hm1 := hmax.out.1
  have hm2 := hmax.out.2
  have hR' : Hid (Rd w (some ⟨b, off, none⟩) l) := Lib.hid (.inr ⟨b, off, rfl, hc.out⟩)
  obtain ⟨i0, hi, hz0, hz1, hz2⟩ := info_parts info_str
  go_enter Try.func32, Try.ntmps32
  go_wp2_with (go_at_call 47; refine (refCount1_any _ _ _ _ _ hR'.out hn.out hnc hmax.out _ _ _ hr.out).mono ?_; rintro e w' ⟨rfl, hb⟩; have hb' := Lib.hid hb; clear hb)
  go_loopw [6, 8, 9, 10, 11, 12] (fun t v i _ _ _ wr => ∃ k p : Nat, ∃ acc : List (List UInt8), k ≤ N ∧ i = .int .i64 k ∧ t = .int .i64 p ∧ p ≤ n ∧ acc.length = k ∧ dlo gb l (N - k) p acc = (xs, u1, er) ∧ RInv w 9 1 v (svs acc) wr) (fun _ _ i _ _ _ _ => N - (intOf i).toNat)
  case atStart => exact ⟨0, u, [], Nat.zero_le _, rfl, rfl, hu, rfl, hd.out, World.ownsRow_nil _ _ _ _, hb'.out⟩
  case round =>
    obtain ⟨k, p, acc, hk, rfl, rfl, hp, hacc, hdl, hI⟩ := hrel
    have hbw := Lib.hid hI.2
    by_cases hlt : k < N
    · obtain ⟨x, k1, e1, hg⟩ : ∃ x k1 e1, gb (l.drop p) = (x, k1, e1) := ⟨_, _, _, rfl⟩
      have hg' := Lib.hid hg
      have hI' := Lib.hid hI
      have hdl' : Hid ((if e1 ≠ 0 then ([], 0, e1) else dlo gb l (N - k - 1) (p + k1) (acc ++ [x])) = (xs, u1, er)) := by
        rw [show N - k = (N - k - 1) + 1 from by omega] at hdl
        simp only [dlo, hg] at hdl
        exact hdl
      have hal : Hid ((svs acc).length = k) := Lib.hid (by simp [svs, hacc])
      have hacc' := Lib.hid hacc
      have hp0 : 0 ≤ (p : Int) := by omega
      have hp1 : (p : Int) ≤ (n : Int) := by omega
      have hp2 : (p : Int) ≤ (c : Int) := by omega
      have hk0 : (k : Int) < (N : Int) := by omega
      have hlen : Hid (n - p = (l.drop p).length) := Lib.hid (by rw [List.length_drop, ← hn.out])
      clear hg hI hdl hacc
      by_cases he : e1 = 0
      · subst he
        obtain ⟨hr1, hr2⟩ := gb_used _ _ _ hg'.out
        rw [List.length_drop, ← hn.out] at hr1
        have hcu : ¬ c = p := by omega
        have hz := hbw.out.size
        have hq1 : (p : Int) + (k1 : Int) ≤ (n : Int) := by omega
        have hRp : Hid (Rd wr (some ⟨b, off + p, none⟩) (l.drop p)) := Lib.hid (Rd_drop wr b off l (cells_below hbw.out hc.out) p)
        clear hr2
        go_wp2_with (first | (go_at_call 27; refine (refGetBytes_any _ _ _ (l.drop p) _ hRp.out hlen.out (by omega) (by omega) x k1 0 hg'.out).mono ?_; rintro e w2 ⟨rfl, hb2⟩; have hI2 := Lib.hid (rInv_later hI'.out hb2); have hz2' := hb2.size; clear hb2) | (at_builtin; refine wpList_append_own _ rfl _ _ 23 rfl w.heap.size 9 i0 (.string ByteArray.empty) 1 16 Try.underlying23 hi hz0 hz1 hz2 rfl (by decide) _ _ _ rfl (hI2.out.1.alloc _) ⟨w2.heap.size, 0, none⟩ 1 1 [.string (bs x)] rfl rfl (cell_one_new _ _ _) (by intro u hu; simp at hu; subst hu; rfl) (by rw [hal.out]; unfold maxLen; omega) (by rw [hal.out]; omega) (by simp; omega) ?_; intro v1 w1 ho1 hg1 _; have hI3 := Lib.hid (rInv_grow hI2.out ho1 hg1 rfl); clear ho1 hg1))
        refine ⟨⟨k + 1, p + k1, acc ++ [x], by omega, by simp, by simp, by omega, by simp [hacc'.out], ?_, ?_⟩, by simp [intOf]; omega⟩
        · have := hdl'.out
          rw [if_neg (by simp)] at this
          rw [show N - (k + 1) = N - k - 1 from by omega]
          exact this
        · rw [show svs (acc ++ [x]) = svs acc ++ [.string (bs x)] from by simp [svs]]
          exact hI3.out
      · have he' : (e1 != 0) = true := by simpa using he
        have hfin := hdl'.out
        rw [if_pos he] at hfin
        simp only [Prod.mk.injEq] at hfin
        obtain ⟨rfl, rfl, rfl⟩ := hfin
        by_cases hcu : c = p
        · have hRp : Hid (Rd wr (some ⟨b, off, none⟩) (l.drop p)) := Lib.hid (by rw [List.drop_eq_nil_of_le (by rw [← hn.out]; omega)]; exact .inl rfl)
          go_wp2_with (go_at_call 27; refine (refGetBytes_any _ _ _ (l.drop p) _ hRp.out hlen.out (by omega) (by omega) x k1 e1 hg'.out).mono ?_; rintro e w2 ⟨rfl, hb2⟩; have hI2 := Lib.hid (rInv_later hI'.out hb2); clear hb2)
          go_ret3
          exact decPost_err hI2.out.2
        · have hRp : Hid (Rd wr (some ⟨b, off + p, none⟩) (l.drop p)) := Lib.hid (Rd_drop wr b off l (cells_below hbw.out hc.out) p)
          go_wp2_with (go_at_call 27; refine (refGetBytes_any _ _ _ (l.drop p) _ hRp.out hlen.out (by omega) (by omega) x k1 e1 hg'.out).mono ?_; rintro e w2 ⟨rfl, hb2⟩; have hI2 := Lib.hid (rInv_later hI'.out hb2); clear hb2)
          go_ret3
          exact decPost_err hI2.out.2
    · have hk' : k = N := by omega
      subst hk'
      rw [Nat.sub_self] at hdl
      simp only [dlo, Prod.mk.injEq] at hdl
      obtain ⟨rfl, rfl, rfl⟩ := hdl
      have hI' := Lib.hid hI
      have hal : Hid ((svs acc).length = acc.length) := Lib.hid (by simp [svs])
      clear hI
      go_wp2
      go_ret3
      exact ⟨_, rfl, by have := hI'.out.1; rwa [hal.out] at this, hI'.out.2⟩

theorem refGetStrings_any (a : Option Addr) (n c : Nat) (l : List UInt8) (w : World) (hR : Rd w a l) (hn : n = l.length) (hnc : n ≤ c) (hmax : c ≤ 9223372036854775807 ∧ n ≤ 4398046511104) (xs : List (List UInt8)) (u : Nat) (er : Int) (hd : dls 1 gb l = (xs, u, er)) :
    Calls Try.prog 32 #[.slice a n c] w (DecPost w.heap.size w 9 1 (svs xs) xs.length u er) := by
  obtain ⟨x0, u0, e0, h0⟩ : ∃ x0 u0 e0, gl 1 l = (x0, u0, e0) := ⟨_, _, _, rfl⟩
  simp only [dls, h0] at hd
  by_cases c1 : e0 ≠ 0
  · rw [if_pos c1] at hd
    simp only [Prod.mk.injEq] at hd
    obtain ⟨rfl, rfl, rfl⟩ := hd
    exact refGetStrings_err a n c l w hR hn hnc hmax _ _ _ h0 (by simpa using c1)
  · rw [if_neg c1] at hd
    have c1' : e0 = 0 := by omega
    subst c1'
    obtain ⟨g1, g2, g3⟩ := gl_small 1 (by omega) l x0 u0 h0
    obtain ⟨N, rfl⟩ := Int.eq_ofNat_of_zero_le g1
    simp only [Int.toNat_natCast] at hd g2
    rcases hR with rfl | ⟨b, off, rfl, hc⟩
    · simp at g2; omega
    · exact refGetStrings_ok b off n c l w hc hn hnc hmax N u0 h0 (by omega) (by omega) xs u er hd

end Go.Proofs.Ytfodockdhecbpaa
