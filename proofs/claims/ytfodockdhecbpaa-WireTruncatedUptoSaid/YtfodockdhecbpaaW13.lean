/- wire.GetDigests: the loop. -/
import Derived.Test.YtfodockdhecbpaaW12
namespace Go.Proofs.Ytfodockdhecbpaa
open Go.RowKit

/-- digests as values, one after the other -/
def dvs (l : List (List UInt8)) : List Value := bvs (l.flatMap id)
theorem dvs_snoc (l : List (List UInt8)) (d : List UInt8) : dvs (l ++ [d]) = dvs l ++ bvs d := by simp [dvs, bvs]

set_option maxRecDepth 100000 in
set_option maxHeartbeats 400000 in
theorem getListDig_err (a : Option Addr) (n c : Nat) (l : List UInt8) (w : World) (hR : Rd w a l) (hn : Hid (n = l.length)) (hnc : n ≤ c) (hmax : c ≤ 9223372036854775807 ∧ n ≤ 4611686018427387904) (x : Int) (u : Nat) (er : Int) (hr : Hid (gl 16 l = (x, u, er))) (he : (er != 0) = true) :
    Calls Try.prog 50 #[.slice a n c, .int .i64 16, .func (.func 51) #[] #[]] w (DecPost w.heap.size w 57 16 [] 0 0 er) := by
  have hb := Lib.hid (boxed2_below w (.slice a n c) (.func (.func 51) #[] #[]) 73)
  have hR' := Lib.hid (Rd_below hb.out hR)
  clear hR
  go_enter Try.func50, Try.ntmps50
  go_wp2_with (go_at_call 46; refine (getLen_any _ _ _ 16 l _ hR'.out hn.out hnc (by omega) (by omega) (by omega) x u er hr.out).mono ?_; rintro e w' ⟨rfl, rfl⟩)
  go_ret3
  exact decPost_err (hb.out.alloc (by simp; omega) _)

/-- the cells of a digest within the bytes -/
theorem dig_at {w : World} {b off : Nat} {l : List UInt8} (hc : ∀ i, i < l.length → w.cell? ⟨b, off + i, none⟩ = some (.int .u8 (byt l i))) (v : Nat) (hv : v + 16 ≤ l.length) :
    ∀ j u', (bvs ((l.drop v).take 16))[j]? = some u' → w.cell? ((⟨b, off + v, none⟩ : Addr).add j) = some u' := by
  intro j u' hu
  have ha : (⟨b, off + v, none⟩ : Addr).add j = ⟨b, off + v + j, none⟩ := by unfold Addr.add; split <;> simp_all
  have hj : j < 16 := by
    rcases Nat.lt_or_ge j 16 with h | h
    · exact h
    · rw [List.getElem?_eq_none (by simp [bvs]; omega)] at hu
      cases hu
  rw [ha, show off + v + j = off + (v + j) from by omega, hc _ (by omega), ← hu]
  have hvj : v + j < l.length := by omega
  simp [bvs, byt, List.getElem?_take, hj, hvj]

/-- k digests from place u on -/
def digs (l : List UInt8) (u : Nat) : Nat → List (List UInt8)
  | 0 => []
  | k + 1 => digs l u k ++ [(l.drop (u + 16 * k)).take 16]
theorem digs_length (l : List UInt8) (u k : Nat) : (digs l u k).length = k := by
  induction k with
  | zero => rfl
  | succ k ih => simp [digs, ih]

set_option maxRecDepth 100000 in
set_option maxHeartbeats 800000 in
theorem getListDig_ok (b off n c : Nat) (l : List UInt8) (w : World) (hc : ∀ i, i < l.length → w.cell? ⟨b, off + i, none⟩ = some (.int .u8 (byt l i))) (hn : Hid (n = l.length)) (hnc : n ≤ c) (hmax : c ≤ 9223372036854775807 ∧ n ≤ 4611686018427387904) (N : Nat) (u : Nat) (hr : Hid (gl 16 l = ((N : Int), u, 0))) (hN : N ≤ 4398046511104) (hu : u + 16 * N ≤ n) :
    Calls Try.prog 50 #[.slice (some ⟨b, off, none⟩) n c, .int .i64 16, .func (.func 51) #[] #[]] w (DecPost w.heap.size w 57 16 (dvs (digs l u N)) N (u + 16 * N) 0) := by
  have hb := Lib.hid (boxed2_below w (.slice (some ⟨b, off, none⟩) n c) (.func (.func 51) #[] #[]) 73)
  have hR' := Lib.hid (Rd_below hb.out (.inr ⟨b, off, rfl, hc⟩ : Rd w (some ⟨b, off, none⟩) l))
  have hc' := Lib.hid hc
  clear hc
  obtain ⟨i0, hi, hz0, hz1, hz2⟩ := info_parts info_dig
  go_enter Try.func50, Try.ntmps50
  have hsz := Lib.hid hb.out.size
  go_wp2_with (first | (go_at_call 46; refine (getLen_any _ _ _ 16 l _ hR'.out hn.out hnc (by omega) (by omega) (by omega) _ _ _ hr.out).mono ?_; rintro e w' ⟨rfl, rfl⟩) | (at_make; refine wpList_make_own _ rfl _ _ 24 rfl (w.heap.size + 3) 57 i0 (.agg zero16) 16 Try.underlying24 hi hz0 hz1 .i64 .i64 (N : Int) N rfl rfl rfl (by rw [hz2]; omega) (by unfold maxLen; omega) (by simp) ?_; intro w1 hown hgrow; have hG := Lib.hid (ginv_start (tl := 24) hown (by simp) hgrow); clear hown hgrow))
  go_loopw [29] (fun i wr => ∃ k : Nat, k ≤ N ∧ i = .int .i64 k ∧
      GInv w.heap.size w1.heap.size w wr (.slice (some ⟨b, off, none⟩) n c) (.func (.func 51) #[] #[]) 73 24 57 16 (u + 16 * k) k (dvs (digs l u k))) (fun i _ => N - (intOf i).toNat)
  case atStart => exact ⟨0, Nat.zero_le _, rfl, hG.out⟩
  case round =>
    obtain ⟨k, hk, rfl, hI⟩ := hrel
    by_cases hlt : k < N
    · have hv : u + 16 * k + 16 ≤ n := by omega
      have hd16 : Hid (((l.drop (u + 16 * k)).take 16).length = 16) := Lib.hid (by simp; rw [← hn.out]; omega)
      have hcd := Lib.hid (dig_at (cells_below hI.below hc'.out) (u + 16 * k) (by rw [← hn.out]; exact hv))
      have hI' := Lib.hid hI
      clear hI
      go_wp2_with (go_at_call 54; refine (cloDig_ok w.heap.size w1.heap.size w wr b off n c (u + 16 * k) _ ((l.drop (u + 16 * k)).take 16) _ _ hI'.out hd16 hcd.out hnc hmax hv (by omega)).mono ?_; rintro e w2 ⟨rfl, hst⟩; have hI2 := Lib.hid hst; clear hst)
      refine ⟨⟨k + 1, by omega, by simp, ?_⟩, by simp [intOf]; omega⟩
      have := hI2.out
      rw [← dvs_snoc] at this
      rw [show u + 16 * (k + 1) = u + 16 * k + 16 from by omega]
      exact this
    · have hk' : k = N := by omega
      subst hk'
      have cu := cell_of_one hI.u
      obtain ⟨lv, hlv, hown⟩ := hI.l
      have cl := cell_of_one hlv
      have hI' := Lib.hid hI
      have hown' := Lib.hid hown
      clear hI hown hlv
      go_wp2
      go_quiet (fail)
      go_wp2
      go_ret3
      exact ⟨lv, rfl, ownsRow_base (ownsRow_drewN hown'.out _) (by omega), below_drewN hI'.out.below _⟩

/-- decoding a list of digests -/
def dds (l : List UInt8) : List (List UInt8) × Nat × Int :=
  if (gl 16 l).2.2 ≠ 0 then ([], 0, (gl 16 l).2.2) else (digs l (gl 16 l).2.1 (gl 16 l).1.toNat, (gl 16 l).2.1 + 16 * (gl 16 l).1.toNat, 0)

theorem getListDig_any (a : Option Addr) (n c : Nat) (l : List UInt8) (w : World) (hR : Rd w a l) (hn : n = l.length) (hnc : n ≤ c) (hmax : c ≤ 9223372036854775807 ∧ n ≤ 4611686018427387904) (hsm : n ≤ 4398046511104) (xs : List (List UInt8)) (u : Nat) (er : Int) (hd : dds l = (xs, u, er)) :
    Calls Try.prog 50 #[.slice a n c, .int .i64 16, .func (.func 51) #[] #[]] w (DecPost w.heap.size w 57 16 (dvs xs) xs.length u er) := by
  obtain ⟨x0, u0, e0, h0⟩ : ∃ x0 u0 e0, gl 16 l = (x0, u0, e0) := ⟨_, _, _, rfl⟩
  simp only [dds, h0] at hd
  by_cases c1 : e0 ≠ 0
  · rw [if_pos c1] at hd
    simp only [Prod.mk.injEq] at hd
    obtain ⟨rfl, rfl, rfl⟩ := hd
    exact getListDig_err a n c l w hR hn hnc hmax _ _ _ h0 (by simpa using c1)
  · rw [if_neg c1] at hd
    have c1' : e0 = 0 := by omega
    subst c1'
    obtain ⟨g1, g2, g3, g4, g5, g6⟩ := gl_ok 16 (by omega) l x0 u0 h0
    obtain ⟨N, rfl⟩ := Int.eq_ofNat_of_zero_le g2
    simp only [Int.toNat_natCast, Prod.mk.injEq] at hd
    obtain ⟨rfl, rfl, rfl⟩ := hd
    rcases hR with rfl | ⟨b, off, rfl, hc⟩
    · simp at g3; omega
    · rw [digs_length]
      exact getListDig_ok b off n c l w hc hn hnc hmax N u0 h0 (by omega) (by omega)

set_option maxRecDepth 100000 in
set_option maxHeartbeats 400000 in
theorem GetDigests_any (a : Option Addr) (n c : Nat) (l : List UInt8) (w : World) (hR : Rd w a l) (hn : n = l.length) (hnc : n ≤ c) (hmax : c ≤ 9223372036854775807 ∧ n ≤ 4611686018427387904) (hsm : n ≤ 4398046511104) (xs : List (List UInt8)) (u : Nat) (er : Int) (hd : dds l = (xs, u, er)) :
    Calls Try.prog 34 #[.slice a n c] w (DecPost w.heap.size w 57 16 (dvs xs) xs.length u er) := by
  have hR' := Lib.hid hR
  have hn' := Lib.hid hn
  have hd' := Lib.hid hd
  clear hR hn hd
  go_enter Try.func34, Try.ntmps34
  go_wp2_with (go_at_call 50; refine (getListDig_any _ _ _ l _ hR'.out hn'.out hnc hmax hsm _ _ _ hd'.out).mono ?_; rintro e w' ⟨v, rfl, ho, hb⟩; have ho' := Lib.hid ho; have hb' := Lib.hid hb; clear ho hb)
  go_ret3
  exact ⟨v, rfl, ho'.out, hb'.out⟩

end Go.Proofs.Ytfodockdhecbpaa
