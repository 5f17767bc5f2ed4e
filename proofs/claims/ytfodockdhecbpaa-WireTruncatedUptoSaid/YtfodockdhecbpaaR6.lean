/- sherdref01.GetDigests: the reference's decoding of lists of digests. -/
import Derived.Test.YtfodockdhecbpaaR5
namespace Go.Proofs.Ytfodockdhecbpaa
open Go.RowKit

theorem cells_set {w : World} {g i : Nat} {cs : Array Value} {t : TypeId} (h : w.heap[g]? = some (.cells cs t (0, 0))) (v : Value) : (w.setCell ⟨g, i, none⟩ v).heap[g]? = some (.cells (cs.setIfInBounds i v) t (0, 0)) := by
  have hlt := lt_of_block h
  have h' : w.heap[g] = .cells cs t (0, 0) := by simpa [Array.getElem?_eq_getElem hlt] using h
  show (w.heap.modify g _)[g]? = _
  rw [Array.getElem?_eq_getElem (by simpa using hlt), Array.getElem_modify_self, h']
  rfl
theorem cells_at {w : World} {g i : Nat} {cs : Array Value} {t : TypeId} {v : Value} (h : w.heap[g]? = some (.cells cs t (0, 0))) (hv : cs[i]? = some v) : w.cell? ⟨g, i, none⟩ = some v := by simp [World.cell?, h, hv]
theorem cells_free {w : World} {g i : Nat} {cs : Array Value} {t : TypeId} (h : w.heap[g]? = some (.cells cs t (0, 0))) : w.frozen? ⟨g, i, none⟩ = false := by simp [World.frozen?, h]

/-- a digest of which i bytes have been written -/
def part16 (d : List UInt8) (i : Nat) : Array Value := (bvs (d.take i ++ (List.replicate 16 0).drop i)).toArray
theorem part16_0 (d : List UInt8) : part16 d 0 = zero16 := by rfl
theorem part16_16 (d : List UInt8) (h : d.length = 16) : part16 d 16 = (bvs d).toArray := by
  unfold part16
  rw [List.take_of_length_le (by omega), List.drop_eq_nil_of_le (by simp), List.append_nil]
theorem part16_size (d : List UInt8) (i : Nat) (h : d.length = 16) (hi : i ≤ 16) : (part16 d i).size = 16 := by
  simp [part16, bvs, h]; omega
theorem part16_step (d : List UInt8) (i : Nat) (h : d.length = 16) (hi : i < 16) : (part16 d i).setIfInBounds i (.int .u8 (byt d i)) = part16 d (i + 1) := by
  have hil : i < d.length := by omega
  have hb : byt d i = ((d[i]'hil).toNat : Int) := by unfold byt; simp [hil]
  have e : (List.replicate 16 (0 : UInt8)).drop i = 0 :: (List.replicate 16 (0 : UInt8)).drop (i + 1) := by
    rw [List.drop_replicate, List.drop_replicate, show 16 - i = (16 - (i + 1)) + 1 from by omega, List.replicate_succ]
  unfold part16
  apply Array.toList_inj.1
  rw [Array.toList_setIfInBounds, e, List.take_succ_eq_append_getElem hil, hb]
  generalize (List.replicate 16 (0 : UInt8)).drop (i + 1) = R
  simp only [bvs, List.map_append, List.map_cons, List.map_nil]
  rw [List.set_append_right _ _ (by simp; omega)]
  have hl : i - ((d.take i).map fun b => Value.int .u8 (b.toNat : Int)).length = 0 := by rw [List.length_map, List.length_take]; omega
  rw [hl, List.set_cons_zero, List.append_assoc]
  rfl

set_option maxRecDepth 100000 in
set_option maxHeartbeats 400000 in
theorem refGetDigests_err (a : Option Addr) (n c : Nat) (l : List UInt8) (w : World) (hR : Rd w a l) (hn : Hid (n = l.length)) (hnc : n ≤ c) (hmax : c ≤ 9223372036854775807 ∧ n ≤ 4398046511104) (x : Int) (u : Nat) (er : Int) (hr : Hid (gl 16 l = (x, u, er))) (he : (er != 0) = true) :
    Calls Try.prog 35 #[.slice a n c] w (DecPost w.heap.size w 57 16 [] 0 0 er) := by
  have hR' := Lib.hid hR
  clear hR
  go_enter Try.func35, Try.ntmps35
  go_wp2_with (go_at_call 47; refine (refCount16_any _ _ _ _ _ hR'.out hn.out hnc hmax _ _ _ hr.out).mono ?_; rintro e w' ⟨rfl, hb⟩; have hb' := Lib.hid hb; clear hb)
  go_ret3
  exact decPost_err hb'.out

set_option maxRecDepth 100000 in
set_option maxHeartbeats 800000 in
theorem refGetDigests_ok (b off n c : Nat) (l : List UInt8) (w : World) (hc : Hid (∀ i, i < l.length → w.cell? ⟨b, off + i, none⟩ = some (.int .u8 (byt l i)))) (hn : Hid (n = l.length)) (hnc : n ≤ c) (hmax : Hid (c ≤ 9223372036854775807 ∧ n ≤ 4398046511104)) (N u : Nat) (hr : Hid (gl 16 l = ((N : Int), u, 0))) (hu : u + 16 * N ≤ n) :
    Calls Try.prog 35 #[.slice (some ⟨b, off, none⟩) n c] w (DecPost w.heap.size w 57 16 (dvs (digs l u N)) N (u + 16 * N) 0) := by
  have hm1 := hmax.out.1
  have hm2 := hmax.out.2
  have hR' : Hid (Rd w (some ⟨b, off, none⟩) l) := Lib.hid (.inr ⟨b, off, rfl, hc.out⟩)
  obtain ⟨i0, hi, hz0, hz1, hz2⟩ := info_parts info_dig
  go_enter Try.func35, Try.ntmps35
  go_wp2_with (go_at_call 47; refine (refCount16_any _ _ _ _ _ hR'.out hn.out hnc hmax.out _ _ _ hr.out).mono ?_; rintro e w' ⟨rfl, hb⟩; have hb' := Lib.hid hb; clear hb)
  have hcd : Hid (∀ k, k < N → ((l.drop (u + 16 * k)).take 16).length = 16 ∧ ∀ i, i < 16 → byt ((l.drop (u + 16 * k)).take 16) i = byt l (u + 16 * k + i)) := Lib.hid (fun k hk => ⟨by simp; rw [← hn.out]; omega, fun i hi => byt_sub l _ _ _ hi⟩)
  go_loopw [6, 8, 9, 10, 11] (fun t v i _ _ wr => ∃ k : Nat, k ≤ N ∧ i = .int .i64 k ∧ t = .int .i64 (u + 16 * k : Nat) ∧ wr.ownsRow w.heap.size 57 16 v k (dvs (digs l u k)) ∧ Below w.heap.size w wr) (fun _ _ i _ _ _ => N - (intOf i).toNat)
  case atStart => exact ⟨0, Nat.zero_le _, rfl, rfl, World.ownsRow_nil _ _ _ _, hb'.out⟩
  case round =>
    obtain ⟨k, hk, rfl, rfl, ho, hb⟩ := hrel
    by_cases hlt : k < N
    · obtain ⟨hd16, hbt⟩ := hcd.out k hlt
      have hd16' := Lib.hid hd16
      have hv : u + 16 * k + 16 ≤ n := by omega
      have hcl := Lib.hid (cells_below hb hc.out)
      have hln : n ≤ l.length := by rw [← hn.out]; exact Nat.le_refl _
      have hsn := Lib.hid (show dvs (digs l u (k + 1)) = dvs (digs l u k) ++ bvs ((l.drop (u + 16 * k)).take 16) from dvs_snoc _ _)
      have hbt' := Lib.hid hbt
      have ho' := Lib.hid ho
      have hb1 := Lib.hid hb
      have hz := hb.size
      clear hd16 hbt ho hb
      generalize (l.drop (u + 16 * k)).take 16 = d at *
      have hp1 : (((u + 16 * k : Nat)) : Int) + 16 ≤ (n : Int) := by omega
      have hp0 : 0 ≤ (((u + 16 * k : Nat)) : Int) := by omega
      have hk0 : (k : Int) < (N : Int) := by omega
      have hstep : Hid ((((u + 16 * k : Nat)) : Int) + 16 = (((u + 16 * (k + 1) : Nat)) : Int)) := Lib.hid (by omega)
      generalize hpe : u + 16 * k = p at *
      go_wp2
      obtain ⟨wo, rfl⟩ : ∃ wo : World, wo = wr := ⟨_, rfl⟩
      go_loopw [11] (fun i w2 => ∃ j : Nat, j ≤ 16 ∧ i = .int .i64 j ∧ w2.heap[wo.heap.size]? = some (.cells (part16 d j) 57 (0, 0)) ∧ Below wo.heap.size wo w2) (fun i _ => 16 - (intOf i).toNat)
      case atStart => exact ⟨0, Nat.zero_le _, rfl, by rw [part16_0]; exact heap_alloc_new _ _, (Below.refl _ _).alloc (Nat.le_refl _) _⟩
      case round =>
        obtain ⟨j, hj, rfl, hg, hb2⟩ := hrel
        by_cases hj16 : j < 16
        · have hcj : wr.cell? ⟨b, off + (p + j), none⟩ = some (.int .u8 (byt d j)) := by rw [hbt'.out j hj16]; exact Below.cell_of' hb2 (hcl.out (p + j) (by omega))
          have hj0 : 0 ≤ (j : Int) := by omega
          have hj1 : (j : Int) < 16 := by omega
          have hj2 : (p : Int) + (j : Int) < (n : Int) := by omega
          have hj3 : 0 ≤ (p : Int) + (j : Int) := by omega
          have hfr := cells_free (i := j) hg
          obtain ⟨old, hold⟩ : ∃ old, wr.cell? ⟨wo.heap.size, j, none⟩ = some old := ⟨_, cells_at hg (Array.getElem?_eq_getElem (by rw [part16_size d j hd16'.out hj]; exact hj16))⟩
          have hg' := Lib.hid hg
          have hb2' := Lib.hid hb2
          have hlo := byt_lo d j
          have hhi := byt_hi d j
          clear hg hb2
          go_wp2
          refine ⟨⟨j + 1, by omega, by simp, ?_, ?_⟩, by simp [intOf]; omega⟩
          · rw [← part16_step d j hd16'.out hj16]; exact cells_set hg'.out _
          · exact hb2'.out.setCell (Nat.le_refl _) _
        · have hj' : j = 16 := by omega
          subst hj'
          rw [part16_16 d hd16'.out] at hg
          have hbc : Hid (∀ j u, (bvs d)[j]? = some u → wr.cell? ((⟨wo.heap.size, 0, none⟩ : Addr).add j) = some u) := Lib.hid (by
            intro j u hu
            have ha : (⟨wo.heap.size, 0, none⟩ : Addr).add j = ⟨wo.heap.size, j, none⟩ := by unfold Addr.add; split <;> simp_all
            rw [ha]
            simp only [World.cell?, hg]
            simpa using hu)
          have hbl : (bvs d).length = 16 := by rw [bvs_length, hd16'.out]
          have hsz := Lib.hid (show (Try.prog.info? 57).map (·.size) = some (bvs d).length by rw [hbl]; kernel_rfl)
          have hbl' := Lib.hid (show (bvs d).length = 1 * 16 by rw [hbl])
          have hnew := Lib.hid (box_cells wr d)
          have hbd := build_digest d hd16'.out
          have ho2 := Lib.hid (ownsRow_below hb2 ho'.out)
          have hb3 := Lib.hid (hb1.out.trans (hb2.mono hz))
          have hz3 := hb3.out.size
          clear hg hb2
          go_wp2_with (first | (refine wpList_load_cells rfl 57 _ rfl ⟨wo.heap.size, 0, none⟩ rfl (bvs d) _ hbc.out Try.underlying57 rfl hsz.out ?_) | (at_builtin; refine wpList_append_own _ rfl _ _ 24 rfl w.heap.size 57 i0 (.agg zero16) 16 16 Try.underlying24 hi hz0 hz1 hz2 rfl (by decide) _ _ _ rfl (ho2.out.alloc _) ⟨wr.heap.size, 0, none⟩ 1 1 (bvs d) rfl hbl'.out hnew.out (bvs_one _) (by unfold maxLen; omega) (by omega) (by simp; omega) ?_; intro v1 w1 hown1 hgrow1 _; have hfin := Lib.hid hown1; have hgr := Lib.hid hgrow1; clear hown1 hgrow1))
          refine ⟨⟨k + 1, by omega, by simp, by rw [← hstep.out], ?_, ?_⟩, by simp [intOf]; omega⟩
          · rw [hsn.out]; exact hfin.out
          · exact (hb3.out.alloc hb3.out.size _).grown hgr.out (by have := hb3.out.size; simp; omega) (fun q hq => (ho2.out.lt q hq).1)
    · have hk' : k = N := by omega
      subst hk'
      have ho' := Lib.hid ho
      have hb1 := Lib.hid hb
      clear ho hb
      go_wp2
      go_ret3
      exact ⟨_, rfl, ho'.out, hb1.out⟩

theorem refGetDigests_any (a : Option Addr) (n c : Nat) (l : List UInt8) (w : World) (hR : Rd w a l) (hn : n = l.length) (hnc : n ≤ c) (hmax : c ≤ 9223372036854775807 ∧ n ≤ 4398046511104) (xs : List (List UInt8)) (u : Nat) (er : Int) (hd : dds l = (xs, u, er)) :
    Calls Try.prog 35 #[.slice a n c] w (DecPost w.heap.size w 57 16 (dvs xs) xs.length u er) := by
  obtain ⟨x0, u0, e0, h0⟩ : ∃ x0 u0 e0, gl 16 l = (x0, u0, e0) := ⟨_, _, _, rfl⟩
  simp only [dds, h0] at hd
  by_cases c1 : e0 ≠ 0
  · rw [if_pos c1] at hd
    simp only [Prod.mk.injEq] at hd
    obtain ⟨rfl, rfl, rfl⟩ := hd
    exact refGetDigests_err a n c l w hR hn hnc hmax _ _ _ h0 (by simpa using c1)
  · rw [if_neg c1] at hd
    have c1' : e0 = 0 := by omega
    subst c1'
    obtain ⟨g1, g2, g3, g4, g5, g6⟩ := gl_ok 16 (by omega) l x0 u0 h0
    obtain ⟨N, rfl⟩ := Int.eq_ofNat_of_zero_le g2
    simp only [Int.toNat_natCast, Prod.mk.injEq] at hd
    obtain ⟨rfl, rfl, rfl⟩ := hd
    rcases hR with rfl | ⟨b, off, rfl, hc⟩
    · simp at g3; omega
    · rw [digs_length]
      exact refGetDigests_ok b off n c l w hc hn hnc hmax N u0 h0 (by omega)

end Go.Proofs.Ytfodockdhecbpaa
