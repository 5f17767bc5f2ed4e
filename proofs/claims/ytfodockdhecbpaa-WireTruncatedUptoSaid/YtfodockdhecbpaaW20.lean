/- sherdref01.Same, SameInts, SameTexts, SameDigests: equality of lists. -/
import Derived.Test.YtfodockdhecbpaaW8
import Derived.ChangeKeysEq
namespace Go.Proofs.Ytfodockdhecbpaa
open Go.RowKit

/-- two lists are equal up to k -/
def eqTo {α : Type} (l r : List α) (k : Nat) : Prop := l.take k = r.take k

theorem eq_of_take {α : Type} {l r : List α} {k : Nat} (h : l.take k = r.take k) (hk : k < l.length) (hk2 : k < r.length) (d : α) (he : l.getD k d = r.getD k d) : l.take (k + 1) = r.take (k + 1) := by
  rw [List.take_succ_eq_append_getElem hk, List.take_succ_eq_append_getElem hk2, h]
  simp [hk, hk2] at he
  rw [he]

theorem byt_inj {l r : List UInt8} {k : Nat} (h : byt l k = byt r k) : l.getD k 0 = r.getD k 0 := by
  unfold byt at h
  exact UInt8.toNat_inj.1 (by omega)

theorem Rd_at {w : World} {a : Option Addr} {l : List UInt8} (h : Rd w a l) (k : Nat) (hk : k < l.length) : ∃ b off, a = some ⟨b, off, none⟩ ∧ w.cell? ⟨b, off + k, none⟩ = some (.int .u8 (byt l k)) := by
  rcases h with rfl | ⟨b, off, rfl, hc⟩
  · simp at hk
  · exact ⟨b, off, rfl, hc k hk⟩

/-- a callee that only reads: its value, and some draws -/
def QPost (w : World) (v : Value) (e : Ending) (w' : World) : Prop := e = .returned v ∧ ∃ q, w' = w.drewN q

set_option maxRecDepth 100000 in
set_option maxHeartbeats 400000 in
theorem Same_len (a1 a2 : Option Addr) (n1 n2 c1 c2 : Nat) (w : World) (hne : (((n1 : Nat) : Int) != ((n2 : Nat) : Int)) = true) :
    Calls Try.prog 13 #[.slice a1 n1 c1, .slice a2 n2 c2] w (QPost w (.bool false)) := by
  go_enter Try.func13, Try.ntmps13
  go_wp2
  go_ret
  exact ⟨rfl, 0, rfl⟩

theorem drewN_0 (w : World) : w = w.drewN 0 := rfl

set_option maxRecDepth 100000 in
set_option maxHeartbeats 800000 in
theorem Same_eq (a1 a2 : Option Addr) (n c1 c2 : Nat) (l r : List UInt8) (w : World) (hR1 : Rd w a1 l) (hR2 : Rd w a2 r) (hn1 : Hid (n = l.length)) (hn2 : Hid (n = r.length)) (hmax : n ≤ 4611686018427387904) (ok : Bool) (hok : Hid (decide (l = r) = ok)) :
    Calls Try.prog 13 #[.slice a1 n c1, .slice a2 n c2] w (QPost w (.bool ok)) := by
  have hR1' := Lib.hid hR1
  have hR2' := Lib.hid hR2
  clear hR1 hR2
  have h0 : (((n : Nat) : Int) != ((n : Nat) : Int)) = false := by simp
  go_enter Try.func13, Try.ntmps13
  go_wp2
  go_loopw [5] (fun i wr => ∃ k q : Nat, k ≤ n ∧ i = .int .i64 k ∧ wr = w.drewN q ∧ Hid (l.take k = r.take k)) (fun i _ => n - (intOf i).toNat)
  case atStart => exact ⟨0, 0, Nat.zero_le _, rfl, rfl, rfl⟩
  case round =>
    obtain ⟨k, q, hk, rfl, rfl, heq⟩ := hrel
    by_cases hlt : k < n
    · have hkl : k < l.length := by rw [← hn1.out]; exact hlt
      have hkr : k < r.length := by rw [← hn2.out]; exact hlt
      obtain ⟨b1, o1, rfl, cc1⟩ := Rd_at hR1'.out k hkl
      obtain ⟨b2, o2, rfl, cc2⟩ := Rd_at hR2'.out k hkr
      have hlt' : (k : Int) < (n : Int) := by omega
      have hk0 : 0 ≤ (k : Int) := by omega
      by_cases hb : byt l k = byt r k
      · have hb1 : (byt l k != byt r k) = false := by simp [hb]
        have hb' := Lib.hid hb
        clear hb
        go_wp2
        go_quiet (fail)
        go_wp2
        refine ⟨⟨k + 1, q + nq, by omega, by simp, by first | rfl | (rw [World.drewN_drewN]), ?_⟩, by simp [intOf]; omega⟩
        exact eq_of_take heq.out hkl hkr 0 (byt_inj hb'.out)
      · have hb1 : (byt l k != byt r k) = true := by simp [hb]
        have hF : ok = false := by
          rw [← hok.out]
          simp only [decide_eq_false_iff_not]
          intro e
          exact hb (by rw [e])
        subst hF
        clear hb
        go_wp2
        go_quiet (fail)
        go_wp2
        go_ret
        exact ⟨rfl, q + nq, by first | rfl | (rw [World.drewN_drewN])⟩
    · have hk' : k = n := by omega
      have hT : ok = true := by
        rw [← hok.out]
        simp only [decide_eq_true_eq]
        have := heq.out
        rwa [hk', List.take_of_length_le (by rw [hn1.out]; exact Nat.le_refl _), List.take_of_length_le (by rw [hn2.out]; exact Nat.le_refl _)] at this
      subst hT
      subst hk'
      go_wp2
      go_ret
      exact ⟨rfl, _, rfl⟩

theorem Same_any (a1 a2 : Option Addr) (n1 n2 c1 c2 : Nat) (l r : List UInt8) (w : World) (hR1 : Rd w a1 l) (hR2 : Rd w a2 r) (hn1 : n1 = l.length) (hn2 : n2 = r.length) (hmax : n1 ≤ 4611686018427387904) :
    Calls Try.prog 13 #[.slice a1 n1 c1, .slice a2 n2 c2] w (QPost w (.bool (decide (l = r)))) := by
  by_cases h : n1 = n2
  · subst h
    exact Same_eq a1 a2 n1 c1 c2 l r w hR1 hR2 hn1 hn2 hmax _ rfl
  · have : decide (l = r) = false := by
      simp only [decide_eq_false_iff_not]
      intro e
      exact h (by rw [hn1, hn2, e])
    rw [this]
    exact Same_len a1 a2 n1 n2 c1 c2 w (by rw [bne_iff_ne]; omega)

set_option maxRecDepth 100000 in
set_option maxHeartbeats 800000 in
theorem SameInts_any (a1 a2 : Option Addr) (n c1 c2 : Nat) (l : List Int) (w : World) (hR1 : Rdi w a1 l) (hR2 : Rdi w a2 l) (hn1 : Hid (n = l.length)) (hmax : n ≤ 4611686018427387904) :
    Calls Try.prog 30 #[.slice a1 n c1, .slice a2 n c2] w (QPost w (.bool true)) := by
  have hR1' := Lib.hid hR1
  have hR2' := Lib.hid hR2
  clear hR1 hR2
  have h0 : (((n : Nat) : Int) != ((n : Nat) : Int)) = false := by simp
  go_enter Try.func30, Try.ntmps30
  go_wp2
  go_loopw [5] (fun i wr => ∃ k q : Nat, k ≤ n ∧ i = .int .i64 k ∧ wr = w.drewN q) (fun i _ => n - (intOf i).toNat)
  case atStart => exact ⟨0, 0, Nat.zero_le _, rfl, rfl⟩
  case round =>
    obtain ⟨k, q, hk, rfl, rfl⟩ := hrel
    by_cases hlt : k < n
    · have hkl : k < l.length := by rw [← hn1.out]; exact hlt
      obtain ⟨b1, o1, rfl, cc1⟩ := Rdi_at hR1'.out k hkl
      obtain ⟨b2, o2, rfl, cc2⟩ := Rdi_at hR2'.out k hkl
      have hlt' : (k : Int) < (n : Int) := by omega
      have hk0 : 0 ≤ (k : Int) := by omega
      go_wp2
      go_quiet (fail)
      go_wp2
      exact ⟨⟨k + 1, q + nq, by omega, by simp, by first | rfl | (rw [World.drewN_drewN])⟩, by simp [intOf]; omega⟩
    · have hk' : k = n := by omega
      subst hk'
      go_wp2
      go_ret
      exact ⟨rfl, _, rfl⟩

set_option maxRecDepth 100000 in
set_option maxHeartbeats 800000 in
theorem SameTexts_any (a1 a2 : Option Addr) (n c1 c2 : Nat) (l : List ByteArray) (w : World) (hR1 : Rds w a1 l) (hR2 : Rds w a2 l) (hn1 : Hid (n = l.length)) (hmax : n ≤ 4611686018427387904) :
    Calls Try.prog 33 #[.slice a1 n c1, .slice a2 n c2] w (QPost w (.bool true)) := by
  have hR1' := Lib.hid hR1
  have hR2' := Lib.hid hR2
  clear hR1 hR2
  have h0 : (((n : Nat) : Int) != ((n : Nat) : Int)) = false := by simp
  go_enter Try.func33, Try.ntmps33
  go_wp2
  go_loopw [5] (fun i wr => ∃ k q : Nat, k ≤ n ∧ i = .int .i64 k ∧ wr = w.drewN q) (fun i _ => n - (intOf i).toNat)
  case atStart => exact ⟨0, 0, Nat.zero_le _, rfl, rfl⟩
  case round =>
    obtain ⟨k, q, hk, rfl, rfl⟩ := hrel
    by_cases hlt : k < n
    · have hkl : k < l.length := by rw [← hn1.out]; exact hlt
      obtain ⟨b1, o1, rfl, cc1⟩ := Rds_at hR1'.out k hkl
      obtain ⟨b2, o2, rfl, cc2⟩ := Rds_at hR2'.out k hkl
      have hlt' : (k : Int) < (n : Int) := by omega
      have hk0 : 0 ≤ (k : Int) := by omega
      go_wp2
      go_quiet (fail)
      go_wp2
      exact ⟨⟨k + 1, q + nq, by omega, by simp, by first | rfl | (rw [World.drewN_drewN])⟩, by simp [intOf]; omega⟩
    · have hk' : k = n := by omega
      subst hk'
      go_wp2
      go_ret
      exact ⟨rfl, _, rfl⟩

/-- the sixteen cells of a digest -/
theorem dig_cells {w : World} {b o : Nat} {d : List UInt8} (h16 : d.length = 16) (hc : ∀ j u, (bvs d)[j]? = some u → w.cell? ((⟨b, o, none⟩ : Addr).add j) = some u) (j : Nat) (hj : j < 16) : w.cell? ⟨b, o + j, none⟩ = some (.int .u8 (byt d j)) := by
  have ha : (⟨b, o, none⟩ : Addr).add j = ⟨b, o + j, none⟩ := by unfold Addr.add; split <;> simp_all
  rw [← ha]
  apply hc
  have hj' : j < d.length := by omega
  simp [bvs, byt, hj']

theorem part_u8 (W : World) (xs : Array Value) (j : Nat) (x : Int) (h : xs[j]? = some (.int .u8 x)) : (part 5 xs (j * 1)).run Try.prog W = .ok (.int .u8 x) W := by
  have hs : ∀ W, (sizeOf 5).run Try.prog W = .ok 1 W := fun W => by kernel_rfl
  have ha : ∀ W, (isAgg 5).run Try.prog W = .ok false W := fun W => by kernel_rfl
  simp [part, Sem.run_bind, hs, ha, h]

theorem items_same (d : Nat) (xs : Array Value) (W : World) : ∀ is : List Nat, (∀ j ∈ is, ∃ x : Int, xs[j]? = some (.int .u8 x)) → (Op.eqItems (d + 1) 5 1 xs xs is).run Try.prog W = .ok true W
  | [], _ => by simp [Op.eqItems]
  | j :: is, h => by
    obtain ⟨x, hx⟩ := h j (by simp)
    have hp := part_u8 W xs j x hx
    have he := run_equalIn_int (P := Try.prog) W d 5 .u8 .u8 x x Try.underlying5
    simp only [Op.eqItems, Sem.run_bind, hp, Result.andThen_ok, he]
    simp [items_same d xs W is (fun j hj => h j (by simp [hj]))]

set_option maxRecDepth 100000 in
theorem eq16 (x0 x1 x2 x3 x4 x5 x6 x7 x8 x9 x10 x11 x12 x13 x14 x15 : Int) (W : World) : (Op.equalIn 10000 57 (.agg #[.int .u8 x0, .int .u8 x1, .int .u8 x2, .int .u8 x3, .int .u8 x4, .int .u8 x5, .int .u8 x6, .int .u8 x7, .int .u8 x8, .int .u8 x9, .int .u8 x10, .int .u8 x11, .int .u8 x12, .int .u8 x13, .int .u8 x14, .int .u8 x15]) (.agg #[.int .u8 x0, .int .u8 x1, .int .u8 x2, .int .u8 x3, .int .u8 x4, .int .u8 x5, .int .u8 x6, .int .u8 x7, .int .u8 x8, .int .u8 x9, .int .u8 x10, .int .u8 x11, .int .u8 x12, .int .u8 x13, .int .u8 x14, .int .u8 x15])).run Try.prog W = .ok true W := by
  obtain ⟨i0, hi, _, _, _⟩ := info_parts info_u8
  have hc : Try.prog.cellsOf 5 = 1 := by kernel_rfl
  rw [run_equalIn_array W 9999 _ _ Try.underlying57 hi, hc]
  refine items_same 9998 _ W _ fun j hj => ?_
  have hj' : j < 16 := by simpa using hj
  have h16 : j = 0 ∨ j = 1 ∨ j = 2 ∨ j = 3 ∨ j = 4 ∨ j = 5 ∨ j = 6 ∨ j = 7 ∨ j = 8 ∨ j = 9 ∨ j = 10 ∨ j = 11 ∨ j = 12 ∨ j = 13 ∨ j = 14 ∨ j = 15 := by omega
  rcases h16 with rfl | rfl | rfl | rfl | rfl | rfl | rfl | rfl | rfl | rfl | rfl | rfl | rfl | rfl | rfl | rfl <;> exact ⟨_, rfl⟩

set_option maxRecDepth 100000 in
set_option maxHeartbeats 2000000 in
theorem SameDigests_any (a1 a2 : Option Addr) (n c1 c2 : Nat) (l : List (List UInt8)) (w : World) (hR1 : Rdd w a1 l) (hR2 : Rdd w a2 l) (hn1 : Hid (n = l.length)) (hmax : n ≤ 4611686018427387904) :
    Calls Try.prog 36 #[.slice a1 n c1, .slice a2 n c2] w (QPost w (.bool true)) := by
  have hR1' := Lib.hid hR1
  have hR2' := Lib.hid hR2
  clear hR1 hR2
  have h0 : (((n : Nat) : Int) != ((n : Nat) : Int)) = false := by simp
  go_enter Try.func36, Try.ntmps36
  go_wp2
  go_loopw [5] (fun i wr => ∃ k q : Nat, k ≤ n ∧ i = .int .i64 k ∧ wr = w.drewN q) (fun i _ => n - (intOf i).toNat)
  case atStart => exact ⟨0, 0, Nat.zero_le _, rfl, rfl⟩
  case round =>
    obtain ⟨k, q, hk, rfl, rfl⟩ := hrel
    by_cases hlt : k < n
    · have hkl : k < l.length := by rw [← hn1.out]; exact hlt
      obtain ⟨b1, o1, rfl, h16, cc1⟩ := Rdd_at hR1'.out k hkl
      obtain ⟨b2, o2, rfl, _, cc2⟩ := Rdd_at hR2'.out k hkl
      have hlt' : (k : Int) < (n : Int) := by omega
      have hk0 : 0 ≤ (k : Int) := by omega
      have d1_0 := dig_cells h16 cc1 0 (by omega)
      rw [Nat.add_zero] at d1_0
      have d1_1 := dig_cells h16 cc1 1 (by omega)
      have d1_2 := dig_cells h16 cc1 2 (by omega)
      have d1_3 := dig_cells h16 cc1 3 (by omega)
      have d1_4 := dig_cells h16 cc1 4 (by omega)
      have d1_5 := dig_cells h16 cc1 5 (by omega)
      have d1_6 := dig_cells h16 cc1 6 (by omega)
      have d1_7 := dig_cells h16 cc1 7 (by omega)
      have d1_8 := dig_cells h16 cc1 8 (by omega)
      have d1_9 := dig_cells h16 cc1 9 (by omega)
      have d1_10 := dig_cells h16 cc1 10 (by omega)
      have d1_11 := dig_cells h16 cc1 11 (by omega)
      have d1_12 := dig_cells h16 cc1 12 (by omega)
      have d1_13 := dig_cells h16 cc1 13 (by omega)
      have d1_14 := dig_cells h16 cc1 14 (by omega)
      have d1_15 := dig_cells h16 cc1 15 (by omega)
      have d2_0 := dig_cells h16 cc2 0 (by omega)
      rw [Nat.add_zero] at d2_0
      have d2_1 := dig_cells h16 cc2 1 (by omega)
      have d2_2 := dig_cells h16 cc2 2 (by omega)
      have d2_3 := dig_cells h16 cc2 3 (by omega)
      have d2_4 := dig_cells h16 cc2 4 (by omega)
      have d2_5 := dig_cells h16 cc2 5 (by omega)
      have d2_6 := dig_cells h16 cc2 6 (by omega)
      have d2_7 := dig_cells h16 cc2 7 (by omega)
      have d2_8 := dig_cells h16 cc2 8 (by omega)
      have d2_9 := dig_cells h16 cc2 9 (by omega)
      have d2_10 := dig_cells h16 cc2 10 (by omega)
      have d2_11 := dig_cells h16 cc2 11 (by omega)
      have d2_12 := dig_cells h16 cc2 12 (by omega)
      have d2_13 := dig_cells h16 cc2 13 (by omega)
      have d2_14 := dig_cells h16 cc2 14 (by omega)
      have d2_15 := dig_cells h16 cc2 15 (by omega)
      clear cc1 cc2 h16
      have heq := @eq16
      have hgd : Try.prog.eqGuardType Try.prog.depth 57 = false := by kernel_rfl
      go_wp2
      go_quiet (fail)
      go_wp2
      exact ⟨⟨k + 1, q + nq, by omega, by simp, by first | rfl | (rw [World.drewN_drewN])⟩, by simp [intOf]; omega⟩
    · have hk' : k = n := by omega
      subst hk'
      go_wp2
      go_ret
      exact ⟨rfl, _, rfl⟩

end Go.Proofs.Ytfodockdhecbpaa
