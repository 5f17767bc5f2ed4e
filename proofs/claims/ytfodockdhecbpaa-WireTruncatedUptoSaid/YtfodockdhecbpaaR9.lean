/- sherdref01.Digests. -/
import Derived.Test.YtfodockdhecbpaaR8
namespace Go.Proofs.Ytfodockdhecbpaa
open Go.RowKit

set_option maxRecDepth 100000 in
set_option maxHeartbeats 800000 in
theorem refDigests_any (a : Option Addr) (n c : Nat) (l : List (List UInt8)) (w : World) (hR : Rdd w a l) (hn : Hid (n = l.length)) (hmax : n ≤ 70368744177664) (hlen : (encDs l).length ≤ 35184372088832) :
    Calls Try.prog 23 #[.slice a n c] w (EncPost w (encDs l)) := by
  have hR' := Lib.hid hR
  have hlen' := Lib.hid hlen
  clear hR hlen
  obtain ⟨i0, hi, hz0, hz1, hz2⟩ := info_parts info_u8
  go_enter Try.func23, Try.ntmps23
  go_wp2_with (go_at_call 15; refine (refInt_any _ _ (by omega) (by omega)).mono ?_; intro e w1 hp; obtain ⟨v0, rfl, h0, h0'⟩ := hp; have hI : Hid (Grow w v0 (enc (n : Int)) w1) := Lib.hid ⟨h0, h0'⟩; clear h0 h0')
  go_loopw [3, 4, 5] (fun b i _ wr => ∃ k : Nat, k ≤ n ∧ i = .int .i64 k ∧ Grow w b (enc (n : Int) ++ (l.take k).flatMap id) wr) (fun _ i _ _ => n - (intOf i).toNat)
  case atStart => exact ⟨0, Nat.zero_le _, rfl, by rw [List.take_zero, List.flatMap_nil, List.append_nil]; exact hI.out⟩
  case round =>
    obtain ⟨k, hk, rfl, hinv⟩ := hrel
    by_cases hlt : k < n
    · have hkl : k < l.length := by rw [← hn.out]; exact hlt
      obtain ⟨b0, off, rfl, h16, hc⟩ := Rdd_at hR'.out k hkl
      have h16' := Lib.hid h16
      have hcc : Hid (∀ j, j < 16 → w.cell? ⟨b0, off + k * 16 + j, none⟩ = some (.int .u8 (byt (dat l k) j))) := Lib.hid (fun j hj => dig_cells h16 hc j hj)
      have hl2 := Lib.hid (flat_take_le id l (k + 1))
      have hl3 := hlen'.out
      have hinv' := Lib.hid hinv
      have hll : (enc (n : Int) ++ (l.take k).flatMap id).length + 16 ≤ 35184372088832 := by
        have := hl2.out
        rw [flat_take id l k hkl [], List.length_append, show id (l.getD k []) = dat l k from rfl, h16] at this
        unfold encDs at hl3
        rw [List.length_append] at hl3 ⊢
        rw [hn.out]
        omega
      clear hl3 hinv hI hc h16
      have hki0 : 0 ≤ (k : Int) := by omega
      have hki : (k : Int) < (n : Int) := by omega
      have hft : Hid ((l.take (k + 1)).flatMap id = (l.take k).flatMap id ++ dat l k) := Lib.hid (flat_take id l k hkl [])
      generalize dat l k = d at *
      generalize hpe : enc (n : Int) ++ (l.take k).flatMap id = pre at *
      have hpre := Lib.hid hpe
      clear hpe
      go_wp2
      obtain ⟨wo, rfl⟩ : ∃ wo : World, wo = wr := ⟨_, rfl⟩
      go_loopw [3, 5] (fun v i wr => ∃ j : Nat, j ≤ 16 ∧ i = .int .i64 j ∧ Grow w v (pre ++ d.take j) wr) (fun _ i _ => 16 - (intOf i).toNat)
      case atStart => exact ⟨0, Nat.zero_le _, rfl, by rw [List.take_zero, List.append_nil]; exact hinv'.out⟩
      case round =>
        obtain ⟨j, hj, rfl, hg⟩ := hrel
        by_cases hj16 : j < 16
        · have hcj := Below.cell_of' hg.2 (hcc.out j hj16)
          have hj0 : 0 ≤ (j : Int) := by omega
          have hj1 : (j : Int) < 16 := by omega
          have hlo := byt_lo d j
          have hhi := byt_hi d j
          have hz := hg.2.size
          have hg' := Lib.hid hg
          have hpl : (pre ++ d.take j).length ≤ pre.length + 16 := by rw [List.length_append, List.length_take]; omega
          have hbv : Hid ([Value.int .u8 (byt d j)] = bvs [d.getD j 0]) := rfl
          have hdt : Hid (d.take (j + 1) = d.take j ++ [d.getD j 0]) := Lib.hid (by
            have hjl : j < d.length := by rw [h16'.out]; exact hj16
            rw [List.take_succ_eq_append_getElem hjl]
            simp [hjl])
          clear hg
          go_wp2_with (at_builtin; refine wpList_append_own _ rfl _ _ 28 rfl w.heap.size 5 i0 (.int .u8 0) 1 1 Try.underlying28 hi hz0 hz1 hz2 rfl (by decide) _ _ _ rfl (hg'.out.1.alloc _) ⟨wr.heap.size, 0, none⟩ 1 1 [.int .u8 (byt d j)] rfl rfl (cell_one_new _ _ _) (by intro u hu; simp at hu; subst hu; rfl) (by unfold maxLen; omega) (by omega) (by simp; omega) ?_; intro v1 w1 ho1 hg1 _; rw [hbv.out] at ho1; have hI1 : Hid (Grow w v1 (pre ++ d.take j ++ [d.getD j 0]) w1) := Lib.hid (rowInv_grow hg'.out (rowInv_alloc hg'.out) ho1 hg1); clear ho1 hg1)
          refine ⟨⟨j + 1, by omega, by simp, by rw [hdt.out, ← List.append_assoc]; exact hI1.out⟩, by simp [intOf]; omega⟩
        · have hj' : j = 16 := by omega
          subst hj'
          rw [List.take_of_length_le (by rw [h16'.out]; exact Nat.le_refl _)] at hg
          have hg' := Lib.hid hg
          clear hg
          go_wp2
          refine ⟨⟨k + 1, by omega, by simp, ?_⟩, by simp [intOf]; omega⟩
          rw [hft.out, ← List.append_assoc, hpre.out]
          exact hg'.out
    · have hk' : k = n := by omega
      subst hk'
      rw [hn.out, List.take_length] at hinv
      have hJ := Lib.hid hinv
      clear hinv hI
      go_wp2
      go_ret
      exact ⟨_, rfl, hJ.out.1, hJ.out.2⟩

end Go.Proofs.Ytfodockdhecbpaa
