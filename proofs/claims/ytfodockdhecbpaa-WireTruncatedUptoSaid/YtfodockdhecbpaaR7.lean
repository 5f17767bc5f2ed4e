/- sherdref01.Ints: the reference's encoding of a list of integers. -/
import Derived.Test.YtfodockdhecbpaaR6
import Derived.Test.YtfodockdhecbpaaV10
namespace Go.Proofs.Ytfodockdhecbpaa
open Go.RowKit

set_option maxRecDepth 100000 in
set_option maxHeartbeats 800000 in
theorem refInts_any (a : Option Addr) (n c : Nat) (l : List Int) (w : World) (hR : Rdi w a l) (hn : Hid (n = l.length)) (hmax : n ≤ 70368744177664) (hw : Hid (i64s l)) (hlen : (encIs l).length ≤ 70368744177664) :
    Calls Try.prog 19 #[.slice a n c] w (EncPost w (encIs l)) := by
  have hR' := Lib.hid hR
  have hlen' := Lib.hid hlen
  clear hR hlen
  obtain ⟨i0, hi, hz0, hz1, hz2⟩ := info_parts info_u8
  go_enter Try.func19, Try.ntmps19
  go_wp2_with (go_at_call 15; refine (refInt_any _ _ (by omega) (by omega)).mono ?_; intro e w1 hp; obtain ⟨v0, rfl, h0, h0'⟩ := hp; have hI : Hid (Grow w v0 (enc (n : Int)) w1) := Lib.hid ⟨h0, h0'⟩; clear h0 h0')
  go_loopw [3, 4] (fun b i wr => ∃ k : Nat, k ≤ n ∧ i = .int .i64 k ∧ Grow w b (enc (n : Int) ++ (l.take k).flatMap enc) wr) (fun _ i _ => n - (intOf i).toNat)
  case atStart => exact ⟨0, Nat.zero_le _, rfl, by rw [List.take_zero, List.flatMap_nil, List.append_nil]; exact hI.out⟩
  case round =>
    obtain ⟨k, hk, rfl, hinv⟩ := hrel
    by_cases hlt : k < n
    · have hkl : k < l.length := by rw [← hn.out]; exact hlt
      obtain ⟨b0, off, rfl, hc⟩ := Rdi_at hR'.out k hkl
      have hcell := Below.cell_of' hinv.2 hc
      have hx := hw.out k hkl
      have hx1 := hx.1
      have hx2 := hx.2
      have hz := hinv.2.size
      have hl2 := Lib.hid (flat_take_le enc l (k + 1))
      have hl3 := hlen'.out
      have hinv' := Lib.hid hinv
      clear hinv hx hI
      have hll : (enc (n : Int) ++ (l.take k).flatMap enc).length + (enc (iat l k)).length ≤ 70368744177664 := by
        have := hl2.out
        rw [flat_take enc l k hkl 0, List.length_append, show enc (l.getD k 0) = enc (iat l k) from rfl] at this
        unfold encIs at hl3
        rw [List.length_append] at hl3 ⊢
        rw [hn.out]
        omega
      clear hl3
      have hk1 : Hid ((enc (iat l k)).length ≤ 9) := Lib.hid (enc_le _)
      have hk0 : Hid (0 < (enc (iat l k)).length) := Lib.hid (by rw [enc_length]; omega)
      have hki0 : 0 ≤ (k : Int) := by omega
      have hki : (k : Int) < (n : Int) := by omega
      go_wp2_with (first | (go_at_call 15; refine (refInt_any _ _ hx1 hx2).mono ?_; intro e w1 hp; obtain ⟨b1, o1, c1, rfl, hn1, hc1, hm1, hb1⟩ := enc_news hk0.out hp; have hn1' := Lib.hid hn1; have hG1 := Lib.hid (hinv'.out.later hb1); clear hp hn1 hb1 hc1 hm1) | (at_builtin; refine wpList_append_own _ rfl _ _ 28 rfl w.heap.size 5 i0 (.int .u8 0) 1 1 Try.underlying28 hi hz0 hz1 hz2 rfl (by decide) _ _ _ rfl hG1.out.1 ⟨b1, o1, none⟩ (enc (iat l k)).length c1 (bvs (enc (iat l k))) rfl (by rw [bvs_length, Nat.mul_one]) hn1'.out (bvs_one _) (by unfold maxLen; omega) (by omega) hG1.out.2.size ?_; intro v2 w2 ho2 hg2 _; have hG2 := Lib.hid (hG1.out.append (r := enc (iat l k)) ho2 hg2); clear ho2 hg2))
      refine ⟨⟨k + 1, by omega, by simp, ?_⟩, by simp [intOf]; omega⟩
      rw [flat_take enc l k hkl 0, ← List.append_assoc]
      exact hG2.out
    · have hk' : k = n := by omega
      subst hk'
      rw [hn.out, List.take_length] at hinv
      have hJ := Lib.hid hinv
      clear hinv hI
      go_wp2
      go_ret
      exact ⟨_, rfl, hJ.out.1, hJ.out.2⟩

end Go.Proofs.Ytfodockdhecbpaa
