/- sherdref01.Bytes, Strings. -/
import Derived.Test.YtfodockdhecbpaaR7
import Derived.Laws.IdiomStrings
namespace Go.Proofs.Ytfodockdhecbpaa
open Go.RowKit

theorem conv_bytes (s : ByteArray) (w : World) : ∃ cp W2, (convert 9 28 (.string s)).run Try.prog w = .ok (.slice (some ⟨w.heap.size, 0, none⟩) s.size cp) W2 ∧ (∀ j u, (bvs (sl s))[j]? = some u → W2.cell? ((⟨w.heap.size, 0, none⟩ : Addr).add j) = some u) ∧ Below w.heap.size w W2 := by
  refine ⟨_, _, run_bytes_of_string w _ _ 5 s Try.underlying9 Try.underlying28 Try.underlying5, ?_, ((Below.refl _ w).drew).alloc (Nat.le_refl _) _⟩
  intro j u hu
  have ha : (⟨w.heap.size, 0, none⟩ : Addr).add j = ⟨w.heap.size, j, none⟩ := by unfold Addr.add; split <;> simp_all
  have hn : ∀ o, (w.drew.alloc o).heap[w.heap.size]? = some o := fun o => heap_alloc_new w.drew o
  rw [ha]
  simp only [World.cell?, hn]
  have hj : j < (bvs (sl s)).length := by
    rcases Nat.lt_or_ge j (bvs (sl s)).length with h | h
    · exact h
    · rw [List.getElem?_eq_none h] at hu; cases hu
  have hj2 : j < s.data.size := by simpa [bvs, sl] using hj
  have hg : s.data[j]? = some s.data[j] := Array.getElem?_eq_getElem hj2
  have hu' : u = .int .u8 (s.data[j].toNat : Int) := by
    simp only [bvs, sl, List.getElem?_map, Array.getElem?_toList, hg, Option.map_some, Option.some.injEq] at hu
    exact hu.symm
  subst hu'
  unfold bytesRow
  rw [Array.getElem?_append_left (by simp; exact hj2), Array.getElem?_map, hg]
  rfl

set_option maxRecDepth 100000 in
set_option maxHeartbeats 800000 in
theorem refBytes_any (s : ByteArray) (w : World) (hs : s.size ≤ 140737488355328 / 4) :
    Calls Try.prog 17 #[.string s] w (EncPost w (encS s)) := by
  obtain ⟨i0, hi, hz0, hz1, hz2⟩ := info_parts info_u8
  have hel : Hid ((enc (s.size : Int)).length ≤ 9) := Lib.hid (enc_le _)
  have hel2 := hel.out
  go_enter Try.func17, Try.ntmps17
  go_wp2_with fail
  refine (refInt_any _ _ (by omega) (by omega)).mono ?_
  intro e w1 hp
  obtain ⟨v0, rfl, h0, h0'⟩ := hp
  obtain ⟨cp, W2, hcv, hN2, hB2⟩ := conv_bytes s w1
  have hN := Lib.hid hN2
  have hI : Hid (Grow w v0 (enc (s.size : Int)) W2) := Lib.hid (Grow.later ⟨h0, h0'⟩ hB2)
  clear h0 h0' hN2 hB2
  go_wp2_with (first | (go_at_call 15; obtain ⟨cp, W2, hcv, hN2, hB2⟩ := conv_bytes s w1; have hN := Lib.hid hN2; have hI : Hid (Grow w v0 (enc (s.size : Int)) W2) := Lib.hid (Grow.later ⟨h0, h0'⟩ hB2); clear h0 h0' hN2 hB2) | (at_builtin; refine wpList_append_own _ rfl _ _ 28 rfl w.heap.size 5 i0 (.int .u8 0) 1 1 Try.underlying28 hi hz0 hz1 hz2 rfl (by decide) _ _ _ rfl hI.out.1 ⟨w1.heap.size, 0, none⟩ s.size cp (bvs (sl s)) rfl (by rw [bvs_length, sl_length, Nat.mul_one]) hN.out (bvs_one _) (by unfold maxLen; omega) (by omega) hI.out.2.size ?_; intro v2 w2 ho2 hg2 _; have hG2 := Lib.hid (hI.out.append (r := sl s) (by rw [sl_length]; exact ho2) hg2); clear ho2 hg2))
  go_ret
  exact ⟨_, rfl, hG2.out.1, hG2.out.2⟩

set_option maxRecDepth 100000 in
set_option maxHeartbeats 800000 in
theorem refStrings_any (a : Option Addr) (n c : Nat) (l : List ByteArray) (w : World) (hR : Rds w a l) (hn : Hid (n = l.length)) (hmax : n ≤ 70368744177664) (hlen : (encSs l).length ≤ 35184372088832) :
    Calls Try.prog 21 #[.slice a n c] w (EncPost w (encSs l)) := by
  have hR' := Lib.hid hR
  have hlen' := Lib.hid hlen
  clear hR hlen
  obtain ⟨i0, hi, hz0, hz1, hz2⟩ := info_parts info_u8
  go_enter Try.func21, Try.ntmps21
  go_wp2_with (go_at_call 15; refine (refInt_any _ _ (by omega) (by omega)).mono ?_; intro e w1 hp; obtain ⟨v0, rfl, h0, h0'⟩ := hp; have hI : Hid (Grow w v0 (enc (n : Int)) w1) := Lib.hid ⟨h0, h0'⟩; clear h0 h0')
  go_loopw [3, 4] (fun b i wr => ∃ k : Nat, k ≤ n ∧ i = .int .i64 k ∧ Grow w b (enc (n : Int) ++ (l.take k).flatMap encS) wr) (fun _ i _ => n - (intOf i).toNat)
  case atStart => exact ⟨0, Nat.zero_le _, rfl, by rw [List.take_zero, List.flatMap_nil, List.append_nil]; exact hI.out⟩
  case round =>
    obtain ⟨k, hk, rfl, hinv⟩ := hrel
    by_cases hlt : k < n
    · have hkl : k < l.length := by rw [← hn.out]; exact hlt
      obtain ⟨b0, off, rfl, hc⟩ := Rds_at hR'.out k hkl
      have hcell := Below.cell_of' hinv.2 hc
      have hz := hinv.2.size
      have hl2 := Lib.hid (flat_take_le encS l (k + 1))
      have hl3 := hlen'.out
      have hinv' := Lib.hid hinv
      clear hinv hI
      have hll : (enc (n : Int) ++ (l.take k).flatMap encS).length + (encS (sat l k)).length ≤ 35184372088832 := by
        have := hl2.out
        rw [flat_take encS l k hkl ByteArray.empty, List.length_append, show encS (l.getD k ByteArray.empty) = encS (sat l k) from rfl] at this
        unfold encSs at hl3
        rw [List.length_append] at hl3 ⊢
        rw [hn.out]
        omega
      clear hl3
      have hk0 : Hid (0 < (encS (sat l k)).length) := Lib.hid (encS_pos _)
      have hss : Hid ((sat l k).size ≤ (encS (sat l k)).length) := Lib.hid (by unfold encS; rw [List.length_append, sl_length]; omega)
      have hki0 : 0 ≤ (k : Int) := by omega
      have hki : (k : Int) < (n : Int) := by omega
      go_wp2_with (first | (go_at_call 17; refine (refBytes_any _ _ (by have := hss.out; omega)).mono ?_; intro e w1 hp; obtain ⟨b1, o1, c1, rfl, hn1, hc1, hm1, hb1⟩ := enc_news hk0.out hp; have hn1' := Lib.hid hn1; have hG1 := Lib.hid (hinv'.out.later hb1); clear hp hn1 hb1 hc1 hm1) | (at_builtin; refine wpList_append_own _ rfl _ _ 28 rfl w.heap.size 5 i0 (.int .u8 0) 1 1 Try.underlying28 hi hz0 hz1 hz2 rfl (by decide) _ _ _ rfl hG1.out.1 ⟨b1, o1, none⟩ (encS (sat l k)).length c1 (bvs (encS (sat l k))) rfl (by rw [bvs_length, Nat.mul_one]) hn1'.out (bvs_one _) (by unfold maxLen; omega) (by omega) hG1.out.2.size ?_; intro v2 w2 ho2 hg2 _; have hG2 := Lib.hid (hG1.out.append (r := encS (sat l k)) ho2 hg2); clear ho2 hg2))
      refine ⟨⟨k + 1, by omega, by simp, ?_⟩, by simp [intOf]; omega⟩
      rw [flat_take encS l k hkl ByteArray.empty, ← List.append_assoc]
      exact hG2.out
    · have hk' : k = n := by omega
      subst hk'
      rw [hn.out, List.take_length] at hinv
      have hJ := Lib.hid hinv
      clear hinv hI
      go_wp2
      go_ret
      exact ⟨_, rfl, hJ.out.1, hJ.out.2⟩

end Go.Proofs.Ytfodockdhecbpaa
