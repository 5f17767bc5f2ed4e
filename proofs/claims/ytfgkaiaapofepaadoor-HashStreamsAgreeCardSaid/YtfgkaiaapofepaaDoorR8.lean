/- sherdref01.Bytes, Strings. -/
import Derived.Test.YtfgkaiaapofepaaDoorR1
import Derived.Laws.IdiomStrings
namespace Go.Proofs.YtfgkaiaapofepaaDoor
open Go.RowKit

theorem conv_bytes (s : ByteArray) (w : World) : ∃ cp W2, (convert 9 22 (.string s)).run Tryd.prog w = .ok (.slice (some ⟨w.heap.size, 0, none⟩) s.size cp) W2 ∧ (∀ j u, (bvs (sl s))[j]? = some u → W2.cell? ((⟨w.heap.size, 0, none⟩ : Addr).add j) = some u) ∧ Below w.heap.size w W2 := by
  refine ⟨_, _, run_bytes_of_string w _ _ 5 s Tryd.underlying9 Tryd.underlying22 Tryd.underlying5, ?_, ((Below.refl _ w).drew).alloc (Nat.le_refl _) _⟩
  intro j u hu
  have ha : (⟨w.heap.size, 0, none⟩ : Addr).add j = ⟨w.heap.size, j, none⟩ := by unfold Addr.add; split <;> simp_all
  have hn : ∀ o, (w.drew.alloc o).heap[w.heap.size]? = some o := fun o => heap_alloc_new w.drew o
  rw [ha]
  simp only [World.cell?, hn]
  have hj : j < (bvs (sl s)).length := by
    rcases Nat.lt_or_ge j (bvs (sl s)).length with h | h
    · exact h
    · rw [List.getElem?_eq_none h] at hu; cases hu
  have hj2 : j < s.data.size := by simpa [bvs, sl] using hj
  have hg : s.data[j]? = some s.data[j] := Array.getElem?_eq_getElem hj2
  have hu' : u = .int .u8 (s.data[j].toNat : Int) := by
    simp only [bvs, sl, List.getElem?_map, Array.getElem?_toList, hg, Option.map_some, Option.some.injEq] at hu
    exact hu.symm
  subst hu'
  unfold bytesRow
  rw [Array.getElem?_append_left (by simp; exact hj2), Array.getElem?_map, hg]
  rfl

set_option maxRecDepth 100000 in
set_option maxHeartbeats 800000 in
theorem refBytes_any (s : ByteArray) (w : World) (hs : s.size ≤ 140737488355328 / 4) :
    Calls Tryd.prog 36 #[.string s] w (EncPost w (encS s)) := by
  obtain ⟨i0, hi, hz0, hz1, hz2⟩ := info_parts info_u8
  have hel : Hid ((enc (s.size : Int)).length ≤ 9) := Lib.hid (enc_le _)
  have hel2 := hel.out
  go_enter Tryd.func36, Tryd.ntmps36
  go_wp2_with fail
  refine (refInt_any _ _ (by omega) (by omega)).mono ?_
  intro e w1 hp
  obtain ⟨v0, rfl, h0, h0'⟩ := hp
  obtain ⟨cp, W2, hcv, hN2, hB2⟩ := conv_bytes s w1
  have hN := Lib.hid hN2
  have hI : Hid (Grow w v0 (enc (s.size : Int)) W2) := Lib.hid (Grow.later ⟨h0, h0'⟩ hB2)
  clear h0 h0' hN2 hB2
  go_wp2_with (first | (go_at_call 39; obtain ⟨cp, W2, hcv, hN2, hB2⟩ := conv_bytes s w1; have hN := Lib.hid hN2; have hI : Hid (Grow w v0 (enc (s.size : Int)) W2) := Lib.hid (Grow.later ⟨h0, h0'⟩ hB2); clear h0 h0' hN2 hB2) | (at_builtin; refine wpList_append_own _ rfl _ _ 22 rfl w.heap.size 5 i0 (.int .u8 0) 1 1 Tryd.underlying22 hi hz0 hz1 hz2 rfl (by decide) _ _ _ rfl hI.out.1 ⟨w1.heap.size, 0, none⟩ s.size cp (bvs (sl s)) rfl (by rw [bvs_length, sl_length, Nat.mul_one]) hN.out (bvs_one _) (by unfold maxLen; omega) (by omega) hI.out.2.size ?_; intro v2 w2 ho2 hg2 _; have hG2 := Lib.hid (hI.out.append (r := sl s) (by rw [sl_length]; exact ho2) hg2); clear ho2 hg2))
  go_ret
  exact ⟨_, rfl, hG2.out.1, hG2.out.2⟩

end Go.Proofs.YtfgkaiaapofepaaDoor
