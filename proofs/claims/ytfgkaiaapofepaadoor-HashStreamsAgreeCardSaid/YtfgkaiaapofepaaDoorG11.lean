/- The reference: Input. -/
import Derived.Test.YtfgkaiaapofepaaDoorG10
import Derived.Test.YtfgkaiaapofepaaDoorH12
import Derived.Test.YtfgkaiaapofepaaDoorR8
import Derived.Test.YtfgkaiaapofepaaDoorG6
namespace Go.Proofs.YtfgkaiaapofepaaDoor
open Go.RowKit

theorem enc_news {w w' : World} {l : List UInt8} {e : Ending} (hl : 0 < l.length) (h : EncPost w l e w') : ∃ b o c, e = .returned (.slice (some ⟨b, o, none⟩) l.length c) ∧ (∀ j u, (bvs l)[j]? = some u → w'.cell? ((⟨b, o, none⟩ : Addr).add j) = some u) ∧ l.length ≤ c ∧ c ≤ 9223372036854775807 ∧ Below w.heap.size w w' := by
  obtain ⟨p, c, rfl, hR, hc, hm, hb⟩ := enc_Rd h
  rcases hR with rfl | ⟨b, o, rfl, hcc⟩
  · simp at hl
  · exact ⟨b, o, c, rfl, Rd_news hcc, hc, hm, hb⟩
set_option maxRecDepth 100000 in
set_option maxHeartbeats 1600000 in
theorem input_any (t : Int) (a : Option Addr) (n c : Nat) (l : List ByteArray) (w : World) (hR0 : Rds w a l) (hn0 : n = l.length) (hn12 : n ≤ 12) (hlen0 : (inpK t l n).length ≤ 35184372088832) :
    Calls Tryd.prog 23 #[.int .i64 t, .slice a n c] w (EncPost w (inpK t l n)) := by
  obtain ⟨i0, hi, hz0, hz1, hz2⟩ := info_parts info_u8
  have hR := Lib.hid hR0
  have hn := Lib.hid hn0
  have hlen := Lib.hid hlen0
  have htg := tag_go t
  have hG0 : Hid (Grow w (.slice (some ⟨w.heap.size, 0, none⟩) 1 1) (inpK t l 0) (w.alloc (.cells #[.int .u8 ((tagB t).toNat : Int)] 5))) :=
    Lib.hid ⟨⟨rfl, .inr ⟨w.heap.size, 1, #[.int .u8 ((tagB t).toNat : Int)], rfl, Nat.le_refl _, heap_alloc_new _ _, Nat.le_refl _, by unfold maxLen; omega, rfl, rfl⟩⟩, alloc_row⟩
  clear hR0 hn0 hlen0
  go_enter Tryd.func23, Tryd.ntmps23
  go_wp2_with fail
  go_loopw [5, 6] (fun v i wr => ∃ k : Nat, k ≤ n ∧ i = .int .i64 (k : Int) ∧ Grow w v (inpK t l k) wr) (fun _ i _ => n - (intOf i).toNat)
  case atStart => exact ⟨0, by omega, rfl, hG0.out⟩
  case round =>
    obtain ⟨k, hk, rfl, hG⟩ := hrel
    clear hG0
    by_cases hlt : k < n
    · have hkl : k < l.length := by rw [← hn.out]; exact hlt
      obtain ⟨b0, off, rfl, hc⟩ := Rds_at hR.out k hkl
      have hcell := Below.cell_of' hG.2 hc
      have hst := Lib.hid (inpK_step t l k hkl)
      obtain ⟨hll, hss0⟩ := inpK_le t l k n hlt (by rw [hn.out]; omega) hlen.out
      have hk0 : Hid (0 < (encS (sat l k)).length) := Lib.hid (encS_pos _)
      have hss := Lib.hid hss0
      have hG' := Lib.hid hG
      have hki0 : 0 ≤ (k : Int) := by omega
      have hki : (k : Int) < (n : Int) := by omega
      clear hG hc hss0
      obtain ⟨E, hE⟩ : ∃ E, encS (sat l k) = E := ⟨_, rfl⟩
      obtain ⟨M, hM⟩ : ∃ M, inpK t l k = M := ⟨_, rfl⟩
      have hRB : Hid (∀ W : World, Calls Tryd.prog 36 #[.string (sat l k)] W (EncPost W E)) := Lib.hid (fun W => by rw [← hE]; exact refBytes_any _ W (by have := hss.out; omega))
      have hst2 : Hid (inpK t l (k + 1) = M ++ E) := Lib.hid (by rw [← hE, ← hM]; exact hst.out)
      rw [hE] at hk0
      rw [hE, hM] at hll
      rw [hM] at hG'
      obtain ⟨S, hS⟩ : ∃ S, sat l k = S := ⟨_, rfl⟩
      rw [hS] at hcell hRB
      have hb9 := Lib.hid (bvs_one E)
      clear hE hM hS hst hss
      go_wp2_with (first | (go_at_call 36; refine (hRB.out _).mono ?_; intro e w1 hp; obtain ⟨b1, o1, c1, rfl, hn1, hc1, hm1, hb1⟩ := enc_news hk0.out hp; have hn1' := Lib.hid hn1; have hG1 := Lib.hid (hG'.out.later hb1); clear hp hn1 hb1 hc1 hm1) | (at_builtin; refine wpList_append_own _ rfl _ _ 22 rfl w.heap.size 5 i0 (.int .u8 0) 1 1 Tryd.underlying22 hi hz0 hz1 hz2 rfl (by decide) _ _ _ rfl hG1.out.1 ⟨b1, o1, none⟩ E.length c1 (bvs E) rfl (by rw [bvs_length, Nat.mul_one]) hn1'.out hb9.out (by unfold maxLen; omega) (by omega) hG1.out.2.size ?_; intro v2 w2 ho2 hg2 _; have hG2 := Lib.hid (hG1.out.append (r := E) ho2 hg2); clear ho2 hg2))
      exact ⟨⟨k + 1, by omega, by simp, by rw [hst2.out]; exact hG2.out⟩, by simp [intOf]; omega⟩
    · have hk' : k = n := by omega
      subst hk'
      have hlt' : ¬ (k : Int) < (k : Int) := by omega
      have hJ := Lib.hid hG
      clear hG
      go_wp2_with fail
      go_ret
      exact ⟨_, rfl, hJ.out.1, hJ.out.2⟩
end Go.Proofs.YtfgkaiaapofepaaDoor
