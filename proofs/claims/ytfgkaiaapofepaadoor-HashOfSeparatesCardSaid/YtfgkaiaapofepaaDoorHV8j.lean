/- The walk of HashOfSeparates. -/
import Derived.Test.YtfgkaiaapofepaaDoorHV8t1
import Derived.Test.YtfgkaiaapofepaaDoorHV8t2
import Derived.Test.YtfgkaiaapofepaaDoorHV8f1
import Derived.Test.YtfgkaiaapofepaaDoorHV8f2
namespace Go.Proofs.YtfgkaiaapofepaaDoor
open Go.RowKit

set_option maxRecDepth 100000 in
set_option maxHeartbeats 3200000 in
theorem walk_sep (t0 t1 : Int) (ht0 : 0 ≤ t0) (ht0' : t0 < 256) (ht1 : 0 ≤ t1) (ht1' : t1 < 256) (a1 a2 : Option Addr) (n1 c1 n2 c2 : Nat) (l1 l2 : List ByteArray) (w : World) (hR1 : Rds w a1 l1) (hR2 : Rds w a2 l2) (hn1 : n1 = l1.length) (hn2 : n2 = l2.length) (hT0 : Tab w) :
    Calls Tryd.prog 8 #[.agg #[.int .u8 t0, .int .u8 t1], .slice a1 n1 c1, .slice a2 n2 c2] w (TruePost w) := by
  have hT := Lib.hid hT0
  have R1 := Lib.hid hR1
  have R2 := Lib.hid hR2
  have N1 := Lib.hid hn1
  have N2 := Lib.hid hn2
  have hf1 : Hid (∀ W, Rds W a1 l1 → Calls Tryd.prog 13 #[.slice a1 n1 c1] W fun e w' => e = .returned (.bool (decide (fewP l1))) ∧ Below W.heap.size W w') := Lib.hid fun W h => few_any a1 n1 c1 l1 W h hn1
  have hf2 : Hid (∀ W, Rds W a2 l2 → Calls Tryd.prog 13 #[.slice a2 n2 c2] W fun e w' => e = .returned (.bool (decide (fewP l2))) ∧ Below W.heap.size W w') := Lib.hid fun W h => few_any a2 n2 c2 l2 W h hn2
  have hS0 : Hid (SepL w t0 t1 (w.alloc (.cells #[.int .u8 t0, .int .u8 t1] 48))) := Lib.hid ⟨by rw [cell_new]; rfl, by rw [cell_new]; rfl, alloc_row, by simp⟩
  clear hR1 hR2 hn1 hn2 hT0
  by_cases hF1 : fewP l1
  · rw [decide_eq_true hF1] at hf1
    by_cases hF2 : fewP l2
    · rw [decide_eq_true hF2] at hf2
      rcases Bool.eq_false_or_eq_true (t0 == t1) with h | h
      · by_cases hP : ∃ k, k < n1 ∧ DiffAt l1 l2 n1 n2 k
        · exact walk_sepT1 t0 t1 ht0 ht0' ht1 ht1' a1 a2 n1 c1 n2 c2 l1 l2 w R1.out R2.out N1.out N2.out hT.out hF1 hF2 h hP
        · exact walk_sepT2 t0 t1 ht0 ht0' ht1 ht1' a1 a2 n1 c1 n2 c2 l1 l2 w R1.out R2.out N1.out N2.out hT.out hF1 hF2 h hP
      · by_cases hP : 0 < n1
        · exact walk_sepF1 t0 t1 ht0 ht0' ht1 ht1' a1 a2 n1 c1 n2 c2 l1 l2 w R1.out R2.out N1.out N2.out hT.out hF1 hF2 h hP
        · exact walk_sepF2 t0 t1 ht0 ht0' ht1 ht1' a1 a2 n1 c1 n2 c2 l1 l2 w R1.out R2.out N1.out N2.out hT.out hF1 hF2 h hP
    · rw [decide_eq_false hF2] at hf2
      go_enter Tryd.func8, Tryd.ntmps8
      go_wp2_with fail
      generalize w.alloc (.cells #[.int .u8 t0, .int .u8 t1] 48) = w0 at hS0 ⊢
      refine (sanity_ok _ (hT.out.later hS0.out.2.2.1)).mono ?_
      rintro e w1 ⟨rfl, hb1⟩
      have hS1 := Lib.hid (hS0.out.later hb1)
      clear hb1 hS0
      go_wp2_with fail
      refine (hf1.out _ (Rds_below hS1.out.2.2.1 R1.out)).mono ?_
      rintro e w2 ⟨rfl, hb2⟩
      have hS2 := Lib.hid (hS1.out.later hb2)
      clear hb2 hS1 hf1
      go_wp2_with fail
      refine (hf2.out _ (Rds_below hS2.out.2.2.1 R2.out)).mono ?_
      rintro e w3 ⟨rfl, hb3⟩
      have hS3 := Lib.hid (hS2.out.later hb3)
      clear hb3 hS2 hf2
      go_wp2_with fail
      go_ret
      exact ⟨rfl, hS3.out.2.2.1⟩
  · rw [decide_eq_false hF1] at hf1
    go_enter Tryd.func8, Tryd.ntmps8
    go_wp2_with fail
    generalize w.alloc (.cells #[.int .u8 t0, .int .u8 t1] 48) = w0 at hS0 ⊢
    refine (sanity_ok _ (hT.out.later hS0.out.2.2.1)).mono ?_
    rintro e w1 ⟨rfl, hb1⟩
    have hS1 := Lib.hid (hS0.out.later hb1)
    clear hb1 hS0
    go_wp2_with fail
    refine (hf1.out _ (Rds_below hS1.out.2.2.1 R1.out)).mono ?_
    rintro e w2 ⟨rfl, hb2⟩
    have hS2 := Lib.hid (hS1.out.later hb2)
    clear hb2 hS1 hf1
    go_wp2_with fail
    go_ret
    exact ⟨rfl, hS2.out.2.2.1⟩
end Go.Proofs.YtfgkaiaapofepaaDoor
