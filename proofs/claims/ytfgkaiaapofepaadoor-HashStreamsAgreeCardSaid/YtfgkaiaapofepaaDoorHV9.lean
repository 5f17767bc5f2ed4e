/- The walks of HashEqualIsEquality and HashMacKeys. -/
import Derived.Test.YtfgkaiaapofepaaDoorHLaid
namespace Go.Proofs.YtfgkaiaapofepaaDoor
open Go.RowKit

theorem cat_empty (a : ByteArray) : a ++ (⟨#[]⟩ : ByteArray) = a := by
  apply ByteArray.ext
  simp
theorem eqB_cmp (a b : ByteArray) : (a.toList == b.toList) = eqB (sl a) (sl b) := by
  rw [ByteArray.toList_eq, ByteArray.toList_eq]
  unfold eqB sl
  rw [Bool.eq_iff_iff]; simp
theorem eqB_comm (a b : List UInt8) : eqB a b = eqB b a := by
  unfold eqB
  rw [decide_eq_decide]
  exact eq_comm

set_option maxRecDepth 100000 in
set_option maxHeartbeats 1600000 in
theorem walk_equal (a0 a1 : ByteArray) (w0 : a0.size ≤ maxLen) (w1 : a1.size ≤ maxLen) (w : World) (hT0 : Tab w) : Calls Tryd.prog 9 #[.string a0, .string a1] w (TruePost w) := by
  unfold maxLen at w0 w1
  have hT := Lib.hid hT0
  obtain ⟨r, hr⟩ : ∃ r, eqB (sl a0) (sl a1) = r := ⟨_, rfl⟩
  have hcmp : (a0.toList == a1.toList) = r := by rw [eqB_cmp, hr]
  have hr1 := Lib.hid hr
  have hr2 : Hid (eqB (sl a1) (sl a0) = r) := Lib.hid (by rw [eqB_comm, hr])
  have hce := cat_empty a0
  clear hr hT0
  by_cases h0 : 400 < a0.size
  · have h0' : (400 : Int) < (a0.size : Int) := by omega
    clear hcmp hce
    go_enter Tryd.func9, Tryd.ntmps9
    go_wp2_with fail
    refine (sanity_ok _ hT.out).mono ?_
    rintro e w1 ⟨rfl, hb1⟩
    have hb := Lib.hid hb1
    clear hb1
    go_wp2_with fail
    go_ret
    exact ⟨rfl, hb.out⟩
  · by_cases h1 : 400 < a1.size
    · have h0' : ¬ (400 : Int) < (a0.size : Int) := by omega
      have h1' : (400 : Int) < (a1.size : Int) := by omega
      clear hcmp hce
      go_enter Tryd.func9, Tryd.ntmps9
      go_wp2_with fail
      refine (sanity_ok _ hT.out).mono ?_
      rintro e w1 ⟨rfl, hb1⟩
      have hb := Lib.hid hb1
      clear hb1
      go_wp2_with fail
      go_ret
      exact ⟨rfl, hb.out⟩
    · have h0' : ¬ (400 : Int) < (a0.size : Int) := by omega
      have h1' : ¬ (400 : Int) < (a1.size : Int) := by omega
      go_enter Tryd.func9, Tryd.ntmps9
      go_wp2_with fail
      refine (sanity_ok _ hT.out).mono ?_
      rintro e w1 ⟨rfl, hb1⟩
      have hB1 := Lib.hid hb1
      clear hb1
      go_wp2_with fail
      refine (equal_b a0 a1 (by omega) (by omega) r hr1.out _).mono ?_
      rintro e w2 ⟨rfl, hb2⟩
      have hB2 := Lib.hid (below_tr hB1.out hb2)
      clear hb2
      go_wp2_with fail
      refine (equal_b a1 a0 (by omega) (by omega) r hr2.out _).mono ?_
      rintro e w3 ⟨rfl, hb3⟩
      have hB3 := Lib.hid (below_tr hB2.out hb3)
      clear hb3
      go_wp2_with fail
      refine (equal_b a0 a0 (by omega) (by omega) true (eqB_self _) _).mono ?_
      rintro e w4 ⟨rfl, hb4⟩
      have hB4 := Lib.hid (below_tr hB3.out hb4)
      clear hb4
      go_wp2_with fail
      go_ret
      exact ⟨rfl, hB4.out⟩
end Go.Proofs.YtfgkaiaapofepaaDoor
