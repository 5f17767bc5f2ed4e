/- The walk of HashMacMatchesSpec. -/
import Derived.Test.YtolgmgjnmdnioaaDoorG9
namespace Go.Proofs.YtolgmgjnmdnioaaDoor
open Go.RowKit

set_option maxRecDepth 100000 in
set_option maxHeartbeats 1600000 in
theorem walk_mac (a0 a1 : ByteArray) (w0 : a0.size ≤ maxLen) (w1 : a1.size ≤ maxLen) (w : World) (hTT : Tab w ∧ Tabc w) : Calls Tryd.prog 5 #[.string a0, .string a1] w (TruePost w) := by
  unfold maxLen at w0 w1
  have hT := Lib.hid hTT.1
  have hTc := Lib.hid hTT.2
  obtain ⟨M, hM⟩ : ∃ M, mac (sl a0) (sl a1) = M := ⟨_, rfl⟩
  have hM1 := Lib.hid hM
  clear hM hTT
  by_cases h0 : 400 < a0.size
  · have h0' : (400 : Int) < (a0.size : Int) := by omega
    go_enter Tryd.func5, Tryd.ntmps5
    go_wp2_with fail
    refine (sanity_ok _ hT.out).mono ?_
    rintro e w1 ⟨rfl, hb1⟩
    have hb := Lib.hid hb1
    clear hb1
    go_wp2_with fail
    go_ret
    exact ⟨rfl, hb.out⟩
  · by_cases h1 : 400 < a1.size
    · have h0' : ¬ (400 : Int) < (a0.size : Int) := by omega
      have h1' : (400 : Int) < (a1.size : Int) := by omega
      go_enter Tryd.func5, Tryd.ntmps5
      go_wp2_with fail
      refine (sanity_ok _ hT.out).mono ?_
      rintro e w1 ⟨rfl, hb1⟩
      have hb := Lib.hid hb1
      clear hb1
      go_wp2_with fail
      go_ret
      exact ⟨rfl, hb.out⟩
    · have h0' : ¬ (400 : Int) < (a0.size : Int) := by omega
      have h1' : ¬ (400 : Int) < (a1.size : Int) := by omega
      have hmac : Hid (∀ W : World, Tab W → Calls Tryd.prog 18 #[.string a0, .string a1] W fun e w' => e = .returned (.string (bs M)) ∧ Below W.heap.size W w') := Lib.hid (by rw [← hM1.out]; exact fun W h => mac_any a0 a1 (by omega) (by omega) W h)
      have href : Hid (∀ W : World, Tabc W → Calls Tryd.prog 19 #[.string a0, .string a1] W fun e w' => e = .returned (.string (bs M)) ∧ Below W.heap.size W w') := Lib.hid (by rw [← hM1.out]; exact fun W h => refMac_any a0 a1 (by omega) (by omega) W h)
      clear hM1
      go_enter Tryd.func5, Tryd.ntmps5
      go_wp2_with fail
      refine (sanity_ok _ hT.out).mono ?_
      rintro e w1 ⟨rfl, hb1⟩
      have hB1 := Lib.hid hb1
      clear hb1
      go_wp2_with fail
      refine (hmac.out _ (hT.out.later hB1.out)).mono ?_
      rintro e w2 ⟨rfl, hb2⟩
      have hB2 := Lib.hid (below_tr hB1.out hb2)
      clear hb2
      go_wp2_with fail
      refine (href.out _ (hTc.out.later hB2.out)).mono ?_
      rintro e w3 ⟨rfl, hb3⟩
      have hB3 := Lib.hid (below_tr hB2.out hb3)
      clear hb3
      go_wp2_with fail
      go_ret
      exact ⟨rfl, hB3.out⟩
end Go.Proofs.YtolgmgjnmdnioaaDoor
