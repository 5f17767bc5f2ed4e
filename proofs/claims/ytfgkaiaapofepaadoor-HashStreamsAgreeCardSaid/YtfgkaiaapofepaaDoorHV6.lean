/- The walk of HashMacKeys. -/
import Derived.Test.YtfgkaiaapofepaaDoorHV9
namespace Go.Proofs.YtfgkaiaapofepaaDoor
open Go.RowKit

theorem mac_long (k t : List UInt8) (h : 64 < k.length) : mac (sha k) t = mac k t := by
  have e : keyOf (sha k) = keyOf k := by
    unfold keyOf; rw [if_neg (by rw [sha_length]; omega), if_pos h]
  unfold mac keyX; rw [e]
theorem mac_short (k t : List UInt8) (h : k.length < 64) : mac (k ++ [0]) t = mac k t := by
  have e : keyOf (k ++ [0]) ++ List.replicate (64 - (keyOf (k ++ [0])).length) 0 = keyOf k ++ List.replicate (64 - (keyOf k).length) 0 := by
    unfold keyOf
    rw [if_neg (by simp; omega), if_neg (by omega), List.length_append, List.length_singleton, List.append_assoc, show 64 - k.length = (64 - (k.length + 1)) + 1 by omega, List.replicate_succ]
    rfl
  unfold mac keyX; rw [e]
theorem mac_length (k t : List UInt8) : (mac k t).length = 32 := rfl
theorem sl_cat (a b : ByteArray) : sl (a ++ b) = sl a ++ sl b := by simp [sl]

set_option maxRecDepth 100000 in
set_option maxHeartbeats 1600000 in
theorem walk_mackeys (a0 a1 : ByteArray) (w0 : a0.size ≤ maxLen) (w1 : a1.size ≤ maxLen) (w : World) (hT0 : Tab w) : Calls Tryd.prog 6 #[.string a0, .string a1] w (TruePost w) := by
  unfold maxLen at w0 w1
  have hT := Lib.hid hT0
  have hsl0 := Lib.hid (sl_length a0)
  obtain ⟨M, hM⟩ : ∃ M, mac (sl a0) (sl a1) = M := ⟨_, rfl⟩
  have hML : (bs M).size = 32 := by rw [bs_size, ← hM]; rfl
  have hM1 := Lib.hid hM
  clear hM hT0
  by_cases h0 : 400 < a0.size
  · have h0' : (400 : Int) < (a0.size : Int) := by omega
    go_enter Tryd.func6, Tryd.ntmps6
    go_wp2_with fail
    refine (sanity_ok _ hT.out).mono ?_
    rintro e w1 ⟨rfl, hb1⟩
    have hb := Lib.hid hb1
    clear hb1
    go_wp2_with fail
    go_ret
    exact ⟨rfl, hb.out⟩
  · by_cases h1 : 400 < a1.size
    · have h0' : ¬ (400 : Int) < (a0.size : Int) := by omega
      have h1' : (400 : Int) < (a1.size : Int) := by omega
      go_enter Tryd.func6, Tryd.ntmps6
      go_wp2_with fail
      refine (sanity_ok _ hT.out).mono ?_
      rintro e w1 ⟨rfl, hb1⟩
      have hb := Lib.hid hb1
      clear hb1
      go_wp2_with fail
      go_ret
      exact ⟨rfl, hb.out⟩
    · have h0' : ¬ (400 : Int) < (a0.size : Int) := by omega
      have h1' : ¬ (400 : Int) < (a1.size : Int) := by omega
      have hmac : Hid (∀ W : World, Tab W → Calls Tryd.prog 18 #[.string a0, .string a1] W fun e w' => e = .returned (.string (bs M)) ∧ Below W.heap.size W w') := Lib.hid (by rw [← hM1.out]; exact fun W h => mac_any a0 a1 (by omega) (by omega) W h)
      by_cases hg : 64 < a0.size
      · have hg' : (64 : Int) < (a0.size : Int) := by omega
        obtain ⟨d, hd0, hD⟩ := sha_dig (sl a0)
        have hmac2 : Hid (∀ W : World, Tab W → Calls Tryd.prog 18 #[.string (bs d), .string a1] W fun e w' => e = .returned (.string (bs M)) ∧ Below W.heap.size W w') := Lib.hid (by
          have := mac_long (sl a0) (sl a1) (by rw [hsl0.out]; exact hg)
          rw [hd0, hM1.out] at this
          rw [← this, ← sl_bs d]
          exact fun W h => mac_any (bs (sl (bs d))) a1 (by rw [sl_bs, bs_size, hD.len]; omega) (by omega) W h)
        have hdl := Lib.hid hD.len
        have hd' := Lib.hid hd0
        clear hD hd0
        go_enter Tryd.func6, Tryd.ntmps6
        go_wp2_with fail
        refine (sanity_ok _ hT.out).mono ?_
        rintro e w1 ⟨rfl, hb1⟩
        have hB1 := Lib.hid hb1
        clear hb1
        go_wp2_with fail
        refine (hmac.out _ (hT.out.later hB1.out)).mono ?_
        rintro e w2 ⟨rfl, hb2⟩
        have hB2 := Lib.hid (below_tr hB1.out hb2)
        clear hb2
        obtain ⟨cp, W3, hcv, hN3, hb3⟩ := conv_bytes a0 w2
        have hR3 := Lib.hid (Rd_conv hN3)
        have hB3 := Lib.hid (below_tr hB2.out hb3)
        clear hN3 hb3
        go_wp2_with fail
        refine (hsum_any _ _ _ (sl a0) _ hR3.out hsl0.out.symm (by rw [hsl0.out]; omega) (hT.out.later hB3.out)).mono ?_
        rw [hd'.out]
        rintro e w4 ⟨rfl, hb4⟩
        have hB4 := Lib.hid (below_tr hB3.out hb4)
        clear hb4
        go_wp2_with fail
        refine (bytes32_any d hdl.out _).mono ?_
        rintro e w5 ⟨rfl, hb5⟩
        have hB5 := Lib.hid (below_tr hB4.out hb5)
        clear hb5
        go_wp2_with fail
        refine (hmac2.out _ (hT.out.later hB5.out)).mono ?_
        rintro e w6 ⟨rfl, hb6⟩
        have hB6 := Lib.hid (below_tr hB5.out hb6)
        clear hb6
        go_wp2_with fail
        go_ret
        exact ⟨rfl, hB6.out⟩
      · have hg' : ¬ (64 : Int) < (a0.size : Int) := by omega
        by_cases hs : a0.size < 64
        · have hs' : (a0.size : Int) < 64 := by omega
          have hmac2 : Hid (∀ W : World, Tab W → Calls Tryd.prog 18 #[.string (a0 ++ ⟨#[0]⟩), .string a1] W fun e w' => e = .returned (.string (bs M)) ∧ Below W.heap.size W w') := Lib.hid (by
            obtain ⟨b0, hb0⟩ : ∃ b0 : ByteArray, b0 = a0 ++ ⟨#[0]⟩ := ⟨_, rfl⟩
            have hsb : sl b0 = sl a0 ++ [0] := by rw [hb0, sl_cat]; rfl
            have hz : b0.size = a0.size + 1 := by rw [← sl_length, hsb, List.length_append, hsl0.out]; rfl
            have e : mac (sl b0) (sl a1) = M := by rw [hsb, mac_short _ _ (by rw [hsl0.out]; exact hs)]; exact hM1.out
            rw [← hb0, ← e]
            exact fun W h => mac_any b0 a1 (by omega) (by omega) W h)
          go_enter Tryd.func6, Tryd.ntmps6
          go_wp2_with fail
          refine (sanity_ok _ hT.out).mono ?_
          rintro e w1 ⟨rfl, hb1⟩
          have hB1 := Lib.hid hb1
          clear hb1
          go_wp2_with fail
          refine (hmac.out _ (hT.out.later hB1.out)).mono ?_
          rintro e w2 ⟨rfl, hb2⟩
          have hB2 := Lib.hid (below_tr hB1.out hb2)
          clear hb2
          go_wp2_with fail
          refine (hmac2.out _ (hT.out.later hB2.out)).mono ?_
          rintro e w6 ⟨rfl, hb6⟩
          have hB6 := Lib.hid (below_tr hB2.out hb6)
          clear hb6
          go_wp2_with fail
          go_ret
          exact ⟨rfl, hB6.out⟩
        · have hs' : ¬ (a0.size : Int) < 64 := by omega
          go_enter Tryd.func6, Tryd.ntmps6
          go_wp2_with fail
          refine (sanity_ok _ hT.out).mono ?_
          rintro e w1 ⟨rfl, hb1⟩
          have hB1 := Lib.hid hb1
          clear hb1
          go_wp2_with fail
          refine (hmac.out _ (hT.out.later hB1.out)).mono ?_
          rintro e w2 ⟨rfl, hb2⟩
          have hB2 := Lib.hid (below_tr hB1.out hb2)
          clear hb2
          go_wp2_with fail
          go_ret
          exact ⟨rfl, hB2.out⟩
end Go.Proofs.YtfgkaiaapofepaaDoor
