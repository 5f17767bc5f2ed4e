/- The reference: Mac. -/
import Derived.Test.YtolgmgjnmdnioaaDoorG8
namespace Go.Proofs.YtolgmgjnmdnioaaDoor
open Go.RowKit

theorem Grow.str {w wr w' : World} {v v' : Value} {l : List UInt8} {s : ByteArray} (h : Grow w v l wr) (ho : w'.ownsRow w.heap.size 5 1 v' (l.length + s.size) (bvs l ++ Lib.strCells s)) (hg : wr.grownBy w' v.ownBlock) : Grow w v' (l ++ sl s) w' :=
  h.append (by rw [sl_length, ← strCells_sl]; exact ho) hg

set_option maxRecDepth 100000 in
set_option maxHeartbeats 1600000 in
theorem refMac_any (key text : ByteArray) (hk : key.size ≤ 1099511627776) (ht : text.size ≤ 1099511627000) (w : World) (hT0 : Tabc w) : Calls Tryd.prog 19 #[.string key, .string text] w fun e w' => e = .returned (.string (bs (mac (sl key) (sl text)))) ∧ Below w.heap.size w w' := by
  obtain ⟨i0, hi, hz0, hz1, hz2⟩ := info_parts info_u8
  have hT := Lib.hid hT0
  obtain ⟨A, hA⟩ : ∃ A, keyX (sl key) 54 = A := ⟨_, rfl⟩
  obtain ⟨B, hB⟩ : ∃ B, keyX (sl key) 92 = B := ⟨_, rfl⟩
  have hAl : Hid (A.length = 64) := Lib.hid (by rw [← hA]; exact keyX_len _ _)
  have hBl : Hid (B.length = 64) := Lib.hid (by rw [← hB]; exact keyX_len _ _)
  have hpA : Hid (∀ W : World, Tabc W → Calls Tryd.prog 33 #[.string key, .int .u8 54] W (EncPost W A)) := Lib.hid (by rw [← hA]; exact fun W h => padKey_any key hk 54 W h)
  have hpB : Hid (∀ W : World, Tabc W → Calls Tryd.prog 33 #[.string key, .int .u8 92] W (EncPost W B)) := Lib.hid (by rw [← hB]; exact fun W h => padKey_any key hk 92 W h)
  obtain ⟨d1, hd1, hD1⟩ := sha_dig (A ++ sl text)
  obtain ⟨d2, hd2, hD2⟩ := sha_dig (B ++ d1)
  have hm : mac (sl key) (sl text) = d2 := by unfold mac; rw [hA, hB, hd1, hd2]
  rw [hm]
  have hsl := Lib.hid (sl_length text)
  have hd1' := Lib.hid hd1
  have hd2' := Lib.hid hd2
  have hl1 := Lib.hid hD1.len
  have hl2 := Lib.hid hD2.len
  clear hT0 hA hB hd1 hd2 hD1 hD2 hm
  go_enter Tryd.func19, Tryd.ntmps19
  go_wp2_with fail
  refine (hpA.out _ hT.out).mono ?_
  rintro e w1 ⟨v1, rfl, ho1, hb1⟩
  have hG1 : Hid (Grow w v1 A w1) := Lib.hid ⟨ho1, hb1⟩
  have hz1' := hb1.size
  clear ho1 hb1
  go_wp2_with (at_builtin; refine Lib.wpList_append_own_string _ rfl _ _ 22 9 rfl w.heap.size 5 i0 Tryd.underlying22 Tryd.underlying9 hi hz0 hz1 hz2 _ _ _ rfl hG1.out.1 text rfl (by rw [hAl.out]; unfold maxLen; omega) (by rw [hAl.out]; omega) (by omega) ?_; intro v2 w2 ho2 hg2 _; have hG2 := Lib.hid (hG1.out.str ho2 hg2); clear ho2 hg2)
  refine (hpB.out _ (hT.out.later hG2.out.2)).mono ?_
  rintro e w3 ⟨v3, rfl, ho3, hb3⟩
  have hG3 : Hid (Grow w2 v3 B w3) := Lib.hid ⟨ho3, hb3⟩
  have hG4 := Lib.hid (hG2.out.later hb3)
  clear ho3 hb3 hG1
  obtain ⟨p, c, rfl, hRd0, hn0, hc0, hm0, _⟩ := own_Rd hG4.out.1
  have hRd := Lib.hid hRd0
  obtain ⟨L, hL⟩ : ∃ L, L = (A ++ sl text).length := ⟨_, rfl⟩
  rw [← hL] at hc0 ⊢
  have hn := Lib.hid hL
  clear hn0 hL
  clear hRd0
  have hlen : Hid ((A ++ sl text).length ≤ 1099511627776) := Lib.hid (by rw [List.length_append, hAl.out, hsl.out]; omega)
  go_wp2_with fail
  refine (rsum_any _ _ _ (A ++ sl text) _ hRd.out hn.out hlen.out (hT.out.later hG4.out.2)).mono ?_
  rw [hd1'.out]
  rintro e w4 ⟨rfl, hb4⟩
  have hG5 := Lib.hid (hG3.out.later hb4)
  have hB5 := Lib.hid (below_tr hG4.out.2 hb4)
  clear hb4
  go_wp2_with fail
  refine (bytes32_any d1 hl1.out _).mono ?_
  rintro e w5 ⟨rfl, hb5⟩
  have hG6 := Lib.hid (hG5.out.later hb5)
  have hB6 := Lib.hid (below_tr hB5.out hb5)
  have hs6 := hG6.out.2.size
  clear hb5 hG5 hB5 hG4 hG3
  obtain ⟨S, hS⟩ : ∃ S, bs d1 = S := ⟨_, rfl⟩
  rw [hS]
  have hSs : Hid (S.size = 32) := Lib.hid (by rw [← hS, bs_size, hl1.out])
  have hSl : Hid (sl S = d1) := Lib.hid (by rw [← hS, sl_bs])
  obtain ⟨L7, hL7⟩ : ∃ L7, L7 = (B ++ d1).length := ⟨_, rfl⟩
  have hn7 := Lib.hid hL7
  clear hS
  go_wp2_with (at_builtin; refine Lib.wpList_append_own_string _ rfl _ _ 22 9 rfl w2.heap.size 5 i0 Tryd.underlying22 Tryd.underlying9 hi hz0 hz1 hz2 _ _ _ rfl hG6.out.1 S rfl (by rw [hBl.out, hSs.out]; unfold maxLen; omega) (by rw [hBl.out, hSs.out]; omega) (by omega) ?_; intro v7 w7 ho7 hg7 _; have hG7 := Lib.hid (hG6.out.str ho7 hg7); rw [hSl.out] at hG7; obtain ⟨p7, c7, rfl, hRd7, _, hc7, hm7, _⟩ := own_Rd hG7.out.1; rw [← hL7] at hc7 ⊢; have hR7 := Lib.hid hRd7; clear ho7 hg7 hRd7 hL7)
  have hB7 := Lib.hid (below_tr hG2.out.2 hG7.out.2)
  refine (rsum_any _ _ _ (B ++ d1) _ hR7.out hn7.out (by rw [List.length_append, hBl.out, hl1.out]; omega) (hT.out.later hB7.out)).mono ?_
  rw [hd2'.out]
  rintro e w8 ⟨rfl, hb8⟩
  have hB8 := Lib.hid (below_tr hB7.out hb8)
  clear hb8
  go_wp2_with fail
  refine (bytes32_any d2 hl2.out _).mono ?_
  rintro e w9 ⟨rfl, hb9⟩
  have hB9 := Lib.hid (below_tr hB8.out hb9)
  clear hb9
  go_wp2_with fail
  go_ret
  exact ⟨rfl, hB9.out⟩
end Go.Proofs.YtolgmgjnmdnioaaDoor
