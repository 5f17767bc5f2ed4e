/- The reference: padKey. -/
import Derived.Test.YtolgmgjnmdnioaaDoorG7
import Derived.Test.YtolgmgjnmdnioaaDoorHV6
namespace Go.Proofs.YtolgmgjnmdnioaaDoor
open Go.RowKit

theorem keyO_le (s : List UInt8) : (keyOf s).length ≤ 64 := by
  unfold keyOf
  split
  · rw [sha_length]; omega
  · omega
theorem keyX_len (s : List UInt8) (c : UInt8) : (keyX s c).length = 64 := by
  have := keyO_le s
  unfold keyX
  rw [List.length_map, List.length_append, List.length_replicate]; omega
theorem keyX_get (s : List UInt8) (c : UInt8) (k : Nat) (h : k < 64) : (keyX s c)[k]? = some ((keyOf s).getD k 0 ^^^ c) := by
  have hl := keyO_le s
  unfold keyX
  rw [List.getElem?_map]
  by_cases hk : k < (keyOf s).length
  · rw [List.getElem?_append_left hk, List.getD_eq_getElem?_getD, List.getElem?_eq_getElem hk]; rfl
  · rw [List.getElem?_append_right (by omega), List.getElem?_replicate, if_pos (by omega), List.getD_eq_getElem?_getD, List.getElem?_eq_none (by omega)]; rfl
theorem keyX_step (s : List UInt8) (c : UInt8) (k : Nat) (h : k < 64) : (keyX s c).take (k + 1) = (keyX s c).take k ++ [(keyOf s).getD k 0 ^^^ c] := by
  have hl : k < (keyX s c).length := by rw [keyX_len]; exact h
  have hg : (keyX s c)[k] = (keyOf s).getD k 0 ^^^ c := Option.some.inj ((List.getElem?_eq_getElem hl).symm.trans (keyX_get s c k h))
  rw [List.take_succ_eq_append_getElem hl, hg]
theorem xor_in (l : List UInt8) (k : Nat) (c : UInt8) : bits .xor .u8 (byt l k) (c.toNat : Int) = ((l.getD k 0 ^^^ c).toNat : Int) := by
  unfold byt
  rw [u8_xor_nat _ _ (l.getD k 0).toNat_lt c.toNat_lt, UInt8.toNat_xor]
theorem xor_out (l : List UInt8) (k : Nat) (c : UInt8) (h : l.length ≤ k) : bits .xor .u8 0 (c.toNat : Int) = ((l.getD k 0 ^^^ c).toNat : Int) := by
  have e : l.getD k 0 = 0 := by rw [List.getD_eq_getElem?_getD, List.getElem?_eq_none h]; rfl
  have := u8_xor_nat 0 c.toNat (by omega) c.toNat_lt
  rw [e, UInt8.toNat_xor]
  exact this

set_option maxRecDepth 100000 in
set_option maxHeartbeats 1600000 in
theorem padKey_any (key : ByteArray) (hk : key.size ≤ 1099511627776) (c : UInt8) (w : World) (hT0 : Tabc w) : Calls Tryd.prog 33 #[.string key, .int .u8 (c.toNat : Int)] w (EncPost w (keyX (sl key) c)) := by
  obtain ⟨i0, hi, hz0, hz1, hz2⟩ := info_parts info_u8
  have hT := Lib.hid hT0
  obtain ⟨X, hX⟩ : ∃ X, keyX (sl key) c = X := ⟨_, rfl⟩
  have hXl : Hid (X.length = 64) := Lib.hid (by rw [← hX]; exact keyX_len _ _)
  have hsl := Lib.hid (sl_length key)
  have hcl := c.toNat_lt
  rw [hX]
  have hst0 : Hid (∀ k, k < 64 → X.take (k + 1) = X.take k ++ [(keyOf (sl key)).getD k 0 ^^^ c]) := Lib.hid (by rw [← hX]; exact fun k h => keyX_step _ _ k h)
  clear hT0 hX
  by_cases hg : 64 < key.size
  · have hg' : (64 : Int) < (key.size : Int) := by omega
    obtain ⟨d, hd0, hD⟩ := sha_dig (sl key)
    have hd' := Lib.hid hd0
    have hdl := Lib.hid hD.len
    have hkey : keyOf (sl key) = d := by unfold keyOf; rw [if_pos (by rw [hsl.out]; exact hg), hd0]
    rw [hkey] at hst0
    obtain ⟨K, hK⟩ : ∃ K, bs d = K := ⟨_, rfl⟩
    have hKs : K.size ≤ 64 := by rw [← hK, bs_size, hdl.out]; omega
    have hKl : Hid (sl K = d) := Lib.hid (by rw [← hK, sl_bs])
    clear hd0 hD hkey
    go_enter Tryd.func33, Tryd.ntmps33
    obtain ⟨cp, W3, hcv, hN3, hb3⟩ := conv_bytes key w
    have hR3 := Lib.hid (Rd_conv hN3)
    have hB3 := Lib.hid hb3
    clear hN3 hb3
    go_wp2_with fail
    refine (rsum_any _ _ _ (sl key) _ hR3.out hsl.out.symm (by rw [hsl.out]; omega) (hT.out.later hB3.out)).mono ?_
    rw [hd'.out]
    rintro e w4 ⟨rfl, hb4⟩
    have hB4 := Lib.hid (below_tr hB3.out hb4)
    clear hb4
    go_wp2_with fail
    refine (bytes32_any d hdl.out _).mono ?_
    rw [hK]
    rintro e w5 ⟨rfl, hb5⟩
    have hB5 := Lib.hid (below_tr hB4.out hb5)
    clear hb5 hcv hK
    have hG0 := Lib.hid ((Grow.nil w).later hB5.out)
    go_wp2_with fail
    go_loopw [6, 7] (fun v i wr => ∃ k : Nat, k ≤ 64 ∧ i = .int .i64 k ∧ Grow w v (X.take k) wr) (fun _ i _ => 64 - (intOf i).toNat)
    case atStart => exact ⟨0, by omega, rfl, hG0.out⟩
    case round =>
      obtain ⟨k, hk64, rfl, hG⟩ := hrel
      clear hG0
      by_cases hlt : k < 64
      · have hlt' : (k : Int) < 64 := by omega
        have hk0 : 0 ≤ (k : Int) := by omega
        have hG' := Lib.hid hG
        have htl : Hid ((X.take k).length = k) := Lib.hid (by rw [List.length_take, hXl.out]; omega)
        have hsz := hG.2.size
        have hst := Lib.hid (hst0.out k hlt)
        clear hG
        by_cases hin : k < K.size
        · have hin' : (k : Int) < (K.size : Int) := by omega
          have sa := str_index K k hin
          have hx : Hid (bits .xor .u8 (byt (sl K) k) (c.toNat : Int) = ((d.getD k 0 ^^^ c).toNat : Int)) := Lib.hid (by rw [hKl.out]; exact xor_in d k c)
          go_wp2_with (at_builtin; refine wpList_append_own _ rfl _ _ 22 rfl w.heap.size 5 i0 (.int .u8 0) 1 1 Tryd.underlying22 hi hz0 hz1 hz2 rfl (by decide) _ _ _ rfl (hG'.out.1.alloc _) ⟨wr.heap.size, 0, none⟩ 1 1 [.int .u8 (bits .xor .u8 (byt (sl K) k) (c.toNat : Int))] rfl rfl (cell_one_new _ _ _) (by intro u hu; simp at hu; subst hu; rfl) (by rw [htl.out]; unfold maxLen; omega) (by rw [htl.out]; omega) (by simp; omega) ?_; intro v2 w2 ho2 hg2 _; rw [hx.out] at ho2; have hG2 := Lib.hid (hG'.out.push (b := d.getD k 0 ^^^ c) ho2 hg2); clear ho2 hg2)
          exact ⟨⟨k + 1, by omega, by simp, by rw [hst.out]; exact hG2.out⟩, by simp [intOf]; omega⟩
        · have hin' : ¬ (k : Int) < (K.size : Int) := by omega
          have hx : Hid (bits .xor .u8 0 (c.toNat : Int) = ((d.getD k 0 ^^^ c).toNat : Int)) := Lib.hid (xor_out d k c (by rw [← hKl.out, sl_length]; omega))
          go_wp2_with (at_builtin; refine wpList_append_own _ rfl _ _ 22 rfl w.heap.size 5 i0 (.int .u8 0) 1 1 Tryd.underlying22 hi hz0 hz1 hz2 rfl (by decide) _ _ _ rfl (hG'.out.1.alloc _) ⟨wr.heap.size, 0, none⟩ 1 1 [.int .u8 (bits .xor .u8 0 (c.toNat : Int))] rfl rfl (cell_one_new _ _ _) (by intro u hu; simp at hu; subst hu; rfl) (by rw [htl.out]; unfold maxLen; omega) (by rw [htl.out]; omega) (by simp; omega) ?_; intro v2 w2 ho2 hg2 _; rw [hx.out] at ho2; have hG2 := Lib.hid (hG'.out.push (b := d.getD k 0 ^^^ c) ho2 hg2); clear ho2 hg2)
          exact ⟨⟨k + 1, by omega, by simp, by rw [hst.out]; exact hG2.out⟩, by simp [intOf]; omega⟩
      · have hk' : k = 64 := by omega
        subst hk'
        rw [List.take_of_length_le (by rw [hXl.out]; omega)] at hG
        rw [show ((64 : Nat) : Int) = 64 from rfl]
        have hG' := Lib.hid hG
        clear hG hlt
        go_wp2_with fail
        go_ret
        exact ⟨_, rfl, hG'.out.1, hG'.out.2⟩
  · have hg' : ¬ (64 : Int) < (key.size : Int) := by omega
    obtain ⟨d, hd0⟩ : ∃ d, keyOf (sl key) = d := ⟨_, rfl⟩
    rw [hd0] at hst0
    obtain ⟨K, hK⟩ : ∃ K, key = K := ⟨_, rfl⟩
    have hKs : K.size ≤ 64 := by rw [← hK]; omega
    have hKl : Hid (sl K = d) := Lib.hid (by rw [← hd0, ← hK]; unfold keyOf; rw [if_neg (by rw [hsl.out]; omega)])
    have hG0 := Lib.hid (Grow.nil w)
    subst hK
    clear hd0
    go_enter Tryd.func33, Tryd.ntmps33
    go_wp2_with fail
    go_loopw [6, 7] (fun v i wr => ∃ k : Nat, k ≤ 64 ∧ i = .int .i64 k ∧ Grow w v (X.take k) wr) (fun _ i _ => 64 - (intOf i).toNat)
    case atStart => exact ⟨0, by omega, rfl, hG0.out⟩
    case round =>
      obtain ⟨k, hk64, rfl, hG⟩ := hrel
      clear hG0
      by_cases hlt : k < 64
      · have hlt' : (k : Int) < 64 := by omega
        have hk0 : 0 ≤ (k : Int) := by omega
        have hG' := Lib.hid hG
        have htl : Hid ((X.take k).length = k) := Lib.hid (by rw [List.length_take, hXl.out]; omega)
        have hsz := hG.2.size
        have hst := Lib.hid (hst0.out k hlt)
        clear hG
        by_cases hin : k < key.size
        · have hin' : (k : Int) < (key.size : Int) := by omega
          have sa := str_index key k hin
          have hx : Hid (bits .xor .u8 (byt (sl key) k) (c.toNat : Int) = ((d.getD k 0 ^^^ c).toNat : Int)) := Lib.hid (by rw [hKl.out]; exact xor_in d k c)
          go_wp2_with (at_builtin; refine wpList_append_own _ rfl _ _ 22 rfl w.heap.size 5 i0 (.int .u8 0) 1 1 Tryd.underlying22 hi hz0 hz1 hz2 rfl (by decide) _ _ _ rfl (hG'.out.1.alloc _) ⟨wr.heap.size, 0, none⟩ 1 1 [.int .u8 (bits .xor .u8 (byt (sl key) k) (c.toNat : Int))] rfl rfl (cell_one_new _ _ _) (by intro u hu; simp at hu; subst hu; rfl) (by rw [htl.out]; unfold maxLen; omega) (by rw [htl.out]; omega) (by simp; omega) ?_; intro v2 w2 ho2 hg2 _; rw [hx.out] at ho2; have hG2 := Lib.hid (hG'.out.push (b := d.getD k 0 ^^^ c) ho2 hg2); clear ho2 hg2)
          exact ⟨⟨k + 1, by omega, by simp, by rw [hst.out]; exact hG2.out⟩, by simp [intOf]; omega⟩
        · have hin' : ¬ (k : Int) < (key.size : Int) := by omega
          have hx : Hid (bits .xor .u8 0 (c.toNat : Int) = ((d.getD k 0 ^^^ c).toNat : Int)) := Lib.hid (xor_out d k c (by rw [← hKl.out, sl_length]; omega))
          go_wp2_with (at_builtin; refine wpList_append_own _ rfl _ _ 22 rfl w.heap.size 5 i0 (.int .u8 0) 1 1 Tryd.underlying22 hi hz0 hz1 hz2 rfl (by decide) _ _ _ rfl (hG'.out.1.alloc _) ⟨wr.heap.size, 0, none⟩ 1 1 [.int .u8 (bits .xor .u8 0 (c.toNat : Int))] rfl rfl (cell_one_new _ _ _) (by intro u hu; simp at hu; subst hu; rfl) (by rw [htl.out]; unfold maxLen; omega) (by rw [htl.out]; omega) (by simp; omega) ?_; intro v2 w2 ho2 hg2 _; rw [hx.out] at ho2; have hG2 := Lib.hid (hG'.out.push (b := d.getD k 0 ^^^ c) ho2 hg2); clear ho2 hg2)
          exact ⟨⟨k + 1, by omega, by simp, by rw [hst.out]; exact hG2.out⟩, by simp [intOf]; omega⟩
      · have hk' : k = 64 := by omega
        subst hk'
        rw [List.take_of_length_le (by rw [hXl.out]; omega)] at hG
        rw [show ((64 : Nat) : Int) = 64 from rfl]
        have hG' := Lib.hid hG
        clear hG hlt
        go_wp2_with fail
        go_ret
        exact ⟨_, rfl, hG'.out.1, hG'.out.2⟩
end Go.Proofs.YtolgmgjnmdnioaaDoor
