/- The reference: padded, Bytes32, Text, Joined, Few, Input, padKey. -/
import Derived.Test.YtfgkaiaapofepaaDoorH11
namespace Go.Proofs.YtfgkaiaapofepaaDoor
open Go.RowKit

/-- one byte is appended to a row of the call's own -/
theorem Grow.push {w wr w' : World} {v v' : Value} {l : List UInt8} {b : UInt8} {o : Obj} (h : Grow w v l wr) (ho : w'.ownsRow w.heap.size 5 1 v' (l.length + 1) (bvs l ++ [.int .u8 (b.toNat : Int)])) (hg : (wr.alloc o).grownBy w' v.ownBlock) : Grow w v' (l ++ [b]) w' :=
  (h.later alloc_row).append (r := [b]) ho hg

theorem Grow.nil (w : World) : Grow w (.slice none 0 0) [] w := ⟨World.ownsRow_nil _ _ _ _, Below.refl _ _⟩

/-- the hash's cells in a box -/
def BoxI (w : World) (d : List UInt8) (T : TypeId) (wr : World) : Prop := wr.heap[w.heap.size]? = some (.cells (bvs d).toArray T (0, 0))

set_option maxRecDepth 100000 in
set_option maxHeartbeats 1600000 in
theorem bytes32_any (d : List UInt8) (hd : d.length = 32) (w : World) : Calls Tryd.prog 20 #[.agg (bvs d).toArray] w fun e w' => e = .returned (.string (bs d)) ∧ Below w.heap.size w w' := by
  have hd' := Lib.hid hd
  obtain ⟨i0, hi, hz0, hz1, hz2⟩ := info_parts info_u8
  have hBr := Lib.hid (heap_alloc_new w (.cells (bvs d).toArray 24))
  have hBb := Lib.hid (show Below w.heap.size w (w.alloc (.cells (bvs d).toArray 24)) from alloc_row)
  clear hd
  go_enter Tryd.func20, Tryd.ntmps20
  go_wp2
  generalize w.alloc (.cells (bvs d).toArray 24) = B at hBr hBb ⊢
  go_loopw [3, 4] (fun v i wr => ∃ k : Nat, k ≤ 32 ∧ i = .int .i64 k ∧ Grow B v (d.take k) wr) (fun _ i _ => 32 - (intOf i).toNat)
  case atStart => exact ⟨0, by omega, rfl, Grow.nil B⟩
  case round =>
    obtain ⟨k, hk, rfl, hG⟩ := hrel
    by_cases hlt : k < 32
    · have hkd : k < d.length := by rw [hd'.out]; exact hlt
      have hcell := cell_row ((hG.2.block _ (lt_of_block hBr.out)).trans hBr.out) (bvs_get hkd)
      have hlt' : (k : Int) < 32 := by omega
      have hG' := Lib.hid hG
      have htl : Hid ((d.take k).length = k) := Lib.hid (by rw [List.length_take]; omega)
      have hsz := hG.2.size
      have hst : Hid (d.take (k + 1) = d.take k ++ [d.getD k 0]) := Lib.hid (by rw [List.take_succ_eq_append_getElem hkd]; simp [hkd])
      clear hG
      go_wp2_with (at_builtin; refine wpList_append_own _ rfl _ _ 22 rfl B.heap.size 5 i0 (.int .u8 0) 1 1 Tryd.underlying22 hi hz0 hz1 hz2 rfl (by decide) _ _ _ rfl (hG'.out.1.alloc _) ⟨wr.heap.size, 0, none⟩ 1 1 [.int .u8 (byt d k)] rfl rfl (cell_one_new _ _ _) (by intro u hu; simp at hu; subst hu; rfl) (by rw [htl.out]; unfold maxLen; omega) (by rw [htl.out]; omega) (by simp; omega) ?_; intro v2 w2 ho2 hg2 _; have hG2 := Lib.hid (hG'.out.push (b := d.getD k 0) ho2 hg2); clear ho2 hg2)
      exact ⟨⟨k + 1, by omega, by simp, by rw [hst.out]; exact hG2.out⟩, by simp [intOf]; omega⟩
    · have hk' : k = 32 := by omega
      subst hk'
      rw [List.take_of_length_le (by rw [hd'.out]; omega)] at hG
      rw [show ((32 : Nat) : Int) = 32 from rfl]
      obtain ⟨p, c, rfl, hRd, hn, hc, hm, _⟩ := own_Rd hG.1
      have hcv := conv_str (c := c) hRd hn
      have hb := Lib.hid (hBb.out.trans (hG.2.mono hBb.out.size))
      clear hG hRd hn
      go_wp2
      go_ret
      exact ⟨rfl, hb.out⟩
set_option maxRecDepth 100000 in
set_option maxHeartbeats 1600000 in
theorem text_any (d : List UInt8) (hd : d.length = 16) (w : World) : Calls Tryd.prog 26 #[.agg (bvs d).toArray] w fun e w' => e = .returned (.string (bs d)) ∧ Below w.heap.size w w' := by
  have hd' := Lib.hid hd
  obtain ⟨i0, hi, hz0, hz1, hz2⟩ := info_parts info_u8
  have hBr := Lib.hid (heap_alloc_new w (.cells (bvs d).toArray 44))
  have hBb := Lib.hid (show Below w.heap.size w (w.alloc (.cells (bvs d).toArray 44)) from alloc_row)
  clear hd
  go_enter Tryd.func26, Tryd.ntmps26
  go_wp2
  generalize w.alloc (.cells (bvs d).toArray 44) = B at hBr hBb ⊢
  go_loopw [3, 4] (fun v i wr => ∃ k : Nat, k ≤ 16 ∧ i = .int .i64 k ∧ Grow B v (d.take k) wr) (fun _ i _ => 16 - (intOf i).toNat)
  case atStart => exact ⟨0, by omega, rfl, Grow.nil B⟩
  case round =>
    obtain ⟨k, hk, rfl, hG⟩ := hrel
    by_cases hlt : k < 16
    · have hkd : k < d.length := by rw [hd'.out]; exact hlt
      have hcell := cell_row ((hG.2.block _ (lt_of_block hBr.out)).trans hBr.out) (bvs_get hkd)
      have hlt' : (k : Int) < 16 := by omega
      have hG' := Lib.hid hG
      have htl : Hid ((d.take k).length = k) := Lib.hid (by rw [List.length_take]; omega)
      have hsz := hG.2.size
      have hst : Hid (d.take (k + 1) = d.take k ++ [d.getD k 0]) := Lib.hid (by rw [List.take_succ_eq_append_getElem hkd]; simp [hkd])
      clear hG
      go_wp2_with (at_builtin; refine wpList_append_own _ rfl _ _ 22 rfl B.heap.size 5 i0 (.int .u8 0) 1 1 Tryd.underlying22 hi hz0 hz1 hz2 rfl (by decide) _ _ _ rfl (hG'.out.1.alloc _) ⟨wr.heap.size, 0, none⟩ 1 1 [.int .u8 (byt d k)] rfl rfl (cell_one_new _ _ _) (by intro u hu; simp at hu; subst hu; rfl) (by rw [htl.out]; unfold maxLen; omega) (by rw [htl.out]; omega) (by simp; omega) ?_; intro v2 w2 ho2 hg2 _; have hG2 := Lib.hid (hG'.out.push (b := d.getD k 0) ho2 hg2); clear ho2 hg2)
      exact ⟨⟨k + 1, by omega, by simp, by rw [hst.out]; exact hG2.out⟩, by simp [intOf]; omega⟩
    · have hk' : k = 16 := by omega
      subst hk'
      rw [List.take_of_length_le (by rw [hd'.out]; omega)] at hG
      rw [show ((16 : Nat) : Int) = 16 from rfl]
      obtain ⟨p, c, rfl, hRd, hn, hc, hm, _⟩ := own_Rd hG.1
      have hcv := conv_str (c := c) hRd hn
      have hb := Lib.hid (hBb.out.trans (hG.2.mono hBb.out.size))
      clear hG hRd hn
      go_wp2
      go_ret
      exact ⟨rfl, hb.out⟩

/-! hexadecimal digits -/
def hexc (n : Nat) : UInt8 := if n < 10 then UInt8.ofNat (48 + n) else UInt8.ofNat (87 + n)
def hexs (l : List UInt8) : List UInt8 := l.flatMap fun b => [hexc (b.toNat / 16), hexc (b.toNat % 16)]
def hexT : ByteArray := ⟨#[48, 49, 50, 51, 52, 53, 54, 55, 56, 57, 97, 98, 99, 100, 101, 102]⟩
theorem hex_at : ∀ n : Nat, n < 16 → byt (sl hexT) n = ((hexc n).toNat : Int) := by decide
theorem hexs_length (l : List UInt8) : (hexs l).length = 2 * l.length := by
  induction l with
  | nil => rfl
  | cons x r ih => rw [hexs, List.flatMap_cons, List.length_append]; unfold hexs at ih; rw [ih]; simp; omega

end Go.Proofs.YtfgkaiaapofepaaDoor
