/- wire.Int, wire.Bytes, wire.putBytes: encodings that are made anew, and a string that is appended. -/
import Derived.Test.YtfgkaiaapofepaaDoorW3
import Derived.Test.YtfgkaiaapofepaaDoorW5
import Derived.Lib.AppendStr
namespace Go.Proofs.YtfgkaiaapofepaaDoor
open Go.RowKit

/-- an encoding in new memory -/
def EncPost (w : World) (l : List UInt8) (e : Ending) (w' : World) : Prop :=
  ∃ v', e = .returned v' ∧ w'.ownsRow w.heap.size 5 1 v' l.length (bvs l) ∧ Below w.heap.size w w'

theorem encPost_of {w w' : World} {l : List UInt8} {e : Ending} (h : PutPost w w.heap.size 0 [] l e w') : EncPost w l e w' := by
  obtain ⟨v', he, ho, g⟩ := h
  refine ⟨v', he, ?_, g⟩
  rw [Nat.zero_add, List.nil_append] at ho
  exact ho

/-- a string's bytes -/
def sl (s : ByteArray) : List UInt8 := s.data.toList
theorem sl_length (s : ByteArray) : (sl s).length = s.size := by simp [sl]
theorem bs_sl (s : ByteArray) : bs (sl s) = s := by simp [bs, sl]
theorem sl_bs (l : List UInt8) : sl (bs l) = l := by simp [bs, sl]
theorem strCells_sl (s : ByteArray) : Lib.strCells s = bvs (sl s) := rfl

theorem putPost_more {w w1 w2 : World} {base n0 : Nat} {v1 v2 : Value} {xs : List Value} {l : List UInt8} {s : ByteArray} (hb : base ≤ w1.heap.size) (h : Below base w w1) (ho : w1.ownsRow base 5 1 v1 (n0 + l.length) (xs ++ bvs l))
    (ho2 : w2.ownsRow base 5 1 v2 (n0 + l.length + s.size) (xs ++ bvs l ++ Lib.strCells s)) (g2 : w1.grownBy w2 v1.ownBlock) :
    PutPost w base n0 xs (l ++ sl s) (.returned v2) w2 := by
  refine ⟨v2, rfl, ?_, h.grown g2 hb fun k hk => (ho.lt k hk).1⟩
  rw [List.length_append, bvs_append, ← List.append_assoc, ← Nat.add_assoc, sl_length, ← strCells_sl]
  exact ho2

set_option maxRecDepth 100000 in
set_option maxHeartbeats 400000 in
theorem putBytes_any (v : Value) (n0 : Nat) (xs : List Value) (base : Nat) (s : ByteArray) (w : World) (hown : w.ownsRow base 5 1 v n0 xs) (hb : base ≤ w.heap.size) (hn0 : n0 + (enc s.size).length + s.size ≤ 70368744177664) :
    Calls Tryd.prog 38 #[v, .string s] w (PutPost w base n0 xs (enc s.size ++ sl s)) := by
  obtain ⟨i0, hi, hz0, hz1, hz2⟩ := info_parts info_u8
  have h1 : -9223372036854775808 ≤ ((s.size : Nat) : Int) := by omega
  have h2 : ((s.size : Nat) : Int) ≤ 9223372036854775807 := by omega
  have hown' := Lib.hid hown
  clear hown
  go_enter Tryd.func38, Tryd.ntmps38
  go_wp2_with (first | (go_at_call 42; refine (putInt_any _ n0 xs base _ _ hown'.out hb (by omega) h1 h2).mono ?_; rintro e w1 ⟨v1, rfl, ho1, hb1⟩; have ho1' := Lib.hid ho1; have hb1' := Lib.hid hb1; have hz1' := hb1.size; clear ho1 hb1) | (at_builtin; refine Lib.wpList_append_own_string _ rfl _ _ 22 9 rfl base 5 i0 Tryd.underlying22 Tryd.underlying9 hi hz0 hz1 hz2 _ _ _ rfl ho1'.out s rfl (by unfold maxLen; omega) (by omega) (by omega) ?_; intro v2 w2 ho2 hg2 _; have hres := Lib.hid (putPost_more (by omega) hb1'.out ho1'.out ho2 hg2); clear ho2 hg2))
  go_ret
  exact hres.out

end Go.Proofs.YtfgkaiaapofepaaDoor
