/- Whole stretches of a row that are written: putNumber; copy out of a string. -/
import Derived.Test.YtfgkaiaapofepaaDoorH4
import Derived.Test.YtfgkaiaapofepaaDoorW8
import Derived.Lib.BufferWrite
namespace Go.Proofs.YtfgkaiaapofepaaDoor
open Go.RowKit

/-- the last k bytes of a number, the most significant one first -/
def beN : Nat → Nat → List UInt8
  | 0, _ => []
  | k + 1, n => UInt8.ofNat (n / 256 ^ k) :: beN k n
theorem beN_length : ∀ k n, (beN k n).length = k
  | 0, _ => rfl
  | k + 1, n => by simp [beN, beN_length k n]
theorem beN_8 (n : Nat) : beN 8 n = be8 n := by
  simp [beN, be8, List.range, List.range.loop]
theorem beN_4 (x : Wd) : beN 4 x.toNat = outw x := by
  simp [beN, outw]

/-- cells of a row that are laid over -/
def ovr (cur : List Value) (off : Nat) (l : List UInt8) : Array Value := (splice cur off (bvs l)).toArray
theorem ovr_nil (cur : List Value) (off : Nat) : ovr cur off [] = cur.toArray := by simp [ovr, splice, bvs]
theorem ovr_step (cur : List Value) (p : Nat) (l : List UInt8) (b : UInt8) (h : p + 1 + l.length ≤ cur.length) : (ovr cur (p + 1) l).setIfInBounds p (.int .u8 (b.toNat : Int)) = ovr cur p (b :: l) := by
  apply Array.toList_inj.1
  have hl : (bvs l).length = l.length := bvs_length l
  have hb : bvs (b :: l) = .int .u8 (b.toNat : Int) :: bvs l := rfl
  have hp : (cur.take p).length = p := by simp; omega
  have e : cur.take (p + 1) = cur.take p ++ [cur[p]] := List.take_succ_eq_append_getElem (by omega)
  unfold ovr splice
  simp only [List.setIfInBounds_toArray, hb, e, List.append_assoc]
  rw [List.set_append_right _ _ (by omega), hp, Nat.sub_self]
  simp only [List.set_cons_zero, List.cons_append, List.length_cons, hl, List.nil_append]
  rw [show p + 1 + l.length = p + (l.length + 1) by omega]
theorem ovr_size (cur : List Value) (off : Nat) (l : List UInt8) (h : off + l.length ≤ cur.length) : (ovr cur off l).size = cur.length := by
  unfold ovr
  rw [List.size_toArray, length_splice _ _ _ (by rw [bvs_length]; exact h)]

/-- the world but for one row, which is laid over -/
def RowW (w : World) (g : Nat) (X : Array Value) (wr : World) : Prop := w.setRow g X = wr
theorem RowW.heap {w wr : World} {g : Nat} {X : Array Value} (h : RowW w g X wr) {old : Array Value} {t : TypeId} (hg : w.heap[g]? = some (.cells old t (0, 0))) : wr.heap[g]? = some (.cells X t (0, 0)) := by
  rw [← h]; exact setRow_heap w g _ _ t _ hg
theorem RowW.set {w wr : World} {g i : Nat} {X Y : Array Value} {v : Value} (h : RowW w g X wr) {old : Array Value} {t : TypeId} (hg : w.heap[g]? = some (.cells old t (0, 0))) (hY : X.setIfInBounds i v = Y) : RowW w g Y (wr.setCell ⟨g, i, none⟩ v) := by
  have h1 := h.heap hg
  unfold RowW at *
  rw [setCell_eq_setRow wr g i X t (0, 0) v h1, hY, ← h, setRow_setRow]
theorem RowW.start {w : World} {g : Nat} {old : Array Value} {t : TypeId} (hg : w.heap[g]? = some (.cells old t (0, 0))) : RowW w g old w := setRow_self w g old t (0, 0) hg

theorem digit_go (n p : Nat) : ((n / 256 ^ p : Nat) : Int) % 256 = ((UInt8.ofNat (n / 256 ^ p)).toNat : Int) := by
  rw [UInt8.toNat_ofNat']; omega
theorem shr8_go (n p : Nat) : ((n / 256 ^ p : Nat) : Int) / 256 = ((n / 256 ^ (p + 1) : Nat) : Int) := by
  rw [Nat.pow_succ, ← Nat.div_div_eq_div_mul]; omega

set_option maxRecDepth 100000 in
set_option maxHeartbeats 800000 in
theorem putNumber_any (g o k c : Nat) (cur : List Value) (t : TypeId) (n : Nat) (hk : k ≤ 64) (w : World) (hg : Hid (w.heap[g]? = some (.cells cur.toArray t (0, 0)))) (hfit : o + k ≤ cur.length) :
    Calls Tryd.prog 31 #[.slice (some ⟨g, o, none⟩) k c, .int .u64 (n : Int)] w fun e w' => e = .returned (.tuple #[]) ∧ RowW w g (ovr cur o (beN k n)) w' := by
  go_enter Tryd.func31, Tryd.ntmps31
  go_wp2
  go_loopw [1, 4] (fun x i wr => ∃ p : Nat, p ≤ k ∧ i = .int .i64 ((p : Int) - 1) ∧ x = .int .u64 ((n / 256 ^ (k - p) : Nat) : Int) ∧ RowW w g (ovr cur (o + p) (beN (k - p) n)) wr) (fun _ i _ => (intOf i + 1).toNat)
  case atStart => exact ⟨k, Nat.le_refl _, rfl, by simp, by rw [Nat.sub_self]; show RowW w g (ovr cur (o + k) []) w; rw [ovr_nil]; exact RowW.start hg.out⟩
  case round =>
    obtain ⟨p, hp, rfl, rfl, hR⟩ := hrel
    by_cases h0 : p = 0
    · subst h0
      have hR' := Lib.hid hR
      clear hR
      go_wp2
      go_end0
      exact ⟨rfl, by simpa using hR'.out⟩
    · obtain ⟨q, rfl⟩ : ∃ q, p = q + 1 := ⟨p - 1, by omega⟩
      rw [show ((q + 1 : Nat) : Int) - 1 = (q : Int) by omega]
      have hh := hR.heap hg.out
      have hsz := ovr_size cur (o + (q + 1)) (beN (k - (q + 1)) n) (by rw [beN_length]; omega)
      have hc : wr.cell? ⟨g, o + q, none⟩ = some ((ovr cur (o + (q + 1)) (beN (k - (q + 1)) n))[o + q]'(by omega)) := cell_row hh (by simp)
      have hf := free_row (i := o + q) hh
      have hst := Lib.hid (hR.set (i := o + q) (v := .int .u8 ((UInt8.ofNat (n / 256 ^ (k - (q + 1)))).toNat : Int)) hg.out (ovr_step cur (o + q) (beN (k - (q + 1)) n) _ (by rw [beN_length]; omega)))
      have hd := Lib.hid (digit_go n (k - (q + 1)))
      have hs := Lib.hid (shr8_go n (k - (q + 1)))
      have hle : n / 256 ^ (k - (q + 1)) ≤ n := Nat.div_le_self _ _
      have hkq := Lib.hid (show k - (q + 1) + 1 = k - q by omega)
      generalize (ovr cur (o + (q + 1)) (beN (k - (q + 1)) n))[o + q]'_ = u at hc
      obtain ⟨d, hdd⟩ : ∃ d, n / 256 ^ (k - (q + 1)) = d := ⟨_, rfl⟩
      rw [hdd] at hst hd hle ⊢
      have hs' : Hid ((d : Int) / 256 = ((n / 256 ^ (k - (q + 1) + 1) : Nat) : Int)) := Lib.hid (by rw [← hdd]; exact hs.out)
      have hdd' := Lib.hid hdd
      clear hR hh hsz hdd hs
      go_wp2
      refine ⟨⟨q, by omega, rfl, by rw [hs'.out, hkq.out], ?_⟩, by simp [intOf]⟩
      rw [hd.out, ← hkq.out]
      show RowW w g (ovr cur (o + q) (UInt8.ofNat (n / 256 ^ (k - (q + 1))) :: beN (k - (q + 1)) n)) _
      rw [hdd'.out]
      exact hst.out

theorem putNumber_lit (g o k c : Nat) (cur : List Value) (t : TypeId) (n : Nat) (x : Int) (hx : x = (n : Int)) (hk : k ≤ 64) (w : World) (hg : Hid (w.heap[g]? = some (.cells cur.toArray t (0, 0)))) (hfit : o + k ≤ cur.length) :
    Calls Tryd.prog 31 #[.slice (some ⟨g, o, none⟩) k c, .int .u64 x] w fun e w' => e = .returned (.tuple #[]) ∧ RowW w g (ovr cur o (beN k n)) w' := by
  subst hx; exact putNumber_any g o k c cur t n hk w hg hfit
end Go.Proofs.YtfgkaiaapofepaaDoor
