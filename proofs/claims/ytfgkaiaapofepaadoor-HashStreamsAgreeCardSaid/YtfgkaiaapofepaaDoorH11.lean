/- hash.Equal. -/
import Derived.Test.YtfgkaiaapofepaaDoorH10
namespace Go.Proofs.YtfgkaiaapofepaaDoor
set_option linter.unusedVariables false
open Go.RowKit

/-- the same bytes? -/
def eqB (a b : List UInt8) : Bool := decide (a = b)
def Dif (a b : List UInt8) (k : Nat) (d : Nat) : Prop := d < 256 ∧ (d = 0 ↔ a.take k = b.take k)
theorem Dif.step {a b : List UInt8} {k d : Nat} (h : Dif a b k d) (hl : a.length = b.length) (hk : k < a.length) (x : Int) (hx : x = bits .or .u8 (d : Int) (bits .xor .u8 (byt a k) (byt b k))) : ∃ d', x = ((d' : Nat) : Int) ∧ Dif a b (k + 1) d' := by
  obtain ⟨h1, h2⟩ := h
  have ha := (a.getD k 0).toNat_lt
  have hb := (b.getD k 0).toNat_lt
  have hx1 : (a.getD k 0).toNat ^^^ (b.getD k 0).toNat < 2 ^ 8 := Nat.xor_lt_two_pow (by omega) (by omega)
  have ho1 : d ||| ((a.getD k 0).toNat ^^^ (b.getD k 0).toNat) < 2 ^ 8 := Nat.or_lt_two_pow (by omega) hx1
  refine ⟨d ||| ((a.getD k 0).toNat ^^^ (b.getD k 0).toNat), ?_, by omega, ?_⟩
  · rw [hx]; unfold byt
    rw [u8_xor_nat _ _ ha hb, u8_or_nat _ _ h1 (by omega)]
  · have e : ∀ x y : Nat, x ||| y = 0 ↔ x = 0 ∧ y = 0 := fun x y => by
      constructor
      · intro h
        constructor
        · have := Nat.left_le_or (n := x) (m := y); omega
        · have := Nat.right_le_or (n := x) (m := y); omega
      · rintro ⟨rfl, rfl⟩; rfl
    have e2 : (a.getD k 0).toNat ^^^ (b.getD k 0).toNat = 0 ↔ a.getD k 0 = b.getD k 0 := by
      constructor
      · intro h
        have h3 : (b.getD k 0).toNat = (a.getD k 0).toNat := by
          have := congrArg ((a.getD k 0).toNat ^^^ ·) h
          simpa [← Nat.xor_assoc] using this
        exact UInt8.toNat_inj.1 h3.symm
      · intro h; rw [h, Nat.xor_self]
    rw [e, h2, e2, List.take_succ_eq_append_getElem hk, List.take_succ_eq_append_getElem (hl ▸ hk)]
    have ga : a.getD k 0 = a[k] := by simp [hk]
    have gb : b.getD k 0 = b[k]'(hl ▸ hk) := by simp [hl ▸ hk]
    rw [ga, gb]
    constructor
    · rintro ⟨p, q⟩; rw [p, q]
    · intro h
      have hlen : (a.take k).length = (b.take k).length := by simp [hl]
      have := List.append_inj h hlen
      exact ⟨this.1, by simpa using this.2⟩

theorem str_index (s : ByteArray) (k : Nat) (h : k < s.size) : ((s[k]'h).toNat : Int) = byt (sl s) k := by
  unfold byt sl
  have : s.data.toList.getD k 0 = s[k] := by
    rw [List.getD_eq_getElem?_getD, Array.getElem?_toList, Array.getElem?_eq_getElem h]; rfl
  rw [this]

set_option maxRecDepth 100000 in
set_option maxHeartbeats 800000 in
theorem equal_any (a b : ByteArray) (ha : a.size ≤ 4611686018427387904) (hb : b.size ≤ 4611686018427387904) (w : World) :
    Calls Tryd.prog 24 #[.string a, .string b] w (QPost w (.bool (eqB (sl a) (sl b)))) := by
  have la : (sl a).length = a.size := Array.length_toList
  have lb : (sl b).length = b.size := Array.length_toList
  by_cases hne : a.size = b.size
  · have hd : ((a.size : Int) != (b.size : Int)) = false := by simp [hne]
    have hle : Hid ((sl a).length = (sl b).length) := Lib.hid (by rw [la, lb, hne])
    have la' := Lib.hid la
    have lb' := Lib.hid lb
    clear la lb
    have hne' := Lib.hid hne
    clear hne
    go_enter Tryd.func24, Tryd.ntmps24
    go_wp2
    go_loopw [5, 14] (fun x i wr => ∃ k d q : Nat, k ≤ a.size ∧ i = .int .i64 k ∧ x = .int .u8 d ∧ Dif (sl a) (sl b) k d ∧ wr = w.drewN q) (fun _ i _ => a.size - (intOf i).toNat)
    case atStart => exact ⟨0, 0, 0, by omega, rfl, rfl, ⟨by omega, by simp⟩, rfl⟩
    case round =>
      obtain ⟨k, d, q, hk, rfl, rfl, hD, rfl⟩ := hrel
      by_cases hlt : k < a.size
      · have hlt2 : k < b.size := by rw [← hne'.out]; exact hlt
        have sa := str_index a k hlt
        have sb := str_index b k hlt2
        have hD' := Lib.hid hD
        have h0 : 0 ≤ (k : Int) := by omega
        have h1 : (k : Int) < (a.size : Int) := by omega
        have h2 : (k : Int) < (b.size : Int) := by omega
        clear hD
        go_wp2
        go_quiet (fail)
        go_wp2
        obtain ⟨d', hd', hD2⟩ := hD'.out.step hle.out (by rw [la'.out]; exact hlt) _ rfl
        rw [hd']
        exact ⟨⟨k + 1, d', q + nq, by omega, by simp, rfl, hD2, rfl⟩, by simp [intOf]; omega⟩
      · have hk' : k = a.size := by omega
        subst hk'
        obtain ⟨h256, hiff⟩ := hD
        rw [← la'.out, List.take_length, la'.out.trans (hne'.out.trans lb'.out.symm), List.take_length] at hiff
        by_cases h0 : d = 0
        · subst h0
          have he : eqB (sl a) (sl b) = true := decide_eq_true (hiff.1 rfl)
          have he' := Lib.hid he
          clear he hiff h256
          go_wp2
          go_ret
          exact ⟨by rw [he'.out]; rfl, q, rfl⟩
        · have he : eqB (sl a) (sl b) = false := decide_eq_false (fun h => h0 (hiff.2 h))
          have he' := Lib.hid he
          have hz : ((d : Int) == 0) = false := by simp; exact h0
          clear he hiff
          go_wp2
          go_ret
          exact ⟨by rw [he'.out]; rfl, q, rfl⟩
  · have hd : ((a.size : Int) != (b.size : Int)) = true := by simp; omega
    have hr : eqB (sl a) (sl b) = false := by
      unfold eqB; apply decide_eq_false; intro h
      have := congrArg List.length h; omega
    rw [hr]
    clear la lb hr
    go_enter Tryd.func24, Tryd.ntmps24
    go_wp2
    go_ret
    exact ⟨rfl, 0, rfl⟩
end Go.Proofs.YtfgkaiaapofepaaDoor
