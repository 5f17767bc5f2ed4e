/- wire.magnitude: the number that digits stand for. -/
import Derived.Test.YtfgkaiaapofepaaDoorSpec
import Derived.Laws.BitsAllLaws
namespace Go.Proofs.YtfgkaiaapofepaaDoor
open Go.RowKit

/-- what the digits are combined with -/
def flp (g : Bool) : Int := if g then 255 else 0
theorem flp_lo (g : Bool) : 0 ≤ flp g := by unfold flp; split <;> omega
theorem flp_hi (g : Bool) : flp g < 256 := by unfold flp; split <;> omega

theorem xor_255 : ∀ x : Fin 256, x.val ^^^ 255 = 255 - x.val := by decide +kernel
theorem xor_flp (g : Bool) (d : UInt8) : bits .xor .u8 (d.toNat : Int) (flp g) = ((fx g d).toNat : Int) := by
  have hd := d.toNat_lt
  rw [u8_xor _ _ (by omega) (by omega) (flp_lo g) (flp_hi g), fx_nat]
  cases g
  · simp [flp]
  · have := xor_255 ⟨d.toNat, hd⟩
    simp only [flp, if_true, Int.toNat_natCast]
    rw [show (255 : Int).toNat = 255 from rfl, this]
theorem xor_byt (g : Bool) (l : List UInt8) (k : Nat) : bits .xor .u8 (byt l k) (flp g) = ((fx g (l.getD k 0)).toNat : Int) := xor_flp g _

theorem or_digit (z d : Nat) (hz : z < 72057594037927936) (hd : d < 256) : bits .or .u64 (IntKind.u64.wrap ((z : Int) * 256)) (IntKind.u64.wrap (d : Int)) = ((256 * z + d : Nat) : Int) := by
  rw [show IntKind.u64.wrap ((z : Int) * 256) = ((256 * z : Nat) : Int) from by simp [IntKind.wrap, IntKind.bits, IntKind.signed]; omega, show IntKind.u64.wrap (d : Int) = (d : Int) from by simp [IntKind.wrap, IntKind.bits, IntKind.signed]; omega]
  rw [u64_or_nat _ _ (by omega) (by omega)]
  have := Nat.two_pow_add_eq_or_of_lt (i := 8) (b := d) (by omega) z
  simp only [Nat.reducePow] at this
  rw [← this]

theorem mag_step (g : Bool) (l : List UInt8) (k : Nat) (hk : k < l.length) (h8 : l.length ≤ 8) :
    bits .or .u64 (IntKind.u64.wrap ((mag g (l.take k) : Int) * 256)) (IntKind.u64.wrap (bits .xor .u8 (byt l k) (flp g))) = ((mag g (l.take (k + 1)) : Nat) : Int) := by
  have hl : (l.take k).length = k := by simp; omega
  have h1 := mag_lt g (l.take k)
  rw [hl] at h1
  have h2 : 256 ^ k ≤ 256 ^ 7 := Nat.pow_le_pow_right (by omega) (by omega)
  have h3 := (fx g (l.getD k 0)).toNat_lt
  rw [xor_byt, or_digit _ _ (by omega) (by omega), List.take_succ_eq_append_getElem hk, mag_snoc]
  simp [hk]

theorem lead_byt (g : Bool) (l : List UInt8) (h0 : 0 < l.length) : (byt l 0 == flp g) = lead0 g l := by
  cases l with
  | nil => simp at h0
  | cons d t =>
    show (((d.toNat : Int)) == flp g) = (fx g d == 0)
    have := d.toNat_lt
    have e : fx g d = 0 ↔ (d.toNat : Int) = flp g := by
      rw [← UInt8.toNat_inj, fx_nat]
      cases g <;> simp [flp] <;> omega
    rw [Bool.eq_iff_iff, beq_iff_eq, beq_iff_eq, e]

end Go.Proofs.YtfgkaiaapofepaaDoor
