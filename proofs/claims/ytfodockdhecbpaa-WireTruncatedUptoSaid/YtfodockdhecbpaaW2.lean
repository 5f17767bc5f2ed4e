/- wire.magnitude: the number that digits stand for. -/
import Derived.Test.YtfodockdhecbpaaSpec
import Derived.Laws.BitsAllLaws
namespace Go.Proofs.Ytfodockdhecbpaa
open Go.RowKit

/-- what the digits are combined with -/
def flp (g : Bool) : Int := if g then 255 else 0
theorem flp_lo (g : Bool) : 0 ≤ flp g := by unfold flp; split <;> omega
theorem flp_hi (g : Bool) : flp g < 256 := by unfold flp; split <;> omega

theorem xor_255 : ∀ x : Fin 256, x.val ^^^ 255 = 255 - x.val := by decide +kernel
theorem xor_flp (g : Bool) (d : UInt8) : bits .xor .u8 (d.toNat : Int) (flp g) = ((fx g d).toNat : Int) := by
  have hd := d.toNat_lt
  rw [u8_xor _ _ (by omega) (by omega) (flp_lo g) (flp_hi g), fx_nat]
  cases g
  · simp [flp]
  · have := xor_255 ⟨d.toNat, hd⟩
    simp only [flp, if_true, Int.toNat_natCast]
    rw [show (255 : Int).toNat = 255 from rfl, this]
theorem xor_byt (g : Bool) (l : List UInt8) (k : Nat) : bits .xor .u8 (byt l k) (flp g) = ((fx g (l.getD k 0)).toNat : Int) := xor_flp g _

theorem or_digit (z d : Nat) (hz : z < 72057594037927936) (hd : d < 256) : bits .or .u64 (IntKind.u64.wrap ((z : Int) * 256)) (IntKind.u64.wrap (d : Int)) = ((256 * z + d : Nat) : Int) := by
  rw [show IntKind.u64.wrap ((z : Int) * 256) = ((256 * z : Nat) : Int) from by simp [IntKind.wrap, IntKind.bits, IntKind.signed]; omega, show IntKind.u64.wrap (d : Int) = (d : Int) from by simp [IntKind.wrap, IntKind.bits, IntKind.signed]; omega]
  rw [u64_or_nat _ _ (by omega) (by omega)]
  have := Nat.two_pow_add_eq_or_of_lt (i := 8) (b := d) (by omega) z
  simp only [Nat.reducePow] at this
  rw [← this]

theorem mag_step (g : Bool) (l : List UInt8) (k : Nat) (hk : k < l.length) (h8 : l.length ≤ 8) :
    bits .or .u64 (IntKind.u64.wrap ((mag g (l.take k) : Int) * 256)) (IntKind.u64.wrap (bits .xor .u8 (byt l k) (flp g))) = ((mag g (l.take (k + 1)) : Nat) : Int) := by
  have hl : (l.take k).length = k := by simp; omega
  have h1 := mag_lt g (l.take k)
  rw [hl] at h1
  have h2 : 256 ^ k ≤ 256 ^ 7 := Nat.pow_le_pow_right (by omega) (by omega)
  have h3 := (fx g (l.getD k 0)).toNat_lt
  rw [xor_byt, or_digit _ _ (by omega) (by omega), List.take_succ_eq_append_getElem hk, mag_snoc]
  simp [hk]

theorem lead_byt (g : Bool) (l : List UInt8) (h0 : 0 < l.length) : (byt l 0 == flp g) = lead0 g l := by
  cases l with
  | nil => simp at h0
  | cons d t =>
    show (((d.toNat : Int)) == flp g) = (fx g d == 0)
    have := d.toNat_lt
    have e : fx g d = 0 ↔ (d.toNat : Int) = flp g := by
      rw [← UInt8.toNat_inj, fx_nat]
      cases g <;> simp [flp] <;> omega
    rw [Bool.eq_iff_iff, beq_iff_eq, beq_iff_eq, e]

theorem magn_0 (b : Option Addr) (c : Nat) (f : Int) (w : World) :
    Calls Try.prog 45 #[.slice b 0 c, .int .u8 f] w fun e w' => e = .returned (.tuple #[.int .u64 0, .bool true]) ∧ w = w' := by
  go_enter Try.func45, Try.ntmps45
  go_wp2
  go_loop [6, 21, 8] (fun m i _ => i = .int .i64 0 ∧ m = .int .u64 0) (fun _ i _ => 0)
  case atStart => exact ⟨rfl, rfl⟩
  case round =>
    obtain ⟨rfl, rfl⟩ := hrel
    go_wp2
    go_ret2
    exact ⟨rfl, rfl⟩

set_option maxRecDepth 100000 in
set_option maxHeartbeats 400000 in
theorem magn_lead (b off : Nat) (c : Nat) (l : List UInt8) (n : Nat) (f : Int) (w : World) (hn : Hid (n = l.length)) (h0 : 0 < n)
    (hc0 : w.cell? ⟨b, off, none⟩ = some (.int .u8 (byt l 0)))
    (hf : (byt l 0 == f) = true) :
    Calls Try.prog 45 #[.slice (some ⟨b, off, none⟩) n c, .int .u8 f] w fun e w' => e = .returned (.tuple #[.int .u64 0, .bool false]) ∧ w = w' := by
  have h0' : (0 : Int) < (n : Int) := by omega
  go_enter Try.func45, Try.ntmps45
  go_wp2
  go_ret2
  exact ⟨rfl, rfl⟩

set_option maxRecDepth 100000 in
set_option maxHeartbeats 400000 in
theorem magn_some (b off : Nat) (c : Nat) (l : List UInt8) (n : Nat) (g : Bool) (ok : Bool) (w : World) (hn : Hid (n = l.length)) (h8 : n ≤ 8) (h0 : 0 < n)
    (hc : ∀ i, i < n → w.cell? ⟨b, off + i, none⟩ = some (.int .u8 (byt l i)))
    (hf : (byt l 0 == flp g) = false) (hok : Hid (decide ((mag g l : Int) ≤ 9223372036854775807) = ok)) :
    Calls Try.prog 45 #[.slice (some ⟨b, off, none⟩) n c, .int .u8 (flp g)] w fun e w' => e = .returned (.tuple #[.int .u64 (mag g l : Nat), .bool ok]) ∧ w = w' := by
  have hc0 := hc 0 h0
  simp only [Nat.add_zero] at hc0
  have h0' : (0 : Int) < (n : Int) := by omega
  go_enter Try.func45, Try.ntmps45
  go_wp2
  go_loop [6, 21, 8] (fun m i _ => ∃ k : Nat, k ≤ n ∧ i = .int .i64 k ∧ m = .int .u64 (mag g (l.take k) : Nat)) (fun _ i _ => n - (intOf i).toNat)
  case atStart => exact ⟨0, Nat.zero_le _, rfl, rfl⟩
  case round =>
    obtain ⟨k, hk, rfl, rfl⟩ := hrel
    by_cases hlt : k < n
    · have hcell := hc k hlt
      have hst := Lib.hid (mag_step g l k (by rw [← hn.out]; omega) (by rw [← hn.out]; omega))
      go_wp2
      refine ⟨⟨k + 1, by omega, by simp, ?_⟩, by simp [intOf]; omega⟩
      rw [hst.out]
    · have : l.take k = l := List.take_of_length_le (by rw [← hn.out]; omega)
      rw [this]
      go_wp2
      go_ret2
      rw [hok.out]
      exact ⟨rfl, rfl⟩

end Go.Proofs.Ytfodockdhecbpaa
