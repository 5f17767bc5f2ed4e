import Derived.Test.YtfodockdhecbpaaBase
namespace Go.Proofs.Ytfodockdhecbpaa
open Go.RowKit

set_option maxRecDepth 100000 in
set_option maxHeartbeats 400000 in
theorem digits_lo (c : UInt8) (w : World) (h : c.toNat < 128) :
    Calls Try.prog 44 #[.int .u8 (c.toNat : Int)] w fun e w' => e = .returned (.tuple #[.int .i64 (127 - (c.toNat : Int)), .int .u8 255]) ∧ w = w' := by
  have h1 : (c.toNat : Int) < 128 := by omega
  have h0 : 0 ≤ (c.toNat : Int) := by omega
  clear h
  go_enter Try.func44, Try.ntmps44
  go_wp2
  go_ret2
  exact ⟨rfl, rfl⟩

set_option maxRecDepth 100000 in
set_option maxHeartbeats 400000 in
theorem digits_hi (c : UInt8) (w : World) (h : 128 ≤ c.toNat) :
    Calls Try.prog 44 #[.int .u8 (c.toNat : Int)] w fun e w' => e = .returned (.tuple #[.int .i64 ((c.toNat : Int) - 128), .int .u8 0]) ∧ w = w' := by
  have h1 : 128 ≤ (c.toNat : Int) := by omega
  have h0 : (c.toNat : Int) < 256 := by have := c.toNat_lt; omega
  clear h
  go_enter Try.func44, Try.ntmps44
  go_wp2
  go_ret2
  exact ⟨rfl, rfl⟩

end Go.Proofs.Ytfodockdhecbpaa
