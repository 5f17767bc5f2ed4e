/- bits.RotateLeft32, hash.rotr, hash.mix. -/
import Derived.Test.YtfgkaiaapofepaaDoorHMath
namespace Go.Proofs.YtfgkaiaapofepaaDoor
open Go.RowKit

theorem neg_and31 (n : Nat) (h : 1 ≤ n) (h2 : n ≤ 31) : bits .and .u64 (IntKind.u64.wrap (-(n : Int))) 31 = ((32 - n : Nat) : Int) := by
  have e : IntKind.u64.wrap (-(n : Int)) = ((18446744073709551616 - n : Nat) : Int) := by
    simp [IntKind.wrap, IntKind.bits, IntKind.signed]; omega
  rw [e]
  have := u64_and_nat (18446744073709551616 - n) 31 (by omega) (by omega)
  rw [show ((31 : Nat) : Int) = 31 from rfl] at this
  rw [this]
  congr 1
  rw [show 31 = 2 ^ 5 - 1 from rfl, Nat.and_two_pow_sub_one_eq_mod]
  omega

set_option maxRecDepth 100000 in
set_option maxHeartbeats 400000 in
theorem rotl_any (x : Wd) (n : Nat) (h : 1 ≤ n) (h2 : n ≤ 31) (w : World) :
    Calls Tryd.prog 44 #[.int .u32 (wn x), .int .i64 (-(n : Int))] w fun e w' => e = .returned (.int .u32 (wn (rotw x n))) ∧ w = w' := by
  have hn := neg_and31 n h h2
  have hx0 := wn_lo x
  have hx1 := wn_hi x
  obtain ⟨k, hk⟩ : ∃ k : Nat, k = 32 - n := ⟨_, rfl⟩
  have hk0 : 0 ≤ (k : Int) := by omega
  have hk1 : (k : Int) < 32 := by omega
  rw [← hk] at hn
  go_enter Tryd.func44, Tryd.ntmps44
  go_wp2_with fail
  go_ret
  refine ⟨?_, rfl⟩
  show Ending.returned (.int .u32 (bits .or .u32 (wn x * 2 ^ (32 - n) % 4294967296) (wn x / 2 ^ (32 - (32 - n))))) = _
  rw [wn_shl, wn_shr, wn_or, show 32 - (32 - n) = n by omega, BitVec.or_comm]
  rfl

set_option maxRecDepth 100000 in
set_option maxHeartbeats 400000 in
theorem rotr_any (x : Wd) (n : Nat) (h : 1 ≤ n) (h2 : n ≤ 31) (w : World) :
    Calls Tryd.prog 43 #[.int .u32 (wn x), .int .i64 (n : Int)] w fun e w' => e = .returned (.int .u32 (wn (rotw x n))) ∧ w = w' := by
  go_enter Tryd.func43, Tryd.ntmps43
  go_wp2_with (go_at_call 44; refine (rotl_any x n h h2 _).mono ?_; rintro e w' ⟨rfl, rfl⟩)
  go_ret
  exact ⟨rfl, rfl⟩

/-- the same at a numeral -/
theorem rotr_lit (x : Wd) (n : Nat) (h : 1 ≤ n ∧ n ≤ 31) (i : Int) (hi : i = (n : Int)) (w : World) :
    Calls Tryd.prog 43 #[.int .u32 (wn x), .int .i64 i] w fun e w' => e = .returned (.int .u32 (wn (rotw x n))) ∧ w = w' := by
  subst hi; exact rotr_any x n h.1 h.2 w

theorem ret_u32 {a b : Int} (h : a = b) : Ending.returned (.int .u32 a) = .returned (.int .u32 b) := by rw [h]

set_option maxRecDepth 100000 in
set_option maxHeartbeats 400000 in
theorem mix_any (x : Wd) (i j k : Nat) (hi : 1 ≤ i ∧ i ≤ 31) (hj : 1 ≤ j ∧ j ≤ 31) (hk : 1 ≤ k ∧ k ≤ 31) (w : World) :
    Calls Tryd.prog 41 #[.int .u32 (wn x), .int .i64 (i : Int), .int .i64 (j : Int), .int .i64 (k : Int)] w fun e w' => e = .returned (.int .u32 (wn (tmix x i j k))) ∧ w = w' := by
  go_enter Tryd.func41, Tryd.ntmps41
  go_wp2_with fail
  refine (rotr_any x i hi.1 hi.2 _).mono ?_; rintro e w' ⟨rfl, rfl⟩
  go_wp2_with fail
  refine (rotr_any x j hj.1 hj.2 _).mono ?_; rintro e w' ⟨rfl, rfl⟩
  go_wp2_with fail
  refine (rotr_any x k hk.1 hk.2 _).mono ?_; rintro e w' ⟨rfl, rfl⟩
  go_wp2_with fail
  go_ret
  exact ⟨ret_u32 (by rw [wn_xor, wn_xor]; rfl), rfl⟩
theorem mix_6 (x : Wd) (w : World) : Calls Tryd.prog 41 #[.int .u32 (wn x), .int .i64 6, .int .i64 11, .int .i64 25] w fun e w' => e = .returned (.int .u32 (wn (tmix x 6 11 25))) ∧ w = w' :=
  mix_any x 6 11 25 (by omega) (by omega) (by omega) w
theorem mix_2 (x : Wd) (w : World) : Calls Tryd.prog 41 #[.int .u32 (wn x), .int .i64 2, .int .i64 13, .int .i64 22] w fun e w' => e = .returned (.int .u32 (wn (tmix x 2 13 22))) ∧ w = w' :=
  mix_any x 2 13 22 (by omega) (by omega) (by omega) w
end Go.Proofs.YtfgkaiaapofepaaDoor
