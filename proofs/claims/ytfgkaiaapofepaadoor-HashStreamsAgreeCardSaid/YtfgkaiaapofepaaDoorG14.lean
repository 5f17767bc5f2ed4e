/- The reference: Joined. -/
import Derived.Test.YtfgkaiaapofepaaDoorG10
import Derived.Test.YtfgkaiaapofepaaDoorH12
namespace Go.Proofs.YtfgkaiaapofepaaDoor
open Go.RowKit

/-- the first k strings, one after another -/
def jn (l : List ByteArray) (k : Nat) : List UInt8 := (l.take k).flatMap sl
theorem bs_app (a : List UInt8) (s : ByteArray) : bs a ++ s = bs (a ++ sl s) := by
  rw [← bs_sl (bs a ++ s)]
  congr 1
  first | done | simp [sl, bs]
theorem jn_zero (l : List ByteArray) : jn l 0 = [] := rfl
theorem jn_step (l : List ByteArray) (k : Nat) (h : k < l.length) : jn l (k + 1) = jn l k ++ sl (sat l k) := flat_take sl l k h ByteArray.empty
theorem jn_few (l : List ByteArray) (h : fewP l) : ∀ k, k ≤ l.length → (jn l k).length ≤ 400 * k
  | 0, _ => by simp [jn]
  | k + 1, hk => by
    have h1 := jn_few l h k (by omega)
    have h2 := h.2 k (by omega)
    rw [jn_step l k (by omega), List.length_append, sl_length]
    omega
theorem jn_take (l : List ByteArray) (k j : Nat) (h : j ≤ k) : jn (l.take k) j = jn l j := by
  unfold jn
  rw [List.take_take, Nat.min_eq_left h]
set_option maxRecDepth 100000 in
set_option maxHeartbeats 1600000 in
theorem joined_any (a : Option Addr) (n c : Nat) (l : List ByteArray) (w : World) (hR0 : Rds w a l) (hn0 : n = l.length) (hf0 : fewP l) :
    Calls Tryd.prog 16 #[.slice a n c] w fun e w' => e = .returned (.string (bs (jn l n))) ∧ Below w.heap.size w w' := by
  have hR := Lib.hid hR0
  have hn := Lib.hid hn0
  have h00 : bs (jn l 0) = ByteArray.empty := rfl
  have hf := Lib.hid hf0
  have h12 : n ≤ 12 := by rw [hn0]; exact hf0.1
  clear hR0 hn0 hf0
  go_enter Tryd.func16, Tryd.ntmps16
  go_wp2_with fail
  go_loopw [3, 4] (fun v i wr => ∃ k : Nat, k ≤ n ∧ i = .int .i64 (k : Int) ∧ v = .string (bs (jn l k)) ∧ Below w.heap.size w wr) (fun _ i _ => n - (intOf i).toNat)
  case atStart => exact ⟨0, by omega, rfl, rfl, Below.refl _ _⟩
  case round =>
    obtain ⟨k, hk, rfl, rfl, hB⟩ := hrel
    by_cases hlt : k < n
    · have hkl : k < l.length := by rw [← hn.out]; exact hlt
      obtain ⟨b0, off, rfl, hc⟩ := Rds_at hR.out k hkl
      have hcell := Below.cell_of' hB hc
      have hst : Hid (bs (jn l (k + 1)) = bs (jn l k) ++ sat l k) := Lib.hid (by rw [jn_step l k hkl, bs_app])
      have hki0 : 0 ≤ (k : Int) := by omega
      have hki : (k : Int) < (n : Int) := by omega
      have hB' := Lib.hid hB
      obtain ⟨S, hS⟩ : ∃ S, sat l k = S := ⟨_, rfl⟩
      obtain ⟨M, hM⟩ : ∃ M, bs (jn l k) = M := ⟨_, rfl⟩
      rw [hS, hM] at hst
      rw [hS] at hcell
      rw [hM]
      have hsz : ¬ 9223372036854775807 < M.size + S.size := by
        have h1 := jn_few l hf.out k (by omega)
        have h2 := hf.out.2 k hkl
        have h3 := hf.out.1
        rw [← hM, ← hS, bs_size]
        omega
      clear hB hc hS hM h00
      go_wp2_with fail
      exact ⟨⟨k + 1, by omega, by simp, by rw [hst.out], hB'.out⟩, by simp [intOf]; omega⟩
    · have hk' : k = n := by omega
      subst hk'
      have hlt' : ¬ (k : Int) < (k : Int) := by omega
      have hB' := Lib.hid hB
      clear hB h00
      go_wp2_with fail
      go_ret
      exact ⟨rfl, hB'.out⟩
end Go.Proofs.YtfgkaiaapofepaaDoor
