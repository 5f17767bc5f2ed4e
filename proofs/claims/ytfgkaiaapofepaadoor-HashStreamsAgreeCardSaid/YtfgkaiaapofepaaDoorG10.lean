/- The reference: Few. -/
import Derived.Test.YtfgkaiaapofepaaDoorG5
namespace Go.Proofs.YtfgkaiaapofepaaDoor
open Go.RowKit

/-- at most 12 strings of at most 400 bytes -/
def fewP (l : List ByteArray) : Prop := l.length ≤ 12 ∧ ∀ j, j < l.length → (sat l j).size ≤ 400
instance (l : List ByteArray) : Decidable (fewP l) := inferInstanceAs (Decidable (_ ∧ _))

set_option maxRecDepth 100000 in
set_option maxHeartbeats 800000 in
theorem few_any (a : Option Addr) (n c : Nat) (l : List ByteArray) (w : World) (hR0 : Rds w a l) (hn0 : n = l.length) :
    Calls Tryd.prog 13 #[.slice a n c] w fun e w' => e = .returned (.bool (decide (fewP l))) ∧ Below w.heap.size w w' := by
  have hR := Lib.hid hR0
  have hn := Lib.hid hn0
  clear hR0 hn0
  obtain ⟨r, hr⟩ : ∃ r, decide (fewP l) = r := ⟨_, rfl⟩
  have hr' := Lib.hid hr
  rw [hr]
  clear hr
  by_cases h12 : 12 < n
  · have h12' : (12 : Int) < (n : Int) := by omega
    have hf : Hid (r = false) := Lib.hid (by rw [← hr'.out]; exact decide_eq_false (fun h => by have := h.1; have := hn.out; omega))
    go_enter Tryd.func13, Tryd.ntmps13
    go_wp2_with fail
    go_ret
    exact ⟨by rw [hf.out]; rfl, Below.refl _ _⟩
  · have h12' : ¬ (12 : Int) < (n : Int) := by omega
    go_enter Tryd.func13, Tryd.ntmps13
    go_wp2_with fail
    go_loopw [3] (fun i wr => ∃ k : Nat, k ≤ n ∧ i = .int .i64 (k : Int) ∧ Hid (∀ j, j < k → (sat l j).size ≤ 400) ∧ wr = w) (fun i _ => n - (intOf i).toNat)
    case atStart => exact ⟨0, by omega, rfl, Lib.hid (fun j hj => by omega), rfl⟩
    case round =>
      obtain ⟨k, hk, rfl, hall, rfl⟩ := hrel
      by_cases hlt : k < n
      · have hlt' : (k : Int) < (n : Int) := by omega
        have hk0 : 0 ≤ (k : Int) := by omega
        obtain ⟨b, off, rfl, hcell⟩ := Rds_at hR.out k (by rw [← hn.out]; exact hlt)
        obtain ⟨s, hs⟩ : ∃ s, sat l k = s := ⟨_, rfl⟩
        rw [hs] at hcell
        have hs' := Lib.hid hs
        clear hs
        by_cases h4 : 400 < s.size
        · have h4' : (400 : Int) < (s.size : Int) := by omega
          have hf : Hid (r = false) := Lib.hid (by rw [← hr'.out]; exact decide_eq_false (fun h => by have := h.2 k (by rw [← hn.out]; exact hlt); rw [hs'.out] at this; omega))
          go_wp2_with fail
          go_ret
          exact ⟨by rw [hf.out]; rfl, Below.refl _ _⟩
        · have h4' : ¬ (400 : Int) < (s.size : Int) := by omega
          have hall2 : Hid (∀ j, j < k + 1 → (sat l j).size ≤ 400) := Lib.hid (fun j hj => by
            rcases Nat.lt_succ_iff_lt_or_eq.1 hj with h | rfl
            · exact hall.out j h
            · rw [hs'.out]; omega)
          go_wp2_with fail
          exact ⟨⟨k + 1, by omega, by simp, hall2, trivial⟩, by simp [intOf]; omega⟩
      · have hk' : k = n := by omega
        subst hk'
        have hlt' : ¬ (k : Int) < (k : Int) := by omega
        have hf : Hid (r = true) := Lib.hid (by rw [← hr'.out]; exact decide_eq_true ⟨by have := hn.out; omega, fun j hj => hall.out j (by rw [hn.out]; exact hj)⟩)
        go_wp2_with fail
        go_ret
        exact ⟨by rw [hf.out]; rfl, Below.refl _ _⟩
end Go.Proofs.YtfgkaiaapofepaaDoor
