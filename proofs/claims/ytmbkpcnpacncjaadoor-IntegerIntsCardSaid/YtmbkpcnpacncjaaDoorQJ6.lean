/- A slice of integers that came in, with its room. -/
import Derived.Test.YtmbkpcnpacncjaaDoorQJ5
import Derived.Test.YtmbkpcnpacncjaaDoorM16
set_option linter.unusedVariables false
namespace Go.Proofs.YtmbkpcnpacncjaaDoor
open Go.RowKit

theorem row_VIc {w : World} {a : Option Addr} {len cap : Nat} {zs : List Int}
    (h : (a = none ∧ len = 0 ∧ cap = 0 ∧ zs = []) ∨ ∃ x, a = some x ∧ len ≤ cap ∧ cap ≤ maxLen ∧ zs.length = cap ∧ (∀ i, i < zs.length → w.cell? (x.add i) = some (.int .i64 (zs.getD i 0))) ∧ ∀ n ∈ zs, (Lit.int .i64 n).wf = true) : ∃ l, VIc l (.slice a len cap) w := by
  obtain ⟨l, hR, hi, hl, hc, hm⟩ := row_Rdi h
  rcases h with ⟨rfl, rfl, rfl, -⟩ | ⟨x, rfl, h1, h2, h3, h4, -⟩
  · exact ⟨[], .inl ⟨rfl, rfl⟩⟩
  · rcases Nat.eq_zero_or_pos cap with h0 | h0
    · subst h0
      obtain rfl : len = 0 := by omega
      exact ⟨[], .inr (.inl ⟨x, rfl, rfl⟩)⟩
    · have hx := addr_plain' (h4 0 (by omega))
      rw [hx] at hR ⊢
      rw [hl] at hc ⊢
      exact ⟨l, .inr (.inr ⟨_, _, cap, rfl, hc, h0, hm, hR⟩)⟩

end Go.Proofs.YtmbkpcnpacncjaaDoor
