/- Between regions: less is known of boxes. -/
import Derived.Test.YteaoaoknpihchaaGreatM16
set_option linter.unusedVariables false
namespace Go.Proofs.YteaoaoknpihchaaGreat
open Go Go.RowKit
theorem St.weak {n0 N : Nat} {w0 : World} {L : List Bd} {SL : List (Nat × VP)} {a : Act} {w : World} (h : St n0 w0 N L SL a w) (L' : List Bd) (hm : ∀ c ∈ L', ∃ b, b ∈ L ∧ b.t = c.t ∧ b.T = c.T ∧ b.m = c.m ∧ b.ia = none ∧ c.ia = none ∧ b.ik = none ∧ c.ik = none ∧ ∀ v w, b.P v w → c.P v w) : St n0 w0 N L' SL a w := by
  refine ⟨⟨h.k.below, fun c hc hon => ?_, fun c hc d hd hne h1 h2 => ?_, fun c hc hn hk => ?_⟩, h.n, h.size, h.defers, h.sl⟩
  · obtain ⟨b, hb, e1, e2, e3, e4, e5, e6, e7, e8⟩ := hm c hc
    obtain ⟨g, cs, f1, f2, f3, f4, f5, f6, -⟩ := h.k.ok b hb (by rw [e4]; rfl)
    exact ⟨g, cs, by rw [← e1]; exact f1, f2, by rw [← e2]; exact f3, by rw [← e3]; exact f4, f5, fun _ => e8 _ _ (f6 (by rw [e6]; rfl)), fun _ hk => by rw [e7] at hk; cases hk⟩
  · obtain ⟨b, hb, e1, -, -, e4, -⟩ := hm c hc
    obtain ⟨b2, hb2, q1, -, -, q4, -⟩ := hm d hd
    rw [← e1, ← q1]
    exact h.k.ne b hb b2 hb2 (by rw [e1, q1]; exact hne) (by rw [e4]; rfl) (by rw [q4]; rfl)
  · obtain ⟨b, hb, -, -, -, -, -, -, e7, -⟩ := hm c hc
    exact absurd e7 hn
end Go.Proofs.YteaoaoknpihchaaGreat
