/- A list of strings that came in. -/
import Derived.Test.YtfgkaiaapofepaaDoorW23
import Derived.OpenShut
import Derived.SliceStrings
import Derived.Deep.Slices
namespace Go.Proofs.YtfgkaiaapofepaaDoor
open Go.RowKit Go.ChangeShapes Go.Deep

theorem arg_Rds {H : Type} {enc : TypeId × Value → H} {w : World} {base : Nat} {spare : Nat → Bool} {held : Bool} {a : Option Addr} {len cap fuel : Nat} {x : DataW H × List MemPlace} (h : DataW.trod enc Tryd.prog w base spare held fuel 27 (Value.slice a len cap).cells.toList = some x) :
    ∃ l : List ByteArray, Rds w a l ∧ len = l.length ∧ len ≤ cap ∧ cap ≤ 9223372036854775807 ∧ True := by
  rcases open_strings Tryd.underlying27 Tryd.underlying9 (by kernel_rfl) h with ⟨hcs, rfl⟩ | ⟨q, l, c, ss, hcs, _, hl, hm, hz, rfl, hcell, _⟩
  · simp [Value.cells] at hcs
    obtain ⟨rfl, rfl, rfl⟩ := hcs
    exact ⟨[], .inl rfl, rfl, by omega, by omega, trivial⟩
  · simp [Value.cells] at hcs
    obtain ⟨rfl, rfl, rfl⟩ := hcs
    have hsl : len ≤ ss.length := by rw [hz]; split <;> omega
    refine ⟨ss.take len, ?_, by simp; omega, hl, by unfold maxLen at hm; omega, trivial⟩
    rcases Nat.eq_zero_or_pos len with h0 | h0
    · subst h0; exact .inl (by simp)
    · have hx := addr_plain (hcell 0 (by omega))
      refine .inr ⟨q.block, q.off, by rw [← hx], fun i hi => ?_⟩
      have hi' : i < len := by simp at hi; omega
      have hadd : q.add i = ⟨q.block, q.off + i, none⟩ := (congrArg (fun y : Addr => y.add i) hx).trans (add_plain _ _ _)
      rw [← hadd, hcell i (by omega)]
      simp [sat, List.getD_eq_getElem?_getD, hi']
end Go.Proofs.YtfgkaiaapofepaaDoor
