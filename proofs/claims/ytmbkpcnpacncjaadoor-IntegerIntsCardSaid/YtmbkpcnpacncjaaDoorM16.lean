/- Contracts of the package integer and its reference: Slices of integers that came in. What the listed variables give a walk of a law over integers; a world in which they are laid; slices of integers that came in. -/
import Derived.Test.YtmbkpcnpacncjaaDoorM12
import Derived.Test.YtmbkpcnpacncjaaDoorRows
import Derived.LaidMore
import Derived.Stop.Joined
import Derived.ProofKit
import Derived.LaidSub
import Derived.LaidHandle
import Derived.Lib.LaidTab
set_option linter.unusedVariables false
namespace Go.Proofs.YtmbkpcnpacncjaaDoor
open Go Go.RowKit

theorem wf_i64' {n : Int} (h : (Lit.int .i64 n).wf = true) : -9223372036854775808 ≤ n ∧ n ≤ 9223372036854775807 := by
  simp [Lit.wf, IntKind.min, IntKind.max, IntKind.signed, IntKind.bits] at h
  omega
theorem add_plain' (b o i : Nat) : (⟨b, o, none⟩ : Addr).add i = ⟨b, o + i, none⟩ := by unfold Addr.add; split <;> simp_all
theorem addr_plain' {w : World} {x : Addr} {u : Value} (h : w.cell? (x.add 0) = some u) : x = ⟨x.block, x.off, none⟩ := by
  have h0 : x.add 0 = x := by simp [Addr.add]
  rw [h0] at h
  cases x with
  | mk b o s =>
    cases s with
    | none => rfl
    | some s =>
      unfold World.cell? at h
      split at h
      · simp at h
      · cases h
/-- integers that came in -/
theorem row_Rdi {w : World} {a : Option Addr} {len cap : Nat} {zs : List Int}
    (h : (a = none ∧ len = 0 ∧ cap = 0 ∧ zs = []) ∨ ∃ x, a = some x ∧ len ≤ cap ∧ cap ≤ maxLen ∧ zs.length = cap ∧ (∀ i, i < zs.length → w.cell? (x.add i) = some (.int .i64 (zs.getD i 0))) ∧ ∀ n ∈ zs, (Lit.int .i64 n).wf = true) :
    ∃ l : List Int, Rdi w a l ∧ i64s l ∧ len = l.length ∧ len ≤ cap ∧ cap ≤ 9223372036854775807 := by
  rcases h with ⟨rfl, rfl, rfl, rfl⟩ | ⟨x, rfl, hl, hm, hz, hc, hw⟩
  · exact ⟨[], .inl rfl, fun i hi => by simp at hi, rfl, Nat.le_refl _, by omega⟩
  · refine ⟨zs.take len, ?_, ?_, by simp; omega, hl, by unfold maxLen at hm; omega⟩
    · rcases Nat.eq_zero_or_pos len with h0 | h0
      · subst h0; exact .inl (by simp)
      · have hx := addr_plain' (hc 0 (by omega))
        refine .inr ⟨x.block, x.off, by rw [← hx], fun i hi => ?_⟩
        have hi' : i < len := by simp at hi; omega
        have hi2 : i < zs.length := by omega
        have hadd : x.add i = ⟨x.block, x.off + i, none⟩ := (congrArg (fun y : Addr => y.add i) hx).trans (add_plain' _ _ _)
        rw [← hadd, hc i hi2]
        simp [iat, List.getD_eq_getElem?_getD, hi']
    · intro i hi
      have hi' : i < len := by simp at hi; omega
      have hi2 : i < zs.length := by omega
      have hb := wf_i64' (hw (zs[i]) (List.getElem_mem hi2))
      have e : iat (zs.take len) i = zs[i] := by simp [iat, List.getD_eq_getElem?_getD, hi', hi2]
      rw [e]
      omega
end Go.Proofs.YtmbkpcnpacncjaaDoor

namespace Go.Proofs.YtmbkpcnpacncjaaDoor
open Go.ChangeShapes Go.WideShapes Go.ChangeAt Go.RowKit

theorem own : ownKnob Tryd.prog.godebug = none := by kernel_rfl
def lI : List (String × DataW Unit) := [("math/bits.deBruijn32tab", Rows.laid_math_bits_deBruijn32tab), ("math/bits.deBruijn64tab", Rows.laid_math_bits_deBruijn64tab), ("internal/strconv.uint64pow10", Rows.laid_internal_strconv_uint64pow10), ("strconv.ErrRange", Rows.laid_strconv_ErrRange), ("strconv.ErrSyntax", Rows.laid_strconv_ErrSyntax)]
def lP : List (String × DataW Unit) := [("internal/strconv.uint64pow10", Rows.laid_internal_strconv_uint64pow10)]
theorem gP : Tryd.prog.globalNamed "internal/strconv.uint64pow10" = some 2 := by kernel_rfl
theorem tP : (Tryd.prog.globals[2]?).map (·.type) = some 109 := by kernel_rfl
theorem dP : (Rows.laid_internal_strconv_uint64pow10 : DataW Unit) = Lib.tabData .u64 Lib.pow10Tab := by kernel_rfl
theorem cP : Tryd.prog.cellsOf 42 = 1 := by kernel_rfl
theorem cPT : Tryd.prog.cellsOf 109 = 20 := by kernel_rfl
theorem sub_lI : (lI.filter fun x => x.1 == "internal/strconv.uint64pow10") = lP := by kernel_rfl
theorem tab_lI {W : World} (h : laidMetH Tryd.prog lI W) : Tb W := by
  rw [MakeChecks.laidMetH_plain _ _ _ (by kernel_rfl)] at h
  have h2 := h.filter (fun x => x.1 == "internal/strconv.uint64pow10")
  rw [sub_lI] at h2
  unfold lP at h2
  rw [dP] at h2
  exact Lib.tabBelow_of_tabIs (Lib.tabIs_of_head gP tP Tryd.underlying109 Tryd.underlying42 cP cPT h2)
/-- The door's own heap meets the condition: closed facts. -/
theorem door_lI (os : Os) (args : Array Value) : laidMetH Tryd.prog lI ((World.doorLaid Tryd.prog 400 os).forCall (fun _ _ => 0) ⟨#[], args, []⟩).memory :=
  laidMetH_of_parts3 (fuel := 8) (laidMet_of_run' 8 (by kernel_rfl) (by kernel_rfl)) (by kernel_rfl) (by kernel_rfl)

end Go.Proofs.YtmbkpcnpacncjaaDoor
