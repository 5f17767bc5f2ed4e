/- An array of two bytes that came in. -/
import Derived.Test.YtfgkaiaapofepaaDoorW23
import Derived.OpenShut
import Derived.WideKeyArr2
import Derived.Deep.Slices
namespace Go.Proofs.YtfgkaiaapofepaaDoor
open Go.RowKit Go.ChangeShapes Go.WideShapes Go.Deep

theorem arg_arr2 {H : Type} {enc : TypeId × Value → H} {w : World} {base b0 : Nat} {spare : Nat → Bool} {held : Bool} {r : Reach} {v : Value} {d : DataW H} {p : List MemPlace} (hv : Value.okWide Tryd.prog w r b0 48 v) (h : DataW.Trod enc Tryd.prog w base spare held 48 v d p) :
    ∃ s t : Int, v = .agg #[.int .u8 s, .int .u8 t] ∧ 0 ≤ s ∧ s < 256 ∧ 0 ≤ t ∧ t < 256 := by
  have h2 : Tryd.prog.cellsOf 48 = 2 := by kernel_rfl
  have h1 : Tryd.prog.cellsOf 5 = 1 := by kernel_rfl
  simp only [Value.okWide, Tryd.underlying48] at hv
  obtain ⟨cs, rfl, hs, _⟩ := hv
  rw [h2] at hs
  obtain ⟨fuel, hf⟩ := h
  obtain ⟨xs, m, hm, _, hl, hxl, hx⟩ := DataW.trod_array Tryd.underlying48 hf
  have each : ∀ i, i < 2 → ∃ n : Int, cs[i]? = some (.int .u8 n) ∧ 0 ≤ n ∧ n < 256 := by
    intro i hi
    have hy : xs[i]? = some (xs[i]'(by omega)) := List.getElem?_eq_getElem (by omega)
    have := hx i hi
    rw [hy, h1, Nat.mul_one] at this
    obtain ⟨n, he, _, hw⟩ := DataW.trod_int Tryd.underlying5 this
    have hi2 : i < (Value.agg cs).cells.toList.length := by simp [Value.cells, hs]; omega
    rw [List.drop_eq_getElem_cons hi2] at he
    simp only [List.take_succ_cons, List.take_zero, List.cons.injEq, and_true] at he
    have hw' : 0 ≤ n ∧ n < 256 := wf_u8 hw
    refine ⟨n, ?_, hw'⟩
    rw [Array.getElem?_eq_getElem (by omega)]
    simp only [Value.cells, Array.getElem_toList] at he
    rw [he]
  obtain ⟨s, hs0, s0, s1⟩ := each 0 (by omega)
  obtain ⟨t, ht0, t0, t1⟩ := each 1 (by omega)
  refine ⟨s, t, ?_, s0, s1, t0, t1⟩
  congr 1
  apply Array.ext_getElem?
  intro i
  match i with
  | 0 => rw [hs0]; rfl
  | 1 => rw [ht0]; rfl
  | i + 2 => rw [Array.getElem?_eq_none (by omega), Array.getElem?_eq_none (by simp)]
end Go.Proofs.YtfgkaiaapofepaaDoor
