/- IntegerQuotients: the walk, in the frame's words. -/
import Derived.Test.YteaoaoknpihchaaDoorQD3
import Derived.Test.YteaoaoknpihchaaDoorM16
set_option linter.unusedVariables false
namespace Go.Proofs.YteaoaoknpihchaaDoor
open Go.RowKit
theorem walkQuotients (a0 a1 : Option Addr) (m0 m1 c0 c1 : Nat) (l0 l1 : List Int) (k : Int) (w : World) (hR0 : Rdi w a0 l0) (hR1 : Rdi w a1 l1) (hm0 : m0 = l0.length) (hm1 : m1 = l1.length) (hi0 : i64s l0) (hi1 : i64s l1) (hk : (Lit.int .i64 k).wf = true) (hT : Tb w) :
    Calls Tryd.prog 4 #[.slice a0 m0 c0, .slice a1 m1 c1, .int .i64 k] w fun e w' => e = .returned (.bool true) ∧ Below w.heap.size w w' :=
  (walkQuo0 ⟨a0, m0, c0, rfl, hR0, hm0, hi0⟩ ⟨a1, m1, c1, rfl, hR1, hm1, hi1⟩ rfl (wf_i64' hk).1 (wf_i64' hk).2 hT).mono fun e w' ⟨v, he, hv, hb⟩ => ⟨by rw [he, hv], hb⟩
end Go.Proofs.YteaoaoknpihchaaDoor
