/- IntegerRoots: the walk, in the frame's words. -/
import Derived.Test.YteaoaoknpihchaaDoorQD5
import Derived.Test.YteaoaoknpihchaaDoorM16
set_option linter.unusedVariables false
namespace Go.Proofs.YteaoaoknpihchaaDoor
open Go.RowKit
theorem walkRootsL (a0 : Option Addr) (m0 c0 : Nat) (l0 : List Int) (k : Int) (w : World) (hR0 : Rdi w a0 l0) (hm0 : m0 = l0.length) (hi0 : i64s l0) (hk : (Lit.int .i64 k).wf = true) (hT : Tb w) :
    Calls Tryd.prog 5 #[.slice a0 m0 c0, .int .i64 k] w fun e w' => e = .returned (.bool true) ∧ Below w.heap.size w w' :=
  (walkRoots0 ⟨a0, m0, c0, rfl, hR0, hm0, hi0⟩ rfl (wf_i64' hk).1 (wf_i64' hk).2 hT).mono fun e w' ⟨v, he, hv, hb⟩ => ⟨by rw [he, hv], hb⟩
end Go.Proofs.YteaoaoknpihchaaDoor
