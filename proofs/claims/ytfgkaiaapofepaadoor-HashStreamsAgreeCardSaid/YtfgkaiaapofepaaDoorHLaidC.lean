/- What the two listed tables give a walk; a world in which they are laid. -/
import Derived.Test.YtfgkaiaapofepaaDoorHLaid
import Derived.Test.YtfgkaiaapofepaaDoorHV3
import Derived.Test.YtfgkaiaapofepaaDoorW23
import Derived.LaidSub
namespace Go.Proofs.YtfgkaiaapofepaaDoor
open Go.ChangeShapes Go.WideShapes Go.ChangeAt Go.RowKit

def lC : List (String × DataW Unit) := [("sherd/sherdref02.constants", Rows.laid_sherd_sherdref02_constants), ("sherd/hash.rounds", Rows.laid_sherd_hash_rounds)]
theorem gC : Tryd.prog.globalNamed "sherd/sherdref02.constants" = some 0 := by kernel_rfl
theorem tC : (Tryd.prog.globals[0]?).map (·.type) = some 54 := by kernel_rfl
theorem dC : (Rows.laid_sherd_sherdref02_constants : DataW Unit) = Lib.tabData .u32 (KK.map wn) := by kernel_rfl
theorem sub_lC : (lC.filter fun x => x.1 == "sherd/hash.rounds") = lR := by kernel_rfl
theorem tab_lC {W : World} (h : laidMetH Tryd.prog lC W) : Tab W ∧ Tabc W := by
  rw [MakeChecks.laidMetH_plain _ _ _ (by kernel_rfl)] at h
  refine ⟨?_, ?_⟩
  · have h2 := h.filter (fun x => x.1 == "sherd/hash.rounds")
    rw [sub_lC] at h2
    exact tab_lR (by rw [MakeChecks.laidMetH_plain _ _ _ (by kernel_rfl)]; exact h2)
  · unfold lC at h
    rw [dC] at h
    have ht := Lib.tabIs_of_head gC tC Tryd.underlying54 Tryd.underlying29 cR cT h
    exact tab_of W _ fun i hi => ht.cell gC i hi
/-- The door's own heap meets the condition: closed facts. -/
theorem door_lC (os : Os) (args : Array Value) : laidMetH Tryd.prog lC ((World.doorLaid Tryd.prog 400 os).forCall (fun _ _ => 0) ⟨#[], args, []⟩).memory :=
  laidMetH_of_parts3 (fuel := 8) (laidMet_of_run' 8 (by kernel_rfl) (by kernel_rfl)) (by kernel_rfl) (by kernel_rfl)
end Go.Proofs.YtfgkaiaapofepaaDoor
