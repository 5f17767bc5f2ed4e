/- What the listed variables give a walk; a world in which they are laid. -/
import Derived.Test.YtfgkaiaapofepaaDoorRows
import Derived.Test.YtfgkaiaapofepaaDoorG5
import Derived.LaidMore
import Derived.Stop.Joined
import Derived.ProofKit
namespace Go.Proofs.YtfgkaiaapofepaaDoor
open Go.ChangeShapes Go.WideShapes Go.ChangeAt Go.RowKit

theorem own : ownKnob Tryd.prog.godebug = none := by kernel_rfl
def lR : List (String × DataW Unit) := [("sherd/hash.rounds", Rows.laid_sherd_hash_rounds)]
theorem gR : Tryd.prog.globalNamed "sherd/hash.rounds" = some 1 := by kernel_rfl
theorem tR : (Tryd.prog.globals[1]?).map (·.type) = some 54 := by kernel_rfl
theorem dR : (Rows.laid_sherd_hash_rounds : DataW Unit) = Lib.tabData .u32 (KK.map wn) := by kernel_rfl
theorem cR : Tryd.prog.cellsOf 29 = 1 := by kernel_rfl
theorem cT : Tryd.prog.cellsOf 54 = 64 := by kernel_rfl
theorem tab_of (W : World) (g : Nat) (h : ∀ i, i < (KK.map wn).length → W.cell? ⟨g, i, none⟩ = some (.int .u32 ((KK.map wn).getD i 0))) : ∀ i, i < 64 → W.cell? ⟨g, i, none⟩ = some (.int .u32 (wn (KK.getD i 0))) := by
  intro i hi
  have hl : (KK.map wn).length = 64 := rfl
  have hk : KK.length = 64 := rfl
  rw [h i (by omega)]
  congr 2
  simp [List.getD_eq_getElem?_getD, hk, hi]
theorem tab_lR {W : World} (h : laidMetH Tryd.prog lR W) : Tab W := by
  rw [MakeChecks.laidMetH_plain _ _ _ (by kernel_rfl)] at h
  unfold lR at h
  rw [dR] at h
  have ht := Lib.tabIs_of_head gR tR Tryd.underlying54 Tryd.underlying29 cR cT h
  exact tab_of W _ fun i hi => ht.cell gR i hi
/-- The door's own heap meets the condition: closed facts. -/
theorem door_lR (os : Os) (args : Array Value) : laidMetH Tryd.prog lR ((World.doorLaid Tryd.prog 400 os).forCall (fun _ _ => 0) ⟨#[], args, []⟩).memory :=
  laidMetH_of_parts3 (fuel := 8) (laidMet_of_run' 8 (by kernel_rfl) (by kernel_rfl)) (by kernel_rfl) (by kernel_rfl)
end Go.Proofs.YtfgkaiaapofepaaDoor
