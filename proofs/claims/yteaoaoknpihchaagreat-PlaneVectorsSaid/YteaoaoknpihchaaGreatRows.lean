/-
  No cell of these rows narrows 'for every input' (looked for: loops, veiled, ifaces, maps, wideKeys, modest, calm, conditions, laid).
  DERIVED. THE GIVEN ROWS OF THIS SEAT. 5 by the template 'for every input the law returns true; each argument reads behind the call as it read before'; 0 by the template 'total and deterministic' (their statements: YteaoaoknpihchaaGreatTotals.lean).
  GIVEN WITH THE SEED: the statements are not yours to turn. If you find one false, say at which input.
  Laid BY PROGRAM, IN A SANDBOX (cutbox-rows.mjs): the forced cells as the released guide's own fill.sh prints them over the translation c4a67ac3f230c585… (all of the seat's roots in one cut). By AI agents, Wed Nov 11 2026. No macro, syntax, notation, axiom, sorry.
-/
import Derived.Test.YteaoaoknpihchaaGreatChecked
import GoSem.Claim
import GoSem.ClaimJoined
import GoSem.ClaimMapViews
import Derived.JoinedTies
import Derived.KernelRfl
namespace Go.Proofs.YteaoaoknpihchaaGreat
/- THE CELL 'sum', in the pinned program and in every row, IS THE sha256 OF THE DUMP (.gsa) THAT YteaoaoknpihchaaGreatProg.lean LOADS. Nothing in Lean hashes anything: it is a label: what it is worth is what the hold of that sum in a sandbox is worth. -/
noncomputable def Tryz.pinned : Pinned := { name := "yteaoaoknpihchaagreat", sum := "c4a67ac3f230c585d309cb52567463a31c4a61ed4790ae758ab0683bdac2d0bd", checked := Tryz.checked }
namespace Rows
def none {H : Type} : Left H := { results := [], args := [] }

/-- 'sherdlaw05.PlaneVectors': WHATEVER THE INPUT: true; the input reads as it did. -/
def planeVectorsSpec : ChangeSpec := { name := "planeVectors", fn := fun _ => fun
  | [d1, d2, d3] => { results := [.lit (.bool true)], args := [d1, d2, d3] }
  | _ => none }
def planeVectorsRow : OpenClaim := { program := "yteaoaoknpihchaagreat", sum := "c4a67ac3f230c585d309cb52567463a31c4a61ed4790ae758ab0683bdac2d0bd", func := "sherd/sherdlaw05.PlaneVectors", spec := "planeVectors", unfollowed := true, recurses := true, apart := false }
def PlaneVectorsSaid : Prop := planeVectorsRow.holds Tryz.pinned (OpenSpec.ofChange planeVectorsSpec)

/-- ITS FALSE NEIGHBOUR: 'it returns false'. Refute it at one input. -/
def planeVectorsWrong : ChangeSpec := { name := "planeVectors", fn := fun _ => fun
  | [d1, d2, d3] => { results := [.lit (.bool false)], args := [d1, d2, d3] }
  | _ => none }
def PlaneVectorsWrongFalsely : Prop := planeVectorsRow.holds Tryz.pinned (OpenSpec.ofChange planeVectorsWrong)

/-- 'sherdlaw05.PlaneSides': WHATEVER THE INPUT: true; the input reads as it did. -/
def planeSidesSpec : ChangeSpec := { name := "planeSides", fn := fun _ => fun
  | [d1, d2] => { results := [.lit (.bool true)], args := [d1, d2] }
  | _ => none }
def planeSidesRow : OpenClaim := { program := "yteaoaoknpihchaagreat", sum := "c4a67ac3f230c585d309cb52567463a31c4a61ed4790ae758ab0683bdac2d0bd", func := "sherd/sherdlaw05.PlaneSides", spec := "planeSides", unfollowed := true, recurses := true, apart := false }
def PlaneSidesSaid : Prop := planeSidesRow.holds Tryz.pinned (OpenSpec.ofChange planeSidesSpec)

/-- ITS FALSE NEIGHBOUR: 'it returns false'. Refute it at one input. -/
def planeSidesWrong : ChangeSpec := { name := "planeSides", fn := fun _ => fun
  | [d1, d2] => { results := [.lit (.bool false)], args := [d1, d2] }
  | _ => none }
def PlaneSidesWrongFalsely : Prop := planeSidesRow.holds Tryz.pinned (OpenSpec.ofChange planeSidesWrong)

/-- 'sherdlaw05.PlaneTurns': WHATEVER THE INPUT: true; the input reads as it did. -/
def planeTurnsSpec : ChangeSpec := { name := "planeTurns", fn := fun _ => fun
  | [d1, d2, d3, d4] => { results := [.lit (.bool true)], args := [d1, d2, d3, d4] }
  | _ => none }
def planeTurnsRow : OpenClaim := { program := "yteaoaoknpihchaagreat", sum := "c4a67ac3f230c585d309cb52567463a31c4a61ed4790ae758ab0683bdac2d0bd", func := "sherd/sherdlaw05.PlaneTurns", spec := "planeTurns", unfollowed := true, recurses := true, apart := false }
def PlaneTurnsSaid : Prop := planeTurnsRow.holds Tryz.pinned (OpenSpec.ofChange planeTurnsSpec)

/-- ITS FALSE NEIGHBOUR: 'it returns false'. Refute it at one input. -/
def planeTurnsWrong : ChangeSpec := { name := "planeTurns", fn := fun _ => fun
  | [d1, d2, d3, d4] => { results := [.lit (.bool false)], args := [d1, d2, d3, d4] }
  | _ => none }
def PlaneTurnsWrongFalsely : Prop := planeTurnsRow.holds Tryz.pinned (OpenSpec.ofChange planeTurnsWrong)

/-- 'sherdlaw05.PlaneAligns': WHATEVER THE INPUT: true; the input reads as it did. -/
def planeAlignsSpec : ChangeSpec := { name := "planeAligns", fn := fun _ => fun
  | [d1, d2, d3] => { results := [.lit (.bool true)], args := [d1, d2, d3] }
  | _ => none }
def planeAlignsRow : OpenClaim := { program := "yteaoaoknpihchaagreat", sum := "c4a67ac3f230c585d309cb52567463a31c4a61ed4790ae758ab0683bdac2d0bd", func := "sherd/sherdlaw05.PlaneAligns", spec := "planeAligns", unfollowed := true, recurses := true, apart := false }
def PlaneAlignsSaid : Prop := planeAlignsRow.holds Tryz.pinned (OpenSpec.ofChange planeAlignsSpec)

/-- ITS FALSE NEIGHBOUR: 'it returns false'. Refute it at one input. -/
def planeAlignsWrong : ChangeSpec := { name := "planeAligns", fn := fun _ => fun
  | [d1, d2, d3] => { results := [.lit (.bool false)], args := [d1, d2, d3] }
  | _ => none }
def PlaneAlignsWrongFalsely : Prop := planeAlignsRow.holds Tryz.pinned (OpenSpec.ofChange planeAlignsWrong)

/-- 'sherdlaw05.PlanePlaces': WHATEVER THE INPUT: true; the input reads as it did. -/
def planePlacesSpec : ChangeSpec := { name := "planePlaces", fn := fun _ => fun
  | [d] => { results := [.lit (.bool true)], args := [d] }
  | _ => none }
def planePlacesRow : OpenClaim := { program := "yteaoaoknpihchaagreat", sum := "c4a67ac3f230c585d309cb52567463a31c4a61ed4790ae758ab0683bdac2d0bd", func := "sherd/sherdlaw05.PlanePlaces", spec := "planePlaces", unfollowed := true, recurses := true, apart := false }
def PlanePlacesSaid : Prop := planePlacesRow.holds Tryz.pinned (OpenSpec.ofChange planePlacesSpec)

/-- ITS FALSE NEIGHBOUR: 'it returns false'. Refute it at one input. -/
def planePlacesWrong : ChangeSpec := { name := "planePlaces", fn := fun _ => fun
  | [d] => { results := [.lit (.bool false)], args := [d] }
  | _ => none }
def PlanePlacesWrongFalsely : Prop := planePlacesRow.holds Tryz.pinned (OpenSpec.ofChange planePlacesWrong)

/- THE SECOND FORM. 'bulk': how many values and letters a reading holds, each counted each time it is reached (what is shared counts as often as it is met; a slice's spare places count too). A statement '..UptoSaid' is the law's where the arguments, and the package variables that the reading takes, are together of bulk at most 1048576: NARROWER than '..Said'. Prove '..Said' where nothing that the law and all that it calls make is longer than what came in: it says more and counts as full. Else prove '..UptoSaid'. A law counts once. -/
mutual
def uptoBulk {H : Type} : DataW H → Nat
  | .lit (.string bytes) => bytes.length + 1
  | .lit _ => 1
  | .nil => 1
  | .ptr d => uptoBulk d + 1
  | .slice elems spare => uptoBulkAll elems + uptoBulkAll spare + 1
  | .agg parts => uptoBulkAll parts + 1
  | .iface _ d => uptoBulk d + 1
  | .map entries => uptoBulkEntries entries + 1
  | .held _ => 1
def uptoBulkAll {H : Type} : List (DataW H) → Nat
  | [] => 0
  | d :: r => uptoBulk d + uptoBulkAll r
def uptoBulkEntries {H : Type} : List (Lit × DataW H) → Nat
  | [] => 0
  | x :: r => uptoBulkEntry x + uptoBulkEntries r
def uptoBulkEntry {H : Type} : Lit × DataW H → Nat
  | (.string bytes, d) => bytes.length + uptoBulk d + 1
  | (_, d) => uptoBulk d + 1
 end
def uptoSmall : (H : Type) → List (DataW H) → Bool := fun _ ds => decide (uptoBulkAll ds ≤ 1048576)
def OpenSpec.upto (s : _root_.Go.ChangeSpec) : _root_.Go.OpenSpec := { _root_.Go.OpenSpec.ofChange s with cond := some uptoSmall }

/-- 'sherdlaw05.PlaneVectors', WHERE WHAT IT READS IS OF BULK AT MOST 1048576: true; the input reads as it did. -/
def planeVectorsUptoRow : OpenClaim := { program := "yteaoaoknpihchaagreat", sum := "c4a67ac3f230c585d309cb52567463a31c4a61ed4790ae758ab0683bdac2d0bd", func := "sherd/sherdlaw05.PlaneVectors", spec := "planeVectors", unfollowed := true, recurses := true, apart := false, narrowed := true }
def PlaneVectorsUptoSaid : Prop := planeVectorsUptoRow.holds Tryz.pinned (OpenSpec.upto planeVectorsSpec)

/-- 'sherdlaw05.PlaneSides', WHERE WHAT IT READS IS OF BULK AT MOST 1048576: true; the input reads as it did. -/
def planeSidesUptoRow : OpenClaim := { program := "yteaoaoknpihchaagreat", sum := "c4a67ac3f230c585d309cb52567463a31c4a61ed4790ae758ab0683bdac2d0bd", func := "sherd/sherdlaw05.PlaneSides", spec := "planeSides", unfollowed := true, recurses := true, apart := false, narrowed := true }
def PlaneSidesUptoSaid : Prop := planeSidesUptoRow.holds Tryz.pinned (OpenSpec.upto planeSidesSpec)

/-- 'sherdlaw05.PlaneTurns', WHERE WHAT IT READS IS OF BULK AT MOST 1048576: true; the input reads as it did. -/
def planeTurnsUptoRow : OpenClaim := { program := "yteaoaoknpihchaagreat", sum := "c4a67ac3f230c585d309cb52567463a31c4a61ed4790ae758ab0683bdac2d0bd", func := "sherd/sherdlaw05.PlaneTurns", spec := "planeTurns", unfollowed := true, recurses := true, apart := false, narrowed := true }
def PlaneTurnsUptoSaid : Prop := planeTurnsUptoRow.holds Tryz.pinned (OpenSpec.upto planeTurnsSpec)

/-- 'sherdlaw05.PlaneAligns', WHERE WHAT IT READS IS OF BULK AT MOST 1048576: true; the input reads as it did. -/
def planeAlignsUptoRow : OpenClaim := { program := "yteaoaoknpihchaagreat", sum := "c4a67ac3f230c585d309cb52567463a31c4a61ed4790ae758ab0683bdac2d0bd", func := "sherd/sherdlaw05.PlaneAligns", spec := "planeAligns", unfollowed := true, recurses := true, apart := false, narrowed := true }
def PlaneAlignsUptoSaid : Prop := planeAlignsUptoRow.holds Tryz.pinned (OpenSpec.upto planeAlignsSpec)

/-- 'sherdlaw05.PlanePlaces', WHERE WHAT IT READS IS OF BULK AT MOST 1048576: true; the input reads as it did. -/
def planePlacesUptoRow : OpenClaim := { program := "yteaoaoknpihchaagreat", sum := "c4a67ac3f230c585d309cb52567463a31c4a61ed4790ae758ab0683bdac2d0bd", func := "sherd/sherdlaw05.PlanePlaces", spec := "planePlaces", unfollowed := true, recurses := true, apart := false, narrowed := true }
def PlanePlacesUptoSaid : Prop := planePlacesUptoRow.holds Tryz.pinned (OpenSpec.upto planePlacesSpec)

end Rows
end Go.Proofs.YteaoaoknpihchaaGreat
