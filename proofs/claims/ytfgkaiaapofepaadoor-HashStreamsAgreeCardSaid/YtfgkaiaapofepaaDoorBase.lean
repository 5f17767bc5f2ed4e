/- Words shared by the walks: byte slices and strings as lists of bytes. -/
import Derived.Test.YtfgkaiaapofepaaDoorProg
import Derived.WalkKit
import Derived.WalkSpells
import Derived.WalkLawsBesides
import Derived.BigQuiet
import Derived.Deep.QuietTactic
import Derived.Lib.Hide
import Derived.IntWalk
namespace Go.Proofs.YtfgkaiaapofepaaDoor
open Go.RowKit

/-- byte i of a list, as Go's number -/
def byt (l : List UInt8) (i : Nat) : Int := ((l.getD i 0).toNat : Int)
theorem byt_lo (l : List UInt8) (i : Nat) : 0 ≤ byt l i := by unfold byt; omega
theorem byt_hi (l : List UInt8) (i : Nat) : byt l i < 256 := by unfold byt; have := (l.getD i 0).toNat_lt; omega

/-- the slice that begins at a reads as the bytes l -/
def Rd (w : World) (a : Option Addr) (l : List UInt8) : Prop :=
  l = [] ∨ ∃ b off, a = some ⟨b, off, none⟩ ∧ ∀ i, i < l.length → w.cell? ⟨b, off + i, none⟩ = some (.int .u8 (byt l i))

end Go.Proofs.YtfgkaiaapofepaaDoor
