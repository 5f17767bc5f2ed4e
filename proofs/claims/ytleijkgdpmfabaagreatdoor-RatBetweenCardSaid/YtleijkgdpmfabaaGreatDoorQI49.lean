/- The reference's Small. -/
import Derived.Test.YtleijkgdpmfabaaGreatDoorQX4
import Derived.Test.YtleijkgdpmfabaaGreatDoorW24
import Derived.Test.YtleijkgdpmfabaaGreatDoorW10
set_option linter.unusedVariables false
namespace Go.Proofs.YtleijkgdpmfabaaGreatDoor
open Go.RowKit
end Go.Proofs.YtleijkgdpmfabaaGreatDoor
