/- Contracts of the package integer and its reference: rat.part, rat.made. Den, Neg, Sign, inverse, Mul, Add of package rat. Sub, Div, Compare, Same, Make, Of of package rat. The reference's tiny and times. The reference's divided. The reference's divided, the other long way. The reference's divided, whole. The reference's integers: contracts as words of generated proofs. sherdref03.Div. sherdref03.Gcd. -/
import Derived.Test.YtmbkpcnpacncjaaDoorM21
import Derived.Test.YtmbkpcnpacncjaaDoorM14
import Derived.Test.YtmbkpcnpacncjaaDoorM9
import Derived.Test.YtmbkpcnpacncjaaDoorM11
import Derived.Test.YtmbkpcnpacncjaaDoorM12
import Derived.Test.YtmbkpcnpacncjaaDoorM17
import Derived.Deep.LoopGhost
set_option linter.unusedVariables false
namespace Go.Proofs.YtmbkpcnpacncjaaDoor
open Go.RowKit

end Go.Proofs.YtmbkpcnpacncjaaDoor

namespace Go.Proofs.YtmbkpcnpacncjaaDoor
open Go.RowKit

end Go.Proofs.YtmbkpcnpacncjaaDoor

namespace Go.Proofs.YtmbkpcnpacncjaaDoor
open Go.RowKit

end Go.Proofs.YtmbkpcnpacncjaaDoor

namespace Go.Proofs.YtmbkpcnpacncjaaDoor
open Go.RowKit

end Go.Proofs.YtmbkpcnpacncjaaDoor

namespace Go.Proofs.YtmbkpcnpacncjaaDoor
open Go.RowKit


end Go.Proofs.YtmbkpcnpacncjaaDoor

namespace Go.Proofs.YtmbkpcnpacncjaaDoor
open Go.RowKit

end Go.Proofs.YtmbkpcnpacncjaaDoor

namespace Go.Proofs.YtmbkpcnpacncjaaDoor
open Go.RowKit

end Go.Proofs.YtmbkpcnpacncjaaDoor

namespace Go.Proofs.YtmbkpcnpacncjaaDoor
open Go.RowKit

end Go.Proofs.YtmbkpcnpacncjaaDoor

namespace Go.Proofs.YtmbkpcnpacncjaaDoor
open Go.RowKit

end Go.Proofs.YtmbkpcnpacncjaaDoor

namespace Go.Proofs.YtmbkpcnpacncjaaDoor
open Go.RowKit

theorem cROfV {W : World} {n : Int} {v : Value} (h : Vi n v W) (h1 : -9223372036854775808 ≤ n) (h2 : n ≤ 9223372036854775807) : Calls Tryd.prog 7 #[v] W (RV (Vz 3 n) W) := by
  obtain rfl := h
  exact cROf n h1 h2
end Go.Proofs.YtmbkpcnpacncjaaDoor
