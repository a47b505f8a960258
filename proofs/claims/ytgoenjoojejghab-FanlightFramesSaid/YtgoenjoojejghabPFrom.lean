/-
  Contract of fanlightlaw03.From: a part told as the reference's. No condition.
-/
import Derived.Test.YtgoenjoojejghabPGet
import Derived.Test.YtgoenjoojejghabHeads
import Derived.Deep.RegionHeld3
namespace Go.Proofs.Ytgoenjoojejghab
open Go.RowKit Plain
set_option linter.unusedVariables false
set_option linter.unusedSimpArgs false
set_option maxRecDepth 100000

end Go.Proofs.Ytgoenjoojejghab
