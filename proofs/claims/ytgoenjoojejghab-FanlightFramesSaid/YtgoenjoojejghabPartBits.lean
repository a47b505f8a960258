/-
  PartBits: its walk.
-/
import Derived.Test.YtgoenjoojejghabTurned
import Derived.Test.YtgoenjoojejghabPartBare
import Derived.Test.YtgoenjoojejghabCut
namespace Go.Proofs.Ytgoenjoojejghab
open Go.RowKit Plain
set_option linter.unusedVariables false
set_option linter.unusedSimpArgs false
set_option maxRecDepth 100000

theorem pick7 (K : Nat) (h : K < 7) : wrap64 ((IntKind.u64.wrap (K : Int)).tmod 7) = (K : Int) := by
  obtain rfl | rfl | rfl | rfl | rfl | rfl | rfl : K = 0 ∨ K = 1 ∨ K = 2 ∨ K = 3 ∨ K = 4 ∨ K = 5 ∨ K = 6 := by omega
  all_goals decide +kernel

end Go.Proofs.Ytgoenjoojejghab
