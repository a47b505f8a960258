/-
  Cells stay when their blocks are not written. Conditions stand in the theorem.
-/
import Derived.Test.YtmbceafeonjffaaKeep
import Derived.Test.YtmbceafeonjffaaCellsN
import Derived.RegionTactic
import Derived.BigRegion
import Derived.Deep.QuietTactic
import Derived.BigQuiet
import Derived.Deep.DeepCutAuto
namespace Go.Proofs.Ytmbceafeonjffaa
open Go.RowKit Plain
set_option linter.unusedVariables false
set_option maxRecDepth 100000

theorem Cl.keep {bs : List Nat} {w w' : World} {gc gn n : Nat} {l : List Int} (h : Cl w gc gn n l) (hk : Keep bs w w') (h1 : gc ∉ bs) (h2 : gn ∉ bs) : Cl w' gc gn n l := ⟨h.len, hk.blk h.st h1, hk.blk h.nu h2, h.ne, h.rg⟩
end Go.Proofs.Ytmbceafeonjffaa
