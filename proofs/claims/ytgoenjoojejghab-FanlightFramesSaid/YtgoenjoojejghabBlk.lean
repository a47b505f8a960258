/-
  How many cells the types of packets take. No condition.
-/
import Derived.Test.YtgoenjoojejghabSteps
namespace Go.Proofs.Ytgoenjoojejghab
open Go.RowKit Plain
set_option linter.unusedVariables false
set_option maxRecDepth 100000

theorem sPart : Sty 55 15 := ⟨⟨_, Try.underlying55, rfl⟩, by unfold Siz; kernel_rfl⟩
theorem sHead : Sty 51 6 := ⟨⟨_, Try.underlying51, rfl⟩, by unfold Siz; kernel_rfl⟩
theorem sRHead : Sty 29 6 := ⟨⟨_, Try.underlying29, rfl⟩, by unfold Siz; kernel_rfl⟩
theorem sRPart : Sty 33 15 := ⟨⟨_, Try.underlying33, rfl⟩, by unfold Siz; kernel_rfl⟩
theorem sInt : Siz 3 1 := by unfold Siz; kernel_rfl
theorem sBool : Siz 4 1 := by unfold Siz; kernel_rfl
theorem sU16 : Siz 23 1 := by unfold Siz; kernel_rfl
theorem sU32 : Siz 22 1 := by unfold Siz; kernel_rfl
end Go.Proofs.Ytgoenjoojejghab
