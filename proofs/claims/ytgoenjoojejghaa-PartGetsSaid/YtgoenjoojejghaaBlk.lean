/-
  How many cells the types of packets take. No condition.
-/
import Derived.Test.YtgoenjoojejghaaSteps
namespace Go.Proofs.Ytgoenjoojejghaa
open Go.RowKit Plain
set_option linter.unusedVariables false
set_option maxRecDepth 100000

theorem sPart : Sty 38 15 := ⟨⟨_, Try.underlying38, rfl⟩, by unfold Siz; kernel_rfl⟩
theorem sHead : Sty 33 6 := ⟨⟨_, Try.underlying33, rfl⟩, by unfold Siz; kernel_rfl⟩
theorem sRHead : Sty 41 6 := ⟨⟨_, Try.underlying41, rfl⟩, by unfold Siz; kernel_rfl⟩
theorem sRPart : Sty 43 15 := ⟨⟨_, Try.underlying43, rfl⟩, by unfold Siz; kernel_rfl⟩
theorem sInt : Siz 3 1 := by unfold Siz; kernel_rfl
theorem sBool : Siz 4 1 := by unfold Siz; kernel_rfl
theorem sU16 : Siz 23 1 := by unfold Siz; kernel_rfl
theorem sU32 : Siz 22 1 := by unfold Siz; kernel_rfl
end Go.Proofs.Ytgoenjoojejghaa
