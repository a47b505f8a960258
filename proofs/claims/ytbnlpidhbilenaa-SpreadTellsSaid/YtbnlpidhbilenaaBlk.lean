/-
  How many cells the types of packets take. No condition.
-/
import Derived.Test.YtbnlpidhbilenaaSteps
namespace Go.Proofs.Ytbnlpidhbilenaa
open Go.RowKit Plain
set_option linter.unusedVariables false
set_option maxRecDepth 100000

theorem sPart : Sty 107 15 := ⟨⟨_, Try.underlying107, rfl⟩, by unfold Siz; kernel_rfl⟩
theorem sHead : Sty 103 6 := ⟨⟨_, Try.underlying103, rfl⟩, by unfold Siz; kernel_rfl⟩
theorem sRHead : Sty 84 6 := ⟨⟨_, Try.underlying84, rfl⟩, by unfold Siz; kernel_rfl⟩
theorem sRPart : Sty 112 15 := ⟨⟨_, Try.underlying112, rfl⟩, by unfold Siz; kernel_rfl⟩
theorem sInt : Siz 3 1 := by unfold Siz; kernel_rfl
theorem sBool : Siz 4 1 := by unfold Siz; kernel_rfl
theorem sU16 : Siz 65 1 := by unfold Siz; kernel_rfl
theorem sU32 : Siz 64 1 := by unfold Siz; kernel_rfl
end Go.Proofs.Ytbnlpidhbilenaa
