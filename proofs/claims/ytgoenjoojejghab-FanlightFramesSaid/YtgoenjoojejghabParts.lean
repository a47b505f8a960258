/-
  An echo is laid, and got (fanlightlaw03.parts tells true). No condition.
-/
import Derived.Test.YtgoenjoojejghabBehind
import Derived.Test.YtgoenjoojejghabCut
namespace Go.Proofs.Ytgoenjoojejghab
open Go.RowKit Plain
set_option linter.unusedVariables false
set_option linter.unusedSimpArgs false
set_option maxRecDepth 100000

def eL : List Int := [8, 0, 247, 250, 0, 5, 0, 0]
theorem eL_eq : ecL 8 5 [] = eL := by decide +kernel
def fL : List Int := List.replicate 20 0 ++ eL
theorem fL_e : pgE ⟨20, 28, 0, 1, 0, 0⟩ fL = 0 := by decide +kernel
theorem fL_p : (pgP ⟨20, 28, 0, 1, 0, 0⟩ fL).val = .agg #[.int .i64 1, .int .u16 5, .int .u16 5, .int .i64 0, .int .i64 8, .int .i64 0, .bool false, .int .i64 0, .int .i64 0, .int .i64 0, .int .i64 0, .int .u32 0, .int .u32 0, .int .i64 0, .bool false] := by
  have h : icE (bodyOf ⟨20, 28, 0, 1, 0, 0⟩ fL) = 0 := by decide +kernel
  have e : pgP ⟨20, 28, 0, 1, 0, 0⟩ fL = icP 20 (bodyOf ⟨20, 28, 0, 1, 0, 0⟩ fL) := by unfold pgP; rw [if_neg (by decide +kernel), if_neg (by decide), if_neg (by decide), if_pos rfl]
  rw [e]
  unfold icP
  rw [if_pos h, if_pos (by decide +kernel)]
  rfl
theorem eL_by : By eL := by unfold By eL; decide

end Go.Proofs.Ytgoenjoojejghab
