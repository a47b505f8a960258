/-
  A head is got (fanlightlaw02.heads tells true), and a head told as the reference's (From). No condition.
-/
import Derived.Test.YtbnlpidhbilenaaPutY
import Derived.Test.YtbnlpidhbilenaaGet
namespace Go.Proofs.Ytbnlpidhbilenaa
open Go.RowKit Plain
set_option linter.unusedVariables false
set_option maxRecDepth 100000


def hL : List Int := frm 64 17 167772161 167772162 []
theorem hL_e : gtE hL = 0 := by decide
theorem hL_h : gtH hL = ⟨20, 20, 64, 17, 167772161, 167772162⟩ := by unfold gtH; rw [hL_e, if_pos rfl]; rfl

end Go.Proofs.Ytbnlpidhbilenaa
