/-
  Contracts of part.behind and part.Echo. Conditions stand in each theorem.
-/
import Derived.Test.YtbnlpidhbilenaaPGet
import Derived.Test.YtbnlpidhbilenaaPutY
import Derived.StillTailTactics
import Derived.Deep.DeepCutAuto
namespace Go.Proofs.Ytbnlpidhbilenaa
open Go.RowKit Plain
set_option linter.unusedVariables false
set_option maxRecDepth 100000

/-- so many noughts, and at most 1400 bytes behind them -/
def bh (s : Nat) (ys : List Int) : List Int := List.replicate s 0 ++ ys.take 1400


def ecL (k id : Int) (ys : List Int) : List Int := P16 (P16 ((bh 8 ys).set 0 k) 4 id) 2 (Cs (P16 ((bh 8 ys).set 0 k) 4 id))

theorem bh_len (s : Nat) (ys : List Int) (n u : Nat) (hn : ys.length = n) (hu : u = min n 1400) : (bh s ys).length = s + u := by
  unfold bh; rw [List.length_append, List.length_replicate, List.length_take, hn, hu]; omega

end Go.Proofs.Ytbnlpidhbilenaa
