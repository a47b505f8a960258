/-
  A call on a list of numbers, as the document answers it (fanlightref05.Do), and the same on cells. Conditions stand in each theorem.
-/
import Derived.Test.YtgengboaoniogaaCellsC
import Derived.Test.YtgengboaoniogaaStructs
namespace Go.Proofs.Ytgengboaoniogaa
open Go.RowKit Plain
set_option linter.unusedVariables false
set_option maxRecDepth 100000

/-- what a call tells, and what the list is then: 0 Load, 1 Store, 2 Cas, 3 Add -/
def opG (l : List Int) (k : Nat) (i : Nat) (a : Int) : Int :=
  match k with
  | 0 => l.getD i 0
  | 2 => if l.getD i 0 = a then 1 else 0
  | 3 => m64 (l.getD i 0 + a)
  | _ => 0
def opL (l : List Int) (k : Nat) (i : Nat) (a b : Int) : List Int :=
  match k with
  | 1 => l.set i a
  | 2 => if l.getD i 0 = a then l.set i b else l
  | 3 => l.set i (m64 (l.getD i 0 + a))
  | _ => l
theorem opL_length (l : List Int) (k i : Nat) (a b : Int) : (opL l k i a b).length = l.length := by
  unfold opL; split <;> (try split) <;> simp

end Go.Proofs.Ytgengboaoniogaa
