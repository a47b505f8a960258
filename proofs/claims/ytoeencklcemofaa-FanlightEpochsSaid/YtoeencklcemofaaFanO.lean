/-
  FanlightEpochs: the walk with its rounds. Conditions stand in each theorem.
-/
import Derived.Test.YtoeencklcemofaaFanB
import Derived.Test.YtoeencklcemofaaFanE
import Derived.Test.YtoeencklcemofaaStands
namespace Go.Proofs.Ytoeencklcemofaa
open Go.RowKit Go.Deep Plain
set_option linter.unusedVariables false
set_option maxRecDepth 1000000

theorem fanlightEpochs_all (n0 : Int) (A : Option Addr) (nr c : Nat) (zs : List Int) (w : World) (hzl : zs.length = nr) (hnc : nr ≤ c) (hm : c ≤ maxLen) (hR : RdN .i64 w A zs) :
    Calls Try.prog 14 #[.int .i64 n0, .slice A nr c] w fun e w' => e = .returned (.bool true) ∧ Below w.heap.size w w' :=
  fanlightEpochs_walk n0 A nr c zs w hzl hnc hm hR stands_any (by
    intro ge gc gn gg kc kn gl ga gb bt bv n c0 c2 c3 c7 c9 c22 c23 c24 c25 c26 c27 c28 c29 c30 c31 c32 c33 c34 c35 c36 c37 c38 c39 c40 c41 c42 c43 c44 c45 c46 c47 c48 c49 c244 c245 c246 c247 c248 c249 c250 c251 h
    exact fane_body w ge gc gn gg kc kn gl ga gb bt bv n nr c A c0 c2 c3 c7 c9 c22 c23 c24 c25 c26 c27 c28 c29 c30 c31 c32 c33 c34 c35 c36 c37 c38 c39 c40 c41 c42 c43 c44 c45 c46 c47 c48 c49 c244 c245 c246 c247 c248 c249 c250 c251 zs hzl h hnc (by unfold maxLen at hm; omega) hR)
end Go.Proofs.Ytoeencklcemofaa
