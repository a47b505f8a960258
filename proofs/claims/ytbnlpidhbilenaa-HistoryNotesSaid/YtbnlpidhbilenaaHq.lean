/-
  HistoryNotes: of none nothing is told. Conditions stand in each theorem.
-/
import Derived.Test.YtbnlpidhbilenaaH9
namespace Go.Proofs.Ytbnlpidhbilenaa
open Go.RowKit Plain
set_option linter.unusedVariables false
set_option linter.unusedSimpArgs false
set_option maxRecDepth 100000
set_option maxHeartbeats 1000000 in
theorem none_any (w : World) : Calls Try.prog 10 #[] w fun e w' => e = .returned (.pointer none) ∧ w = w' := by
  go_enter Try.func10, Try.ntmps10
  go_wp2
  go_ret
  exact ⟨rfl, rfl⟩
set_option maxHeartbeats 1000000 in
theorem begin_nil (out : Bool) (fA : Option Addr) (fn fc : Nat) (tick port : Int) (w : World) : Calls Try.prog 11 #[.pointer none, .agg #[.bool out, .slice fA fn fc, .int .i64 tick, .int .i64 port]] w fun e w' => e = .returned (.int .i64 (-1)) ∧ Below w.heap.size w w' := by
  go_enter Try.func11, Try.ntmps11
  go_wp2
  go_ret
  exact ⟨rfl, ball _ _⟩
set_option maxHeartbeats 1000000 in
theorem end_nil (i : Int) (A : Option Addr) (n c : Nat) (err : Int) (w : World) : Calls Try.prog 12 #[.pointer none, .int .i64 i, .agg #[.slice A n c, .int .i64 err]] w fun e w' => e = .returned (.int .i64 1) ∧ Below w.heap.size w w' := by
  go_enter Try.func12, Try.ntmps12
  go_wp2
  go_ret
  exact ⟨rfl, ball _ _⟩
set_option maxHeartbeats 1000000 in
theorem ended_nil (a b c d : Int) (w : World) : Calls Try.prog 13 #[.pointer none, .int .i64 a, .int .i64 b, .int .i64 c, .int .i64 d] w fun e w' => e = .returned (.int .i64 (-1)) ∧ w = w' := by
  go_enter Try.func13, Try.ntmps13
  go_wp2
  go_ret
  exact ⟨rfl, rfl⟩
set_option maxHeartbeats 1000000 in
theorem now_nil (w : World) : Calls Try.prog 14 #[.pointer none] w fun e w' => e = .returned (.int .i64 0) ∧ w = w' := by
  go_enter Try.func14, Try.ntmps14
  go_wp2
  go_ret
  exact ⟨rfl, rfl⟩
set_option maxHeartbeats 1000000 in
theorem all_nil (w : World) : Calls Try.prog 15 #[.pointer none] w fun e w' => e = .returned (.slice none 0 0) ∧ w = w' := by
  go_enter Try.func15, Try.ntmps15
  go_wp2
  go_ret
  exact ⟨rfl, rfl⟩
end Go.Proofs.Ytbnlpidhbilenaa
