/-
  Package place: becomes, seenAgain, May. Conditions stand in each theorem.
-/
import Derived.Test.YtpiobdbaljkkpaaPlP
namespace Go.Proofs.Ytpiobdbaljkkpaa
open Go.RowKit Plain
set_option linter.unusedVariables false
set_option maxRecDepth 100000
set_option linter.unusedSimpArgs false

theorem b2all (w : World) (o p : Obj) : Below w.heap.size w ((w.alloc o).alloc p) := ((Below.refl _ _).alloc (Nat.le_refl _) _).alloc (by simp) _
set_option maxHeartbeats 1000000 in
theorem becomes_any (o x : Wd) (s : Int) (w : World) : Calls Try.prog 110 #[o.val, x.val, .int .i64 s] w fun e w' => e = .returned (.bool (decide (x = ⟨s, o.gn, o.tr, o.sn⟩))) ∧ Below w.heap.size w w' := by
  obtain ⟨a, b, c, d⟩ := o
  obtain ⟨p, q, r, t⟩ := x
  rw [Wd.v4, Wd.v4]
  go_enter Try.func110, Try.ntmps110
  go_wp2
  all_goals
    go_ret
    exact ⟨by simp [*], b2all w _ _⟩

def Wd.again (o x : Wd) : Bool := decide (x.st = 2) && decide (x.gn = o.gn) && decide (o.sn ≤ x.sn)
set_option maxHeartbeats 1000000 in
theorem seenAgain_any (o x : Wd) (w : World) : Calls Try.prog 111 #[o.val, x.val] w fun e w' => e = .returned (.bool (o.again x)) ∧ Below w.heap.size w w' := by
  obtain ⟨a, b, c, d⟩ := o
  obtain ⟨p, q, r, t⟩ := x
  rw [Wd.v4, Wd.v4]
  unfold Wd.again
  by_cases h1 : p = 2
  · by_cases h2 : q = b
    · by_cases h3 : d ≤ t
      · have x1 : decide (d ≤ t) = true := by simpa using h3
        subst h1 h2
        go_enter Try.func111, Try.ntmps111
        go_wp2
        go_ret
        exact ⟨by simp [x1], b2all w _ _⟩
      · have x1 : decide (d ≤ t) = false := by simpa using h3
        subst h1 h2
        go_enter Try.func111, Try.ntmps111
        go_wp2
        go_ret
        exact ⟨by simp [x1], b2all w _ _⟩
    · have x1 : (q == b) = false := by simpa using h2
      subst h1
      go_enter Try.func111, Try.ntmps111
      go_wp2
      go_ret
      exact ⟨by simp [h2], b2all w _ _⟩
  · have x1 : (p == 2) = false := by simpa using h1
    go_enter Try.func111, Try.ntmps111
    go_wp2
    go_ret
    exact ⟨by simp [h1], b2all w _ _⟩
end Go.Proofs.Ytpiobdbaljkkpaa
