/-
  The known text has its sum: fanlightlaw01.sums tells true. No condition.
-/
import Derived.Test.YtnaopekljknlaaaSum
import Derived.Test.YtnaopekljknlaaaWrap
namespace Go.Proofs.Ytnaopekljknlaaa
open Go.RowKit Plain
set_option linter.unusedVariables false

theorem sums_any (w : World) : Calls Try.prog 15 #[] w fun e w' => e = .returned (.bool true) ∧ Below w.heap.size w w' := by
  go_enter Try.func15, Try.ntmps15
  go_wp2_with fail
  refine (of_any _ 8 [0, 1, 242, 3, 244, 245, 246, 247] _ (by decide) (Rd.new w 5 _ (by unfold By; decide))).mono ?_
  rintro e w' ⟨rfl, q, rfl⟩
  rw [show (65535 - F (tot [0, 1, 242, 3, 244, 245, 246, 247]) : Int) = 8717 from by decide]
  go_wp2
  go_ret
  exact ⟨rfl, below_drewN ((Below.refl _ _).alloc (Nat.le_refl _) _) q⟩

/-- SumBack's walk -/
theorem sumBack_walk (s a b c : Int) (w : World) (s0 : 0 ≤ s) (s1 : s ≤ 65535) (a0 : 0 ≤ a) (a1 : a ≤ 65535) (b0 : 0 ≤ b) (b1 : b ≤ 65535) (c0 : 0 ≤ c) (c1 : c ≤ 65535) :
    Calls Try.prog 9 #[.int .u16 s, .agg #[.int .u16 a, .int .u16 b, .int .u16 c]] w fun e w' => e = .returned (.bool true) ∧ Below w.heap.size w w' := by
  have r1 := Fx_range s a b s0 s1 a0 a1 b0 b1
  have r2 := Fx_range s a c s0 s1 a0 a1 c0 c1
  have r3 := Fx_range (Fx s a b) b a r1.1 r1.2 b0 b1 a0 a1
  have r4 := Fx_range (Fx s a b) b c r1.1 r1.2 b0 b1 c0 c1
  have m1 : (Fx (Fx s a b) b a % 65535 == s % 65535) = true := by
    simp only [Fx, F, beq_iff_eq]; split <;> split <;> omega
  have m2 : (Fx (Fx s a b) b c % 65535 == Fx s a c % 65535) = true := by
    simp only [Fx, F, beq_iff_eq]; split <;> split <;> split <;> omega
  go_enter Try.func9, Try.ntmps9
  go_wp2
  go_quiet (fail)
  go_wp2_with fail
  refine (fix_fx s a b _ s0 s1 a0 a1 b0 b1).mono ?_
  rintro e w' ⟨rfl, rfl⟩
  go_wp2_with fail
  refine (fix_fx _ b a _ r1.1 r1.2 b0 b1 a0 a1).mono ?_
  rintro e w' ⟨rfl, rfl⟩
  go_wp2_with fail
  refine (fix_fx s a b _ s0 s1 a0 a1 b0 b1).mono ?_
  rintro e w' ⟨rfl, rfl⟩
  go_wp2_with fail
  refine (fix_fx _ b c _ r1.1 r1.2 b0 b1 c0 c1).mono ?_
  rintro e w' ⟨rfl, rfl⟩
  go_wp2_with fail
  refine (fix_fx s a c _ s0 s1 a0 a1 c0 c1).mono ?_
  rintro e w' ⟨rfl, rfl⟩
  go_wp2_with fail
  refine (sums_any _).mono ?_
  rintro e w' ⟨rfl, hb⟩
  go_wp2
  go_ret
  exact ⟨rfl, (below_drewN ((Below.refl _ _).alloc (Nat.le_refl _) _) nq).trans (hb.mono (by simp))⟩
end Go.Proofs.Ytnaopekljknlaaa
