/-
  Package place: Words, and the numbers that they are. Conditions stand in each theorem.
-/
import Derived.Test.YtpiobdbaljkkpaaCellsN
import Derived.Test.YtpiobdbaljkkpaaNums
import Derived.Laws.BitsAll
import Derived.Deep.QuietTactic
import Derived.BigQuiet
import Derived.RegionTactic
namespace Go.Proofs.Ytpiobdbaljkkpaa
open Go.RowKit Plain
set_option linter.unusedVariables false
set_option maxRecDepth 100000

/-- a Word -/
structure Wd where
  st : Int
  gn : Int
  tr : Int
  sn : Int
  deriving DecidableEq, Inhabited
def i64 (x : Int) : Prop := -9223372036854775808 ≤ x ∧ x ≤ 9223372036854775807
def Wd.ok (x : Wd) : Prop := i64 x.st ∧ i64 x.gn ∧ i64 x.tr ∧ i64 x.sn
def Wd.val (x : Wd) : Value := .agg #[.int .i64 x.st, .int .i64 x.gn, .int .i64 x.tr, .int .i64 x.sn]
def wi (n most : Int) : Bool := decide (0 ≤ n) && decide (n ≤ most)
def Wd.can (x : Wd) : Bool := wi x.st 3 && wi x.gn 65535 && wi x.tr 7 && wi x.sn 4294967295
def Wd.num (x : Wd) : Int := x.st + 256 * x.tr + 65536 * x.gn + 4294967296 * x.sn
def wdOf (n : Int) : Wd := ⟨n % 4, n / 65536 % 65536, n / 256 % 8, n / 4294967296⟩
theorem wi_iff (n most : Int) : wi n most = true ↔ 0 ≤ n ∧ n ≤ most := by unfold wi; simp
theorem can_iff (x : Wd) : x.can = true ↔ (0 ≤ x.st ∧ x.st ≤ 3) ∧ (0 ≤ x.gn ∧ x.gn ≤ 65535) ∧ (0 ≤ x.tr ∧ x.tr ≤ 7) ∧ (0 ≤ x.sn ∧ x.sn ≤ 4294967295) := by
  unfold Wd.can; simp only [Bool.and_eq_true, wi_iff, and_assoc]
theorem num_range (x : Wd) (h : x.can = true) : 0 ≤ x.num ∧ x.num < 18446744073709551616 := by
  rw [can_iff] at h; unfold Wd.num; omega
theorem wdOf_num (x : Wd) (h : x.can = true) : wdOf x.num = x := by
  rw [can_iff] at h
  obtain ⟨a, b, c, d⟩ := x
  simp only [wdOf, Wd.num, Wd.mk.injEq] at *
  omega
theorem num_inj (x y : Wd) (hx : x.can = true) (hy : y.can = true) (h : x.num = y.num) : x = y := by
  rw [← wdOf_num x hx, ← wdOf_num y hy, h]
theorem wdOf_can (n : Int) (h0 : 0 ≤ n) (h1 : n < 18446744073709551616) : (wdOf n).can = true := by
  rw [can_iff]; simp only [wdOf]; omega

theorem within_any (n most : Int) (w : World) : Calls Try.prog 66 #[.int .i64 n, .int .i64 most] w fun e w' => e = .returned (.bool (wi n most)) ∧ w' = w := by
  by_cases h0 : 0 ≤ n
  · have d0 : decide (0 ≤ n) = true := by simpa using h0
    have e0 : wi n most = decide (n ≤ most) := by unfold wi; rw [d0, Bool.true_and]
    rw [e0]
    go_enter Try.func66, Try.ntmps66
    go_wp2
    go_ret
    exact ⟨rfl, rfl⟩
  · have d0 : decide (0 ≤ n) = false := by simpa using h0
    have e0 : wi n most = false := by unfold wi; rw [d0, Bool.false_and]
    rw [e0]
    go_enter Try.func66, Try.ntmps66
    go_wp2
    go_ret
    exact ⟨rfl, rfl⟩

set_option maxHeartbeats 1000000 in
theorem canBe_any (x : Wd) (w : World) : Calls Try.prog 109 #[x.val] w fun e w' => e = .returned (.bool x.can) ∧ Below w.heap.size w w' := by
  obtain ⟨a, b, c, d⟩ := x
  rw [show (Wd.mk a b c d).val = .agg #[.int .i64 a, .int .i64 b, .int .i64 c, .int .i64 d] from rfl, show (Wd.mk a b c d).can = (wi a 3 && wi b 65535 && wi c 7 && wi d 4294967295) from rfl]
  have hA := within_any a 3
  have hB := within_any b 65535
  have hC := within_any c 7
  have hD := within_any d 4294967295
  generalize wi a 3 = p at *
  generalize wi b 65535 = q at *
  generalize wi c 7 = r at *
  generalize wi d 4294967295 = s at *
  have HA := Lib.hid hA
  have HB := Lib.hid hB
  have HC := Lib.hid hC
  have HD := Lib.hid hD
  clear hA hB hC hD
  go_enter Try.func109, Try.ntmps109
  go_wp2_with fail
  refine (HA.out _).mono ?_
  rintro e w1 ⟨rfl, rfl⟩
  cases p
  · go_wp2
    go_ret
    exact ⟨rfl, (Below.refl _ _).alloc (Nat.le_refl _) _⟩
  go_wp2_with fail
  refine (HB.out _).mono ?_
  rintro e w1 ⟨rfl, rfl⟩
  cases q
  · go_wp2
    go_ret
    exact ⟨rfl, (Below.refl _ _).alloc (Nat.le_refl _) _⟩
  go_wp2_with fail
  refine (HC.out _).mono ?_
  rintro e w1 ⟨rfl, rfl⟩
  cases r
  · go_wp2
    go_ret
    exact ⟨rfl, (Below.refl _ _).alloc (Nat.le_refl _) _⟩
  go_wp2_with fail
  refine (HD.out _).mono ?_
  rintro e w1 ⟨rfl, rfl⟩
  go_wp2
  go_ret
  exact ⟨rfl, (Below.refl _ _).alloc (Nat.le_refl _) _⟩
end Go.Proofs.Ytpiobdbaljkkpaa
