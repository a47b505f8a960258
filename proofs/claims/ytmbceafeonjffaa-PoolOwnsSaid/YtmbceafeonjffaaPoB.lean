/-
  Package pool: words and their changes, as numbers. Plain; conditions stand in each theorem.
-/
import Derived.Test.YtmbceafeonjffaaBase
import Derived.Laws.Entries
namespace Go.Proofs.Ytmbceafeonjffaa
open Go.RowKit Plain
set_option linter.unusedVariables false
theorem bits_or64 (x y : Nat) (hx : x < 18446744073709551616) (hy : y < 18446744073709551616) : bits .or .u64 (x : Int) (y : Int) = ((x ||| y : Nat) : Int) := by
  have hX : (BitVec.ofInt 64 (x : Int)).toNat = x := by simp; omega
  have hY : (BitVec.ofInt 64 (y : Int)).toNat = y := by simp; omega
  have h : x ||| y < 2 ^ 64 := Nat.or_lt_two_pow hx hy
  show IntKind.u64.wrap ((BitVec.ofInt 64 (x : Int) ||| BitVec.ofInt 64 (y : Int)).toNat : Nat) = _
  rw [BitVec.toNat_or, hX, hY, IntKind.wrap_u64]
  omega
theorem bits_and64 (x y : Nat) (hx : x < 18446744073709551616) (hy : y < 18446744073709551616) : bits .and .u64 (x : Int) (y : Int) = ((x &&& y : Nat) : Int) := by
  have hX : (BitVec.ofInt 64 (x : Int)).toNat = x := by simp; omega
  have hY : (BitVec.ofInt 64 (y : Int)).toNat = y := by simp; omega
  have h : x &&& y ≤ x := Nat.and_le_left
  show IntKind.u64.wrap ((BitVec.ofInt 64 (x : Int) &&& BitVec.ofInt 64 (y : Int)).toNat : Nat) = _
  rw [BitVec.toNat_and, hX, hY, IntKind.wrap_u64]
  omega
/-- x without y -/
def anot (x y : Nat) : Nat := x &&& (18446744073709551615 - y)
theorem bits_andNot64 (x y : Nat) (hx : x < 18446744073709551616) (hy : y < 18446744073709551616) : bits .andNot .u64 (x : Int) (y : Int) = ((anot x y : Nat) : Int) := by
  have hX : (BitVec.ofInt 64 (x : Int)).toNat = x := by simp; omega
  have hY : (BitVec.ofInt 64 (y : Int)).toNat = y := by simp; omega
  have h : x &&& (18446744073709551615 - y) ≤ x := Nat.and_le_left
  unfold anot
  show IntKind.u64.wrap ((BitVec.ofInt 64 (x : Int) &&& ~~~ BitVec.ofInt 64 (y : Int)).toNat : Nat) = _
  rw [BitVec.toNat_and, BitVec.toNat_not, hX, hY, IntKind.wrap_u64]
  rw [show 2 ^ 64 - 1 - y = 18446744073709551615 - y from rfl]
  omega
theorem or_high (x y : Nat) (hy : y < 4294967296) : (x ||| y) / 4294967296 = x / 4294967296 := by
  have e : ∀ z, z / 4294967296 = z >>> 32 := fun z => by rw [Nat.shiftRight_eq_div_pow]
  rw [e, e, Nat.shiftRight_or_distrib, show y >>> 32 = 0 by rw [← e]; omega, Nat.or_zero]
theorem anot_high (x y : Nat) (hx : x < 18446744073709551616) (hy : y < 4294967296) : anot x y / 4294967296 = x / 4294967296 := by
  have e : ∀ z, z / 4294967296 = z >>> 32 := fun z => by rw [Nat.shiftRight_eq_div_pow]
  unfold anot
  rw [e, e, Nat.shiftRight_and_distrib, show (18446744073709551615 - y) >>> 32 = 2 ^ 32 - 1 by rw [← e]; omega, Nat.and_two_pow_sub_one_eq_mod, Nat.mod_eq_of_lt (by rw [← e]; omega)]
/-- a word whose numbers are taken is another one -/
theorem took_ne (x y : Nat) (hx : x < 18446744073709551616) (hy : y < 4294967296) : ((x ||| y) + 4294967296) % 18446744073709551616 ≠ x := by
  have h := or_high x y hy
  have h2 : x ||| y < 18446744073709551616 := Nat.or_lt_two_pow (n := 64) hx (by omega)
  omega
/-- a word whose numbers come back is another one -/
theorem gave_ne (x y : Nat) (hx : x < 18446744073709551616) (hy : y < 4294967296) : (anot x y + 4294967296) % 18446744073709551616 ≠ x := by
  have h := anot_high x y hx hy
  have h2 : anot x y ≤ x := Nat.and_le_left
  omega
end Go.Proofs.Ytmbceafeonjffaa
