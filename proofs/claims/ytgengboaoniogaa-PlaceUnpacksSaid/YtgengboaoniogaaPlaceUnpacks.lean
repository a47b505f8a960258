/-
  PlaceUnpacks: its walk.
-/
import Derived.Test.YtgengboaoniogaaPlacePacks
namespace Go.Proofs.Ytgengboaoniogaa
open Go.RowKit Plain
set_option linter.unusedVariables false
set_option maxRecDepth 100000
set_option linter.unusedSimpArgs false

theorem mask_nat (n : Nat) (h : n < 2 ^ 64) : n &&& 18446744073709487875 = 2 ^ 16 * (n / 2 ^ 16) + (2 ^ 8 * (n / 2 ^ 8 % 2 ^ 3) + n % 2 ^ 2) := by
  have hM : 18446744073709487875 = 2 ^ 16 * (2 ^ 48 - 1) + (2 ^ 8 * (2 ^ 3 - 1) + (2 ^ 2 - 1)) := by decide
  rw [hM]
  apply Nat.eq_of_testBit_eq
  intro j
  have e1 : 2 ^ 8 * (2 ^ 3 - 1) + (2 ^ 2 - 1) < 2 ^ 16 := by decide
  have e2 : (2 ^ 2 - 1) < 2 ^ 8 := by decide
  have e3 : n % 2 ^ 2 < 2 ^ 8 := by omega
  have e4 : 2 ^ 8 * (n / 2 ^ 8 % 2 ^ 3) + n % 2 ^ 2 < 2 ^ 16 := by omega
  rw [Nat.testBit_and, Nat.testBit_two_pow_mul_add _ e1, Nat.testBit_two_pow_mul_add _ e2, Nat.testBit_two_pow_mul_add _ e4, Nat.testBit_two_pow_mul_add _ e3]
  by_cases h16 : j < 16
  · rw [if_pos h16, if_pos h16]
    by_cases h8 : j < 8
    · rw [if_pos h8, if_pos h8, Nat.testBit_two_pow_sub_one, Nat.testBit_mod_two_pow, Bool.and_comm]
    · rw [if_neg h8, if_neg h8, Nat.testBit_two_pow_sub_one, Nat.testBit_mod_two_pow, Nat.testBit_div_two_pow, Bool.and_comm, show j - 8 + 8 = j by omega]
  · rw [if_neg h16, if_neg h16, Nat.testBit_two_pow_sub_one, Nat.testBit_div_two_pow, show j - 16 + 16 = j by omega]
    by_cases h64 : j < 64
    · rw [show decide (j - 16 < 48) = true by simp; omega, Bool.and_true]
    · rw [Nat.testBit_lt_two_pow (Nat.lt_of_lt_of_le h (Nat.pow_le_pow_right (by decide) (by omega))), Bool.false_and]
theorem mask_num (n : Int) (h0 : 0 ≤ n) (h1 : n < 18446744073709551616) : bits .and .u64 n 18446744073709487875 = n % 4 + 256 * (n / 256 % 8) + 65536 * (n / 65536) := by
  have e : bits .and .u64 n 18446744073709487875 = ((n.toNat &&& 18446744073709487875 : Nat) : Int) := by go_bits2
  rw [e, mask_nat n.toNat (by omega)]
  omega

set_option maxHeartbeats 4000000 in
theorem placeUnpacks_walk (n : Int) (w : World) (h0 : 0 ≤ n) (h1 : n < 18446744073709551616) : Calls Try.prog 6 #[.int .u64 n] w fun e w' => e = .returned (.bool true) ∧ Below w.heap.size w w' := by
  have HU := Lib.hid (unpack_any n h0 h1)
  have HR := Lib.hid (runpack_any n h0 h1)
  have HP := Lib.hid (pack_any (wdOf n))
  have HF := Lib.hid (wfrom_any (wdOf n))
  have hc := wdOf_can n h0 h1
  have hm : bits .and .u64 n 18446744073709487875 = (wdOf n).num := by
    rw [mask_num n h0 h1]; simp only [Wd.num, wdOf]; omega
  simp only [hc, if_true] at HP
  generalize (wdOf n).num = m at *
  generalize wdOf n = x at *
  obtain ⟨a, b, c, d⟩ := x
  simp only [Wd.v4] at HU HR HP HF ⊢
  clear hc
  go_enter Try.func6, Try.ntmps6
  go_wp2_with fail
  refine (HU.out _).mono ?_
  rintro e w1 ⟨rfl, hb⟩
  have HB := Lib.hid hb
  clear hb HU
  go_wp2_with fail
  refine (HP.out _).mono ?_
  rintro e w2 ⟨rfl, hb⟩
  have b3 := Lib.hid ((Blk.new w1 51 #[.int .i64 a, .int .i64 b, .int .i64 c, .int .i64 d]).below hb)
  have HB2 := Lib.hid (bthen HB.out (bthen (ball w1 _) hb))
  clear hb HP HB
  go_wp2_with fail
  refine (moves_any _).mono ?_
  rintro e w3 ⟨rfl, hb⟩
  obtain ⟨k0, k1, k2, k3⟩ := (b3.out.below hb).c4
  have HB3 := Lib.hid (bthen HB2.out hb)
  clear hb HB2 b3
  go_wp2_with fail
  refine (HF.out _).mono ?_
  rintro e w4 ⟨rfl, hb⟩
  have HB4 := Lib.hid (bthen HB3.out hb)
  clear hb HB3 k0 k1 k2 k3
  go_wp2_with fail
  refine (HR.out _).mono ?_
  rintro e w5 ⟨rfl, hb⟩
  have HB5 := Lib.hid (bthen HB4.out hb)
  clear hb HB4
  go_wp2
  go_ret
  exact ⟨rfl, HB5.out⟩
end Go.Proofs.Ytgengboaoniogaa
