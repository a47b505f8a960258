/-
  Package pool: the lowest free numbers of a word. Conditions stand in each theorem.
-/
import Derived.Test.YtmbceafeonjffaaPoR
import Derived.LoopTactic
namespace Go.Proofs.Ytmbceafeonjffaa
open Go.RowKit Plain
set_option linter.unusedVariables false
set_option linter.unusedSimpArgs false
set_option maxRecDepth 100000
theorem bits_and32 (x y : Nat) (hx : x < 4294967296) (hy : y < 4294967296) : bits .and .u32 (x : Int) (y : Int) = ((x &&& y : Nat) : Int) := by
  have hX : (BitVec.ofInt 32 (x : Int)).toNat = x := by simp; omega
  have hY : (BitVec.ofInt 32 (y : Int)).toNat = y := by simp; omega
  have h : x &&& y ≤ x := Nat.and_le_left
  show IntKind.u32.wrap ((BitVec.ofInt 32 (x : Int) &&& BitVec.ofInt 32 (y : Int)).toNat : Nat) = _
  rw [BitVec.toNat_and, hX, hY, IntKind.wrap_u32]
  omega
theorem bits_andNot32 (x y : Nat) (hx : x < 4294967296) (hy : y < 4294967296) : bits .andNot .u32 (x : Int) (y : Int) = ((x &&& (4294967295 - y) : Nat) : Int) := by
  have hX : (BitVec.ofInt 32 (x : Int)).toNat = x := by simp; omega
  have hY : (BitVec.ofInt 32 (y : Int)).toNat = y := by simp; omega
  have h : x &&& (4294967295 - y) ≤ x := Nat.and_le_left
  show IntKind.u32.wrap ((BitVec.ofInt 32 (x : Int) &&& ~~~ BitVec.ofInt 32 (y : Int)).toNat : Nat) = _
  rw [BitVec.toNat_and, BitVec.toNat_not, hX, hY, IntKind.wrap_u32, show 2 ^ 32 - 1 - y = 4294967295 - y from rfl]
  omega
theorem restN_lt (s : Nat) (h : s < 4294967296) : ∀ k, restN s k < 4294967296
  | 0 => h
  | k + 1 => Nat.lt_of_le_of_lt Nat.and_le_left (restN_lt s h k)
set_option maxHeartbeats 2000000 in
theorem lowest_any (s m : Nat) (w : World) (hs : s < 4294967296) (hm : m ≤ 100) :
    Calls Try.prog 64 #[.int .u32 s, .int .i64 m] w fun e w' => e = .returned (.int .u32 (lowF s m)) ∧ w = w' := by
  have HS := Lib.hid hs
  go_enter Try.func64, Try.ntmps64
  go_wp2
  go_loop [5, 8] (fun r i => ∃ k : Nat, k ≤ m ∧ i = .int .i64 k ∧ r = .int .u32 (restN s k)) (fun _ i => m - (intOf i).toNat)
  case atStart => exact ⟨0, Nat.zero_le _, rfl, rfl⟩
  case round =>
    obtain ⟨k, hk, rfl, rfl⟩ := hrel
    have hr := restN_lt s hs k
    obtain ⟨r, hrr⟩ : ∃ r, restN s k = r := ⟨_, rfl⟩
    rw [hrr] at hr
    have HB := Lib.hid (show bits .and .u32 (r : Int) (((r + 4294967295) % 4294967296 : Nat) : Int) = (restN s (k + 1) : Int) by
      rw [bits_and32 _ _ hr (Nat.mod_lt _ (by decide)), ← hrr]; rfl)
    have HW := Lib.hid (show ((r : Int) - 1) % 4294967296 = (((r + 4294967295) % 4294967296 : Nat) : Int) by omega)
    have HA := Lib.hid (show bits .andNot .u32 (s : Int) (r : Int) = ((s &&& (4294967295 - r) : Nat) : Int) from bits_andNot32 s r hs hr)
    have HRR := Lib.hid hrr
    rw [hrr]
    clear hrr
    by_cases hlt : k < m
    · have d : decide ((k : Int) < (m : Int)) = true := decide_eq_true (by omega)
      go_wp2
      go_round
      case rel => exact ⟨k + 1, by omega, by go_num, by rw [HW.out, HB.out]⟩
      case measure => simp [intOf]; omega
    · have d : decide ((k : Int) < (m : Int)) = false := decide_eq_false (by omega)
      obtain rfl : k = m := by omega
      go_wp2
      go_ret
      refine ⟨retP ?_, rfl⟩
      rw [HA.out, ← HRR.out]
      unfold lowF
      simp
end Go.Proofs.Ytmbceafeonjffaa
