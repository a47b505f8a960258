/-
  Package pool: numbers as bits of words: what a Take, and a Back, make of them. Plain; conditions stand in each theorem.
-/
import Derived.Test.YtmbceafeonjffaaPoN
namespace Go.Proofs.Ytmbceafeonjffaa
open Go.RowKit Plain
set_option linter.unusedVariables false
theorem bit_low (x y i : Nat) (hi : i < 32) (h : x % 4294967296 = y % 4294967296) : x.testBit i = y.testBit i := by
  have e : ∀ z : Nat, z.testBit i = (z % 2 ^ 32).testBit i := fun z => by rw [Nat.testBit_mod_two_pow]; simp [hi]
  rw [e x, e y, show (2 : Nat) ^ 32 = 4294967296 from rfl, h]
theorem took_bit (w s : Int) (i : Nat) (hi : i < 32) : (tookW w s).toNat.testBit i = (w.toNat.testBit i || s.toNat.testBit i) := by
  unfold tookW
  rw [Int.toNat_natCast, ← Nat.testBit_or]
  exact bit_low _ _ i hi (by omega)
theorem anot_bit (x y i : Nat) (hi : i < 32) (hy : y < 18446744073709551616) : (anot x y).testBit i = (x.testBit i && !y.testBit i) := by
  unfold anot
  rw [Nat.testBit_and, show 18446744073709551615 - y = 2 ^ 64 - (y + 1) by omega, Nat.testBit_two_pow_sub_succ hy]
  simp [show i < 64 by omega]
theorem gave_bit (w s : Int) (i : Nat) (hi : i < 32) (hs : s < 18446744073709551616) : (gaveW w s).toNat.testBit i = (w.toNat.testBit i && !s.toNat.testBit i) := by
  unfold gaveW
  rw [Int.toNat_natCast, ← anot_bit _ _ i hi (by omega)]
  exact bit_low _ _ i hi (by omega)
/-- what is free in a word -/
theorem free_bit (w : Int) (h0 : 0 ≤ w) (i : Nat) (hi : i < 32) : (freeF w).toNat.testBit i = !w.toNat.testBit i := by
  obtain ⟨x, rfl⟩ : ∃ x : Nat, w = x := ⟨w.toNat, by omega⟩
  unfold freeF
  rw [Int.toNat_natCast, show (4294967295 - (x : Int) % 4294967296).toNat = 2 ^ 32 - (x % 2 ^ 32 + 1) by omega, Nat.testBit_two_pow_sub_succ (Nat.mod_lt _ (by decide)), Nat.testBit_mod_two_pow]
  simp [hi]
theorem full_bit (w : Int) (h0 : 0 ≤ w) : freeF w = 0 ↔ ∀ i, i < 32 → w.toNat.testBit i = true := by
  constructor
  · intro h i hi
    have := free_bit w h0 i hi
    rw [h] at this
    simpa using this
  · intro h
    have hz : (freeF w).toNat = 0 := by
      refine Nat.eq_of_testBit_eq fun i => ?_
      rw [Nat.zero_testBit]
      by_cases hi : i < 32
      · rw [free_bit w h0 i hi, h i hi]; rfl
      · refine Nat.testBit_lt_two_pow (Nat.lt_of_lt_of_le (m := 2 ^ 32) ?_ (Nat.pow_le_pow_right (by decide) (by omega)))
        unfold freeF
        omega
    unfold freeF at *
    omega
/-- what is taken was free -/
theorem low_bit (s : Int) (m i : Nat) (h : (lowF s m).toNat.testBit i = true) : s.toNat.testBit i = true := by
  unfold lowF at h
  rw [Int.toNat_natCast, Nat.testBit_and, Bool.and_eq_true] at h
  exact h.1
/-- a number is taken -/
def tkn (l : List Int) (x : Nat) : Bool := (l.getD (x / 32) 0).toNat.testBit (x % 32)
theorem tkn_set (l : List Int) (k : Nat) (v : Int) (x : Nat) (hk : k < l.length) : tkn (l.set k v) x = if x / 32 = k then v.toNat.testBit (x % 32) else tkn l x := by
  unfold tkn
  by_cases e : x / 32 = k
  · rw [if_pos e, e]; simp [List.getD, hk]
  · rw [if_neg e]; simp [List.getD, List.getElem?_set_ne (fun q => e q.symm)]
/-- a Take that wins -/
theorem tkn_took (l : List Int) (k : Nat) (s : Int) (x : Nat) (hk : k < l.length) : tkn (l.set k (tookW (l.getD k 0) s)) x = (tkn l x || (decide (x / 32 = k) && s.toNat.testBit (x % 32))) := by
  rw [tkn_set _ _ _ _ hk]
  by_cases e : x / 32 = k
  · rw [if_pos e, took_bit _ _ _ (Nat.mod_lt _ (by decide))]; unfold tkn; simp [e]
  · rw [if_neg e]; simp [e]
/-- a Back of one word's numbers -/
theorem tkn_gave (l : List Int) (k : Nat) (s : Int) (x : Nat) (hk : k < l.length) (hs : s < 18446744073709551616) : tkn (l.set k (gaveW (l.getD k 0) s)) x = (tkn l x && !(decide (x / 32 = k) && s.toNat.testBit (x % 32))) := by
  rw [tkn_set _ _ _ _ hk]
  by_cases e : x / 32 = k
  · rw [if_pos e, gave_bit _ _ _ (Nat.mod_lt _ (by decide)) hs]; unfold tkn; simp [e]
  · rw [if_neg e]; simp [e]
end Go.Proofs.Ytmbceafeonjffaa
