/-
  Small runs that laws share: bytes as a string; a number picked below a bound; one bit turned. Conditions stand in each theorem.
-/
import Derived.Test.YtoeencklcemofaaPkB
import Derived.Laws.BytesArg
import Derived.Deep.RegionHeld3
import Derived.Deep.DeepCutAuto
import Derived.RegionTactic
namespace Go.Proofs.Ytoeencklcemofaa
open Go.RowKit Plain
set_option linter.unusedVariables false
set_option maxRecDepth 100000

theorem run_str (W : World) (A : Option Addr) (n c : Nat) (zs : List Int) (hn : zs.length = n) (hR : Rd W A zs) :
    (convert 22 9 (.slice A n c)).run Try.prog W = .ok (.string (strOfNums zs)) W := by
  rcases Nat.eq_zero_or_pos n with h0 | h0
  · subst h0
    have hz : zs = [] := List.eq_nil_of_length_eq_zero hn
    subst hz
    rcases A with _ | ⟨b, off, sp⟩
    · exact run_convert_bytes_nil W 22 5 Try.underlying22 Try.underlying5 0 c 9 Try.underlying9
    · rw [run_convert_bytes_string W 22 9 5 _ 0 c Try.underlying22 Try.underlying5 Try.underlying9]
      have hl : (loadCells ⟨b, off, sp⟩ 0).run Try.prog W = .ok ([].map (Value.int .u8)).toArray W := by
        simpa using run_loadCells_list (P := Try.prog) W ⟨b, off, sp⟩ [] (fun j v hj => by simp at hj)
      rw [run_bytesToString W _ 0 c [] hl]
      rfl
  · obtain ⟨b, off, rfl, hc⟩ := hR.2 (by omega)
    exact run_convert_bytes_arg W 22 5 Try.underlying22 Try.underlying5 b off n c zs hn (fun i hi => hc i (by omega)) 9 Try.underlying9

/-- a number that any int picks below m -/
theorem pick_any (bit m : Int) (h0 : 0 < m) (h1 : m < 4611686018427387904) : ∃ K : Nat, wrap64 ((IntKind.u64.wrap bit).tmod m) = (K : Int) ∧ (K : Int) < m := by
  have e : IntKind.u64.wrap bit = bit % 18446744073709551616 := IntKind.wrap_u64 bit
  have n0 : 0 ≤ bit % 18446744073709551616 := by omega
  have e2 : (bit % 18446744073709551616).tmod m = bit % 18446744073709551616 % m := Int.tmod_eq_emod_of_nonneg n0
  have l0 := Int.emod_nonneg (bit % 18446744073709551616) (show m ≠ 0 by omega)
  have l1 := Int.emod_lt_of_pos (bit % 18446744073709551616) h0
  rw [e, e2]
  generalize bit % 18446744073709551616 % m = x at *
  refine ⟨x.toNat, ?_, by omega⟩
  unfold wrap64; omega

theorem turned_bits (x : Int) (K : Nat) (h0 : 0 ≤ x) (h1 : x ≤ 255) : Turned x (bits .xor .u8 x (2 ^ (K % 8) % 256)) := by
  obtain ⟨a, rfl⟩ := Int.eq_ofNat_of_zero_le h0
  have hj : K % 8 < 8 := by omega
  generalize K % 8 = j at hj ⊢
  have e : ((2 : Int) ^ j % 256) = ((2 ^ j : Nat) : Int) := by
    have : ∀ j, j < 8 → ((2 : Int) ^ j % 256) = ((2 ^ j : Nat) : Int) := by decide
    exact this j hj
  have h2 : 2 ^ j < 256 := by
    have : ∀ j, j < 8 → 2 ^ j < 256 := by decide
    exact this j hj
  rw [e, u8_xor_nat a (2 ^ j) (by omega) h2]
  exact turned a j (by omega) hj
end Go.Proofs.Ytoeencklcemofaa
