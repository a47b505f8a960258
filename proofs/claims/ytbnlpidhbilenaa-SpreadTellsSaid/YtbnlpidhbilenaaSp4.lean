/-
  spread: Hash, on both sides. Conditions stand in each theorem.
-/
import Derived.Test.YtbnlpidhbilenaaSp3
import Derived.Laws.Bits64b
namespace Go.Proofs.Ytbnlpidhbilenaa
open Go.RowKit Plain
set_option linter.unusedVariables false
set_option maxRecDepth 100000
/-- a far end's number -/
def nF (a0 a1 a2 : Int) : Int := a0 % 65536 * 281474976710656 + a1 * 65536 + a2
def hF (a0 a1 a2 : Int) : Int := IntKind.u64.wrap (bits .xor .u64 (nF a0 a1 a2) (nF a0 a1 a2 / 536870912) * 14029467366897019727) / 4294967296 % 4294967296
theorem or_h1 (p a : Int) (p0 : 0 ≤ p) (p1 : p ≤ 65535) (a0 : 0 ≤ a) (a1 : a ≤ 4294967295) : bits .or .u64 (p * 281474976710656) (a * 65536) = p * 281474976710656 + a * 65536 := by go_bits2
theorem or_h2 (p a o : Int) (p0 : 0 ≤ p) (p1 : p ≤ 65535) (a0 : 0 ≤ a) (a1 : a ≤ 4294967295) (o0 : 0 ≤ o) (o1 : o ≤ 65535) : bits .or .u64 (p * 281474976710656 + a * 65536) o = p * 281474976710656 + a * 65536 + o := by go_bits2
set_option maxHeartbeats 2000000 in
theorem hash_any (a0 a1 a2 : Int) (h1 : 0 ≤ a1) (h1' : a1 ≤ 4294967295) (h2 : 0 ≤ a2) (h2' : a2 ≤ 65535) (w : World) :
    Calls Try.prog 33 #[.agg #[.int .i64 a0, .int .u32 a1, .int .u16 a2]] w fun e w' => e = .returned (.int .u32 (hF a0 a1 a2)) ∧ Below w.heap.size w w' := by
  obtain ⟨p, hp⟩ : ∃ p, p = a0 % 65536 := ⟨_, rfl⟩
  have e1 : IntKind.u64.wrap (IntKind.u64.wrap a0 * 281474976710656) = p * 281474976710656 := by rw [IntKind.wrap_u64, IntKind.wrap_u64]; omega
  have e2 := or_h1 p a1 (by omega) (by omega) h1 h1'
  have e3 := or_h2 p a1 a2 (by omega) (by omega) h1 h1' h2 h2'
  have HP := Lib.hid hp
  clear hp
  go_enter Try.func33, Try.ntmps33
  go_wp2
  go_ret
  refine ⟨?_, ball _ _⟩
  unfold hF nF
  rw [← HP.out]
  rfl
set_option maxHeartbeats 2000000 in
theorem rhash_any (a0 a1 a2 : Int) (h1 : 0 ≤ a1) (h1' : a1 ≤ 4294967295) (h2 : 0 ≤ a2) (h2' : a2 ≤ 65535) (w : World) :
    Calls Try.prog 35 #[.agg #[.int .i64 a0, .int .u32 a1, .int .u16 a2]] w fun e w' => e = .returned (.int .u32 (hF a0 a1 a2)) ∧ Below w.heap.size w w' := by
  obtain ⟨p, hp⟩ : ∃ p, p = a0 % 65536 := ⟨_, rfl⟩
  have e1 : IntKind.u64.wrap (IntKind.u64.wrap a0 * 281474976710656) = p * 281474976710656 := by rw [IntKind.wrap_u64, IntKind.wrap_u64]; omega
  have e2 : IntKind.u64.wrap (p * 281474976710656 + a1 * 65536) = p * 281474976710656 + a1 * 65536 := by rw [IntKind.wrap_u64]; omega
  obtain ⟨n, hn⟩ : ∃ n, n = p * 281474976710656 + a1 * 65536 + a2 := ⟨_, rfl⟩
  have e3 : IntKind.u64.wrap (p * 281474976710656 + a1 * 65536 + a2) = n := by rw [IntKind.wrap_u64]; omega
  have e4 : n.tdiv 536870912 = n / 536870912 := Int.tdiv_eq_ediv_of_nonneg (by omega)
  have e5 : IntKind.u64.wrap (n / 536870912) = n / 536870912 := by rw [IntKind.wrap_u64]; omega
  obtain ⟨x, hx⟩ : ∃ x, IntKind.u64.wrap (bits .xor .u64 n (n / 536870912) * 14029467366897019727) = x := ⟨_, rfl⟩
  have x0 : 0 ≤ x ∧ x < 18446744073709551616 := by rw [← hx, IntKind.wrap_u64]; omega
  have e6 : x.tdiv 4294967296 = x / 4294967296 := Int.tdiv_eq_ediv_of_nonneg x0.1
  have e7 : IntKind.u64.wrap (x / 4294967296) = x / 4294967296 := by rw [IntKind.wrap_u64]; omega
  have HX := Lib.hid (show hF a0 a1 a2 = x / 4294967296 % 4294967296 by
    unfold hF nF
    rw [← hp, ← hn, hx])
  clear hp hn
  go_enter Try.func35, Try.ntmps35
  go_wp2
  go_ret
  refine ⟨?_, ball _ _⟩
  rw [HX.out, show x / 4294967296 % 4294967296 = x / 4294967296 by omega]
  rfl
end Go.Proofs.Ytbnlpidhbilenaa
