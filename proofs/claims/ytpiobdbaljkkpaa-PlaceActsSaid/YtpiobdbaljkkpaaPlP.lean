/-
  Package place: Pack and Unpack, and the reference's. Conditions stand in each theorem.
-/
import Derived.Test.YtpiobdbaljkkpaaPlW
namespace Go.Proofs.Ytpiobdbaljkkpaa
open Go.RowKit Plain
set_option linter.unusedVariables false
set_option maxRecDepth 100000

theorem Wd.v4 (a b c d : Int) : (Wd.mk a b c d).val = .agg #[.int .i64 a, .int .i64 b, .int .i64 c, .int .i64 d] := rfl

theorem or_a (x y : Int) (h0 : 0 ≤ x) (h1 : x ≤ 3) (h2 : 0 ≤ y) (h3 : y ≤ 7) : bits .or .u64 x (y * 256) = x + y * 256 := by go_bits2
theorem or_b (x y z : Int) (h0 : 0 ≤ x) (h1 : x ≤ 3) (h2 : 0 ≤ y) (h3 : y ≤ 7) (h4 : 0 ≤ z) (h5 : z ≤ 65535) : bits .or .u64 (x + y * 256) (z * 65536) = x + y * 256 + z * 65536 := by go_bits2
theorem or_c (x y z u : Int) (h0 : 0 ≤ x) (h1 : x ≤ 3) (h2 : 0 ≤ y) (h3 : y ≤ 7) (h4 : 0 ≤ z) (h5 : z ≤ 65535) (h6 : 0 ≤ u) (h7 : u ≤ 4294967295) : bits .or .u64 (x + y * 256 + z * 65536) (u * 4294967296) = x + y * 256 + z * 65536 + u * 4294967296 := by go_bits2

set_option maxHeartbeats 1000000 in
theorem pack_any (x : Wd) (w : World) : Calls Try.prog 59 #[x.val] w fun e w' => e = .returned (.tuple #[.int .u64 (if x.can then x.num else 0), .int .i64 (if x.can then 0 else 1)]) ∧ Below w.heap.size w w' := by
  have hc := canBe_any x
  by_cases h : x.can = true
  · rw [h] at hc
    rw [if_pos h, if_pos h]
    have h' := (can_iff x).1 h
    obtain ⟨a, b, c, d⟩ := x
    simp only at h'
    obtain ⟨⟨a0, a1⟩, ⟨b0, b1⟩, ⟨c0, c1⟩, ⟨d0, d1⟩⟩ := h'
    rw [show (Wd.mk a b c d).num = a + 256 * c + 65536 * b + 4294967296 * d from rfl]
    rw [Wd.v4] at *
    have o1 := or_a a c a0 a1 c0 c1
    have o2 := or_b a c b a0 a1 c0 c1 b0 b1
    have o3 := or_c a c b d a0 a1 c0 c1 b0 b1 d0 d1
    have HC := Lib.hid hc
    clear hc h
    go_enter Try.func59, Try.ntmps59
    go_wp2_with fail
    refine (HC.out _).mono ?_
    rintro e w1 ⟨rfl, hb⟩
    have bk := (Blk.new w 62 #[.int .i64 a, .int .i64 b, .int .i64 c, .int .i64 d]).below hb
    have k0 := bk.cell 0
    have k1 := bk.cell 1
    have k2 := bk.cell 2
    have k3 := bk.cell 3
    have Hb := Lib.hid (bthen (ball w _) hb)
    clear hb bk
    simp at k0 k1 k2 k3
    go_wp2
    go_ret2
    exact ⟨by simp; omega, Hb.out⟩
  · have h' : x.can = false := by simpa using h
    rw [h'] at hc
    rw [h']
    obtain ⟨a, b, c, d⟩ := x
    rw [Wd.v4] at *
    have HC := Lib.hid hc
    clear hc h h'
    go_enter Try.func59, Try.ntmps59
    go_wp2_with fail
    refine (HC.out _).mono ?_
    rintro e w1 ⟨rfl, hb⟩
    have Hb := Lib.hid (bthen (ball w _) hb)
    clear hb
    go_wp2
    go_ret2
    exact ⟨rfl, Hb.out⟩

theorem and_a (x : Int) (h0 : 0 ≤ x) (h1 : x < 18446744073709551616) : bits .and .u64 x 3 = x % 4 := by go_bits2
theorem and_b (x : Int) (h0 : 0 ≤ x) (h1 : x < 18446744073709551616) : bits .and .u64 (x / 65536) 65535 = x / 65536 % 65536 := by go_bits2
theorem and_c (x : Int) (h0 : 0 ≤ x) (h1 : x < 18446744073709551616) : bits .and .u64 (x / 256) 7 = x / 256 % 8 := by go_bits2

set_option maxHeartbeats 1000000 in
theorem unpack_any (n : Int) (h0 : 0 ≤ n) (h1 : n < 18446744073709551616) (w : World) : Calls Try.prog 61 #[.int .u64 n] w fun e w' => e = .returned (wdOf n).val ∧ Below w.heap.size w w' := by
  rw [show (wdOf n).val = .agg #[.int .i64 (n % 4), .int .i64 (n / 65536 % 65536), .int .i64 (n / 256 % 8), .int .i64 (n / 4294967296)] from rfl]
  have o1 := and_a n h0 h1
  have o2 := and_b n h0 h1
  have o3 := and_c n h0 h1
  go_enter Try.func61, Try.ntmps61
  go_wp2
  refine bodyPost_ret (v := .agg #[.int .i64 (n % 4), .int .i64 (n / 65536 % 65536), .int .i64 (n / 256 % 8), .int .i64 (n / 4294967296)]) (by simp [results, Try.results61, go_sem]) rfl ⟨rfl, ?_⟩
  exact ball w _

theorem to_any (x : Wd) (w : World) : Calls Try.prog 32 #[x.val] w fun e w' => e = .returned x.val ∧ Below w.heap.size w w' := by
  obtain ⟨a, b, c, d⟩ := x
  rw [Wd.v4]
  go_enter Try.func32, Try.ntmps32
  go_wp2
  refine bodyPost_ret (v := .agg #[.int .i64 a, .int .i64 b, .int .i64 c, .int .i64 d]) (by simp [results, Try.results32, go_sem]) rfl ⟨rfl, ?_⟩
  exact ((Below.refl _ _).alloc (Nat.le_refl _) _).alloc (by simp) _
theorem wfrom_any (x : Wd) (w : World) : Calls Try.prog 34 #[x.val] w fun e w' => e = .returned x.val ∧ Below w.heap.size w w' := by
  obtain ⟨a, b, c, d⟩ := x
  rw [Wd.v4]
  go_enter Try.func34, Try.ntmps34
  go_wp2
  refine bodyPost_ret (v := .agg #[.int .i64 a, .int .i64 b, .int .i64 c, .int .i64 d]) (by simp [results, Try.results34, go_sem]) rfl ⟨rfl, ?_⟩
  exact ((Below.refl _ _).alloc (Nat.le_refl _) _).alloc (by simp) _
end Go.Proofs.Ytpiobdbaljkkpaa
