/-
  The reference's Right, Pack and Unpack (package place). Conditions stand in each theorem.
-/
import Derived.Test.YtpiobdbaljkkpaaPlP
namespace Go.Proofs.Ytpiobdbaljkkpaa
open Go.RowKit Plain
set_option linter.unusedVariables false
set_option maxRecDepth 100000
set_option linter.unusedSimpArgs false

set_option maxHeartbeats 2000000 in
theorem rright_any (x : Wd) (w : World) : Calls Try.prog 70 #[x.val] w fun e w' => e = .returned (.bool x.can) ∧ Below w.heap.size w w' := by
  obtain ⟨a, b, c, d⟩ := x
  rw [Wd.v4, show (Wd.mk a b c d).can = (decide (0 ≤ a) && decide (a ≤ 3) && (decide (0 ≤ b) && decide (b ≤ 65535)) && (decide (0 ≤ c) && decide (c ≤ 7)) && (decide (0 ≤ d) && decide (d ≤ 4294967295))) from rfl]
  obtain ⟨v, hv⟩ : ∃ v, v = (decide (0 ≤ a) && decide (a ≤ 3) && (decide (0 ≤ b) && decide (b ≤ 65535)) && (decide (0 ≤ c) && decide (c ≤ 7)) && (decide (0 ≤ d) && decide (d ≤ 4294967295))) := ⟨_, rfl⟩
  rw [← hv]
  cases d0 : decide (0 ≤ a)
  · have hc : v = false := by rw [hv]; simp only [d0, Bool.true_and, Bool.false_and, Bool.and_false]
    clear hv
    subst hc
    go_enter Try.func70, Try.ntmps70
    go_wp2
    go_ret
    exact ⟨rfl, ball w _⟩
  cases d1 : decide (a ≤ 3)
  · have hc : v = false := by rw [hv]; simp only [d0, d1, Bool.true_and, Bool.false_and, Bool.and_false]
    clear hv
    subst hc
    go_enter Try.func70, Try.ntmps70
    go_wp2
    go_ret
    exact ⟨rfl, ball w _⟩
  cases d2 : decide (0 ≤ b)
  · have hc : v = false := by rw [hv]; simp only [d0, d1, d2, Bool.true_and, Bool.false_and, Bool.and_false]
    clear hv
    subst hc
    go_enter Try.func70, Try.ntmps70
    go_wp2
    go_ret
    exact ⟨rfl, ball w _⟩
  cases d3 : decide (b ≤ 65535)
  · have hc : v = false := by rw [hv]; simp only [d0, d1, d2, d3, Bool.true_and, Bool.false_and, Bool.and_false]
    clear hv
    subst hc
    go_enter Try.func70, Try.ntmps70
    go_wp2
    go_ret
    exact ⟨rfl, ball w _⟩
  cases d4 : decide (0 ≤ c)
  · have hc : v = false := by rw [hv]; simp only [d0, d1, d2, d3, d4, Bool.true_and, Bool.false_and, Bool.and_false]
    clear hv
    subst hc
    go_enter Try.func70, Try.ntmps70
    go_wp2
    go_ret
    exact ⟨rfl, ball w _⟩
  cases d5 : decide (c ≤ 7)
  · have hc : v = false := by rw [hv]; simp only [d0, d1, d2, d3, d4, d5, Bool.true_and, Bool.false_and, Bool.and_false]
    clear hv
    subst hc
    go_enter Try.func70, Try.ntmps70
    go_wp2
    go_ret
    exact ⟨rfl, ball w _⟩
  cases d6 : decide (0 ≤ d)
  · have hc : v = false := by rw [hv]; simp only [d0, d1, d2, d3, d4, d5, d6, Bool.true_and, Bool.false_and, Bool.and_false]
    clear hv
    subst hc
    go_enter Try.func70, Try.ntmps70
    go_wp2
    go_ret
    exact ⟨rfl, ball w _⟩
  cases d7 : decide (d ≤ 4294967295)
  · have hc : v = false := by rw [hv]; simp only [d0, d1, d2, d3, d4, d5, d6, d7, Bool.true_and, Bool.false_and, Bool.and_false]
    clear hv
    subst hc
    go_enter Try.func70, Try.ntmps70
    go_wp2
    go_ret
    exact ⟨rfl, ball w _⟩
  have hc : v = true := by rw [hv]; simp only [d0, d1, d2, d3, d4, d5, d6, d7, Bool.true_and]
  clear hv
  subst hc
  go_enter Try.func70, Try.ntmps70
  go_wp2
  go_ret
  exact ⟨rfl, ball w _⟩

set_option maxHeartbeats 1000000 in
theorem rpack_any (x : Wd) (w : World) : Calls Try.prog 36 #[x.val] w fun e w' => e = .returned (.tuple #[.int .u64 (if x.can then x.num else 0), .bool x.can]) ∧ Below w.heap.size w w' := by
  have hc := rright_any x
  by_cases h : x.can = true
  · rw [h] at hc
    rw [h, if_pos rfl]
    have h' := (can_iff x).1 h
    obtain ⟨a, b, c, d⟩ := x
    simp only at h'
    obtain ⟨⟨a0, a1⟩, ⟨b0, b1⟩, ⟨c0, c1⟩, ⟨d0, d1⟩⟩ := h'
    rw [show (Wd.mk a b c d).num = a + 256 * c + 65536 * b + 4294967296 * d from rfl]
    rw [Wd.v4] at *
    have HC := Lib.hid hc
    clear hc h
    go_enter Try.func36, Try.ntmps36
    go_wp2_with fail
    refine (HC.out _).mono ?_
    rintro e w1 ⟨rfl, hb⟩
    have bk := (Blk.new w 78 #[.int .i64 a, .int .i64 b, .int .i64 c, .int .i64 d]).below hb
    have k0 := bk.cell 0
    have k1 := bk.cell 1
    have k2 := bk.cell 2
    have k3 := bk.cell 3
    have Hb := Lib.hid (bthen (ball w _) hb)
    clear hb bk
    simp at k0 k1 k2 k3
    go_wp2
    go_ret2
    exact ⟨rfl, Hb.out⟩
  · have h' : x.can = false := by simpa using h
    rw [h'] at hc
    rw [h']
    obtain ⟨a, b, c, d⟩ := x
    rw [Wd.v4] at *
    have HC := Lib.hid hc
    clear hc h h'
    go_enter Try.func36, Try.ntmps36
    go_wp2_with fail
    refine (HC.out _).mono ?_
    rintro e w1 ⟨rfl, hb⟩
    have Hb := Lib.hid (bthen (ball w _) hb)
    clear hb
    go_wp2
    go_ret2
    exact ⟨rfl, Hb.out⟩

end Go.Proofs.Ytpiobdbaljkkpaa
