/-
  Package pool: Take is begun. Conditions stand in each theorem.
-/
import Derived.Test.YtmbceafeonjffaaPoZ
namespace Go.Proofs.Ytmbceafeonjffaa
open Go.RowKit Plain
set_option linter.unusedVariables false
set_option linter.unusedSimpArgs false
set_option maxRecDepth 100000
/-- what Take begins -/
def TakeOk (n gc : Nat) (fr most : Int) (w : World) (e : Ending) (w' : World) : Prop :=
  ∃ wd mo : Nat, wd < n ∧ 1 ≤ mo ∧ mo ≤ 32 ∧ (∀ k : Nat, k < 1000000 → fr = k → wd = k % n) ∧ (∀ k : Nat, 1 ≤ k → k ≤ 32 → most = k → mo = k) ∧ e = .returned (.pointer (some ⟨w.heap.size, 0, none⟩)) ∧ StP w' w.heap.size gc (.slice none 0 0) ⟨1, wd, n, mo, List.replicate 32 0, 0, false, false, []⟩ ∧ Below w.heap.size w w'
set_option maxHeartbeats 2000000 in
theorem pTake_any {w : World} {gp gc gn n : Nat} {size : Int} {l : List Int} (h : PoS w gp gc gn n size l) (h1 : 1 ≤ n) (hn : n ≤ 32) (fr most : Int) (m0 : -9223372036854775808 ≤ most) (m1 : most ≤ 9223372036854775807) :
    Calls Try.prog 11 #[.pointer (some ⟨gp, 0, none⟩), .int .i64 fr, .int .i64 most] w (TakeOk n gc fr most w) := by
  have c0 : w.cell? ⟨gp, 0, none⟩ = some (.pointer (some ⟨gc, 0, none⟩)) := h.ps.cell 0
  have HCT := Lib.hid (pcount_any8 h)
  obtain ⟨K, hK, hKl⟩ := pickN fr (n : Int) (by omega) (by omega)
  have hKx : ∀ k : Nat, k < 1000000 → fr = k → K = k % n := fun k hk e => by
    subst e
    have e1 : IntKind.u64.wrap (k : Int) = (k : Int) := by rw [IntKind.wrap_u64]; omega
    rw [e1, Int.tmod_eq_emod_of_nonneg (by omega)] at hK
    have e2 : ((k : Int) % (n : Int)) = ((k % n : Nat) : Int) := by simp
    have e3 : k % n < n := Nat.mod_lt _ (by omega)
    rw [e2] at hK
    generalize k % n = r at *
    unfold wrap64 at hK
    omega
  have hw : IntKind.u64.wrap (n : Int) = (n : Int) := by rw [IntKind.wrap_u64]; omega
  have hnz : (n : Int) ≠ 0 := by omega
  have hnz' : n ≠ 0 := by omega
  have hnp : (0 : Int) < (n : Int) := by omega
  obtain ⟨mo, hmo⟩ : ∃ mo : Nat, (if 32 < (if most < 1 then (1 : Int) else most) then (32 : Int) else if most < 1 then 1 else most) = (mo : Int) := ⟨(if 32 < (if most < 1 then (1 : Int) else most) then (32 : Int) else if most < 1 then 1 else most).toNat, by split <;> (try split) <;> omega⟩
  have hmr : 1 ≤ mo ∧ mo ≤ 32 := by
    have : (1 : Int) ≤ (mo : Int) ∧ (mo : Int) ≤ 32 := by rw [← hmo]; split <;> (try split) <;> omega
    omega
  have hmx : ∀ k : Nat, 1 ≤ k → k ≤ 32 → most = k → mo = k := fun k h1 h2 e => by
    subst e
    rw [if_neg (show ¬ (k : Int) < 1 by omega), if_neg (show ¬ (32 : Int) < (k : Int) by omega)] at hmo
    omega
  have HKX := Lib.hid hKx
  have HMX := Lib.hid hmx
  clear hKx hmx
  have HMO := Lib.hid hmo
  clear hmo
  have HS := Lib.hid (show StP ((w.alloc (.cells (Ps.cs ⟨1, K, n, mo, List.replicate 32 0, 0, false, false, []⟩ gc (.slice none 0 0)).toArray 78)).drew) w.heap.size gc (.slice none 0 0) ⟨1, K, n, mo, List.replicate 32 0, 0, false, false, []⟩ from ⟨(Blk.new w _ _).drew, by simp⟩)
  have HB := Lib.hid (show Below w.heap.size w ((w.alloc (.cells (Ps.cs ⟨1, K, n, mo, List.replicate 32 0, 0, false, false, []⟩ gc (.slice none 0 0)).toArray 78)).drew) from (ball w _).drew)
  clear h
  go_enter Try.func11, Try.ntmps11
  go_upto_region 4 with (go_at_call 41; refine (HCT.out).mono ?_; rintro e w1 ⟨rfl, rfl⟩)
  go_region
  rw [HMO.out]
  have e : (#[.pointer (some ⟨gc, 0, none⟩), .int .i64 1, .int .i64 K, .int .i64 n, .int .i64 mo, .int .u64 0, .int .u64 0, .int .u64 0, .int .u64 0, .int .u64 0, .int .u64 0, .int .u64 0, .int .u64 0, .int .u64 0, .int .u64 0, .int .u64 0, .int .u64 0, .int .u64 0, .int .u64 0, .int .u64 0, .int .u64 0, .int .u64 0, .int .u64 0, .int .u64 0, .int .u64 0, .int .u64 0, .int .u64 0, .int .u64 0, .int .u64 0, .int .u64 0, .int .u64 0, .int .u64 0, .int .u64 0, .int .u64 0, .int .u64 0, .int .u64 0, .int .u64 0, .int .u32 0, .bool false, .bool false, .slice none 0 0] : Array Value) = (Ps.cs ⟨1, K, n, mo, List.replicate 32 0, 0, false, false, []⟩ gc (.slice none 0 0)).toArray := rfl
  rw [e]
  clear e
  generalize (w.alloc (.cells (Ps.cs ⟨1, K, n, mo, List.replicate 32 0, 0, false, false, []⟩ gc (.slice none 0 0)).toArray 78)).drew = w2 at *
  go_wp2
  all_goals
    go_ret
    exact ⟨K, mo, by omega, hmr.1, hmr.2, HKX.out, HMX.out, rfl, HS.out, HB.out⟩
end Go.Proofs.Ytmbceafeonjffaa
