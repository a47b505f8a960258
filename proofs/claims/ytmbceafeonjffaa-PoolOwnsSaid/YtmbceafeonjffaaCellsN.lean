/-
  Contracts of cells.New and Copy. Conditions stand in each theorem.
-/
import Derived.Test.YtmbceafeonjffaaCellsM
namespace Go.Proofs.Ytmbceafeonjffaa
open Go.RowKit Plain
set_option linter.unusedVariables false
set_option maxRecDepth 100000

theorem infoU : (Try.prog.info? 108).map (fun i => (i.zero, i.size, i.bytes)) = some (some (.agg #[.int .u64 0]), 1, 8) := by kernel_rfl
theorem made64 (n : Nat) : madeCells (Value.agg #[.int .u64 0]).cells (n * 1) = ((List.replicate n (0 : Int)).map (Value.int .u64)).toArray := by
  apply Array.ext'
  rw [show (Value.agg #[.int .u64 0]).cells = #[Value.int .u64 0] from rfl, toList_madeCells_one, Nat.mul_one, List.map_replicate]
theorem run_mk64 (n : Nat) (hn : n ≤ 1000000) (w : World) : (Instr.makeSlice 91 (.int .i64 n) (.int .i64 n)).run Try.prog w = .ok (.slice (some ⟨w.heap.size, 0, none⟩) n n) (w.alloc (.cells ((List.replicate n (0 : Int)).map (Value.int .u64)).toArray 108)) := by
  obtain ⟨i, hi, hz, hs, hb⟩ := info_parts infoU
  have h := run_make (P := Try.prog) w 91 108 i _ Try.underlying91 hi hz .i64 .i64 n n (by omega) (by omega) (by rw [hb]; omega) (by omega)
  rw [hs, Int.toNat_natCast, made64] at h
  exact h

theorem new_any (n : Nat) (h1 : 1 ≤ n) (h2 : n ≤ 65536) (w : World) :
    Calls Try.prog 38 #[.int .i64 n] w fun e w' => e = .returned (.tuple #[.pointer (some ⟨w.heap.size + 1, 0, none⟩), .int .i64 0]) ∧ Cl w' (w.heap.size + 1) w.heap.size n (List.replicate n 0) ∧ Below w.heap.size w w' ∧ w'.heap.size = w.heap.size + 2 := by
  have hm := run_mk64 n (by omega) w
  have d1 : decide ((n : Int) < 1) = false := by simp; omega
  have d2 : decide ((65536 : Int) < (n : Int)) = false := by simp; omega
  go_enter Try.func38, Try.ntmps38
  go_wp2
  go_ret2
  refine ⟨rfl, ⟨List.length_replicate, ?_, ?_, by omega, ?_⟩, ((Below.refl _ _).alloc (Nat.le_refl _) _).alloc (by simp) _, by simp⟩
  · have := Blk.new (w.alloc (.cells (Array.replicate n (Value.int .u64 0)) 108)) 104 #[.slice (some ⟨w.heap.size, 0, none⟩) n n, .int .u32 0, .int .i32 0, .int .u32 0]
    rw [show (w.alloc (.cells (Array.replicate n (Value.int .u64 0)) 108)).heap.size = w.heap.size + 1 by simp] at this
    exact this
  · rw [show ((List.replicate n (0 : Int)).map (Value.int .u64)).toArray = Array.replicate n (Value.int .u64 0) by simp]
    exact (Blk.new w 108 _).alloc _
  · intro x hx
    rw [List.eq_of_mem_replicate hx]; unfold U64; omega
theorem new_bad (n : Int) (h : n < 1 ∨ 65536 < n) (w : World) :
    Calls Try.prog 38 #[.int .i64 n] w fun e w' => e = .returned (.tuple #[.pointer none, .int .i64 1]) ∧ w = w' := by
  rcases h with h | h
  · have d1 : decide (n < 1) = true := by simpa using h
    go_enter Try.func38, Try.ntmps38
    go_wp2
    go_ret2
    exact ⟨rfl, rfl⟩
  · have d1 : decide (n < 1) = false := by simp; omega
    have d2 : decide ((65536 : Int) < n) = true := by simpa using h
    go_enter Try.func38, Try.ntmps38
    go_wp2
    go_ret2
    exact ⟨rfl, rfl⟩


end Go.Proofs.Ytmbceafeonjffaa
