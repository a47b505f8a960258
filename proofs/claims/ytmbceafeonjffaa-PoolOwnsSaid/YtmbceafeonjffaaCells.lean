/-
  Contracts of package cells (but Once): cells are a list of numbers. Conditions stand in each theorem.
-/
import Derived.Test.YtmbceafeonjffaaBase
import Derived.Laws.LoneSync
import Derived.Laws.MakeOwn
import Derived.WalkKit
namespace Go.Proofs.Ytmbceafeonjffaa
open Go.RowKit Plain
set_option linter.unusedVariables false
set_option maxRecDepth 100000

/-- a number of 64 bits -/
def U64 (x : Int) : Prop := 0 ≤ x ∧ x < 18446744073709551616

/-- cells as a list: the struct in block gc, the numbers in block gn -/
structure Cl (w : World) (gc gn n : Nat) (l : List Int) : Prop where
  len : l.length = n
  st : Blk w gc 104 #[.slice (some ⟨gn, 0, none⟩) n n, .int .u32 0, .int .i32 0, .int .u32 0]
  nu : Blk w gn 108 (l.map (Value.int .u64)).toArray
  ne : gn ≠ gc
  rg : ∀ x ∈ l, U64 x

section
variable {w w' : World} {gc gn n : Nat} {l : List Int}
theorem Cl.at (h : Cl w gc gn n l) {i : Nat} (hi : i < n) : w.cell? ⟨gn, i, none⟩ = some (.int .u64 (l.getD i 0)) := by
  rw [h.nu.cell]
  have := h.len
  have hi' : i < l.length := by omega
  simp [hi', List.getD]
theorem Cl.free (h : Cl w gc gn n l) (i : Nat) : w.frozen? ⟨gn, i, none⟩ = false := h.nu.frozen i
theorem Cl.u64 (h : Cl w gc gn n l) (i : Nat) : U64 (l.getD i 0) := by
  rcases Nat.lt_or_ge i l.length with hi | hi
  · have : l.getD i 0 = l[i] := by simp [List.getD, hi]
    rw [this]; exact h.rg _ (List.getElem_mem hi)
  · have : l.getD i 0 = 0 := by simp [List.getD, hi]
    rw [this]; unfold U64; omega
theorem Cl.set (h : Cl w gc gn n l) (i : Nat) (x : Int) (hx : U64 x) : Cl (w.setCell ⟨gn, i, none⟩ (.int .u64 x)) gc gn n (l.set i x) := by
  refine ⟨by rw [List.length_set]; exact h.len, h.st.ne (p := ⟨gn, i, none⟩) h.ne _, ?_, h.ne, ?_⟩
  · have := h.nu.set i (.int .u64 x)
    rw [List.map_set]
    simpa using this
  · intro y hy
    rcases List.mem_or_eq_of_mem_set hy with hy | rfl
    · exact h.rg _ hy
    · exact hx
theorem Cl.below (h : Cl w gc gn n l) (hb : Below w.heap.size w w') : Cl w' gc gn n l := ⟨h.len, h.st.below hb, h.nu.below hb, h.ne, h.rg⟩
theorem Cl.alloc (h : Cl w gc gn n l) (o : Obj) : Cl (w.alloc o) gc gn n l := ⟨h.len, h.st.alloc o, h.nu.alloc o, h.ne, h.rg⟩
theorem Cl.other (h : Cl w gc gn n l) {p : Addr} (hp1 : p.block ≠ gc) (hp2 : p.block ≠ gn) (v : Value) : Cl (w.setCell p v) gc gn n l := ⟨h.len, h.st.ne hp1 v, h.nu.ne hp2 v, h.ne, h.rg⟩
theorem Cl.grown (h : Cl w gc gn n l) {r : Nat} (hg : w.grownBy w' (some r)) (h1 : gc ≠ r) (h2 : gn ≠ r) : Cl w' gc gn n l := ⟨h.len, h.st.grown hg h1, h.nu.grown hg h2, h.ne, h.rg⟩
theorem Cl.drewN (h : Cl w gc gn n l) (q : Nat) : Cl (w.drewN q) gc gn n l := ⟨h.len, h.st, h.nu, h.ne, h.rg⟩
end

/-! the numbers themselves -/
theorem aload (g i : Nat) (x : Int) (w : World) (hc : w.cell? ⟨g, i, none⟩ = some (.int .u64 x)) :
    Calls Try.prog 82 #[.pointer (some ⟨g, i, none⟩)] w fun e w' => e = .returned (.int .u64 x) ∧ w = w' := by
  have hl := run_call_load (P := Try.prog) Try.func90 (by kernel_rfl) (by kernel_rfl) (by kernel_rfl) .u64 (by kernel_rfl) hc
  go_enter Try.func82, Try.ntmps82
  go_wp2
  go_ret
  exact ⟨rfl, rfl⟩
theorem astore (g i : Nat) (x y : Int) (w : World) (hc : w.cell? ⟨g, i, none⟩ = some (.int .u64 x)) (hf : w.frozen? ⟨g, i, none⟩ = false) :
    Calls Try.prog 59 #[.pointer (some ⟨g, i, none⟩), .int .u64 y] w fun e w' => e = .returned (.tuple #[]) ∧ w' = w.setCell ⟨g, i, none⟩ (.int .u64 y) := by
  have hl := run_call_store (P := Try.prog) Try.func70 (by kernel_rfl) (by kernel_rfl) (by kernel_rfl) (by kernel_rfl) (k := .u64) (y := y) hc hf
  go_enter Try.func59, Try.ntmps59
  go_wp2
  go_end0
  exact ⟨rfl, rfl⟩
theorem acas_hit (g i : Nat) (x y : Int) (w : World) (hc : w.cell? ⟨g, i, none⟩ = some (.int .u64 x)) (hf : w.frozen? ⟨g, i, none⟩ = false) :
    Calls Try.prog 83 #[.pointer (some ⟨g, i, none⟩), .int .u64 x, .int .u64 y] w fun e w' => e = .returned (.bool true) ∧ w' = w.setCell ⟨g, i, none⟩ (.int .u64 y) := by
  have hl := run_call_cas_hit (P := Try.prog) Try.func91 (by kernel_rfl) (by kernel_rfl) (by kernel_rfl) .u64 (by kernel_rfl) (y := y) hc hf
  go_enter Try.func83, Try.ntmps83
  go_wp2
  go_ret
  exact ⟨rfl, rfl⟩
theorem acas_miss (g i : Nat) (x o y : Int) (w : World) (hc : w.cell? ⟨g, i, none⟩ = some (.int .u64 x)) (hf : w.frozen? ⟨g, i, none⟩ = false) (hne : ¬ x = o) :
    Calls Try.prog 83 #[.pointer (some ⟨g, i, none⟩), .int .u64 o, .int .u64 y] w fun e w' => e = .returned (.bool false) ∧ w = w' := by
  have hl := run_call_cas_miss (P := Try.prog) Try.func91 (by kernel_rfl) (by kernel_rfl) (by kernel_rfl) .u64 (by kernel_rfl) (o := o) (y := y) hc hf hne
  go_enter Try.func83, Try.ntmps83
  go_wp2
  go_ret
  exact ⟨rfl, rfl⟩
def m64 (x : Int) : Int := x % 18446744073709551616
end Go.Proofs.Ytmbceafeonjffaa
