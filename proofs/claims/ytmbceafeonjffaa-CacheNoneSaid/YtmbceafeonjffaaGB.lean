/-
  Several small texts in one: Cells, CellsM, CellsN, CKeep, CellsC. Conditions stand in each theorem.
-/
import Derived.Test.YtmbceafeonjffaaGA
import Derived.Laws.LoneSync
import Derived.Laws.MakeOwn
import Derived.WalkKit
import Derived.RegionTactic
import Derived.BigRegion
import Derived.Deep.QuietTactic
import Derived.BigQuiet
import Derived.Deep.DeepCutAuto
namespace Go.Proofs.Ytmbceafeonjffaa
open Go.RowKit Plain
set_option linter.unusedVariables false
set_option maxRecDepth 100000

/-- a number of 64 bits -/
def U64 (x : Int) : Prop := 0 ≤ x ∧ x < 18446744073709551616

/-- cells as a list: the struct in block gc, the numbers in block gn -/
structure Cl (w : World) (gc gn n : Nat) (l : List Int) : Prop where
  len : l.length = n
  st : Blk w gc 104 #[.slice (some ⟨gn, 0, none⟩) n n, .int .u32 0, .int .i32 0, .int .u32 0]
  nu : Blk w gn 108 (l.map (Value.int .u64)).toArray
  ne : gn ≠ gc
  rg : ∀ x ∈ l, U64 x

section
variable {w w' : World} {gc gn n : Nat} {l : List Int}
theorem Cl.at (h : Cl w gc gn n l) {i : Nat} (hi : i < n) : w.cell? ⟨gn, i, none⟩ = some (.int .u64 (l.getD i 0)) := by
  rw [h.nu.cell]
  have := h.len
  have hi' : i < l.length := by omega
  simp [hi', List.getD]
theorem Cl.free (h : Cl w gc gn n l) (i : Nat) : w.frozen? ⟨gn, i, none⟩ = false := h.nu.frozen i
theorem Cl.u64 (h : Cl w gc gn n l) (i : Nat) : U64 (l.getD i 0) := by
  rcases Nat.lt_or_ge i l.length with hi | hi
  · have : l.getD i 0 = l[i] := by simp [List.getD, hi]
    rw [this]; exact h.rg _ (List.getElem_mem hi)
  · have : l.getD i 0 = 0 := by simp [List.getD, hi]
    rw [this]; unfold U64; omega
theorem Cl.set (h : Cl w gc gn n l) (i : Nat) (x : Int) (hx : U64 x) : Cl (w.setCell ⟨gn, i, none⟩ (.int .u64 x)) gc gn n (l.set i x) := by
  refine ⟨by rw [List.length_set]; exact h.len, h.st.ne (p := ⟨gn, i, none⟩) h.ne _, ?_, h.ne, ?_⟩
  · have := h.nu.set i (.int .u64 x)
    rw [List.map_set]
    simpa using this
  · intro y hy
    rcases List.mem_or_eq_of_mem_set hy with hy | rfl
    · exact h.rg _ hy
    · exact hx
theorem Cl.below (h : Cl w gc gn n l) (hb : Below w.heap.size w w') : Cl w' gc gn n l := ⟨h.len, h.st.below hb, h.nu.below hb, h.ne, h.rg⟩
theorem Cl.alloc (h : Cl w gc gn n l) (o : Obj) : Cl (w.alloc o) gc gn n l := ⟨h.len, h.st.alloc o, h.nu.alloc o, h.ne, h.rg⟩
theorem Cl.other (h : Cl w gc gn n l) {p : Addr} (hp1 : p.block ≠ gc) (hp2 : p.block ≠ gn) (v : Value) : Cl (w.setCell p v) gc gn n l := ⟨h.len, h.st.ne hp1 v, h.nu.ne hp2 v, h.ne, h.rg⟩
theorem Cl.grown (h : Cl w gc gn n l) {r : Nat} (hg : w.grownBy w' (some r)) (h1 : gc ≠ r) (h2 : gn ≠ r) : Cl w' gc gn n l := ⟨h.len, h.st.grown hg h1, h.nu.grown hg h2, h.ne, h.rg⟩
theorem Cl.drewN (h : Cl w gc gn n l) (q : Nat) : Cl (w.drewN q) gc gn n l := ⟨h.len, h.st, h.nu, h.ne, h.rg⟩
end

/-! the numbers themselves -/
theorem aload (g i : Nat) (x : Int) (w : World) (hc : w.cell? ⟨g, i, none⟩ = some (.int .u64 x)) :
    Calls Try.prog 82 #[.pointer (some ⟨g, i, none⟩)] w fun e w' => e = .returned (.int .u64 x) ∧ w = w' := by
  have hl := run_call_load (P := Try.prog) Try.func90 (by kernel_rfl) (by kernel_rfl) (by kernel_rfl) .u64 (by kernel_rfl) hc
  go_enter Try.func82, Try.ntmps82
  go_wp2
  go_ret
  exact ⟨rfl, rfl⟩
theorem astore (g i : Nat) (x y : Int) (w : World) (hc : w.cell? ⟨g, i, none⟩ = some (.int .u64 x)) (hf : w.frozen? ⟨g, i, none⟩ = false) :
    Calls Try.prog 59 #[.pointer (some ⟨g, i, none⟩), .int .u64 y] w fun e w' => e = .returned (.tuple #[]) ∧ w' = w.setCell ⟨g, i, none⟩ (.int .u64 y) := by
  have hl := run_call_store (P := Try.prog) Try.func70 (by kernel_rfl) (by kernel_rfl) (by kernel_rfl) (by kernel_rfl) (k := .u64) (y := y) hc hf
  go_enter Try.func59, Try.ntmps59
  go_wp2
  go_end0
  exact ⟨rfl, rfl⟩
theorem acas_hit (g i : Nat) (x y : Int) (w : World) (hc : w.cell? ⟨g, i, none⟩ = some (.int .u64 x)) (hf : w.frozen? ⟨g, i, none⟩ = false) :
    Calls Try.prog 83 #[.pointer (some ⟨g, i, none⟩), .int .u64 x, .int .u64 y] w fun e w' => e = .returned (.bool true) ∧ w' = w.setCell ⟨g, i, none⟩ (.int .u64 y) := by
  have hl := run_call_cas_hit (P := Try.prog) Try.func91 (by kernel_rfl) (by kernel_rfl) (by kernel_rfl) .u64 (by kernel_rfl) (y := y) hc hf
  go_enter Try.func83, Try.ntmps83
  go_wp2
  go_ret
  exact ⟨rfl, rfl⟩
theorem acas_miss (g i : Nat) (x o y : Int) (w : World) (hc : w.cell? ⟨g, i, none⟩ = some (.int .u64 x)) (hf : w.frozen? ⟨g, i, none⟩ = false) (hne : ¬ x = o) :
    Calls Try.prog 83 #[.pointer (some ⟨g, i, none⟩), .int .u64 o, .int .u64 y] w fun e w' => e = .returned (.bool false) ∧ w = w' := by
  have hl := run_call_cas_miss (P := Try.prog) Try.func91 (by kernel_rfl) (by kernel_rfl) (by kernel_rfl) .u64 (by kernel_rfl) (o := o) (y := y) hc hf hne
  go_enter Try.func83, Try.ntmps83
  go_wp2
  go_ret
  exact ⟨rfl, rfl⟩
def m64 (x : Int) : Int := x % 18446744073709551616
end Go.Proofs.Ytmbceafeonjffaa

namespace Go.Proofs.Ytmbceafeonjffaa
open Go.RowKit Plain
set_option linter.unusedVariables false
set_option maxRecDepth 100000

section
variable {w : World} {gc gn n : Nat} {l : List Int}
theorem size_any (h : Cl w gc gn n l) :
    Calls Try.prog 39 #[.pointer (some ⟨gc, 0, none⟩)] w fun e w' => e = .returned (.int .i64 n) ∧ w = w' := by
  have h0 := h.st.cell 0
  simp only [List.getElem?_toArray, List.getElem?_cons_zero] at h0
  go_enter Try.func39, Try.ntmps39
  go_wp2
  go_ret
  exact ⟨rfl, rfl⟩
theorem size_nil (w : World) :
    Calls Try.prog 39 #[.pointer none] w fun e w' => e = .returned (.int .i64 0) ∧ w = w' := by
  go_enter Try.func39, Try.ntmps39
  go_wp2
  go_ret
  exact ⟨rfl, rfl⟩
/-- is there such a place? -/
def inC (n : Nat) (i : Int) : Bool := decide (0 ≤ i ∧ i < (n : Int))
theorem has_any (h : Cl w gc gn n l) (i : Int) :
    Calls Try.prog 58 #[.pointer (some ⟨gc, 0, none⟩), .int .i64 i] w fun e w' => e = .returned (.bool (inC n i)) ∧ w = w' := by
  have H := Lib.hid h
  clear h
  by_cases h0 : 0 ≤ i
  · have e : inC n i = decide (i < (n : Int)) := by unfold inC; simp [h0]
    have e0 : decide (0 ≤ i) = true := by simpa using h0
    rw [e]
    clear e
    go_enter Try.func58, Try.ntmps58
    go_wp2_with (go_at_call 39; refine (size_any H.out).mono ?_; rintro e w' ⟨rfl, rfl⟩)
    go_ret
    exact ⟨rfl, rfl⟩
  · have e : inC n i = false := by unfold inC; simp; omega
    have e0 : decide (0 ≤ i) = false := by simpa using h0
    rw [e]
    clear e
    go_enter Try.func58, Try.ntmps58
    go_wp2
    go_ret
    exact ⟨rfl, rfl⟩
theorem has_nil (i : Int) (w : World) :
    Calls Try.prog 58 #[.pointer none, .int .i64 i] w fun e w' => e = .returned (.bool false) ∧ w = w' := by
  by_cases h0 : 0 ≤ i
  · have e0 : decide (0 ≤ i) = true := by simpa using h0
    have e1 : decide (i < 0) = false := by simp; omega
    go_enter Try.func58, Try.ntmps58
    go_wp2_with (go_at_call 39; refine (size_nil _).mono ?_; rintro e w' ⟨rfl, rfl⟩)
    go_ret
    exact ⟨rfl, rfl⟩
  · have e0 : decide (0 ≤ i) = false := by simpa using h0
    go_enter Try.func58, Try.ntmps58
    go_wp2
    go_ret
    exact ⟨rfl, rfl⟩
theorem inC_nat {i : Nat} (hi : i < n) : inC n (i : Int) = true := by unfold inC; simp; omega

theorem load_any (h : Cl w gc gn n l) (i : Nat) (hi : i < n) :
    Calls Try.prog 63 #[.pointer (some ⟨gc, 0, none⟩), .int .i64 i] w fun e w' => e = .returned (.int .u64 (l.getD i 0)) ∧ w = w' := by
  have h0 := h.st.cell 0
  simp only [List.getElem?_toArray, List.getElem?_cons_zero] at h0
  have hi' : (i : Int) < (n : Int) := by omega
  have H := Lib.hid h
  clear h
  go_enter Try.func63, Try.ntmps63
  go_wp2_with (first | (go_at_call 58; refine (has_any H.out _).mono ?_; rintro e w' ⟨rfl, rfl⟩; rw [inC_nat hi]) | (go_at_call 82; refine (aload gn _ _ _ (H.out.at hi)).mono ?_; rintro e w' ⟨rfl, rfl⟩))
  go_ret
  exact ⟨rfl, rfl⟩
theorem load_out (h : Cl w gc gn n l) (i : Int) (hi : inC n i = false) :
    Calls Try.prog 63 #[.pointer (some ⟨gc, 0, none⟩), .int .i64 i] w fun e w' => e = .returned (.int .u64 0) ∧ w = w' := by
  have H := Lib.hid h
  clear h
  go_enter Try.func63, Try.ntmps63
  go_wp2_with (go_at_call 58; refine (has_any H.out _).mono ?_; rintro e w' ⟨rfl, rfl⟩; rw [hi])
  go_ret
  exact ⟨rfl, rfl⟩
theorem load_nil (i : Int) (w : World) :
    Calls Try.prog 63 #[.pointer none, .int .i64 i] w fun e w' => e = .returned (.int .u64 0) ∧ w = w' := by
  go_enter Try.func63, Try.ntmps63
  go_wp2_with (go_at_call 58; refine (has_nil _ _).mono ?_; rintro e w' ⟨rfl, rfl⟩)
  go_ret
  exact ⟨rfl, rfl⟩

theorem store_any (h : Cl w gc gn n l) (i : Nat) (hi : i < n) (y : Int) :
    Calls Try.prog 40 #[.pointer (some ⟨gc, 0, none⟩), .int .i64 i, .int .u64 y] w fun e w' => e = .returned (.tuple #[]) ∧ w' = w.setCell ⟨gn, i, none⟩ (.int .u64 y) := by
  have h0 := h.st.cell 0
  simp only [List.getElem?_toArray, List.getElem?_cons_zero] at h0
  have hi' : (i : Int) < (n : Int) := by omega
  have H := Lib.hid h
  clear h
  go_enter Try.func40, Try.ntmps40
  go_wp2_with (first | (go_at_call 58; refine (has_any H.out _).mono ?_; rintro e w' ⟨rfl, rfl⟩; rw [inC_nat hi]) | (go_at_call 59; refine (astore gn _ _ _ _ (H.out.at hi) (H.out.free _)).mono ?_; rintro e w' ⟨rfl, rfl⟩))
  go_end0
  exact ⟨rfl, rfl⟩
theorem store_out (h : Cl w gc gn n l) (i : Int) (hi : inC n i = false) (y : Int) :
    Calls Try.prog 40 #[.pointer (some ⟨gc, 0, none⟩), .int .i64 i, .int .u64 y] w fun e w' => e = .returned (.tuple #[]) ∧ w = w' := by
  have H := Lib.hid h
  clear h
  go_enter Try.func40, Try.ntmps40
  go_wp2_with (go_at_call 58; refine (has_any H.out _).mono ?_; rintro e w' ⟨rfl, rfl⟩; rw [hi])
  go_end0
  exact ⟨rfl, rfl⟩
theorem store_nil (i y : Int) (w : World) :
    Calls Try.prog 40 #[.pointer none, .int .i64 i, .int .u64 y] w fun e w' => e = .returned (.tuple #[]) ∧ w = w' := by
  go_enter Try.func40, Try.ntmps40
  go_wp2_with (go_at_call 58; refine (has_nil _ _).mono ?_; rintro e w' ⟨rfl, rfl⟩)
  go_end0
  exact ⟨rfl, rfl⟩

theorem cas_hit (h : Cl w gc gn n l) (i : Nat) (hi : i < n) (y : Int) :
    Calls Try.prog 65 #[.pointer (some ⟨gc, 0, none⟩), .int .i64 i, .int .u64 (l.getD i 0), .int .u64 y] w fun e w' => e = .returned (.bool true) ∧ w' = w.setCell ⟨gn, i, none⟩ (.int .u64 y) := by
  have h0 := h.st.cell 0
  simp only [List.getElem?_toArray, List.getElem?_cons_zero] at h0
  have hi' : (i : Int) < (n : Int) := by omega
  have H := Lib.hid h
  clear h
  go_enter Try.func65, Try.ntmps65
  go_wp2_with (first | (go_at_call 58; refine (has_any H.out _).mono ?_; rintro e w' ⟨rfl, rfl⟩; rw [inC_nat hi]) | (go_at_call 83; refine (acas_hit gn _ _ _ _ (H.out.at hi) (H.out.free _)).mono ?_; rintro e w' ⟨rfl, rfl⟩))
  go_ret
  exact ⟨rfl, rfl⟩
theorem cas_miss (h : Cl w gc gn n l) (i : Nat) (hi : i < n) (o y : Int) (hne : ¬ l.getD i 0 = o) :
    Calls Try.prog 65 #[.pointer (some ⟨gc, 0, none⟩), .int .i64 i, .int .u64 o, .int .u64 y] w fun e w' => e = .returned (.bool false) ∧ w = w' := by
  have h0 := h.st.cell 0
  simp only [List.getElem?_toArray, List.getElem?_cons_zero] at h0
  have hi' : (i : Int) < (n : Int) := by omega
  have H := Lib.hid h
  have HN := Lib.hid hne
  clear h hne
  go_enter Try.func65, Try.ntmps65
  go_wp2_with (first | (go_at_call 58; refine (has_any H.out _).mono ?_; rintro e w' ⟨rfl, rfl⟩; rw [inC_nat hi]) | (go_at_call 83; refine (acas_miss gn _ _ _ _ _ (H.out.at hi) (H.out.free _) HN.out).mono ?_; rintro e w' ⟨rfl, rfl⟩))
  go_ret
  exact ⟨rfl, rfl⟩
theorem cas_yes (h : Cl w gc gn n l) (i : Nat) (hi : i < n) (o y : Int) (he : l.getD i 0 = o) :
    Calls Try.prog 65 #[.pointer (some ⟨gc, 0, none⟩), .int .i64 i, .int .u64 o, .int .u64 y] w fun e w' => e = .returned (.bool true) ∧ w' = w.setCell ⟨gn, i, none⟩ (.int .u64 y) := by
  subst he; exact cas_hit h i hi y
theorem cas_out (h : Cl w gc gn n l) (i : Int) (hi : inC n i = false) (o y : Int) :
    Calls Try.prog 65 #[.pointer (some ⟨gc, 0, none⟩), .int .i64 i, .int .u64 o, .int .u64 y] w fun e w' => e = .returned (.bool false) ∧ w = w' := by
  have H := Lib.hid h
  clear h
  go_enter Try.func65, Try.ntmps65
  go_wp2_with (go_at_call 58; refine (has_any H.out _).mono ?_; rintro e w' ⟨rfl, rfl⟩; rw [hi])
  go_ret
  exact ⟨rfl, rfl⟩
theorem cas_nil (i o y : Int) (w : World) :
    Calls Try.prog 65 #[.pointer none, .int .i64 i, .int .u64 o, .int .u64 y] w fun e w' => e = .returned (.bool false) ∧ w = w' := by
  go_enter Try.func65, Try.ntmps65
  go_wp2_with (go_at_call 58; refine (has_nil _ _).mono ?_; rintro e w' ⟨rfl, rfl⟩)
  go_ret
  exact ⟨rfl, rfl⟩

theorem load_eq (h : Cl w gc gn n l) (i : Nat) (hi : i < n) (x : Int) (hx : l.getD i 0 = x) :
    Calls Try.prog 63 #[.pointer (some ⟨gc, 0, none⟩), .int .i64 i] w fun e w' => e = .returned (.int .u64 x) ∧ w = w' := by
  subst hx; exact load_any h i hi
theorem m64_u (x : Int) : U64 (m64 x) := by unfold m64 U64; omega
end
end Go.Proofs.Ytmbceafeonjffaa

namespace Go.Proofs.Ytmbceafeonjffaa
open Go.RowKit Plain
set_option linter.unusedVariables false
set_option maxRecDepth 100000

theorem infoU : (Try.prog.info? 108).map (fun i => (i.zero, i.size, i.bytes)) = some (some (.agg #[.int .u64 0]), 1, 8) := by kernel_rfl
theorem made64 (n : Nat) : madeCells (Value.agg #[.int .u64 0]).cells (n * 1) = ((List.replicate n (0 : Int)).map (Value.int .u64)).toArray := by
  apply Array.ext'
  rw [show (Value.agg #[.int .u64 0]).cells = #[Value.int .u64 0] from rfl, toList_madeCells_one, Nat.mul_one, List.map_replicate]
theorem run_mk64 (n : Nat) (hn : n ≤ 1000000) (w : World) : (Instr.makeSlice 91 (.int .i64 n) (.int .i64 n)).run Try.prog w = .ok (.slice (some ⟨w.heap.size, 0, none⟩) n n) (w.alloc (.cells ((List.replicate n (0 : Int)).map (Value.int .u64)).toArray 108)) := by
  obtain ⟨i, hi, hz, hs, hb⟩ := info_parts infoU
  have h := run_make (P := Try.prog) w 91 108 i _ Try.underlying91 hi hz .i64 .i64 n n (by omega) (by omega) (by rw [hb]; omega) (by omega)
  rw [hs, Int.toNat_natCast, made64] at h
  exact h

theorem new_any (n : Nat) (h1 : 1 ≤ n) (h2 : n ≤ 65536) (w : World) :
    Calls Try.prog 38 #[.int .i64 n] w fun e w' => e = .returned (.tuple #[.pointer (some ⟨w.heap.size + 1, 0, none⟩), .int .i64 0]) ∧ Cl w' (w.heap.size + 1) w.heap.size n (List.replicate n 0) ∧ Below w.heap.size w w' ∧ w'.heap.size = w.heap.size + 2 := by
  have hm := run_mk64 n (by omega) w
  have d1 : decide ((n : Int) < 1) = false := by simp; omega
  have d2 : decide ((65536 : Int) < (n : Int)) = false := by simp; omega
  go_enter Try.func38, Try.ntmps38
  go_wp2
  go_ret2
  refine ⟨rfl, ⟨List.length_replicate, ?_, ?_, by omega, ?_⟩, ((Below.refl _ _).alloc (Nat.le_refl _) _).alloc (by simp) _, by simp⟩
  · have := Blk.new (w.alloc (.cells (Array.replicate n (Value.int .u64 0)) 108)) 104 #[.slice (some ⟨w.heap.size, 0, none⟩) n n, .int .u32 0, .int .i32 0, .int .u32 0]
    rw [show (w.alloc (.cells (Array.replicate n (Value.int .u64 0)) 108)).heap.size = w.heap.size + 1 by simp] at this
    exact this
  · rw [show ((List.replicate n (0 : Int)).map (Value.int .u64)).toArray = Array.replicate n (Value.int .u64 0) by simp]
    exact (Blk.new w 108 _).alloc _
  · intro x hx
    rw [List.eq_of_mem_replicate hx]; unfold U64; omega
theorem new_bad (n : Int) (h : n < 1 ∨ 65536 < n) (w : World) :
    Calls Try.prog 38 #[.int .i64 n] w fun e w' => e = .returned (.tuple #[.pointer none, .int .i64 1]) ∧ w = w' := by
  rcases h with h | h
  · have d1 : decide (n < 1) = true := by simpa using h
    go_enter Try.func38, Try.ntmps38
    go_wp2
    go_ret2
    exact ⟨rfl, rfl⟩
  · have d1 : decide (n < 1) = false := by simp; omega
    have d2 : decide ((65536 : Int) < n) = true := by simpa using h
    go_enter Try.func38, Try.ntmps38
    go_wp2
    go_ret2
    exact ⟨rfl, rfl⟩


end Go.Proofs.Ytmbceafeonjffaa

namespace Go.Proofs.Ytmbceafeonjffaa
open Go.RowKit Plain
set_option linter.unusedVariables false
set_option maxRecDepth 100000

theorem Cl.keep {bs : List Nat} {w w' : World} {gc gn n : Nat} {l : List Int} (h : Cl w gc gn n l) (hk : Keep bs w w') (h1 : gc ∉ bs) (h2 : gn ∉ bs) : Cl w' gc gn n l := ⟨h.len, hk.blk h.st h1, hk.blk h.nu h2, h.ne, h.rg⟩
end Go.Proofs.Ytmbceafeonjffaa

namespace Go.Proofs.Ytmbceafeonjffaa
open Go.RowKit Plain
set_option linter.unusedVariables false
set_option maxRecDepth 100000

theorem info64 : (Try.prog.info? 23).map (fun i => (i.zero, i.size, i.bytes)) = some (some (.int .u64 0), 1, 8) := by kernel_rfl
theorem mk64 (n : Nat) (hn : n ≤ 1000000) (w : World) : (Instr.makeSlice 43 (.int .i64 n) (.int .i64 n)).run Try.prog w = .ok (.slice (some ⟨w.heap.size, 0, none⟩) n n) (w.alloc (.cells ((List.replicate n (0 : Int)).map (Value.int .u64)).toArray 23)) :=
  run_mkN 43 23 .u64 8 Try.underlying43 info64 (by omega) n hn w

set_option maxHeartbeats 1000000 in
theorem copy_any {w : World} {gc gn n : Nat} {l : List Int} (h : Cl w gc gn n l) (hn : n ≤ 65536) :
    Calls Try.prog 52 #[.pointer (some ⟨gc, 0, none⟩)] w fun e w' => e = .returned (.slice (some ⟨w.heap.size, 0, none⟩) n n) ∧ Row .u64 23 w' w.heap.size l ∧ Below w.heap.size w w' := by
  have H := Lib.hid h
  have hm := mk64 n (by omega) w
  have lc := h.st.lt
  clear h
  go_enter Try.func52, Try.ntmps52
  go_wp2_with (go_at_call 39; refine (size_any H.out).mono ?_; rintro e w' ⟨rfl, rfl⟩)
  clear hm
  go_loopw [10] (fun i wr => ∃ (k : Nat) (zs : List Int), i = .int .i64 k ∧ k ≤ n ∧ zs.length = n ∧ (∀ j, j < k → zs.getD j 0 = l.getD j 0) ∧ Row .u64 23 wr w.heap.size zs ∧ Below w.heap.size w wr) (fun i _ => n - (intOf i).toNat)
  case atStart =>
    refine ⟨0, List.replicate n 0, rfl, by omega, List.length_replicate, (fun j hj => absurd hj (by omega)), ?_, (Below.refl _ _).alloc (Nat.le_refl _) _⟩
    have := Row.made .u64 23 w n
    rw [show ((List.replicate n (0 : Int)).map (Value.int .u64)).toArray = Array.replicate n (Value.int .u64 0) by simp] at this
    exact this
  case round =>
    obtain ⟨k, zs, rfl, hk, hz, ha, hr, hb⟩ := hrel
    have HZ := Lib.hid hz
    have HA := Lib.hid ha
    have HR := Lib.hid hr
    have HB := Lib.hid hb
    clear hz ha hr hb
    by_cases hlt : k < n
    · have i0 : (k : Int) < (n : Int) := by omega
      go_wp2_with fail
      refine (load_any (H.out.below HB.out) k hlt).mono ?_
      rintro e w2 ⟨rfl, rfl⟩
      have c0 := HR.out.at (i := k) (by rw [HZ.out]; exact hlt)
      have f0 := HR.out.free k
      go_wp2
      go_roundw
      case rel => exact ⟨k + 1, zs.set k (l.getD k 0), by go_num, by omega, by rw [List.length_set]; exact HZ.out, agree_set HA.out (by rw [HZ.out]; exact hlt), HR.out.set k _, HB.out.setCell (Nat.le_refl _) _⟩
      case measure => simp [intOf]; omega
    · obtain rfl : k = n := by omega
      go_wp2
      go_ret
      refine ⟨rfl, ?_, HB.out⟩
      rw [← agree_all (zs := zs) (l := l) (by rw [HZ.out, H.out.len]) (by rw [H.out.len]; exact HA.out)]
      exact HR.out
theorem copy_nil (w : World) :
    Calls Try.prog 52 #[.pointer none] w fun e w' => e = .returned (.slice (some ⟨w.heap.size, 0, none⟩) 0 0) ∧ Below w.heap.size w w' := by
  have hm := mk64 0 (by omega) w
  rw [show ((0 : Nat) : Int) = 0 from rfl] at hm
  go_enter Try.func52, Try.ntmps52
  go_wp2_with (go_at_call 39; refine (size_nil _).mono ?_; rintro e w' ⟨rfl, rfl⟩)
  clear hm
  go_loopw [10] (fun i wr => i = .int .i64 0 ∧ Below w.heap.size w wr) (fun i _ => 0)
  case atStart =>
    exact ⟨rfl, (Below.refl _ _).alloc (Nat.le_refl _) _⟩
  case round =>
    obtain ⟨rfl, hb⟩ := hrel
    go_wp2
    go_ret
    exact ⟨rfl, hb⟩
end Go.Proofs.Ytmbceafeonjffaa
