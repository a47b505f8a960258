/-
  The document's epochs (fanlightref07): New. Conditions stand in each theorem.
-/
import Derived.Test.YthkmpcfjeclejaaRe
namespace Go.Proofs.Ythkmpcfjeclejaa
open Go.RowKit Go.Deep Plain
set_option linter.unusedVariables false
set_option maxRecDepth 100000

theorem infoSt : (Try.prog.info? 114).map (fun i => (i.zero, i.size, i.bytes)) = some (some (.agg #[.bool false, .bool false, .int .i64 0, .int .i64 0]), 4, 24) := by kernel_rfl
theorem infoTv : (Try.prog.info? 116).map (fun i => (i.zero, i.size, i.bytes)) = some (some (.slice none 0 0), 1, 24) := by kernel_rfl
theorem infoIn : (Try.prog.info? 3).map (fun i => (i.zero, i.size, i.bytes)) = some (some (.int .i64 0), 1, 8) := by kernel_rfl
theorem madeS (a b c d : Value) (n i : Nat) (hi : i < n) : (madeCells #[a, b, c, d] (n * 4))[i * 4]? = some a ∧ (madeCells #[a, b, c, d] (n * 4))[i * 4 + 1]? = some b ∧ (madeCells #[a, b, c, d] (n * 4))[i * 4 + 2]? = some c ∧ (madeCells #[a, b, c, d] (n * 4))[i * 4 + 3]? = some d := by
  have h0 : i * 4 < n * 4 := by omega
  have h1 : i * 4 + 1 < n * 4 := by omega
  have h2 : i * 4 + 2 < n * 4 := by omega
  have h3 : i * 4 + 3 < n * 4 := by omega
  have m0 : i * 4 % 4 = 0 := by omega
  have m1 : (i * 4 + 1) % 4 = 1 := by omega
  have m2 : (i * 4 + 2) % 4 = 2 := by omega
  have m3 : (i * 4 + 3) % 4 = 3 := by omega
  refine ⟨?_, ?_, ?_, ?_⟩ <;> simp [madeCells, h0, h1, h2, h3, m0, m1, m2, m3]
def oS (n : Nat) : Obj := .cells (madeCells #[.bool false, .bool false, .int .i64 0, .int .i64 0] (n * 4)) 114
def oP (n : Nat) : Obj := .cells (Array.replicate n (Value.int .i64 0)) 3
def oV (n : Nat) : Obj := .cells (Array.replicate n (Value.slice none 0 0)) 116
theorem run_mkSt (n : Nat) (hn : n ≤ 64) (w : World) : (Instr.makeSlice 54 (.int .i64 n) (.int .i64 n)).run Try.prog w = .ok (.slice (some ⟨w.heap.size, 0, none⟩) n n) (w.alloc (oS n)) := by
  obtain ⟨i, hi, hz, hs, hb⟩ := info_parts infoSt
  have h := run_make (P := Try.prog) w 54 114 i _ Try.underlying54 hi hz .i64 .i64 n n (by omega) (by omega) (by rw [hb]; omega) (by omega)
  rw [hs, Int.toNat_natCast] at h
  exact h
theorem run_mkTv (n : Nat) (hn : n ≤ 64) (w : World) : (Instr.makeSlice 55 (.int .i64 n) (.int .i64 n)).run Try.prog w = .ok (.slice (some ⟨w.heap.size, 0, none⟩) n n) (w.alloc (oV n)) := by
  obtain ⟨i, hi, hz, hs, hb⟩ := info_parts infoTv
  have h := run_make (P := Try.prog) w 55 116 i _ Try.underlying55 hi hz .i64 .i64 n n (by omega) (by omega) (by rw [hb]; omega) (by omega)
  have e1 : madeCells (Value.slice none 0 0).cells (n * 1) = Array.replicate n (Value.slice none 0 0) := by
    apply Array.ext'
    rw [show (Value.slice none 0 0).cells = #[Value.slice none 0 0] from rfl, toList_madeCells_one, Nat.mul_one]; simp
  rw [hs, Int.toNat_natCast, e1] at h
  exact h
theorem run_mkIn (n : Nat) (hn : n ≤ 64) (w : World) : (Instr.makeSlice 53 (.int .i64 n) (.int .i64 n)).run Try.prog w = .ok (.slice (some ⟨w.heap.size, 0, none⟩) n n) (w.alloc (oP n)) := by
  have h := run_mkN 53 3 .i64 8 Try.underlying53 infoIn (by omega) n (by omega) w
  have er : ((List.replicate n (0 : Int)).map (Value.int .i64)).toArray = Array.replicate n (Value.int .i64 0) := by simp
  rw [er] at h
  exact h
theorem heap4 (w : World) (o1 o2 o3 o4 : Obj) : ((((w.alloc o1).alloc o2).alloc o3).alloc o4).drew.heap[w.heap.size]? = some o1 ∧ ((((w.alloc o1).alloc o2).alloc o3).alloc o4).drew.heap[w.heap.size + 1]? = some o2 ∧ ((((w.alloc o1).alloc o2).alloc o3).alloc o4).drew.heap[w.heap.size + 1 + 1]? = some o3 ∧ ((((w.alloc o1).alloc o2).alloc o3).alloc o4).drew.heap[w.heap.size + 1 + 1 + 1]? = some o4 := by
  have s1 : (w.alloc o1).heap.size = w.heap.size + 1 := World.size_alloc _ _
  have s2 : ((w.alloc o1).alloc o2).heap.size = w.heap.size + 1 + 1 := by rw [World.size_alloc, s1]
  have s3 : (((w.alloc o1).alloc o2).alloc o3).heap.size = w.heap.size + 1 + 1 + 1 := by rw [World.size_alloc, s2]
  have a1 := heap_alloc_new w o1
  have a2 := heap_alloc_new (w.alloc o1) o2
  rw [s1] at a2
  have a3 := heap_alloc_new ((w.alloc o1).alloc o2) o3
  rw [s2] at a3
  have a4 := heap_alloc_new (((w.alloc o1).alloc o2).alloc o3) o4
  rw [s3] at a4
  refine ⟨?_, ?_, ?_, a4⟩
  · exact (heap_alloc_old _ o4 (by omega)).trans ((heap_alloc_old _ o3 (by omega)).trans ((heap_alloc_old _ o2 (by omega)).trans a1))
  · exact (heap_alloc_old _ o4 (by omega)).trans ((heap_alloc_old _ o3 (by omega)).trans a2)
  · exact (heap_alloc_old _ o4 (by omega)).trans a3
theorem b4all (w : World) (o1 o2 o3 o4 : Obj) : Below w.heap.size w ((((w.alloc o1).alloc o2).alloc o3).alloc o4).drew :=
  below_drewN (bthen (bthen (bthen (ball w o1) (ball _ o2)) (ball _ o3)) (ball _ o4)) 1
def NwP (w : World) (n : Nat) (e : Ending) (w' : World) : Prop :=
  ∃ gr gp gs gv : Nat, e = .returned (.pointer (some ⟨gr, 0, none⟩)) ∧ ReB w' gr gp gs gv n 0 (List.replicate n 0) (fun _ => tz) ∧ Blk w' gv 116 (List.replicate n (Value.slice none 0 0)).toArray ∧ Below w.heap.size w w' ∧ w.heap.size ≤ gr ∧ w.heap.size ≤ gp ∧ w.heap.size ≤ gs ∧ w.heap.size ≤ gv
theorem NwP.of {w W : World} {n gr gp gs gv : Nat} (h1 : 1 ≤ n) (h2 : n ≤ 64) (hr : W.heap[gr]? = some (.cells #[.int .i64 0, .slice (some ⟨gp, 0, none⟩) n n, .slice (some ⟨gs, 0, none⟩) n n, .slice (some ⟨gv, 0, none⟩) n n] 57)) (hp : W.heap[gp]? = some (oP n)) (hs : W.heap[gs]? = some (oS n)) (hv : W.heap[gv]? = some (oV n)) (hb : Below w.heap.size w W)
    (b1 : w.heap.size ≤ gr) (b2 : w.heap.size ≤ gp) (b3 : w.heap.size ≤ gs) (b4 : w.heap.size ≤ gv) : NwP w n (.returned (.pointer (some ⟨gr, 0, none⟩))) W := by
  have es : Blk W gs 114 (madeCells #[.bool false, .bool false, .int .i64 0, .int .i64 0] (n * 4)) := hs
  refine ⟨gr, gp, gs, gv, rfl, ⟨hr, ?_, List.length_replicate, ⟨_, es⟩, fun i hi => ?_, h1, h2⟩, ?_, hb, b1, b2, b3, b4⟩
  · show Blk W gp 3 ((List.replicate n (0 : Int)).map (Value.int .i64)).toArray
    rw [show ((List.replicate n (0 : Int)).map (Value.int .i64)).toArray = Array.replicate n (Value.int .i64 0) by simp]
    exact hp
  · obtain ⟨q0, q1, q2, q3⟩ := madeS (.bool false) (.bool false) (.int .i64 0) (.int .i64 0) n i hi
    rw [es.cell, es.cell, es.cell, es.cell]
    exact ⟨q0, q1, q2, q3⟩
  · rw [show (List.replicate n (Value.slice none 0 0)).toArray = Array.replicate n (Value.slice none 0 0) by simp]
    exact hv

set_option maxHeartbeats 8000000 in
theorem rNew_any (n : Nat) (h1 : 1 ≤ n) (h2 : n ≤ 64) (w : World) :
    Calls Try.prog 22 #[.int .i64 n] w (NwP w n) := by
  have k1 := fun W => run_mkSt n h2 W
  have k2 := fun W => run_mkTv n h2 W
  have k3 := fun W => run_mkIn n h2 W
  go_enter Try.func22, Try.ntmps22
  go_upto_region 1 with fail
  go_region
  all_goals
    go_wp2
    go_ret
    have hh := heap4 w
    first
      | exact NwP.of h1 h2 (hh _ _ _ _).2.2.2 (hh _ _ _ _).1 (hh _ _ _ _).2.1 (hh _ _ _ _).2.2.1 (b4all w _ _ _ _) (by omega) (by omega) (by omega) (by omega)
      | exact NwP.of h1 h2 (hh _ _ _ _).2.2.2 (hh _ _ _ _).1 (hh _ _ _ _).2.2.1 (hh _ _ _ _).2.1 (b4all w _ _ _ _) (by omega) (by omega) (by omega) (by omega)
      | exact NwP.of h1 h2 (hh _ _ _ _).2.2.2 (hh _ _ _ _).2.1 (hh _ _ _ _).1 (hh _ _ _ _).2.2.1 (b4all w _ _ _ _) (by omega) (by omega) (by omega) (by omega)
      | exact NwP.of h1 h2 (hh _ _ _ _).2.2.2 (hh _ _ _ _).2.1 (hh _ _ _ _).2.2.1 (hh _ _ _ _).1 (b4all w _ _ _ _) (by omega) (by omega) (by omega) (by omega)
      | exact NwP.of h1 h2 (hh _ _ _ _).2.2.2 (hh _ _ _ _).2.2.1 (hh _ _ _ _).1 (hh _ _ _ _).2.1 (b4all w _ _ _ _) (by omega) (by omega) (by omega) (by omega)
      | exact NwP.of h1 h2 (hh _ _ _ _).2.2.2 (hh _ _ _ _).2.2.1 (hh _ _ _ _).2.1 (hh _ _ _ _).1 (b4all w _ _ _ _) (by omega) (by omega) (by omega) (by omega)
end Go.Proofs.Ythkmpcfjeclejaa
