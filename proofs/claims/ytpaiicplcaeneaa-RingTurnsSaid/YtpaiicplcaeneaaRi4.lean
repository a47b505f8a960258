/-
  Package ring: End, Value, New, Len. Conditions stand in each theorem.
-/
import Derived.Test.YtpaiicplcaeneaaRi3
namespace Go.Proofs.Ytpaiicplcaeneaa
open Go.RowKit Plain
set_option linter.unusedVariables false
set_option maxRecDepth 100000
section
variable {w : World} {gr gc gn N : Nat} {pu go : Nat} {l : List Int} {P G : Option Nat} {p g : RSt} {v en : Int} {td : Bool}
theorem end_over {a : Nat} (hb : Blk w a 103 ((RSt.mk 0 v en td).cs gr)) :
    Calls Try.prog 19 #[.pointer (some ⟨a, 0, none⟩)] w fun e w' => e = .returned (.int .i64 en) ∧ w = w' := by
  have c0 : w.cell? ⟨a, 0, none⟩ = some (.pointer (some ⟨gr, 0, none⟩)) := hb.cell 0
  have c1 : w.cell? ⟨a, 1, none⟩ = some (.int .i64 0) := hb.cell 1
  have c3 : w.cell? ⟨a, 3, none⟩ = some (.int .i64 en) := hb.cell 3
  clear hb
  go_enter Try.func19, Try.ntmps19
  go_wp2
  go_ret
  exact ⟨rfl, rfl⟩
theorem end_on {a k : Nat} (hk : k ≠ 0) (hb : Blk w a 103 ((RSt.mk k v en td).cs gr)) :
    Calls Try.prog 19 #[.pointer (some ⟨a, 0, none⟩)] w fun e w' => e = .returned (.int .i64 11) ∧ w = w' := by
  have c0 : w.cell? ⟨a, 0, none⟩ = some (.pointer (some ⟨gr, 0, none⟩)) := hb.cell 0
  have c1 : w.cell? ⟨a, 1, none⟩ = some (.int .i64 k) := hb.cell 1
  have b1 : ((k : Int) != 0) = true := by simp; omega
  clear hb hk
  go_enter Try.func19, Try.ntmps19
  go_wp2
  go_ret
  exact ⟨rfl, rfl⟩
theorem end_nil (w : World) : Calls Try.prog 19 #[.pointer none] w fun e w' => e = .returned (.int .i64 11) ∧ w = w' := by
  go_enter Try.func19, Try.ntmps19
  go_wp2
  go_ret
  exact ⟨rfl, rfl⟩
theorem value_any {a : Nat} {s : RSt} (hb : Blk w a 103 (s.cs gr)) :
    Calls Try.prog 20 #[.pointer (some ⟨a, 0, none⟩)] w fun e w' => e = .returned (.int .u64 (if s.td = true then s.v else 0)) ∧ w = w' := by
  obtain ⟨nx, v, en, td⟩ := s
  have c2 : w.cell? ⟨a, 2, none⟩ = some (.int .u64 v) := hb.cell 2
  have c4 : w.cell? ⟨a, 4, none⟩ = some (.bool td) := hb.cell 4
  clear hb
  cases td with
  | true =>
    rw [if_pos rfl]
    go_enter Try.func20, Try.ntmps20
    go_wp2
    go_ret
    exact ⟨rfl, rfl⟩
  | false =>
    rw [if_neg (by simp)]
    go_enter Try.func20, Try.ntmps20
    go_wp2
    go_ret
    exact ⟨rfl, rfl⟩
theorem value_nil (w : World) : Calls Try.prog 20 #[.pointer none] w fun e w' => e = .returned (.int .u64 0) ∧ w = w' := by
  go_enter Try.func20, Try.ntmps20
  go_wp2
  go_ret
  exact ⟨rfl, rfl⟩
/-- a new ring -/
def NewOk (n : Nat) (w : World) (e : Ending) (w' : World) : Prop :=
  ∃ gr gc gn, e = .returned (.tuple #[.pointer (some ⟨gr, 0, none⟩), .int .i64 0]) ∧ RgB w' gr gc gn n 0 0 (List.replicate (n + 2) 0) none none ⟨0, 0, 0, false⟩ ⟨0, 0, 0, false⟩ ∧ Below w.heap.size w w' ∧ w.heap.size ≤ gr ∧ w.heap.size ≤ gc ∧ w.heap.size ≤ gn
set_option maxHeartbeats 1000000 in
theorem rNew_any (n : Nat) (h1 : 1 ≤ n) (h2 : n ≤ 256) (w : World) :
    Calls Try.prog 21 #[.int .i64 n] w (NewOk n w) := by
  have HN := Lib.hid (new_any (n + 2) (by omega) (by omega) w)
  have d1 : decide ((n : Int) < 1) = false := by simp; omega
  have d2 : decide ((n : Int) > 256) = false := by simp; omega
  have d3 : decide ((256 : Int) < (n : Int)) = false := by simp; omega
  have e1 : ((n + 2 : Nat) : Int) = 2 + (n : Int) := by omega
  have e2 : IntKind.i64.wrap (2 + (n : Int)) = 2 + (n : Int) := by rw [IntKind.wrap_i64]; omega
  have e3 : IntKind.u64.wrap (n : Int) = (n : Int) := by rw [IntKind.wrap_u64]; omega
  rw [e1] at HN
  clear e1
  go_enter Try.func21, Try.ntmps21
  go_wp2_with fail
  refine (HN.out).mono ?_
  rintro e w2 ⟨rfl, hc, hb, hs⟩
  have HC := Lib.hid hc
  have HB := Lib.hid hb
  have hs' : w.heap.size ≤ w2.heap.size := by omega
  clear hc hb hs HN d1 d2 d3
  obtain ⟨ga, hga⟩ : ∃ x, x = w.heap.size := ⟨_, rfl⟩
  obtain ⟨gb, hgb⟩ : ∃ x, x = w.heap.size + 1 := ⟨_, rfl⟩
  have hgl : w.heap.size ≤ gb := by omega
  have hgl2 : w.heap.size ≤ ga := by omega
  rw [← hgb, ← hga] at HC
  rw [← hgb]
  clear hga hgb
  go_wp2
  go_ret2
  refine ⟨w2.heap.size, gb, ga, rfl, ⟨?_, HC.out.alloc _, by simp, by simp, h1, h2, by simp⟩, bthen HB.out (ball _ _), hs', hgl, hgl2⟩
  exact Blk.new w2 _ _
/-- the cells when all rests: how many were got, how many were put, the numbers -/
def nL (go pu : Nat) (vs : List Int) : List Int := (go : Int) :: (pu : Int) :: vs
set_option maxHeartbeats 1000000 in
theorem rLen_any {vs : List Int} {pu' go' : Int} (h : RgB w gr gc gn N pu' go' (nL go pu vs) P G p g) (h1 : go ≤ pu) (h2 : pu ≤ go + N) (h3 : pu ≤ 1000000) :
    Calls Try.prog 16 #[.pointer (some ⟨gr, 0, none⟩)] w fun e w' => e = .returned (.int .i64 ((pu - go : Nat) : Int)) ∧ Below w.heap.size w w' := by
  have r0 : w.cell? ⟨gr, 0, none⟩ = some (.pointer (some ⟨gc, 0, none⟩)) := h.rs.cell 0
  have r1 : w.cell? ⟨gr, 1, none⟩ = some (.int .u64 N) := h.rs.cell 1
  have HL0 := Lib.hid (load_eq h.cl 0 (by omega) (go : Int) rfl)
  have HL1 := Lib.hid (fun q => load_eq (h.cl.drewN q) 1 (by omega) (pu : Int) rfl)
  have n2 := h.n2
  have e1 : IntKind.u64.wrap ((pu : Int) - (go : Int)) = (pu : Int) - (go : Int) := by rw [IntKind.wrap_u64]; omega
  have e2 : (if (pu : Int) - (go : Int) ≤ (N : Int) then (pu : Int) - (go : Int) else (N : Int)) = (pu : Int) - (go : Int) := by rw [if_pos (by omega)]
  have e3 : IntKind.i64.wrap ((pu : Int) - (go : Int)) = (pu : Int) - (go : Int) := by rw [IntKind.wrap_i64]; omega
  have HE := Lib.hid (show (pu : Int) - (go : Int) = ((pu - go : Nat) : Int) by omega)
  clear h
  go_enter Try.func16, Try.ntmps16
  go_upto_region 4 with (go_at_call 10; refine (HL0.out).mono ?_; rintro e w' ⟨rfl, rfl⟩)
  go_quiet ((go_at_call 10; exact quietB (HL1.out _)))
  go_wp2
  go_ret
  exact ⟨by rw [← HE.out]; rfl, bdrewN _ _⟩
end
end Go.Proofs.Ytpaiicplcaeneaa
