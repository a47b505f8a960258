/-
  The document's ring (fanlightref20): how it lies in memory; Do. Conditions stand in each theorem.
-/
import Derived.Test.YtpaiicplcaeneaaUow
namespace Go.Proofs.Ytpaiicplcaeneaa
open Go.RowKit Plain
set_option linter.unusedVariables false
set_option maxRecDepth 100000
structure FSt where
  kd : Int
  at' : Nat
  v : Int
  er : Int
  ov : Bool
abbrev FSt.cs (s : FSt) : Array Value := #[.int .i64 s.kd, .int .i64 s.at', .int .u64 s.v, .int .i64 s.er, .bool s.ov]
/-- the document's ring in block gf, its numbers in gl, its last steps in P and G -/
structure RfB (w : World) (gf gl N : Nat) (go hd : Nat) (vs : List Int) (P G : Option Nat) (p g : FSt) : Prop where
  rs : Blk w gf 56 #[.int .i64 N, .int .u64 go, .int .u64 hd, .slice (some ⟨gl, 0, none⟩) N N, ptO P, ptO G]
  rw' : Blk w gl 22 (vs.map (Value.int .u64)).toArray
  len : vs.length = N
  u64 : ∀ x ∈ vs, U64 x
  ps : ∀ a, P = some a → Blk w a 63 p.cs
  gs : ∀ a, G = some a → Blk w a 63 g.cs
  n1 : 1 ≤ N
  n2 : N ≤ 256
  ne : ∀ a, P = some a → G = some a → False
section
variable {w w' : World} {gf gl N go hd : Nat} {vs : List Int} {P G : Option Nat} {p g : FSt}
theorem RfB.below (h : RfB w gf gl N go hd vs P G p g) (hb : Below w.heap.size w w') : RfB w' gf gl N go hd vs P G p g :=
  ⟨h.rs.below hb, h.rw'.below hb, h.len, h.u64, fun a ha => (h.ps a ha).below hb, fun a ha => (h.gs a ha).below hb, h.n1, h.n2, h.ne⟩
theorem RfB.drewN (h : RfB w gf gl N go hd vs P G p g) (q : Nat) : RfB (w.drewN q) gf gl N go hd vs P G p g :=
  ⟨h.rs, h.rw', h.len, h.u64, h.ps, h.gs, h.n1, h.n2, h.ne⟩
theorem RfB.keep {bs : List Nat} (h : RfB w gf gl N go hd vs P G p g) (hk : Keep bs w w') (h1 : gf ∉ bs) (h2 : gl ∉ bs) (h3 : ∀ a, P = some a → a ∉ bs) (h4 : ∀ a, G = some a → a ∉ bs) : RfB w' gf gl N go hd vs P G p g :=
  ⟨hk.blk h.rs h1, hk.blk h.rw' h2, h.len, h.u64, fun a ha => hk.blk (h.ps a ha) (h3 a ha), fun a ha => hk.blk (h.gs a ha) (h4 a ha), h.n1, h.n2, h.ne⟩
theorem RfB.at' (h : RfB w gf gl N go hd vs P G p g) {k : Nat} (hk : k < N) : w.cell? ⟨gl, k, none⟩ = some (.int .u64 (vs.getD k 0)) := by
  rw [h.rw'.cell]
  have := h.len
  have hk' : k < vs.length := by omega
  simp [hk', List.getD]
theorem RfB.setP (h : RfB w gf gl N go hd vs P G p g) {a : Nat} (ha : P = some a) (i : Nat) (v : Value) (p' : FSt) (hp : p'.cs = p.cs.setIfInBounds i v) :
    RfB (w.setCell ⟨a, i, none⟩ v) gf gl N go hd vs P G p' g := by
  have hb := h.ps a ha
  refine ⟨h.rs.ne (p := ⟨a, i, none⟩) (blk_types hb h.rs (by decide)) v, h.rw'.ne (p := ⟨a, i, none⟩) (blk_types hb h.rw' (by decide)) v, h.len, h.u64, fun b hb' => ?_, fun b hb' => ?_, h.n1, h.n2, h.ne⟩
  · rw [ha] at hb'; injection hb' with hb'; subst hb'
    rw [hp]; exact hb.set i v
  · exact (h.gs b hb').ne (p := ⟨a, i, none⟩) (by rintro rfl; exact h.ne _ ha hb') v
theorem RfB.setG (h : RfB w gf gl N go hd vs P G p g) {a : Nat} (ha : G = some a) (i : Nat) (v : Value) (g' : FSt) (hp : g'.cs = g.cs.setIfInBounds i v) :
    RfB (w.setCell ⟨a, i, none⟩ v) gf gl N go hd vs P G p g' := by
  have hb := h.gs a ha
  refine ⟨h.rs.ne (p := ⟨a, i, none⟩) (blk_types hb h.rs (by decide)) v, h.rw'.ne (p := ⟨a, i, none⟩) (blk_types hb h.rw' (by decide)) v, h.len, h.u64, fun b hb' => ?_, fun b hb' => ?_, h.n1, h.n2, h.ne⟩
  · exact (h.ps b hb').ne (p := ⟨a, i, none⟩) (by rintro rfl; exact h.ne _ hb' ha) v
  · rw [ha] at hb'; injection hb' with hb'; subst hb'
    rw [hp]; exact hb.set i v
theorem RfB.setL (h : RfB w gf gl N go hd vs P G p g) (i : Nat) (x : Int) (hx : U64 x) : RfB (w.setCell ⟨gl, i, none⟩ (.int .u64 x)) gf gl N go hd (vs.set i x) P G p g := by
  refine ⟨h.rs.ne (p := ⟨gl, i, none⟩) (blk_types h.rw' h.rs (by decide)) _, ?_, by rw [List.length_set]; exact h.len, ?_, fun a ha => (h.ps a ha).ne (p := ⟨gl, i, none⟩) (blk_types h.rw' (h.ps a ha) (by decide)) _, fun a ha => (h.gs a ha).ne (p := ⟨gl, i, none⟩) (blk_types h.rw' (h.gs a ha) (by decide)) _, h.n1, h.n2, h.ne⟩
  · have := h.rw'.set i (.int .u64 x)
    rw [List.map_set]
    simpa using this
  · intro y hy
    rcases List.mem_or_eq_of_mem_set hy with hy | hy
    · exact h.u64 y hy
    · subst hy; exact hx
theorem RfB.setR (h : RfB w gf gl N go hd vs P G p g) (i : Nat) (v : Value) (go' hd' : Nat) (P' G' : Option Nat) (p' g' : FSt)
    (hr : (#[.int .i64 N, .int .u64 go', .int .u64 hd', .slice (some ⟨gl, 0, none⟩) N N, ptO P', ptO G'] : Array Value) = (#[.int .i64 N, .int .u64 go, .int .u64 hd, .slice (some ⟨gl, 0, none⟩) N N, ptO P, ptO G] : Array Value).setIfInBounds i v)
    (hp : ∀ a, P' = some a → Blk w a 63 p'.cs) (hg : ∀ a, G' = some a → Blk w a 63 g'.cs) (hne : ∀ a, P' = some a → G' = some a → False) :
    RfB (w.setCell ⟨gf, i, none⟩ v) gf gl N go' hd' vs P' G' p' g' :=
  ⟨by rw [hr]; exact h.rs.set i v, h.rw'.ne (p := ⟨gf, i, none⟩) (blk_types h.rs h.rw' (by decide)) v, h.len, h.u64,
   fun a ha => (hp a ha).ne (p := ⟨gf, i, none⟩) (blk_types h.rs (hp a ha) (by decide)) v, fun a ha => (hg a ha).ne (p := ⟨gf, i, none⟩) (blk_types h.rs (hg a ha) (by decide)) v, h.n1, h.n2, hne⟩
theorem fend_any (en : Int) (a : Nat) (s : FSt) (w : World) (h : Blk w a 63 s.cs) :
    Calls Try.prog 43 #[.pointer (some ⟨a, 0, none⟩), .int .i64 en] w fun e w' => e = .returned (.tuple #[]) ∧ w' = (w.setCell ⟨a, 3, none⟩ (.int .i64 en)).setCell ⟨a, 4, none⟩ (.bool true) := by
  have c3 : w.cell? ⟨a, 3, none⟩ = some (.int .i64 s.er) := h.cell 3
  have c4 : w.cell? ⟨a, 4, none⟩ = some (.bool s.ov) := h.cell 4
  have f3 := h.frozen 3
  have f4 := h.frozen 4
  have d4 : (w.setCell ⟨a, 3, none⟩ (.int .i64 en)).cell? ⟨a, 4, none⟩ = some (.bool s.ov) := (h.set 3 _).cell 4
  have e4 : (w.setCell ⟨a, 3, none⟩ (.int .i64 en)).frozen? ⟨a, 4, none⟩ = false := (h.set 3 _).frozen 4
  clear h
  go_enter Try.func43, Try.ntmps43
  go_wp2
  go_end0
  exact ⟨rfl, rfl⟩
/-- what Do leaves -/
def FdoOk (w : World) (gf gl N go hd : Nat) (vs : List Int) (P G : Option Nat) (p g : FSt) (bs : List Nat) (b : Bool) (e : Ending) (w' : World) : Prop :=
  e = .returned (.bool b) ∧ RfB w' gf gl N go hd vs P G p g ∧ Keep bs w w'
theorem fdo_over {a : Nat} {s : FSt} (r : Value) (hs : s.ov = true) (hb : Blk w a 63 s.cs) :
    Calls Try.prog 23 #[r, .pointer (some ⟨a, 0, none⟩)] w fun e w' => e = .returned (.bool true) ∧ w = w' := by
  have c4 : w.cell? ⟨a, 4, none⟩ = some (.bool s.ov) := hb.cell 4
  rw [hs] at c4
  clear hb hs
  go_enter Try.func23, Try.ntmps23
  go_wp2
  go_ret
  exact ⟨rfl, rfl⟩
theorem fdo_nil (r : Value) (w : World) :
    Calls Try.prog 23 #[r, .pointer none] w fun e w' => e = .returned (.bool true) ∧ w = w' := by
  go_enter Try.func23, Try.ntmps23
  go_wp2
  go_ret
  exact ⟨rfl, rfl⟩
end
end Go.Proofs.Ytpaiicplcaeneaa
