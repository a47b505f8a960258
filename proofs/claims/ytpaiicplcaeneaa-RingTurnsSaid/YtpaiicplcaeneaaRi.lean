/-
  Package ring: a ring as it lies in memory, and what a change of one cell makes of it. Conditions stand in each theorem.
-/
import Derived.Test.YtpaiicplcaeneaaCKeep
import Derived.Deep.RegionHeld3
namespace Go.Proofs.Ytpaiicplcaeneaa
open Go.RowKit Plain
set_option linter.unusedVariables false
set_option maxRecDepth 100000

/-- blocks of unlike types are apart -/
theorem blk_types {w : World} {b c : Nat} {t u : TypeId} {cs ds : Array Value} (h : Blk w b t cs) (h' : Blk w c u ds) (hne : t ≠ u) : b ≠ c := by
  rintro rfl
  unfold Blk at h h'
  rw [h] at h'
  injection h' with h'
  injection h' with _ h'
  exact hne h'
/-- a call that leaves the world as it is, among draws -/
theorem quietB {f : FuncId} {args : Array Value} {w : World} {n : Nat} {v : Value} (h : Calls Try.prog f args (w.drewN n) fun e w' => e = .returned v ∧ w.drewN n = w') :
    Calls Try.prog f args (w.drewN n) fun e w' => e = .returned v ∧ ∃ m, w' = w.drewN m := h.mono fun _ _ ⟨he, hw⟩ => ⟨he, n, hw.symm⟩
/-- a Step -/
structure RSt where
  nx : Nat
  v : Int
  en : Int
  td : Bool
abbrev RSt.cs (s : RSt) (gr : Nat) : Array Value := #[.pointer (some ⟨gr, 0, none⟩), .int .i64 s.nx, .int .u64 s.v, .int .i64 s.en, .bool s.td]
abbrev ptO (o : Option Nat) : Value := .pointer (o.map fun g => ⟨g, 0, none⟩)
/-- a ring in block gr, its cells in gc and gn, its last Put in P, its last Get in G -/
structure RgB (w : World) (gr gc gn N : Nat) (pu go : Int) (l : List Int) (P G : Option Nat) (p g : RSt) : Prop where
  rs : Blk w gr 100 #[.pointer (some ⟨gc, 0, none⟩), .int .u64 N, .int .u64 pu, ptO P, .int .u64 go, ptO G]
  cl : Cl w gc gn (N + 2) l
  ps : ∀ a, P = some a → Blk w a 103 (p.cs gr)
  gs : ∀ a, G = some a → Blk w a 103 (g.cs gr)
  n1 : 1 ≤ N
  n2 : N ≤ 256
  ne : ∀ a, P = some a → G = some a → False
section
variable {w w' : World} {gr gc gn N : Nat} {pu go : Int} {l : List Int} {P G : Option Nat} {p g : RSt}
theorem RgB.below (h : RgB w gr gc gn N pu go l P G p g) (hb : Below w.heap.size w w') : RgB w' gr gc gn N pu go l P G p g :=
  ⟨h.rs.below hb, h.cl.below hb, fun a ha => (h.ps a ha).below hb, fun a ha => (h.gs a ha).below hb, h.n1, h.n2, h.ne⟩
theorem RgB.drewN (h : RgB w gr gc gn N pu go l P G p g) (q : Nat) : RgB (w.drewN q) gr gc gn N pu go l P G p g :=
  ⟨h.rs, h.cl.drewN q, h.ps, h.gs, h.n1, h.n2, h.ne⟩
/-- a change in a block of another type -/
theorem RgB.oth (h : RgB w gr gc gn N pu go l P G p g) {b : Nat} {t : TypeId} {cs : Array Value} (hb : Blk w b t cs) (h1 : t ≠ 100) (h2 : t ≠ 103) (h3 : t ≠ 82) (h4 : t ≠ 87) (i : Nat) (v : Value) :
    RgB (w.setCell ⟨b, i, none⟩ v) gr gc gn N pu go l P G p g :=
  ⟨h.rs.ne (p := ⟨b, i, none⟩) (blk_types hb h.rs h1) v, h.cl.other (p := ⟨b, i, none⟩) (blk_types hb h.cl.st h3) (blk_types hb h.cl.nu h4) v,
   fun a ha => (h.ps a ha).ne (p := ⟨b, i, none⟩) (blk_types hb (h.ps a ha) h2) v, fun a ha => (h.gs a ha).ne (p := ⟨b, i, none⟩) (blk_types hb (h.gs a ha) h2) v, h.n1, h.n2, h.ne⟩
theorem RgB.setP (h : RgB w gr gc gn N pu go l P G p g) {a : Nat} (ha : P = some a) (i : Nat) (v : Value) (p' : RSt) (hp : p'.cs gr = (p.cs gr).setIfInBounds i v) :
    RgB (w.setCell ⟨a, i, none⟩ v) gr gc gn N pu go l P G p' g := by
  have hb := h.ps a ha
  refine ⟨h.rs.ne (p := ⟨a, i, none⟩) (blk_types hb h.rs (by decide)) v, h.cl.other (p := ⟨a, i, none⟩) (blk_types hb h.cl.st (by decide)) (blk_types hb h.cl.nu (by decide)) v, fun b hb' => ?_, fun b hb' => ?_, h.n1, h.n2, h.ne⟩
  · rw [ha] at hb'; injection hb' with hb'; subst hb'
    rw [hp]; exact hb.set i v
  · exact (h.gs b hb').ne (p := ⟨a, i, none⟩) (by rintro rfl; exact h.ne _ ha hb') v
theorem RgB.setG (h : RgB w gr gc gn N pu go l P G p g) {a : Nat} (ha : G = some a) (i : Nat) (v : Value) (g' : RSt) (hp : g'.cs gr = (g.cs gr).setIfInBounds i v) :
    RgB (w.setCell ⟨a, i, none⟩ v) gr gc gn N pu go l P G p g' := by
  have hb := h.gs a ha
  refine ⟨h.rs.ne (p := ⟨a, i, none⟩) (blk_types hb h.rs (by decide)) v, h.cl.other (p := ⟨a, i, none⟩) (blk_types hb h.cl.st (by decide)) (blk_types hb h.cl.nu (by decide)) v, fun b hb' => ?_, fun b hb' => ?_, h.n1, h.n2, h.ne⟩
  · exact (h.ps b hb').ne (p := ⟨a, i, none⟩) (by rintro rfl; exact h.ne _ hb' ha) v
  · rw [ha] at hb'; injection hb' with hb'; subst hb'
    rw [hp]; exact hb.set i v
theorem RgB.setC (h : RgB w gr gc gn N pu go l P G p g) (i : Nat) (x : Int) (hx : U64 x) :
    RgB (w.setCell ⟨gn, i, none⟩ (.int .u64 x)) gr gc gn N pu go (l.set i x) P G p g :=
  ⟨h.rs.ne (p := ⟨gn, i, none⟩) (blk_types h.cl.nu h.rs (by decide)) _, h.cl.set i x hx,
   fun a ha => (h.ps a ha).ne (p := ⟨gn, i, none⟩) (blk_types h.cl.nu (h.ps a ha) (by decide)) _, fun a ha => (h.gs a ha).ne (p := ⟨gn, i, none⟩) (blk_types h.cl.nu (h.gs a ha) (by decide)) _, h.n1, h.n2, h.ne⟩
/-- a field of the ring -/
theorem RgB.setR (h : RgB w gr gc gn N pu go l P G p g) (i : Nat) (v : Value) (pu' go' : Int) (P' G' : Option Nat) (p' g' : RSt)
    (hr : (#[.pointer (some ⟨gc, 0, none⟩), .int .u64 N, .int .u64 pu', ptO P', .int .u64 go', ptO G'] : Array Value) = (#[.pointer (some ⟨gc, 0, none⟩), .int .u64 N, .int .u64 pu, ptO P, .int .u64 go, ptO G] : Array Value).setIfInBounds i v)
    (hp : ∀ a, P' = some a → Blk w a 103 (p'.cs gr)) (hg : ∀ a, G' = some a → Blk w a 103 (g'.cs gr)) (hne : ∀ a, P' = some a → G' = some a → False) :
    RgB (w.setCell ⟨gr, i, none⟩ v) gr gc gn N pu' go' l P' G' p' g' :=
  ⟨by rw [hr]; exact h.rs.set i v, h.cl.other (p := ⟨gr, i, none⟩) (blk_types h.rs h.cl.st (by decide)) (blk_types h.rs h.cl.nu (by decide)) v,
   fun a ha => (hp a ha).ne (p := ⟨gr, i, none⟩) (blk_types h.rs (hp a ha) (by decide)) v, fun a ha => (hg a ha).ne (p := ⟨gr, i, none⟩) (blk_types h.rs (hg a ha) (by decide)) v, h.n1, h.n2, hne⟩
/-- which blocks a ring has -/
def rgL (gr gn : Nat) (P G : Option Nat) : List Nat := gr :: gn :: (P.toList ++ G.toList)

/-! small calls -/
theorem goesOn_nil (w : World) : Calls Try.prog 38 #[.pointer none] w fun e w' => e = .returned (.bool false) ∧ w = w' := by
  go_enter Try.func38, Try.ntmps38
  go_wp2
  go_ret
  exact ⟨rfl, rfl⟩
theorem goesOn_at (a gr : Nat) (s : RSt) (w : World) (h : Blk w a 103 (s.cs gr)) : Calls Try.prog 38 #[.pointer (some ⟨a, 0, none⟩)] w fun e w' => e = .returned (.bool (s.nx != 0)) ∧ w = w' := by
  have c1 : w.cell? ⟨a, 1, none⟩ = some (.int .i64 s.nx) := h.cell 1
  clear h
  obtain ⟨nx, v, en, td⟩ := s
  simp only at *
  cases nx with
  | zero =>
    go_enter Try.func38, Try.ntmps38
    go_wp2
    go_ret
    exact ⟨rfl, rfl⟩
  | succ k =>
    have b1 : ((((k + 1 : Nat) : Int)) != 0) = true := by simp; omega
    go_enter Try.func38, Try.ntmps38
    go_wp2
    go_ret
    exact ⟨rfl, rfl⟩
/-- does a step go on? -/
def goB (P : Option Nat) (p : RSt) : Bool := P.isSome && p.nx != 0
theorem goesOn_any (P : Option Nat) (p : RSt) (gr : Nat) (w : World) (h : ∀ a, P = some a → Blk w a 103 (p.cs gr)) : Calls Try.prog 38 #[ptO P] w fun e w' => e = .returned (.bool (goB P p)) ∧ w = w' := by
  cases P with
  | none => exact goesOn_nil w
  | some a =>
    refine (goesOn_at a gr p w (h a rfl)).mono fun e w' h => ?_
    unfold goB
    simpa using h
theorem cellOf_any (h : RgB w gr gc gn N pu go l P G p g) (k : Nat) (hk : k ≤ 1000000) :
    Calls Try.prog 41 #[.pointer (some ⟨gr, 0, none⟩), .int .u64 k] w fun e w' => e = .returned (.int .i64 ((2 + k % N : Nat) : Int)) ∧ w = w' := by
  have c1 : w.cell? ⟨gr, 1, none⟩ = some (.int .u64 N) := h.rs.cell 1
  have n1 := h.n1
  have n2 := h.n2
  have hlt : k % N < N := Nat.mod_lt _ (by omega)
  have e1 : IntKind.u64.wrap ((k : Int).tmod (N : Int)) = ((k % N : Nat) : Int) := by
    rw [Int.tmod_eq_emod_of_nonneg (by omega), ← Int.natCast_emod, IntKind.wrap_u64]; omega
  have e1' : (k : Int).tmod (N : Int) = ((k % N : Nat) : Int) := by
    rw [Int.tmod_eq_emod_of_nonneg (by omega), ← Int.natCast_emod]
  have e2 : ((k : Int) % (N : Int)) = ((k % N : Nat) : Int) := (Int.natCast_emod k N).symm
  have HE1 := Lib.hid e1
  have HE2 := Lib.hid e2
  have nz : ((N : Int) == 0) = false := by simp; omega
  clear h e1 e1' e2
  go_enter Try.func41, Try.ntmps41
  go_wp2
  go_ret
  refine ⟨?_, rfl⟩
  show Ending.returned (.int .i64 (2 + (k : Int) % (N : Int))) = _
  rw [HE2.out]
  rw [show (2 + ((k % N : Nat) : Int)) = ((2 + k % N : Nat) : Int) by omega]
end
end Go.Proofs.Ytpaiicplcaeneaa
