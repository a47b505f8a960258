/-
  The program's ring beside the document's: steps that are alike. Conditions stand in each theorem.
-/
import Derived.Test.YtpaiicplcaeneaaRi7
namespace Go.Proofs.Ytpaiicplcaeneaa
open Go.RowKit Go.Deep Plain
set_option linter.unusedVariables false
set_option maxRecDepth 100000
structure SimP (N pu go : Nat) (p : RSt) (f : FSt) : Prop where
  kd : f.kd = 0
  v : f.v = p.v
  td : p.td = false
  u : U64 p.v
  on : (p.nx = 0 ∧ f.ov = true ∧ f.er = p.en) ∨ (p.nx = f.at' + 1 ∧ f.at' ≤ 2 ∧ f.ov = false ∧ f.er = 11 ∧ p.en = 0)
  wn : p.nx = 2 ∨ p.nx = 3 → pu - go < N
structure SimG (pu go : Nat) (g : RSt) (k : FSt) : Prop where
  kd : k.kd = 1
  v : k.v = g.v
  on : (g.nx = 0 ∧ k.ov = true ∧ k.er = g.en ∧ (g.td = true ↔ g.en = 0)) ∨ (g.nx = k.at' + 4 ∧ k.at' ≤ 2 ∧ k.ov = false ∧ k.er = 11 ∧ g.en = 0 ∧ g.td = false)
  wn : g.nx = 5 ∨ g.nx = 6 → go < pu
structure JE (N pu go n : Nat) (P G Pf Gf : Option Nat) (p g : RSt) (f k : FSt) : Prop where
  h1 : go ≤ pu
  h2 : pu ≤ go + N
  h3 : pu ≤ n
  np : P.isSome = Pf.isSome
  ng : G.isSome = Gf.isSome
  sp : ∀ a, P = some a → SimP N pu go p f
  sg : ∀ a, G = some a → SimG pu go g k
/-- the law's two arrays -/
structure JA (w0 wt : World) (ga gd : Nat) (P G Pf Gf : Option Nat) : Prop where
  sa : Blk wt ga 57 #[ptO P, ptO G]
  da : Blk wt gd 54 #[ptO Pf, ptO Gf]
  la : w0.heap.size ≤ ga
  ld : w0.heap.size ≤ gd
structure JB (w0 : World) (gf gl : Nat) (Pf Gf : Option Nat) : Prop where
  lf : w0.heap.size ≤ gf
  ll : w0.heap.size ≤ gl
  lp : ∀ a, Pf = some a → w0.heap.size ≤ a
  lg : ∀ a, Gf = some a → w0.heap.size ≤ a
/-- both rings and both arrays, behind at most n acts -/
def J (w0 wt : World) (gr gc gn gf gl ga gd N n : Nat) (P G Pf Gf : Option Nat) : Prop :=
  ∃ pu go vs p g f k, RgW w0 wt gr gc gn N pu go vs P G p g ∧ RfB wt gf gl N go pu vs Pf Gf f k ∧ JA w0 wt ga gd P G Pf Gf ∧ JB w0 gf gl Pf Gf ∧ JE N pu go n P G Pf Gf p g f k
section
variable {w0 w w' : World} {gr gc gn gf gl ga gd N n pu go pu' go' : Nat} {vs vs' : List Int} {P G Pf Gf : Option Nat} {p g p' g' : RSt} {f k f' k' : FSt} {bs : List Nat} {pz gz : Int} {l : List Int}
theorem RgB.keep (h : RgB w gr gc gn N pz gz l P G p g) (hk : Keep bs w w') (h1 : gr ∉ bs) (h2 : gc ∉ bs) (h3 : gn ∉ bs) (h4 : ∀ a, P = some a → a ∉ bs) (h5 : ∀ a, G = some a → a ∉ bs) : RgB w' gr gc gn N pz gz l P G p g :=
  ⟨hk.blk h.rs h1, h.cl.keep hk h2 h3, fun a ha => hk.blk (h.ps a ha) (h4 a ha), fun a ha => hk.blk (h.gs a ha) (h5 a ha), h.n1, h.n2, h.ne⟩
theorem JA.keep (h : JA w0 w ga gd P G Pf Gf) (hk : Keep bs w w') (h1 : ga ∉ bs) (h2 : gd ∉ bs) : JA w0 w' ga gd P G Pf Gf := ⟨hk.blk h.sa h1, hk.blk h.da h2, h.la, h.ld⟩
theorem JA.below (h : JA w0 w ga gd P G Pf Gf) (hb : Below w.heap.size w w') : JA w0 w' ga gd P G Pf Gf := ⟨h.sa.below hb, h.da.below hb, h.la, h.ld⟩
theorem J.down (h : J w0 w gr gc gn gf gl ga gd N n P G Pf Gf) (hb : Below w.heap.size w w') : J w0 w' gr gc gn gf gl ga gd N n P G Pf Gf := by
  obtain ⟨pu, go, vs, p, g, f, k, h1, h2, h3, h4, h5⟩ := h
  exact ⟨pu, go, vs, p, g, f, k, h1.down hb, h2.below hb, h3.below hb, h4, h5⟩
theorem not3 {x a b c : Nat} (h1 : x ≠ a) (h2 : x ≠ b) (h3 : x ≠ c) : x ∉ [a, b, c] := by simp [h1, h2, h3]
/-- what a pair of calls leaves -/
def JDo (w0 : World) (gr gc gn gf gl ga gd N n : Nat) (P G Pf Gf : Option Nat) (q : Value) (b : Bool) (e : Ending) (w' : World) : Prop :=
  e = .returned (.bool b) ∧ JA w0 w' ga gd P G Pf Gf ∧ Calls Try.prog 23 #[.pointer (some ⟨gf, 0, none⟩), q] w' fun e w'' => e = .returned (.bool b) ∧ J w0 w'' gr gc gn gf gl ga gd N n P G Pf Gf
theorem jdo {a af : Nat} {b : Bool} (hR : RgW w0 w gr gc gn N pu go vs P G p g) (hf : RfB w gf gl N go pu vs Pf Gf f k) (hA : JA w0 w ga gd P G Pf Gf) (hB : JB w0 gf gl Pf Gf)
    (ha : P = some a ∨ G = some a) (haf : Pf = some af ∨ Gf = some af)
    (hE : JE N pu' go' n P G Pf Gf p' g' f' k')
    (hC : Calls Try.prog 15 #[.pointer (some ⟨gr, 0, none⟩), .pointer (some ⟨a, 0, none⟩)] w (DoW w0 w gr gc gn N pu' go' vs' P G p' g' a b))
    (hD : ∀ W, RfB W gf gl N go pu vs Pf Gf f k → Calls Try.prog 23 #[.pointer (some ⟨gf, 0, none⟩), .pointer (some ⟨af, 0, none⟩)] W (FdoOk W gf gl N go' pu' vs' Pf Gf f' k' [gf, gl, af] b)) :
    Calls Try.prog 15 #[.pointer (some ⟨gr, 0, none⟩), .pointer (some ⟨a, 0, none⟩)] w (JDo w0 gr gc gn gf gl ga gd N n P G Pf Gf (.pointer (some ⟨af, 0, none⟩)) b) := by
  obtain ⟨cs, hab⟩ : ∃ cs, Blk w a 103 cs := by
    rcases ha with h | h
    · exact ⟨_, hR.rb.ps a h⟩
    · exact ⟨_, hR.rb.gs a h⟩
  obtain ⟨ds, hafb⟩ : ∃ ds, Blk w af 63 ds := by
    rcases haf with h | h
    · exact ⟨_, hf.ps af h⟩
    · exact ⟨_, hf.gs af h⟩
  have hal : w0.heap.size ≤ af := by
    rcases haf with h | h
    · exact hB.lp af h
    · exact hB.lg af h
  have far : ∀ {x : Nat} {t : TypeId} {xs : Array Value}, Blk w x t xs → t ≠ 100 → t ≠ 87 → t ≠ 103 → x ∉ [gr, gn, a] := fun hx h1 h2 h3 =>
    not3 (blk_types hx hR.rb.rs h1) (blk_types hx hR.rb.cl.nu h2) (blk_types hx hab h3)
  refine hC.mono ?_
  rintro e w1 ⟨rfl, hR1, hk1⟩
  have hf1 := hf.keep hk1 (far hf.rs (by decide) (by decide) (by decide)) (far hf.rw' (by decide) (by decide) (by decide)) (fun x hx => far (hf.ps x hx) (by decide) (by decide) (by decide)) (fun x hx => far (hf.gs x hx) (by decide) (by decide) (by decide))
  have hA1 := hA.keep hk1 (far hA.sa (by decide) (by decide) (by decide)) (far hA.da (by decide) (by decide) (by decide))
  have hafb1 := hk1.blk hafb (far hafb (by decide) (by decide) (by decide))
  have far2 : ∀ {x : Nat} {t : TypeId} {xs : Array Value}, Blk w1 x t xs → t ≠ 56 → t ≠ 22 → t ≠ 63 → x ∉ [gf, gl, af] := fun hx h1 h2 h3 =>
    not3 (blk_types hx hf1.rs h1) (blk_types hx hf1.rw' h2) (blk_types hx hafb1 h3)
  refine ⟨rfl, hA1, (hD w1 hf1).mono ?_⟩
  rintro e w2 ⟨rfl, hf2, hk2⟩
  refine ⟨rfl, pu', go', vs', p', g', f', k', ⟨hR1.rb.keep hk2 (far2 hR1.rb.rs (by decide) (by decide) (by decide)) (far2 hR1.rb.cl.st (by decide) (by decide) (by decide)) (far2 hR1.rb.cl.nu (by decide) (by decide) (by decide)) (fun x hx => far2 (hR1.rb.ps x hx) (by decide) (by decide) (by decide)) (fun x hx => far2 (hR1.rb.gs x hx) (by decide) (by decide) (by decide)), hk2.below hR1.bel (Nat.le_refl _) ?_, hR1.lr, hR1.ln, hR1.lp, hR1.lg⟩, hf2, hA1.keep hk2 (far2 hA1.sa (by decide) (by decide) (by decide)) (far2 hA1.da (by decide) (by decide) (by decide)), hB, hE⟩
  intro x hx
  simp only [List.mem_cons, List.not_mem_nil, or_false] at hx
  rcases hx with rfl | rfl | rfl
  · exact hB.lf
  · exact hB.ll
  · exact hal
end
end Go.Proofs.Ytpaiicplcaeneaa
