/-
  The program's ring beside the document's: Put, Get, what a step shows, what the rings hold. Conditions stand in each theorem.
-/
import Derived.Test.YtpaiicplcaeneaaRj2
namespace Go.Proofs.Ytpaiicplcaeneaa
open Go.RowKit Go.Deep Plain
set_option linter.unusedVariables false
set_option maxRecDepth 100000
/-- both rings, without the arrays -/
def J2 (w0 wt : World) (gr gc gn gf gl N n : Nat) (P G Pf Gf : Option Nat) : Prop :=
  ∃ pu go vs p g f k, RgW w0 wt gr gc gn N pu go vs P G p g ∧ RfB wt gf gl N go pu vs Pf Gf f k ∧ JB w0 gf gl Pf Gf ∧ JE N pu go n P G Pf Gf p g f k
section
variable {w0 w w' : World} {gr gc gn gf gl ga gd N n : Nat} {P G Pf Gf : Option Nat} {bs : List Nat} {pu go : Nat} {p g : RSt} {f k : FSt} {vs : List Int}
theorem J2.arr (h : J2 w0 w gr gc gn gf gl N n P G Pf Gf) (hA : JA w0 w ga gd P G Pf Gf) : J w0 w gr gc gn gf gl ga gd N n P G Pf Gf := by
  obtain ⟨pu, go, vs, p, g, f, k, h1, h2, h3, h4⟩ := h
  exact ⟨pu, go, vs, p, g, f, k, h1, h2, hA, h3, h4⟩
theorem J.two (h : J w0 w gr gc gn gf gl ga gd N n P G Pf Gf) : J2 w0 w gr gc gn gf gl N n P G Pf Gf ∧ JA w0 w ga gd P G Pf Gf := by
  obtain ⟨pu, go, vs, p, g, f, k, h1, h2, h3, h4, h5⟩ := h
  exact ⟨⟨pu, go, vs, p, g, f, k, h1, h2, h4, h5⟩, h3⟩
theorem J2.down (h : J2 w0 w gr gc gn gf gl N n P G Pf Gf) (hb : Below w.heap.size w w') : J2 w0 w' gr gc gn gf gl N n P G Pf Gf := by
  obtain ⟨pu, go, vs, p, g, f, k, h1, h2, h3, h4⟩ := h
  exact ⟨pu, go, vs, p, g, f, k, h1.down hb, h2.below hb, h3, h4⟩
/-- a store into an array -/
theorem J2.oth (h : J2 w0 w gr gc gn gf gl N n P G Pf Gf) {b : Nat} {t : TypeId} {cs : Array Value} (hb : Blk w b t cs) (hl : w0.heap.size ≤ b) (ht : t = 57 ∨ t = 54) (i : Nat) (v : Value) :
    J2 w0 (w.setCell ⟨b, i, none⟩ v) gr gc gn gf gl N n P G Pf Gf := by
  obtain ⟨pu, go, vs, p, g, f, k, h1, h2, h3, h4⟩ := h
  have hk : Keep [b] w (w.setCell ⟨b, i, none⟩ v) := (Keep.refl [b] w).setCell (p := ⟨b, i, none⟩) (.inl (by simp)) v
  have far : ∀ {x : Nat} {u : TypeId} {xs : Array Value}, Blk w x u xs → u ≠ 57 → u ≠ 54 → x ∉ [b] := fun hx e1 e2 => by
    have : ∀ z, z ≠ b → z ∉ [b] := fun z hz => by simp [hz]
    rcases ht with rfl | rfl
    · exact this _ (blk_types hx hb e1)
    · exact this _ (blk_types hx hb e2)
  refine ⟨pu, go, vs, p, g, f, k, ⟨h1.rb.keep hk (far h1.rb.rs (by decide) (by decide)) (far h1.rb.cl.st (by decide) (by decide)) (far h1.rb.cl.nu (by decide) (by decide)) (fun x hx => far (h1.rb.ps x hx) (by decide) (by decide)) (fun x hx => far (h1.rb.gs x hx) (by decide) (by decide)), h1.bel.setCell (p := ⟨b, i, none⟩) hl v, h1.lr, h1.ln, h1.lp, h1.lg⟩, h2.keep hk (far h2.rs (by decide) (by decide)) (far h2.rw' (by decide) (by decide)) (fun x hx => far (h2.ps x hx) (by decide) (by decide)) (fun x hx => far (h2.gs x hx) (by decide) (by decide)), h3, h4⟩
theorem JE.goP (h : JE N pu go n P G Pf Gf p g f k) : goB P p = goF Pf f := by
  cases P with
  | none => obtain rfl := isSome_none h.np; rfl
  | some a =>
    obtain ⟨b, rfl⟩ := isSome_some h.np
    rcases (h.sp a rfl).on with ⟨h0, ho, _⟩ | ⟨h0, _, ho, _⟩ <;> simp [goB, goF, h0, ho]
theorem JE.goG (h : JE N pu go n P G Pf Gf p g f k) : goB G g = goF Gf k := by
  cases G with
  | none => obtain rfl := isSome_none h.ng; rfl
  | some a =>
    obtain ⟨b, rfl⟩ := isSome_some h.ng
    rcases (h.sg a rfl).on with ⟨h0, ho, _⟩ | ⟨h0, _, ho, _⟩ <;> simp [goB, goF, h0, ho]
theorem not1 {x a : Nat} (h1 : x ≠ a) : x ∉ [a] := by simp [h1]
/-- Put and Begin, where a step is made -/
def JPut (w0 w : World) (gr gc gn gf gl ga gd N n : Nat) (P G Pf Gf : Option Nat) (v : Int) (e : Ending) (w' : World) : Prop :=
  ∃ a, e = .returned (.pointer (some ⟨a, 0, none⟩)) ∧ Keep [gr] w w' ∧ Calls Try.prog 22 #[.pointer (some ⟨gf, 0, none⟩), .int .i64 0, .int .u64 v] w' fun e w'' =>
    ∃ b, e = .returned (.pointer (some ⟨b, 0, none⟩)) ∧ Keep [gf] w' w'' ∧ J2 w0 w'' gr gc gn gf gl N n (some a) G (some b) Gf ∧ JA w0 w'' ga gd P G Pf Gf
def JGet (w0 : World) (gr gc gn gf gl ga gd N n : Nat) (P G Pf Gf : Option Nat) (e : Ending) (w' : World) : Prop :=
  ∃ a, e = .returned (.pointer (some ⟨a, 0, none⟩)) ∧ Calls Try.prog 22 #[.pointer (some ⟨gf, 0, none⟩), .int .i64 1, .int .u64 0] w' fun e w'' =>
    ∃ b, e = .returned (.pointer (some ⟨b, 0, none⟩)) ∧ J2 w0 w'' gr gc gn gf gl N n P (some a) Pf (some b) ∧ JA w0 w'' ga gd P G Pf Gf
theorem J.put (h : J w0 w gr gc gn gf gl ga gd N n P G Pf Gf) (v : Int) (hv : U64 v) :
    (Calls Try.prog 13 #[.pointer (some ⟨gr, 0, none⟩), .int .u64 v] w (fun e w' => e = .returned (.pointer none) ∧ w = w') ∧
     Calls Try.prog 22 #[.pointer (some ⟨gf, 0, none⟩), .int .i64 0, .int .u64 v] w (fun e w' => e = .returned (.pointer none) ∧ w = w')) ∨
    Calls Try.prog 13 #[.pointer (some ⟨gr, 0, none⟩), .int .u64 v] w (JPut w0 w gr gc gn gf gl ga gd N n P G Pf Gf v) := by
  obtain ⟨pu, go, vs, p, g, f, k, hR, hF, hA, hB, hE⟩ := h
  have hgo := hE.goP
  cases hb : goB P p with
  | true => exact .inl ⟨rPut_no hR.rb v hb, fbeginP_no hF v (hgo ▸ hb)⟩
  | false =>
    refine .inr ((hR.put v hb).mono ?_)
    rintro e w1 ⟨a, rfl, hR1, hk1, ha⟩
    have hF1 := hF.keep hk1 (not1 (blk_types hF.rs hR.rb.rs (by decide))) (not1 (blk_types hF.rw' hR.rb.rs (by decide))) (fun x hx => not1 (blk_types (hF.ps x hx) hR.rb.rs (by decide))) (fun x hx => not1 (blk_types (hF.gs x hx) hR.rb.rs (by decide)))
    have hA1 := hA.keep hk1 (not1 (blk_types hA.sa hR.rb.rs (by decide))) (not1 (blk_types hA.da hR.rb.rs (by decide)))
    refine ⟨a, rfl, hk1, (fbeginP_new hF1 v (hgo ▸ hb)).mono ?_⟩
    rintro e w2 ⟨b, rfl, hF2, hk2, hbl⟩
    have far2 : ∀ {x : Nat} {t : TypeId} {xs : Array Value}, Blk w1 x t xs → t ≠ 56 → x ∉ [gf] := fun hx h1 => not1 (blk_types hx hF1.rs h1)
    refine ⟨b, rfl, hk2, ⟨pu, go, vs, _, g, _, k, ⟨hR1.rb.keep hk2 (far2 hR1.rb.rs (by decide)) (far2 hR1.rb.cl.st (by decide)) (far2 hR1.rb.cl.nu (by decide)) (fun x hx => far2 (hR1.rb.ps x hx) (by decide)) (fun x hx => far2 (hR1.rb.gs x hx) (by decide)), hk2.below hR1.bel (Nat.le_refl _) ?_, hR1.lr, hR1.ln, hR1.lp, hR1.lg⟩, hF2, ⟨hB.lf, hB.ll, ?_, hB.lg⟩, ⟨hE.h1, hE.h2, hE.h3, rfl, hE.ng, fun _ _ => ⟨rfl, rfl, rfl, hv, .inr ⟨rfl, by simp, rfl, rfl, rfl⟩, by simp⟩, hE.sg⟩⟩, hA1.keep hk2 (far2 hA1.sa (by decide)) (far2 hA1.da (by decide))⟩
    · intro x hx
      simp only [List.mem_cons, List.not_mem_nil, or_false] at hx
      subst hx; exact hB.lf
    · intro x hx
      injection hx with hx
      have := hR1.bel.size
      omega
theorem J.get (h : J w0 w gr gc gn gf gl ga gd N n P G Pf Gf) :
    (Calls Try.prog 14 #[.pointer (some ⟨gr, 0, none⟩)] w (fun e w' => e = .returned (.pointer none) ∧ w = w') ∧
     Calls Try.prog 22 #[.pointer (some ⟨gf, 0, none⟩), .int .i64 1, .int .u64 0] w (fun e w' => e = .returned (.pointer none) ∧ w = w')) ∨
    Calls Try.prog 14 #[.pointer (some ⟨gr, 0, none⟩)] w (JGet w0 gr gc gn gf gl ga gd N n P G Pf Gf) := by
  obtain ⟨pu, go, vs, p, g, f, k, hR, hF, hA, hB, hE⟩ := h
  have hgo := hE.goG
  cases hb : goB G g with
  | true => exact .inl ⟨rGet_no hR.rb hb, fbeginG_no hF (hgo ▸ hb)⟩
  | false =>
    refine .inr ((hR.get hb).mono ?_)
    rintro e w1 ⟨a, rfl, hR1, hk1, ha⟩
    have hF1 := hF.keep hk1 (not1 (blk_types hF.rs hR.rb.rs (by decide))) (not1 (blk_types hF.rw' hR.rb.rs (by decide))) (fun x hx => not1 (blk_types (hF.ps x hx) hR.rb.rs (by decide))) (fun x hx => not1 (blk_types (hF.gs x hx) hR.rb.rs (by decide)))
    have hA1 := hA.keep hk1 (not1 (blk_types hA.sa hR.rb.rs (by decide))) (not1 (blk_types hA.da hR.rb.rs (by decide)))
    refine ⟨a, rfl, (fbeginG_new hF1 (hgo ▸ hb)).mono ?_⟩
    rintro e w2 ⟨b, rfl, hF2, hk2, hbl⟩
    have far2 : ∀ {x : Nat} {t : TypeId} {xs : Array Value}, Blk w1 x t xs → t ≠ 56 → x ∉ [gf] := fun hx h1 => not1 (blk_types hx hF1.rs h1)
    refine ⟨b, rfl, ⟨pu, go, vs, p, _, f, _, ⟨hR1.rb.keep hk2 (far2 hR1.rb.rs (by decide)) (far2 hR1.rb.cl.st (by decide)) (far2 hR1.rb.cl.nu (by decide)) (fun x hx => far2 (hR1.rb.ps x hx) (by decide)) (fun x hx => far2 (hR1.rb.gs x hx) (by decide)), hk2.below hR1.bel (Nat.le_refl _) ?_, hR1.lr, hR1.ln, hR1.lp, hR1.lg⟩, hF2, ⟨hB.lf, hB.ll, hB.lp, ?_⟩, ⟨hE.h1, hE.h2, hE.h3, hE.np, rfl, hE.sp, fun _ _ => ⟨rfl, rfl, .inr ⟨rfl, by simp, rfl, rfl, rfl, rfl⟩, by simp⟩⟩⟩, hA1.keep hk2 (far2 hA1.sa (by decide)) (far2 hA1.da (by decide))⟩
    · intro x hx
      simp only [List.mem_cons, List.not_mem_nil, or_false] at hx
      subst hx; exact hB.lf
    · intro x hx
      injection hx with hx
      have := hR1.bel.size
      omega
/-- what a step shows on both sides -/
def Shows (w : World) (a af : Nat) : Prop :=
  ∃ (er x : Int), w.cell? ⟨af, 3, none⟩ = some (.int .i64 er) ∧
    (∀ q, Calls Try.prog 19 #[.pointer (some ⟨a, 0, none⟩)] (w.drewN q) fun e w' => e = .returned (.int .i64 er) ∧ w.drewN q = w') ∧
    (∀ q, Calls Try.prog 20 #[.pointer (some ⟨a, 0, none⟩)] (w.drewN q) fun e w' => e = .returned (.int .u64 x) ∧ w.drewN q = w') ∧
    (∀ q, Calls Try.prog 24 #[.pointer (some ⟨af, 0, none⟩)] (w.drewN q) fun e w' => e = .returned (.int .u64 x) ∧ w.drewN q = w')
theorem J.showP (h : J w0 w gr gc gn gf gl ga gd N n P G Pf Gf) : (P = none ∧ Pf = none) ∨ ∃ a af, P = some a ∧ Pf = some af ∧ Shows w a af := by
  obtain ⟨pu, go, vs, p, g, f, k, hR, hF, hA, hB, hE⟩ := h
  cases P with
  | none => exact .inl ⟨rfl, isSome_none hE.np⟩
  | some a =>
    obtain ⟨af, rfl⟩ := isSome_some hE.np
    have hs := hE.sp a rfl
    refine .inr ⟨a, af, rfl, rfl, f.er, 0, (hF.ps af rfl).cell 3, ?_, ?_, ?_⟩
    · intro q
      have hb := hR.rb.ps a rfl
      obtain ⟨pn, pv, pe, pt⟩ := p
      rcases hs.on with ⟨h0, ho, he⟩ | ⟨h0, _, ho, he, _⟩
      · simp only at h0; subst h0; rw [he]
        exact end_over (w := w.drewN q) hb
      · rw [he]
        simp only at h0
        exact end_on (w := w.drewN q) (by omega) hb
    · intro q
      have := value_any (w := w.drewN q) (gr := gr) (hR.rb.ps a rfl)
      rw [hs.td] at this
      exact this
    · intro q
      exact fvalue_any (w := w.drewN q) (hF.ps af rfl) 0 (by rw [hs.kd]; simp)
theorem J.showG (h : J w0 w gr gc gn gf gl ga gd N n P G Pf Gf) : (G = none ∧ Gf = none) ∨ ∃ a af, G = some a ∧ Gf = some af ∧ Shows w a af := by
  obtain ⟨pu, go, vs, p, g, f, k, hR, hF, hA, hB, hE⟩ := h
  cases G with
  | none => exact .inl ⟨rfl, isSome_none hE.ng⟩
  | some a =>
    obtain ⟨af, rfl⟩ := isSome_some hE.ng
    have hs := hE.sg a rfl
    refine .inr ⟨a, af, rfl, rfl, k.er, (if g.td = true then g.v else 0), (hF.gs af rfl).cell 3, ?_, ?_, ?_⟩
    · intro q
      have hb := hR.rb.gs a rfl
      obtain ⟨pn, pv, pe, pt⟩ := g
      rcases hs.on with ⟨h0, ho, he, _⟩ | ⟨h0, _, ho, he, _, _⟩
      · simp only at h0; subst h0; rw [he]
        exact end_over (w := w.drewN q) hb
      · rw [he]
        simp only at h0
        exact end_on (w := w.drewN q) (by omega) hb
    · intro q
      exact value_any (w := w.drewN q) (gr := gr) (hR.rb.gs a rfl)
    · intro q
      refine fvalue_any (w := w.drewN q) (hF.gs af rfl) _ ?_
      rw [hs.kd, hs.v]
      rcases hs.on with ⟨h0, ho, he, ht⟩ | ⟨h0, _, ho, he, hen, htd⟩
      · rw [ho, he]
        by_cases h : g.td = true
        · rw [if_pos h, if_pos ⟨rfl, rfl, ht.1 h⟩]
        · rw [if_neg h, if_neg (fun hh => h (ht.2 hh.2.2))]
      · rw [ho, htd]; simp
end
end Go.Proofs.Ytpaiicplcaeneaa
