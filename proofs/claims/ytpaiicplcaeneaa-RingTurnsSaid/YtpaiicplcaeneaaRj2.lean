/-
  The program's ring beside the document's: Do, Put, Get. Conditions stand in each theorem.
-/
import Derived.Test.YtpaiicplcaeneaaRj
namespace Go.Proofs.Ytpaiicplcaeneaa
open Go.RowKit Go.Deep Plain
set_option linter.unusedVariables false
set_option maxRecDepth 100000
section
variable {w0 w w' : World} {gr gc gn gf gl ga gd N n : Nat} {P G Pf Gf : Option Nat}
theorem JE.up {N pu go n m : Nat} {p g : RSt} {f k : FSt} (h : JE N pu go n P G Pf Gf p g f k) (hm : n ≤ m) : JE N pu go m P G Pf Gf p g f k := ⟨h.h1, h.h2, Nat.le_trans h.h3 hm, h.np, h.ng, h.sp, h.sg⟩
theorem SimG.pu {pu go pu' : Nat} {g : RSt} {k : FSt} (h : SimG pu go g k) (hp : pu ≤ pu') : SimG pu' go g k := ⟨h.kd, h.v, h.on, fun q => Nat.lt_of_lt_of_le (h.wn q) hp⟩
theorem SimP.go {N pu go go' : Nat} {p : RSt} {f : FSt} (h : SimP N pu go p f) (hp : go ≤ go') : SimP N pu go' p f := ⟨h.kd, h.v, h.td, h.u, h.on, fun q => by have := h.wn q; omega⟩
theorem isSome_none {a : Option Nat} (h : (none : Option Nat).isSome = a.isSome) : a = none := by cases a with | none => rfl | some _ => simp at h
theorem isSome_some {a : Option Nat} {x : Nat} (h : (some x).isSome = a.isSome) : ∃ y, a = some y := by cases a with | none => simp at h | some y => exact ⟨y, rfl⟩
theorem J.doP (h : J w0 w gr gc gn gf gl ga gd N n P G Pf Gf) (hn : n ≤ 100000) :
    ∃ b, Calls Try.prog 15 #[.pointer (some ⟨gr, 0, none⟩), ptO P] w (JDo w0 gr gc gn gf gl ga gd N (n + 1) P G Pf Gf (ptO Pf) b) := by
  obtain ⟨pu, go, vs, p, g, f, k, hR, hF, hA, hB, hE⟩ := h
  have h1 := hE.h1
  have h2 := hE.h2
  have h3 := hE.h3
  cases P with
  | none =>
    obtain rfl := isSome_none hE.np
    refine ⟨true, (do_none (some gr) w).mono ?_⟩
    rintro e w1 ⟨rfl, rfl⟩
    refine ⟨rfl, hA, (fdo_nil _ w).mono ?_⟩
    rintro e w2 ⟨rfl, rfl⟩
    exact ⟨rfl, pu, go, vs, p, g, f, k, hR, hF, hA, hB, hE.up (by omega)⟩
  | some a =>
    obtain ⟨af, rfl⟩ := isSome_some hE.np
    have hs := hE.sp a rfl
    obtain ⟨pn, pv, pe, pt⟩ := p
    obtain ⟨fk, fa, fv, fe, fo⟩ := f
    obtain ⟨hkd, hv, htd, hu, hon, hwn⟩ := hs
    simp only at hkd hv htd hu hon hwn
    subst hkd hv htd
    rcases hon with ⟨h0, ho, he⟩ | ⟨h0, hat, ho, he, hen⟩
    · subst h0 ho he
      refine ⟨true, (do_over (some gr) (hR.rb.ps a rfl)).mono ?_⟩
      rintro e w1 ⟨rfl, rfl⟩
      refine ⟨rfl, hA, (fdo_over _ rfl (hF.ps af rfl)).mono ?_⟩
      rintro e w2 ⟨rfl, rfl⟩
      exact ⟨rfl, pu, go, vs, _, g, _, k, hR, hF, hA, hB, hE.up (by omega)⟩
    · subst h0 ho he hen
      have h012 : fa = 0 ∨ fa = 1 ∨ fa = 2 := by omega
      rcases h012 with rfl | rfl | rfl
      · by_cases hN : N ≤ pu - go
        · refine ⟨true, jdo hR hF hA hB (.inl rfl) (.inl rfl) (p' := ⟨0, fv, 9, false⟩) (f' := ⟨0, 1, fv, 9, true⟩) (vs' := vs) ⟨h1, h2, by omega, rfl, hE.ng, fun _ _ => ⟨rfl, rfl, rfl, hu, .inl ⟨rfl, rfl, rfl⟩, by simp⟩, hE.sg⟩ (hR.doP1 rfl h1 (by omega) ⟨0, fv, 9, false⟩ true (by rw [if_pos hN]) rfl) (fun W hW => fdo1y hW rfl h1 (by omega) (by omega))⟩
        · refine ⟨false, jdo hR hF hA hB (.inl rfl) (.inl rfl) (p' := ⟨2, fv, 0, false⟩) (f' := ⟨0, 1, fv, 11, false⟩) (vs' := vs) ⟨h1, h2, by omega, rfl, hE.ng, fun _ _ => ⟨rfl, rfl, rfl, hu, .inr ⟨rfl, by simp, rfl, rfl, rfl⟩, fun _ => by omega⟩, hE.sg⟩ (hR.doP1 rfl h1 (by omega) ⟨2, fv, 0, false⟩ false (by rw [if_neg hN]) rfl) (fun W hW => fdo1n hW rfl h1 (by omega) (by omega))⟩
      · have hw := hwn (.inl rfl)
        exact ⟨false, jdo hR hF hA hB (.inl rfl) (.inl rfl) (p' := ⟨3, fv, 0, false⟩) (f' := ⟨0, 2, fv, 11, false⟩) (vs' := vs.set (pu % N) fv) ⟨h1, h2, by omega, rfl, hE.ng, fun _ _ => ⟨rfl, rfl, rfl, hu, .inr ⟨rfl, by simp, rfl, rfl, rfl⟩, fun _ => hw⟩, hE.sg⟩ (hR.doP2 rfl hu (by omega)) (fun W hW => fdo2 hW rfl hu (by omega))⟩
      · have hw := hwn (.inr rfl)
        exact ⟨true, jdo hR hF hA hB (.inl rfl) (.inl rfl) (pu' := pu + 1) (p' := ⟨0, fv, 0, false⟩) (f' := ⟨0, 3, fv, 0, true⟩) (vs' := vs) ⟨by omega, by omega, by omega, rfl, hE.ng, fun _ _ => ⟨rfl, rfl, rfl, hu, .inl ⟨rfl, rfl, rfl⟩, by simp⟩, fun a ha => (hE.sg a ha).pu (by omega)⟩ (hR.doP3 rfl (by omega) (pu + 1) rfl) (fun W hW => fdo3 hW rfl (by omega) (pu + 1) rfl)⟩
theorem J.doG (h : J w0 w gr gc gn gf gl ga gd N n P G Pf Gf) (hn : n ≤ 100000) :
    ∃ b, Calls Try.prog 15 #[.pointer (some ⟨gr, 0, none⟩), ptO G] w (JDo w0 gr gc gn gf gl ga gd N (n + 1) P G Pf Gf (ptO Gf) b) := by
  obtain ⟨pu, go, vs, p, g, f, k, hR, hF, hA, hB, hE⟩ := h
  have h1 := hE.h1
  have h2 := hE.h2
  have h3 := hE.h3
  cases G with
  | none =>
    obtain rfl := isSome_none hE.ng
    refine ⟨true, (do_none (some gr) w).mono ?_⟩
    rintro e w1 ⟨rfl, rfl⟩
    refine ⟨rfl, hA, (fdo_nil _ w).mono ?_⟩
    rintro e w2 ⟨rfl, rfl⟩
    exact ⟨rfl, pu, go, vs, p, g, f, k, hR, hF, hA, hB, hE.up (by omega)⟩
  | some a =>
    obtain ⟨af, rfl⟩ := isSome_some hE.ng
    have hs := hE.sg a rfl
    obtain ⟨pn, pv, pe, pt⟩ := g
    obtain ⟨fk, fa, fv, fe, fo⟩ := k
    obtain ⟨hkd, hv, hon, hwn⟩ := hs
    simp only at hkd hv hon hwn
    subst hkd hv
    rcases hon with ⟨h0, ho, he, ht⟩ | ⟨h0, hat, ho, he, hen, htd⟩
    · subst h0 ho he
      refine ⟨true, (do_over (some gr) (hR.rb.gs a rfl)).mono ?_⟩
      rintro e w1 ⟨rfl, rfl⟩
      refine ⟨rfl, hA, (fdo_over _ rfl (hF.gs af rfl)).mono ?_⟩
      rintro e w2 ⟨rfl, rfl⟩
      exact ⟨rfl, pu, go, vs, _, _, _, _, hR, hF, hA, hB, hE.up (by omega)⟩
    · subst h0 ho he hen htd
      have h012 : fa = 0 ∨ fa = 1 ∨ fa = 2 := by omega
      rcases h012 with rfl | rfl | rfl
      · by_cases hN : pu = go
        · refine ⟨true, jdo hR hF hA hB (.inr rfl) (.inr rfl) (g' := ⟨0, fv, 7, false⟩) (k' := ⟨1, 1, fv, 7, true⟩) (vs' := vs) ⟨h1, h2, by omega, hE.np, rfl, hE.sp, fun _ _ => ⟨rfl, rfl, .inl ⟨rfl, rfl, rfl, by simp⟩, by simp⟩⟩ (hR.doG4 rfl ⟨0, fv, 7, false⟩ true (by rw [if_pos hN]) rfl) (fun W hW => fdo4y hW rfl hN)⟩
        · refine ⟨false, jdo hR hF hA hB (.inr rfl) (.inr rfl) (g' := ⟨5, fv, 0, false⟩) (k' := ⟨1, 1, fv, 11, false⟩) (vs' := vs) ⟨h1, h2, by omega, hE.np, rfl, hE.sp, fun _ _ => ⟨rfl, rfl, .inr ⟨rfl, by simp, rfl, rfl, rfl, rfl⟩, fun _ => by omega⟩⟩ (hR.doG4 rfl ⟨5, fv, 0, false⟩ false (by rw [if_neg hN]) rfl) (fun W hW => fdo4n hW rfl hN)⟩
      · have hw := hwn (.inl rfl)
        exact ⟨false, jdo hR hF hA hB (.inr rfl) (.inr rfl) (g' := ⟨6, vs.getD (go % N) 0, 0, false⟩) (k' := ⟨1, 2, vs.getD (go % N) 0, 11, false⟩) (vs' := vs) ⟨h1, h2, by omega, hE.np, rfl, hE.sp, fun _ _ => ⟨rfl, rfl, .inr ⟨rfl, by simp, rfl, rfl, rfl, rfl⟩, fun _ => hw⟩⟩ (hR.doG5 rfl (by omega) _ rfl) (fun W hW => fdo5 hW rfl (by omega) _ rfl)⟩
      · have hw := hwn (.inr rfl)
        exact ⟨true, jdo hR hF hA hB (.inr rfl) (.inr rfl) (go' := go + 1) (g' := ⟨0, fv, 0, true⟩) (k' := ⟨1, 3, fv, 0, true⟩) (vs' := vs) ⟨by omega, by omega, by omega, hE.np, rfl, fun a ha => (hE.sp a ha).go (by omega), fun _ _ => ⟨rfl, rfl, .inl ⟨rfl, rfl, rfl, by simp⟩, by simp⟩⟩ (hR.doG6 rfl (by omega) (go + 1) rfl) (fun W hW => fdo6 hW rfl (by omega) (go + 1) rfl)⟩
end
end Go.Proofs.Ytpaiicplcaeneaa
