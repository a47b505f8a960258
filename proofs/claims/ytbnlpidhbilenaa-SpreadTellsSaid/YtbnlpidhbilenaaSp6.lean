/-
  spread: a far end's parts are in their bounds. Conditions stand in each theorem.
-/
import Derived.Test.YtbnlpidhbilenaaSp5
namespace Go.Proofs.Ytbnlpidhbilenaa
open Go.RowKit Plain
set_option linter.unusedVariables false
structure PtR (p : Pt) : Prop where
  s0 : 0 ≤ p.sp
  s1 : p.sp ≤ 65535
  d0 : 0 ≤ p.dp
  d1 : p.dp ≤ 65535
  i0 : 0 ≤ p.inn.src
  i1 : p.inn.src ≤ 4294967295
  j0 : 0 ≤ p.inn.dst
  j1 : p.inn.dst ≤ 4294967295
theorem pt0_R : PtR pt0 := ⟨by decide, by decide, by decide, by decide, by decide, by decide, by decide, by decide⟩
theorem mk_R {a b c d e f : Int} {g : Bool} {h : Hd} {i : Int} {j : Bool} (hb : 0 ≤ b ∧ b ≤ 65535) (hc : 0 ≤ c ∧ c ≤ 65535) (h0 : 0 ≤ h.src ∧ h.src ≤ 4294967295 ∧ 0 ≤ h.dst ∧ h.dst ≤ 4294967295) : PtR ⟨a, b, c, d, e, f, g, h, i, j⟩ :=
  ⟨hb.1, hb.2, hc.1, hc.2, h0.1, h0.2.1, h0.2.2.1, h0.2.2.2⟩
theorem hd0_R : 0 ≤ hd0.src ∧ hd0.src ≤ 4294967295 ∧ 0 ≤ hd0.dst ∧ hd0.dst ≤ 4294967295 := by decide
theorem ptH_R (zs : List Int) (h : By zs) : 0 ≤ (ptH zs).src ∧ (ptH zs).src ≤ 4294967295 ∧ 0 ≤ (ptH zs).dst ∧ (ptH zs).dst ≤ 4294967295 := by
  have r12 := G32_range zs h 12
  have r16 := G32_range zs h 16
  unfold ptH
  split
  · unfold fld; simp only; omega
  · exact hd0_R
theorem erP_R (p : Pt) (zs : List Int) (h : By zs) : PtR (erP p zs) := by
  have hc : By (erC zs) := by unfold erC; first | exact (h.drop _).take _ | exact (h.take _).drop _ | exact h.drop _
  unfold erP
  split
  · split
    · exact ⟨(G16_range _ hc _).1, (G16_range _ hc _).2, (G16_range _ hc _).1, (G16_range _ hc _).2, (ptH_R zs h).1, (ptH_R zs h).2.1, (ptH_R zs h).2.2.1, (ptH_R zs h).2.2.2⟩
    · exact ⟨(G16_range _ hc _).1, (G16_range _ hc _).2, (G16_range _ hc _).1, (G16_range _ hc _).2, (ptH_R zs h).1, (ptH_R zs h).2.1, (ptH_R zs h).2.2.1, (ptH_R zs h).2.2.2⟩
  · exact pt0_R
theorem pgP_R (h : Hd) (zs : List Int) (hb : By zs) : PtR (pgP h zs) := by
  have hc : By (bodyOf h zs) := by unfold bodyOf; exact (hb.drop _).take _
  unfold pgP
  split
  · exact pt0_R
  split
  · unfold udP
    split
    · exact mk_R (G16_range _ hc _) (G16_range _ hc _) hd0_R
    · exact pt0_R
  split
  · unfold tcP
    split
    · exact mk_R (G16_range _ hc _) (G16_range _ hc _) hd0_R
    · exact pt0_R
  split
  · unfold icP
    split
    · split
      · exact mk_R (G16_range _ hc _) (G16_range _ hc _) hd0_R
      · exact erP_R _ _ (hc.drop _)
    · exact pt0_R
  · exact pt0_R
theorem farF_ok (out : Bool) (zs : List Int) (hb : By zs) : (farF out zs).ok := by
  have hg := gtH_rng zs hb
  have hp := pgP_R (gtH zs) zs hb
  have ho : (ofF out (gtH zs) (pgP (gtH zs) zs)).ok := by
    unfold ofF
    split
    · split
      · exact ⟨hp.i0, hp.i1, hp.s0, hp.s1⟩
      · exact ⟨hp.j0, hp.j1, hp.d0, hp.d1⟩
    · split
      · exact ⟨hg.2.2.1, hg.2.2.2, hp.d0, hp.d1⟩
      · exact ⟨hg.1, hg.2.1, hp.s0, hp.s1⟩
  have hz : (Fo.mk 0 0 0).ok := ⟨by decide, by decide, by decide, by decide⟩
  unfold farF
  split
  · exact hz
  split
  · exact hz
  split
  · exact ⟨ho.a0, ho.a1, Int.le_refl 0, by show (0 : Int) ≤ 65535; decide⟩
  · exact ho
end Go.Proofs.Ytbnlpidhbilenaa
