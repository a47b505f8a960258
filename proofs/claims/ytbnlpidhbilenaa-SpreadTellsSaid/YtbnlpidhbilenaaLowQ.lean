/-
  What the frame of a Sent without an error tells, by what it carries. Conditions stand in each theorem.
-/
import Derived.Test.YtbnlpidhbilenaaNestM
namespace Go.Proofs.Ytbnlpidhbilenaa
open Go.RowKit Plain
set_option linter.unusedVariables false
set_option linter.unusedSimpArgs false
set_option maxRecDepth 100000
theorem udP_ok (s d f t : Int) (L : List Int) (hl : L.length ≤ 1400) (f0 : 0 ≤ f) (f1 : f ≤ 65535) (t0 : 0 ≤ t) (t1 : t ≤ 65535) (h : udE s d (udL s d f t L) = 0) :
    (udP s d (udL s d f t L)).sp = f ∧ (udP s d (udL s d f t L)).dp = t := by
  obtain ⟨g0, g2, _, _⟩ := ud0_g f t L f0 f1 t0 t1 hl
  unfold udP
  rw [if_pos h]
  unfold udL
  refine ⟨?_, ?_⟩
  · show G16 _ 0 = f
    rw [P16_g16_ne _ _ _ _ (by decide) (by decide) (by decide)]; exact g0
  · show G16 _ 2 = t
    rw [P16_g16_ne _ _ _ _ (by decide) (by decide) (by decide)]; exact g2

structure LowQ (K : Nat) (f t : Int) (p : Pt) : Prop where
  sp : p.sp = f
  dp : K < 2 → p.dp = t
  er : p.er = false
theorem low_q (K : Nat) (hK : K < 4) (s d f t fl : Int) (L : List Int) (hl : L.length ≤ 1400) (h : By L) (s0 : 0 ≤ s) (d0 : 0 ≤ d) (f0 : 0 ≤ f) (f1 : f ≤ 65535) (t0 : 0 ≤ t) (t1 : t ≤ 65535) :
    LowQ K f t (byP (carP K) s d (carL K s d f t fl L)) := by
  have hB := low_ok K hK s d f t fl L hl h s0 d0 f0 f1 t0 t1
  obtain rfl | rfl | rfl | rfl : K = 0 ∨ K = 1 ∨ K = 2 ∨ K = 3 := by omega
  · have hB' : udE s d (udL s d f t L) = 0 := hB
    have := udP_ok s d f t L hl f0 f1 t0 t1 hB'
    refine ⟨this.1, fun _ => this.2, ?_⟩
    show (udP s d (udL s d f t L)).er = false
    unfold udP; rw [if_pos hB']
  · have hB' : tcE s d (tcL s d f t (fl % 256) L) = 0 := hB
    obtain ⟨g0, g2, _, g13, _⟩ := tc0_g f t (fl % 256) L f0 f1 t0 t1
    have e : byP (carP 1) s d (carL 1 s d f t fl L) = ⟨6, f, t, fl % 256, 0, 0, false, hd0, 0, false⟩ := by
      show tcP s d (tcL s d f t (fl % 256) L) = _
      unfold tcP
      rw [if_pos hB']
      unfold tcL
      rw [P16_g16_ne _ _ _ _ (by decide) (by decide) (by decide), P16_g16_ne _ _ _ _ (by decide) (by decide) (by decide), P16_other _ _ _ _ (by decide) (by decide), g0, g2, g13]
    rw [e]
    exact ⟨rfl, fun _ => rfl, rfl⟩
  · have hB' : icE (icL 8 0 f L) = 0 := hB
    have e : (byP (carP 2) s d (carL 2 s d f t fl L)).sp = f ∧ (byP (carP 2) s d (carL 2 s d f t fl L)).er = false := by
      show (icP 20 (icL 8 0 f L)).sp = f ∧ (icP 20 (icL 8 0 f L)).er = false
      unfold icP
      rw [if_pos hB', if_pos (Or.inr (icL_0 8 0 f L).1)]
      exact ⟨icL_4 8 0 f L f0 f1, rfl⟩
    exact ⟨e.1, fun h => absurd h (by decide), e.2⟩
  · have hB' : icE (icL 0 0 f L) = 0 := hB
    have e : (byP (carP 3) s d (carL 3 s d f t fl L)).sp = f ∧ (byP (carP 3) s d (carL 3 s d f t fl L)).er = false := by
      show (icP 20 (icL 0 0 f L)).sp = f ∧ (icP 20 (icL 0 0 f L)).er = false
      unfold icP
      rw [if_pos hB', if_pos (Or.inl (icL_0 0 0 f L).1)]
      exact ⟨icL_4 0 0 f L f0 f1, rfl⟩
    exact ⟨e.1, fun h => absurd h (by decide), e.2⟩
end Go.Proofs.Ytbnlpidhbilenaa
