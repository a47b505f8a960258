/-
  spread: the far ends of a frame, and of an error about it. Conditions stand in each theorem.
-/
import Derived.Test.YtbnlpidhbilenaaSp6
import Derived.Test.YtbnlpidhbilenaaLowQ
namespace Go.Proofs.Ytbnlpidhbilenaa
open Go.RowKit Plain
set_option linter.unusedVariables false
def finF (f : Fo) : Fo := if f.pr = 1 then { f with po := 0 } else f
theorem far_frm (t p s d : Int) (ys : List Int) (hy : By ys) (hl : ys.length ≤ 1480) (t0 : 0 ≤ t) (t1 : t ≤ 255) (p0 : 0 ≤ p) (p1 : p ≤ 255) (s0 : 0 ≤ s) (s1 : s ≤ 4294967295) (d0 : 0 ≤ d) (d1 : d ≤ 4294967295) (hE : byE p s d ys = 0) (out : Bool) :
    farE (frm t p s d ys) = 0 ∧ farF out (frm t p s d ys) = finF (ofF out ⟨20, 20 + (ys.length : Int), t, p, s, d⟩ (byP p s d ys)) := by
  have hg := frm_got t p s d ys [] hl hy t0 t1 p0 p1 s0 s1 d0 d1
  rw [List.append_nil] at hg
  have hp := frm_pg t p s d ys ys.length rfl t s d p
  have h1 : pgE ⟨20, 20 + (ys.length : Int), t, p, s, d⟩ (frm t p s d ys) = 0 := by rw [hp.1]; exact hE
  have h2 : pgP ⟨20, 20 + (ys.length : Int), t, p, s, d⟩ (frm t p s d ys) = byP p s d ys := by rw [hp.2]; rfl
  constructor
  · unfold farE
    rw [hg.1, if_neg (by decide), hg.2, h1]
  · unfold farF finF
    rw [hg.1, if_neg (by decide), hg.2, h1, if_neg (by decide), h2]
theorem far_low (x : Sn) (K : Nat) (hK : K < 4) (w : World) (ok : x.ok w) (out : Bool) :
    farE (frL x K) = 0 ∧ farF out (frL x K) = ⟨carP K, if out = true then x.d else x.s, if 2 ≤ K then 0 else if out = true then x.t else x.f⟩ := by
  have h40 : (x.ys.take 40).length ≤ 40 := List.length_take_le _ _
  have hby := ok.rd.1.take 40
  have hE := low_ok K hK x.s x.d x.f x.t x.fl (x.ys.take 40) (by omega) hby ok.s0 ok.d0 ok.f0 ok.f1 ok.t0 ok.t1
  have hQ := low_q K hK x.s x.d x.f x.t x.fl (x.ys.take 40) (by omega) hby ok.s0 ok.d0 ok.f0 ok.f1 ok.t0 ok.t1
  have hcb := carL_by K x.s x.d x.f x.t x.fl h40 hby ok.s0 ok.s1 ok.d0 ok.d1
  have hcl := carL_len K x.s x.d x.f x.t x.fl (x.ys.take 40) h40
  have hpr := carP_range K
  have hF := far_frm 64 (carP K) x.s x.d _ hcb (by omega) (by omega) (by omega) hpr.1 hpr.2 ok.s0 ok.s1 ok.d0 ok.d1 hE out
  refine ⟨hF.1, hF.2.trans ?_⟩
  have q1 := hQ.er
  have q2 := hQ.sp
  have q3 := hQ.dp
  generalize byP (carP K) x.s x.d (carL K x.s x.d x.f x.t x.fl (x.ys.take 40)) = p at *
  unfold finF ofF
  rw [q1]
  obtain rfl | rfl | rfl | rfl : K = 0 ∨ K = 1 ∨ K = 2 ∨ K = 3 := by omega
  · cases out
    · simp [carP, q2]
    · simp [carP, q3]
  · cases out
    · simp [carP, q2]
    · simp [carP, q3]
  · cases out <;> simp [carP]
  · cases out <;> simp [carP]
theorem far_about (x : Sn) (K : Nat) (hK : K < 3) (w : World) (ok : x.ok w) (a : Int) (a0 : 0 ≤ a) (a1 : a ≤ 4294967295) (c : Nat) (hc : 28 ≤ c) (hc2 : c ≤ 1400) :
    farE (frm 64 1 a x.s (icL 3 1 0 ((frL x K).take c))) = 0 ∧ farF false (frm 64 1 a x.s (icL 3 1 0 ((frL x K).take c))) = ⟨carP K, x.d, if 2 ≤ K then 0 else x.t⟩ := by
  have h40 : (x.ys.take 40).length ≤ 40 := List.length_take_le _ _
  have hby := ok.rd.1.take 40
  have hcb := carL_by K x.s x.d x.f x.t x.fl h40 hby ok.s0 ok.s1 ok.d0 ok.d1
  have hcl := carL_len K x.s x.d x.f x.t x.fl (x.ys.take 40) h40
  have hpr := carP_range K
  have hfb : By (frL x K) := frm_all 64 (carP K) x.s x.d _ hcb (by omega) (by omega) (by omega) hpr.1 hpr.2 ok.s0 ok.s1 ok.d0 ok.d1
  have hX : By ((frL x K).take c) := hfb.take c
  have hXl : ((frL x K).take c).length ≤ c := List.length_take_le _ _
  have hI := ic_er 3 1 (.inl rfl) (by omega) (by omega) _ hX
  have h8 : 8 ≤ (carL K x.s x.d x.f x.t x.fl (x.ys.take 40)).length := by
    obtain rfl | rfl | rfl : K = 0 ∨ K = 1 ∨ K = 2 := by omega
    · show 8 ≤ (udL _ _ _ _ _).length; rw [udL_len]; omega
    · show 8 ≤ (tcL _ _ _ _ _ _).length; rw [tcL_len]; omega
    · show 8 ≤ (icL _ _ _ _).length; rw [icL_len]; omega
  have hA := er_any 64 (carP K) x.s x.d _ c hc h8 (by omega) (by omega) (by omega) hpr.1 hpr.2 ok.s0 ok.s1 ok.d0 ok.d1
  have hz : erE ((frL x K).take c) = 0 := by
    refine hA.1.trans ?_
    obtain rfl | rfl | rfl : K = 0 ∨ K = 1 ∨ K = 2 := by omega
    · exact if_pos (.inl rfl)
    · exact if_pos (.inr rfl)
    · rw [if_neg (by decide), if_pos ⟨rfl, .inr (icL_0 8 0 _ _).1⟩]
  have hE : byE 1 a x.s (icL 3 1 0 ((frL x K).take c)) = 0 := by
    show icE (icL 3 1 0 ((frL x K).take c)) = 0
    rw [hI.1, hz]
  have hF := far_frm 64 1 a x.s (icL 3 1 0 ((frL x K).take c)) (icL_by 3 1 0 hX (by omega) (by omega) (by omega) (by omega)) (by rw [icL_len]; omega) (by omega) (by omega) (by omega) (by omega) a0 a1 ok.s0 ok.s1 hE false
  refine ⟨hF.1, hF.2.trans ?_⟩
  have hP : byP 1 a x.s (icL 3 1 0 ((frL x K).take c)) = icP 20 (icL 3 1 0 ((frL x K).take c)) := rfl
  have hP2 := hA.2 hz ⟨1, 0, 0, 0, 3, 1, false, hd0, 28, false⟩
  rw [hP, hI.2 hz]
  rw [show erP ⟨1, 0, 0, 0, 3, 1, false, hd0, 28, false⟩ ((frL x K).take c) = _ from hP2]
  obtain rfl | rfl | rfl : K = 0 ∨ K = 1 ∨ K = 2 := by omega
  · have g := ud0_g x.f x.t (x.ys.take 40) ok.f0 ok.f1 ok.t0 ok.t1 (by omega)
    have g2 : G16 (carL 0 x.s x.d x.f x.t x.fl (x.ys.take 40)) 2 = x.t := by
      show G16 (udL _ _ _ _ _) 2 = _
      unfold udL; rw [P16_g16_ne _ _ _ _ (by decide) (by decide) (by decide)]; exact g.2.1
    rw [g2]
    simp [finF, ofF, carP]
  · have g := tc0_g x.f x.t (x.fl % 256) (x.ys.take 40) ok.f0 ok.f1 ok.t0 ok.t1
    have g2 : G16 (carL 1 x.s x.d x.f x.t x.fl (x.ys.take 40)) 2 = x.t := by
      show G16 (tcL _ _ _ _ _ _) 2 = _
      unfold tcL; rw [P16_g16_ne _ _ _ _ (by decide) (by decide) (by decide)]; exact g.2.1
    rw [g2]
    simp [finF, ofF, carP]
  · simp [finF, ofF, carP]
end Go.Proofs.Ytbnlpidhbilenaa
