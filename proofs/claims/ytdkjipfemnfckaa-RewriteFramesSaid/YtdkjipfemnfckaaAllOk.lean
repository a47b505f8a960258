/-
  What a Sent carries is got, whatever it is. Conditions stand in each theorem.
-/
import Derived.Test.YtdkjipfemnfckaaNestM
namespace Go.Proofs.Ytdkjipfemnfckaa
open Go.RowKit Plain
set_option linter.unusedVariables false
set_option linter.unusedSimpArgs false
set_option maxRecDepth 100000

theorem all_ok (K : Nat) (hK : K < 7) (s d f t fl : Int) (L : List Int) (hl : L.length ≤ 40) (h : By L) (s0 : 0 ≤ s) (s1 : s ≤ 4294967295) (d0 : 0 ≤ d) (d1 : d ≤ 4294967295) (f0 : 0 ≤ f) (f1 : f ≤ 65535) (t0 : 0 ≤ t) (t1 : t ≤ 65535) :
    byE (carP K) s d (carL K s d f t fl L) = 0 := by
  by_cases hK4 : K < 4
  · exact low_ok K hK4 s d f t fl L (by omega) h s0 d0 f0 f1 t0 t1
  obtain rfl | rfl | rfl : K = 4 ∨ K = 5 ∨ K = 6 := by omega
  · show icE (icL 3 (fl.tmod 16 % 256) 0 (frm 9 17 d s (udL d s t f L))) = 0
    have hu : By (udL d s t f L) := udL_by d s t f h d0 s0
    have hX := frm_all 9 17 d s (udL d s t f L) hu (by rw [udL_len]; omega) (by omega) (by omega) (by omega) (by omega) d0 d1 s0 s1
    have her := (er_any 9 17 d s (udL d s t f L) (20 + (udL d s t f L).length) (by rw [udL_len]; omega) (by rw [udL_len]; omega) (by rw [udL_len]; omega) (by omega) (by omega) (by omega) (by omega) d0 d1 s0 s1).1
    rw [List.take_of_length_le (by rw [frm_len]; omega)] at her
    rw [(ic_er 3 (fl.tmod 16 % 256) (Or.inl rfl) (by omega) (by omega) _ hX).1, her]
    rw [if_pos (Or.inl rfl)]
  · show icE (icL 11 0 0 ((frm 9 6 d s (tcL d s t f 2 L)).take (28 + L.length / 2))) = 0
    have hu : By (tcL d s t f 2 L) := tcL_by d s t f 2 h d0 s0 (by omega) (by omega)
    have hX := frm_all 9 6 d s (tcL d s t f 2 L) hu (by rw [tcL_len]; omega) (by omega) (by omega) (by omega) (by omega) d0 d1 s0 s1
    have her := (er_any 9 6 d s (tcL d s t f 2 L) (28 + L.length / 2) (by omega) (by rw [tcL_len]; omega) (by rw [tcL_len]; omega) (by omega) (by omega) (by omega) (by omega) d0 d1 s0 s1).1
    rw [(ic_er 11 0 (Or.inr rfl) (by omega) (by omega) _ (hX.take _)).1, her]
    rw [if_pos (Or.inr rfl)]
  · show icE (icL 3 1 0 (frm 9 1 d s (icL 8 0 t L))) = 0
    have hu : By (icL 8 0 t L) := icL_by 8 0 t h (by omega) (by omega) (by omega) (by omega)
    have hX := frm_all 9 1 d s (icL 8 0 t L) hu (by rw [icL_len]; omega) (by omega) (by omega) (by omega) (by omega) d0 d1 s0 s1
    have her := (er_any 9 1 d s (icL 8 0 t L) (20 + (icL 8 0 t L).length) (by rw [icL_len]; omega) (by rw [icL_len]; omega) (by rw [icL_len]; omega) (by omega) (by omega) (by omega) (by omega) d0 d1 s0 s1).1
    rw [List.take_of_length_le (by rw [frm_len]; omega)] at her
    rw [(ic_er 3 1 (Or.inl rfl) (by omega) (by omega) _ hX).1, her]
    rw [if_neg (by decide), if_pos ⟨rfl, Or.inr (icL_0 8 0 t L).1⟩]
end Go.Proofs.Ytdkjipfemnfckaa
