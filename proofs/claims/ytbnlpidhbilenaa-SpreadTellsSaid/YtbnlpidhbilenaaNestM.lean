/-
  Errors about packets: what part.Get tells of them. Conditions stand in each theorem.
-/
import Derived.Test.YtbnlpidhbilenaaTurned
namespace Go.Proofs.Ytbnlpidhbilenaa
open Go.RowKit Plain
set_option linter.unusedVariables false
set_option linter.unusedSimpArgs false
set_option maxRecDepth 100000

/-- the begin of a frame is got as part of a packet -/
theorem frm_pt (t p s d : Int) (ys : List Int) (k : Nat) (hk : 20 ≤ k) (hl : ys.length ≤ 1480) (t0 : 0 ≤ t) (t1 : t ≤ 255) (p0 : 0 ≤ p) (p1 : p ≤ 255) (s0 : 0 ≤ s) (s1 : s ≤ 4294967295) (d0 : 0 ≤ d) (d1 : d ≤ 4294967295) :
    ptE ((frm t p s d ys).take k) = 0 ∧ ptH ((frm t p s d ys).take k) = ⟨20, 20 + (ys.length : Int), t, p, s, d⟩ := by
  have hlen : ((frm t p s d ys).take k).length = min k (20 + ys.length) := by rw [List.length_take, frm_len]
  have e1 : ∀ i, i < 20 → ((frm t p s d ys).take k).getD i 0 = (hb1 t p s d (20 + (ys.length : Int))).getD i 0 := fun i hi => by
    rw [getD_take _ _ _ (by omega)]
    unfold frm
    simp only [List.getD]
    rw [List.getElem?_append_left (by rw [hb1_len]; omega)]
  have e16 : ∀ i, i + 1 < 20 → G16 ((frm t p s d ys).take k) i = G16 (hb1 t p s d (20 + (ys.length : Int))) i := fun i hi => by
    unfold G16
    rw [e1 i (by omega), e1 (i + 1) hi]
  have hfl : fld ((frm t p s d ys).take k) = ⟨20, 20 + (ys.length : Int), t, p, s, d⟩ := by
    unfold fld G32
    rw [e1 0 (by omega), e1 8 (by omega), e1 9 (by omega), e16 2 (by omega), e16 12 (by omega), e16 14 (by omega), e16 16 (by omega), e16 18 (by omega)]
    show Hd.mk (69 % 16 * 4) ((20 + (ys.length : Int)) / 256 * 256 + (20 + (ys.length : Int)) % 256) t p ((s / 65536 / 256 * 256 + s / 65536 % 256) * 65536 + (s % 65536 / 256 * 256 + s % 65536 % 256)) ((d / 65536 / 256 * 256 + d / 65536 % 256) * 65536 + (d % 65536 / 256 * 256 + d % 65536 % 256)) = _
    congr 1 <;> omega
  have hr : rdE ((frm t p s d ys).take k) 65535 = 0 := by
    unfold rdE
    rw [if_neg (by omega), e1 0 (by omega), if_neg (by show ¬ ((69 : Int) / 16 ≠ 4); decide), hfl]
    rw [if_neg (by show ¬ ((20 : Int) < 20); decide), if_neg (by rw [hlen]; show ¬ ((_ : Int) < 20); omega), if_neg (by show ¬ ((20 + (ys.length : Int)) < 20); omega), if_neg (by show ¬ (65535 < (20 + (ys.length : Int))); omega)]
  have hpc : G16 ((frm t p s d ys).take k) 6 % 16384 = 0 := by
    rw [e16 6 (by omega)]; show ((64 : Int) * 256 + 0) % 16384 = 0; decide
  have he : ptE ((frm t p s d ys).take k) = 0 := by
    unfold ptE
    rw [hr, if_neg (by decide), hpc, if_neg (by decide)]
  exact ⟨he, by unfold ptH; rw [he, if_pos rfl, hfl]⟩

theorem icL_drop (k c id : Int) (L : List Int) : (icL k c id L).drop 8 = L := by
  unfold icL
  generalize Cs (ic0 k c id L) = v
  unfold P16 ic0 w2l
  rfl
theorem icL_0 (k c id : Int) (L : List Int) : (icL k c id L).getD 0 0 = k ∧ (icL k c id L).getD 1 0 = c := by
  unfold icL
  rw [P16_other _ _ _ _ (by decide) (by decide), P16_other _ _ _ _ (by decide) (by decide)]
  exact ⟨rfl, rfl⟩
theorem icL_4 (k c id : Int) (L : List Int) (i0 : 0 ≤ id) (i1 : id ≤ 65535) : G16 (icL k c id L) 4 = id := by
  unfold icL
  rw [P16_g16_ne _ _ _ _ (by decide) (by decide) (by decide)]
  exact (ic0_g k c id L i0 i1).2.2.1
theorem erC_frm (t p s d : Int) (ys : List Int) (k : Nat) (hk : 20 ≤ k) (hh : ptH ((frm t p s d ys).take k) = ⟨20, 20 + (ys.length : Int), t, p, s, d⟩) : erC ((frm t p s d ys).take k) = ys.take (k - 20) := by
  unfold erC
  rw [hh]
  show ((frm t p s d ys).take k).drop 20 = _
  rw [List.drop_take]
  unfold frm
  rw [List.drop_append_of_le_length (by rw [hb1_len]; omega), List.drop_of_length_le (by rw [hb1_len]; omega), List.nil_append]
/-- an error about a packet whose first bytes are there -/
theorem er_any (t p s d : Int) (ys : List Int) (k : Nat) (hk : 28 ≤ k) (h8 : 8 ≤ ys.length) (hl : ys.length ≤ 1480) (t0 : 0 ≤ t) (t1 : t ≤ 255) (p0 : 0 ≤ p) (p1 : p ≤ 255) (s0 : 0 ≤ s) (s1 : s ≤ 4294967295) (d0 : 0 ≤ d) (d1 : d ≤ 4294967295) :
    erE ((frm t p s d ys).take k) = (if p = 17 ∨ p = 6 then 0 else if p = 1 ∧ (ys.getD 0 0 = 0 ∨ ys.getD 0 0 = 8) then 0 else 6) ∧
    (erE ((frm t p s d ys).take k) = 0 → ∀ q : Pt, erP q ((frm t p s d ys).take k) = (if p = 1 then { q with er := true, inn := ⟨20, 20 + (ys.length : Int), t, p, s, d⟩, sp := G16 ys 4, dp := G16 ys 4 } else { q with er := true, inn := ⟨20, 20 + (ys.length : Int), t, p, s, d⟩, sp := G16 ys 0, dp := G16 ys 2 })) := by
  obtain ⟨he, hh⟩ := frm_pt t p s d ys k (by omega) hl t0 t1 p0 p1 s0 s1 d0 d1
  have hc := erC_frm t p s d ys k (by omega) hh
  have hlen : ((frm t p s d ys).take k).length = min k (20 + ys.length) := by rw [List.length_take, frm_len]
  have g0 : (ys.take (k - 20)).getD 0 0 = ys.getD 0 0 := getD_take _ _ _ (by omega)
  have g16 : ∀ i, i < 6 → G16 (ys.take (k - 20)) i = G16 ys i := fun i hi => by
    unfold G16; rw [getD_take _ _ _ (by omega), getD_take _ _ _ (by omega)]
  constructor
  · unfold erE
    rw [he, if_neg (by decide), hh, hlen, hc, g0]
    rw [if_neg (by show ¬ (_ - (20 : Int) < 8 ∨ 20 + (ys.length : Int) - 20 < 8); omega)]
  · intro hz q
    unfold erP
    rw [if_pos hz, hh, hc, g16 4 (by omega), g16 0 (by omega), g16 2 (by omega)]
/-- what an error about a packet tells -/
theorem ic_er (kd cd : Int) (hk : kd = 3 ∨ kd = 11) (c0 : 0 ≤ cd) (c1 : cd ≤ 255) (X : List Int) (hb : By X) :
    icE (icL kd cd 0 X) = erE X ∧ (erE X = 0 → icP 20 (icL kd cd 0 X) = erP ⟨1, 0, 0, 0, kd, cd, false, hd0, 28, false⟩ X) := by
  have hs := icL_sum kd cd 0 X hb (by omega) (by omega) c0 c1 (by omega) (by omega)
  have hl := icL_len kd cd 0 X
  obtain ⟨g0, g1⟩ := icL_0 kd cd 0 X
  have hd := icL_drop kd cd 0 X
  have hE : icE (icL kd cd 0 X) = erE X := by
    unfold icE
    rw [if_neg (by omega), if_neg (by unfold Cs; rw [hs]; decide), g0, if_neg (by omega), if_pos (by omega), hd]
  refine ⟨hE, fun hz => ?_⟩
  unfold icP
  rw [hE, if_pos hz, g0, g1, if_neg (by omega), hd]
  rfl
/-- what is laid is got -/
theorem low_ok (K : Nat) (hK : K < 4) (s d f t fl : Int) (L : List Int) (hl : L.length ≤ 1400) (h : By L) (s0 : 0 ≤ s) (d0 : 0 ≤ d) (f0 : 0 ≤ f) (f1 : f ≤ 65535) (t0 : 0 ≤ t) (t1 : t ≤ 65535) :
    byE (carP K) s d (carL K s d f t fl L) = 0 := by
  obtain rfl | rfl | rfl | rfl : K = 0 ∨ K = 1 ∨ K = 2 ∨ K = 3 := by omega
  · show udE s d (udL s d f t L) = 0
    obtain ⟨_, _, g4, g6⟩ := ud0_g f t L f0 f1 t0 t1 hl
    have hX := Px_pos s d 17 (udL s d f t L).length s0 d0 (by decide)
    have hT := tot_nonneg _ (udL_by s d f t h s0 d0)
    have hs := udL_sum s d f t L hl h s0 d0 f0 f1 t0 t1
    have hp : Ps s d 17 (udL s d f t L) = 0 := by rw [Ps_px]; have := (F_full _ (by omega)).2 hs; omega
    unfold udE
    rw [udL_len, if_neg (by omega)]
    have e4 : G16 (udL s d f t L) 4 = 8 + (L.length : Int) := by unfold udL; rw [P16_g16_ne _ _ _ _ (by decide) (by decide) (by decide)]; exact g4
    rw [e4, if_neg (by omega), hp, if_neg (by simp)]
  · show tcE s d (tcL s d f t (fl % 256) L) = 0
    obtain ⟨_, _, g12, g13, g16⟩ := tc0_g f t (fl % 256) L f0 f1 t0 t1
    have hX := Px_pos s d 6 (tcL s d f t (fl % 256) L).length s0 d0 (by decide)
    have hT := tot_nonneg _ (tcL_by s d f t (fl % 256) h s0 d0 (by omega) (by omega))
    have hs := tcL_sum s d f t (fl % 256) L h s0 d0 f0 f1 t0 t1 (by omega) (by omega)
    have hp : Ps s d 6 (tcL s d f t (fl % 256) L) = 0 := by rw [Ps_px]; have := (F_full _ (by omega)).2 hs; omega
    unfold tcE
    have e12 : (tcL s d f t (fl % 256) L).getD 12 0 = 80 := by unfold tcL; rw [P16_other _ _ _ _ (by decide) (by decide)]; exact g12
    rw [tcL_len, if_neg (by omega), e12, if_neg (by omega), hp, if_neg (by simp)]
  · show icE (icL 8 0 f L) = 0
    have hs := icL_sum 8 0 f L h (by omega) (by omega) (by omega) (by omega) f0 f1
    obtain ⟨g0, g1⟩ := icL_0 8 0 f L
    unfold icE
    rw [icL_len, if_neg (by omega), if_neg (by unfold Cs; rw [hs]; decide), g0, if_pos (by simp), g1, if_neg (by simp)]
  · show icE (icL 0 0 f L) = 0
    have hs := icL_sum 0 0 f L h (by omega) (by omega) (by omega) (by omega) f0 f1
    obtain ⟨g0, g1⟩ := icL_0 0 0 f L
    unfold icE
    rw [icL_len, if_neg (by omega), if_neg (by unfold Cs; rw [hs]; decide), g0, if_pos (by simp), g1, if_neg (by simp)]
end Go.Proofs.Ytbnlpidhbilenaa
