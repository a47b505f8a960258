/-
  One bit of what a packet carries is turned: its sum isn't right any more. Conditions stand in each theorem.
-/
import Derived.Test.YtbnlpidhbilenaaFrame
namespace Go.Proofs.Ytbnlpidhbilenaa
open Go.RowKit Plain
set_option linter.unusedVariables false
set_option linter.unusedSimpArgs false
set_option maxRecDepth 100000

theorem F_self (T : Int) (h : 0 ≤ T) : F (T + (65535 - F T)) = 65535 := by unfold F; split <;> split <;> omega
theorem F_no0 (T : Int) (h : 0 < T) : F (T + no0 (65535 - F T)) = 65535 := by unfold no0 F; split <;> split <;> split <;> omega
theorem F_65535 (T : Int) (h : 0 ≤ T) (hF : F T = 65535) : T % 65535 = 0 := by have := F_mod T h; omega
theorem turned_gen (X : Int) (l : List Int) (k : Nat) (y : Int) (hX : 0 ≤ X) (hk : k < l.length) (hl : By l) (h0 : (X + tot l) % 65535 = 0) (ht : Turned (l.getD k 0) y) : F (X + tot (l.set k y)) ≠ 65535 := by
  have hy := tot_nonneg (l.set k y) (hl.set k y ht.1 ht.2.1)
  have e := tot_set l k y hk
  unfold Turned at ht
  generalize l.getD k 0 = x at *
  have hF := F_mod (X + tot (l.set k y)) (by omega)
  intro hc
  rw [hc] at hF
  split at e <;> omega
theorem udL_sum (s d f t : Int) (L : List Int) (hl : L.length ≤ 1400) (h : By L) (s0 : 0 ≤ s) (d0 : 0 ≤ d) (f0 : 0 ≤ f) (f1 : f ≤ 65535) (t0 : 0 ≤ t) (t1 : t ≤ 65535) :
    (Px s d 17 (udL s d f t L).length + tot (udL s d f t L)) % 65535 = 0 := by
  obtain ⟨_, _, _, g6⟩ := ud0_g f t L f0 f1 t0 t1 hl
  have hX := Px_pos s d 17 (ud0 f t L).length s0 d0 (by decide)
  have hT := tot_nonneg _ (ud0_by f t h)
  unfold udL
  rw [P16_len, P16_tot _ 6 _ (by decide) (by rw [ud0_len]; omega), g6, Ps_px]
  have := F_65535 _ (by unfold no0 F; split <;> split <;> omega) (F_no0 (Px s d 17 (ud0 f t L).length + tot (ud0 f t L)) (by omega))
  omega
theorem tcL_sum (s d f t fl : Int) (L : List Int) (h : By L) (s0 : 0 ≤ s) (d0 : 0 ≤ d) (f0 : 0 ≤ f) (f1 : f ≤ 65535) (t0 : 0 ≤ t) (t1 : t ≤ 65535) (v0 : 0 ≤ fl) (v1 : fl ≤ 255) :
    (Px s d 6 (tcL s d f t fl L).length + tot (tcL s d f t fl L)) % 65535 = 0 := by
  obtain ⟨_, _, _, _, g6⟩ := tc0_g f t fl L f0 f1 t0 t1
  have hX := Px_pos s d 6 (tc0 f t fl L).length s0 d0 (by decide)
  have hT := tot_nonneg _ (tc0_by f t fl h v0 v1)
  unfold tcL
  rw [P16_len, P16_tot _ 16 _ (by decide) (by rw [tc0_len]; omega), g6, Ps_px]
  have hr := F_range (Px s d 6 (tc0 f t fl L).length + tot (tc0 f t fl L)) (by omega)
  have := F_65535 _ (by omega) (F_self (Px s d 6 (tc0 f t fl L).length + tot (tc0 f t fl L)) (by omega))
  omega
theorem icL_sum (k c id : Int) (L : List Int) (h : By L) (k0 : 0 ≤ k) (k1 : k ≤ 255) (c0 : 0 ≤ c) (c1 : c ≤ 255) (i0 : 0 ≤ id) (i1 : id ≤ 65535) :
    F (tot (icL k c id L)) = 65535 := by
  obtain ⟨_, _, _, g2⟩ := ic0_g k c id L i0 i1
  have hT := tot_nonneg _ (ic0_by k c id h k0 k1 c0 c1)
  unfold icL
  rw [P16_tot _ 2 _ (by decide) (by rw [ic0_len]; omega), g2]
  unfold Cs
  rw [show tot (ic0 k c id L) + (65535 - F (tot (ic0 k c id L))) - 0 = tot (ic0 k c id L) + (65535 - F (tot (ic0 k c id L))) by omega]
  exact F_self _ hT

/-- what a packet carries, by its protocol -/
def byE (pr s d : Int) (ys : List Int) : Int := if pr = 17 then udE s d ys else if pr = 6 then tcE s d ys else if pr = 1 then icE ys else 6
def byP (pr s d : Int) (ys : List Int) : Pt := if pr = 17 then udP s d ys else if pr = 6 then tcP s d ys else if pr = 1 then icP 20 ys else pt0
theorem byP_bad (pr s d : Int) (ys : List Int) (h : byE pr s d ys ≠ 0) : byP pr s d ys = pt0 := by
  unfold byE at h
  unfold byP
  split
  · rename_i hp; rw [if_pos hp] at h; unfold udP; rw [if_neg h]
  · rename_i hp; rw [if_neg hp] at h
    split
    · rename_i hp; rw [if_pos hp] at h; unfold tcP; rw [if_neg h]
    · rename_i hp; rw [if_neg hp] at h
      split
      · rename_i hp; rw [if_pos hp] at h; unfold icP; rw [if_neg h]
      · rfl

/-- one bit of what a packet carries is turned -/
theorem low_turned (K : Nat) (hK : K < 4) (s d f t fl : Int) (L : List Int) (hl : L.length ≤ 1400) (h : By L) (s0 : 0 ≤ s) (d0 : 0 ≤ d) (f0 : 0 ≤ f) (f1 : f ≤ 65535) (t0 : 0 ≤ t) (t1 : t ≤ 65535)
    (j : Nat) (y : Int) (hj : j < (carL K s d f t fl L).length) (ht : Turned ((carL K s d f t fl L).getD j 0) y) :
    byE (carP K) s d ((carL K s d f t fl L).set j y) ≠ 0 ∨
      byE (carP K) s d ((carL K s d f t fl L).set j y) = 0 ∧ (byP (carP K) s d ((carL K s d f t fl L).set j y)).proto = 17 ∧ (byP (carP K) s d ((carL K s d f t fl L).set j y)).bare = true := by
  obtain rfl | rfl | rfl | rfl : K = 0 ∨ K = 1 ∨ K = 2 ∨ K = 3 := by omega
  · by_cases hz : udE s d ((udL s d f t L).set j y) = 0
    · right
      have hX := Px_pos s d 17 (udL s d f t L).length s0 d0 (by decide)
      have hg := turned_gen (Px s d 17 (udL s d f t L).length) (udL s d f t L) j y (by omega) hj (udL_by s d f t h s0 d0) (udL_sum s d f t L hl h s0 d0 f0 f1 t0 t1) ht
      have h6 : G16 ((udL s d f t L).set j y) 6 = 0 := by
        unfold udE at hz
        split at hz
        · cases hz
        · split at hz
          · cases hz
          · split at hz
            · cases hz
            · rename_i hn
              rw [Ps_px, List.length_set] at hn
              refine Classical.byContradiction fun hc => hn ⟨hc, ?_⟩
              have := F_range (Px s d 17 (udL s d f t L).length + tot ((udL s d f t L).set j y)) (by have := tot_nonneg _ ((udL_by s d f t h s0 d0).set j y ht.1 ht.2.1); omega)
              omega
      refine ⟨hz, ?_, ?_⟩
      · show (udP s d ((udL s d f t L).set j y)).proto = 17
        unfold udP; rw [if_pos hz]
      · show (udP s d ((udL s d f t L).set j y)).bare = true
        unfold udP; rw [if_pos hz, h6]; rfl
    · exact Or.inl hz
  · left
    show tcE s d ((tcL s d f t (fl % 256) L).set j y) ≠ 0
    have hX := Px_pos s d 6 (tcL s d f t (fl % 256) L).length s0 d0 (by decide)
    have hg := turned_gen (Px s d 6 (tcL s d f t (fl % 256) L).length) (tcL s d f t (fl % 256) L) j y (by omega) hj (tcL_by s d f t _ h s0 d0 (by omega) (by omega)) (tcL_sum s d f t _ L h s0 d0 f0 f1 t0 t1 (by omega) (by omega)) ht
    have hp : Ps s d 6 ((tcL s d f t (fl % 256) L).set j y) ≠ 0 := by rw [Ps_px, List.length_set]; omega
    unfold tcE
    split
    · decide
    · split
      · decide
      · first | decide | (rw [if_pos hp]; decide)
  · left
    show icE ((icL 8 0 f L).set j y) ≠ 0
    have hb := icL_by 8 0 f h (by omega) (by omega) (by omega) (by omega)
    have hs := F_65535 _ (tot_nonneg _ hb) (icL_sum 8 0 f L h (by omega) (by omega) (by omega) (by omega) f0 f1)
    have hg : F (tot ((icL 8 0 f L).set j y)) ≠ 65535 := turned_sum _ j y hj hb hs ht
    have hp : Cs ((icL 8 0 f L).set j y) ≠ 0 := by unfold Cs; exact fun e => hg (by omega)
    unfold icE
    split
    · decide
    · first | decide | (rw [if_pos hp]; decide)
  · left
    show icE ((icL 0 0 f L).set j y) ≠ 0
    have hb := icL_by 0 0 f h (by omega) (by omega) (by omega) (by omega)
    have hs := F_65535 _ (tot_nonneg _ hb) (icL_sum 0 0 f L h (by omega) (by omega) (by omega) (by omega) f0 f1)
    have hg : F (tot ((icL 0 0 f L).set j y)) ≠ 65535 := turned_sum _ j y hj hb hs ht
    have hp : Cs ((icL 0 0 f L).set j y) ≠ 0 := by unfold Cs; exact fun e => hg (by omega)
    unfold icE
    split
    · decide
    · first | decide | (rw [if_pos hp]; decide)
theorem frm_all (t p s d : Int) (ys : List Int) (hy : By ys) (hl : ys.length ≤ 1480) (t0 : 0 ≤ t) (t1 : t ≤ 255) (p0 : 0 ≤ p) (p1 : p ≤ 255) (s0 : 0 ≤ s) (s1 : s ≤ 4294967295) (d0 : 0 ≤ d) (d1 : d ≤ 4294967295) : By (frm t p s d ys) :=
  (frm_by t p s d ys hy hl t0 t1 p0 p1 s0 s1 d0 d1).1.app hy
theorem carL_by (K : Nat) (s d f t fl : Int) {L : List Int} (hl : L.length ≤ 40) (h : By L) (s0 : 0 ≤ s) (s1 : s ≤ 4294967295) (d0 : 0 ≤ d) (d1 : d ≤ 4294967295) : By (carL K s d f t fl L) := by
  unfold carL
  split
  · exact udL_by s d f t h s0 d0
  · exact tcL_by s d f t _ h s0 d0 (by omega) (by omega)
  · exact icL_by _ _ _ h (by omega) (by omega) (by omega) (by omega)
  · exact icL_by _ _ _ h (by omega) (by omega) (by omega) (by omega)
  · exact icL_by _ _ _ (frm_all 9 17 d s _ (udL_by d s t f h d0 s0) (by rw [udL_len]; omega) (by omega) (by omega) (by omega) (by omega) d0 d1 s0 s1) (by omega) (by omega) (by omega) (by omega)
  · exact icL_by _ _ _ ((frm_all 9 6 d s _ (tcL_by d s t f 2 h d0 s0 (by omega) (by omega)) (by rw [tcL_len]; omega) (by omega) (by omega) (by omega) (by omega) d0 d1 s0 s1).take _) (by omega) (by omega) (by omega) (by omega)
  · exact icL_by _ _ _ (frm_all 9 1 d s _ (icL_by 8 0 t h (by omega) (by omega) (by omega) (by omega)) (by rw [icL_len]; omega) (by omega) (by omega) (by omega) (by omega) d0 d1 s0 s1) (by omega) (by omega) (by omega) (by omega)
end Go.Proofs.Ytbnlpidhbilenaa
