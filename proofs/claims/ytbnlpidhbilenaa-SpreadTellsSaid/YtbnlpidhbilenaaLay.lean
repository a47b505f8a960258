/-
  What is laid, as lists of bytes: datagrams, segments, echoes and errors; their fields and sums. Conditions stand in each theorem.
-/
import Derived.Test.YtbnlpidhbilenaaBehind
import Derived.Test.YtbnlpidhbilenaaPseudo
namespace Go.Proofs.Ytbnlpidhbilenaa
open Go.RowKit Plain
set_option linter.unusedVariables false
set_option linter.unusedSimpArgs false
set_option maxRecDepth 100000

def ud0 (f t : Int) (L : List Int) : List Int := w2l f ++ w2l t ++ w2l (8 + (L.length : Int)) ++ [0, 0] ++ L
def no0 (x : Int) : Int := if x = 0 then 65535 else x
def udL (s d f t : Int) (L : List Int) : List Int := P16 (ud0 f t L) 6 (no0 (Ps s d 17 (ud0 f t L)))
def tc0 (f t fl : Int) (L : List Int) : List Int := w2l f ++ w2l t ++ [0, 0, 0, 0, 0, 0, 0, 0, 80, fl, 32, 0, 0, 0, 0, 0] ++ L
def tcL (s d f t fl : Int) (L : List Int) : List Int := P16 (tc0 f t fl L) 16 (Ps s d 6 (tc0 f t fl L))
def ic0 (k c id : Int) (L : List Int) : List Int := [k, c, 0, 0] ++ w2l id ++ [0, 0] ++ L
def icL (k c id : Int) (L : List Int) : List Int := P16 (ic0 k c id L) 2 (Cs (ic0 k c id L))

theorem P16_len (zs : List Int) (i : Nat) (v : Int) : (P16 zs i v).length = zs.length := by unfold P16; simp
theorem P16_by {zs : List Int} (h : By zs) (i : Nat) (v : Int) (h0 : 0 ≤ v) (h1 : v ≤ 65535) : By (P16 zs i v) := by
  unfold P16; exact (h.set i _ (by omega) (by omega)).set (i + 1) _ (by omega) (by omega)
theorem getD_set_ne (l : List Int) (i j : Nat) (x : Int) (h : i ≠ j) : (l.set i x).getD j 0 = l.getD j 0 := by simp [List.getD, List.getElem?_set_ne h]
theorem getD_set_eq (l : List Int) (i : Nat) (x : Int) (h : i < l.length) : (l.set i x).getD i 0 = x := by simp [List.getD, h]
theorem P16_other (zs : List Int) (i j : Nat) (v : Int) (h1 : j ≠ i) (h2 : j ≠ i + 1) : (P16 zs i v).getD j 0 = zs.getD j 0 := by
  unfold P16; rw [getD_set_ne _ _ _ _ (Ne.symm h2), getD_set_ne _ _ _ _ (Ne.symm h1)]
theorem P16_g16 (zs : List Int) (i : Nat) (v : Int) (h : i + 1 < zs.length) : G16 (P16 zs i v) i = v := by
  unfold G16 P16
  rw [getD_set_ne _ _ _ _ (by omega), getD_set_eq _ _ _ (by omega), getD_set_eq _ _ _ (by simpa using h)]
  omega
theorem P16_g16_ne (zs : List Int) (i j : Nat) (v : Int) (h1 : j ≠ i) (h2 : j ≠ i + 1) (h3 : j + 1 ≠ i) : G16 (P16 zs i v) j = G16 zs j := by
  unfold G16
  rw [P16_other _ _ _ _ h1 h2, P16_other _ _ _ _ h3 (by omega)]
theorem P16_tot (zs : List Int) (i : Nat) (v : Int) (he : i % 2 = 0) (h : i + 1 < zs.length) : tot (P16 zs i v) = tot zs + v - G16 zs i := by
  unfold P16
  rw [tot_set _ _ _ (by simpa using h), tot_set _ _ _ (by omega), if_pos he, if_neg (by omega), getD_set_ne _ _ _ _ (by omega)]
  unfold G16
  omega
theorem P16_P16 (zs : List Int) (i : Nat) (u v : Int) : P16 (P16 zs i u) i v = P16 zs i v := by
  unfold P16
  rw [List.set_comm _ _ (show i + 1 ≠ i by omega), List.set_set, List.set_set]
theorem no0_range (x : Int) (h0 : 0 ≤ x) (h1 : x ≤ 65535) : 1 ≤ no0 x ∧ no0 x ≤ 65535 := by unfold no0; split <;> omega

theorem ud0_len (f t : Int) (L : List Int) : (ud0 f t L).length = 8 + L.length := by unfold ud0 w2l; simp; omega
theorem ud0_by (f t : Int) {L : List Int} (h : By L) : By (ud0 f t L) := by
  unfold ud0
  exact ((((w2l_by f).app (w2l_by t)).app (w2l_by _)).app (By.mk (by omega) (by omega) (By.mk (by omega) (by omega) By.nil))).app h
theorem tc0_len (f t fl : Int) (L : List Int) : (tc0 f t fl L).length = 20 + L.length := by unfold tc0 w2l; simp; omega
theorem tc0_by (f t fl : Int) {L : List Int} (h : By L) (f0 : 0 ≤ fl) (f1 : fl ≤ 255) : By (tc0 f t fl L) := by
  unfold tc0
  refine (((w2l_by f).app (w2l_by t)).app ?_).app h
  intro x hx
  simp at hx
  omega
theorem ic0_len (k c id : Int) (L : List Int) : (ic0 k c id L).length = 8 + L.length := by unfold ic0 w2l; simp; omega
theorem ic0_by (k c id : Int) {L : List Int} (h : By L) (k0 : 0 ≤ k) (k1 : k ≤ 255) (c0 : 0 ≤ c) (c1 : c ≤ 255) : By (ic0 k c id L) := by
  unfold ic0
  refine ((By.app ?_ (w2l_by id)).app ?_).app h
  · intro x hx
    simp at hx
    omega
  · intro x hx
    simp at hx
    omega
theorem ud0_g (f t : Int) (L : List Int) (f0 : 0 ≤ f) (f1 : f ≤ 65535) (t0 : 0 ≤ t) (t1 : t ≤ 65535) (hl : L.length ≤ 1400) : G16 (ud0 f t L) 0 = f ∧ G16 (ud0 f t L) 2 = t ∧ G16 (ud0 f t L) 4 = 8 + (L.length : Int) ∧ G16 (ud0 f t L) 6 = 0 := by
  unfold G16 ud0 w2l
  simp [List.getD]
  omega
theorem tc0_g (f t fl : Int) (L : List Int) (f0 : 0 ≤ f) (f1 : f ≤ 65535) (t0 : 0 ≤ t) (t1 : t ≤ 65535) : G16 (tc0 f t fl L) 0 = f ∧ G16 (tc0 f t fl L) 2 = t ∧ (tc0 f t fl L).getD 12 0 = 80 ∧ (tc0 f t fl L).getD 13 0 = fl ∧ G16 (tc0 f t fl L) 16 = 0 := by
  unfold G16 tc0 w2l
  simp [List.getD]
  omega
theorem ic0_g (k c id : Int) (L : List Int) (i0 : 0 ≤ id) (i1 : id ≤ 65535) : (ic0 k c id L).getD 0 0 = k ∧ (ic0 k c id L).getD 1 0 = c ∧ G16 (ic0 k c id L) 4 = id ∧ G16 (ic0 k c id L) 2 = 0 := by
  unfold G16 ic0 w2l
  simp [List.getD]
  omega

/-- what stands ahead in the sum -/
def Px (s d pr : Int) (n : Nat) : Int := s / 65536 + s % 65536 + d / 65536 + d % 65536 + (pr + (n : Int) % 65536)
theorem Ps_px (s d pr : Int) (zs : List Int) : Ps s d pr zs = 65535 - F (Px s d pr zs.length + tot zs) := rfl
theorem Px_pos (s d pr : Int) (n : Nat) (s0 : 0 ≤ s) (d0 : 0 ≤ d) (p0 : 0 < pr) : 0 < Px s d pr n := by unfold Px; omega
theorem Ps_P16 (s d pr : Int) (zs : List Int) (i : Nat) (v : Int) (he : i % 2 = 0) (h : i + 1 < zs.length) (hz : G16 zs i = 0) : Ps s d pr (P16 zs i v) = 65535 - F (Px s d pr zs.length + tot zs + v) := by
  rw [Ps_px, P16_len, P16_tot zs i v he h, hz]; congr 2; omega
theorem F_full (X : Int) (h : 0 < X) : F X = 65535 ↔ X % 65535 = 0 := by unfold F; split <;> omega
/-- which sums are right -/
theorem right_iff (X v : Int) (hX : 0 < X) (h0 : 0 < v) (h1 : v ≤ 65535) : F (X + v) = 65535 ↔ v = no0 (65535 - F X) := by
  rw [F_full _ (by omega)]
  unfold no0 F
  split <;> split <;> omega
theorem udL_len (s d f t : Int) (L : List Int) : (udL s d f t L).length = 8 + L.length := by unfold udL; rw [P16_len, ud0_len]
theorem udL_by (s d f t : Int) {L : List Int} (h : By L) (s0 : 0 ≤ s) (d0 : 0 ≤ d) : By (udL s d f t L) := by
  have r := Ps_range s d 17 _ (ud0_by f t h) s0 d0 (by decide)
  have r' := no0_range _ r.1 r.2
  exact P16_by (ud0_by f t h) _ _ (by omega) r'.2
theorem tcL_len (s d f t fl : Int) (L : List Int) : (tcL s d f t fl L).length = 20 + L.length := by unfold tcL; rw [P16_len, tc0_len]
theorem tcL_by (s d f t fl : Int) {L : List Int} (h : By L) (s0 : 0 ≤ s) (d0 : 0 ≤ d) (f0 : 0 ≤ fl) (f1 : fl ≤ 255) : By (tcL s d f t fl L) := by
  have r := Ps_range s d 6 _ (tc0_by f t fl h f0 f1) s0 d0 (by decide)
  exact P16_by (tc0_by f t fl h f0 f1) _ _ r.1 r.2
theorem icL_len (k c id : Int) (L : List Int) : (icL k c id L).length = 8 + L.length := by unfold icL; rw [P16_len, ic0_len]
theorem icL_by (k c id : Int) {L : List Int} (h : By L) (k0 : 0 ≤ k) (k1 : k ≤ 255) (c0 : 0 ≤ c) (c1 : c ≤ 255) : By (icL k c id L) := by
  have r := Cs_range _ (ic0_by k c id h k0 k1 c0 c1)
  exact P16_by (ic0_by k c id h k0 k1 c0 c1) _ _ r.1 r.2
end Go.Proofs.Ytbnlpidhbilenaa
