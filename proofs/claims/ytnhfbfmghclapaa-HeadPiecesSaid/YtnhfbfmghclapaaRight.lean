/-
  Plain lemmas on two bytes laid into a list (P16), on sums that are made right, and on a frame whose piece bits are other ones. Conditions stand in each theorem.
-/
import Derived.Test.YtnhfbfmghclapaaOpenH
import Derived.Test.YtnhfbfmghclapaaRFix
namespace Go.Proofs.Ytnhfbfmghclapaa
open Go.RowKit Plain
set_option linter.unusedVariables false
set_option maxRecDepth 100000

theorem getD_set_ne (L : List Int) (i j : Nat) (v : Int) (h : i ≠ j) : (L.set i v).getD j 0 = L.getD j 0 := by
  simp [List.getD, h]
theorem getD_set_eq (L : List Int) (i : Nat) (v : Int) (h : i < L.length) : (L.set i v).getD i 0 = v := by
  simp [List.getD, h]
theorem P16_len (L : List Int) (k : Nat) (v : Int) : (P16 L k v).length = L.length := by unfold P16; simp
theorem P16_by (L : List Int) (k : Nat) (v : Int) (h : By L) (v0 : 0 ≤ v) (v1 : v ≤ 65535) : By (P16 L k v) := by
  unfold P16; exact (h.set _ _ (by omega) (by omega)).set _ _ (by omega) (by omega)
theorem P16_ne (L : List Int) (k j : Nat) (v : Int) (h : k ≠ j) (h' : k + 1 ≠ j) : (P16 L k v).getD j 0 = L.getD j 0 := by
  unfold P16; rw [getD_set_ne _ _ _ _ h', getD_set_ne _ _ _ _ h]
theorem P16_hi (L : List Int) (k : Nat) (v : Int) (h : k < L.length) : (P16 L k v).getD k 0 = v / 256 := by
  unfold P16; rw [getD_set_ne _ _ _ _ (by omega), getD_set_eq _ _ _ h]
theorem P16_lo (L : List Int) (k : Nat) (v : Int) (h : k + 1 < L.length) : (P16 L k v).getD (k + 1) 0 = v % 256 := by
  unfold P16; rw [getD_set_eq _ _ _ (by simpa using h)]
theorem G16_P16 (L : List Int) (k : Nat) (v : Int) (h : k + 1 < L.length) : G16 (P16 L k v) k = v := by
  unfold G16; rw [P16_hi _ _ _ (by omega), P16_lo _ _ _ h]; omega
theorem G16_ne (L : List Int) (k j : Nat) (v : Int) (h : k + 2 ≤ j ∨ j + 2 ≤ k) : G16 (P16 L k v) j = G16 L j := by
  unfold G16; rw [P16_ne _ _ _ _ (by omega) (by omega), P16_ne _ _ _ _ (by omega) (by omega)]
theorem P16_take (L : List Int) (k n : Nat) (v : Int) : (P16 L k v).take n = P16 (L.take n) k v := by
  unfold P16; rw [List.take_set, List.take_set]
theorem tot_P16 (L : List Int) (k : Nat) (v : Int) (hk : k % 2 = 0) (hl : k + 1 < L.length) : tot (P16 L k v) = tot L - G16 L k + v := by
  unfold P16
  rw [tot_set _ (k + 1) _ (by simpa using hl), if_neg (by omega), tot_set _ k _ (by omega), if_pos hk, getD_set_ne _ _ _ _ (by omega)]
  unfold G16; omega
/-- the sum that is made over two noughts is right -/
theorem Cs_right (L : List Int) (k : Nat) (hL : By L) (hk : k % 2 = 0) (hl : k + 1 < L.length) (h0 : G16 L k = 0) : Cs (P16 L k (Cs L)) = 0 := by
  have t0 := tot_nonneg L hL
  have fr := F_range _ t0
  have e := tot_P16 L k (Cs L) hk hl
  have hc : Cs L = 65535 - F (tot L) := rfl
  show 65535 - F (tot (P16 L k (Cs L))) = 0
  rw [e, h0, hc, show tot L - 0 + (65535 - F (tot L)) = tot L + (65535 - F (tot L)) by omega, ← F_add _ _ t0 (by omega), show F (tot L) + (65535 - F (tot L)) = 65535 by omega]
  decide

theorem frm_by' (t p s d : Int) (ys : List Int) (hy : By ys) (hl : ys.length ≤ 1480) (t0 : 0 ≤ t) (t1 : t ≤ 255) (p0 : 0 ≤ p) (p1 : p ≤ 255) (s0 : 0 ≤ s) (s1 : s ≤ 4294967295) (d0 : 0 ≤ d) (d1 : d ≤ 4294967295) : By (frm t p s d ys) := by
  unfold frm; exact (frm_by t p s d ys hy hl t0 t1 p0 p1 s0 s1 d0 d1).1.app hy

/-- a frame with other piece bits, and its sum made right -/
theorem piece_got (t p s d : Int) (ys : List Int) (v : Int) (hy : By ys) (hl : ys.length ≤ 1480) (t0 : 0 ≤ t) (t1 : t ≤ 255) (p0 : 0 ≤ p) (p1 : p ≤ 255) (s0 : 0 ≤ s) (s1 : s ≤ 4294967295) (d0 : 0 ≤ d) (d1 : d ≤ 4294967295) (v0 : 0 ≤ v) (v1 : v ≤ 65535) :
    gtE (fixL (P16 (frm t p s d ys) 6 v)) = (if v % 16384 ≠ 0 then 5 else 0) ∧ ptE (fixL (P16 (frm t p s d ys) 6 v)) = (if v % 16384 ≠ 0 then 5 else 0) := by
  obtain ⟨h0, _, h2⟩ := frm_head t p s d ys
  have hB := frm_by' t p s d ys hy hl t0 t1 p0 p1 s0 s1 d0 d1
  have hL := frm_len t p s d ys
  generalize frm t p s d ys = f at *
  have zB := P16_by f 6 v hB v0 v1
  have zL := P16_len f 6 v
  have z0 : (P16 f 6 v).getD 0 0 = 69 := by rw [P16_ne _ _ _ _ (by omega) (by omega)]; exact h0
  have z2 : G16 (P16 f 6 v) 2 = 20 + (ys.length : Int) := by rw [G16_ne _ _ _ _ (by omega)]; exact h2
  have z6 : G16 (P16 f 6 v) 6 = v := G16_P16 _ _ _ (by omega)
  generalize P16 f 6 v = z at *
  have hN : fixN z = 20 := by unfold fixN; rw [z0]; split <;> rfl
  have oL : (fix0 z).length = z.length := by unfold fix0; simp
  have oB : By (fix0 z) := by unfold fix0; exact (zB.set _ _ (by decide) (by decide)).set _ _ (by decide) (by decide)
  have o0 : (fix0 z).getD 0 0 = 69 := by unfold fix0; rw [getD_set_ne _ _ _ _ (by omega), getD_set_ne _ _ _ _ (by omega)]; exact z0
  have o2 : G16 (fix0 z) 2 = 20 + (ys.length : Int) := by rw [← z2]; unfold fix0 G16; rw [getD_set_ne _ _ _ _ (by omega), getD_set_ne _ _ _ _ (by omega), getD_set_ne _ _ _ _ (by omega), getD_set_ne _ _ _ _ (by omega)]
  have o6 : G16 (fix0 z) 6 = v := by rw [← z6]; unfold fix0 G16; rw [getD_set_ne _ _ _ _ (by omega), getD_set_ne _ _ _ _ (by omega), getD_set_ne _ _ _ _ (by omega), getD_set_ne _ _ _ _ (by omega)]
  have oz : G16 ((fix0 z).take 20) 10 = 0 := by
    unfold G16; rw [getD_take _ _ _ (by omega), getD_take _ _ _ (by omega)]; unfold fix0
    rw [getD_set_ne _ _ _ _ (by omega), getD_set_eq _ _ _ (by omega), getD_set_eq _ _ _ (by rw [List.length_set]; omega)]; rfl
  have hr := Cs_right ((fix0 z).take 20) 10 (oB.take 20) (by decide) (by rw [List.length_take]; omega) oz
  have hcs := Cs_range _ (oB.take 20)
  unfold fixL
  rw [hN]
  generalize Cs ((fix0 z).take 20) = cs at *
  generalize fix0 z = o at *
  have lL := P16_len o 10 cs
  have l0 : (P16 o 10 cs).getD 0 0 = 69 := by rw [P16_ne _ _ _ _ (by omega) (by omega)]; exact o0
  have l2 : G16 (P16 o 10 cs) 2 = 20 + (ys.length : Int) := by rw [G16_ne _ _ _ _ (by omega)]; exact o2
  have l6 : G16 (P16 o 10 cs) 6 = v := by rw [G16_ne _ _ _ _ (by omega)]; exact o6
  have lt : (P16 o 10 cs).take 20 = P16 (o.take 20) 10 cs := P16_take _ _ _ _
  rw [← lt] at hr
  generalize P16 o 10 cs = l at *
  have ls : (fld l).size = 20 := by show l.getD 0 0 % 16 * 4 = 20; rw [l0]; decide
  have ll : (fld l).len = 20 + (ys.length : Int) := l2
  have hrd : ∀ most : Int, 1500 ≤ most → rdE l most = 0 := by
    intro most hm
    unfold rdE
    rw [if_neg (by omega), l0, if_neg (by decide), ls, if_neg (by decide), if_neg (by omega), ll, if_neg (by omega), if_neg (by omega)]
  constructor
  · unfold gtE
    rw [hrd 1500 (by omega), if_neg (by decide), ll, if_neg (by omega), ls, show (20 : Int).toNat = 20 from rfl, hr, if_neg (by decide), l6]
  · unfold ptE
    rw [hrd 65535 (by omega), if_neg (by decide), l6]
end Go.Proofs.Ytnhfbfmghclapaa
