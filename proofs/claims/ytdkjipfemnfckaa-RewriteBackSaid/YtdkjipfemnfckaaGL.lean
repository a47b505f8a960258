/-
  Several small texts in one: RwA, RwB, RwC, RwD. Conditions stand in each theorem.
-/
import Derived.Test.YtdkjipfemnfckaaRwP
import Derived.Test.YtdkjipfemnfckaaGK
namespace Go.Proofs.Ytdkjipfemnfckaa
open Go.RowKit Plain
set_option linter.unusedVariables false
set_option linter.unusedSimpArgs false
set_option maxRecDepth 100000

theorem P16_take (L : List Int) (i : Nat) (v : Int) (k : Nat) : (P16 L i v).take k = P16 (L.take k) i v := by
  unfold P16; rw [List.take_set, List.take_set]
theorem P16_id (L : List Int) (i : Nat) (v : Int) (h : L.length ≤ i) : P16 L i v = L := by
  unfold P16; rw [List.set_eq_of_length_le (by rw [List.length_set]; omega), List.set_eq_of_length_le h]
theorem P16_take_le (L : List Int) (i : Nat) (v : Int) (k : Nat) (h : k ≤ i) : (P16 L i v).take k = L.take k := by
  rw [P16_take, P16_id _ _ _ (by rw [List.length_take]; omega)]
theorem P16_drop (L : List Int) (k j : Nat) (v : Int) : (P16 L (k + j) v).drop k = P16 (L.drop k) j v := by
  unfold P16
  rw [List.drop_set, List.drop_set, if_neg (by omega), if_neg (by omega), show k + j - k = j by omega, show k + j + 1 - k = j + 1 by omega]
theorem P16_drop_gt (L : List Int) (i k : Nat) (v : Int) (h : i + 2 ≤ k) : (P16 L i v).drop k = L.drop k := by
  unfold P16
  rw [List.drop_set, if_pos (by omega), List.drop_set, if_pos (by omega)]
theorem G16_drop (L : List Int) (k i : Nat) : G16 (L.drop k) i = G16 L (k + i) := by
  unfold G16; rw [getD_drop, getD_drop]; rfl
theorem G32_drop (L : List Int) (k i : Nat) : G32 (L.drop k) i = G32 L (k + i) := by
  unfold G32; rw [G16_drop, G16_drop]; rfl
theorem G16_take (L : List Int) (k i : Nat) (h : i + 1 < k) : G16 (L.take k) i = G16 L i := by
  unfold G16; rw [getD_take _ _ _ (by omega), getD_take _ _ _ h]
theorem G32_take (L : List Int) (k i : Nat) (h : i + 3 < k) : G32 (L.take k) i = G32 L i := by
  unfold G32; rw [G16_take _ _ _ (by omega), G16_take _ _ _ (by omega)]
theorem P32_len (L : List Int) (i : Nat) (A : Int) : (P32 L i A).length = L.length := by unfold P32; rw [P16_len, P16_len]
theorem P32_take (L : List Int) (i : Nat) (v : Int) (k : Nat) : (P32 L i v).take k = P32 (L.take k) i v := by unfold P32; rw [P16_take, P16_take]
theorem P32_drop (L : List Int) (k j : Nat) (v : Int) : (P32 L (k + j) v).drop k = P32 (L.drop k) j v := by
  unfold P32; rw [Nat.add_assoc, P16_drop, P16_drop]
theorem P32_other (L : List Int) (i j : Nat) (v : Int) (h : j < i ∨ i + 4 ≤ j) : (P32 L i v).getD j 0 = L.getD j 0 := by
  unfold P32; rw [P16_other _ _ _ _ (by omega) (by omega), P16_other _ _ _ _ (by omega) (by omega)]
theorem P32_g16_ne (L : List Int) (i j : Nat) (v : Int) (h : j + 2 ≤ i ∨ i + 4 ≤ j) : G16 (P32 L i v) j = G16 L j := by
  unfold G16; rw [P32_other _ _ _ _ (by omega), P32_other _ _ _ _ (by omega)]
theorem P32_g32 (L : List Int) (i : Nat) (v : Int) (h : i + 3 < L.length) : G32 (P32 L i v) i = v := by
  unfold G32 P32
  rw [P16_g16 _ (i + 2) _ (by rw [P16_len]; omega), P16_g16_ne _ _ _ _ (by omega) (by omega) (by omega), P16_g16 _ _ _ (by omega)]
  omega
theorem P32_tot (L : List Int) (i : Nat) (v : Int) (he : i % 2 = 0) (h : i + 3 < L.length) : tot (P32 L i v) = tot L + (v / 65536 + v % 65536) - (G16 L i + G16 L (i + 2)) := by
  unfold P32
  rw [P16_tot _ (i + 2) _ (by omega) (by rw [P16_len]; omega), P16_tot _ i _ he (by omega), P16_g16_ne _ _ _ _ (by omega) (by omega) (by omega)]
  omega
/-- what a mended sum comes to -/
theorem Fx_mod (s o n : Int) (s0 : 0 ≤ s) (s1 : s ≤ 65535) (o0 : 0 ≤ o) (o1 : o ≤ 65535) (n0 : 0 ≤ n) (n1 : n ≤ 65535) : (Fx s o n + n - o - s) % 65535 = 0 := by
  have h := F_mod (65535 - s + (65535 - o) + n) (by omega)
  unfold Fx
  omega
theorem FxW_mod (s o n : Int) (s0 : 0 ≤ s) (s1 : s ≤ 65535) (o0 : 0 ≤ o) (o1 : o ≤ 4294967295) (n0 : 0 ≤ n) (n1 : n ≤ 4294967295) : (FxW s o n + (n / 65536 + n % 65536) - (o / 65536 + o % 65536) - s) % 65535 = 0 := by
  have r := Fx_range s (o / 65536) (n / 65536) s0 s1 (by omega) (by omega) (by omega) (by omega)
  have h1 := Fx_mod s (o / 65536) (n / 65536) s0 s1 (by omega) (by omega) (by omega) (by omega)
  have h2 := Fx_mod (Fx s (o / 65536) (n / 65536)) (o % 65536) (n % 65536) r.1 r.2 (by omega) (by omega) (by omega) (by omega)
  unfold FxW
  omega
theorem FxC_mod (s wa A wp P : Int) (s0 : 0 ≤ s) (s1 : s ≤ 65535) (o0 : 0 ≤ wa) (o1 : wa ≤ 4294967295) (n0 : 0 ≤ A) (n1 : A ≤ 4294967295) (p0 : 0 ≤ wp) (p1 : wp ≤ 65535) (q0 : 0 ≤ P) (q1 : P ≤ 65535) :
    (FxC s wa A wp P + (A / 65536 + A % 65536) - (wa / 65536 + wa % 65536) + P - wp - s) % 65535 = 0 := by
  have r := FxW_range s wa A s0 s1 o0 o1 n0 n1
  have h1 := FxW_mod s wa A s0 s1 o0 o1 n0 n1
  have h2 := Fx_mod (FxW s wa A) wp P r.1 r.2 p0 p1 q0 q1
  unfold FxC
  omega
theorem no0_mod (x : Int) (h0 : 0 ≤ x) (h1 : x ≤ 65535) : (no0 x - x) % 65535 = 0 := by unfold no0; split <;> omega
theorem tot_first : ∀ (L : List Int), By L → L.getD 0 0 * 256 ≤ tot L
  | a :: b :: r, h => by have := tot_nonneg r h.tail.tail; have := h.cons; have := h.tail.cons; simp [tot, List.getD]; omega
  | [a], h => by simp [tot, List.getD]
  | [], _ => by simp [tot, List.getD]
theorem F_of_mod (x : Int) (h : 0 < x) (hm : x % 65535 = 0) : F x = 65535 := (F_full x h).2 hm

/-! what layAddr does -/
theorem adL_len (L : List Int) (o p : Nat) (A : Int) : (adL L o p A).length = L.length := by unfold adL; rw [P16_len, P32_len]
theorem adL_by {L : List Int} (h : By L) (o p : Nat) {A : Int} (n0 : 0 ≤ A) (n1 : A ≤ 4294967295) : By (adL L o p A) := by
  have h1 := P32_byte h (o + p) n0 n1
  have g := G32_range L h (o + p)
  have s := G16_range _ h1 (o + 10)
  have r := FxW_range _ _ A s.1 s.2 g.1 g.2 n0 n1
  exact P16_byte h1 _ r.1 r.2
theorem adL_other (L : List Int) (o p j : Nat) (A : Int) (h1 : j < o + p ∨ o + p + 4 ≤ j) (h2 : j ≠ o + 10) (h3 : j ≠ o + 11) : (adL L o p A).getD j 0 = L.getD j 0 := by
  unfold adL; rw [P16_other _ _ _ _ h2 (by omega), P32_other _ _ _ _ h1]
theorem adL_drop (L : List Int) (k j p : Nat) (A : Int) : (adL L (k + j) p A).drop k = adL (L.drop k) j p A := by
  unfold adL
  rw [Nat.add_assoc, Nat.add_assoc, P16_drop, P32_drop, G32_drop, ← G16_drop, P32_drop]
theorem adL_drop_far (L : List Int) (o p k : Nat) (A : Int) (hp : p + 4 ≤ 20) (h : o + 20 ≤ k) : (adL L o p A).drop k = L.drop k := by
  unfold adL P32
  rw [P16_drop_gt _ _ _ _ (by omega), P16_drop_gt _ _ _ _ (by omega), P16_drop_gt _ _ _ _ (by omega)]
theorem adL_take (L : List Int) (o p k : Nat) (A : Int) (hp : p + 4 ≤ 20) (h : o + 20 ≤ k) : (adL L o p A).take k = adL (L.take k) o p A := by
  unfold adL
  rw [P16_take, P32_take, G32_take _ _ _ (by omega), ← P32_take, G16_take _ _ _ (by omega), P32_take]
theorem adL_take_le (L : List Int) (o p k : Nat) (A : Int) (h : k ≤ o) : (adL L o p A).take k = L.take k := by
  unfold adL P32
  rw [P16_take_le _ _ _ _ (by omega), P16_take_le _ _ _ _ (by omega), P16_take_le _ _ _ _ (by omega)]
theorem adL_tot (L : List Int) (p : Nat) (A : Int) (hp : p = 12 ∨ p = 16) (h : By L) (hl : 20 ≤ L.length) (n0 : 0 ≤ A) (n1 : A ≤ 4294967295) : (tot (adL L 0 p A) - tot L) % 65535 = 0 := by
  have h1 := P32_byte h (0 + p) n0 n1
  have g := G32_range L h (0 + p)
  have s := G16_range _ h1 (0 + 10)
  have m := FxW_mod (G16 (P32 L (0 + p) A) (0 + 10)) (G32 L (0 + p)) A s.1 s.2 g.1 g.2 n0 n1
  have e1 := G16_range L h (0 + p)
  have e2 := G16_range L h (0 + p + 2)
  unfold adL
  rw [P16_tot _ (0 + 10) _ (by omega) (by rw [P32_len]; omega), P32_tot _ _ _ (by omega) (by omega)]
  have hg : G32 L (0 + p) = G16 L (0 + p) * 65536 + G16 L (0 + p + 2) := rfl
  rw [hg] at m ⊢
  generalize FxW (G16 (P32 L (0 + p) A) (0 + 10)) (G16 L (0 + p) * 65536 + G16 L (0 + p + 2)) A = f at *
  generalize G16 (P32 L (0 + p) A) (0 + 10) = s0 at *
  generalize G16 L (0 + p) = a at *
  generalize G16 L (0 + p + 2) = b at *
  omega
theorem adL_sum (L : List Int) (p : Nat) (A : Int) (hp : p = 12 ∨ p = 16) (h : By L) (hl : 20 ≤ L.length) (n0 : 0 ≤ A) (n1 : A ≤ 4294967295) (hv : L.getD 0 0 / 16 = 4) (hc : Cs L = 0) : Cs (adL L 0 p A) = 0 := by
  have t0 := tot_nonneg L h
  have hb := adL_by h 0 p n0 n1
  have m := adL_tot L p A hp h hl n0 n1
  have t1 := tot_first _ hb
  rw [adL_other _ _ _ _ _ (by omega) (by omega) (by omega)] at t1
  have hF : F (tot L) = 65535 := by unfold Cs at hc; omega
  have hm := F_65535 _ t0 hF
  unfold Cs
  rw [F_of_mod _ (by omega) (by omega)]
  rfl
/-- sums of heads are as right, or as wrong, as they were -/
theorem adL_cs (L : List Int) (p : Nat) (A : Int) (hp : p = 12 ∨ p = 16) (h : By L) (hl : 20 ≤ L.length) (n0 : 0 ≤ A) (n1 : A ≤ 4294967295) : Cs (adL L 0 p A) % 65535 = Cs L % 65535 := by
  have t0 := tot_nonneg L h
  have t1 := tot_nonneg _ (adL_by h 0 p n0 n1)
  have m := adL_tot L p A hp h hl n0 n1
  have f0 := F_mod _ t0
  have f1 := F_mod _ t1
  unfold Cs
  omega
theorem fld_take (L : List Int) (k : Nat) (h : 20 ≤ k) : fld (L.take k) = fld L := by
  unfold fld
  rw [getD_take _ _ _ (by omega), G16_take _ _ _ (by omega), getD_take _ _ _ (by omega), getD_take _ _ _ (by omega), G32_take _ _ _ (by omega), G32_take _ _ _ (by omega)]
/-- a head with another address -/
def hdA (h : Hd) (e : Nat) (A : Int) : Hd := if e = 0 then { h with src := A } else { h with dst := A }
theorem adL_fld (L : List Int) (e : Nat) (A : Int) (hl : 20 ≤ L.length) : fld (adL L 0 (ePl e) A) = hdA (fld L) e A := by
  have o := fun j (h1 : j < 10 ∨ 12 ≤ j) (h2 : j < ePl e ∨ ePl e + 4 ≤ j) => adL_other L 0 (ePl e) j A (by omega) (by omega) (by omega)
  have g2 : G16 (adL L 0 (ePl e) A) 2 = G16 L 2 := by
    unfold G16; rw [o 2 (by omega) (by unfold ePl; split <;> omega), o 3 (by omega) (by unfold ePl; split <;> omega)]
  have x0 := o 0 (by omega) (by unfold ePl; split <;> omega)
  have x8 := o 8 (by omega) (by unfold ePl; split <;> omega)
  have x9 := o 9 (by omega) (by unfold ePl; split <;> omega)
  unfold fld hdA
  rw [x0, x8, x9, g2]
  by_cases he : e = 0
  · subst he
    have h1 : G32 (adL L 0 (ePl 0) A) 12 = A := by
      unfold adL
      show G32 (P16 (P32 L (0 + 12) A) _ _) 12 = A
      unfold G32
      rw [P16_g16_ne _ _ _ _ (by omega) (by omega) (by omega), P16_g16_ne _ _ _ _ (by omega) (by omega) (by omega)]
      have := P32_g32 L (0 + 12) A (by omega)
      unfold G32 at this
      exact this
    have h2 : G32 (adL L 0 (ePl 0) A) 16 = G32 L 16 := by
      unfold G32 G16
      rw [o 16 (by omega) (by unfold ePl; simp), o 17 (by omega) (by unfold ePl; simp), o 18 (by omega) (by unfold ePl; simp), o 19 (by omega) (by unfold ePl; simp)]
    rw [h1, h2, if_pos rfl]
  · have h1 : G32 (adL L 0 (ePl e) A) 16 = A := by
      have hp : ePl e = 16 := by unfold ePl; rw [if_neg he]
      rw [hp]
      unfold adL
      unfold G32
      rw [P16_g16_ne _ _ _ _ (by omega) (by omega) (by omega), P16_g16_ne _ _ _ _ (by omega) (by omega) (by omega)]
      have := P32_g32 L (0 + 16) A (by omega)
      unfold G32 at this
      exact this
    have hp : ePl e = 16 := by unfold ePl; rw [if_neg he]
    have h2 : G32 (adL L 0 (ePl e) A) 12 = G32 L 12 := by
      unfold G32 G16
      rw [o 12 (by omega) (by omega), o 13 (by omega) (by omega), o 14 (by omega) (by omega), o 15 (by omega) (by omega)]
    rw [h1, h2, if_neg he]
end Go.Proofs.Ytdkjipfemnfckaa

namespace Go.Proofs.Ytdkjipfemnfckaa
open Go.RowKit Plain
set_option linter.unusedVariables false
set_option linter.unusedSimpArgs false
set_option maxRecDepth 100000

theorem ePt_le (e : Nat) : ePt e = 0 ∨ ePt e = 2 := by unfold ePt; split <;> simp
theorem ePl_or (e : Nat) : ePl e = 12 ∨ ePl e = 16 := by unfold ePl; split <;> simp
/-! lengths, bytes -/
theorem udR_len (L : List Int) (o p : Nat) (wa A P : Int) : (udR L o p wa A P).length = L.length := by
  unfold udR; split <;> simp only [P16_len]
theorem tcR_len (L : List Int) (o n p : Nat) (wa A P : Int) : (tcR L o n p wa A P).length = L.length := by
  unfold tcR; split <;> simp only [P16_len]
theorem ecR_len (L : List Int) (o : Nat) (P : Int) : (ecR L o P).length = L.length := by unfold ecR; simp only [P16_len]
section
variable {L : List Int} {o n p : Nat} {wa A P : Int}
theorem udR_by (h : By L) (a0 : 0 ≤ wa) (a1 : wa ≤ 4294967295) (n0 : 0 ≤ A) (n1 : A ≤ 4294967295) (q0 : 0 ≤ P) (q1 : P ≤ 65535) : By (udR L o p wa A P) := by
  have h1 := P16_byte h (o + p) q0 q1
  have s := G16_range _ h1 (o + 6)
  have g := G16_range _ h (o + p)
  have r := FxC_range (G16 (P16 L (o + p) P) (o + 6)) wa A (G16 L (o + p)) P s.1 s.2 a0 a1 n0 n1 g.1 g.2 q0 q1
  have z := no0_range _ r.1 r.2
  unfold udR
  split
  · exact P16_byte h1 _ (by omega) z.2
  · exact h1
theorem tcR_by (h : By L) (a0 : 0 ≤ wa) (a1 : wa ≤ 4294967295) (n0 : 0 ≤ A) (n1 : A ≤ 4294967295) (q0 : 0 ≤ P) (q1 : P ≤ 65535) : By (tcR L o n p wa A P) := by
  have h1 := P16_byte h (o + p) q0 q1
  have s := G16_range _ h1 (o + 16)
  have g := G16_range _ h (o + p)
  have r := FxC_range (G16 (P16 L (o + p) P) (o + 16)) wa A (G16 L (o + p)) P s.1 s.2 a0 a1 n0 n1 g.1 g.2 q0 q1
  unfold tcR
  split
  · exact P16_byte h1 _ r.1 r.2
  · exact h1
theorem ecR_by (h : By L) (q0 : 0 ≤ P) (q1 : P ≤ 65535) : By (ecR L o P) := by
  have h1 := P16_byte h (o + 4) q0 q1
  have s := G16_range _ h1 (o + 2)
  have g := G16_range _ h (o + 4)
  have r := Fx_range (G16 (P16 L (o + 4) P) (o + 2)) (G16 L (o + 4)) P s.1 s.2 g.1 g.2 q0 q1
  have z := no0_range _ r.1 r.2
  unfold ecR
  exact P16_byte h1 _ (by omega) z.2
/-! what stays -/
theorem udR_other (j : Nat) (h1 : j < o + p ∨ o + p + 2 ≤ j) (h2 : j < o + 6 ∨ o + 8 ≤ j) : (udR L o p wa A P).getD j 0 = L.getD j 0 := by
  unfold udR
  split
  · rw [P16_other _ _ _ _ (by omega) (by omega), P16_other _ _ _ _ (by omega) (by omega)]
  · rw [P16_other _ _ _ _ (by omega) (by omega)]
theorem tcR_other (j : Nat) (h1 : j < o + p ∨ o + p + 2 ≤ j) (h2 : j < o + 16 ∨ o + 18 ≤ j) : (tcR L o n p wa A P).getD j 0 = L.getD j 0 := by
  unfold tcR
  split
  · rw [P16_other _ _ _ _ (by omega) (by omega), P16_other _ _ _ _ (by omega) (by omega)]
  · rw [P16_other _ _ _ _ (by omega) (by omega)]
theorem ecR_other (j : Nat) (h1 : j < o + 2 ∨ o + 6 ≤ j) : (ecR L o P).getD j 0 = L.getD j 0 := by
  unfold ecR
  rw [P16_other _ _ _ _ (by omega) (by omega), P16_other _ _ _ _ (by omega) (by omega)]
/-! taking and dropping -/
theorem udR_drop (k j : Nat) : (udR L (k + j) p wa A P).drop k = udR (L.drop k) j p wa A P := by
  unfold udR
  rw [Nat.add_assoc, Nat.add_assoc, ← G16_drop (P16 L (k + (j + p)) P), P16_drop, ← G16_drop L]
  split
  · rw [P16_drop, P16_drop]
  · rw [P16_drop]
theorem tcR_drop (k j : Nat) : (tcR L (k + j) n p wa A P).drop k = tcR (L.drop k) j n p wa A P := by
  unfold tcR
  rw [Nat.add_assoc, Nat.add_assoc, ← G16_drop (P16 L (k + (j + p)) P), P16_drop, ← G16_drop L]
  split
  · rw [P16_drop, P16_drop]
  · rw [P16_drop]
theorem ecR_drop (k j : Nat) : (ecR L (k + j) P).drop k = ecR (L.drop k) j P := by
  unfold ecR
  rw [Nat.add_assoc, Nat.add_assoc, ← G16_drop (P16 L (k + (j + 4)) P), P16_drop, ← G16_drop L, P16_drop]
theorem udR_take (k : Nat) (h : k ≤ o) : (udR L o p wa A P).take k = L.take k := by
  unfold udR
  split
  · rw [P16_take_le _ _ _ _ (by omega), P16_take_le _ _ _ _ (by omega)]
  · rw [P16_take_le _ _ _ _ (by omega)]
theorem tcR_take (k : Nat) (h : k ≤ o) : (tcR L o n p wa A P).take k = L.take k := by
  unfold tcR
  split
  · rw [P16_take_le _ _ _ _ (by omega), P16_take_le _ _ _ _ (by omega)]
  · rw [P16_take_le _ _ _ _ (by omega)]
theorem ecR_take (k : Nat) (h : k ≤ o) : (ecR L o P).take k = L.take k := by
  unfold ecR
  rw [P16_take_le _ _ _ _ (by omega), P16_take_le _ _ _ _ (by omega)]
end
/-! ports -/
theorem udR_port (L : List Int) (o e : Nat) (wa A P : Int) (hl : o + 8 ≤ L.length) : G16 (udR L o (ePt e) wa A P) (o + ePt e) = P := by
  have hp := ePt_le e
  unfold udR
  split
  · rw [P16_g16_ne _ _ _ _ (by omega) (by omega) (by omega), P16_g16 _ _ _ (by omega)]
  · rw [P16_g16 _ _ _ (by omega)]
theorem tcR_port (L : List Int) (o n e : Nat) (wa A P : Int) (hl : o + 8 ≤ L.length) : G16 (tcR L o n (ePt e) wa A P) (o + ePt e) = P := by
  have hp := ePt_le e
  unfold tcR
  split
  · rw [P16_g16_ne _ _ _ _ (by omega) (by omega) (by omega), P16_g16 _ _ _ (by omega)]
  · rw [P16_g16 _ _ _ (by omega)]
theorem ecR_port (L : List Int) (o : Nat) (P : Int) (hl : o + 6 ≤ L.length) : G16 (ecR L o P) (o + 4) = P := by
  unfold ecR
  rw [P16_g16_ne _ _ _ _ (by omega) (by omega) (by omega), P16_g16 _ _ _ (by omega)]
/-! UDP, TCP and an echo are got again -/
def hdS (h : Hd) (e : Nat) : Int := if e = 0 then h.src else h.dst
theorem mod_join (X X' T T' a a' P p s f f' : Int) (hm : (X + T) % 65535 = 0) (m : (f + a' - a + P - p - s) % 65535 = 0) (nm : (f' - f) % 65535 = 0) (hx : X' = X + a' - a) (ht : T' = T + P - p + f' - s) : (X' + T') % 65535 = 0 := by omega
theorem hdA_px (h : Hd) (e : Nat) (A pr : Int) (n : Nat) : Px (hdA h e A).src (hdA h e A).dst pr n = Px h.src h.dst pr n + (A / 65536 + A % 65536) - (hdS h e / 65536 + hdS h e % 65536) := by
  unfold Px hdA hdS
  split <;> simp only <;> omega
theorem hdA_nn (h : Hd) (e : Nat) (A : Int) (s0 : 0 ≤ h.src) (d0 : 0 ≤ h.dst) (n0 : 0 ≤ A) : 0 ≤ (hdA h e A).src ∧ 0 ≤ (hdA h e A).dst := by
  unfold hdA; split
  · exact ⟨n0, d0⟩
  · exact ⟨s0, n0⟩
theorem ud_ok (h : Hd) (e : Nat) (he : e ≤ 1) (A P : Int) (U : List Int) (hb : By U) (s0 : 0 ≤ h.src) (s1 : h.src ≤ 4294967295) (d0 : 0 ≤ h.dst) (d1 : h.dst ≤ 4294967295) (n0 : 0 ≤ A) (n1 : A ≤ 4294967295) (q0 : 0 ≤ P) (q1 : P ≤ 65535) (hu : udE h.src h.dst U = 0) :
    udE (hdA h e A).src (hdA h e A).dst (udR U 0 (ePt e) (hdS h e) A P) = 0 ∧ (G16 (udR U 0 (ePt e) (hdS h e) A P) 6 == 0) = (G16 U 6 == 0) := by
  have hl := udE_len _ _ _ hu
  have hp := ePt_le e
  have hs := G16_range U hb 6
  have hg := G16_range U hb (ePt e)
  have hS : 0 ≤ hdS h e ∧ hdS h e ≤ 4294967295 := by unfold hdS; split <;> omega
  have e4 : G16 (udR U 0 (ePt e) (hdS h e) A P) 4 = G16 U 4 := by
    unfold G16; rw [udR_other 4 (by omega) (by omega), udR_other 5 (by omega) (by omega)]
  have hlen := udR_len U 0 (ePt e) (hdS h e) A P
  have h6 : G16 (P16 U (0 + ePt e) P) (0 + 6) = G16 U 6 := by rw [P16_g16_ne _ _ _ _ (by omega) (by omega) (by omega), Nat.zero_add]
  unfold udE at hu ⊢
  rw [if_neg (by omega)] at hu ⊢
  rw [hlen, e4]
  by_cases c4 : G16 U 4 ≠ (U.length : Int)
  · rw [if_pos c4] at hu; omega
  rw [if_neg c4] at hu ⊢
  by_cases hz : G16 U 6 = 0
  · have e6 : G16 (udR U 0 (ePt e) (hdS h e) A P) 6 = 0 := by
      unfold udR
      rw [h6, if_neg (by simpa using hz)]
      have := h6
      rw [Nat.zero_add] at this ⊢
      rw [this, hz]
    refine ⟨?_, by rw [e6, hz]⟩
    rw [if_neg (by rw [e6]; simp)]
  · have hPs : Ps h.src h.dst 17 U = 0 := by
      by_cases c : Ps h.src h.dst 17 U = 0
      · exact c
      · rw [if_pos ⟨hz, c⟩] at hu; omega
    have r := FxC_range (G16 U 6) (hdS h e) A (G16 U (ePt e)) P hs.1 hs.2 hS.1 hS.2 n0 n1 hg.1 hg.2 q0 q1
    have m := FxC_mod (G16 U 6) (hdS h e) A (G16 U (ePt e)) P hs.1 hs.2 hS.1 hS.2 n0 n1 hg.1 hg.2 q0 q1
    have nz := no0_range _ r.1 r.2
    have nm := no0_mod _ r.1 r.2
    have hU : udR U 0 (ePt e) (hdS h e) A P = P16 (P16 U (ePt e) P) 6 (no0 (FxC (G16 U 6) (hdS h e) A (G16 U (ePt e)) P)) := by
      unfold udR
      rw [h6, if_pos hz]
      simp only [Nat.zero_add]
    have e6 : G16 (udR U 0 (ePt e) (hdS h e) A P) 6 = no0 (FxC (G16 U 6) (hdS h e) A (G16 U (ePt e)) P) := by
      rw [hU, P16_g16 _ _ _ (by rw [P16_len]; omega)]
    refine ⟨?_, ?_⟩
    · rw [if_neg]
      rintro ⟨_, c⟩
      apply c
      have t0 := tot_nonneg U hb
      have t1 := tot_nonneg _ (udR_by (o := 0) (p := ePt e) hb hS.1 hS.2 n0 n1 q0 q1 : By (udR U 0 (ePt e) (hdS h e) A P))
      rw [Ps_px] at hPs ⊢
      have hF : F (Px h.src h.dst 17 U.length + tot U) = 65535 := by omega
      have hpx := Px_pos h.src h.dst 17 U.length s0 d0 (by decide)
      have hm := F_65535 _ (by omega) hF
      have hA := hdA_nn h e A s0 d0 n0
      have hpx2 := Px_pos (hdA h e A).src (hdA h e A).dst 17 U.length hA.1 hA.2 (by decide)
      rw [hlen]
      have htt : tot (udR U 0 (ePt e) (hdS h e) A P) = tot U + P - G16 U (ePt e) + no0 (FxC (G16 U 6) (hdS h e) A (G16 U (ePt e)) P) - G16 U 6 := by
        rw [hU, P16_tot _ 6 _ (by decide) (by rw [P16_len]; omega), P16_tot _ _ _ (by omega) (by omega), P16_g16_ne _ _ _ _ (by omega) (by omega) (by omega)]
      rw [htt] at t1
      rw [F_of_mod _ (Int.add_pos_of_pos_of_nonneg hpx2 (by rw [htt]; exact t1)) (mod_join _ _ _ _ _ _ _ _ _ _ _ hm m nm (hdA_px h e A 17 U.length) htt)]
      rfl
    · rw [e6]
      have a : (no0 (FxC (G16 U 6) (hdS h e) A (G16 U (ePt e)) P) == 0) = false := by simp; omega
      have b : (G16 U 6 == 0) = false := by simpa using hz
      rw [a, b]
theorem tc_ok (h : Hd) (e : Nat) (he : e ≤ 1) (A P : Int) (U : List Int) (n : Nat) (hn : 18 ≤ n) (hb : By U) (s0 : 0 ≤ h.src) (s1 : h.src ≤ 4294967295) (d0 : 0 ≤ h.dst) (d1 : h.dst ≤ 4294967295) (n0 : 0 ≤ A) (n1 : A ≤ 4294967295) (q0 : 0 ≤ P) (q1 : P ≤ 65535) (hu : tcE h.src h.dst U = 0) :
    tcE (hdA h e A).src (hdA h e A).dst (tcR U 0 n (ePt e) (hdS h e) A P) = 0 := by
  have hl := tcE_len _ _ _ hu
  have hp := ePt_le e
  have hs := G16_range U hb 16
  have hg := G16_range U hb (ePt e)
  have hS : 0 ≤ hdS h e ∧ hdS h e ≤ 4294967295 := by unfold hdS; split <;> omega
  have e12 : (tcR U 0 n (ePt e) (hdS h e) A P).getD 12 0 = U.getD 12 0 := tcR_other 12 (by omega) (by omega)
  have hlen := tcR_len U 0 n (ePt e) (hdS h e) A P
  have h6 : G16 (P16 U (0 + ePt e) P) (0 + 16) = G16 U 16 := by rw [P16_g16_ne _ _ _ _ (by omega) (by omega) (by omega), Nat.zero_add]
  unfold tcE at hu ⊢
  rw [if_neg (by omega)] at hu ⊢
  rw [hlen, e12]
  by_cases c4 : U.getD 12 0 / 16 * 4 < 20 ∨ (U.length : Int) < U.getD 12 0 / 16 * 4
  · rw [if_pos c4] at hu; omega
  rw [if_neg c4] at hu ⊢
  have hPs : Ps h.src h.dst 6 U = 0 := by
    by_cases c : Ps h.src h.dst 6 U = 0
    · exact c
    · rw [if_pos c] at hu; omega
  have r := FxC_range (G16 U 16) (hdS h e) A (G16 U (ePt e)) P hs.1 hs.2 hS.1 hS.2 n0 n1 hg.1 hg.2 q0 q1
  have m := FxC_mod (G16 U 16) (hdS h e) A (G16 U (ePt e)) P hs.1 hs.2 hS.1 hS.2 n0 n1 hg.1 hg.2 q0 q1
  have hU : tcR U 0 n (ePt e) (hdS h e) A P = P16 (P16 U (ePt e) P) 16 (FxC (G16 U 16) (hdS h e) A (G16 U (ePt e)) P) := by
    unfold tcR
    rw [h6, if_pos hn]
    simp only [Nat.zero_add]
  rw [if_neg]
  intro c
  apply c
  have t0 := tot_nonneg U hb
  have t1 := tot_nonneg _ (tcR_by (o := 0) (n := n) (p := ePt e) hb hS.1 hS.2 n0 n1 q0 q1 : By (tcR U 0 n (ePt e) (hdS h e) A P))
  rw [Ps_px] at hPs ⊢
  have hF : F (Px h.src h.dst 6 U.length + tot U) = 65535 := by omega
  have hpx := Px_pos h.src h.dst 6 U.length s0 d0 (by decide)
  have hm := F_65535 _ (by omega) hF
  have hA := hdA_nn h e A s0 d0 n0
  have hpx2 := Px_pos (hdA h e A).src (hdA h e A).dst 6 U.length hA.1 hA.2 (by decide)
  rw [hlen]
  have htt : tot (tcR U 0 n (ePt e) (hdS h e) A P) = tot U + P - G16 U (ePt e) + FxC (G16 U 16) (hdS h e) A (G16 U (ePt e)) P - G16 U 16 := by
    rw [hU, P16_tot _ 16 _ (by decide) (by rw [P16_len]; omega), P16_tot _ _ _ (by omega) (by omega), P16_g16_ne _ _ _ _ (by omega) (by omega) (by omega)]
  rw [htt] at t1
  rw [F_of_mod _ (Int.add_pos_of_pos_of_nonneg hpx2 (by rw [htt]; exact t1)) (mod_join _ _ _ _ _ _ _ _ _ _ _ hm m (by omega : (FxC (G16 U 16) (hdS h e) A (G16 U (ePt e)) P - FxC (G16 U 16) (hdS h e) A (G16 U (ePt e)) P) % 65535 = 0) (hdA_px h e A 6 U.length) htt)]
  rfl
theorem ec_ok (P : Int) (U : List Int) (hb : By U) (q0 : 0 ≤ P) (q1 : P ≤ 65535) (hu : icE U = 0) (hk : U.getD 0 0 = 0 ∨ U.getD 0 0 = 8) : icE (ecR U 0 P) = 0 := by
  have hl := icE_len _ hu
  have hs := G16_range U hb 2
  have hg := G16_range U hb 4
  have hlen := ecR_len U 0 P
  have x0 : (ecR U 0 P).getD 0 0 = U.getD 0 0 := ecR_other 0 (by omega)
  have x1 : (ecR U 0 P).getD 1 0 = U.getD 1 0 := ecR_other 1 (by omega)
  have h6 : G16 (P16 U (0 + 4) P) (0 + 2) = G16 U 2 := by rw [P16_g16_ne _ _ _ _ (by omega) (by omega) (by omega)]
  have r := Fx_range (G16 U 2) (G16 U 4) P hs.1 hs.2 hg.1 hg.2 q0 q1
  have m := Fx_mod (G16 U 2) (G16 U 4) P hs.1 hs.2 hg.1 hg.2 q0 q1
  have nz := no0_range _ r.1 r.2
  have nm := no0_mod _ r.1 r.2
  have hU : ecR U 0 P = P16 (P16 U 4 P) 2 (no0 (Fx (G16 U 2) (G16 U 4) P)) := by
    unfold ecR
    rw [h6]
  have hc : Cs U = 0 := by
    unfold icE at hu
    rw [if_neg (by omega)] at hu
    split at hu
    · omega
    · rename_i c; simpa using c
  have t0 := tot_nonneg U hb
  have t1 := tot_nonneg _ (ecR_by (o := 0) hb q0 q1 : By (ecR U 0 P))
  have hF : F (tot U) = 65535 := by unfold Cs at hc; omega
  have hm := F_65535 _ t0 hF
  have htt : tot (ecR U 0 P) = tot U + P - G16 U 4 + no0 (Fx (G16 U 2) (G16 U 4) P) - G16 U 2 := by
    rw [hU, P16_tot _ 2 _ (by decide) (by rw [P16_len]; omega), P16_tot _ 4 _ (by decide) (by omega), P16_g16_ne _ _ _ _ (by omega) (by omega) (by omega)]
  have hpos : 0 < tot (ecR U 0 P) := by
    have g2 : G16 (ecR U 0 P) 2 = no0 (Fx (G16 U 2) (G16 U 4) P) := by rw [hU, P16_g16 _ _ _ (by rw [P16_len]; omega)]
    have h2 : tot (ecR U 0 P) = tot (P16 (ecR U 0 P) 2 0) - 0 + G16 (ecR U 0 P) 2 := by
      rw [P16_tot _ 2 _ (by decide) (by rw [ecR_len]; omega)]; omega
    have h3 := tot_nonneg _ (P16_byte (ecR_by (o := 0) hb q0 q1 : By (ecR U 0 P)) 2 (by omega : (0 : Int) ≤ 0) (by omega))
    omega
  have hcs : Cs (ecR U 0 P) = 0 := by
    unfold Cs
    rw [F_of_mod _ hpos (by omega)]
    rfl
  unfold icE at hu ⊢
  rw [if_neg (by omega)] at hu ⊢
  rw [hcs, x0, x1, if_neg (by simp), if_pos hk]
  rw [hc, if_neg (by simp), if_pos hk] at hu
  exact hu
end Go.Proofs.Ytdkjipfemnfckaa

namespace Go.Proofs.Ytdkjipfemnfckaa
open Go.RowKit Plain
set_option linter.unusedVariables false
set_option linter.unusedSimpArgs false
set_option maxRecDepth 100000

theorem hdA_size (h : Hd) (e : Nat) (A : Int) : (hdA h e A).size = h.size ∧ (hdA h e A).len = h.len ∧ (hdA h e A).ttl = h.ttl ∧ (hdA h e A).proto = h.proto := by unfold hdA; split <;> exact ⟨rfl, rfl, rfl, rfl⟩
theorem hdA_own (h : Hd) (e : Nat) (A : Int) : hdS (hdA h e A) e = A := by unfold hdA hdS; split <;> rfl
theorem hdA_far (h : Hd) (e : Nat) (he : e ≤ 1) (A : Int) : hdS (hdA h e A) (1 - e) = hdS h (1 - e) := by
  have : e = 0 ∨ e = 1 := by omega
  rcases this with rfl | rfl <;> rfl
theorem hdS_fld (L : List Int) (e : Nat) : hdS (fld L) e = G32 L (ePl e) := by unfold hdS ePl fld; split <;> rfl
section
variable {L : List Int} {o n size e : Nat} {pr A P : Int}
theorem pkR_len : (pkR L o n size pr e A P).length = L.length := by
  unfold pkR
  split
  · rw [udR_len, adL_len]
  split
  · rw [tcR_len, adL_len]
  split
  · rw [ecR_len, adL_len]
  · rw [adL_len]
theorem pkR_by (h : By L) (n0 : 0 ≤ A) (n1 : A ≤ 4294967295) (q0 : 0 ≤ P) (q1 : P ≤ 65535) : By (pkR L o n size pr e A P) := by
  have g := G32_range L h (o + ePl e)
  have a := adL_by h o (ePl e) n0 n1
  unfold pkR
  split
  · exact udR_by a g.1 g.2 n0 n1 q0 q1
  split
  · exact tcR_by a g.1 g.2 n0 n1 q0 q1
  split
  · exact ecR_by a q0 q1
  · exact a
theorem pkR_drop (k j : Nat) : (pkR L (k + j) n size pr e A P).drop k = pkR (L.drop k) j n size pr e A P := by
  unfold pkR
  rw [Nat.add_assoc, Nat.add_assoc, ← G32_drop]
  split
  · rw [udR_drop, adL_drop]
  split
  · rw [tcR_drop, adL_drop]
  split
  · rw [ecR_drop, adL_drop]
  · rw [adL_drop]
theorem pkR_take_le (k : Nat) (h : k ≤ o) : (pkR L o n size pr e A P).take k = L.take k := by
  unfold pkR
  split
  · rw [udR_take k (by omega), adL_take_le _ _ _ _ _ h]
  split
  · rw [tcR_take k (by omega), adL_take_le _ _ _ _ _ h]
  split
  · rw [ecR_take k (by omega), adL_take_le _ _ _ _ _ h]
  · rw [adL_take_le _ _ _ _ _ h]
theorem pkR_head (h : 20 ≤ size) : (pkR L 0 n size pr e A P).take size = adL (L.take size) 0 (ePl e) A := by
  have hp := ePl_or e
  unfold pkR
  split
  · rw [udR_take size (by omega), adL_take _ _ _ _ _ (by omega) (by omega)]
  split
  · rw [tcR_take size (by omega), adL_take _ _ _ _ _ (by omega) (by omega)]
  split
  · rw [ecR_take size (by omega), adL_take _ _ _ _ _ (by omega) (by omega)]
  · rw [adL_take _ _ _ _ _ (by omega) (by omega)]
theorem pkR_body (h : 20 ≤ size) : (pkR L 0 n size pr e A P).drop size =
    if pr = 17 then udR (L.drop size) 0 (ePt e) (hdS (fld L) e) A P else if pr = 6 then tcR (L.drop size) 0 (n - size) (ePt e) (hdS (fld L) e) A P else if pr = 1 then ecR (L.drop size) 0 P else L.drop size := by
  have hp := ePl_or e
  unfold pkR
  rw [Nat.zero_add, Nat.zero_add, ← hdS_fld]
  have hd : (adL L 0 (ePl e) A).drop size = L.drop size := adL_drop_far _ _ _ _ _ (by omega) (by omega)
  split
  · have := udR_drop (L := adL L 0 (ePl e) A) (p := ePt e) (wa := hdS (fld L) e) (A := A) (P := P) size 0
    rw [Nat.add_zero] at this
    rw [this, hd]
  split
  · have := tcR_drop (L := adL L 0 (ePl e) A) (n := n - size) (p := ePt e) (wa := hdS (fld L) e) (A := A) (P := P) size 0
    rw [Nat.add_zero] at this
    rw [this, hd]
  split
  · have := ecR_drop (L := adL L 0 (ePl e) A) (P := P) size 0
    rw [Nat.add_zero] at this
    rw [this, hd]
  · exact hd
theorem pkR_other (j : Nat) (h1 : j < o + ePl e ∨ o + ePl e + 4 ≤ j) (h2 : j ≠ o + 10) (h3 : j ≠ o + 11)
    (h4 : pr = 17 → (j < o + size + ePt e ∨ o + size + ePt e + 2 ≤ j) ∧ (j < o + size + 6 ∨ o + size + 8 ≤ j))
    (h5 : pr = 6 → (j < o + size + ePt e ∨ o + size + ePt e + 2 ≤ j) ∧ (j < o + size + 16 ∨ o + size + 18 ≤ j))
    (h6 : pr = 1 → (j < o + size + 2 ∨ o + size + 6 ≤ j)) : (pkR L o n size pr e A P).getD j 0 = L.getD j 0 := by
  unfold pkR
  split
  · rename_i c
    rw [udR_other j (h4 c).1 (h4 c).2, adL_other _ _ _ _ _ h1 h2 h3]
  split
  · rename_i _ c
    rw [tcR_other j (h5 c).1 (h5 c).2, adL_other _ _ _ _ _ h1 h2 h3]
  split
  · rename_i _ _ c
    rw [ecR_other j (h6 c), adL_other _ _ _ _ _ h1 h2 h3]
  · exact adL_other _ _ _ _ _ h1 h2 h3
/-- an UDP without a sum stays without one -/
theorem pkR_bare (j : Nat) (hpr : pr = 17) (hz : G16 L (o + size + 6) = 0) (h20 : 20 ≤ size) (h1 : j < o + ePl e ∨ o + ePl e + 4 ≤ j) (h2 : j ≠ o + 10) (h3 : j ≠ o + 11) (h4 : j < o + size + ePt e ∨ o + size + ePt e + 2 ≤ j) : (pkR L o n size pr e A P).getD j 0 = L.getD j 0 := by
  have hp := ePl_or e
  have ht := ePt_le e
  unfold pkR
  rw [if_pos hpr]
  unfold udR
  have hz2 : G16 (P16 (adL L o (ePl e) A) (o + size + ePt e) P) (o + size + 6) = 0 := by
    rw [P16_g16_ne _ _ _ _ (by omega) (by omega) (by omega)]
    unfold G16
    rw [adL_other _ _ _ _ _ (by omega) (by omega) (by omega), adL_other _ _ _ _ _ (by omega) (by omega) (by omega)]
    exact hz
  rw [if_neg (by simpa using hz2), P16_other _ _ _ _ (by omega) (by omega), adL_other _ _ _ _ _ h1 h2 h3]
end
/-- what is told of a got frame -/
theorem pg_val (zs : List Int) (hg : Got zs) : pgE (fld zs) zs = (if (fld zs).proto = 17 then udE (fld zs).src (fld zs).dst (bod zs) else if (fld zs).proto = 6 then tcE (fld zs).src (fld zs).dst (bod zs) else if (fld zs).proto = 1 then icE (bod zs) else 6) ∧
    pgP (fld zs) zs = (if (fld zs).proto = 17 then udP (fld zs).src (fld zs).dst (bod zs) else if (fld zs).proto = 6 then tcP (fld zs).src (fld zs).dst (bod zs) else if (fld zs).proto = 1 then icP (fld zs).size (bod zs) else pt0) := by
  obtain ⟨⟨s0, s1⟩, ⟨l0, l1, l2⟩, _⟩ := hg
  have hc : ¬ ((fld zs).size < 20 ∨ 60 < (fld zs).size ∨ (fld zs).len < (fld zs).size ∨ (zs.length : Int) < (fld zs).len) := by omega
  unfold pgE pgP
  rw [if_neg hc, if_neg hc]
  exact ⟨rfl, rfl⟩
theorem got_mk (zs : List Int) (hby : By zs) (s0 : 20 ≤ (fld zs).size) (s1 : (fld zs).size ≤ (fld zs).len) (l1 : (fld zs).len ≤ 1500) (l2 : (fld zs).len ≤ zs.length) (v4 : zs.getD 0 0 / 16 = 4) (sm : Cs (zs.take (fld zs).size.toNat) = 0) (fr : G16 zs 6 % 16384 = 0) : Got zs := by
  refine got_of zs hby ?_
  have h1 : rdE zs 1500 = 0 := by
    unfold rdE
    rw [if_neg (by omega), if_neg (by omega), if_neg (by omega), if_neg (by omega), if_neg (by omega), if_neg (by omega)]
  unfold gtE
  rw [if_neg (by omega), if_neg (by omega), if_neg (by omega), if_neg (by omega)]
/-- got again, if the head is as it was but for an address -/
theorem got_again (zs ys : List Int) (e N S : Nat) (A : Int) (hby : By zs) (hyb : By ys) (hg : Got zs) (hN : (fld zs).len = (N : Int)) (hS : (fld zs).size = (S : Int)) (hl : ys.length = N) (n0 : 0 ≤ A) (n1 : A ≤ 4294967295)
    (hh : ys.take S = adL (zs.take S) 0 (ePl e) A) : Got ys ∧ fld ys = hdA (fld zs) e A := by
  obtain ⟨⟨s0, s1⟩, ⟨l0, l1, l2⟩, _, v4, sm, fr⟩ := hg
  have hp := ePl_or e
  have hzl : (zs.take S).length = S := by rw [List.length_take]; omega
  have hf : fld ys = hdA (fld zs) e A := by
    rw [← fld_take ys S (by omega), hh, adL_fld _ _ _ (by omega), fld_take zs S (by omega)]
  obtain ⟨a1, a2, a3, a4⟩ := hdA_size (fld zs) e A
  have x0 : ys.getD 0 0 = zs.getD 0 0 := by
    rw [← getD_take ys S 0 (by omega), hh, adL_other _ _ _ _ _ (by omega) (by omega) (by omega), getD_take _ _ _ (by omega)]
  have x6 : G16 ys 6 = G16 zs 6 := by
    rw [← G16_take ys S 6 (by omega), hh]
    unfold G16
    rw [adL_other _ _ _ _ _ (by omega) (by omega) (by omega), adL_other _ _ _ _ _ (by omega) (by omega) (by omega), getD_take _ _ _ (by omega), getD_take _ _ _ (by omega)]
  refine ⟨got_mk ys hyb (by rw [hf, a1]; omega) (by rw [hf, a1, a2]; omega) (by rw [hf, a2]; omega) (by rw [hf, a2]; omega) (by rw [x0]; exact v4) ?_ (by rw [x6]; exact fr), hf⟩
  rw [hf, a1, hS, Int.toNat_natCast, hh]
  rw [hS, Int.toNat_natCast] at sm
  exact adL_sum _ _ _ hp (hby.take S) (by omega) n0 n1 (by rw [getD_take _ _ _ (by omega)]; exact v4) sm
theorem bod_eq (zs : List Int) (N S : Nat) (hN : (fld zs).len = (N : Int)) (hS : (fld zs).size = (S : Int)) : bod zs = (zs.take N).drop S := by
  unfold bod bodyOf
  rw [hN, hS, Int.toNat_natCast, List.drop_take, show ((N : Int) - (S : Int)).toNat = N - S by omega]
theorem bod_all (ys : List Int) (N S : Nat) (hN : (fld ys).len = (N : Int)) (hS : (fld ys).size = (S : Int)) (hl : ys.length = N) : bod ys = ys.drop S := by
  rw [bod_eq ys N S hN hS, List.take_of_length_le (by omega)]
end Go.Proofs.Ytdkjipfemnfckaa

namespace Go.Proofs.Ytdkjipfemnfckaa
open Go.RowKit Plain
set_option linter.unusedVariables false
set_option linter.unusedSimpArgs false
set_option maxRecDepth 100000

/-- so many places with one mark -/
def sq (a n : Nat) (v : Int) : List (Int × Int) := (List.range n).map fun i => (((a + i : Nat) : Int), v)
/-- which places of a frame may be changed, by what -/
def frK (h : Hd) (p : Pt) (e : Nat) : List (Int × Int) :=
  [(10, 3), (11, 3)] ++ sq (ePl e) 4 1 ++
  (if h.proto = 17 then sq (h.size.toNat + ePt e) 2 2 ++ (if p.bare = true then [] else sq (h.size.toNat + 6) 2 3)
   else if h.proto = 6 then sq (h.size.toNat + ePt e) 2 2 ++ sq (h.size.toNat + 16) 2 3
   else if p.er = false then sq (h.size.toNat + 4) 2 2 ++ sq (h.size.toNat + 2) 2 3
   else sq (h.size.toNat + 2) 2 3 ++ sq (p.pos.toNat + ePl (1 - e)) 4 1 ++ sq (p.pos.toNat + 10) 2 3 ++
     (if p.inn.proto = 17 then sq (p.pos.toNat + p.inn.size.toNat + ePt (1 - e)) 2 2 ++ sq (p.pos.toNat + p.inn.size.toNat + 6) 2 3
      else if p.inn.proto = 6 then sq (p.pos.toNat + p.inn.size.toNat + ePt (1 - e)) 2 2 ++ sq (p.pos.toNat + p.inn.size.toNat + 16) 2 3
      else if p.inn.proto = 1 then sq (p.pos.toNat + p.inn.size.toNat + 4) 2 2 ++ sq (p.pos.toNat + p.inn.size.toNat + 2) 2 3 else []))
/-- place k has no mark -/
def noK (l : List (Int × Int)) (k : Nat) : Prop := ∀ q ∈ l, q.1 ≠ (k : Int)
theorem noK_app (a b : List (Int × Int)) (k : Nat) : noK (a ++ b) k ↔ noK a k ∧ noK b k := by
  unfold noK
  constructor
  · intro h; exact ⟨fun q hq => h q (List.mem_append_left _ hq), fun q hq => h q (List.mem_append_right _ hq)⟩
  · rintro ⟨h1, h2⟩ q hq
    rcases List.mem_append.1 hq with hq | hq
    · exact h1 q hq
    · exact h2 q hq
theorem noK_sq (a n : Nat) (v : Int) (k : Nat) : noK (sq a n v) k ↔ (k < a ∨ a + n ≤ k) := by
  unfold noK sq
  constructor
  · intro h
    rcases Nat.lt_or_ge k a with c | c
    · exact Or.inl c
    rcases Nat.lt_or_ge k (a + n) with d | d
    · exfalso
      refine h (((a + (k - a) : Nat) : Int), v) (List.mem_map.2 ⟨k - a, List.mem_range.2 (by omega), rfl⟩) ?_
      show ((a + (k - a) : Nat) : Int) = (k : Int)
      omega
    · exact Or.inr d
  · intro h q hq
    obtain ⟨i, hi, rfl⟩ := List.mem_map.1 hq
    have := List.mem_range.1 hi
    show ((a + i : Nat) : Int) ≠ (k : Int)
    omega
/-- a part's port at an end -/
def ptO (p : Pt) (e : Nat) : Int := if e = 0 then p.sp else p.dp
/-- one frame is another one with a new address and port -/
structure SameF (zs ys : List Int) (e : Nat) (A P : Int) : Prop where
  gz : Got zs
  pz : pgE (fld zs) zs = 0
  gy : Got ys
  py : pgE (fld ys) ys = 0
  len : (ys.length : Int) = (fld zs).len
  hd : fld ys = hdA (fld zs) e A
  kd : (pgP (fld ys) ys).kd = (pgP (fld zs) zs).kd
  cd : (pgP (fld ys) ys).cd = (pgP (fld zs) zs).cd
  fl : (pgP (fld ys) ys).fl = (pgP (fld zs) zs).fl
  bare : (pgP (fld ys) ys).bare = (pgP (fld zs) zs).bare
  er : (pgP (fld ys) ys).er = (pgP (fld zs) zs).er
  oth : ∀ k, k < ys.length → noK (frK (fld zs) (pgP (fld zs) zs) e) k → ys.getD k 0 = zs.getD k 0
  plain : (pgP (fld zs) zs).er = false → ptO (pgP (fld ys) ys) e = P ∧ (ptO (pgP (fld ys) ys) (1 - e) = ptO (pgP (fld zs) zs) (1 - e) ∨ (fld zs).proto = 1)
  err : (pgP (fld zs) zs).er = true → (fld zs).proto = 1 ∧ (pgP (fld ys) ys).pos = (pgP (fld zs) zs).pos ∧ (pgP (fld ys) ys).inn = hdA (pgP (fld zs) zs).inn (1 - e) A ∧
    Cs ((ys.drop (pgP (fld zs) zs).pos.toNat).take (pgP (fld zs) zs).inn.size.toNat) % 65535 = Cs ((zs.drop (pgP (fld zs) zs).pos.toNat).take (pgP (fld zs) zs).inn.size.toNat) % 65535 ∧
    ((pgP (fld zs) zs).inn.proto = 1 → (pgP (fld ys) ys).sp = P ∧ (pgP (fld ys) ys).dp = P) ∧
    ((pgP (fld zs) zs).inn.proto ≠ 1 → ptO (pgP (fld ys) ys) (1 - e) = P ∧ ptO (pgP (fld ys) ys) e = ptO (pgP (fld zs) zs) e)
theorem rwL_len (zs : List Int) (hg : Got zs) (e : Nat) (A P : Int) : ((rwL zs e A P).length : Int) = (fld zs).len := by
  obtain ⟨⟨s0, s1⟩, ⟨l0, l1, l2⟩, _⟩ := hg
  have ht : (zs.take (fld zs).len.toNat).length = (fld zs).len.toNat := by rw [List.length_take]; omega
  unfold rwL
  split
  · unfold erR
    simp only [P16_len]
    rw [pkR_len, adL_len, ht]; omega
  · rw [pkR_len, ht]; omega
/-- frames without an error -/
theorem same_plain (zs : List Int) (hby : By zs) (hg : Got zs) (hp : pgE (fld zs) zs = 0) (e : Nat) (he : e ≤ 1) (A P : Int) (n0 : 0 ≤ A) (n1 : A ≤ 4294967295) (q0 : 0 ≤ P) (q1 : P ≤ 65535) (her : (pgP (fld zs) zs).er = false) : SameF zs (rwL zs e A P) e A P := by
  have hrl := rwL_len zs hg e A P
  have hrg := fld_range hby
  obtain ⟨N, hN⟩ : ∃ x : Nat, (fld zs).len = (x : Int) := ⟨(fld zs).len.toNat, by omega⟩
  obtain ⟨S, hS⟩ : ∃ x : Nat, (fld zs).size = (x : Int) := ⟨(fld zs).size.toNat, by have := hg.sz; omega⟩
  have hgs := hg.sz
  have hgl := hg.ln
  have hb0 := hby.take N
  have h0l : (zs.take N).length = N := by rw [List.length_take]; omega
  have hf0 : fld (zs.take N) = fld zs := fld_take zs N (by omega)
  have hys : rwL zs e A P = pkR (zs.take N) 0 N S (fld zs).proto e A P := by
    unfold rwL
    rw [if_neg (by rw [her]; simp), hN, hS, Int.toNat_natCast, Int.toNat_natCast]
  generalize rwL zs e A P = ys at *
  have hyb : By ys := by rw [hys]; exact pkR_by hb0 n0 n1 q0 q1
  have hyl : ys.length = N := by omega
  have htk : ys.take S = adL (zs.take S) 0 (ePl e) A := by
    rw [hys, pkR_head (by omega), List.take_take, Nat.min_eq_left (by omega)]
  obtain ⟨gy, hfy⟩ := got_again zs ys e N S A hby hyb hg hN hS hyl n0 n1 htk
  obtain ⟨a1, a2, a3, a4⟩ := hdA_size (fld zs) e A
  have hbz := bod_eq zs N S hN hS
  have hby' : bod ys = ys.drop S := bod_all ys N S (by rw [hfy, a2, hN]) (by rw [hfy, a1, hS]) hyl
  have hbody : bod ys = if (fld zs).proto = 17 then udR (bod zs) 0 (ePt e) (hdS (fld zs) e) A P else if (fld zs).proto = 6 then tcR (bod zs) 0 (N - S) (ePt e) (hdS (fld zs) e) A P else if (fld zs).proto = 1 then ecR (bod zs) 0 P else bod zs := by
    rw [hby', hys, pkR_body (by omega), hf0, ← hbz]
  have hbb := bod_by hby
  have hbl := bod_len zs hg
  obtain ⟨v1, v2⟩ := pg_val ys gy
  rw [hfy] at v1 v2
  rw [a4] at v1 v2
  have hoth : ∀ k, k < ys.length → noK (frK (fld zs) (pgP (fld zs) zs) e) k → (pgP (fld zs) zs).bare = false ∨ (fld zs).proto ≠ 17 → ys.getD k 0 = zs.getD k 0 := by
    intro k hk hn hbr
    have hgt : (zs.take N).getD k 0 = zs.getD k 0 := getD_take _ _ _ (by omega)
    rw [hys, ← hgt]
    unfold frK at hn
    rw [hS, Int.toNat_natCast, her] at hn
    rw [noK_app, noK_app, noK_sq] at hn
    obtain ⟨⟨hn1, hn2⟩, hn3⟩ := hn
    have k10 : k ≠ 10 := by intro h; exact hn1 (10, 3) (by simp) (by subst h; rfl)
    have k11 : k ≠ 11 := by intro h; exact hn1 (11, 3) (by simp) (by subst h; rfl)
    refine pkR_other k (by omega) (by omega) (by omega) ?_ ?_ ?_
    · intro c
      rw [if_pos c] at hn3
      rcases hbr with hbr | hbr
      · rw [hbr, if_neg (by simp), noK_app, noK_sq, noK_sq] at hn3
        omega
      · exact absurd c hbr
    · intro c
      rw [if_neg (by omega), if_pos c, noK_app, noK_sq, noK_sq] at hn3
      omega
    · intro c
      rw [if_neg (by omega), if_neg (by omega), if_pos rfl, noK_app, noK_sq, noK_sq] at hn3
      omega
  rcases pg_cases zs hg hp with ⟨hpr, h1, h2⟩ | ⟨hpr, h1, h2⟩ | ⟨hpr, h1, h3, h2⟩ | ⟨hpr, h1, h3, h4, h2⟩
  · have hU := ud_ok (fld zs) e he A P (bod zs) hbb hrg.2.2.1.1 hrg.2.2.1.2 hrg.2.2.2.1.1 hrg.2.2.2.1.2 n0 n1 q0 q1 h1
    have hl := udE_len _ _ _ h1
    rw [if_pos hpr] at hbody v1 v2
    rw [hbody] at v1 v2
    have hz2 : pgP (fld zs) zs = ⟨17, G16 (bod zs) 0, G16 (bod zs) 2, 0, 0, 0, false, hd0, 0, G16 (bod zs) 6 == 0⟩ := by rw [h2]; unfold udP; rw [if_pos h1]
    have hy2 : pgP (hdA (fld zs) e A) ys = ⟨17, G16 (udR (bod zs) 0 (ePt e) (hdS (fld zs) e) A P) 0, G16 (udR (bod zs) 0 (ePt e) (hdS (fld zs) e) A P) 2, 0, 0, 0, false, hd0, 0, G16 (udR (bod zs) 0 (ePt e) (hdS (fld zs) e) A P) 6 == 0⟩ := by
      rw [v2]; unfold udP; rw [if_pos hU.1]
    have hport := udR_port (bod zs) 0 e (hdS (fld zs) e) A P (by omega)
    have hfar : G16 (udR (bod zs) 0 (ePt e) (hdS (fld zs) e) A P) (ePt (1 - e)) = G16 (bod zs) (ePt (1 - e)) := by
      have : e = 0 ∨ e = 1 := by omega
      unfold G16
      rcases this with rfl | rfl
      · rw [udR_other _ (by decide) (by decide), udR_other _ (by decide) (by decide)]
      · rw [udR_other _ (by decide) (by decide), udR_other _ (by decide) (by decide)]
    refine ⟨hg, hp, gy, by rw [hfy, v1]; exact hU.1, by omega, hfy, by rw [hfy, hy2, hz2], by rw [hfy, hy2, hz2], by rw [hfy, hy2, hz2], by rw [hfy, hy2, hz2]; exact hU.2, by rw [hfy, hy2, hz2], ?_, ?_, fun h => by rw [her] at h; cases h⟩
    · intro k hk hn
      by_cases hbr : (pgP (fld zs) zs).bare = false
      · exact hoth k hk hn (Or.inl hbr)
      · have hbt : (pgP (fld zs) zs).bare = true := by simpa using hbr
        have hz6 : G16 (bod zs) 6 = 0 := by rw [hz2] at hbt; simpa using hbt
        have hgt : (zs.take N).getD k 0 = zs.getD k 0 := getD_take _ _ _ (by omega)
        rw [hys, ← hgt]
        unfold frK at hn
        rw [hS, Int.toNat_natCast, if_pos hpr, hbt, if_pos rfl] at hn
        rw [noK_app, noK_app, noK_app, noK_sq, noK_sq] at hn
        obtain ⟨⟨hn1, hn2⟩, hn3, _⟩ := hn
        have k10 : k ≠ 10 := by intro h; exact hn1 (10, 3) (by simp) (by subst h; rfl)
        have k11 : k ≠ 11 := by intro h; exact hn1 (11, 3) (by simp) (by subst h; rfl)
        refine pkR_bare k hpr ?_ (by omega) (by omega) (by omega) (by omega) (by omega)
        rw [hbz, G16_drop] at hz6
        rw [Nat.zero_add]
        exact hz6
    · intro _
      rw [hfy, hy2, hz2]
      rw [Nat.zero_add] at hport
      have : e = 0 ∨ e = 1 := by omega
      rcases this with rfl | rfl
      · exact ⟨hport, Or.inl hfar⟩
      · exact ⟨hport, Or.inl hfar⟩
  · have hl := tcE_len _ _ _ h1
    have hU := tc_ok (fld zs) e he A P (bod zs) (N - S) (by omega) hbb hrg.2.2.1.1 hrg.2.2.1.2 hrg.2.2.2.1.1 hrg.2.2.2.1.2 n0 n1 q0 q1 h1
    have n17 : ¬ (fld zs).proto = 17 := by omega
    rw [if_neg n17, if_pos hpr] at hbody v1 v2
    rw [hbody] at v1 v2
    have hz2 : pgP (fld zs) zs = ⟨6, G16 (bod zs) 0, G16 (bod zs) 2, (bod zs).getD 13 0, 0, 0, false, hd0, 0, false⟩ := by rw [h2]; unfold tcP; rw [if_pos h1]
    have hy2 : pgP (hdA (fld zs) e A) ys = ⟨6, G16 (tcR (bod zs) 0 (N - S) (ePt e) (hdS (fld zs) e) A P) 0, G16 (tcR (bod zs) 0 (N - S) (ePt e) (hdS (fld zs) e) A P) 2, (tcR (bod zs) 0 (N - S) (ePt e) (hdS (fld zs) e) A P).getD 13 0, 0, 0, false, hd0, 0, false⟩ := by
      rw [v2]; unfold tcP; rw [if_pos hU]
    have hpt := ePt_le e
    have hport := tcR_port (bod zs) 0 (N - S) e (hdS (fld zs) e) A P (by omega)
    have h13 : (tcR (bod zs) 0 (N - S) (ePt e) (hdS (fld zs) e) A P).getD 13 0 = (bod zs).getD 13 0 := tcR_other 13 (by omega) (by omega)
    have hfar : G16 (tcR (bod zs) 0 (N - S) (ePt e) (hdS (fld zs) e) A P) (ePt (1 - e)) = G16 (bod zs) (ePt (1 - e)) := by
      have : e = 0 ∨ e = 1 := by omega
      unfold G16
      rcases this with rfl | rfl
      · rw [tcR_other _ (by decide) (by decide), tcR_other _ (by decide) (by decide)]
      · rw [tcR_other _ (by decide) (by decide), tcR_other _ (by decide) (by decide)]
    refine ⟨hg, hp, gy, by rw [hfy, v1]; exact hU, by omega, hfy, by rw [hfy, hy2, hz2], by rw [hfy, hy2, hz2], by rw [hfy, hy2, hz2]; exact h13, by rw [hfy, hy2, hz2], by rw [hfy, hy2, hz2], fun k hk hn => hoth k hk hn (Or.inr n17), ?_, fun h => by rw [her] at h; cases h⟩
    intro _
    rw [hfy, hy2, hz2]
    rw [Nat.zero_add] at hport
    have : e = 0 ∨ e = 1 := by omega
    rcases this with rfl | rfl
    · exact ⟨hport, Or.inl hfar⟩
    · exact ⟨hport, Or.inl hfar⟩
  · have hl := icE_len _ h1
    have hU := ec_ok P (bod zs) hbb q0 q1 h1 h3
    have n17 : ¬ (fld zs).proto = 17 := by omega
    have n6 : ¬ (fld zs).proto = 6 := by omega
    rw [if_neg n17, if_neg n6, if_pos hpr] at hbody v1 v2
    rw [hbody] at v1 v2
    have x0 : (ecR (bod zs) 0 P).getD 0 0 = (bod zs).getD 0 0 := ecR_other 0 (by omega)
    have x1 : (ecR (bod zs) 0 P).getD 1 0 = (bod zs).getD 1 0 := ecR_other 1 (by omega)
    have hport := ecR_port (bod zs) 0 P (by omega)
    rw [Nat.zero_add] at hport
    have hy2 : pgP (hdA (fld zs) e A) ys = ⟨1, P, P, 0, (bod zs).getD 0 0, (bod zs).getD 1 0, false, hd0, 0, false⟩ := by
      rw [v2]; unfold icP; rw [if_pos hU, x0, x1, if_pos h3, hport]
    refine ⟨hg, hp, gy, by rw [hfy, v1]; exact hU, by omega, hfy, by rw [hfy, hy2, h2], by rw [hfy, hy2, h2], by rw [hfy, hy2, h2], by rw [hfy, hy2, h2], by rw [hfy, hy2, h2], fun k hk hn => hoth k hk hn (Or.inr n17), ?_, fun h => by rw [her] at h; cases h⟩
    intro _
    rw [hfy, hy2]
    refine ⟨?_, Or.inr hpr⟩
    unfold ptO; split <;> rfl
  · exfalso
    rw [h2] at her
    unfold erP at her
    rw [if_pos h4] at her
    split at her <;> simp at her
end Go.Proofs.Ytdkjipfemnfckaa
