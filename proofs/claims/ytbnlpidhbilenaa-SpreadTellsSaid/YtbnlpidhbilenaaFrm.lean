/-
  A frame is got as it was put. Conditions stand in each theorem.
-/
import Derived.Test.YtbnlpidhbilenaaOpenH
import Derived.Test.YtbnlpidhbilenaaLay
namespace Go.Proofs.Ytbnlpidhbilenaa
open Go.RowKit Plain
set_option linter.unusedVariables false
set_option linter.unusedSimpArgs false
set_option maxRecDepth 100000

theorem frm_got (t p s d : Int) (ys ms : List Int) (hl : ys.length ≤ 1480) (hy : By ys) (t0 : 0 ≤ t) (t1 : t ≤ 255) (p0 : 0 ≤ p) (p1 : p ≤ 255) (s0 : 0 ≤ s) (s1 : s ≤ 4294967295) (d0 : 0 ≤ d) (d1 : d ≤ 4294967295) :
    gtE (frm t p s d ys ++ ms) = 0 ∧ gtH (frm t p s d ys ++ ms) = ⟨20, 20 + (ys.length : Int), t, p, s, d⟩ := by
  obtain ⟨hb, hm⟩ := frm_by t p s d ys hy hl t0 t1 p0 p1 s0 s1 d0 d1
  have hlen : (frm t p s d ys ++ ms).length = 20 + ys.length + ms.length := by rw [List.length_append, frm_len]
  have e16 : ∀ i, i + 1 < 20 → G16 (frm t p s d ys ++ ms) i = G16 (hb1 t p s d (20 + (ys.length : Int))) i := fun i hi => by
    unfold G16 frm
    simp only [List.getD]
    rw [List.append_assoc, List.getElem?_append_left (by rw [hb1_len]; omega), List.getElem?_append_left (by rw [hb1_len]; omega)]
  have e1 : ∀ i, i < 20 → (frm t p s d ys ++ ms).getD i 0 = (hb1 t p s d (20 + (ys.length : Int))).getD i 0 := fun i hi => by
    unfold frm
    simp only [List.getD]
    rw [List.append_assoc, List.getElem?_append_left (by rw [hb1_len]; omega)]
  have hfl : fld (frm t p s d ys ++ ms) = ⟨20, 20 + (ys.length : Int), t, p, s, d⟩ := by
    unfold fld G32
    rw [e1 0 (by omega), e1 8 (by omega), e1 9 (by omega), e16 2 (by omega), e16 12 (by omega), e16 14 (by omega), e16 16 (by omega), e16 18 (by omega)]
    show Hd.mk (69 % 16 * 4) ((20 + (ys.length : Int)) / 256 * 256 + (20 + (ys.length : Int)) % 256) t p ((s / 65536 / 256 * 256 + s / 65536 % 256) * 65536 + (s % 65536 / 256 * 256 + s % 65536 % 256)) ((d / 65536 / 256 * 256 + d / 65536 % 256) * 65536 + (d % 65536 / 256 * 256 + d % 65536 % 256)) = _
    congr 1 <;> omega
  have hr : rdE (frm t p s d ys ++ ms) 1500 = 0 := by
    unfold rdE
    rw [if_neg (by omega), e1 0 (by omega), if_neg (by show ¬ ((69 : Int) / 16 ≠ 4); decide), hfl]
    rw [if_neg (by show ¬ ((20 : Int) < 20); decide), if_neg (by rw [hlen]; show ¬ ((_ : Int) < 20); omega), if_neg (by show ¬ ((20 + (ys.length : Int)) < 20); omega), if_neg (by show ¬ (1500 < (20 + (ys.length : Int))); omega)]
  have htk : (frm t p s d ys ++ ms).take 20 = hb1 t p s d (20 + (ys.length : Int)) := by
    unfold frm
    rw [List.append_assoc, List.take_append_of_le_length (by rw [hb1_len]; omega), List.take_of_length_le (by rw [hb1_len]; omega)]
  have hcs : Cs (hb1 t p s d (20 + (ys.length : Int))) = 0 := by
    have h0 := tot_nonneg _ hb
    have hF := F_mod _ h0
    have hr2 := F_range _ h0
    have hz : F (tot (hb1 t p s d (20 + (ys.length : Int)))) ≠ 0 := fun e => by
      have hz := F_zero _ h0 e
      have hp : 17664 ≤ tot (hb1 t p s d (20 + (ys.length : Int))) := by
        have h2 : tot (hb1 t p s d (20 + (ys.length : Int))) = 69 * 256 + 0 + tot ((hb1 t p s d (20 + (ys.length : Int))).drop 2) := rfl
        have h3 := tot_nonneg _ (hb.drop 2)
        omega
      omega
    unfold Cs
    omega
  have hpc : G16 (frm t p s d ys ++ ms) 6 % 16384 = 0 := by
    rw [e16 6 (by omega)]; show ((64 : Int) * 256 + 0) % 16384 = 0; decide
  have he : gtE (frm t p s d ys ++ ms) = 0 := by
    unfold gtE
    rw [hr, if_neg (by decide), hfl, if_neg (by rw [hlen]; show ¬ ((_ : Int) < 20 + (ys.length : Int)); omega)]
    rw [show (Hd.mk 20 (20 + (ys.length : Int)) t p s d).size.toNat = 20 from rfl, htk, hcs, if_neg (by decide), hpc, if_neg (by decide)]
  exact ⟨he, by unfold gtH; rw [he, if_pos rfl, hfl]⟩


theorem set_app (a b : List Int) (j : Nat) (y : Int) : (a ++ b).set (a.length + j) y = a ++ b.set j y := by
  rw [List.set_append_right _ _ (by omega)]; congr 2; omega
theorem frm_set (t p s d : Int) (ys : List Int) (j : Nat) (y : Int) : (frm t p s d ys).set (20 + j) y = frm t p s d (ys.set j y) := by
  unfold frm
  rw [List.length_set]
  have := set_app (hb1 t p s d (20 + (ys.length : Int))) ys j y
  rw [hb1_len] at this
  exact this
theorem frm_P16 (t p s d : Int) (ys : List Int) (j : Nat) (v : Int) : P16 (frm t p s d ys) (20 + j) v = frm t p s d (P16 ys j v) := by
  unfold P16
  rw [frm_set, show 20 + j + 1 = 20 + (j + 1) by omega, frm_set]
theorem frm_getD (t p s d : Int) (ys : List Int) (j : Nat) : (frm t p s d ys).getD (20 + j) 0 = ys.getD j 0 := by
  unfold frm
  simp only [List.getD]
  rw [List.getElem?_append_right (by rw [hb1_len]; omega), hb1_len]
  congr 2
  omega
theorem frm_body (t p s d a b c e : Int) (ys : List Int) (n : Nat) (hn : ys.length = n) : bodyOf ⟨20, 20 + (n : Int), a, b, c, e⟩ (frm t p s d ys) = ys := by
  unfold bodyOf
  rw [show ((⟨20, 20 + (n : Int), a, b, c, e⟩ : Hd).size).toNat = 20 from rfl]
  rw [show ((⟨20, 20 + (n : Int), a, b, c, e⟩ : Hd).len - (⟨20, 20 + (n : Int), a, b, c, e⟩ : Hd).size).toNat = n by show (20 + (n : Int) - 20).toNat = n; omega]
  unfold frm
  rw [List.drop_append_of_le_length (by rw [hb1_len]; omega), List.drop_of_length_le (by rw [hb1_len]; omega), List.nil_append, List.take_of_length_le (by omega)]
/-- what part.Get tells of a frame, by what it carries -/
theorem frm_pg (t p s d : Int) (ys : List Int) (n : Nat) (hn : ys.length = n) (a c e : Int) (pr : Int) :
    pgE ⟨20, 20 + (n : Int), a, pr, c, e⟩ (frm t p s d ys) = (if pr = 17 then udE c e ys else if pr = 6 then tcE c e ys else if pr = 1 then icE ys else 6) ∧
    pgP ⟨20, 20 + (n : Int), a, pr, c, e⟩ (frm t p s d ys) = (if pr = 17 then udP c e ys else if pr = 6 then tcP c e ys else if pr = 1 then icP 20 ys else pt0) := by
  have hc : ¬ ((20 : Int) < 20 ∨ (60 : Int) < 20 ∨ 20 + (n : Int) < 20 ∨ ((frm t p s d ys).length : Int) < 20 + (n : Int)) := by
    rw [frm_len, hn]; omega
  unfold pgE pgP
  rw [frm_body t p s d a pr c e ys n hn]
  exact ⟨if_neg hc, if_neg hc⟩
end Go.Proofs.Ytbnlpidhbilenaa
