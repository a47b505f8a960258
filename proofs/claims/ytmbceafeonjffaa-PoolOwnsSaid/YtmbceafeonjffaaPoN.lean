/-
  Package pool: what a Take that found none, and a Same of it, tell. Plain lists; conditions stand in each theorem.
-/
import Derived.Test.YtmbceafeonjffaaPoM
namespace Go.Proofs.Ytmbceafeonjffaa
open Go.RowKit Plain
set_option linter.unusedVariables false
/-- how often a word was changed -/
def hiF (w : Int) : Int := w / 4294967296
def fulF (w : Int) : Prop := freeF w = 0
/-- words of 64 bits, none of which was changed more often than b times -/
def WfP (n : Nat) (l : List Int) (b : Int) : Prop := l.length = n ∧ ∀ j, j < n → 0 ≤ l.getD j 0 ∧ l.getD j 0 < 18446744073709551616 ∧ hiF (l.getD j 0) ≤ b
/-- one word at most is another one, and that was changed once more -/
def ChP (n : Nat) (l l' : List Int) : Prop := l'.length = l.length ∧ ∀ j, j < n → l'.getD j 0 = l.getD j 0 ∨ (hiF (l'.getD j 0) = hiF (l.getD j 0) + 1 ∧ 0 ≤ l'.getD j 0 ∧ l'.getD j 0 < 18446744073709551616)
theorem ChP.refl (n : Nat) (l : List Int) : ChP n l l := ⟨rfl, fun j _ => .inl rfl⟩
theorem ChP.wf {n : Nat} {l l' : List Int} {b : Int} (h : ChP n l l') (hw : WfP n l b) : WfP n l' (b + 1) := ⟨by rw [h.1]; exact hw.1, fun j hj => by
  obtain ⟨h1, h2, h3⟩ := hw.2 j hj
  rcases h.2 j hj with q | ⟨q1, q2, q3⟩
  · rw [q]; exact ⟨h1, h2, by omega⟩
  · exact ⟨q2, q3, by omega⟩⟩
theorem lowF_rng (s : Int) (m : Nat) : 0 ≤ lowF s m ∧ lowF s m < 4294967296 := by
  unfold lowF
  have h : s.toNat &&& (4294967295 - restN s.toNat m) ≤ 4294967295 - restN s.toNat m := Nat.and_le_right
  omega
theorem tookW_hi (w s : Int) (h0 : 0 ≤ w) (h1 : w < 18446744073709551616) (s0 : 0 ≤ s) (s1 : s < 4294967296) (hb : hiF w ≤ 4294967294) : hiF (tookW w s) = hiF w + 1 ∧ 0 ≤ tookW w s ∧ tookW w s < 18446744073709551616 := by
  obtain ⟨x, rfl⟩ : ∃ x : Nat, w = x := ⟨w.toNat, by omega⟩
  obtain ⟨y, rfl⟩ : ∃ y : Nat, s = y := ⟨s.toNat, by omega⟩
  have h := or_high x y (by omega)
  have h2 : x ||| y < 18446744073709551616 := Nat.or_lt_two_pow (n := 64) (by omega) (by omega)
  unfold tookW hiF at *
  simp only [Int.toNat_natCast]
  omega
theorem gaveW_hi (w s : Int) (h0 : 0 ≤ w) (h1 : w < 18446744073709551616) (s0 : 0 ≤ s) (s1 : s < 4294967296) (hb : hiF w ≤ 4294967294) : hiF (gaveW w s) = hiF w + 1 ∧ 0 ≤ gaveW w s ∧ gaveW w s < 18446744073709551616 := by
  obtain ⟨x, rfl⟩ : ∃ x : Nat, w = x := ⟨w.toNat, by omega⟩
  obtain ⟨y, rfl⟩ : ∃ y : Nat, s = y := ⟨s.toNat, by omega⟩
  have h := anot_high x y (by omega) (by omega)
  have h2 : anot x y ≤ x := Nat.and_le_left
  unfold gaveW hiF at *
  simp only [Int.toNat_natCast]
  omega
theorem ChP.set {n : Nat} {l : List Int} {i : Nat} {x : Int} (h : hiF x = hiF (l.getD i 0) + 1) (h0 : 0 ≤ x) (h1 : x < 18446744073709551616) : ChP n l (l.set i x) := ⟨by simp, fun j hj => by
  by_cases e : i = j
  · subst e
    by_cases hl : i < l.length
    · right
      have : (l.set i x).getD i 0 = x := by simp [List.getD, hl]
      rw [this]; exact ⟨h, h0, h1⟩
    · left
      rw [List.set_eq_of_length_le (by omega)]
  · left
    simp [List.getD, List.getElem?_set_ne e]⟩
/-- each step changes one word at most, and that once -/
theorem stp_ch {n : Nat} {l : List Int} {s : Ps} {b : Int} (hw : WfP n l b) (hb : b ≤ 4294967294) (hwd : s.nx = 2 → s.wd < n) (hg : s.nx = 5 → (s.gi.getD 0 (0, 0)).1 < n ∧ 0 ≤ (s.gi.getD 0 (0, 0)).2 ∧ (s.gi.getD 0 (0, 0)).2 < 4294967296) : ChP n l (stpP n l s).1 := by
  unfold stpP
  split
  · simp only; split
    · exact ChP.refl _ _
    · split <;> exact ChP.refl _ _
  · rename_i hn
    simp only; split
    · rename_i q
      have hd := hwd hn
      obtain ⟨h1, h2, h3⟩ := hw.2 s.wd hd
      rw [← q]
      obtain ⟨k1, k2⟩ := lowF_rng (freeF (l.getD s.wd 0)) s.mo
      obtain ⟨r1, r2, r3⟩ := tookW_hi (l.getD s.wd 0) _ h1 h2 k1 k2 (by omega)
      exact ChP.set r1 r2 r3
    · exact ChP.refl _ _
  · split
    · exact ChP.refl _ _
    · split <;> exact ChP.refl _ _
  · simp only; split <;> exact ChP.refl _ _
  · rename_i hn
    simp only; split
    · rename_i q
      obtain ⟨hd, g1, g2⟩ := hg hn
      obtain ⟨h1, h2, h3⟩ := hw.2 _ hd
      rw [← q]
      obtain ⟨r1, r2, r3⟩ := gaveW_hi (l.getD (s.gi.getD 0 (0, 0)).1 0) _ h1 h2 g1 g2 (by omega)
      exact ChP.set r1 r2 r3
    · exact ChP.refl _ _
  · exact ChP.refl _ _
/-- word j was read, and was full then -/
def VisP (l rd : List Int) (j : Nat) : Prop := fulF (rd.getD j 0) ∧ hiF (rd.getD j 0) ≤ hiF (l.getD j 0) ∧ (hiF (rd.getD j 0) = hiF (l.getD j 0) → rd.getD j 0 = l.getD j 0)
theorem VisP.ch {n : Nat} {l l' rd : List Int} {j : Nat} (h : VisP l rd j) (hc : ChP n l l') (hj : j < n) : VisP l' rd j := by
  obtain ⟨h1, h2, h3⟩ := h
  rcases hc.2 j hj with q | ⟨q, _, _⟩
  · exact ⟨h1, by rw [q]; exact h2, by rw [q]; exact h3⟩
  · exact ⟨h1, by omega, fun e => by omega⟩
/-- what the Take read when it found none is not what stands there now -/
def OddP (n : Nat) (l rd : List Int) : Prop := ∃ j, j < n ∧ hiF (rd.getD j 0) < hiF (l.getD j 0)
theorem OddP.ch {n : Nat} {l l' rd : List Int} (h : OddP n l rd) (hc : ChP n l l') : OddP n l' rd := by
  obtain ⟨j, hj, h⟩ := h
  rcases hc.2 j hj with q | ⟨q, _, _⟩
  · exact ⟨j, hj, by rw [q]; exact h⟩
  · exact ⟨j, hj, by omega⟩
/-- where all were read full, and one isn't full now, it was changed -/
theorem odd_of {n : Nat} {l rd : List Int} (h : ∀ j, j < n → VisP l rd j) (hn : ¬ ∀ j, j < n → fulF (l.getD j 0)) : OddP n l rd := by
  obtain ⟨j, hj⟩ := Classical.not_forall.1 hn
  obtain ⟨hjn, hf⟩ := Classical.not_imp.1 hj
  obtain ⟨h1, h2, h3⟩ := h j hjn
  refine ⟨j, hjn, ?_⟩
  by_cases e : hiF (rd.getD j 0) = hiF (l.getD j 0)
  · rw [h3 e] at h1; exact absurd h1 hf
  · omega
end Go.Proofs.Ytmbceafeonjffaa
