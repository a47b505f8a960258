/-
  Several small texts in one: PoB, PoM, PoN, PoO. Conditions stand in each theorem.
-/
import Derived.Test.YtmbceafeonjffaaGA
import Derived.Laws.Entries
namespace Go.Proofs.Ytmbceafeonjffaa
open Go.RowKit Plain
set_option linter.unusedVariables false
theorem bits_or64 (x y : Nat) (hx : x < 18446744073709551616) (hy : y < 18446744073709551616) : bits .or .u64 (x : Int) (y : Int) = ((x ||| y : Nat) : Int) := by
  have hX : (BitVec.ofInt 64 (x : Int)).toNat = x := by simp; omega
  have hY : (BitVec.ofInt 64 (y : Int)).toNat = y := by simp; omega
  have h : x ||| y < 2 ^ 64 := Nat.or_lt_two_pow hx hy
  show IntKind.u64.wrap ((BitVec.ofInt 64 (x : Int) ||| BitVec.ofInt 64 (y : Int)).toNat : Nat) = _
  rw [BitVec.toNat_or, hX, hY, IntKind.wrap_u64]
  omega
theorem bits_and64 (x y : Nat) (hx : x < 18446744073709551616) (hy : y < 18446744073709551616) : bits .and .u64 (x : Int) (y : Int) = ((x &&& y : Nat) : Int) := by
  have hX : (BitVec.ofInt 64 (x : Int)).toNat = x := by simp; omega
  have hY : (BitVec.ofInt 64 (y : Int)).toNat = y := by simp; omega
  have h : x &&& y ≤ x := Nat.and_le_left
  show IntKind.u64.wrap ((BitVec.ofInt 64 (x : Int) &&& BitVec.ofInt 64 (y : Int)).toNat : Nat) = _
  rw [BitVec.toNat_and, hX, hY, IntKind.wrap_u64]
  omega
/-- x without y -/
def anot (x y : Nat) : Nat := x &&& (18446744073709551615 - y)
theorem bits_andNot64 (x y : Nat) (hx : x < 18446744073709551616) (hy : y < 18446744073709551616) : bits .andNot .u64 (x : Int) (y : Int) = ((anot x y : Nat) : Int) := by
  have hX : (BitVec.ofInt 64 (x : Int)).toNat = x := by simp; omega
  have hY : (BitVec.ofInt 64 (y : Int)).toNat = y := by simp; omega
  have h : x &&& (18446744073709551615 - y) ≤ x := Nat.and_le_left
  unfold anot
  show IntKind.u64.wrap ((BitVec.ofInt 64 (x : Int) &&& ~~~ BitVec.ofInt 64 (y : Int)).toNat : Nat) = _
  rw [BitVec.toNat_and, BitVec.toNat_not, hX, hY, IntKind.wrap_u64]
  rw [show 2 ^ 64 - 1 - y = 18446744073709551615 - y from rfl]
  omega
theorem or_high (x y : Nat) (hy : y < 4294967296) : (x ||| y) / 4294967296 = x / 4294967296 := by
  have e : ∀ z, z / 4294967296 = z >>> 32 := fun z => by rw [Nat.shiftRight_eq_div_pow]
  rw [e, e, Nat.shiftRight_or_distrib, show y >>> 32 = 0 by rw [← e]; omega, Nat.or_zero]
theorem anot_high (x y : Nat) (hx : x < 18446744073709551616) (hy : y < 4294967296) : anot x y / 4294967296 = x / 4294967296 := by
  have e : ∀ z, z / 4294967296 = z >>> 32 := fun z => by rw [Nat.shiftRight_eq_div_pow]
  unfold anot
  rw [e, e, Nat.shiftRight_and_distrib, show (18446744073709551615 - y) >>> 32 = 2 ^ 32 - 1 by rw [← e]; omega, Nat.and_two_pow_sub_one_eq_mod, Nat.mod_eq_of_lt (by rw [← e]; omega)]
/-- a word whose numbers are taken is another one -/
theorem took_ne (x y : Nat) (hx : x < 18446744073709551616) (hy : y < 4294967296) : ((x ||| y) + 4294967296) % 18446744073709551616 ≠ x := by
  have h := or_high x y hy
  have h2 : x ||| y < 18446744073709551616 := Nat.or_lt_two_pow (n := 64) hx (by omega)
  omega
/-- a word whose numbers come back is another one -/
theorem gave_ne (x y : Nat) (hx : x < 18446744073709551616) (hy : y < 4294967296) : (anot x y + 4294967296) % 18446744073709551616 ≠ x := by
  have h := anot_high x y hx hy
  have h2 : anot x y ≤ x := Nat.and_le_left
  omega
end Go.Proofs.Ytmbceafeonjffaa

namespace Go.Proofs.Ytmbceafeonjffaa
open Go.RowKit Plain
set_option linter.unusedVariables false
/-- a Step: what it does next (0 over, 1 and 2 a Take, 3 a Same, 4 and 5 a Back), its word, how many words aren't over, how many numbers it wants, what was read, what it took, none, same, what is to be given back -/
structure Ps where
  nx : Nat
  wd : Nat
  ah : Nat
  mo : Nat
  rd : List Int
  tk : Int
  no : Bool
  sm : Bool
  gi : List (Nat × Int)
def freeF (w : Int) : Int := 4294967295 - w % 4294967296
def restN (s : Nat) : Nat → Nat
  | 0 => s
  | k + 1 => restN s k &&& ((restN s k + 4294967295) % 4294967296)
def lowF (s : Int) (most : Nat) : Int := ((s.toNat &&& (4294967295 - restN s.toNat most) : Nat) : Int)
def tookW (w s : Int) : Int := (((w.toNat ||| s.toNat) + 4294967296) % 18446744073709551616 : Nat)
def gaveW (w s : Int) : Int := ((anot w.toNat s.toNat + 4294967296) % 18446744073709551616 : Nat)
/-- the first of a Back's words is over -/
def Ps.close (s : Ps) : Ps := { s with gi := s.gi.drop 1, nx := if s.gi.length ≤ 1 then 0 else 4 }
def stpP (n : Nat) (l : List Int) (s : Ps) : List Int × Ps :=
  match s.nx with
  | 1 =>
    let w := l.getD s.wd 0
    let s1 := { s with rd := s.rd.set s.wd w }
    if freeF w ≠ 0 then (l, { s1 with nx := 2 }) else if s.ah = 1 then (l, { s1 with no := true, nx := 0 }) else (l, { s1 with ah := s.ah - 1, wd := (s.wd + 1) % n })
  | 2 =>
    let w := s.rd.getD s.wd 0
    if l.getD s.wd 0 = w then (l.set s.wd (tookW w (lowF (freeF w) s.mo)), { s with tk := lowF (freeF w) s.mo, nx := 0 }) else (l, { s with nx := 1 })
  | 3 => if l.getD s.wd 0 ≠ s.rd.getD s.wd 0 then (l, { s with nx := 0 }) else if s.ah = 1 then (l, { s with sm := true, nx := 0 }) else (l, { s with ah := s.ah - 1, wd := s.wd + 1 })
  | 4 =>
    let g := s.gi.getD 0 (0, 0)
    let w := l.getD g.1 0
    let s1 := { s with rd := s.rd.set g.1 w }
    if (w % 4294967296).toNat &&& g.2.toNat = 0 then (l, s1.close) else (l, { s1 with nx := 5 })
  | 5 =>
    let g := s.gi.getD 0 (0, 0)
    let w := s.rd.getD g.1 0
    if l.getD g.1 0 = w then (l.set g.1 (gaveW w g.2), s.close) else (l, { s with nx := 4 })
  | _ => (l, s)
/-- how many words are others -/
def diffs : List Int → List Int → Nat
  | x :: l, y :: m => (if x ≠ y then 1 else 0) + diffs l m
  | _, _ => 0
theorem diffs_at : ∀ (l m : List Int) (i : Nat), l.length = m.length → l.getD i 0 ≠ m.getD i 0 → 1 ≤ diffs l m
  | [], m, i, h, hd => by
    have : m = [] := List.length_eq_zero_iff.1 h.symm
    subst this; exact absurd rfl hd
  | x :: l, [], i, h, hd => by simp at h
  | x :: l, y :: m, 0, h, hd => by
    have : x ≠ y := by simpa [List.getD] using hd
    simp [diffs, this]
  | x :: l, y :: m, i + 1, h, hd => by
    have h1 := diffs_at l m i (by simpa using h) (by simpa [List.getD] using hd)
    simp [diffs]
    omega
/-- how far a Take may be: t steps, c changes by others -/
def TkI (n : Nat) (l : List Int) (s : Ps) (t c : Nat) : Prop :=
  1 ≤ s.ah ∧ s.ah ≤ n ∧ s.wd < n ∧ ∃ f, (s.nx = 1 ∧ t = n - s.ah + 2 * f ∧ f ≤ c) ∨ (s.nx = 2 ∧ t = n - s.ah + 1 + 2 * f ∧ f ≤ c ∧ (l.getD s.wd 0 ≠ s.rd.getD s.wd 0 → f + 1 ≤ c))
theorem TkI.other {n : Nat} {l l' : List Int} {s : Ps} {t c : Nat} (h : TkI n l s t c) (hl : l.length = l'.length) : TkI n l' s t (c + diffs l l') := by
  obtain ⟨h1, h2, h3, f, h⟩ := h
  refine ⟨h1, h2, h3, f, ?_⟩
  rcases h with ⟨a, b, d⟩ | ⟨a, b, d, e⟩
  · exact .inl ⟨a, b, by omega⟩
  · refine .inr ⟨a, b, by omega, fun hne => ?_⟩
    by_cases q : l.getD s.wd 0 = s.rd.getD s.wd 0
    · have := diffs_at l l' s.wd hl (by rw [q]; exact fun h => hne h.symm)
      omega
    · have := e q; omega
theorem TkI.bound {n : Nat} {l : List Int} {s : Ps} {t c : Nat} (h : TkI n l s t c) : t ≤ n + 1 + 2 * c := by
  obtain ⟨h1, h2, h3, f, h⟩ := h
  rcases h with ⟨a, b, d⟩ | ⟨a, b, d, e⟩ <;> omega
theorem TkI.step {n : Nat} {l : List Int} {s : Ps} {t c : Nat} (h : TkI n l s t c) (hr : s.rd.length = 32) (hn : n ≤ 32) : t + 1 ≤ n + 1 + 2 * c ∧ ((stpP n l s).2.nx = 0 ∨ TkI n (stpP n l s).1 (stpP n l s).2 (t + 1) c) := by
  obtain ⟨h1, h2, h3, f, h⟩ := h
  have hn0 : 0 < n := by omega
  rcases h with ⟨a, b, d⟩ | ⟨a, b, d, e⟩
  · refine ⟨by omega, ?_⟩
    unfold stpP
    rw [a]
    simp only
    by_cases q : freeF (l.getD s.wd 0) ≠ 0
    · rw [if_pos q]
      refine .inr ⟨h1, h2, h3, f, .inr ⟨rfl, by show t + 1 = n - s.ah + 1 + 2 * f; omega, d, fun hne => absurd ?_ hne⟩⟩
      show l.getD s.wd 0 = (s.rd.set s.wd (l.getD s.wd 0)).getD s.wd 0
      simp [List.getD, show s.wd < s.rd.length by omega]
    · rw [if_neg q]
      by_cases q1 : s.ah = 1
      · rw [if_pos q1]; exact .inl rfl
      · rw [if_neg q1]
        refine .inr ⟨by show 1 ≤ s.ah - 1; omega, by show s.ah - 1 ≤ n; omega, Nat.mod_lt _ hn0, f, .inl ⟨rfl, by show t + 1 = n - (s.ah - 1) + 2 * f; omega, d⟩⟩
  · refine ⟨by omega, ?_⟩
    unfold stpP
    rw [a]
    simp only
    by_cases q : l.getD s.wd 0 = s.rd.getD s.wd 0
    · rw [if_pos q]; exact .inl rfl
    · rw [if_neg q]
      have := e q
      exact .inr ⟨h1, h2, h3, f + 1, .inl ⟨rfl, by show t + 1 = n - s.ah + 2 * (f + 1); omega, by omega⟩⟩
/-- how far a Back of one word may be -/
def BkI (n : Nat) (l : List Int) (s : Ps) (t c : Nat) : Prop :=
  ∃ g, s.gi = [g] ∧ g.1 < n ∧ ∃ f, (s.nx = 4 ∧ t = 2 * f ∧ f ≤ c) ∨ (s.nx = 5 ∧ t = 1 + 2 * f ∧ f ≤ c ∧ (l.getD g.1 0 ≠ s.rd.getD g.1 0 → f + 1 ≤ c))
theorem BkI.other {n : Nat} {l l' : List Int} {s : Ps} {t c : Nat} (h : BkI n l s t c) (hl : l.length = l'.length) : BkI n l' s t (c + diffs l l') := by
  obtain ⟨g, h1, h2, f, h⟩ := h
  refine ⟨g, h1, h2, f, ?_⟩
  rcases h with ⟨a, b, d⟩ | ⟨a, b, d, e⟩
  · exact .inl ⟨a, b, by omega⟩
  · refine .inr ⟨a, b, by omega, fun hne => ?_⟩
    by_cases q : l.getD g.1 0 = s.rd.getD g.1 0
    · have := diffs_at l l' g.1 hl (by rw [q]; exact fun h => hne h.symm)
      omega
    · have := e q; omega
theorem BkI.step {n : Nat} {l : List Int} {s : Ps} {t c : Nat} (h : BkI n l s t c) (hr : s.rd.length = 32) (hn : n ≤ 32) : t + 1 ≤ 2 + 2 * c ∧ ((stpP n l s).2.nx = 0 ∨ BkI n (stpP n l s).1 (stpP n l s).2 (t + 1) c) := by
  obtain ⟨g, h1, h2, f, h⟩ := h
  rcases h with ⟨a, b, d⟩ | ⟨a, b, d, e⟩
  · refine ⟨by omega, ?_⟩
    unfold stpP
    rw [a]
    simp only
    have hg : s.gi.getD 0 (0, 0) = g := by rw [h1]; rfl
    rw [hg]
    split
    · left
      unfold Ps.close
      simp [h1]
    · refine .inr ⟨g, h1, h2, f, .inr ⟨rfl, by show t + 1 = 1 + 2 * f; omega, d, fun hne => absurd ?_ hne⟩⟩
      show l.getD g.1 0 = (s.rd.set g.1 (l.getD g.1 0)).getD g.1 0
      simp [List.getD, show g.1 < s.rd.length by omega]
  · refine ⟨by omega, ?_⟩
    unfold stpP
    rw [a]
    simp only
    have hg : s.gi.getD 0 (0, 0) = g := by rw [h1]; rfl
    rw [hg]
    by_cases q : l.getD g.1 0 = s.rd.getD g.1 0
    · rw [if_pos q]
      left
      unfold Ps.close
      simp [h1]
    · rw [if_neg q]
      have := e q
      exact .inr ⟨g, h1, h2, f + 1, .inl ⟨rfl, by show t + 1 = 2 * (f + 1); omega, by omega⟩⟩
end Go.Proofs.Ytmbceafeonjffaa

namespace Go.Proofs.Ytmbceafeonjffaa
open Go.RowKit Plain
set_option linter.unusedVariables false
/-- how often a word was changed -/
def hiF (w : Int) : Int := w / 4294967296
def fulF (w : Int) : Prop := freeF w = 0
/-- words of 64 bits, none of which was changed more often than b times -/
def WfP (n : Nat) (l : List Int) (b : Int) : Prop := l.length = n ∧ ∀ j, j < n → 0 ≤ l.getD j 0 ∧ l.getD j 0 < 18446744073709551616 ∧ hiF (l.getD j 0) ≤ b
/-- one word at most is another one, and that was changed once more -/
def ChP (n : Nat) (l l' : List Int) : Prop := l'.length = l.length ∧ ∀ j, j < n → l'.getD j 0 = l.getD j 0 ∨ (hiF (l'.getD j 0) = hiF (l.getD j 0) + 1 ∧ 0 ≤ l'.getD j 0 ∧ l'.getD j 0 < 18446744073709551616)
theorem ChP.refl (n : Nat) (l : List Int) : ChP n l l := ⟨rfl, fun j _ => .inl rfl⟩
theorem ChP.wf {n : Nat} {l l' : List Int} {b : Int} (h : ChP n l l') (hw : WfP n l b) : WfP n l' (b + 1) := ⟨by rw [h.1]; exact hw.1, fun j hj => by
  obtain ⟨h1, h2, h3⟩ := hw.2 j hj
  rcases h.2 j hj with q | ⟨q1, q2, q3⟩
  · rw [q]; exact ⟨h1, h2, by omega⟩
  · exact ⟨q2, q3, by omega⟩⟩
theorem lowF_rng (s : Int) (m : Nat) : 0 ≤ lowF s m ∧ lowF s m < 4294967296 := by
  unfold lowF
  have h : s.toNat &&& (4294967295 - restN s.toNat m) ≤ 4294967295 - restN s.toNat m := Nat.and_le_right
  omega
theorem tookW_hi (w s : Int) (h0 : 0 ≤ w) (h1 : w < 18446744073709551616) (s0 : 0 ≤ s) (s1 : s < 4294967296) (hb : hiF w ≤ 4294967294) : hiF (tookW w s) = hiF w + 1 ∧ 0 ≤ tookW w s ∧ tookW w s < 18446744073709551616 := by
  obtain ⟨x, rfl⟩ : ∃ x : Nat, w = x := ⟨w.toNat, by omega⟩
  obtain ⟨y, rfl⟩ : ∃ y : Nat, s = y := ⟨s.toNat, by omega⟩
  have h := or_high x y (by omega)
  have h2 : x ||| y < 18446744073709551616 := Nat.or_lt_two_pow (n := 64) (by omega) (by omega)
  unfold tookW hiF at *
  simp only [Int.toNat_natCast]
  omega
theorem gaveW_hi (w s : Int) (h0 : 0 ≤ w) (h1 : w < 18446744073709551616) (s0 : 0 ≤ s) (s1 : s < 4294967296) (hb : hiF w ≤ 4294967294) : hiF (gaveW w s) = hiF w + 1 ∧ 0 ≤ gaveW w s ∧ gaveW w s < 18446744073709551616 := by
  obtain ⟨x, rfl⟩ : ∃ x : Nat, w = x := ⟨w.toNat, by omega⟩
  obtain ⟨y, rfl⟩ : ∃ y : Nat, s = y := ⟨s.toNat, by omega⟩
  have h := anot_high x y (by omega) (by omega)
  have h2 : anot x y ≤ x := Nat.and_le_left
  unfold gaveW hiF at *
  simp only [Int.toNat_natCast]
  omega
theorem ChP.set {n : Nat} {l : List Int} {i : Nat} {x : Int} (h : hiF x = hiF (l.getD i 0) + 1) (h0 : 0 ≤ x) (h1 : x < 18446744073709551616) : ChP n l (l.set i x) := ⟨by simp, fun j hj => by
  by_cases e : i = j
  · subst e
    by_cases hl : i < l.length
    · right
      have : (l.set i x).getD i 0 = x := by simp [List.getD, hl]
      rw [this]; exact ⟨h, h0, h1⟩
    · left
      rw [List.set_eq_of_length_le (by omega)]
  · left
    simp [List.getD, List.getElem?_set_ne e]⟩
/-- each step changes one word at most, and that once -/
theorem stp_ch {n : Nat} {l : List Int} {s : Ps} {b : Int} (hw : WfP n l b) (hb : b ≤ 4294967294) (hwd : s.nx = 2 → s.wd < n) (hg : s.nx = 5 → (s.gi.getD 0 (0, 0)).1 < n ∧ 0 ≤ (s.gi.getD 0 (0, 0)).2 ∧ (s.gi.getD 0 (0, 0)).2 < 4294967296) : ChP n l (stpP n l s).1 := by
  unfold stpP
  split
  · simp only; split
    · exact ChP.refl _ _
    · split <;> exact ChP.refl _ _
  · rename_i hn
    simp only; split
    · rename_i q
      have hd := hwd hn
      obtain ⟨h1, h2, h3⟩ := hw.2 s.wd hd
      rw [← q]
      obtain ⟨k1, k2⟩ := lowF_rng (freeF (l.getD s.wd 0)) s.mo
      obtain ⟨r1, r2, r3⟩ := tookW_hi (l.getD s.wd 0) _ h1 h2 k1 k2 (by omega)
      exact ChP.set r1 r2 r3
    · exact ChP.refl _ _
  · split
    · exact ChP.refl _ _
    · split <;> exact ChP.refl _ _
  · simp only; split <;> exact ChP.refl _ _
  · rename_i hn
    simp only; split
    · rename_i q
      obtain ⟨hd, g1, g2⟩ := hg hn
      obtain ⟨h1, h2, h3⟩ := hw.2 _ hd
      rw [← q]
      obtain ⟨r1, r2, r3⟩ := gaveW_hi (l.getD (s.gi.getD 0 (0, 0)).1 0) _ h1 h2 g1 g2 (by omega)
      exact ChP.set r1 r2 r3
    · exact ChP.refl _ _
  · exact ChP.refl _ _
/-- word j was read, and was full then -/
def VisP (l rd : List Int) (j : Nat) : Prop := fulF (rd.getD j 0) ∧ hiF (rd.getD j 0) ≤ hiF (l.getD j 0) ∧ (hiF (rd.getD j 0) = hiF (l.getD j 0) → rd.getD j 0 = l.getD j 0)
theorem VisP.ch {n : Nat} {l l' rd : List Int} {j : Nat} (h : VisP l rd j) (hc : ChP n l l') (hj : j < n) : VisP l' rd j := by
  obtain ⟨h1, h2, h3⟩ := h
  rcases hc.2 j hj with q | ⟨q, _, _⟩
  · exact ⟨h1, by rw [q]; exact h2, by rw [q]; exact h3⟩
  · exact ⟨h1, by omega, fun e => by omega⟩
/-- what the Take read when it found none is not what stands there now -/
def OddP (n : Nat) (l rd : List Int) : Prop := ∃ j, j < n ∧ hiF (rd.getD j 0) < hiF (l.getD j 0)
theorem OddP.ch {n : Nat} {l l' rd : List Int} (h : OddP n l rd) (hc : ChP n l l') : OddP n l' rd := by
  obtain ⟨j, hj, h⟩ := h
  rcases hc.2 j hj with q | ⟨q, _, _⟩
  · exact ⟨j, hj, by rw [q]; exact h⟩
  · exact ⟨j, hj, by omega⟩
/-- where all were read full, and one isn't full now, it was changed -/
theorem odd_of {n : Nat} {l rd : List Int} (h : ∀ j, j < n → VisP l rd j) (hn : ¬ ∀ j, j < n → fulF (l.getD j 0)) : OddP n l rd := by
  obtain ⟨j, hj⟩ := Classical.not_forall.1 hn
  obtain ⟨hjn, hf⟩ := Classical.not_imp.1 hj
  obtain ⟨h1, h2, h3⟩ := h j hjn
  refine ⟨j, hjn, ?_⟩
  by_cases e : hiF (rd.getD j 0) = hiF (l.getD j 0)
  · rw [h3 e] at h1; exact absurd h1 hf
  · omega
end Go.Proofs.Ytmbceafeonjffaa

namespace Go.Proofs.Ytmbceafeonjffaa
open Go.RowKit Plain
set_option linter.unusedVariables false
theorem bit_low (x y i : Nat) (hi : i < 32) (h : x % 4294967296 = y % 4294967296) : x.testBit i = y.testBit i := by
  have e : ∀ z : Nat, z.testBit i = (z % 2 ^ 32).testBit i := fun z => by rw [Nat.testBit_mod_two_pow]; simp [hi]
  rw [e x, e y, show (2 : Nat) ^ 32 = 4294967296 from rfl, h]
theorem took_bit (w s : Int) (i : Nat) (hi : i < 32) : (tookW w s).toNat.testBit i = (w.toNat.testBit i || s.toNat.testBit i) := by
  unfold tookW
  rw [Int.toNat_natCast, ← Nat.testBit_or]
  exact bit_low _ _ i hi (by omega)
theorem anot_bit (x y i : Nat) (hi : i < 32) (hy : y < 18446744073709551616) : (anot x y).testBit i = (x.testBit i && !y.testBit i) := by
  unfold anot
  rw [Nat.testBit_and, show 18446744073709551615 - y = 2 ^ 64 - (y + 1) by omega, Nat.testBit_two_pow_sub_succ hy]
  simp [show i < 64 by omega]
theorem gave_bit (w s : Int) (i : Nat) (hi : i < 32) (hs : s < 18446744073709551616) : (gaveW w s).toNat.testBit i = (w.toNat.testBit i && !s.toNat.testBit i) := by
  unfold gaveW
  rw [Int.toNat_natCast, ← anot_bit _ _ i hi (by omega)]
  exact bit_low _ _ i hi (by omega)
/-- what is free in a word -/
theorem free_bit (w : Int) (h0 : 0 ≤ w) (i : Nat) (hi : i < 32) : (freeF w).toNat.testBit i = !w.toNat.testBit i := by
  obtain ⟨x, rfl⟩ : ∃ x : Nat, w = x := ⟨w.toNat, by omega⟩
  unfold freeF
  rw [Int.toNat_natCast, show (4294967295 - (x : Int) % 4294967296).toNat = 2 ^ 32 - (x % 2 ^ 32 + 1) by omega, Nat.testBit_two_pow_sub_succ (Nat.mod_lt _ (by decide)), Nat.testBit_mod_two_pow]
  simp [hi]
theorem full_bit (w : Int) (h0 : 0 ≤ w) : freeF w = 0 ↔ ∀ i, i < 32 → w.toNat.testBit i = true := by
  constructor
  · intro h i hi
    have := free_bit w h0 i hi
    rw [h] at this
    simpa using this
  · intro h
    have hz : (freeF w).toNat = 0 := by
      refine Nat.eq_of_testBit_eq fun i => ?_
      rw [Nat.zero_testBit]
      by_cases hi : i < 32
      · rw [free_bit w h0 i hi, h i hi]; rfl
      · refine Nat.testBit_lt_two_pow (Nat.lt_of_lt_of_le (m := 2 ^ 32) ?_ (Nat.pow_le_pow_right (by decide) (by omega)))
        unfold freeF
        omega
    unfold freeF at *
    omega
/-- what is taken was free -/
theorem low_bit (s : Int) (m i : Nat) (h : (lowF s m).toNat.testBit i = true) : s.toNat.testBit i = true := by
  unfold lowF at h
  rw [Int.toNat_natCast, Nat.testBit_and, Bool.and_eq_true] at h
  exact h.1
/-- a number is taken -/
def tkn (l : List Int) (x : Nat) : Bool := (l.getD (x / 32) 0).toNat.testBit (x % 32)
theorem tkn_set (l : List Int) (k : Nat) (v : Int) (x : Nat) (hk : k < l.length) : tkn (l.set k v) x = if x / 32 = k then v.toNat.testBit (x % 32) else tkn l x := by
  unfold tkn
  by_cases e : x / 32 = k
  · rw [if_pos e, e]; simp [List.getD, hk]
  · rw [if_neg e]; simp [List.getD, List.getElem?_set_ne (fun q => e q.symm)]
/-- a Take that wins -/
theorem tkn_took (l : List Int) (k : Nat) (s : Int) (x : Nat) (hk : k < l.length) : tkn (l.set k (tookW (l.getD k 0) s)) x = (tkn l x || (decide (x / 32 = k) && s.toNat.testBit (x % 32))) := by
  rw [tkn_set _ _ _ _ hk]
  by_cases e : x / 32 = k
  · rw [if_pos e, took_bit _ _ _ (Nat.mod_lt _ (by decide))]; unfold tkn; simp [e]
  · rw [if_neg e]; simp [e]
/-- a Back of one word's numbers -/
theorem tkn_gave (l : List Int) (k : Nat) (s : Int) (x : Nat) (hk : k < l.length) (hs : s < 18446744073709551616) : tkn (l.set k (gaveW (l.getD k 0) s)) x = (tkn l x && !(decide (x / 32 = k) && s.toNat.testBit (x % 32))) := by
  rw [tkn_set _ _ _ _ hk]
  by_cases e : x / 32 = k
  · rw [if_pos e, gave_bit _ _ _ (Nat.mod_lt _ (by decide)) hs]; unfold tkn; simp [e]
  · rw [if_neg e]; simp [e]
end Go.Proofs.Ytmbceafeonjffaa
