/-
  Package pool: steps as plain lists; how many steps a Take, or a Back of one word, may need. Conditions stand in each theorem.
-/
import Derived.Test.YtmbceafeonjffaaPoB
namespace Go.Proofs.Ytmbceafeonjffaa
open Go.RowKit Plain
set_option linter.unusedVariables false
/-- a Step: what it does next (0 over, 1 and 2 a Take, 3 a Same, 4 and 5 a Back), its word, how many words aren't over, how many numbers it wants, what was read, what it took, none, same, what is to be given back -/
structure Ps where
  nx : Nat
  wd : Nat
  ah : Nat
  mo : Nat
  rd : List Int
  tk : Int
  no : Bool
  sm : Bool
  gi : List (Nat × Int)
def freeF (w : Int) : Int := 4294967295 - w % 4294967296
def restN (s : Nat) : Nat → Nat
  | 0 => s
  | k + 1 => restN s k &&& ((restN s k + 4294967295) % 4294967296)
def lowF (s : Int) (most : Nat) : Int := ((s.toNat &&& (4294967295 - restN s.toNat most) : Nat) : Int)
def tookW (w s : Int) : Int := (((w.toNat ||| s.toNat) + 4294967296) % 18446744073709551616 : Nat)
def gaveW (w s : Int) : Int := ((anot w.toNat s.toNat + 4294967296) % 18446744073709551616 : Nat)
/-- the first of a Back's words is over -/
def Ps.close (s : Ps) : Ps := { s with gi := s.gi.drop 1, nx := if s.gi.length ≤ 1 then 0 else 4 }
def stpP (n : Nat) (l : List Int) (s : Ps) : List Int × Ps :=
  match s.nx with
  | 1 =>
    let w := l.getD s.wd 0
    let s1 := { s with rd := s.rd.set s.wd w }
    if freeF w ≠ 0 then (l, { s1 with nx := 2 }) else if s.ah = 1 then (l, { s1 with no := true, nx := 0 }) else (l, { s1 with ah := s.ah - 1, wd := (s.wd + 1) % n })
  | 2 =>
    let w := s.rd.getD s.wd 0
    if l.getD s.wd 0 = w then (l.set s.wd (tookW w (lowF (freeF w) s.mo)), { s with tk := lowF (freeF w) s.mo, nx := 0 }) else (l, { s with nx := 1 })
  | 3 => if l.getD s.wd 0 ≠ s.rd.getD s.wd 0 then (l, { s with nx := 0 }) else if s.ah = 1 then (l, { s with sm := true, nx := 0 }) else (l, { s with ah := s.ah - 1, wd := s.wd + 1 })
  | 4 =>
    let g := s.gi.getD 0 (0, 0)
    let w := l.getD g.1 0
    let s1 := { s with rd := s.rd.set g.1 w }
    if (w % 4294967296).toNat &&& g.2.toNat = 0 then (l, s1.close) else (l, { s1 with nx := 5 })
  | 5 =>
    let g := s.gi.getD 0 (0, 0)
    let w := s.rd.getD g.1 0
    if l.getD g.1 0 = w then (l.set g.1 (gaveW w g.2), s.close) else (l, { s with nx := 4 })
  | _ => (l, s)
/-- how many words are others -/
def diffs : List Int → List Int → Nat
  | x :: l, y :: m => (if x ≠ y then 1 else 0) + diffs l m
  | _, _ => 0
theorem diffs_at : ∀ (l m : List Int) (i : Nat), l.length = m.length → l.getD i 0 ≠ m.getD i 0 → 1 ≤ diffs l m
  | [], m, i, h, hd => by
    have : m = [] := List.length_eq_zero_iff.1 h.symm
    subst this; exact absurd rfl hd
  | x :: l, [], i, h, hd => by simp at h
  | x :: l, y :: m, 0, h, hd => by
    have : x ≠ y := by simpa [List.getD] using hd
    simp [diffs, this]
  | x :: l, y :: m, i + 1, h, hd => by
    have h1 := diffs_at l m i (by simpa using h) (by simpa [List.getD] using hd)
    simp [diffs]
    omega
/-- how far a Take may be: t steps, c changes by others -/
def TkI (n : Nat) (l : List Int) (s : Ps) (t c : Nat) : Prop :=
  1 ≤ s.ah ∧ s.ah ≤ n ∧ s.wd < n ∧ ∃ f, (s.nx = 1 ∧ t = n - s.ah + 2 * f ∧ f ≤ c) ∨ (s.nx = 2 ∧ t = n - s.ah + 1 + 2 * f ∧ f ≤ c ∧ (l.getD s.wd 0 ≠ s.rd.getD s.wd 0 → f + 1 ≤ c))
theorem TkI.other {n : Nat} {l l' : List Int} {s : Ps} {t c : Nat} (h : TkI n l s t c) (hl : l.length = l'.length) : TkI n l' s t (c + diffs l l') := by
  obtain ⟨h1, h2, h3, f, h⟩ := h
  refine ⟨h1, h2, h3, f, ?_⟩
  rcases h with ⟨a, b, d⟩ | ⟨a, b, d, e⟩
  · exact .inl ⟨a, b, by omega⟩
  · refine .inr ⟨a, b, by omega, fun hne => ?_⟩
    by_cases q : l.getD s.wd 0 = s.rd.getD s.wd 0
    · have := diffs_at l l' s.wd hl (by rw [q]; exact fun h => hne h.symm)
      omega
    · have := e q; omega
theorem TkI.bound {n : Nat} {l : List Int} {s : Ps} {t c : Nat} (h : TkI n l s t c) : t ≤ n + 1 + 2 * c := by
  obtain ⟨h1, h2, h3, f, h⟩ := h
  rcases h with ⟨a, b, d⟩ | ⟨a, b, d, e⟩ <;> omega
theorem TkI.step {n : Nat} {l : List Int} {s : Ps} {t c : Nat} (h : TkI n l s t c) (hr : s.rd.length = 32) (hn : n ≤ 32) : t + 1 ≤ n + 1 + 2 * c ∧ ((stpP n l s).2.nx = 0 ∨ TkI n (stpP n l s).1 (stpP n l s).2 (t + 1) c) := by
  obtain ⟨h1, h2, h3, f, h⟩ := h
  have hn0 : 0 < n := by omega
  rcases h with ⟨a, b, d⟩ | ⟨a, b, d, e⟩
  · refine ⟨by omega, ?_⟩
    unfold stpP
    rw [a]
    simp only
    by_cases q : freeF (l.getD s.wd 0) ≠ 0
    · rw [if_pos q]
      refine .inr ⟨h1, h2, h3, f, .inr ⟨rfl, by show t + 1 = n - s.ah + 1 + 2 * f; omega, d, fun hne => absurd ?_ hne⟩⟩
      show l.getD s.wd 0 = (s.rd.set s.wd (l.getD s.wd 0)).getD s.wd 0
      simp [List.getD, show s.wd < s.rd.length by omega]
    · rw [if_neg q]
      by_cases q1 : s.ah = 1
      · rw [if_pos q1]; exact .inl rfl
      · rw [if_neg q1]
        refine .inr ⟨by show 1 ≤ s.ah - 1; omega, by show s.ah - 1 ≤ n; omega, Nat.mod_lt _ hn0, f, .inl ⟨rfl, by show t + 1 = n - (s.ah - 1) + 2 * f; omega, d⟩⟩
  · refine ⟨by omega, ?_⟩
    unfold stpP
    rw [a]
    simp only
    by_cases q : l.getD s.wd 0 = s.rd.getD s.wd 0
    · rw [if_pos q]; exact .inl rfl
    · rw [if_neg q]
      have := e q
      exact .inr ⟨h1, h2, h3, f + 1, .inl ⟨rfl, by show t + 1 = n - s.ah + 2 * (f + 1); omega, by omega⟩⟩
/-- how far a Back of one word may be -/
def BkI (n : Nat) (l : List Int) (s : Ps) (t c : Nat) : Prop :=
  ∃ g, s.gi = [g] ∧ g.1 < n ∧ ∃ f, (s.nx = 4 ∧ t = 2 * f ∧ f ≤ c) ∨ (s.nx = 5 ∧ t = 1 + 2 * f ∧ f ≤ c ∧ (l.getD g.1 0 ≠ s.rd.getD g.1 0 → f + 1 ≤ c))
theorem BkI.other {n : Nat} {l l' : List Int} {s : Ps} {t c : Nat} (h : BkI n l s t c) (hl : l.length = l'.length) : BkI n l' s t (c + diffs l l') := by
  obtain ⟨g, h1, h2, f, h⟩ := h
  refine ⟨g, h1, h2, f, ?_⟩
  rcases h with ⟨a, b, d⟩ | ⟨a, b, d, e⟩
  · exact .inl ⟨a, b, by omega⟩
  · refine .inr ⟨a, b, by omega, fun hne => ?_⟩
    by_cases q : l.getD g.1 0 = s.rd.getD g.1 0
    · have := diffs_at l l' g.1 hl (by rw [q]; exact fun h => hne h.symm)
      omega
    · have := e q; omega
theorem BkI.step {n : Nat} {l : List Int} {s : Ps} {t c : Nat} (h : BkI n l s t c) (hr : s.rd.length = 32) (hn : n ≤ 32) : t + 1 ≤ 2 + 2 * c ∧ ((stpP n l s).2.nx = 0 ∨ BkI n (stpP n l s).1 (stpP n l s).2 (t + 1) c) := by
  obtain ⟨g, h1, h2, f, h⟩ := h
  rcases h with ⟨a, b, d⟩ | ⟨a, b, d, e⟩
  · refine ⟨by omega, ?_⟩
    unfold stpP
    rw [a]
    simp only
    have hg : s.gi.getD 0 (0, 0) = g := by rw [h1]; rfl
    rw [hg]
    split
    · left
      unfold Ps.close
      simp [h1]
    · refine .inr ⟨g, h1, h2, f, .inr ⟨rfl, by show t + 1 = 1 + 2 * f; omega, d, fun hne => absurd ?_ hne⟩⟩
      show l.getD g.1 0 = (s.rd.set g.1 (l.getD g.1 0)).getD g.1 0
      simp [List.getD, show g.1 < s.rd.length by omega]
  · refine ⟨by omega, ?_⟩
    unfold stpP
    rw [a]
    simp only
    have hg : s.gi.getD 0 (0, 0) = g := by rw [h1]; rfl
    rw [hg]
    by_cases q : l.getD g.1 0 = s.rd.getD g.1 0
    · rw [if_pos q]
      left
      unfold Ps.close
      simp [h1]
    · rw [if_neg q]
      have := e q
      exact .inr ⟨g, h1, h2, f + 1, .inl ⟨rfl, by show t + 1 = 2 * (f + 1); omega, by omega⟩⟩
end Go.Proofs.Ytmbceafeonjffaa
