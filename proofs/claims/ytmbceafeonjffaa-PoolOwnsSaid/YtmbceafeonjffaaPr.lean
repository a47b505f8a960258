/-
  PoolNone: what holds, as plain lists. Conditions stand in each theorem.
-/
import Derived.Test.YtmbceafeonjffaaPq
import Derived.Test.YtmbceafeonjffaaPoN
namespace Go.Proofs.Ytmbceafeonjffaa
open Go.RowKit Plain
set_option linter.unusedVariables false
set_option linter.unusedSimpArgs false
/-- the i-th word behind the one that is looked at -/
def bk (n wd i : Nat) : Nat := (wd + n - i) % n
def TkV (n : Nat) (l : List Int) (t : Ps) (calm : Bool) : Prop :=
  (∀ i, 1 ≤ i → i ≤ n - t.ah → VisP l t.rd (bk n t.wd i)) ∧ (calm = true → (∀ i, 1 ≤ i → i ≤ n - t.ah → l.getD (bk n t.wd i) 0 = t.rd.getD (bk n t.wd i) 0) ∧ (t.nx = 2 → l.getD t.wd 0 = t.rd.getD t.wd 0))
def PnP (n : Nat) (l : List Int) (t : Ps) (s : Option Ps) (full calm over on : Bool) : Prop :=
  (over = false ∧ s = none ∧ on = false ∧ t.no = false ∧ (t.nx = 1 ∨ t.nx = 2) ∧ TkV n l t calm) ∨
  (over = true ∧ t.no = true ∧ (∀ j, j < n → VisP l t.rd j) ∧ (calm = true → ∀ j, j < n → l.getD j 0 = t.rd.getD j 0) ∧
    ((s = none ∧ on = false ∧ (full = false → OddP n l t.rd)) ∨ (∃ u, s = some u ∧ u.rd = t.rd ∧ u.nx = 3 ∧ u.sm = false ∧ (on = false → u.wd = 0) ∧ (full = false → ∃ j, u.wd ≤ j ∧ j < n ∧ hiF (t.rd.getD j 0) < hiF (l.getD j 0)))))
theorem bk_lt {n wd i : Nat} (h : 0 < n) : bk n wd i < n := Nat.mod_lt _ h
theorem bk_next {n wd i : Nat} (h : wd < n) (h1 : 1 ≤ i) (h2 : i < n) : bk n ((wd + 1) % n) (i + 1) = bk n wd i := by
  unfold bk
  by_cases e : wd + 1 = n
  · have e1 : (wd + 1) % n = 0 := by rw [e, Nat.mod_self]
    rw [e1]
    have e2 : wd + n - i = n + (n - (i + 1)) := by omega
    rw [e2, Nat.add_mod_left]
    congr 1
    omega
  · rw [Nat.mod_eq_of_lt (show wd + 1 < n by omega)]
    congr 1
    omega
theorem bk_one {n wd : Nat} (h : wd < n) : bk n ((wd + 1) % n) 1 = wd := by
  unfold bk
  by_cases e : wd + 1 = n
  · have e1 : (wd + 1) % n = 0 := by rw [e, Nat.mod_self]
    rw [e1, Nat.zero_add, Nat.mod_eq_of_lt (by omega)]
    omega
  · rw [Nat.mod_eq_of_lt (show wd + 1 < n by omega), show wd + 1 + n - 1 = n + wd by omega, Nat.add_mod_left, Nat.mod_eq_of_lt h]
theorem bk_ne {n wd i : Nat} (h : wd < n) (h1 : 1 ≤ i) (h2 : i < n) : bk n wd i ≠ wd := by
  unfold bk
  by_cases e : i ≤ wd
  · rw [show wd + n - i = n + (wd - i) by omega, Nat.add_mod_left, Nat.mod_eq_of_lt (by omega)]
    omega
  · rw [Nat.mod_eq_of_lt (by omega)]
    omega
/-- each word is the one that is looked at, or one behind it -/
theorem bk_all {n wd j : Nat} (h : wd < n) (hj : j < n) : j = wd ∨ ∃ i, 1 ≤ i ∧ i < n ∧ bk n wd i = j := by
  by_cases e : j = wd
  · exact .inl e
  · right
    by_cases e1 : j < wd
    · exact ⟨wd - j, by omega, by omega, by unfold bk; rw [show wd + n - (wd - j) = n + j by omega, Nat.add_mod_left, Nat.mod_eq_of_lt hj]⟩
    · exact ⟨wd + n - j, by omega, by omega, by unfold bk; rw [show wd + n - (wd + n - j) = j by omega, Nat.mod_eq_of_lt hj]⟩
theorem set_ne (l : List Int) (i j : Nat) (x : Int) (h : j ≠ i) : (l.set i x).getD j 0 = l.getD j 0 := by simp [List.getD, List.getElem?_set_ne (fun q => h q.symm)]
theorem set_eq (l : List Int) (i : Nat) (x : Int) (h : i < l.length) : (l.set i x).getD i 0 = x := by simp [List.getD, h]
theorem VisP.set {l rd : List Int} {i j : Nat} {x : Int} (h : VisP l rd j) (hne : j ≠ i) : VisP l (rd.set i x) j := by
  unfold VisP at *
  rw [set_ne _ _ _ _ hne]
  exact h
theorem VisP.here {l rd : List Int} {j : Nat} (h : j < rd.length) (hf : freeF (l.getD j 0) = 0) : VisP l (rd.set j (l.getD j 0)) j := by
  unfold VisP
  rw [set_eq _ _ _ h]
  exact ⟨hf, Int.le_refl _, fun _ => rfl⟩
theorem PnP.start (n : Nat) (l : List Int) (wd mo : Nat) (full : Bool) : PnP n l ⟨1, wd, n, mo, List.replicate 32 0, 0, false, false, []⟩ none full true false false :=
  .inl ⟨rfl, rfl, rfl, rfl, .inl rfl, fun i h1 h2 => by simp only at h2; omega, fun _ => ⟨fun i h1 h2 => by simp only at h2; omega, fun h => by simp at h⟩⟩
theorem PnP.other {n : Nat} {l l' : List Int} {t : Ps} {s : Option Ps} {full calm over on : Bool} (h : PnP n l t s full calm over on) (hc : ChP n l l') (hn : 0 < n) (af : Bool) (ha : af = false → ¬ ∀ j, j < n → fulF (l'.getD j 0)) : PnP n l' t s (full && (!over || on || af)) false over on := by
  rcases h with ⟨h1, h2, h3, h4, h5, h6⟩ | ⟨h1, h2, h3, h4, h5⟩
  · exact .inl ⟨h1, h2, h3, h4, h5, fun i q1 q2 => (h6.1 i q1 q2).ch hc (bk_lt hn), fun q => by cases q⟩
  · refine .inr ⟨h1, h2, fun j hj => (h3 j hj).ch hc hj, (fun q => (by cases q)), ?_⟩
    rcases h5 with ⟨k1, k2, k3⟩ | ⟨u, k1, k2, k3, k4, k5, k6⟩
    · refine .inl ⟨k1, k2, fun hf => ?_⟩
      subst h1 k2
      cases full
      · exact (k3 rfl).ch hc
      · exact odd_of (fun j hj => (h3 j hj).ch hc hj) (ha (by simpa using hf))
    · refine .inr ⟨u, k1, k2, k3, k4, k5, fun hf => ?_⟩
      have old : full = false → ∃ j, u.wd ≤ j ∧ j < n ∧ hiF (t.rd.getD j 0) < hiF (l'.getD j 0) := fun q => by
        obtain ⟨j, j1, j2, j3⟩ := k6 q
        rcases hc.2 j j2 with e | ⟨e, _, _⟩
        · exact ⟨j, j1, j2, by rw [e]; exact j3⟩
        · exact ⟨j, j1, j2, by omega⟩
      subst h1
      cases full
      · exact old rfl
      · cases on
        · obtain ⟨j, j1, j2⟩ := odd_of (fun j hj => (h3 j hj).ch hc hj) (ha (by simpa using hf))
          exact ⟨j, by rw [k5 rfl]; omega, j1, j2⟩
        · simp at hf
/-- a step of the Take -/
theorem PnP.take {n : Nat} {l : List Int} {t : Ps} {full calm on : Bool} {s : Option Ps} (h : PnP n l t s full calm false on) (hw : t.wd < n) (hr : t.rd.length = 32) (hn : n ≤ 32) (ha : 1 ≤ t.ah ∧ t.ah ≤ n) :
    ((stpP n l t).2.nx ≠ 0 → (stpP n l t).1 = l ∧ PnP n l (stpP n l t).2 none full calm false false) ∧
    ((stpP n l t).2.nx = 0 → (stpP n l t).2.no = true → (stpP n l t).1 = l ∧ ∀ f : Bool, (f = false → ¬ ∀ j, j < n → fulF (l.getD j 0)) → PnP n l (stpP n l t).2 none f calm true false) := by
  rcases h with ⟨_, _, _, h4, h5, h6, h7⟩ | ⟨h1, _⟩
  · rcases h5 with e | e
    · have hin : ∀ i, 1 ≤ i → i ≤ n - t.ah → VisP l (t.rd.set t.wd (l.getD t.wd 0)) (bk n t.wd i) := fun i q1 q2 => (h6 i q1 q2).set (bk_ne hw q1 (by omega))
      have hil : calm = true → ∀ i, 1 ≤ i → i ≤ n - t.ah → l.getD (bk n t.wd i) 0 = (t.rd.set t.wd (l.getD t.wd 0)).getD (bk n t.wd i) 0 := fun hc i q1 q2 => by
        rw [set_ne _ _ _ _ (bk_ne hw q1 (by omega))]
        exact (h7 hc).1 i q1 q2
      have hwd : (t.rd.set t.wd (l.getD t.wd 0)).getD t.wd 0 = l.getD t.wd 0 := set_eq _ _ _ (by omega)
      unfold stpP
      rw [e]
      simp only
      by_cases q : freeF (l.getD t.wd 0) ≠ 0
      · rw [if_pos q]
        refine ⟨fun _ => ⟨rfl, .inl ⟨rfl, rfl, rfl, h4, .inr rfl, hin, fun hc => ⟨hil hc, fun _ => hwd.symm⟩⟩⟩, fun q1 => by simp at q1⟩
      · rw [if_neg q]
        have q0 : freeF (l.getD t.wd 0) = 0 := Classical.byContradiction q
        have hv : VisP l (t.rd.set t.wd (l.getD t.wd 0)) t.wd := VisP.here (by omega) q0
        by_cases q1 : t.ah = 1
        · rw [if_pos q1]
          have hall : ∀ j, j < n → VisP l (t.rd.set t.wd (l.getD t.wd 0)) j := fun j hj => by
            rcases bk_all hw hj with e1 | ⟨i, i1, i2, e1⟩
            · rw [e1]; exact hv
            · rw [← e1]; exact hin i i1 (by omega)
          refine ⟨fun q2 => by simp at q2, fun _ _ => ⟨rfl, fun f hf => .inr ⟨rfl, rfl, hall, fun hc j hj => ?_, .inl ⟨rfl, rfl, fun q3 => odd_of hall (hf q3)⟩⟩⟩⟩
          rcases bk_all hw hj with e1 | ⟨i, i1, i2, e1⟩
          · rw [e1]; exact hwd.symm
          · rw [← e1]; exact hil hc i i1 (by omega)
        · rw [if_neg q1]
          refine ⟨fun _ => ⟨rfl, .inl ⟨rfl, rfl, rfl, h4, .inl rfl, fun i i1 i2 => ?_, fun hc => ⟨fun i i1 i2 => ?_, fun q3 => by simp at q3⟩⟩⟩, fun q2 => by simp at q2⟩
          · simp only at i2 ⊢
            by_cases e1 : i = 1
            · subst e1; rw [bk_one hw]; exact hv
            · obtain ⟨i', rfl⟩ : ∃ i', i = i' + 1 := ⟨i - 1, by omega⟩
              rw [bk_next hw (by omega) (by omega)]
              exact hin i' (by omega) (by omega)
          · simp only at i2 ⊢
            by_cases e1 : i = 1
            · subst e1; rw [bk_one hw]; exact hwd.symm
            · obtain ⟨i', rfl⟩ : ∃ i', i = i' + 1 := ⟨i - 1, by omega⟩
              rw [bk_next hw (by omega) (by omega)]
              exact hil hc i' (by omega) (by omega)
    · unfold stpP
      rw [e]
      simp only
      by_cases q : l.getD t.wd 0 = t.rd.getD t.wd 0
      · rw [if_pos q]
        exact ⟨fun q1 => by simp at q1, fun _ q1 => by simp only at q1; rw [h4] at q1; cases q1⟩
      · rw [if_neg q]
        refine ⟨fun _ => ⟨rfl, .inl ⟨rfl, rfl, rfl, h4, .inl rfl, h6, fun hc => ⟨(h7 hc).1, fun q1 => by simp at q1⟩⟩⟩, fun q1 => by simp at q1⟩
  · cases h1
theorem PnP.same {n : Nat} {l : List Int} {t : Ps} {full calm on : Bool} (h : PnP n l t none full calm true on) : t.no = true ∧ PnP n l t (some (sameP n t)) full calm true false := by
  rcases h with ⟨h1, _⟩ | ⟨h1, h2, h3, h4, h5⟩
  · cases h1
  · refine ⟨h2, .inr ⟨h1, h2, h3, h4, ?_⟩⟩
    rcases h5 with ⟨k1, k2, k3⟩ | ⟨u, k1, _⟩
    · exact .inr ⟨_, rfl, rfl, rfl, rfl, fun _ => rfl, fun hf => by
        obtain ⟨j, j1, j2⟩ := k3 hf
        exact ⟨j, Nat.zero_le _, j1, j2⟩⟩
    · cases k1
/-- a step of the Same -/
theorem PnP.compare {n : Nat} {l : List Int} {t u : Ps} {full calm over on : Bool} (h : PnP n l t (some u) full calm over on) (hs : u.nx = 3 → u.wd + u.ah = n ∧ 1 ≤ u.ah) :
    over = true ∧ (stpP n l u).1 = l ∧ ((stpP n l u).2.nx ≠ 0 → PnP n l t (some (stpP n l u).2) full calm true true) ∧
    ((stpP n l u).2.nx = 0 → ((stpP n l u).2.sm = true → full = true) ∧ ((stpP n l u).2.sm = false → calm = false)) := by
  rcases h with ⟨_, h2, _⟩ | ⟨h1, h2, h3, h4, h5⟩
  · cases h2
  · rcases h5 with ⟨k1, _⟩ | ⟨u', k1, k2, k3, k4, k5, k6⟩
    · cases k1
    · cases k1
      obtain ⟨s1, s2⟩ := hs k3
      refine ⟨h1, ?_⟩
      unfold stpP
      rw [k3]
      simp only
      by_cases q : l.getD u.wd 0 ≠ u.rd.getD u.wd 0
      · rw [if_pos q]
        refine ⟨rfl, fun q1 => by simp at q1, fun _ => ⟨(fun q1 => (by simp only at q1; rw [k4] at q1; cases q1)), fun _ => ?_⟩⟩
        cases calm
        · rfl
        · exact absurd (by rw [k2]; exact h4 rfl u.wd (by omega)) q
      · rw [if_neg q]
        have q0 : l.getD u.wd 0 = t.rd.getD u.wd 0 := by rw [← k2]; exact Classical.byContradiction q
        have hj : full = false → ∃ j, u.wd + 1 ≤ j ∧ j < n ∧ hiF (t.rd.getD j 0) < hiF (l.getD j 0) := fun hf => by
          obtain ⟨j, j1, j2, j3⟩ := k6 hf
          refine ⟨j, ?_, j2, j3⟩
          have : j ≠ u.wd := fun e => by rw [e, q0] at j3; omega
          omega
        by_cases q1 : u.ah = 1
        · rw [if_pos q1]
          refine ⟨rfl, fun q2 => by simp at q2, fun _ => ⟨fun _ => ?_, fun q2 => by simp at q2⟩⟩
          cases full
          · obtain ⟨j, j1, j2, _⟩ := hj rfl
            omega
          · rfl
        · rw [if_neg q1]
          exact ⟨rfl, fun _ => .inr ⟨rfl, h2, h3, h4, .inr ⟨_, rfl, k2, rfl, k4, (fun q2 => (by cases q2)), hj⟩⟩, fun q2 => by simp at q2⟩
end Go.Proofs.Ytmbceafeonjffaa
