/-
  While one is pinned the world goes on by one at most: what each step keeps (as Thm, without the document's epochs). Conditions stand in each theorem.
-/
import Derived.Test.YtoeencklcemofaaEpL
namespace Go.Proofs.Ytoeencklcemofaa
open Go.RowKit Go.Deep Plain
set_option linter.unusedVariables false
set_option maxRecDepth 100000

theorem upE_upE {α : Type} (f : Nat → α) (i : Nat) (x y : α) : upE (upE f i x) i y = upE f i y := by
  funext j
  unfold upE
  split <;> rfl
theorem upE_id {α : Type} (f : Nat → α) (i : Nat) : upE f i (f i) = f := by
  funext j
  unfold upE
  split
  · rename_i e; rw [e]
  · rfl
theorem gets (l : List Int) (i j : Nat) (v : Int) (hi : i < l.length) : (l.set i v).getD j 0 = if j = i then v else l.getD j 0 := by
  by_cases e : j = i
  · subst e; simp [List.getD, hi]
  · rw [if_neg e]; simp [List.getD, Ne.symm e]
theorem m64_small {x : Int} (h0 : 0 ≤ x) (h1 : x ≤ 100001) : m64 x = x := by unfold m64; omega

/-- the Steps that go on -/
def PlOk (n : Nat) (l : List Int) (now : Int) (A : Nat → Option Sv) : Prop :=
  ∀ k s, k < n → A k = some s → (s.nx = 1 ∨ s.nx = 2 ∨ s.nx = 3 ∨ s.nx = 4 ∨ s.nx = 5 ∨ s.nx = 6) ∧ (s.nx = 2 ∨ s.nx = 3 ∨ s.nx = 5 ∨ s.nx = 6 → 0 ≤ s.ep ∧ s.ep ≤ now) ∧ (s.nx = 1 ∨ s.nx = 2 ∨ s.nx = 3 → s.ce = k + 1) ∧ (s.nx = 4 → s.ce = 1) ∧ (s.nx = 5 → 1 ≤ s.ce ∧ s.ce ≤ n) ∧ (s.nx = 3 → l.getD (k + 1) 0 = s.ep + 1)
/-- p is pinned at a -/
def PinAt (n : Nat) (l : List Int) (now : Int) (A : Nat → Option Sv) (p : Nat) (a : Int) : Prop :=
  l.getD (p + 1) 0 = a + 1 ∧ 0 ≤ a ∧ a ≤ now ∧ now ≤ a + 1 ∧ (∀ k s, k < n → A k = some s → (s.nx = 5 → s.ep = a + 1 → s.ce ≤ p + 1) ∧ (s.nx = 6 → s.ep ≠ a + 1)) ∧ (∀ s, A p = some s → 4 ≤ s.nx)
/-- where a Step is behind one of its own -/
def aft (s : Sv) : Option Sv := if s.nx = 0 then none else some s

theorem thm_now {n : Nat} {l : List Int} {now : Int} {A : Nat → Option Sv} {k : Nat} {s : Sv} (hl : l.length = n + 1) (h0 : l.getD 0 0 = now) (hn : 0 ≤ now ∧ now ≤ 100000) (hk : k < n) (hP : PlOk n l now A) (hs : A k = some s) :
    (stp n l s).1.length = n + 1 ∧ (∃ x : Int, (stp n l s).1.getD 0 0 = x ∧ (x = now ∨ (x = now + 1 ∧ s.nx = 6 ∧ s.ep = now))) ∧ ∀ p, p < n → p ≠ k → (stp n l s).1.getD (p + 1) 0 = l.getD (p + 1) 0 := by
  obtain ⟨h1, h2, h3, h4, h5, h6⟩ := hP k s hk hs
  obtain ⟨nx, ep, ce, won⟩ := s
  simp only at h1 h2 h3 h4 h5 h6
  refine ⟨by rw [stp_len]; exact hl, ?_, fun p hp hne => ?_⟩
  · rcases h1 with rfl | rfl | rfl | rfl | rfl | rfl
    · exact ⟨now, h0, .inl rfl⟩
    · have := h3 (by omega)
      subst this
      refine ⟨now, ?_, .inl rfl⟩
      show (l.set (k + 1) _).getD 0 0 = now
      rw [gets _ _ _ _ (by omega), if_neg (by omega)]; exact h0
    · refine ⟨now, ?_, .inl rfl⟩
      unfold stp; simp only [stepF]; split <;> exact h0
    · exact ⟨now, h0, .inl rfl⟩
    · refine ⟨now, ?_, .inl rfl⟩
      unfold stp; simp only [stepF]; split
      · exact h0
      · split <;> exact h0
    · by_cases e : l.getD 0 0 = ep
      · have hm := m64_small (show 0 ≤ ep + 1 by omega) (by omega)
        refine ⟨now + 1, ?_, .inr ⟨rfl, rfl, show ep = now by omega⟩⟩
        unfold stp; simp only [stepF]
        rw [if_pos e]
        show (l.set 0 (m64 (ep + 1))).getD 0 0 = now + 1
        rw [gets _ _ _ _ (by omega), if_pos rfl, hm]; omega
      · refine ⟨now, ?_, .inl rfl⟩
        unfold stp; simp only [stepF]; rw [if_neg e]; exact h0
  · rcases h1 with rfl | rfl | rfl | rfl | rfl | rfl
    · rfl
    · have := h3 (by omega)
      subst this
      show (l.set (k + 1) _).getD (p + 1) 0 = _
      rw [gets _ _ _ _ (by omega), if_neg (by omega)]
    · unfold stp; simp only [stepF]; split <;> rfl
    · rfl
    · unfold stp; simp only [stepF]; split
      · rfl
      · split <;> rfl
    · unfold stp; simp only [stepF]; split
      · show (l.set 0 _).getD (p + 1) 0 = _
        rw [gets _ _ _ _ (by omega), if_neg (by omega)]
      · rfl
theorem thm_self {n : Nat} {l : List Int} {now : Int} {A : Nat → Option Sv} {k : Nat} {s : Sv} (hk : k < n) (hs : A k = some s) (h4 : 4 ≤ s.nx) (h6 : s.nx ≤ 6) (hl : l.length = n + 1) : (stp n l s).1.getD (k + 1) 0 = l.getD (k + 1) 0 := by
  obtain ⟨nx, ep, ce, won⟩ := s
  simp only at h4 h6
  rcases (show nx = 4 ∨ nx = 5 ∨ nx = 6 by omega) with rfl | rfl | rfl
  · rfl
  · unfold stp; simp only [stepF]; split
    · rfl
    · split <;> rfl
  · unfold stp; simp only [stepF]; split
    · show (l.set 0 _).getD (k + 1) 0 = _
      rw [gets _ _ _ _ (by omega), if_neg (by omega)]
    · rfl
theorem aft_some {s s' : Sv} (h : aft s = some s') : s' = s ∧ s.nx ≠ 0 := by
  unfold aft at h
  split at h
  · cases h
  · rename_i e; injection h with h; exact ⟨h.symm, e⟩
/-- one step: the Steps stay in order -/
theorem plOk_step {n : Nat} {l : List Int} {now now' : Int} {A : Nat → Option Sv} {k : Nat} {s : Sv} (hl : l.length = n + 1) (h0 : l.getD 0 0 = now) (hn : 0 ≤ now ∧ now ≤ 100000) (hk : k < n) (hP : PlOk n l now A) (hs : A k = some s) (h' : (stp n l s).1.getD 0 0 = now') :
    PlOk n (stp n l s).1 now' (upE A k (aft (stp n l s).2)) := by
  obtain ⟨_, ⟨x, hx, hx2⟩, hc⟩ := thm_now hl h0 hn hk hP hs
  rw [h'] at hx
  subst hx
  have hge : now ≤ now' := by omega
  intro j t hj ht
  by_cases e : j = k
  · subst e
    rw [upE_same] at ht
    obtain ⟨rfl, hz⟩ := aft_some ht
    obtain ⟨h1, h2, h3, h4, h5, h6⟩ := hP j s hj hs
    clear ht hs hP hc
    obtain ⟨nx, ep, ce, won⟩ := s
    simp only at h1 h2 h3 h4 h5 h6
    rcases h1 with rfl | rfl | rfl | rfl | rfl | rfl
    · exact ⟨.inr (.inl rfl), fun _ => ⟨by show 0 ≤ l.getD 0 0; omega, by show l.getD 0 0 ≤ now'; omega⟩, fun _ => h3 (by omega), fun h => (by cases h), fun h => (by cases h), fun h => (by cases h)⟩
    · have c := h3 (by omega)
      subst c
      have hm := m64_small (show 0 ≤ ep + 1 by omega) (by omega)
      refine ⟨.inr (.inr (.inl rfl)), fun _ => ⟨(h2 (by omega)).1, by show ep ≤ now'; have := (h2 (by omega)).2; omega⟩, fun _ => rfl, fun h => (by cases h), fun h => (by cases h), fun _ => ?_⟩
      show (l.set (j + 1) (m64 (ep + 1))).getD (j + 1) 0 = ep + 1
      rw [gets _ _ _ _ (by omega), if_pos rfl, hm]
    · unfold stp at hz ⊢
      simp only [stepF] at hz ⊢
      split at hz
      · exact absurd rfl hz
      · rename_i e3
        rw [if_neg e3]
        exact ⟨.inl rfl, fun h => (by simp at h), fun _ => h3 (by omega), fun h => (by cases h), fun h => (by cases h), fun h => (by cases h)⟩
    · have c := h4 rfl
      subst c
      exact ⟨.inr (.inr (.inr (.inr (.inl rfl)))), fun _ => ⟨by show 0 ≤ l.getD 0 0; omega, by show l.getD 0 0 ≤ now'; omega⟩, fun h => (by simp [stp, stepF] at h), fun h => (by cases h), fun _ => ⟨Nat.le_refl 1, by show 1 ≤ n; omega⟩, fun h => (by cases h)⟩
    · have hq := h2 (by omega)
      have hce := h5 rfl
      unfold stp at hz ⊢
      simp only [stepF] at hz ⊢
      split at hz
      · exact absurd rfl hz
      · rename_i e3
        rw [if_neg e3]
        split
        · exact ⟨.inr (.inr (.inr (.inr (.inr rfl)))), fun _ => ⟨hq.1, by show ep ≤ now'; omega⟩, fun h => (by simp at h), fun h => (by cases h), fun h => (by cases h), fun h => (by cases h)⟩
        · rename_i e4
          exact ⟨.inr (.inr (.inr (.inr (.inl rfl)))), fun _ => ⟨hq.1, by show ep ≤ now'; omega⟩, fun h => (by simp at h), fun h => (by cases h), fun _ => ⟨by show 1 ≤ ce + 1; omega, by show ce + 1 ≤ n; omega⟩, fun h => (by cases h)⟩
    · exfalso
      apply hz
      unfold stp; simp only [stepF]; split <;> rfl
  · rw [upE_ne _ _ e] at ht
    obtain ⟨h1, h2, h3, h4, h5, h6⟩ := hP j t hj ht
    refine ⟨h1, fun h => ⟨(h2 h).1, by have := (h2 h).2; omega⟩, h3, h4, h5, fun h => ?_⟩
    rw [hc j hj e]; exact h6 h
/-- one step: who is pinned is so still -/
theorem pinAt_step {n : Nat} {l : List Int} {now now' : Int} {A : Nat → Option Sv} {k p : Nat} {a : Int} {s : Sv} (hl : l.length = n + 1) (h0 : l.getD 0 0 = now) (hn : 0 ≤ now ∧ now ≤ 100000) (hk : k < n) (hp : p < n) (hP : PlOk n l now A) (hs : A k = some s) (h' : (stp n l s).1.getD 0 0 = now') (hA : PinAt n l now A p a) :
    PinAt n (stp n l s).1 now' (upE A k (aft (stp n l s).2)) p a := by
  obtain ⟨_, ⟨x, hx, hx2⟩, hc⟩ := thm_now hl h0 hn hk hP hs
  rw [h'] at hx
  subst hx
  obtain ⟨p1, p2, p3, p4, p5, p6⟩ := hA
  obtain ⟨h1, h2, h3, h4, h5, h6⟩ := hP k s hk hs
  have hcell : (stp n l s).1.getD (p + 1) 0 = a + 1 := by
    by_cases e : p = k
    · subst e
      rw [thm_self (now := now) (A := A) hk hs (p6 s hs) (by omega) hl]; exact p1
    · rw [hc p hp e]; exact p1
  have h6s := (p5 k s hk hs).2
  refine ⟨hcell, p2, by omega, ?_, fun j t hj ht => ?_, fun t ht => ?_⟩
  · rcases hx2 with e | ⟨e, e2, e3⟩
    · omega
    · have := h6s e2; omega
  · by_cases e : j = k
    · subst e
      rw [upE_same] at ht
      obtain ⟨rfl, hz⟩ := aft_some ht
      have h5s := (p5 j s hj hs).1
      clear ht hc
      obtain ⟨nx, ep, ce, won⟩ := s
      simp only at h1 h2 h3 h4 h5 h6 h5s h6s
      rcases h1 with rfl | rfl | rfl | rfl | rfl | rfl
      · exact ⟨fun h => (by cases h), fun h => (by cases h)⟩
      · exact ⟨fun h => (by cases h), fun h => (by cases h)⟩
      · unfold stp; simp only [stepF]; split <;> exact ⟨fun h => (by cases h), fun h => (by cases h)⟩
      · have c := h4 rfl
        subst c
        exact ⟨fun _ _ => by show 1 ≤ p + 1; omega, fun h => (by cases h)⟩
      · have hce := h5 rfl
        have hq := h2 (by omega)
        have hm := m64_small (show 0 ≤ ep + 1 by omega) (by omega)
        unfold stp at hz ⊢
        simp only [stepF] at hz ⊢
        split at hz
        · exact absurd rfl hz
        · rename_i e3
          rw [if_neg e3]
          rw [hm] at e3
          have key : ep = a + 1 → ce ≤ p := by
            intro ee
            have := h5s rfl ee
            rcases Nat.lt_or_ge p ce with q | q
            · exfalso
              have : ce = p + 1 := by omega
              subst this
              apply e3
              rw [p1]
              omega
            · exact q
          split
          · rename_i e4
            exact ⟨fun h => (by cases h), fun _ ee => by have := key ee; omega⟩
          · exact ⟨fun _ ee => by have := key ee; show ce + 1 ≤ p + 1; omega, fun h => (by cases h)⟩
      · exfalso
        apply hz
        unfold stp; simp only [stepF]; split <;> rfl
    · rw [upE_ne _ _ e] at ht
      exact p5 j t hj ht
  · by_cases e : p = k
    · subst e
      rw [upE_same] at ht
      obtain ⟨rfl, hz⟩ := aft_some ht
      have h4s := p6 s hs
      clear ht hc
      obtain ⟨nx, ep, ce, won⟩ := s
      simp only at h1 h4s
      rcases (show nx = 4 ∨ nx = 5 ∨ nx = 6 by omega) with rfl | rfl | rfl
      · show 4 ≤ 5; omega
      · unfold stp at hz ⊢
        simp only [stepF] at hz ⊢
        split at hz
        · exact absurd rfl hz
        · rename_i e3
          rw [if_neg e3]
          split
          · show 4 ≤ 6; omega
          · show 4 ≤ 5; omega
      · exfalso
        apply hz
        unfold stp; simp only [stepF]; split <;> rfl
    · rw [upE_ne _ _ e] at ht
      exact p6 t ht
/-- who has just pinned is pinned at the world's epoch -/
theorem pinAt_new {n : Nat} {l : List Int} {now : Int} {A : Nat → Option Sv} {k : Nat} {s : Sv} (h0 : l.getD 0 0 = now) (hk : k < n) (hP : PlOk n l now A) (hs : A k = some s) (h3 : s.nx = 3) (hd : (stp n l s).2.nx = 0) :
    (stp n l s).1 = l ∧ PinAt n l now (upE A k none) k now := by
  obtain ⟨h1, h2, h3', h4, h5, h6⟩ := hP k s hk hs
  have hep := h2 (by omega)
  have hc := h6 h3
  obtain ⟨nx, ep, ce, won⟩ := s
  simp only at h3 hep hc
  subst h3
  unfold stp at hd ⊢
  simp only [stepF] at hd ⊢
  split at hd
  · rename_i e
    rw [if_pos e]
    have en : ep = now := by omega
    subst en
    refine ⟨rfl, hc, hep.1, Int.le_refl _, by omega, fun j t hj ht => ?_, fun t ht => ?_⟩
    · by_cases e2 : j = k
      · subst e2; rw [upE_same] at ht; cases ht
      · rw [upE_ne _ _ e2] at ht
        have hq := (hP j t hj ht).2.1
        exact ⟨fun a b => by have := (hq (by omega)).2; omega, fun a b => by have := (hq (by omega)).2; omega⟩
    · rw [upE_same] at ht; cases ht
  · cases hd
theorem PlOk.begin {n K : Nat} {l : List Int} {now : Int} {A : Nat → Option Sv} {s : Sv} (h : PlOk n l now A) (hs : (s.nx = 1 ∧ s.ce = K + 1) ∨ (s.nx = 4 ∧ s.ce = 1)) : PlOk n l now (upE A K (some s)) := by
  intro k t hk ht
  by_cases e : k = K
  · subst e
    rw [upE_same] at ht
    injection ht with ht
    subst ht
    omega
  · rw [upE_ne _ _ e] at ht; exact h k t hk ht
theorem PinAt.begin {n K p : Nat} {l : List Int} {now a : Int} {A : Nat → Option Sv} {s : Sv} (h : PinAt n l now A p a) (hs : s.nx = 4 ∨ (s.nx = 1 ∧ p ≠ K)) : PinAt n l now (upE A K (some s)) p a := by
  obtain ⟨p1, p2, p3, p4, p5, p6⟩ := h
  refine ⟨p1, p2, p3, p4, fun k t hk ht => ?_, fun t ht => ?_⟩
  · by_cases e : k = K
    · subst e
      rw [upE_same] at ht
      injection ht with ht
      subst ht
      exact ⟨fun _ => by omega, fun _ => by omega⟩
    · rw [upE_ne _ _ e] at ht; exact p5 k t hk ht
  · by_cases e : p = K
    · subst e
      rw [upE_same] at ht
      injection ht with ht
      subst ht
      omega
    · rw [upE_ne _ _ e] at ht; exact p6 t ht
end Go.Proofs.Ytoeencklcemofaa
