/-
  FanlightEpochs: what holds of who is where, of what was read, given up and taken; how each call keeps it. Conditions stand in each theorem.
-/
import Derived.Test.YtoeencklcemofaaPls
import Derived.Test.YtoeencklcemofaaFrs
namespace Go.Proofs.Ytoeencklcemofaa
open Go.RowKit Go.Deep Plain
set_option linter.unusedVariables false
set_option maxRecDepth 100000

/-- which Steps go on: of who pins (1) and of who goes on (6) -/
def actA (la : Nat → Nat) (S : Nat → Sv) (k : Nat) : Option Sv := if la k = 1 ∨ la k = 6 then some (S k) else none
structure Fan (n i : Nat) (l : List Int) (now : Int) (la lr : Nat → Nat) (S : Nat → Sv) (P : Nat → Option Nat) (G : Nat → List (Int × Int)) (tk gv : List Int) (nx : Nat) : Prop where
  len : l.length = n + 1
  l0 : l.getD 0 0 = now
  nw : 0 ≤ now ∧ now ≤ i
  nx1 : 1 ≤ nx ∧ nx ≤ i + 1
  at7 : ∀ j, j < n → la j ≤ 7
  s1 : ∀ j, j < n → la j = 1 → ((S j).nx = 1 ∨ (S j).nx = 2 ∨ (S j).nx = 3) ∧ ∃ g, P j = some g
  s6 : ∀ j, j < n → la j = 6 → (4 ≤ (S j).nx ∧ (S j).nx ≤ 6) ∧ ∃ g, P j = some g
  ok : PlOk n l now (actA la S)
  pin : ∀ p, p < n → 2 ≤ la p → la p ≤ 5 → ∃ a, PinAt n l now (actA la S) p a
  rd0 : ∀ j, j < n → lr j ≠ 0 → 3 ≤ la j ∧ la j ≤ 5
  rdn : ∀ j, j < n → lr j + 1 ≤ nx
  r4 : ∀ j, j < n → la j = 4 → 1 ≤ lr j ∧ lr j + 2 ≤ nx ∧ (lr j : Int) ∉ gv
  r4d : ∀ j o, j < n → o < n → j ≠ o → la j = 4 → la o = 4 → lr j ≠ lr o
  gvr : ∀ m, m ∈ gv → ∃ x : Nat, m = (x : Int) ∧ 1 ≤ x ∧ x + 2 ≤ nx
  tkg : ∀ m, m ∈ tk → m ∈ gv
  gle : ∀ j, j < n → (G j).length ≤ i
  gin : ∀ j, j < n → ∀ x, x ∈ G j → x.1 ∈ gv ∧ x.1 ∉ tk ∧ (0 ≤ x.2 ∧ x.2 ≤ now)
  gep : ∀ j, j < n → ∀ x, x ∈ G j → ∀ o, o < n → x.1 = (lr o : Int) → l.getD (o + 1) 0 ≤ x.2 + 1
  gdi : ∀ j, j < n → ((G j).map (·.1)).Nodup
  gdj : ∀ j o, j < n → o < n → j ≠ o → ∀ x, x ∈ G j → ∀ y, y ∈ G o → x.1 ≠ y.1
  ntk : ∀ o, o < n → lr o ≠ 0 → (lr o : Int) ∉ tk
theorem actA_put {la : Nat → Nat} {S : Nat → Sv} (k : Nat) (s : Sv) (c : Nat) (hc : c = 1 ∨ c = 6) : actA (upE la k c) (upE S k s) = upE (actA la S) k (some s) := by
  funext j
  by_cases e : j = k
  · subst e; unfold actA; rw [upE_same, upE_same, upE_same, if_pos hc]
  · unfold actA; rw [upE_ne _ _ e, upE_ne _ _ e, upE_ne _ _ e]
theorem actA_on {la : Nat → Nat} {S : Nat → Sv} (k : Nat) (s : Sv) (hc : la k = 1 ∨ la k = 6) : actA la (upE S k s) = upE (actA la S) k (some s) := by
  funext j
  by_cases e : j = k
  · subst e; unfold actA; rw [upE_same, upE_same, if_pos hc]
  · unfold actA; rw [upE_ne _ _ e, upE_ne _ _ e]
theorem actA_off {la : Nat → Nat} {S : Nat → Sv} (k : Nat) (s : Sv) (c : Nat) (hc : c ≠ 1 ∧ c ≠ 6) : actA (upE la k c) (upE S k s) = upE (actA la S) k none := by
  funext j
  by_cases e : j = k
  · subst e; unfold actA; rw [upE_same, upE_same, upE_same, if_neg (by omega)]
  · unfold actA; rw [upE_ne _ _ e, upE_ne _ _ e, upE_ne _ _ e]
theorem actA_same {la : Nat → Nat} {S : Nat → Sv} (k c : Nat) (hc : c ≠ 1 ∧ c ≠ 6) (hl : la k ≠ 1 ∧ la k ≠ 6) : actA (upE la k c) S = actA la S := by
  funext j
  by_cases e : j = k
  · subst e; unfold actA; rw [upE_same, if_neg (by omega), if_neg (by omega)]
  · unfold actA; rw [upE_ne _ _ e]
theorem actA_at {la : Nat → Nat} {S : Nat → Sv} {k : Nat} (h : la k = 1 ∨ la k = 6) : actA la S k = some (S k) := if_pos h
theorem actA_no {la : Nat → Nat} {S : Nat → Sv} {k : Nat} (h : la k ≠ 1 ∧ la k ≠ 6) : actA la S k = none := if_neg (by omega)
section
variable {n i nx k : Nat} {l : List Int} {now : Int} {la lr : Nat → Nat} {S : Nat → Sv} {P : Nat → Option Nat} {G : Nat → List (Int × Int)} {tk gv : List Int}
theorem Fan.up (h : Fan n i l now la lr S P G tk gv nx) : Fan n (i + 1) l now la lr S P G tk gv nx :=
  { h with nw := ⟨h.nw.1, by have := h.nw.2; omega⟩, nx1 := ⟨h.nx1.1, by have := h.nx1.2; omega⟩, gle := fun j hj => by have := h.gle j hj; omega }
/-- a Pin begins -/
theorem Fan.pinB (h : Fan n i l now la lr S P G tk gv nx) (hk : k < n) (h0 : la k = 0) (g : Nat) : Fan n i l now (upE la k 1) lr (upE S k ⟨1, 0, k + 1, false⟩) (upE P k (some g)) G tk gv nx :=
  { h with
    at7 := fun j hj => by
      by_cases e : j = k
      · subst e; rw [upE_same]; omega
      · rw [upE_ne _ _ e]; exact h.at7 j hj
    s1 := fun j hj h1 => by
      by_cases e : j = k
      · subst e; rw [upE_same, upE_same]; exact ⟨.inl rfl, _, rfl⟩
      · rw [upE_ne _ _ e] at h1; rw [upE_ne _ _ e, upE_ne _ _ e]; exact h.s1 j hj h1
    s6 := fun j hj h1 => by
      by_cases e : j = k
      · subst e; rw [upE_same] at h1; omega
      · rw [upE_ne _ _ e] at h1; rw [upE_ne _ _ e, upE_ne _ _ e]; exact h.s6 j hj h1
    ok := by rw [actA_put _ _ _ (.inl rfl)]; exact h.ok.begin (.inl ⟨rfl, rfl⟩)
    pin := fun p hp h2 h5 => by
      by_cases e : p = k
      · subst e; rw [upE_same] at h2; omega
      · rw [upE_ne _ _ e] at h2 h5
        obtain ⟨a, ha⟩ := h.pin p hp h2 h5
        exact ⟨a, by rw [actA_put _ _ _ (.inl rfl)]; exact ha.begin (.inr ⟨rfl, e⟩)⟩
    rd0 := fun j hj h1 => by
      have h3 := h.rd0 j hj h1
      by_cases e : j = k
      · subst e; omega
      · rw [upE_ne _ _ e]; exact h3
    r4 := fun j hj h4 => by
      by_cases e : j = k
      · subst e; rw [upE_same] at h4; omega
      · rw [upE_ne _ _ e] at h4; exact h.r4 j hj h4
    r4d := fun j o hj ho hne h4 h4' => by
      by_cases e : j = k
      · subst e; rw [upE_same] at h4; omega
      · by_cases e' : o = k
        · subst e'; rw [upE_same] at h4'; omega
        · rw [upE_ne _ _ e] at h4; rw [upE_ne _ _ e'] at h4'; exact h.r4d j o hj ho hne h4 h4' }
/-- what a Step of one's own leaves as it was -/
theorem Fan.onward (h : Fan n i l now la lr S P G tk gv nx) (hk : k < n) (ha : la k = 1 ∨ la k = 6) (hi : i ≤ 500) :
    ∃ now' : Int, (stp n l (S k)).1.getD 0 0 = now' ∧ (now ≤ now' ∧ now' ≤ i + 1) ∧ (stp n l (S k)).1.length = n + 1 ∧ PlOk n (stp n l (S k)).1 now' (upE (actA la S) k (aft (stp n l (S k)).2)) ∧
    (∀ p, p < n → 2 ≤ la p → la p ≤ 5 → ∃ a, PinAt n (stp n l (S k)).1 now' (upE (actA la S) k (aft (stp n l (S k)).2)) p a) ∧
    ((S k).nx = 3 → (stp n l (S k)).2.nx = 0 → ∃ a, PinAt n (stp n l (S k)).1 now' (upE (actA la S) k (aft (stp n l (S k)).2)) k a) ∧
    ∀ j, j < n → ∀ x, x ∈ G j → ∀ o, o < n → x.1 = (lr o : Int) → (stp n l (S k)).1.getD (o + 1) 0 ≤ x.2 + 1 := by
  have hs := actA_at (S := S) ha
  have hnw := h.nw
  have hn : 0 ≤ now ∧ now ≤ 100000 := ⟨hnw.1, by have := hnw.2; omega⟩
  obtain ⟨t1, ⟨x, hx, hx2⟩, t3⟩ := thm_now h.len h.l0 hn hk h.ok hs
  have hle : now ≤ x ∧ x ≤ i + 1 := by
    have := hnw.2
    rcases hx2 with e | ⟨e, _⟩ <;> omega
  refine ⟨x, hx, hle, t1, plOk_step h.len h.l0 hn hk h.ok hs hx, fun p hp h2 h5 => ?_, fun h3 hd => ?_, fun j hj y hy o ho hyo => ?_⟩
  · obtain ⟨a, hpa⟩ := h.pin p hp h2 h5
    exact ⟨a, pinAt_step h.len h.l0 hn hk hp h.ok hs hx hpa⟩
  · obtain ⟨q1, q2⟩ := pinAt_new h.l0 hk h.ok hs h3 hd
    have e : x = now := by rw [q1, h.l0] at hx; exact hx.symm
    have ea : aft (stp n l (S k)).2 = none := by unfold aft; rw [if_pos hd]
    rw [q1, e, ea]
    exact ⟨_, q2⟩
  · by_cases e : o = k
    · subst e
      exfalso
      obtain ⟨m, hm, hm1, _⟩ := h.gvr _ (h.gin j hj y hy).1
      have h3 := h.rd0 o ho (by omega)
      omega
    · rw [t3 o ho e]; exact h.gep j hj y hy o ho hyo
theorem stp1_kind {s : Sv} (hs : s.nx = 1 ∨ s.nx = 2 ∨ s.nx = 3) (hd : (stp n l s).2.nx ≠ 0) : (stp n l s).2.nx = 1 ∨ (stp n l s).2.nx = 2 ∨ (stp n l s).2.nx = 3 := by
  obtain ⟨nx, ep, ce, won⟩ := s
  simp only at hs
  rcases hs with rfl | rfl | rfl
  · exact .inr (.inl rfl)
  · exact .inr (.inr rfl)
  · unfold stp at hd ⊢
    simp only [stepF] at hd ⊢
    split at hd
    · exact absurd rfl hd
    · rename_i e; rw [if_neg e]; exact .inl rfl
theorem stp1_end {s : Sv} (hs : s.nx = 1 ∨ s.nx = 2 ∨ s.nx = 3) (hd : (stp n l s).2.nx = 0) : s.nx = 3 := by
  obtain ⟨nx, ep, ce, won⟩ := s
  simp only at hs
  rcases hs with rfl | rfl | rfl
  · simp [stp, stepF] at hd
  · simp [stp, stepF] at hd
  · rfl
theorem stp6_kind {s : Sv} (hs : 4 ≤ s.nx ∧ s.nx ≤ 6) (hd : (stp n l s).2.nx ≠ 0) : 4 ≤ (stp n l s).2.nx ∧ (stp n l s).2.nx ≤ 6 := by
  obtain ⟨nx, ep, ce, won⟩ := s
  simp only at hs
  have h3 : nx = 4 ∨ nx = 5 ∨ nx = 6 := by omega
  rcases h3 with rfl | rfl | rfl
  · exact ⟨by show 4 ≤ 5; omega, by show 5 ≤ 6; omega⟩
  · unfold stp at hd ⊢
    simp only [stepF] at hd ⊢
    split at hd
    · exact absurd rfl hd
    · rename_i e
      rw [if_neg e]
      split <;> (simp only; omega)
  · exfalso; apply hd
    unfold stp; simp only [stepF]; split <;> rfl
/-- a Step has gone on, and isn't done -/
theorem Fan.did (h : Fan n i l now la lr S P G tk gv nx) (hk : k < n) (ha : la k = 1 ∨ la k = 6) (hi : i ≤ 500) (hd : (stp n l (S k)).2.nx ≠ 0) : ∃ now', Fan n (i + 1) (stp n l (S k)).1 now' la lr (upE S k (stp n l (S k)).2) P G tk gv nx := by
  obtain ⟨now', b0, ⟨b1, b2⟩, b3, b4, b5, b6, b7⟩ := h.onward hk ha hi
  have ea : aft (stp n l (S k)).2 = some (stp n l (S k)).2 := by unfold aft; rw [if_neg hd]
  rw [ea] at b4 b5
  have h' := h.up
  exact ⟨now', { h' with
    len := b3
    l0 := b0
    nw := ⟨by have := h.nw.1; omega, by omega⟩
    s1 := fun j hj h1 => by
      by_cases e : j = k
      · subst e; rw [upE_same]; exact ⟨stp1_kind (h.s1 j hj h1).1 hd, (h.s1 j hj h1).2⟩
      · rw [upE_ne _ _ e]; exact h.s1 j hj h1
    s6 := fun j hj h1 => by
      by_cases e : j = k
      · subst e; rw [upE_same]; exact ⟨stp6_kind (h.s6 j hj h1).1 hd, (h.s6 j hj h1).2⟩
      · rw [upE_ne _ _ e]; exact h.s6 j hj h1
    ok := by rw [actA_on _ _ ha]; exact b4
    pin := fun p hp h2 h5 => by rw [actA_on _ _ ha]; exact b5 p hp h2 h5
    gin := fun j hj x hx => by
      obtain ⟨q1, q2, q3, q4⟩ := h.gin j hj x hx
      exact ⟨q1, q2, q3, by omega⟩
    gep := b7 }⟩
/-- a Step is done: who pinned is pinned (2), who went on takes (7) -/
theorem Fan.done (h : Fan n i l now la lr S P G tk gv nx) (hk : k < n) (ha : la k = 1 ∨ la k = 6) (hi : i ≤ 500) (hd : (stp n l (S k)).2.nx = 0) (c : Nat) (hc : (la k = 1 ∧ c = 2) ∨ (la k = 6 ∧ c = 7)) : ∃ now', Fan n (i + 1) (stp n l (S k)).1 now' (upE la k c) lr (upE S k (stp n l (S k)).2) P G tk gv nx := by
  obtain ⟨now', b0, ⟨b1, b2⟩, b3, b4, b5, b6, b7⟩ := h.onward hk ha hi
  have ea : aft (stp n l (S k)).2 = none := by unfold aft; rw [if_pos hd]
  rw [ea] at b4 b5 b6
  have h' := h.up
  have hoff := actA_off (la := la) (S := S) k (stp n l (S k)).2 c (by omega)
  exact ⟨now', { h' with
    len := b3
    l0 := b0
    nw := ⟨by have := h.nw.1; omega, by omega⟩
    at7 := fun j hj => by
      by_cases e : j = k
      · subst e; rw [upE_same]; omega
      · rw [upE_ne _ _ e]; exact h.at7 j hj
    s1 := fun j hj h1 => by
      by_cases e : j = k
      · subst e; rw [upE_same] at h1; omega
      · rw [upE_ne _ _ e] at h1; rw [upE_ne _ _ e]; exact h.s1 j hj h1
    s6 := fun j hj h1 => by
      by_cases e : j = k
      · subst e; rw [upE_same] at h1; omega
      · rw [upE_ne _ _ e] at h1; rw [upE_ne _ _ e]; exact h.s6 j hj h1
    ok := by rw [hoff]; exact b4
    pin := fun p hp h2 h5 => by
      rw [hoff]
      by_cases e : p = k
      · subst e
        rw [upE_same] at h5
        have h1 : la p = 1 := by omega
        exact b6 (stp1_end (h.s1 p hp h1).1 hd) hd
      · rw [upE_ne _ _ e] at h2 h5; exact b5 p hp h2 h5
    rd0 := fun j hj h1 => by
      have h3 := h.rd0 j hj h1
      by_cases e : j = k
      · subst e; omega
      · rw [upE_ne _ _ e]; exact h3
    r4 := fun j hj h4 => by
      by_cases e : j = k
      · subst e; rw [upE_same] at h4; omega
      · rw [upE_ne _ _ e] at h4; exact h.r4 j hj h4
    r4d := fun j o hj ho hne h4 h4' => by
      by_cases e : j = k
      · subst e; rw [upE_same] at h4; omega
      · by_cases e' : o = k
        · subst e'; rw [upE_same] at h4'; omega
        · rw [upE_ne _ _ e] at h4; rw [upE_ne _ _ e'] at h4'; exact h.r4d j o hj ho hne h4 h4'
    gin := fun j hj x hx => by
      obtain ⟨q1, q2, q3, q4⟩ := h.gin j hj x hx
      exact ⟨q1, q2, q3, by omega⟩
    gep := b7 }⟩
/-- what stands in the cell is read -/
theorem Fan.read (h : Fan n i l now la lr S P G tk gv nx) (hk : k < n) (h2 : la k = 2) : Fan n i l now (upE la k 3) (upE lr k (nx - 1)) S P G tk gv nx :=
  have hx := h.nx1
  { h with
    at7 := fun j hj => by
      by_cases e : j = k
      · subst e; rw [upE_same]; omega
      · rw [upE_ne _ _ e]; exact h.at7 j hj
    s1 := fun j hj h1 => by
      by_cases e : j = k
      · subst e; rw [upE_same] at h1; omega
      · rw [upE_ne _ _ e] at h1; exact h.s1 j hj h1
    s6 := fun j hj h1 => by
      by_cases e : j = k
      · subst e; rw [upE_same] at h1; omega
      · rw [upE_ne _ _ e] at h1; exact h.s6 j hj h1
    ok := by rw [actA_same k 3 (by omega) (by omega)]; exact h.ok
    pin := fun p hp h2 h5 => by
      rw [actA_same k 3 (by omega) (by omega)]
      by_cases e : p = k
      · subst e; rw [upE_same] at h2; exact h.pin p hp (by omega) (by omega)
      · rw [upE_ne _ _ e] at h2 h5; exact h.pin p hp h2 h5
    rd0 := fun j hj h1 => by
      by_cases e : j = k
      · subst e; rw [upE_same]; omega
      · rw [upE_ne _ _ e] at h1; rw [upE_ne _ _ e]; exact h.rd0 j hj h1
    rdn := fun j hj => by
      by_cases e : j = k
      · subst e; rw [upE_same]; omega
      · rw [upE_ne _ _ e]; exact h.rdn j hj
    r4 := fun j hj h4 => by
      by_cases e : j = k
      · subst e; rw [upE_same] at h4; omega
      · rw [upE_ne _ _ e] at h4; rw [upE_ne _ _ e]; exact h.r4 j hj h4
    r4d := fun j o hj ho hne h4 h4' => by
      by_cases e : j = k
      · subst e; rw [upE_same] at h4; omega
      · by_cases e' : o = k
        · subst e'; rw [upE_same] at h4'; omega
        · rw [upE_ne _ _ e] at h4; rw [upE_ne _ _ e'] at h4'; rw [upE_ne _ _ e, upE_ne _ _ e']; exact h.r4d j o hj ho hne h4 h4'
    gep := fun j hj x hx' o ho hxo => by
      by_cases e : o = k
      · subst e
        rw [upE_same] at hxo
        obtain ⟨m, hm, hm1, hm2⟩ := h.gvr _ (h.gin j hj x hx').1
        omega
      · rw [upE_ne _ _ e] at hxo; exact h.gep j hj x hx' o ho hxo
    ntk := fun o ho h1 => by
      by_cases e : o = k
      · subst e
        rw [upE_same] at h1 ⊢
        intro ht
        obtain ⟨m, hm, hm1, hm2⟩ := h.gvr _ (h.tkg _ ht)
        omega
      · rw [upE_ne _ _ e] at h1 ⊢; exact h.ntk o ho h1 }
/-- who read something that isn't there any more, or nothing, looks at it -/
theorem Fan.look (h : Fan n i l now la lr S P G tk gv nx) (hk : k < n) (h3 : la k = 3) : Fan n i l now (upE la k 5) lr S P G tk gv nx :=
  { h with
    at7 := fun j hj => by
      by_cases e : j = k
      · subst e; rw [upE_same]; omega
      · rw [upE_ne _ _ e]; exact h.at7 j hj
    s1 := fun j hj h1 => by
      by_cases e : j = k
      · subst e; rw [upE_same] at h1; omega
      · rw [upE_ne _ _ e] at h1; exact h.s1 j hj h1
    s6 := fun j hj h1 => by
      by_cases e : j = k
      · subst e; rw [upE_same] at h1; omega
      · rw [upE_ne _ _ e] at h1; exact h.s6 j hj h1
    ok := by rw [actA_same k 5 (by omega) (by omega)]; exact h.ok
    pin := fun p hp h2 h5 => by
      rw [actA_same k 5 (by omega) (by omega)]
      by_cases e : p = k
      · subst e; rw [upE_same] at h2; exact h.pin p hp (by omega) (by omega)
      · rw [upE_ne _ _ e] at h2 h5; exact h.pin p hp h2 h5
    rd0 := fun j hj h1 => by
      have hq := h.rd0 j hj h1
      by_cases e : j = k
      · subst e; rw [upE_same]; omega
      · rw [upE_ne _ _ e]; exact hq
    r4 := fun j hj h4 => by
      by_cases e : j = k
      · subst e; rw [upE_same] at h4; omega
      · rw [upE_ne _ _ e] at h4; exact h.r4 j hj h4
    r4d := fun j o hj ho hne h4 h4' => by
      by_cases e : j = k
      · subst e; rw [upE_same] at h4; omega
      · by_cases e' : o = k
        · subst e'; rw [upE_same] at h4'; omega
        · rw [upE_ne _ _ e] at h4; rw [upE_ne _ _ e'] at h4'; exact h.r4d j o hj ho hne h4 h4'
  }
/-- another thing stands in the cell -/
theorem Fan.next (h : Fan n i l now la lr S P G tk gv nx) : Fan n (i + 1) l now la lr S P G tk gv (nx + 1) :=
  have h' := h.up
  { h' with
    nx1 := ⟨by omega, by have := h.nx1.2; omega⟩
    rdn := fun j hj => by have := h.rdn j hj; omega
    r4 := fun j hj h4 => by
      obtain ⟨a, b, c⟩ := h.r4 j hj h4
      exact ⟨a, by omega, c⟩
    gvr := fun m hm => by
      obtain ⟨x, a, b, c⟩ := h.gvr m hm
      exact ⟨x, a, b, by omega⟩ }
/-- who put another thing in its place gives it up next -/
theorem Fan.won (h : Fan n i l now la lr S P G tk gv nx) (hk : k < n) (h3 : la k = 3) (hr : lr k + 1 = nx) (hr0 : lr k ≠ 0) : Fan n (i + 1) l now (upE la k 4) lr S P G tk gv (nx + 1) := by
  have h' := h.next
  have hgv : ∀ m, m ∈ gv → ∃ x : Nat, m = (x : Int) ∧ 1 ≤ x ∧ x + 2 ≤ nx := h.gvr
  have hr4 := h.r4
  clear hr4
  have hold := h
  revert h'
  intro h
  exact { h with
    at7 := fun j hj => by
      by_cases e : j = k
      · subst e; rw [upE_same]; omega
      · rw [upE_ne _ _ e]; exact h.at7 j hj
    s1 := fun j hj h1 => by
      by_cases e : j = k
      · subst e; rw [upE_same] at h1; omega
      · rw [upE_ne _ _ e] at h1; exact h.s1 j hj h1
    s6 := fun j hj h1 => by
      by_cases e : j = k
      · subst e; rw [upE_same] at h1; omega
      · rw [upE_ne _ _ e] at h1; exact h.s6 j hj h1
    ok := by rw [actA_same k 4 (by omega) (by omega)]; exact h.ok
    pin := fun p hp h2 h5 => by
      rw [actA_same k 4 (by omega) (by omega)]
      by_cases e : p = k
      · subst e; rw [upE_same] at h2; exact h.pin p hp (by omega) (by omega)
      · rw [upE_ne _ _ e] at h2 h5; exact h.pin p hp h2 h5
    rd0 := fun j hj h1 => by
      have hq := h.rd0 j hj h1
      by_cases e : j = k
      · subst e; rw [upE_same]; omega
      · rw [upE_ne _ _ e]; exact hq
    r4 := fun j hj h4 => by
      by_cases e : j = k
      · subst e
        refine ⟨by omega, by omega, fun hm => ?_⟩
        obtain ⟨x, a, b, c⟩ := hgv _ hm
        omega
      · rw [upE_ne _ _ e] at h4; exact h.r4 j hj h4
    r4d := fun j o hj ho hne h4 h4' => by
      by_cases e : j = k
      · subst e
        rw [upE_ne _ _ (Ne.symm hne)] at h4'
        have := (hold.r4 o ho h4').2.1
        omega
      · by_cases e' : o = k
        · subst e'
          rw [upE_ne _ _ hne] at h4
          have := (hold.r4 j hj h4).2.1
          omega
        · rw [upE_ne _ _ e] at h4; rw [upE_ne _ _ e'] at h4'; exact h.r4d j o hj ho hne h4 h4' }
/-- what was replaced is given up -/
theorem Fan.give (h : Fan n i l now la lr S P G tk gv nx) (hk : k < n) (h4 : la k = 4) : Fan n (i + 1) l now (upE la k 5) lr S P (upE G k (G k ++ [((lr k : Int), now)])) tk (gv ++ [(lr k : Int)]) nx := by
  obtain ⟨r1, r2, r3⟩ := h.r4 k hk h4
  have hmem : ∀ j x, x ∈ upE G k (G k ++ [((lr k : Int), now)]) j → x ∈ G j ∨ (j = k ∧ x = ((lr k : Int), now)) := fun j x hx => by
    by_cases e : j = k
    · subst e
      rw [upE_same, List.mem_append] at hx
      rcases hx with hx | hx
      · exact .inl hx
      · exact .inr ⟨rfl, by simpa using hx⟩
    · rw [upE_ne _ _ e] at hx; exact .inl hx
  have hnot : ∀ j, j < n → ∀ x, x ∈ G j → x.1 ≠ (lr k : Int) := fun j hj x hx e => r3 (e ▸ (h.gin j hj x hx).1)
  have h' := h.up
  have hold := h
  revert h'
  intro h
  exact { h with
    at7 := fun j hj => by
      by_cases e : j = k
      · subst e; rw [upE_same]; omega
      · rw [upE_ne _ _ e]; exact h.at7 j hj
    s1 := fun j hj h1 => by
      by_cases e : j = k
      · subst e; rw [upE_same] at h1; omega
      · rw [upE_ne _ _ e] at h1; exact h.s1 j hj h1
    s6 := fun j hj h1 => by
      by_cases e : j = k
      · subst e; rw [upE_same] at h1; omega
      · rw [upE_ne _ _ e] at h1; exact h.s6 j hj h1
    ok := by rw [actA_same k 5 (by omega) (by omega)]; exact h.ok
    pin := fun p hp h2 h5 => by
      rw [actA_same k 5 (by omega) (by omega)]
      by_cases e : p = k
      · subst e; rw [upE_same] at h2; exact h.pin p hp (by omega) (by omega)
      · rw [upE_ne _ _ e] at h2 h5; exact h.pin p hp h2 h5
    rd0 := fun j hj h1 => by
      have hq := h.rd0 j hj h1
      by_cases e : j = k
      · subst e; rw [upE_same]; omega
      · rw [upE_ne _ _ e]; exact hq
    r4 := fun j hj h4' => by
      by_cases e : j = k
      · subst e; rw [upE_same] at h4'; omega
      · rw [upE_ne _ _ e] at h4'
        obtain ⟨a, b, c⟩ := h.r4 j hj h4'
        refine ⟨a, b, fun hm => ?_⟩
        rw [List.mem_append] at hm
        rcases hm with hm | hm
        · exact c hm
        · have hm : (lr j : Int) = (lr k : Int) := by simpa using hm
          exact h.r4d j k hj hk e h4' h4 (by omega)
    r4d := fun j o hj ho hne h4 h4' => by
      by_cases e : j = k
      · subst e; rw [upE_same] at h4; omega
      · by_cases e' : o = k
        · subst e'; rw [upE_same] at h4'; omega
        · rw [upE_ne _ _ e] at h4; rw [upE_ne _ _ e'] at h4'; exact h.r4d j o hj ho hne h4 h4'
    gvr := fun m hm => by
      rw [List.mem_append] at hm
      rcases hm with hm | hm
      · exact h.gvr m hm
      · exact ⟨lr k, by simpa using hm, r1, r2⟩
    tkg := fun m hm => List.mem_append_left _ (h.tkg m hm)
    gle := fun j hj => by
      have := hold.gle j hj
      by_cases e : j = k
      · subst e; rw [upE_same, List.length_append]; simp; omega
      · rw [upE_ne _ _ e]; omega
    gin := fun j hj x hx => by
      rcases hmem j x hx with hx | ⟨_, rfl⟩
      · obtain ⟨a, b, c⟩ := h.gin j hj x hx
        exact ⟨List.mem_append_left _ a, b, c⟩
      · exact ⟨List.mem_append_right _ (by simp), fun ht => r3 (h.tkg _ ht), h.nw.1, Int.le_refl _⟩
    gep := fun j hj x hx o ho hxo => by
      rcases hmem j x hx with hx | ⟨_, rfl⟩
      · exact h.gep j hj x hx o ho hxo
      · have hro : lr o ≠ 0 := by simp only at hxo; omega
        obtain ⟨q1, q2⟩ := h.rd0 o ho hro
        obtain ⟨a, p1, p2, p3, _⟩ := h.pin o ho (by omega) (by omega)
        show l.getD (o + 1) 0 ≤ now + 1
        omega
    gdi := fun j hj => by
      by_cases e : j = k
      · subst e
        rw [upE_same, List.map_append, List.nodup_append]
        refine ⟨h.gdi j hj, by simp, fun a ha b hb => ?_⟩
        obtain ⟨x, hx, rfl⟩ := List.mem_map.1 ha
        have hb : b = (lr j : Int) := by simpa using hb
        subst hb
        exact hnot j hj x hx
      · rw [upE_ne _ _ e]; exact h.gdi j hj
    gdj := fun j o hj ho hne x hx y hy => by
      rcases hmem j x hx with hx | ⟨ej, rfl⟩
      · rcases hmem o y hy with hy | ⟨eo, rfl⟩
        · exact h.gdj j o hj ho hne x hx y hy
        · exact hnot j hj x hx
      · rcases hmem o y hy with hy | ⟨eo, rfl⟩
        · exact Ne.symm (hnot o ho y hy)
        · exact absurd (ej.trans eo.symm) hne }
/-- who unpins looks at nothing, and begins to go on -/
theorem Fan.unpin (h : Fan n i l now la lr S P G tk gv nx) (hk : k < n) (h5 : la k = 5) (g : Nat) : Fan n i (l.set (k + 1) 0) now (upE la k 6) (upE lr k 0) (upE S k ⟨4, 0, 1, false⟩) (upE P k (some g)) G tk gv nx := by
  have hl := h.len
  have hc : ∀ p, p ≠ k → (l.set (k + 1) 0).getD (p + 1) 0 = l.getD (p + 1) 0 := fun p hp => by rw [gets _ _ _ _ (by omega), if_neg (by omega)]
  have hok : PlOk n (l.set (k + 1) 0) now (actA la S) := fun j s hj hs => by
    obtain ⟨a, b, c, d, e, f⟩ := h.ok j s hj hs
    have ne : j ≠ k := fun q => by rw [q, actA_no (by omega)] at hs; cases hs
    exact ⟨a, b, c, d, e, fun q => by rw [hc j ne]; exact f q⟩
  exact { h with
    len := by rw [List.length_set]; exact hl
    l0 := by rw [gets _ _ _ _ (by omega), if_neg (by omega)]; exact h.l0
    at7 := fun j hj => by
      by_cases e : j = k
      · subst e; rw [upE_same]; omega
      · rw [upE_ne _ _ e]; exact h.at7 j hj
    s1 := fun j hj h1 => by
      by_cases e : j = k
      · subst e; rw [upE_same] at h1; omega
      · rw [upE_ne _ _ e] at h1; rw [upE_ne _ _ e, upE_ne _ _ e]; exact h.s1 j hj h1
    s6 := fun j hj h1 => by
      by_cases e : j = k
      · subst e; rw [upE_same, upE_same]; exact ⟨⟨by show 4 ≤ 4; omega, by show 4 ≤ 6; omega⟩, _, rfl⟩
      · rw [upE_ne _ _ e] at h1; rw [upE_ne _ _ e, upE_ne _ _ e]; exact h.s6 j hj h1
    ok := by rw [actA_put _ _ _ (.inr rfl)]; exact hok.begin (.inr ⟨rfl, rfl⟩)
    pin := fun p hp h2 h5 => by
      by_cases e : p = k
      · subst e; rw [upE_same] at h5; omega
      · rw [upE_ne _ _ e] at h2 h5
        obtain ⟨a, p1, p2⟩ := h.pin p hp h2 h5
        exact ⟨a, by rw [actA_put _ _ _ (.inr rfl)]; exact PinAt.begin ⟨by rw [hc p e]; exact p1, p2⟩ (.inl rfl)⟩
    rd0 := fun j hj h1 => by
      by_cases e : j = k
      · subst e; rw [upE_same] at h1; omega
      · rw [upE_ne _ _ e] at h1; rw [upE_ne _ _ e]; exact h.rd0 j hj h1
    rdn := fun j hj => by
      by_cases e : j = k
      · subst e; rw [upE_same]; have := h.nx1.1; omega
      · rw [upE_ne _ _ e]; exact h.rdn j hj
    r4 := fun j hj h4 => by
      by_cases e : j = k
      · subst e; rw [upE_same] at h4; omega
      · rw [upE_ne _ _ e] at h4; rw [upE_ne _ _ e]; exact h.r4 j hj h4
    r4d := fun j o hj ho hne h4 h4' => by
      by_cases e : j = k
      · subst e; rw [upE_same] at h4; omega
      · by_cases e' : o = k
        · subst e'; rw [upE_same] at h4'; omega
        · rw [upE_ne _ _ e] at h4; rw [upE_ne _ _ e'] at h4'; rw [upE_ne _ _ e, upE_ne _ _ e']; exact h.r4d j o hj ho hne h4 h4'
    gep := fun j hj x hx o ho hxo => by
      by_cases e : o = k
      · subst e
        rw [upE_same] at hxo
        obtain ⟨m, hm, hm1, hm2⟩ := h.gvr _ (h.gin j hj x hx).1
        omega
      · rw [upE_ne _ _ e] at hxo; rw [hc o e]; exact h.gep j hj x hx o ho hxo
    ntk := fun o ho h1 => by
      by_cases e : o = k
      · subst e; rw [upE_same] at h1; omega
      · rw [upE_ne _ _ e] at h1 ⊢; exact h.ntk o ho h1 }
/-- of what was given up the first one, ripe, is taken -/
theorem Fan.take (h : Fan n i l now la lr S P G tk gv nx) (hk : k < n) {x : Int × Int} {r : List (Int × Int)} (hG : G k = x :: r) (hx : x.2 + 2 ≤ now) : x.1 ∈ gv ∧ x.1 ∉ tk ∧ Fan n i l now la lr S P (upE G k r) (tk ++ [x.1]) gv nx := by
  have hxm : x ∈ G k := by rw [hG]; exact List.mem_cons_self
  obtain ⟨x1, x2, x3⟩ := h.gin k hk x hxm
  have hnd := h.gdi k hk
  rw [hG, List.map_cons, List.nodup_cons] at hnd
  have hmem : ∀ j y, y ∈ upE G k r j → y ∈ G j ∧ (j = k → y ∈ r) := fun j y hy => by
    by_cases e : j = k
    · subst e
      rw [upE_same] at hy
      exact ⟨by rw [hG]; exact List.mem_cons_of_mem _ hy, fun _ => hy⟩
    · rw [upE_ne _ _ e] at hy; exact ⟨hy, fun q => absurd q e⟩
  refine ⟨x1, x2, { h with
    tkg := fun m hm => by
      rw [List.mem_append] at hm
      rcases hm with hm | hm
      · exact h.tkg m hm
      · have hm : m = x.1 := by simpa using hm
        subst hm; exact x1
    gle := fun j hj => by
      have := h.gle j hj
      by_cases e : j = k
      · subst e; rw [upE_same]; rw [hG, List.length_cons] at this; omega
      · rw [upE_ne _ _ e]; omega
    gin := fun j hj y hy => by
      obtain ⟨hy1, hy2⟩ := hmem j y hy
      obtain ⟨a, b, c⟩ := h.gin j hj y hy1
      refine ⟨a, fun hm => ?_, c⟩
      rw [List.mem_append] at hm
      rcases hm with hm | hm
      · exact b hm
      · have hm : y.1 = x.1 := by simpa using hm
        by_cases e : j = k
        · exact hnd.1 (List.mem_map.2 ⟨y, hy2 e, hm⟩)
        · exact h.gdj j k hj hk e y hy1 x hxm hm
    gep := fun j hj y hy o ho hyo => h.gep j hj y (hmem j y hy).1 o ho hyo
    gdi := fun j hj => by
      by_cases e : j = k
      · subst e; rw [upE_same]; exact hnd.2
      · rw [upE_ne _ _ e]; exact h.gdi j hj
    gdj := fun j o hj ho hne y hy z hz => h.gdj j o hj ho hne y (hmem j y hy).1 z (hmem o z hz).1
    ntk := fun o ho h1 hm => by
      rw [List.mem_append] at hm
      rcases hm with hm | hm
      · exact h.ntk o ho h1 hm
      · have hm : (lr o : Int) = x.1 := by simpa using hm
        obtain ⟨q1, q2⟩ := h.rd0 o ho h1
        obtain ⟨a, p1, p2, p3, p4, _⟩ := h.pin o ho (by omega) (by omega)
        have := h.gep k hk x hxm o ho hm.symm
        omega }⟩
/-- all is taken -/
theorem Fan.rest (h : Fan n i l now la lr S P G tk gv nx) (hk : k < n) (h7 : la k = 7) : Fan n (i + 1) l now (upE la k 0) lr S P G tk gv nx := by
  have h' := h.up
  revert h'
  intro h
  exact { h with
    at7 := fun j hj => by
      by_cases e : j = k
      · subst e; rw [upE_same]; omega
      · rw [upE_ne _ _ e]; exact h.at7 j hj
    s1 := fun j hj h1 => by
      by_cases e : j = k
      · subst e; rw [upE_same] at h1; omega
      · rw [upE_ne _ _ e] at h1; exact h.s1 j hj h1
    s6 := fun j hj h1 => by
      by_cases e : j = k
      · subst e; rw [upE_same] at h1; omega
      · rw [upE_ne _ _ e] at h1; exact h.s6 j hj h1
    ok := by rw [actA_same k 0 (by omega) (by omega)]; exact h.ok
    pin := fun p hp h2 h5 => by
      rw [actA_same k 0 (by omega) (by omega)]
      by_cases e : p = k
      · subst e; rw [upE_same] at h2; omega
      · rw [upE_ne _ _ e] at h2 h5; exact h.pin p hp h2 h5
    rd0 := fun j hj h1 => by
      have hq := h.rd0 j hj h1
      by_cases e : j = k
      · subst e; omega
      · rw [upE_ne _ _ e]; exact hq
    r4 := fun j hj h4 => by
      by_cases e : j = k
      · subst e; rw [upE_same] at h4; omega
      · rw [upE_ne _ _ e] at h4; exact h.r4 j hj h4
    r4d := fun j o hj ho hne h4 h4' => by
      by_cases e : j = k
      · subst e; rw [upE_same] at h4; omega
      · by_cases e' : o = k
        · subst e'; rw [upE_same] at h4'; omega
        · rw [upE_ne _ _ e] at h4; rw [upE_ne _ _ e'] at h4'; exact h.r4d j o hj ho hne h4 h4'
  }
end
end Go.Proofs.Ytoeencklcemofaa
