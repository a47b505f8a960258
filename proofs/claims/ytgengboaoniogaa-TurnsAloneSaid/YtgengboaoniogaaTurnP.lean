/-
  Plain facts on turns: who did how many; that all is done in the end. No condition beyond those that each theorem names.
-/
import Derived.Test.YtgengboaoniogaaTurn5
namespace Go.Proofs.Ytgengboaoniogaa
open Go.RowKit Plain
set_option linter.unusedVariables false
set_option maxRecDepth 100000

/-- a fact that each turn keeps holds behind many -/
theorem many_keep (os : Nat → List OpV) (I : TS → Prop) (Q : Nat → Prop) (h : ∀ t i, Q i → I t → I (one os t i)) : ∀ (is : List Nat) (s : TS), (∀ i ∈ is, Q i) → I s → I (many os s is)
  | [], s, _, hs => hs
  | i :: is, s, hq, hs => many_keep os I Q h is (one os s i) (fun j hj => hq j (by simp [hj])) (h s i (hq i (by simp)) hs)
theorem one_D (os : Nat → List OpV) (t : TS) (i j : Nat) : (one os t i).D j = if j = i ∧ t.D i < (os i).length then t.D i + 1 else t.D j := by
  by_cases h : t.D i < (os i).length
  · rw [one_yes os t i h]
    show upd t.D i (t.D i + 1) j = _
    unfold upd
    by_cases e : j = i <;> simp [e, h]
  · rw [one_no os t i h]; simp [h]
theorem many_le (os : Nat → List OpV) (is : List Nat) (s : TS) (h : ∀ i, s.D i ≤ (os i).length) : ∀ i, (many os s is).D i ≤ (os i).length :=
  many_keep os (fun t => ∀ i, t.D i ≤ (os i).length) (fun _ => True) (fun t i _ ht j => by
    rw [one_D]; split
    · rename_i e; rw [e.1]; omega
    · exact ht j) is s (fun _ _ => trivial) h
theorem many_out (os : Nat → List OpV) (m : Nat) (is : List Nat) (s : TS) (hi : ∀ i ∈ is, i < m) (h : s.out.length = sumD s.D m) : (many os s is).out.length = sumD (many os s is).D m :=
  many_keep os (fun t => t.out.length = sumD t.D m) (fun i => i < m) (fun t i hi ht => by
    by_cases h : t.D i < (os i).length
    · rw [one_yes os t i h]
      have h1 := sumD_upd t.D i (t.D i + 1) m hi
      show (t.out ++ _).length = sumD (upd t.D i (t.D i + 1)) m
      rw [List.length_append, List.length_singleton]; omega
    · rw [one_no os t i h]; exact ht) is s hi h
theorem many_rep (os : Nat → List OpV) (i : Nat) : ∀ (k : Nat) (s : TS), (∀ j, s.D j ≤ (os j).length) → (os i).length ≤ s.D i + k → (many os s (List.replicate k i)).D i = (os i).length ∧ ∀ j, j ≠ i → (many os s (List.replicate k i)).D j = s.D j
  | 0, s, hs, hk => ⟨by have := hs i; show s.D i = _; omega, fun j _ => rfl⟩
  | k + 1, s, hs, hk => by
      have hs' : ∀ j, (one os s i).D j ≤ (os j).length := many_le os [i] s hs
      have h1 := one_D os s i i
      have := hs i
      have hk' : (os i).length ≤ (one os s i).D i + k := by
        rw [h1]; split
        · omega
        · rename_i hh; have : ¬ s.D i < (os i).length := fun hx => hh ⟨rfl, hx⟩; omega
      obtain ⟨a, b⟩ := many_rep os i k (one os s i) hs' hk'
      refine ⟨a, fun j hj => ?_⟩
      rw [show many os s (List.replicate (k + 1) i) = many os (one os s i) (List.replicate k i) from rfl, b j hj, one_D, if_neg (fun hh => hj hh.1)]
theorem many_restL (os : Nat → List OpV) (s : TS) (hs : ∀ i, s.D i ≤ (os i).length) : ∀ m, ∀ i, i < m → (many os s (restL os m)).D i = (os i).length
  | 0, i, h => absurd h (by omega)
  | m + 1, i, h => by
      rw [restL_succ, many_append]
      have hle := many_le os (restL os m) s hs
      obtain ⟨a, b⟩ := many_rep os m (os m).length (many os s (restL os m)) hle (by omega)
      by_cases e : i = m
      · subst e; exact a
      · rw [b i e]; exact many_restL os s hs m i (by omega)
theorem restL_lt (os : Nat → List OpV) (m : Nat) : ∀ i ∈ restL os m, i < m := by
  intro i hi
  unfold restL at hi
  obtain ⟨j, hj, hi⟩ := List.mem_flatMap.1 hi
  rw [List.eq_of_mem_replicate hi]; exact List.mem_range.1 hj
theorem pk_lt_all (m : Nat) (zs : List Int) (h : 0 < m) (h2 : m ≤ 64) : ∀ i ∈ zs.map (pk m), i < m := by
  intro i hi
  obtain ⟨z, _, rfl⟩ := List.mem_map.1 hi
  exact (pk_eq m z h h2).2
theorem sumD_const (D : Nat → Nat) (b : Nat) : ∀ m, (∀ i, i < m → D i = b) → sumD D m = m * b
  | 0, _ => by simp [sumD]
  | m + 1, h => by
      have := sumD_const D b m (fun i hi => h i (by omega))
      simp only [sumD, this, h m (by omega), Nat.succ_mul]
/-- by picks, and then all that is left: all is done, and so much was told -/
theorem rest_done (os : Nat → List OpV) (l : List Int) (m : Nat) (zs : List Int) (h : 0 < m) (h2 : m ≤ 64) : (∀ i, i < m → (many os (ts0 l) (zs.map (pk m) ++ restL os m)).D i = (os i).length) ∧ (many os (ts0 l) (zs.map (pk m) ++ restL os m)).out.length = sumD (many os (ts0 l) (zs.map (pk m) ++ restL os m)).D m := by
  constructor
  · rw [many_append]
    exact many_restL os _ (many_le os _ _ fun i => Nat.zero_le _) m
  · refine many_out os m _ _ ?_ ?_
    · intro i hi
      rcases List.mem_append.1 hi with hi | hi
      · exact pk_lt_all m zs h h2 i hi
      · exact restL_lt os m i hi
    · show 0 = sumD (fun _ => 0) m
      rw [sumD_const (fun _ => 0) 0 m (fun _ _ => rfl)]; simp
end Go.Proofs.Ytgengboaoniogaa
