/-
  Plain facts: a worker alone, and beside one who has nothing to do. No condition beyond those that each theorem names.
-/
import Derived.Test.YtgengboaoniogaaTurnP
namespace Go.Proofs.Ytgengboaoniogaa
open Go.RowKit Plain
set_option linter.unusedVariables false
set_option maxRecDepth 100000

def os2 (P : List OpV) (i : Nat) : List OpV := if i = 0 then P else []
def os1 (P : List OpV) (_ : Nat) : List OpV := P
/-- so many steps alone -/
def runs (P : List OpV) (l : List Int) (j : Nat) : TS := many (os1 P) (ts0 l) (List.replicate j 0)
theorem runs_succ (P : List OpV) (l : List Int) (j : Nat) : runs P l (j + 1) = one (os1 P) (runs P l j) 0 := by
  unfold runs; rw [List.replicate_succ', many_snoc]
theorem runs_D (P : List OpV) (l : List Int) : ∀ j, j ≤ P.length → (runs P l j).D 0 = j
  | 0, _ => rfl
  | j + 1, h => by
      rw [runs_succ, one_D, runs_D P l j (by omega), if_pos ⟨rfl, by show j < P.length; omega⟩]
/-- the second worker's turns change nothing, the first one's are as if it were alone -/
def Alike (P : List OpV) (l : List Int) (t : TS) : Prop := ∃ j, j ≤ P.length ∧ t.l = (runs P l j).l ∧ t.D 0 = j ∧ t.K 0 = (runs P l j).K 0 ∧ t.out = (runs P l j).out
theorem alike_one (P : List OpV) (l : List Int) (t : TS) (i : Nat) (h : Alike P l t) : Alike P l (one (os2 P) t i) := by
  obtain ⟨j, hj, h1, h2, h3, h4⟩ := h
  by_cases hi : i = 0
  · subst hi
    by_cases hd : j < P.length
    · have hd' : t.D 0 < (os2 P 0).length := by rw [h2]; exact hd
      rw [one_yes _ t 0 hd']
      have hr : (runs P l j).D 0 < (os1 P 0).length := by rw [runs_D P l j hj]; exact hd
      have e := one_yes (os1 P) (runs P l j) 0 hr
      rw [runs_D P l j hj] at e
      refine ⟨j + 1, by omega, ?_, ?_, ?_, ?_⟩
      · rw [runs_succ, e, h1, h2, h3]; rfl
      · show upd t.D 0 (t.D 0 + 1) 0 = _
        rw [upd_same, h2]
      · rw [runs_succ, e]
        show upd t.K 0 _ 0 = upd (runs P l j).K 0 _ 0
        rw [upd_same, upd_same, h1, h2, h3]; rfl
      · rw [runs_succ, e, h1, h2, h3, h4]; rfl
    · have hd' : ¬ t.D 0 < (os2 P 0).length := by rw [h2]; exact hd
      rw [one_no _ t 0 hd']
      exact ⟨j, hj, h1, h2, h3, h4⟩
  · have hd' : ¬ t.D i < (os2 P i).length := by unfold os2; rw [if_neg hi]; simp
    rw [one_no _ t i hd']
    exact ⟨j, hj, h1, h2, h3, h4⟩
theorem alike_many (P : List OpV) (l : List Int) : ∀ (is : List Nat) (t : TS), Alike P l t → Alike P l (many (os2 P) t is)
  | [], t, h => h
  | i :: is, t, h => alike_many P l is _ (alike_one P l t i h)
theorem alone_all (P : List OpV) (l : List Int) (zs : List Int) :
    (many (os2 P) (ts0 l) (zs.map (pk 2) ++ restL (os2 P) 2)).l = (many (os1 P) (ts0 l) (([] : List Int).map (pk 1) ++ restL (os1 P) 1)).l ∧ (many (os2 P) (ts0 l) (zs.map (pk 2) ++ restL (os2 P) 2)).out = (many (os1 P) (ts0 l) (([] : List Int).map (pk 1) ++ restL (os1 P) 1)).out ∧ (many (os1 P) (ts0 l) (([] : List Int).map (pk 1) ++ restL (os1 P) 1)).out.length = P.length := by
  have hr : many (os1 P) (ts0 l) (([] : List Int).map (pk 1) ++ restL (os1 P) 1) = runs P l P.length := by
    unfold runs restL; simp [os1, List.range_succ]
  obtain ⟨j, hj, h1, h2, h3, h4⟩ := alike_many P l (zs.map (pk 2) ++ restL (os2 P) 2) (ts0 l) ⟨0, Nat.zero_le _, rfl, rfl, rfl, rfl⟩
  have hd := rest_done (os2 P) l 2 zs (by omega) (by omega)
  have h0 := hd.1 0 (by omega)
  rw [h2] at h0
  have hj' : j = P.length := h0
  subst hj'
  have hd1 := rest_done (os1 P) l 1 [] (by omega) (by omega)
  rw [hr] at hd1 ⊢
  refine ⟨h1, h4, ?_⟩
  rw [hd1.2]
  show 0 + (runs P l P.length).D 0 = _
  rw [runs_D P l P.length (Nat.le_refl _)]; omega
end Go.Proofs.Ytgengboaoniogaa
