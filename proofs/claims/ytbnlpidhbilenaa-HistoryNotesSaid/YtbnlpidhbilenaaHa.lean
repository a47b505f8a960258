/-
  Three Entries: how many go on at one time. Plain lists; conditions stand in each theorem.
-/
import Derived.Test.YtbnlpidhbilenaaH4
namespace Go.Proofs.Ytbnlpidhbilenaa
open Go.RowKit Plain
set_option linter.unusedVariables false
set_option linter.unusedSimpArgs false
def en2 (b e : Int) : En := ⟨b, e, false, false, none, 0, 0, 0, 0, none, 0, 0, 0, 0, 0⟩
theorem three_rgt (b0 e0 b1 e1 b2 e2 : Int) (h0 : 1 ≤ b0) (h0' : b0 < e0) (h1 : 1 ≤ b1) (h1' : b1 < e1) (h2 : 1 ≤ b2) (h2' : b2 < e2) : rgt (List.map En.t3 [en2 b0 e0, en2 b1 e1, en2 b2 e2]) = true := by
  have a0 : e0 ≠ -1 := by omega
  have a1 : e1 ≠ -1 := by omega
  have a2 : e2 ≠ -1 := by omega
  simp [rgt, rg1, En.t3, en2, *]
theorem liv_iff (v b e : Int) (h : e ≠ -1) : (liv v (b, e, false) = true) = (b ≤ v ∧ v < e) := by
  simp [liv, h]
theorem three_wid (b0 e0 b1 e1 b2 e2 : Int) (h0 : 1 ≤ b0) (h0' : b0 < e0) (h1 : 1 ≤ b1) (h1' : b1 < e1) (h2 : 1 ≤ b2) (h2' : b2 < e2) :
    1 ≤ widR [en2 b0 e0, en2 b1 e1, en2 b2 e2] ∧ widR [en2 b0 e0, en2 b1 e1, en2 b2 e2] ≤ 3 ∧ (e0 < b1 → e1 < b2 → widR [en2 b0 e0, en2 b1 e1, en2 b2 e2] = 1) := by
  have e : widR [en2 b0 e0, en2 b1 e1, en2 b2 e2] = wid (List.map En.t3 [en2 b0 e0, en2 b1 e1, en2 b2 e2]) := by unfold widR; rw [three_rgt b0 e0 b1 e1 b2 e2 h0 h0' h1 h1' h2 h2']; rfl
  have a0 : e0 ≠ -1 := by omega
  have a1 : e1 ≠ -1 := by omega
  have a2 : e2 ≠ -1 := by omega
  have c : ∀ v, cnt v (List.map En.t3 [en2 b0 e0, en2 b1 e1, en2 b2 e2]) = (if b0 ≤ v ∧ v < e0 then 1 else 0) + ((if b1 ≤ v ∧ v < e1 then 1 else 0) + ((if b2 ≤ v ∧ v < e2 then 1 else 0) + 0)) := by
    intro v
    show cnt v [(b0, e0, false), (b1, e1, false), (b2, e2, false)] = _
    rw [cnt_cons, cnt_cons, cnt_cons]
    simp only [liv_iff v b0 e0 a0, liv_iff v b1 e1 a1, liv_iff v b2 e2 a2]
    rfl
  have hw : wid (List.map En.t3 [en2 b0 e0, en2 b1 e1, en2 b2 e2]) = max (max (max 0 (cnt b0 (List.map En.t3 [en2 b0 e0, en2 b1 e1, en2 b2 e2]))) (cnt b1 (List.map En.t3 [en2 b0 e0, en2 b1 e1, en2 b2 e2]))) (cnt b2 (List.map En.t3 [en2 b0 e0, en2 b1 e1, en2 b2 e2])) := rfl
  rw [e, hw, c, c, c]
  refine ⟨?_, ?_, ?_⟩
  · rw [if_pos (show b0 ≤ b0 ∧ b0 < e0 by omega)]; omega
  · have q : ∀ (p : Prop) [Decidable p], (if p then 1 else 0 : Nat) ≤ 1 := fun p _ => by split <;> omega
    have := q (b0 ≤ b0 ∧ b0 < e0); have := q (b1 ≤ b0 ∧ b0 < e1); have := q (b2 ≤ b0 ∧ b0 < e2)
    have := q (b0 ≤ b1 ∧ b1 < e0); have := q (b1 ≤ b1 ∧ b1 < e1); have := q (b2 ≤ b1 ∧ b1 < e2)
    have := q (b0 ≤ b2 ∧ b2 < e0); have := q (b1 ≤ b2 ∧ b2 < e1); have := q (b2 ≤ b2 ∧ b2 < e2)
    omega
  · intro ha hb
    rw [if_pos (show b0 ≤ b0 ∧ b0 < e0 by omega), if_neg (show ¬ (b1 ≤ b0 ∧ b0 < e1) by omega), if_neg (show ¬ (b2 ≤ b0 ∧ b0 < e2) by omega),
      if_neg (show ¬ (b0 ≤ b1 ∧ b1 < e0) by omega), if_pos (show b1 ≤ b1 ∧ b1 < e1 by omega), if_neg (show ¬ (b2 ≤ b1 ∧ b1 < e2) by omega),
      if_neg (show ¬ (b0 ≤ b2 ∧ b2 < e0) by omega), if_neg (show ¬ (b1 ≤ b2 ∧ b2 < e1) by omega), if_pos (show b2 ≤ b2 ∧ b2 < e2 by omega)]
    rfl
end Go.Proofs.Ytbnlpidhbilenaa
