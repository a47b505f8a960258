/-
  Rows of one's own that stay while others are written. Conditions stand in each theorem.
-/
import Derived.Test.YtmbceafeonjffaaKeep
namespace Go.Proofs.Ytmbceafeonjffaa
open Go.RowKit Plain
set_option linter.unusedVariables false
set_option maxRecDepth 100000

section
variable {w w' : World} {base base' size size' n m : Nat} {e e' : TypeId} {v v' : Value} {xs ys : List Value} {o : Option Nat}
theorem own_base (h : w.ownsRow base e size v n xs) (hb : base' ≤ base) : w.ownsRow base' e size v n xs := by
  refine ⟨h.1, ?_⟩
  rcases h.2 with q | ⟨g, cap, cur, q, hg, r⟩
  · exact .inl q
  · exact .inr ⟨g, cap, cur, q, Nat.le_trans hb hg, r⟩
theorem own_blk (h : w.ownsRow base e size v n xs) {g : Nat} (hg : v.ownBlock = some g) : base ≤ g ∧ g < w.heap.size ∧ ∃ cur, w.heap[g]? = some (.cells cur e (0, 0)) := by
  rcases h.2 with ⟨q, _⟩ | ⟨g', cap, cur, q, hb, hh, _⟩
  · rw [q] at hg; cases hg
  · rw [q] at hg
    simp [Value.ownBlock] at hg
    subst hg
    exact ⟨hb, (Array.getElem?_eq_some_iff.1 hh).1, cur, hh⟩
theorem own_grown (h : w.ownsRow base e size v n xs) (hg : w.grownBy w' o) (hne : ∀ g, v.ownBlock = some g → o ≠ some g) : w'.ownsRow base e size v n xs := by
  refine ⟨h.1, ?_⟩
  rcases h.2 with q | ⟨g, cap, cur, q, hb, hh, r⟩
  · exact .inl q
  · refine .inr ⟨g, cap, cur, q, hb, ?_, r⟩
    have hlt : g < w.heap.size := (Array.getElem?_eq_some_iff.1 hh).1
    rw [hg.block g hlt (fun x => hne g (by rw [q]; rfl) x.symm)]; exact hh
theorem own_keep {bs : List Nat} (h : w.ownsRow base e size v n xs) (hk : Keep bs w w') (hne : ∀ g, v.ownBlock = some g → g ∉ bs) : w'.ownsRow base e size v n xs := by
  refine ⟨h.1, ?_⟩
  rcases h.2 with q | ⟨g, cap, cur, q, hb, hh, r⟩
  · exact .inl q
  · refine .inr ⟨g, cap, cur, q, hb, ?_, r⟩
    have hlt : g < w.heap.size := (Array.getElem?_eq_some_iff.1 hh).1
    rw [hk.block g hlt (hne g (by rw [q]; rfl))]; exact hh
theorem own_below (h : w.ownsRow base e size v n xs) (hb : Below w.heap.size w w') : w'.ownsRow base e size v n xs := own_keep h (Keep.of_below (bs := []) hb) (fun _ _ => by simp)
/-- rows of unlike elements are apart -/
theorem own_types (h : w.ownsRow base e size v n xs) (h' : w.ownsRow base' e' size' v' m ys) (hne : e ≠ e') {g : Nat} (hg : v.ownBlock = some g) : v'.ownBlock ≠ some g := by
  intro hg'
  obtain ⟨_, _, c1, q1⟩ := own_blk h hg
  obtain ⟨_, _, c2, q2⟩ := own_blk h' hg'
  rw [q1] at q2
  injection q2 with q2
  injection q2 with _ q2
  exact hne q2
end

end Go.Proofs.Ytmbceafeonjffaa
