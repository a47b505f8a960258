/-
  Epochs: several Advances at one time, from one epoch; a Step in a row goes on. Conditions stand in each theorem.
-/
import Derived.Test.YtoeencklcemofaaEpMoves
namespace Go.Proofs.Ytoeencklcemofaa
open Go.RowKit Go.Deep Plain
set_option linter.unusedVariables false
set_option maxRecDepth 100000

def l1 (n x : Nat) : List Int := (x : Int) :: List.replicate n 0
theorem l1_at (n x k : Nat) (h : 1 ≤ k) : (l1 n x).getD k 0 = 0 := by
  obtain ⟨j, rfl⟩ : ∃ j, k = j + 1 := ⟨k - 1, by omega⟩
  unfold l1
  by_cases hj : j < n
  · simp [List.getD, hj]
  · simp [List.getD, hj]
def Fine (n : Nat) (s : Sv) : Prop := s.ep = 0 ∧ ((s.nx = 5 ∧ 1 ≤ s.ce ∧ s.ce ≤ n ∧ s.won = false) ∨ (s.nx = 6 ∧ s.won = false) ∨ s.nx = 0)
def OneI (n : Nat) (S : Nat → Sv) (x : Nat) : Prop :=
  (∀ i, i < n → Fine n (S i)) ∧ ((x = 0 ∧ ∀ i, i < n → (S i).won = false ∧ (S i).nx ≠ 0) ∨ (x = 1 ∧ ∃ k, k < n ∧ (S k).won = true ∧ (S k).nx = 0 ∧ ∀ i, i < n → (S i).won = true → i = k))
def fu (n : Nat) (s : Sv) : Nat := if s.nx = 5 then n + 2 - s.ce else if s.nx = 6 then 1 else 0
theorem Fine.ok {n : Nat} {s : Sv} (h : Fine n s) : SvOk n s := by
  unfold SvOk
  rcases h.2 with ⟨a, b, c, _⟩ | ⟨a, _⟩ | a
  · omega
  · omega
  · omega
theorem OneI.le {n x : Nat} {S : Nat → Sv} (h : OneI n S x) : x ≤ 1 := by
  rcases h.2 with ⟨e, _⟩ | ⟨e, _⟩ <;> omega
/-- a Step that wins nothing goes on -/
theorem OneI.go {n x i : Nat} {S : Nat → Sv} (h : OneI n S x) (hi : i < n) {s : Sv} (hf : Fine n s) (hw : s.won = (S i).won) (hn : s.nx = 0 → (S i).nx = 0 ∨ x = 1) (hn2 : (S i).nx = 0 → s.nx = 0) : OneI n (upE S i s) x := by
  refine ⟨fun j hj => ?_, ?_⟩
  · by_cases e : j = i
    · subst e; rw [upE_same]; exact hf
    · rw [upE_ne _ _ e]; exact h.1 j hj
  · rcases h.2 with ⟨e, hall⟩ | ⟨e, k, hk, hkw, hkn, hu⟩
    · refine .inl ⟨e, fun j hj => ?_⟩
      by_cases e' : j = i
      · subst e'
        rw [upE_same, hw]
        refine ⟨(hall j hj).1, fun h0 => ?_⟩
        rcases hn h0 with h1 | h1
        · exact (hall j hj).2 h1
        · omega
      · rw [upE_ne _ _ e']; exact hall j hj
    · refine .inr ⟨e, k, hk, ?_, ?_, fun j hj hjw => ?_⟩
      · by_cases e' : k = i
        · subst e'; rw [upE_same, hw]; exact hkw
        · rw [upE_ne _ _ e']; exact hkw
      · by_cases e' : k = i
        · subst e'; rw [upE_same]; exact hn2 hkn
        · rw [upE_ne _ _ e']; exact hkn
      · by_cases e' : j = i
        · subst e'; rw [upE_same, hw] at hjw; exact hu j hj hjw
        · rw [upE_ne _ _ e'] at hjw; exact hu j hj hjw
theorem one_step {n x i : Nat} {S : Nat → Sv} (h1 : 1 ≤ n) (h : OneI n S x) (hi : i < n) :
    ∃ x' s', stp n (l1 n x) (S i) = (l1 n x', s') ∧ OneI n (upE S i s') x' ∧ (fu n s' < fu n (S i) ∨ ((S i).nx = 0 ∧ s'.nx = 0)) ∧ (s'.nx ≠ 0 → 1 ≤ fu n s') := by
  have hf := h.1 i hi
  obtain ⟨s, hs⟩ : ∃ s, s = S i := ⟨_, rfl⟩
  rw [← hs] at hf ⊢
  obtain ⟨nx, ep, ce, won⟩ := s
  obtain ⟨h0, hc⟩ := hf
  simp only at h0 hc
  subst h0
  rcases hc with ⟨rfl, c1, c2, rfl⟩ | ⟨rfl, rfl⟩ | rfl
  · have hk : ¬ ((l1 n x).getD ce 0 ≠ 0 ∧ (l1 n x).getD ce 0 ≠ m64 (0 + 1)) := fun ⟨a, _⟩ => a (l1_at n x ce c1)
    by_cases e2 : n + 1 ≤ ce + 1
    · refine ⟨x, ⟨6, 0, ce + 1, false⟩, ?_, ?_, .inl ?_, ?_⟩
      · unfold stp; simp only [stepF]; rw [if_neg hk, if_pos e2]
      · exact h.go hi ⟨rfl, .inr (.inl ⟨rfl, rfl⟩)⟩ (by rw [← hs]) (by simp) (by rw [← hs]; simp)
      · unfold fu; simp; omega
      · unfold fu; simp
    · refine ⟨x, ⟨5, 0, ce + 1, false⟩, ?_, ?_, .inl ?_, ?_⟩
      · unfold stp; simp only [stepF]; rw [if_neg hk, if_neg e2]
      · exact h.go hi ⟨rfl, .inl ⟨rfl, Nat.le_add_left 1 ce, by show ce + 1 ≤ n; omega, rfl⟩⟩ (by rw [← hs]) (by simp) (by rw [← hs]; simp)
      · unfold fu; simp; omega
      · unfold fu; simp; omega
  · rcases h.2 with ⟨rfl, hall⟩ | ⟨rfl, k, hk, hkw, hkn, hu⟩
    · refine ⟨1, ⟨0, 0, ce, true⟩, ?_, ⟨fun j hj => ?_, .inr ⟨rfl, i, hi, by rw [upE_same], by rw [upE_same], fun j hj hjw => ?_⟩⟩, .inl (by unfold fu; simp), by simp⟩
      · unfold stp; simp only [stepF]
        rw [if_pos (by rfl)]
        rfl
      · by_cases e : j = i
        · subst e; rw [upE_same]; exact ⟨rfl, .inr (.inr rfl)⟩
        · rw [upE_ne _ _ e]; exact h.1 j hj
      · by_cases e : j = i
        · exact e
        · rw [upE_ne _ _ e, (hall j hj).1] at hjw; cases hjw
    · refine ⟨1, ⟨0, 0, ce, false⟩, ?_, ?_, .inl (by unfold fu; simp), by simp⟩
      · unfold stp; simp only [stepF]
        rw [if_neg (by unfold l1; simp)]
      · exact h.go hi ⟨rfl, .inr (.inr rfl)⟩ (by rw [← hs]) (fun _ => .inr rfl) (by rw [← hs]; simp)
  · refine ⟨x, ⟨0, 0, ce, won⟩, rfl, ?_, .inr ⟨rfl, rfl⟩, by simp⟩
    exact h.go hi ⟨rfl, .inr (.inr rfl)⟩ (by rw [← hs]) (fun _ => .inl (by rw [← hs])) (fun _ => rfl)

theorem fine_fu {n : Nat} {s : Sv} (h : Fine n s) : fu n s ≤ n + 1 := by
  unfold fu
  rcases h.2 with ⟨a, b, _, _⟩ | ⟨a, _⟩ | a
  · rw [if_pos a]; omega
  · rw [if_neg (by omega), if_pos a]; omega
  · rw [if_neg (by omega), if_neg (by omega)]; omega
/-- how many of the first ones won -/
def CntW (S : Nat → Sv) (k c : Nat) : Prop := (c = 1 ∧ ∃ i, i < k ∧ (S i).won = true) ∨ (c = 0 ∧ ∀ i, i < k → (S i).won = false)
theorem CntW.at {S : Nat → Sv} {k c : Nat} (h : CntW S k c) (s : Sv) : CntW (upE S k s) k c := by
  rcases h with ⟨a, i, hi, hw⟩ | ⟨a, hall⟩
  · exact .inl ⟨a, i, hi, by rw [upE_ne _ _ (by omega)]; exact hw⟩
  · exact .inr ⟨a, fun i hi => by rw [upE_ne _ _ (by omega)]; exact hall i hi⟩
theorem CntW.no {S : Nat → Sv} {k c : Nat} (h : CntW S k c) (hk : (S k).won = false) : CntW S (k + 1) c := by
  rcases h with ⟨a, i, hi, hw⟩ | ⟨a, hall⟩
  · exact .inl ⟨a, i, by omega, hw⟩
  · refine .inr ⟨a, fun i hi => ?_⟩
    by_cases e : i = k
    · subst e; exact hk
    · exact hall i (by omega)
theorem CntW.yes {n x : Nat} {S : Nat → Sv} {k c : Nat} (h : CntW S k c) (ho : OneI n S x) (hkn : k < n) (hk : (S k).won = true) : c = 0 ∧ CntW S (k + 1) 1 := by
  refine ⟨?_, .inl ⟨rfl, k, by omega, hk⟩⟩
  rcases h with ⟨a, i, hi, hw⟩ | ⟨a, _⟩
  · rcases ho.2 with ⟨_, hall⟩ | ⟨_, q, _, _, _, hu⟩
    · have := (hall k hkn).1; rw [hk] at this; cases this
    · have h1 := hu i (by omega) hw
      have h2 := hu k hkn hk
      omega
  · exact a
theorem CntW.end {n x : Nat} {S : Nat → Sv} {c : Nat} (h : CntW S n c) (ho : OneI n S x) (h1 : 1 ≤ n) (hd : ∀ i, i < n → (S i).nx = 0) : c = 1 ∧ x = 1 := by
  rcases ho.2 with ⟨_, hall⟩ | ⟨e, k, hk, hkw, _, _⟩
  · exact absurd (hd 0 h1) (hall 0 h1).2
  · refine ⟨?_, e⟩
    rcases h with ⟨a, _⟩ | ⟨_, hall⟩
    · exact a
    · rw [hall k hk] at hkw; cases hkw

theorem Sts.did {w w' : World} {gl ge gc gn gg n m : Nat} {P : Nat → Option Nat} {S : Nat → Sv} {l : List Int} {i g : Nat} {s : Sv} (h : Sts w gl gc m P S) (he : EpB w ge gc gn gg n l) (hi : i < m) (hp : P i = some g) (hk : Keep [gn, g] w w') (hs : StV w' g gc s) : Sts w' gl gc m P (upE S i s) := by
  obtain ⟨cs, hb⟩ := h.bl
  exact h.one hi hp hk hs (blk_types hb he.cl.nu (by decide)) (fun j b hj hpj => blk_types (h.st j b hj hpj) he.cl.nu (by decide))
theorem EpB.put {w : World} {gl ge gc gn gg n m : Nat} {P : Nat → Option Nat} {S : Nat → Sv} {l : List Int} (he : EpB w ge gc gn gg n l) (h : Sts w gl gc m P S) (i : Nat) (v : Value) : EpB (w.setCell ⟨gl, i, none⟩ v) ge gc gn gg n l := by
  obtain ⟨cs, hb⟩ := h.bl
  exact he.other (blk_types he.es hb (by decide)) (blk_types he.cl.st hb (by decide)) (blk_types he.cl.nu hb (by decide)) i v

theorem Sts.put1 {w : World} {gl gc n : Nat} {P : Nat → Option Nat} {S : Nat → Sv} (h : Sts w gl gc n P S) {i : Nat} (hi : i < n) (g : Nat) (s : Sv) (hs : StV w g gc s) (hn : ∀ j, j < n → P j ≠ some g) : Sts (w.setCell ⟨gl, i, none⟩ (.pointer (some ⟨g, 0, none⟩))) gl gc n (upE P i (some g)) (upE S i s) :=
  h.put hi (some g) s (fun b hb => by injection hb with hb; subst hb; exact ⟨hs, hn⟩)
theorem Sts.at1 {w : World} {gl gc n : Nat} {P : Nat → Option Nat} {S : Nat → Sv} (h : Sts w gl gc n P S) {i g : Nat} (hi : i < n) (hp : P i = some g) : w.cell? ⟨gl, i, none⟩ = some (.pointer (some ⟨g, 0, none⟩)) := by
  have := h.cell i hi
  rw [hp] at this
  exact this

end Go.Proofs.Ytoeencklcemofaa
