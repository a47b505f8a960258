/-
  A call on a list of numbers, as the document answers it (fanlightref05.Do), and the same on cells. Conditions stand in each theorem.
-/
import Derived.Test.YtaoookahpbalaaaCellsC
import Derived.Test.YtaoookahpbalaaaStructs
namespace Go.Proofs.Ytaoookahpbalaaa
open Go.RowKit Plain
set_option linter.unusedVariables false
set_option maxRecDepth 100000

/-- what a call tells, and what the list is then: 0 Load, 1 Store, 2 Cas, 3 Add -/
def opG (l : List Int) (k : Nat) (i : Nat) (a : Int) : Int :=
  match k with
  | 0 => l.getD i 0
  | 2 => if l.getD i 0 = a then 1 else 0
  | 3 => m64 (l.getD i 0 + a)
  | _ => 0
def opL (l : List Int) (k : Nat) (i : Nat) (a b : Int) : List Int :=
  match k with
  | 1 => l.set i a
  | 2 => if l.getD i 0 = a then l.set i b else l
  | 3 => l.set i (m64 (l.getD i 0 + a))
  | _ => l
theorem opL_length (l : List Int) (k i : Nat) (a b : Int) : (opL l k i a b).length = l.length := by
  unfold opL; split <;> (try split) <;> simp

set_option maxHeartbeats 1000000 in
theorem rdo_in {w : World} {g n : Nat} {l : List Int} (hr : Row .u64 26 w g l) (hn : l.length = n) (hnm : n ≤ 1000000) (hu : ∀ i, U64 (l.getD i 0)) (k i : Nat) (hk : k < 4) (hi : i < n) (a b : Int) (ha : U64 a) (hb : U64 b) :
    Calls Try.prog 27 #[.slice (some ⟨g, 0, none⟩) n n, .int .i64 k, .int .i64 i, .int .u64 a, .int .u64 b] w fun e w' => e = .returned (.int .u64 (opG l k i a)) ∧ Row .u64 26 w' g (opL l k i a b) ∧ w.grownBy w' (some g) := by
  have c0 := hr.at (i := i) (by omega)
  have f0 := hr.free i
  have hx := hu i
  have HR := Lib.hid hr
  have d1 : decide ((i : Int) < 0) = false := by simp
  have d2 : decide ((n : Int) ≤ (i : Int)) = false := by simp; omega
  have i0 : (i : Int) < (n : Int) := by omega
  unfold U64 at ha hb hx
  clear hr hn hu
  have key : k = 0 ∨ k = 1 ∨ k = 2 ∨ k = 3 := by omega
  rcases key with rfl | rfl | rfl | rfl
  · simp only [opG, opL]
    generalize l.getD i 0 = x at *
    go_enter Try.func27, Try.ntmps27
    go_wp2
    go_ret
    exact ⟨rfl, HR.out, World.grownBy.refl _ _⟩
  · simp only [opG, opL]
    generalize l.getD i 0 = x at *
    go_enter Try.func27, Try.ntmps27
    go_wp2
    go_ret
    exact ⟨rfl, HR.out.set i a, grown_setCell _ _ _ _⟩
  · simp only [opG, opL]
    generalize l.getD i 0 = x at *
    by_cases hxa : x = a
    · rw [if_pos hxa, if_pos hxa]
      subst hxa
      go_enter Try.func27, Try.ntmps27
      go_wp2
      go_ret
      exact ⟨rfl, HR.out.set i b, grown_setCell _ _ _ _⟩
    · rw [if_neg hxa, if_neg hxa]
      have e1 : (x == a) = false := by simpa using hxa
      clear hxa
      go_enter Try.func27, Try.ntmps27
      go_wp2
      go_ret
      exact ⟨rfl, HR.out, World.grownBy.refl _ _⟩
  · simp only [opG, opL]
    generalize l.getD i 0 = x at *
    have hs : IntKind.u64.wrap (x + a) = m64 (x + a) := IntKind.wrap_u64 _
    go_enter Try.func27, Try.ntmps27
    go_wp2
    go_ret
    exact ⟨rfl, HR.out.set i _, grown_setCell _ _ _ _⟩
theorem rdo_out {w : World} {A : Option Addr} {n c : Nat} (k i : Int) (hi : inC n i = false) (a b : Int) :
    Calls Try.prog 27 #[.slice A n c, .int .i64 k, .int .i64 i, .int .u64 a, .int .u64 b] w fun e w' => e = .returned (.int .u64 0) ∧ w = w' := by
  have h : i < 0 ∨ ((n : Int) ≤ i) := by
    unfold inC at hi; simp at hi; omega
  clear hi
  by_cases h0 : i < 0
  · have d1 : decide (i < 0) = true := by simpa using h0
    go_enter Try.func27, Try.ntmps27
    go_wp2
    go_ret
    exact ⟨rfl, rfl⟩
  · have d1 : decide (i < 0) = false := by simpa using h0
    have d2 : decide ((n : Int) ≤ i) = true := by simp; omega
    go_enter Try.func27, Try.ntmps27
    go_wp2
    go_ret
    exact ⟨rfl, rfl⟩
theorem rdo_in' {w : World} {g n : Nat} {l : List Int} (hr : Row .u64 26 w g l) (hn : l.length = n) (hnm : n ≤ 1000000) (hu : ∀ i, U64 (l.getD i 0)) (K : Int) (k i : Nat) (hK : K = (k : Int)) (hk : k < 4) (hi : i < n) (a b : Int) (ha : U64 a) (hb : U64 b) :
    Calls Try.prog 27 #[.slice (some ⟨g, 0, none⟩) n n, .int .i64 K, .int .i64 i, .int .u64 a, .int .u64 b] w fun e w' => e = .returned (.int .u64 (opG l k i a)) ∧ Row .u64 26 w' g (opL l k i a b) ∧ w.grownBy w' (some g) := by
  subst hK; exact rdo_in hr hn hnm hu k i hk hi a b ha hb
end Go.Proofs.Ytaoookahpbalaaa
