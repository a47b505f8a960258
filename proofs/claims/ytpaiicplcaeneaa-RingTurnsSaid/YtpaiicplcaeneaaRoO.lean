/-
  Rows of ring.Act that came in. Conditions stand in each theorem.
-/
import Derived.Test.YtpaiicplcaeneaaRingOrder
import Derived.Test.YtpaiicplcaeneaaStructs
namespace Go.Proofs.Ytpaiicplcaeneaa
open Go.ChangeShapes Go.WideShapes Go.ChangeAt Go.RowKit Go.Deep Plain
set_option linter.unusedVariables false
set_option maxRecDepth 1000000

theorem open_acts20 {H : Type} {enc : TypeId × Value → H} {W : World} {a : Option Addr} {len cap : Nat} {d : DataW H} {p : List MemPlace} (h : DataW.Trod enc Try.prog W 0 (fun _ => true) true 38 (.slice a len cap) d p) :
    ∃ V, len ≤ len ∧ len ≤ cap ∧ cap ≤ maxLen ∧ RdS act20 W a len V := by
  obtain ⟨h1, h2, V, h3⟩ := open_structs act20 Try.underlying38 Try.underlying59 (by kernel_rfl) rfl (by kernel_rfl) (by decide) (fun j f hj => by
    match j, hj with
    | 0, hj => injection hj with hj; subst hj; exact ⟨_, rfl, Try.underlying3⟩
    | 1, hj => injection hj with hj; subst hj; exact ⟨_, rfl, Try.underlying4⟩
    | 2, hj => injection hj with hj; subst hj; exact ⟨_, rfl, Try.underlying22⟩
    | n + 3, hj => simp at hj) h
  exact ⟨V, Nat.le_refl _, h1, h2, h3⟩
end Go.Proofs.Ytpaiicplcaeneaa
