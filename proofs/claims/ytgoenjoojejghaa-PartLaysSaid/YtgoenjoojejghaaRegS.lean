/-
  Regions that draw their order: the condition that holds throughout may be made stronger on the way (what a call told stays). Conditions stand in each theorem.
-/
import Derived.Test.YtgoenjoojejghaaCut
import Derived.Test.YtgoenjoojejghaaOwn
namespace Go.Proofs.Ytgoenjoojejghaa
open Go.RowKit Plain
set_option linter.unusedVariables false
set_option maxRecDepth 100000

theorem wpAnyH_mono {P : Program} {md : Region.Mode} {ops : Array Oper} {Q : Exit → Act → World → Prop} {S S' : World → Prop} (hSS : ∀ w, S' w → S w) :
    ∀ (fuel : Nat) (listed : Array Bool) (a : Act) (w : World), wpAnyH P md ops Q S' fuel listed a w → wpAnyH P md ops Q S fuel listed a w
  | 0, _, _, _, h => h
  | fuel + 1, _, _, _, h => ⟨h.1, fun i hi => wpOp_mono (fun a' w' h' => ⟨hSS _ h'.1, wpAnyH_mono hSS fuel _ a' w' h'.2⟩) (h.2 i hi)⟩

/-- S, and bytes that somebody told -/
structure SO (S : World → Prop) (A : Option Addr) (n c : Nat) (zs : List Int) (W : World) : Prop where
  s : S W
  o : Own W 0 A n c zs
theorem SO.str {S : World → Prop} {A : Option Addr} {n c : Nat} {zs : List Int} : ∀ W, SO S A n c zs W → (convert 24 9 (.slice A n c)).run Try.prog W = .ok (.string (strOfNums zs)) W :=
  fun W h => run_str W A n c zs h.o.len h.o.rd
end Go.Proofs.Ytgoenjoojejghaa
