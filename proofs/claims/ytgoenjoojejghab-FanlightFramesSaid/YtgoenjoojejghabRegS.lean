/-
  Regions that draw their order: the condition that holds throughout may be made stronger on the way (what a call told stays). Conditions stand in each theorem.
-/
import Derived.Test.YtgoenjoojejghabCut
import Derived.Test.YtgoenjoojejghabOwn
import Derived.Lib.Hide
namespace Go.Proofs.Ytgoenjoojejghab
open Go.RowKit Plain
set_option linter.unusedVariables false
set_option maxRecDepth 100000

theorem wpAnyH_mono {P : Program} {md : Region.Mode} {ops : Array Oper} {Q : Exit → Act → World → Prop} {S S' : World → Prop} (hSS : ∀ w, S' w → S w) :
    ∀ (fuel : Nat) (listed : Array Bool) (a : Act) (w : World), wpAnyH P md ops Q S' fuel listed a w → wpAnyH P md ops Q S fuel listed a w
  | 0, _, _, _, h => h
  | fuel + 1, _, _, _, h => ⟨h.1, fun i hi => wpOp_mono (fun a' w' h' => ⟨hSS _ h'.1, wpAnyH_mono hSS fuel _ a' w' h'.2⟩) (h.2 i hi)⟩

/-- S, and bytes that somebody told -/
structure SO (S : World → Prop) (A : Option Addr) (n c : Nat) (zs : List Int) (W : World) : Prop where
  s : S W
  o : Own W 0 A n c zs
theorem SO.str {S : World → Prop} {A : Option Addr} {n c : Nat} {zs : List Int} : ∀ W, SO S A n c zs W → (convert 24 9 (.slice A n c)).run Try.prog W = .ok (.string (strOfNums zs)) W :=
  fun W h => run_str W A n c zs h.o.len h.o.rd
/-- an operation of a region without a draw whose value is known -/
theorem wpList_val {P : Program} {ops : Array Oper} {Q : Exit → Act → World → Prop} {a : Act} {w : World} {rest : List Oper} {o : Oper} {v : Value}
    (hw : Region.wanted o (yielded ops a.tmps) = true) (hv : (execOp a.eval o).run P w = .ok (.value v) w) (h : wpList P ops Q rest (a.put o.dst v) w) : wpList P ops Q (o :: rest) a w := by
  unfold wpList
  rw [if_pos hw]
  refine .inl ?_
  unfold Oper.wp
  rw [hv]
  exact h
/-- an operation of a region without a draw that is not wanted -/
theorem wpList_no {P : Program} {ops : Array Oper} {Q : Exit → Act → World → Prop} {a : Act} {w : World} {rest : List Oper} {o : Oper}
    (hw : (!Region.wanted o (yielded ops a.tmps)) = true) (h : wpList P ops Q rest (a.put o.dst undef) w) : wpList P ops Q (o :: rest) a w := by
  unfold wpList
  rw [if_neg (by simpa using hw)]
  exact h
/-- the walk stands still ahead of the operation that fills slot k -/
theorem wpList_hold {P : Program} {ops : Array Oper} {Q : Exit → Act → World → Prop} {a : Act} {w : World} {rest : List Oper} {op : Op} {type : TypeId} {pos : String} {after : Array Edge} {gd : Option (Nat × Bool)} (k : Nat)
    (h : Hid (wpList P ops Q (⟨some k, op, type, pos, after, gd⟩ :: rest) a w)) : wpList P ops Q (⟨some k, op, type, pos, after, gd⟩ :: rest) a w := h.out
end Go.Proofs.Ytgoenjoojejghab
