/-
  Arguments opened: a slice of bytes as a list that it reads as. Conditions: none beyond the reading itself.
-/
import Derived.Test.YtbnlpidhbilenaaWrap
import Derived.Test.YtbnlpidhbilenaaMem
namespace Go.Proofs.Ytbnlpidhbilenaa
open Go.ChangeShapes Go.WideShapes Go.ChangeAt Go.RowKit Plain
set_option linter.unusedVariables false
set_option maxRecDepth 100000

theorem open_rd {H : Type} {enc : TypeId × Value → H} {W : World} {a : Option Addr} {len cap : Nat} {d : DataW H} {p : List MemPlace} (h : DataW.Trod enc Try.prog W 0 (fun _ => true) true 27 (.slice a len cap) d p) :
    ∃ zs : List Int, zs.length = len ∧ len ≤ cap ∧ cap ≤ maxLen ∧ Rd W a zs := by
  obtain ⟨zs, hl, hc, hm, hby, hx⟩ := open_bytes h
  refine ⟨zs, hl, hc, hm, hby, fun hp => ?_⟩
  obtain ⟨b, off, e, _, hk⟩ := hx (by omega)
  exact ⟨b, off, e, fun k hk' => hk k (by omega)⟩
end Go.Proofs.Ytbnlpidhbilenaa
