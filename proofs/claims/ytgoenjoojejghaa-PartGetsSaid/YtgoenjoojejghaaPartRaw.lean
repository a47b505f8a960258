/-
  PartRaw: its walk.
-/
import Derived.Test.YtgoenjoojejghaaRGet
import Derived.Test.YtgoenjoojejghaaPFrom
import Derived.Test.YtgoenjoojejghaaParts
import Derived.Test.YtgoenjoojejghaaOpenH
namespace Go.Proofs.Ytgoenjoojejghaa
open Go.RowKit Plain
set_option linter.unusedVariables false
set_option linter.unusedSimpArgs false
set_option maxRecDepth 100000

/-- two parts that lie there, and what was there -/
structure SP (w0 : World) (p5 p7 : Nat) (cs : Array Value) (w : World) : Prop where
  b5 : Blk w p5 38 cs
  b7 : Blk w p7 43 cs
  bel : Below w0.heap.size w0 w
theorem SP.below {w0 w w' : World} {p5 p7 : Nat} {cs : Array Value} (h : SP w0 p5 p7 cs w) (hb : Below w.heap.size w w') : SP w0 p5 p7 cs w' := ⟨h.b5.below hb, h.b7.below hb, bthen h.bel hb⟩
theorem SP.drew {w0 w : World} {p5 p7 : Nat} {cs : Array Value} (h : SP w0 p5 p7 cs w) : SP w0 p5 p7 cs w.drew := ⟨h.b5, h.b7, h.bel.drew⟩
theorem SP.redrewN {w0 w : World} {p5 p7 a : Nat} {cs : Array Value} (h : SP w0 p5 p7 cs (w.drewN a)) (b : Nat) : SP w0 p5 p7 cs (w.drewN b) := ⟨h.b5, h.b7, ⟨h.bel.os, h.bel.tape, h.bel.output, h.bel.size, h.bel.block⟩⟩

end Go.Proofs.Ytgoenjoojejghaa
