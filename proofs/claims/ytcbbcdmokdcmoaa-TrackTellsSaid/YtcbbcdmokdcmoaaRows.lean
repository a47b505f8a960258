/-
  No cell of these rows narrows 'for every input' (looked for: loops, veiled, ifaces, maps, wideKeys, modest, calm, conditions, laid).
  DERIVED. THE GIVEN ROWS OF THIS SEAT. 4 by the template 'for every input the law returns true; each argument reads behind the call as it read before'; 0 by the template 'total and deterministic' (their statements: YtcbbcdmokdcmoaaTotals.lean).
  GIVEN WITH THE SEED: the statements are not yours to turn. If you find one false, say at which input.
  Laid BY PROGRAM, IN A SANDBOX (cutbox-rows.mjs): the forced cells as the released guide's own fill.sh prints them over the translation e0b0f3d6e251fef3… (all of the seat's roots in one cut). By AI agents, Wed Nov 11 2026. No macro, syntax, notation, axiom, sorry.
-/
import Derived.Test.YtcbbcdmokdcmoaaChecked
import GoSem.Claim
import GoSem.ClaimJoined
import GoSem.ClaimMapViews
import Derived.JoinedTies
import Derived.KernelRfl
namespace Go.Proofs.Ytcbbcdmokdcmoaa
/- THE CELL 'sum', in the pinned program and in every row, IS THE sha256 OF THE DUMP (.gsa) THAT YtcbbcdmokdcmoaaProg.lean LOADS. Nothing in Lean hashes anything: it is a label: what it is worth is what the hold of that sum in a sandbox is worth. -/
noncomputable def Try.pinned : Pinned := { name := "ytcbbcdmokdcmoaa", sum := "e0b0f3d6e251fef32badfff2b3e9c312a58319dca6fc4865a849314e3b22d661", checked := Try.checked }
namespace Rows
def none {H : Type} : Left H := { results := [], args := [] }

/-- 'fanlightlaw13.TrackNext': WHATEVER THE INPUT: true; the input reads as it did. -/
def trackNextSpec : ChangeSpec := { name := "trackNext", fn := fun _ => fun
  | [d1, d2, d3] => { results := [.lit (.bool true)], args := [d1, d2, d3] }
  | _ => none }
def trackNextRow : OpenClaim := { program := "ytcbbcdmokdcmoaa", sum := "e0b0f3d6e251fef32badfff2b3e9c312a58319dca6fc4865a849314e3b22d661", func := "fanlight/fanlightlaw13.TrackNext", spec := "trackNext", apart := false }
def TrackNextSaid : Prop := trackNextRow.holds Try.pinned (OpenSpec.ofChange trackNextSpec)

/-- ITS FALSE NEIGHBOUR: 'it returns false'. Refute it at one input. -/
def trackNextWrong : ChangeSpec := { name := "trackNext", fn := fun _ => fun
  | [d1, d2, d3] => { results := [.lit (.bool false)], args := [d1, d2, d3] }
  | _ => none }
def TrackNextWrongFalsely : Prop := trackNextRow.holds Try.pinned (OpenSpec.ofChange trackNextWrong)

/-- 'fanlightlaw13.TrackTells': WHATEVER THE INPUT: true; the input reads as it did. -/
def trackTellsSpec : ChangeSpec := { name := "trackTells", fn := fun _ => fun
  | [d1, d2, d3] => { results := [.lit (.bool true)], args := [d1, d2, d3] }
  | _ => none }
def trackTellsRow : OpenClaim := { program := "ytcbbcdmokdcmoaa", sum := "e0b0f3d6e251fef32badfff2b3e9c312a58319dca6fc4865a849314e3b22d661", func := "fanlight/fanlightlaw13.TrackTells", spec := "trackTells", apart := false }
def TrackTellsSaid : Prop := trackTellsRow.holds Try.pinned (OpenSpec.ofChange trackTellsSpec)

/-- ITS FALSE NEIGHBOUR: 'it returns false'. Refute it at one input. -/
def trackTellsWrong : ChangeSpec := { name := "trackTells", fn := fun _ => fun
  | [d1, d2, d3] => { results := [.lit (.bool false)], args := [d1, d2, d3] }
  | _ => none }
def TrackTellsWrongFalsely : Prop := trackTellsRow.holds Try.pinned (OpenSpec.ofChange trackTellsWrong)

/-- 'fanlightlaw13.TrackRows': WHATEVER THE INPUT: true; the input reads as it did. -/
def trackRowsSpec : ChangeSpec := { name := "trackRows", fn := fun _ => fun
  | [d] => { results := [.lit (.bool true)], args := [d] }
  | _ => none }
def trackRowsRow : OpenClaim := { program := "ytcbbcdmokdcmoaa", sum := "e0b0f3d6e251fef32badfff2b3e9c312a58319dca6fc4865a849314e3b22d661", func := "fanlight/fanlightlaw13.TrackRows", spec := "trackRows", apart := false }
def TrackRowsSaid : Prop := trackRowsRow.holds Try.pinned (OpenSpec.ofChange trackRowsSpec)

/-- ITS FALSE NEIGHBOUR: 'it returns false'. Refute it at one input. -/
def trackRowsWrong : ChangeSpec := { name := "trackRows", fn := fun _ => fun
  | [d] => { results := [.lit (.bool false)], args := [d] }
  | _ => none }
def TrackRowsWrongFalsely : Prop := trackRowsRow.holds Try.pinned (OpenSpec.ofChange trackRowsWrong)

/-- 'fanlightlaw13.TrackEnds': WHATEVER THE INPUT: true; the input reads as it did. -/
def trackEndsSpec : ChangeSpec := { name := "trackEnds", fn := fun _ => fun
  | [d1, d2, d3] => { results := [.lit (.bool true)], args := [d1, d2, d3] }
  | _ => none }
def trackEndsRow : OpenClaim := { program := "ytcbbcdmokdcmoaa", sum := "e0b0f3d6e251fef32badfff2b3e9c312a58319dca6fc4865a849314e3b22d661", func := "fanlight/fanlightlaw13.TrackEnds", spec := "trackEnds", apart := false }
def TrackEndsSaid : Prop := trackEndsRow.holds Try.pinned (OpenSpec.ofChange trackEndsSpec)

/-- ITS FALSE NEIGHBOUR: 'it returns false'. Refute it at one input. -/
def trackEndsWrong : ChangeSpec := { name := "trackEnds", fn := fun _ => fun
  | [d1, d2, d3] => { results := [.lit (.bool false)], args := [d1, d2, d3] }
  | _ => none }
def TrackEndsWrongFalsely : Prop := trackEndsRow.holds Try.pinned (OpenSpec.ofChange trackEndsWrong)

/- THE SECOND FORM. 'bulk': how many values and letters a reading holds, each counted each time it is reached (what is shared counts as often as it is met; a slice's spare places count too). A statement '..UptoSaid' is the law's where the arguments, and the package variables that the reading takes, are together of bulk at most 1048576: NARROWER than '..Said'. Prove '..Said' where nothing that the law and all that it calls make is longer than what came in: it says more and counts as full. Else prove '..UptoSaid'. A law counts once. -/
mutual
def uptoBulk {H : Type} : DataW H → Nat
  | .lit (.string bytes) => bytes.length + 1
  | .lit _ => 1
  | .nil => 1
  | .ptr d => uptoBulk d + 1
  | .slice elems spare => uptoBulkAll elems + uptoBulkAll spare + 1
  | .agg parts => uptoBulkAll parts + 1
  | .iface _ d => uptoBulk d + 1
  | .map entries => uptoBulkEntries entries + 1
  | .held _ => 1
def uptoBulkAll {H : Type} : List (DataW H) → Nat
  | [] => 0
  | d :: r => uptoBulk d + uptoBulkAll r
def uptoBulkEntries {H : Type} : List (Lit × DataW H) → Nat
  | [] => 0
  | x :: r => uptoBulkEntry x + uptoBulkEntries r
def uptoBulkEntry {H : Type} : Lit × DataW H → Nat
  | (.string bytes, d) => bytes.length + uptoBulk d + 1
  | (_, d) => uptoBulk d + 1
 end
def uptoSmall : (H : Type) → List (DataW H) → Bool := fun _ ds => decide (uptoBulkAll ds ≤ 1048576)
def OpenSpec.upto (s : _root_.Go.ChangeSpec) : _root_.Go.OpenSpec := { _root_.Go.OpenSpec.ofChange s with cond := some uptoSmall }

/-- 'fanlightlaw13.TrackNext', WHERE WHAT IT READS IS OF BULK AT MOST 1048576: true; the input reads as it did. -/
def trackNextUptoRow : OpenClaim := { program := "ytcbbcdmokdcmoaa", sum := "e0b0f3d6e251fef32badfff2b3e9c312a58319dca6fc4865a849314e3b22d661", func := "fanlight/fanlightlaw13.TrackNext", spec := "trackNext", apart := false, narrowed := true }
def TrackNextUptoSaid : Prop := trackNextUptoRow.holds Try.pinned (OpenSpec.upto trackNextSpec)

/-- 'fanlightlaw13.TrackTells', WHERE WHAT IT READS IS OF BULK AT MOST 1048576: true; the input reads as it did. -/
def trackTellsUptoRow : OpenClaim := { program := "ytcbbcdmokdcmoaa", sum := "e0b0f3d6e251fef32badfff2b3e9c312a58319dca6fc4865a849314e3b22d661", func := "fanlight/fanlightlaw13.TrackTells", spec := "trackTells", apart := false, narrowed := true }
def TrackTellsUptoSaid : Prop := trackTellsUptoRow.holds Try.pinned (OpenSpec.upto trackTellsSpec)

/-- 'fanlightlaw13.TrackRows', WHERE WHAT IT READS IS OF BULK AT MOST 1048576: true; the input reads as it did. -/
def trackRowsUptoRow : OpenClaim := { program := "ytcbbcdmokdcmoaa", sum := "e0b0f3d6e251fef32badfff2b3e9c312a58319dca6fc4865a849314e3b22d661", func := "fanlight/fanlightlaw13.TrackRows", spec := "trackRows", apart := false, narrowed := true }
def TrackRowsUptoSaid : Prop := trackRowsUptoRow.holds Try.pinned (OpenSpec.upto trackRowsSpec)

/-- 'fanlightlaw13.TrackEnds', WHERE WHAT IT READS IS OF BULK AT MOST 1048576: true; the input reads as it did. -/
def trackEndsUptoRow : OpenClaim := { program := "ytcbbcdmokdcmoaa", sum := "e0b0f3d6e251fef32badfff2b3e9c312a58319dca6fc4865a849314e3b22d661", func := "fanlight/fanlightlaw13.TrackEnds", spec := "trackEnds", apart := false, narrowed := true }
def TrackEndsUptoSaid : Prop := trackEndsUptoRow.holds Try.pinned (OpenSpec.upto trackEndsSpec)

end Rows
end Go.Proofs.Ytcbbcdmokdcmoaa
