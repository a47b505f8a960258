/-
  No cell of these rows narrows 'for every input' (looked for: loops, veiled, ifaces, maps, wideKeys, modest, calm, conditions, laid).
  DERIVED. THE GIVEN ROWS OF THIS SEAT. 7 by the template 'for every input the law returns true; each argument reads behind the call as it read before'; 0 by the template 'total and deterministic' (their statements: YtdkjipfemnfckaaTotals.lean).
  GIVEN WITH THE SEED: the statements are not yours to turn. If you find one false, say at which input.
  Laid BY PROGRAM, IN A SANDBOX (cutbox-rows.mjs): the forced cells as the released guide's own fill.sh prints them over the translation a842d8f0d9343833… (all of the seat's roots in one cut). By AI agents, Wed Nov 11 2026. No macro, syntax, notation, axiom, sorry.
-/
import Derived.Test.YtdkjipfemnfckaaChecked
import GoSem.Claim
import GoSem.ClaimJoined
import GoSem.ClaimMapViews
import Derived.JoinedTies
import Derived.KernelRfl
namespace Go.Proofs.Ytdkjipfemnfckaa
/- THE CELL 'sum', in the pinned program and in every row, IS THE sha256 OF THE DUMP (.gsa) THAT YtdkjipfemnfckaaProg.lean LOADS. Nothing in Lean hashes anything: it is a label: what it is worth is what the hold of that sum in a sandbox is worth. -/
noncomputable def Try.pinned : Pinned := { name := "ytdkjipfemnfckaa", sum := "a842d8f0d9343833a5967ea5ea4c0804bfd417a27212867c01ca24b94e1e0b2e", checked := Try.checked }
namespace Rows
def none {H : Type} : Left H := { results := [], args := [] }

/-- 'fanlightlaw04.RewriteFrames': WHATEVER THE INPUT: true; the input reads as it did. -/
def rewriteFramesSpec : ChangeSpec := { name := "rewriteFrames", fn := fun _ => fun
  | [d1, d2, d3] => { results := [.lit (.bool true)], args := [d1, d2, d3] }
  | _ => none }
def rewriteFramesRow : OpenClaim := { program := "ytdkjipfemnfckaa", sum := "a842d8f0d9343833a5967ea5ea4c0804bfd417a27212867c01ca24b94e1e0b2e", func := "fanlight/fanlightlaw04.RewriteFrames", spec := "rewriteFrames", apart := false }
def RewriteFramesSaid : Prop := rewriteFramesRow.holds Try.pinned (OpenSpec.ofChange rewriteFramesSpec)

/-- ITS FALSE NEIGHBOUR: 'it returns false'. Refute it at one input. -/
def rewriteFramesWrong : ChangeSpec := { name := "rewriteFrames", fn := fun _ => fun
  | [d1, d2, d3] => { results := [.lit (.bool false)], args := [d1, d2, d3] }
  | _ => none }
def RewriteFramesWrongFalsely : Prop := rewriteFramesRow.holds Try.pinned (OpenSpec.ofChange rewriteFramesWrong)

/-- 'fanlightlaw04.RewriteBack': WHATEVER THE INPUT: true; the input reads as it did. -/
def rewriteBackSpec : ChangeSpec := { name := "rewriteBack", fn := fun _ => fun
  | [d1, d2, d3] => { results := [.lit (.bool true)], args := [d1, d2, d3] }
  | _ => none }
def rewriteBackRow : OpenClaim := { program := "ytdkjipfemnfckaa", sum := "a842d8f0d9343833a5967ea5ea4c0804bfd417a27212867c01ca24b94e1e0b2e", func := "fanlight/fanlightlaw04.RewriteBack", spec := "rewriteBack", apart := false }
def RewriteBackSaid : Prop := rewriteBackRow.holds Try.pinned (OpenSpec.ofChange rewriteBackSpec)

/-- ITS FALSE NEIGHBOUR: 'it returns false'. Refute it at one input. -/
def rewriteBackWrong : ChangeSpec := { name := "rewriteBack", fn := fun _ => fun
  | [d1, d2, d3] => { results := [.lit (.bool false)], args := [d1, d2, d3] }
  | _ => none }
def RewriteBackWrongFalsely : Prop := rewriteBackRow.holds Try.pinned (OpenSpec.ofChange rewriteBackWrong)

/-- 'fanlightlaw04.RewriteRaw': WHATEVER THE INPUT: true; the input reads as it did. -/
def rewriteRawSpec : ChangeSpec := { name := "rewriteRaw", fn := fun _ => fun
  | [d1, d2, d3] => { results := [.lit (.bool true)], args := [d1, d2, d3] }
  | _ => none }
def rewriteRawRow : OpenClaim := { program := "ytdkjipfemnfckaa", sum := "a842d8f0d9343833a5967ea5ea4c0804bfd417a27212867c01ca24b94e1e0b2e", func := "fanlight/fanlightlaw04.RewriteRaw", spec := "rewriteRaw", apart := false }
def RewriteRawSaid : Prop := rewriteRawRow.holds Try.pinned (OpenSpec.ofChange rewriteRawSpec)

/-- ITS FALSE NEIGHBOUR: 'it returns false'. Refute it at one input. -/
def rewriteRawWrong : ChangeSpec := { name := "rewriteRaw", fn := fun _ => fun
  | [d1, d2, d3] => { results := [.lit (.bool false)], args := [d1, d2, d3] }
  | _ => none }
def RewriteRawWrongFalsely : Prop := rewriteRawRow.holds Try.pinned (OpenSpec.ofChange rewriteRawWrong)

/-- 'fanlightlaw21.SpreadTells': WHATEVER THE INPUT: true; the input reads as it did. -/
def spreadTellsSpec : ChangeSpec := { name := "spreadTells", fn := fun _ => fun
  | [d1, d2, d3] => { results := [.lit (.bool true)], args := [d1, d2, d3] }
  | _ => none }
def spreadTellsRow : OpenClaim := { program := "ytdkjipfemnfckaa", sum := "a842d8f0d9343833a5967ea5ea4c0804bfd417a27212867c01ca24b94e1e0b2e", func := "fanlight/fanlightlaw21.SpreadTells", spec := "spreadTells", apart := false }
def SpreadTellsSaid : Prop := spreadTellsRow.holds Try.pinned (OpenSpec.ofChange spreadTellsSpec)

/-- ITS FALSE NEIGHBOUR: 'it returns false'. Refute it at one input. -/
def spreadTellsWrong : ChangeSpec := { name := "spreadTells", fn := fun _ => fun
  | [d1, d2, d3] => { results := [.lit (.bool false)], args := [d1, d2, d3] }
  | _ => none }
def SpreadTellsWrongFalsely : Prop := spreadTellsRow.holds Try.pinned (OpenSpec.ofChange spreadTellsWrong)

/-- 'fanlightlaw21.SpreadBack': WHATEVER THE INPUT: true; the input reads as it did. -/
def spreadBackSpec : ChangeSpec := { name := "spreadBack", fn := fun _ => fun
  | [d1, d2, d3] => { results := [.lit (.bool true)], args := [d1, d2, d3] }
  | _ => none }
def spreadBackRow : OpenClaim := { program := "ytdkjipfemnfckaa", sum := "a842d8f0d9343833a5967ea5ea4c0804bfd417a27212867c01ca24b94e1e0b2e", func := "fanlight/fanlightlaw21.SpreadBack", spec := "spreadBack", apart := false }
def SpreadBackSaid : Prop := spreadBackRow.holds Try.pinned (OpenSpec.ofChange spreadBackSpec)

/-- ITS FALSE NEIGHBOUR: 'it returns false'. Refute it at one input. -/
def spreadBackWrong : ChangeSpec := { name := "spreadBack", fn := fun _ => fun
  | [d1, d2, d3] => { results := [.lit (.bool false)], args := [d1, d2, d3] }
  | _ => none }
def SpreadBackWrongFalsely : Prop := spreadBackRow.holds Try.pinned (OpenSpec.ofChange spreadBackWrong)

/-- 'fanlightlaw21.SpreadOne': WHATEVER THE INPUT: true; the input reads as it did. -/
def spreadOneSpec : ChangeSpec := { name := "spreadOne", fn := fun _ => fun
  | [d1, d2, d3] => { results := [.lit (.bool true)], args := [d1, d2, d3] }
  | _ => none }
def spreadOneRow : OpenClaim := { program := "ytdkjipfemnfckaa", sum := "a842d8f0d9343833a5967ea5ea4c0804bfd417a27212867c01ca24b94e1e0b2e", func := "fanlight/fanlightlaw21.SpreadOne", spec := "spreadOne", apart := false }
def SpreadOneSaid : Prop := spreadOneRow.holds Try.pinned (OpenSpec.ofChange spreadOneSpec)

/-- ITS FALSE NEIGHBOUR: 'it returns false'. Refute it at one input. -/
def spreadOneWrong : ChangeSpec := { name := "spreadOne", fn := fun _ => fun
  | [d1, d2, d3] => { results := [.lit (.bool false)], args := [d1, d2, d3] }
  | _ => none }
def SpreadOneWrongFalsely : Prop := spreadOneRow.holds Try.pinned (OpenSpec.ofChange spreadOneWrong)

/-- 'fanlighttop.FanlightThere': WHATEVER THE INPUT: true; the input reads as it did. -/
def fanlightThereSpec : ChangeSpec := { name := "fanlightThere", fn := fun _ => fun
  | [d1, d2, d3] => { results := [.lit (.bool true)], args := [d1, d2, d3] }
  | _ => none }
def fanlightThereRow : OpenClaim := { program := "ytdkjipfemnfckaa", sum := "a842d8f0d9343833a5967ea5ea4c0804bfd417a27212867c01ca24b94e1e0b2e", func := "fanlight/fanlighttop.FanlightThere", spec := "fanlightThere", apart := false }
def FanlightThereSaid : Prop := fanlightThereRow.holds Try.pinned (OpenSpec.ofChange fanlightThereSpec)

/-- ITS FALSE NEIGHBOUR: 'it returns false'. Refute it at one input. -/
def fanlightThereWrong : ChangeSpec := { name := "fanlightThere", fn := fun _ => fun
  | [d1, d2, d3] => { results := [.lit (.bool false)], args := [d1, d2, d3] }
  | _ => none }
def FanlightThereWrongFalsely : Prop := fanlightThereRow.holds Try.pinned (OpenSpec.ofChange fanlightThereWrong)

/- THE SECOND FORM. 'bulk': how many values and letters a reading holds, each counted each time it is reached (what is shared counts as often as it is met; a slice's spare places count too). A statement '..UptoSaid' is the law's where the arguments, and the package variables that the reading takes, are together of bulk at most 1048576: NARROWER than '..Said'. Prove '..Said' where nothing that the law and all that it calls make is longer than what came in: it says more and counts as full. Else prove '..UptoSaid'. A law counts once. -/
mutual
def uptoBulk {H : Type} : DataW H → Nat
  | .lit (.string bytes) => bytes.length + 1
  | .lit _ => 1
  | .nil => 1
  | .ptr d => uptoBulk d + 1
  | .slice elems spare => uptoBulkAll elems + uptoBulkAll spare + 1
  | .agg parts => uptoBulkAll parts + 1
  | .iface _ d => uptoBulk d + 1
  | .map entries => uptoBulkEntries entries + 1
  | .held _ => 1
def uptoBulkAll {H : Type} : List (DataW H) → Nat
  | [] => 0
  | d :: r => uptoBulk d + uptoBulkAll r
def uptoBulkEntries {H : Type} : List (Lit × DataW H) → Nat
  | [] => 0
  | x :: r => uptoBulkEntry x + uptoBulkEntries r
def uptoBulkEntry {H : Type} : Lit × DataW H → Nat
  | (.string bytes, d) => bytes.length + uptoBulk d + 1
  | (_, d) => uptoBulk d + 1
 end
def uptoSmall : (H : Type) → List (DataW H) → Bool := fun _ ds => decide (uptoBulkAll ds ≤ 1048576)
def OpenSpec.upto (s : _root_.Go.ChangeSpec) : _root_.Go.OpenSpec := { _root_.Go.OpenSpec.ofChange s with cond := some uptoSmall }

/-- 'fanlightlaw04.RewriteFrames', WHERE WHAT IT READS IS OF BULK AT MOST 1048576: true; the input reads as it did. -/
def rewriteFramesUptoRow : OpenClaim := { program := "ytdkjipfemnfckaa", sum := "a842d8f0d9343833a5967ea5ea4c0804bfd417a27212867c01ca24b94e1e0b2e", func := "fanlight/fanlightlaw04.RewriteFrames", spec := "rewriteFrames", apart := false, narrowed := true }
def RewriteFramesUptoSaid : Prop := rewriteFramesUptoRow.holds Try.pinned (OpenSpec.upto rewriteFramesSpec)

/-- 'fanlightlaw04.RewriteBack', WHERE WHAT IT READS IS OF BULK AT MOST 1048576: true; the input reads as it did. -/
def rewriteBackUptoRow : OpenClaim := { program := "ytdkjipfemnfckaa", sum := "a842d8f0d9343833a5967ea5ea4c0804bfd417a27212867c01ca24b94e1e0b2e", func := "fanlight/fanlightlaw04.RewriteBack", spec := "rewriteBack", apart := false, narrowed := true }
def RewriteBackUptoSaid : Prop := rewriteBackUptoRow.holds Try.pinned (OpenSpec.upto rewriteBackSpec)

/-- 'fanlightlaw04.RewriteRaw', WHERE WHAT IT READS IS OF BULK AT MOST 1048576: true; the input reads as it did. -/
def rewriteRawUptoRow : OpenClaim := { program := "ytdkjipfemnfckaa", sum := "a842d8f0d9343833a5967ea5ea4c0804bfd417a27212867c01ca24b94e1e0b2e", func := "fanlight/fanlightlaw04.RewriteRaw", spec := "rewriteRaw", apart := false, narrowed := true }
def RewriteRawUptoSaid : Prop := rewriteRawUptoRow.holds Try.pinned (OpenSpec.upto rewriteRawSpec)

/-- 'fanlightlaw21.SpreadTells', WHERE WHAT IT READS IS OF BULK AT MOST 1048576: true; the input reads as it did. -/
def spreadTellsUptoRow : OpenClaim := { program := "ytdkjipfemnfckaa", sum := "a842d8f0d9343833a5967ea5ea4c0804bfd417a27212867c01ca24b94e1e0b2e", func := "fanlight/fanlightlaw21.SpreadTells", spec := "spreadTells", apart := false, narrowed := true }
def SpreadTellsUptoSaid : Prop := spreadTellsUptoRow.holds Try.pinned (OpenSpec.upto spreadTellsSpec)

/-- 'fanlightlaw21.SpreadBack', WHERE WHAT IT READS IS OF BULK AT MOST 1048576: true; the input reads as it did. -/
def spreadBackUptoRow : OpenClaim := { program := "ytdkjipfemnfckaa", sum := "a842d8f0d9343833a5967ea5ea4c0804bfd417a27212867c01ca24b94e1e0b2e", func := "fanlight/fanlightlaw21.SpreadBack", spec := "spreadBack", apart := false, narrowed := true }
def SpreadBackUptoSaid : Prop := spreadBackUptoRow.holds Try.pinned (OpenSpec.upto spreadBackSpec)

/-- 'fanlightlaw21.SpreadOne', WHERE WHAT IT READS IS OF BULK AT MOST 1048576: true; the input reads as it did. -/
def spreadOneUptoRow : OpenClaim := { program := "ytdkjipfemnfckaa", sum := "a842d8f0d9343833a5967ea5ea4c0804bfd417a27212867c01ca24b94e1e0b2e", func := "fanlight/fanlightlaw21.SpreadOne", spec := "spreadOne", apart := false, narrowed := true }
def SpreadOneUptoSaid : Prop := spreadOneUptoRow.holds Try.pinned (OpenSpec.upto spreadOneSpec)

/-- 'fanlighttop.FanlightThere', WHERE WHAT IT READS IS OF BULK AT MOST 1048576: true; the input reads as it did. -/
def fanlightThereUptoRow : OpenClaim := { program := "ytdkjipfemnfckaa", sum := "a842d8f0d9343833a5967ea5ea4c0804bfd417a27212867c01ca24b94e1e0b2e", func := "fanlight/fanlighttop.FanlightThere", spec := "fanlightThere", apart := false, narrowed := true }
def FanlightThereUptoSaid : Prop := fanlightThereUptoRow.holds Try.pinned (OpenSpec.upto fanlightThereSpec)

end Rows
end Go.Proofs.Ytdkjipfemnfckaa
