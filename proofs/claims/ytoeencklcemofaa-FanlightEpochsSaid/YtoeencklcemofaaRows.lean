/-
  No cell of these rows narrows 'for every input' (looked for: loops, veiled, ifaces, maps, wideKeys, modest, calm, conditions, laid).
  DERIVED. THE GIVEN ROWS OF THIS SEAT. 12 by the template 'for every input the law returns true; each argument reads behind the call as it read before'; 0 by the template 'total and deterministic' (their statements: YtoeencklcemofaaTotals.lean).
  GIVEN WITH THE SEED: the statements are not yours to turn. If you find one false, say at which input.
  Laid BY PROGRAM, IN A SANDBOX (cutbox-rows.mjs): the forced cells as the released guide's own fill.sh prints them over the translation b5ddc15be5a7658d… (all of the seat's roots in one cut). By AI agents, Wed Nov 11 2026. No macro, syntax, notation, axiom, sorry.
-/
import Derived.Test.YtoeencklcemofaaChecked
import GoSem.Claim
import GoSem.ClaimJoined
import GoSem.ClaimMapViews
import Derived.JoinedTies
import Derived.KernelRfl
namespace Go.Proofs.Ytoeencklcemofaa
/- THE CELL 'sum', in the pinned program and in every row, IS THE sha256 OF THE DUMP (.gsa) THAT YtoeencklcemofaaProg.lean LOADS. Nothing in Lean hashes anything: it is a label: what it is worth is what the hold of that sum in a sandbox is worth. -/
noncomputable def Try.pinned : Pinned := { name := "ytoeencklcemofaa", sum := "b5ddc15be5a7658da50d647e047667e3acfa2988ba671f8698abbd79a73276a5", checked := Try.checked }
namespace Rows
def none {H : Type} : Left H := { results := [], args := [] }

/-- 'fanlightlaw01.SumBytes': WHATEVER THE INPUT: true; the input reads as it did. -/
def sumBytesSpec : ChangeSpec := { name := "sumBytes", fn := fun _ => fun
  | [d1, d2, d3] => { results := [.lit (.bool true)], args := [d1, d2, d3] }
  | _ => none }
def sumBytesRow : OpenClaim := { program := "ytoeencklcemofaa", sum := "b5ddc15be5a7658da50d647e047667e3acfa2988ba671f8698abbd79a73276a5", func := "fanlight/fanlightlaw01.SumBytes", spec := "sumBytes", apart := false }
def SumBytesSaid : Prop := sumBytesRow.holds Try.pinned (OpenSpec.ofChange sumBytesSpec)

/-- ITS FALSE NEIGHBOUR: 'it returns false'. Refute it at one input. -/
def sumBytesWrong : ChangeSpec := { name := "sumBytes", fn := fun _ => fun
  | [d1, d2, d3] => { results := [.lit (.bool false)], args := [d1, d2, d3] }
  | _ => none }
def SumBytesWrongFalsely : Prop := sumBytesRow.holds Try.pinned (OpenSpec.ofChange sumBytesWrong)

/-- 'fanlightlaw01.SumFixes': WHATEVER THE INPUT: true; the input reads as it did. -/
def sumFixesSpec : ChangeSpec := { name := "sumFixes", fn := fun _ => fun
  | [d1, d2, d3] => { results := [.lit (.bool true)], args := [d1, d2, d3] }
  | _ => none }
def sumFixesRow : OpenClaim := { program := "ytoeencklcemofaa", sum := "b5ddc15be5a7658da50d647e047667e3acfa2988ba671f8698abbd79a73276a5", func := "fanlight/fanlightlaw01.SumFixes", spec := "sumFixes", apart := false }
def SumFixesSaid : Prop := sumFixesRow.holds Try.pinned (OpenSpec.ofChange sumFixesSpec)

/-- ITS FALSE NEIGHBOUR: 'it returns false'. Refute it at one input. -/
def sumFixesWrong : ChangeSpec := { name := "sumFixes", fn := fun _ => fun
  | [d1, d2, d3] => { results := [.lit (.bool false)], args := [d1, d2, d3] }
  | _ => none }
def SumFixesWrongFalsely : Prop := sumFixesRow.holds Try.pinned (OpenSpec.ofChange sumFixesWrong)

/-- 'fanlightlaw02.HeadPuts': WHATEVER THE INPUT: true; the input reads as it did. -/
def headPutsSpec : ChangeSpec := { name := "headPuts", fn := fun _ => fun
  | [d1, d2, d3] => { results := [.lit (.bool true)], args := [d1, d2, d3] }
  | _ => none }
def headPutsRow : OpenClaim := { program := "ytoeencklcemofaa", sum := "b5ddc15be5a7658da50d647e047667e3acfa2988ba671f8698abbd79a73276a5", func := "fanlight/fanlightlaw02.HeadPuts", spec := "headPuts", apart := false }
def HeadPutsSaid : Prop := headPutsRow.holds Try.pinned (OpenSpec.ofChange headPutsSpec)

/-- ITS FALSE NEIGHBOUR: 'it returns false'. Refute it at one input. -/
def headPutsWrong : ChangeSpec := { name := "headPuts", fn := fun _ => fun
  | [d1, d2, d3] => { results := [.lit (.bool false)], args := [d1, d2, d3] }
  | _ => none }
def HeadPutsWrongFalsely : Prop := headPutsRow.holds Try.pinned (OpenSpec.ofChange headPutsWrong)

/-- 'fanlightlaw02.HeadGets': WHATEVER THE INPUT: true; the input reads as it did. -/
def headGetsSpec : ChangeSpec := { name := "headGets", fn := fun _ => fun
  | [d1, d2, d3] => { results := [.lit (.bool true)], args := [d1, d2, d3] }
  | _ => none }
def headGetsRow : OpenClaim := { program := "ytoeencklcemofaa", sum := "b5ddc15be5a7658da50d647e047667e3acfa2988ba671f8698abbd79a73276a5", func := "fanlight/fanlightlaw02.HeadGets", spec := "headGets", apart := false }
def HeadGetsSaid : Prop := headGetsRow.holds Try.pinned (OpenSpec.ofChange headGetsSpec)

/-- ITS FALSE NEIGHBOUR: 'it returns false'. Refute it at one input. -/
def headGetsWrong : ChangeSpec := { name := "headGets", fn := fun _ => fun
  | [d1, d2, d3] => { results := [.lit (.bool false)], args := [d1, d2, d3] }
  | _ => none }
def HeadGetsWrongFalsely : Prop := headGetsRow.holds Try.pinned (OpenSpec.ofChange headGetsWrong)

/-- 'fanlightlaw03.PartLays': WHATEVER THE INPUT: true; the input reads as it did. -/
def partLaysSpec : ChangeSpec := { name := "partLays", fn := fun _ => fun
  | [d] => { results := [.lit (.bool true)], args := [d] }
  | _ => none }
def partLaysRow : OpenClaim := { program := "ytoeencklcemofaa", sum := "b5ddc15be5a7658da50d647e047667e3acfa2988ba671f8698abbd79a73276a5", func := "fanlight/fanlightlaw03.PartLays", spec := "partLays", apart := false }
def PartLaysSaid : Prop := partLaysRow.holds Try.pinned (OpenSpec.ofChange partLaysSpec)

/-- ITS FALSE NEIGHBOUR: 'it returns false'. Refute it at one input. -/
def partLaysWrong : ChangeSpec := { name := "partLays", fn := fun _ => fun
  | [d] => { results := [.lit (.bool false)], args := [d] }
  | _ => none }
def PartLaysWrongFalsely : Prop := partLaysRow.holds Try.pinned (OpenSpec.ofChange partLaysWrong)

/-- 'fanlightlaw03.PartRaw': WHATEVER THE INPUT: true; the input reads as it did. -/
def partRawSpec : ChangeSpec := { name := "partRaw", fn := fun _ => fun
  | [d1, d2] => { results := [.lit (.bool true)], args := [d1, d2] }
  | _ => none }
def partRawRow : OpenClaim := { program := "ytoeencklcemofaa", sum := "b5ddc15be5a7658da50d647e047667e3acfa2988ba671f8698abbd79a73276a5", func := "fanlight/fanlightlaw03.PartRaw", spec := "partRaw", apart := false }
def PartRawSaid : Prop := partRawRow.holds Try.pinned (OpenSpec.ofChange partRawSpec)

/-- ITS FALSE NEIGHBOUR: 'it returns false'. Refute it at one input. -/
def partRawWrong : ChangeSpec := { name := "partRaw", fn := fun _ => fun
  | [d1, d2] => { results := [.lit (.bool false)], args := [d1, d2] }
  | _ => none }
def PartRawWrongFalsely : Prop := partRawRow.holds Try.pinned (OpenSpec.ofChange partRawWrong)

/-- 'fanlightlaw03.PartBits': WHATEVER THE INPUT: true; the input reads as it did. -/
def partBitsSpec : ChangeSpec := { name := "partBits", fn := fun _ => fun
  | [d1, d2] => { results := [.lit (.bool true)], args := [d1, d2] }
  | _ => none }
def partBitsRow : OpenClaim := { program := "ytoeencklcemofaa", sum := "b5ddc15be5a7658da50d647e047667e3acfa2988ba671f8698abbd79a73276a5", func := "fanlight/fanlightlaw03.PartBits", spec := "partBits", apart := false }
def PartBitsSaid : Prop := partBitsRow.holds Try.pinned (OpenSpec.ofChange partBitsSpec)

/-- ITS FALSE NEIGHBOUR: 'it returns false'. Refute it at one input. -/
def partBitsWrong : ChangeSpec := { name := "partBits", fn := fun _ => fun
  | [d1, d2] => { results := [.lit (.bool false)], args := [d1, d2] }
  | _ => none }
def PartBitsWrongFalsely : Prop := partBitsRow.holds Try.pinned (OpenSpec.ofChange partBitsWrong)

/-- 'fanlightlaw03.PartNests': WHATEVER THE INPUT: true; the input reads as it did. -/
def partNestsSpec : ChangeSpec := { name := "partNests", fn := fun _ => fun
  | [d1, d2] => { results := [.lit (.bool true)], args := [d1, d2] }
  | _ => none }
def partNestsRow : OpenClaim := { program := "ytoeencklcemofaa", sum := "b5ddc15be5a7658da50d647e047667e3acfa2988ba671f8698abbd79a73276a5", func := "fanlight/fanlightlaw03.PartNests", spec := "partNests", apart := false }
def PartNestsSaid : Prop := partNestsRow.holds Try.pinned (OpenSpec.ofChange partNestsSpec)

/-- ITS FALSE NEIGHBOUR: 'it returns false'. Refute it at one input. -/
def partNestsWrong : ChangeSpec := { name := "partNests", fn := fun _ => fun
  | [d1, d2] => { results := [.lit (.bool false)], args := [d1, d2] }
  | _ => none }
def PartNestsWrongFalsely : Prop := partNestsRow.holds Try.pinned (OpenSpec.ofChange partNestsWrong)

/-- 'fanlightlaw03.PartBare': WHATEVER THE INPUT: true; the input reads as it did. -/
def partBareSpec : ChangeSpec := { name := "partBare", fn := fun _ => fun
  | [d1, d2] => { results := [.lit (.bool true)], args := [d1, d2] }
  | _ => none }
def partBareRow : OpenClaim := { program := "ytoeencklcemofaa", sum := "b5ddc15be5a7658da50d647e047667e3acfa2988ba671f8698abbd79a73276a5", func := "fanlight/fanlightlaw03.PartBare", spec := "partBare", apart := false }
def PartBareSaid : Prop := partBareRow.holds Try.pinned (OpenSpec.ofChange partBareSpec)

/-- ITS FALSE NEIGHBOUR: 'it returns false'. Refute it at one input. -/
def partBareWrong : ChangeSpec := { name := "partBare", fn := fun _ => fun
  | [d1, d2] => { results := [.lit (.bool false)], args := [d1, d2] }
  | _ => none }
def PartBareWrongFalsely : Prop := partBareRow.holds Try.pinned (OpenSpec.ofChange partBareWrong)

/-- 'fanlightlaw07.EpochOne': WHATEVER THE INPUT: true; the input reads as it did. -/
def epochOneSpec : ChangeSpec := { name := "epochOne", fn := fun _ => fun
  | [d1, d2] => { results := [.lit (.bool true)], args := [d1, d2] }
  | _ => none }
def epochOneRow : OpenClaim := { program := "ytoeencklcemofaa", sum := "b5ddc15be5a7658da50d647e047667e3acfa2988ba671f8698abbd79a73276a5", func := "fanlight/fanlightlaw07.EpochOne", spec := "epochOne", inPlace := ["sync/atomic.LoadUint64", "sync/atomic.StoreUint64", "sync/atomic.CompareAndSwapUint64"], apart := false }
def EpochOneSaid : Prop := epochOneRow.holds Try.pinned (OpenSpec.ofChange epochOneSpec)

/-- ITS FALSE NEIGHBOUR: 'it returns false'. Refute it at one input. -/
def epochOneWrong : ChangeSpec := { name := "epochOne", fn := fun _ => fun
  | [d1, d2] => { results := [.lit (.bool false)], args := [d1, d2] }
  | _ => none }
def EpochOneWrongFalsely : Prop := epochOneRow.holds Try.pinned (OpenSpec.ofChange epochOneWrong)

/-- 'fanlighttop.FanlightFrames': WHATEVER THE INPUT: true; the input reads as it did. -/
def fanlightFramesSpec : ChangeSpec := { name := "fanlightFrames", fn := fun _ => fun
  | [d1, d2, d3] => { results := [.lit (.bool true)], args := [d1, d2, d3] }
  | _ => none }
def fanlightFramesRow : OpenClaim := { program := "ytoeencklcemofaa", sum := "b5ddc15be5a7658da50d647e047667e3acfa2988ba671f8698abbd79a73276a5", func := "fanlight/fanlighttop.FanlightFrames", spec := "fanlightFrames", apart := false }
def FanlightFramesSaid : Prop := fanlightFramesRow.holds Try.pinned (OpenSpec.ofChange fanlightFramesSpec)

/-- ITS FALSE NEIGHBOUR: 'it returns false'. Refute it at one input. -/
def fanlightFramesWrong : ChangeSpec := { name := "fanlightFrames", fn := fun _ => fun
  | [d1, d2, d3] => { results := [.lit (.bool false)], args := [d1, d2, d3] }
  | _ => none }
def FanlightFramesWrongFalsely : Prop := fanlightFramesRow.holds Try.pinned (OpenSpec.ofChange fanlightFramesWrong)

/-- 'fanlighttop.FanlightEpochs': WHATEVER THE INPUT: true; the input reads as it did. -/
def fanlightEpochsSpec : ChangeSpec := { name := "fanlightEpochs", fn := fun _ => fun
  | [d1, d2] => { results := [.lit (.bool true)], args := [d1, d2] }
  | _ => none }
def fanlightEpochsRow : OpenClaim := { program := "ytoeencklcemofaa", sum := "b5ddc15be5a7658da50d647e047667e3acfa2988ba671f8698abbd79a73276a5", func := "fanlight/fanlighttop.FanlightEpochs", spec := "fanlightEpochs", inPlace := ["sync/atomic.LoadUint64", "sync/atomic.StoreUint64", "sync/atomic.CompareAndSwapUint64"], apart := false }
def FanlightEpochsSaid : Prop := fanlightEpochsRow.holds Try.pinned (OpenSpec.ofChange fanlightEpochsSpec)

/-- ITS FALSE NEIGHBOUR: 'it returns false'. Refute it at one input. -/
def fanlightEpochsWrong : ChangeSpec := { name := "fanlightEpochs", fn := fun _ => fun
  | [d1, d2] => { results := [.lit (.bool false)], args := [d1, d2] }
  | _ => none }
def FanlightEpochsWrongFalsely : Prop := fanlightEpochsRow.holds Try.pinned (OpenSpec.ofChange fanlightEpochsWrong)

/- THE SECOND FORM. 'bulk': how many values and letters a reading holds, each counted each time it is reached (what is shared counts as often as it is met; a slice's spare places count too). A statement '..UptoSaid' is the law's where the arguments, and the package variables that the reading takes, are together of bulk at most 1048576: NARROWER than '..Said'. Prove '..Said' where nothing that the law and all that it calls make is longer than what came in: it says more and counts as full. Else prove '..UptoSaid'. A law counts once. -/
mutual
def uptoBulk {H : Type} : DataW H → Nat
  | .lit (.string bytes) => bytes.length + 1
  | .lit _ => 1
  | .nil => 1
  | .ptr d => uptoBulk d + 1
  | .slice elems spare => uptoBulkAll elems + uptoBulkAll spare + 1
  | .agg parts => uptoBulkAll parts + 1
  | .iface _ d => uptoBulk d + 1
  | .map entries => uptoBulkEntries entries + 1
  | .held _ => 1
def uptoBulkAll {H : Type} : List (DataW H) → Nat
  | [] => 0
  | d :: r => uptoBulk d + uptoBulkAll r
def uptoBulkEntries {H : Type} : List (Lit × DataW H) → Nat
  | [] => 0
  | x :: r => uptoBulkEntry x + uptoBulkEntries r
def uptoBulkEntry {H : Type} : Lit × DataW H → Nat
  | (.string bytes, d) => bytes.length + uptoBulk d + 1
  | (_, d) => uptoBulk d + 1
 end
def uptoSmall : (H : Type) → List (DataW H) → Bool := fun _ ds => decide (uptoBulkAll ds ≤ 1048576)
def OpenSpec.upto (s : _root_.Go.ChangeSpec) : _root_.Go.OpenSpec := { _root_.Go.OpenSpec.ofChange s with cond := some uptoSmall }

/-- 'fanlightlaw01.SumBytes', WHERE WHAT IT READS IS OF BULK AT MOST 1048576: true; the input reads as it did. -/
def sumBytesUptoRow : OpenClaim := { program := "ytoeencklcemofaa", sum := "b5ddc15be5a7658da50d647e047667e3acfa2988ba671f8698abbd79a73276a5", func := "fanlight/fanlightlaw01.SumBytes", spec := "sumBytes", apart := false, narrowed := true }
def SumBytesUptoSaid : Prop := sumBytesUptoRow.holds Try.pinned (OpenSpec.upto sumBytesSpec)

/-- 'fanlightlaw01.SumFixes', WHERE WHAT IT READS IS OF BULK AT MOST 1048576: true; the input reads as it did. -/
def sumFixesUptoRow : OpenClaim := { program := "ytoeencklcemofaa", sum := "b5ddc15be5a7658da50d647e047667e3acfa2988ba671f8698abbd79a73276a5", func := "fanlight/fanlightlaw01.SumFixes", spec := "sumFixes", apart := false, narrowed := true }
def SumFixesUptoSaid : Prop := sumFixesUptoRow.holds Try.pinned (OpenSpec.upto sumFixesSpec)

/-- 'fanlightlaw02.HeadPuts', WHERE WHAT IT READS IS OF BULK AT MOST 1048576: true; the input reads as it did. -/
def headPutsUptoRow : OpenClaim := { program := "ytoeencklcemofaa", sum := "b5ddc15be5a7658da50d647e047667e3acfa2988ba671f8698abbd79a73276a5", func := "fanlight/fanlightlaw02.HeadPuts", spec := "headPuts", apart := false, narrowed := true }
def HeadPutsUptoSaid : Prop := headPutsUptoRow.holds Try.pinned (OpenSpec.upto headPutsSpec)

/-- 'fanlightlaw02.HeadGets', WHERE WHAT IT READS IS OF BULK AT MOST 1048576: true; the input reads as it did. -/
def headGetsUptoRow : OpenClaim := { program := "ytoeencklcemofaa", sum := "b5ddc15be5a7658da50d647e047667e3acfa2988ba671f8698abbd79a73276a5", func := "fanlight/fanlightlaw02.HeadGets", spec := "headGets", apart := false, narrowed := true }
def HeadGetsUptoSaid : Prop := headGetsUptoRow.holds Try.pinned (OpenSpec.upto headGetsSpec)

/-- 'fanlightlaw03.PartLays', WHERE WHAT IT READS IS OF BULK AT MOST 1048576: true; the input reads as it did. -/
def partLaysUptoRow : OpenClaim := { program := "ytoeencklcemofaa", sum := "b5ddc15be5a7658da50d647e047667e3acfa2988ba671f8698abbd79a73276a5", func := "fanlight/fanlightlaw03.PartLays", spec := "partLays", apart := false, narrowed := true }
def PartLaysUptoSaid : Prop := partLaysUptoRow.holds Try.pinned (OpenSpec.upto partLaysSpec)

/-- 'fanlightlaw03.PartRaw', WHERE WHAT IT READS IS OF BULK AT MOST 1048576: true; the input reads as it did. -/
def partRawUptoRow : OpenClaim := { program := "ytoeencklcemofaa", sum := "b5ddc15be5a7658da50d647e047667e3acfa2988ba671f8698abbd79a73276a5", func := "fanlight/fanlightlaw03.PartRaw", spec := "partRaw", apart := false, narrowed := true }
def PartRawUptoSaid : Prop := partRawUptoRow.holds Try.pinned (OpenSpec.upto partRawSpec)

/-- 'fanlightlaw03.PartBits', WHERE WHAT IT READS IS OF BULK AT MOST 1048576: true; the input reads as it did. -/
def partBitsUptoRow : OpenClaim := { program := "ytoeencklcemofaa", sum := "b5ddc15be5a7658da50d647e047667e3acfa2988ba671f8698abbd79a73276a5", func := "fanlight/fanlightlaw03.PartBits", spec := "partBits", apart := false, narrowed := true }
def PartBitsUptoSaid : Prop := partBitsUptoRow.holds Try.pinned (OpenSpec.upto partBitsSpec)

/-- 'fanlightlaw03.PartNests', WHERE WHAT IT READS IS OF BULK AT MOST 1048576: true; the input reads as it did. -/
def partNestsUptoRow : OpenClaim := { program := "ytoeencklcemofaa", sum := "b5ddc15be5a7658da50d647e047667e3acfa2988ba671f8698abbd79a73276a5", func := "fanlight/fanlightlaw03.PartNests", spec := "partNests", apart := false, narrowed := true }
def PartNestsUptoSaid : Prop := partNestsUptoRow.holds Try.pinned (OpenSpec.upto partNestsSpec)

/-- 'fanlightlaw03.PartBare', WHERE WHAT IT READS IS OF BULK AT MOST 1048576: true; the input reads as it did. -/
def partBareUptoRow : OpenClaim := { program := "ytoeencklcemofaa", sum := "b5ddc15be5a7658da50d647e047667e3acfa2988ba671f8698abbd79a73276a5", func := "fanlight/fanlightlaw03.PartBare", spec := "partBare", apart := false, narrowed := true }
def PartBareUptoSaid : Prop := partBareUptoRow.holds Try.pinned (OpenSpec.upto partBareSpec)

/-- 'fanlightlaw07.EpochOne', WHERE WHAT IT READS IS OF BULK AT MOST 1048576: true; the input reads as it did. -/
def epochOneUptoRow : OpenClaim := { program := "ytoeencklcemofaa", sum := "b5ddc15be5a7658da50d647e047667e3acfa2988ba671f8698abbd79a73276a5", func := "fanlight/fanlightlaw07.EpochOne", spec := "epochOne", inPlace := ["sync/atomic.LoadUint64", "sync/atomic.StoreUint64", "sync/atomic.CompareAndSwapUint64"], apart := false, narrowed := true }
def EpochOneUptoSaid : Prop := epochOneUptoRow.holds Try.pinned (OpenSpec.upto epochOneSpec)

/-- 'fanlighttop.FanlightFrames', WHERE WHAT IT READS IS OF BULK AT MOST 1048576: true; the input reads as it did. -/
def fanlightFramesUptoRow : OpenClaim := { program := "ytoeencklcemofaa", sum := "b5ddc15be5a7658da50d647e047667e3acfa2988ba671f8698abbd79a73276a5", func := "fanlight/fanlighttop.FanlightFrames", spec := "fanlightFrames", apart := false, narrowed := true }
def FanlightFramesUptoSaid : Prop := fanlightFramesUptoRow.holds Try.pinned (OpenSpec.upto fanlightFramesSpec)

/-- 'fanlighttop.FanlightEpochs', WHERE WHAT IT READS IS OF BULK AT MOST 1048576: true; the input reads as it did. -/
def fanlightEpochsUptoRow : OpenClaim := { program := "ytoeencklcemofaa", sum := "b5ddc15be5a7658da50d647e047667e3acfa2988ba671f8698abbd79a73276a5", func := "fanlight/fanlighttop.FanlightEpochs", spec := "fanlightEpochs", inPlace := ["sync/atomic.LoadUint64", "sync/atomic.StoreUint64", "sync/atomic.CompareAndSwapUint64"], apart := false, narrowed := true }
def FanlightEpochsUptoSaid : Prop := fanlightEpochsUptoRow.holds Try.pinned (OpenSpec.upto fanlightEpochsSpec)

end Rows
end Go.Proofs.Ytoeencklcemofaa
