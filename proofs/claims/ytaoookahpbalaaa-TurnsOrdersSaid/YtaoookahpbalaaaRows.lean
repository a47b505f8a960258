/-
  NARROWER THAN 'FOR EVERY INPUT', by the rows' own cells (each row's printed sentence says how): CellsOnce: calm.
  DERIVED. THE GIVEN ROWS OF THIS SEAT. 15 by the template 'for every input the law returns true; each argument reads behind the call as it read before'; 0 by the template 'total and deterministic' (their statements: YtaoookahpbalaaaTotals.lean).
  GIVEN WITH THE SEED: the statements are not yours to turn. If you find one false, say at which input.
  Laid BY PROGRAM, IN A SANDBOX (cutbox-rows.mjs): the forced cells as the released guide's own fill.sh prints them over the translation 10c34645fc4d9df5… (all of the seat's roots in one cut). By AI agents, Wed Nov 11 2026. No macro, syntax, notation, axiom, sorry.
-/
import Derived.Test.YtaoookahpbalaaaChecked
import GoSem.Claim
import GoSem.ClaimJoined
import GoSem.ClaimMapViews
import Derived.JoinedTies
import Derived.KernelRfl
namespace Go.Proofs.Ytaoookahpbalaaa
/- THE CELL 'sum', in the pinned program and in every row, IS THE sha256 OF THE DUMP (.gsa) THAT YtaoookahpbalaaaProg.lean LOADS. Nothing in Lean hashes anything: it is a label: what it is worth is what the hold of that sum in a sandbox is worth. -/
noncomputable def Try.pinned : Pinned := { name := "ytaoookahpbalaaa", sum := "10c34645fc4d9df5288c35ba8f317eb8264185be51044382d77def2a2a288b60", checked := Try.checked }
namespace Rows
def none {H : Type} : Left H := { results := [], args := [] }

/-- 'fanlightlaw05.CellsActs': WHATEVER THE INPUT: true; the input reads as it did. -/
def cellsActsSpec : ChangeSpec := { name := "cellsActs", fn := fun _ => fun
  | [d1, d2] => { results := [.lit (.bool true)], args := [d1, d2] }
  | _ => none }
def cellsActsRow : OpenClaim := { program := "ytaoookahpbalaaa", sum := "10c34645fc4d9df5288c35ba8f317eb8264185be51044382d77def2a2a288b60", func := "fanlight/fanlightlaw05.CellsActs", spec := "cellsActs", inPlace := ["sync/atomic.StoreUint64", "sync/atomic.CompareAndSwapUint64", "sync/atomic.LoadUint64", "sync/atomic.AddUint64"], apart := false }
def CellsActsSaid : Prop := cellsActsRow.holds Try.pinned (OpenSpec.ofChange cellsActsSpec)

/-- ITS FALSE NEIGHBOUR: 'it returns false'. Refute it at one input. -/
def cellsActsWrong : ChangeSpec := { name := "cellsActs", fn := fun _ => fun
  | [d1, d2] => { results := [.lit (.bool false)], args := [d1, d2] }
  | _ => none }
def CellsActsWrongFalsely : Prop := cellsActsRow.holds Try.pinned (OpenSpec.ofChange cellsActsWrong)

/-- 'fanlightlaw05.CellsAdds': WHATEVER THE INPUT: true; the input reads as it did. -/
def cellsAddsSpec : ChangeSpec := { name := "cellsAdds", fn := fun _ => fun
  | [d1, d2, d3] => { results := [.lit (.bool true)], args := [d1, d2, d3] }
  | _ => none }
def cellsAddsRow : OpenClaim := { program := "ytaoookahpbalaaa", sum := "10c34645fc4d9df5288c35ba8f317eb8264185be51044382d77def2a2a288b60", func := "fanlight/fanlightlaw05.CellsAdds", spec := "cellsAdds", inPlace := ["sync/atomic.AddUint64", "sync/atomic.LoadUint64", "sync/atomic.CompareAndSwapUint64"], apart := false }
def CellsAddsSaid : Prop := cellsAddsRow.holds Try.pinned (OpenSpec.ofChange cellsAddsSpec)

/-- ITS FALSE NEIGHBOUR: 'it returns false'. Refute it at one input. -/
def cellsAddsWrong : ChangeSpec := { name := "cellsAdds", fn := fun _ => fun
  | [d1, d2, d3] => { results := [.lit (.bool false)], args := [d1, d2, d3] }
  | _ => none }
def CellsAddsWrongFalsely : Prop := cellsAddsRow.holds Try.pinned (OpenSpec.ofChange cellsAddsWrong)

/-- 'fanlightlaw05.CellsFirst': WHATEVER THE INPUT: true; the input reads as it did. -/
def cellsFirstSpec : ChangeSpec := { name := "cellsFirst", fn := fun _ => fun
  | [d1, d2] => { results := [.lit (.bool true)], args := [d1, d2] }
  | _ => none }
def cellsFirstRow : OpenClaim := { program := "ytaoookahpbalaaa", sum := "10c34645fc4d9df5288c35ba8f317eb8264185be51044382d77def2a2a288b60", func := "fanlight/fanlightlaw05.CellsFirst", spec := "cellsFirst", inPlace := ["sync/atomic.StoreUint64", "sync/atomic.CompareAndSwapUint64", "sync/atomic.LoadUint64"], apart := false }
def CellsFirstSaid : Prop := cellsFirstRow.holds Try.pinned (OpenSpec.ofChange cellsFirstSpec)

/-- ITS FALSE NEIGHBOUR: 'it returns false'. Refute it at one input. -/
def cellsFirstWrong : ChangeSpec := { name := "cellsFirst", fn := fun _ => fun
  | [d1, d2] => { results := [.lit (.bool false)], args := [d1, d2] }
  | _ => none }
def CellsFirstWrongFalsely : Prop := cellsFirstRow.holds Try.pinned (OpenSpec.ofChange cellsFirstWrong)

/-- 'fanlightlaw05.CellsOnce': WHATEVER THE INPUT: true; the input reads as it did. -/
def cellsOnceSpec : ChangeSpec := { name := "cellsOnce", fn := fun _ => fun
  | [d] => { results := [.lit (.bool true)], args := [d] }
  | _ => none }
def cellsOnceRow : OpenClaim := { program := "ytaoookahpbalaaa", sum := "10c34645fc4d9df5288c35ba8f317eb8264185be51044382d77def2a2a288b60", func := "fanlight/fanlightlaw05.CellsOnce", spec := "cellsOnce", inPlace := ["sync/atomic.LoadUint32", "(*internal/sync.Mutex).Lock", "internal/race.Disable", "sync/atomic.CompareAndSwapInt32", "internal/race.Enable", "internal/race.Acquire", "(*internal/sync.Mutex).lockSlow", "internal/sync.runtime_canSpin", "internal/sync.runtime_doSpin", "internal/sync.throw", "internal/sync.runtime_nanotime", "internal/sync.runtime_SemacquireMutex", "sync/atomic.AddInt32", "(*internal/sync.Mutex).Unlock", "internal/race.ReleaseMerge", "(*internal/sync.Mutex).unlockSlow", "internal/sync.fatal", "internal/sync.runtime_Semrelease", "sync/atomic.StoreUint32", "sync/atomic.CompareAndSwapUint64", "sync/atomic.LoadUint64"], unfollowed := true, recurses := true, leaving := true, apart := false, calm := true, outside := [.timePasses] }
def CellsOnceSaid : Prop := cellsOnceRow.holds Try.pinned (OpenSpec.ofChange cellsOnceSpec)

/-- ITS FALSE NEIGHBOUR: 'it returns false'. Refute it at one input. -/
def cellsOnceWrong : ChangeSpec := { name := "cellsOnce", fn := fun _ => fun
  | [d] => { results := [.lit (.bool false)], args := [d] }
  | _ => none }
def CellsOnceWrongFalsely : Prop := cellsOnceRow.holds Try.pinned (OpenSpec.ofChange cellsOnceWrong)

/-- 'fanlightlaw06.TurnsOrders': WHATEVER THE INPUT: true; the input reads as it did. -/
def turnsOrdersSpec : ChangeSpec := { name := "turnsOrders", fn := fun _ => fun
  | [d1, d2] => { results := [.lit (.bool true)], args := [d1, d2] }
  | _ => none }
def turnsOrdersRow : OpenClaim := { program := "ytaoookahpbalaaa", sum := "10c34645fc4d9df5288c35ba8f317eb8264185be51044382d77def2a2a288b60", func := "fanlight/fanlightlaw06.TurnsOrders", spec := "turnsOrders", inPlace := ["sync/atomic.LoadUint64", "sync/atomic.StoreUint64", "sync/atomic.CompareAndSwapUint64", "sync/atomic.AddUint64"], apart := false }
def TurnsOrdersSaid : Prop := turnsOrdersRow.holds Try.pinned (OpenSpec.ofChange turnsOrdersSpec)

/-- ITS FALSE NEIGHBOUR: 'it returns false'. Refute it at one input. -/
def turnsOrdersWrong : ChangeSpec := { name := "turnsOrders", fn := fun _ => fun
  | [d1, d2] => { results := [.lit (.bool false)], args := [d1, d2] }
  | _ => none }
def TurnsOrdersWrongFalsely : Prop := turnsOrdersRow.holds Try.pinned (OpenSpec.ofChange turnsOrdersWrong)

/-- 'fanlightlaw06.TurnsCounts': WHATEVER THE INPUT: true; the input reads as it did. -/
def turnsCountsSpec : ChangeSpec := { name := "turnsCounts", fn := fun _ => fun
  | [d1, d2, d3] => { results := [.lit (.bool true)], args := [d1, d2, d3] }
  | _ => none }
def turnsCountsRow : OpenClaim := { program := "ytaoookahpbalaaa", sum := "10c34645fc4d9df5288c35ba8f317eb8264185be51044382d77def2a2a288b60", func := "fanlight/fanlightlaw06.TurnsCounts", spec := "turnsCounts", inPlace := ["sync/atomic.LoadUint64", "sync/atomic.StoreUint64", "sync/atomic.CompareAndSwapUint64", "sync/atomic.AddUint64"], apart := false }
def TurnsCountsSaid : Prop := turnsCountsRow.holds Try.pinned (OpenSpec.ofChange turnsCountsSpec)

/-- ITS FALSE NEIGHBOUR: 'it returns false'. Refute it at one input. -/
def turnsCountsWrong : ChangeSpec := { name := "turnsCounts", fn := fun _ => fun
  | [d1, d2, d3] => { results := [.lit (.bool false)], args := [d1, d2, d3] }
  | _ => none }
def TurnsCountsWrongFalsely : Prop := turnsCountsRow.holds Try.pinned (OpenSpec.ofChange turnsCountsWrong)

/-- 'fanlightlaw06.TurnsAlone': WHATEVER THE INPUT: true; the input reads as it did. -/
def turnsAloneSpec : ChangeSpec := { name := "turnsAlone", fn := fun _ => fun
  | [d1, d2] => { results := [.lit (.bool true)], args := [d1, d2] }
  | _ => none }
def turnsAloneRow : OpenClaim := { program := "ytaoookahpbalaaa", sum := "10c34645fc4d9df5288c35ba8f317eb8264185be51044382d77def2a2a288b60", func := "fanlight/fanlightlaw06.TurnsAlone", spec := "turnsAlone", inPlace := ["sync/atomic.LoadUint64", "sync/atomic.StoreUint64", "sync/atomic.CompareAndSwapUint64", "sync/atomic.AddUint64"], apart := false }
def TurnsAloneSaid : Prop := turnsAloneRow.holds Try.pinned (OpenSpec.ofChange turnsAloneSpec)

/-- ITS FALSE NEIGHBOUR: 'it returns false'. Refute it at one input. -/
def turnsAloneWrong : ChangeSpec := { name := "turnsAlone", fn := fun _ => fun
  | [d1, d2] => { results := [.lit (.bool false)], args := [d1, d2] }
  | _ => none }
def TurnsAloneWrongFalsely : Prop := turnsAloneRow.holds Try.pinned (OpenSpec.ofChange turnsAloneWrong)

/-- 'fanlightlaw06.TurnsFree': WHATEVER THE INPUT: true; the input reads as it did. -/
def turnsFreeSpec : ChangeSpec := { name := "turnsFree", fn := fun _ => fun
  | [d1, d2] => { results := [.lit (.bool true)], args := [d1, d2] }
  | _ => none }
def turnsFreeRow : OpenClaim := { program := "ytaoookahpbalaaa", sum := "10c34645fc4d9df5288c35ba8f317eb8264185be51044382d77def2a2a288b60", func := "fanlight/fanlightlaw06.TurnsFree", spec := "turnsFree", inPlace := ["(*sync.WaitGroup).Add", "internal/race.ReleaseMerge", "internal/race.Disable", "internal/race.Enable", "internal/synctest.IsInBubble", "internal/synctest.Associate[sync.WaitGroup]", "sync.fatal", "sync/atomic.OrUint64", "sync/atomic.AddUint64", "internal/race.Read", "sync/atomic.LoadUint64", "sync/atomic.StoreUint64", "internal/synctest.Disassociate[sync.WaitGroup]", "sync.runtime_Semrelease", "(*sync.WaitGroup).Done", "sync/atomic.CompareAndSwapUint64", "(*sync.WaitGroup).Wait", "internal/race.Acquire", "internal/synctest.IsAssociated[sync.WaitGroup]", "internal/race.Write", "sync.runtime_SemacquireWaitGroup"], unfollowed := true, recurses := true, leaving := true, apart := false }
def TurnsFreeSaid : Prop := turnsFreeRow.holds Try.pinned (OpenSpec.ofChange turnsFreeSpec)

/-- ITS FALSE NEIGHBOUR: 'it returns false'. Refute it at one input. -/
def turnsFreeWrong : ChangeSpec := { name := "turnsFree", fn := fun _ => fun
  | [d1, d2] => { results := [.lit (.bool false)], args := [d1, d2] }
  | _ => none }
def TurnsFreeWrongFalsely : Prop := turnsFreeRow.holds Try.pinned (OpenSpec.ofChange turnsFreeWrong)

/-- 'fanlightlaw06.TurnsSwaps': WHATEVER THE INPUT: true; the input reads as it did. -/
def turnsSwapsSpec : ChangeSpec := { name := "turnsSwaps", fn := fun _ => fun
  | [d1, d2] => { results := [.lit (.bool true)], args := [d1, d2] }
  | _ => none }
def turnsSwapsRow : OpenClaim := { program := "ytaoookahpbalaaa", sum := "10c34645fc4d9df5288c35ba8f317eb8264185be51044382d77def2a2a288b60", func := "fanlight/fanlightlaw06.TurnsSwaps", spec := "turnsSwaps", inPlace := ["sync/atomic.LoadUint64", "sync/atomic.StoreUint64", "sync/atomic.CompareAndSwapUint64", "sync/atomic.AddUint64"], apart := false }
def TurnsSwapsSaid : Prop := turnsSwapsRow.holds Try.pinned (OpenSpec.ofChange turnsSwapsSpec)

/-- ITS FALSE NEIGHBOUR: 'it returns false'. Refute it at one input. -/
def turnsSwapsWrong : ChangeSpec := { name := "turnsSwaps", fn := fun _ => fun
  | [d1, d2] => { results := [.lit (.bool false)], args := [d1, d2] }
  | _ => none }
def TurnsSwapsWrongFalsely : Prop := turnsSwapsRow.holds Try.pinned (OpenSpec.ofChange turnsSwapsWrong)

/-- 'fanlightlaw07.EpochTurns': WHATEVER THE INPUT: true; the input reads as it did. -/
def epochTurnsSpec : ChangeSpec := { name := "epochTurns", fn := fun _ => fun
  | [d1, d2] => { results := [.lit (.bool true)], args := [d1, d2] }
  | _ => none }
def epochTurnsRow : OpenClaim := { program := "ytaoookahpbalaaa", sum := "10c34645fc4d9df5288c35ba8f317eb8264185be51044382d77def2a2a288b60", func := "fanlight/fanlightlaw07.EpochTurns", spec := "epochTurns", inPlace := ["sync/atomic.StoreUint64", "sync/atomic.LoadUint64", "sync/atomic.CompareAndSwapUint64"], apart := false }
def EpochTurnsSaid : Prop := epochTurnsRow.holds Try.pinned (OpenSpec.ofChange epochTurnsSpec)

/-- ITS FALSE NEIGHBOUR: 'it returns false'. Refute it at one input. -/
def epochTurnsWrong : ChangeSpec := { name := "epochTurns", fn := fun _ => fun
  | [d1, d2] => { results := [.lit (.bool false)], args := [d1, d2] }
  | _ => none }
def EpochTurnsWrongFalsely : Prop := epochTurnsRow.holds Try.pinned (OpenSpec.ofChange epochTurnsWrong)

/-- 'fanlightlaw07.EpochRests': WHATEVER THE INPUT: true; the input reads as it did. -/
def epochRestsSpec : ChangeSpec := { name := "epochRests", fn := fun _ => fun
  | [d1, d2] => { results := [.lit (.bool true)], args := [d1, d2] }
  | _ => none }
def epochRestsRow : OpenClaim := { program := "ytaoookahpbalaaa", sum := "10c34645fc4d9df5288c35ba8f317eb8264185be51044382d77def2a2a288b60", func := "fanlight/fanlightlaw07.EpochRests", spec := "epochRests", inPlace := ["sync/atomic.LoadUint64", "sync/atomic.StoreUint64", "sync/atomic.CompareAndSwapUint64"], apart := false }
def EpochRestsSaid : Prop := epochRestsRow.holds Try.pinned (OpenSpec.ofChange epochRestsSpec)

/-- ITS FALSE NEIGHBOUR: 'it returns false'. Refute it at one input. -/
def epochRestsWrong : ChangeSpec := { name := "epochRests", fn := fun _ => fun
  | [d1, d2] => { results := [.lit (.bool false)], args := [d1, d2] }
  | _ => none }
def EpochRestsWrongFalsely : Prop := epochRestsRow.holds Try.pinned (OpenSpec.ofChange epochRestsWrong)

/-- 'fanlightlaw07.EpochPinned': WHATEVER THE INPUT: true; the input reads as it did. -/
def epochPinnedSpec : ChangeSpec := { name := "epochPinned", fn := fun _ => fun
  | [d1, d2, d3] => { results := [.lit (.bool true)], args := [d1, d2, d3] }
  | _ => none }
def epochPinnedRow : OpenClaim := { program := "ytaoookahpbalaaa", sum := "10c34645fc4d9df5288c35ba8f317eb8264185be51044382d77def2a2a288b60", func := "fanlight/fanlightlaw07.EpochPinned", spec := "epochPinned", inPlace := ["sync/atomic.LoadUint64", "sync/atomic.StoreUint64", "sync/atomic.CompareAndSwapUint64"], apart := false }
def EpochPinnedSaid : Prop := epochPinnedRow.holds Try.pinned (OpenSpec.ofChange epochPinnedSpec)

/-- ITS FALSE NEIGHBOUR: 'it returns false'. Refute it at one input. -/
def epochPinnedWrong : ChangeSpec := { name := "epochPinned", fn := fun _ => fun
  | [d1, d2, d3] => { results := [.lit (.bool false)], args := [d1, d2, d3] }
  | _ => none }
def EpochPinnedWrongFalsely : Prop := epochPinnedRow.holds Try.pinned (OpenSpec.ofChange epochPinnedWrong)

/-- 'fanlightlaw07.EpochOne': WHATEVER THE INPUT: true; the input reads as it did. -/
def epochOneSpec : ChangeSpec := { name := "epochOne", fn := fun _ => fun
  | [d1, d2] => { results := [.lit (.bool true)], args := [d1, d2] }
  | _ => none }
def epochOneRow : OpenClaim := { program := "ytaoookahpbalaaa", sum := "10c34645fc4d9df5288c35ba8f317eb8264185be51044382d77def2a2a288b60", func := "fanlight/fanlightlaw07.EpochOne", spec := "epochOne", inPlace := ["sync/atomic.LoadUint64", "sync/atomic.StoreUint64", "sync/atomic.CompareAndSwapUint64"], apart := false }
def EpochOneSaid : Prop := epochOneRow.holds Try.pinned (OpenSpec.ofChange epochOneSpec)

/-- ITS FALSE NEIGHBOUR: 'it returns false'. Refute it at one input. -/
def epochOneWrong : ChangeSpec := { name := "epochOne", fn := fun _ => fun
  | [d1, d2] => { results := [.lit (.bool false)], args := [d1, d2] }
  | _ => none }
def EpochOneWrongFalsely : Prop := epochOneRow.holds Try.pinned (OpenSpec.ofChange epochOneWrong)

/-- 'fanlightlaw07.EpochEach': WHATEVER THE INPUT: true; the input reads as it did. -/
def epochEachSpec : ChangeSpec := { name := "epochEach", fn := fun _ => fun
  | [d1, d2] => { results := [.lit (.bool true)], args := [d1, d2] }
  | _ => none }
def epochEachRow : OpenClaim := { program := "ytaoookahpbalaaa", sum := "10c34645fc4d9df5288c35ba8f317eb8264185be51044382d77def2a2a288b60", func := "fanlight/fanlightlaw07.EpochEach", spec := "epochEach", inPlace := ["sync/atomic.LoadUint64", "sync/atomic.StoreUint64", "sync/atomic.CompareAndSwapUint64"], apart := false }
def EpochEachSaid : Prop := epochEachRow.holds Try.pinned (OpenSpec.ofChange epochEachSpec)

/-- ITS FALSE NEIGHBOUR: 'it returns false'. Refute it at one input. -/
def epochEachWrong : ChangeSpec := { name := "epochEach", fn := fun _ => fun
  | [d1, d2] => { results := [.lit (.bool false)], args := [d1, d2] }
  | _ => none }
def EpochEachWrongFalsely : Prop := epochEachRow.holds Try.pinned (OpenSpec.ofChange epochEachWrong)

/-- 'fanlighttop.FanlightEpochs': WHATEVER THE INPUT: true; the input reads as it did. -/
def fanlightEpochsSpec : ChangeSpec := { name := "fanlightEpochs", fn := fun _ => fun
  | [d1, d2] => { results := [.lit (.bool true)], args := [d1, d2] }
  | _ => none }
def fanlightEpochsRow : OpenClaim := { program := "ytaoookahpbalaaa", sum := "10c34645fc4d9df5288c35ba8f317eb8264185be51044382d77def2a2a288b60", func := "fanlight/fanlighttop.FanlightEpochs", spec := "fanlightEpochs", inPlace := ["sync/atomic.LoadUint64", "sync/atomic.StoreUint64", "sync/atomic.CompareAndSwapUint64"], apart := false }
def FanlightEpochsSaid : Prop := fanlightEpochsRow.holds Try.pinned (OpenSpec.ofChange fanlightEpochsSpec)

/-- ITS FALSE NEIGHBOUR: 'it returns false'. Refute it at one input. -/
def fanlightEpochsWrong : ChangeSpec := { name := "fanlightEpochs", fn := fun _ => fun
  | [d1, d2] => { results := [.lit (.bool false)], args := [d1, d2] }
  | _ => none }
def FanlightEpochsWrongFalsely : Prop := fanlightEpochsRow.holds Try.pinned (OpenSpec.ofChange fanlightEpochsWrong)

/- THE SECOND FORM. 'bulk': how many values and letters a reading holds, each counted each time it is reached (what is shared counts as often as it is met; a slice's spare places count too). A statement '..UptoSaid' is the law's where the arguments, and the package variables that the reading takes, are together of bulk at most 1048576: NARROWER than '..Said'. Prove '..Said' where nothing that the law and all that it calls make is longer than what came in: it says more and counts as full. Else prove '..UptoSaid'. A law counts once. -/
mutual
def uptoBulk {H : Type} : DataW H → Nat
  | .lit (.string bytes) => bytes.length + 1
  | .lit _ => 1
  | .nil => 1
  | .ptr d => uptoBulk d + 1
  | .slice elems spare => uptoBulkAll elems + uptoBulkAll spare + 1
  | .agg parts => uptoBulkAll parts + 1
  | .iface _ d => uptoBulk d + 1
  | .map entries => uptoBulkEntries entries + 1
  | .held _ => 1
def uptoBulkAll {H : Type} : List (DataW H) → Nat
  | [] => 0
  | d :: r => uptoBulk d + uptoBulkAll r
def uptoBulkEntries {H : Type} : List (Lit × DataW H) → Nat
  | [] => 0
  | x :: r => uptoBulkEntry x + uptoBulkEntries r
def uptoBulkEntry {H : Type} : Lit × DataW H → Nat
  | (.string bytes, d) => bytes.length + uptoBulk d + 1
  | (_, d) => uptoBulk d + 1
 end
def uptoSmall : (H : Type) → List (DataW H) → Bool := fun _ ds => decide (uptoBulkAll ds ≤ 1048576)
def OpenSpec.upto (s : _root_.Go.ChangeSpec) : _root_.Go.OpenSpec := { _root_.Go.OpenSpec.ofChange s with cond := some uptoSmall }

/-- 'fanlightlaw05.CellsActs', WHERE WHAT IT READS IS OF BULK AT MOST 1048576: true; the input reads as it did. -/
def cellsActsUptoRow : OpenClaim := { program := "ytaoookahpbalaaa", sum := "10c34645fc4d9df5288c35ba8f317eb8264185be51044382d77def2a2a288b60", func := "fanlight/fanlightlaw05.CellsActs", spec := "cellsActs", inPlace := ["sync/atomic.StoreUint64", "sync/atomic.CompareAndSwapUint64", "sync/atomic.LoadUint64", "sync/atomic.AddUint64"], apart := false, narrowed := true }
def CellsActsUptoSaid : Prop := cellsActsUptoRow.holds Try.pinned (OpenSpec.upto cellsActsSpec)

/-- 'fanlightlaw05.CellsAdds', WHERE WHAT IT READS IS OF BULK AT MOST 1048576: true; the input reads as it did. -/
def cellsAddsUptoRow : OpenClaim := { program := "ytaoookahpbalaaa", sum := "10c34645fc4d9df5288c35ba8f317eb8264185be51044382d77def2a2a288b60", func := "fanlight/fanlightlaw05.CellsAdds", spec := "cellsAdds", inPlace := ["sync/atomic.AddUint64", "sync/atomic.LoadUint64", "sync/atomic.CompareAndSwapUint64"], apart := false, narrowed := true }
def CellsAddsUptoSaid : Prop := cellsAddsUptoRow.holds Try.pinned (OpenSpec.upto cellsAddsSpec)

/-- 'fanlightlaw05.CellsFirst', WHERE WHAT IT READS IS OF BULK AT MOST 1048576: true; the input reads as it did. -/
def cellsFirstUptoRow : OpenClaim := { program := "ytaoookahpbalaaa", sum := "10c34645fc4d9df5288c35ba8f317eb8264185be51044382d77def2a2a288b60", func := "fanlight/fanlightlaw05.CellsFirst", spec := "cellsFirst", inPlace := ["sync/atomic.StoreUint64", "sync/atomic.CompareAndSwapUint64", "sync/atomic.LoadUint64"], apart := false, narrowed := true }
def CellsFirstUptoSaid : Prop := cellsFirstUptoRow.holds Try.pinned (OpenSpec.upto cellsFirstSpec)

/-- 'fanlightlaw05.CellsOnce', WHERE WHAT IT READS IS OF BULK AT MOST 1048576: true; the input reads as it did. -/
def cellsOnceUptoRow : OpenClaim := { program := "ytaoookahpbalaaa", sum := "10c34645fc4d9df5288c35ba8f317eb8264185be51044382d77def2a2a288b60", func := "fanlight/fanlightlaw05.CellsOnce", spec := "cellsOnce", inPlace := ["sync/atomic.LoadUint32", "(*internal/sync.Mutex).Lock", "internal/race.Disable", "sync/atomic.CompareAndSwapInt32", "internal/race.Enable", "internal/race.Acquire", "(*internal/sync.Mutex).lockSlow", "internal/sync.runtime_canSpin", "internal/sync.runtime_doSpin", "internal/sync.throw", "internal/sync.runtime_nanotime", "internal/sync.runtime_SemacquireMutex", "sync/atomic.AddInt32", "(*internal/sync.Mutex).Unlock", "internal/race.ReleaseMerge", "(*internal/sync.Mutex).unlockSlow", "internal/sync.fatal", "internal/sync.runtime_Semrelease", "sync/atomic.StoreUint32", "sync/atomic.CompareAndSwapUint64", "sync/atomic.LoadUint64"], unfollowed := true, recurses := true, leaving := true, apart := false, calm := true, outside := [.timePasses], narrowed := true }
def CellsOnceUptoSaid : Prop := cellsOnceUptoRow.holds Try.pinned (OpenSpec.upto cellsOnceSpec)

/-- 'fanlightlaw06.TurnsOrders', WHERE WHAT IT READS IS OF BULK AT MOST 1048576: true; the input reads as it did. -/
def turnsOrdersUptoRow : OpenClaim := { program := "ytaoookahpbalaaa", sum := "10c34645fc4d9df5288c35ba8f317eb8264185be51044382d77def2a2a288b60", func := "fanlight/fanlightlaw06.TurnsOrders", spec := "turnsOrders", inPlace := ["sync/atomic.LoadUint64", "sync/atomic.StoreUint64", "sync/atomic.CompareAndSwapUint64", "sync/atomic.AddUint64"], apart := false, narrowed := true }
def TurnsOrdersUptoSaid : Prop := turnsOrdersUptoRow.holds Try.pinned (OpenSpec.upto turnsOrdersSpec)

/-- 'fanlightlaw06.TurnsCounts', WHERE WHAT IT READS IS OF BULK AT MOST 1048576: true; the input reads as it did. -/
def turnsCountsUptoRow : OpenClaim := { program := "ytaoookahpbalaaa", sum := "10c34645fc4d9df5288c35ba8f317eb8264185be51044382d77def2a2a288b60", func := "fanlight/fanlightlaw06.TurnsCounts", spec := "turnsCounts", inPlace := ["sync/atomic.LoadUint64", "sync/atomic.StoreUint64", "sync/atomic.CompareAndSwapUint64", "sync/atomic.AddUint64"], apart := false, narrowed := true }
def TurnsCountsUptoSaid : Prop := turnsCountsUptoRow.holds Try.pinned (OpenSpec.upto turnsCountsSpec)

/-- 'fanlightlaw06.TurnsAlone', WHERE WHAT IT READS IS OF BULK AT MOST 1048576: true; the input reads as it did. -/
def turnsAloneUptoRow : OpenClaim := { program := "ytaoookahpbalaaa", sum := "10c34645fc4d9df5288c35ba8f317eb8264185be51044382d77def2a2a288b60", func := "fanlight/fanlightlaw06.TurnsAlone", spec := "turnsAlone", inPlace := ["sync/atomic.LoadUint64", "sync/atomic.StoreUint64", "sync/atomic.CompareAndSwapUint64", "sync/atomic.AddUint64"], apart := false, narrowed := true }
def TurnsAloneUptoSaid : Prop := turnsAloneUptoRow.holds Try.pinned (OpenSpec.upto turnsAloneSpec)

/-- 'fanlightlaw06.TurnsFree', WHERE WHAT IT READS IS OF BULK AT MOST 1048576: true; the input reads as it did. -/
def turnsFreeUptoRow : OpenClaim := { program := "ytaoookahpbalaaa", sum := "10c34645fc4d9df5288c35ba8f317eb8264185be51044382d77def2a2a288b60", func := "fanlight/fanlightlaw06.TurnsFree", spec := "turnsFree", inPlace := ["(*sync.WaitGroup).Add", "internal/race.ReleaseMerge", "internal/race.Disable", "internal/race.Enable", "internal/synctest.IsInBubble", "internal/synctest.Associate[sync.WaitGroup]", "sync.fatal", "sync/atomic.OrUint64", "sync/atomic.AddUint64", "internal/race.Read", "sync/atomic.LoadUint64", "sync/atomic.StoreUint64", "internal/synctest.Disassociate[sync.WaitGroup]", "sync.runtime_Semrelease", "(*sync.WaitGroup).Done", "sync/atomic.CompareAndSwapUint64", "(*sync.WaitGroup).Wait", "internal/race.Acquire", "internal/synctest.IsAssociated[sync.WaitGroup]", "internal/race.Write", "sync.runtime_SemacquireWaitGroup"], unfollowed := true, recurses := true, leaving := true, apart := false, narrowed := true }
def TurnsFreeUptoSaid : Prop := turnsFreeUptoRow.holds Try.pinned (OpenSpec.upto turnsFreeSpec)

/-- 'fanlightlaw06.TurnsSwaps', WHERE WHAT IT READS IS OF BULK AT MOST 1048576: true; the input reads as it did. -/
def turnsSwapsUptoRow : OpenClaim := { program := "ytaoookahpbalaaa", sum := "10c34645fc4d9df5288c35ba8f317eb8264185be51044382d77def2a2a288b60", func := "fanlight/fanlightlaw06.TurnsSwaps", spec := "turnsSwaps", inPlace := ["sync/atomic.LoadUint64", "sync/atomic.StoreUint64", "sync/atomic.CompareAndSwapUint64", "sync/atomic.AddUint64"], apart := false, narrowed := true }
def TurnsSwapsUptoSaid : Prop := turnsSwapsUptoRow.holds Try.pinned (OpenSpec.upto turnsSwapsSpec)

/-- 'fanlightlaw07.EpochTurns', WHERE WHAT IT READS IS OF BULK AT MOST 1048576: true; the input reads as it did. -/
def epochTurnsUptoRow : OpenClaim := { program := "ytaoookahpbalaaa", sum := "10c34645fc4d9df5288c35ba8f317eb8264185be51044382d77def2a2a288b60", func := "fanlight/fanlightlaw07.EpochTurns", spec := "epochTurns", inPlace := ["sync/atomic.StoreUint64", "sync/atomic.LoadUint64", "sync/atomic.CompareAndSwapUint64"], apart := false, narrowed := true }
def EpochTurnsUptoSaid : Prop := epochTurnsUptoRow.holds Try.pinned (OpenSpec.upto epochTurnsSpec)

/-- 'fanlightlaw07.EpochRests', WHERE WHAT IT READS IS OF BULK AT MOST 1048576: true; the input reads as it did. -/
def epochRestsUptoRow : OpenClaim := { program := "ytaoookahpbalaaa", sum := "10c34645fc4d9df5288c35ba8f317eb8264185be51044382d77def2a2a288b60", func := "fanlight/fanlightlaw07.EpochRests", spec := "epochRests", inPlace := ["sync/atomic.LoadUint64", "sync/atomic.StoreUint64", "sync/atomic.CompareAndSwapUint64"], apart := false, narrowed := true }
def EpochRestsUptoSaid : Prop := epochRestsUptoRow.holds Try.pinned (OpenSpec.upto epochRestsSpec)

/-- 'fanlightlaw07.EpochPinned', WHERE WHAT IT READS IS OF BULK AT MOST 1048576: true; the input reads as it did. -/
def epochPinnedUptoRow : OpenClaim := { program := "ytaoookahpbalaaa", sum := "10c34645fc4d9df5288c35ba8f317eb8264185be51044382d77def2a2a288b60", func := "fanlight/fanlightlaw07.EpochPinned", spec := "epochPinned", inPlace := ["sync/atomic.LoadUint64", "sync/atomic.StoreUint64", "sync/atomic.CompareAndSwapUint64"], apart := false, narrowed := true }
def EpochPinnedUptoSaid : Prop := epochPinnedUptoRow.holds Try.pinned (OpenSpec.upto epochPinnedSpec)

/-- 'fanlightlaw07.EpochOne', WHERE WHAT IT READS IS OF BULK AT MOST 1048576: true; the input reads as it did. -/
def epochOneUptoRow : OpenClaim := { program := "ytaoookahpbalaaa", sum := "10c34645fc4d9df5288c35ba8f317eb8264185be51044382d77def2a2a288b60", func := "fanlight/fanlightlaw07.EpochOne", spec := "epochOne", inPlace := ["sync/atomic.LoadUint64", "sync/atomic.StoreUint64", "sync/atomic.CompareAndSwapUint64"], apart := false, narrowed := true }
def EpochOneUptoSaid : Prop := epochOneUptoRow.holds Try.pinned (OpenSpec.upto epochOneSpec)

/-- 'fanlightlaw07.EpochEach', WHERE WHAT IT READS IS OF BULK AT MOST 1048576: true; the input reads as it did. -/
def epochEachUptoRow : OpenClaim := { program := "ytaoookahpbalaaa", sum := "10c34645fc4d9df5288c35ba8f317eb8264185be51044382d77def2a2a288b60", func := "fanlight/fanlightlaw07.EpochEach", spec := "epochEach", inPlace := ["sync/atomic.LoadUint64", "sync/atomic.StoreUint64", "sync/atomic.CompareAndSwapUint64"], apart := false, narrowed := true }
def EpochEachUptoSaid : Prop := epochEachUptoRow.holds Try.pinned (OpenSpec.upto epochEachSpec)

/-- 'fanlighttop.FanlightEpochs', WHERE WHAT IT READS IS OF BULK AT MOST 1048576: true; the input reads as it did. -/
def fanlightEpochsUptoRow : OpenClaim := { program := "ytaoookahpbalaaa", sum := "10c34645fc4d9df5288c35ba8f317eb8264185be51044382d77def2a2a288b60", func := "fanlight/fanlighttop.FanlightEpochs", spec := "fanlightEpochs", inPlace := ["sync/atomic.LoadUint64", "sync/atomic.StoreUint64", "sync/atomic.CompareAndSwapUint64"], apart := false, narrowed := true }
def FanlightEpochsUptoSaid : Prop := fanlightEpochsUptoRow.holds Try.pinned (OpenSpec.upto fanlightEpochsSpec)

end Rows
end Go.Proofs.Ytaoookahpbalaaa
