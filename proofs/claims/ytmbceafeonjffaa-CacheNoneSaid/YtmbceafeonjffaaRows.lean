/-
  No cell of these rows narrows 'for every input' (looked for: loops, veiled, ifaces, maps, wideKeys, modest, calm, conditions, laid).
  DERIVED. THE GIVEN ROWS OF THIS SEAT. 6 by the template 'for every input the law returns true; each argument reads behind the call as it read before'; 0 by the template 'total and deterministic' (their statements: YtmbceafeonjffaaTotals.lean).
  GIVEN WITH THE SEED: the statements are not yours to turn. If you find one false, say at which input.
  Laid BY PROGRAM, IN A SANDBOX (cutbox-rows.mjs): the forced cells as the released guide's own fill.sh prints them over the translation 7022a389be749ebd… (all of the seat's roots in one cut). By AI agents, Wed Nov 11 2026. No macro, syntax, notation, axiom, sorry.
-/
import Derived.Test.YtmbceafeonjffaaChecked
import GoSem.Claim
import GoSem.ClaimJoined
import GoSem.ClaimMapViews
import Derived.JoinedTies
import Derived.KernelRfl
namespace Go.Proofs.Ytmbceafeonjffaa
/- THE CELL 'sum', in the pinned program and in every row, IS THE sha256 OF THE DUMP (.gsa) THAT YtmbceafeonjffaaProg.lean LOADS. Nothing in Lean hashes anything: it is a label: what it is worth is what the hold of that sum in a sandbox is worth. -/
noncomputable def Try.pinned : Pinned := { name := "ytmbceafeonjffaa", sum := "7022a389be749ebd98975d24fe123250630f755f839a9fdd68b61de878f0b387", checked := Try.checked }
namespace Rows
def none {H : Type} : Left H := { results := [], args := [] }

/-- 'fanlightlaw08.PoolOwns': WHATEVER THE INPUT: true; the input reads as it did. -/
def poolOwnsSpec : ChangeSpec := { name := "poolOwns", fn := fun _ => fun
  | [d1, d2] => { results := [.lit (.bool true)], args := [d1, d2] }
  | _ => none }
def poolOwnsRow : OpenClaim := { program := "ytmbceafeonjffaa", sum := "7022a389be749ebd98975d24fe123250630f755f839a9fdd68b61de878f0b387", func := "fanlight/fanlightlaw08.PoolOwns", spec := "poolOwns", inPlace := ["sync/atomic.StoreUint64", "sync/atomic.LoadUint64", "sync/atomic.CompareAndSwapUint64"], recurses := true, apart := false }
def PoolOwnsSaid : Prop := poolOwnsRow.holds Try.pinned (OpenSpec.ofChange poolOwnsSpec)

/-- ITS FALSE NEIGHBOUR: 'it returns false'. Refute it at one input. -/
def poolOwnsWrong : ChangeSpec := { name := "poolOwns", fn := fun _ => fun
  | [d1, d2] => { results := [.lit (.bool false)], args := [d1, d2] }
  | _ => none }
def PoolOwnsWrongFalsely : Prop := poolOwnsRow.holds Try.pinned (OpenSpec.ofChange poolOwnsWrong)

/-- 'fanlightlaw08.PoolNone': WHATEVER THE INPUT: true; the input reads as it did. -/
def poolNoneSpec : ChangeSpec := { name := "poolNone", fn := fun _ => fun
  | [d1, d2] => { results := [.lit (.bool true)], args := [d1, d2] }
  | _ => none }
def poolNoneRow : OpenClaim := { program := "ytmbceafeonjffaa", sum := "7022a389be749ebd98975d24fe123250630f755f839a9fdd68b61de878f0b387", func := "fanlight/fanlightlaw08.PoolNone", spec := "poolNone", inPlace := ["sync/atomic.StoreUint64", "sync/atomic.LoadUint64", "sync/atomic.CompareAndSwapUint64"], apart := false }
def PoolNoneSaid : Prop := poolNoneRow.holds Try.pinned (OpenSpec.ofChange poolNoneSpec)

/-- ITS FALSE NEIGHBOUR: 'it returns false'. Refute it at one input. -/
def poolNoneWrong : ChangeSpec := { name := "poolNone", fn := fun _ => fun
  | [d1, d2] => { results := [.lit (.bool false)], args := [d1, d2] }
  | _ => none }
def PoolNoneWrongFalsely : Prop := poolNoneRow.holds Try.pinned (OpenSpec.ofChange poolNoneWrong)

/-- 'fanlightlaw08.PoolBounds': WHATEVER THE INPUT: true; the input reads as it did. -/
def poolBoundsSpec : ChangeSpec := { name := "poolBounds", fn := fun _ => fun
  | [d1, d2, d3] => { results := [.lit (.bool true)], args := [d1, d2, d3] }
  | _ => none }
def poolBoundsRow : OpenClaim := { program := "ytmbceafeonjffaa", sum := "7022a389be749ebd98975d24fe123250630f755f839a9fdd68b61de878f0b387", func := "fanlight/fanlightlaw08.PoolBounds", spec := "poolBounds", inPlace := ["sync/atomic.StoreUint64", "sync/atomic.LoadUint64", "sync/atomic.CompareAndSwapUint64"], apart := false }
def PoolBoundsSaid : Prop := poolBoundsRow.holds Try.pinned (OpenSpec.ofChange poolBoundsSpec)

/-- ITS FALSE NEIGHBOUR: 'it returns false'. Refute it at one input. -/
def poolBoundsWrong : ChangeSpec := { name := "poolBounds", fn := fun _ => fun
  | [d1, d2, d3] => { results := [.lit (.bool false)], args := [d1, d2, d3] }
  | _ => none }
def PoolBoundsWrongFalsely : Prop := poolBoundsRow.holds Try.pinned (OpenSpec.ofChange poolBoundsWrong)

/-- 'fanlightlaw09.CacheOwns': WHATEVER THE INPUT: true; the input reads as it did. -/
def cacheOwnsSpec : ChangeSpec := { name := "cacheOwns", fn := fun _ => fun
  | [d1, d2] => { results := [.lit (.bool true)], args := [d1, d2] }
  | _ => none }
def cacheOwnsRow : OpenClaim := { program := "ytmbceafeonjffaa", sum := "7022a389be749ebd98975d24fe123250630f755f839a9fdd68b61de878f0b387", func := "fanlight/fanlightlaw09.CacheOwns", spec := "cacheOwns", inPlace := ["sync/atomic.StoreUint64", "sync/atomic.LoadUint64", "sync/atomic.CompareAndSwapUint64"], recurses := true, apart := false }
def CacheOwnsSaid : Prop := cacheOwnsRow.holds Try.pinned (OpenSpec.ofChange cacheOwnsSpec)

/-- ITS FALSE NEIGHBOUR: 'it returns false'. Refute it at one input. -/
def cacheOwnsWrong : ChangeSpec := { name := "cacheOwns", fn := fun _ => fun
  | [d1, d2] => { results := [.lit (.bool false)], args := [d1, d2] }
  | _ => none }
def CacheOwnsWrongFalsely : Prop := cacheOwnsRow.holds Try.pinned (OpenSpec.ofChange cacheOwnsWrong)

/-- 'fanlightlaw09.CacheNone': WHATEVER THE INPUT: true; the input reads as it did. -/
def cacheNoneSpec : ChangeSpec := { name := "cacheNone", fn := fun _ => fun
  | [d1, d2] => { results := [.lit (.bool true)], args := [d1, d2] }
  | _ => none }
def cacheNoneRow : OpenClaim := { program := "ytmbceafeonjffaa", sum := "7022a389be749ebd98975d24fe123250630f755f839a9fdd68b61de878f0b387", func := "fanlight/fanlightlaw09.CacheNone", spec := "cacheNone", inPlace := ["sync/atomic.StoreUint64", "sync/atomic.LoadUint64", "sync/atomic.CompareAndSwapUint64"], apart := false }
def CacheNoneSaid : Prop := cacheNoneRow.holds Try.pinned (OpenSpec.ofChange cacheNoneSpec)

/-- ITS FALSE NEIGHBOUR: 'it returns false'. Refute it at one input. -/
def cacheNoneWrong : ChangeSpec := { name := "cacheNone", fn := fun _ => fun
  | [d1, d2] => { results := [.lit (.bool false)], args := [d1, d2] }
  | _ => none }
def CacheNoneWrongFalsely : Prop := cacheNoneRow.holds Try.pinned (OpenSpec.ofChange cacheNoneWrong)

/-- 'fanlightlaw09.CacheStacks': WHATEVER THE INPUT: true; the input reads as it did. -/
def cacheStacksSpec : ChangeSpec := { name := "cacheStacks", fn := fun _ => fun
  | [d1, d2] => { results := [.lit (.bool true)], args := [d1, d2] }
  | _ => none }
def cacheStacksRow : OpenClaim := { program := "ytmbceafeonjffaa", sum := "7022a389be749ebd98975d24fe123250630f755f839a9fdd68b61de878f0b387", func := "fanlight/fanlightlaw09.CacheStacks", spec := "cacheStacks", inPlace := ["sync/atomic.StoreUint64", "sync/atomic.LoadUint64", "sync/atomic.CompareAndSwapUint64"], recurses := true, apart := false }
def CacheStacksSaid : Prop := cacheStacksRow.holds Try.pinned (OpenSpec.ofChange cacheStacksSpec)

/-- ITS FALSE NEIGHBOUR: 'it returns false'. Refute it at one input. -/
def cacheStacksWrong : ChangeSpec := { name := "cacheStacks", fn := fun _ => fun
  | [d1, d2] => { results := [.lit (.bool false)], args := [d1, d2] }
  | _ => none }
def CacheStacksWrongFalsely : Prop := cacheStacksRow.holds Try.pinned (OpenSpec.ofChange cacheStacksWrong)

/- THE SECOND FORM. 'bulk': how many values and letters a reading holds, each counted each time it is reached (what is shared counts as often as it is met; a slice's spare places count too). A statement '..UptoSaid' is the law's where the arguments, and the package variables that the reading takes, are together of bulk at most 1048576: NARROWER than '..Said'. Prove '..Said' where nothing that the law and all that it calls make is longer than what came in: it says more and counts as full. Else prove '..UptoSaid'. A law counts once. -/
mutual
def uptoBulk {H : Type} : DataW H → Nat
  | .lit (.string bytes) => bytes.length + 1
  | .lit _ => 1
  | .nil => 1
  | .ptr d => uptoBulk d + 1
  | .slice elems spare => uptoBulkAll elems + uptoBulkAll spare + 1
  | .agg parts => uptoBulkAll parts + 1
  | .iface _ d => uptoBulk d + 1
  | .map entries => uptoBulkEntries entries + 1
  | .held _ => 1
def uptoBulkAll {H : Type} : List (DataW H) → Nat
  | [] => 0
  | d :: r => uptoBulk d + uptoBulkAll r
def uptoBulkEntries {H : Type} : List (Lit × DataW H) → Nat
  | [] => 0
  | x :: r => uptoBulkEntry x + uptoBulkEntries r
def uptoBulkEntry {H : Type} : Lit × DataW H → Nat
  | (.string bytes, d) => bytes.length + uptoBulk d + 1
  | (_, d) => uptoBulk d + 1
 end
def uptoSmall : (H : Type) → List (DataW H) → Bool := fun _ ds => decide (uptoBulkAll ds ≤ 1048576)
def OpenSpec.upto (s : _root_.Go.ChangeSpec) : _root_.Go.OpenSpec := { _root_.Go.OpenSpec.ofChange s with cond := some uptoSmall }

/-- 'fanlightlaw08.PoolOwns', WHERE WHAT IT READS IS OF BULK AT MOST 1048576: true; the input reads as it did. -/
def poolOwnsUptoRow : OpenClaim := { program := "ytmbceafeonjffaa", sum := "7022a389be749ebd98975d24fe123250630f755f839a9fdd68b61de878f0b387", func := "fanlight/fanlightlaw08.PoolOwns", spec := "poolOwns", inPlace := ["sync/atomic.StoreUint64", "sync/atomic.LoadUint64", "sync/atomic.CompareAndSwapUint64"], recurses := true, apart := false, narrowed := true }
def PoolOwnsUptoSaid : Prop := poolOwnsUptoRow.holds Try.pinned (OpenSpec.upto poolOwnsSpec)

/-- 'fanlightlaw08.PoolNone', WHERE WHAT IT READS IS OF BULK AT MOST 1048576: true; the input reads as it did. -/
def poolNoneUptoRow : OpenClaim := { program := "ytmbceafeonjffaa", sum := "7022a389be749ebd98975d24fe123250630f755f839a9fdd68b61de878f0b387", func := "fanlight/fanlightlaw08.PoolNone", spec := "poolNone", inPlace := ["sync/atomic.StoreUint64", "sync/atomic.LoadUint64", "sync/atomic.CompareAndSwapUint64"], apart := false, narrowed := true }
def PoolNoneUptoSaid : Prop := poolNoneUptoRow.holds Try.pinned (OpenSpec.upto poolNoneSpec)

/-- 'fanlightlaw08.PoolBounds', WHERE WHAT IT READS IS OF BULK AT MOST 1048576: true; the input reads as it did. -/
def poolBoundsUptoRow : OpenClaim := { program := "ytmbceafeonjffaa", sum := "7022a389be749ebd98975d24fe123250630f755f839a9fdd68b61de878f0b387", func := "fanlight/fanlightlaw08.PoolBounds", spec := "poolBounds", inPlace := ["sync/atomic.StoreUint64", "sync/atomic.LoadUint64", "sync/atomic.CompareAndSwapUint64"], apart := false, narrowed := true }
def PoolBoundsUptoSaid : Prop := poolBoundsUptoRow.holds Try.pinned (OpenSpec.upto poolBoundsSpec)

/-- 'fanlightlaw09.CacheOwns', WHERE WHAT IT READS IS OF BULK AT MOST 1048576: true; the input reads as it did. -/
def cacheOwnsUptoRow : OpenClaim := { program := "ytmbceafeonjffaa", sum := "7022a389be749ebd98975d24fe123250630f755f839a9fdd68b61de878f0b387", func := "fanlight/fanlightlaw09.CacheOwns", spec := "cacheOwns", inPlace := ["sync/atomic.StoreUint64", "sync/atomic.LoadUint64", "sync/atomic.CompareAndSwapUint64"], recurses := true, apart := false, narrowed := true }
def CacheOwnsUptoSaid : Prop := cacheOwnsUptoRow.holds Try.pinned (OpenSpec.upto cacheOwnsSpec)

/-- 'fanlightlaw09.CacheNone', WHERE WHAT IT READS IS OF BULK AT MOST 1048576: true; the input reads as it did. -/
def cacheNoneUptoRow : OpenClaim := { program := "ytmbceafeonjffaa", sum := "7022a389be749ebd98975d24fe123250630f755f839a9fdd68b61de878f0b387", func := "fanlight/fanlightlaw09.CacheNone", spec := "cacheNone", inPlace := ["sync/atomic.StoreUint64", "sync/atomic.LoadUint64", "sync/atomic.CompareAndSwapUint64"], apart := false, narrowed := true }
def CacheNoneUptoSaid : Prop := cacheNoneUptoRow.holds Try.pinned (OpenSpec.upto cacheNoneSpec)

/-- 'fanlightlaw09.CacheStacks', WHERE WHAT IT READS IS OF BULK AT MOST 1048576: true; the input reads as it did. -/
def cacheStacksUptoRow : OpenClaim := { program := "ytmbceafeonjffaa", sum := "7022a389be749ebd98975d24fe123250630f755f839a9fdd68b61de878f0b387", func := "fanlight/fanlightlaw09.CacheStacks", spec := "cacheStacks", inPlace := ["sync/atomic.StoreUint64", "sync/atomic.LoadUint64", "sync/atomic.CompareAndSwapUint64"], recurses := true, apart := false, narrowed := true }
def CacheStacksUptoSaid : Prop := cacheStacksUptoRow.holds Try.pinned (OpenSpec.upto cacheStacksSpec)

end Rows
end Go.Proofs.Ytmbceafeonjffaa
