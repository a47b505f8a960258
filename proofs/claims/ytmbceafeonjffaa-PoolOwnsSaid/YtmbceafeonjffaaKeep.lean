/-
  What stays when only some blocks, and new ones, are written ('Keep'). Conditions stand in each theorem.
-/
import Derived.Test.YtmbceafeonjffaaStructs
namespace Go.Proofs.Ytmbceafeonjffaa
open Go.RowKit Plain
set_option linter.unusedVariables false
set_option maxRecDepth 100000

/-- all blocks that were there, but these, are as they were -/
structure Keep (bs : List Nat) (w w' : World) : Prop where
  os : w'.os = w.os
  tape : w'.tape = w.tape
  output : w'.output = w.output
  size : w.heap.size ≤ w'.heap.size
  block : ∀ k, k < w.heap.size → k ∉ bs → w'.heap[k]? = w.heap[k]?

section
variable {bs cs : List Nat} {w w' w'' : World}
theorem Keep.refl (bs : List Nat) (w : World) : Keep bs w w := ⟨rfl, rfl, rfl, Nat.le_refl _, fun _ _ _ => rfl⟩
theorem Keep.trans (h : Keep bs w w') (k : Keep bs w' w'') : Keep bs w w'' :=
  ⟨k.os.trans h.os, k.tape.trans h.tape, k.output.trans h.output, Nat.le_trans h.size k.size, fun i hi hn => (k.block i (Nat.lt_of_lt_of_le hi h.size) hn).trans (h.block i hi hn)⟩
theorem Keep.mono (h : Keep bs w w') (hs : ∀ x ∈ bs, x ∈ cs) : Keep cs w w' := ⟨h.os, h.tape, h.output, h.size, fun k hk hn => h.block k hk fun hx => hn (hs k hx)⟩
/-- blocks that are new need not be named -/
theorem Keep.new {g : Nat} (h : Keep bs w w') (k : Keep (g :: bs) w' w'') (hg : w.heap.size ≤ g) : Keep bs w w'' :=
  ⟨k.os.trans h.os, k.tape.trans h.tape, k.output.trans h.output, Nat.le_trans h.size k.size, fun i hi hn => (k.block i (Nat.lt_of_lt_of_le hi h.size) (by
    intro hx
    rcases List.mem_cons.1 hx with rfl | hx
    · omega
    · exact hn hx)).trans (h.block i hi hn)⟩
theorem Keep.of_below (h : Below w.heap.size w w') : Keep bs w w' := ⟨h.os, h.tape, h.output, h.size, fun k hk _ => h.block k hk⟩
theorem Keep.of_grown {g : Nat} (h : w.grownBy w' (some g)) (hg : g ∈ bs) : Keep bs w w' := ⟨h.os, h.tape, h.output, h.size, fun k hk hn => h.block k hk (by rintro e; injection e with e; subst e; exact hn hg)⟩
theorem Keep.of_grownO {o : Option Nat} (h : w.grownBy w' o) (hg : ∀ g, o = some g → g ∈ bs) : Keep bs w w' := ⟨h.os, h.tape, h.output, h.size, fun k hk hn => h.block k hk (by rintro e; exact hn (hg k e.symm))⟩
theorem Keep.drew (h : Keep bs w w') : Keep bs w w'.drew := ⟨h.os, h.tape, h.output, h.size, h.block⟩
theorem Keep.drewN (h : Keep bs w w') (n : Nat) : Keep bs w (w'.drewN n) := ⟨h.os, h.tape, h.output, h.size, h.block⟩
theorem Keep.alloc (h : Keep bs w w') (o : Obj) : Keep bs w (w'.alloc o) :=
  ⟨h.os, h.tape, h.output, Nat.le_trans h.size (by simp), fun i hi hn => (Below.heap_alloc w' o i (Nat.lt_of_lt_of_le hi h.size)).trans (h.block i hi hn)⟩
theorem Keep.setCell (h : Keep bs w w') {p : Addr} (hp : p.block ∈ bs ∨ w.heap.size ≤ p.block) (v : Value) : Keep bs w (w'.setCell p v) :=
  ⟨h.os, h.tape, h.output, by simpa [World.setCell] using h.size, fun i hi hn => (Below.heap_setCell w' p v i (by
    rintro rfl
    rcases hp with hp | hp
    · exact hn hp
    · omega)).trans (h.block i hi hn)⟩
theorem Keep.below {B : Nat} {w0 : World} (h : Keep bs w w') (hb : Below B w0 w) (hB : B ≤ w0.heap.size) (hs : ∀ x ∈ bs, B ≤ x) : Below B w0 w' :=
  ⟨h.os.trans hb.os, h.tape.trans hb.tape, h.output.trans hb.output, Nat.le_trans hb.size h.size, fun k hk => (h.block k (Nat.lt_of_lt_of_le hk (Nat.le_trans hB hb.size)) fun hx => by have := hs k hx; omega).trans (hb.block k hk)⟩
theorem Keep.blk {g : Nat} {t : TypeId} {vs : Array Value} (h : Keep bs w w') (hb : Blk w g t vs) (hg : g ∉ bs) : Blk w' g t vs := (h.block g hb.lt hg).trans hb
theorem Keep.cell (h : Keep bs w w') {p : Addr} (hp : p.block < w.heap.size) (hn : p.block ∉ bs) : w'.cell? p = w.cell? p := World.cell?_of_block (h.block p.block hp hn)
theorem Keep.row {k : IntKind} {t : TypeId} {g : Nat} {zs : List Int} (h : Keep bs w w') (hr : Row k t w g zs) (hg : g ∉ bs) : Row k t w' g zs := h.blk hr hg
end
end Go.Proofs.Ytmbceafeonjffaa
