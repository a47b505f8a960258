/-
  Words for memory: a slice of bytes that reads as a list ('Rd'), and what keeps it so. No program is named; conditions stand in each theorem.
-/
import Derived.Test.YtmbceafeonjffaaPlain
import Derived.WalkKit
import Derived.Below
import Derived.Laws.OwnMore
import Derived.Laws.Rows
import Derived.Deep.Draws
import Derived.Deep.AppendLies
namespace Go.Proofs.Ytmbceafeonjffaa
open Go.RowKit Plain
set_option linter.unusedVariables false
set_option maxRecDepth 100000

/-- a slice of bytes that reads as a list -/
def Rd (w : World) (A : Option Addr) (zs : List Int) : Prop :=
  By zs ∧ (0 < zs.length → ∃ b off, A = some ⟨b, off, none⟩ ∧ ∀ k, k < zs.length → w.cell? ⟨b, off + k, none⟩ = some (.int .u8 (zs.getD k 0)))

section
variable {w w' : World} {A : Option Addr} {zs : List Int}

theorem Rd.nil (w : World) (A : Option Addr) : Rd w A [] := ⟨By.nil, fun h => absurd h (by simp)⟩
theorem Rd.keep (h : Rd w A zs) (hk : ∀ b o, b < w.heap.size → w'.cell? ⟨b, o, none⟩ = w.cell? ⟨b, o, none⟩) : Rd w' A zs :=
  ⟨h.1, fun hp => by
    obtain ⟨b, off, e, hc⟩ := h.2 hp
    have hlt : b < w.heap.size := block_lt_of_cell (hc 0 hp)
    exact ⟨b, off, e, fun k hk' => (hk b _ hlt).trans (hc k hk')⟩⟩
theorem Rd.below (h : Rd w A zs) (hb : Below w.heap.size w w') : Rd w' A zs := h.keep fun b o hl => hb.cell (p := ⟨b, o, none⟩) hl
theorem Rd.drewN (h : Rd w A zs) (n : Nat) : Rd (w.drewN n) A zs := h
theorem Rd.drew (h : Rd w A zs) : Rd w.drew A zs := h
theorem Rd.alloc (h : Rd w A zs) (o : Obj) : Rd (w.alloc o) A zs := h.keep fun b i hl => World.cell?_alloc_lt w o ⟨b, i, none⟩ hl
theorem getD_take (l : List Int) (n k : Nat) (h : k < n) : (l.take n).getD k 0 = l.getD k 0 := by simp [List.getD, h]
theorem getD_drop (l : List Int) (n k : Nat) : (l.drop n).getD k 0 = l.getD (n + k) 0 := by simp [List.getD]
theorem Rd.take (h : Rd w A zs) (n : Nat) : Rd w A (zs.take n) :=
  ⟨h.1.take n, fun hp => by
    rw [List.length_take] at hp
    obtain ⟨b, off, e, hc⟩ := h.2 (by omega)
    refine ⟨b, off, e, fun k hk => ?_⟩
    rw [List.length_take] at hk
    rw [getD_take _ _ _ (by omega)]
    exact hc k (by omega)⟩
/-- a block that is known whole -/
def Blk (w : World) (g : Nat) (t : TypeId) (cs : Array Value) : Prop := w.heap[g]? = some (.cells cs t (0, 0))
theorem Blk.cell {g : Nat} {t : TypeId} {cs : Array Value} (h : Blk w g t cs) (i : Nat) : w.cell? ⟨g, i, none⟩ = cs[i]? := cell_of_row w g i cs t (0, 0) h
theorem Blk.frozen {g : Nat} {t : TypeId} {cs : Array Value} (h : Blk w g t cs) (i : Nat) : w.frozen? ⟨g, i, none⟩ = false := by
  unfold Blk at h
  simp [World.frozen?, h]
theorem Blk.lt {g : Nat} {t : TypeId} {cs : Array Value} (h : Blk w g t cs) : g < w.heap.size := by
  rcases Nat.lt_or_ge g w.heap.size with hlt | hge
  · exact hlt
  · unfold Blk at h; rw [Array.getElem?_eq_none hge] at h; cases h
theorem Blk.new (w : World) (t : TypeId) (cs : Array Value) : Blk (w.alloc (.cells cs t)) w.heap.size t cs := heap_alloc_new w _
theorem Blk.below {g : Nat} {t : TypeId} {cs : Array Value} (h : Blk w g t cs) (hb : Below w.heap.size w w') : Blk w' g t cs := (hb.block g h.lt).trans h
theorem Blk.alloc {g : Nat} {t : TypeId} {cs : Array Value} (h : Blk w g t cs) (o : Obj) : Blk (w.alloc o) g t cs := (Below.heap_alloc w o g h.lt).trans h
theorem Rd.of_blk {g : Nat} {t : TypeId} {cs : Array Value} (h : Blk w g t cs) (hby : By zs) (hc : ∀ k, k < zs.length → cs[k]? = some (.int .u8 (zs.getD k 0))) : Rd w (some ⟨g, 0, none⟩) zs :=
  ⟨hby, fun _ => ⟨g, 0, rfl, fun k hk => by rw [Nat.zero_add, h.cell]; exact hc k hk⟩⟩
/-- a block just made of these bytes -/
theorem Rd.new (w : World) (t : TypeId) (zs : List Int) (hby : By zs) : Rd (w.alloc (.cells (zs.map (Value.int .u8)).toArray t)) (some ⟨w.heap.size, 0, none⟩) zs :=
  Rd.of_blk (Blk.new w t _) hby fun k hk => by simp [hk, List.getD]

theorem bcell {W w1 : World} (hb : Below W.heap.size W w1) : (∀ b o, b < W.heap.size → w1.cell? ⟨b, o, none⟩ = W.cell? ⟨b, o, none⟩) ∧ (∀ b o, b < W.heap.size → w1.frozen? ⟨b, o, none⟩ = W.frozen? ⟨b, o, none⟩) :=
  ⟨fun b o h => hb.cell (p := ⟨b, o, none⟩) h, fun b o h => hb.frozen (p := ⟨b, o, none⟩) h⟩
theorem below_drewN {B : Nat} {a w : World} (h : Below B a w) (n : Nat) : Below B a (w.drewN n) := ⟨h.os, h.tape, h.output, h.size, h.block⟩
end
end Go.Proofs.Ytmbceafeonjffaa
