/-
  Words for worlds that follow one another, and blocks that are known whole behind stores. Conditions stand in each theorem.
-/
import Derived.Test.YtnhfbfmghclapaaSumN
import Derived.Lib.SlBytesConst
namespace Go.Proofs.Ytnhfbfmghclapaa
open Go.RowKit Plain
set_option linter.unusedVariables false
set_option maxRecDepth 100000

theorem bthen {w w1 w2 : World} (h1 : Below w.heap.size w w1) (h2 : Below w1.heap.size w1 w2) : Below w.heap.size w w2 := h1.trans (h2.mono h1.size)
theorem ball (w : World) (o : Obj) : Below w.heap.size w (w.alloc o) := (Below.refl _ _).alloc (Nat.le_refl _) _
theorem bdrewN (w : World) (n : Nat) : Below w.heap.size w (w.drewN n) := below_drewN (Below.refl _ _) n
theorem bdrew (w : World) : Below w.heap.size w w.drew := below_drewN (Below.refl _ _) 1

theorem heap_setCell {w : World} {g : Nat} {t : TypeId} {cs : Array Value} {z : Nat × Nat} (h : w.heap[g]? = some (.cells cs t z)) (i : Nat) (v : Value) :
    (w.setCell ⟨g, i, none⟩ v).heap[g]? = some (.cells (cs.setIfInBounds i v) t z) := by
  show (w.heap.modify g _)[g]? = _
  rw [Array.getElem?_modify, if_pos rfl, h]
  simp
theorem Blk.set {w : World} {g : Nat} {t : TypeId} {cs : Array Value} (h : Blk w g t cs) (i : Nat) (v : Value) : Blk (w.setCell ⟨g, i, none⟩ v) g t (cs.setIfInBounds i v) := heap_setCell h i v
theorem Blk.ne {w : World} {g : Nat} {t : TypeId} {cs : Array Value} (h : Blk w g t cs) {p : Addr} (hp : p.block ≠ g) (v : Value) : Blk (w.setCell p v) g t cs := by
  unfold Blk at *
  rw [← h]
  show (w.heap.modify p.block _)[g]? = _
  rw [Array.getElem?_modify, if_neg hp]
theorem Blk.drew {w : World} {g : Nat} {t : TypeId} {cs : Array Value} (h : Blk w g t cs) : Blk w.drew g t cs := h
theorem Blk.drewN {w : World} {g : Nat} {t : TypeId} {cs : Array Value} (h : Blk w g t cs) (n : Nat) : Blk (w.drewN n) g t cs := h
/-- six cells stored, one behind the other -/
theorem Blk.set6 {w : World} {g : Nat} {t : TypeId} {x0 x1 x2 x3 x4 x5 : Value} (h : Blk w g t #[x0, x1, x2, x3, x4, x5]) (v0 v1 v2 v3 v4 v5 : Value) :
    Blk ((((((w.setCell ⟨g, 0, none⟩ v0).setCell ⟨g, 1, none⟩ v1).setCell ⟨g, 2, none⟩ v2).setCell ⟨g, 3, none⟩ v3).setCell ⟨g, 4, none⟩ v4).setCell ⟨g, 5, none⟩ v5) g t #[v0, v1, v2, v3, v4, v5] :=
  (((((h.set 0 v0).set 1 v1).set 2 v2).set 3 v3).set 4 v4).set 5 v5
theorem Blk.ne6 {w : World} {g m : Nat} {t : TypeId} {cs : Array Value} (h : Blk w g t cs) (hp : m ≠ g) (v0 v1 v2 v3 v4 v5 : Value) :
    Blk ((((((w.setCell ⟨m, 0, none⟩ v0).setCell ⟨m, 1, none⟩ v1).setCell ⟨m, 2, none⟩ v2).setCell ⟨m, 3, none⟩ v3).setCell ⟨m, 4, none⟩ v4).setCell ⟨m, 5, none⟩ v5) g t cs :=
  (((((h.ne hp v0).ne hp v1).ne hp v2).ne hp v3).ne hp v4).ne hp v5

/-- a block just made of these bytes, whatever its mark -/
theorem Rd.newM (w : World) (t : TypeId) (z : Nat × Nat) (zs : List Int) (hby : By zs) (cs : Array Value) (hcs : cs = (zs.map (Value.int .u8)).toArray) : Rd (w.alloc (.cells cs t z)) (some ⟨w.heap.size, 0, none⟩) zs := by
  subst hcs
  refine ⟨hby, fun _ => ⟨w.heap.size, 0, rfl, fun k hk => ?_⟩⟩
  rw [Nat.zero_add, World.cell?_alloc_mark]
  simp [hk, List.getD]
theorem Rd.dropAt {w : World} {b off : Nat} {zs : List Int} (h : Rd w (some ⟨b, off, none⟩) zs) (k : Nat) : Rd w (some ⟨b, off + k, none⟩) (zs.drop k) := by
  refine ⟨h.1.drop k, fun hp => ⟨b, off + k, rfl, fun j hj => ?_⟩⟩
  rw [List.length_drop] at hp hj
  obtain ⟨b', off', e, hc⟩ := h.2 (by omega)
  injection e with e
  injection e with e1 e2
  subst e1 e2
  rw [getD_drop, Nat.add_assoc]
  exact hc (k + j) (by omega)
theorem Rd.lt {w : World} {A : Option Addr} {zs : List Int} (h : Rd w A zs) : ∀ b off, 0 < zs.length → A = some ⟨b, off, none⟩ → b < w.heap.size := by
  intro b off hp e
  obtain ⟨b', off', e', hc⟩ := h.2 hp
  rw [e] at e'
  injection e' with e'
  injection e' with e1 e2
  subst e1
  exact block_lt_of_cell (hc 0 hp)
theorem Rd.neq {w : World} {A : Option Addr} {zs : List Int} (h : Rd w A zs) {p : Addr} (hp : ∀ b off, 0 < zs.length → A = some ⟨b, off, none⟩ → b < p.block) (v : Value) : Rd (w.setCell p v) A zs :=
  ⟨h.1, fun hl => by
    obtain ⟨b, off, e, hc⟩ := h.2 hl
    refine ⟨b, off, e, fun k hk => (World.cell?_setCell_other w p ⟨b, off + k, none⟩ v (fun e2 => ?_)).trans (hc k hk)⟩
    have := hp b off hl e
    rw [e2] at this
    simp at this⟩
theorem Rd.setNew {w : World} {A : Option Addr} {zs : List Int} {m : Nat} (h : Rd w A zs) (hp : ∀ b off, 0 < zs.length → A = some ⟨b, off, none⟩ → b < m) (v0 v1 v2 v3 v4 v5 : Value) :
    Rd ((((((w.setCell ⟨m, 0, none⟩ v0).setCell ⟨m, 1, none⟩ v1).setCell ⟨m, 2, none⟩ v2).setCell ⟨m, 3, none⟩ v3).setCell ⟨m, 4, none⟩ v4).setCell ⟨m, 5, none⟩ v5) A zs :=
  (((((h.neq (p := ⟨m, 0, none⟩) hp v0).neq (p := ⟨m, 1, none⟩) hp v1).neq (p := ⟨m, 2, none⟩) hp v2).neq (p := ⟨m, 3, none⟩) hp v3).neq (p := ⟨m, 4, none⟩) hp v4).neq (p := ⟨m, 5, none⟩) hp v5
end Go.Proofs.Ytnhfbfmghclapaa
