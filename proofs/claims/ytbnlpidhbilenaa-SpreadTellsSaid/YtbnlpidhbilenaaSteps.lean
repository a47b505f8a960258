/-
  Slices of bytes that read as a list, behind stores and cuts. Conditions stand in each theorem.
-/
import Derived.Test.YtbnlpidhbilenaaSumN
import Derived.Test.YtbnlpidhbilenaaBase
import Derived.Lib.SlBytesConst
namespace Go.Proofs.Ytbnlpidhbilenaa
open Go.RowKit Plain
set_option linter.unusedVariables false
set_option maxRecDepth 100000

/-- a block just made of these bytes, whatever its mark -/
theorem Rd.newM (w : World) (t : TypeId) (z : Nat × Nat) (zs : List Int) (hby : By zs) (cs : Array Value) (hcs : cs = (zs.map (Value.int .u8)).toArray) : Rd (w.alloc (.cells cs t z)) (some ⟨w.heap.size, 0, none⟩) zs := by
  subst hcs
  refine ⟨hby, fun _ => ⟨w.heap.size, 0, rfl, fun k hk => ?_⟩⟩
  rw [Nat.zero_add, World.cell?_alloc_mark]
  simp [hk, List.getD]
theorem Rd.dropAt {w : World} {b off : Nat} {zs : List Int} (h : Rd w (some ⟨b, off, none⟩) zs) (k : Nat) : Rd w (some ⟨b, off + k, none⟩) (zs.drop k) := by
  refine ⟨h.1.drop k, fun hp => ⟨b, off + k, rfl, fun j hj => ?_⟩⟩
  rw [List.length_drop] at hp hj
  obtain ⟨b', off', e, hc⟩ := h.2 (by omega)
  injection e with e
  injection e with e1 e2
  subst e1 e2
  rw [getD_drop, Nat.add_assoc]
  exact hc (k + j) (by omega)
theorem Rd.lt {w : World} {A : Option Addr} {zs : List Int} (h : Rd w A zs) : ∀ b off, 0 < zs.length → A = some ⟨b, off, none⟩ → b < w.heap.size := by
  intro b off hp e
  obtain ⟨b', off', e', hc⟩ := h.2 hp
  rw [e] at e'
  injection e' with e'
  injection e' with e1 e2
  subst e1
  exact block_lt_of_cell (hc 0 hp)
theorem Rd.neq {w : World} {A : Option Addr} {zs : List Int} (h : Rd w A zs) {p : Addr} (hp : ∀ b off, 0 < zs.length → A = some ⟨b, off, none⟩ → b < p.block) (v : Value) : Rd (w.setCell p v) A zs :=
  ⟨h.1, fun hl => by
    obtain ⟨b, off, e, hc⟩ := h.2 hl
    refine ⟨b, off, e, fun k hk => (World.cell?_setCell_other w p ⟨b, off + k, none⟩ v (fun e2 => ?_)).trans (hc k hk)⟩
    have := hp b off hl e
    rw [e2] at this
    simp at this⟩
theorem Rd.setNew {w : World} {A : Option Addr} {zs : List Int} {m : Nat} (h : Rd w A zs) (hp : ∀ b off, 0 < zs.length → A = some ⟨b, off, none⟩ → b < m) (v0 v1 v2 v3 v4 v5 : Value) :
    Rd ((((((w.setCell ⟨m, 0, none⟩ v0).setCell ⟨m, 1, none⟩ v1).setCell ⟨m, 2, none⟩ v2).setCell ⟨m, 3, none⟩ v3).setCell ⟨m, 4, none⟩ v4).setCell ⟨m, 5, none⟩ v5) A zs :=
  (((((h.neq (p := ⟨m, 0, none⟩) hp v0).neq (p := ⟨m, 1, none⟩) hp v1).neq (p := ⟨m, 2, none⟩) hp v2).neq (p := ⟨m, 3, none⟩) hp v3).neq (p := ⟨m, 4, none⟩) hp v4).neq (p := ⟨m, 5, none⟩) hp v5
end Go.Proofs.Ytbnlpidhbilenaa
