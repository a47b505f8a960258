/-
  Slices of numbers that came in, as lists. Conditions stand in each theorem.
-/
import Derived.Test.YtaoookahpbalaaaBase
import Derived.Test.YtaoookahpbalaaaWrap
namespace Go.Proofs.Ytaoookahpbalaaa
open Go.ChangeShapes Go.WideShapes Go.ChangeAt Go.RowKit Plain
set_option linter.unusedVariables false
set_option maxRecDepth 100000

/-- a slice of numbers of one kind that reads as a list -/
def RdN (k : IntKind) (w : World) (A : Option Addr) (zs : List Int) : Prop :=
  (∀ x ∈ zs, (Lit.int k x).wf = true) ∧ (0 < zs.length → ∃ b off, A = some ⟨b, off, none⟩ ∧ b < w.heap.size ∧ ∀ j, j < zs.length → w.cell? ⟨b, off + j, none⟩ = some (.int k (zs.getD j 0)))
theorem RdN.below {k : IntKind} {B : Nat} {w w' : World} {A : Option Addr} {zs : List Int} (h : RdN k w A zs) (hb : Below B w w') (hB : w.heap.size ≤ B) : RdN k w' A zs :=
  ⟨h.1, fun hp => by
    obtain ⟨b, off, e, hl, hc⟩ := h.2 hp
    exact ⟨b, off, e, Nat.lt_of_lt_of_le hl hb.size, fun j hj => (hb.cell (p := ⟨b, off + j, none⟩) (show b < B by omega)).trans (hc j hj)⟩⟩
theorem RdN.take {k : IntKind} {w : World} {A : Option Addr} {zs : List Int} (h : RdN k w A zs) (n : Nat) : RdN k w A (zs.take n) :=
  ⟨fun x hx => h.1 x (List.mem_of_mem_take hx), fun hp => by
    rw [List.length_take] at hp
    obtain ⟨b, off, e, hl, hc⟩ := h.2 (by omega)
    refine ⟨b, off, e, hl, fun j hj => ?_⟩
    rw [List.length_take] at hj
    rw [getD_take _ _ _ (by omega)]
    exact hc j (by omega)⟩
theorem RdN.wf {k : IntKind} {w : World} {A : Option Addr} {zs : List Int} (h : RdN k w A zs) (j : Nat) (hj : j < zs.length) : (Lit.int k (zs.getD j 0)).wf = true := by
  have : zs.getD j 0 = zs[j] := by simp [List.getD, hj]
  rw [this]; exact h.1 _ (List.getElem_mem hj)
theorem bounds_u64 {n : Int} (h : (Lit.int .u64 n).wf = true) : 0 ≤ n ∧ n < 18446744073709551616 := by
  simp [Lit.wf, IntKind.min, IntKind.max, IntKind.signed, IntKind.bits] at h
  omega

theorem open_nums {H : Type} {enc : TypeId × Value → H} {W : World} {t e : TypeId} {k : IntKind} (ht : Try.prog.underlying t = some (.slice e)) (he : Try.prog.underlying e = some (.int k)) (hce : Try.prog.cellsOf e = 1)
    {a : Option Addr} {len cap : Nat} {d : DataW H} {p : List MemPlace} (h : DataW.Trod enc Try.prog W 0 (fun _ => true) true t (.slice a len cap) d p) :
    ∃ zs : List Int, zs.length = len ∧ len ≤ cap ∧ cap ≤ maxLen ∧ RdN k W a zs := by
  obtain ⟨fuel, hf⟩ := h
  rcases open_ints ht he hce hf with ⟨hcs, _⟩ | ⟨x, l, c, zs, hcs, _, hl, hm, hz, _, hcell, hwz⟩
  · simp [Value.cells] at hcs
    obtain ⟨rfl, rfl, rfl⟩ := hcs
    exact ⟨[], rfl, Nat.le_refl _, Nat.zero_le _, by simp, fun h => absurd h (by simp)⟩
  · simp [Value.cells] at hcs
    obtain ⟨rfl, rfl, rfl⟩ := hcs
    have hz' : zs.length = cap := by simpa using hz
    have hlen : (zs.take len).length = len := by rw [List.length_take]; omega
    refine ⟨zs.take len, hlen, hl, hm, ?_, ?_⟩
    · intro y hy
      exact hwz y (List.mem_of_mem_take hy)
    · intro hpos
      rw [hlen] at hpos
      obtain ⟨b, off, spot⟩ := x
      have hc := hcell 0 (by omega)
      have hspot : spot = none := by simpa [Addr.add] using World.cell?_spot hc
      subst hspot
      refine ⟨b, off, rfl, ?_, ?_⟩
      · have hc0 : W.cell? ⟨b, off, none⟩ = some (.int k (zs.getD 0 0)) := by simpa [Addr.add] using hc
        exact block_lt_of_cell hc0
      · intro j hj
        rw [hlen] at hj
        have h1 := hcell j (by omega)
        rw [getD_take _ _ _ hj, ← h1]
        rcases Nat.eq_zero_or_pos j with rfl | hk0
        · simp [Addr.add]
        · simp [Addr.add, Nat.pos_iff_ne_zero.1 hk0]
end Go.Proofs.Ytaoookahpbalaaa
