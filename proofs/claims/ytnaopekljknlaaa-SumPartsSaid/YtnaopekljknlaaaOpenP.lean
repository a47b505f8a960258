/-
  A slice of slices of bytes that came in. Conditions stand in each theorem.
-/
import Derived.Test.YtnaopekljknlaaaOpen
import Derived.Test.YtnaopekljknlaaaCut
import Derived.Deep.Slices
import Derived.Lib.SmallJoins
namespace Go.Proofs.Ytnaopekljknlaaa
open Go.ChangeShapes Go.WideShapes Go.ChangeAt Go.RowKit Plain Go.Deep
set_option linter.unusedVariables false

/-- a slice of slices of bytes that can be read -/
def RdP (w : World) (A : Option Addr) (n : Nat) : Prop :=
  0 < n → ∃ b off, A = some ⟨b, off, none⟩ ∧ b < w.heap.size ∧ ∀ k, k < n → ∃ (Ak : Option Addr) (lk ck : Nat) (zk : List Int), w.cell? ⟨b, off + k, none⟩ = some (.slice Ak lk ck) ∧ zk.length = lk ∧ lk ≤ ck ∧ ck ≤ maxLen ∧ Rd w Ak zk

theorem cells22 : Try.prog.cellsOf 22 = 1 := by kernel_rfl

theorem open_parts {H : Type} {enc : TypeId × Value → H} {W : World} {a : Option Addr} {len cap : Nat} {d : DataW H} {p : List MemPlace} (h : DataW.Trod enc Try.prog W 0 (fun _ => true) true 42 (.slice a len cap) d p) :
    ∃ u : Unit, True ∧ len ≤ cap ∧ cap ≤ maxLen ∧ RdP W a len := by
  obtain ⟨fuel, hf⟩ := h
  rcases open_slice Try.underlying42 hf with ⟨hcs, _⟩ | ⟨x, l, c, m, n, D, Pl, hcs, _, hl, hm, hmm, _, hi⟩
  · simp [Value.cells] at hcs
    obtain ⟨rfl, rfl, rfl⟩ := hcs
    exact ⟨(), trivial, Nat.le_refl _, Nat.zero_le _, fun h => by omega⟩
  · simp [Value.cells] at hcs
    obtain ⟨rfl, rfl, rfl⟩ := hcs
    refine ⟨(), trivial, hl, hm, fun hpos => ?_⟩
    have hm' : m = cap := by simpa using hmm
    obtain ⟨b, off, spot⟩ := x
    have key : ∀ k, k < len → ∃ (Ak : Option Addr) (lk ck : Nat) (zk : List Int), W.cell? ((⟨b, off, spot⟩ : Addr).add k) = some (.slice Ak lk ck) ∧ zk.length = lk ∧ lk ≤ ck ∧ ck ≤ maxLen ∧ Rd W Ak zk := by
      intro k hk
      obtain ⟨cs', hc, ht⟩ := hi k (by omega)
      rw [cells22, Nat.mul_one] at hc
      obtain ⟨_, hcl, hat⟩ := World.cells?_some hc
      obtain ⟨Ak, lk, ck, hck⟩ := Joins.slice_form Try.underlying22 ht
      subst hck
      have hcell := hat 0 (by omega)
      obtain ⟨zk, z1, z2, z3, z4⟩ := open_rd (d := D k) (p := Pl k) ⟨n, by simpa [Value.cells] using ht⟩
      refine ⟨Ak, lk, ck, zk, ?_, z1, z2, z3, z4⟩
      have h0 : ∀ a : Addr, a.add 0 = a := fun a => by simp [Addr.add]
      rw [h0] at hcell
      exact hcell
    obtain ⟨A0, l0, k0, z0, hc0, _⟩ := key 0 hpos
    have hspot : spot = none := by simpa [Addr.add] using World.cell?_spot hc0
    subst hspot
    refine ⟨b, off, rfl, ?_, fun k hk => ?_⟩
    · have hc1 : W.cell? ⟨b, off, none⟩ = some (.slice A0 l0 k0) := by simpa [Addr.add] using hc0
      exact block_lt_of_cell hc1
    · obtain ⟨Ak, lk, ck, zk, hc, r⟩ := key k hk
      refine ⟨Ak, lk, ck, zk, ?_, r⟩
      rw [← hc]
      rcases Nat.eq_zero_or_pos k with rfl | hk0
      · simp [Addr.add]
      · simp [Addr.add, Nat.pos_iff_ne_zero.1 hk0]
end Go.Proofs.Ytnaopekljknlaaa
