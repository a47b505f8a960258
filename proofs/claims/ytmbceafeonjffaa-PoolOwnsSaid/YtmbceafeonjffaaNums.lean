/-
  Slices of numbers that came in, as lists. Conditions stand in each theorem.
-/
import Derived.Test.YtmbceafeonjffaaBase
import Derived.Test.YtmbceafeonjffaaWrap
import Derived.Laws.MakeOwn
namespace Go.Proofs.Ytmbceafeonjffaa
open Go.ChangeShapes Go.WideShapes Go.ChangeAt Go.RowKit Plain
set_option linter.unusedVariables false
set_option maxRecDepth 100000

/-- a slice of numbers of one kind that reads as a list -/
def RdN (k : IntKind) (w : World) (A : Option Addr) (zs : List Int) : Prop :=
  (∀ x ∈ zs, (Lit.int k x).wf = true) ∧ (0 < zs.length → ∃ b off, A = some ⟨b, off, none⟩ ∧ b < w.heap.size ∧ ∀ j, j < zs.length → w.cell? ⟨b, off + j, none⟩ = some (.int k (zs.getD j 0)))
theorem RdN.below {k : IntKind} {B : Nat} {w w' : World} {A : Option Addr} {zs : List Int} (h : RdN k w A zs) (hb : Below B w w') (hB : w.heap.size ≤ B) : RdN k w' A zs :=
  ⟨h.1, fun hp => by
    obtain ⟨b, off, e, hl, hc⟩ := h.2 hp
    exact ⟨b, off, e, Nat.lt_of_lt_of_le hl hb.size, fun j hj => (hb.cell (p := ⟨b, off + j, none⟩) (show b < B by omega)).trans (hc j hj)⟩⟩
theorem RdN.take {k : IntKind} {w : World} {A : Option Addr} {zs : List Int} (h : RdN k w A zs) (n : Nat) : RdN k w A (zs.take n) :=
  ⟨fun x hx => h.1 x (List.mem_of_mem_take hx), fun hp => by
    rw [List.length_take] at hp
    obtain ⟨b, off, e, hl, hc⟩ := h.2 (by omega)
    refine ⟨b, off, e, hl, fun j hj => ?_⟩
    rw [List.length_take] at hj
    rw [getD_take _ _ _ (by omega)]
    exact hc j (by omega)⟩
theorem RdN.wf {k : IntKind} {w : World} {A : Option Addr} {zs : List Int} (h : RdN k w A zs) (j : Nat) (hj : j < zs.length) : (Lit.int k (zs.getD j 0)).wf = true := by
  have : zs.getD j 0 = zs[j] := by simp [List.getD, hj]
  rw [this]; exact h.1 _ (List.getElem_mem hj)
theorem bounds_u64 {n : Int} (h : (Lit.int .u64 n).wf = true) : 0 ≤ n ∧ n < 18446744073709551616 := by
  simp [Lit.wf, IntKind.min, IntKind.max, IntKind.signed, IntKind.bits] at h
  omega

theorem open_nums {H : Type} {enc : TypeId × Value → H} {W : World} {t e : TypeId} {k : IntKind} (ht : Try.prog.underlying t = some (.slice e)) (he : Try.prog.underlying e = some (.int k)) (hce : Try.prog.cellsOf e = 1)
    {a : Option Addr} {len cap : Nat} {d : DataW H} {p : List MemPlace} (h : DataW.Trod enc Try.prog W 0 (fun _ => true) true t (.slice a len cap) d p) :
    ∃ zs : List Int, zs.length = len ∧ len ≤ cap ∧ cap ≤ maxLen ∧ RdN k W a zs := by
  obtain ⟨fuel, hf⟩ := h
  rcases open_ints ht he hce hf with ⟨hcs, _⟩ | ⟨x, l, c, zs, hcs, _, hl, hm, hz, _, hcell, hwz⟩
  · simp [Value.cells] at hcs
    obtain ⟨rfl, rfl, rfl⟩ := hcs
    exact ⟨[], rfl, Nat.le_refl _, Nat.zero_le _, by simp, fun h => absurd h (by simp)⟩
  · simp [Value.cells] at hcs
    obtain ⟨rfl, rfl, rfl⟩ := hcs
    have hz' : zs.length = cap := by simpa using hz
    have hlen : (zs.take len).length = len := by rw [List.length_take]; omega
    refine ⟨zs.take len, hlen, hl, hm, ?_, ?_⟩
    · intro y hy
      exact hwz y (List.mem_of_mem_take hy)
    · intro hpos
      rw [hlen] at hpos
      obtain ⟨b, off, spot⟩ := x
      have hc := hcell 0 (by omega)
      have hspot : spot = none := by simpa [Addr.add] using World.cell?_spot hc
      subst hspot
      refine ⟨b, off, rfl, ?_, ?_⟩
      · have hc0 : W.cell? ⟨b, off, none⟩ = some (.int k (zs.getD 0 0)) := by simpa [Addr.add] using hc
        exact block_lt_of_cell hc0
      · intro j hj
        rw [hlen] at hj
        have h1 := hcell j (by omega)
        rw [getD_take _ _ _ hj, ← h1]
        rcases Nat.eq_zero_or_pos j with rfl | hk0
        · simp [Addr.add]
        · simp [Addr.add, Nat.pos_iff_ne_zero.1 hk0]

/-- a number that any int picks below m -/
theorem pickN (bit m : Int) (h0 : 0 < m) (h1 : m < 4611686018427387904) : ∃ K : Nat, wrap64 ((IntKind.u64.wrap bit).tmod m) = (K : Int) ∧ (K : Int) < m := by
  have e : IntKind.u64.wrap bit = bit % 18446744073709551616 := IntKind.wrap_u64 bit
  have n0 : 0 ≤ bit % 18446744073709551616 := by omega
  have e2 : (bit % 18446744073709551616).tmod m = bit % 18446744073709551616 % m := Int.tmod_eq_emod_of_nonneg n0
  have l0 := Int.emod_nonneg (bit % 18446744073709551616) (show m ≠ 0 by omega)
  have l1 := Int.emod_lt_of_pos (bit % 18446744073709551616) h0
  rw [e, e2]
  generalize bit % 18446744073709551616 % m = x at *
  refine ⟨x.toNat, ?_, by omega⟩
  unfold wrap64; omega

/-- a block of numbers of one kind that is known whole -/
def Row (k : IntKind) (t : TypeId) (w : World) (g : Nat) (zs : List Int) : Prop := Blk w g t (zs.map (Value.int k)).toArray
section
variable {k : IntKind} {t : TypeId} {w w' : World} {g : Nat} {zs : List Int}
theorem Row.at (h : Row k t w g zs) {i : Nat} (hi : i < zs.length) : w.cell? ⟨g, i, none⟩ = some (.int k (zs.getD i 0)) := by
  unfold Row at h
  rw [h.cell]
  simp [hi, List.getD]
theorem Row.free (h : Row k t w g zs) (i : Nat) : w.frozen? ⟨g, i, none⟩ = false := Blk.frozen h i
theorem Row.lt (h : Row k t w g zs) : g < w.heap.size := Blk.lt h
theorem Row.set (h : Row k t w g zs) (i : Nat) (x : Int) : Row k t (w.setCell ⟨g, i, none⟩ (.int k x)) g (zs.set i x) := by
  unfold Row at *
  have := h.set i (.int k x)
  rw [List.map_set]
  simpa using this
theorem Row.ne (h : Row k t w g zs) {p : Addr} (hp : p.block ≠ g) (v : Value) : Row k t (w.setCell p v) g zs := Blk.ne h hp v
theorem Row.below (h : Row k t w g zs) (hb : Below w.heap.size w w') : Row k t w' g zs := Blk.below h hb
theorem Row.alloc (h : Row k t w g zs) (o : Obj) : Row k t (w.alloc o) g zs := Blk.alloc h o
theorem Row.grown (h : Row k t w g zs) {r : Nat} (hg : w.grownBy w' (some r)) (h1 : g ≠ r) : Row k t w' g zs := Blk.grown h hg h1
theorem Row.rd (h : Row k t w g zs) (hz : ∀ x ∈ zs, (Lit.int k x).wf = true) : RdN k w (some ⟨g, 0, none⟩) zs :=
  ⟨hz, fun _ => ⟨g, 0, rfl, h.lt, fun j hj => by rw [Nat.zero_add]; exact h.at hj⟩⟩
end
theorem run_mkN (t e : TypeId) (k : IntKind) (bytes : Nat) (hu : Try.prog.underlying t = some (.slice e)) (hi : (Try.prog.info? e).map (fun i => (i.zero, i.size, i.bytes)) = some (some (.int k 0), 1, bytes)) (h8 : bytes ≤ 8) (n : Nat) (hn : n ≤ 1000000) (w : World) :
    (Instr.makeSlice t (.int .i64 n) (.int .i64 n)).run Try.prog w = .ok (.slice (some ⟨w.heap.size, 0, none⟩) n n) (w.alloc (.cells ((List.replicate n (0 : Int)).map (Value.int k)).toArray e)) := by
  obtain ⟨i, hi, hz, hs, hb⟩ := info_parts hi
  have hbn : (i.bytes : Int) * (n : Int) ≤ 281474976710656 := by
    have : i.bytes * n ≤ 8 * 1000000 := Nat.mul_le_mul (by omega) hn
    have h2 : ((i.bytes * n : Nat) : Int) ≤ 8 * 1000000 := by omega
    rw [Int.natCast_mul] at h2; omega
  have h := run_make (P := Try.prog) w t e i _ hu hi hz .i64 .i64 n n (by omega) (by omega) hbn (by omega)
  have e1 : madeCells (Value.int k 0).cells (n * 1) = ((List.replicate n (0 : Int)).map (Value.int k)).toArray := by
    apply Array.ext'
    rw [show (Value.int k 0).cells = #[Value.int k 0] from rfl, toList_madeCells_one, Nat.mul_one, List.map_replicate]
  rw [hs, Int.toNat_natCast, e1] at h
  exact h
theorem Row.made (k : IntKind) (t : TypeId) (w : World) (n : Nat) : Row k t (w.alloc (.cells ((List.replicate n (0 : Int)).map (Value.int k)).toArray t)) w.heap.size (List.replicate n 0) := Blk.new w t _
theorem agree_set {zs l : List Int} {k : Nat} (h : ∀ j, j < k → zs.getD j 0 = l.getD j 0) (hk : k < zs.length) : ∀ j, j < k + 1 → (zs.set k (l.getD k 0)).getD j 0 = l.getD j 0 := by
  intro j hj
  rcases Nat.lt_or_ge j k with h1 | h1
  · rw [← h j h1]; simp [List.getD, Nat.ne_of_gt h1]
  · obtain rfl : j = k := by omega
    simp [List.getD, hk]
theorem agree_all {zs l : List Int} (hl : zs.length = l.length) (h : ∀ j, j < l.length → zs.getD j 0 = l.getD j 0) : zs = l := by
  refine List.ext_getElem hl fun i h1 h2 => ?_
  have := h i h2
  simpa [List.getD, h1, h2] using this
end Go.Proofs.Ytmbceafeonjffaa
