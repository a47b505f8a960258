/-
  Several small texts in one: Nums, Structs, Keep. Conditions stand in each theorem.
-/
import Derived.Test.YtdkjipfemnfckaaGD
import Derived.Test.YtdkjipfemnfckaaGB
import Derived.Laws.MakeOwn
import Derived.Deep.Slices
import Derived.Deep.Fields
namespace Go.Proofs.Ytdkjipfemnfckaa
open Go.ChangeShapes Go.WideShapes Go.ChangeAt Go.RowKit Plain
set_option linter.unusedVariables false
set_option maxRecDepth 100000

/-- a slice of numbers of one kind that reads as a list -/
def RdN (k : IntKind) (w : World) (A : Option Addr) (zs : List Int) : Prop :=
  (∀ x ∈ zs, (Lit.int k x).wf = true) ∧ (0 < zs.length → ∃ b off, A = some ⟨b, off, none⟩ ∧ b < w.heap.size ∧ ∀ j, j < zs.length → w.cell? ⟨b, off + j, none⟩ = some (.int k (zs.getD j 0)))
theorem RdN.below {k : IntKind} {B : Nat} {w w' : World} {A : Option Addr} {zs : List Int} (h : RdN k w A zs) (hb : Below B w w') (hB : w.heap.size ≤ B) : RdN k w' A zs :=
  ⟨h.1, fun hp => by
    obtain ⟨b, off, e, hl, hc⟩ := h.2 hp
    exact ⟨b, off, e, Nat.lt_of_lt_of_le hl hb.size, fun j hj => (hb.cell (p := ⟨b, off + j, none⟩) (show b < B by omega)).trans (hc j hj)⟩⟩
theorem RdN.take {k : IntKind} {w : World} {A : Option Addr} {zs : List Int} (h : RdN k w A zs) (n : Nat) : RdN k w A (zs.take n) :=
  ⟨fun x hx => h.1 x (List.mem_of_mem_take hx), fun hp => by
    rw [List.length_take] at hp
    obtain ⟨b, off, e, hl, hc⟩ := h.2 (by omega)
    refine ⟨b, off, e, hl, fun j hj => ?_⟩
    rw [List.length_take] at hj
    rw [getD_take _ _ _ (by omega)]
    exact hc j (by omega)⟩
theorem RdN.wf {k : IntKind} {w : World} {A : Option Addr} {zs : List Int} (h : RdN k w A zs) (j : Nat) (hj : j < zs.length) : (Lit.int k (zs.getD j 0)).wf = true := by
  have : zs.getD j 0 = zs[j] := by simp [List.getD, hj]
  rw [this]; exact h.1 _ (List.getElem_mem hj)
theorem bounds_u64 {n : Int} (h : (Lit.int .u64 n).wf = true) : 0 ≤ n ∧ n < 18446744073709551616 := by
  simp [Lit.wf, IntKind.min, IntKind.max, IntKind.signed, IntKind.bits] at h
  omega

theorem open_nums {H : Type} {enc : TypeId × Value → H} {W : World} {t e : TypeId} {k : IntKind} (ht : Try.prog.underlying t = some (.slice e)) (he : Try.prog.underlying e = some (.int k)) (hce : Try.prog.cellsOf e = 1)
    {a : Option Addr} {len cap : Nat} {d : DataW H} {p : List MemPlace} (h : DataW.Trod enc Try.prog W 0 (fun _ => true) true t (.slice a len cap) d p) :
    ∃ zs : List Int, zs.length = len ∧ len ≤ cap ∧ cap ≤ maxLen ∧ RdN k W a zs := by
  obtain ⟨fuel, hf⟩ := h
  rcases open_ints ht he hce hf with ⟨hcs, _⟩ | ⟨x, l, c, zs, hcs, _, hl, hm, hz, _, hcell, hwz⟩
  · simp [Value.cells] at hcs
    obtain ⟨rfl, rfl, rfl⟩ := hcs
    exact ⟨[], rfl, Nat.le_refl _, Nat.zero_le _, by simp, fun h => absurd h (by simp)⟩
  · simp [Value.cells] at hcs
    obtain ⟨rfl, rfl, rfl⟩ := hcs
    have hz' : zs.length = cap := by simpa using hz
    have hlen : (zs.take len).length = len := by rw [List.length_take]; omega
    refine ⟨zs.take len, hlen, hl, hm, ?_, ?_⟩
    · intro y hy
      exact hwz y (List.mem_of_mem_take hy)
    · intro hpos
      rw [hlen] at hpos
      obtain ⟨b, off, spot⟩ := x
      have hc := hcell 0 (by omega)
      have hspot : spot = none := by simpa [Addr.add] using World.cell?_spot hc
      subst hspot
      refine ⟨b, off, rfl, ?_, ?_⟩
      · have hc0 : W.cell? ⟨b, off, none⟩ = some (.int k (zs.getD 0 0)) := by simpa [Addr.add] using hc
        exact block_lt_of_cell hc0
      · intro j hj
        rw [hlen] at hj
        have h1 := hcell j (by omega)
        rw [getD_take _ _ _ hj, ← h1]
        rcases Nat.eq_zero_or_pos j with rfl | hk0
        · simp [Addr.add]
        · simp [Addr.add, Nat.pos_iff_ne_zero.1 hk0]

/-- a number that any int picks below m -/
theorem pickN (bit m : Int) (h0 : 0 < m) (h1 : m < 4611686018427387904) : ∃ K : Nat, wrap64 ((IntKind.u64.wrap bit).tmod m) = (K : Int) ∧ (K : Int) < m := by
  have e : IntKind.u64.wrap bit = bit % 18446744073709551616 := IntKind.wrap_u64 bit
  have n0 : 0 ≤ bit % 18446744073709551616 := by omega
  have e2 : (bit % 18446744073709551616).tmod m = bit % 18446744073709551616 % m := Int.tmod_eq_emod_of_nonneg n0
  have l0 := Int.emod_nonneg (bit % 18446744073709551616) (show m ≠ 0 by omega)
  have l1 := Int.emod_lt_of_pos (bit % 18446744073709551616) h0
  rw [e, e2]
  generalize bit % 18446744073709551616 % m = x at *
  refine ⟨x.toNat, ?_, by omega⟩
  unfold wrap64; omega

/-- a block of numbers of one kind that is known whole -/
def Row (k : IntKind) (t : TypeId) (w : World) (g : Nat) (zs : List Int) : Prop := Blk w g t (zs.map (Value.int k)).toArray
section
variable {k : IntKind} {t : TypeId} {w w' : World} {g : Nat} {zs : List Int}
theorem Row.at (h : Row k t w g zs) {i : Nat} (hi : i < zs.length) : w.cell? ⟨g, i, none⟩ = some (.int k (zs.getD i 0)) := by
  unfold Row at h
  rw [h.cell]
  simp [hi, List.getD]
theorem Row.free (h : Row k t w g zs) (i : Nat) : w.frozen? ⟨g, i, none⟩ = false := Blk.frozen h i
theorem Row.lt (h : Row k t w g zs) : g < w.heap.size := Blk.lt h
theorem Row.set (h : Row k t w g zs) (i : Nat) (x : Int) : Row k t (w.setCell ⟨g, i, none⟩ (.int k x)) g (zs.set i x) := by
  unfold Row at *
  have := h.set i (.int k x)
  rw [List.map_set]
  simpa using this
theorem Row.ne (h : Row k t w g zs) {p : Addr} (hp : p.block ≠ g) (v : Value) : Row k t (w.setCell p v) g zs := Blk.ne h hp v
theorem Row.below (h : Row k t w g zs) (hb : Below w.heap.size w w') : Row k t w' g zs := Blk.below h hb
theorem Row.alloc (h : Row k t w g zs) (o : Obj) : Row k t (w.alloc o) g zs := Blk.alloc h o
theorem Row.grown (h : Row k t w g zs) {r : Nat} (hg : w.grownBy w' (some r)) (h1 : g ≠ r) : Row k t w' g zs := Blk.grown h hg h1
theorem Row.rd (h : Row k t w g zs) (hz : ∀ x ∈ zs, (Lit.int k x).wf = true) : RdN k w (some ⟨g, 0, none⟩) zs :=
  ⟨hz, fun _ => ⟨g, 0, rfl, h.lt, fun j hj => by rw [Nat.zero_add]; exact h.at hj⟩⟩
end
theorem run_mkN (t e : TypeId) (k : IntKind) (bytes : Nat) (hu : Try.prog.underlying t = some (.slice e)) (hi : (Try.prog.info? e).map (fun i => (i.zero, i.size, i.bytes)) = some (some (.int k 0), 1, bytes)) (h8 : bytes ≤ 8) (n : Nat) (hn : n ≤ 1000000) (w : World) :
    (Instr.makeSlice t (.int .i64 n) (.int .i64 n)).run Try.prog w = .ok (.slice (some ⟨w.heap.size, 0, none⟩) n n) (w.alloc (.cells ((List.replicate n (0 : Int)).map (Value.int k)).toArray e)) := by
  obtain ⟨i, hi, hz, hs, hb⟩ := info_parts hi
  have hbn : (i.bytes : Int) * (n : Int) ≤ 281474976710656 := by
    have : i.bytes * n ≤ 8 * 1000000 := Nat.mul_le_mul (by omega) hn
    have h2 : ((i.bytes * n : Nat) : Int) ≤ 8 * 1000000 := by omega
    rw [Int.natCast_mul] at h2; omega
  have h := run_make (P := Try.prog) w t e i _ hu hi hz .i64 .i64 n n (by omega) (by omega) hbn (by omega)
  have e1 : madeCells (Value.int k 0).cells (n * 1) = ((List.replicate n (0 : Int)).map (Value.int k)).toArray := by
    apply Array.ext'
    rw [show (Value.int k 0).cells = #[Value.int k 0] from rfl, toList_madeCells_one, Nat.mul_one, List.map_replicate]
  rw [hs, Int.toNat_natCast, e1] at h
  exact h
theorem Row.made (k : IntKind) (t : TypeId) (w : World) (n : Nat) : Row k t (w.alloc (.cells ((List.replicate n (0 : Int)).map (Value.int k)).toArray t)) w.heap.size (List.replicate n 0) := Blk.new w t _
theorem agree_set {zs l : List Int} {k : Nat} (h : ∀ j, j < k → zs.getD j 0 = l.getD j 0) (hk : k < zs.length) : ∀ j, j < k + 1 → (zs.set k (l.getD k 0)).getD j 0 = l.getD j 0 := by
  intro j hj
  rcases Nat.lt_or_ge j k with h1 | h1
  · rw [← h j h1]; simp [List.getD, Nat.ne_of_gt h1]
  · obtain rfl : j = k := by omega
    simp [List.getD, hk]
theorem agree_all {zs l : List Int} (hl : zs.length = l.length) (h : ∀ j, j < l.length → zs.getD j 0 = l.getD j 0) : zs = l := by
  refine List.ext_getElem hl fun i h1 h2 => ?_
  have := h i h2
  simpa [List.getD, h1, h2] using this
end Go.Proofs.Ytdkjipfemnfckaa

namespace Go.Proofs.Ytdkjipfemnfckaa
open Go.ChangeShapes Go.WideShapes Go.ChangeAt Go.RowKit Go.Deep Plain
set_option linter.unusedVariables false
set_option maxRecDepth 100000

/-- what a field holds: a number of a kind, or a bool -/
inductive FK where
  | num (k : IntKind)
  | bol
def FK.ok : FK → Value → Prop
  | .num k, v => ∃ x, v = .int k x ∧ (Lit.int k x).wf = true
  | .bol, v => ∃ b, v = .bool b
def FK.ty : FK → TypeId → Prop
  | .num k, t => Try.prog.underlying t = some (.int k)
  | .bol, t => Try.prog.underlying t = some .bool

/-- n structs that lie one behind the other, each of so many fields -/
def RdS (K : List FK) (w : World) (A : Option Addr) (n : Nat) (V : Nat → Nat → Value) : Prop :=
  0 < n → ∃ b off, A = some ⟨b, off, none⟩ ∧ b < w.heap.size ∧ ∀ i, i < n → ∀ j k, K[j]? = some k → w.cell? ⟨b, off + (i * K.length + j), none⟩ = some (V i j) ∧ k.ok (V i j)

theorem RdS.below {K : List FK} {B n : Nat} {w w' : World} {A : Option Addr} {V : Nat → Nat → Value} (h : RdS K w A n V) (hb : Below B w w') (hB : w.heap.size ≤ B) : RdS K w' A n V := fun hp => by
  obtain ⟨b, off, e, hl, hc⟩ := h hp
  exact ⟨b, off, e, Nat.lt_of_lt_of_le hl hb.size, fun i hi j k hk => ⟨(hb.cell (p := ⟨b, off + (i * K.length + j), none⟩) (show b < B by omega)).trans (hc i hi j k hk).1, (hc i hi j k hk).2⟩⟩
theorem RdS.less {K : List FK} {n m : Nat} {w : World} {A : Option Addr} {V : Nat → Nat → Value} (h : RdS K w A n V) (hm : m ≤ n) : RdS K w A m V := fun hp => by
  obtain ⟨b, off, e, hl, hc⟩ := h (by omega)
  exact ⟨b, off, e, hl, fun i hi => hc i (by omega)⟩

theorem addr_add (b off k : Nat) : (⟨b, off, none⟩ : Addr).add k = ⟨b, off + k, none⟩ := by
  rcases Nat.eq_zero_or_pos k with rfl | hk
  · simp [Addr.add]
  · simp [Addr.add, Nat.pos_iff_ne_zero.1 hk]

theorem open_structs {H : Type} {enc : TypeId × Value → H} {W : World} {t e : TypeId} {fs : Array Field} (K : List FK) (ht : Try.prog.underlying t = some (.slice e)) (he : Try.prog.underlying e = some (.struct fs)) (hone : oneCellFields Try.prog fs = true)
    (hsz : fs.size = K.length) (hC : Try.prog.cellsOf e = K.length) (h0 : 0 < K.length) (hK : ∀ (j : Nat) (f : Field), fs[j]? = some f → ∃ k, K[j]? = some k ∧ k.ty f.type)
    {a : Option Addr} {len cap : Nat} {d : DataW H} {p : List MemPlace} (h : DataW.Trod enc Try.prog W 0 (fun _ => true) true t (.slice a len cap) d p) :
    len ≤ cap ∧ cap ≤ maxLen ∧ ∃ V, RdS K W a len V := by
  obtain ⟨fuel, hf⟩ := h
  rcases Go.Deep.open_slice ht hf with ⟨hcs, _⟩ | ⟨x, l, c, m, n, D, Pl, hcs, _, hl, hm, hmm, _, hi⟩
  · simp [Value.cells] at hcs
    obtain ⟨rfl, rfl, rfl⟩ := hcs
    exact ⟨Nat.le_refl _, Nat.zero_le _, fun _ _ => undef, fun h => absurd h (by simp)⟩
  · simp [Value.cells] at hcs
    obtain ⟨rfl, rfl, rfl⟩ := hcs
    have hmc : m = cap := by simpa using hmm
    subst hmc
    refine ⟨hl, hm, fun i j => (W.cell? (x.add (i * K.length + j))).getD undef, fun hpos => ?_⟩
    have key : ∀ i, i < m → ∀ j k, K[j]? = some k → ∃ v, W.cell? (x.add (i * K.length + j)) = some v ∧ k.ok v := by
      intro i him j k hk
      obtain ⟨cs', hc, ht'⟩ := hi i him
      rw [hC] at hc
      obtain ⟨ys, n', _, _, _, hyl, hg⟩ := DataW.trod_struct he ht'
      obtain ⟨_, hcl, hat⟩ := World.cells?_some hc
      have hjl : j < K.length := (List.getElem?_eq_some_iff.1 hk).1
      have hjs : j < fs.size := by omega
      have hfj : fs[j]? = some fs[j] := Array.getElem?_eq_getElem hjs
      obtain ⟨k', hk', hty⟩ := hK j _ hfj
      rw [hk] at hk'
      injection hk' with hk'
      subst hk'
      obtain ⟨ho, hc1⟩ := hone_of hone j _ hfj
      have h1 := hg j _ hfj
      rw [ho, hc1, List.drop_eq_getElem_cons (by omega), List.take_succ_cons, List.take_zero, List.getElem?_eq_getElem (by omega)] at h1
      have hcell := hat j hjl
      rw [Go.Deep.add_add, List.getElem?_eq_getElem (by omega)] at hcell
      refine ⟨_, hcell, ?_⟩
      cases k with
      | num k =>
        obtain ⟨y, hy, _, hw⟩ := DataW.trod_int hty h1
        injection hy with hy
        exact ⟨y, hy, hw⟩
      | bol =>
        obtain ⟨y, hy, _⟩ := DataW.trod_bool hty h1
        injection hy with hy
        exact ⟨y, hy⟩
    obtain ⟨b, off, spot⟩ := x
    obtain ⟨k0, hk0⟩ : ∃ k0, K[0]? = some k0 := ⟨_, List.getElem?_eq_getElem h0⟩
    obtain ⟨v0, hv0, _⟩ := key 0 (by omega) 0 k0 hk0
    have hspot : spot = none := by simpa [Addr.add] using World.cell?_spot hv0
    subst hspot
    refine ⟨b, off, rfl, ?_, fun i hi j k hk => ?_⟩
    · have e : (⟨b, off, none⟩ : Addr).add (0 * K.length + 0) = ⟨b, off, none⟩ := by simp [Addr.add]
      rw [e] at hv0
      exact block_lt_of_cell hv0
    · obtain ⟨v, hv, hok⟩ := key i (by omega) j k hk
      rw [addr_add] at hv
      simp only [addr_add, hv, Option.getD_some]
      exact ⟨trivial, hok⟩
end Go.Proofs.Ytdkjipfemnfckaa

namespace Go.Proofs.Ytdkjipfemnfckaa
open Go.RowKit Plain
set_option linter.unusedVariables false
set_option maxRecDepth 100000

/-- all blocks that were there, but these, are as they were -/
structure Keep (bs : List Nat) (w w' : World) : Prop where
  os : w'.os = w.os
  tape : w'.tape = w.tape
  output : w'.output = w.output
  size : w.heap.size ≤ w'.heap.size
  block : ∀ k, k < w.heap.size → k ∉ bs → w'.heap[k]? = w.heap[k]?

section
variable {bs cs : List Nat} {w w' w'' : World}
theorem Keep.refl (bs : List Nat) (w : World) : Keep bs w w := ⟨rfl, rfl, rfl, Nat.le_refl _, fun _ _ _ => rfl⟩
theorem Keep.trans (h : Keep bs w w') (k : Keep bs w' w'') : Keep bs w w'' :=
  ⟨k.os.trans h.os, k.tape.trans h.tape, k.output.trans h.output, Nat.le_trans h.size k.size, fun i hi hn => (k.block i (Nat.lt_of_lt_of_le hi h.size) hn).trans (h.block i hi hn)⟩
theorem Keep.mono (h : Keep bs w w') (hs : ∀ x ∈ bs, x ∈ cs) : Keep cs w w' := ⟨h.os, h.tape, h.output, h.size, fun k hk hn => h.block k hk fun hx => hn (hs k hx)⟩
/-- blocks that are new need not be named -/
theorem Keep.new {g : Nat} (h : Keep bs w w') (k : Keep (g :: bs) w' w'') (hg : w.heap.size ≤ g) : Keep bs w w'' :=
  ⟨k.os.trans h.os, k.tape.trans h.tape, k.output.trans h.output, Nat.le_trans h.size k.size, fun i hi hn => (k.block i (Nat.lt_of_lt_of_le hi h.size) (by
    intro hx
    rcases List.mem_cons.1 hx with rfl | hx
    · omega
    · exact hn hx)).trans (h.block i hi hn)⟩
theorem Keep.of_below (h : Below w.heap.size w w') : Keep bs w w' := ⟨h.os, h.tape, h.output, h.size, fun k hk _ => h.block k hk⟩
theorem Keep.of_grown {g : Nat} (h : w.grownBy w' (some g)) (hg : g ∈ bs) : Keep bs w w' := ⟨h.os, h.tape, h.output, h.size, fun k hk hn => h.block k hk (by rintro e; injection e with e; subst e; exact hn hg)⟩
theorem Keep.of_grownO {o : Option Nat} (h : w.grownBy w' o) (hg : ∀ g, o = some g → g ∈ bs) : Keep bs w w' := ⟨h.os, h.tape, h.output, h.size, fun k hk hn => h.block k hk (by rintro e; exact hn (hg k e.symm))⟩
theorem Keep.drew (h : Keep bs w w') : Keep bs w w'.drew := ⟨h.os, h.tape, h.output, h.size, h.block⟩
theorem Keep.drewN (h : Keep bs w w') (n : Nat) : Keep bs w (w'.drewN n) := ⟨h.os, h.tape, h.output, h.size, h.block⟩
theorem Keep.alloc (h : Keep bs w w') (o : Obj) : Keep bs w (w'.alloc o) :=
  ⟨h.os, h.tape, h.output, Nat.le_trans h.size (by simp), fun i hi hn => (Below.heap_alloc w' o i (Nat.lt_of_lt_of_le hi h.size)).trans (h.block i hi hn)⟩
theorem Keep.setCell (h : Keep bs w w') {p : Addr} (hp : p.block ∈ bs ∨ w.heap.size ≤ p.block) (v : Value) : Keep bs w (w'.setCell p v) :=
  ⟨h.os, h.tape, h.output, by simpa [World.setCell] using h.size, fun i hi hn => (Below.heap_setCell w' p v i (by
    rintro rfl
    rcases hp with hp | hp
    · exact hn hp
    · omega)).trans (h.block i hi hn)⟩
theorem Keep.below {B : Nat} {w0 : World} (h : Keep bs w w') (hb : Below B w0 w) (hB : B ≤ w0.heap.size) (hs : ∀ x ∈ bs, B ≤ x) : Below B w0 w' :=
  ⟨h.os.trans hb.os, h.tape.trans hb.tape, h.output.trans hb.output, Nat.le_trans hb.size h.size, fun k hk => (h.block k (Nat.lt_of_lt_of_le hk (Nat.le_trans hB hb.size)) fun hx => by have := hs k hx; omega).trans (hb.block k hk)⟩
theorem Keep.blk {g : Nat} {t : TypeId} {vs : Array Value} (h : Keep bs w w') (hb : Blk w g t vs) (hg : g ∉ bs) : Blk w' g t vs := (h.block g hb.lt hg).trans hb
theorem Keep.cell (h : Keep bs w w') {p : Addr} (hp : p.block < w.heap.size) (hn : p.block ∉ bs) : w'.cell? p = w.cell? p := World.cell?_of_block (h.block p.block hp hn)
theorem Keep.row {k : IntKind} {t : TypeId} {g : Nat} {zs : List Int} (h : Keep bs w w') (hr : Row k t w g zs) (hg : g ∉ bs) : Row k t w' g zs := h.blk hr hg
end
end Go.Proofs.Ytdkjipfemnfckaa
