/-
  Several small texts in one: Keep, Owns, Own. Conditions stand in each theorem.
-/
import Derived.Test.YtbnlpidhbilenaaGA
import Derived.Test.YtbnlpidhbilenaaRows
import Derived.Maps.AppendAt
import Derived.OwnWalk
import Derived.Lib.Hide
namespace Go.Proofs.Ytbnlpidhbilenaa
open Go.RowKit Plain
set_option linter.unusedVariables false
set_option maxRecDepth 100000

/-- all blocks that were there, but these, are as they were -/
structure Keep (bs : List Nat) (w w' : World) : Prop where
  os : w'.os = w.os
  tape : w'.tape = w.tape
  output : w'.output = w.output
  size : w.heap.size ≤ w'.heap.size
  block : ∀ k, k < w.heap.size → k ∉ bs → w'.heap[k]? = w.heap[k]?

section
variable {bs cs : List Nat} {w w' w'' : World}
theorem Keep.refl (bs : List Nat) (w : World) : Keep bs w w := ⟨rfl, rfl, rfl, Nat.le_refl _, fun _ _ _ => rfl⟩
theorem Keep.trans (h : Keep bs w w') (k : Keep bs w' w'') : Keep bs w w'' :=
  ⟨k.os.trans h.os, k.tape.trans h.tape, k.output.trans h.output, Nat.le_trans h.size k.size, fun i hi hn => (k.block i (Nat.lt_of_lt_of_le hi h.size) hn).trans (h.block i hi hn)⟩
theorem Keep.mono (h : Keep bs w w') (hs : ∀ x ∈ bs, x ∈ cs) : Keep cs w w' := ⟨h.os, h.tape, h.output, h.size, fun k hk hn => h.block k hk fun hx => hn (hs k hx)⟩
/-- blocks that are new need not be named -/
theorem Keep.new {g : Nat} (h : Keep bs w w') (k : Keep (g :: bs) w' w'') (hg : w.heap.size ≤ g) : Keep bs w w'' :=
  ⟨k.os.trans h.os, k.tape.trans h.tape, k.output.trans h.output, Nat.le_trans h.size k.size, fun i hi hn => (k.block i (Nat.lt_of_lt_of_le hi h.size) (by
    intro hx
    rcases List.mem_cons.1 hx with rfl | hx
    · omega
    · exact hn hx)).trans (h.block i hi hn)⟩
theorem Keep.of_below (h : Below w.heap.size w w') : Keep bs w w' := ⟨h.os, h.tape, h.output, h.size, fun k hk _ => h.block k hk⟩
theorem Keep.of_grown {g : Nat} (h : w.grownBy w' (some g)) (hg : g ∈ bs) : Keep bs w w' := ⟨h.os, h.tape, h.output, h.size, fun k hk hn => h.block k hk (by rintro e; injection e with e; subst e; exact hn hg)⟩
theorem Keep.of_grownO {o : Option Nat} (h : w.grownBy w' o) (hg : ∀ g, o = some g → g ∈ bs) : Keep bs w w' := ⟨h.os, h.tape, h.output, h.size, fun k hk hn => h.block k hk (by rintro e; exact hn (hg k e.symm))⟩
theorem Keep.drew (h : Keep bs w w') : Keep bs w w'.drew := ⟨h.os, h.tape, h.output, h.size, h.block⟩
theorem Keep.drewN (h : Keep bs w w') (n : Nat) : Keep bs w (w'.drewN n) := ⟨h.os, h.tape, h.output, h.size, h.block⟩
theorem Keep.alloc (h : Keep bs w w') (o : Obj) : Keep bs w (w'.alloc o) :=
  ⟨h.os, h.tape, h.output, Nat.le_trans h.size (by simp), fun i hi hn => (Below.heap_alloc w' o i (Nat.lt_of_lt_of_le hi h.size)).trans (h.block i hi hn)⟩
theorem Keep.setCell (h : Keep bs w w') {p : Addr} (hp : p.block ∈ bs ∨ w.heap.size ≤ p.block) (v : Value) : Keep bs w (w'.setCell p v) :=
  ⟨h.os, h.tape, h.output, by simpa [World.setCell] using h.size, fun i hi hn => (Below.heap_setCell w' p v i (by
    rintro rfl
    rcases hp with hp | hp
    · exact hn hp
    · omega)).trans (h.block i hi hn)⟩
theorem Keep.below {B : Nat} {w0 : World} (h : Keep bs w w') (hb : Below B w0 w) (hB : B ≤ w0.heap.size) (hs : ∀ x ∈ bs, B ≤ x) : Below B w0 w' :=
  ⟨h.os.trans hb.os, h.tape.trans hb.tape, h.output.trans hb.output, Nat.le_trans hb.size h.size, fun k hk => (h.block k (Nat.lt_of_lt_of_le hk (Nat.le_trans hB hb.size)) fun hx => by have := hs k hx; omega).trans (hb.block k hk)⟩
theorem Keep.blk {g : Nat} {t : TypeId} {vs : Array Value} (h : Keep bs w w') (hb : Blk w g t vs) (hg : g ∉ bs) : Blk w' g t vs := (h.block g hb.lt hg).trans hb
theorem Keep.cell (h : Keep bs w w') {p : Addr} (hp : p.block < w.heap.size) (hn : p.block ∉ bs) : w'.cell? p = w.cell? p := World.cell?_of_block (h.block p.block hp hn)
theorem Keep.row {k : IntKind} {t : TypeId} {g : Nat} {zs : List Int} (h : Keep bs w w') (hr : Row k t w g zs) (hg : g ∉ bs) : Row k t w' g zs := h.blk hr hg
end
end Go.Proofs.Ytbnlpidhbilenaa

namespace Go.Proofs.Ytbnlpidhbilenaa
open Go.RowKit Plain
set_option linter.unusedVariables false
set_option maxRecDepth 100000

section
variable {w w' : World} {base base' size size' n m : Nat} {e e' : TypeId} {v v' : Value} {xs ys : List Value} {o : Option Nat}
theorem own_base (h : w.ownsRow base e size v n xs) (hb : base' ≤ base) : w.ownsRow base' e size v n xs := by
  refine ⟨h.1, ?_⟩
  rcases h.2 with q | ⟨g, cap, cur, q, hg, r⟩
  · exact .inl q
  · exact .inr ⟨g, cap, cur, q, Nat.le_trans hb hg, r⟩
theorem own_blk (h : w.ownsRow base e size v n xs) {g : Nat} (hg : v.ownBlock = some g) : base ≤ g ∧ g < w.heap.size ∧ ∃ cur, w.heap[g]? = some (.cells cur e (0, 0)) := by
  rcases h.2 with ⟨q, _⟩ | ⟨g', cap, cur, q, hb, hh, _⟩
  · rw [q] at hg; cases hg
  · rw [q] at hg
    simp [Value.ownBlock] at hg
    subst hg
    exact ⟨hb, (Array.getElem?_eq_some_iff.1 hh).1, cur, hh⟩
theorem own_grown (h : w.ownsRow base e size v n xs) (hg : w.grownBy w' o) (hne : ∀ g, v.ownBlock = some g → o ≠ some g) : w'.ownsRow base e size v n xs := by
  refine ⟨h.1, ?_⟩
  rcases h.2 with q | ⟨g, cap, cur, q, hb, hh, r⟩
  · exact .inl q
  · refine .inr ⟨g, cap, cur, q, hb, ?_, r⟩
    have hlt : g < w.heap.size := (Array.getElem?_eq_some_iff.1 hh).1
    rw [hg.block g hlt (fun x => hne g (by rw [q]; rfl) x.symm)]; exact hh
theorem own_keep {bs : List Nat} (h : w.ownsRow base e size v n xs) (hk : Keep bs w w') (hne : ∀ g, v.ownBlock = some g → g ∉ bs) : w'.ownsRow base e size v n xs := by
  refine ⟨h.1, ?_⟩
  rcases h.2 with q | ⟨g, cap, cur, q, hb, hh, r⟩
  · exact .inl q
  · refine .inr ⟨g, cap, cur, q, hb, ?_, r⟩
    have hlt : g < w.heap.size := (Array.getElem?_eq_some_iff.1 hh).1
    rw [hk.block g hlt (hne g (by rw [q]; rfl))]; exact hh
theorem own_below (h : w.ownsRow base e size v n xs) (hb : Below w.heap.size w w') : w'.ownsRow base e size v n xs := own_keep h (Keep.of_below (bs := []) hb) (fun _ _ => by simp)
/-- rows of unlike elements are apart -/
theorem own_types (h : w.ownsRow base e size v n xs) (h' : w.ownsRow base' e' size' v' m ys) (hne : e ≠ e') {g : Nat} (hg : v.ownBlock = some g) : v'.ownBlock ≠ some g := by
  intro hg'
  obtain ⟨_, _, c1, q1⟩ := own_blk h hg
  obtain ⟨_, _, c2, q2⟩ := own_blk h' hg'
  rw [q1] at q2
  injection q2 with q2
  injection q2 with _ q2
  exact hne q2
end

end Go.Proofs.Ytbnlpidhbilenaa

namespace Go.Proofs.Ytbnlpidhbilenaa
open Go.RowKit Plain
set_option linter.unusedVariables false
set_option maxRecDepth 100000

structure Own (w : World) (base : Nat) (A : Option Addr) (n c : Nat) (zs : List Int) : Prop where
  len : zs.length = n
  byt : By zs
  row : w.ownsRow base 5 1 (.slice A n c) n (zs.map (Value.int .u8))

theorem info8 : (Try.prog.info? 5).map (fun i => (i.zero, i.size, i.bytes)) = some (some (.int .u8 0), 1, 1) := by kernel_rfl

section
variable {w w' : World} {base n c : Nat} {A : Option Addr} {zs : List Int}

theorem Own.form (h : Own w base A n c zs) : A = none ∧ n = 0 ∧ c = 0 ∨ ∃ g, A = some ⟨g, 0, none⟩ ∧ base ≤ g ∧ g < w.heap.size := by
  rcases h.row.2 with ⟨e, _⟩ | ⟨g, cap, cur, e, hb, hg, _⟩
  · injection e with e1 e2 e3
    exact .inl ⟨e1, e2, e3⟩
  · injection e with e1 e2 e3
    exact .inr ⟨g, e1, hb, (Array.getElem?_eq_some_iff.1 hg).1⟩
theorem Own.cap (h : Own w base A n c zs) : n ≤ c := by
  rcases h.row.2 with ⟨e, _⟩ | ⟨g, cap, cur, e, _, _, hc, _⟩
  · injection e with e1 e2 e3
    omega
  · injection e with e1 e2 e3
    omega
theorem Own.rd (h : Own w base A n c zs) : Rd w A zs := by
  refine ⟨h.byt, fun hp => ?_⟩
  have hl := h.len
  rcases h.form with ⟨_, h0, _⟩ | ⟨g, rfl, _, _⟩
  · omega
  · refine ⟨g, 0, rfl, fun k hk => ?_⟩
    rw [Nat.zero_add, h.row.cellAt k (by omega)]
    simp [hk, List.getD]
theorem Own.at {g : Nat} (h : Own w base (some ⟨g, 0, none⟩) n c zs) {k : Nat} (hk : k < n) : w.cell? ⟨g, k, none⟩ = some (.int .u8 (zs.getD k 0)) := by
  have hl := h.len
  rw [h.row.cellAt k (by omega)]
  have hk' : k < zs.length := by omega
  simp [hk', List.getD]
theorem Own.free {g : Nat} (h : Own w base (some ⟨g, 0, none⟩) n c zs) (k : Nat) : w.frozen? ⟨g, k, none⟩ = false := h.row.frozenAt k
theorem Own.drewN (h : Own w base A n c zs) (q : Nat) : Own (w.drewN q) base A n c zs := ⟨h.len, h.byt, h.row⟩
theorem Own.alloc (h : Own w base A n c zs) (o : Obj) : Own (w.alloc o) base A n c zs := ⟨h.len, h.byt, h.row.alloc o⟩
theorem Own.below (h : Own w base A n c zs) (hb : Below w.heap.size w w') : Own w' base A n c zs :=
  ⟨h.len, h.byt, h.row.kept (row := none) ⟨hb.os, hb.tape, hb.output, hb.size, fun k hk _ => hb.block k hk⟩ (by cases hv : (Value.slice A n c).ownBlock <;> simp)⟩
theorem Own.mono {base' : Nat} (h : Own w base A n c zs) (hb : base' ≤ base) : Own w base' A n c zs := by
  refine ⟨h.len, h.byt, h.row.1, ?_⟩
  rcases h.row.2 with e | ⟨g, cap, cur, e, hg, r⟩
  · exact .inl e
  · exact .inr ⟨g, cap, cur, e, by omega, r⟩
theorem Own.set {g : Nat} (h : Own w base (some ⟨g, 0, none⟩) n c zs) (k : Nat) (x : Int) (h0 : 0 ≤ x) (h1 : x ≤ 255) :
    Own (w.setCell ⟨g, k, none⟩ (.int .u8 x)) base (some ⟨g, 0, none⟩) n c (zs.set k x) := by
  have := (h.row.stored k (.int .u8 x)).1
  refine ⟨by rw [List.length_set]; exact h.len, h.byt.set k x h0 h1, ?_⟩
  rw [List.map_set]
  exact this
/-- an empty slice that isn't nil -/
theorem Own.empty (w : World) (hb : base ≤ w.heap.size) : Own (w.alloc (.cells #[] 5)) base (some ⟨w.heap.size, 0, none⟩) 0 0 [] :=
  ⟨rfl, By.nil, World.ownsRow_lit w #[] 0 hb (Nat.zero_le _) rfl⟩
theorem Own.nil (w : World) (base : Nat) : Own w base none 0 0 [] := ⟨rfl, By.nil, World.ownsRow_nil w base _ 1⟩
/-- a literal -/
theorem Own.lit (w : World) (hb : base ≤ w.heap.size) (zs : List Int) (hz : By zs) (n : Nat) (hn : zs.length = n) (hl : n ≤ 1000000000) (cs : Array Value) (hcs : cs = (zs.map (Value.int .u8)).toArray) :
    Own (w.alloc (.cells cs 5)) base (some ⟨w.heap.size, 0, none⟩) n n zs := by
  subst hcs
  exact ⟨hn, hz, World.ownsRow_lit w _ n hb (by unfold maxLen; omega) (by simpa using hn)⟩

theorem run_app (hown : Own w base A n c zs) {B : Option Addr} {m d : Nat} {ys : List Int} (hR : Rd w B ys) (hm : ys.length = m) (hl : n + m ≤ 1000000000) (hbase : base ≤ w.heap.size) (ty : TypeId) :
    ∃ A' c' w', (Builtin.append_ #[27, 27] ty #[.slice A n c, .slice B m d]).run Try.prog w = .ok (.slice A' (n + m) c') w' ∧ Own w' base A' (n + m) c' (zs ++ ys) ∧ w.grownBy w' (Value.slice A n c).ownBlock ∧
      (A' = A ∨ A' = some ⟨w.heap.size, 0, none⟩) := by
  obtain ⟨i, hi, hz, hs, hb⟩ := info_parts info8
  rcases B with _ | ad
  · have hm0 : m = 0 := by
      rcases Nat.eq_zero_or_pos m with h0 | h0
      · exact h0
      · obtain ⟨_, _, h, _⟩ := hR.2 (by omega)
        cases h
    subst hm0
    have hys : ys = [] := List.eq_nil_of_length_eq_zero hm
    subst hys
    refine ⟨A, c, w, ?_, by simpa using hown, World.grownBy.refl w _, .inl rfl⟩
    have hcap := hown.cap
    rcases hown.form with ⟨rfl, rfl, rfl⟩ | ⟨g, rfl, _, _⟩
    · simp [Builtin.append_, run_underlying Try.underlying27, sizeOf, typeInfo, hi, Builtin.lenOf, Builtin.firstCells]
    · simp [Builtin.append_, run_underlying Try.underlying27, sizeOf, typeInfo, hi, Builtin.lenOf, Builtin.firstCells, hcap, storeCells]
  · have hcells : ∀ j u, (ys.map (Value.int .u8))[j]? = some u → w.cell? (ad.add j) = some u := by
      intro j u hu
      rcases Nat.eq_zero_or_pos ys.length with h0 | h0
      · have hys : ys = [] := List.eq_nil_of_length_eq_zero h0
        subst hys
        simp at hu
      · obtain ⟨b, off, e, hc⟩ := hR.2 h0
        injection e with e
        subst e
        have hj : j < ys.length := by
          rcases Nat.lt_or_ge j ys.length with h | h
          · exact h
          · rw [List.getElem?_eq_none (by simpa using h)] at hu; cases hu
        have h1 := hc j hj
        have hadd : (⟨b, off, none⟩ : Addr).add j = ⟨b, off + j, none⟩ := by unfold Addr.add; split <;> simp_all
        rw [hadd, h1, ← hu]
        simp [hj, List.getD]
    obtain ⟨v', w1, hrun, h2, h3, _, h5⟩ := run_append_own_at (P := Try.prog) w base 27 ty 5 i (.int .u8 0) 1 1 Try.underlying27 hi hz hs hb rfl (by decide) (.slice A n c) n _ hown.row ad m d (ys.map (Value.int .u8))
      (by simpa using hm) hcells (by intro u hu; obtain ⟨x, _, rfl⟩ := List.mem_map.1 hu; rfl) (by unfold maxLen; omega) (by omega) hbase
    have hcat : (zs ++ ys).length = n + m := by rw [List.length_append, hown.len, hm]
    have hBy : By (zs ++ ys) := hown.byt.app hR.1
    rw [← List.map_append] at h2
    rcases h2.2 with ⟨e, hn0⟩ | ⟨g, cap, cur, e, r⟩
    · subst e
      have hn : n + m = 0 := hn0
      refine ⟨none, 0, w1, by rw [hn]; exact hrun, ⟨hcat, hBy, by rw [hn] at h2 ⊢; exact h2⟩, h3, ?_⟩
      rcases h5 with h5 | h5
      · rcases hown.form with ⟨rfl, _⟩ | ⟨g, rfl, _⟩
        · exact .inl rfl
        · simp [Value.ownBlock] at h5
      · simp [Value.ownBlock] at h5
    · subst e
      refine ⟨some ⟨g, 0, none⟩, cap, w1, hrun, ⟨hcat, hBy, h2⟩, h3, ?_⟩
      rcases h5 with h5 | h5
      · rcases hown.form with ⟨rfl, _⟩ | ⟨g', rfl, _⟩
        · simp [Value.ownBlock] at h5
        · have : g = g' := by simpa [Value.ownBlock] using h5
          exact .inl (by rw [this])
      · have : g = w.heap.size := by simpa [Value.ownBlock] using h5
        exact .inr (by rw [this])

/-- append at a builtin: what is told, and what is left -/
theorem wpList_app {ops : Array Oper} {rest : List Oper} {o : Oper} {a : Act} {Q : Exit → Act → World → Prop} (hgd : o.guard = none) (s x : Operand)
    (ho : o.op = .call { callee := .builtin .append, args := #[s, x], argTypes := #[27, 27] })
    (hs : a.eval s = .slice A n c) (hown : Own w base A n c zs) {B : Option Addr} {m d : Nat} (ys : List Int) (hx : a.eval x = .slice B m d) (hR : Rd w B ys) (hm : ys.length = m) (hl : n + m ≤ 1000000000) (hbase : base ≤ w.heap.size)
    (h : ∀ A' c' w', Own w' base A' (n + m) c' (zs ++ ys) → w.grownBy w' (Value.slice A n c).ownBlock → (A' = A ∨ A' = some ⟨w.heap.size, 0, none⟩) → wpList Try.prog ops Q rest (a.put o.dst (.slice A' (n + m) c')) w') :
    wpList Try.prog ops Q (o :: rest) a w := by
  refine wpList_plain hgd fun _ hK => ?_
  obtain ⟨A', c', w', hrun, h2, h3, h4⟩ := run_app hown hR hm hl hbase o.type (d := d)
  unfold Oper.wp execOp
  simp only [ho, resolve, invoke, builtin, Sem.run_bind, Sem.run_pure, Result.andThen_ok, List.map_toArray, List.map_cons, List.map_nil, hs, hx, hrun]
  exact hK _ _ (h A' c' w' h2 h3 h4)
end

/-- what is kept when a row of one's own grew -/
theorem below_app {w0 w w' : World} {A : Option Addr} {n c B base : Nat} {zs : List Int} (h : Below B w0 w) (hg : w.grownBy w' (Value.slice A n c).ownBlock) (hown : Own w base A n c zs) (hB : B ≤ base) (hs : B ≤ w.heap.size) : Below B w0 w' :=
  h.grown hg hs fun k hk => by have := hown.row.lt k hk; omega
end Go.Proofs.Ytbnlpidhbilenaa
