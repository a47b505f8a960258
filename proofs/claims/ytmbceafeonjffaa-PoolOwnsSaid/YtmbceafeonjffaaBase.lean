/-
  Words for worlds that follow one another; loads and stores of structs in blocks that are known whole, and results that lie in such a block. Conditions stand in each theorem.
-/
import Derived.Test.YtmbceafeonjffaaMem
import Derived.Test.YtmbceafeonjffaaRows
import Derived.Lib.Hide
import Derived.Laws.Rows
import Derived.Laws.Tables
import Derived.Laws.CopyRow
import Derived.Laws.ResultCell
import Derived.OwnWalk
namespace Go.Proofs.Ytmbceafeonjffaa
open Go.RowKit Plain
set_option linter.unusedVariables false
set_option linter.unusedSimpArgs false
set_option maxRecDepth 100000

theorem bthen {w w1 w2 : World} (h1 : Below w.heap.size w w1) (h2 : Below w1.heap.size w1 w2) : Below w.heap.size w w2 := h1.trans (h2.mono h1.size)
theorem ball (w : World) (o : Obj) : Below w.heap.size w (w.alloc o) := (Below.refl _ _).alloc (Nat.le_refl _) _
theorem bdrewN (w : World) (n : Nat) : Below w.heap.size w (w.drewN n) := below_drewN (Below.refl _ _) n
theorem bdrew (w : World) : Below w.heap.size w w.drew := below_drewN (Below.refl _ _) 1

theorem heap_setCell {w : World} {g : Nat} {t : TypeId} {cs : Array Value} {z : Nat × Nat} (h : w.heap[g]? = some (.cells cs t z)) (i : Nat) (v : Value) :
    (w.setCell ⟨g, i, none⟩ v).heap[g]? = some (.cells (cs.setIfInBounds i v) t z) := by
  show (w.heap.modify g _)[g]? = _
  rw [Array.getElem?_modify, if_pos rfl, h]
  simp
theorem Blk.set {w : World} {g : Nat} {t : TypeId} {cs : Array Value} (h : Blk w g t cs) (i : Nat) (v : Value) : Blk (w.setCell ⟨g, i, none⟩ v) g t (cs.setIfInBounds i v) := heap_setCell h i v
theorem Blk.ne {w : World} {g : Nat} {t : TypeId} {cs : Array Value} (h : Blk w g t cs) {p : Addr} (hp : p.block ≠ g) (v : Value) : Blk (w.setCell p v) g t cs := by
  unfold Blk at *
  rw [← h]
  show (w.heap.modify p.block _)[g]? = _
  rw [Array.getElem?_modify, if_neg hp]
theorem Blk.drew {w : World} {g : Nat} {t : TypeId} {cs : Array Value} (h : Blk w g t cs) : Blk w.drew g t cs := h
theorem Blk.drewN {w : World} {g : Nat} {t : TypeId} {cs : Array Value} (h : Blk w g t cs) (n : Nat) : Blk (w.drewN n) g t cs := h
/-- six cells stored, one behind the other -/
theorem Blk.set6 {w : World} {g : Nat} {t : TypeId} {x0 x1 x2 x3 x4 x5 : Value} (h : Blk w g t #[x0, x1, x2, x3, x4, x5]) (v0 v1 v2 v3 v4 v5 : Value) :
    Blk ((((((w.setCell ⟨g, 0, none⟩ v0).setCell ⟨g, 1, none⟩ v1).setCell ⟨g, 2, none⟩ v2).setCell ⟨g, 3, none⟩ v3).setCell ⟨g, 4, none⟩ v4).setCell ⟨g, 5, none⟩ v5) g t #[v0, v1, v2, v3, v4, v5] :=
  (((((h.set 0 v0).set 1 v1).set 2 v2).set 3 v3).set 4 v4).set 5 v5
theorem Blk.ne6 {w : World} {g m : Nat} {t : TypeId} {cs : Array Value} (h : Blk w g t cs) (hp : m ≠ g) (v0 v1 v2 v3 v4 v5 : Value) :
    Blk ((((((w.setCell ⟨m, 0, none⟩ v0).setCell ⟨m, 1, none⟩ v1).setCell ⟨m, 2, none⟩ v2).setCell ⟨m, 3, none⟩ v3).setCell ⟨m, 4, none⟩ v4).setCell ⟨m, 5, none⟩ v5) g t cs :=
  (((((h.ne hp v0).ne hp v1).ne hp v2).ne hp v3).ne hp v4).ne hp v5

/-- a type of so many cells; a struct of so many -/
def Siz (ty : TypeId) (n : Nat) : Prop := (Try.prog.info? ty).map (·.size) = some n
def Sty (ty : TypeId) (n : Nat) : Prop := (∃ d, Try.prog.underlying ty = some d ∧ (match d with | .struct _ | .array _ _ => true | _ => false) = true) ∧ Siz ty n

section
variable {w w' w0 : World} {g r : Nat} {t : TypeId} {cs vs : Array Value} {A : Option Addr} {zs : List Int}
theorem Blk.grown (h : Blk w g t cs) (hg : w.grownBy w' (some r)) (hne : g ≠ r) : Blk w' g t cs := (hg.block g h.lt (by simpa using hne)).trans h
theorem Rd.grown (h : Rd w A zs) (hg : w.grownBy w' (some r)) (hne : ∀ b off, 0 < zs.length → A = some ⟨b, off, none⟩ → b ≠ r) : Rd w' A zs :=
  ⟨h.1, fun hp => by
    obtain ⟨b, off, e, hc⟩ := h.2 hp
    have hlt : b < w.heap.size := block_lt_of_cell (hc 0 hp)
    exact ⟨b, off, e, fun k hk => (World.cell?_of_block (a := ⟨b, off + k, none⟩) (hg.block b hlt (by simpa using hne b off hp e))).trans (hc k hk)⟩⟩
theorem bgrown (h : Below w0.heap.size w0 w) (hg : w.grownBy w' (some r)) (hr : w0.heap.size ≤ r) : Below w0.heap.size w0 w' :=
  h.grown hg h.size fun k hk => by injection hk with hk; omega
theorem grown_setRow (w : World) (g : Nat) (cs : Array Value) : w.grownBy (w.setRow g cs) (some g) :=
  ⟨rfl, rfl, rfl, by simp [World.setRow], fun k hk hne => by
    show (w.heap.modify g _)[k]? = _
    rw [Array.getElem?_modify, if_neg (by rintro rfl; exact hne rfl)]⟩
theorem grown_setCell (w : World) (g i : Nat) (v : Value) : w.grownBy (w.setCell ⟨g, i, none⟩ v) (some g) :=
  ⟨rfl, rfl, rfl, by simp [World.setCell], fun k hk hne => by
    show (w.heap.modify g _)[k]? = _
    rw [Array.getElem?_modify, if_neg (by rintro rfl; exact hne rfl)]⟩
theorem grown_drew {w w' : World} {r : Option Nat} (h : w.grownBy w' r) : w.grownBy w'.drew r := ⟨h.os, h.tape, h.output, h.size, h.block⟩
theorem Blk.setRow (h : Blk w g t cs) (vs : Array Value) : Blk (w.setRow g vs) g t vs := by
  unfold Blk at *
  show (w.heap.modify g _)[g]? = _
  rw [Array.getElem?_modify, if_pos rfl, h]
  rfl

/-- they say nothing: they fit only where such a load, or store, stands next -/
theorem gd_ld {ops : Array Oper} {rest : List Oper} {a : Act} {Q : Exit → Act → World → Prop} {dst : Option Tmp} {type : TypeId} {pos : String} {after : Array Edge} (ty : TypeId) (k : Nat)
    (h : wpList Try.prog ops Q (⟨dst, .load ty (.tmp k), type, pos, after, none⟩ :: rest) a w) : wpList Try.prog ops Q (⟨dst, .load ty (.tmp k), type, pos, after, none⟩ :: rest) a w := h
theorem gd_st {ops : Array Oper} {rest : List Oper} {a : Act} {Q : Exit → Act → World → Prop} {dst : Option Tmp} {type : TypeId} {pos : String} {after : Array Edge} (ty : TypeId) (k : Nat) {y : Operand}
    (h : wpList Try.prog ops Q (⟨dst, .store ty (.tmp k) y, type, pos, after, none⟩ :: rest) a w) : wpList Try.prog ops Q (⟨dst, .store ty (.tmp k) y, type, pos, after, none⟩ :: rest) a w := h

/-- a load of a whole struct -/
theorem wpList_ld {ops : Array Oper} {rest : List Oper} {o : Oper} {a : Act} {Q : Exit → Act → World → Prop} (hgd : o.guard = none) (ty : TypeId) (x : Operand) (ho : o.op = .load ty x)
    (g : Nat) (hx : a.eval x = .pointer (some ⟨g, 0, none⟩)) (hb : Blk w g t cs) (hs : Sty ty cs.size)
    (h : wpList Try.prog ops Q rest (a.put o.dst (.agg cs)) w) : wpList Try.prog ops Q (o :: rest) a w := by
  obtain ⟨⟨d, hu, hd⟩, hi⟩ := hs
  exact wpList_load_row hgd ty x ho g hx t cs (0, 0) d hb hu (by cases d <;> first | rfl | (simp at hd)) hi h

/-- a store into a block: the whole, a field, or a struct in it -/
theorem wpList_st {ops : Array Oper} {rest : List Oper} {o : Oper} {a : Act} {Q : Exit → Act → World → Prop} (hgd : o.guard = none) (ty : TypeId) (x y : Operand) (ho : o.op = .store ty x y)
    (g i : Nat) (hx : a.eval x = .pointer (some ⟨g, i, none⟩)) (v : Value) (hy : a.eval y = v) (hb : Blk w g t cs) (hs : Siz ty v.cells.size)
    (cs' : Array Value) (hcs : cs' = (cs.toList.take i ++ v.cells.toList ++ cs.toList.drop (i + v.cells.size)).toArray) (hl : i + v.cells.size ≤ cs.size) (h1 : v.cells.toList.all (·.oneCell') = true)
    (h : ∀ w', Blk w' g t cs' → w.grownBy w' (some g) → w'.heap.size = w.heap.size → wpList Try.prog ops Q rest (a.put o.dst undef) w') : wpList Try.prog ops Q (o :: rest) a w := by
  refine wpList_plain hgd fun K hK => ?_
  have hr := run_storeCells_at (P := Try.prog) g i t v.cells.toList 0 cs w hb (by simpa using hl) (fun c hc => List.all_eq_true.1 h1 c hc)
  have hv : (storeVar ty ⟨g, i, none⟩ v).run Try.prog w = .ok () (w.setRow g cs') := by
    unfold Siz at hs
    cases hq : Try.prog.info? ty with
    | none => simp [hq] at hs
    | some inf =>
      have hsz : v.cells.size = inf.size := by simp [hq] at hs; omega
      rw [Nat.add_zero] at hr
      rw [hcs]
      simp [storeVar, sizeOf, typeInfo, hq, hsz, hr]
  unfold Oper.wp execOp
  simp only [ho, hx, hy, Instr.storeAt, Instr.sureAddr, Sem.run_bind, Sem.run_pure, Result.andThen_ok, hv]
  exact hK _ _ (h _ (hb.setRow cs') (grown_setRow w g cs') (by simp [World.setRow]))

theorem gds_ld {ops : Array Oper} {a : Act} {K : Act → World → Prop} {Q : Exit → Act → World → Prop} {E : Prop} {dst : Option Tmp} {type : TypeId} {pos : String} {after : Array Edge} (ty : TypeId) (k : Nat)
    (h : if Region.wanted ⟨dst, .load ty (.tmp k), type, pos, after, none⟩ (yielded ops a.tmps) = true then Oper.wp Try.prog ⟨dst, .load ty (.tmp k), type, pos, after, none⟩ a w K Q else E) :
    if Region.wanted ⟨dst, .load ty (.tmp k), type, pos, after, none⟩ (yielded ops a.tmps) = true then Oper.wp Try.prog ⟨dst, .load ty (.tmp k), type, pos, after, none⟩ a w K Q else E := h
theorem gds_st {ops : Array Oper} {a : Act} {K : Act → World → Prop} {Q : Exit → Act → World → Prop} {E : Prop} {dst : Option Tmp} {type : TypeId} {pos : String} {after : Array Edge} (ty : TypeId) (k : Nat) {y : Operand}
    (h : if Region.wanted ⟨dst, .store ty (.tmp k) y, type, pos, after, none⟩ (yielded ops a.tmps) = true then Oper.wp Try.prog ⟨dst, .store ty (.tmp k) y, type, pos, after, none⟩ a w K Q else E) :
    if Region.wanted ⟨dst, .store ty (.tmp k) y, type, pos, after, none⟩ (yielded ops a.tmps) = true then Oper.wp Try.prog ⟨dst, .store ty (.tmp k) y, type, pos, after, none⟩ a w K Q else E := h
/-- the same two as one step of a region that draws its order -/
theorem step_ld {ops : Array Oper} {o : Oper} {a : Act} {K : Act → World → Prop} {Q : Exit → Act → World → Prop} {E : Prop} (hgd : o.guard = none) (ty : TypeId) (x : Operand) (ho : o.op = .load ty x)
    (g : Nat) (hx : a.eval x = .pointer (some ⟨g, 0, none⟩)) (hb : Blk w g t cs) (hs : Sty ty cs.size)
    (h : K (a.put o.dst (.agg cs)) w) : if Region.wanted o (yielded ops a.tmps) = true then Oper.wp Try.prog o a w K Q else E := by
  have hw : Region.wanted o (yielded ops a.tmps) = true := by simp [Region.wanted, hgd]
  rw [if_pos hw]
  obtain ⟨⟨d, hu, hd⟩, hi⟩ := hs
  exact wp_load_row ty x ho g hx t cs (0, 0) d hb hu (by cases d <;> first | rfl | (simp at hd)) hi h
theorem step_st {ops : Array Oper} {o : Oper} {a : Act} {K : Act → World → Prop} {Q : Exit → Act → World → Prop} {E : Prop} (hgd : o.guard = none) (ty : TypeId) (x y : Operand) (ho : o.op = .store ty x y)
    (g i : Nat) (hx : a.eval x = .pointer (some ⟨g, i, none⟩)) (v : Value) (hy : a.eval y = v) (hb : Blk w g t cs) (hs : Siz ty v.cells.size)
    (cs' : Array Value) (hcs : cs' = (cs.toList.take i ++ v.cells.toList ++ cs.toList.drop (i + v.cells.size)).toArray) (hl : i + v.cells.size ≤ cs.size) (h1 : v.cells.toList.all (·.oneCell') = true)
    (h : ∀ w', Blk w' g t cs' → w.grownBy w' (some g) → w'.heap.size = w.heap.size → K (a.put o.dst undef) w') : if Region.wanted o (yielded ops a.tmps) = true then Oper.wp Try.prog o a w K Q else E := by
  have hw : Region.wanted o (yielded ops a.tmps) = true := by simp [Region.wanted, hgd]
  rw [if_pos hw]
  have hr := run_storeCells_at (P := Try.prog) g i t v.cells.toList 0 cs w hb (by simpa using hl) (fun c hc => List.all_eq_true.1 h1 c hc)
  have hv : (storeVar ty ⟨g, i, none⟩ v).run Try.prog w = .ok () (w.setRow g cs') := by
    unfold Siz at hs
    cases hq : Try.prog.info? ty with
    | none => simp [hq] at hs
    | some inf =>
      have hsz : v.cells.size = inf.size := by simp [hq] at hs; omega
      rw [Nat.add_zero] at hr
      rw [hcs]
      simp [storeVar, sizeOf, typeInfo, hq, hsz, hr]
  unfold Oper.wp execOp
  simp only [ho, hx, hy, Instr.storeAt, Instr.sureAddr, Sem.run_bind, Sem.run_pure, Result.andThen_ok, hv]
  exact h _ (hb.setRow cs') (grown_setRow w g cs') (by simp [World.setRow])

/-- results of which the first one lies in a block -/
theorem res_cell2 {fn : Func} {p u : Tmp} {ty : TypeId} (h : fn.results = #[.cell p ty, .tmp u]) (tmps : Array Value) (g : Nat) (v : Value) (hp : tmps.getD p undef = .pointer (some ⟨g, 0, none⟩)) (hu2 : tmps.getD u undef = v)
    (hb : Blk w g t cs) (hs : Sty ty cs.size) : (results fn tmps).run Try.prog w = .ok (.tuple #[.agg cs, v]) w := by
  obtain ⟨⟨d, hu, hd⟩, hi⟩ := hs
  rw [results_cell_tmp h, hp, hu2]
  simp only [asAddr, Sem.run_pure, Result.andThen_ok, run_loadVar_row w g t ty cs (0, 0) d hb hu (by cases d <;> first | rfl | (simp at hd)) hi]
theorem res_cell1 {fn : Func} {p : Tmp} {ty : TypeId} (h : fn.results = #[.cell p ty]) (tmps : Array Value) (g : Nat) (hp : tmps.getD p undef = .pointer (some ⟨g, 0, none⟩))
    (hb : Blk w g t cs) (hs : Sty ty cs.size) : (results fn tmps).run Try.prog w = .ok (.agg cs) w := by
  obtain ⟨⟨d, hu, hd⟩, hi⟩ := hs
  exact results_cell_row h tmps w g t cs (0, 0) d hp hb hu (by cases d <;> first | rfl | (simp at hd)) hi
end

end Go.Proofs.Ytmbceafeonjffaa
