/-
  A load of a struct that lies anywhere, by its cells; a load of one element of a row of one's own. Conditions stand in each theorem.
-/
import Derived.Test.YtmbceafeonjffaaGA
import Derived.Laws.Cells
namespace Go.Proofs.Ytmbceafeonjffaa
open Go.RowKit Plain
set_option linter.unusedVariables false
set_option maxRecDepth 100000

theorem gd_ldt {w : World} {ops : Array Oper} {rest : List Oper} {a : Act} {Q : Exit → Act → World → Prop} {dst : Option Tmp} {type : TypeId} {pos : String} {after : Array Edge} {gd : Option (Nat × Bool)} (ty : TypeId) (k : Nat)
    (h : wpList Try.prog ops Q (⟨dst, .load ty (.tmp k), type, pos, after, gd⟩ :: rest) a w) : wpList Try.prog ops Q (⟨dst, .load ty (.tmp k), type, pos, after, gd⟩ :: rest) a w := h
/-- the cells of a struct, where it lies -/
def At (w : World) (p : Addr) (cs : List Value) : Prop := ∀ j v, cs[j]? = some v → w.cell? (p.add j) = some v
theorem run_loadVar_at (w : World) (p : Addr) (ty : TypeId) (cs : List Value) (hs : Sty ty cs.length) (h : At w p cs) : (loadVar ty p).run Try.prog w = .ok (.agg cs.toArray) w := by
  obtain ⟨⟨d, hu, hd⟩, hi⟩ := hs
  unfold Siz at hi
  have hl := run_loadCells_list (P := Try.prog) w p cs h
  cases hq : Try.prog.info? ty with
  | none => simp [hq] at hi
  | some i =>
    have hs : i.size = cs.length := by simpa [hq] using hi
    have hagg : (isAgg ty).run Try.prog w = .ok true w := by
      unfold isAgg
      rw [Sem.run_bind, run_underlying hu w]
      cases d <;> simp_all
    simp [loadVar, Sem.run_bind, hagg, sizeOf, typeInfo, hq, hs, hl]
theorem wpList_ldc {w : World} {ops : Array Oper} {rest : List Oper} {o : Oper} {a : Act} {Q : Exit → Act → World → Prop} (hgd : o.guard = none) (ty : TypeId) (x : Operand) (ho : o.op = .load ty x)
    (p : Addr) (hx : a.eval x = .pointer (some p)) (cs : List Value) (h : At w p cs) (hs : Sty ty cs.length) (K : wpList Try.prog ops Q rest (a.put o.dst (.agg cs.toArray)) w) : wpList Try.prog ops Q (o :: rest) a w := by
  refine wpList_plain hgd fun K' hK => ?_
  unfold Oper.wp execOp
  simp only [ho, hx, Instr.loadAt, Instr.sureAddr, Sem.run_bind, Sem.run_pure, Result.andThen_ok, run_loadVar_at w p ty cs hs h]
  exact hK _ _ K
/-- the same, for one that is guarded, too: its guard is known -/
theorem wpList_ldw {w : World} {ops : Array Oper} {rest : List Oper} {o : Oper} {a : Act} {Q : Exit → Act → World → Prop} (hw : Region.wanted o (yielded ops a.tmps) = true) (ty : TypeId) (x : Operand) (ho : o.op = .load ty x)
    (p : Addr) (hx : a.eval x = .pointer (some p)) (cs : List Value) (h : At w p cs) (hs : Sty ty cs.length) (K : wpList Try.prog ops Q rest (a.put o.dst (.agg cs.toArray)) w) : wpList Try.prog ops Q (o :: rest) a w := by
  unfold wpList
  rw [if_pos hw]
  refine .inl ?_
  unfold Oper.wp execOp
  simp only [ho, hx, Instr.loadAt, Instr.sureAddr, Sem.run_bind, Sem.run_pure, Result.andThen_ok, run_loadVar_at w p ty cs hs h]
  exact K
theorem Blk.at {w : World} {g : Nat} {t : TypeId} {cs : List Value} (h : Blk w g t cs.toArray) : At w ⟨g, 0, none⟩ cs := by
  intro j v hv
  have e : (⟨g, 0, none⟩ : Addr).add j = ⟨g, j, none⟩ := by unfold Addr.add; split <;> simp_all
  rw [e, h.cell]
  simpa using hv
theorem At.below {w w' : World} {b o : Nat} {cs : List Value} (h : At w ⟨b, o, none⟩ cs) (hb : Below w.heap.size w w') (hl : b < w.heap.size) : At w' ⟨b, o, none⟩ cs := by
  intro j v hv
  have e := h j v hv
  have ea : ((⟨b, o, none⟩ : Addr).add j).block = b := by unfold Addr.add; split <;> rfl
  rw [← e]
  exact hb.cell (p := (⟨b, o, none⟩ : Addr).add j) (by rw [ea]; exact hl)
end Go.Proofs.Ytmbceafeonjffaa
