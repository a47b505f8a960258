/-
  Several small texts in one: Base, Steps, Blk, Part. Conditions stand in each theorem.
-/
import Derived.Test.YtdkjipfemnfckaaGA
import Derived.Test.YtdkjipfemnfckaaRows
import Derived.Lib.Hide
import Derived.Laws.Rows
import Derived.Laws.Tables
import Derived.Laws.CopyRow
import Derived.Laws.ResultCell
import Derived.OwnWalk
import Derived.Test.YtdkjipfemnfckaaGB
import Derived.Lib.SlBytesConst
import Derived.Test.YtdkjipfemnfckaaGC
namespace Go.Proofs.Ytdkjipfemnfckaa
open Go.RowKit Plain
set_option linter.unusedVariables false
set_option linter.unusedSimpArgs false
set_option maxRecDepth 100000

theorem bthen {w w1 w2 : World} (h1 : Below w.heap.size w w1) (h2 : Below w1.heap.size w1 w2) : Below w.heap.size w w2 := h1.trans (h2.mono h1.size)
theorem ball (w : World) (o : Obj) : Below w.heap.size w (w.alloc o) := (Below.refl _ _).alloc (Nat.le_refl _) _
theorem bdrewN (w : World) (n : Nat) : Below w.heap.size w (w.drewN n) := below_drewN (Below.refl _ _) n
theorem bdrew (w : World) : Below w.heap.size w w.drew := below_drewN (Below.refl _ _) 1

theorem heap_setCell {w : World} {g : Nat} {t : TypeId} {cs : Array Value} {z : Nat × Nat} (h : w.heap[g]? = some (.cells cs t z)) (i : Nat) (v : Value) :
    (w.setCell ⟨g, i, none⟩ v).heap[g]? = some (.cells (cs.setIfInBounds i v) t z) := by
  show (w.heap.modify g _)[g]? = _
  rw [Array.getElem?_modify, if_pos rfl, h]
  simp
theorem Blk.set {w : World} {g : Nat} {t : TypeId} {cs : Array Value} (h : Blk w g t cs) (i : Nat) (v : Value) : Blk (w.setCell ⟨g, i, none⟩ v) g t (cs.setIfInBounds i v) := heap_setCell h i v
theorem Blk.ne {w : World} {g : Nat} {t : TypeId} {cs : Array Value} (h : Blk w g t cs) {p : Addr} (hp : p.block ≠ g) (v : Value) : Blk (w.setCell p v) g t cs := by
  unfold Blk at *
  rw [← h]
  show (w.heap.modify p.block _)[g]? = _
  rw [Array.getElem?_modify, if_neg hp]
theorem Blk.drew {w : World} {g : Nat} {t : TypeId} {cs : Array Value} (h : Blk w g t cs) : Blk w.drew g t cs := h
theorem Blk.drewN {w : World} {g : Nat} {t : TypeId} {cs : Array Value} (h : Blk w g t cs) (n : Nat) : Blk (w.drewN n) g t cs := h
/-- six cells stored, one behind the other -/
theorem Blk.set6 {w : World} {g : Nat} {t : TypeId} {x0 x1 x2 x3 x4 x5 : Value} (h : Blk w g t #[x0, x1, x2, x3, x4, x5]) (v0 v1 v2 v3 v4 v5 : Value) :
    Blk ((((((w.setCell ⟨g, 0, none⟩ v0).setCell ⟨g, 1, none⟩ v1).setCell ⟨g, 2, none⟩ v2).setCell ⟨g, 3, none⟩ v3).setCell ⟨g, 4, none⟩ v4).setCell ⟨g, 5, none⟩ v5) g t #[v0, v1, v2, v3, v4, v5] :=
  (((((h.set 0 v0).set 1 v1).set 2 v2).set 3 v3).set 4 v4).set 5 v5
theorem Blk.ne6 {w : World} {g m : Nat} {t : TypeId} {cs : Array Value} (h : Blk w g t cs) (hp : m ≠ g) (v0 v1 v2 v3 v4 v5 : Value) :
    Blk ((((((w.setCell ⟨m, 0, none⟩ v0).setCell ⟨m, 1, none⟩ v1).setCell ⟨m, 2, none⟩ v2).setCell ⟨m, 3, none⟩ v3).setCell ⟨m, 4, none⟩ v4).setCell ⟨m, 5, none⟩ v5) g t cs :=
  (((((h.ne hp v0).ne hp v1).ne hp v2).ne hp v3).ne hp v4).ne hp v5

/-- a type of so many cells; a struct of so many -/
def Siz (ty : TypeId) (n : Nat) : Prop := (Try.prog.info? ty).map (·.size) = some n
def Sty (ty : TypeId) (n : Nat) : Prop := (∃ d, Try.prog.underlying ty = some d ∧ (match d with | .struct _ | .array _ _ => true | _ => false) = true) ∧ Siz ty n

section
variable {w w' w0 : World} {g r : Nat} {t : TypeId} {cs vs : Array Value} {A : Option Addr} {zs : List Int}
theorem Blk.grown (h : Blk w g t cs) (hg : w.grownBy w' (some r)) (hne : g ≠ r) : Blk w' g t cs := (hg.block g h.lt (by simpa using hne)).trans h
theorem Rd.grown (h : Rd w A zs) (hg : w.grownBy w' (some r)) (hne : ∀ b off, 0 < zs.length → A = some ⟨b, off, none⟩ → b ≠ r) : Rd w' A zs :=
  ⟨h.1, fun hp => by
    obtain ⟨b, off, e, hc⟩ := h.2 hp
    have hlt : b < w.heap.size := block_lt_of_cell (hc 0 hp)
    exact ⟨b, off, e, fun k hk => (World.cell?_of_block (a := ⟨b, off + k, none⟩) (hg.block b hlt (by simpa using hne b off hp e))).trans (hc k hk)⟩⟩
theorem bgrown (h : Below w0.heap.size w0 w) (hg : w.grownBy w' (some r)) (hr : w0.heap.size ≤ r) : Below w0.heap.size w0 w' :=
  h.grown hg h.size fun k hk => by injection hk with hk; omega
theorem grown_setRow (w : World) (g : Nat) (cs : Array Value) : w.grownBy (w.setRow g cs) (some g) :=
  ⟨rfl, rfl, rfl, by simp [World.setRow], fun k hk hne => by
    show (w.heap.modify g _)[k]? = _
    rw [Array.getElem?_modify, if_neg (by rintro rfl; exact hne rfl)]⟩
theorem grown_setCell (w : World) (g i : Nat) (v : Value) : w.grownBy (w.setCell ⟨g, i, none⟩ v) (some g) :=
  ⟨rfl, rfl, rfl, by simp [World.setCell], fun k hk hne => by
    show (w.heap.modify g _)[k]? = _
    rw [Array.getElem?_modify, if_neg (by rintro rfl; exact hne rfl)]⟩
theorem grown_drew {w w' : World} {r : Option Nat} (h : w.grownBy w' r) : w.grownBy w'.drew r := ⟨h.os, h.tape, h.output, h.size, h.block⟩
theorem Blk.setRow (h : Blk w g t cs) (vs : Array Value) : Blk (w.setRow g vs) g t vs := by
  unfold Blk at *
  show (w.heap.modify g _)[g]? = _
  rw [Array.getElem?_modify, if_pos rfl, h]
  rfl

/-- they say nothing: they fit only where such a load, or store, stands next -/
theorem gd_ld {ops : Array Oper} {rest : List Oper} {a : Act} {Q : Exit → Act → World → Prop} {dst : Option Tmp} {type : TypeId} {pos : String} {after : Array Edge} (ty : TypeId) (k : Nat)
    (h : wpList Try.prog ops Q (⟨dst, .load ty (.tmp k), type, pos, after, none⟩ :: rest) a w) : wpList Try.prog ops Q (⟨dst, .load ty (.tmp k), type, pos, after, none⟩ :: rest) a w := h
theorem gd_st {ops : Array Oper} {rest : List Oper} {a : Act} {Q : Exit → Act → World → Prop} {dst : Option Tmp} {type : TypeId} {pos : String} {after : Array Edge} (ty : TypeId) (k : Nat) {y : Operand}
    (h : wpList Try.prog ops Q (⟨dst, .store ty (.tmp k) y, type, pos, after, none⟩ :: rest) a w) : wpList Try.prog ops Q (⟨dst, .store ty (.tmp k) y, type, pos, after, none⟩ :: rest) a w := h

/-- a load of a whole struct -/
theorem wpList_ld {ops : Array Oper} {rest : List Oper} {o : Oper} {a : Act} {Q : Exit → Act → World → Prop} (hgd : o.guard = none) (ty : TypeId) (x : Operand) (ho : o.op = .load ty x)
    (g : Nat) (hx : a.eval x = .pointer (some ⟨g, 0, none⟩)) (hb : Blk w g t cs) (hs : Sty ty cs.size)
    (h : wpList Try.prog ops Q rest (a.put o.dst (.agg cs)) w) : wpList Try.prog ops Q (o :: rest) a w := by
  obtain ⟨⟨d, hu, hd⟩, hi⟩ := hs
  exact wpList_load_row hgd ty x ho g hx t cs (0, 0) d hb hu (by cases d <;> first | rfl | (simp at hd)) hi h

/-- a store into a block: the whole, a field, or a struct in it -/
theorem wpList_st {ops : Array Oper} {rest : List Oper} {o : Oper} {a : Act} {Q : Exit → Act → World → Prop} (hgd : o.guard = none) (ty : TypeId) (x y : Operand) (ho : o.op = .store ty x y)
    (g i : Nat) (hx : a.eval x = .pointer (some ⟨g, i, none⟩)) (v : Value) (hy : a.eval y = v) (hb : Blk w g t cs) (hs : Siz ty v.cells.size)
    (cs' : Array Value) (hcs : cs' = (cs.toList.take i ++ v.cells.toList ++ cs.toList.drop (i + v.cells.size)).toArray) (hl : i + v.cells.size ≤ cs.size) (h1 : v.cells.toList.all (·.oneCell') = true)
    (h : ∀ w', Blk w' g t cs' → w.grownBy w' (some g) → w'.heap.size = w.heap.size → wpList Try.prog ops Q rest (a.put o.dst undef) w') : wpList Try.prog ops Q (o :: rest) a w := by
  refine wpList_plain hgd fun K hK => ?_
  have hr := run_storeCells_at (P := Try.prog) g i t v.cells.toList 0 cs w hb (by simpa using hl) (fun c hc => List.all_eq_true.1 h1 c hc)
  have hv : (storeVar ty ⟨g, i, none⟩ v).run Try.prog w = .ok () (w.setRow g cs') := by
    unfold Siz at hs
    cases hq : Try.prog.info? ty with
    | none => simp [hq] at hs
    | some inf =>
      have hsz : v.cells.size = inf.size := by simp [hq] at hs; omega
      rw [Nat.add_zero] at hr
      rw [hcs]
      simp [storeVar, sizeOf, typeInfo, hq, hsz, hr]
  unfold Oper.wp execOp
  simp only [ho, hx, hy, Instr.storeAt, Instr.sureAddr, Sem.run_bind, Sem.run_pure, Result.andThen_ok, hv]
  exact hK _ _ (h _ (hb.setRow cs') (grown_setRow w g cs') (by simp [World.setRow]))

theorem gds_ld {ops : Array Oper} {a : Act} {K : Act → World → Prop} {Q : Exit → Act → World → Prop} {E : Prop} {dst : Option Tmp} {type : TypeId} {pos : String} {after : Array Edge} (ty : TypeId) (k : Nat)
    (h : if Region.wanted ⟨dst, .load ty (.tmp k), type, pos, after, none⟩ (yielded ops a.tmps) = true then Oper.wp Try.prog ⟨dst, .load ty (.tmp k), type, pos, after, none⟩ a w K Q else E) :
    if Region.wanted ⟨dst, .load ty (.tmp k), type, pos, after, none⟩ (yielded ops a.tmps) = true then Oper.wp Try.prog ⟨dst, .load ty (.tmp k), type, pos, after, none⟩ a w K Q else E := h
theorem gds_st {ops : Array Oper} {a : Act} {K : Act → World → Prop} {Q : Exit → Act → World → Prop} {E : Prop} {dst : Option Tmp} {type : TypeId} {pos : String} {after : Array Edge} (ty : TypeId) (k : Nat) {y : Operand}
    (h : if Region.wanted ⟨dst, .store ty (.tmp k) y, type, pos, after, none⟩ (yielded ops a.tmps) = true then Oper.wp Try.prog ⟨dst, .store ty (.tmp k) y, type, pos, after, none⟩ a w K Q else E) :
    if Region.wanted ⟨dst, .store ty (.tmp k) y, type, pos, after, none⟩ (yielded ops a.tmps) = true then Oper.wp Try.prog ⟨dst, .store ty (.tmp k) y, type, pos, after, none⟩ a w K Q else E := h
/-- the same two as one step of a region that draws its order -/
theorem step_ld {ops : Array Oper} {o : Oper} {a : Act} {K : Act → World → Prop} {Q : Exit → Act → World → Prop} {E : Prop} (hgd : o.guard = none) (ty : TypeId) (x : Operand) (ho : o.op = .load ty x)
    (g : Nat) (hx : a.eval x = .pointer (some ⟨g, 0, none⟩)) (hb : Blk w g t cs) (hs : Sty ty cs.size)
    (h : K (a.put o.dst (.agg cs)) w) : if Region.wanted o (yielded ops a.tmps) = true then Oper.wp Try.prog o a w K Q else E := by
  have hw : Region.wanted o (yielded ops a.tmps) = true := by simp [Region.wanted, hgd]
  rw [if_pos hw]
  obtain ⟨⟨d, hu, hd⟩, hi⟩ := hs
  exact wp_load_row ty x ho g hx t cs (0, 0) d hb hu (by cases d <;> first | rfl | (simp at hd)) hi h
theorem step_st {ops : Array Oper} {o : Oper} {a : Act} {K : Act → World → Prop} {Q : Exit → Act → World → Prop} {E : Prop} (hgd : o.guard = none) (ty : TypeId) (x y : Operand) (ho : o.op = .store ty x y)
    (g i : Nat) (hx : a.eval x = .pointer (some ⟨g, i, none⟩)) (v : Value) (hy : a.eval y = v) (hb : Blk w g t cs) (hs : Siz ty v.cells.size)
    (cs' : Array Value) (hcs : cs' = (cs.toList.take i ++ v.cells.toList ++ cs.toList.drop (i + v.cells.size)).toArray) (hl : i + v.cells.size ≤ cs.size) (h1 : v.cells.toList.all (·.oneCell') = true)
    (h : ∀ w', Blk w' g t cs' → w.grownBy w' (some g) → w'.heap.size = w.heap.size → K (a.put o.dst undef) w') : if Region.wanted o (yielded ops a.tmps) = true then Oper.wp Try.prog o a w K Q else E := by
  have hw : Region.wanted o (yielded ops a.tmps) = true := by simp [Region.wanted, hgd]
  rw [if_pos hw]
  have hr := run_storeCells_at (P := Try.prog) g i t v.cells.toList 0 cs w hb (by simpa using hl) (fun c hc => List.all_eq_true.1 h1 c hc)
  have hv : (storeVar ty ⟨g, i, none⟩ v).run Try.prog w = .ok () (w.setRow g cs') := by
    unfold Siz at hs
    cases hq : Try.prog.info? ty with
    | none => simp [hq] at hs
    | some inf =>
      have hsz : v.cells.size = inf.size := by simp [hq] at hs; omega
      rw [Nat.add_zero] at hr
      rw [hcs]
      simp [storeVar, sizeOf, typeInfo, hq, hsz, hr]
  unfold Oper.wp execOp
  simp only [ho, hx, hy, Instr.storeAt, Instr.sureAddr, Sem.run_bind, Sem.run_pure, Result.andThen_ok, hv]
  exact h _ (hb.setRow cs') (grown_setRow w g cs') (by simp [World.setRow])

/-- results of which the first one lies in a block -/
theorem res_cell2 {fn : Func} {p u : Tmp} {ty : TypeId} (h : fn.results = #[.cell p ty, .tmp u]) (tmps : Array Value) (g : Nat) (v : Value) (hp : tmps.getD p undef = .pointer (some ⟨g, 0, none⟩)) (hu2 : tmps.getD u undef = v)
    (hb : Blk w g t cs) (hs : Sty ty cs.size) : (results fn tmps).run Try.prog w = .ok (.tuple #[.agg cs, v]) w := by
  obtain ⟨⟨d, hu, hd⟩, hi⟩ := hs
  rw [results_cell_tmp h, hp, hu2]
  simp only [asAddr, Sem.run_pure, Result.andThen_ok, run_loadVar_row w g t ty cs (0, 0) d hb hu (by cases d <;> first | rfl | (simp at hd)) hi]
theorem res_cell1 {fn : Func} {p : Tmp} {ty : TypeId} (h : fn.results = #[.cell p ty]) (tmps : Array Value) (g : Nat) (hp : tmps.getD p undef = .pointer (some ⟨g, 0, none⟩))
    (hb : Blk w g t cs) (hs : Sty ty cs.size) : (results fn tmps).run Try.prog w = .ok (.agg cs) w := by
  obtain ⟨⟨d, hu, hd⟩, hi⟩ := hs
  exact results_cell_row h tmps w g t cs (0, 0) d hp hb hu (by cases d <;> first | rfl | (simp at hd)) hi
end

end Go.Proofs.Ytdkjipfemnfckaa

namespace Go.Proofs.Ytdkjipfemnfckaa
open Go.RowKit Plain
set_option linter.unusedVariables false
set_option maxRecDepth 100000

/-- a block just made of these bytes, whatever its mark -/
theorem Rd.newM (w : World) (t : TypeId) (z : Nat × Nat) (zs : List Int) (hby : By zs) (cs : Array Value) (hcs : cs = (zs.map (Value.int .u8)).toArray) : Rd (w.alloc (.cells cs t z)) (some ⟨w.heap.size, 0, none⟩) zs := by
  subst hcs
  refine ⟨hby, fun _ => ⟨w.heap.size, 0, rfl, fun k hk => ?_⟩⟩
  rw [Nat.zero_add, World.cell?_alloc_mark]
  simp [hk, List.getD]
theorem Rd.dropAt {w : World} {b off : Nat} {zs : List Int} (h : Rd w (some ⟨b, off, none⟩) zs) (k : Nat) : Rd w (some ⟨b, off + k, none⟩) (zs.drop k) := by
  refine ⟨h.1.drop k, fun hp => ⟨b, off + k, rfl, fun j hj => ?_⟩⟩
  rw [List.length_drop] at hp hj
  obtain ⟨b', off', e, hc⟩ := h.2 (by omega)
  injection e with e
  injection e with e1 e2
  subst e1 e2
  rw [getD_drop, Nat.add_assoc]
  exact hc (k + j) (by omega)
theorem Rd.lt {w : World} {A : Option Addr} {zs : List Int} (h : Rd w A zs) : ∀ b off, 0 < zs.length → A = some ⟨b, off, none⟩ → b < w.heap.size := by
  intro b off hp e
  obtain ⟨b', off', e', hc⟩ := h.2 hp
  rw [e] at e'
  injection e' with e'
  injection e' with e1 e2
  subst e1
  exact block_lt_of_cell (hc 0 hp)
theorem Rd.neq {w : World} {A : Option Addr} {zs : List Int} (h : Rd w A zs) {p : Addr} (hp : ∀ b off, 0 < zs.length → A = some ⟨b, off, none⟩ → b < p.block) (v : Value) : Rd (w.setCell p v) A zs :=
  ⟨h.1, fun hl => by
    obtain ⟨b, off, e, hc⟩ := h.2 hl
    refine ⟨b, off, e, fun k hk => (World.cell?_setCell_other w p ⟨b, off + k, none⟩ v (fun e2 => ?_)).trans (hc k hk)⟩
    have := hp b off hl e
    rw [e2] at this
    simp at this⟩
theorem Rd.setNew {w : World} {A : Option Addr} {zs : List Int} {m : Nat} (h : Rd w A zs) (hp : ∀ b off, 0 < zs.length → A = some ⟨b, off, none⟩ → b < m) (v0 v1 v2 v3 v4 v5 : Value) :
    Rd ((((((w.setCell ⟨m, 0, none⟩ v0).setCell ⟨m, 1, none⟩ v1).setCell ⟨m, 2, none⟩ v2).setCell ⟨m, 3, none⟩ v3).setCell ⟨m, 4, none⟩ v4).setCell ⟨m, 5, none⟩ v5) A zs :=
  (((((h.neq (p := ⟨m, 0, none⟩) hp v0).neq (p := ⟨m, 1, none⟩) hp v1).neq (p := ⟨m, 2, none⟩) hp v2).neq (p := ⟨m, 3, none⟩) hp v3).neq (p := ⟨m, 4, none⟩) hp v4).neq (p := ⟨m, 5, none⟩) hp v5
end Go.Proofs.Ytdkjipfemnfckaa

namespace Go.Proofs.Ytdkjipfemnfckaa
open Go.RowKit Plain
set_option linter.unusedVariables false
set_option maxRecDepth 100000

theorem sPart : Sty 71 15 := ⟨⟨_, Try.underlying71, rfl⟩, by unfold Siz; kernel_rfl⟩
theorem sHead : Sty 67 6 := ⟨⟨_, Try.underlying67, rfl⟩, by unfold Siz; kernel_rfl⟩
theorem sRHead : Sty 35 6 := ⟨⟨_, Try.underlying35, rfl⟩, by unfold Siz; kernel_rfl⟩
theorem sRPart : Sty 39 15 := ⟨⟨_, Try.underlying39, rfl⟩, by unfold Siz; kernel_rfl⟩
theorem sInt : Siz 3 1 := by unfold Siz; kernel_rfl
theorem sBool : Siz 4 1 := by unfold Siz; kernel_rfl
theorem sU16 : Siz 23 1 := by unfold Siz; kernel_rfl
theorem sU32 : Siz 22 1 := by unfold Siz; kernel_rfl
end Go.Proofs.Ytdkjipfemnfckaa

namespace Go.Proofs.Ytdkjipfemnfckaa
open Go.RowKit Plain
set_option linter.unusedVariables false
set_option linter.unusedSimpArgs false
set_option maxRecDepth 100000

/-- what a packet carries, as a value -/
structure Pt where
  proto : Int
  sp : Int
  dp : Int
  fl : Int
  kd : Int
  cd : Int
  er : Bool
  inn : Hd
  pos : Int
  bare : Bool
def Pt.val (p : Pt) : Value := .agg #[.int .i64 p.proto, .int .u16 p.sp, .int .u16 p.dp, .int .i64 p.fl, .int .i64 p.kd, .int .i64 p.cd, .bool p.er,
  .int .i64 p.inn.size, .int .i64 p.inn.len, .int .i64 p.inn.ttl, .int .i64 p.inn.proto, .int .u32 p.inn.src, .int .u32 p.inn.dst, .int .i64 p.pos, .bool p.bare]
def pt0 : Pt := ⟨0, 0, 0, 0, 0, 0, false, hd0, 0, false⟩


set_option maxHeartbeats 2000000 in
theorem withPorts_any (p0 p1 p2 p3 p4 p5 : Int) (p6 : Bool) (d0 d1 d2 d3 d4 d5 p7 : Int) (p8 : Bool) (A : Option Addr) (n c : Nat) (zs : List Int) (w : World) (hn : zs.length = n) (h4 : 4 ≤ n) (hl : n ≤ 1000000) (hR : Rd w A zs) :
    Calls Try.prog 71 #[.agg #[.int .i64 p0, .int .u16 p1, .int .u16 p2, .int .i64 p3, .int .i64 p4, .int .i64 p5, .bool p6, .int .i64 d0, .int .i64 d1, .int .i64 d2, .int .i64 d3, .int .u32 d4, .int .u32 d5, .int .i64 p7, .bool p8], .slice A n c] w fun e w' => e = .returned (.agg #[.int .i64 p0, .int .u16 (G16 zs 0), .int .u16 (G16 zs 2), .int .i64 p3, .int .i64 p4, .int .i64 p5, .bool p6, .int .i64 d0, .int .i64 d1, .int .i64 d2, .int .i64 d3, .int .u32 d4, .int .u32 d5, .int .i64 p7, .bool p8]) ∧ Below w.heap.size w w' := by
  have HR := Lib.hid hR
  have Hn := Lib.hid hn
  clear hR hn
  go_enter Try.func71, Try.ntmps71
  go_upto_region 1 with fail
  obtain ⟨w1, hw1⟩ : ∃ w1, w1 = (w.alloc (.cells #[.int .i64 p0, .int .u16 p1, .int .u16 p2, .int .i64 p3, .int .i64 p4, .int .i64 p5, .bool p6, .int .i64 d0, .int .i64 d1, .int .i64 d2, .int .i64 d3, .int .u32 d4, .int .u32 d5, .int .i64 p7, .bool p8] 71)).alloc (.cells #[.int .i64 0, .int .u16 0, .int .u16 0, .int .i64 0, .int .i64 0, .int .i64 0, .bool false, .int .i64 0, .int .i64 0, .int .i64 0, .int .i64 0, .int .u32 0, .int .u32 0, .int .i64 0, .bool false] 71) := ⟨_, rfl⟩
  have H0 := Lib.hid (show Blk w1 w.heap.size 71 #[.int .i64 p0, .int .u16 p1, .int .u16 p2, .int .i64 p3, .int .i64 p4, .int .i64 p5, .bool p6, .int .i64 d0, .int .i64 d1, .int .i64 d2, .int .i64 d3, .int .u32 d4, .int .u32 d5, .int .i64 p7, .bool p8] by rw [hw1]; exact (Blk.new w _ _).alloc _)
  have h1 : Blk w1 (w.heap.size + 1) 71 #[.int .i64 0, .int .u16 0, .int .u16 0, .int .i64 0, .int .i64 0, .int .i64 0, .bool false, .int .i64 0, .int .i64 0, .int .i64 0, .int .i64 0, .int .u32 0, .int .u32 0, .int .i64 0, .bool false] := by rw [hw1]; have := Blk.new (w.alloc (.cells #[.int .i64 p0, .int .u16 p1, .int .u16 p2, .int .i64 p3, .int .i64 p4, .int .i64 p5, .bool p6, .int .i64 d0, .int .i64 d1, .int .i64 d2, .int .i64 d3, .int .u32 d4, .int .u32 d5, .int .i64 p7, .bool p8] 71)) 71 #[.int .i64 0, .int .u16 0, .int .u16 0, .int .i64 0, .int .i64 0, .int .i64 0, .bool false, .int .i64 0, .int .i64 0, .int .i64 0, .int .i64 0, .int .u32 0, .int .u32 0, .int .i64 0, .bool false]; rwa [World.size_alloc] at this
  have HB := Lib.hid (show Below w.heap.size w w1 by rw [hw1]; exact bthen (ball _ _) (ball _ _))
  rw [← hw1]
  clear hw1
  obtain ⟨g1, hg1⟩ : ∃ g1, g1 = w.heap.size + 1 := ⟨_, rfl⟩
  have hgl : w.heap.size ≤ g1 := by omega
  have hgn : g1 ≠ w.heap.size := by omega
  rw [← hg1] at h1
  rw [← hg1]
  have H1 := Lib.hid h1
  clear hg1 h1
  go_wp2_with fail
  refine (get16_any A n c zs 0 0 _ Hn.out rfl (by omega) hl (HR.out.below HB.out)).mono ?_
  rintro e w' ⟨rfl, q, rfl⟩
  go_wp2_with ((with_reducible refine gd_st 23 7 ?_); refine wpList_st rfl 23 (.tmp 7) _ rfl _ _ rfl _ rfl (H0.out.drewN q) sU16 (#[.int .i64 p0, .int .u16 (G16 zs 0), .int .u16 p2, .int .i64 p3, .int .i64 p4, .int .i64 p5, .bool p6, .int .i64 d0, .int .i64 d1, .int .i64 d2, .int .i64 d3, .int .u32 d4, .int .u32 d5, .int .i64 p7, .bool p8]) rfl (Nat.le_of_ble_eq_true rfl) rfl ?_; intro w2 hb2 hg2 hs2)
  have HB2 := Lib.hid (bgrown (below_drewN HB.out q) hg2 (Nat.le_refl _))
  have H12 := Lib.hid ((H1.out.drewN q).grown hg2 hgn)
  have H02 := Lib.hid hb2
  clear hb2 hg2 hs2
  refine (get16_any A n c zs 2 2 _ Hn.out rfl (by omega) hl (HR.out.below HB2.out)).mono ?_
  rintro e w' ⟨rfl, q2, rfl⟩
  go_wp2_with (first | ((with_reducible refine gd_st 23 10 ?_); refine wpList_st rfl 23 (.tmp 10) _ rfl _ _ rfl _ rfl (H02.out.drewN q2) sU16 (#[.int .i64 p0, .int .u16 (G16 zs 0), .int .u16 (G16 zs 2), .int .i64 p3, .int .i64 p4, .int .i64 p5, .bool p6, .int .i64 d0, .int .i64 d1, .int .i64 d2, .int .i64 d3, .int .u32 d4, .int .u32 d5, .int .i64 p7, .bool p8]) rfl (Nat.le_of_ble_eq_true rfl) rfl ?_; intro w3 hb3 hg3 hs3) | ((with_reducible refine gd_ld 71 2 ?_); refine wpList_ld rfl 71 (.tmp 2) rfl _ rfl (hb3) sPart ?_) | ((with_reducible refine gd_st 71 4 ?_); refine wpList_st rfl 71 (.tmp 4) _ rfl _ _ rfl _ rfl ((H12.out.drewN q2).grown hg3 hgn) sPart.2 (#[.int .i64 p0, .int .u16 (G16 zs 0), .int .u16 (G16 zs 2), .int .i64 p3, .int .i64 p4, .int .i64 p5, .bool p6, .int .i64 d0, .int .i64 d1, .int .i64 d2, .int .i64 d3, .int .u32 d4, .int .u32 d5, .int .i64 p7, .bool p8]) rfl (Nat.le_of_ble_eq_true rfl) rfl ?_; intro w4 hb4 hg4 hs4))
  have HB4 := bgrown (bgrown (below_drewN HB2.out q2) hg3 (Nat.le_refl _)) hg4 hgl
  exact bodyPost_ret (res_cell1 Try.results71 _ _ rfl hb4 sPart) rfl ⟨rfl, HB4⟩

set_option maxHeartbeats 2000000 in
theorem withNumber_any (p0 p1 p2 p3 p4 p5 : Int) (p6 : Bool) (d0 d1 d2 d3 d4 d5 p7 : Int) (p8 : Bool) (A : Option Addr) (n c : Nat) (zs : List Int) (w : World) (hn : zs.length = n) (h4 : 6 ≤ n) (hl : n ≤ 1000000) (hR : Rd w A zs) :
    Calls Try.prog 73 #[.agg #[.int .i64 p0, .int .u16 p1, .int .u16 p2, .int .i64 p3, .int .i64 p4, .int .i64 p5, .bool p6, .int .i64 d0, .int .i64 d1, .int .i64 d2, .int .i64 d3, .int .u32 d4, .int .u32 d5, .int .i64 p7, .bool p8], .slice A n c] w fun e w' => e = .returned (.agg #[.int .i64 p0, .int .u16 (G16 zs 4), .int .u16 (G16 zs 4), .int .i64 p3, .int .i64 p4, .int .i64 p5, .bool p6, .int .i64 d0, .int .i64 d1, .int .i64 d2, .int .i64 d3, .int .u32 d4, .int .u32 d5, .int .i64 p7, .bool p8]) ∧ Below w.heap.size w w' := by
  have HR := Lib.hid hR
  have Hn := Lib.hid hn
  clear hR hn
  go_enter Try.func73, Try.ntmps73
  go_upto_region 1 with fail
  obtain ⟨w1, hw1⟩ : ∃ w1, w1 = (w.alloc (.cells #[.int .i64 p0, .int .u16 p1, .int .u16 p2, .int .i64 p3, .int .i64 p4, .int .i64 p5, .bool p6, .int .i64 d0, .int .i64 d1, .int .i64 d2, .int .i64 d3, .int .u32 d4, .int .u32 d5, .int .i64 p7, .bool p8] 71)).alloc (.cells #[.int .i64 0, .int .u16 0, .int .u16 0, .int .i64 0, .int .i64 0, .int .i64 0, .bool false, .int .i64 0, .int .i64 0, .int .i64 0, .int .i64 0, .int .u32 0, .int .u32 0, .int .i64 0, .bool false] 71) := ⟨_, rfl⟩
  have H0 := Lib.hid (show Blk w1 w.heap.size 71 #[.int .i64 p0, .int .u16 p1, .int .u16 p2, .int .i64 p3, .int .i64 p4, .int .i64 p5, .bool p6, .int .i64 d0, .int .i64 d1, .int .i64 d2, .int .i64 d3, .int .u32 d4, .int .u32 d5, .int .i64 p7, .bool p8] by rw [hw1]; exact (Blk.new w _ _).alloc _)
  have h1 : Blk w1 (w.heap.size + 1) 71 #[.int .i64 0, .int .u16 0, .int .u16 0, .int .i64 0, .int .i64 0, .int .i64 0, .bool false, .int .i64 0, .int .i64 0, .int .i64 0, .int .i64 0, .int .u32 0, .int .u32 0, .int .i64 0, .bool false] := by rw [hw1]; have := Blk.new (w.alloc (.cells #[.int .i64 p0, .int .u16 p1, .int .u16 p2, .int .i64 p3, .int .i64 p4, .int .i64 p5, .bool p6, .int .i64 d0, .int .i64 d1, .int .i64 d2, .int .i64 d3, .int .u32 d4, .int .u32 d5, .int .i64 p7, .bool p8] 71)) 71 #[.int .i64 0, .int .u16 0, .int .u16 0, .int .i64 0, .int .i64 0, .int .i64 0, .bool false, .int .i64 0, .int .i64 0, .int .i64 0, .int .i64 0, .int .u32 0, .int .u32 0, .int .i64 0, .bool false]; rwa [World.size_alloc] at this
  have HB := Lib.hid (show Below w.heap.size w w1 by rw [hw1]; exact bthen (ball _ _) (ball _ _))
  rw [← hw1]
  clear hw1
  obtain ⟨g1, hg1⟩ : ∃ g1, g1 = w.heap.size + 1 := ⟨_, rfl⟩
  have hgl : w.heap.size ≤ g1 := by omega
  have hgn : g1 ≠ w.heap.size := by omega
  rw [← hg1] at h1
  rw [← hg1]
  have H1 := Lib.hid h1
  clear hg1 h1
  go_wp2_with fail
  refine (get16_any A n c zs 4 4 _ Hn.out rfl (by omega) hl (HR.out.below HB.out)).mono ?_
  rintro e w' ⟨rfl, q, rfl⟩
  have kk := fun (h : Blk w1 w.heap.size 71 #[.int .i64 p0, .int .u16 p1, .int .u16 p2, .int .i64 p3, .int .i64 p4, .int .i64 p5, .bool p6, .int .i64 d0, .int .i64 d1, .int .i64 d2, .int .i64 d3, .int .u32 d4, .int .u32 d5, .int .i64 p7, .bool p8]) => h.cell 1
  go_wp2_with (first | ((with_reducible refine gd_st 23 7 ?_); refine wpList_st rfl 23 (.tmp 7) _ rfl _ _ rfl _ rfl (H0.out.drewN q) sU16 (#[.int .i64 p0, .int .u16 (G16 zs 4), .int .u16 p2, .int .i64 p3, .int .i64 p4, .int .i64 p5, .bool p6, .int .i64 d0, .int .i64 d1, .int .i64 d2, .int .i64 d3, .int .u32 d4, .int .u32 d5, .int .i64 p7, .bool p8]) rfl (Nat.le_of_ble_eq_true rfl) rfl ?_; intro w2 hb2 hg2 hs2); have c1 : w2.cell? ⟨w.heap.size, 1, none⟩ = some (.int .u16 (G16 zs 4)) := hb2.cell 1 | ((with_reducible refine gd_st 23 10 ?_); refine wpList_st rfl 23 (.tmp 10) _ rfl _ _ rfl _ rfl (hb2) sU16 (#[.int .i64 p0, .int .u16 (G16 zs 4), .int .u16 (G16 zs 4), .int .i64 p3, .int .i64 p4, .int .i64 p5, .bool p6, .int .i64 d0, .int .i64 d1, .int .i64 d2, .int .i64 d3, .int .u32 d4, .int .u32 d5, .int .i64 p7, .bool p8]) rfl (Nat.le_of_ble_eq_true rfl) rfl ?_; intro w3 hb3 hg3 hs3) | ((with_reducible refine gd_ld 71 2 ?_); refine wpList_ld rfl 71 (.tmp 2) rfl _ rfl (hb3) sPart ?_) | ((with_reducible refine gd_st 71 4 ?_); refine wpList_st rfl 71 (.tmp 4) _ rfl _ _ rfl _ rfl (((H1.out.drewN q).grown hg2 hgn).grown hg3 hgn) sPart.2 (#[.int .i64 p0, .int .u16 (G16 zs 4), .int .u16 (G16 zs 4), .int .i64 p3, .int .i64 p4, .int .i64 p5, .bool p6, .int .i64 d0, .int .i64 d1, .int .i64 d2, .int .i64 d3, .int .u32 d4, .int .u32 d5, .int .i64 p7, .bool p8]) rfl (Nat.le_of_ble_eq_true rfl) rfl ?_; intro w4 hb4 hg4 hs4))
  have HB4 := bgrown (bgrown (bgrown (below_drewN HB.out q) hg2 (Nat.le_refl _)) hg3 (Nat.le_refl _)) hg4 hgl
  exact bodyPost_ret (res_cell1 Try.results73 _ _ rfl hb4 sPart) rfl ⟨rfl, HB4⟩

/-- the sum of UDP and TCP -/
def Ps (src dst pr : Int) (zs : List Int) : Int := 65535 - F (src / 65536 + src % 65536 + dst / 65536 + dst % 65536 + (pr + (zs.length : Int) % 65536) + tot zs)
theorem Ps_range (src dst pr : Int) (zs : List Int) (h : By zs) (s0 : 0 ≤ src) (d0 : 0 ≤ dst) (p0 : 0 ≤ pr) : 0 ≤ Ps src dst pr zs ∧ Ps src dst pr zs ≤ 65535 := by
  have t := tot_nonneg zs h
  have := F_range (src / 65536 + src % 65536 + dst / 65536 + dst % 65536 + (pr + (zs.length : Int) % 65536) + tot zs) (by omega)
  unfold Ps; omega
theorem and32_ffff (x : Int) (h0 : 0 ≤ x) (h1 : x < 4294967296) : bits .and .u32 x 65535 = x % 65536 := by go_bits2

set_option maxHeartbeats 1000000 in
theorem sumFor_any (src dst pr : Int) (A : Option Addr) (n c : Nat) (zs : List Int) (w : World) (hn : zs.length = n) (hl : n ≤ 1000000) (hR : Rd w A zs) (s0 : 0 ≤ src) (s1 : src ≤ 4294967295) (d0 : 0 ≤ dst) (d1 : dst ≤ 4294967295) (p0 : 0 ≤ pr) (p1 : pr ≤ 255) :
    Calls Try.prog 72 #[.int .u32 src, .int .u32 dst, .int .i64 pr, .slice A n c] w fun e w' => e = .returned (.int .u16 (Ps src dst pr zs)) ∧ ∃ q, w' = w.drewN q := by
  have t := tot_nonneg zs hR.1
  have HR := Lib.hid hR
  have Hn := Lib.hid hn
  have a1 := and32_ffff src s0 (by omega)
  have a2 := and32_ffff dst d0 (by omega)
  obtain ⟨l, wr⟩ : ∃ l, IntKind.u16.wrap (n : Int) = l := ⟨_, rfl⟩
  have hll : l = (n : Int) % 65536 := by rw [← wr]; exact IntKind.wrap_u16 _
  have hlb : 0 ≤ l ∧ l ≤ 65535 := by omega
  have hps := Lib.hid (show Ps src dst pr zs = 65535 - F (F (src / 65536 + src % 65536 + dst / 65536 + dst % 65536 + (pr + l) + tot zs)) by
    unfold Ps; rw [F_idem _ (by omega), hn, hll])
  have fr := F_range (src / 65536 + src % 65536 + dst / 65536 + dst % 65536 + (pr + l) + tot zs) (by omega)
  clear hR hn hll
  go_enter Try.func72, Try.ntmps72
  go_wp2_with fail
  refine (more_n (src / 65536 + src % 65536 + dst / 65536 + dst % 65536 + (pr + l)) A n c zs _ (by omega) (by omega) Hn.out hl HR.out).mono ?_
  rintro e w' ⟨rfl, q, rfl⟩
  go_wp2_with fail
  refine (done_any _ _ fr.1 (by omega)).mono ?_
  rintro e w' ⟨rfl, rfl⟩
  go_wp2
  go_ret
  exact ⟨ret_int hps.out.symm, q, rfl⟩
end Go.Proofs.Ytdkjipfemnfckaa
