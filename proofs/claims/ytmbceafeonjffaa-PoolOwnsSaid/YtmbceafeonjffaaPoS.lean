/-
  Package pool: a Step as it lies there. Conditions stand in each theorem.
-/
import Derived.Test.YtmbceafeonjffaaPo
namespace Go.Proofs.Ytmbceafeonjffaa
open Go.RowKit Plain
set_option linter.unusedVariables false
set_option linter.unusedSimpArgs false
set_option maxRecDepth 100000
/-- the cells of a Step -/
def Ps.cs (s : Ps) (gc : Nat) (gv : Value) : List Value :=
  .pointer (some ⟨gc, 0, none⟩) :: .int .i64 s.nx :: .int .i64 s.wd :: .int .i64 s.ah :: .int .i64 s.mo :: (s.rd.map (Value.int .u64) ++ [.int .u32 s.tk, .bool s.no, .bool s.sm, gv])
structure StP (w : World) (gs gc : Nat) (gv : Value) (s : Ps) : Prop where
  blk : Blk w gs 78 (s.cs gc gv).toArray
  len : s.rd.length = 32
section
variable {w w' : World} {gs gc : Nat} {gv : Value} {s : Ps}
theorem StP.below (h : StP w gs gc gv s) (hb : Below w.heap.size w w') : StP w' gs gc gv s := ⟨h.blk.below hb, h.len⟩
theorem StP.keep {bs : List Nat} (h : StP w gs gc gv s) (hk : Keep bs w w') (hg : gs ∉ bs) : StP w' gs gc gv s := ⟨hk.blk h.blk hg, h.len⟩
theorem StP.drewN (h : StP w gs gc gv s) (q : Nat) : StP (w.drewN q) gs gc gv s := ⟨h.blk, h.len⟩
theorem StP.ne (h : StP w gs gc gv s) {p : Addr} (hp : p.block ≠ gs) (v : Value) : StP (w.setCell p v) gs gc gv s := ⟨h.blk.ne hp v, h.len⟩
theorem StP.c0 (h : StP w gs gc gv s) : w.cell? ⟨gs, 0, none⟩ = some (.pointer (some ⟨gc, 0, none⟩)) := h.blk.cell 0
theorem StP.c1 (h : StP w gs gc gv s) : w.cell? ⟨gs, 1, none⟩ = some (.int .i64 s.nx) := h.blk.cell 1
theorem StP.c2 (h : StP w gs gc gv s) : w.cell? ⟨gs, 2, none⟩ = some (.int .i64 s.wd) := h.blk.cell 2
theorem StP.c3 (h : StP w gs gc gv s) : w.cell? ⟨gs, 3, none⟩ = some (.int .i64 s.ah) := h.blk.cell 3
theorem StP.c4 (h : StP w gs gc gv s) : w.cell? ⟨gs, 4, none⟩ = some (.int .i64 s.mo) := h.blk.cell 4
theorem cs_rd (h : s.rd.length = 32) (i : Nat) (hi : i < 32) : (s.cs gc gv)[5 + i]? = some (.int .u64 (s.rd.getD i 0)) := by
  have e : (s.cs gc gv)[5 + i]? = (s.rd.map (Value.int .u64) ++ [.int .u32 s.tk, .bool s.no, .bool s.sm, gv])[i]? := by
    rw [show 5 + i = i + 5 by omega]; rfl
  rw [e, List.getElem?_append_left (by simp; omega), List.getElem?_map, List.getElem?_eq_getElem (by omega)]
  simp [List.getD, show i < s.rd.length by omega]
theorem cs_end (h : s.rd.length = 32) (i : Nat) : (s.cs gc gv)[37 + i]? = [Value.int .u32 s.tk, .bool s.no, .bool s.sm, gv][i]? := by
  have e : (s.cs gc gv)[37 + i]? = (s.rd.map (Value.int .u64) ++ [.int .u32 s.tk, .bool s.no, .bool s.sm, gv])[32 + i]? := by
    rw [show 37 + i = (32 + i) + 5 by omega]; rfl
  rw [e, List.getElem?_append_right (by simp; omega)]
  simp [h]
theorem StP.cr (h : StP w gs gc gv s) (i : Nat) (hi : i < 32) : w.cell? ⟨gs, 5 + i, none⟩ = some (.int .u64 (s.rd.getD i 0)) := by rw [h.blk.cell (5 + i)]; simpa using cs_rd h.len i hi
theorem StP.c37 (h : StP w gs gc gv s) : w.cell? ⟨gs, 37, none⟩ = some (.int .u32 s.tk) := by rw [h.blk.cell 37]; simpa using cs_end h.len 0
theorem StP.c38 (h : StP w gs gc gv s) : w.cell? ⟨gs, 38, none⟩ = some (.bool s.no) := by rw [h.blk.cell 38]; simpa using cs_end h.len 1
theorem StP.c39 (h : StP w gs gc gv s) : w.cell? ⟨gs, 39, none⟩ = some (.bool s.sm) := by rw [h.blk.cell 39]; simpa using cs_end h.len 2
theorem StP.c40 (h : StP w gs gc gv s) : w.cell? ⟨gs, 40, none⟩ = some gv := by rw [h.blk.cell 40]; simpa using cs_end h.len 3
theorem StP.free (h : StP w gs gc gv s) (i : Nat) : w.frozen? ⟨gs, i, none⟩ = false := h.blk.frozen i
theorem StP.put (h : StP w gs gc gv s) (i : Nat) (v : Value) (s' : Ps) (gv' : Value) (hs : (s.cs gc gv).set i v = s'.cs gc gv') (hl : s'.rd.length = 32) : StP (w.setCell ⟨gs, i, none⟩ v) gs gc gv' s' := ⟨by
  have := h.blk.set i v
  rw [List.setIfInBounds_toArray, hs] at this
  exact this, hl⟩
theorem StP.nx (h : StP w gs gc gv s) (x : Nat) : StP (w.setCell ⟨gs, 1, none⟩ (.int .i64 x)) gs gc gv { s with nx := x } := h.put 1 _ _ _ rfl h.len
theorem StP.wd (h : StP w gs gc gv s) (x : Nat) : StP (w.setCell ⟨gs, 2, none⟩ (.int .i64 x)) gs gc gv { s with wd := x } := h.put 2 _ _ _ rfl h.len
theorem StP.ah (h : StP w gs gc gv s) (x : Nat) : StP (w.setCell ⟨gs, 3, none⟩ (.int .i64 x)) gs gc gv { s with ah := x } := h.put 3 _ _ _ rfl h.len
theorem cs_setr (i : Nat) (v : Value) (hi : i < s.rd.length) : (s.cs gc gv).set (5 + i) v = .pointer (some ⟨gc, 0, none⟩) :: .int .i64 s.nx :: .int .i64 s.wd :: .int .i64 s.ah :: .int .i64 s.mo :: ((s.rd.map (Value.int .u64)).set i v ++ [.int .u32 s.tk, .bool s.no, .bool s.sm, gv]) := by
  rw [show 5 + i = i + 5 by omega]
  unfold Ps.cs
  simp only [List.set_cons_succ]
  rw [List.set_append_left _ _ (by simpa using hi)]
theorem cs_sete (h : s.rd.length = 32) (i : Nat) (v : Value) : (s.cs gc gv).set (37 + i) v = .pointer (some ⟨gc, 0, none⟩) :: .int .i64 s.nx :: .int .i64 s.wd :: .int .i64 s.ah :: .int .i64 s.mo :: (s.rd.map (Value.int .u64) ++ [Value.int .u32 s.tk, .bool s.no, .bool s.sm, gv].set i v) := by
  rw [show 37 + i = (32 + i) + 5 by omega]
  unfold Ps.cs
  simp only [List.set_cons_succ]
  rw [List.set_append_right _ _ (by simp; omega)]
  simp [h]
theorem StP.rd (h : StP w gs gc gv s) (i : Nat) (hi : i < 32) (x : Int) : StP (w.setCell ⟨gs, 5 + i, none⟩ (.int .u64 x)) gs gc gv { s with rd := s.rd.set i x } :=
  h.put (5 + i) _ _ _ (by rw [cs_setr i _ (by have := h.len; omega), ← List.map_set]; rfl) (by simp [h.len])
theorem StP.tk (h : StP w gs gc gv s) (x : Int) : StP (w.setCell ⟨gs, 37, none⟩ (.int .u32 x)) gs gc gv { s with tk := x } := h.put 37 _ _ _ (cs_sete h.len 0 _) h.len
theorem StP.no (h : StP w gs gc gv s) (x : Bool) : StP (w.setCell ⟨gs, 38, none⟩ (.bool x)) gs gc gv { s with no := x } := h.put 38 _ _ _ (cs_sete h.len 1 _) h.len
theorem StP.sm (h : StP w gs gc gv s) (x : Bool) : StP (w.setCell ⟨gs, 39, none⟩ (.bool x)) gs gc gv { s with sm := x } := h.put 39 _ _ _ (cs_sete h.len 2 _) h.len
theorem StP.gi (h : StP w gs gc gv s) (v : Value) : StP (w.setCell ⟨gs, 40, none⟩ v) gs gc v s := h.put 40 _ _ _ (cs_sete h.len 3 _) h.len
end
end Go.Proofs.Ytmbceafeonjffaa
