/-
  A Sent that came in by value, opened. Conditions stand in each theorem.
-/
import Derived.Test.YtbnlpidhbilenaaSent
import Derived.Test.YtbnlpidhbilenaaOpen
import Derived.Lib.SmallJoins
namespace Go.Proofs.Ytbnlpidhbilenaa
open Go.ChangeShapes Go.WideShapes Go.ChangeAt Go.RowKit Plain
set_option linter.unusedVariables false
set_option maxRecDepth 100000

theorem open_sent {H : Type} {enc : TypeId × Value → H} {W : World} {r : Reach} {b0 : Nat} {v : Value} {d : DataW H} {p : List MemPlace}
    (hv : Value.okWide Try.prog W r b0 80 v) (h : DataW.Trod enc Try.prog W 0 (fun _ => true) true 80 v d p) :
    ∃ x : Sn, v = x.val ∧ x.ok W := by
  obtain ⟨cs, rfl, hsz⟩ := okWide_struct Try.underlying80 hv
  have hC : Try.prog.cellsOf 80 = 7 := by kernel_rfl
  have ci : Try.prog.cellsOf 3 = 1 := by kernel_rfl
  have c32 : Try.prog.cellsOf 64 = 1 := by kernel_rfl
  have c16 : Try.prog.cellsOf 65 = 1 := by kernel_rfl
  have cb : Try.prog.cellsOf 27 = 1 := by kernel_rfl
  obtain ⟨l⟩ := cs
  match l, hsz.trans hC with
  | [c0, c1, c2, c3, c4, c5, c6], _ =>
    obtain ⟨fuel, hf⟩ := h
    obtain ⟨xs, n, _, hx, _, hlen, hg⟩ := DataW.trod_struct Try.underlying80 hf
    match xs, hlen with
    | [y0, y1, y2, y3, y4, y5, y6], _ =>
      have g0 : DataW.trod enc Try.prog W 0 (fun _ => true) true n 3 [c0] = some y0 := by simpa [Value.cells, ci, c32, c16, cb] using hg 0 _ rfl
      have g1 : DataW.trod enc Try.prog W 0 (fun _ => true) true n 64 [c1] = some y1 := by simpa [Value.cells, ci, c32, c16, cb] using hg 1 _ rfl
      have g2 : DataW.trod enc Try.prog W 0 (fun _ => true) true n 64 [c2] = some y2 := by simpa [Value.cells, ci, c32, c16, cb] using hg 2 _ rfl
      have g3 : DataW.trod enc Try.prog W 0 (fun _ => true) true n 65 [c3] = some y3 := by simpa [Value.cells, ci, c32, c16, cb] using hg 3 _ rfl
      have g4 : DataW.trod enc Try.prog W 0 (fun _ => true) true n 65 [c4] = some y4 := by simpa [Value.cells, ci, c32, c16, cb] using hg 4 _ rfl
      have g5 : DataW.trod enc Try.prog W 0 (fun _ => true) true n 3 [c5] = some y5 := by simpa [Value.cells, ci, c32, c16, cb] using hg 5 _ rfl
      have g6 : DataW.trod enc Try.prog W 0 (fun _ => true) true n 27 [c6] = some y6 := by simpa [Value.cells, ci, c32, c16, cb] using hg 6 _ rfl
      obtain ⟨a0, e0, _, w0⟩ := DataW.trod_int Try.underlying3 g0
      obtain ⟨a1, e1, _, w1⟩ := DataW.trod_int Try.underlying64 g1
      obtain ⟨a2, e2, _, w2⟩ := DataW.trod_int Try.underlying64 g2
      obtain ⟨a3, e3, _, w3⟩ := DataW.trod_int Try.underlying65 g3
      obtain ⟨a4, e4, _, w4⟩ := DataW.trod_int Try.underlying65 g4
      obtain ⟨a5, e5, _, w5⟩ := DataW.trod_int Try.underlying3 g5
      have hs : ∃ (a : Option Addr) (len cap : Nat), c6 = .slice a len cap := by
        rcases open_ints Try.underlying27 Try.underlying5 (by kernel_rfl) g6 with ⟨hcs, _⟩ | ⟨x, l, c, zs, hcs, _⟩
        · injection hcs with hcs; exact ⟨_, _, _, hcs⟩
        · injection hcs with hcs; exact ⟨_, _, _, hcs⟩
      obtain ⟨a, len, cap, rfl⟩ := hs
      obtain ⟨ys, h1, h2, h3, h4⟩ := open_rd (d := y6.1) (p := y6.2) ⟨n, g6⟩
      simp at e0 e1 e2 e3 e4 e5
      subst e0 e1 e2 e3 e4 e5
      have z1 := bounds_u32 w1
      have z2 := bounds_u32 w2
      have z3 := bounds_u16 w3
      have z4 := bounds_u16 w4
      unfold maxLen at h3
      exact ⟨⟨a0, a1, a2, a3, a4, a5, a, len, cap, ys⟩, rfl, ⟨z1.1, z1.2, z2.1, z2.2, z3.1, z3.2, z4.1, z4.2, h1, h2, by simpa using h3, h4⟩⟩
end Go.Proofs.Ytbnlpidhbilenaa
