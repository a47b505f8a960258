/-
  An array of three pairs of ints that came in by value, opened. Conditions stand in each theorem.
-/
import Derived.Test.YtbnlpidhbilenaaWrap
namespace Go.Proofs.Ytbnlpidhbilenaa
open Go.ChangeShapes Go.WideShapes Go.ChangeAt Go.RowKit
set_option linter.unusedVariables false
set_option maxRecDepth 100000
theorem list6 {α : Type} {l : List α} (h : l.length = 6) : ∃ a b c d e f, l = [a, b, c, d, e, f] := by
  rcases l with _ | ⟨a, l⟩
  · cases h
  rcases l with _ | ⟨b, l⟩
  · simp at h
  rcases l with _ | ⟨c, l⟩
  · simp at h
  rcases l with _ | ⟨d, l⟩
  · simp at h
  rcases l with _ | ⟨e, l⟩
  · simp at h
  rcases l with _ | ⟨f, l⟩
  · simp at h
  rcases l with _ | ⟨g, l⟩
  · exact ⟨a, b, c, d, e, f, rfl⟩
  · simp at h
theorem trod_pair {H : Type} {enc : TypeId × Value → H} {W : World} {m : Nat} {c0 c1 : Value} {y : DataW H × List MemPlace}
    (h : DataW.trod enc Try.prog W 0 (fun _ => true) true m 60 [c0, c1] = some y) : ∃ a b : Int, c0 = .int .i64 a ∧ c1 = .int .i64 b := by
  have ci : Try.prog.cellsOf 3 = 1 := by kernel_rfl
  obtain ⟨ys, n, _, _, _, hyl, hg⟩ := DataW.trod_array Try.underlying60 h
  have g0 := hg 0 (by omega)
  have g1 := hg 1 (by omega)
  rw [ci] at g0 g1
  rw [List.getElem?_eq_getElem (by omega)] at g0 g1
  obtain ⟨a, e0, _⟩ := DataW.trod_int Try.underlying3 g0
  obtain ⟨b, e1, _⟩ := DataW.trod_int Try.underlying3 g1
  simp at e0 e1
  exact ⟨a, b, e0, e1⟩
theorem open_arr32 {H : Type} {enc : TypeId × Value → H} {W : World} {r : Reach} {b0 : Nat} {v : Value} {d : DataW H} {p : List MemPlace}
    (hv : Value.okWide Try.prog W r b0 61 v) (h : DataW.Trod enc Try.prog W 0 (fun _ => true) true 61 v d p) :
    ∃ p q : Nat → Int, v = .agg #[.int .i64 (p 0), .int .i64 (q 0), .int .i64 (p 1), .int .i64 (q 1), .int .i64 (p 2), .int .i64 (q 2)] := by
  obtain ⟨cs, rfl, hsz⟩ := okWide_array Try.underlying61 hv
  have hC : Try.prog.cellsOf 61 = 6 := by kernel_rfl
  have cp : Try.prog.cellsOf 60 = 2 := by kernel_rfl
  obtain ⟨l⟩ := cs
  obtain ⟨c0, c1, c2, c3, c4, c5, rfl⟩ := list6 (by simpa using hsz.trans hC)
  obtain ⟨fuel, hf⟩ := h
  obtain ⟨ys, m, _, _, _, hyl, hg⟩ := DataW.trod_array Try.underlying61 hf
  have g0 := hg 0 (by omega)
  have g1 := hg 1 (by omega)
  have g2 := hg 2 (by omega)
  rw [cp] at g0 g1 g2
  rw [List.getElem?_eq_getElem (by omega)] at g0 g1 g2
  obtain ⟨a0, b0', e0, f0⟩ := trod_pair (c0 := c0) (c1 := c1) g0
  obtain ⟨a1, b1, e1, f1⟩ := trod_pair (c0 := c2) (c1 := c3) g1
  obtain ⟨a2, b2, e2, f2⟩ := trod_pair (c0 := c4) (c1 := c5) g2
  subst e0 f0 e1 f1 e2 f2
  exact ⟨fun k => if k = 0 then a0 else if k = 1 then a1 else a2, fun k => if k = 0 then b0' else if k = 1 then b1 else b2, rfl⟩
end Go.Proofs.Ytbnlpidhbilenaa
