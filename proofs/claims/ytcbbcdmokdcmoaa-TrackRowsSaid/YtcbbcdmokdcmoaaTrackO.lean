/-
  A Segment that came in by value, and rows of them, opened. Conditions stand in each theorem.
-/
import Derived.Test.YtcbbcdmokdcmoaaWrap
import Derived.Test.YtcbbcdmokdcmoaaStructs
import Derived.Lib.SmallJoins
namespace Go.Proofs.Ytcbbcdmokdcmoaa
open Go.ChangeShapes Go.WideShapes Go.ChangeAt Go.RowKit Plain
set_option linter.unusedVariables false
set_option maxRecDepth 100000

theorem open_seg {H : Type} {enc : TypeId × Value → H} {W : World} {r : Reach} {b0 : Nat} {v : Value} {d : DataW H} {p : List MemPlace}
    (hv : Value.okWide Try.prog W r b0 23 v) (h : DataW.Trod enc Try.prog W 0 (fun _ => true) true 23 v d p) :
    ∃ (o : Bool) (f : Int), v = .agg #[.bool o, .int .i64 f] := by
  obtain ⟨cs, rfl, hsz⟩ := okWide_struct Try.underlying23 hv
  have hC : Try.prog.cellsOf 23 = 2 := by kernel_rfl
  have ci : Try.prog.cellsOf 3 = 1 := by kernel_rfl
  have cb : Try.prog.cellsOf 4 = 1 := by kernel_rfl
  obtain ⟨l⟩ := cs
  match l, hsz.trans hC with
  | [c0, c1], _ =>
    obtain ⟨fuel, hf⟩ := h
    obtain ⟨xs, n, _, hx, _, hlen, hg⟩ := DataW.trod_struct Try.underlying23 hf
    match xs, hlen with
    | [y0, y1], _ =>
      have g0 : DataW.trod enc Try.prog W 0 (fun _ => true) true n 4 [c0] = some y0 := by simpa [Value.cells, cb] using hg 0 _ rfl
      have g1 : DataW.trod enc Try.prog W 0 (fun _ => true) true n 3 [c1] = some y1 := by simpa [Value.cells, ci] using hg 1 _ rfl
      obtain ⟨a0, e0, _⟩ := DataW.trod_bool Try.underlying4 g0
      obtain ⟨a1, e1, _, w1⟩ := DataW.trod_int Try.underlying3 g1
      simp at e0 e1
      subst e0 e1
      exact ⟨a0, a1, rfl⟩

def segK : List FK := [.bol, .num .i64]
theorem open_segs {H : Type} {enc : TypeId × Value → H} {W : World} {a : Option Addr} {len cap : Nat} {d : DataW H} {p : List MemPlace} (h : DataW.Trod enc Try.prog W 0 (fun _ => true) true 32 (.slice a len cap) d p) :
    ∃ V, len ≤ len ∧ len ≤ cap ∧ cap ≤ maxLen ∧ RdS segK W a len V := by
  obtain ⟨h1, h2, V, h3⟩ := open_structs segK Try.underlying32 Try.underlying23 (by kernel_rfl) rfl (by kernel_rfl) (by decide) (fun j f hj => by
    match j, hj with
    | 0, hj => injection hj with hj; subst hj; exact ⟨_, rfl, Try.underlying4⟩
    | 1, hj => injection hj with hj; subst hj; exact ⟨_, rfl, Try.underlying3⟩
    | n + 2, hj => simp at hj) h
  exact ⟨V, Nat.le_refl _, h1, h2, h3⟩
end Go.Proofs.Ytcbbcdmokdcmoaa
