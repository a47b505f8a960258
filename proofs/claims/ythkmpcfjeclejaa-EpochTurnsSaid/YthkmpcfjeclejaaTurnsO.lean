/-
  EpochTurns: the walk with its rounds; what came in. Conditions stand in each theorem.
-/
import Derived.Test.YthkmpcfjeclejaaTurnsB
import Derived.Test.YthkmpcfjeclejaaStructs
namespace Go.Proofs.Ythkmpcfjeclejaa
open Go.ChangeShapes Go.WideShapes Go.ChangeAt Go.RowKit Go.Deep Plain
set_option linter.unusedVariables false
set_option maxRecDepth 1000000

theorem open_acts7 {H : Type} {enc : TypeId × Value → H} {W : World} {a : Option Addr} {len cap : Nat} {d : DataW H} {p : List MemPlace} (h : DataW.Trod enc Try.prog W 0 (fun _ => true) true 22 (.slice a len cap) d p) :
    ∃ V, len ≤ len ∧ len ≤ cap ∧ cap ≤ maxLen ∧ RdS act7 W a len V := by
  obtain ⟨h1, h2, V, h3⟩ := open_structs act7 Try.underlying22 Try.underlying45 (by kernel_rfl) rfl (by kernel_rfl) (by decide) (fun j f hj => by
    match j, hj with
    | 0, hj => injection hj with hj; subst hj; exact ⟨_, rfl, Try.underlying3⟩
    | 1, hj => injection hj with hj; subst hj; exact ⟨_, rfl, Try.underlying3⟩
    | n + 2, hj => simp at hj) h
  exact ⟨V, Nat.le_refl _, h1, h2, h3⟩
theorem epochTurns_all (n0 : Int) (A : Option Addr) (nr c : Nat) (V : Nat → Nat → Value) (w : World) (hn0 : -9223372036854775808 ≤ n0) (hn1 : n0 ≤ 9223372036854775807) (hnc : nr ≤ c) (hm : c ≤ maxLen) (hR : RdS act7 w A nr V) :
    Calls Try.prog 3 #[.int .i64 n0, .slice A nr c] w fun e w' => e = .returned (.bool true) ∧ Below w.heap.size w w' :=
  epochTurns_walk n0 A nr c V w hn0 hn1 hnc hm hR (by
    intro ge gc gn gg gl gr gp gs gv gz gq n c0 c2 c3 c5 c6 c9 c29 c30 c31 c32 c33 c34 c35 c36 c37 c38 c39 c40 c41 c42 c43 c44 c45 c46 c47 c48 c49 c50 c51 c52 c53 c54 c55 c56 c57 c58 c59 c60 c61 c62 c63 c64 c65 c66 c67 c68 c69 c70 c71 c72 c73 c74 c75 c76 c77 c78 c79 c80 c81 c82 c83 c84 c85 c86 c87 c88 c89 c90 c91 c92 c93 c94 c95 c96 c97 c98 c99 c100 c101 c102 c103 c370 c371 hb
    exact turns_body w ge gc gn gg gl gr gp gs gv gz gq n nr c A c0 c2 c3 c5 c6 c9 c29 c30 c31 c32 c33 c34 c35 c36 c37 c38 c39 c40 c41 c42 c43 c44 c45 c46 c47 c48 c49 c50 c51 c52 c53 c54 c55 c56 c57 c58 c59 c60 c61 c62 c63 c64 c65 c66 c67 c68 c69 c70 c71 c72 c73 c74 c75 c76 c77 c78 c79 c80 c81 c82 c83 c84 c85 c86 c87 c88 c89 c90 c91 c92 c93 c94 c95 c96 c97 c98 c99 c100 c101 c102 c103 c370 c371 V hnc (by unfold maxLen at hm; omega) hR hb)
end Go.Proofs.Ythkmpcfjeclejaa
