/-
  Contract of head.Put where the packet can be. Conditions: the head's ttl and protocol are bytes, at most 1480 bytes are handed in.
-/
import Derived.Test.YtbnlpidhbilenaaPut
namespace Go.Proofs.Ytbnlpidhbilenaa
open Go.RowKit Plain
set_option linter.unusedVariables false
set_option maxRecDepth 100000

theorem put_list (t p s d : Int) (m : Nat) :
    P32 (P32 (((P16 (P16 ((List.replicate (20 + m) (0 : Int)).set 0 69) 2 (20 + (m : Int))) 6 16384).set 8 t).set 9 p) 12 s) 16 d = hb0 t p s d (20 + (m : Int)) ++ List.replicate m 0 := by
  have e : List.replicate (20 + m) (0 : Int) = [0, 0, 0, 0, 0, 0, 0, 0, 0, 0, 0, 0, 0, 0, 0, 0, 0, 0, 0, 0] ++ List.replicate m 0 := by
    rw [← List.replicate_append_replicate]; rfl
  rw [e, List.set_append_left _ _ (by decide), P16_app _ _ _ _ (by simp), P16_app _ _ _ _ (by simp [P16]), List.set_append_left _ _ (by simp [P16]), List.set_append_left _ _ (by simp [P16]), P32_app _ _ _ _ (by simp [P16]), P32_app _ _ _ _ (by simp [P16, P32])]
  rfl

theorem frm_len (t p s d : Int) (ys : List Int) : (frm t p s d ys).length = 20 + ys.length := by unfold frm; rw [List.length_append, hb1_len]

end Go.Proofs.Ytbnlpidhbilenaa
