/-
  HistoryNotes: an event of a row is read, and another one put in its place, at steps of a region that draws. Conditions stand in each theorem.
-/
import Derived.Test.YtbnlpidhbilenaaGF
import Derived.Test.YtbnlpidhbilenaaGC
import Derived.Test.YtbnlpidhbilenaaHt
namespace Go.Proofs.Ytbnlpidhbilenaa
open Go.RowKit Go.Deep Plain
set_option linter.unusedVariables false
set_option linter.unusedSimpArgs false
set_option maxRecDepth 100000
theorem step_ldc {w : World} {ops : Array Oper} {o : Oper} {a : Act} {K : Act → World → Prop} {Q : Exit → Act → World → Prop} {E : Prop} (hgd : o.guard = none) (ty : TypeId) (x : Operand) (ho : o.op = .load ty x)
    (p : Addr) (hx : a.eval x = .pointer (some p)) (cs : List Value) (h : At w p cs) (hs : Sty ty cs.length) (hK : K (a.put o.dst (.agg cs.toArray)) w) :
    if Region.wanted o (yielded ops a.tmps) = true then Oper.wp Try.prog o a w K Q else E := by
  have hw : Region.wanted o (yielded ops a.tmps) = true := by simp [Region.wanted, hgd]
  rw [if_pos hw]
  unfold Oper.wp execOp
  simp only [ho, hx, Instr.loadAt, Instr.sureAddr, Sem.run_bind, Sem.run_pure, Result.andThen_ok, run_loadVar_at w p ty cs hs h]
  exact hK
theorem take_put (C y : List Value) (a N : Nat) (h : a + y.length ≤ N) (hN : N ≤ C.length) : (C.take a ++ y ++ C.drop (a + y.length)).take N = (C.take N).take a ++ y ++ (C.take N).drop (a + y.length) := by
  have e1 : (C.take a).length = a := by rw [List.length_take]; omega
  rw [List.take_take, Nat.min_eq_left (by omega), List.append_assoc, List.append_assoc, List.take_append, List.take_append, e1, List.take_take, Nat.min_eq_right (by omega), List.take_of_length_le (l := y) (by omega), List.drop_take]
  rw [show N - a - y.length = N - (a + y.length) by omega]
theorem step_st_ev {w : World} {base g n c q : Nat} {ls : List En} {ops : Array Oper} {o : Oper} {a : Act} {K : Act → World → Prop} {Q : Exit → Act → World → Prop} {E : Prop} (hgd : o.guard = none) (x y : Operand) (ho : o.op = .store 47 x y)
    (hx : a.eval x = .pointer (some ⟨g, q * 11, none⟩)) (z : En) (hy : a.eval y = .agg z.cs.toArray) (hO : w.ownsRow base 47 11 (.slice (some ⟨g, 0, none⟩) n c) n (enC ls)) (hl : ls.length = n) (hq : q < n)
    (h : ∀ w', w'.ownsRow base 47 11 (.slice (some ⟨g, 0, none⟩) n c) n (enC (ls.set q z)) → Keep [g] w w' → K (a.put o.dst undef) w') :
    if Region.wanted o (yielded ops a.tmps) = true then Oper.wp Try.prog o a w K Q else E := by
  rcases hO.2 with ⟨e, _⟩ | ⟨g', cap, cur, hv, hb, hh, hnc, hcm, hcs, htk⟩
  · cases e
  · injection hv with e1 _ e3
    injection e1 with e1
    injection e1 with e1
    subst e1 e3
    refine step_st hgd 47 x y ho g (q * 11) hx (.agg z.cs.toArray) hy (show Blk w g 47 cur from hh) sEv.2 _ rfl ?_ (by simp [Value.cells, En.cs, Value.oneCell']) ?_
    · show q * 11 + 11 ≤ cur.size
      have : q * 11 + 11 ≤ n * 11 := by omega
      have : n * 11 ≤ c * 11 := by omega
      omega
    · intro w' hb' hg' hs'
      refine h w' ⟨by rw [enC_len, List.length_set, hl], .inr ⟨g, c, _, rfl, hb, hb', hnc, hcm, ?_, ?_⟩⟩ (Keep.of_grown hg' (by simp))
      · have : q * 11 + 11 ≤ c * 11 := by omega
        simp [Value.cells, En.cs]
        omega
      · rw [← enC_put ls q z (by omega), ← htk]
        have h1 : n * 11 ≤ cur.toList.length := by rw [Array.length_toList, hcs]; omega
        exact take_put cur.toList z.cs (q * 11) (n * 11) (by show q * 11 + 11 ≤ n * 11; omega) h1
theorem own_at_ev {w : World} {base g n c : Nat} {ls : List En} (h : w.ownsRow base 47 11 (.slice (some ⟨g, 0, none⟩) n c) n (enC ls)) (hl : ls.length = n) (i : Nat) (hi : i < n) : At w ⟨g, i * 11, none⟩ (ls.getD i en0).cs := by
  intro j v hv
  have hj : j < 11 := (List.getElem?_eq_some_iff.1 hv).1
  have e : (⟨g, i * 11, none⟩ : Addr).add j = ⟨g, i * 11 + j, none⟩ := addr_add _ _ _
  rw [e, h.cellAt (i * 11 + j) (by omega), enC_at ls i j (by omega) hj, hv]
theorem own_some_ev {w : World} {base n c : Nat} {A : Option Addr} {ls : List En} (h : w.ownsRow base 47 11 (.slice A n c) n (enC ls)) (h0 : 0 < n) : ∃ g, A = some ⟨g, 0, none⟩ := by
  rcases h.2 with ⟨_, e⟩ | ⟨g, cap, cur, e, _⟩
  · omega
  · injection e with e
    exact ⟨g, e⟩
end Go.Proofs.Ytbnlpidhbilenaa
