/-
  PoolBounds: what each of its steps makes of what holds. Conditions stand in each theorem.
-/
import Derived.Test.YtmbceafeonjffaaPq
namespace Go.Proofs.Ytmbceafeonjffaa
open Go.RowKit Go.Deep Plain
set_option linter.unusedVariables false
set_option linter.unusedSimpArgs false
set_option maxRecDepth 100000
section
variable {w0 w w' : World} {gp gc gn N : Nat} {size : Int} {l : List Int} {own other : Sg} {wh st ch i : Nat}
theorem BdI.below (h : BdI w0 w gp gc gn N size l own other wh st ch i) (hb : Below w.heap.size w w') : BdI w0 w' gp gc gn N size l own other wh st ch i :=
  ⟨h.po.below hb, h.ow.below hb, h.ot.below hb, h.ap, h.iv, h.wh, h.st, h.ch, below2 hb h.be⟩
theorem BdI.next (h : BdI w0 w gp gc gn N size l own other wh st ch i) : BdI w0 w gp gc gn N size l own other wh st ch (i + 1) :=
  ⟨h.po, h.ow, h.ot, h.ap, h.iv, h.wh, Nat.le_succ_of_le h.st, by have := h.ch; omega, h.be⟩
theorem BdI.newOther {g : Nat} {s : Ps} (h : BdI w0 w gp gc gn N size l own none wh st ch i) (hb : Below w.heap.size w w') (hs : StW w' g gc N s) (hg : w.heap.size ≤ g) : BdI w0 w' gp gc gn N size l own (some (g, s)) wh st ch i :=
  ⟨h.po.below hb, h.ow.below hb, SgW.one hs (Nat.le_trans h.be.size hg), fun a b c d e1 e2 => by
    cases e2
    have := h.ow.lt e1
    omega, h.iv, h.wh, h.st, h.ch, below2 hb h.be⟩
/-- a new Step in place of one that was just begun -/
theorem BdI.insteadOther {g g2 : Nat} {s s2 : Ps} (h : BdI w0 w gp gc gn N size l own (some (g, s)) wh st ch i) (hb : Below w.heap.size w w') (hs : StW w' g2 gc N s2) (hg : w.heap.size ≤ g2) : BdI w0 w' gp gc gn N size l own (some (g2, s2)) wh st ch i :=
  BdI.newOther (w := w) ⟨h.po, h.ow, SgW.nil _ _ _ _, (fun _ _ _ _ _ e => (by cases e)), h.iv, h.wh, h.st, h.ch, h.be⟩ hb hs hg
theorem BdI.dropOther (h : BdI w0 w gp gc gn N size l own other wh st ch i) : BdI w0 w gp gc gn N size l own none wh st ch i :=
  ⟨h.po, h.ow, SgW.nil _ _ _ _, (fun _ _ _ _ _ e => (by cases e)), h.iv, h.wh, h.st, h.ch, h.be⟩
theorem BdI.doOther {g : Nat} {s : Ps} (h : BdI w0 w gp gc gn N size l own (some (g, s)) wh st ch i) (hn : N ≤ 32) (h1 : PoS w' gp gc gn N size (stpP N l s).1) (h2 : StW w' g gc N (stpP N l s).2) (hk : Keep [gn, g] w w') (hgn : w0.heap.size ≤ gn) :
    BdI w0 w' gp gc gn N size (stpP N l s).1 own (some (g, (stpP N l s).2)) wh st (ch + diffs l (stpP N l s).1) (i + 1) := by
  obtain ⟨hs, hg⟩ := h.ot g s rfl
  have hll := h.po.cl.len
  have hd := diffs_le l (stpP N l s).1
  refine ⟨h1, h.ow.keep hk (fun a b e => ?_) (fun a ha => ?_), SgW.one h2 hg, fun a b c d e1 e2 => ?_, fun a b e => ?_, h.wh, Nat.le_succ_of_le h.st, by have := h.ch; omega, hk.below h.be (Nat.le_refl _) (fun x hx => by simp at hx; omega)⟩
  · have q1 := (h.ow a b e).1.typ h.po.cl.nu (by decide)
    have q2 := h.ap a b g s e rfl
    simp
    exact ⟨fun q => q1 q.symm, q2⟩
  · rcases List.mem_cons.1 ha with e | e
    · rw [e]; exact NoG.cl h.po.cl
    · rw [List.mem_singleton] at e; rw [e]; exact hs.nog
  · cases e2
    exact h.ap a b g s e1 rfl
  · rcases h.iv a b e with ⟨q1, q2⟩ | ⟨q1, q2⟩
    · exact .inl ⟨q1, q2.other (stp_len _ _ _).symm⟩
    · exact .inr ⟨q1, q2.other (stp_len _ _ _).symm⟩
theorem BdI.newOwn {g wh' : Nat} {s : Ps} (h : BdI w0 w gp gc gn N size l none other wh st ch i) (hb : Below w.heap.size w w') (hs : StW w' g gc N s) (hg : w.heap.size ≤ g) (hw : wh' ≤ 1) (hi : (wh' = 0 ∧ TkI N l s 0 0) ∨ (wh' = 1 ∧ BkI N l s 0 0)) : BdI w0 w' gp gc gn N size l (some (g, s)) other wh' 0 0 i :=
  ⟨h.po.below hb, SgW.one hs (Nat.le_trans h.be.size hg), h.ot.below hb, fun a b c d e1 e2 => by
    cases e1
    have := h.ot.lt e2
    omega, fun a b e => by cases e; exact hi, hw, Nat.zero_le _, Nat.zero_le _, below2 hb h.be⟩
/-- one's own step: how many there may be, and what holds then -/
theorem BdI.doOwn {g : Nat} {s : Ps} (h : BdI w0 w gp gc gn N size l (some (g, s)) other wh st ch i) (hn : N ≤ 32) (h1 : PoS w' gp gc gn N size (stpP N l s).1) (h2 : StW w' g gc N (stpP N l s).2) (hk : Keep [gn, g] w w') (hgn : w0.heap.size ≤ gn) :
    ((wh = 0 → st + 1 ≤ N + 1 + 2 * ch) ∧ (wh = 1 → st + 1 ≤ 2 + 2 * ch)) ∧
    ((stpP N l s).2.nx ≠ 0 → BdI w0 w' gp gc gn N size (stpP N l s).1 (some (g, (stpP N l s).2)) other wh (st + 1) ch (i + 1)) ∧
    BdI w0 w' gp gc gn N size (stpP N l s).1 none other wh (st + 1) ch (i + 1) := by
  obtain ⟨hs, hg⟩ := h.ow g s rfl
  have hrd : s.rd.length = 32 := by obtain ⟨⟨gv, q, _⟩, _⟩ := hs; exact q.len
  have hot : SgW w' w0.heap.size gc N other := h.ot.keep hk (fun a b e => by
    have q1 := (h.ot a b e).1.typ h.po.cl.nu (by decide)
    have q2 := h.ap g s a b rfl e
    simp
    exact ⟨fun q => q1 q.symm, fun q => q2 q.symm⟩) (fun a ha => by
    rcases List.mem_cons.1 ha with e | e
    · rw [e]; exact NoG.cl h.po.cl
    · rw [List.mem_singleton] at e; rw [e]; exact hs.nog)
  have hbe : Below w0.heap.size w0 w' := hk.below h.be (Nat.le_refl _) (fun x hx => by simp at hx; omega)
  have hst := h.st
  have hch := h.ch
  refine ⟨?_, fun hnx => ⟨h1, SgW.one h2 hg, hot, fun a b c d e1 e2 => ?_, fun a b e => ?_, h.wh, by omega, by omega, hbe⟩, ⟨h1, SgW.nil _ _ _ _, hot, (fun _ _ _ _ e _ => (by cases e)), (fun _ _ e => (by cases e)), h.wh, by omega, by omega, hbe⟩⟩
  · rcases h.iv g s rfl with ⟨q1, q2⟩ | ⟨q1, q2⟩
    · exact ⟨fun _ => (q2.step hrd hn).1, fun q => by omega⟩
    · exact ⟨fun q => by omega, fun _ => (q2.step hrd hn).1⟩
  · cases e1
    exact h.ap g s c d rfl e2
  · cases e
    rcases h.iv g s rfl with ⟨q1, q2⟩ | ⟨q1, q2⟩
    · rcases (q2.step hrd hn).2 with q3 | q3
      · exact absurd q3 hnx
      · exact .inl ⟨q1, q3⟩
    · rcases (q2.step hrd hn).2 with q3 | q3
      · exact absurd q3 hnx
      · exact .inr ⟨q1, q3⟩
end
/-- where two rows lie, and how far the count of others is -/
def DfR (wa : World) (g1 g2 n ch : Nat) (l m : List Int) (s14 s20 : Value) (wr : World) : Prop := ∃ j : Nat, j ≤ n ∧ s20 = .int .i64 j ∧ s14 = .int .i64 ((ch + dfs l m j : Nat) : Int) ∧ wa = wr
end Go.Proofs.Ytmbceafeonjffaa
