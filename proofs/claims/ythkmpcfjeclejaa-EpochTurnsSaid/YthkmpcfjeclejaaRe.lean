/-
  The document's epochs (fanlightref07): the struct, pins, steps. Conditions stand in each theorem.
-/
import Derived.Test.YthkmpcfjeclejaaEpRow
namespace Go.Proofs.Ythkmpcfjeclejaa
open Go.RowKit Go.Deep Plain
set_option linter.unusedVariables false
set_option maxRecDepth 100000

theorem upE_upE {α : Type} (f : Nat → α) (i : Nat) (x y : α) : upE (upE f i x) i y = upE f i y := by
  funext j
  unfold upE
  split <;> rfl
theorem upE_id {α : Type} (f : Nat → α) (i : Nat) : upE f i (f i) = f := by
  funext j
  unfold upE
  split
  · rename_i e; rw [e]
  · rfl
/-- a step of the document's -/
structure Tv where
  on : Bool
  adv : Bool
  pl : Int
  seen : Int
def tz : Tv := ⟨false, false, 0, 0⟩
/-- the document's epochs of n workers, but what was given up -/
structure ReB (w : World) (gr gp gs gv n : Nat) (now : Int) (pins : List Int) (T : Nat → Tv) : Prop where
  st : Blk w gr 57 #[.int .i64 now, .slice (some ⟨gp, 0, none⟩) n n, .slice (some ⟨gs, 0, none⟩) n n, .slice (some ⟨gv, 0, none⟩) n n]
  pin : Row .i64 3 w gp pins
  len : pins.length = n
  sb : ∃ cs, Blk w gs 114 cs
  sc : ∀ i, i < n → w.cell? ⟨gs, i * 4, none⟩ = some (.bool (T i).on) ∧ w.cell? ⟨gs, i * 4 + 1, none⟩ = some (.bool (T i).adv) ∧ w.cell? ⟨gs, i * 4 + 2, none⟩ = some (.int .i64 (T i).pl) ∧ w.cell? ⟨gs, i * 4 + 3, none⟩ = some (.int .i64 (T i).seen)
  n1 : 1 ≤ n
  n2 : n ≤ 64
section
variable {w w' : World} {gr gp gs gv n : Nat} {now : Int} {pins : List Int} {T : Nat → Tv}
theorem ReB.ne (h : ReB w gr gp gs gv n now pins T) : gr ≠ gp ∧ gr ≠ gs ∧ gp ≠ gs := by
  obtain ⟨cs, hb⟩ := h.sb
  exact ⟨blk_types h.st h.pin (by decide), blk_types h.st hb (by decide), blk_types h.pin hb (by decide)⟩
theorem ReB.keep {bs : List Nat} (h : ReB w gr gp gs gv n now pins T) (hk : Keep bs w w') (h1 : gr ∉ bs) (h2 : gp ∉ bs) (h3 : gs ∉ bs) : ReB w' gr gp gs gv n now pins T := by
  obtain ⟨cs, hb⟩ := h.sb
  refine ⟨hk.blk h.st h1, hk.row h.pin h2, h.len, ⟨cs, hk.blk hb h3⟩, fun i hi => ?_, h.n1, h.n2⟩
  obtain ⟨a, b, c, d⟩ := h.sc i hi
  have lt := hb.lt
  exact ⟨(hk.cell (p := ⟨gs, i * 4, none⟩) lt h3).trans a, (hk.cell (p := ⟨gs, i * 4 + 1, none⟩) lt h3).trans b, (hk.cell (p := ⟨gs, i * 4 + 2, none⟩) lt h3).trans c, (hk.cell (p := ⟨gs, i * 4 + 3, none⟩) lt h3).trans d⟩
theorem ReB.below (h : ReB w gr gp gs gv n now pins T) (hb : Below w.heap.size w w') : ReB w' gr gp gs gv n now pins T := h.keep (Keep.of_below (bs := []) hb) (by simp) (by simp) (by simp)
theorem ReB.drewN (h : ReB w gr gp gs gv n now pins T) (q : Nat) : ReB (w.drewN q) gr gp gs gv n now pins T := h.below (bdrewN w q)
theorem ReB.free (h : ReB w gr gp gs gv n now pins T) (i : Nat) : w.frozen? ⟨gs, i, none⟩ = false := by obtain ⟨cs, hb⟩ := h.sb; exact hb.frozen i
/-- one cell of a step is written -/
theorem ReB.stepC (h : ReB w gr gp gs gv n now pins T) (k : Nat) (hk : k < n) (j : Nat) (hj : j < 4) (v : Value) (x : Tv)
    (h0 : j = 0 → v = .bool x.on) (h1 : j = 1 → v = .bool x.adv) (h2 : j = 2 → v = .int .i64 x.pl) (h3 : j = 3 → v = .int .i64 x.seen)
    (k0 : j ≠ 0 → x.on = (T k).on) (k1 : j ≠ 1 → x.adv = (T k).adv) (k2 : j ≠ 2 → x.pl = (T k).pl) (k3 : j ≠ 3 → x.seen = (T k).seen) :
    ReB (w.setCell ⟨gs, k * 4 + j, none⟩ v) gr gp gs gv n now pins (upE T k x) := by
  obtain ⟨cs, hb⟩ := h.sb
  obtain ⟨e1, e2, e3⟩ := h.ne
  refine ⟨h.st.ne (p := ⟨gs, k * 4 + j, none⟩) (Ne.symm e2) v, Row.ne h.pin (p := ⟨gs, k * 4 + j, none⟩) (Ne.symm e3) v, h.len, ⟨_, hb.set _ _⟩, fun i hi => ?_, h.n1, h.n2⟩
  obtain ⟨a, b, c, d⟩ := h.sc i hi
  by_cases e : i = k
  · subst e
    rw [upE_same]
    refine ⟨?_, ?_, ?_, ?_⟩
    · by_cases ej : j = 0
      · subst ej; rw [← h0 rfl]; exact World.cell?_setCell_same _ _ _ a
      · rw [World.cell?_setCell_other _ _ _ _ (by simp <;> omega), k0 ej]; exact a
    · by_cases ej : j = 1
      · subst ej; rw [← h1 rfl]; exact World.cell?_setCell_same _ _ _ b
      · rw [World.cell?_setCell_other _ _ _ _ (by simp <;> omega), k1 ej]; exact b
    · by_cases ej : j = 2
      · subst ej; rw [← h2 rfl]; exact World.cell?_setCell_same _ _ _ c
      · rw [World.cell?_setCell_other _ _ _ _ (by simp <;> omega), k2 ej]; exact c
    · by_cases ej : j = 3
      · subst ej; rw [← h3 rfl]; exact World.cell?_setCell_same _ _ _ d
      · rw [World.cell?_setCell_other _ _ _ _ (by simp <;> omega), k3 ej]; exact d
  · rw [upE_ne _ _ e]
    refine ⟨?_, ?_, ?_, ?_⟩ <;> (rw [World.cell?_setCell_other _ _ _ _ (by simp <;> omega)]; assumption)
theorem ReB.pinC (h : ReB w gr gp gs gv n now pins T) (k : Nat) (x : Int) : ReB (w.setCell ⟨gp, k, none⟩ (.int .i64 x)) gr gp gs gv n now (pins.set k x) T := by
  obtain ⟨cs, hb⟩ := h.sb
  obtain ⟨e1, e2, e3⟩ := h.ne
  refine ⟨h.st.ne (p := ⟨gp, k, none⟩) (Ne.symm e1) _, h.pin.set k x, by rw [List.length_set]; exact h.len, ⟨cs, hb.ne (p := ⟨gp, k, none⟩) e3 _⟩, fun i hi => ?_, h.n1, h.n2⟩
  obtain ⟨a, b, c, d⟩ := h.sc i hi
  refine ⟨?_, ?_, ?_, ?_⟩ <;> (rw [World.cell?_setCell_other _ _ _ _ (by simp <;> omega)]; assumption)
theorem ReB.nowC (h : ReB w gr gp gs gv n now pins T) (x : Int) : ReB (w.setCell ⟨gr, 0, none⟩ (.int .i64 x)) gr gp gs gv n x pins T := by
  obtain ⟨cs, hb⟩ := h.sb
  obtain ⟨e1, e2, e3⟩ := h.ne
  refine ⟨h.st.set 0 _, Row.ne h.pin (p := ⟨gr, 0, none⟩) e1 _, h.len, ⟨cs, hb.ne (p := ⟨gr, 0, none⟩) e2 _⟩, fun i hi => ?_, h.n1, h.n2⟩
  obtain ⟨a, b, c, d⟩ := h.sc i hi
  refine ⟨?_, ?_, ?_, ?_⟩ <;> (rw [World.cell?_setCell_other _ _ _ _ (by simp <;> omega)]; assumption)

theorem rBegin_any (h : ReB w gr gp gs gv n now pins T) (k : Nat) (hk : k < n) (adv : Bool) :
    Calls Try.prog 23 #[.pointer (some ⟨gr, 0, none⟩), .int .i64 k, .bool adv] w fun e w' => e = .returned (.bool true) ∧ ReB w' gr gp gs gv n now pins (upE T k ⟨true, adv, 0, 0⟩) ∧ Keep [gs] w w' := by
  have c2 : w.cell? ⟨gr, 2, none⟩ = some (.slice (some ⟨gs, 0, none⟩) n n) := h.st.cell 2
  obtain ⟨a, b, c, d⟩ := h.sc k hk
  have f0 := h.free (k * 4)
  have f1 := h.free (k * 4 + 1)
  have f2 := h.free (k * 4 + 2)
  have f3 := h.free (k * 4 + 3)
  have hn2 := h.n2
  have i0 : (k : Int) < (n : Int) := by omega
  have H := Lib.hid h
  clear h
  go_enter Try.func23, Try.ntmps23
  go_wp2
  go_ret
  refine ⟨rfl, ?_, ((((Keep.refl _ _).setCell (.inl (by simp)) _).setCell (.inl (by simp)) _).setCell (.inl (by simp)) _).setCell (.inl (by simp)) _⟩
  have q0 := H.out.stepC k hk 0 (by omega) (.bool true) ⟨true, (T k).adv, (T k).pl, (T k).seen⟩ (by simp) (by simp) (by simp) (by simp) (by simp) (by simp) (by simp) (by simp)
  have q1 := q0.stepC k hk 1 (by omega) (.bool adv) ⟨true, adv, (T k).pl, (T k).seen⟩ (by simp) (by simp) (by simp) (by simp) (by rw [upE_same]; simp) (by simp) (by rw [upE_same]; simp) (by rw [upE_same]; simp)
  have q2 := q1.stepC k hk 2 (by omega) (.int .i64 0) ⟨true, adv, 0, (T k).seen⟩ (by simp) (by simp) (by simp) (by simp) (by rw [upE_same]; simp) (by rw [upE_same]; simp) (by simp) (by rw [upE_same]; simp)
  have q3 := q2.stepC k hk 3 (by omega) (.int .i64 0) ⟨true, adv, 0, 0⟩ (by simp) (by simp) (by simp) (by simp) (by rw [upE_same]; simp) (by rw [upE_same]; simp) (by rw [upE_same]; simp) (by simp)
  rw [upE_upE, upE_upE, upE_upE] at q3
  exact q3
theorem rUnpin_any (h : ReB w gr gp gs gv n now pins T) (k : Nat) (hk : k < n) :
    Calls Try.prog 28 #[.pointer (some ⟨gr, 0, none⟩), .int .i64 k] w fun e w' => e = .returned (.tuple #[]) ∧ ReB w' gr gp gs gv n now (pins.set k 0) T ∧ Keep [gp] w w' := by
  have c1 : w.cell? ⟨gr, 1, none⟩ = some (.slice (some ⟨gp, 0, none⟩) n n) := h.st.cell 1
  have cp := h.pin.at (i := k) (by rw [h.len]; exact hk)
  have fp := h.pin.free k
  have hn2 := h.n2
  have i0 : (k : Int) < (n : Int) := by omega
  have H := Lib.hid h
  clear h
  go_enter Try.func28, Try.ntmps28
  go_wp2
  go_end0
  exact ⟨rfl, H.out.pinC k 0, (Keep.refl _ _).setCell (.inl (by simp)) _⟩
end
end Go.Proofs.Ythkmpcfjeclejaa
