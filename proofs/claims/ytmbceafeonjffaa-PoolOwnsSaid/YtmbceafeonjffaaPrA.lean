/-
  PoolNone: what each of its steps makes of what lies there. Conditions stand in each theorem.
-/
import Derived.Test.YtmbceafeonjffaaPr
namespace Go.Proofs.Ytmbceafeonjffaa
open Go.RowKit Go.Deep Plain
set_option linter.unusedVariables false
set_option linter.unusedSimpArgs false
set_option maxRecDepth 100000
theorem numsF_nil (k : Nat) (s : Int) (h0 : 0 ≤ s) (h1 : s < 4294967296) : (numsF k s).length = 0 ↔ s = 0 := by
  constructor
  · intro h
    refine Classical.byContradiction fun hn => ?_
    obtain ⟨i, hi, hb⟩ := nz_bit s h0 h1 hn
    have hm : ((k * 32 + i : Nat) : Int) ∈ numsF k s := (mem_numsF _ _ _).2 ⟨k * 32 + i, rfl, by omega, by rw [show (k * 32 + i) % 32 = i by omega]; exact hb⟩
    rw [List.length_eq_zero_iff.1 h] at hm
    simp at hm
  · intro h
    subst h
    rw [List.length_eq_zero_iff]
    refine List.eq_nil_iff_forall_not_mem.2 fun x hx => ?_
    obtain ⟨y, _, _, hb⟩ := (mem_numsF _ _ _).1 hx
    simp at hb
theorem freeI_zero (l : List Int) (i : Nat) : (freeI l i).length = 0 ↔ ∀ j, j < i → fulF (l.getD j 0) := by
  induction i with
  | zero => simp [freeI]
  | succ i ih =>
    have hf := freeF_rng (l.getD i 0)
    rw [freeI_succ, List.length_append]
    have h := numsF_nil i (freeF (l.getD i 0)) hf.1 (by omega)
    constructor
    · intro q j hj
      by_cases e : j = i
      · subst e; exact h.1 (by omega)
      · exact ih.1 (by omega) j (by omega)
    · intro q
      have := ih.2 fun j hj => q j (by omega)
      have := h.2 (q i (by omega))
      omega
theorem WfP.u64 {n : Nat} {l : List Int} {b : Int} (h : WfP n l b) (j : Nat) : U64 (l.getD j 0) := by
  by_cases hj : j < n
  · have := h.2 j hj; exact ⟨this.1, this.2.1⟩
  · have : l.getD j 0 = 0 := by simp [List.getD, List.getElem?_eq_none (show l.length ≤ j by have := h.1; omega)]
    rw [this]; unfold U64; omega
theorem WfP.mono {n : Nat} {l : List Int} {b c : Int} (h : WfP n l b) (hc : b ≤ c) : WfP n l c := ⟨h.1, fun j hj => by obtain ⟨q1, q2, q3⟩ := h.2 j hj; exact ⟨q1, q2, by omega⟩⟩
theorem OkS.ch {n : Nat} {l : List Int} {s : Ps} {b : Int} (h : OkS n s) (hw : WfP n l b) (hb : b ≤ 4294967294) : ChP n l (stpP n l s).1 := stp_ch hw hb (fun _ => h.wd) (fun e => by
  have := h.hd (h.gv (.inr e))
  exact ⟨this.1, by omega, this.2.2⟩)
theorem it_wf {n : Nat} {l : List Int} {s : Ps} {b : Int} (hw : WfP n l b) (ho : OkS n s) : ∀ k : Nat, b + k ≤ 4294967294 → WfP n (itP n l s k).1 (b + k) ∧ OkS n (itP n l s k).2
  | 0, _ => ⟨by simpa [itP] using hw, ho⟩
  | k + 1, hk => by
    obtain ⟨h1, h2⟩ := it_wf hw ho k (by omega)
    have hc := h2.ch h1 (by omega)
    refine ⟨?_, h2.step (fun j => h1.u64 j)⟩
    have := hc.wf h1
    rw [show b + (k : Int) + 1 = b + ((k + 1 : Nat) : Int) by omega] at this
    exact this
structure PnW (w0 w : World) (gp gc gn N : Nat) (size : Int) (l : List Int) (gt : Nat) (t : Ps) (s other : Sg) (b : Int) : Prop where
  po : PoS w gp gc gn N size l
  tt : StW w gt gc N t
  tb : w0.heap.size ≤ gt
  ss : SgW w w0.heap.size gc N s
  ot : SgW w w0.heap.size gc N other
  a1 : ∀ g u, s = some (g, u) → g ≠ gt
  a2 : ∀ g u, other = some (g, u) → g ≠ gt
  a3 : SgN s other
  wf : WfP N l b
  be : Below w0.heap.size w0 w
section
variable {w0 w w' : World} {gp gc gn N gt : Nat} {size : Int} {l : List Int} {t : Ps} {s other : Sg} {b : Int}
theorem PnW.below (h : PnW w0 w gp gc gn N size l gt t s other b) (hb : Below w.heap.size w w') : PnW w0 w' gp gc gn N size l gt t s other b :=
  ⟨h.po.below hb, h.tt.below hb, h.tb, h.ss.below hb, h.ot.below hb, h.a1, h.a2, h.a3, h.wf, below2 hb h.be⟩
theorem PnW.up (h : PnW w0 w gp gc gn N size l gt t s other b) {c : Int} (hc : b ≤ c) : PnW w0 w gp gc gn N size l gt t s other c :=
  ⟨h.po, h.tt, h.tb, h.ss, h.ot, h.a1, h.a2, h.a3, h.wf.mono hc, h.be⟩
theorem PnW.newOther {g : Nat} {u : Ps} (h : PnW w0 w gp gc gn N size l gt t s other b) (hb : Below w.heap.size w w') (hs : StW w' g gc N u) (hg : w.heap.size ≤ g) : PnW w0 w' gp gc gn N size l gt t s (some (g, u)) b :=
  ⟨h.po.below hb, h.tt.below hb, h.tb, h.ss.below hb, SgW.one hs (Nat.le_trans h.be.size hg), h.a1, fun _ _ e => by cases e; have := h.tt.lt; omega, fun a c d e e1 e2 => by
    cases e2
    have := h.ss.lt e1
    omega, h.wf, below2 hb h.be⟩
theorem PnW.dropOther (h : PnW w0 w gp gc gn N size l gt t s other b) : PnW w0 w gp gc gn N size l gt t s none b :=
  ⟨h.po, h.tt, h.tb, h.ss, SgW.nil _ _ _ _, h.a1, (fun _ _ e => (by cases e)), (fun _ _ _ _ _ e => (by cases e)), h.wf, h.be⟩
theorem PnW.newT {g : Nat} {u : Ps} (h : PnW w0 w gp gc gn N size l gt t s other b) (hb : Below w.heap.size w w') (hs : StW w' g gc N u) (hg : w.heap.size ≤ g) : PnW w0 w' gp gc gn N size l g u s other b :=
  ⟨h.po.below hb, hs, Nat.le_trans h.be.size hg, h.ss.below hb, h.ot.below hb, fun _ _ e => by have := h.ss.lt e; omega, fun _ _ e => by have := h.ot.lt e; omega, h.a3, h.wf, below2 hb h.be⟩
theorem PnW.dropS (h : PnW w0 w gp gc gn N size l gt t s other b) : PnW w0 w gp gc gn N size l gt t none other b :=
  ⟨h.po, h.tt, h.tb, SgW.nil _ _ _ _, h.ot, (fun _ _ e => (by cases e)), h.a2, (fun _ _ _ _ e _ => (by cases e)), h.wf, h.be⟩
theorem PnW.newS {g : Nat} {u : Ps} (h : PnW w0 w gp gc gn N size l gt t s other b) (hb : Below w.heap.size w w') (hs : StW w' g gc N u) (hg : w.heap.size ≤ g) : PnW w0 w' gp gc gn N size l gt t (some (g, u)) other b :=
  ⟨h.po.below hb, h.tt.below hb, h.tb, SgW.one hs (Nat.le_trans h.be.size hg), h.ot.below hb, fun _ _ e => by cases e; have := h.tt.lt; omega, h.a2, fun a c d e e1 e2 => by
    cases e1
    have := h.ot.lt e2
    omega, h.wf, below2 hb h.be⟩
/-- a Step of all is done: what the others are -/
theorem PnW.kept {g : Nat} {l2 : List Int} {c : Int} (h : PnW w0 w gp gc gn N size l gt t s other b) (hg : NoG w g) (hp : PoS w' gp gc gn N size l2) (hk : Keep [gn, g] w w') (hgn : w0.heap.size ≤ gn) (hg0 : w0.heap.size ≤ g) (hw : WfP N l2 c) :
    (gt ≠ g → StW w' gt gc N t) ∧ ((∀ a u, s = some (a, u) → a ≠ g) → SgW w' w0.heap.size gc N s) ∧ ((∀ a u, other = some (a, u) → a ≠ g) → SgW w' w0.heap.size gc N other) ∧ Below w0.heap.size w0 w' := by
  have hn : ∀ a ∈ [gn, g], NoG w a := fun a ha => by
    rcases List.mem_cons.1 ha with e | e
    · rw [e]; exact NoG.cl h.po.cl
    · rw [List.mem_singleton] at e; rw [e]; exact hg
  have hne : ∀ a u, StW w a gc N u → a ≠ g → a ∉ [gn, g] := fun a u hs q => by
    have q1 := hs.typ h.po.cl.nu (by decide)
    simp
    exact ⟨fun e => q1 e.symm, q⟩
  exact ⟨fun q => h.tt.keep hk (hne _ _ h.tt q) hn, fun q => h.ss.keep hk (fun a u e => hne _ _ (h.ss a u e).1 (q a u e)) hn, fun q => h.ot.keep hk (fun a u e => hne _ _ (h.ot a u e).1 (q a u e)) hn, hk.below h.be (Nat.le_refl _) (fun x hx => by simp at hx; omega)⟩
theorem PnW.doOther {g : Nat} {u : Ps} (h : PnW w0 w gp gc gn N size l gt t s (some (g, u)) b) (hb : b ≤ 4294967294) (hp : PoS w' gp gc gn N size (stpP N l u).1) (hs : StW w' g gc N (stpP N l u).2) (hk : Keep [gn, g] w w') (hgn : w0.heap.size ≤ gn) :
    PnW w0 w' gp gc gn N size (stpP N l u).1 gt t s (some (g, (stpP N l u).2)) (b + 1) ∧ ChP N l (stpP N l u).1 := by
  obtain ⟨hu, hg0⟩ := h.ot g u rfl
  have hc := hu.ok.ch h.wf hb
  have hw := hc.wf h.wf
  obtain ⟨k1, k2, k3, k4⟩ := h.kept hu.nog hp hk hgn hg0 hw
  exact ⟨⟨hp, k1 (fun e => h.a2 g u rfl e.symm), h.tb, k2 (fun a v e => h.a3 a v g u e rfl), SgW.one hs hg0, h.a1, fun a v e => by cases e; exact h.a2 g u rfl, fun a c d e e1 e2 => by cases e2; exact h.a3 a c g u e1 rfl, hw, k4⟩, hc⟩
theorem PnW.doT (h : PnW w0 w gp gc gn N size l gt t s other b) (hb : b ≤ 4294967294) (hp : PoS w' gp gc gn N size (stpP N l t).1) (hs : StW w' gt gc N (stpP N l t).2) (hk : Keep [gn, gt] w w') (hgn : w0.heap.size ≤ gn) :
    PnW w0 w' gp gc gn N size (stpP N l t).1 gt (stpP N l t).2 s other (b + 1) := by
  have hw := (h.tt.ok.ch h.wf hb).wf h.wf
  obtain ⟨k1, k2, k3, k4⟩ := h.kept h.tt.nog hp hk hgn h.tb hw
  exact ⟨hp, hs, h.tb, k2 h.a1, k3 h.a2, h.a1, h.a2, h.a3, hw, k4⟩
theorem PnW.doS {g : Nat} {u : Ps} (h : PnW w0 w gp gc gn N size l gt t (some (g, u)) other b) (hl : (stpP N l u).1 = l) (hp : PoS w' gp gc gn N size (stpP N l u).1) (hs : StW w' g gc N (stpP N l u).2) (hk : Keep [gn, g] w w') (hgn : w0.heap.size ≤ gn) :
    PnW w0 w' gp gc gn N size l gt t (some (g, (stpP N l u).2)) other b := by
  rw [hl] at hp
  obtain ⟨hu, hg0⟩ := h.ss g u rfl
  obtain ⟨k1, k2, k3, k4⟩ := h.kept hu.nog hp hk hgn hg0 h.wf
  exact ⟨hp, k1 (fun e => h.a1 g u rfl e.symm), h.tb, SgW.one hs hg0, k3 (fun a v e q => h.a3 g u a v rfl e q.symm), fun a v e => by cases e; exact h.a1 g u rfl, h.a2, fun a c d e e1 e2 => by cases e1; exact h.a3 g u d e rfl e2, h.wf, k4⟩
/-- a Step that is new is done to its end -/
theorem PnW.run {g : Nat} {u : Ps} {w1 : World} {e : Ending} (h : PnW w0 w gp gc gn N size l gt t s other b) (hb : b ≤ 4294960000) (hb1 : Below w.heap.size w w1) (hu : StW w1 g gc N u) (hg : w.heap.size ≤ g) (hgn : w0.heap.size ≤ gn) (hr : RunOk N gp gc gn g size l u w1 e w') :
    ∃ l2 q, e = .returned (.int .i64 q) ∧ PnW w0 w' gp gc gn N size l2 gt t s other (b + 299) := by
  obtain ⟨k, hk, hp, hs, hkp, _, hq⟩ := hr
  have h1 := h.below hb1
  have hw := (it_wf h.wf hu.ok k (by omega)).1
  have hw2 := hw.mono (c := b + 299) (by omega)
  obtain ⟨k1, k2, k3, k4⟩ := h1.kept hu.nog hp hkp hgn (Nat.le_trans h.be.size hg) hw2
  have hlt := h.tt.lt
  refine ⟨(itP N l u k).1, ?_⟩
  have hm : PnW w0 w' gp gc gn N size (itP N l u k).1 gt t s other (b + 299) := ⟨hp, k1 (by omega), h.tb, k2 (fun a v e => by have := h.ss.lt e; omega), k3 (fun a v e => by have := h.ot.lt e; omega), h.a1, h.a2, h.a3, hw2, k4⟩
  rcases hq with ⟨_, _, q⟩ | ⟨_, _, q⟩
  · exact ⟨_, q, hm⟩
  · exact ⟨_, q, hm⟩
end
end Go.Proofs.Ytmbceafeonjffaa
