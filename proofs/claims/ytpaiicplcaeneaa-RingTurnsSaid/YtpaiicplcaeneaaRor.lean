/-
  RingOrder: what holds between two steps, and what each step makes of it. Conditions stand in each theorem.
-/
import Derived.Test.YtpaiicplcaeneaaUow
import Derived.Test.YtpaiicplcaeneaaRingRounds
namespace Go.Proofs.Ytpaiicplcaeneaa
open Go.RowKit Go.Deep Plain
set_option linter.unusedVariables false
set_option maxRecDepth 100000

/-- between two steps: ws is what was put, and what is being put -/
structure OrM (w wt : World) (gr gc gn N pu go : Nat) (vs : List Int) (P G : Option Nat) (p g : RSt) (pv gv : Option Nat) (A : Option Addr) (n c : Nat) (ws : List Int) : Prop where
  r : RgW w wt gr gc gn N pu go vs P G p g
  h1 : go ≤ pu
  h2 : pu ≤ go + N
  ow : wt.ownsRow w.heap.size 22 1 (.slice A n c) n (uC ws)
  wl : ws.length = n
  u64 : ∀ x ∈ ws, U64 x
  fi : Fif N go pu vs (fun k => ws.getD k 0)
  pn : pv = none → n = pu ∧ goB P p = false
  ps : ∀ a, pv = some a → n = pu + 1 ∧ P = some a ∧ p.td = false ∧ p.en = 0 ∧ p.v = ws.getD pu 0 ∧ (p.nx = 1 ∨ (p.nx = 2 ∧ pu - go < N) ∨ (p.nx = 3 ∧ pu - go < N ∧ vs.getD (pu % N) 0 = p.v))
  gn' : gv = none → goB G g = false
  gs : ∀ a, gv = some a → G = some a ∧ g.td = false ∧ g.en = 0 ∧ (g.nx = 4 ∨ (g.nx = 5 ∧ go < pu) ∨ (g.nx = 6 ∧ go < pu ∧ g.v = ws.getD go 0))
section
variable {w wt w' : World} {gr gc gn N pu go : Nat} {vs : List Int} {P G : Option Nat} {p g : RSt} {pv gv : Option Nat} {A A' : Option Addr} {n c c' : Nat} {ws : List Int} {v : Int} {a : Nat}
theorem OrM.nb (h : OrM w wt gr gc gn N pu go vs P G p g pv gv A n c ws) : pu ≤ n ∧ n ≤ pu + 1 := by
  cases hp : pv with
  | none => have := h.pn hp; omega
  | some a => have := h.ps a hp; omega
theorem getD_app (ws : List Int) (v : Int) (k : Nat) (hk : k < ws.length) : (ws ++ [v]).getD k 0 = ws.getD k 0 := by simp [List.getD, List.getElem?_append_left hk]
theorem getD_last (ws : List Int) (v : Int) : (ws ++ [v]).getD ws.length 0 = v := by simp [List.getD]
theorem getD_takeU (ws : List Int) (m k : Nat) (hk : k < m) : (ws.take m).getD k 0 = ws.getD k 0 := by simp [List.getD, List.getElem?_take_of_lt hk]
theorem Fif.mono {f f' : Nat → Int} (h : Fif N go pu vs f) (he : ∀ k, go ≤ k → k < pu → f k = f' k) : Fif N go pu vs f' := ⟨h.len, fun k h1 h2 => (h.at' k h1 h2).trans (he k h1 h2)⟩
/-- all is as it was, but for worlds -/
theorem OrM.world (h : OrM w wt gr gc gn N pu go vs P G p g pv gv A n c ws) (hr : RgW w w' gr gc gn N pu go vs P G p g) (ho : w'.ownsRow w.heap.size 22 1 (.slice A n c) n (uC ws)) : OrM w w' gr gc gn N pu go vs P G p g pv gv A n c ws :=
  ⟨hr, h.h1, h.h2, ho, h.wl, h.u64, h.fi, h.pn, h.ps, h.gn', h.gs⟩
theorem OrM.put (h : OrM w wt gr gc gn N pu go vs P G p g none gv A n c ws) (hr : RgW w w' gr gc gn N pu go vs (some a) G ⟨1, v, 0, false⟩ g) (hv : U64 v)
    (ho : w'.ownsRow w.heap.size 22 1 (.slice A' (n + 1) c') (n + 1) (uC (ws ++ [v]))) : OrM w w' gr gc gn N pu go vs (some a) G ⟨1, v, 0, false⟩ g (some a) gv A' (n + 1) c' (ws ++ [v]) := by
  obtain ⟨hn, _⟩ := h.pn rfl
  have hl := h.wl
  refine ⟨hr, h.h1, h.h2, ho, by simp [hl], fun x hx => ?_, h.fi.mono fun k h1 h2 => (getD_app ws v k (by omega)).symm, fun e => (by cases e), fun b hb => ?_, h.gn', fun b hb => ?_⟩
  · rcases List.mem_append.1 hx with hx | hx
    · exact h.u64 x hx
    · simp at hx; subst hx; exact hv
  · refine ⟨by omega, hb, rfl, rfl, ?_, Or.inl rfl⟩
    rw [show pu = ws.length by omega]
    exact (getD_last ws v).symm
  · obtain ⟨q1, q2, q3, q4⟩ := h.gs b hb
    refine ⟨q1, q2, q3, ?_⟩
    rcases q4 with q4 | q4 | ⟨q4, q5, q6⟩
    · exact Or.inl q4
    · exact Or.inr (Or.inl q4)
    · exact Or.inr (Or.inr ⟨q4, q5, by rw [getD_app ws v go (by omega)]; exact q6⟩)
theorem OrM.full (h : OrM w wt gr gc gn N pu go vs P G p g (some a) gv A n c ws) (p' : RSt) (hp : p'.nx = 0) (hr : RgW w w' gr gc gn N pu go vs P G p' g) (m : Nat) (hm : m = n - 1)
    (ho : w'.ownsRow w.heap.size 22 1 (.slice A m c) m (uC (ws.take m))) : OrM w w' gr gc gn N pu go vs P G p' g none gv A m c (ws.take m) := by
  obtain ⟨hn, hP, _⟩ := h.ps a rfl
  have hl := h.wl
  refine ⟨hr, h.h1, h.h2, ho, by rw [List.length_take]; omega, fun x hx => h.u64 x (List.mem_of_mem_take hx), h.fi.mono fun k h1 h2 => (getD_takeU ws m k (by omega)).symm, fun _ => ⟨by omega, ?_⟩, fun b hb => (by cases hb), h.gn', fun b hb => ?_⟩
  · unfold goB; rw [hp]; simp
  · obtain ⟨q1, q2, q3, q4⟩ := h.gs b hb
    refine ⟨q1, q2, q3, ?_⟩
    rcases q4 with q4 | q4 | ⟨q4, q5, q6⟩
    · exact Or.inl q4
    · exact Or.inr (Or.inl q4)
    · exact Or.inr (Or.inr ⟨q4, q5, by rw [getD_takeU ws m go (by omega)]; exact q6⟩)
theorem OrM.p12 (h : OrM w wt gr gc gn N pu go vs P G ⟨1, v, 0, false⟩ g (some a) gv A n c ws) (hN : pu - go < N) (hr : RgW w w' gr gc gn N pu go vs P G ⟨2, v, 0, false⟩ g)
    (ho : w'.ownsRow w.heap.size 22 1 (.slice A n c) n (uC ws)) : OrM w w' gr gc gn N pu go vs P G ⟨2, v, 0, false⟩ g (some a) gv A n c ws := by
  refine ⟨hr, h.h1, h.h2, ho, h.wl, h.u64, h.fi, fun e => (by cases e), fun b hb => ?_, h.gn', h.gs⟩
  obtain ⟨q1, q2, _, _, q5, _⟩ := h.ps b hb
  exact ⟨q1, q2, rfl, rfl, q5, Or.inr (Or.inl ⟨rfl, hN⟩)⟩
theorem OrM.p23 (h : OrM w wt gr gc gn N pu go vs P G ⟨2, v, 0, false⟩ g (some a) gv A n c ws) (hN : pu - go < N) (hr : RgW w w' gr gc gn N pu go (vs.set (pu % N) v) P G ⟨3, v, 0, false⟩ g)
    (ho : w'.ownsRow w.heap.size 22 1 (.slice A n c) n (uC ws)) : OrM w w' gr gc gn N pu go (vs.set (pu % N) v) P G ⟨3, v, 0, false⟩ g (some a) gv A n c ws := by
  obtain ⟨q1, q2, _, _, q5, _⟩ := h.ps a rfl
  have hpt := h.fi.put hN (pu + 1) rfl v q5
  refine ⟨hr, h.h1, h.h2, ho, h.wl, h.u64, ⟨hpt.len, fun k k1 k2 => hpt.at' k k1 (by omega)⟩, fun e => (by cases e), fun b hb => ?_, h.gn', h.gs⟩
  obtain ⟨q1, q2, _, _, q5, _⟩ := h.ps b hb
  exact ⟨q1, q2, rfl, rfl, q5, Or.inr (Or.inr ⟨rfl, hN, by rw [hpt.at' pu h.h1 (by omega)]; exact q5.symm⟩)⟩
theorem OrM.p30 (h : OrM w wt gr gc gn N pu go vs P G ⟨3, v, 0, false⟩ g (some a) gv A n c ws) (hN : pu - go < N) (hx : vs.getD (pu % N) 0 = v) (m : Nat) (hm : m = pu + 1) (hr : RgW w w' gr gc gn N m go vs P G ⟨0, v, 0, false⟩ g)
    (ho : w'.ownsRow w.heap.size 22 1 (.slice A n c) n (uC ws)) : OrM w w' gr gc gn N m go vs P G ⟨0, v, 0, false⟩ g none gv A n c ws := by
  obtain ⟨q1, q2, _, _, q5, _⟩ := h.ps a rfl
  have e1 := h.h1
  refine ⟨hr, by omega, by omega, ho, h.wl, h.u64, ⟨h.fi.len, fun k k1 k2 => ?_⟩, fun _ => ⟨by omega, ?_⟩, fun b hb => (by cases hb), h.gn', fun b hb => ?_⟩
  · by_cases hk : k = pu
    · subst hk; rw [hx]; exact q5
    · exact h.fi.at' k k1 (by omega)
  · unfold goB; simp
  · obtain ⟨q1, q2, q3, q4⟩ := h.gs b hb
    refine ⟨q1, q2, q3, ?_⟩
    rcases q4 with q4 | ⟨q4, q5⟩ | ⟨q4, q5, q6⟩
    · exact Or.inl q4
    · exact Or.inr (Or.inl ⟨q4, by omega⟩)
    · exact Or.inr (Or.inr ⟨q4, by omega, q6⟩)
theorem OrM.get (h : OrM w wt gr gc gn N pu go vs P G p g pv none A n c ws) (hr : RgW w w' gr gc gn N pu go vs P (some a) p ⟨4, 0, 0, false⟩)
    (ho : w'.ownsRow w.heap.size 22 1 (.slice A n c) n (uC ws)) : OrM w w' gr gc gn N pu go vs P (some a) p ⟨4, 0, 0, false⟩ pv (some a) A n c ws :=
  ⟨hr, h.h1, h.h2, ho, h.wl, h.u64, h.fi, h.pn, h.ps, fun e => (by cases e), fun b hb => ⟨hb, rfl, rfl, Or.inl rfl⟩⟩
theorem OrM.g40 (h : OrM w wt gr gc gn N pu go vs P G p g pv (some a) A n c ws) (g' : RSt) (hg : g'.nx = 0) (hr : RgW w w' gr gc gn N pu go vs P G p g')
    (ho : w'.ownsRow w.heap.size 22 1 (.slice A n c) n (uC ws)) : OrM w w' gr gc gn N pu go vs P G p g' pv none A n c ws :=
  ⟨hr, h.h1, h.h2, ho, h.wl, h.u64, h.fi, h.pn, h.ps, fun _ => (by unfold goB; rw [hg]; simp), fun b hb => by cases hb⟩
theorem OrM.g45 (h : OrM w wt gr gc gn N pu go vs P G p ⟨4, v, 0, false⟩ pv (some a) A n c ws) (hne : go < pu) (hr : RgW w w' gr gc gn N pu go vs P G p ⟨5, v, 0, false⟩)
    (ho : w'.ownsRow w.heap.size 22 1 (.slice A n c) n (uC ws)) : OrM w w' gr gc gn N pu go vs P G p ⟨5, v, 0, false⟩ pv (some a) A n c ws :=
  ⟨hr, h.h1, h.h2, ho, h.wl, h.u64, h.fi, h.pn, h.ps, fun e => (by cases e), fun b hb => ⟨(h.gs b hb).1, rfl, rfl, Or.inr (Or.inl ⟨rfl, hne⟩)⟩⟩
theorem OrM.g56 (h : OrM w wt gr gc gn N pu go vs P G p ⟨5, v, 0, false⟩ pv (some a) A n c ws) (hne : go < pu) (x : Int) (hx : vs.getD (go % N) 0 = x) (hr : RgW w w' gr gc gn N pu go vs P G p ⟨6, x, 0, false⟩)
    (ho : w'.ownsRow w.heap.size 22 1 (.slice A n c) n (uC ws)) : OrM w w' gr gc gn N pu go vs P G p ⟨6, x, 0, false⟩ pv (some a) A n c ws :=
  ⟨hr, h.h1, h.h2, ho, h.wl, h.u64, h.fi, h.pn, h.ps, fun e => (by cases e), fun b hb => ⟨(h.gs b hb).1, rfl, rfl, Or.inr (Or.inr ⟨rfl, hne, by rw [← hx]; exact h.fi.at' go (Nat.le_refl _) hne⟩)⟩⟩
theorem OrM.g60 (h : OrM w wt gr gc gn N pu go vs P G p ⟨6, v, 0, false⟩ pv (some a) A n c ws) (hne : go < pu) (m : Nat) (hm : m = go + 1) (hr : RgW w w' gr gc gn N pu m vs P G p ⟨0, v, 0, true⟩)
    (ho : w'.ownsRow w.heap.size 22 1 (.slice A n c) n (uC ws)) : OrM w w' gr gc gn N pu m vs P G p ⟨0, v, 0, true⟩ pv none A n c ws := by
  have e2 := h.h2
  refine ⟨hr, by omega, by omega, ho, h.wl, h.u64, h.fi.get m hm, h.pn, fun b hb => ?_, fun _ => (by unfold goB; simp), fun b hb => by cases hb⟩
  obtain ⟨q1, q2, q3, q4, q5, q6⟩ := h.ps b hb
  refine ⟨q1, q2, q3, q4, q5, ?_⟩
  rcases q6 with q6 | ⟨q6, q7⟩ | ⟨q6, q7, q8⟩
  · exact Or.inl q6
  · exact Or.inr (Or.inl ⟨q6, by omega⟩)
  · exact Or.inr (Or.inr ⟨q6, by omega, q8⟩)
end
/-- behind a step -/
def MidR (w : World) (gr gc gn N b : Nat) (s8 s9 s10 s11 s12 s13 s14 : Value) (wt : World) : Prop :=
  ∃ (pu go : Nat) (vs : List Int) (P G : Option Nat) (p g : RSt) (pv gv : Option Nat) (A : Option Addr) (n c : Nat) (ws : List Int) (full empty : Bool),
    s8 = ptO pv ∧ s9 = ptO gv ∧ s10 = .slice A n c ∧ s11 = .int .i64 go ∧ s12 = .int .i64 pu ∧ s13 = .bool full ∧ s14 = .bool empty ∧ pu ≤ b ∧ OrM w wt gr gc gn N pu go vs P G p g pv gv A n c ws
/-- ahead of a round -/
def HeadR (w : World) (gr gc gn N b : Nat) (s8 s9 s10 s11 s12 s13 s14 : Value) (wt : World) : Prop :=
  ∃ (pu go : Nat) (vs : List Int) (P G : Option Nat) (p g : RSt) (pv gv : Option Nat) (A : Option Addr) (n c : Nat) (ws : List Int) (full empty : Bool),
    s8 = ptO pv ∧ s9 = ptO gv ∧ s10 = .slice A n c ∧ s11 = .int .i64 go ∧ s12 = .int .i64 pu ∧ s13 = .bool full ∧ s14 = .bool empty ∧ pu ≤ b ∧ (pu - go = N → full = true) ∧ (gv.isSome = true → pu = go → empty = true) ∧ OrM w wt gr gc gn N pu go vs P G p g pv gv A n c ws
end Go.Proofs.Ytpaiicplcaeneaa
