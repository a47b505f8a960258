/-
  PoolBounds: what holds at its loop's head. Conditions stand in each theorem.
-/
import Derived.Test.YtmbceafeonjffaaPpK
import Derived.Deep.CutBlock
import Derived.Deep.DeepCutAuto
namespace Go.Proofs.Ytmbceafeonjffaa
open Go.RowKit Go.Deep Plain
set_option linter.unusedVariables false
set_option linter.unusedSimpArgs false
set_option maxRecDepth 100000
theorem sA8 : Sty 34 5 := ⟨⟨_, Try.underlying34, rfl⟩, by unfold Siz; kernel_rfl⟩
/-- a Step that may be none: where it lies, what it is -/
abbrev Sg := Option (Nat × Ps)
abbrev sgV (o : Sg) : Value := .pointer (o.map fun p => ⟨p.1, 0, none⟩)
/-- a Step that may be none lies there -/
def SgW (w : World) (B gc n : Nat) (o : Sg) : Prop := ∀ g s, o = some (g, s) → StW w g gc n s ∧ B ≤ g
theorem SgW.nil (w : World) (B gc n : Nat) : SgW w B gc n none := fun g s h => by cases h
theorem SgW.one {w : World} {B gc n g : Nat} {s : Ps} (h : StW w g gc n s) (hb : B ≤ g) : SgW w B gc n (some (g, s)) := fun g' s' e => by cases e; exact ⟨h, hb⟩
theorem SgW.below {w w' : World} {B gc n : Nat} {o : Sg} (h : SgW w B gc n o) (hb : Below w.heap.size w w') : SgW w' B gc n o := fun g s e => ⟨(h g s e).1.below hb, (h g s e).2⟩
theorem SgW.keep {w w' : World} {B gc n : Nat} {o : Sg} {bs : List Nat} (h : SgW w B gc n o) (hk : Keep bs w w') (h1 : ∀ g s, o = some (g, s) → g ∉ bs) (h2 : ∀ g ∈ bs, NoG w g) : SgW w' B gc n o := fun g s e => ⟨(h g s e).1.keep hk (h1 g s e) h2, (h g s e).2⟩
theorem SgW.lt {w : World} {B gc n g : Nat} {s : Ps} {o : Sg} (h : SgW w B gc n o) (e : o = some (g, s)) : g < w.heap.size := (h g s e).1.lt
/-- two Steps are apart -/
def SgN (o p : Sg) : Prop := ∀ g s h t, o = some (g, s) → p = some (h, t) → g ≠ h
/-- how far one's own Step is -/
def OwnI (N : Nat) (l : List Int) (o : Sg) (wh st ch : Nat) : Prop := ∀ g s, o = some (g, s) → (wh = 0 ∧ TkI N l s st ch) ∨ (wh = 1 ∧ BkI N l s st ch)
structure BdI (w0 w : World) (gp gc gn N : Nat) (size : Int) (l : List Int) (own other : Sg) (wh st ch i : Nat) : Prop where
  po : PoS w gp gc gn N size l
  ow : SgW w w0.heap.size gc N own
  ot : SgW w w0.heap.size gc N other
  ap : SgN own other
  iv : OwnI N l own wh st ch
  wh : wh ≤ 1
  st : st ≤ i
  ch : ch ≤ 32 * i
  be : Below w0.heap.size w0 w
/-- what holds of PoolBounds' slots at its loop's head -/
def BdR (w0 : World) (gp gc gn N len : Nat) (size : Int) (s6 s11 s12 s13 s14 s15 s16 : Value) (wr : World) : Prop :=
  ∃ l own other, ∃ wh st ch i : Nat, s6 = .bool false ∧ s11 = sgV own ∧ s12 = sgV other ∧ s13 = .int .i64 st ∧ s14 = .int .i64 ch ∧ s15 = .int .i64 wh ∧ s16 = .int .i64 i ∧ i ≤ len ∧ i ≤ 200 ∧ BdI w0 wr gp gc gn N size l own other wh st ch i
theorem diffs_le : ∀ (l m : List Int), diffs l m ≤ l.length
  | [], _ => by simp [diffs]
  | _ :: _, [] => by simp [diffs]
  | x :: l, y :: m => by
    have := diffs_le l m
    simp only [diffs, List.length_cons]
    split <;> omega
/-- how many words below j are others -/
def dfs (l m : List Int) (j : Nat) : Nat := diffs (l.take j) (m.take j)
theorem dfs_succ : ∀ (l m : List Int) (j : Nat), l.length = m.length → j < l.length → dfs l m (j + 1) = dfs l m j + if l.getD j 0 ≠ m.getD j 0 then 1 else 0
  | [], m, j, h, hj => absurd hj (by simp)
  | x :: l, [], j, h, hj => by simp at h
  | x :: l, y :: m, 0, h, hj => by simp [dfs, diffs, List.getD]
  | x :: l, y :: m, j + 1, h, hj => by
    have e := dfs_succ l m j (by simpa using h) (by simpa using hj)
    have e1 : ∀ q, dfs (x :: l) (y :: m) (q + 1) = (if x ≠ y then 1 else 0) + dfs l m q := fun q => rfl
    rw [e1 (j + 1), e1 j, e]
    simp only [List.getD_cons_succ]
    omega
theorem dfs_all (l m : List Int) (h : l.length = m.length) : dfs l m l.length = diffs l m := by
  unfold dfs
  rw [List.take_length, h, List.take_length]
theorem tkI_start {n wd mo : Nat} {l : List Int} (h1 : wd < n) : TkI n l ⟨1, wd, n, mo, List.replicate 32 0, 0, false, false, []⟩ 0 0 :=
  ⟨by show 1 ≤ n; omega, Nat.le_refl _, h1, 0, .inl ⟨rfl, by show 0 = n - n + 2 * 0; omega, Nat.le_refl _⟩⟩
theorem bkI_start {n : Nat} {l : List Int} (h1 : 1 ≤ n) : BkI n l (backP [(0, 1)]) 0 0 :=
  ⟨(0, 1), rfl, h1, 0, .inl ⟨rfl, rfl, Nat.le_refl _⟩⟩
theorem stp_len (n : Nat) (l : List Int) (s : Ps) : (stpP n l s).1.length = l.length := by
  unfold stpP
  split
  · simp only; split
    · rfl
    · split <;> rfl
  · simp only; split
    · simp
    · rfl
  · split
    · rfl
    · split <;> rfl
  · simp only; split <;> rfl
  · simp only; split
    · simp
    · rfl
  · rfl
end Go.Proofs.Ytmbceafeonjffaa
