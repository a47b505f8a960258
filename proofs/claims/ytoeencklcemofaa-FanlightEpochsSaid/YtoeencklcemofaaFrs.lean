/-
  A frame by types: blocks of all types but these are as they were (as the end of Rg, without the document's epochs). Conditions stand in each theorem.
-/
import Derived.Test.YtoeencklcemofaaEpL
namespace Go.Proofs.Ytoeencklcemofaa
open Go.RowKit Go.Deep Plain
set_option linter.unusedVariables false
set_option maxRecDepth 100000

/-- blocks of all types but these are as they were -/
def Fr (T : List TypeId) (w w' : World) : Prop := w.heap.size ≤ w'.heap.size ∧ ∀ b t cs, Blk w b t cs → t ∉ T → Blk w' b t cs
theorem Fr.of_keep {T : List TypeId} {bs : List Nat} {w w' : World} (hk : Keep bs w w') (h : ∀ b ∈ bs, ∃ t cs, Blk w b t cs ∧ t ∈ T) : Fr T w w' :=
  ⟨hk.size, fun b t cs hb ht => hk.blk hb fun hx => by
    obtain ⟨t', cs', hb', ht'⟩ := h b hx
    by_cases e : t = t'
    · subst e; exact ht ht'
    · exact blk_types hb hb' e rfl⟩
theorem Fr.below {T : List TypeId} {w w' : World} (hb : Below w.heap.size w w') : Fr T w w' := Fr.of_keep (bs := []) (Keep.of_below hb) (by simp)
theorem Fr.trans {T : List TypeId} {w w' w'' : World} (h : Fr T w w') (k : Fr T w' w'') : Fr T w w'' := ⟨Nat.le_trans h.1 k.1, fun b t cs hb ht => k.2 b t cs (h.2 b t cs hb ht) ht⟩
theorem Fr.cell {T : List TypeId} {w w' : World} (f : Fr T w w') {b i : Nat} {t : TypeId} {v : Value} (hb : ∃ cs, Blk w b t cs) (ht : t ∉ T) (hc : w.cell? ⟨b, i, none⟩ = some v) : w'.cell? ⟨b, i, none⟩ = some v := by
  obtain ⟨cs, hb⟩ := hb
  rw [hb.cell] at hc
  rw [(f.2 b t cs hb ht).cell]
  exact hc
theorem Fr.own {T : List TypeId} {w w' : World} (f : Fr T w w') {base size n : Nat} {e : TypeId} {v : Value} {xs : List Value} (h : w.ownsRow base e size v n xs) (ht : e ∉ T) : w'.ownsRow base e size v n xs := by
  refine ⟨h.1, ?_⟩
  rcases h.2 with q | ⟨g, cap, cur, q, hb, hg, r⟩
  · exact .inl q
  · exact .inr ⟨g, cap, cur, q, hb, f.2 g e cur hg ht, r⟩
section
variable {L : List TypeId} {w w' : World}
theorem EpB.fr {ge gc gn gg n : Nat} {l : List Int} (h : EpB w ge gc gn gg n l) (f : Fr L w w') (h1 : 117 ∉ L) (h2 : 135 ∉ L) (h3 : 138 ∉ L) : EpB w' ge gc gn gg n l :=
  ⟨f.2 _ _ _ h.es h1, ⟨h.cl.len, f.2 _ _ _ h.cl.st h2, f.2 _ _ _ h.cl.nu h3, h.cl.ne, h.cl.rg⟩, h.n1, h.n2, h.ne⟩
theorem Sts.fr {gl gc n : Nat} {P : Nat → Option Nat} {S : Nat → Sv} (h : Sts w gl gc n P S) (f : Fr L w w') (h1 : 83 ∉ L) (h2 : 120 ∉ L) : Sts w' gl gc n P S := by
  have hb := h.bl
  obtain ⟨cs, hb'⟩ := h.bl
  exact ⟨⟨cs, f.2 _ _ _ hb' h1⟩, fun i hi => f.cell hb h1 (h.cell i hi), fun i g hi hp => f.2 _ _ _ (h.st i g hi hp) h2, h.inj⟩
theorem Gs.fr {base gg n : Nat} {G : Nat → List (Int × Int)} (h : Gs w base gg n G) (f : Fr L w w') (h1 : 140 ∉ L) (h2 : 142 ∉ L) : Gs w' base gg n G := by
  obtain ⟨V, h⟩ := h
  have hb := h.bl
  obtain ⟨cs, hb'⟩ := h.bl
  exact ⟨V, h.hb, ⟨cs, f.2 _ _ _ hb' h1⟩, fun i hi => f.cell hb h1 (h.cell i hi), fun i hi => f.own (h.own i hi) h2, h.ap⟩
/-- what each call changes -/
theorem fr_do {ge gc gn gg n gs : Nat} {l : List Int} {s : Sv} (h : EpB w ge gc gn gg n l) (hs : StV w gs gc s) (hk : Keep [gn, gs] w w') : Fr [138, 120] w w' :=
  Fr.of_keep hk fun b hb => by
    simp only [List.mem_cons, List.not_mem_nil, or_false] at hb
    rcases hb with rfl | rfl
    · exact ⟨_, _, h.cl.nu, by simp⟩
    · exact ⟨_, _, hs, by simp⟩
theorem fr_unpin {ge gc gn gg n : Nat} {l : List Int} (h : EpB w ge gc gn gg n l) (hk : Keep [gn] w w') : Fr [138] w w' :=
  Fr.of_keep hk fun b hb => by
    simp only [List.mem_cons, List.not_mem_nil, or_false] at hb
    subst hb
    exact ⟨_, _, h.cl.nu, by simp⟩
theorem fr_give {base gg : Nat} (hg : ∃ cs, Blk w gg 140 cs) (hk : KeepG base gg w w') : Fr [140, 142] w w' := by
  obtain ⟨bs, hk, ha⟩ := hk
  obtain ⟨cs, hg⟩ := hg
  refine Fr.of_keep hk fun b hb => ?_
  rcases ha b hb with rfl | ⟨_, ds, e⟩
  · exact ⟨_, _, hg, by simp⟩
  · exact ⟨_, _, e, by simp⟩
theorem fr_set {w : World} {gl : Nat} {t : TypeId} (hb : ∃ cs, Blk w gl t cs) (i : Nat) (v : Value) : Fr [t] w (w.setCell ⟨gl, i, none⟩ v) := by
  obtain ⟨cs, hb⟩ := hb
  refine Fr.of_keep (bs := [gl]) ((Keep.refl _ _).setCell (.inl (by simp)) v) fun b hx => ?_
  obtain rfl : b = gl := by simpa using hx
  exact ⟨_, _, hb, by simp⟩
end
end Go.Proofs.Ytoeencklcemofaa
