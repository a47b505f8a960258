/-
  What follows when a frame is got: how long its head is, what it carries. Conditions stand in each theorem.
-/
import Derived.Test.YtbnlpidhbilenaaPGet
import Derived.Test.YtbnlpidhbilenaaHeads
namespace Go.Proofs.Ytbnlpidhbilenaa
open Go.RowKit Plain
set_option linter.unusedVariables false
set_option maxRecDepth 100000

/-- a frame's head was got -/
structure Got (zs : List Int) : Prop where
  sz : 20 ≤ (fld zs).size ∧ (fld zs).size ≤ 60
  ln : (fld zs).size ≤ (fld zs).len ∧ (fld zs).len ≤ 1500 ∧ (fld zs).len ≤ zs.length
  hd : gtH zs = fld zs
  v4 : zs.getD 0 0 / 16 = 4
  sm : Cs (zs.take (fld zs).size.toNat) = 0
  fr : G16 zs 6 % 16384 = 0
theorem got_of (zs : List Int) (hby : By zs) (h : gtE zs = 0) : Got zs := by
  have h' := h
  unfold gtE at h
  split at h
  · rename_i hh; exact absurd h hh
  rename_i a
  split at h
  · omega
  rename_i b
  split at h
  · omega
  rename_i c
  split at h
  · omega
  rename_i d
  have a' : rdE zs 1500 = 0 := by omega
  obtain ⟨r1, r2, r3, r4, r5, r6⟩ := rdE_zero zs 1500 a'
  have hb0 := hby.getD 0
  refine ⟨⟨r3, ?_⟩, ⟨r5, r6, by omega⟩, by unfold gtH; rw [if_pos h'], r2, by omega, by omega⟩
  unfold fld
  simp only
  omega
theorem got_to (zs : List Int) (h : Got zs) : gtE zs = 0 := by
  obtain ⟨⟨s0, s1⟩, ⟨l0, l1, l2⟩, _, v4, sm, fr⟩ := h
  have h1 : rdE zs 1500 = 0 := by
    unfold rdE
    rw [if_neg (by omega), if_neg (by omega), if_neg (by omega), if_neg (by omega), if_neg (by omega), if_neg (by omega)]
  unfold gtE
  rw [if_neg (by omega), if_neg (by omega), if_neg (by omega), if_neg (by omega)]
theorem fld_range {zs : List Int} (h : By zs) : (0 ≤ (fld zs).ttl ∧ (fld zs).ttl ≤ 255) ∧ (0 ≤ (fld zs).proto ∧ (fld zs).proto ≤ 255) ∧ (0 ≤ (fld zs).src ∧ (fld zs).src ≤ 4294967295) ∧ (0 ≤ (fld zs).dst ∧ (fld zs).dst ≤ 4294967295) ∧ (0 ≤ (fld zs).len ∧ (fld zs).len ≤ 65535) := by
  have h1 := h.getD 8
  have h2 := h.getD 9
  have h3 := G32_range zs h 12
  have h4 := G32_range zs h 16
  have h5 := G16_range zs h 2
  unfold fld
  exact ⟨h1, h2, h3, h4, h5⟩
/-- what a got frame carries: the bytes behind its head -/
def bod (zs : List Int) : List Int := bodyOf (fld zs) zs
theorem bod_len (zs : List Int) (h : Got zs) : ((bod zs).length : Int) = (fld zs).len - (fld zs).size := by
  obtain ⟨⟨s0, s1⟩, ⟨l0, l1, l2⟩, _⟩ := h
  unfold bod bodyOf
  rw [List.length_take, List.length_drop]
  omega
theorem bod_by {zs : List Int} (h : By zs) : By (bod zs) := (h.drop _).take _
/-- an error that is got: its inner packet -/
structure GotI (zi : List Int) : Prop where
  sz : 20 ≤ (fld zi).size ∧ (fld zi).size ≤ 60
  ln : (fld zi).size + 8 ≤ (fld zi).len ∧ (fld zi).size + 8 ≤ zi.length
  hd : ptH zi = fld zi
  v4 : zi.getD 0 0 / 16 = 4
  fr : G16 zi 6 % 16384 = 0
  pr : (fld zi).proto = 17 ∨ (fld zi).proto = 6 ∨ ((fld zi).proto = 1 ∧ ((erC zi).getD 0 0 = 0 ∨ (erC zi).getD 0 0 = 8))
theorem gotI_of (zi : List Int) (hby : By zi) (h : erE zi = 0) : GotI zi := by
  unfold erE at h
  split at h
  · rename_i hh; exact absurd h hh
  rename_i a
  have a' : ptE zi = 0 := by omega
  obtain ⟨hr, hp⟩ := ptE_zero zi a'
  obtain ⟨r1, r2, r3, r4, r5, r6⟩ := rdE_zero zi 65535 hr
  have hb0 := hby.getD 0
  have hfr : G16 zi 6 % 16384 = 0 := by
    unfold ptE at a'
    rw [if_neg (by omega)] at a'
    split at a'
    · omega
    · omega
  rw [hp] at h
  split at h
  · omega
  rename_i b
  have hs : (fld zi).size ≤ 60 := by unfold fld; simp only; omega
  refine ⟨⟨r3, hs⟩, ⟨by omega, by omega⟩, hp, r2, hfr, ?_⟩
  split at h
  · rename_i c; omega
  · split at h
    · rename_i c d; exact Or.inr (Or.inr d)
    · omega
theorem gotI_to (zi : List Int) (hby : By zi) (h : GotI zi) : erE zi = 0 := by
  obtain ⟨⟨s0, s1⟩, ⟨l0, l1⟩, hp, v4, fr, pr⟩ := h
  have hl := (fld_range hby).2.2.2.2
  have h1 : rdE zi 65535 = 0 := by
    unfold rdE
    rw [if_neg (by omega), if_neg (by omega), if_neg (by omega), if_neg (by omega), if_neg (by omega), if_neg (by omega)]
  have h2 : ptE zi = 0 := by
    unfold ptE
    rw [if_neg (by omega), if_neg (by omega)]
  unfold erE
  rw [if_neg (by omega), hp, if_neg (by omega)]
  split
  · rfl
  · rename_i c
    rw [if_pos (by
      rcases pr with h | h | h
      · exact absurd (Or.inl h) c
      · exact absurd (Or.inr h) c
      · exact h)]
theorem gotI_hd (zi : List Int) (hby : By zi) (h : GotI zi) : ptH zi = fld zi := h.hd
end Go.Proofs.Ytbnlpidhbilenaa
