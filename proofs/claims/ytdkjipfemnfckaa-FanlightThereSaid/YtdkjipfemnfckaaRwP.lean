/-
  What a frame carries that is got, in four cases; what rewriting makes of a frame, as a list. Conditions stand in each theorem.
-/
import Derived.Test.YtdkjipfemnfckaaGF
import Derived.Test.YtdkjipfemnfckaaRw4
namespace Go.Proofs.Ytdkjipfemnfckaa
open Go.RowKit Plain
set_option linter.unusedVariables false
set_option maxRecDepth 100000

theorem pg_cases (zs : List Int) (hg : Got zs) (h : pgE (fld zs) zs = 0) :
    ((fld zs).proto = 17 ∧ udE (fld zs).src (fld zs).dst (bod zs) = 0 ∧ pgP (fld zs) zs = udP (fld zs).src (fld zs).dst (bod zs)) ∨
    ((fld zs).proto = 6 ∧ tcE (fld zs).src (fld zs).dst (bod zs) = 0 ∧ pgP (fld zs) zs = tcP (fld zs).src (fld zs).dst (bod zs)) ∨
    ((fld zs).proto = 1 ∧ icE (bod zs) = 0 ∧ ((bod zs).getD 0 0 = 0 ∨ (bod zs).getD 0 0 = 8) ∧ pgP (fld zs) zs = ⟨1, G16 (bod zs) 4, G16 (bod zs) 4, 0, (bod zs).getD 0 0, (bod zs).getD 1 0, false, hd0, 0, false⟩) ∨
    ((fld zs).proto = 1 ∧ icE (bod zs) = 0 ∧ ((bod zs).getD 0 0 = 3 ∨ (bod zs).getD 0 0 = 11 ∨ (bod zs).getD 0 0 = 12) ∧ erE ((bod zs).drop 8) = 0 ∧
      pgP (fld zs) zs = erP ⟨1, 0, 0, 0, (bod zs).getD 0 0, (bod zs).getD 1 0, false, hd0, (fld zs).size + 8, false⟩ ((bod zs).drop 8)) := by
  obtain ⟨⟨s0, s1⟩, ⟨l0, l1, l2⟩, _⟩ := hg
  have hc : ¬ ((fld zs).size < 20 ∨ 60 < (fld zs).size ∨ (fld zs).len < (fld zs).size ∨ (zs.length : Int) < (fld zs).len) := by omega
  unfold pgE at h
  rw [if_neg hc] at h
  have hp : pgP (fld zs) zs = if (fld zs).proto = 17 then udP (fld zs).src (fld zs).dst (bod zs) else if (fld zs).proto = 6 then tcP (fld zs).src (fld zs).dst (bod zs) else if (fld zs).proto = 1 then icP (fld zs).size (bod zs) else pt0 := by
    unfold pgP
    rw [if_neg hc]
    rfl
  by_cases e1 : (fld zs).proto = 17
  · rw [if_pos e1] at h hp
    exact Or.inl ⟨e1, h, hp⟩
  rw [if_neg e1] at h hp
  by_cases e2 : (fld zs).proto = 6
  · rw [if_pos e2] at h hp
    exact Or.inr (Or.inl ⟨e2, h, hp⟩)
  rw [if_neg e2] at h hp
  by_cases e3 : (fld zs).proto = 1
  · rw [if_pos e3] at h hp
    have hi : icE (bod zs) = 0 := h
    unfold icP at hp
    rw [if_pos hi] at hp
    by_cases e4 : (bod zs).getD 0 0 = 0 ∨ (bod zs).getD 0 0 = 8
    · rw [if_pos e4] at hp
      exact Or.inr (Or.inr (Or.inl ⟨e3, hi, e4, hp⟩))
    · rw [if_neg e4] at hp
      have hi2 := hi
      unfold icE at hi2
      split at hi2
      · omega
      split at hi2
      · omega
      try rw [if_neg e4] at hi2
      split at hi2
      · rename_i e5
        exact Or.inr (Or.inr (Or.inr ⟨e3, hi, e5, hi2, hp⟩))
      · omega
  · rw [if_neg e3] at h
    omega
theorem icE_len (b : List Int) (h : icE b = 0) : 8 ≤ b.length := by
  unfold icE at h
  split at h
  · omega
  · omega
theorem udE_len (s d : Int) (b : List Int) (h : udE s d b = 0) : 8 ≤ b.length := by
  unfold udE at h
  split at h
  · omega
  · omega
theorem tcE_len (s d : Int) (b : List Int) (h : tcE s d b = 0) : 20 ≤ b.length := by
  unfold tcE at h
  split at h
  · omega
  · omega
/-- the error that rewriting tells, and the frame -/
def rwE (zs : List Int) : Int := if gtE zs ≠ 0 then gtE zs else pgE (fld zs) zs
def rwL (zs : List Int) (e : Nat) (A P : Int) : List Int :=
  if (pgP (fld zs) zs).er = true then erR (zs.take (fld zs).len.toNat) (fld zs).size.toNat (pgP (fld zs) zs).pos.toNat (pgP (fld zs) zs).inn.size.toNat (pgP (fld zs) zs).inn.len.toNat (pgP (fld zs) zs).inn.proto e A P
  else pkR (zs.take (fld zs).len.toNat) 0 (fld zs).len.toNat (fld zs).size.toNat (fld zs).proto e A P
/-- what a call of rewriting needs to know -/
theorem pg_fact (zs : List Int) (hby : By zs) (hg : Got zs) (h : pgE (fld zs) zs = 0) :
    ((pgP (fld zs) zs).er = false ∧ (fld zs).size + 8 ≤ (fld zs).len) ∨
    ((pgP (fld zs) zs).er = true ∧ (pgP (fld zs) zs).pos = (fld zs).size + 8 ∧ (20 ≤ (pgP (fld zs) zs).inn.size ∧ (pgP (fld zs) zs).inn.size ≤ 60) ∧ (pgP (fld zs) zs).inn.size + 8 ≤ (pgP (fld zs) zs).inn.len ∧ (pgP (fld zs) zs).inn.len ≤ 65535 ∧ (fld zs).size + 8 + (pgP (fld zs) zs).inn.size + 8 ≤ (fld zs).len) := by
  have hl := bod_len zs hg
  rcases pg_cases zs hg h with ⟨_, h1, h2⟩ | ⟨_, h1, h2⟩ | ⟨_, h1, _, h2⟩ | ⟨_, h1, _, h3, h2⟩
  · have := udE_len _ _ _ h1
    refine Or.inl ⟨?_, by omega⟩
    rw [h2]; unfold udP; rw [if_pos h1]
  · have := tcE_len _ _ _ h1
    refine Or.inl ⟨?_, by omega⟩
    rw [h2]; unfold tcP; rw [if_pos h1]
  · have := icE_len _ h1
    refine Or.inl ⟨?_, by omega⟩
    rw [h2]
  · have := icE_len _ h1
    have hbi : By ((bod zs).drop 8) := (bod_by hby).drop 8
    have gi := gotI_of _ hbi h3
    have hr := (fld_range hbi).2.2.2.2
    have hx : (pgP (fld zs) zs).er = true ∧ (pgP (fld zs) zs).pos = (fld zs).size + 8 ∧ (pgP (fld zs) zs).inn = fld ((bod zs).drop 8) := by
      rw [h2]
      unfold erP
      rw [if_pos h3, gi.hd]
      split <;> exact ⟨rfl, rfl, rfl⟩
    have hdl : ((bod zs).drop 8).length = (bod zs).length - 8 := List.length_drop
    obtain ⟨x1, x2, x3⟩ := hx
    rw [x3]
    have g1 := gi.sz
    have g2 := gi.ln
    exact Or.inr ⟨x1, x2, g1, g2.1, hr.2, by omega⟩
/-- copy into a row of one's own that is full, out of as many bytes or more -/
theorem wpList_cpy0 {w : World} {ops : Array Oper} {rest : List Oper} {o : Oper} {a : Act} {Q : Exit → Act → World → Prop} (hgd : o.guard = none) (d s : Operand)
    (ho : o.op = .call { callee := .builtin .copy, args := #[d, s], argTypes := #[24, 24] })
    (base g n : Nat) (zs ys : List Int) (hown : Own w base (some ⟨g, 0, none⟩) n n zs) (sp : Option Addr) (m sCap : Nat) (hd : a.eval d = .slice (some ⟨g, 0, none⟩) n n) (hs : a.eval s = .slice sp m sCap)
    (hR : Rd w sp ys) (hm : ys.length = m) (hnm : n ≤ m) (B : Nat) (w0 : World) (hb : Below B w0 w) (hBg : B ≤ g)
    (h : ∀ w', Own w' base (some ⟨g, 0, none⟩) n n (ys.take n) → Below B w0 w' → wpList Try.prog ops Q rest (a.put o.dst (goInt n)) w') :
    wpList Try.prog ops Q (o :: rest) a w := by
  rcases hown.row.2 with ⟨e, _⟩ | ⟨g', cap, cur, e, hbg, hg, hnc, hcm, hcs, ht⟩
  · cases e
  injection e with e1 e2 e3
  injection e1 with e1
  injection e1 with e1
  subst e1 e3
  have hcur : cur = (zs.map (Value.int .u8)).toArray := by
    rw [← ht, List.take_of_length_le (by rw [Array.length_toList, hcs]; omega)]
  have hzl : (zs.map (Value.int .u8)).length = n := by rw [List.length_map]; exact hown.len
  have hyl : ((ys.take n).map (Value.int .u8)).length = n := by rw [List.length_map, List.length_take, hm]; omega
  refine wpList_copy_splice hgd d s 24 24 ho 5 Try.underlying24 (by kernel_rfl) (some ⟨g, 0, none⟩) sp n n m sCap hd hs g 0 (zs.map (Value.int .u8)) 5 (by rw [hg, hcur]) ((ys.take n).map (Value.int .u8))
    (by rw [hyl]; exact (Nat.min_eq_right hnm).symm) ?_ (by rw [hyl, hzl]; omega) (by intro v hv; obtain ⟨x, _, rfl⟩ := List.mem_map.1 hv; rfl) B w0 hb hBg ?_
  · intro hpos
    rw [hyl] at hpos
    obtain ⟨b, off, rfl, hc⟩ := hR.2 (by omega)
    refine ⟨rfl, ⟨b, off, none⟩, rfl, fun j v hv => ?_⟩
    have hj : j < n := by
      rcases Nat.lt_or_ge j n with h | h
      · exact h
      · rw [List.getElem?_eq_none (by rw [hyl]; exact h)] at hv; cases hv
    have hadd : (⟨b, off, none⟩ : Addr).add j = ⟨b, off + j, none⟩ := by unfold Addr.add; split <;> simp_all
    rw [hadd, hc j (by omega), ← hv]
    have hjy : j < ys.length := by omega
    simp [hj, hjy, List.getD]
  · intro w' hw' hb'
    rw [hyl]
    have hsp : splice (zs.map (Value.int .u8)) 0 ((ys.take n).map (Value.int .u8)) = (ys.take n).map (Value.int .u8) := by
      unfold splice
      rw [hyl, List.drop_of_length_le (by omega)]
      simp
    have hl : (ys.take n).length = n := by rw [List.length_take, hm]; omega
    have hw'' : w'.heap[g]? = some (.cells (splice (zs.map (Value.int .u8)) 0 ((ys.take n).map (Value.int .u8))).toArray 5 (0, 0)) := hw'
    rw [hsp] at hw''
    refine h w' ⟨hl, hR.1.take n, by rw [List.length_map, hl]; omega, .inr ⟨g, n, _, rfl, hbg, hw'', hnc, hcm, by rw [List.size_toArray, List.length_map, hl, Nat.mul_one], ?_⟩⟩ hb'
    rw [List.take_of_length_le (by rw [List.length_map, hl]; omega)]
end Go.Proofs.Ytdkjipfemnfckaa
