/-
  PoolOwns: what its loops make of the owners, as plain lists. Conditions stand in each theorem.
-/
import Derived.Test.YtmbceafeonjffaaPs
namespace Go.Proofs.Ytmbceafeonjffaa
open Go.RowKit Plain
set_option linter.unusedVariables false
set_option linter.unusedSimpArgs false
/-- what is given back is nobody's: the first j of B -/
def goneI (own B A : List Int) : Nat → List Int
  | 0 => own
  | j + 1 => if B.getD j 0 ∈ A then goneI own B A j else (goneI own B A j).set (B.getD j 0).toNat 0
/-- what was told is v's: the first j of G -/
def gotI (own G : List Int) (v : Nat) : Nat → List Int
  | 0 => own
  | j + 1 => (gotI own G v j).set (G.getD j 0).toNat ((v : Int) + 1)
theorem goneI_len (own B A : List Int) (j : Nat) : (goneI own B A j).length = own.length := by
  induction j with
  | zero => rfl
  | succ j ih => unfold goneI; split <;> simp [ih]
theorem gotI_len (own G : List Int) (v j : Nat) : (gotI own G v j).length = own.length := by
  induction j with
  | zero => rfl
  | succ j ih => unfold gotI; simp [ih]
theorem mem_getD (B : List Int) (j : Nat) (hj : j < B.length) : B.getD j 0 ∈ B := by
  have e : B.getD j 0 = B[j] := by simp [List.getD, hj]
  rw [e]; exact List.getElem_mem hj
theorem mem_take_succ (B : List Int) (j : Nat) (hj : j < B.length) (x : Int) : x ∈ B.take (j + 1) ↔ x ∈ B.take j ∨ x = B.getD j 0 := by
  rw [List.take_add_one, List.getElem?_eq_getElem hj, List.mem_append]
  simp [List.getD, hj]
theorem goneI_at (own B A : List Int) (hB : ∀ x ∈ B, 0 ≤ x ∧ x < own.length) (j : Nat) (hj : j ≤ B.length) (y : Nat) : (goneI own B A j).getD y 0 = if (y : Int) ∈ B.take j ∧ (y : Int) ∉ A then 0 else own.getD y 0 := by
  induction j with
  | zero => simp [goneI]
  | succ j ih =>
    have ih := ih (by omega)
    have hm := mem_take_succ B j (by omega) y
    obtain ⟨b0, b1⟩ := hB _ (mem_getD B j (by omega))
    unfold goneI
    generalize B.getD j 0 = x at *
    by_cases hx : x ∈ A
    · rw [if_pos hx, ih]
      by_cases c : (y : Int) ∈ B.take j ∧ (y : Int) ∉ A
      · rw [if_pos c, if_pos ⟨hm.2 (.inl c.1), c.2⟩]
      · rw [if_neg c, if_neg (fun z => by
          rcases hm.1 z.1 with q | q
          · exact c ⟨q, z.2⟩
          · exact z.2 (by rw [q]; exact hx))]
    · rw [if_neg hx]
      by_cases e : (y : Int) = x
      · rw [if_pos ⟨hm.2 (.inr e), by rw [e]; exact hx⟩, ← e, Int.toNat_natCast, set_eq _ _ _ (by rw [goneI_len]; omega)]
      · rw [set_ne _ _ _ _ (by omega), ih]
        by_cases c : (y : Int) ∈ B.take j ∧ (y : Int) ∉ A
        · rw [if_pos c, if_pos ⟨hm.2 (.inl c.1), c.2⟩]
        · rw [if_neg c, if_neg (fun z => by
            rcases hm.1 z.1 with q | q
            · exact c ⟨q, z.2⟩
            · exact e q)]
theorem gotI_at (own G : List Int) (v : Nat) (hG : ∀ x ∈ G, 0 ≤ x ∧ x < own.length) (j : Nat) (hj : j ≤ G.length) (y : Nat) : (gotI own G v j).getD y 0 = if (y : Int) ∈ G.take j then (v : Int) + 1 else own.getD y 0 := by
  induction j with
  | zero => simp [gotI]
  | succ j ih =>
    have ih := ih (by omega)
    have hm := mem_take_succ G j (by omega) y
    obtain ⟨b0, b1⟩ := hG _ (mem_getD G j (by omega))
    unfold gotI
    by_cases e : (y : Int) = G.getD j 0
    · rw [if_pos (hm.2 (.inr e)), ← e, Int.toNat_natCast, set_eq _ _ _ (by rw [gotI_len]; omega)]
    · rw [set_ne _ _ _ _ (by omega), ih]
      by_cases c : (y : Int) ∈ G.take j
      · rw [if_pos c, if_pos (hm.2 (.inl c))]
      · rw [if_neg c, if_neg (fun z => (hm.1 z).elim c e)]
theorem gotI_next (own G : List Int) (v : Nat) (hG : ∀ x ∈ G, 0 ≤ x ∧ x < own.length) (hn : G.Nodup) (j : Nat) (hj : j < G.length) : (gotI own G v j).getD (G.getD j 0).toNat 0 = own.getD (G.getD j 0).toNat 0 := by
  obtain ⟨b0, b1⟩ := hG _ (mem_getD G j hj)
  have e1 : G.getD j 0 = G[j] := by simp [List.getD, hj]
  rw [gotI_at own G v hG j (by omega), if_neg]
  rw [Int.toNat_of_nonneg b0, e1]
  intro hm
  obtain ⟨i, hi, e⟩ := List.mem_take_iff_getElem.1 hm
  exact (List.pairwise_iff_getElem.1 hn) i j (by omega) hj (by omega) e
theorem numsF_nodup (k : Nat) (s : Int) : (numsF k s).Nodup := by
  unfold numsF numsI
  refine List.Pairwise.map _ (R := (· ≠ ·)) (fun a b hab => by omega) ?_
  exact (List.nodup_range).filter _
def zz (own : List Int) (x : Nat) : List Int := ((List.range x).filter fun y => own.getD y 0 == 0).map fun y : Nat => (y : Int)
theorem zz_succ (own : List Int) (x : Nat) : zz own (x + 1) = zz own x ++ if own.getD x 0 = 0 then [(x : Int)] else [] := by
  unfold zz
  rw [List.range_succ, List.filter_append, List.map_append]
  congr 1
  by_cases h : own.getD x 0 = 0
  · rw [if_pos h]; simp only [List.filter_cons, h]; simp
  · rw [if_neg h]
    have : (own.getD x 0 == 0) = false := by simpa using h
    simp only [List.filter_cons, this]; simp
theorem zz_pre (own : List Int) (x d : Nat) : ∃ R, zz own (x + d) = zz own x ++ R := by
  induction d with
  | zero => exact ⟨[], by simp⟩
  | succ d ih =>
    obtain ⟨R, e⟩ := ih
    exact ⟨R ++ if own.getD (x + d) 0 = 0 then [((x + d : Nat) : Int)] else [], by rw [← Nat.add_assoc, zz_succ, e, List.append_assoc]⟩
theorem zz_at (own : List Int) (k x : Nat) (hx : x < k) (h : own.getD x 0 = 0) : (zz own x).length < (zz own k).length ∧ (zz own k).getD (zz own x).length 0 = x := by
  obtain ⟨R, e⟩ := zz_pre own (x + 1) (k - (x + 1))
  rw [show x + 1 + (k - (x + 1)) = k by omega, zz_succ, if_pos h, List.append_assoc] at e
  rw [e]
  constructor
  · simp
  · simp [List.getD]
theorem zz_le (own : List Int) (x : Nat) : (zz own x).length ≤ x := by
  unfold zz
  rw [List.length_map]
  exact Nat.le_trans (List.length_filter_le _ _) (by simp)
theorem freeI_tkn (l : List Int) (hu : ∀ j, U64 (l.getD j 0)) (i : Nat) : freeI l i = ((List.range (32 * i)).filter fun y => !tkn l y).map fun y : Nat => (y : Int) := by
  induction i with
  | zero => simp [freeI]
  | succ i ih =>
    rw [freeI_succ, ih, show 32 * (i + 1) = 32 * i + 32 by omega, List.range_add, List.filter_append, List.map_append]
    congr 1
    unfold numsF numsI
    rw [List.filter_map, List.map_map]
    have e1 : (List.range 32).filter (fun j => (freeF (l.getD i 0)).toNat.testBit j) = (List.range 32).filter ((fun y => !tkn l y) ∘ fun x => 32 * i + x) := by
      refine List.filter_congr fun j hj => ?_
      have hj := List.mem_range.1 hj
      rw [free_bit _ (hu i).1 _ hj]
      simp only [Function.comp, tkn]
      rw [show (32 * i + j) / 32 = i by omega, show (32 * i + j) % 32 = j by omega]
    rw [e1]
    refine List.map_congr_left fun j _ => ?_
    simp only [Function.comp]
    omega
theorem free_zz {N k : Nat} {l own : List Int} {st : Nat → Option Ps} {bk : Nat → Bool} (h : OwP N k l own st bk) (hu : ∀ j, U64 (l.getD j 0)) (hk : k ≤ 32 * N) : freeL N l = zz own k := by
  unfold freeL
  rw [freeI_tkn l hu, show 32 * N = k + (32 * N - k) by omega, List.range_add, List.filter_append]
  have e1 : (List.range k).filter (fun y => !tkn l y) = (List.range k).filter (fun y => own.getD y 0 == 0) := by
    refine List.filter_congr fun j hj => ?_
    have hj := List.mem_range.1 hj
    have h1 := h.tk j (by omega)
    cases ht : tkn l j
    · rw [ht] at h1
      have : own.getD j 0 = 0 := Classical.byContradiction fun z => by have := h1.2 (.inr z); cases this
      simpa using this
    · rw [ht] at h1
      have : own.getD j 0 ≠ 0 := by rcases h1.1 rfl with z | z; omega; exact z
      simpa using this
  have e2 : ((List.range (32 * N - k)).map (k + ·)).filter (fun y => !tkn l y) = [] := by
    refine List.filter_eq_nil_iff.2 fun y hy => ?_
    obtain ⟨z, hz, rfl⟩ := List.mem_map.1 hy
    have hz := List.mem_range.1 hz
    have := (h.tk (k + z) (by omega)).2 (.inl (by omega))
    simp [this]
  rw [e1, e2, List.append_nil]
  rfl
end Go.Proofs.Ytmbceafeonjffaa
