/-
  Package pool: what is to be given back, by words: plain lists. Conditions stand in each theorem.
-/
import Derived.Test.YtmbceafeonjffaaPpD
import Derived.Test.YtmbceafeonjffaaPoO
namespace Go.Proofs.Ytmbceafeonjffaa
open Go.RowKit Plain
set_option linter.unusedVariables false
set_option linter.unusedSimpArgs false
/-- one number more: the words in order, the sets of all words -/
def gstep (size : Int) (st : List Int × List Int) (x : Int) : List Int × List Int :=
  if 0 ≤ x ∧ x < size then (if st.2.getD (x / 32).toNat 0 = 0 then st.1 ++ [x / 32] else st.1, st.2.set (x / 32).toNat ((st.2.getD (x / 32).toNat 0).toNat ||| 2 ^ (x % 32).toNat : Nat)) else st
def gstI (size : Int) (zs : List Int) (i : Nat) : List Int × List Int := (zs.take i).foldl (gstep size) ([], List.replicate 32 0)
def giftsF (size : Int) (zs : List Int) : List (Nat × Int) := (gstI size zs zs.length).1.map fun k => (k.toNat, (gstI size zs zs.length).2.getD k.toNat 0)
theorem gstI_succ (size : Int) (zs : List Int) (i : Nat) (hi : i < zs.length) : gstI size zs (i + 1) = gstep size (gstI size zs i) (zs.getD i 0) := by
  unfold gstI
  rw [List.take_add_one, List.foldl_append, List.getElem?_eq_getElem hi]
  simp [List.getD, hi]
/-- a number is in the sets -/
def inS (S : List Int) (y : Nat) : Bool := (S.getD (y / 32) 0).toNat.testBit (y % 32)
/-- what holds of words and sets -/
structure GsI (n : Nat) (size : Int) (zs : List Int) (st : List Int × List Int) : Prop where
  len : st.2.length = 32
  rng : ∀ j, 0 ≤ st.2.getD j 0 ∧ st.2.getD j 0 < 4294967296
  ord : ∀ k, k ∈ st.1 ↔ 0 ≤ k ∧ st.2.getD k.toNat 0 ≠ 0
  low : ∀ k ∈ st.1, k < n
  nod : st.1.Nodup
  mem : ∀ y : Nat, inS st.2 y = true ↔ (y : Int) ∈ zs ∧ (y : Int) < size
theorem nz_bit (s : Int) (h0 : 0 ≤ s) (h1 : s < 4294967296) (h : s ≠ 0) : ∃ i, i < 32 ∧ s.toNat.testBit i = true := by
  refine Classical.byContradiction fun hn => h ?_
  have hz : s.toNat = 0 := by
    refine Nat.eq_of_testBit_eq fun i => ?_
    rw [Nat.zero_testBit]
    by_cases hi : i < 32
    · cases q : s.toNat.testBit i with
      | false => rfl
      | true => exact absurd ⟨i, hi, q⟩ hn
    · exact Nat.testBit_lt_two_pow (Nat.lt_of_lt_of_le (m := 2 ^ 32) (by omega) (Nat.pow_le_pow_right (by decide) (by omega)))
  omega
theorem or_pow (s : Int) (h0 : 0 ≤ s) (h1 : s < 4294967296) (i : Nat) (hi : i < 32) : 0 < (s.toNat ||| 2 ^ i) ∧ (s.toNat ||| 2 ^ i) < 4294967296 := by
  have h2 : s.toNat ||| 2 ^ i < 2 ^ 32 := Nat.or_lt_two_pow (by omega) (Nat.pow_lt_pow_right (by decide) hi)
  have h3 : 2 ^ i ≤ s.toNat ||| 2 ^ i := Nat.right_le_or
  have h4 : 0 < 2 ^ i := Nat.two_pow_pos i
  omega
theorem GsI.start (n : Nat) (size : Int) : GsI n size [] ([], List.replicate 32 0) := by
  have h : ∀ j, (List.replicate 32 (0 : Int)).getD j 0 = 0 := fun j => by
    simp only [List.getD, List.getElem?_replicate]
    split <;> rfl
  refine ⟨by simp, fun j => by rw [h]; omega, fun k => by rw [h]; simp, fun k hk => by simp at hk, by simp, fun y => ?_⟩
  unfold inS
  rw [h]
  simp
theorem GsI.step {n : Nat} {size : Int} {zs : List Int} {st : List Int × List Int} (h : GsI n size zs st) (hn : n ≤ 32) (hs : size ≤ 32 * (n : Int)) (x : Int) : GsI n size (zs ++ [x]) (gstep size st x) := by
  unfold gstep
  by_cases hx : 0 ≤ x ∧ x < size
  · rw [if_pos hx]
    obtain ⟨y, rfl⟩ : ∃ y : Nat, x = y := ⟨x.toNat, by omega⟩
    have e1 : ((y : Int) / 32).toNat = y / 32 := by omega
    have e2 : ((y : Int) % 32).toNat = y % 32 := by omega
    have e3 : (y : Int) / 32 = ((y / 32 : Nat) : Int) := by omega
    rw [e1, e2]
    obtain ⟨r1, r2⟩ := h.rng (y / 32)
    have hk : y / 32 < 32 := by omega
    have hkl : y / 32 < st.2.length := by rw [h.len]; exact hk
    obtain ⟨o1, o2⟩ := or_pow _ r1 r2 (y % 32) (Nat.mod_lt _ (by decide))
    obtain ⟨v, hv⟩ : ∃ v : Nat, (st.2.getD (y / 32) 0).toNat ||| 2 ^ (y % 32) = v := ⟨_, rfl⟩
    have hbit : ∀ i, v.testBit i = ((st.2.getD (y / 32) 0).toNat.testBit i || decide (y % 32 = i)) := fun i => by
      rw [← hv, Nat.testBit_or, Nat.testBit_two_pow]
    rw [hv] at o1 o2 ⊢
    have hg : ∀ j, (st.2.set (y / 32) (v : Int)).getD j 0 = if j = y / 32 then (v : Int) else st.2.getD j 0 := fun j => by
      by_cases e : j = y / 32
      · subst e; rw [if_pos rfl]; simp [List.getD, hkl]
      · rw [if_neg e]; simp [List.getD, List.getElem?_set_ne (fun q => e q.symm)]
    refine ⟨by simp [h.len], fun j => ?_, fun k => ?_, fun k hk => ?_, ?_, fun z => ?_⟩
    · rw [hg]; split
      · omega
      · exact h.rng j
    · rw [hg]
      by_cases e : st.2.getD (y / 32) 0 = 0
      · rw [if_pos e, List.mem_append, h.ord k, List.mem_singleton, e3]
        by_cases e4 : k.toNat = y / 32
        · rw [if_pos e4, e4, e]
          constructor
          · rintro (⟨_, q⟩ | q)
            · exact absurd rfl q
            · exact ⟨by omega, by omega⟩
          · rintro ⟨q, _⟩; exact .inr (by omega)
        · rw [if_neg e4]
          constructor
          · rintro (q | q)
            · exact q
            · exact absurd (by omega) e4
          · exact .inl
      · rw [if_neg e, h.ord k]
        by_cases e4 : k.toNat = y / 32
        · rw [if_pos e4, e4]
          constructor
          · rintro ⟨q, _⟩; exact ⟨q, by omega⟩
          · rintro ⟨q, _⟩; exact ⟨q, e⟩
        · rw [if_neg e4]
    · split at hk
      · rcases List.mem_append.1 hk with q | q
        · exact h.low k q
        · rw [List.mem_singleton] at q; omega
      · exact h.low k hk
    · split
      · rename_i e
        refine List.nodup_append.2 ⟨h.nod, by simp, fun a ha b hb => ?_⟩
        rw [List.mem_singleton] at hb
        subst hb
        rintro rfl
        have := (h.ord _).1 ha
        rw [e1] at this
        exact this.2 e
      · exact h.nod
    · have hm := h.mem z
      unfold inS at hm ⊢
      rw [hg]
      by_cases e : z / 32 = y / 32
      · rw [if_pos e, Int.toNat_natCast, hbit, Bool.or_eq_true, decide_eq_true_eq]
        rw [e] at hm
        rw [hm, List.mem_append, List.mem_singleton]
        constructor
        · rintro (q | q)
          · exact ⟨.inl q.1, q.2⟩
          · have : z = y := by omega
            subst this; exact ⟨.inr rfl, hx.2⟩
        · rintro ⟨q | q, q2⟩
          · exact .inl ⟨q, q2⟩
          · right; omega
      · rw [if_neg e, hm, List.mem_append, List.mem_singleton]
        constructor
        · rintro ⟨q, q2⟩; exact ⟨.inl q, q2⟩
        · rintro ⟨q | q, q2⟩
          · exact ⟨q, q2⟩
          · exfalso; apply e; omega
  · rw [if_neg hx]
    refine ⟨h.len, h.rng, h.ord, h.low, h.nod, fun z => ?_⟩
    rw [h.mem z, List.mem_append, List.mem_singleton]
    constructor
    · rintro ⟨q, q2⟩; exact ⟨.inl q, q2⟩
    · rintro ⟨q | q, q2⟩
      · exact ⟨q, q2⟩
      · exfalso; apply hx; omega
theorem GsI.at {n : Nat} {size : Int} (hn : n ≤ 32) (hs : size ≤ 32 * (n : Int)) (zs : List Int) : ∀ i, i ≤ zs.length → GsI n size (zs.take i) (gstI size zs i)
  | 0, _ => by simpa [gstI] using GsI.start n size
  | i + 1, hi => by
    have h := GsI.at hn hs zs i (by omega)
    rw [gstI_succ size zs i (by omega), List.take_add_one, List.getElem?_eq_getElem (by omega)]
    have e : zs.getD i 0 = zs[i] := by simp [List.getD, show i < zs.length by omega]
    rw [e]
    exact h.step hn hs _
theorem GsI.all {n : Nat} {size : Int} (hn : n ≤ 32) (hs : size ≤ 32 * (n : Int)) (zs : List Int) : GsI n size zs (gstI size zs zs.length) := by
  have := GsI.at hn hs zs zs.length (Nat.le_refl _)
  rwa [List.take_length] at this
theorem pigeon : ∀ (n : Nat) (l : List Int), l.Nodup → (∀ k ∈ l, 0 ≤ k ∧ k < (n : Int)) → l.length ≤ n
  | 0, l, _, h => by
    cases l with
    | nil => simp
    | cons a l => have := h a (by simp); omega
  | n + 1, l, hd, h => by
    by_cases hm : (n : Int) ∈ l
    · have h1 := pigeon n (l.erase (n : Int)) (hd.erase _) fun k hk => by
        have h2 := (hd.mem_erase_iff).1 hk
        have h3 := h k h2.2
        have h4 := h2.1
        omega
      rw [List.length_erase_of_mem hm] at h1
      omega
    · have := pigeon n l hd fun k hk => by
        have h3 := h k hk
        have h4 : k ≠ n := fun e => hm (e ▸ hk)
        omega
      omega
/-- words in order: at most 32 -/
theorem GsI.few {n : Nat} {size : Int} {zs : List Int} {st : List Int × List Int} (h : GsI n size zs st) (hn : n ≤ 32) : st.1.length ≤ 32 := by
  have h1 : ∀ k ∈ st.1, ∃ j : Nat, j < n ∧ k = (j : Int) := fun k hk => ⟨k.toNat, by have := h.low k hk; have := ((h.ord k).1 hk).1; omega, by have := ((h.ord k).1 hk).1; omega⟩
  refine Nat.le_trans (pigeon n st.1 h.nod fun k hk => ?_) hn
  obtain ⟨j, hj, rfl⟩ := h1 k hk
  omega
theorem gifts_ok {n : Nat} {size : Int} (hn : n ≤ 32) (hs : size ≤ 32 * (n : Int)) (zs : List Int) : ∀ g ∈ giftsF size zs, g.1 < n ∧ 0 < g.2 ∧ g.2 < 4294967296 := by
  have h := GsI.all hn hs zs
  intro g hg
  obtain ⟨k, hk, rfl⟩ := List.mem_map.1 hg
  have h1 := h.low k hk
  have h2 := (h.ord k).1 hk
  have h3 := h.rng k.toNat
  simp only
  omega
theorem gifts_zero (size : Int) (h : 1 ≤ size) : giftsF size [0] = [(0, 1)] := by
  have e : gstI size [0] 1 = ([0], (List.replicate 32 (0 : Int)).set 0 1) := by
    unfold gstI gstep
    simp [show (0 : Int) < size by omega]
  show (gstI size [0] 1).1.map (fun k => (k.toNat, (gstI size [0] 1).2.getD k.toNat 0)) = _
  rw [e]
  rfl
/-- in which numbers' Back a number is -/
def inG (gi : List (Nat × Int)) (y : Nat) : Prop := ∃ g ∈ gi, g.1 = y / 32 ∧ g.2.toNat.testBit (y % 32) = true
theorem inG_gifts {n : Nat} {size : Int} (hn : n ≤ 32) (hs : size ≤ 32 * (n : Int)) (zs : List Int) (y : Nat) : inG (giftsF size zs) y ↔ (y : Int) ∈ zs ∧ (y : Int) < size := by
  have h := GsI.all hn hs zs
  rw [← h.mem y]
  unfold inG inS giftsF
  constructor
  · rintro ⟨g, hg, e, hb⟩
    obtain ⟨k, hk, rfl⟩ := List.mem_map.1 hg
    simp only at e hb
    rw [← e]; exact hb
  · intro hb
    refine ⟨(y / 32, (gstI size zs zs.length).2.getD (y / 32) 0), List.mem_map.2 ⟨((y / 32 : Nat) : Int), (h.ord _).2 ⟨by omega, fun q => ?_⟩, by show ((((y / 32 : Nat) : Int)).toNat, _) = _; rw [Int.toNat_natCast]⟩, rfl, hb⟩
    rw [Int.toNat_natCast] at q
    rw [q] at hb
    simp at hb
theorem gifts_nodup {n : Nat} {size : Int} (hn : n ≤ 32) (hs : size ≤ 32 * (n : Int)) (zs : List Int) : ((giftsF size zs).map Prod.fst).Nodup := by
  have h := GsI.all hn hs zs
  unfold giftsF
  rw [List.map_map]
  refine List.Pairwise.map _ (R := fun a b => a ≠ b ∧ 0 ≤ a ∧ 0 ≤ b) (fun a b hab => by simp only [Function.comp]; omega) ?_
  have h2 : (gstI size zs zs.length).1.Pairwise (· ≠ ·) := h.nod
  refine List.Pairwise.imp_of_mem (fun ha hb hab => ⟨hab, ((h.ord _).1 ha).1, ((h.ord _).1 hb).1⟩) h2
theorem mem_numsF (k : Nat) (s : Int) (x : Int) : x ∈ numsF k s ↔ ∃ y : Nat, x = y ∧ y / 32 = k ∧ s.toNat.testBit (y % 32) = true := by
  unfold numsF numsI
  rw [List.mem_map]
  constructor
  · rintro ⟨j, hj, rfl⟩
    rw [List.mem_filter, List.mem_range] at hj
    exact ⟨k * 32 + j, rfl, by omega, by rw [show (k * 32 + j) % 32 = j by omega]; exact hj.2⟩
  · rintro ⟨y, rfl, h1, h2⟩
    exact ⟨y % 32, List.mem_filter.2 ⟨List.mem_range.2 (Nat.mod_lt _ (by decide)), h2⟩, by show ((k * 32 + y % 32 : Nat) : Int) = y; omega⟩
theorem mem_leftF (gi : List (Nat × Int)) (x : Int) : x ∈ leftF gi ↔ ∃ y : Nat, x = y ∧ inG gi y := by
  unfold leftF
  rw [(srt_perm _).mem_iff, List.mem_flatMap]
  constructor
  · rintro ⟨g, hg, hx⟩
    obtain ⟨y, rfl, h1, h2⟩ := (mem_numsF _ _ _).1 hx
    exact ⟨y, rfl, g, hg, h1.symm, h2⟩
  · rintro ⟨y, rfl, g, hg, h1, h2⟩
    exact ⟨g, hg, (mem_numsF _ _ _).2 ⟨y, rfl, h1.symm, h2⟩⟩
end Go.Proofs.Ytmbceafeonjffaa
