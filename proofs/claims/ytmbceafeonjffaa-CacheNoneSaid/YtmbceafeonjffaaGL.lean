/-
  Several small texts in one: PpE, PpF, PpG, PpH. Conditions stand in each theorem.
-/
import Derived.Test.YtmbceafeonjffaaPpD
import Derived.Test.YtmbceafeonjffaaGC
import Derived.Maps.AppendAt
namespace Go.Proofs.Ytmbceafeonjffaa
open Go.RowKit Plain
set_option linter.unusedVariables false
set_option linter.unusedSimpArgs false
/-- one number more: the words in order, the sets of all words -/
def gstep (size : Int) (st : List Int × List Int) (x : Int) : List Int × List Int :=
  if 0 ≤ x ∧ x < size then (if st.2.getD (x / 32).toNat 0 = 0 then st.1 ++ [x / 32] else st.1, st.2.set (x / 32).toNat ((st.2.getD (x / 32).toNat 0).toNat ||| 2 ^ (x % 32).toNat : Nat)) else st
def gstI (size : Int) (zs : List Int) (i : Nat) : List Int × List Int := (zs.take i).foldl (gstep size) ([], List.replicate 32 0)
def giftsF (size : Int) (zs : List Int) : List (Nat × Int) := (gstI size zs zs.length).1.map fun k => (k.toNat, (gstI size zs zs.length).2.getD k.toNat 0)
theorem gstI_succ (size : Int) (zs : List Int) (i : Nat) (hi : i < zs.length) : gstI size zs (i + 1) = gstep size (gstI size zs i) (zs.getD i 0) := by
  unfold gstI
  rw [List.take_add_one, List.foldl_append, List.getElem?_eq_getElem hi]
  simp [List.getD, hi]
/-- a number is in the sets -/
def inS (S : List Int) (y : Nat) : Bool := (S.getD (y / 32) 0).toNat.testBit (y % 32)
/-- what holds of words and sets -/
structure GsI (n : Nat) (size : Int) (zs : List Int) (st : List Int × List Int) : Prop where
  len : st.2.length = 32
  rng : ∀ j, 0 ≤ st.2.getD j 0 ∧ st.2.getD j 0 < 4294967296
  ord : ∀ k, k ∈ st.1 ↔ 0 ≤ k ∧ st.2.getD k.toNat 0 ≠ 0
  low : ∀ k ∈ st.1, k < n
  nod : st.1.Nodup
  mem : ∀ y : Nat, inS st.2 y = true ↔ (y : Int) ∈ zs ∧ (y : Int) < size
theorem nz_bit (s : Int) (h0 : 0 ≤ s) (h1 : s < 4294967296) (h : s ≠ 0) : ∃ i, i < 32 ∧ s.toNat.testBit i = true := by
  refine Classical.byContradiction fun hn => h ?_
  have hz : s.toNat = 0 := by
    refine Nat.eq_of_testBit_eq fun i => ?_
    rw [Nat.zero_testBit]
    by_cases hi : i < 32
    · cases q : s.toNat.testBit i with
      | false => rfl
      | true => exact absurd ⟨i, hi, q⟩ hn
    · exact Nat.testBit_lt_two_pow (Nat.lt_of_lt_of_le (m := 2 ^ 32) (by omega) (Nat.pow_le_pow_right (by decide) (by omega)))
  omega
theorem or_pow (s : Int) (h0 : 0 ≤ s) (h1 : s < 4294967296) (i : Nat) (hi : i < 32) : 0 < (s.toNat ||| 2 ^ i) ∧ (s.toNat ||| 2 ^ i) < 4294967296 := by
  have h2 : s.toNat ||| 2 ^ i < 2 ^ 32 := Nat.or_lt_two_pow (by omega) (Nat.pow_lt_pow_right (by decide) hi)
  have h3 : 2 ^ i ≤ s.toNat ||| 2 ^ i := Nat.right_le_or
  have h4 : 0 < 2 ^ i := Nat.two_pow_pos i
  omega
theorem GsI.start (n : Nat) (size : Int) : GsI n size [] ([], List.replicate 32 0) := by
  have h : ∀ j, (List.replicate 32 (0 : Int)).getD j 0 = 0 := fun j => by
    simp only [List.getD, List.getElem?_replicate]
    split <;> rfl
  refine ⟨by simp, fun j => by rw [h]; omega, fun k => by rw [h]; simp, fun k hk => by simp at hk, by simp, fun y => ?_⟩
  unfold inS
  rw [h]
  simp
theorem GsI.step {n : Nat} {size : Int} {zs : List Int} {st : List Int × List Int} (h : GsI n size zs st) (hn : n ≤ 32) (hs : size ≤ 32 * (n : Int)) (x : Int) : GsI n size (zs ++ [x]) (gstep size st x) := by
  unfold gstep
  by_cases hx : 0 ≤ x ∧ x < size
  · rw [if_pos hx]
    obtain ⟨y, rfl⟩ : ∃ y : Nat, x = y := ⟨x.toNat, by omega⟩
    have e1 : ((y : Int) / 32).toNat = y / 32 := by omega
    have e2 : ((y : Int) % 32).toNat = y % 32 := by omega
    have e3 : (y : Int) / 32 = ((y / 32 : Nat) : Int) := by omega
    rw [e1, e2]
    obtain ⟨r1, r2⟩ := h.rng (y / 32)
    have hk : y / 32 < 32 := by omega
    have hkl : y / 32 < st.2.length := by rw [h.len]; exact hk
    obtain ⟨o1, o2⟩ := or_pow _ r1 r2 (y % 32) (Nat.mod_lt _ (by decide))
    obtain ⟨v, hv⟩ : ∃ v : Nat, (st.2.getD (y / 32) 0).toNat ||| 2 ^ (y % 32) = v := ⟨_, rfl⟩
    have hbit : ∀ i, v.testBit i = ((st.2.getD (y / 32) 0).toNat.testBit i || decide (y % 32 = i)) := fun i => by
      rw [← hv, Nat.testBit_or, Nat.testBit_two_pow]
    rw [hv] at o1 o2 ⊢
    have hg : ∀ j, (st.2.set (y / 32) (v : Int)).getD j 0 = if j = y / 32 then (v : Int) else st.2.getD j 0 := fun j => by
      by_cases e : j = y / 32
      · subst e; rw [if_pos rfl]; simp [List.getD, hkl]
      · rw [if_neg e]; simp [List.getD, List.getElem?_set_ne (fun q => e q.symm)]
    refine ⟨by simp [h.len], fun j => ?_, fun k => ?_, fun k hk => ?_, ?_, fun z => ?_⟩
    · rw [hg]; split
      · omega
      · exact h.rng j
    · rw [hg]
      by_cases e : st.2.getD (y / 32) 0 = 0
      · rw [if_pos e, List.mem_append, h.ord k, List.mem_singleton, e3]
        by_cases e4 : k.toNat = y / 32
        · rw [if_pos e4, e4, e]
          constructor
          · rintro (⟨_, q⟩ | q)
            · exact absurd rfl q
            · exact ⟨by omega, by omega⟩
          · rintro ⟨q, _⟩; exact .inr (by omega)
        · rw [if_neg e4]
          constructor
          · rintro (q | q)
            · exact q
            · exact absurd (by omega) e4
          · exact .inl
      · rw [if_neg e, h.ord k]
        by_cases e4 : k.toNat = y / 32
        · rw [if_pos e4, e4]
          constructor
          · rintro ⟨q, _⟩; exact ⟨q, by omega⟩
          · rintro ⟨q, _⟩; exact ⟨q, e⟩
        · rw [if_neg e4]
    · split at hk
      · rcases List.mem_append.1 hk with q | q
        · exact h.low k q
        · rw [List.mem_singleton] at q; omega
      · exact h.low k hk
    · split
      · rename_i e
        refine List.nodup_append.2 ⟨h.nod, by simp, fun a ha b hb => ?_⟩
        rw [List.mem_singleton] at hb
        subst hb
        rintro rfl
        have := (h.ord _).1 ha
        rw [e1] at this
        exact this.2 e
      · exact h.nod
    · have hm := h.mem z
      unfold inS at hm ⊢
      rw [hg]
      by_cases e : z / 32 = y / 32
      · rw [if_pos e, Int.toNat_natCast, hbit, Bool.or_eq_true, decide_eq_true_eq]
        rw [e] at hm
        rw [hm, List.mem_append, List.mem_singleton]
        constructor
        · rintro (q | q)
          · exact ⟨.inl q.1, q.2⟩
          · have : z = y := by omega
            subst this; exact ⟨.inr rfl, hx.2⟩
        · rintro ⟨q | q, q2⟩
          · exact .inl ⟨q, q2⟩
          · right; omega
      · rw [if_neg e, hm, List.mem_append, List.mem_singleton]
        constructor
        · rintro ⟨q, q2⟩; exact ⟨.inl q, q2⟩
        · rintro ⟨q | q, q2⟩
          · exact ⟨q, q2⟩
          · exfalso; apply e; omega
  · rw [if_neg hx]
    refine ⟨h.len, h.rng, h.ord, h.low, h.nod, fun z => ?_⟩
    rw [h.mem z, List.mem_append, List.mem_singleton]
    constructor
    · rintro ⟨q, q2⟩; exact ⟨.inl q, q2⟩
    · rintro ⟨q | q, q2⟩
      · exact ⟨q, q2⟩
      · exfalso; apply hx; omega
theorem GsI.at {n : Nat} {size : Int} (hn : n ≤ 32) (hs : size ≤ 32 * (n : Int)) (zs : List Int) : ∀ i, i ≤ zs.length → GsI n size (zs.take i) (gstI size zs i)
  | 0, _ => by simpa [gstI] using GsI.start n size
  | i + 1, hi => by
    have h := GsI.at hn hs zs i (by omega)
    rw [gstI_succ size zs i (by omega), List.take_add_one, List.getElem?_eq_getElem (by omega)]
    have e : zs.getD i 0 = zs[i] := by simp [List.getD, show i < zs.length by omega]
    rw [e]
    exact h.step hn hs _
theorem GsI.all {n : Nat} {size : Int} (hn : n ≤ 32) (hs : size ≤ 32 * (n : Int)) (zs : List Int) : GsI n size zs (gstI size zs zs.length) := by
  have := GsI.at hn hs zs zs.length (Nat.le_refl _)
  rwa [List.take_length] at this
theorem pigeon : ∀ (n : Nat) (l : List Int), l.Nodup → (∀ k ∈ l, 0 ≤ k ∧ k < (n : Int)) → l.length ≤ n
  | 0, l, _, h => by
    cases l with
    | nil => simp
    | cons a l => have := h a (by simp); omega
  | n + 1, l, hd, h => by
    by_cases hm : (n : Int) ∈ l
    · have h1 := pigeon n (l.erase (n : Int)) (hd.erase _) fun k hk => by
        have h2 := (hd.mem_erase_iff).1 hk
        have h3 := h k h2.2
        have h4 := h2.1
        omega
      rw [List.length_erase_of_mem hm] at h1
      omega
    · have := pigeon n l hd fun k hk => by
        have h3 := h k hk
        have h4 : k ≠ n := fun e => hm (e ▸ hk)
        omega
      omega
/-- words in order: at most 32 -/
theorem GsI.few {n : Nat} {size : Int} {zs : List Int} {st : List Int × List Int} (h : GsI n size zs st) (hn : n ≤ 32) : st.1.length ≤ 32 := by
  have h1 : ∀ k ∈ st.1, ∃ j : Nat, j < n ∧ k = (j : Int) := fun k hk => ⟨k.toNat, by have := h.low k hk; have := ((h.ord k).1 hk).1; omega, by have := ((h.ord k).1 hk).1; omega⟩
  refine Nat.le_trans (pigeon n st.1 h.nod fun k hk => ?_) hn
  obtain ⟨j, hj, rfl⟩ := h1 k hk
  omega
theorem gifts_ok {n : Nat} {size : Int} (hn : n ≤ 32) (hs : size ≤ 32 * (n : Int)) (zs : List Int) : ∀ g ∈ giftsF size zs, g.1 < n ∧ 0 < g.2 ∧ g.2 < 4294967296 := by
  have h := GsI.all hn hs zs
  intro g hg
  obtain ⟨k, hk, rfl⟩ := List.mem_map.1 hg
  have h1 := h.low k hk
  have h2 := (h.ord k).1 hk
  have h3 := h.rng k.toNat
  simp only
  omega
theorem gifts_zero (size : Int) (h : 1 ≤ size) : giftsF size [0] = [(0, 1)] := by
  have e : gstI size [0] 1 = ([0], (List.replicate 32 (0 : Int)).set 0 1) := by
    unfold gstI gstep
    simp [show (0 : Int) < size by omega]
  show (gstI size [0] 1).1.map (fun k => (k.toNat, (gstI size [0] 1).2.getD k.toNat 0)) = _
  rw [e]
  rfl
/-- in which numbers' Back a number is -/
def inG (gi : List (Nat × Int)) (y : Nat) : Prop := ∃ g ∈ gi, g.1 = y / 32 ∧ g.2.toNat.testBit (y % 32) = true
theorem inG_gifts {n : Nat} {size : Int} (hn : n ≤ 32) (hs : size ≤ 32 * (n : Int)) (zs : List Int) (y : Nat) : inG (giftsF size zs) y ↔ (y : Int) ∈ zs ∧ (y : Int) < size := by
  have h := GsI.all hn hs zs
  rw [← h.mem y]
  unfold inG inS giftsF
  constructor
  · rintro ⟨g, hg, e, hb⟩
    obtain ⟨k, hk, rfl⟩ := List.mem_map.1 hg
    simp only at e hb
    rw [← e]; exact hb
  · intro hb
    refine ⟨(y / 32, (gstI size zs zs.length).2.getD (y / 32) 0), List.mem_map.2 ⟨((y / 32 : Nat) : Int), (h.ord _).2 ⟨by omega, fun q => ?_⟩, by show ((((y / 32 : Nat) : Int)).toNat, _) = _; rw [Int.toNat_natCast]⟩, rfl, hb⟩
    rw [Int.toNat_natCast] at q
    rw [q] at hb
    simp at hb
theorem gifts_nodup {n : Nat} {size : Int} (hn : n ≤ 32) (hs : size ≤ 32 * (n : Int)) (zs : List Int) : ((giftsF size zs).map Prod.fst).Nodup := by
  have h := GsI.all hn hs zs
  unfold giftsF
  rw [List.map_map]
  refine List.Pairwise.map _ (R := fun a b => a ≠ b ∧ 0 ≤ a ∧ 0 ≤ b) (fun a b hab => by simp only [Function.comp]; omega) ?_
  have h2 : (gstI size zs zs.length).1.Pairwise (· ≠ ·) := h.nod
  refine List.Pairwise.imp_of_mem (fun ha hb hab => ⟨hab, ((h.ord _).1 ha).1, ((h.ord _).1 hb).1⟩) h2
theorem mem_numsF (k : Nat) (s : Int) (x : Int) : x ∈ numsF k s ↔ ∃ y : Nat, x = y ∧ y / 32 = k ∧ s.toNat.testBit (y % 32) = true := by
  unfold numsF numsI
  rw [List.mem_map]
  constructor
  · rintro ⟨j, hj, rfl⟩
    rw [List.mem_filter, List.mem_range] at hj
    exact ⟨k * 32 + j, rfl, by omega, by rw [show (k * 32 + j) % 32 = j by omega]; exact hj.2⟩
  · rintro ⟨y, rfl, h1, h2⟩
    exact ⟨y % 32, List.mem_filter.2 ⟨List.mem_range.2 (Nat.mod_lt _ (by decide)), h2⟩, by show ((k * 32 + y % 32 : Nat) : Int) = y; omega⟩
theorem mem_leftF (gi : List (Nat × Int)) (x : Int) : x ∈ leftF gi ↔ ∃ y : Nat, x = y ∧ inG gi y := by
  unfold leftF
  rw [(srt_perm _).mem_iff, List.mem_flatMap]
  constructor
  · rintro ⟨g, hg, hx⟩
    obtain ⟨y, rfl, h1, h2⟩ := (mem_numsF _ _ _).1 hx
    exact ⟨y, rfl, g, hg, h1.symm, h2⟩
  · rintro ⟨y, rfl, g, hg, h1, h2⟩
    exact ⟨g, hg, (mem_numsF _ _ _).2 ⟨y, rfl, h1.symm, h2⟩⟩
end Go.Proofs.Ytmbceafeonjffaa

namespace Go.Proofs.Ytmbceafeonjffaa
open Go.RowKit Go.Deep Plain
set_option linter.unusedVariables false
set_option linter.unusedSimpArgs false
set_option maxRecDepth 100000
theorem bits_or32 (x y : Nat) (hx : x < 4294967296) (hy : y < 4294967296) : bits .or .u32 (x : Int) (y : Int) = ((x ||| y : Nat) : Int) := by
  have hX : (BitVec.ofInt 32 (x : Int)).toNat = x := by simp; omega
  have hY : (BitVec.ofInt 32 (y : Int)).toNat = y := by simp; omega
  have h : x ||| y < 2 ^ 32 := Nat.or_lt_two_pow hx hy
  show IntKind.u32.wrap ((BitVec.ofInt 32 (x : Int) ||| BitVec.ofInt 32 (y : Int)).toNat : Nat) = _
  rw [BitVec.toNat_or, hX, hY, IntKind.wrap_u32]
  omega
theorem pow32 (i : Nat) (hi : i < 32) : (2 ^ i : Int) % 4294967296 = ((2 ^ i : Nat) : Int) := by
  have h : 2 ^ i < 2 ^ 32 := Nat.pow_lt_pow_right (by decide) hi
  have e : (2 ^ i : Int) = ((2 ^ i : Nat) : Int) := by simp
  rw [e]
  generalize 2 ^ i = q at *
  omega
/-- a slice of ints that reads as a list -/
def RdI (w : World) (A : Option Addr) (zs : List Int) : Prop :=
  0 < zs.length → ∃ b off, A = some ⟨b, off, none⟩ ∧ b < w.heap.size ∧ ∀ j, j < zs.length → w.cell? ⟨b, off + j, none⟩ = some (.int .i64 (zs.getD j 0))
theorem RdI.below {w w' : World} {A : Option Addr} {zs : List Int} (h : RdI w A zs) (hb : Below w.heap.size w w') : RdI w' A zs := fun hp => by
  obtain ⟨b, off, e, hl, hc⟩ := h hp
  exact ⟨b, off, e, Nat.lt_of_lt_of_le hl hb.size, fun j hj => (hb.cell (p := ⟨b, off + j, none⟩) hl).trans (hc j hj)⟩
theorem OwI.rdI {base n c : Nat} {w : World} {A : Option Addr} {zs : List Int} (h : OwI base w A n c zs) : RdI w A zs := fun hp => by
  obtain ⟨_, g, e, hl, _, hc⟩ := h.rd (by rw [← h.len]; exact hp)
  exact ⟨g, 0, e, hl, fun j hj => by rw [Nat.zero_add]; exact hc j (by rw [← h.len]; exact hj)⟩
theorem OwI.apart {base n c : Nat} {w : World} {A : Option Addr} {zs : List Int} (h : OwI base w A n c zs) {b : Nat} {t : TypeId} {cs : Array Value} (hb : Blk w b t cs) (ht : t ≠ 3) : b ∉ ownLs (.slice A n c) := fun hx => by
  unfold ownLs at hx
  split at hx
  · rename_i g hg
    obtain rfl : b = g := by simpa using hx
    obtain ⟨_, _, cur, q⟩ := own_blk h.row hg
    exact blkT hb (show Blk w b 3 cur from q) ht rfl
  · simp at hx
theorem RdI.of_n {k : Int} {w : World} {A : Option Addr} {zs : List Int} (h : RdN .i64 w A zs) : RdI w A zs := h.2
def gC (L : List (Nat × Int)) : List Value := L.flatMap fun g => [.int .i64 g.1, .int .u32 g.2]
theorem gC_len (L : List (Nat × Int)) : (gC L).length = L.length * 2 := by
  unfold gC
  induction L with
  | nil => rfl
  | cons o l ih => simp only [List.flatMap_cons, List.length_append, ih]; simp; omega
theorem gC_at : ∀ (L : List (Nat × Int)) (i : Nat), i < L.length → (gC L)[i * 2]? = some (.int .i64 (L.getD i (0, 0)).1) ∧ (gC L)[i * 2 + 1]? = some (.int .u32 (L.getD i (0, 0)).2)
  | [], i, h => absurd h (by simp)
  | g :: L, 0, _ => ⟨rfl, rfl⟩
  | g :: L, i + 1, h => by
    have e := gC_at L i (by simpa using h)
    have e1 : gC (g :: L) = .int .i64 g.1 :: .int .u32 g.2 :: gC L := rfl
    rw [e1, show (i + 1) * 2 = i * 2 + 1 + 1 by omega]
    simpa [List.getD] using e
theorem gC_set : ∀ (L : List (Nat × Int)) (i : Nat) (a : Nat) (b : Int), ((gC L).set (i * 2) (.int .i64 a)).set (i * 2 + 1) (.int .u32 b) = gC (L.set i (a, b))
  | [], i, a, b => rfl
  | g :: L, 0, a, b => rfl
  | g :: L, i + 1, a, b => by
    have e := gC_set L i a b
    have e1 : gC (g :: L) = .int .i64 g.1 :: .int .u32 g.2 :: gC L := rfl
    rw [e1, show (i + 1) * 2 = i * 2 + 1 + 1 by omega]
    simp only [List.set_cons_succ]
    rw [e]
    rfl
theorem gC_rep : ∀ n : Nat, gC (List.replicate n (0, 0)) = (List.replicate n [Value.int .i64 0, .int .u32 0]).flatten
  | 0 => rfl
  | n + 1 => by
    have e := gC_rep n
    rw [List.replicate_succ, List.replicate_succ, List.flatten_cons, ← e]
    rfl
theorem infoG : (Try.prog.info? 81).map (fun i => (i.zero, i.size, i.bytes)) = some (some (.agg #[.int .i64 0, .int .u32 0]), 2, 16) := by kernel_rfl
theorem made_g (n : Nat) : madeCells #[.int .i64 0, .int .u32 0] (n * 2) = (gC (List.replicate n (0, 0))).toArray := by
  apply Array.ext_getElem?
  intro j
  have hl : (gC (List.replicate n (0, 0))).length = n * 2 := by rw [gC_len, List.length_replicate]
  by_cases hj : j < n * 2
  · obtain ⟨q1, q2⟩ := gC_at (List.replicate n (0, 0)) (j / 2) (by rw [List.length_replicate]; omega)
    have hz : (List.replicate n ((0 : Nat), (0 : Int))).getD (j / 2) (0, 0) = (0, 0) := by simp [List.getD, List.getElem?_replicate, show j / 2 < n by omega]
    rw [hz] at q1 q2
    unfold madeCells
    rcases Nat.mod_two_eq_zero_or_one j with e | e
    · rw [show j / 2 * 2 = j by omega] at q1
      simp [hj, q1, e]
    · rw [show j / 2 * 2 + 1 = j by omega] at q2
      simp [hj, q2, e]
  · rw [Array.getElem?_eq_none (by unfold madeCells; simp; omega), Array.getElem?_eq_none (by simp [hl]; omega)]
theorem run_mkG (n : Nat) (hn : n ≤ 1000000) (w : World) : (Instr.makeSlice 76 (.int .i64 n) (.int .i64 n)).run Try.prog w = .ok (.slice (some ⟨w.heap.size, 0, none⟩) n n) (w.alloc (.cells (gC (List.replicate n (0, 0))).toArray 81)) := by
  obtain ⟨i, hi, hz, hs, hb⟩ := info_parts infoG
  have h := run_make (P := Try.prog) w 76 81 i _ Try.underlying76 hi hz .i64 .i64 n n (by omega) (by omega) (by rw [hb]; omega) (by omega)
  rw [hs, Int.toNat_natCast, show (Value.agg #[.int .i64 0, .int .u32 0]).cells = #[Value.int .i64 0, .int .u32 0] from rfl, made_g] at h
  exact h
set_option maxHeartbeats 8000000 in
theorem gifts_any {w : World} {gp gc gn n : Nat} {size : Int} {l : List Int} (h : PoS w gp gc gn n size l) (hn : n ≤ 32) (hs : size ≤ 32 * (n : Int)) {A : Option Addr} {len cap : Nat} {zs : List Int} (hr : RdI w A zs) (hl : zs.length = len) (hlm : len ≤ 1000000) :
    Calls Try.prog 42 #[.pointer (some ⟨gp, 0, none⟩), .slice A len cap] w fun e w' => ∃ gl m, e = .returned (.slice (some ⟨gl, 0, none⟩) m m) ∧ w.heap.size ≤ gl ∧ gl < w'.heap.size ∧ (∀ gs, gs ≠ gl → GiR w' gs (.slice (some ⟨gl, 0, none⟩) m m) (giftsF size zs)) ∧ Below w.heap.size w w' := by
  obtain ⟨G, hGG⟩ : ∃ G, giftsF size zs = G := ⟨_, rfl⟩
  rw [hGG]
  have HGG := Lib.hid hGG
  clear hGG
  have HR := Lib.hid hr
  have HP := Lib.hid h
  have HL := Lib.hid hl
  clear hr h hl
  go_enter Try.func42, Try.ntmps42
  go_upto_region 4 with fail
  have hal := ball w (.cells ((List.replicate 32 (0 : Int)).map (Value.int .u32)).toArray 110)
  have HS0 := Lib.hid (show Row .u32 110 (w.alloc (.cells ((List.replicate 32 (0 : Int)).map (Value.int .u32)).toArray 110)) w.heap.size (List.replicate 32 0) from Blk.new w _ _)
  have HB0 := Lib.hid hal
  clear hal
  go_loopw [6, 15] (fun s6 s15 wr => ∃ i : Nat, ∃ A' m c, i ≤ len ∧ s15 = .int .i64 i ∧ s6 = .slice A' m c ∧ OwI w.heap.size wr A' m c (gstI size zs i).1 ∧ Row .u32 110 wr w.heap.size (gstI size zs i).2 ∧ Below w.heap.size w wr) (fun _ s15 _ => len - (intOf s15).toNat)
  case atStart => exact ⟨0, none, 0, 0, Nat.zero_le _, rfl, rfl, OwI.nil _ _, HS0.out, HB0.out⟩
  case round =>
    obtain ⟨i, A', m, c, hi, rfl, rfl, hI, hS, hB⟩ := hrel
    have hG := GsI.at hn hs zs i (by rw [HL.out]; exact hi)
    have hm : m ≤ 32 := by have := hI.len; have := hG.few hn; omega
    have hslen := hG.len
    have hrng := hG.rng
    have HI := Lib.hid hI
    have HS := Lib.hid hS
    have HB := Lib.hid hB
    clear hI hS hB hG HS0 HB0
    by_cases hlt : i < len
    · have d : decide ((i : Int) < (len : Int)) = true := decide_eq_true (by omega)
      have HSu := Lib.hid (gstI_succ size zs i (by rw [HL.out]; exact hlt))
      obtain ⟨b, off, rfl, hbl, hc⟩ := HR.out (by rw [HL.out]; omega)
      obtain ⟨x, hx⟩ : ∃ x, zs.getD i 0 = x := ⟨_, rfl⟩
      have k0 : wr.cell? ⟨b, off + i, none⟩ = some (.int .i64 x) := by rw [HB.out.cell (p := ⟨b, off + i, none⟩) hbl, hc i (by rw [HL.out]; exact hlt), hx]
      rw [hx] at HSu
      clear hc hx
      generalize gstI size zs i = st at *
      obtain ⟨od, ss⟩ := st
      simp only at HI HS hslen hrng HSu
      have HAS := Lib.hid (phas_any (HP.out.below HB.out) x)
      by_cases hx : 0 ≤ x ∧ x < size
      · have d2 : decide (0 ≤ x ∧ x < size) = true := decide_eq_true hx
        rw [d2] at HAS
        obtain ⟨y, rfl⟩ : ∃ y : Nat, x = y := ⟨x.toNat, by omega⟩
        have hy : y < 1024 := by omega
        obtain ⟨k, hk⟩ : ∃ k : Nat, y / 32 = k := ⟨_, rfl⟩
        have hk32 : k < 32 := by omega
        have hki : (k : Int) < 32 := by omega
        have hkd : (y : Int) / 32 = (k : Int) := by omega
        obtain ⟨s, hsv⟩ : ∃ s : Nat, ss.getD k 0 = s := ⟨(ss.getD k 0).toNat, by have := hrng k; omega⟩
        have hsb : s < 4294967296 := by have := (hrng k).2; omega
        have k1 : wr.cell? ⟨w.heap.size, k, none⟩ = some (.int .u32 s) := by rw [HS.out.at (by rw [hslen]; exact hk32), hsv]
        obtain ⟨v, hv⟩ : ∃ v : Nat, s ||| 2 ^ (y % 32) = v := ⟨_, rfl⟩
        have hp := pow32 (y % 32) (Nat.mod_lt _ (by decide))
        have hpl : 2 ^ (y % 32) < 4294967296 := Nat.pow_lt_pow_right (by decide) (Nat.mod_lt y (by decide : 0 < 32))
        have hor := bits_or32 s (2 ^ (y % 32)) hsb hpl
        rw [hv, ← hp] at hor
        have HGS := Lib.hid (show gstep size (od, ss) (y : Int) = (if s = 0 then od ++ [(k : Int)] else od, ss.set k (v : Int)) by
          unfold gstep
          rw [if_pos hx]
          simp only [show ((y : Int) / 32).toNat = k by omega, show ((y : Int) % 32).toNat = y % 32 by omega, hsv, Int.toNat_natCast, hv, hkd]
          by_cases q : s = 0
          · rw [if_pos q, if_pos (by omega)]
          · rw [if_neg q, if_neg (by omega)])
        clear hx d2 hp hpl hv
        by_cases he : s = 0
        · have d3 : ((s : Int) == 0) = true := by simp [he]
          have HST := Lib.hid (show gstep size (od, ss) (y : Int) = (od ++ [(k : Int)], ss.set k (v : Int)) by rw [HGS.out, if_pos he])
          have HWV := Lib.hid (show bits .or .u32 0 (2 ^ (y % 32) % 4294967296) = (v : Int) by rw [he] at hor; exact hor)
          have HZ := Lib.hid HB.out.size
          clear hor
          go_upto_region 10 with (first | (go_at_call 60; refine (HAS.out).mono ?_; rintro e w2 ⟨rfl, rfl⟩) | (at_builtin; refine wpList_addI rfl (.tmp 29) (.tmp 31) rfl rfl (HI.out) (HB.out) (HZ.out) (k : Int) (by omega) _ rfl rfl ?_; intro A2 c2 w' hI' hB' hK'; have HI1 := Lib.hid hI'; have HB1 := Lib.hid hB'; have HS1 := Lib.hid (hK'.row HS.out (HI.out.apart HS.out (by decide))); clear hI' hB' hK'))
          have k2 : w'.cell? ⟨w.heap.size, k, none⟩ = some (.int .u32 s) := by rw [HS1.out.at (by rw [hslen]; exact hk32), hsv]
          have f2 : w'.frozen? ⟨w.heap.size, k, none⟩ = false := HS1.out.free k
          clear k1
          go_region
          rw [HWV.out]
          have HI2 := Lib.hid (HI1.out.keep (((Keep.refl [w.heap.size] w').setCell (p := ⟨w.heap.size, k, none⟩) (.inl (by simp)) (.int .u32 (v : Int))).drew) (fun g hg cs hc => by rw [List.mem_singleton] at hg; subst hg; exact blkT hc HS1.out (by decide) rfl))
          have HS2 := Lib.hid (show Row .u32 110 ((w'.setCell ⟨w.heap.size, k, none⟩ (.int .u32 (v : Int))).drew) w.heap.size (ss.set k (v : Int)) from Blk.drew (HS1.out.set k (v : Int)))
          have HB2 := Lib.hid ((HB1.out.setCell (p := ⟨w.heap.size, k, none⟩) (Nat.le_refl _) (.int .u32 (v : Int))).drew)
          clear k2 f2 HI1 HS1 HB1
          generalize (w'.setCell ⟨w.heap.size, k, none⟩ (.int .u32 (v : Int))).drew = w5 at *
          go_wp2
          go_roundw
          case rel => exact ⟨i + 1, A2, m + 1, c2, by omega, by go_num, by first | rfl | (simp; done), by rw [HSu.out, HST.out]; exact HI2.out, by rw [HSu.out, HST.out]; exact HS2.out, HB2.out⟩
          case measure => simp [intOf]; omega
        · have d3 : ((s : Int) == 0) = false := by simp [he]
          have HST := Lib.hid (show gstep size (od, ss) (y : Int) = (od, ss.set k (v : Int)) by rw [HGS.out, if_neg he])
          have HWV := Lib.hid hor
          have HI1 := HI
          have HS1 := HS
          have HB1 := HB
          clear hor he
          go_upto_region 10 with (first | (go_at_call 60; refine (HAS.out).mono ?_; rintro e w2 ⟨rfl, rfl⟩))
          have k2 : wr.cell? ⟨w.heap.size, k, none⟩ = some (.int .u32 s) := by rw [HS1.out.at (by rw [hslen]; exact hk32), hsv]
          have f2 : wr.frozen? ⟨w.heap.size, k, none⟩ = false := HS1.out.free k
          clear k1
          go_region
          rw [HWV.out]
          have HI2 := Lib.hid (HI1.out.keep (((Keep.refl [w.heap.size] wr).setCell (p := ⟨w.heap.size, k, none⟩) (.inl (by simp)) (.int .u32 (v : Int))).drew) (fun g hg cs hc => by rw [List.mem_singleton] at hg; subst hg; exact blkT hc HS1.out (by decide) rfl))
          have HS2 := Lib.hid (show Row .u32 110 ((wr.setCell ⟨w.heap.size, k, none⟩ (.int .u32 (v : Int))).drew) w.heap.size (ss.set k (v : Int)) from Blk.drew (HS1.out.set k (v : Int)))
          have HB2 := Lib.hid ((HB1.out.setCell (p := ⟨w.heap.size, k, none⟩) (Nat.le_refl _) (.int .u32 (v : Int))).drew)
          clear k2 f2 HI1 HS1 HB1
          generalize (wr.setCell ⟨w.heap.size, k, none⟩ (.int .u32 (v : Int))).drew = w5 at *
          go_wp2
          go_roundw
          case rel => exact ⟨i + 1, A', m, c, by omega, by go_num, by first | rfl | (simp; done), by rw [HSu.out, HST.out]; exact HI2.out, by rw [HSu.out, HST.out]; exact HS2.out, HB2.out⟩
          case measure => simp [intOf]; omega
      · have d2 : decide (0 ≤ x ∧ x < size) = false := decide_eq_false hx
        rw [d2] at HAS
        have HS1 := Lib.hid (show gstep size (od, ss) x = (od, ss) from if_neg hx)
        clear hx d2
        go_wp2_with (go_at_call 60; refine (HAS.out).mono ?_; rintro e w2 ⟨rfl, rfl⟩)
        go_roundw
        case rel => exact ⟨i + 1, A', m, c, by omega, by go_num, rfl, by rw [HSu.out, HS1.out]; exact HI.out, by rw [HSu.out, HS1.out]; exact HS.out, HB.out⟩
        case measure => simp [intOf]; omega
    · have d : decide ((i : Int) < (len : Int)) = false := decide_eq_false (by omega)
      obtain rfl : i = len := by omega
      have HG := Lib.hid (GsI.all hn hs zs)
      have HGF := Lib.hid (show G = (gstI size zs i).1.map fun k => (k.toNat, (gstI size zs i).2.getD k.toNat 0) by rw [← HGG.out]; unfold giftsF; rw [HL.out])
      rw [HL.out] at HG
      generalize gstI size zs i = st at *
      obtain ⟨od, ss⟩ := st
      simp only at HI HS hslen hrng HGF
      have hodl := HI.out.len
      have hmk := run_mkG m (by omega) wr
      have hGl : G.length = m := by rw [HGF.out, List.length_map, hodl]
      have hGat : ∀ j, j < m → ∃ k : Nat, k < 32 ∧ od.getD j 0 = (k : Int) ∧ G.getD j (0, 0) = (k, ss.getD k 0) := fun j hj => by
        have hjo : j < od.length := by omega
        have e1 : od.getD j 0 = od[j] := by simp [List.getD, hjo]
        have h1 := (HG.out.ord _).1 (List.getElem_mem hjo)
        have h2 := HG.out.low _ (List.getElem_mem hjo)
        refine ⟨od[j].toNat, by omega, by rw [e1]; omega, ?_⟩
        rw [HGF.out]
        simp [List.getD, hjo]
      have HGA := Lib.hid hGat
      clear hGat HGF HG HGG
      have hal := ball wr (.cells (gC (List.replicate m (0, 0))).toArray 81)
      have HI1 := Lib.hid (HI.out.below hal)
      have HS1 := Lib.hid (HS.out.below hal)
      have HB1 := Lib.hid (bthen HB.out hal)
      have HK1 := Lib.hid (Blk.new wr 81 (gC (List.replicate m (0, 0))).toArray)
      have hwz := HB.out.size
      clear hal
      go_upto_region 14 with fail
      generalize wr.alloc (.cells (gC (List.replicate m (0, 0))).toArray 81) = w1 at *
      generalize wr.heap.size = gl at *
      go_loopw [47] (fun s47 wr2 => ∃ j : Nat, j ≤ m ∧ s47 = .int .i64 j ∧ Keep [gl] w1 wr2 ∧ Blk wr2 gl 81 (gC (G.take j ++ List.replicate (m - j) (0, 0))).toArray) (fun s47 _ => m - (intOf s47).toNat)
      case atStart => exact ⟨0, Nat.zero_le _, rfl, Keep.refl _ _, by simpa using HK1.out⟩
      case round =>
        obtain ⟨j, hj, rfl, hk, hbk⟩ := hrel
        have HK := Lib.hid hk
        have HG2 := Lib.hid hbk
        clear hk hbk
        have hI2 := HI1.out.keep HK.out (fun g hg cs hc => by rw [List.mem_singleton] at hg; subst hg; exact blkT hc HK1.out (by decide) rfl)
        have hS2 := HK.out.row HS1.out (by simpa using blkT HS1.out HK1.out (by decide))
        by_cases hlj : j < m
        · have d : decide ((j : Int) < (m : Int)) = true := decide_eq_true (by omega)
          obtain ⟨k, hk32, hko, hkG⟩ := HGA.out j hlj
          obtain ⟨_, go, rfl, hgo, _, hco⟩ := hI2.rd (by omega)
          have k0 : wr.cell? ⟨go, j, none⟩ = some (.int .i64 k) := by rw [hco j hlj, hko]
          obtain ⟨s, hsv⟩ : ∃ s : Nat, ss.getD k 0 = s := ⟨(ss.getD k 0).toNat, by have := hrng k; omega⟩
          have k1 : wr.cell? ⟨w.heap.size, k, none⟩ = some (.int .u32 s) := by rw [hS2.at (by rw [hslen]; exact hk32), hsv]
          have f0 : wr.frozen? ⟨gl, j * 2, none⟩ = false := HG2.out.frozen _
          have f1 : wr.frozen? ⟨gl, j * 2 + 1, none⟩ = false := HG2.out.frozen _
          have hln : (gC (G.take j ++ List.replicate (m - j) (0, 0))).length = m * 2 := by rw [gC_len]; simp; omega
          obtain ⟨q1, q2⟩ := gC_at (G.take j ++ List.replicate (m - j) (0, 0)) j (by simp; omega)
          have k2 : wr.cell? ⟨gl, j * 2, none⟩ = some (.int .i64 ((G.take j ++ List.replicate (m - j) (0, 0)).getD j (0, 0)).1) := by rw [HG2.out.cell]; simpa using q1
          have k3 : wr.cell? ⟨gl, j * 2 + 1, none⟩ = some (.int .u32 ((G.take j ++ List.replicate (m - j) (0, 0)).getD j (0, 0)).2) := by rw [HG2.out.cell]; simpa using q2
          generalize ((G.take j ++ List.replicate (m - j) (0, 0)).getD j (0, 0)).1 = o1 at *
          generalize ((G.take j ++ List.replicate (m - j) (0, 0)).getD j (0, 0)).2 = o2 at *
          have hki : (k : Int) < 32 := by omega
          have hji : (j : Int) < (m : Int) := by omega
          clear q1 q2 hln hco hI2 hS2 hko
          have HST := Lib.hid (show (G.take j ++ List.replicate (m - j) (0, 0)).set j (k, (s : Int)) = G.take (j + 1) ++ List.replicate (m - (j + 1)) (0, 0) by
            rw [show m - j = (m - (j + 1)) + 1 by omega, List.replicate_succ, List.set_append_right _ _ (by simp; omega)]
            rw [show j - (G.take j).length = 0 by simp; omega, List.set_cons_zero, List.take_add_one, List.getElem?_eq_getElem (by omega)]
            have e : G.getD j (0, 0) = G[j] := by simp [List.getD, show j < G.length by omega]
            rw [← e, hkG, hsv]
            simp)
          have HG3 := Lib.hid ((HG2.out.set (j * 2) (.int .i64 (k : Int))).set (j * 2 + 1) (.int .u32 (s : Int)))
          have HK3 := Lib.hid ((HK.out.setCell (p := ⟨gl, j * 2, none⟩) (.inl (by simp)) (.int .i64 (k : Int))).setCell (p := ⟨gl, j * 2 + 1, none⟩) (.inl (by simp)) (.int .u32 (s : Int)))
          clear hkG hsv HK HG2
          go_wp2
          refine ⟨⟨j + 1, by omega, by go_num, HK3.out, ?_⟩, by simp [intOf]; omega⟩
          have h3 := HG3.out
          rw [List.setIfInBounds_toArray, List.setIfInBounds_toArray, gC_set, HST.out] at h3
          exact h3
        · have d : decide ((j : Int) < (m : Int)) = false := decide_eq_false (by omega)
          obtain rfl : j = m := by omega
          have h3 := HG2.out
          rw [List.take_of_length_le (by omega), Nat.sub_self, List.replicate_zero, List.append_nil] at h3
          have HG3 := Lib.hid h3
          have HB3 := Lib.hid (HK.out.below HB1.out (by have := HB1.out.size; omega) (fun x hx => by rw [List.mem_singleton] at hx; omega))
          clear h3
          go_wp2
          go_ret
          refine ⟨gl, j, rfl, hwz, HG3.out.lt, fun gs hne => ⟨some ⟨gl, 0, none⟩, j, j, rfl, hGl, Nat.le_refl _, by omega, fun _ => ⟨gl, 0, rfl, HG3.out.lt, fun e => hne e.symm, ⟨_, HG3.out⟩, fun q hq => ?_⟩⟩, HB3.out⟩
          obtain ⟨q1, q2⟩ := gC_at G q (by omega)
          rw [Nat.zero_add, HG3.out.cell, HG3.out.cell]
          exact ⟨by simpa using q1, by simpa using q2⟩
end Go.Proofs.Ytmbceafeonjffaa

namespace Go.Proofs.Ytmbceafeonjffaa
open Go.RowKit Go.Deep Plain
set_option linter.unusedVariables false
set_option linter.unusedSimpArgs false
set_option maxRecDepth 100000
def back0 (G : List (Nat × Int)) : Ps := ⟨0, 0, 0, 0, List.replicate 32 0, 0, false, false, G⟩
/-- what Back begins -/
def backP (G : List (Nat × Int)) : Ps := ⟨if G.length = 0 then 0 else 4, 0, 0, 0, List.replicate 32 0, 0, false, false, G⟩
theorem rep0 (k : Nat) (j : Nat) : (List.replicate k (0 : Int)).getD j 0 = 0 := by
  simp only [List.getD, List.getElem?_replicate]
  split <;> rfl
theorem backP_ok {n : Nat} {G : List (Nat × Int)} (h1 : 1 ≤ n) (h : ∀ g ∈ G, g.1 < n ∧ 0 < g.2 ∧ g.2 < 4294967296) : OkS n (backP G) := by
  have hx : (backP G).nx = 0 ∨ ((backP G).nx = 4 ∧ 0 < G.length) := by
    unfold backP
    by_cases e : G.length = 0
    · left; simp [e]
    · right; exact ⟨by simp [e], by omega⟩
  refine ⟨fun j => by show U64 ((List.replicate 32 0).getD j 0); rw [rep0]; unfold U64; omega, by simp [backP], by show 0 < n; omega, by simp [backP], fun q => by omega, fun q => by omega, fun q => ?_, h, by omega⟩
  show 0 < G.length
  omega
theorem takeP_ok {n wd mo : Nat} (h1 : wd < n) (h2 : mo ≤ 32) : OkS n ⟨1, wd, n, mo, List.replicate 32 0, 0, false, false, []⟩ :=
  ⟨fun j => by show U64 ((List.replicate 32 0).getD j 0); rw [rep0]; unfold U64; omega, h2, h1, by simp, fun _ => ⟨by show 1 ≤ n; omega, Nat.le_refl _⟩, fun q => by simp at q, fun q => by simp at q, fun g hg => by simp at hg, by simp⟩
set_option maxHeartbeats 8000000 in
theorem pBack_any {w : World} {gp gc gn n : Nat} {size : Int} {l : List Int} (h : PoS w gp gc gn n size l) (h1 : 1 ≤ n) (hn : n ≤ 32) (hs : size ≤ 32 * (n : Int)) {A : Option Addr} {len cap : Nat} {zs : List Int} (hr : RdI w A zs) (hl : zs.length = len) (hlm : len ≤ 1000000) :
    Calls Try.prog 12 #[.pointer (some ⟨gp, 0, none⟩), .slice A len cap] w fun e w' => ∃ gs, e = .returned (.pointer (some ⟨gs, 0, none⟩)) ∧ w.heap.size ≤ gs ∧ StW w' gs gc n (backP (giftsF size zs)) ∧ Below w.heap.size w w' := by
  have HOK := Lib.hid (backP_ok h1 (gifts_ok hn hs zs))
  have c0 : w.cell? ⟨gp, 0, none⟩ = some (.pointer (some ⟨gc, 0, none⟩)) := h.ps.cell 0
  have hpl := h.ps.lt
  have HGF0 := gifts_any (cap := cap) (h.drewN 1) hn hs (show RdI (w.drewN 1) A zs from hr.below (bdrewN w 1)) hl hlm
  obtain ⟨G, hGG⟩ : ∃ G, giftsF size zs = G := ⟨_, rfl⟩
  rw [hGG] at HGF0 HOK ⊢
  have HGF := Lib.hid HGF0
  clear HGF0 hGG hr h
  go_enter Try.func12, Try.ntmps12
  go_upto_region 3 with fail
  refine wp_region_held_drew (S := (fun W => W.cell? ⟨gp, 0, none⟩ = some (.pointer (some ⟨gc, 0, none⟩)))) (by kernel_rfl) (c0) (fun hHeld => ?_)
  refine wpAnyH_take (i := 0) (oi := ⟨some 8, _, _, _, _, _⟩) (v := ?tva0) rfl (by kernel_rfl) (by kernel_rfl) (by kernel_rfl) (fun _ _ _ h => h) (Or.inl ⟨by kernel_rfl, ?tya0⟩) (by assumption) ?tra0
  case tya0 => (intro w hSw; first | (go_simp; done) | (go_simp; with_reducible rfl))
  case' tra0 => try simp only [Act.put, List.setIfInBounds_toArray, List.set_cons_zero, List.set_cons_succ]
  refine wpAnyH_take (i := 1) (oi := ⟨some 9, _, _, _, _, _⟩) (v := ?tva1) rfl (by kernel_rfl) (by kernel_rfl) (by kernel_rfl) (fun _ _ _ h => h) (Or.inl ⟨by kernel_rfl, ?tya1⟩) (by assumption) ?tra1
  case tya1 => (intro w hSw; first | (go_simp; done) | (go_simp; with_reducible rfl))
  case' tra1 => try simp only [Act.put, List.setIfInBounds_toArray, List.set_cons_zero, List.set_cons_succ]
  refine wpAnyH_take (i := 2) (oi := ⟨some 10, _, _, _, _, _⟩) (v := ?tva2) rfl (by kernel_rfl) (by kernel_rfl) (by kernel_rfl) (fun _ _ _ h => h) (Or.inl ⟨by kernel_rfl, ?tya2⟩) (by assumption) ?tra2
  case tya2 => (intro w hSw; first | (go_simp; done) | (go_simp; with_reducible rfl))
  case' tra2 => try simp only [Act.put, List.setIfInBounds_toArray, List.set_cons_zero, List.set_cons_succ]
  refine wpAnyH_take (i := 3) (oi := ⟨some 11, _, _, _, _, _⟩) (v := ?tva3) rfl (by kernel_rfl) (by kernel_rfl) (by kernel_rfl) (fun _ _ _ h => h) (Or.inl ⟨by kernel_rfl, ?tya3⟩) (by assumption) ?tra3
  case tya3 => (intro w hSw; first | (go_simp; done) | (go_simp; with_reducible rfl))
  case' tra3 => try simp only [Act.put, List.setIfInBounds_toArray, List.set_cons_zero, List.set_cons_succ]
  refine wpAnyH_take (i := 4) (oi := ⟨some 12, _, _, _, _, _⟩) (v := ?tva4) rfl (by kernel_rfl) (by kernel_rfl) (by kernel_rfl) (fun _ _ _ h => h) (Or.inl ⟨by kernel_rfl, ?tya4⟩) (by assumption) ?tra4
  case tya4 => (intro w hSw; first | (go_simp; done) | (go_simp; with_reducible rfl))
  case' tra4 => try simp only [Act.put, List.setIfInBounds_toArray, List.set_cons_zero, List.set_cons_succ]
  refine wpAnyH_take (i := 5) (oi := ⟨some 13, _, _, _, _, _⟩) (v := ?tva5) rfl (by kernel_rfl) (by kernel_rfl) (by kernel_rfl) (fun _ _ _ h => h) (Or.inl ⟨by kernel_rfl, ?tya5⟩) (by assumption) ?tra5
  case tya5 => (intro w hSw; first | (go_simp; done) | (go_simp; with_reducible rfl))
  case' tra5 => try simp only [Act.put, List.setIfInBounds_toArray, List.set_cons_zero, List.set_cons_succ]
  refine wpAnyH_ready (rs := [6]) (by kernel_rfl) (by simp) ?_
  refine AllReadyH.cons (o := ⟨some 14, _, _, _, _, _⟩) rfl (fun K hK => ?_) AllReadyH.nil
  go_simp
  go_at_call 42
  refine (HGF.out).mono ?_
  rintro e w2 ⟨gl, m, rfl, hgl, hgl2, hgi, hb⟩
  have k0 := (hb.cell (p := ⟨gp, 0, none⟩) hpl).trans c0
  have HGI := Lib.hid hgi
  have HB := Lib.hid hb
  clear hgi hb
  have hSa6 : ((fun W => W.cell? ⟨gp, 0, none⟩ = some (.pointer (some ⟨gc, 0, none⟩)))) w2 := k0
  refine hK.out _ _ hSa6 (fun hHeld0 => ?_)
  clear hK K hHeld0 hHeld
  try simp only [Act.put, List.setIfInBounds_toArray, List.set_cons_zero, List.set_cons_succ]
  have hHeld : ((fun W => W.cell? ⟨gp, 0, none⟩ = some (.pointer (some ⟨gc, 0, none⟩)))) w2 := hSa6
  clear hSa6
  refine wpAnyH_take (i := 7) (oi := ⟨some 15, _, _, _, _, _⟩) (v := .agg ((back0 G : Ps).cs gc (.slice (some ⟨gl, 0, none⟩) m m)).toArray) rfl (by kernel_rfl) (by kernel_rfl) (by kernel_rfl) (fun _ _ _ h => h) (Or.inl ⟨by kernel_rfl, ?tya7⟩) (by assumption) ?tra7
  case tya7 => (intro w hSw; go_simp; rfl)
  case' tra7 => try simp only [Act.put, List.setIfInBounds_toArray, List.set_cons_zero, List.set_cons_succ]
  
  refine wpAnyH_ready (rs := [8]) (by kernel_rfl) (by simp) ?_
  refine AllReadyH.cons (o := ⟨some 16, _, _, _, _, _⟩) rfl (fun K hK => ?_) AllReadyH.nil
  go_simp
  have hal := ball w2 (.cells ((back0 G : Ps).cs gc (.slice (some ⟨gl, 0, none⟩) m m)).toArray 78)
  have hpl2 : gp < w2.heap.size := Nat.lt_of_lt_of_le hpl HB.out.size
  have hS2 : (w2.alloc (.cells ((back0 G : Ps).cs gc (.slice (some ⟨gl, 0, none⟩) m m)).toArray 78)).cell? ⟨gp, 0, none⟩ = some (.pointer (some ⟨gc, 0, none⟩)) := (hal.cell (p := ⟨gp, 0, none⟩) hpl2).trans k0
  refine hK.out _ _ hS2 (fun hHeld0 => ?_)
  clear hK K hHeld0 hHeld
  try simp only [Act.put, List.setIfInBounds_toArray, List.set_cons_zero, List.set_cons_succ]
  refine wpAnyH_take (i := 9) (oi := ⟨some 5, _, _, _, _, _⟩) (v := ?tv12) rfl (by kernel_rfl) (by kernel_rfl) (by kernel_rfl) (fun _ _ _ h => h) (Or.inl ⟨by kernel_rfl, ?ty12⟩) hS2 ?tr12
  case ty12 => (intro w hSw; first | (go_simp; done) | (go_simp; with_reducible rfl))
  case' tr12 => try simp only [Act.put, List.setIfInBounds_toArray, List.set_cons_zero, List.set_cons_succ]
  refine wpAnyH_done (by kernel_rfl) ?_ _
  have hsz := HB.out.size
  have HQ := Lib.hid (show StP (w2.alloc (.cells ((back0 G : Ps).cs gc (.slice (some ⟨gl, 0, none⟩) m m)).toArray 78)) w2.heap.size gc (.slice (some ⟨gl, 0, none⟩) m m) (back0 G) from ⟨Blk.new w2 _ _, by simp [back0]⟩)
  have HB2 := Lib.hid (bthen (show Below w.heap.size w w2 from bthen (bdrewN w 1) HB.out) hal)
  have HGI2 := Lib.hid ((HGI.out w2.heap.size (by omega)).below hal)
  have hsz2 : w.heap.size ≤ w2.heap.size := hsz
  clear hS2 hal k0 hpl2 HGI HB
  generalize (w2.alloc (.cells ((back0 G : Ps).cs gc (.slice (some ⟨gl, 0, none⟩) m m)).toArray 78)) = w9 at *
  generalize w2.heap.size = gs at *
  have HOG := Lib.hid (openGift_any HQ.out)
  go_wp2_with (go_at_call 43; refine (HOG.out).mono ?_; rintro e w4 ⟨rfl, h4, hz4, k4⟩)
  go_ret
  obtain ⟨A0, n0, c0', e0, hl0, _⟩ := HGI2.out
  injection e0 with e0 e1 e2
  have hGl : G.length = m := by rw [hl0, e1]
  refine ⟨gs, rfl, hsz2, ⟨⟨.slice (some ⟨gl, 0, none⟩) m m, ?_, HGI2.out.self k4⟩, HOK.out⟩, k4.below HB2.out (Nat.le_refl _) (fun x hx => by rw [List.mem_singleton] at hx; omega)⟩
  unfold backP
  rw [hGl]
  exact h4
end Go.Proofs.Ytmbceafeonjffaa

namespace Go.Proofs.Ytmbceafeonjffaa
open Go.RowKit Go.Deep Plain
set_option linter.unusedVariables false
set_option linter.unusedSimpArgs false
set_option maxRecDepth 100000
theorem own0I {w : World} {g : Nat} (hb : Blk w g 3 #[]) : w.ownsRow g 3 1 (.slice (some ⟨g, 0, none⟩) 0 0) 0 (iv []) :=
  ⟨rfl, Or.inr ⟨g, 0, #[], rfl, Nat.le_refl _, hb, Nat.le_refl _, Nat.zero_le _, rfl, rfl⟩⟩
/-- many are appended to a row of none -/
theorem wpList_app0I {w : World} {g : Nat} {ops : Array Oper} {rest : List Oper} {o : Oper} {a : Act} {Q : Exit → Act → World → Prop} (hgd : o.guard = none) (s x : Operand)
    (ho : o.op = .call { callee := .builtin .append, args := #[s, x], argTypes := #[29, 29] })
    (hs : a.eval s = .slice (some ⟨g, 0, none⟩) 0 0) (hb : Blk w g 3 #[]) {B : Option Addr} {m d : Nat} (ys : List Int) (hx : a.eval x = .slice B m d) (hR : RdI w B ys) (hm : ys.length = m) (hl : m ≤ 1000000)
    (h : ∀ A' c' w', RdI w' A' ys → Keep [g] w w' → wpList Try.prog ops Q rest (a.put o.dst (.slice A' m c')) w') : wpList Try.prog ops Q (o :: rest) a w := by
  obtain ⟨i, hi, hz, hsz, hby⟩ := info_parts infoInt
  rcases B with _ | ad
  · have hm0 : ys = [] := by
      rcases Nat.eq_zero_or_pos ys.length with h0 | h0
      · exact List.length_eq_zero_iff.1 h0
      · obtain ⟨_, _, h, _⟩ := hR h0
        cases h
    subst hm0
    have hm0 : m = 0 := by simpa using hm.symm
    subst hm0
    by_cases hd : d = 0
    · subst hd
      refine wpList_append_own_none hgd s x 29 ho g 3 i 1 Try.underlying29 hi _ 0 (iv []) hs (own0I hb) hx ?_
      exact h (some ⟨g, 0, none⟩) 0 w (fun h => absurd h (by simp)) (Keep.refl _ _)
    · refine wpList_plain hgd fun K hK => ?_
      unfold Oper.wp execOp
      have hrun : (Builtin.append_ #[29, 29] o.type #[.slice (some ⟨g, 0, none⟩) 0 0, .slice none 0 d]).run Try.prog w = .ok (.slice (some ⟨g, 0, none⟩) 0 0) w := by
        simp [Builtin.append_, run_underlying Try.underlying29, sizeOf, typeInfo, hi, Builtin.lenOf, Builtin.firstCells, storeCells]
      simp only [ho, resolve, invoke, builtin, Sem.run_bind, Sem.run_pure, Result.andThen_ok, List.map_toArray, List.map_cons, List.map_nil, hs, hx, hrun]
      exact hK _ _ (h (some ⟨g, 0, none⟩) 0 w (fun h => absurd h (by simp)) (Keep.refl _ _))
  · have hcells : ∀ j u, (iv ys)[j]? = some u → w.cell? (ad.add j) = some u := by
      intro j u hu
      have hj : j < ys.length := by have := (List.getElem?_eq_some_iff.1 hu).1; simpa [iv] using this
      obtain ⟨b, off, e, _, hc⟩ := hR (by omega)
      injection e with e
      subst e
      rw [addr_add, hc j hj, ← hu]
      simp [iv, hj, List.getD]
    refine wpList_append_own_at w hgd s x 29 ho g 3 i (.int .i64 0) 1 8 Try.underlying29 hi hz hsz hby rfl (by decide) _ 0 (iv []) hs (own0I hb) ad m d (iv ys) hx (by simpa [iv] using hm) hcells (by intro u hu; obtain ⟨x, _, rfl⟩ := List.mem_map.1 hu; rfl) (by unfold maxLen; omega) (by omega) (Nat.le_of_lt hb.lt) ?_
    intro v' w' how hg hnil hat
    rw [Nat.zero_add] at how
    have hk : Keep [g] w w' := Keep.of_grownO hg (fun g1 h1 => by cases h1; simp)
    rcases how.2 with ⟨e, hn0⟩ | ⟨g', cap, cur, e, hb', hh, hnc, hcm, hcs, htk⟩
    · subst e
      have hn : m = 0 := by simpa using hn0
      subst hn
      have hm0 : ys = [] := List.length_eq_zero_iff.1 hm
      subst hm0
      exact h none 0 w' (fun h => absurd h (by simp)) hk
    · subst e
      refine h (some ⟨g', 0, none⟩) cap w' (fun hp => ?_) hk
      have hblk : Blk w' g' 3 cur := hh
      refine ⟨g', 0, rfl, hblk.lt, fun k hk' => ?_⟩
      rw [Nat.zero_add, hblk.cell k]
      rw [Nat.mul_one] at htk
      have h3 : (cur.toList.take m)[k]? = (iv ([] ++ ys))[k]? := by rw [htk]; simp [iv]
      rw [List.getElem?_take_of_lt (by omega)] at h3
      have h4 : (iv ([] ++ ys))[k]? = some (.int .i64 (ys.getD k 0)) := by simp [iv, hk', List.getD]
      rw [h4] at h3
      simpa using h3
set_option maxHeartbeats 4000000 in
theorem few_any {w : World} {A : Option Addr} {len cap : Nat} {zs : List Int} (hr : RdI w A zs) (hl : zs.length = len) (hc : len ≤ cap) (hm : cap ≤ maxLen) :
    Calls Try.prog 18 #[.slice A len cap] w fun e w' => ∃ A' m c', e = .returned (.slice A' m c') ∧ RdI w' A' (zs.take 40) ∧ (zs.take 40).length = m ∧ m ≤ 40 ∧ Below w.heap.size w w' := by
  obtain ⟨k, hk⟩ : ∃ k : Nat, min (len : Int) 40 = (k : Int) := ⟨min len 40, by omega⟩
  have hkl : (zs.take 40).length = k := by rw [List.length_take]; omega
  have hR : RdI w A (zs.take 40) := fun hp => by
    rw [List.length_take] at hp
    obtain ⟨b, off, e, hb, hcc⟩ := hr (by omega)
    refine ⟨b, off, e, hb, fun j hj => ?_⟩
    rw [List.length_take] at hj
    rw [hcc j (by omega)]
    simp [List.getD, List.getElem?_take_of_lt (show j < 40 by omega)]
  have hal := ball w (.cells #[] 3)
  have HR := Lib.hid (hR.below hal)
  have HB := Lib.hid hal
  have HE := Lib.hid (Blk.new w 3 #[])
  have HKL := Lib.hid hkl
  have hk40 : k ≤ 40 := by omega
  have hkc : k ≤ cap := by omega
  clear hr hR hkl hal
  go_enter Try.func18, Try.ntmps18
  go_wp2_with (at_builtin; refine wpList_app0I rfl (.tmp 3) (.tmp 8) rfl rfl (HE.out) (zs.take 40) rfl (HR.out) (HKL.out) (by omega) ?_; intro A' c' w' hr' hk'; have HR1 := Lib.hid hr'; have HK1 := Lib.hid hk'; clear hr' hk')
  go_ret
  exact ⟨A', k, c', rfl, HR1.out, HKL.out, hk40, HK1.out.below HB.out (Nat.le_refl _) (fun x hx => by rw [List.mem_singleton] at hx; omega)⟩
/-- many steps alone -/
def itP (n : Nat) (l : List Int) (s : Ps) : Nat → List Int × Ps
  | 0 => (l, s)
  | k + 1 => stpP n (itP n l s k).1 (itP n l s k).2
/-- what run tells -/
def RunOk (n gp gc gn gs : Nat) (size : Int) (l : List Int) (s : Ps) (w : World) (e : Ending) (w' : World) : Prop :=
  ∃ k, k ≤ 299 ∧ PoS w' gp gc gn n size (itP n l s k).1 ∧ StW w' gs gc n (itP n l s k).2 ∧ Keep [gn, gs] w w' ∧ (∀ j, 0 < j → j < k → (itP n l s j).2.nx ≠ 0) ∧ ((1 ≤ k ∧ (itP n l s k).2.nx = 0 ∧ e = .returned (.int .i64 k)) ∨ (k = 299 ∧ (itP n l s k).2.nx ≠ 0 ∧ e = .returned (.int .i64 (-1))))
def RunR (n gp gc gn gs : Nat) (size : Int) (l : List Int) (s : Ps) (w : World) (s5 : Value) (wr : World) : Prop :=
  ∃ k : Nat, k ≤ 299 ∧ s5 = .int .i64 ((k + 1 : Nat) : Int) ∧ PoS wr gp gc gn n size (itP n l s k).1 ∧ StW wr gs gc n (itP n l s k).2 ∧ Keep [gn, gs] w wr ∧ (∀ j, 0 < j → j ≤ k → (itP n l s j).2.nx ≠ 0)
set_option maxHeartbeats 4000000 in
theorem run8_any {w : World} {gp gc gn n gs : Nat} {size : Int} {l : List Int} {s : Ps} (hp : PoS w gp gc gn n size l) (hs : StW w gs gc n s) (hn : n ≤ 32) :
    Calls Try.prog 17 #[.pointer (some ⟨gp, 0, none⟩), .pointer (some ⟨gs, 0, none⟩)] w (RunOk n gp gc gn gs size l s w) := by
  have HP := Lib.hid hp
  have HS := Lib.hid hs
  clear hp hs
  go_enter Try.func17, Try.ntmps17
  go_wp2
  go_loopw [5] (fun s5 wr => RunR n gp gc gn gs size l s w s5 wr) (fun s5 _ => 300 - (intOf s5).toNat)
  case atStart => exact ⟨0, by omega, rfl, HP.out, HS.out, Keep.refl _ _, fun j h1 h2 => by omega⟩
  case round =>
    obtain ⟨k, hk, rfl, hp, hs, hkp, hnd⟩ := hrel
    have HD := Lib.hid (pDo_any hp hs hn)
    have HP1 := Lib.hid hp
    have HS1 := Lib.hid hs
    have HKP := Lib.hid hkp
    have HND := Lib.hid hnd
    have HIT := Lib.hid (show itP n l s (k + 1) = stpP n (itP n l s k).1 (itP n l s k).2 from rfl)
    clear hp hs hkp hnd HP HS
    by_cases hlt : k < 299
    · have d : decide (((k + 1 : Nat) : Int) < 300) = true := decide_eq_true (by omega)
      have d' : decide ((k : Int) + 1 < 300) = true := decide_eq_true (by omega)
      by_cases hx : (stpP n (itP n l s k).1 (itP n l s k).2).2.nx = 0
      · have HX := Lib.hid hx
        have HD1 := HD.out
        rw [decide_eq_true hx] at HD1
        have HDD := Lib.hid HD1
        clear hx HD HD1
        go_wp2_with (go_at_call 14; refine (HDD.out).mono ?_; rintro e w2 ⟨rfl, h2, s2, k2⟩; have H2 := Lib.hid h2; have S2 := Lib.hid s2; have K2 := Lib.hid k2; clear h2 s2 k2)
        refine bodyPost_ret (v := .int .i64 ((k : Int) + 1)) (by first | rfl | kernel_rfl | (simp [results, go_sem]; done)) rfl ?_
        exact ⟨k + 1, by omega, by rw [HIT.out]; exact H2.out, by rw [HIT.out]; exact S2.out, HKP.out.trans K2.out, fun j h1 h2 => HND.out j h1 (by omega), .inl ⟨by omega, by rw [HIT.out]; exact HX.out, rfl⟩⟩
      · have HX := Lib.hid hx
        have HD1 := HD.out
        rw [decide_eq_false hx] at HD1
        have HDD := Lib.hid HD1
        clear hx HD HD1
        go_wp2_with (go_at_call 14; refine (HDD.out).mono ?_; rintro e w2 ⟨rfl, h2, s2, k2⟩; have H2 := Lib.hid h2; have S2 := Lib.hid s2; have K2 := Lib.hid k2; clear h2 s2 k2)
        go_roundw
        case rel => exact ⟨k + 1, by omega, by go_num, by rw [HIT.out]; exact H2.out, by rw [HIT.out]; exact S2.out, HKP.out.trans K2.out, fun j h1 h2 => by
          by_cases e : j = k + 1
          · subst e; rw [HIT.out]; exact HX.out
          · exact HND.out j h1 (by omega)⟩
        case measure => simp [intOf]; omega
    · obtain rfl : k = 299 := by omega
      go_wp2
      go_ret
      exact ⟨299, by omega, HP1.out, HS1.out, HKP.out, fun j h1 h2 => HND.out j h1 (by omega), .inr ⟨rfl, HND.out 299 (by omega) (by omega), rfl⟩⟩
end Go.Proofs.Ytmbceafeonjffaa
