/-
  How many go on at one time: by looking at each, and by two sorted lists. Plain lists; conditions stand in each theorem.
-/
import Derived.Test.YtmbceafeonjffaaGA
namespace Go.Proofs.Ytmbceafeonjffaa
open Plain
set_option linter.unusedVariables false
set_option linter.unusedSimpArgs false

abbrev T3 := Int × Int × Bool
def rg1 (p : T3) : Bool := decide (1 ≤ p.1) && (if p.2.1 = -1 then !p.2.2 else decide (p.1 < p.2.1))
def rgt (L : List T3) : Bool := L.all rg1
def liv (v : Int) (p : T3) : Bool := decide (p.1 ≤ v) && (p.2.1 == -1 || decide (v < p.2.1))
def mx (l : List Nat) : Nat := l.foldl max 0
def cnt (v : Int) (L : List T3) : Nat := (L.filter (liv v)).length
def wid (L : List T3) : Nat := mx (L.map fun p => cnt p.1 L)
def lec (v : Int) (l : List Int) : Nat := (l.filter fun x => decide (x ≤ v)).length
def wst (bs es : List Int) (i : Nat) : Nat := mx ((List.range i).map fun j => j + 1 - lec (bs.getD j 0) es)
def bsOf (L : List T3) : List Int := L.map fun p => p.1
def esOf (L : List T3) : List Int := (L.map fun p => p.2.1).filter fun e => e != -1

theorem foldl_max (l : List Nat) : ∀ a, l.foldl max a = max a (l.foldl max 0) := by
  induction l with
  | nil => intro a; simp
  | cons x l ih => intro a; simp only [List.foldl_cons]; rw [ih (max a x), ih (max 0 x)]; omega
theorem mx_snoc (l : List Nat) (x : Nat) : mx (l ++ [x]) = max (mx l) x := by unfold mx; rw [List.foldl_append]; rfl
theorem le_mx {l : List Nat} {x : Nat} (h : x ∈ l) : x ≤ mx l := by
  unfold mx
  induction l with
  | nil => cases h
  | cons y l ih =>
    rw [List.foldl_cons, foldl_max]
    rcases List.mem_cons.1 h with rfl | h
    · omega
    · have := ih h; omega
theorem mx_le {l : List Nat} {k : Nat} (h : ∀ x ∈ l, x ≤ k) : mx l ≤ k := by
  unfold mx
  induction l with
  | nil => simp
  | cons y l ih =>
    rw [List.foldl_cons, foldl_max]
    have h1 := h y (List.mem_cons_self)
    have h2 := ih (fun x hx => h x (List.mem_cons_of_mem _ hx))
    omega
theorem wst_succ (bs es : List Int) (i : Nat) : wst bs es (i + 1) = max (wst bs es i) (i + 1 - lec (bs.getD i 0) es) := by
  unfold wst; rw [List.range_succ, List.map_append, List.map_cons, List.map_nil, mx_snoc]
theorem wst_zero (bs es : List Int) : wst bs es 0 = 0 := rfl
theorem lec_le (v : Int) (l : List Int) : lec v l ≤ l.length := List.length_filter_le _ _
theorem lec_perm (v : Int) {l l' : List Int} (h : l.Perm l') : lec v l = lec v l' := (h.filter _).length_eq
theorem lec_mono {v v' : Int} (h : v ≤ v') (l : List Int) : lec v l ≤ lec v' l := by
  unfold lec
  induction l with
  | nil => simp
  | cons x l ih =>
    by_cases h1 : x ≤ v
    · have h2 : x ≤ v' := by omega
      simp [h1, h2, ih]
    · by_cases h2 : x ≤ v'
      · simp [h1, h2]; omega
      · simp [h1, h2, ih]
/-- in a sorted list those that are at most v stand first -/
theorem lec_at {l : List Int} (h : l.Pairwise (· ≤ ·)) (v : Int) : ∀ j, j < l.length → (l.getD j 0 ≤ v ↔ j < lec v l) := by
  induction l with
  | nil => intro j hj; simp at hj
  | cons x l ih =>
    obtain ⟨h1, h2⟩ := List.pairwise_cons.1 h
    intro j hj
    by_cases hx : x ≤ v
    · have e : lec v (x :: l) = lec v l + 1 := by unfold lec; simp [hx]
      rw [e]
      cases j with
      | zero => simp [hx]
      | succ j =>
        have := ih h2 j (by simpa using hj)
        have e2 : (x :: l).getD (j + 1) 0 = l.getD j 0 := by simp [List.getD]
        rw [e2]; omega
    · have z : ∀ y ∈ l, ¬ y ≤ v := fun y hy => by have := h1 y hy; omega
      have e : lec v (x :: l) = 0 := by
        unfold lec
        rw [List.length_eq_zero_iff, List.filter_eq_nil_iff]
        intro y hy
        rcases List.mem_cons.1 hy with rfl | hy
        · simp; omega
        · have := z y hy; simp; omega
      rw [e]
      cases j with
      | zero => simp; omega
      | succ j =>
        have hj' : j < l.length := by simpa using hj
        have e2 : (x :: l).getD (j + 1) 0 = l.getD j 0 := by simp [List.getD]
        have e3 : l.getD j 0 = l[j] := by simp [List.getD, hj']
        have := z _ (List.getElem_mem hj')
        rw [e2, e3]; omega
theorem lec_cons (v x : Int) (l : List Int) : lec v (x :: l) = (if x ≤ v then 1 else 0) + lec v l := by
  unfold lec
  by_cases h : x ≤ v
  · simp [h]; omega
  · simp [h]
theorem cnt_cons (v : Int) (p : T3) (L : List T3) : cnt v (p :: L) = (if liv v p = true then 1 else 0) + cnt v L := by
  unfold cnt
  by_cases h : liv v p = true
  · simp [h]; omega
  · simp [h]
theorem esOf_cons (p : T3) (L : List T3) : esOf (p :: L) = if p.2.1 = -1 then esOf L else p.2.1 :: esOf L := by
  unfold esOf
  by_cases h : p.2.1 = -1
  · simp [h]
  · simp [h]
theorem bsOf_cons (p : T3) (L : List T3) : bsOf (p :: L) = p.1 :: bsOf L := rfl
theorem cnt_eq (L : List T3) (h : rgt L = true) (v : Int) : cnt v L + lec v (esOf L) = lec v (bsOf L) := by
  unfold rgt at h
  induction L with
  | nil => rfl
  | cons p L ih =>
    rw [List.all_cons, Bool.and_eq_true] at h
    have ih := ih h.2
    obtain ⟨b, e, f⟩ := p
    have h1 := h.1
    unfold rg1 at h1
    simp only [Bool.and_eq_true, decide_eq_true_eq] at h1
    rw [cnt_cons, esOf_cons, bsOf_cons, lec_cons]
    show (if liv v (b, e, f) = true then 1 else 0) + cnt v L + lec v (if e = -1 then esOf L else e :: esOf L) = (if b ≤ v then 1 else 0) + lec v (bsOf L)
    have hl : liv v (b, e, f) = (decide (b ≤ v) && (e == -1 || decide (v < e))) := rfl
    by_cases he : e = -1
    · rw [if_pos he, hl]
      by_cases hb : b ≤ v
      · simp [hb, he]; omega
      · simp [hb]; omega
    · have hbe : b < e := by have := h1.2; rw [if_neg he] at this; simpa using this
      rw [if_neg he, lec_cons, hl]
      by_cases hb : b ≤ v
      · by_cases hv : e ≤ v
        · have h3 : ¬ v < e := by omega
          simp [hb, he, hv, h3]; omega
        · have h3 : v < e := by omega
          simp [hb, he, hv, h3]; omega
      · have hv : ¬ e ≤ v := by omega
        simp [hb, hv]; omega
theorem wid_wst (L : List T3) (h : rgt L = true) (bs es : List Int) (hb : bs.Perm (bsOf L)) (he : es.Perm (esOf L)) (hs : bs.Pairwise (· ≤ ·)) : wst bs es bs.length = wid L := by
  have hc : ∀ v, lec v bs - lec v es = cnt v L := fun v => by
    have := cnt_eq L h v
    rw [lec_perm v hb, lec_perm v he]; omega
  apply Nat.le_antisymm
  · unfold wst
    refine mx_le fun x hx => ?_
    obtain ⟨j, hj, rfl⟩ := List.mem_map.1 hx
    have hj := List.mem_range.1 hj
    have hm : bs.getD j 0 ∈ bs := by
      have : bs.getD j 0 = bs[j] := by simp [List.getD, hj]
      rw [this]; exact List.getElem_mem hj
    have hm2 : bs.getD j 0 ∈ bsOf L := hb.mem_iff.1 hm
    unfold bsOf at hm2
    obtain ⟨p, hp, hpe⟩ := List.mem_map.1 hm2
    have hlt := (lec_at hs (bs.getD j 0) j hj).1 (Int.le_refl _)
    have h1 := hc (bs.getD j 0)
    have h2 : cnt p.1 L ≤ wid L := le_mx (List.mem_map.2 ⟨p, hp, rfl⟩)
    rw [hpe] at h2
    omega
  · unfold wid
    refine mx_le fun x hx => ?_
    obtain ⟨p, hp, rfl⟩ := List.mem_map.1 hx
    have hm : p.1 ∈ bs := hb.mem_iff.2 (List.mem_map.2 ⟨p, hp, rfl⟩)
    obtain ⟨t, ht, hte⟩ := List.mem_iff_getElem.1 hm
    have htd : bs.getD t 0 = p.1 := by rw [← hte]; simp [List.getD, ht]
    have h1 := (lec_at hs p.1 t ht).1 (by omega)
    obtain ⟨j, hj⟩ : ∃ j, lec p.1 bs = j + 1 := ⟨lec p.1 bs - 1, by omega⟩
    have hjl : j < bs.length := by have := lec_le p.1 bs; omega
    have h2 := (lec_at hs p.1 j hjl).2 (by omega)
    have h3 : p.1 ≤ bs.getD j 0 := by
      have e1 : bs.getD j 0 = bs[j] := by simp [List.getD, hjl]
      rw [e1, ← hte]
      rcases Nat.lt_or_ge t j with h | h
      · exact List.pairwise_iff_getElem.1 hs t j ht hjl h
      · obtain rfl : t = j := by omega
        exact Int.le_refl _
    have h4 : bs.getD j 0 = p.1 := by omega
    have h5 : j + 1 - lec (bs.getD j 0) es ≤ wst bs es bs.length := le_mx (List.mem_map.2 ⟨j, List.mem_range.2 hjl, rfl⟩)
    have h6 := hc p.1
    rw [h4] at h5
    omega
end Go.Proofs.Ytmbceafeonjffaa
