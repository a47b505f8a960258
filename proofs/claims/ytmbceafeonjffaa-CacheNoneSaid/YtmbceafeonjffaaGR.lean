/-
  Several small texts in one: CaP, CaQ, CaR, CaT, CaX. Conditions stand in each theorem.
-/
import Derived.Test.YtmbceafeonjffaaGQ
import Derived.Test.YtmbceafeonjffaaGP
namespace Go.Proofs.Ytmbceafeonjffaa
open Plain
set_option linter.unusedVariables false
set_option linter.unusedSimpArgs false
set_option maxRecDepth 100000
theorem itP_add (n : Nat) (l : List Int) (s : Ps) (a : Nat) : ∀ b, itP n l s (a + b) = itP n (itP n l s a).1 (itP n l s a).2 b
  | 0 => rfl
  | b + 1 => by
    show stpP n (itP n l s (a + b)).1 (itP n l s (a + b)).2 = _
    rw [itP_add n l s a b]
    rfl
theorem stp_rd (n : Nat) (l : List Int) (s : Ps) : (stpP n l s).2.rd.length = s.rd.length := by
  unfold stpP
  split
  · simp only
    split
    · simp
    · split <;> simp
  · simp only
    split <;> simp
  · split
    · simp
    · split <;> simp
  · simp only
    split
    · simp [Ps.close]
    · simp
  · simp only
    split
    · simp [Ps.close]
    · simp
  · rfl
theorem itP_rd (n : Nat) (l : List Int) (s : Ps) : ∀ k, (itP n l s k).2.rd.length = s.rd.length
  | 0 => rfl
  | k + 1 => by
    show (stpP n (itP n l s k).1 (itP n l s k).2).2.rd.length = _
    rw [stp_rd, itP_rd n l s k]
/-- one word of a Back alone: one or two steps -/
theorem bk_word (n : Nat) (l : List Int) (s : Ps) (h4 : s.nx = 4) (hr : s.rd.length = 32) (h0 : (s.gi.getD 0 (0, 0)).1 < 32) :
    ∃ k, 1 ≤ k ∧ k ≤ 2 ∧ (itP n l s k).2.gi = s.gi.drop 1 ∧ (itP n l s k).2.nx = if s.gi.length ≤ 1 then 0 else 4 := by
  by_cases q : ((l.getD (s.gi.getD 0 (0, 0)).1 0) % 4294967296).toNat &&& (s.gi.getD 0 (0, 0)).2.toNat = 0
  · refine ⟨1, by omega, by omega, ?_⟩
    have e : itP n l s 1 = (l, ({ s with rd := s.rd.set (s.gi.getD 0 (0, 0)).1 (l.getD (s.gi.getD 0 (0, 0)).1 0) } : Ps).close) := by
      show stpP n l s = _
      unfold stpP
      rw [h4]
      simp only
      rw [if_pos q]
    rw [e]
    exact ⟨rfl, rfl⟩
  · refine ⟨2, by omega, by omega, ?_⟩
    have e : itP n l s 1 = (l, { s with rd := s.rd.set (s.gi.getD 0 (0, 0)).1 (l.getD (s.gi.getD 0 (0, 0)).1 0), nx := 5 }) := by
      show stpP n l s = _
      unfold stpP
      rw [h4]
      simp only
      rw [if_neg q]
    have e2 : itP n l s 2 = stpP n (itP n l s 1).1 (itP n l s 1).2 := rfl
    rw [e2, e]
    unfold stpP
    simp only
    rw [if_pos (by simp only [List.getD, List.getElem?_set_self (show (s.gi[0]?.getD (0, 0)).1 < s.rd.length by rw [hr]; exact h0)]; rfl)]
    exact ⟨rfl, rfl⟩
/-- a Back alone is done behind two steps for each word -/
theorem bk_end (n : Nat) : ∀ (m : Nat) (l : List Int) (s : Ps), s.nx = 4 → s.gi.length = m + 1 → s.rd.length = 32 → (∀ g ∈ s.gi, g.1 < 32) → ∃ k, 1 ≤ k ∧ k ≤ 2 * (m + 1) ∧ (itP n l s k).2.nx = 0
  | 0, l, s, h4, hl, hr, hg => by
    obtain ⟨k, k1, k2, _, hx⟩ := bk_word n l s h4 hr (hg _ (by rw [List.getD, List.getElem?_eq_getElem (by omega)]; exact List.getElem_mem _))
    exact ⟨k, k1, k2, by rw [hx, if_pos (by omega)]⟩
  | m + 1, l, s, h4, hl, hr, hg => by
    obtain ⟨k, k1, k2, he, hx⟩ := bk_word n l s h4 hr (hg _ (by rw [List.getD, List.getElem?_eq_getElem (by omega)]; exact List.getElem_mem _))
    rw [if_neg (by omega)] at hx
    obtain ⟨k', j1, j2, j3⟩ := bk_end n m (itP n l s k).1 (itP n l s k).2 hx (by rw [he, List.length_drop]; omega) (by rw [itP_rd]; exact hr) (fun g q => hg g (List.mem_of_mem_drop (by rw [he] at q; exact q)))
    exact ⟨k + k', by omega, by omega, by rw [itP_add]; exact j3⟩
/-- a Take alone is done behind n + 1 steps -/
theorem tk_end {n : Nat} {l : List Int} {s : Ps} (h : TkI n l s 0 0) (hr : s.rd.length = 32) (hn : n ≤ 32) : ∃ k, 1 ≤ k ∧ k ≤ n + 2 ∧ (itP n l s k).2.nx = 0 := by
  have key : ∀ k, (∃ j, 1 ≤ j ∧ j ≤ k ∧ (itP n l s j).2.nx = 0) ∨ TkI n (itP n l s k).1 (itP n l s k).2 k 0 := by
    intro k
    induction k with
    | zero => exact .inr h
    | succ k ih =>
      rcases ih with ⟨j, j1, j2, j3⟩ | ih
      · exact .inl ⟨j, j1, by omega, j3⟩
      · rcases (ih.step (by rw [itP_rd]; exact hr) hn).2 with q | q
        · exact .inl ⟨k + 1, by omega, Nat.le_refl _, q⟩
        · exact .inr q
  rcases key (n + 2) with ⟨j, j1, j2, j3⟩ | q
  · exact ⟨j, j1, j2, j3⟩
  · have := q.bound
    omega
end Go.Proofs.Ytmbceafeonjffaa

namespace Go.Proofs.Ytmbceafeonjffaa
open Plain
set_option linter.unusedVariables false
set_option linter.unusedSimpArgs false
set_option maxRecDepth 100000
theorem stp_gi (n : Nat) (l : List Int) (s : Ps) : (stpP n l s).2.gi = s.gi ∨ (stpP n l s).2.gi = s.gi.drop 1 := by
  unfold stpP
  split
  · simp only
    split
    · exact .inl rfl
    · split <;> exact .inl rfl
  · simp only
    split <;> exact .inl rfl
  · split
    · exact .inl rfl
    · split <;> exact .inl rfl
  · simp only
    split
    · exact .inr rfl
    · exact .inl rfl
  · simp only
    split
    · exact .inr rfl
    · exact .inl rfl
  · exact .inl rfl
theorem left_drop (gi : List (Nat × Int)) (x : Int) (h : x ∈ leftF (gi.drop 1)) : x ∈ leftF gi := by
  obtain ⟨y, rfl, g, hg, q⟩ := (mem_leftF _ _).1 h
  exact (mem_leftF _ _).2 ⟨y, rfl, g, List.mem_of_mem_drop hg, q⟩
theorem stp_left (n : Nat) (l : List Int) (s : Ps) (x : Int) (h : x ∈ leftF (stpP n l s).2.gi) : x ∈ leftF s.gi := by
  rcases stp_gi n l s with e | e
  · rwa [e] at h
  · rw [e] at h; exact left_drop _ _ h
theorem stp_len' (n : Nat) (l : List Int) (s : Ps) : (stpP n l s).1.length = l.length := stp_len n l s
section
variable {N k v : Nat} {l own : List Int} {st : Nat → Option Ps} {bk : Nat → Bool} {s : Ps}
theorem upS_up {α : Type} (f : Nat → α) (v : Nat) (x y : α) : upS (upS f v x) v y = upS f v y := by
  funext u
  unfold upS
  split <;> rfl
/-- whose each number is while a Step goes on: what went back is nobody's -/
def midO (own : List Int) (a b : List (Nat × Int)) (k : Nat) : List Int := (List.range k).map fun y : Nat => if (y : Int) ∈ leftF a ∧ (y : Int) ∉ leftF b then 0 else own.getD y 0
theorem midO_len (own : List Int) (a b : List (Nat × Int)) (k : Nat) : (midO own a b k).length = k := by simp [midO]
theorem midO_at (own : List Int) (a b : List (Nat × Int)) (k y : Nat) (h : y < k) : (midO own a b k).getD y 0 = if (y : Int) ∈ leftF a ∧ (y : Int) ∉ leftF b then 0 else own.getD y 0 := by
  simp [midO, List.getD, h]
/-- a worker's Step goes on alone -/
theorem OwP.goes (h : OwP N k l own st bk) (hv : v < 4) (hs : st v = some s) (hok : OkS N s) (hu : ∀ j, U64 (l.getD j 0)) (hk : k ≤ 32 * N) (hl : l.length = N)
    (hus : ∀ m j, U64 ((itP N l s m).1.getD j 0)) : ∀ m, (∀ j, 0 < j → j ≤ m → (itP N l s j).2.nx ≠ 0) →
    OwP N k (itP N l s m).1 (midO own s.gi (itP N l s m).2.gi k) (upS st v (some (itP N l s m).2)) bk ∧ OkS N (itP N l s m).2 ∧ (itP N l s m).1.length = N ∧ ∀ x, x ∈ leftF (itP N l s m).2.gi → x ∈ leftF s.gi
  | 0, _ => by
    refine ⟨h.same hv (midO_len _ _ _ _) (fun y hy => ?_) (fun x hx => ?_), hok, hl, fun x hx => hx⟩
    · rw [midO_at _ _ _ _ _ hy, if_neg (fun q => q.2 q.1)]
    · cases hx; exact h.st v hv s hs
  | m + 1, hnd => by
    obtain ⟨i1, i2, i3, i4⟩ := OwP.goes h hv hs hok hu hk hl hus m (fun j a b => hnd j a (by omega))
    have hx : (itP N l s (m + 1)).2.nx ≠ 0 := hnd (m + 1) (by omega) (Nat.le_refl _)
    have hstep := i1.step hv (upS_same st v (some (itP N l s m).2)) i2 (hus m) hk i3
    have e : itP N l s (m + 1) = stpP N (itP N l s m).1 (itP N l s m).2 := rfl
    rw [← e] at hstep
    have hleft : ∀ x, x ∈ leftF (itP N l s (m + 1)).2.gi → x ∈ leftF (itP N l s m).2.gi := fun x q => by rw [e] at q; exact stp_left _ _ _ _ q
    have hc := hstep.c4 (midO own s.gi (itP N l s (m + 1)).2.gi k) (midO_len _ _ _ _) (fun y hy => by
      rw [midO_at _ _ _ _ _ hy, midO_at _ _ _ _ _ hy, if_neg (show ¬ ((itP N l s (m + 1)).2.nx = 0 ∧ _) from fun q => hx q.1)]
      by_cases a : (y : Int) ∈ leftF s.gi
      · by_cases b : (y : Int) ∈ leftF (itP N l s m).2.gi
        · by_cases c : (y : Int) ∈ leftF (itP N l s (m + 1)).2.gi
          · rw [if_neg (fun q => q.2 c), if_neg (fun q => q.2 c), if_neg (fun q => q.2 b)]
          · rw [if_pos ⟨a, c⟩, if_pos ⟨b, c⟩]
        · have c : (y : Int) ∉ leftF (itP N l s (m + 1)).2.gi := fun q => b (hleft _ q)
          rw [if_pos ⟨a, c⟩, if_neg (fun q => b q.1), if_pos ⟨a, b⟩]
      · rw [if_neg (fun q => a q.1), if_neg (fun q => a (i4 _ q.1)), if_neg (fun q => a q.1)])
    rw [if_neg hx, upS_up] at hc
    exact ⟨hc, by rw [e]; exact i2.step (hus m), by rw [e, stp_len', i3], fun x q => i4 x (hleft x q)⟩
/-- whose each number is when it is done -/
theorem OwP.run (h : OwP N k l own st bk) (hv : v < 4) (hs : st v = some s) (hok : OkS N s) (hu : ∀ j, U64 (l.getD j 0)) (hk : k ≤ 32 * N) (hl : l.length = N)
    (hus : ∀ m j, U64 ((itP N l s m).1.getD j 0)) (m : Nat) (hnd : ∀ j, 0 < j → j < m + 1 → (itP N l s j).2.nx ≠ 0) (hx : (itP N l s (m + 1)).2.nx = 0) {own2 : List Int} (hl2 : own2.length = k)
    (he : ∀ y : Nat, y < k → own2.getD y 0 = if (y : Int) ∈ numsF (itP N l s (m + 1)).2.wd (itP N l s (m + 1)).2.tk then (v : Int) + 1 else if (y : Int) ∈ leftF s.gi ∧ (y : Int) ∉ leftF (itP N l s (m + 1)).2.gi then 0 else own.getD y 0) :
    OwP N k (itP N l s (m + 1)).1 own2 (upS st v none) bk ∧ (∀ y : Nat, (y : Int) ∈ numsF (itP N l s (m + 1)).2.wd (itP N l s (m + 1)).2.tk → y < k ∧ (own.getD y 0 = 0 ∨ (y : Int) ∈ leftF s.gi)) := by
  obtain ⟨i1, i2, i3, i4⟩ := h.goes hv hs hok hu hk hl hus m (fun j a b => hnd j a (by omega))
  have hstep := i1.step hv (upS_same st v (some (itP N l s m).2)) i2 (hus m) hk i3
  have e : itP N l s (m + 1) = stpP N (itP N l s m).1 (itP N l s m).2 := rfl
  rw [← e] at hstep
  have hleft : ∀ x, x ∈ leftF (itP N l s (m + 1)).2.gi → x ∈ leftF (itP N l s m).2.gi := fun x q => by rw [e] at q; exact stp_left _ _ _ _ q
  have hc := hstep.c4 own2 hl2 (fun y hy => by
    rw [he y hy, midO_at _ _ _ _ _ hy]
    by_cases t : (y : Int) ∈ numsF (itP N l s (m + 1)).2.wd (itP N l s (m + 1)).2.tk
    · rw [if_pos t, if_pos ⟨hx, t⟩]
    · rw [if_neg t, if_neg (show ¬ ((itP N l s (m + 1)).2.nx = 0 ∧ (y : Int) ∈ numsF (itP N l s (m + 1)).2.wd (itP N l s (m + 1)).2.tk) from fun q => t q.2)]
      by_cases a : (y : Int) ∈ leftF s.gi
      · by_cases b : (y : Int) ∈ leftF (itP N l s m).2.gi
        · by_cases c : (y : Int) ∈ leftF (itP N l s (m + 1)).2.gi
          · rw [if_neg (fun q => q.2 c), if_neg (fun q => q.2 c), if_neg (fun q => q.2 b)]
          · rw [if_pos ⟨a, c⟩, if_pos ⟨b, c⟩]
        · have c : (y : Int) ∉ leftF (itP N l s (m + 1)).2.gi := fun q => b (hleft _ q)
          rw [if_pos ⟨a, c⟩, if_neg (fun q => b q.1), if_pos ⟨a, b⟩]
      · rw [if_neg (fun q => a q.1), if_neg (fun q => a (i4 _ q.1)), if_neg (fun q => a q.1)])
  rw [if_pos hx, upS_up] at hc
  refine ⟨hc, fun y hy => ?_⟩
  obtain ⟨q1, q2, _⟩ := hstep.c2 hx y hy
  refine ⟨q1, ?_⟩
  rw [midO_at _ _ _ _ _ q1] at q2
  by_cases a : (y : Int) ∈ leftF s.gi
  · exact .inr a
  · rw [if_neg (fun q => a q.1)] at q2
    exact .inl q2
end
end Go.Proofs.Ytmbceafeonjffaa

namespace Go.Proofs.Ytmbceafeonjffaa
open Plain
set_option linter.unusedVariables false
set_option linter.unusedSimpArgs false
set_option maxRecDepth 100000
/-- a row that holds each number below k once is k long -/
theorem cover_len (k : Nat) (L : List Int) (hn : L.Nodup) (hr : ∀ x ∈ L, 0 ≤ x ∧ x < (k : Int)) (hc : ∀ y : Nat, y < k → (y : Int) ∈ L) : L.length = k := by
  have hd : ((List.range k).map fun y : Nat => (y : Int)).Nodup := by
    refine List.Pairwise.map _ (R := (· ≠ ·)) (fun a b hab => by omega) ?_
    exact List.nodup_range
  have hp : L.Perm ((List.range k).map fun y : Nat => (y : Int)) := (List.perm_ext_iff_of_nodup hn hd).2 fun x => by
    refine ⟨fun h => ?_, fun h => ?_⟩
    · obtain ⟨a, b⟩ := hr x h
      exact List.mem_map.2 ⟨x.toNat, by simp; omega, by omega⟩
    · obtain ⟨y, hy, rfl⟩ := List.mem_map.1 h
      exact hc y (by simpa using hy)
  have := hp.length_eq
  simpa using this
theorem stp_over (n : Nat) (l : List Int) (s : Ps) (h : s.nx = 4 ∨ s.nx = 5) (hx : (stpP n l s).2.nx = 0) : (stpP n l s).2.gi = [] := by
  have hcl : ∀ t : Ps, t.close.nx = 0 → t.close.gi = [] := fun t q => by
    by_cases e : t.gi.length ≤ 1
    · show t.gi.drop 1 = []
      exact List.drop_eq_nil_of_le e
    · have : (if t.gi.length ≤ 1 then 0 else 4) = 0 := q
      rw [if_neg e] at this
      omega
  rcases h with e | e
  · unfold stpP at hx ⊢
    rw [e] at hx ⊢
    simp only at hx ⊢
    split at hx
    · rename_i q
      rw [if_pos q]
      exact hcl _ hx
    · simp at hx
  · unfold stpP at hx ⊢
    rw [e] at hx ⊢
    simp only at hx ⊢
    split at hx
    · rename_i q
      rw [if_pos q]
      exact hcl _ hx
    · simp at hx
section
variable {N k : Nat} {l own : List Int} {bk : Nat → Bool} {s : Ps}
theorem none_up : upS (fun _ : Nat => (none : Option Ps)) 0 none = fun _ => none := by
  funext u
  unfold upS
  split <;> rfl
/-- a Take alone -/
theorem OwP.takes (h : OwP N k l own (fun _ => none) bk) (hso : StO k own 0 false s) (hok : OkS N s) (hu : ∀ j, U64 (l.getD j 0)) (hk : k ≤ 32 * N) (hl : l.length = N) (hus : ∀ m j, U64 ((itP N l s m).1.getD j 0))
    (m : Nat) (hnd : ∀ j, 0 < j → j < m + 1 → (itP N l s j).2.nx ≠ 0) (hx : (itP N l s (m + 1)).2.nx = 0) {own2 : List Int} (hl2 : own2.length = k)
    (he : ∀ y : Nat, y < k → own2.getD y 0 = if (y : Int) ∈ numsF (itP N l s (m + 1)).2.wd (itP N l s (m + 1)).2.tk then 1 else own.getD y 0) :
    (∃ bk2, OwP N k (itP N l s (m + 1)).1 own2 (fun _ => none) bk2) ∧ (∀ y : Nat, (y : Int) ∈ numsF (itP N l s (m + 1)).2.wd (itP N l s (m + 1)).2.tk → y < k ∧ own.getD y 0 = 0) := by
  have h1 := h.setB (v := 0) rfl false
  have h2 := h1.begin (v := 0) (s := s) (by omega) (by rw [upS_same]; exact hso)
  have hgi : leftF s.gi = [] := by rw [(hso.ta rfl).1, leftF_nil]
  have h3 := h2.run (v := 0) (by omega) (upS_same _ _ _) hok hu hk hl hus m hnd hx (own2 := own2) hl2 (fun y hy => by
    rw [he y hy, hgi]
    by_cases q : (y : Int) ∈ numsF (itP N l s (m + 1)).2.wd (itP N l s (m + 1)).2.tk
    · rw [if_pos q, if_pos q]; rfl
    · rw [if_neg q, if_neg q, if_neg (by simp)])
  rw [upS_up, none_up] at h3
  refine ⟨⟨_, h3.1⟩, fun y hy => ?_⟩
  obtain ⟨a, b⟩ := h3.2 y hy
  refine ⟨a, ?_⟩
  rcases b with b | b
  · exact b
  · rw [hgi] at b; simp at b
/-- a Back alone -/
theorem OwP.backs (h : OwP N k l own (fun _ => none) bk) (hso : StO k own 0 true s) (hn4 : s.nx = 4) (hok : OkS N s) (hu : ∀ j, U64 (l.getD j 0)) (hk : k ≤ 32 * N) (hl : l.length = N) (hus : ∀ m j, U64 ((itP N l s m).1.getD j 0))
    (m : Nat) (hnd : ∀ j, 0 < j → j < m + 1 → (itP N l s j).2.nx ≠ 0) (hx : (itP N l s (m + 1)).2.nx = 0) {own2 : List Int} (hl2 : own2.length = k)
    (he : ∀ y : Nat, y < k → own2.getD y 0 = if (y : Int) ∈ leftF s.gi then 0 else own.getD y 0) :
    (∃ bk2, OwP N k (itP N l s (m + 1)).1 own2 (fun _ => none) bk2) ∧ (itP N l s (m + 1)).2.tk = 0 := by
  have h1 := h.setB (v := 0) rfl true
  have h2 := h1.begin (v := 0) (s := s) (by omega) (by rw [upS_same]; exact hso)
  obtain ⟨g1, g2, g3, _⟩ := h2.goes (v := 0) (by omega) (upS_same _ _ _) hok hu hk hl hus m (fun j a b => hnd j a (by omega))
  have e : itP N l s (m + 1) = stpP N (itP N l s m).1 (itP N l s m).2 := rfl
  have hst := g1.st 0 (by omega) _ (upS_same _ _ _)
  have hb := hst.bk (upS_same _ _ _)
  have h45 : (itP N l s m).2.nx = 4 ∨ (itP N l s m).2.nx = 5 := by
    rcases hb.1 with q | q
    · rcases Nat.eq_zero_or_pos m with z | z
      · subst z; exact .inl hn4
      · exact absurd q (hnd m z (by omega))
    · exact q
  have hgi : leftF (itP N l s (m + 1)).2.gi = [] := by
    rw [e] at hx ⊢
    rw [stp_over _ _ _ h45 hx, leftF_nil]
  have htk : (itP N l s (m + 1)).2.tk = 0 := by
    rw [e]
    have ht := hst.tk
    unfold stpP
    rcases h45 with q | q
    · rw [q]
      simp only
      split
      · exact ht
      · exact ht
    · rw [q]
      simp only
      split
      · exact ht
      · exact ht
  have h3 := h2.run (v := 0) (by omega) (upS_same _ _ _) hok hu hk hl hus m hnd hx (own2 := own2) hl2 (fun y hy => by
    rw [he y hy, hgi, htk, numsF_zero, if_neg (show ¬ (y : Int) ∈ ([] : List Int) by simp)]
    by_cases q : (y : Int) ∈ leftF s.gi
    · rw [if_pos q, if_pos ⟨q, by simp⟩]
    · rw [if_neg q, if_neg (fun z => q z.1)])
  rw [upS_up, none_up] at h3
  exact ⟨⟨_, h3.1⟩, htk⟩
end
end Go.Proofs.Ytmbceafeonjffaa

namespace Go.Proofs.Ytmbceafeonjffaa
open Plain
set_option linter.unusedVariables false
set_option linter.unusedSimpArgs false
set_option maxRecDepth 100000
theorem stp_u64 (n : Nat) (l : List Int) (s : Ps) (hu : ∀ j, U64 (l.getD j 0)) : ∀ j, U64 ((stpP n l s).1.getD j 0) := by
  have ht : ∀ w x, U64 (tookW w x) := fun w x => by unfold U64 tookW; omega
  have hg : ∀ w x, U64 (gaveW w x) := fun w x => by unfold U64 gaveW; omega
  have hs : ∀ i x, U64 x → ∀ j, U64 ((l.set i x).getD j 0) := fun i x hx j => by
    rcases getD_set_or l i j x with e | e <;> rw [e]
    · exact hu j
    · exact hx
  unfold stpP
  split
  · simp only
    split
    · exact hu
    · split <;> exact hu
  · simp only
    split
    · exact hs _ _ (ht _ _)
    · exact hu
  · split
    · exact hu
    · split <;> exact hu
  · simp only
    split <;> exact hu
  · simp only
    split
    · exact hs _ _ (hg _ _)
    · exact hu
  · exact hu
theorem itP_u64 (n : Nat) (l : List Int) (s : Ps) (hu : ∀ j, U64 (l.getD j 0)) : ∀ m j, U64 ((itP n l s m).1.getD j 0)
  | 0 => hu
  | m + 1 => stp_u64 n _ _ (itP_u64 n l s hu m)
/-- whose each number is -/
structure StkP (N k : Nat) (l own : List Int) (Z H : List Int) : Prop where
  ow : ∃ bk, OwP N k l own (fun _ => none) bk
  z : ∀ y : Nat, (y : Int) ∈ Z ↔ y < k ∧ own.getD y 0 = 1
  h : ∀ y : Nat, (y : Int) ∈ H ↔ y < k ∧ own.getD y 0 = 2
  rg : ∀ y, y < k → own.getD y 0 = 0 ∨ own.getD y 0 = 1 ∨ own.getD y 0 = 2
  nz : Z.Nodup
  nh : H.Nodup
  pz : ∀ x ∈ Z, 0 ≤ x
  ph : ∀ x ∈ H, 0 ≤ x
section
variable {N k : Nat} {l own Z H : List Int}
theorem StkP.zr (s : StkP N k l own Z H) {x : Int} (hx : x ∈ Z) : 0 ≤ x ∧ x < k := by
  have h0 := s.pz x hx
  have := (s.z x.toNat).1 (by rwa [Int.toNat_of_nonneg h0])
  omega
theorem StkP.hr (s : StkP N k l own Z H) {x : Int} (hx : x ∈ H) : 0 ≤ x ∧ x < k := by
  have h0 := s.ph x hx
  have := (s.h x.toNat).1 (by rwa [Int.toNat_of_nonneg h0])
  omega
theorem StkP.start (h1 : 1 ≤ k) : StkP (wdsN k) k (newL k) (List.replicate k 0) [] [] :=
  ⟨⟨_, OwP.start h1⟩, fun y => ⟨fun q => (by simp at q), fun q => (by have q2 := q.2; rw [rep0] at q2; omega)⟩, fun y => ⟨fun q => (by simp at q), fun q => (by have q2 := q.2; rw [rep0] at q2; omega)⟩, fun y _ => .inl (by rw [rep0]), List.nodup_nil, List.nodup_nil, by simp, by simp⟩
/-- each number stands at one place -/
theorem StkP.count (s : StkP N k l own Z H) (hu : ∀ j, U64 (l.getD j 0)) (hk : k ≤ 32 * N) : (freeL N l).length + Z.length + H.length = k := by
  obtain ⟨bk, ho⟩ := s.ow
  have e := free_zz ho hu hk
  have hm : ∀ x, x ∈ zz own k ↔ ∃ y : Nat, x = y ∧ y < k ∧ own.getD y 0 = 0 := fun x => by
    unfold zz
    rw [List.mem_map]
    refine ⟨fun ⟨y, hy, q⟩ => ?_, fun ⟨y, q, h1, h2⟩ => ⟨y, ?_, q.symm⟩⟩
    · rw [List.mem_filter] at hy
      exact ⟨y, q.symm, by simpa using hy.1, by simpa using hy.2⟩
    · rw [List.mem_filter]
      exact ⟨by simpa using h1, by simpa using h2⟩
  have hzn : (zz own k).Nodup := by
    unfold zz
    refine List.Pairwise.map _ (R := (· ≠ ·)) (fun a b hab => by omega) ?_
    exact (List.nodup_range).filter _
  have hc := cover_len k (zz own k ++ (Z ++ H)) (by
    refine List.nodup_append.2 ⟨hzn, List.nodup_append.2 ⟨s.nz, s.nh, fun a ha b hb q => ?_⟩, fun a ha b hb q => ?_⟩
    · subst q
      have h0 := s.pz a ha
      have q1 := (s.z a.toNat).1 (by rwa [Int.toNat_of_nonneg h0])
      have q2 := (s.h a.toNat).1 (by rwa [Int.toNat_of_nonneg h0])
      omega
    · subst q
      obtain ⟨y, rfl, y1, y2⟩ := (hm _).1 ha
      rcases List.mem_append.1 hb with q | q
      · have := (s.z y).1 q; omega
      · have := (s.h y).1 q; omega) (fun x hx => by
    rcases List.mem_append.1 hx with q | q
    · obtain ⟨y, rfl, y1, _⟩ := (hm _).1 q
      omega
    · rcases List.mem_append.1 q with q | q
      · exact s.zr q
      · exact s.hr q) (fun y hy => by
    rcases s.rg y hy with q | q | q
    · exact List.mem_append.2 (.inl ((hm _).2 ⟨y, rfl, hy, q⟩))
    · exact List.mem_append.2 (.inr (List.mem_append.2 (.inl ((s.z y).2 ⟨hy, q⟩))))
    · exact List.mem_append.2 (.inr (List.mem_append.2 (.inr ((s.h y).2 ⟨hy, q⟩)))))
  rw [e]
  rw [List.length_append, List.length_append] at hc
  omega
/-- one more, or one less, of a row -/
theorem own_set (own : List Int) (x : Nat) (v : Int) (y : Nat) (hx : x < own.length) : (own.set x v).getD y 0 = if y = x then v else own.getD y 0 := by
  by_cases e : y = x
  · subst e; simp [List.getD, hx]
  · rw [if_neg e]; simp [List.getD, List.getElem?_set_ne (fun q => e q.symm)]
theorem OwP.mark {bk : Nat → Bool} (h : OwP N k l own (fun _ => none) bk) {x : Nat} {v : Int} (hx : own.getD x 0 ≠ 0) (hv : v ≠ 0) : OwP N k l (own.set x v) (fun _ => none) bk := by
  refine ⟨by simp [h.len], fun y hy => ?_, fun _ _ _ q => by cases q⟩
  rw [h.tk y hy]
  by_cases q : x < own.length
  · rw [own_set _ _ _ _ q]
    by_cases e : y = x
    · subst e; rw [if_pos rfl]; exact ⟨fun _ => .inr hv, fun _ => .inr hx⟩
    · rw [if_neg e]
  · rw [List.set_eq_of_length_le (by omega)]
/-- the newest one is handed out -/
theorem StkP.pop {x : Int} (s : StkP N k l own (Z ++ [x]) H) : StkP N k l (own.set x.toNat 2) Z (H ++ [x]) := by
  obtain ⟨bk, ho⟩ := s.ow
  have hx : x ∈ Z ++ [x] := by simp
  obtain ⟨h0, h1⟩ := s.zr hx
  have hq := (s.z x.toNat).1 (by rwa [Int.toNat_of_nonneg h0])
  have hl : x.toNat < own.length := by rw [ho.len]; exact hq.1
  have hnz := List.nodup_append.1 s.nz
  have hxz : x ∉ Z := fun q => hnz.2.2 x q x (by simp) rfl
  have hxh : x ∉ H := fun q => by
    have := (s.h x.toNat).1 (by rwa [Int.toNat_of_nonneg h0]); omega
  refine ⟨⟨bk, ho.mark (by omega) (by omega)⟩, fun y => ?_, fun y => ?_, fun y hy => ?_, hnz.1, ?_, fun z hz => s.pz z (by simp [hz]), fun z hz => ?_⟩
  · rw [own_set _ _ _ _ hl]
    by_cases e : y = x.toNat
    · rw [if_pos e]
      have : (y : Int) = x := by omega
      rw [this]
      exact ⟨fun q => absurd q hxz, fun q => by omega⟩
    · rw [if_neg e, ← s.z y]
      have : (y : Int) ≠ x := by omega
      simp [this]
  · rw [own_set _ _ _ _ hl]
    by_cases e : y = x.toNat
    · rw [if_pos e]
      have : (y : Int) = x := by omega
      rw [this]
      exact ⟨fun _ => ⟨by omega, rfl⟩, fun _ => by simp⟩
    · rw [if_neg e, ← s.h y]
      have : (y : Int) ≠ x := by omega
      simp [this]
  · rw [own_set _ _ _ _ hl]
    by_cases e : y = x.toNat
    · rw [if_pos e]; exact .inr (.inr rfl)
    · rw [if_neg e]; exact s.rg y hy
  · exact List.nodup_append.2 ⟨s.nh, by simp, fun a ha b hb q => by
      have hb' : b = x := by simpa using hb
      subst q; subst hb'; exact hxh ha⟩
  · rcases List.mem_append.1 hz with q | q
    · exact s.ph z q
    · have : z = x := by simpa using q
      omega
/-- one that was handed out comes back -/
theorem StkP.push {x : Int} (s : StkP N k l own Z (H ++ [x])) : StkP N k l (own.set x.toNat 1) (Z ++ [x]) H := by
  obtain ⟨bk, ho⟩ := s.ow
  have hx : x ∈ H ++ [x] := by simp
  obtain ⟨h0, h1⟩ := s.hr hx
  have hq := (s.h x.toNat).1 (by rwa [Int.toNat_of_nonneg h0])
  have hl : x.toNat < own.length := by rw [ho.len]; exact hq.1
  have hnh := List.nodup_append.1 s.nh
  have hxh : x ∉ H := fun q => hnh.2.2 x q x (by simp) rfl
  have hxz : x ∉ Z := fun q => by
    have := (s.z x.toNat).1 (by rwa [Int.toNat_of_nonneg h0]); omega
  refine ⟨⟨bk, ho.mark (by omega) (by omega)⟩, fun y => ?_, fun y => ?_, fun y hy => ?_, ?_, hnh.1, fun z hz => ?_, fun z hz => s.ph z (by simp [hz])⟩
  · rw [own_set _ _ _ _ hl]
    by_cases e : y = x.toNat
    · rw [if_pos e]
      have : (y : Int) = x := by omega
      rw [this]
      exact ⟨fun _ => ⟨by omega, rfl⟩, fun _ => by simp⟩
    · rw [if_neg e, ← s.z y]
      have : (y : Int) ≠ x := by omega
      simp [this]
  · rw [own_set _ _ _ _ hl]
    by_cases e : y = x.toNat
    · rw [if_pos e]
      have : (y : Int) = x := by omega
      rw [this]
      exact ⟨fun q => absurd q hxh, fun q => by omega⟩
    · rw [if_neg e, ← s.h y]
      have : (y : Int) ≠ x := by omega
      simp [this]
  · rw [own_set _ _ _ _ hl]
    by_cases e : y = x.toNat
    · rw [if_pos e]; exact .inr (.inl rfl)
    · rw [if_neg e]; exact s.rg y hy
  · exact List.nodup_append.2 ⟨s.nz, by simp, fun a ha b hb q => by
      have hb' : b = x := by simpa using hb
      subst q; subst hb'; exact hxz ha⟩
  · rcases List.mem_append.1 hz with q | q
    · exact s.pz z q
    · have : z = x := by simpa using q
      omega
/-- numbers are taken: they are the newest, falling -/
theorem StkP.fill {s : Ps} (h : StkP N k l own [] H) (hso : StO k own 0 false s) (hok : OkS N s) (hu : ∀ j, U64 (l.getD j 0)) (hk : k ≤ 32 * N) (hl : l.length = N)
    (m : Nat) (hnd : ∀ j, 0 < j → j < m + 1 → (itP N l s j).2.nx ≠ 0) (hx : (itP N l s (m + 1)).2.nx = 0) :
    ∃ own2, StkP N k (itP N l s (m + 1)).1 own2 (gotF (itP N l s (m + 1)).2) H := by
  obtain ⟨bk, ho⟩ := h.ow
  obtain ⟨h1, h2⟩ := ho.takes hso hok hu hk hl (itP_u64 N l s hu) m hnd hx (own2 := (List.range k).map fun y : Nat => if (y : Int) ∈ numsF (itP N l s (m + 1)).2.wd (itP N l s (m + 1)).2.tk then 1 else own.getD y 0) (by simp) (fun y hy => by simp [List.getD, hy])
  have hg : gotF (itP N l s (m + 1)).2 = (numsF (itP N l s (m + 1)).2.wd (itP N l s (m + 1)).2.tk).reverse := by
    unfold gotF
    split
    · rename_i q; rw [q, numsF_zero]; rfl
    · rfl
  rw [hg]
  have hd := numsF_nodup (itP N l s (m + 1)).2.wd (itP N l s (m + 1)).2.tk
  have hp : ∀ x ∈ numsF (itP N l s (m + 1)).2.wd (itP N l s (m + 1)).2.tk, 0 ≤ x := fun x q => by
    obtain ⟨y, rfl, _⟩ := (mem_numsF _ _ _).1 q
    omega
  generalize numsF (itP N l s (m + 1)).2.wd (itP N l s (m + 1)).2.tk = G at *
  have hat : ∀ y, y < k → ((List.range k).map fun y : Nat => if (y : Int) ∈ G then 1 else own.getD y 0).getD y 0 = if (y : Int) ∈ G then 1 else own.getD y 0 := fun y hy => by simp [List.getD, hy]
  have hz1 : ∀ y : Nat, y < k → own.getD y 0 ≠ 1 := fun y hy q => by
    have := (h.z y).2 ⟨hy, q⟩
    simp at this
  refine ⟨_, h1, fun y => ?_, fun y => ?_, fun y hy => ?_, (hd.perm (List.reverse_perm _).symm), h.nh, fun x q => hp x (List.mem_reverse.1 q), h.ph⟩
  · rw [List.mem_reverse]
    constructor
    · intro q
      have hy := (h2 y q).1
      exact ⟨hy, by rw [hat y hy, if_pos q]⟩
    · rintro ⟨hy, q⟩
      rw [hat y hy] at q
      by_cases g : (y : Int) ∈ G
      · exact g
      · rw [if_neg g] at q; exact absurd q (hz1 y hy)
  · rw [h.h y]
    constructor
    · rintro ⟨hy, q⟩
      refine ⟨hy, ?_⟩
      rw [hat y hy, if_neg (fun g => by have := (h2 y g).2; omega)]
      exact q
    · rintro ⟨hy, q⟩
      refine ⟨hy, ?_⟩
      rw [hat y hy] at q
      by_cases g : (y : Int) ∈ G
      · rw [if_pos g] at q; omega
      · rwa [if_neg g] at q
  · rw [hat y hy]
    by_cases g : (y : Int) ∈ G
    · rw [if_pos g]; exact .inr (.inl rfl)
    · rw [if_neg g]; exact h.rg y hy
/-- the oldest ones go back -/
theorem StkP.back {X : List Int} (h : StkP N k l own (X ++ Z) H) (hX : 0 < X.length) (h1 : 1 ≤ N) (hN : N ≤ 32) (hu : ∀ j, U64 (l.getD j 0)) (hk : k ≤ 32 * N) (hl : l.length = N)
    (m : Nat) (hnd : ∀ j, 0 < j → j < m + 1 → (itP N l (backP (giftsF (k : Int) X)) j).2.nx ≠ 0) (hx : (itP N l (backP (giftsF (k : Int) X)) (m + 1)).2.nx = 0) :
    (itP N l (backP (giftsF (k : Int) X)) (m + 1)).2.tk = 0 ∧ ∃ own2, StkP N k (itP N l (backP (giftsF (k : Int) X)) (m + 1)).1 own2 Z H := by
  obtain ⟨bk, ho⟩ := h.ow
  have hk' : (k : Int) ≤ 32 * (N : Int) := by omega
  have hin : ∀ y : Nat, (y : Int) ∈ leftF (giftsF (k : Int) X) ↔ (y : Int) ∈ X := fun y => by
    rw [mem_left, inG_gifts hN hk' X y]
    exact ⟨fun q => q.1, fun q => ⟨q, (h.zr (List.mem_append.2 (.inl q))).2⟩⟩
  have hso : StO k own 0 true (backP (giftsF (k : Int) X)) := StO.back hN hk' (fun y hy hy2 => by
    have := (h.z y).1 (List.mem_append.2 (.inl hy))
    simpa using this.2)
  have hne : (giftsF (k : Int) X).length ≠ 0 := fun q => by
    have e : giftsF (k : Int) X = [] := List.length_eq_zero_iff.1 q
    obtain ⟨x, X', rfl⟩ : ∃ x X', X = x :: X' := by
      cases X with
      | nil => simp at hX
      | cons x X' => exact ⟨x, X', rfl⟩
    have hx0 := (h.zr (x := x) (by simp)).1
    have := (hin x.toNat).2 (by rw [Int.toNat_of_nonneg hx0]; simp)
    rw [e, leftF_nil] at this
    simp at this
  have hn4 : (backP (giftsF (k : Int) X)).nx = 4 := by
    show (if (giftsF (k : Int) X).length = 0 then 0 else 4) = 4
    rw [if_neg hne]
  have hok : OkS N (backP (giftsF (k : Int) X)) := backP_ok h1 (gifts_ok hN hk' X)
  obtain ⟨h3, h4⟩ := ho.backs hso hn4 hok hu hk hl (itP_u64 N l _ hu) m hnd hx (own2 := (List.range k).map fun y : Nat => if (y : Int) ∈ X then 0 else own.getD y 0) (by simp) (fun y hy => by
    show _ = if (y : Int) ∈ leftF (giftsF (k : Int) X) then 0 else own.getD y 0
    by_cases g : (y : Int) ∈ X
    · rw [if_pos ((hin y).2 g)]; simp [List.getD, hy, g]
    · rw [if_neg (fun q => g ((hin y).1 q))]; simp [List.getD, hy, g])
  have hat : ∀ y, y < k → ((List.range k).map fun y : Nat => if (y : Int) ∈ X then 0 else own.getD y 0).getD y 0 = if (y : Int) ∈ X then 0 else own.getD y 0 := fun y hy => by simp [List.getD, hy]
  have hnz := List.nodup_append.1 h.nz
  refine ⟨h4, _, h3, fun y => ?_, fun y => ?_, fun y hy => ?_, hnz.2.1, h.nh, fun x q => h.pz x (by simp [q]), h.ph⟩
  · constructor
    · intro q
      obtain ⟨hy, e⟩ := (h.z y).1 (List.mem_append.2 (.inr q))
      exact ⟨hy, by rw [hat y hy, if_neg (fun g => hnz.2.2 _ g _ q rfl)]; exact e⟩
    · rintro ⟨hy, q⟩
      rw [hat y hy] at q
      by_cases g : (y : Int) ∈ X
      · rw [if_pos g] at q; omega
      · rw [if_neg g] at q
        rcases List.mem_append.1 ((h.z y).2 ⟨hy, q⟩) with z | z
        · exact absurd z g
        · exact z
  · rw [h.h y]
    constructor
    · rintro ⟨hy, q⟩
      refine ⟨hy, ?_⟩
      rw [hat y hy, if_neg (fun g => by have := (h.z y).1 (List.mem_append.2 (.inl g)); omega)]
      exact q
    · rintro ⟨hy, q⟩
      refine ⟨hy, ?_⟩
      rw [hat y hy] at q
      by_cases g : (y : Int) ∈ X
      · rw [if_pos g] at q; omega
      · rwa [if_neg g] at q
  · rw [hat y hy]
    by_cases g : (y : Int) ∈ X
    · rw [if_pos g]; exact .inl rfl
    · rw [if_neg g]; exact h.rg y hy
end
end Go.Proofs.Ytmbceafeonjffaa

namespace Go.Proofs.Ytmbceafeonjffaa
open Go.RowKit Go.Deep Plain
set_option linter.unusedVariables false
set_option linter.unusedSimpArgs false
set_option maxRecDepth 100000
/-- only the lowest bit goes -/
theorem one_less (x i j : Nat) (hx : x < 4294967296) (hij : i < j) (hi : x.testBit i = true) (hj : x.testBit j = true) : (x &&& ((x + 4294967295) % 4294967296)).testBit j = true := by
  have h0 : x % 2 ^ j ≠ 0 := fun e => by
    have : (x % 2 ^ j).testBit i = true := by rw [Nat.testBit_mod_two_pow]; simp [hij, hi]
    rw [e] at this
    simp at this
  have hx0 : x ≠ 0 := fun e => by subst e; simp at h0
  have e1 : (x + 4294967295) % 4294967296 = x - 1 := by omega
  rw [Nat.testBit_and, hj, e1, Bool.true_and]
  have hp : 0 < 2 ^ j := Nat.two_pow_pos j
  have e2 : (x - 1) / 2 ^ j = x / 2 ^ j := by
    have h1 := Nat.div_add_mod x (2 ^ j)
    have h2 := Nat.mod_lt x hp
    generalize x / 2 ^ j = q at *
    generalize x % 2 ^ j = r at *
    generalize 2 ^ j = p at *
    have : x - 1 = p * q + (r - 1) := by omega
    rw [this, Nat.mul_add_div hp, Nat.div_eq_of_lt (by omega)]
    rfl
  rw [Nat.testBit_eq_decide_div_mod_eq] at hj ⊢
  rw [e2]
  exact hj
theorem len_same (p : Nat → Bool) : ∀ L : List Nat, L.Nodup → (∀ a ∈ L, ∀ b ∈ L, p a = true → p b = true → a = b) → (L.filter p).length ≤ 1
  | [], _, _ => by simp
  | x :: L, hn, h => by
    rw [List.nodup_cons] at hn
    by_cases hp : p x = true
    · have : L.filter p = [] := by
        rw [List.filter_eq_nil_iff]
        intro a ha q
        have := h x (by simp) a (by simp [ha]) hp q
        subst this
        exact hn.1 ha
      rw [List.filter_cons_of_pos hp, this]
      simp
    · rw [List.filter_cons_of_neg hp]
      exact len_same p L hn.2 (fun a ha b hb => h a (by simp [ha]) b (by simp [hb]))
theorem len_two (p q r : Nat → Bool) : ∀ L : List Nat, (∀ a ∈ L, p a = true → q a = true ∨ r a = true) → (L.filter p).length ≤ (L.filter q).length + (L.filter r).length
  | [], _ => by simp
  | x :: L, h => by
    have ih := len_two p q r L (fun a ha => h a (by simp [ha]))
    have hx := h x (by simp)
    cases e1 : p x <;> cases e2 : q x <;> cases e3 : r x <;> simp [e1, e2, e3] at hx ⊢ <;> omega
theorem low_len (s : Nat) (hs : s < 4294967296) : ∀ m, ((List.range 32).filter fun j => s.testBit j && !(restN s m).testBit j).length ≤ m
  | 0 => by
    have : ((List.range 32).filter fun j => s.testBit j && !(restN s 0).testBit j) = [] := by
      rw [List.filter_eq_nil_iff]
      intro a _ q
      have : restN s 0 = s := rfl
      rw [this] at q
      cases h : s.testBit a <;> simp [h] at q
    rw [this]; simp
  | m + 1 => by
    have ih := low_len s hs m
    have h1 := len_two (fun j => s.testBit j && !(restN s (m + 1)).testBit j) (fun j => s.testBit j && !(restN s m).testBit j) (fun j => (restN s m).testBit j && !(restN s (m + 1)).testBit j) (List.range 32) (fun a _ q => by
      cases e1 : s.testBit a <;> cases e2 : (restN s m).testBit a <;> cases e3 : (restN s (m + 1)).testBit a <;> simp [e1, e2, e3] at q ⊢)
    have h2 := len_same (fun j => (restN s m).testBit j && !(restN s (m + 1)).testBit j) (List.range 32) List.nodup_range (fun a _ b _ pa pb => by
      rw [Bool.and_eq_true] at pa pb
      rcases Nat.lt_trichotomy a b with q | q | q
      · have := one_less _ a b (restN_lt s hs m) q pa.1 pb.1
        have e : restN s (m + 1) = restN s m &&& ((restN s m + 4294967295) % 4294967296) := rfl
        rw [← e] at this
        rw [this] at pb
        simp at pb
      · exact q
      · have := one_less _ b a (restN_lt s hs m) q pb.1 pa.1
        have e : restN s (m + 1) = restN s m &&& ((restN s m + 4294967295) % 4294967296) := rfl
        rw [← e] at this
        rw [this] at pa
        simp at pa)
    omega
theorem low_few (k : Nat) (s : Int) (m : Nat) (h0 : 0 ≤ s) (h1 : s < 4294967296) : (numsF k (lowF s m)).length ≤ m := by
  refine Nat.le_trans ?_ (low_len s.toNat (by omega) m)
  unfold numsF numsI
  rw [List.length_map]
  refine Nat.le_of_eq (congrArg List.length (List.filter_congr fun a ha => ?_))
  have ha' : a < 32 := by simpa using ha
  unfold lowF
  have hr := restN_lt s.toNat (by omega) m
  rw [Int.toNat_natCast, Nat.testBit_and]
  congr 1
  have : 4294967295 - restN s.toNat m = 2 ^ 32 - (restN s.toNat m + 1) := by omega
  rw [this, Nat.testBit_two_pow_sub_succ hr]
  simp [ha']
/-- a Take takes no more than it wants -/
def MoP (m : Nat) (s : Ps) : Prop := s.mo = m ∧ ∀ k, (numsF k s.tk).length ≤ m
theorem MoP.step {m n : Nat} {l : List Int} {s : Ps} (h : MoP m s) : MoP m (stpP n l s).2 := by
  unfold stpP
  split
  · simp only
    split
    · exact h
    · split <;> exact h
  · simp only
    split
    · refine ⟨h.1, fun k => ?_⟩
      rw [h.1]
      have hf := freeF_rng (s.rd.getD s.wd 0)
      exact low_few k _ m hf.1 (by omega)
    · exact h
  · split
    · exact h
    · split <;> exact h
  · simp only
    split <;> exact h
  · simp only
    split
    · exact h
    · exact h
  · exact h
theorem MoP.many {m n : Nat} {l : List Int} {s : Ps} (h : MoP m s) : ∀ q, MoP m (itP n l s q).2
  | 0 => h
  | q + 1 => (h.many q).step
theorem MoP.got {m : Nat} {s : Ps} (h : MoP m s) : (gotF s).length ≤ m := by
  unfold gotF
  split
  · simp
  · rw [List.length_reverse]; exact h.2 _
end Go.Proofs.Ytmbceafeonjffaa
